/- The document's parser: about: contracts, by steps. · The document's parser: ahead: contracts, by steps. · All the parser's functions at once: what they promise at any number of steps. -/
import Derived.Test.YtdhkcdehedbpcaaDoorM22
import Derived.Test.YtdhkcdehedbpcaaDoorM13
import Derived.Test.YtdhkcdehedbpcaaDoorM20
import Derived.Test.YtdhkcdehedbpcaaDoorM14
import Derived.Test.YtdhkcdehedbpcaaDoorM15
import Derived.Test.YtdhkcdehedbpcaaDoorM21
import Derived.Test.YtdhkcdehedbpcaaDoorM23
import Derived.Test.YtdhkcdehedbpcaaDoorM24
set_option linter.unusedSimpArgs false
set_option linter.unusedVariables false
namespace Go.Proofs.YtdhkcdehedbpcaaDoor
open Go Go.RowKit

section
variable {w w' : World} {r f : Nat} {T : List ATok} {o : Int} {s s' : DS} {l : List ANode} {k : Int}

set_option maxRecDepth 100000 in
set_option maxHeartbeats 8000000 in
theorem about_step (hc : ∀ g, g ≤ f → Con T r g) (n : ANode) (h : dR T (f + 1) (.about n) o s = some (l, k, s')) (hr : RdM w r T o s) : Calls Tryd.prog 97 #[.pointer (some ⟨r, 0, none⟩), nodeV n] w (DG w r T o l s') := by
 have hf := hc f (Nat.le_refl _)
 unfold dR at h
 rcases ite_some h with ⟨y, h⟩ | ⟨y0, h⟩
 ·obtain ⟨rfl, rfl, hlen⟩ := rete3 h
  exact about_true n  y hr
 have i0 : dIs T s ⟨#[116, 114, 117, 101]⟩ = false := by simpa using y0
 clear y0
 rcases ite_some h with ⟨y, h⟩ | ⟨y1, h⟩
 ·obtain ⟨rfl, rfl, hlen⟩ := rete3 h
  exact about_false n i0 y hr
 have i1 : dIs T s ⟨#[102, 97, 108, 115, 101]⟩ = false := by simpa using y1
 clear y1
 rcases ite_some h with ⟨y, h⟩ | ⟨y2, h⟩
 ·obtain ⟨rfl, rfl, hlen⟩ := rete3 h
  exact about_nil n i0 i1 y hr
 have i2 : dIs T s ⟨#[110, 105, 108]⟩ = false := by simpa using y2
 clear y2
 rcases ite_some h with ⟨y, h⟩ | ⟨y3, h⟩
 ·exact about_fn n i0 i1 i2 y (fun w1 hw => hf.func (31, n.2) h hw) hr
 have i3 : dIs T s ⟨#[102, 110]⟩ = false := by simpa using y3
 clear y3
 rcases ite_some h with ⟨y, h⟩ | ⟨y4, h⟩
 ·obtain ⟨⟨l1, k1, s1⟩, h1, h2⟩ := bnd h
  obtain ⟨rfl, rfl, hlen⟩ := rete3 h2
  exact about_par n i0 i1 i2 i3 y (fun w1 hw => hf.expr 0 h1 hw) (fun e => (hr.o (((fs_enter (T := T) o s ⟨#[40]⟩).2 ((dR_goes _ _ _ _ _ _ _ h1).fw.2 ((fs_want (T := T) s1 ⟨#[41]⟩).fw.2 e))).1)).1) hr
 have i4 : dIs T s ⟨#[40]⟩ = false := by simpa using y4
 clear y4
 rcases ite_some h with ⟨y, h⟩ | ⟨y5, h⟩
 ·exact about_row n i0 i1 i2 i3 i4 y (fun w1 hw => hf.several n false h hw) hr
 have i5 : dIs T s ⟨#[91]⟩ = false := by simpa using y5
 clear y5
 rcases ite_some h with ⟨y, h⟩ | ⟨y6, h⟩
 ·exact about_rec n i0 i1 i2 i3 i4 i5 y (fun w1 hw => hf.several n true h hw) hr
 have i6 : dIs T s ⟨#[123]⟩ = false := by simpa using y6
 clear y6
 rcases ite_some h with ⟨y, h⟩ | ⟨y7, h⟩
 ·rcases ite_some h with ⟨e, h⟩ | ⟨e, h⟩
  ·obtain ⟨rfl, rfl, hlen⟩ := rete3 h
   exact about_spA n i0 i1 i2 i3 i4 i5 i6 y e hr
  have e0 : (dEnter T o s ⟨#[115, 112, 97, 119, 110]⟩).e = 0 := by simpa using e
  have ho := (hr.o ((fs_enter (T := T) o s ⟨#[115, 112, 97, 119, 110]⟩).2 e0).1).1
  obtain ⟨⟨x, k1, s1⟩, h1, h2⟩ := bnd h
  have HV := fun w1 (hw : RdM w1 r T (o + 1) (dEnter T o s ⟨#[115, 112, 97, 119, 110]⟩)) => hf.thing h1 hw
  have hne := fun e => (dR_goes _ _ _ _ _ _ _ h1).ne rfl e
  simp only at h2
  by_cases hs : s1.e = 0
  ·by_cases hk : dKd0 x = 28
   ·rw [if_neg (show ¬ (s1.e = 0 ∧ dKd0 x ≠ 28) from fun a => a.2 hk)] at h2
    rcases ite_some h2 with ⟨e2, h2⟩ | ⟨e2, h2⟩
    ·exact absurd hs e2
    obtain ⟨rfl, rfl, hlen⟩ := rete3 h2
    cases x with
    | nil => exact absurd rfl (hne hs)
    | cons m t =>
     obtain ⟨v0, v1, v2, v3, v4⟩ := m
     have v0e : v0 = 28 := hk
     subst v0e
     exact about_spD n i0 i1 i2 i3 i4 i5 i6 y e0 HV ho hs (show t.length < 1000000 from hlen) hr
   ·rw [if_pos (show s1.e = 0 ∧ dKd0 x ≠ 28 from ⟨hs, hk⟩)] at h2
    have e2 : (dBad T s1 6).e ≠ 0 := by unfold dBad; rw [if_pos hs]; exact (by decide : (6 : Int) ≠ 0)
    rw [if_pos e2] at h2
    obtain ⟨rfl, rfl, hlen⟩ := rete3 h2
    exact about_spC n i0 i1 i2 i3 i4 i5 i6 y e0 HV ho hs (hne hs) hk hr
  ·rw [if_neg (show ¬ (s1.e = 0 ∧ dKd0 x ≠ 28) from fun a => hs a.1), if_pos hs] at h2
   obtain ⟨rfl, rfl, hlen⟩ := rete3 h2
   exact about_spB n i0 i1 i2 i3 i4 i5 i6 y e0 HV ho hs hr
 have i7 : dIs T s ⟨#[115, 112, 97, 119, 110]⟩ = false := by simpa using y7
 obtain ⟨rfl, rfl, hlen⟩ := rete3 h
 exact about_bad n i0 i1 i2 i3 i4 i5 i6 i7 hr

end

end Go.Proofs.YtdhkcdehedbpcaaDoor

namespace Go.Proofs.YtdhkcdehedbpcaaDoor
open Go Go.RowKit

section
variable {w w' : World} {r f : Nat} {T : List ATok} {o : Int} {s s' : DS} {l : List ANode} {k : Int}

set_option maxRecDepth 100000 in
set_option maxHeartbeats 8000000 in
theorem ahead_step (hc : ∀ g, g ≤ f → Con T r g) (t : ByteArray) (kd lev : Int) (h : dR T (f + 1) (.ahead t kd lev) o s = some (l, k, s')) (hr : RdM w r T o s) : Calls Tryd.prog 70 #[.pointer (some ⟨r, 0, none⟩), .string t, .int .i64 kd, .int .i64 lev] w (DG w r T o l s') := by
 unfold dR at h
 obtain ⟨⟨l1, k1, s1⟩, h1, h2⟩ := bnd h
 obtain ⟨rfl, rfl, hlen⟩ := rete3 h2
 simp only at h2 hlen ⊢
 have HR := hid hr
 have hrl := hr.lt
 have HO := hid (fun (e : s'.e = 0) => (hr.o (((fs_enter (T := T) o s t).2 ((dR_goes _ _ _ _ _ _ _ h1).fw.2 e)).1)).1)
 have HX := hid (fun w1 (hw : RdM w1 r T (o + 1) (dEnter T o s t)) => (hc f (Nat.le_refl _)).expr lev h1 hw)
 have HLJ := hid hlen
 have HAT := hid (fun w1 (hw : Bw w w1) => dat_any (hr.bw hw))
 have HEN := hid (fun w1 (hw : RdM w1 r T o s) => denter_any t hw)
 unfold DG at HX ⊢
 generalize dAt T s = p0 at HAT HLJ ⊢
 generalize dEnter T o s t = A at HX HEN
 clear h1 h2 h hc hr hlen
 go_enter Tryd.func70, Tryd.ntmps70
 go_wp2_with (first
  | (go_at_call 41; (fail_if_success (have _g := B1)); refine (HAT.out _ (Bw.refl _)).mono ?_; rintro e w1 ⟨rfl, hb1⟩; have B1 := hid hb1; have R1 := hid (HR.out.bw hb1); clear hb1)
  | (go_at_call 68; refine (HEN.out _ (R1.out.bw bq)).mono ?_; rintro e w2 ⟨rfl, hr2, hk2⟩; have R2 := hid hr2; have K2 := hid (show Kp r w w2 from Kp.trans (Kp.of_bw (B1.out.trans bq)) hk2); have P2 := hid (show Blk w2 w1.heap.size #[.int .i64 (kd), .int .i64 0, .string ⟨#[]⟩, .int .i64 0, .int .i64 p0] 43 from (Blk.new w1 _ _).kp hk2 (kp_ge hrl B1.out (Nat.le_refl _))); clear hr2 hk2)
  | (go_at_call 49; refine (HX.out _ (R2.out.bw bq)).mono ?_; rintro e w3 ⟨a3, c3, rfl, hn3, hr3, hk3, hl3⟩; have N3 := hid (hn3.low (b' := w1.heap.size + 1) (Nat.le_trans P2.out.lt (by first | (simp; done) | (simp; omega) | exact Nat.le_refl _))); have K3 := hid (show Kp r w w3 from K2.out.trans (Kp.trans (Kp.of_bw bq) hk3)); have P3 := hid (P2.out.kp (Kp.trans (Kp.of_bw bq) hk3) (kp_ge hrl B1.out (Nat.le_refl _))); have L3 := hid hl3; (obtain ⟨q6, u0, u1, u2, HQ6⟩ := RdM.off hr3 HO.out); have H6 := hid HQ6; have u3 := P3.out.cell; have u4 := P3.out.lt; have u5 := kp_ge hrl B1.out (Nat.le_refl _); clear hn3 hr3 hk3 hl3 HQ6)
  | (go_at_call 22; refine (djoin_any (kd, 0, [], 0, p0) 1 _ l1 (N3.out.kp ((Kp.refl r w3).set 2 _) (by have := B1.out.size; omega)).sl (by have := L3.out; omega)).mono ?_; rintro e w8 ⟨a8, c8, rfl, hn8, hb8⟩; have N8 := hid hn8; have B8 := hid hb8; clear hn8 hb8)
  | fail)
 all_goals go_ret
 all_goals exact ⟨_, _, rfl, N8.out.low (by have h1 := K3.out.size; simp only [World.size_setCell]; omega), H6.out.bw B8.out, ((K3.out.set 2 _).bw B8.out), HLJ.out⟩

end

end Go.Proofs.YtdhkcdehedbpcaaDoor

namespace Go.Proofs.YtdhkcdehedbpcaaDoor
open Go Go.RowKit

theorem dR_zero {T : List ATok} {q : Dq} {o : Int} {s : DS} {x : List ANode × Int × DS} (h : dR T 0 q o s = some x) : False := by
 unfold dR at h
 cases h

theorem con_zero (T : List ATok) (r : Nat) : Con T r 0 :=
 ⟨fun h _ => (dR_zero h).elim, fun _ h _ => (dR_zero h).elim, fun h _ => (dR_zero h).elim, fun h _ => (dR_zero h).elim, fun h _ => (dR_zero h).elim, fun _ _ _ h _ => (dR_zero h).elim, fun _ h _ => (dR_zero h).elim, fun h _ => (dR_zero h).elim, fun h _ => (dR_zero h).elim, fun h _ => (dR_zero h).elim, fun _ h _ => (dR_zero h).elim, fun _ _ h _ => (dR_zero h).elim⟩

theorem con_le (T : List ATok) (r : Nat) : ∀ (f g : Nat), g ≤ f → Con T r g
 | 0, g, hg => by
  obtain rfl : g = 0 := by omega
  exact con_zero T r
 | f + 1, g, hg => by
  by_cases h : g ≤ f
  ·exact con_le T r f g h
  ·obtain rfl : g = f + 1 := by omega
   have hc := con_le T r f
   exact ⟨fun h hr => block_step hc h hr, fun n h hr => func_step hc n h hr, fun h hr => choice_step hc h hr, fun h hr => stmt_step hc h hr, fun h hr => plain_step hc h hr, fun t k lev h hr => ahead_step hc t k lev h hr, fun lev h hr => expr_step hc lev h hr, fun h hr => thing_step hc h hr, fun h hr => args_step hc h hr, fun h hr => prim_step hc h hr, fun n h hr => about_step hc n h hr, fun n rc h hr => several_step hc n rc h hr⟩

theorem con_any (T : List ATok) (r f : Nat) : Con T r f := con_le T r f f (Nat.le_refl _)

end Go.Proofs.YtdhkcdehedbpcaaDoor

