/- The document's block: the contract, by steps. · The document's parser: primary: contracts, by steps. -/
import Derived.Test.YtdhkcdehedbpcaaDoorM9
set_option linter.unusedSimpArgs false
set_option linter.unusedVariables false
namespace Go.Proofs.YtdhkcdehedbpcaaDoor
open Go Go.RowKit

theorem Blk.kp {w w' : World} {r g : Nat} {cur : Array Value} {e : TypeId} (h : Blk w g cur e) (k : Kp r w w') (hne : g ≠ r) : Blk w' g cur e := h.keep (k.block g h.lt hne)
theorem kp_ge {r g : Nat} {w w1 : World} (hr : r < w.heap.size) (hb : Bw w w1) (hg : w1.heap.size ≤ g) : g ≠ r := by have := hb.size; omega

theorem Blk.grownB {w w' : World} {g base size n : Nat} {cur : Array Value} {e e' : TypeId} {v : Value} {xs : List Value} (h : Blk w g cur e) (ho : w.ownsRow base e' size v n xs) (hg : w.grownBy w' v.ownBlock) (hb : g < base) : Blk w' g cur e :=
 h.keep (hg.block g h.lt (fun k => by have := (ho.lt g k.symm).1; omega))
theorem RdM.grown {w w' : World} {r base n : Nat} {T : List ATok} {o : Int} {s : DS} {v : Value} {xs : List Value} (h : RdM w r T o s) (ho : w.ownsRow base 43 5 v n xs) (hg : w.grownBy w' v.ownBlock) : RdM w' r T o s := by
 obtain ⟨vt, q, h1, ⟨g, c, cur, e, h4, h5, h6, h7⟩, h3⟩ := h.b
 exact ⟨⟨vt, q, h1.grownOwn ho (by decide) hg, ⟨g, c, cur, e, h4, h5.grownOwn ho (by decide) hg, h6, h7⟩, h3⟩, h.i, h.o, h.n⟩
theorem Kp.own {r base n : Nat} {a b c : World} {v : Value} {xs : List Value} {e : TypeId} {sz : Nat} (h : Kp r a b) (ho : b.ownsRow base e sz v n xs) (hg : b.grownBy c v.ownBlock) (hb : a.heap.size ≤ base) : Kp r a c :=
 h.grown hg (fun k hk => Nat.le_trans hb (ho.lt k hk).1)
def oOff (q : Int) : Int := IntKind.i64.wrap (q - 1)

section
variable {w w' : World} {r f : Nat} {T : List ATok} {o : Int} {s s' : DS} {l : List ANode} {k : Int}

set_option maxRecDepth 100000 in
set_option maxHeartbeats 8000000 in
theorem block_step (hc : ∀ g, g ≤ f → Con T r g) (h : dR T (f + 1) .block o s = some (l, k, s')) (hr : RdM w r T o s) : Calls Tryd.prog 43 #[.pointer (some ⟨r, 0, none⟩)] w (DG w r T o l s') := by
 unfold dR at h
 obtain ⟨⟨l1, k1, s1⟩, h1, h2⟩ := bnd h
 obtain ⟨rfl, rfl, hlen⟩ := rete3 h2
 simp only at h2 hlen ⊢
 have HC := hid hc
 have HR := hid hr
 have hrl := hr.lt
 have HO := hid (fun (e : s1.e = 0) => (hr.o (((fs_enter (T := T) o s ⟨#[123]⟩).2 ((dR_goes _ _ _ _ _ _ _ h1).fw.2 e)).1)).1)
 have HL := hid h1
 have HLEN := hid (show l1.length ≤ 1000000 by have e : (dJoin (2, 0, [], 0, dAt T s) k1 l1).length = l1.length + 1 := rfl; omega)
 have HLJ := hid hlen
 obtain ⟨i1, hi1, hz1, hs1, hy1⟩ := info_parts infoN8
 have I1 := hid (And.intro hi1 (And.intro hz1 (And.intro hs1 hy1)))
 have HAT := hid (fun w1 (hw : Bw w w1) => dat_any (hr.bw hw))
 have HEN := hid (fun w1 (hw : RdM w1 r T o s) => denter_any ⟨#[123]⟩ hw)
 unfold DG
 generalize dAt T s = p0 at HAT HLJ ⊢
 generalize dEnter T o s ⟨#[123]⟩ = A at HL HEN
 clear h1 h2 h hc hr hlen hi1 hz1 hs1 hy1
 go_enter Tryd.func43, Tryd.ntmps43
 go_wp2_with (first
  | (go_at_call 41; refine (HAT.out _ (Bw.refl _)).mono ?_; rintro e w1 ⟨rfl, hb1⟩; have B1 := hid hb1; have R1 := hid (HR.out.bw hb1); clear hb1)
  | (go_at_call 68; refine (HEN.out _ (R1.out.bw bq)).mono ?_; rintro e w2 ⟨rfl, hr2, hk2⟩; have R2 := hid hr2; have K2 := hid (show Kp r w w2 from Kp.trans (Kp.of_bw (B1.out.trans bq)) hk2); have P2 := hid (show Blk w2 w1.heap.size #[.int .i64 2, .int .i64 0, .string ⟨#[]⟩, .int .i64 0, .int .i64 p0] 43 from (Blk.new w1 _ _).kp hk2 (kp_ge hrl B1.out (Nat.le_refl _))); clear hr2 hk2)
  | fail)
 go_loopw [4, 5] (fun v4 v5 wr => ∃ (f' : Nat) (l0 : List ANode) (k0 : Int) (s0 : DS), f' ≤ f ∧ dR T f' (.blockL l0 k0) (o + 1) s0 = some (l1, k1, s1) ∧ (∃ a c, v4 = .slice a l0.length c) ∧ Nd wr (w1.heap.size + 1) v4 l0 ∧ v5 = .int .i64 k0 ∧ RdM wr r T (o + 1) s0 ∧ Kp r w wr ∧ Blk wr w1.heap.size #[.int .i64 2, .int .i64 0, .string ⟨#[]⟩, .int .i64 0, .int .i64 p0] 43) (fun _ _ wr => rdL T.length wr r)
 case atStart => exact ⟨f, [], 0, A, Nat.le_refl _, HL.out, ⟨none, 0, rfl⟩, Nd.nil _ _, rfl, R2.out, K2.out, P2.out⟩
 case round =>
  obtain ⟨f', l0, k0, s0, hf, hd, ⟨a4, c4, rfl⟩, hn, rfl, hrd, hkp, hbk⟩ := hrel
  have R3 := hid hrd
  have N3 := hid hn
  have K3 := hid hkp
  have P3 := hid hbk
  have HI := hid (dis_any ⟨#[125]⟩ hrd)
  obtain ⟨g, c, q, x⟩ := hrd.x
  have z3 : wr.cell? ⟨r, 3, none⟩ = some (.int .i64 s0.e) := x.b.cell 3
  have zl : r < wr.heap.size := x.b.lt
  obtain ⟨f2, rfl, hl0, hk0, hk1, hcase⟩ := blockL_inv hd
  clear x hn hkp hbk hrd hd
  rcases hcase with ⟨he, hi, l2, k2, s2, hst, hnx⟩ | ⟨hno, hx⟩
  ·have e1 : (s0.e == 0) = true := by simpa using he
   rw [hi] at HI
   have HST := hid (fun w1 (hw : RdM w1 r T (o + 1) s0) => (HC.out f2 (by omega)).stmt hst hw)
   unfold DG at HST
   have HNX := hid hnx
   have HFL := hid (fun (e : s2.e = 0) => (((dR_goes _ _ _ _ _ _ _ hst).fs rfl).2 e).2)
   have HE0 := hid he
   have HF := hid hf
   clear hst hnx hi he hf
   go_wp2_with (first
    | (go_at_call 42; refine HI.out.mono ?_; rintro e w5 ⟨rfl, hb5⟩; have B5 := hid hb5; have R5 := hid (R3.out.bw hb5); clear hb5)
    | (go_at_call 21; refine (HST.out _ (R5.out.bw bq)).mono ?_; rintro e w6 ⟨a6, c6, rfl, hn6, hr6, hk6, hl6⟩; have N6 := hid hn6; have R6 := hid hr6; have K6 := hid (show Kp r wr w6 from Kp.trans (Kp.of_bw (B5.out.trans bq)) hk6); have L6 := hid hl6; clear hn6 hr6 hk6 hl6)
    | (at_builtin; refine wpList_append_sl (G := fun _ => True) _ rfl _ _ 24 rfl (w1.heap.size + 1) 43 i1 (.agg #[.int .i64 0, .int .i64 0, .string ⟨#[]⟩, .int .i64 0, .int .i64 0]) 5 48 undN8 I1.out.1 I1.out.2.1 I1.out.2.2.1 I1.out.2.2.2 rfl (by decide) (.slice a4 l0.length c4) l0.length (l0.flatMap ndV) rfl (N3.out.kp K6.out (by have := B1.out.size; omega)) (.slice a6 l2.length c6) l2.length (l2.flatMap ndV) rfl N6.out.sl (nd_one _) (by have := L6.out; unfold maxLen; omega) (by have := L6.out; omega) (Nat.le_trans P3.out.lt K6.out.size) ?_; intro v7 w7 ho7 hg7; obtain ⟨a7, c7, rfl⟩ := own_form ho7; have ho7' : Nd w7 (w1.heap.size + 1) (.slice a7 (l0.length + l2.length) c7) (l0 ++ l2) := (by unfold Nd; rw [List.length_append, List.flatMap_append]; exact ho7); have N7 := hid ho7'; have R7 := hid (R6.out.grown (N3.out.kp K6.out (by have := B1.out.size; omega)) hg7); have K7 := hid ((K3.out.trans K6.out).own (N3.out.kp K6.out (by have := B1.out.size; omega)) hg7 (by have := B1.out.size; omega)); have P7 := hid (Blk.grownB (P3.out.kp K6.out (kp_ge hrl B1.out (Nat.le_refl _))) (N3.out.kp K6.out (by have := B1.out.size; omega)) hg7 (by omega)); clear ho7 hg7 ho7')
    | fail)
   case roundEnd =>
    exact ⟨⟨f2, l0 ++ l2, k0 + 1, s2, by have := HF.out; omega, HNX.out, ⟨_, _, by rw [List.length_append]⟩, N7.out, rfl, R7.out, K7.out, P7.out⟩, left_lt R3.out R7.out HE0.out HFL.out⟩
  ·obtain ⟨rfl, rfl, rfl⟩ : l0 = l1 ∧ k0 = k1 ∧ s0 = s1 := by simp only [Prod.mk.injEq] at hx; exact ⟨hx.1.symm, hx.2.1.symm, hx.2.2.symm⟩
   have HW := hid (fun w1 (hw : RdM w1 r T (o + 1) s0) => dwant_any ⟨#[125]⟩ hw)
   have HOW := hid (fun (e : (dWant T s0 ⟨#[125]⟩).e = 0) => HO.out ((fs_want (T := T) s0 ⟨#[125]⟩).2 e).1)
   obtain ⟨W, hW⟩ : ∃ W, dWant T s0 ⟨#[125]⟩ = W := ⟨_, rfl⟩
   rw [hW] at HW HOW
   have HWE := hid hW
   clear hf hx HL hW
   by_cases he : s0.e = 0
   ·have e1 : (s0.e == 0) = true := by simpa using he
    have hi : dIs T s0 ⟨#[125]⟩ = true := by
     cases hq : dIs T s0 ⟨#[125]⟩
     ·exact absurd ⟨he, hq⟩ hno
     ·rfl
    rw [hi] at HI
    clear hi he hno
    go_wp2_with (first
     | (go_at_call 42; refine HI.out.mono ?_; rintro e w5 ⟨rfl, hb5⟩; have B5 := hid hb5; have R5 := hid (R3.out.bw hb5); clear hb5)
     | (go_at_call 48; refine (HW.out _ (R5.out.bw bq)).mono ?_; rintro e w6 ⟨rfl, hr6, hk6⟩; have R6 := hid hr6; have K6 := hid (show Kp r wr w6 from Kp.trans (Kp.of_bw (B5.out.trans bq)) hk6); have N6 := hid (N3.out.kp K6.out (by have := B1.out.size; omega)); have P6 := hid (P3.out.kp K6.out (kp_ge hrl B1.out (Nat.le_refl _))); (obtain ⟨q6, u0, u1, u2, HQ6⟩ := RdM.off hr6 HOW.out); have H6 := hid HQ6; have u3 := P6.out.cell; have u4 := P6.out.lt; have u5 := kp_ge hrl B1.out (Nat.le_refl _); clear hr6 hk6 HQ6)
     | (go_at_call 22; refine (djoin_any (2, 0, [], 0, p0) k0 _ l0 (N6.out.kp ((Kp.refl r w6).set 2 _) (by have := B1.out.size; omega)).sl (by have := HLEN.out; omega)).mono ?_; rintro e w8 ⟨a8, c8, rfl, hn8, hb8⟩; have N8 := hid hn8; have B8 := hid hb8; clear hn8 hb8)
     | fail)
    all_goals go_ret
    all_goals exact ⟨_, _, rfl, N8.out.low (by have h1 := K3.out.size; have h2 := K6.out.size; simp only [World.size_setCell]; omega), by rw [HWE.out]; exact H6.out.bw B8.out, (((K3.out.trans K6.out).set 2 _).bw B8.out), HLJ.out⟩
   ·have e1 : (s0.e == 0) = false := by simpa using he
    clear he hno HI
    go_wp2_with (first
     | (go_at_call 48; refine (HW.out _ (R3.out.bw bq)).mono ?_; rintro e w6 ⟨rfl, hr6, hk6⟩; have R6 := hid hr6; have K6 := hid (show Kp r wr w6 from Kp.trans (Kp.of_bw bq) hk6); have N6 := hid (N3.out.kp K6.out (by have := B1.out.size; omega)); have P6 := hid (P3.out.kp K6.out (kp_ge hrl B1.out (Nat.le_refl _))); (obtain ⟨q6, u0, u1, u2, HQ6⟩ := RdM.off hr6 HOW.out); have H6 := hid HQ6; have u3 := P6.out.cell; have u4 := P6.out.lt; have u5 := kp_ge hrl B1.out (Nat.le_refl _); clear hr6 hk6 HQ6)
     | (go_at_call 22; refine (djoin_any (2, 0, [], 0, p0) k0 _ l0 (N6.out.kp ((Kp.refl r w6).set 2 _) (by have := B1.out.size; omega)).sl (by have := HLEN.out; omega)).mono ?_; rintro e w8 ⟨a8, c8, rfl, hn8, hb8⟩; have N8 := hid hn8; have B8 := hid hb8; clear hn8 hb8)
     | fail)
    all_goals go_ret
    all_goals exact ⟨_, _, rfl, N8.out.low (by have h1 := K3.out.size; have h2 := K6.out.size; simp only [World.size_setCell]; omega), by rw [HWE.out]; exact H6.out.bw B8.out, (((K3.out.trans K6.out).set 2 _).bw B8.out), HLJ.out⟩

end

end Go.Proofs.YtdhkcdehedbpcaaDoor

namespace Go.Proofs.YtdhkcdehedbpcaaDoor
open Go Go.RowKit

section
variable {w w' : World} {r f : Nat} {T : List ATok} {o : Int} {s s' : DS} {l : List ANode} {k : Int}

theorem RdM.nx2 (h : RdM w r T o s) (hk : (dtk T s.i).1 ≠ 0) : RdM (w.setCell ⟨r, 1, none⟩ (.int .i64 ((s.i + 1 : Nat) : Int))) r T o (dNx s) := by
 obtain ⟨g, c, q, x⟩ := h.x
 refine h.kp ((Kp.refl r w).set 1 _) (vt := .slice (some ⟨g, 0, none⟩) T.length c) (q := q) ?_ x.t (h.n s.i h.i hk) (fun e => ⟨x.q e, h.o e⟩)
 exact x.b.set 1 _
theorem Nd.lit {w : World} {g base : Nat} (n : ANode) {u : ByteArray} (hu : strOfNums n.2.2.1 = u) (h : Blk w g #[.int .i64 n.1, .int .i64 n.2.1, .string u, .int .i64 n.2.2.2.1, .int .i64 n.2.2.2.2] 43) (hb : base ≤ g) : Nd w base (.slice (some ⟨g, 0, none⟩) 1 1) [n] := by
 subst hu
 exact ⟨rfl, .inr ⟨g, 1, _, rfl, hb, h, Nat.le_refl _, by decide, rfl, rfl⟩⟩
theorem Blk.newH {w : World} {g : Nat} (cur : Array Value) (e : TypeId) (h : w.heap.size = g) : Blk (w.alloc (.cells cur e)) g cur e := h ▸ Blk.new w cur e
theorem Blk.drh {w : World} {g : Nat} {cur : Array Value} {e : TypeId} (h : Blk w g cur e) : Blk w.drew g cur e := h

set_option maxRecDepth 100000 in
set_option maxHeartbeats 8000000 in
theorem prim_step (hc : ∀ g, g ≤ f → Con T r g) (h : dR T (f + 1) .prim o s = some (l, k, s')) (hr : RdM w r T o s) : Calls Tryd.prog 85 #[.pointer (some ⟨r, 0, none⟩)] w (DG w r T o l s') := by
 unfold dR at h
 have HR := hid hr
 have hrl := hr.lt
 obtain ⟨g, c, q, x⟩ := hr.x
 have z := x.b.cell
 have zf := x.b.free
 have zl := x.b.lt
 have gl := x.gl
 have gn := x.ne
 have c0 := x.c0 s.i hr.i
 have c1 := x.c1 s.i hr.i
 have c2 := x.c2 s.i hr.i
 have c3 := x.c3 s.i hr.i
 have l1 := x.l
 have hi1 : (0 : Int) ≤ (s.i : Int) := by omega
 have hi2 : (s.i : Int) < (T.length : Int) := by have := hr.i; omega
 rcases ite_some h with ⟨hk, h⟩ | ⟨hk1, h⟩
 ·have k1 : (dtk T s.i).1 = 1 := hk
  obtain ⟨rfl, rfl, hlen⟩ := rete3 h
  have HN := hid (fun w1 (hw : RdM w1 r T o s) => hw.nx2 (by rw [k1]; decide))
  unfold DG dAt
  clear hr h x hlen hc
  generalize hkk : dtk T s.i = kt at c0 c1 c2 c3 k1 ⊢
  clear hkk
  obtain ⟨k0, kx, k2, k3⟩ := kt
  simp only at c0 c1 c2 c3 k1 ⊢
  subst k1
  have HST := hid (show strOfNums kx = strOfNums kx from rfl)
  obtain ⟨u, hu⟩ : ∃ u, strOfNums kx = u := ⟨_, rfl⟩
  rw [hu] at c1
  have HU := hid hu
  clear hu
  go_enter Tryd.func85, Tryd.ntmps85
  go_upto_region 1 with fail
  go_region
  all_goals go_wp2
  all_goals go_region
  all_goals go_wp2
  all_goals go_ret
  all_goals refine ⟨_, _, rfl, Nd.lit (19, 0, kx, 0, k3) HU.out ?_ (by first | (simp; done) | (simp; omega)), RdM.bw (HN.out _ HR.out) bq, (by repeat (first | exact Kp.refl _ _ | apply Kp.set | apply Kp.alloc | apply Kp.drew | apply Kp.drewN | (refine Kp.setNew ?_ (by first | (simp; done) | (simp; omega)) _ _))), by decide⟩
  all_goals repeat (first | exact Blk.newH _ _ (by simp) | apply Blk.drh | apply Blk.alloc)
 rcases ite_some h with ⟨hk, h⟩ | ⟨hk3, h⟩
 ·have k1 : (dtk T s.i).1 = 3 := hk
  obtain ⟨rfl, rfl, hlen⟩ := rete3 h
  have HN := hid (fun w1 (hw : RdM w1 r T o s) => hw.nx2 (by rw [k1]; decide))
  unfold DG dAt
  clear hr h x hlen hc
  generalize hkk : dtk T s.i = kt at c0 c1 c2 c3 k1 ⊢
  clear hkk
  obtain ⟨k0, kx, k2, k3⟩ := kt
  simp only at c0 c1 c2 c3 k1 ⊢
  subst k1
  have HST := hid (show strOfNums kx = strOfNums kx from rfl)
  obtain ⟨u, hu⟩ : ∃ u, strOfNums kx = u := ⟨_, rfl⟩
  rw [hu] at c1
  have HU := hid hu
  clear hu
  go_enter Tryd.func85, Tryd.ntmps85
  go_upto_region 1 with fail
  go_region
  all_goals go_wp2
  all_goals go_region
  all_goals go_wp2
  all_goals go_ret
  all_goals refine ⟨_, _, rfl, Nd.lit (14, 0, [], k2, k3) rfl ?_ (by first | (simp; done) | (simp; omega)), RdM.bw (HN.out _ HR.out) bq, (by repeat (first | exact Kp.refl _ _ | apply Kp.set | apply Kp.alloc | apply Kp.drew | apply Kp.drewN | (refine Kp.setNew ?_ (by first | (simp; done) | (simp; omega)) _ _))), by decide⟩
  all_goals repeat (first | exact Blk.newH _ _ (by simp) | apply Blk.drh | apply Blk.alloc)
 rcases ite_some h with ⟨hk, h⟩ | ⟨hk4, h⟩
 ·have k1 : (dtk T s.i).1 = 4 := hk
  obtain ⟨rfl, rfl, hlen⟩ := rete3 h
  have HN := hid (fun w1 (hw : RdM w1 r T o s) => hw.nx2 (by rw [k1]; decide))
  unfold DG dAt
  clear hr h x hlen hc
  generalize hkk : dtk T s.i = kt at c0 c1 c2 c3 k1 ⊢
  clear hkk
  obtain ⟨k0, kx, k2, k3⟩ := kt
  simp only at c0 c1 c2 c3 k1 ⊢
  subst k1
  have HST := hid (show strOfNums kx = strOfNums kx from rfl)
  obtain ⟨u, hu⟩ : ∃ u, strOfNums kx = u := ⟨_, rfl⟩
  rw [hu] at c1
  have HU := hid hu
  clear hu
  go_enter Tryd.func85, Tryd.ntmps85
  go_upto_region 1 with fail
  go_region
  all_goals go_wp2
  all_goals go_region
  all_goals go_wp2
  all_goals go_ret
  all_goals refine ⟨_, _, rfl, Nd.lit (15, 0, kx, 0, k3) HU.out ?_ (by first | (simp; done) | (simp; omega)), RdM.bw (HN.out _ HR.out) bq, (by repeat (first | exact Kp.refl _ _ | apply Kp.set | apply Kp.alloc | apply Kp.drew | apply Kp.drewN | (refine Kp.setNew ?_ (by first | (simp; done) | (simp; omega)) _ _))), by decide⟩
  all_goals repeat (first | exact Blk.newH _ _ (by simp) | apply Blk.drh | apply Blk.alloc)
 have HA := hid (fun w1 (hw : RdM w1 r T o s) => (hc f (Nat.le_refl _)).about (0, 0, [], 0, dAt T s) h hw)
 unfold DG dAt at *
 have e1 : ((dtk T s.i).1 == 1) = false := by simpa using hk1
 have e3 : ((dtk T s.i).1 == 3) = false := by simpa using hk3
 have e4 : ((dtk T s.i).1 == 4) = false := by simpa using hk4
 clear hr h x hc hk1 hk3 hk4
 generalize hkk : dtk T s.i = kt at c0 c1 c2 c3 e1 e3 e4 HA ⊢
 clear hkk
 obtain ⟨k0, kx, k2, k3⟩ := kt
 simp only at c0 c1 c2 c3 e1 e3 e4 HA ⊢
 obtain ⟨u, hu⟩ : ∃ u, strOfNums kx = u := ⟨_, rfl⟩
 rw [hu] at c1
 clear hu
 go_enter Tryd.func85, Tryd.ntmps85
 go_upto_region 1 with fail
 go_region
 all_goals go_wp2_with (first
  | (go_at_call 97; refine (HA.out _ (HR.out.bw bq)).mono ?_; rintro e w3 ⟨a3, c3', rfl, hn3, hr3, hk3, hl3⟩; have N3 := hid (hn3.low (b' := w.heap.size) (by first | (simp; done) | (simp; omega))); have R3 := hid hr3; have K3 := hid (show Kp r w w3 from Kp.trans (Kp.of_bw bq) hk3); have L3 := hid hl3; clear hn3 hr3 hk3 hl3)
  | fail)
 all_goals go_ret
 all_goals exact ⟨_, _, rfl, N3.out, R3.out, K3.out, L3.out⟩

end

end Go.Proofs.YtdhkcdehedbpcaaDoor

