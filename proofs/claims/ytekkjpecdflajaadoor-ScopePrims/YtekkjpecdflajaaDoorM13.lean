/- The document's parser: about: contracts, by steps. · The document's parser: statement, whole: contracts, by steps. · The document's parser: several, rows and records. · All the parser's functions at once: what they promise at any number of steps. · The document's Parse, over the tokens of its Lex. -/
import Derived.Test.YtekkjpecdflajaaDoorDspk
import Derived.Test.YtekkjpecdflajaaDoorDstk
import Derived.Test.YtekkjpecdflajaaDoorDfnk
import Derived.Test.YtekkjpecdflajaaDoorM7
import Derived.Test.YtekkjpecdflajaaDoorDsrk
import Derived.Test.YtekkjpecdflajaaDoorM6
import Derived.Test.YtekkjpecdflajaaDoorDchk
import Derived.Test.YtekkjpecdflajaaDoorDfuk
import Derived.Test.YtekkjpecdflajaaDoorDp1k
import Derived.Test.YtekkjpecdflajaaDoorDplk
import Derived.Test.YtekkjpecdflajaaDoorDthk
import Derived.Test.YtekkjpecdflajaaDoorM12
import Derived.Test.YtekkjpecdflajaaDoorM4
import Derived.Test.YtekkjpecdflajaaDoorRJk
set_option linter.unusedSimpArgs false
set_option linter.unusedVariables false
namespace Go.Proofs.YtekkjpecdflajaaDoor
open Go Go.RowKit

section
variable {w w' : World} {r f : Nat} {T : List ATok} {o : Int} {s s' : DS} {l : List ANode} {k : Int}

set_option maxRecDepth 100000 in
set_option maxHeartbeats 8000000 in
theorem about_step (hc : ∀ g, g ≤ f → Con T r g) (n : ANode) (h : dR T (f + 1) (.about n) o s = some (l, k, s')) (hr : RdM w r T o s) : Calls Tryd.prog 74 #[.pointer (some ⟨r, 0, none⟩), nodeV n] w (DG w r T o l s') := by
  have hf := hc f (Nat.le_refl _)
  unfold dR at h
  rcases ite_some h with ⟨y, h⟩ | ⟨y0, h⟩
  · obtain ⟨rfl, rfl, hlen⟩ := rete3 h
    exact about_true n  y hr
  have i0 : dIs T s ⟨#[116, 114, 117, 101]⟩ = false := by simpa using y0
  clear y0
  rcases ite_some h with ⟨y, h⟩ | ⟨y1, h⟩
  · obtain ⟨rfl, rfl, hlen⟩ := rete3 h
    exact about_false n i0 y hr
  have i1 : dIs T s ⟨#[102, 97, 108, 115, 101]⟩ = false := by simpa using y1
  clear y1
  rcases ite_some h with ⟨y, h⟩ | ⟨y2, h⟩
  · obtain ⟨rfl, rfl, hlen⟩ := rete3 h
    exact about_nil n i0 i1 y hr
  have i2 : dIs T s ⟨#[110, 105, 108]⟩ = false := by simpa using y2
  clear y2
  rcases ite_some h with ⟨y, h⟩ | ⟨y3, h⟩
  · exact about_fn n i0 i1 i2 y (fun w1 hw => hf.func (31, n.2) h hw) hr
  have i3 : dIs T s ⟨#[102, 110]⟩ = false := by simpa using y3
  clear y3
  rcases ite_some h with ⟨y, h⟩ | ⟨y4, h⟩
  · obtain ⟨⟨l1, k1, s1⟩, h1, h2⟩ := bnd h
    obtain ⟨rfl, rfl, hlen⟩ := rete3 h2
    exact about_par n i0 i1 i2 i3 y (fun w1 hw => hf.expr 0 h1 hw) (fun e => (hr.o (((fs_enter (T := T) o s ⟨#[40]⟩).2 ((dR_goes _ _ _ _ _ _ _ h1).fw.2 ((fs_want (T := T) s1 ⟨#[41]⟩).fw.2 e))).1)).1) hr
  have i4 : dIs T s ⟨#[40]⟩ = false := by simpa using y4
  clear y4
  rcases ite_some h with ⟨y, h⟩ | ⟨y5, h⟩
  · exact about_row n i0 i1 i2 i3 i4 y (fun w1 hw => hf.several n false h hw) hr
  have i5 : dIs T s ⟨#[91]⟩ = false := by simpa using y5
  clear y5
  rcases ite_some h with ⟨y, h⟩ | ⟨y6, h⟩
  · exact about_rec n i0 i1 i2 i3 i4 i5 y (fun w1 hw => hf.several n true h hw) hr
  have i6 : dIs T s ⟨#[123]⟩ = false := by simpa using y6
  clear y6
  rcases ite_some h with ⟨y, h⟩ | ⟨y7, h⟩
  · rcases ite_some h with ⟨e, h⟩ | ⟨e, h⟩
    · obtain ⟨rfl, rfl, hlen⟩ := rete3 h
      exact about_spA n i0 i1 i2 i3 i4 i5 i6 y e hr
    have e0 : (dEnter T o s ⟨#[115, 112, 97, 119, 110]⟩).e = 0 := by simpa using e
    have ho := (hr.o ((fs_enter (T := T) o s ⟨#[115, 112, 97, 119, 110]⟩).2 e0).1).1
    obtain ⟨⟨x, k1, s1⟩, h1, h2⟩ := bnd h
    have HV := fun w1 (hw : RdM w1 r T (o + 1) (dEnter T o s ⟨#[115, 112, 97, 119, 110]⟩)) => hf.thing h1 hw
    have hne := fun e => (dR_goes _ _ _ _ _ _ _ h1).ne rfl e
    simp only at h2
    by_cases hs : s1.e = 0
    · by_cases hk : dKd0 x = 28
      · rw [if_neg (show ¬ (s1.e = 0 ∧ dKd0 x ≠ 28) from fun a => a.2 hk)] at h2
        rcases ite_some h2 with ⟨e2, h2⟩ | ⟨e2, h2⟩
        · exact absurd hs e2
        obtain ⟨rfl, rfl, hlen⟩ := rete3 h2
        cases x with
        | nil => exact absurd rfl (hne hs)
        | cons m t =>
          obtain ⟨v0, v1, v2, v3, v4⟩ := m
          have v0e : v0 = 28 := hk
          subst v0e
          exact about_spD n i0 i1 i2 i3 i4 i5 i6 y e0 HV ho hs (show t.length < 1000000 from hlen) hr
      · rw [if_pos (show s1.e = 0 ∧ dKd0 x ≠ 28 from ⟨hs, hk⟩)] at h2
        have e2 : (dBad T s1 6).e ≠ 0 := by unfold dBad; rw [if_pos hs]; exact (by decide : (6 : Int) ≠ 0)
        rw [if_pos e2] at h2
        obtain ⟨rfl, rfl, hlen⟩ := rete3 h2
        exact about_spC n i0 i1 i2 i3 i4 i5 i6 y e0 HV ho hs (hne hs) hk hr
    · rw [if_neg (show ¬ (s1.e = 0 ∧ dKd0 x ≠ 28) from fun a => hs a.1), if_pos hs] at h2
      obtain ⟨rfl, rfl, hlen⟩ := rete3 h2
      exact about_spB n i0 i1 i2 i3 i4 i5 i6 y e0 HV ho hs hr
  have i7 : dIs T s ⟨#[115, 112, 97, 119, 110]⟩ = false := by simpa using y7
  obtain ⟨rfl, rfl, hlen⟩ := rete3 h
  exact about_bad n i0 i1 i2 i3 i4 i5 i6 i7 hr

end

end Go.Proofs.YtekkjpecdflajaaDoor

set_option linter.unusedSimpArgs false
set_option linter.unusedVariables false
namespace Go.Proofs.YtekkjpecdflajaaDoor
open Go Go.RowKit

section
variable {w w' : World} {r f : Nat} {T : List ATok} {o : Int} {s s' : DS} {l : List ANode} {k : Int}

theorem dIs_other {t t' : ByteArray} (h : dIs T s t = true) (hn : t ≠ t') : dIs T s t' = false := by
  cases e : dIs T s t'
  · rfl
  · unfold dIs at h e
    simp only [Bool.and_eq_true, decide_eq_true_eq] at h e
    exact absurd (h.2.symm.trans e.2) hn
theorem stmt_step (hc : ∀ g, g ≤ f → Con T r g) (h : dR T (f + 1) .stmt o s = some (l, k, s')) (hr : RdM w r T o s) : Calls Tryd.prog 14 #[.pointer (some ⟨r, 0, none⟩)] w (DG w r T o l s') := by
  have hf := hc f (Nat.le_refl _)
  unfold dR at h
  rcases ite_some h with ⟨y, h⟩ | ⟨y0, h⟩
  · exact stmt_block y (fun w1 hw => hf.block h hw) hr
  have i0 : dIs T s ⟨#[123]⟩ = false := by simpa using y0
  clear y0
  rcases ite_some h with ⟨y, h⟩ | ⟨y1, h⟩
  · exact stmt_choice i0 y (fun w1 hw => hf.choice h hw) hr
  have i1 : dIs T s ⟨#[105, 102]⟩ = false := by simpa using y1
  clear y1
  rcases ite_some h with ⟨⟨y, k1⟩, h⟩ | ⟨y2, h⟩
  · exact stmt_fn i0 i1 y k1 (fun w1 hw => hf.func _ h hw) hr
  rcases ite_some h with ⟨y, h⟩ | ⟨y3, h⟩
  · have i2 : dIs T s ⟨#[102, 110]⟩ = false := dIs_other y (by decide)
    obtain ⟨⟨l1, k1, s1⟩, h1, h2⟩ := bnd h
    obtain ⟨rfl, rfl, hlen⟩ := rete3 h2
    exact stmt_var i0 i1 i2 y (fun w1 hw => hf.expr 0 h1 hw) hlen hr
  have i3 : dIs T s ⟨#[118, 97, 114]⟩ = false := by simpa using y3
  clear y3
  rcases ite_some h with ⟨y, h⟩ | ⟨y4, h⟩
  · have i2 : dIs T s ⟨#[102, 110]⟩ = false := dIs_other y (by decide)
    obtain ⟨⟨l1, k1, s1⟩, h1, h2⟩ := bnd h
    obtain ⟨⟨l2, k2, s2⟩, h3, h4⟩ := bnd h2
    obtain ⟨rfl, rfl, hlen⟩ := rete3 h4
    exact stmt_while i0 i1 i2 i3 y (fun w1 hw => hf.expr 0 h1 hw) (fun w1 hw => hf.block h3 hw) (dR_len h1) (dR_len h3) hlen hr
  have i4 : dIs T s ⟨#[119, 104, 105, 108, 101]⟩ = false := by simpa using y4
  clear y4
  rcases ite_some h with ⟨y, h⟩ | ⟨y5, h⟩
  · have i2 : dIs T s ⟨#[102, 110]⟩ = false := dIs_other y (by decide)
    obtain ⟨rfl, rfl, hlen⟩ := rete3 h
    exact stmt_break i0 i1 i2 i3 i4 y hr
  have i5 : dIs T s ⟨#[98, 114, 101, 97, 107]⟩ = false := by simpa using y5
  clear y5
  rcases ite_some h with ⟨y, h⟩ | ⟨y6, h⟩
  · have i2 : dIs T s ⟨#[102, 110]⟩ = false := dIs_other y (by decide)
    obtain ⟨rfl, rfl, hlen⟩ := rete3 h
    exact stmt_continue i0 i1 i2 i3 i4 i5 y hr
  have i6 : dIs T s ⟨#[99, 111, 110, 116, 105, 110, 117, 101]⟩ = false := by simpa using y6
  clear y6
  rcases ite_some h with ⟨y, h⟩ | ⟨y7, h⟩
  · have i2 : dIs T s ⟨#[102, 110]⟩ = false := dIs_other y (by decide)
    rcases ite_some h with ⟨y2, h⟩ | ⟨y2, h⟩
    · obtain ⟨rfl, rfl, hlen⟩ := rete3 h
      exact stmt_ret0 i0 i1 i2 i3 i4 i5 i6 y y2 hr
    · obtain ⟨⟨l1, k1, s1⟩, h1, h2⟩ := bnd h
      obtain ⟨rfl, rfl, hlen⟩ := rete3 h2
      exact stmt_ret1 i0 i1 i2 i3 i4 i5 i6 y (fun w1 hw => hf.expr 0 h1 hw) (by simpa using y2) hlen hr
  have i7 : dIs T s ⟨#[114, 101, 116, 117, 114, 110]⟩ = false := by simpa using y7
  clear y7
  rcases ite_some h with ⟨y, h⟩ | ⟨y8, h⟩
  · have i2 : dIs T s ⟨#[102, 110]⟩ = false := dIs_other y (by decide)
    obtain ⟨⟨l1, k1, s1⟩, h1, h2⟩ := bnd h
    obtain ⟨rfl, rfl, hlen⟩ := rete3 h2
    exact stmt_throw i0 i1 i2 i3 i4 i5 i6 i7 y (fun w1 hw => hf.expr 0 h1 hw) hlen hr
  have i8 : dIs T s ⟨#[116, 104, 114, 111, 119]⟩ = false := by simpa using y8
  clear y8
  rcases ite_some h with ⟨y, h⟩ | ⟨y9, h⟩
  · have i2 : dIs T s ⟨#[102, 110]⟩ = false := dIs_other y (by decide)
    obtain ⟨⟨l1, k1, s1⟩, h1, h2⟩ := bnd h
    obtain ⟨⟨l2, k2, s2⟩, h3, h4⟩ := bnd h2
    obtain ⟨rfl, rfl, hlen⟩ := rete3 h4
    exact stmt_try i0 i1 i2 i3 i4 i5 i6 i7 i8 y (fun w1 hw => hf.block h1 hw) (fun w1 hw => hf.block h3 hw) (dR_len h1) (dR_len h3) hlen hr
  have i9 : dIs T s ⟨#[116, 114, 121]⟩ = false := by simpa using y9
  clear y9
  cases yf : dIs T s ⟨#[102, 110]⟩
  · exact stmt_plain i0 i1 yf i3 i4 i5 i6 i7 i8 i9 (fun w1 hw => hf.plain h hw) hr
  · exact stmt_plain2 i0 i1 i3 i4 i5 i6 i7 i8 i9 yf (fun e => y2 ⟨yf, e⟩) (fun w1 hw => hf.plain h hw) hr

end

end Go.Proofs.YtekkjpecdflajaaDoor

set_option linter.unusedVariables false
namespace Go.Proofs.YtekkjpecdflajaaDoor
open Go Go.RowKit

theorem several_step {w : World} {r f : Nat} {T : List ATok} {o : Int} {s s' : DS} {l : List ANode} {k : Int} (hc : ∀ g, g ≤ f → Con T r g) (n : ANode) (rc : Bool) (h : dR T (f + 1) (.several n rc) o s = some (l, k, s')) (hr : RdM w r T o s) : Calls Tryd.prog 78 #[.pointer (some ⟨r, 0, none⟩), nodeV n, .string (if rc then ⟨#[123]⟩ else ⟨#[91]⟩), .string (if rc then ⟨#[125]⟩ else ⟨#[93]⟩)] w (DG w r T o l s') := by
  cases rc with
  | false => exact row_step hc n h hr
  | true => exact rec_step hc n h hr

end Go.Proofs.YtekkjpecdflajaaDoor

set_option linter.unusedSimpArgs false
set_option linter.unusedVariables false
namespace Go.Proofs.YtekkjpecdflajaaDoor
open Go Go.RowKit

theorem dR_zero {T : List ATok} {q : Dq} {o : Int} {s : DS} {x : List ANode × Int × DS} (h : dR T 0 q o s = some x) : False := by
  unfold dR at h
  cases h

theorem con_zero (T : List ATok) (r : Nat) : Con T r 0 :=
  ⟨fun h _ => (dR_zero h).elim, fun _ h _ => (dR_zero h).elim, fun h _ => (dR_zero h).elim, fun h _ => (dR_zero h).elim, fun h _ => (dR_zero h).elim, fun _ _ _ h _ => (dR_zero h).elim, fun _ h _ => (dR_zero h).elim, fun h _ => (dR_zero h).elim, fun h _ => (dR_zero h).elim, fun h _ => (dR_zero h).elim, fun _ h _ => (dR_zero h).elim, fun _ _ h _ => (dR_zero h).elim⟩

theorem con_le (T : List ATok) (r : Nat) : ∀ (f g : Nat), g ≤ f → Con T r g
  | 0, g, hg => by
    obtain rfl : g = 0 := by omega
    exact con_zero T r
  | f + 1, g, hg => by
    by_cases h : g ≤ f
    · exact con_le T r f g h
    · obtain rfl : g = f + 1 := by omega
      have hc := con_le T r f
      exact ⟨fun h hr => block_step hc h hr, fun n h hr => func_step hc n h hr, fun h hr => choice_step hc h hr, fun h hr => stmt_step hc h hr, fun h hr => plain_step hc h hr, fun t k lev h hr => ahead_step hc t k lev h hr, fun lev h hr => expr_step hc lev h hr, fun h hr => thing_step hc h hr, fun h hr => args_step hc h hr, fun h hr => prim_step hc h hr, fun n h hr => about_step hc n h hr, fun n rc h hr => several_step hc n rc h hr⟩

theorem con_any (T : List ATok) (r f : Nat) : Con T r f := con_le T r f f (Nat.le_refl _)

end Go.Proofs.YtekkjpecdflajaaDoor

set_option linter.unusedSimpArgs false
set_option linter.unusedVariables false
namespace Go.Proofs.YtekkjpecdflajaaDoor
open Go Go.RowKit

theorem prog_inv {T : List ATok} {f : Nat} {l : List ANode} {k : Int} {s : DS} {x : List ANode × Int × DS} (h : dProgL T f l k s = some x) : ∃ g, f = g + 1 ∧
    ((s.e = 0 ∧ (dtk T s.i).1 ≠ 0 ∧ ∃ l1 k1 s1, dR T g .stmt 0 s = some (l1, k1, s1) ∧ dProgL T g (l ++ l1) (k + 1) s1 = some x) ∨ (¬ (s.e = 0 ∧ (dtk T s.i).1 ≠ 0) ∧ x = (l, k, s))) := by
  cases f with
  | zero => cases h
  | succ g =>
    unfold dProgL at h
    refine ⟨g, rfl, ?_⟩
    rcases ite_some h with ⟨hi, h⟩ | ⟨hn, h⟩
    · obtain ⟨⟨l1, k1, s1⟩, h4, h5⟩ := bnd h
      exact .inl ⟨hi.1, hi.2, l1, k1, s1, h4, h5⟩
    · exact .inr ⟨hn, (Option.some.inj h).symm⟩

theorem prog_le {T : List ATok} : ∀ (f : Nat) {l L : List ANode} {k K : Int} {s S : DS}, dProgL T f l k s = some (L, K, S) → l.length ≤ L.length ∧ k ≤ K
  | 0, _, _, _, _, _, _, h => by cases h
  | f + 1, l, L, k, K, s, S, h => by
    obtain ⟨g, hg, hc⟩ := prog_inv h
    obtain rfl : f = g := by omega
    rcases hc with ⟨_, _, l1, k1, s1, _, h2⟩ | ⟨_, h2⟩
    · have := prog_le f h2
      rw [List.length_append] at this
      omega
    · simp only [Prod.mk.injEq] at h2
      obtain ⟨rfl, rfl, _⟩ := h2
      exact ⟨Nat.le_refl _, Int.le_refl _⟩

/-- The tokens of Lex as the reader sees them. -/
theorem tkm_of {w : World} {base : Nat} {v : Value} {T : List ATok} (h : Tk w base v T) (h0 : 0 < T.length) (hm : T.length ≤ 100000) : TkM w w.heap.size v T := by
  rcases h.2 with ⟨_, h1⟩ | ⟨g, cap, cur, rfl, hb, hg, hnc, hmx, hsz, htake⟩
  · omega
  · refine ⟨g, cap, cur, rfl, ?_, hg, hm, fun i j hi hj => ?_⟩
    · have := (Array.getElem?_eq_some_iff.1 hg).1
      omega
    · have hd : dtk T i = T[i] := by unfold dtk; rw [List.getD_eq_getElem?_getD, List.getElem?_eq_getElem hi]; rfl
      rw [hd, ← flat_get T i hi j hj, ← htake, List.getElem?_take, if_pos (by omega)]
      simp

theorem rdm_new {w : World} {v : Value} {T : List ATok} (h : TkM w w.heap.size v T) (h0 : 0 < T.length) (hE : EndT8 T) : RdM (w.alloc (.cells #[v, .int .i64 0, .int .i64 0, .int .i64 0, .int .i64 0] 54)) w.heap.size T 0 ⟨0, 0, 0⟩ :=
  ⟨⟨v, 0, Blk.new w _ _, h.kp (Kp.of_bw (Bw.alloc (Bw.refl _) _)), fun _ => rfl⟩, h0, fun _ => by omega, hE⟩

section
variable {w : World}

set_option maxRecDepth 100000 in
set_option maxHeartbeats 8000000 in
theorem rParse_any {v : Value} {b : List Int} {f : Nat} {L : List ANode} {K : Int} {S : DS} (hb : By w v b) (hm : b.length ≤ 3000) (hx : (lexA b).2.1 = 0) (h0 : 0 < (lexA b).1.length) (hT : (lexA b).1.length ≤ 100000) (hE : EndT8 (lexA b).1)
    (hp : dProgL (lexA b).1 f [] 0 ⟨0, 0, 0⟩ = some (L, K, S)) (hl : L.length ≤ 1000000) (hk : K ≤ 1000000) (hs : S.e = 0) :
    Calls Tryd.prog 10 #[v] w fun e w' => ∃ a c, e = .returned (.tuple #[.slice a (L.length + 1) c, .int .i64 0, .int .i64 b.length]) ∧ Nd w' w.heap.size (.slice a (L.length + 1) c) (dJoin (1, 0, [], 0, 0) K L) ∧ Bw w w' := by
  have HLX := hid (rLex_any v b w hb hm)
  rw [hx] at HLX
  obtain ⟨av, cv, rfl⟩ := hb.form
  generalize ((lexA b).2.2 : Nat) = at0 at HLX
  generalize (lexA b).1 = T at h0 hT hE hp HLX
  have H0 := hid h0
  have HT := hid hT
  have HE := hid hE
  have HP := hid hp
  have HS := hid hs
  have HL := hid hl
  have HK := hid hk
  have hbl : b.length ≤ 3000 := hm
  obtain ⟨i1, hi1, hz1, hs1, hy1⟩ := info_parts infoN8
  have I1 := hid (And.intro hi1 (And.intro hz1 (And.intro hs1 hy1)))
  clear hx h0 hT hE hp hs hl hk hi1 hz1 hs1 hy1 hb
  go_enter Tryd.func10, Tryd.ntmps10
  go_wp2_with (first
    | (go_at_call 13; refine HLX.out.mono ?_; rintro e w1 ⟨vt, rfl, ht1, hb1⟩; obtain ⟨at1, ct1, rfl⟩ := ht1.form; have B1 := hid hb1; have R1 := hid (rdm_new (tkm_of ht1 H0.out HT.out) H0.out HE.out); clear ht1 hb1)
    | fail)
  go_loopw [9, 10] (fun v4 v5 wr => ∃ (f' : Nat) (l0 : List ANode) (k0 : Int) (s0 : DS), dProgL T f' l0 k0 s0 = some (L, K, S) ∧ (∃ a c, v4 = .slice a l0.length c) ∧ Nd wr (w1.heap.size + 1) v4 l0 ∧ 0 ≤ k0 ∧ v5 = .int .i64 k0 ∧ RdM wr w1.heap.size T 0 s0 ∧ Kp w1.heap.size w1 wr ∧ w1.heap.size + 1 ≤ wr.heap.size) (fun _ _ wr => rdL T.length wr w1.heap.size)
  case atStart => exact ⟨f, [], 0, ⟨0, 0, 0⟩, HP.out, ⟨none, 0, rfl⟩, Nd.nil _ _, Int.le_refl _, rfl, R1.out.bw (by repeat (first | exact Bw.refl _ | apply Bw.alloc | apply Bw.drewN | apply Bw.drew)), Kp.of_bw (by repeat (first | exact Bw.refl _ | apply Bw.alloc | apply Bw.drewN | apply Bw.drew)), by simp⟩
  case round =>
    obtain ⟨f', l0, k0, s0, hd, ⟨a4, c4, rfl⟩, hn, hk0, rfl, hrd, hkp, hsz⟩ := hrel
    have R3 := hid hrd
    have N3 := hid hn
    have K3 := hid hkp
    have Z3 := hid hsz
    have HLE := hid (prog_le f' hd)
    have hk1 : k0 ≤ 1000000 := by have := HLE.out.2; have := HK.out; omega
    have hl0 : l0.length ≤ 1000000 := by have := HLE.out.1; have := HL.out; omega
    obtain ⟨g, c, q, x⟩ := hrd.x
    have z0 : wr.cell? ⟨w1.heap.size, 0, none⟩ = some (.slice (some ⟨g, 0, none⟩) T.length c) := x.b.cell 0
    have z1 : wr.cell? ⟨w1.heap.size, 1, none⟩ = some (.int .i64 s0.i) := x.b.cell 1
    have z3 : wr.cell? ⟨w1.heap.size, 3, none⟩ = some (.int .i64 s0.e) := x.b.cell 3
    have z4 : wr.cell? ⟨w1.heap.size, 4, none⟩ = some (.int .i64 s0.p) := x.b.cell 4
    have zl : w1.heap.size < wr.heap.size := x.b.lt
    have gl := x.gl
    have c0 := x.c0 s0.i hrd.i
    have l1 := x.l
    have hi1 : (0 : Int) ≤ (s0.i : Int) := by omega
    have hi2 : (s0.i : Int) < (T.length : Int) := by have := hrd.i; omega
    obtain ⟨f2, rfl, hcase⟩ := prog_inv hd
    clear x hn hkp hrd hd
    rcases hcase with ⟨he, hi, l2, k2, s2, hst, hnx⟩ | ⟨hno, hxx⟩
    · have e1 : (s0.e == 0) = true := by simpa using he
      have e2 : ((dtk T s0.i).1 != 0) = true := by simpa using hi
      have HST := hid (fun w1' (hw : RdM w1' w1.heap.size T 0 s0) => (con_any T w1.heap.size f2).stmt hst hw)
      unfold DG at HST
      have HNX := hid hnx
      have HFL := hid (fun (e : s2.e = 0) => (((dR_goes _ _ _ _ _ _ _ hst).fs rfl).2 e).2)
      have HE0 := hid he
      have L2 := hid (dR_len hst)
      generalize hdt : (dtk T s0.i).1 = d0 at c0 e2
      clear hst hnx hi he hdt
      have HLL := hid (show l0.length + l2.length ≤ 1000000 by have h := (prog_le f2 HNX.out).1; rw [List.length_append] at h; have := HL.out; omega)
      go_upto_region 8 with go_quiet (fail)
      go_wp2_with (first
        | (go_at_call 14; refine (HST.out _ (R3.out.bw (by repeat (first | exact Bw.refl _ | apply Bw.alloc | apply Bw.drewN | apply Bw.drew)))).mono ?_; rintro e w6 ⟨a6, c6, rfl, hn6, hr6, hk6, hl6⟩; have N6 := hid hn6; have R6 := hid hr6; have K6 := hid (show Kp w1.heap.size wr w6 from Kp.trans (Kp.of_bw (by repeat (first | exact Bw.refl _ | apply Bw.alloc | apply Bw.drewN | apply Bw.drew))) hk6); clear hn6 hr6 hk6 hl6)
        | (at_builtin; refine wpList_append_sl (G := fun _ => True) _ rfl _ _ 32 rfl (w1.heap.size + 1) 60 i1 (.agg #[.int .i64 0, .int .i64 0, .string ⟨#[]⟩, .int .i64 0, .int .i64 0]) 5 48 undN8 I1.out.1 I1.out.2.1 I1.out.2.2.1 I1.out.2.2.2 rfl (by decide) (.slice a4 l0.length c4) l0.length (l0.flatMap ndV) rfl (N3.out.kp K6.out (Nat.lt_succ_self _)) (.slice a6 l2.length c6) l2.length (l2.flatMap ndV) rfl N6.out.sl (nd_one _) (by have := HLL.out; unfold maxLen; omega) (by have := HLL.out; omega) (Nat.le_trans Z3.out K6.out.size) ?_; intro v7 w7 ho7 hg7; obtain ⟨a7, c7, rfl⟩ := own_form ho7; have ho7' : Nd w7 (w1.heap.size + 1) (.slice a7 (l0.length + l2.length) c7) (l0 ++ l2) := (by unfold Nd; rw [List.length_append, List.flatMap_append]; exact ho7); have N7 := hid ho7'; have R7 := hid (R6.out.grown (N3.out.kp K6.out (Nat.lt_succ_self _)) hg7); have K7 := hid ((K3.out.trans K6.out).own (N3.out.kp K6.out (Nat.lt_succ_self _)) hg7 (Nat.le_succ _)); have Z7 := hid (Nat.le_trans (Nat.le_trans Z3.out K6.out.size) hg7.size); clear ho7 hg7 ho7')
        | fail)
      case roundEnd =>
        exact ⟨⟨f2, l0 ++ l2, k0 + 1, s2, HNX.out, ⟨_, _, by rw [List.length_append]⟩, N7.out, by omega, rfl, R7.out, K7.out, Z7.out⟩, left_lt R3.out R7.out HE0.out HFL.out⟩
    · obtain ⟨rfl, rfl, rfl⟩ : l0 = L ∧ k0 = K ∧ s0 = S := by simp only [Prod.mk.injEq] at hxx; exact ⟨hxx.1.symm, hxx.2.1.symm, hxx.2.2.symm⟩
      have e1 : (s0.e == 0) = true := by have := HS.out; simpa using this
      have e1' : (s0.e != 0) = false := by have := HS.out; simpa using this
      have hi : (dtk T s0.i).1 = 0 := by
        by_cases h : (dtk T s0.i).1 = 0
        · exact h
        · exact absurd ⟨HS.out, h⟩ hno
      generalize hdt : (dtk T s0.i).1 = d0 at c0 hi
      have e2 : (d0 != 0) = false := by simpa using hi
      clear hno hxx hi hdt
      go_upto_region 10 with go_quiet (fail)
      go_wp2_with (first
        | (go_at_call 15; refine (djoin_any (1, 0, [], 0, 0) k0 _ l0 (N3.out.bw (by repeat (first | exact Bw.refl _ | apply Bw.alloc | apply Bw.drewN | apply Bw.drew))).sl (by omega)).mono ?_; rintro e w8 ⟨a8, c8, rfl, hn8, hb8⟩; have N8 := hid hn8; have B8 := hid hb8; clear hn8 hb8)
        | fail)
      all_goals go_ret3
      all_goals exact ⟨_, _, rfl, N8.out.low (Nat.le_trans (B1.out.trans (K3.out.toBw (Nat.le_refl _))).size (show Bw wr _ from (by repeat (first | exact Bw.refl _ | apply Bw.alloc | apply Bw.drewN | apply Bw.drew))).size), (B1.out.trans (K3.out.toBw (Nat.le_refl _))).trans (Bw.trans (by repeat (first | exact Bw.refl _ | apply Bw.alloc | apply Bw.drewN | apply Bw.drew)) B8.out)⟩

end

end Go.Proofs.YtekkjpecdflajaaDoor

