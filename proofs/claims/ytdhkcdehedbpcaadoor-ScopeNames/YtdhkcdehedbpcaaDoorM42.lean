/- The document's Check; the table of kinds out of the condition; both Checks of any list. · What ScopeNames' walk wants besides: Resolve, whatever comes of it; scopes under stores into what is no part of them; scopes without anything. -/
import Derived.Test.YtdhkcdehedbpcaaDoorM41
import Derived.Test.YtdhkcdehedbpcaaDoorM12
import Derived.Test.YtdhkcdehedbpcaaDoorM40
import Derived.Test.YtdhkcdehedbpcaaDoorM39
set_option linter.unusedSimpArgs false
set_option linter.unusedVariables false
namespace Go.Proofs.YtdhkcdehedbpcaaDoor
open Go.ChangeShapes Go.WideShapes Go.ChangeAt Go.RowKit

set_option maxRecDepth 100000 in
set_option maxHeartbeats 8000000 in
theorem rCheck_any (g o cap : Nat) (L : List ANode) (h0 : 0 < L.length) (hl : L.length ≤ 1000) (w : World) (h : NC w g o L) :
  Calls Tryd.prog 16 #[.slice (some ⟨g, o, none⟩) L.length cap] w fun e w' => e = .returned (.tuple #[.int .i64 (ckD L).1, .int .i64 (ckD L).2]) ∧ Bw w w' := by
 have hne : L ≠ [] := by intro e; rw [e] at h0; simp at h0
 have hz : ((L.length : Int) == 0) = false := by rw [beq_eq_false_iff_ne]; omega
 have HC := hid (rcheck_any g o cap L hl (L.length + 1) 0 1 w h (Nat.zero_le _) (by omega) ⟨by decide, by decide⟩)
 have herr := ckR_err (L.length + 1) L 0 1 (by omega)
 have hsuf := ckR_suf (L.length + 1) L 0 1
 have hlen := ckR_len (L.length + 1) L 0 1
 rw [show ckD L = match ckR (L.length + 1) L 0 1 with | .bad p e => ((p : Int), e) | .ok r p => if r = [] then (0, 0) else ((p : Int), 6) from if_neg hne]
 rw [List.drop_zero, show plR 1 = 0 from rfl, show ((0 : Nat) : Int) = 0 from rfl] at HC
 clear h hne
 cases hc : ckR (L.length + 1) L 0 1 with
 | bad p e9 =>
  rw [hc] at HC herr
  have hen : (e9 != 0) = true := by rcases herr with h | h | h <;> subst h <;> rfl
  clear hsuf hlen hc herr
  dsimp only [crV] at HC ⊢
  go_enter Tryd.func16, Tryd.ntmps16
  go_wp2_with (first
   | (go_at_call 31; refine HC.out.mono ?_; rintro e w7 ⟨rfl, hb7⟩; have B7 := hid hb7; clear hb7)
   | fail)
  all_goals go_ret2
  all_goals exact ⟨rfl, B7.out⟩
 | ok r p =>
  rw [hc] at HC hsuf hlen
  obtain ⟨hl1, _⟩ := hlen
  clear hc herr
  dsimp only [crV] at HC ⊢
  by_cases hr : r = []
  ·rw [if_pos hr]
   have hp : ¬ (p : Int) < (L.length : Int) := by rw [hr] at hl1; simp at hl1; omega
   clear hsuf hl1 hr
   go_enter Tryd.func16, Tryd.ntmps16
   go_wp2_with (first
    | (go_at_call 31; refine HC.out.mono ?_; rintro e w7 ⟨rfl, hb7⟩; have B7 := hid hb7; clear hb7)
    | fail)
   all_goals go_ret2
   all_goals exact ⟨rfl, B7.out⟩
  ·rw [if_neg hr]
   have hp : (p : Int) < (L.length : Int) := by
    have : 0 < r.length := List.length_pos_iff.2 hr
    omega
   clear hsuf hl1 hr
   go_enter Tryd.func16, Tryd.ntmps16
   go_wp2_with (first
    | (go_at_call 31; refine HC.out.mono ?_; rintro e w7 ⟨rfl, hb7⟩; have B7 := hid hb7; clear hb7)
    | fail)
   all_goals go_ret2
   all_goals exact ⟨rfl, B7.out⟩

set_option maxRecDepth 100000 in
set_option maxHeartbeats 4000000 in
theorem rCheck_nil (a : Option Addr) (cap : Nat) (w : World) :
  Calls Tryd.prog 16 #[.slice a 0 cap] w fun e w' => e = .returned (.tuple #[.int .i64 0, .int .i64 6]) ∧ w' = w := by
 go_enter Tryd.func16, Tryd.ntmps16
 go_wp2
 all_goals go_ret2
 all_goals exact ⟨rfl, rfl⟩

end Go.Proofs.YtdhkcdehedbpcaaDoor

namespace Go.Proofs.YtdhkcdehedbpcaaDoor
open Go Go.RowKit

theorem resolve_some {w : World} {a : Option Addr} {L : List ANode} (h : NA w a L) (hl : L.length ≤ 1000) (cap : Nat) (hh : Sh w) (hp : PrM w) :
  Calls Tryd.prog 10 #[.slice a L.length cap] w fun e w' => ∃ (fa ua ga : Option Addr) (nf fc nu uc ng gc : Nat) (er pl : Int), e = .returned (.tuple #[.agg #[.slice fa nf fc, .slice ua nu uc, .slice ga ng gc], .int .i64 er, .int .i64 pl]) ∧ Bw w w' := by
 by_cases he : rsE L = 0
 ·refine (resolve_ok h hl cap hh hp he).mono ?_
  rintro e w' ⟨vf, vu, vg, rfl, _, ⟨fa, fc, e1⟩, ⟨ua, uc, e2⟩, ⟨ga, gc, e3⟩, _, hb⟩
  subst e1 e2 e3
  exact ⟨_, _, _, _, _, _, _, _, _, _, _, rfl, hb⟩
 ·refine (resolve_bad h hl cap hh hp he).mono ?_
  rintro e w' ⟨rfl, hb⟩
  exact ⟨none, none, none, 0, 0, 0, 0, 0, 0, _, _, rfl, hb⟩

theorem ScM.set {w : World} {vf vu vg : Value} {z : ZS} (h : ScM w vf vu vg z) {g : Nat} {cur : Array Value} (hb : Blk w g cur 31) (j : Nat) (u : Value) : ScM (w.setCell ⟨g, j, none⟩ u) vf vu vg z := by
 have key : ∀ {base : Nat} {e : TypeId} {size : Nat} {v : Value} {n : Nat} {xs : List Value}, w.ownsRow base e size v n xs → e ≠ 31 → (w.setCell ⟨g, j, none⟩ u).ownsRow base e size v n xs := fun ho hne =>
  own_keep8 ho (fun b hbb => Below.heap_setCell _ _ _ b (fun k => by
   rcases own_not ho hb hne with h1 | h1
   ·rw [h1] at hbb; cases hbb
   ·exact h1 (by rw [hbb, k])))
 obtain ⟨K, h1, h2, h3⟩ := h.f
 exact ⟨⟨K, h1, key h2 (by decide), fun i k hk => key (h3 i k hk) (by decide)⟩, key h.u (by decide), key h.g (by decide)⟩

def zNo : ZS := ⟨none, 0, 0, 0, [], [], [], [], fun _ => none, 0, 0, 0, 0⟩
theorem sc_no (w : World) : ScM w (.slice none 0 0) (.slice none 0 0) (.slice none 0 0) zNo :=
 ⟨⟨[], rfl, World.ownsRow_nil _ _ _ _, fun i k hk => by simp at hk⟩, World.ownsRow_nil _ _ _ _, World.ownsRow_nil _ _ _ _⟩

theorem rn_na {w : World} {base : Nat} {a : Option Addr} {c : Nat} {L : List ANode} (ho : w.ownsRow base 43 5 (.slice a L.length c) L.length ((rnL L).flatMap ndV)) (hk : ∀ n ∈ L, NdOk n) (hs : ∀ n ∈ L, n.2.2.1.length ≤ 140737488351232) : NA w a (rnL L) := by
 intro i hi
 have hi' : i < L.length := by rw [rnL_len] at hi; exact hi
 obtain ⟨g, e, hl, hc⟩ := own_at ho (by omega)
 refine ⟨g, 0, e, hl, fun j hj => ?_, ?_⟩
 ·rw [Nat.zero_add, hc _ (by omega)]
  exact flat_get8 ndV 5 (fun _ => rfl) (rnL L) i j (rnL L)[i] (List.getElem?_eq_getElem hi) hj
 ·have e1 : (rnL L)[i] = rnN (zN L i) := (zN_get hi).trans (rn_get i)
  rw [e1, ← zN_get hi']
  have hm := List.getElem_mem hi'
  obtain ⟨h1, h2, ⟨h3, h4⟩, h5, h6⟩ := hk _ hm
  have hz := hs _ hm
  unfold rnN
  split
  ·refine ⟨h1, h2, ⟨fun c hc => ?_, ?_⟩, h5, h6⟩
   ·rcases List.mem_append.1 hc with hc | hc
    ·exact h3 c hc
    ·simp at hc; omega
   ·simp only [List.length_append, List.length_cons, List.length_nil]; unfold maxLen; omega
  ·exact ⟨h1, h2, ⟨h3, h4⟩, h5, h6⟩
theorem na_ok {w : World} {a : Option Addr} {L : List ANode} (h : NA w a L) : ∀ n ∈ L, NdOk n := by
 intro n hn
 obtain ⟨i, hi, rfl⟩ := List.mem_iff_getElem.1 hn
 obtain ⟨_, _, _, _, _, hk⟩ := h i hi
 exact hk
theorem NA.bw {w w' : World} {a : Option Addr} {L : List ANode} (h : NA w a L) (hb : Bw w w') : NA w' a L := by
 intro i hi
 obtain ⟨b, off, e, hl, hc, hk⟩ := h i hi
 exact ⟨b, off, e, Nat.lt_of_lt_of_le hl hb.size, fun j hj => (World.cell?_of_block (w := w) (w' := w') (a := ⟨b, off + (i * 5 + j), none⟩) (hb.block b hl)).trans (hc j hj), hk⟩

def ckE (L : List ANode) : Int := (ckP L).2
theorem dcheck_any {w : World} {a : Option Addr} {L : List ANode} (h : NA w a L) (hl : L.length ≤ 1000) (cap : Nat) : Calls Tryd.prog 16 #[.slice a L.length cap] w fun e w' => ∃ x : Int, e = .returned (.tuple #[.int .i64 x, .int .i64 (ckE L)]) ∧ Bw w w' := by
 rcases Nat.eq_zero_or_pos L.length with h0 | h0
 ·have : L = [] := List.length_eq_zero_iff.1 h0
  subst this
  refine (rCheck_nil a cap w).mono ?_
  rintro e w' ⟨rfl, rfl⟩
  exact ⟨0, rfl, Bw.refl _⟩
 ·obtain ⟨g, o, rfl, hm⟩ := na_nc h h0
  refine (rCheck_any g o cap L h0 hl w hm).mono ?_
  rintro e w' ⟨rfl, hb⟩
  refine ⟨(ckD L).1, ?_, hb⟩
  unfold ckE
  rw [ck_same]

theorem rn_prims {L : List ANode} (i : Nat) : primN (zT (rnL L) i) < 0 ∨ (0 ≤ primN (zT (rnL L) i) ∧ primN (zT L i) = primN (zT (rnL L) i)) := by
 by_cases hn : isNamed (zN L i) = true
 ·rw [rn_text hn]
  unfold primN
  rw [ren_prim]
  cases primF (zT L i) with
  | none => left; simp
  | some n => right; exact ⟨by simp, rfl⟩
 ·have e : zT (rnL L) i = zT L i := by
   unfold zT
   rw [rn_get]
   unfold rnN
   rw [if_neg (by simp [hn])]
  rw [e]
  rcases Int.lt_or_le (primN (zT L i)) 0 with h | h
  ·exact .inl h
  ·exact .inr ⟨h, rfl⟩

theorem own_max {w : World} {base : Nat} {e : TypeId} {size : Nat} {v : Value} {n : Nat} {xs : List Value} (h : w.ownsRow base e size v n xs) : n ≤ 9223372036854775807 := by
 rcases h.2 with ⟨_, h0⟩ | ⟨g, cap, cur, e1, hbb, hg, h1, h2, h3, h4⟩
 ·omega
 ·unfold maxLen at *; omega

def rsS (L : List ANode) : ZS := if rsE L = 0 then rsZ L else zNo
theorem resolve_sc {w : World} {a : Option Addr} {L : List ANode} (h : NA w a L) (hl : L.length ≤ 1000) (cap : Nat) (hh : Sh w) (hp : PrM w) :
  Calls Tryd.prog 10 #[.slice a L.length cap] w fun e w' => ∃ (fa ua ga : Option Addr) (fc uc gc : Nat), e = .returned (.tuple #[.agg #[.slice fa (rsS L).funs.length fc, .slice ua (rsS L).uses.length uc, .slice ga (rsS L).globals.length gc], .int .i64 (rsE L), .int .i64 (rsP L)]) ∧ ScM w' (.slice fa (rsS L).funs.length fc) (.slice ua (rsS L).uses.length uc) (.slice ga (rsS L).globals.length gc) (rsS L) ∧ Bw w w' := by
 by_cases he : rsE L = 0
 ·have hS : rsS L = rsZ L := by unfold rsS; rw [if_pos he]
  rw [hS]
  have hP : rsP L = 0 := by
   obtain ⟨_, hf, hc, _⟩ := rs_in hl he
   unfold rsP; rw [if_neg (fun k => k hc), if_neg (fun k => k hf)]
  rw [he, hP]
  refine (resolve_ok h hl cap hh hp he).mono ?_
  rintro e w' ⟨vf, vu, vg, rfl, hsc, ⟨fa, fc, e1⟩, ⟨ua, uc, e2⟩, ⟨ga, gc, e3⟩, hul, hb⟩
  rw [← hul] at e2
  subst e1 e2 e3
  exact ⟨_, _, _, _, _, _, rfl, hsc, hb⟩
 ·have hS : rsS L = zNo := by unfold rsS; rw [if_neg he]
  rw [hS]
  refine (resolve_bad h hl cap hh hp he).mono ?_
  rintro e w' ⟨rfl, hb⟩
  exact ⟨none, none, none, 0, 0, 0, rfl, sc_no _, hb⟩

structure RnS (L : List ANode) : Prop where
 e : rsE (rnL L) = rsE L
 p : rsP (rnL L) = rsP L
 fu : (rsS (rnL L)).funs = (rsS L).funs
 us : (rsS (rnL L)).uses = (rsS L).uses
 de : (rsS (rnL L)).declared = (rsS L).declared
 gl : (rsS (rnL L)).globals = (rsS L).globals.map fun s => s ++ q9
 gz : ∀ s ∈ (rsS L).globals, s.size ≤ 140737488351232
 fl : (rsS L).funs.length ≤ 100000
 ul : (rsS L).uses.length ≤ 100000
 gn : (rsS L).globals.length ≤ 100000
theorem rn_sc {L : List ANode} (hl : L.length ≤ 1000) (hc : ckE L = 0) (hc' : ckE (rnL L) = 0) (hz : ∀ n ∈ L, n.2.2.1.length ≤ 140737488351232) : RnS L := by
 have R := rn_all hl hc hc'
 have hc1 : (ckP L).2 = 0 := by unfold ckE at hc; exact hc
 have hc1' : (ckP (rnL L)).2 = 0 := by unfold ckE at hc'; exact hc'
 have e1 : rsE L = (rsZ L).fault := by unfold rsE; rw [if_neg (by unfold ckE at hc; omega)]
 have e2 : rsE (rnL L) = (rsZ (rnL L)).fault := by unfold rsE; rw [if_neg (by unfold ckE at hc'; omega)]
 have he : rsE (rnL L) = rsE L := by rw [e1, e2, R.fa]
 have hp : rsP (rnL L) = rsP L := by
  unfold rsP
  rw [if_neg (c := (ckP (rnL L)).2 ≠ 0) (fun k => k hc1'), if_neg (c := (ckP L).2 ≠ 0) (fun k => k hc1), R.fa, R.fy, rn_get, (rn_kind _).2.2]
 by_cases h0 : rsE L = 0
 ·have hS : rsS L = rsZ L := by unfold rsS; rw [if_pos h0]
  have hS' : rsS (rnL L) = rsZ (rnL L) := by unfold rsS; rw [if_pos (by rw [he]; exact h0)]
  obtain ⟨RO, hf, _, _⟩ := rs_in hl h0
  have hgg := RO.gg hf
  have hsn := RO.sn hf
  have hul : (rsZ L).uses.length = L.length := by
   have := tot_all (A := rsA L) hl (L.length - 1) (kidsA (zN L 0) (rsN L) 0) 1 L.length (4 * (L.length - 1) + 1) (zstart L) (Nat.le_refl _) RO.fo (by
    have key : ∀ (k : Nat) (x : Int), ∀ a ∈ kidsA (zN L 0) k x, a ≠ 1 := by
     intro k
     induction k with
     | zero => intro x a h; cases h
     | succ k ih =>
      intro x a h
      rcases List.mem_cons.1 h with h | h
      ·rw [h]; unfold stP; rw [if_pos (.inl RO.k0)]; decide
      ·exact ih _ a h
    exact key _ _) (Nat.le_refl _) rfl (zstart_inv L) (Nat.le_refl _)
   obtain ⟨v, h1, h2, _⟩ := this
   rw [kidsA_len] at h1
   rw [RO.re] at h1
   rw [Option.some.inj h1]
   exact h2.inv.ul
  have hgl : (rsZ L).globals.length ≤ rsN L := by
   rw [hgg, List.length_map]
   refine Nat.le_trans (List.length_filter_le _ _) ?_
   rw [rts_len]; exact Nat.le_refl _
  refine ⟨he, hp, by rw [hS, hS', R.fu], by rw [hS, hS', R.us], by rw [hS, hS', R.de], by rw [hS, hS', R.gl], fun s hs => ?_, ?_, ?_, ?_⟩
  ·rw [hS, hgg] at hs
   obtain ⟨x, hx, rfl⟩ := List.mem_map.1 hs
   have hx2 : x ∈ rts L (rsN L) 1 := (List.mem_filter.1 hx).1
   have hfo := RO.fo
   have h3 := rts_lt hfo x (by rw [kidsA_len]; exact hx2)
   unfold zT
   rw [strOfNums_size, ← zN_get h3.2]
   exact hz _ (List.getElem_mem h3.2)
  ·rw [hS]
   have := congrArg List.length hsn
   unfold skn at this
   rw [List.length_map, List.length_cons] at this
   have h4 : (fnR L 1 L.length).length ≤ L.length := by
    unfold fnR
    rw [List.length_map]
    refine Nat.le_trans (List.length_filter_le _ _) ?_
    rw [List.length_range']; omega
   omega
  ·rw [hS, hul]; omega
  ·rw [hS]; have := RO.nl; omega
 ·have hS : rsS L = zNo := by unfold rsS; rw [if_neg h0]
  have hS' : rsS (rnL L) = zNo := by unfold rsS; rw [if_neg (by rw [he]; exact h0)]
  exact ⟨he, hp, by rw [hS, hS'], by rw [hS, hS'], by rw [hS, hS'], by rw [hS, hS']; rfl, (fun s hs => by rw [hS] at hs; cases hs), by rw [hS]; decide, by rw [hS]; decide, by rw [hS]; decide⟩
theorem ScM.caps {w : World} {a : Option Addr} {n cap : Nat} {vu vg : Value} {z : ZS} (h : ScM w (.slice a n cap) vu vg z) (hn : n = z.funs.length) : ∀ f ∈ z.funs, f.caps.length ≤ 9223372036854775807 := by
 intro f hf
 obtain ⟨i, hi⟩ := List.getElem?_of_mem hf
 obtain ⟨b, _, _, _, _, _, cv, _, h7⟩ := h.fn hn hi
 exact own_max h7
end Go.Proofs.YtdhkcdehedbpcaaDoor

