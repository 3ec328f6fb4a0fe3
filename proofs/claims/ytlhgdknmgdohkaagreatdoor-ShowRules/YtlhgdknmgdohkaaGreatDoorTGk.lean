/- A map keyed by pairs of words, as the row of its keys. -/
import Derived.Test.YtlhgdknmgdohkaaGreatDoorK8
import Derived.DeepKeys4
import Derived.Maps.OwnSet
set_option linter.unusedSimpArgs false
set_option linter.unusedVariables false
namespace Go.Proofs.YtlhgdknmgdohkaaGreatDoor
open Go Go.RowKit

/-- A pair as a value. -/
def pv (p : Int × Int) : Value := .agg #[.int .u64 p.1, .int .u64 p.2]

theorem laidOutP : laidOutB Tryz.prog = true := by kernel_rfl
theorem lawP : Maps.Keyed Tryz.prog 117 := Maps.Keyed.of_law (deep_law_laid laidOutP (m := 2) (by omega) (of_decide_eq_true (by kernel_rfl)) (by kernel_rfl) (by kernel_rfl))
theorem underMm : Tryz.prog.underlying 75 = some (.map 117 3) := by kernel_rfl

theorem pv_inj {p q : Int × Int} (h : pv p = pv q) : p = q := by
  unfold pv at h
  simp at h
  exact Prod.ext h.1 h.2

set_option maxRecDepth 100000 in
theorem keyP (p : Int × Int) (h1 : U p.1) (h2 : U p.2) : ∃ l, keyOf Tryz.prog 117 (pv p) = some l := by
  have w1 : (Lit.int .u64 p.1).wf = true := WalkArith.wf_u64 (by unfold U at h1; omega)
  have w2 : (Lit.int .u64 p.2).wf = true := WalkArith.wf_u64 (by unfold U at h2; omega)
  have c1 : Tryz.prog.cellsOf 27 = 1 := by kernel_rfl
  have c2 : Tryz.prog.cellsOf 117 = 2 := by kernel_rfl
  have hkt : Tryz.prog.keyType 117 = true := by kernel_rfl
  have hf : (pv p).formed Tryz.prog 117 = true := by unfold pv Value.formed; simp [Tryz.underlying117, c2]
  have uv : Tryz.prog.underlying 27 = some (.int .u64) := by kernel_rfl
  obtain ⟨n, hn⟩ : ∃ n, Tryz.prog.types.size = n + 1 := ⟨Tryz.prog.types.size - 1, by have : 0 < Tryz.prog.types.size := of_decide_eq_true (by kernel_rfl); omega⟩
  unfold keyOf
  rw [Tryz.underlying117]
  simp only [hkt, hf, Bool.and_self, if_true]
  rw [hn]
  simp [Program.keyLits, Tryz.underlying117, c1, c2, uv, pv, Value.cells, w1, w2]

/-- The datum of a map that has just these keys. -/
structure RowP (D : DataW Unit) (Ms : List (Int × Int)) : Prop where
  tidy : Maps.Tidy D
  size : Maps.size D = Ms.length
  nd : Ms.Nodup
  has : ∀ (p : Int × Int) (l : Lit), keyOf Tryz.prog 117 (pv p) = some l → Maps.has D l = decide (p ∈ Ms)

theorem RowP.nil : RowP (.map []) [] := ⟨Maps.tidy_empty, rfl, List.nodup_nil, fun p l _ => by simp [Maps.has]⟩

theorem RowP.snoc {D : DataW Unit} {Ms : List (Int × Int)} (h : RowP D Ms) {p : Int × Int} {l : Lit} (hl : keyOf Tryz.prog 117 (pv p) = some l) (hp : p ∉ Ms) (d : DataW Unit) : RowP (D.put l d) (Ms ++ [p]) where
  tidy := h.tidy.put (lawP.key hl) _
  size := by
    rw [Maps.size_put h.tidy, h.has p l hl]
    simp [hp, h.size]
  nd := by
    rw [List.nodup_append]
    exact ⟨h.nd, by simp, by intro a ha b hb; simp at hb; subst hb; intro e; subst e; exact hp ha⟩
  has := fun q m hm => by
    by_cases hq : q = p
    · subst hq
      have : m = l := Option.some.inj (hm.symm.trans hl)
      subst this
      rw [Maps.has_put_same h.tidy.isMap (lawP.key hl)]
      simp
    · have hne : m ≠ l := fun e => by
        subst e
        exact hq (pv_inj (lawP.inj hm hl))
      rw [Maps.has_put_other hne, h.has q m hm]
      simp [hq]

/-- The block b is a map that has just these keys. -/
def MP (w : World) (b : Nat) (Ms : List (Int × Int)) : Prop := ∃ D, w.ownsMap Tryz.prog 117 (plainElem (H := Unit) Tryz.prog 3) b Ms.length D ∧ RowP D Ms

theorem MP.lt {w : World} {b : Nat} {Ms : List (Int × Int)} (h : MP w b Ms) : b < w.heap.size := by
  obtain ⟨D, h, _⟩ := h
  exact h.lt
theorem MP.keep {w w' : World} {b : Nat} {Ms : List (Int × Int)} (h : MP w b Ms) (hb : w'.heap[b]? = w.heap[b]?) : MP w' b Ms := by
  obtain ⟨D, ⟨es, clock, h1, r⟩, hr⟩ := h
  exact ⟨D, ⟨es, clock, hb.trans h1, r⟩, hr⟩

end Go.Proofs.YtlhgdknmgdohkaaGreatDoor

