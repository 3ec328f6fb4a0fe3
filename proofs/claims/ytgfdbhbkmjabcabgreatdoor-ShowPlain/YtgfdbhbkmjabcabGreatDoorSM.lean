/- A map from words to ints as the row of its keys, each with its place. Nothing of the program is in it. -/
import Derived.Maps.OwnSet
import Derived.WalkKit
set_option linter.unusedSimpArgs false
set_option linter.unusedVariables false
namespace Go.Proofs.YtgfdbhbkmjabcabGreatDoor
open Go Go.RowKit

/-- The datum of a map that has just these keys, each with its place in the row. -/
structure RowD (D : DataW Unit) (W : List Int) : Prop where
  tidy : Maps.Tidy D
  size : Maps.size D = W.length
  nd : W.Nodup
  has : ∀ v : Int, Maps.has D (.int .u64 v) = decide (v ∈ W)
  at_ : ∀ (i : Nat) (v : Int), W[i]? = some v → D.atKey (.int .u64 v) (.lit (.int .i64 0)) = .lit (.int .i64 i)

theorem RowD.nil : RowD (.map []) [] := ⟨Maps.tidy_empty, rfl, List.nodup_nil, fun v => by simp [Maps.has], fun i v h => by simp at h⟩

theorem key_u64 (v : Int) : WideAt.IsKeyLit (.int .u64 v) := by simp [WideAt.IsKeyLit]

theorem RowD.snoc {D : DataW Unit} {W : List Int} (h : RowD D W) {v : Int} (hv : v ∉ W) : RowD (D.put (.int .u64 v) (.lit (.int .i64 W.length))) (W ++ [v]) where
  tidy := h.tidy.put (key_u64 v) _
  size := by
    have h1 := h.has v
    rw [Maps.size_put h.tidy, h1]
    simp [hv, h.size]
  nd := by
    rw [List.nodup_append]
    exact ⟨h.nd, by simp, by intro a ha b hb; simp at hb; subst hb; intro e; subst e; exact hv ha⟩
  has := fun u => by
    by_cases hu : u = v
    · subst hu
      rw [Maps.has_put_same h.tidy.isMap (key_u64 u)]
      simp
    · rw [Maps.has_put_other (by simpa using hu), h.has u]
      simp [hu]
  at_ := fun i u hi => by
    by_cases hl : i < W.length
    · rw [List.getElem?_append_left hl] at hi
      have hm : u ∈ W := List.mem_of_getElem? hi
      have hu : u ≠ v := fun e => by subst e; exact hv hm
      rw [Maps.atKey_put_other (by simpa using hu)]
      exact h.at_ i u hi
    · rw [List.getElem?_append_right (by omega)] at hi
      have h0 : i - W.length = 0 := by
        have := (List.getElem?_eq_some_iff.1 hi).1
        simp at this; omega
      rw [h0] at hi
      simp at hi
      subst hi
      rw [Maps.atKey_put_same h.tidy.isMap (key_u64 v)]
      have : i = W.length := by omega
      rw [this]

theorem RowD.pop {D : DataW Unit} {W : List Int} {v : Int} (h : RowD D (W ++ [v])) : RowD (D.del (.int .u64 v)) W := by
  have hnd := h.nd
  rw [List.nodup_append] at hnd
  have hv : v ∉ W := fun hm => hnd.2.2 v hm v (by simp) rfl
  refine ⟨h.tidy.del _, ?_, hnd.1, fun u => ?_, fun i u hi => ?_⟩
  · have h1 := h.has v
    have h2 := Maps.size_del (k := .int .u64 v) h.tidy
    rw [h1, h.size] at h2
    simp at h2
    omega
  · by_cases hu : u = v
    · subst hu
      rw [Maps.has_del_same]
      simp [hv]
    · rw [Maps.has_del_other (by simpa using hu), h.has u]
      simp [hu]
  · have hm : u ∈ W := List.mem_of_getElem? hi
    have hu : u ≠ v := fun e => by subst e; exact hv hm
    rw [Maps.atKey_del_other (by simpa using hu)]
    exact h.at_ i u (by rw [List.getElem?_append_left (List.getElem?_eq_some_iff.1 hi).1]; exact hi)

/-- The block b is a map that has just these keys, each with its place in the row. -/
def MW (P : Program) (k e : TypeId) (w : World) (b : Nat) (W : List Int) : Prop := ∃ D, w.ownsMap P k (plainElem (H := Unit) P e) b W.length D ∧ RowD D W

theorem own_tight {P : Program} {k : TypeId} {R : Value → Option (DataW Unit × List MemPlace)} {w : World} {b n m : Nat} {D : DataW Unit} (h : w.ownsMap P k R b n D) (hm : Maps.size D = m) : w.ownsMap P k R b m D := by
  obtain ⟨es, clock, hb, F, hs, rfl⟩ := h
  refine ⟨es, clock, hb, F, ?_, rfl⟩
  rw [← hm]
  simp [Maps.size, length_sorted]

theorem MW.lt {P : Program} {k e : TypeId} {w : World} {b : Nat} {W : List Int} (h : MW P k e w b W) : b < w.heap.size := by
  obtain ⟨D, h, _⟩ := h
  exact h.lt

/-- A map whose block stays stays. -/
theorem MW.keep {P : Program} {k e : TypeId} {w w' : World} {b : Nat} {W : List Int} (h : MW P k e w b W) (hb : w'.heap[b]? = w.heap[b]?) : MW P k e w' b W := by
  obtain ⟨D, ⟨es, clock, h1, r⟩, hr⟩ := h
  exact ⟨D, ⟨es, clock, hb.trans h1, r⟩, hr⟩

end Go.Proofs.YtgfdbhbkmjabcabGreatDoor
