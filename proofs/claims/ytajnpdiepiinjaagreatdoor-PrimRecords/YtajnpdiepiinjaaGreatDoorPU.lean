/- The statements' own list of an object's entries: the contract. -/
import Derived.Test.YtajnpdiepiinjaaGreatDoorPL
import Derived.Test.YtajnpdiepiinjaaGreatDoorPV
import Derived.Test.YtajnpdiepiinjaaGreatDoorPN
set_option linter.unusedSimpArgs false
set_option linter.unusedVariables false
namespace Go.Proofs.YtajnpdiepiinjaaGreatDoor
open Go Go.RowKit

/-- How many entries there are to be asked for. -/
def aLen (H : AHeap) (v : Int) : Nat := if kk H v = 1 then (ob H v).bytes.length else if kk H v = 2 ∨ kk H v = 4 then (ob H v).vals.length else 0

def aList (H : AHeap) (v : Int) : List Int := (List.range (min 400 (aLen H v))).map (fun i => aAtV H v (i : Nat))

theorem atE_in {H : AHeap} {v : Int} {i : Nat} (h : i < aLen H v) : aAtE H v i = 0 := by
  unfold aLen at h
  unfold aAtE
  by_cases k1 : kk H v = 1
  · rw [if_pos k1] at h ⊢
    exact if_pos ⟨by omega, by omega⟩
  · rw [if_neg k1] at h ⊢
    by_cases k2 : kk H v = 2 ∨ kk H v = 4
    · rw [if_pos k2] at h ⊢
      exact if_pos ⟨by omega, by omega⟩
    · rw [if_neg k2] at h; omega

theorem atE_out {H : AHeap} {v : Int} {i : Nat} (h : ¬ i < aLen H v) : (aAtE H v i != 0) = true := by
  rw [bne_iff_ne]
  unfold aLen at h
  unfold aAtE
  by_cases k1 : kk H v = 1
  · rw [if_pos k1] at h ⊢
    rw [if_neg (by omega)]; decide
  · rw [if_neg k1] at h ⊢
    by_cases k2 : kk H v = 2 ∨ kk H v = 4
    · rw [if_pos k2] at h ⊢
      rw [if_neg (by omega)]; decide
    · rw [if_neg k2]; decide

theorem range_snoc (f : Nat → Value) (k : Nat) : (List.range k).map f ++ [f k] = (List.range (k + 1)).map f := by
  rw [List.range_succ, List.map_append]; rfl

theorem aList_len (H : AHeap) (v : Int) : (aList H v).length = min 400 (aLen H v) := by simp [aList]

theorem aList_cells (H : AHeap) (v : Int) : (aList H v).map (Value.int .u64) = (List.range (min 400 (aLen H v))).map (fun i => Value.int .u64 (aAtV H v (i : Nat))) := by
  simp [aList]

/-- Of an array of not too many entries: all of them. -/
theorem aList_vals {H : AHeap} {v : Int} (hk : kk H v = 2 ∨ kk H v = 4) (hl : (ob H v).vals.length ≤ 400) : aList H v = (ob H v).vals := by
  have h1 : kk H v ≠ 1 := by omega
  have hn : aLen H v = (ob H v).vals.length := by unfold aLen; rw [if_neg h1, if_pos hk]
  apply List.ext_getElem
  · rw [aList_len, hn]; omega
  · intro i h2 h3
    simp only [aList, List.getElem_map, List.getElem_range]
    unfold aAtV
    rw [if_neg h1, if_pos hk, if_pos ⟨by omega, by omega⟩]
    simp [h3]



end Go.Proofs.YtajnpdiepiinjaaGreatDoor
