/- The page's example holds: the contract of 'live'. · The statements' own list of an object's entries: the contract. -/
import Derived.Test.YtjcoifdfemejkaaGreatDoorPIk
import Derived.Test.YtjcoifdfemejkaaGreatDoorPLk
import Derived.Lib.SmallJoins
import Derived.Test.YtjcoifdfemejkaaGreatDoorM4
set_option linter.unusedSimpArgs false
set_option linter.unusedVariables false
namespace Go.Proofs.YtjcoifdfemejkaaGreatDoor
open Go Go.RowKit

theorem Nx.bw {w w1 w2 : World} {bs bs' : List Nat} (k : Nx bs w1 w2 bs') (h : Bw w w1) (hs : ∀ b ∈ bs, w.heap.size ≤ b) : Bw w w2 ∧ ∀ b ∈ bs', w.heap.size ≤ b :=
  ⟨k.1.below h h.size hs, fun b hb => (k.2 b hb).elim (hs b) (fun hh => Nat.le_trans h.size hh)⟩



/-- A list that was just laid, with marks. -/
theorem sl_new' (w : World) (l : List Value) (e : TypeId) (fr : Nat × Nat) (n : Nat) (hn : l.length = n) : Sl (w.alloc (.cells l.toArray e fr)) (fun _ => True) (.slice (some ⟨w.heap.size, 0, none⟩) n n) n 1 l := by
  refine ⟨by omega, _, n, rfl, ⟨Nat.le_refl _, fun h => by cases h⟩, .inr ⟨_, 0, rfl, by simp, trivial, fun i hi => ?_⟩⟩
  have h := heap_alloc_new w (.cells l.toArray e fr)
  rw [cell_of_row _ _ _ _ _ _ h]
  simp

theorem lv1 : aMakeE (2, []) (oStr [97]) = 0 := by decide
theorem lv2 : aMakeV (2, []) (oStr [97]) = 2 := by decide
theorem lv3 : aMakeH (2, []) (oStr [97]) = (2, [oStr [97]]) := by simp [aMakeH, lv1]
theorem lv4 : aMakeE (2, [oStr [97]]) (oArr [2]) = 0 := by decide
theorem lv5 : aMakeV (2, [oStr [97]]) (oArr [2]) = 6 := by decide
theorem lv6 : aMakeH (2, [oStr [97]]) (oArr [2]) = (2, [oStr [97], oArr [2]]) := by simp [aMakeH, lv4]
theorem lv7 : aMakeE (2, [oStr [97], oArr [2]]) (oCell 1) = 3 := by decide
theorem lv8 : aMakeV (2, [oStr [97], oArr [2]]) (oCell 1) = 0 := by simp [aMakeV, lv7]
theorem lv9 : aMakeH (2, [oStr [97], oArr [2]]) (oCell 1) = (2, [oStr [97], oArr [2]]) := by simp [aMakeH, lv7]
theorem lv10 : aAtV (2, [oStr [97], oArr [2]]) 2 0 = 388 := by decide
theorem lv11 : aAtE (2, [oStr [97], oArr [2]]) 2 0 = 0 := by decide

theorem count_hs {b0 : Nat} {H : AHeap} {bs : List Nat} (w : World) (h : HS w b0 H bs) :
    Calls Tryz.prog 52 #[.pointer (some ⟨b0, 0, none⟩)] w fun e w' => e = .returned (.int .i64 H.2.length) ∧ w' = w := by
  obtain ⟨vo, t, h, _⟩ := h
  exact count_any w h
theorem good_hs {b0 : Nat} {H : AHeap} {bs : List Nat} (v : Int) (hU : U v) (w : World) (h : HS w b0 H bs) :
    Calls Tryz.prog 71 #[.pointer (some ⟨b0, 0, none⟩), .int .u64 v] w fun e w' => e = .returned (.bool (gd H.2.length v)) ∧ w' = w := by
  obtain ⟨vo, t, h, _⟩ := h
  exact good_any v hU w h
theorem kind_hs {b0 : Nat} {H : AHeap} {bs : List Nat} (v : Int) (hU : U v) (w : World) (h : HS w b0 H bs) :
    Calls Tryz.prog 49 #[.pointer (some ⟨b0, 0, none⟩), .int .u64 v] w fun e w' => e = .returned (.int .i64 (kk H v)) ∧ w' = w := by
  obtain ⟨vo, t, h, _⟩ := h
  exact kind_h v hU w h



end Go.Proofs.YtjcoifdfemejkaaGreatDoor

set_option linter.unusedSimpArgs false
set_option linter.unusedVariables false
namespace Go.Proofs.YtjcoifdfemejkaaGreatDoor
open Go Go.RowKit

/-- How many entries there are to be asked for. -/
def aLen (H : AHeap) (v : Int) : Nat := if kk H v = 1 then (ob H v).bytes.length else if kk H v = 2 ∨ kk H v = 4 then (ob H v).vals.length else 0

def aList (H : AHeap) (v : Int) : List Int := (List.range (min 400 (aLen H v))).map (fun i => aAtV H v (i : Nat))

theorem atE_in {H : AHeap} {v : Int} {i : Nat} (h : i < aLen H v) : aAtE H v i = 0 := by
  unfold aLen at h
  unfold aAtE
  by_cases k1 : kk H v = 1
  · rw [if_pos k1] at h ⊢
    exact if_pos ⟨by omega, by omega⟩
  · rw [if_neg k1] at h ⊢
    by_cases k2 : kk H v = 2 ∨ kk H v = 4
    · rw [if_pos k2] at h ⊢
      exact if_pos ⟨by omega, by omega⟩
    · rw [if_neg k2] at h; omega

theorem atE_out {H : AHeap} {v : Int} {i : Nat} (h : ¬ i < aLen H v) : (aAtE H v i != 0) = true := by
  rw [bne_iff_ne]
  unfold aLen at h
  unfold aAtE
  by_cases k1 : kk H v = 1
  · rw [if_pos k1] at h ⊢
    rw [if_neg (by omega)]; decide
  · rw [if_neg k1] at h ⊢
    by_cases k2 : kk H v = 2 ∨ kk H v = 4
    · rw [if_pos k2] at h ⊢
      rw [if_neg (by omega)]; decide
    · rw [if_neg k2]; decide

theorem range_snoc (f : Nat → Value) (k : Nat) : (List.range k).map f ++ [f k] = (List.range (k + 1)).map f := by
  rw [List.range_succ, List.map_append]; rfl

theorem aList_len (H : AHeap) (v : Int) : (aList H v).length = min 400 (aLen H v) := by simp [aList]

theorem aList_cells (H : AHeap) (v : Int) : (aList H v).map (Value.int .u64) = (List.range (min 400 (aLen H v))).map (fun i => Value.int .u64 (aAtV H v (i : Nat))) := by
  simp [aList]

/-- Of an array of not too many entries: all of them. -/
theorem aList_vals {H : AHeap} {v : Int} (hk : kk H v = 2 ∨ kk H v = 4) (hl : (ob H v).vals.length ≤ 400) : aList H v = (ob H v).vals := by
  have h1 : kk H v ≠ 1 := by omega
  have hn : aLen H v = (ob H v).vals.length := by unfold aLen; rw [if_neg h1, if_pos hk]
  apply List.ext_getElem
  · rw [aList_len, hn]; omega
  · intro i h2 h3
    simp only [aList, List.getElem_map, List.getElem_range]
    unfold aAtV
    rw [if_neg h1, if_pos hk, if_pos ⟨by omega, by omega⟩]
    simp [h3]



end Go.Proofs.YtjcoifdfemejkaaGreatDoor

