/- What serves the statements that make objects: full heaps, cells, a call's own block. Nothing of the program's calls is in it. -/
import Derived.Test.YtjemhdepgeecjaaQM7
import Derived.Test.YtjemhdepgeecjaaPW
set_option linter.unusedSimpArgs false
set_option linter.unusedVariables false
namespace Go.Proofs.Ytjemhdepgeecjaa
open Go Go.RowKit

/-- The call, with another number. -/
def AAct.does (a : AAct) (d : Int) : AAct := ⟨d, a.V, a.X, a.I, a.B, a.L, a.K, a.Key, a.Re, a.Im⟩

theorem AOK.does {w : World} {G : Nat → Prop} {a : AAct} {x : Value × Value × Value} (h : AOK w G a x) (d : Int) (hd : -9223372036854775808 ≤ d ∧ d ≤ 9223372036854775807) : AOK w G (a.does d) x :=
  ⟨h.b, h.l, h.k, h.v, h.x, h.i, hd, h.r, h.m, h.bb, h.lu, h.m1, h.m2, h.m3⟩

/-- What came in is of none of the blocks that were made since. -/
theorem AOK.since {w w' : World} {a : AAct} {x : Value × Value × Value} {bs : List Nat} (h : AOK w (fun _ => True) a x) (hb : Bw w w') (hs : ∀ b ∈ bs, w.heap.size ≤ b) : AOK w' (fun b => b ∉ bs) a x :=
  h.keep hb.size (fun b hlt _ => hb.block b hlt) (fun b hlt _ hm => by have := hs b hm; omega)

theorem pLong_mk {a : AAct} (h1 : a.B.length ≤ 300) (h2 : a.L.length ≤ 200) (h3 : a.K.length ≤ 200) : pLong (mkO a) = false := by
  unfold mkO
  split
  · exact decide_eq_false (show ¬ (65536 : Int) < (a.B.length : Int) by omega)
  split
  · exact decide_eq_false (show ¬ (65536 : Int) < (a.L.length : Int) by omega)
  split
  · exact decide_eq_false (show ¬ (256 : Int) < (a.K.length : Int) by omega)
  split
  · rfl
  split
  · exact decide_eq_false (show ¬ (256 : Int) < (a.L.length : Int) by omega)
  split
  · rfl
  · unfold pLong
    have : (oItem (7 + a.Re % 4) a.I).kind = 7 + a.Re % 4 := rfl
    rw [this, if_neg (by omega), if_neg (by omega), if_neg (by omega), if_neg (by omega)]

/-- Where there are as many as there may be, none is made. -/
theorem full_make {H : AHeap} {a : AAct} (hf : H.1 ≤ (H.2.length : Int)) (hl : pLong (mkO a) = false) : (kMakeE H a = 1 ∨ kMakeE H a = 3) ∧ kMakeV H a = 0 ∧ kMakeH H a = H := by
  by_cases hb : kBad a
  · simp [kMakeE, kMakeV, kMakeH, hb]
  · have he : aMakeE H (mkO a) = 1 ∨ aMakeE H (mkO a) = 3 := by
      unfold aMakeE
      rw [if_neg (by rw [hl]; simp)]
      cases pSound H.2.length (mkO a)
      · exact .inl (if_pos rfl)
      · right; rw [if_neg (by simp), if_pos hf]
    have h0 : aMakeE H (mkO a) ≠ 0 := by omega
    refine ⟨by simpa [kMakeE, hb] using he, ?_, ?_⟩
    · simp [kMakeV, hb, aMakeV, h0]
    · simp [kMakeH, hb, aMakeH, h0]

/-- Cells, one with each number from 0 on. -/
def cellsTo (k : Nat) : List AObj := (List.range k).map (fun (j : Nat) => oCell (4 * (j : Int)))

theorem cellsTo_len (k : Nat) : (cellsTo k).length = k := by simp [cellsTo]

theorem cellsTo_succ (k : Nat) : cellsTo k ++ [oCell (4 * (k : Int))] = cellsTo (k + 1) := by
  simp [cellsTo, List.range_succ]

theorem kd_four (k : Nat) : kd (4 * (k : Int)) = 0 := by unfold kd; rw [if_pos (by omega)]

theorem gd_four (n k : Nat) : gd n (4 * (k : Int)) = true := by simp [gd, kd_four]

theorem cellsMkE {n : Int} {k : Nat} (h : (k : Int) < n) : aMakeE (n, cellsTo k) (oCell (4 * (k : Int))) = 0 := by
  have h1 : pLong (oCell (4 * (k : Int))) = false := rfl
  have h2 : pSound (cellsTo k).length (oCell (4 * (k : Int))) = true := by
    show List.all [4 * (k : Int)] (gd _) = true
    simp [gd_four]
  unfold aMakeE
  rw [if_neg (by rw [h1]; simp), if_neg (by rw [h2]; simp), if_neg (by rw [cellsTo_len]; omega)]

theorem cellsMkV {n : Int} {k : Nat} (h : (k : Int) < n) : aMakeV (n, cellsTo k) (oCell (4 * (k : Int))) = 4 * (k : Int) + 2 := by
  unfold aMakeV
  rw [if_pos (cellsMkE h), cellsTo_len]

theorem cellsMkH {n : Int} {k : Nat} (h : (k : Int) < n) : aMakeH (n, cellsTo k) (oCell (4 * (k : Int))) = (n, cellsTo (k + 1)) := by
  unfold aMakeH
  rw [if_pos (cellsMkE h), cellsTo_succ]

theorem kd_ref {k : Nat} (h : k ≤ 65536) : kd (4 * (k : Int) + 2) = 2 := by
  unfold kd
  rw [if_neg (by omega), if_neg (by omega), if_pos (by omega)]
  omega

theorem idx_refN {k : Nat} (h : k ≤ 65536) : idxV (4 * (k : Int) + 2) = k := by
  unfold idxV
  rw [if_pos (.inl (kd_ref h))]
  omega

theorem ob_cells {n : Int} {m k : Nat} (h : k < m) (hm : m ≤ 65536) : ob (n, cellsTo m) (4 * (k : Int) + 2) = oCell (4 * (k : Int)) := by
  unfold ob
  rw [idx_refN (by omega)]
  simp [cellsTo, List.getD, h]

theorem kk_cells {n : Int} {m k : Nat} (h : k < m) (hm : m ≤ 65536) : kk (n, cellsTo m) (4 * (k : Int) + 2) = 4 := by
  unfold kk
  rw [if_pos ⟨kd_ref (by omega), by rw [idx_refN (by omega), cellsTo_len]; omega⟩]
  have := ob_cells (n := n) h hm
  unfold ob at this
  exact (congrArg AObj.kind this).trans rfl

theorem at_cells {n : Int} {m k : Nat} (h : k < m) (hm : m ≤ 65536) : aAtV (n, cellsTo m) (4 * (k : Int) + 2) 0 = 4 * (k : Int) ∧ aAtE (n, cellsTo m) (4 * (k : Int) + 2) 0 = 0 := by
  unfold aAtV aAtE
  rw [kk_cells h hm, ob_cells h hm]
  exact ⟨rfl, rfl⟩

end Go.Proofs.Ytjemhdepgeecjaa
