/- The page's example holds: the contract of 'live'. -/
import Derived.Test.YtajnpdiepiinjaaGreatDoorPI
import Derived.Test.YtajnpdiepiinjaaGreatDoorPL
import Derived.Lib.SmallJoins
set_option linter.unusedSimpArgs false
set_option linter.unusedVariables false
namespace Go.Proofs.YtajnpdiepiinjaaGreatDoor
open Go Go.RowKit

theorem Nx.bw {w w1 w2 : World} {bs bs' : List Nat} (k : Nx bs w1 w2 bs') (h : Bw w w1) (hs : ∀ b ∈ bs, w.heap.size ≤ b) : Bw w w2 ∧ ∀ b ∈ bs', w.heap.size ≤ b :=
  ⟨k.1.below h h.size hs, fun b hb => (k.2 b hb).elim (hs b) (fun hh => Nat.le_trans h.size hh)⟩



/-- A list that was just laid, with marks. -/
theorem sl_new' (w : World) (l : List Value) (e : TypeId) (fr : Nat × Nat) (n : Nat) (hn : l.length = n) : Sl (w.alloc (.cells l.toArray e fr)) (fun _ => True) (.slice (some ⟨w.heap.size, 0, none⟩) n n) n 1 l := by
  refine ⟨by omega, _, n, rfl, ⟨Nat.le_refl _, fun h => by cases h⟩, .inr ⟨_, 0, rfl, by simp, trivial, fun i hi => ?_⟩⟩
  have h := heap_alloc_new w (.cells l.toArray e fr)
  rw [cell_of_row _ _ _ _ _ _ h]
  simp

theorem lv1 : aMakeE (2, []) (oStr [97]) = 0 := by decide
theorem lv2 : aMakeV (2, []) (oStr [97]) = 2 := by decide
theorem lv3 : aMakeH (2, []) (oStr [97]) = (2, [oStr [97]]) := by simp [aMakeH, lv1]
theorem lv4 : aMakeE (2, [oStr [97]]) (oArr [2]) = 0 := by decide
theorem lv5 : aMakeV (2, [oStr [97]]) (oArr [2]) = 6 := by decide
theorem lv6 : aMakeH (2, [oStr [97]]) (oArr [2]) = (2, [oStr [97], oArr [2]]) := by simp [aMakeH, lv4]
theorem lv7 : aMakeE (2, [oStr [97], oArr [2]]) (oCell 1) = 3 := by decide
theorem lv8 : aMakeV (2, [oStr [97], oArr [2]]) (oCell 1) = 0 := by simp [aMakeV, lv7]
theorem lv9 : aMakeH (2, [oStr [97], oArr [2]]) (oCell 1) = (2, [oStr [97], oArr [2]]) := by simp [aMakeH, lv7]
theorem lv10 : aAtV (2, [oStr [97], oArr [2]]) 2 0 = 388 := by decide
theorem lv11 : aAtE (2, [oStr [97], oArr [2]]) 2 0 = 0 := by decide

theorem count_hs {b0 : Nat} {H : AHeap} {bs : List Nat} (w : World) (h : HS w b0 H bs) :
    Calls Tryz.prog 65 #[.pointer (some ⟨b0, 0, none⟩)] w fun e w' => e = .returned (.int .i64 H.2.length) ∧ w' = w := by
  obtain ⟨vo, t, h, _⟩ := h
  exact count_any w h
theorem good_hs {b0 : Nat} {H : AHeap} {bs : List Nat} (v : Int) (hU : U v) (w : World) (h : HS w b0 H bs) :
    Calls Tryz.prog 30 #[.pointer (some ⟨b0, 0, none⟩), .int .u64 v] w fun e w' => e = .returned (.bool (gd H.2.length v)) ∧ w' = w := by
  obtain ⟨vo, t, h, _⟩ := h
  exact good_any v hU w h
theorem kind_hs {b0 : Nat} {H : AHeap} {bs : List Nat} (v : Int) (hU : U v) (w : World) (h : HS w b0 H bs) :
    Calls Tryz.prog 63 #[.pointer (some ⟨b0, 0, none⟩), .int .u64 v] w fun e w' => e = .returned (.int .i64 (kk H v)) ∧ w' = w := by
  obtain ⟨vo, t, h, _⟩ := h
  exact kind_h v hU w h



end Go.Proofs.YtajnpdiepiinjaaGreatDoor
