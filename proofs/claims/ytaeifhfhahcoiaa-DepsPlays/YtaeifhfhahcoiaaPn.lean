/- A registry beside a row that is written over. -/
import Derived.Test.YtaeifhfhahcoiaaFr
set_option linter.unusedSimpArgs false
set_option linter.unusedVariables false
namespace Go.Proofs.Ytaeifhfhahcoiaa
open Go Go.RowKit

structure TS (w wr : World) (p : Nat) (bs : List Nat) (F G : Nat) (rv : Value) (L : List (VV × Value)) (e : TypeId) (size : Nat) (v : Value) (n : Nat) : Prop where
  bw : Bw w wr
  ds : DS wr p bs F G rv L
  row : n = 0 ∨ ∃ g cap cur, v = .slice (some ⟨g, 0, none⟩) n cap ∧ g ∉ bs ∧ w.heap.size ≤ g ∧ Blk wr g cur e ∧ n * size ≤ cur.size

section
variable {w wr : World} {p : Nat} {bs : List Nat} {F G : Nat} {rv : Value} {L : List (VV × Value)} {e : TypeId} {size : Nat} {v : Value} {n : Nat}

theorem TS.of_own {base : Nat} {xs : List Value} (hb : Bw w wr) (hd : DS wr p bs F G rv L) (h : wr.ownsRow base e size v n xs) (h1 : w.heap.size ≤ base) (h2 : ∀ b ∈ bs, b < base) : TS w wr p bs F G rv L e size v n := by
  refine ⟨hb, hd, ?_⟩
  by_cases h0 : n = 0
  · exact .inl h0
  · obtain ⟨g, cap, cur, e1, hg, hblk, hc1, hc2, hsz, ht⟩ := own_parts h h0
    refine .inr ⟨g, cap, cur, e1, fun hm => by have := h2 g hm; omega, by omega, hblk, ?_⟩
    have := Nat.mul_le_mul_right size hc1
    omega

theorem TS.at (h : TS w wr p bs F G rv L e size v n) {k j : Nat} (hk : k < n) (hj : j < size) : ∃ g cap, v = .slice (some ⟨g, 0, none⟩) n cap ∧ g < wr.heap.size ∧ (∃ u, wr.cell? ⟨g, k * size + j, none⟩ = some u) ∧ (∀ i, wr.frozen? ⟨g, i, none⟩ = false) ∧ ∀ u, TS w (wr.setCell ⟨g, k * size + j, none⟩ u) p bs F G rv L e size v n := by
  rcases h.row with h0 | ⟨g, cap, cur, e1, hg, hw, hblk, hsz⟩
  · omega
  · have h2 : k * size + j < cur.size := by
      have := Nat.mul_le_mul_right size (show k + 1 ≤ n from hk)
      rw [Nat.succ_mul] at this
      omega
    refine ⟨g, cap, e1, hblk.lt, ⟨_, (hblk.cell _).trans (Array.getElem?_eq_getElem h2)⟩, hblk.free, fun u => ⟨Bw.setCell h.bw hw u, h.ds.ex (cs := [g]) (Ex.set (Ex.refl _ _) (.inl (by simp)) _ _) (fun b hb hm => by simp at hm; subst hm; exact hg hb), .inr ⟨g, cap, _, e1, hg, hw, hblk.set _ u, by simpa using hsz⟩⟩⟩
end

theorem one_of {L : List (VV × Value)} {x : VV} (h : L.map Prod.fst = [x]) : ∃ u, L = [(x, u)] := by
  match L, h with
  | [(y, u)], h => simp at h; subst h; exact ⟨u, rfl⟩

theorem all_one {P : VV → Bool} {x : VV} (h : P x = true) : all P [x] = [0] := by simp [all, idx, h]
theorem wrote_own {g v : Int} {x : VV} (h : hit g v x = true) : wroteL g v [x] = [off x] := by simp [wroteL, h]

theorem addE_own {l : List (Int × Int)} (h : nms 50 l = true) : addE 2 50 [] 1 l = 0 := by
  have h2 : oneOf 1 2 = true := by decide
  simp [addE, h, h2, all, idx, cnt]
theorem addE_own1 {l : List (Int × Int)} (h : nms 50 l = false) : addE 2 50 [] 1 l = 1 := by simp [addE, h]

theorem wrap_ne {v : Int} (h : U v) : (v != IntKind.u64.wrap (v + 4)) = true := by
  unfold U at h
  have : IntKind.u64.wrap (v + 4) ≠ v := by
    simp [IntKind.wrap, IntKind.bits, IntKind.signed]
    omega
  simpa using fun e => this e.symm
theorem hit_own {y : Int × Int} {l : List (Int × Int)} (h : U y.2) : hit y.1 (IntKind.u64.wrap (y.2 + 4)) ⟨1, y :: l, true⟩ = true := by
  have := wrap_ne h
  simp only [hit, List.any_cons, this]
  simp

end Go.Proofs.Ytaeifhfhahcoiaa
