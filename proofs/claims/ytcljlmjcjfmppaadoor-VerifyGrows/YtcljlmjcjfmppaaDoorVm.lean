/- heightsOf: the contract. -/
import Derived.Test.YtcljlmjcjfmppaaDoorVk
set_option linter.unusedSimpArgs false
set_option linter.unusedVariables false
namespace Go.Proofs.YtcljlmjcjfmppaaDoor
open Go Go.RowKit

theorem own_blk {w : World} {base g n : Nat} {e : TypeId} {xs : List Value} (h : w.ownsRow base e 1 (.slice (some ⟨g, 0, none⟩) n n) n xs) : Blk w g xs.toArray e := by
  rcases h.2 with ⟨h1, _⟩ | ⟨g', cap, cur, h1, _, hg, _, _, hsz, ht⟩
  · cases h1
  · cases h1
    have hl : cur.toList = xs := by
      rw [← ht, List.take_of_length_le]
      rw [Array.length_toList, hsz]
      omega
    unfold Blk
    rw [hg, ← hl]
theorem set_fill (n i : Nat) (hi : i < n) : (List.replicate i (-1 : Int) ++ List.replicate (n - i) 0).set i (-1) = List.replicate (i + 1) (-1 : Int) ++ List.replicate (n - (i + 1)) 0 := by
  obtain ⟨k, hk⟩ : ∃ k, n - i = k + 1 := ⟨n - i - 1, by omega⟩
  rw [hk, show n - (i + 1) = k by omega, List.set_append, if_neg (by simp), List.length_replicate, Nat.sub_self, List.replicate_succ (n := k), List.set_cons_zero, List.replicate_succ' (n := i), List.append_assoc]
  rfl
theorem flow_stop {m : AIm} {f : AFn} {N k : Nat} {s : HSt} (h : ¬ k < s.row.length) : flow m f N k s = s := by
  cases N with
  | zero => rfl
  | succ N => rw [flow, if_neg h]
theorem flow_go {m : AIm} {f : AFn} {N k : Nat} {s : HSt} (h : k < s.row.length) (ho : (oneM m f s (s.row.getD k 0)).2 = true) : flow m f (N + 1) k s = flow m f N (k + 1) (oneM m f s (s.row.getD k 0)).1 := by
  rw [flow, if_pos h, if_pos ho]
theorem flow_no {m : AIm} {f : AFn} {N k : Nat} {s : HSt} (h : k < s.row.length) (ho : (oneM m f s (s.row.getD k 0)).2 = false) : flow m f (N + 1) k s = (oneM m f s (s.row.getD k 0)).1 := by
  rw [flow, if_pos h, if_neg (by rw [ho]; decide)]
theorem runL_row : ∀ (l : List (Int × Int)) (s : HSt), s.row.length ≤ (runL s l).1.row.length
  | [], s => Nat.le_refl _
  | (p, v) :: t, s => by
    have h1 : s.row.length ≤ (reachM s p v).row.length := by
      unfold reachM
      split
      · simp
      · split <;> exact Nat.le_refl _
    unfold runL
    split
    · exact Nat.le_trans h1 (runL_row t _)
    · exact h1
theorem runL_f : ∀ (l : List (Int × Int)) (s : HSt), s.f = -1 → (runL s l).2 = true → (runL s l).1.f = -1
  | [], s, h, _ => h
  | (p, v) :: t, s, h, h2 => by
    unfold runL at h2 ⊢
    split at h2
    · rename_i h3; rw [if_pos h3]; exact runL_f t _ h3 h2
    · cases h2

/-- Where the instructions are right all places are. -/
theorem leads_ok {m : AIm} {f : AFn} {k : Nat} {op a bb h kept after : Int} (hc : CdOk m f) (hk : k < f.code.length) (hop : f.code[k] = (op, a, bb)) (hf : fitM f op k kept after = true) (hn : nxt op = true ∨ True) (h1 : 0 ≤ after) (h2 : 0 ≤ h ∧ h ≤ 257) : ∀ y ∈ leads f op a k h after, (0 ≤ y.1 ∧ y.1 < f.code.length) ∧ 0 ≤ y.2 ∧ y.2 ≤ 257 := by
  have hI := hc.1 k hk
  rw [hop] at hI
  have hr : ¬ (a < (rngM m f k op).1 ∨ (rngM m f k op).2 ≤ a) ∧ isOp op = true := by
    unfold inF at hI
    simp only at hI
    by_cases ho : isOp op = true
    · rw [if_neg (by rw [ho]; decide)] at hI
      refine ⟨fun hx => ?_, ho⟩
      rw [if_pos hx] at hI
      cases hI
    · rw [if_pos (by simpa using ho)] at hI
      cases hI
  have hT : ∀ y ∈ tgts f k f.tries, (0 ≤ y.1 ∧ y.1 < f.code.length) ∧ 0 ≤ y.2 ∧ y.2 ≤ 257 := by
    intro y hy
    unfold tgts at hy
    obtain ⟨t, ht, rfl⟩ := List.mem_map.1 hy
    have := tryR_bd (hc.2 t (List.mem_filter.1 ht).1)
    simp only
    omega
  simp only [fitM, Bool.and_eq_true, decide_eq_true_eq, Bool.not_eq_true', Bool.and_eq_false_iff, beq_eq_false_iff_ne] at hf
  have hN : nxt op = true → (0 ≤ (k : Int) + 1 ∧ (k : Int) + 1 < f.code.length) := by
    intro hx
    rcases hf.2 with h3 | h3
    · rw [hx] at h3; cases h3
    · omega
  intro y hy
  unfold leads at hy
  split at hy
  · rename_i ho
    simp only [List.mem_singleton] at hy
    subst hy
    have hx : rngM m f k op = ((k : Int) + 1, (f.code.length : Int)) ∨ rngM m f k op = (0, (k : Int) + 1) := by
      rcases ho with rfl | rfl
      · left; rfl
      · right; rfl
    rcases hx with hx | hx
    · rw [hx] at hr; simp only at hr ⊢; omega
    · rw [hx] at hr; simp only at hr ⊢; omega
  · split at hy
    · cases hy
    · split at hy
      · exact hT y hy
      · split at hy
        · rename_i h20 h27 h28 ho
          subst ho
          have hx : rngM m f k 21 = ((k : Int) + 1, (f.code.length : Int)) := rfl
          rw [hx] at hr
          rcases List.mem_cons.1 hy with rfl | hy
          · have := hN rfl; simp only; omega
          rcases List.mem_cons.1 hy with rfl | hy
          · simp only at hr ⊢; omega
          · exact hT y hy
        · split at hy
          · rename_i h20 h27 h28 h21 ho
            have hx : rngM m f k op = ((k : Int) + 1, (f.code.length : Int)) := by rcases ho with rfl | rfl <;> rfl
            have hx2 : nxt op = true := by rcases ho with rfl | rfl <;> rfl
            rw [hx] at hr
            rcases List.mem_cons.1 hy with rfl | hy
            · have := hN hx2; simp only; omega
            rcases List.mem_cons.1 hy with rfl | hy
            · simp only at hr ⊢; omega
            · exact hT y hy
          · rename_i h20 h27 h28 h21 h22
            have hx2 : nxt op = true := by simp [nxt]; omega
            rcases List.mem_cons.1 hy with rfl | hy
            · have := hN hx2; simp only; omega
            · exact hT y hy

end Go.Proofs.YtcljlmjcjfmppaaDoor
