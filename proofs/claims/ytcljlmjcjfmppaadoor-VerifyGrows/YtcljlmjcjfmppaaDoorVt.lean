/- Straight code as plain data: its heights. -/
import Derived.Test.YtcljlmjcjfmppaaDoorVe
set_option linter.unusedSimpArgs false
set_option linter.unusedVariables false
namespace Go.Proofs.YtcljlmjcjfmppaaDoor
open Go Go.RowKit

def stI (n : Nat) : List (Int × Int × Int) := (List.range n).map fun (i : Nat) => ((0 : Int), (i : Int), (0 : Int))
def stP (k : Nat) : List (Int × Int × Int) := List.replicate k ((4 : Int), (0 : Int), (0 : Int))
def stC (n : Nat) : List (Int × Int × Int) := stI n ++ stP (n - 1) ++ [(27, 0, 0)]
def oneF (l : List (Int × Int × Int)) : AFn := ⟨0, 0, [], [], l, []⟩
def oneI (l : List (Int × Int × Int)) : AIm := ⟨[oneF l], [], [], 0⟩
def hgt (n i : Nat) : Int := if i ≤ n then i else 2 * n - i

theorem stC_len {n : Nat} (h : 1 ≤ n) : (stC n).length = 2 * n := by
  unfold stC stI stP
  simp
  omega

theorem stC_at {n k : Nat} (h : 1 ≤ n) (hk : k < 2 * n) : (stC n)[k]? = some (if k < n then (0, (k : Int), 0) else if k < 2 * n - 1 then (4, 0, 0) else (27, 0, 0)) := by
  unfold stC stI stP
  by_cases h1 : k < n
  · rw [if_pos h1, List.append_assoc, List.getElem?_append_left (by simp; omega)]
    simp [h1]
  · rw [if_neg h1, List.append_assoc, List.getElem?_append_right (by simp; omega)]
    simp only [List.length_map, List.length_range]
    by_cases h2 : k < 2 * n - 1
    · rw [if_pos h2, List.getElem?_append_left (by simp; omega), List.getElem?_replicate, if_pos (by omega)]
    · rw [if_neg h2, List.getElem?_append_right (by simp; omega)]
      have : k - n - (n - 1) = 0 := by omega
      simp [this]

theorem stC_getD {n k : Nat} (h : 1 ≤ n) (hk : k < 2 * n) : (stC n).getD k (0, 0, 0) = if k < n then (0, (k : Int), 0) else if k < 2 * n - 1 then (4, 0, 0) else (27, 0, 0) := by
  rw [List.getD_eq_getElem?_getD, stC_at h hk, Option.getD_some]

/-- The heights after so many steps. -/
def stS (n k : Nat) : HSt := ⟨(List.range (2 * n)).map (fun i => if i ≤ k then hgt n i else -1), (List.range (k + 1)).map (fun (i : Nat) => (i : Int)), -1⟩

theorem stS_h {n k i : Nat} (hi : i < 2 * n) : (stS n k).h.getD i 0 = if i ≤ k then hgt n i else -1 := by
  unfold stS
  simp [List.getD_eq_getElem?_getD, hi]

theorem stS_row {n k i : Nat} (hi : i ≤ k) : (stS n k).row.getD i 0 = i := by
  unfold stS
  simp only [List.getD_eq_getElem?_getD, List.getElem?_map]
  rw [List.getElem?_range (by omega)]
  rfl

theorem stS_next {n k : Nat} (hk : k + 1 < 2 * n) : reachM (stS n k) ((k : Int) + 1) (hgt n (k + 1)) = stS n (k + 1) := by
  have e1 : ((k : Int) + 1).toNat = k + 1 := by omega
  unfold reachM
  rw [e1, stS_h hk, if_neg (show ¬ (k + 1 ≤ k) by omega), if_pos rfl]
  unfold stS
  simp only [HSt.mk.injEq]
  refine ⟨?_, ?_, trivial⟩
  · apply List.ext_getElem?
    intro j
    by_cases hj : j < 2 * n
    · by_cases hjk : k + 1 = j
      · subst hjk
        rw [List.getElem?_set_self (by simpa using hj)]
        simp [hj]
      · rw [List.getElem?_set_ne hjk]
        simp only [List.getElem?_map, List.getElem?_range hj, Option.map_some]
        by_cases h2 : j ≤ k
        · rw [if_pos h2, if_pos (by omega)]
        · rw [if_neg h2, if_neg (by omega)]
    · rw [List.getElem?_eq_none (by simp; omega), List.getElem?_eq_none (by simp; omega)]
  · rw [List.range_succ (n := k + 1), List.map_append]
    simp

theorem eff0 (a : Int) : (effM [] 0 a).1 = 0 ∧ (effM [] 0 a).2.1 = 1 := by
  constructor <;> rfl
theorem eff4 : (effM [] 4 0).1 = 1 ∧ (effM [] 4 0).2.1 = 0 := by
  constructor <;> rfl
theorem eff27 : (effM [] 27 0).1 = 1 ∧ (effM [] 27 0).2.1 = 0 := by
  constructor <;> rfl

theorem st_one {n k : Nat} (h : 1 ≤ n) (hk : k + 1 < 2 * n) (hle : hgt n (k + 1) ≤ 256) : oneM (oneI (stC n)) (oneF (stC n)) (stS n k) k = (stS n (k + 1), true) := by
  unfold oneM
  simp only [oneI, oneF, Int.toNat_natCast, stC_getD h (show k < 2 * n by omega), stS_h (n := n) (k := k) (i := k) (by omega), if_pos (Nat.le_refl k)]
  have hn := stS_next (n := n) hk
  by_cases h1 : k < n
  · simp only [if_pos h1, (eff0 k).1, (eff0 k).2]
    have e : hgt n k - 0 + 1 = hgt n (k + 1) := by unfold hgt; rw [if_pos (by omega), if_pos (by omega)]; omega
    have e0 : (0 : Int) ≤ hgt n k - 0 := by unfold hgt; rw [if_pos (by omega)]; omega
    rw [e]
    have hf : fitM ⟨0, 0, [], [], stC n, []⟩ 0 k (hgt n k - 0) (hgt n (k + 1)) = true := by
      unfold fitM nxt
      simp only [stC_len h]
      simp [hle, e0]
      omega
    rw [if_pos hf]
    simp only [List.any_nil, leads, tgts, List.filter_nil, List.map_nil]
    simp [runL, hn]
    rfl
  · have h2 : k < 2 * n - 1 := by omega
    simp only [if_neg h1, if_pos h2, eff4.1, eff4.2]
    have e : hgt n k - 1 + 0 = hgt n (k + 1) := by unfold hgt; split <;> split <;> omega
    have e0 : (0 : Int) ≤ hgt n k - 1 := by unfold hgt; split <;> omega
    rw [e]
    have hf : fitM ⟨0, 0, [], [], stC n, []⟩ 4 k (hgt n k - 1) (hgt n (k + 1)) = true := by
      unfold fitM nxt
      simp only [stC_len h]
      simp [hle, e0]
      omega
    rw [if_pos hf]
    simp only [List.any_nil, leads, tgts, List.filter_nil, List.map_nil]
    simp [runL, hn]
    rfl

theorem st_bad {n : Nat} (h : 256 < n) : oneM (oneI (stC n)) (oneF (stC n)) (stS n 256) (256 : Nat) = ({ stS n 256 with f := 256 }, false) := by
  unfold oneM
  simp only [oneI, oneF, Int.toNat_natCast, stC_getD (show 1 ≤ n by omega) (show 256 < 2 * n by omega), stS_h (n := n) (k := 256) (i := 256) (by omega), if_pos (Nat.le_refl 256), if_pos h, (eff0 _).1, (eff0 _).2]
  have e : hgt n 256 - 0 + 1 = 257 := by unfold hgt; rw [if_pos (by omega)]; rfl
  rw [e, if_neg (by unfold fitM; simp)]
  rfl

theorem st_end {n : Nat} (h : 1 ≤ n) : oneM (oneI (stC n)) (oneF (stC n)) (stS n (2 * n - 1)) ((2 * n - 1 : Nat) : Int) = (stS n (2 * n - 1), true) := by
  unfold oneM
  simp only [oneI, oneF, Int.toNat_natCast, stC_getD h (show 2 * n - 1 < 2 * n by omega), stS_h (n := n) (k := 2 * n - 1) (i := 2 * n - 1) (by omega), if_pos (Nat.le_refl (2 * n - 1)), if_neg (show ¬ 2 * n - 1 < n by omega), if_neg (show ¬ 2 * n - 1 < 2 * n - 1 by omega), eff27.1, eff27.2]
  have e : hgt n (2 * n - 1) = 1 := by unfold hgt; split <;> omega
  rw [e]
  have hf : fitM ⟨0, 0, [], [], stC n, []⟩ 27 ((2 * n - 1 : Nat) : Int) (1 - 1) (1 - 1 + 0) = true := by
    unfold fitM nxt
    simp
  rw [if_pos hf]
  simp [leads, runL]

theorem st_row_len (n k : Nat) : (stS n k).row.length = k + 1 := by unfold stS; simp

theorem flow_next {n k N : Nat} (h : 1 ≤ n) (hk : k + 1 < 2 * n) (hle : hgt n (k + 1) ≤ 256) : flow (oneI (stC n)) (oneF (stC n)) (N + 1) k (stS n k) = flow (oneI (stC n)) (oneF (stC n)) N (k + 1) (stS n (k + 1)) := by
  rw [flow, if_pos (by rw [st_row_len]; omega), stS_row (Nat.le_refl k), st_one h hk hle, if_pos rfl]

theorem flow_many {n : Nat} (h : 1 ≤ n) : ∀ (j : Nat) (N : Nat), j < 2 * n → (∀ i, i ≤ j → hgt n i ≤ 256) → flow (oneI (stC n)) (oneF (stC n)) (N + j) 0 (stS n 0) = flow (oneI (stC n)) (oneF (stC n)) N j (stS n j)
  | 0, N, _, _ => rfl
  | j + 1, N, hj, hle => by
    rw [show N + (j + 1) = (N + 1) + j by omega, flow_many h j (N + 1) (by omega) (fun i hi => hle i (by omega)), flow_next h hj (hle _ (Nat.le_refl _))]

theorem st_flow0 {n : Nat} (h : 1 ≤ n) : flow0 (oneF (stC n)) = stS n 0 := by
  unfold flow0 oneF
  simp only [stC_len h]
  unfold reachM stS
  simp only [Int.toNat_zero]
  rw [if_pos (by rw [List.getD_eq_getElem?_getD, List.getElem?_replicate, if_pos (by omega)]; rfl)]
  simp only [HSt.mk.injEq]
  refine ⟨?_, rfl, trivial⟩
  apply List.ext_getElem?
  intro j
  by_cases hj : j < 2 * n
  · by_cases hj0 : 0 = j
    · subst hj0
      rw [List.getElem?_set_self (by simpa using hj)]
      simp [hj, hgt]
    · rw [List.getElem?_set_ne hj0, List.getElem?_replicate, if_pos hj]
      simp only [List.getElem?_map, List.getElem?_range hj, Option.map_some]
      rw [if_neg (by omega)]
  · rw [List.getElem?_eq_none (by simp; omega), List.getElem?_eq_none (by simp; omega)]

theorem hgt_le {n i : Nat} (hi : i ≤ 2 * n) : hgt n i ≤ n := by unfold hgt; split <;> omega

/-- Not too many: the heights go up and down. -/
theorem flow_st {n N : Nat} (h : 1 ≤ n) (h2 : n ≤ 256) (hN : 2 * n < N) : flow (oneI (stC n)) (oneF (stC n)) N 0 (flow0 (oneF (stC n))) = stS n (2 * n - 1) := by
  obtain ⟨M, rfl⟩ : ∃ M, N = (M + 2) + (2 * n - 1) := ⟨N - 2 - (2 * n - 1), by omega⟩
  rw [st_flow0 h, flow_many h _ _ (by omega) (fun i hi => Int.le_trans (hgt_le (by omega)) (by omega))]
  rw [flow, if_pos (by rw [st_row_len]; omega), stS_row (Nat.le_refl _), st_end h, if_pos rfl, flow, if_neg (by rw [st_row_len]; omega)]

/-- Too many: a fault at 256. -/
theorem flow_stB {n N : Nat} (h2 : 256 < n) (hN : 2 * n < N) : (flow (oneI (stC n)) (oneF (stC n)) N 0 (flow0 (oneF (stC n)))).f = 256 := by
  obtain ⟨M, rfl⟩ : ∃ M, N = (M + 1) + 256 := ⟨N - 257, by omega⟩
  rw [st_flow0 (by omega), flow_many (by omega) _ _ (by omega) (fun i hi => by unfold hgt; rw [if_pos (by omega)]; omega)]
  rw [flow, if_pos (by rw [st_row_len]; omega), stS_row (Nat.le_refl _), st_bad h2]
  rfl

theorem stS_end (n : Nat) (h : 1 ≤ n) : (stS n (2 * n - 1)).h = (List.range (2 * n)).map (hgt n) := by
  unfold stS
  apply List.map_congr_left
  intro i hi
  rw [List.mem_range] at hi
  rw [if_pos (by omega)]

theorem inF_op {m : AIm} {f : AFn} {k : Int} : inF m f k (4, 0, 0) = 0 ∧ inF m f k (27, 0, 0) = 0 := by
  constructor <;> simp [inF, isOp, rngM]

theorem st_ok {n : Nat} (h : 1 ≤ n) (h3 : n ≤ 300) : CdOk (oneI (stC n)) (oneF (stC n)) := by
  refine ⟨fun i hi => ?_, fun t ht => by cases ht⟩
  have hi2 : i < 2 * n := by rw [← stC_len h]; exact hi
  have e : (oneF (stC n)).code[i] = (if i < n then (0, (i : Int), 0) else if i < 2 * n - 1 then (4, 0, 0) else (27, 0, 0)) := by
    have := stC_at h hi2
    rw [List.getElem?_eq_getElem (by rw [stC_len h]; exact hi2)] at this
    exact Option.some.inj this
  rw [e]
  by_cases h1 : i < n
  · rw [if_pos h1]
    simp [inF, isOp, rngM]
    omega
  · rw [if_neg h1]
    by_cases h2 : i < 2 * n - 1
    · rw [if_pos h2]; exact inF_op.1
    · rw [if_neg h2]; exact inF_op.2

theorem fr_ok (l : List (Int × Int × Int)) (h : 1 ≤ l.length) (h2 : l.length ≤ 65536) : frF (oneF l) true = 0 := by
  unfold frF oneF
  simp only
  rw [if_neg (by simp only [List.length_nil]; omega), if_neg (by simp [boxR, ownR])]

end Go.Proofs.YtcljlmjcjfmppaaDoor
