/- The document's words and names: the contracts. -/
import Derived.Test.YtekkjpecdflajaaDoorM4
set_option linter.unusedSimpArgs false
set_option linter.unusedVariables false
namespace Go.Proofs.YtekkjpecdflajaaDoor
open Go Go.RowKit

set_option maxHeartbeats 400000 in
theorem rdigit_any (c : Int) (w : World) :
    Calls Tryd.prog 22 #[.int .u8 c] w fun e w' => e = .returned (.bool (isDg c)) ∧ w' = w := by
  go_enter Tryd.func22, Tryd.ntmps22
  go_wp2
  all_goals go_ret
  all_goals refine ⟨ret_bool ?_, rfl⟩
  all_goals (rw [Bool.eq_iff_iff]; simp_all [isDg]; try omega)

set_option maxHeartbeats 400000 in
theorem rletter_any (c : Int) (w : World) :
    Calls Tryd.prog 21 #[.int .u8 c] w fun e w' => e = .returned (.bool (isLt c)) ∧ w' = w := by
  go_enter Tryd.func21, Tryd.ntmps21
  go_wp2
  all_goals go_ret
  all_goals refine ⟨ret_bool ?_, rfl⟩
  all_goals (rw [Bool.eq_iff_iff]; simp_all [isLt]; try omega)

/-- The words, as values. -/
def wdv : Array Value := (words.map fun s => Value.string (strOfNums s)).toArray

theorem wd_get (i : Nat) (h : i < 18) : ∃ s, words[i]? = some s ∧ wdv[i]? = some (.string (strOfNums s)) ∧ (∀ c ∈ s, 0 ≤ c ∧ c ≤ 255) := by
  have : ∀ i : Fin 18, (∀ c ∈ words.getD i.val [], 0 ≤ c ∧ c ≤ 255) := by decide
  have hi : words[i]? = some (words.getD i []) := by
    rw [List.getD_eq_getElem?_getD, List.getElem?_eq_getElem (by exact h)]; rfl
  refine ⟨_, hi, ?_, this ⟨i, h⟩⟩
  unfold wdv
  rw [List.getElem?_toArray, List.getElem?_map, hi]; rfl

set_option maxHeartbeats 4000000 in
theorem rWord_any (l : List Int) (hb : ∀ c ∈ l, 0 ≤ c ∧ c ≤ 255) (w : World) :
    Calls Tryd.prog 23 #[.string (strOfNums l)] w fun e w' => e = .returned (.bool (isWord l)) ∧ Ly w w' := by
  have HBD := hid hb
  clear hb
  go_enter Tryd.func23, Tryd.ntmps23
  go_wp2
  go_loopw [4] (fun j wr => ∃ i, i ≤ 18 ∧ j = .int .i64 (i : Nat) ∧ wr = w.alloc (.cells wdv 101) ∧ (words.take i).all (fun s => decide (s ≠ l)) = true) (fun j _ => 18 - (intOf j).toNat)
  case atStart => exact ⟨0, Nat.zero_le _, rfl, rfl, by simp⟩
  case round =>
    obtain ⟨i, hi, rfl, hwr, ha⟩ := hrel
    subst wr
    have HA := hid ha
    clear ha
    by_cases hlt : i < 18
    · obtain ⟨s, hs1, hs2, hs5⟩ := wd_get i hlt
      have hlt2 : (i : Int) < 18 := by omega
      have hc : (w.alloc (.cells wdv 101)).cell? ⟨w.heap.size, i, none⟩ = some (.string (strOfNums s)) := by
        rw [World.cell?_alloc_mark]; exact hs2
      have H1 := hid hs1
      by_cases hsl : s = l
      · subst hsl
        have hf : isWord s = true := by
          simp only [isWord, decide_eq_true_eq]
          exact List.mem_of_getElem? H1.out
        have HF := hid hf
        clear hs1 hs2 hs5 hf
        generalize strOfNums s = x at *
        go_wp2
        all_goals go_ret
        all_goals exact ⟨ret_bool HF.out.symm, Ly.alloc (Ly.refl _) _⟩
      · have hne := strOf_ne hs5 HBD.out hsl
        have hs' : (words.take (i + 1)).all (fun s => decide (s ≠ l)) = true := by
          rw [all_take_get _ H1.out, HA.out]; simpa using hsl
        have HS' := hid hs'
        clear hs1 hs2 hs5 hs' hsl
        generalize strOfNums s = x at *
        generalize strOfNums l = y at *
        go_wp2
        go_roundw
        case rel => exact ⟨i + 1, by omega, by go_num, trivial, HS'.out⟩
        case measure => simp [intOf]; omega
    · have hf : isWord l = false := by
        have := HA.out
        rw [List.take_of_length_le (by show words.length ≤ i; have : words.length = 18 := rfl; omega)] at this
        simp only [isWord, decide_eq_false_iff_not]
        intro hmem
        have := List.all_eq_true.1 this l hmem
        simp at this
      have HF := hid hf
      clear hf
      go_wp2
      all_goals go_ret
      all_goals exact ⟨ret_bool HF.out.symm, Ly.alloc (Ly.refl _) _⟩



end Go.Proofs.YtekkjpecdflajaaDoor

