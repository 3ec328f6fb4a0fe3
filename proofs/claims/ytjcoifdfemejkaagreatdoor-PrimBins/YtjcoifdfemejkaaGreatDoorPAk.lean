/- The program's searches in lists: the contracts. -/
import Derived.Test.YtjcoifdfemejkaaGreatDoorWTk
set_option linter.unusedSimpArgs false
set_option linter.unusedVariables false
namespace Go.Proofs.YtjcoifdfemejkaaGreatDoor
open Go Go.RowKit

set_option maxHeartbeats 2000000 in
theorem ixS_any (G : Nat → Prop) (sv : Value) (ks : List ByteArray) (s : ByteArray) (w : World) (h : Sl w G sv ks.length 1 (ks.map Value.string)) (hm : ks.length ≤ 9223372036854775807) :
    Calls Tryz.prog 130 #[sv, .string s] w fun e w' => e = .returned (.int .i64 (aKey ks s)) ∧ w' = w := by
  have HO := hid h
  obtain ⟨ak, ck, rfl⟩ := h.form
  clear h
  go_enter Tryz.func130, Tryz.ntmps130
  go_wp2
  go_loopw [8] (fun j wr => ∃ k, k ≤ ks.length ∧ j = .int .i64 k ∧ wr = w ∧ ∀ i (hi : i < k) (hl : i < ks.length), ks[i] ≠ s) (fun j _ => ks.length - (intOf j).toNat)
  case atStart => exact ⟨0, Nat.zero_le _, rfl, rfl, fun i hi => absurd hi (by omega)⟩
  case round =>
    obtain ⟨k, hk, rfl, rfl, hd⟩ := hrel
    have HD := hid hd
    clear hd
    by_cases hlt : k < ks.length
    · obtain ⟨b, off, rfl, hbs, c1⟩ := HO.out.at hlt
      have c2 : wr.cell? ⟨b, off + k, none⟩ = some (.string ks[k]) := by rw [c1]; simp [hlt]
      have hb1 : (0 : Int) ≤ (k : Int) := by omega
      have hb2 : (k : Int) < (ks.length : Int) := by omega
      clear c1
      by_cases he : ks[k] = s
      · have hr := aKey_hit hlt he (fun j hj => HD.out j hj (by omega))
        have HR := hid hr
        rw [he] at c2
        clear hr
        go_wp2
        all_goals go_ret
        all_goals exact ⟨ret_int HR.out.symm, rfl⟩
      · have hn : ∀ i (hi : i < k + 1) (hl : i < ks.length), ks[i] ≠ s := by
          intro i hi hl
          by_cases hik : i = k
          · subst hik; exact he
          · exact HD.out i (by omega) hl
        have HN := hid hn
        clear hn
        generalize ks[k] = z at c2 he
        have hne := str_ne (z := s) (s := z) (fun h => he h.symm)
        go_wp2
        go_roundw
        case rel => exact ⟨k + 1, by omega, by go_num, trivial, HN.out⟩
        case measure => simp [intOf]; omega
    · have hr := aKey_miss (l := ks) (k := s) (fun j hj => HD.out j (by omega) hj)
      have HR := hid hr
      clear hr
      go_wp2
      all_goals go_ret
      all_goals exact ⟨ret_int HR.out.symm, rfl⟩

set_option maxHeartbeats 2000000 in
theorem ixI_any (G : Nat → Prop) (sv : Value) (ks : List Int) (x : Int) (w : World) (h : Sl w G sv ks.length 1 (ks.map (Value.int .i64))) (hm : ks.length ≤ 9223372036854775807) :
    Calls Tryz.prog 129 #[sv, .int .i64 x] w fun e w' => ∃ r : Int, e = .returned (.int .i64 r) ∧ (0 ≤ r ↔ x ∈ ks) ∧ w' = w := by
  have HO := hid h
  obtain ⟨ak, ck, rfl⟩ := h.form
  clear h
  go_enter Tryz.func129, Tryz.ntmps129
  go_wp2
  go_loopw [8] (fun j wr => ∃ k, k ≤ ks.length ∧ j = .int .i64 k ∧ wr = w ∧ ∀ i (hi : i < k) (hl : i < ks.length), ks[i] ≠ x) (fun j _ => ks.length - (intOf j).toNat)
  case atStart => exact ⟨0, Nat.zero_le _, rfl, rfl, fun i hi => absurd hi (by omega)⟩
  case round =>
    obtain ⟨k, hk, rfl, rfl, hd⟩ := hrel
    have HD := hid hd
    clear hd
    by_cases hlt : k < ks.length
    · obtain ⟨b, off, rfl, hbs, c1⟩ := HO.out.at hlt
      have c2 : wr.cell? ⟨b, off + k, none⟩ = some (.int .i64 ks[k]) := by rw [c1]; simp [hlt]
      have hb1 : (0 : Int) ≤ (k : Int) := by omega
      have hb2 : (k : Int) < (ks.length : Int) := by omega
      clear c1
      by_cases he : ks[k] = x
      · have HR := hid (show x ∈ ks from he ▸ List.getElem_mem hlt)
        rw [he] at c2
        go_wp2
        all_goals go_ret
        all_goals exact ⟨_, rfl, ⟨fun _ => HR.out, fun _ => by omega⟩, rfl⟩
      · have hn : ∀ i (hi : i < k + 1) (hl : i < ks.length), ks[i] ≠ x := by
          intro i hi hl
          by_cases hik : i = k
          · subst hik; exact he
          · exact HD.out i (by omega) hl
        have HN := hid hn
        clear hn
        generalize ks[k] = z at c2 he
        have hne : (x == z) = false := by rw [beq_eq_false_iff_ne]; exact fun h => he h.symm
        clear he
        go_wp2
        go_roundw
        case rel => exact ⟨k + 1, by omega, by go_num, trivial, HN.out⟩
        case measure => simp [intOf]; omega
    · have hr : ¬ x ∈ ks := fun hx => by
        obtain ⟨j, hj, e⟩ := List.getElem_of_mem hx
        exact HD.out j (by omega) hj e
      have HR := hid hr
      clear hr
      go_wp2
      all_goals go_ret
      all_goals exact ⟨_, rfl, ⟨fun h => by omega, fun h => absurd h HR.out⟩, rfl⟩

set_option maxHeartbeats 1000000 in
theorem ctI_any (G : Nat → Prop) (sv : Value) (ks : List Int) (x : Int) (w : World) (h : Sl w G sv ks.length 1 (ks.map (Value.int .i64))) (hm : ks.length ≤ 9223372036854775807) :
    Calls Tryz.prog 115 #[sv, .int .i64 x] w fun e w' => e = .returned (.bool (decide (x ∈ ks))) ∧ w' = w := by
  go_enter Tryz.func115, Tryz.ntmps115
  go_wp2_with (go_at_call 129; refine (ixI_any G _ ks _ _ h hm).mono ?_; rintro e w' ⟨r, rfl, hr, rfl⟩)
  all_goals go_ret
  all_goals exact ⟨ret_bool (by simp only [hr]), rfl⟩

set_option maxHeartbeats 1000000 in
theorem ctS_any (G : Nat → Prop) (sv : Value) (ks : List ByteArray) (s : ByteArray) (w : World) (h : Sl w G sv ks.length 1 (ks.map Value.string)) (hm : ks.length ≤ 9223372036854775807) :
    Calls Tryz.prog 132 #[sv, .string s] w fun e w' => e = .returned (.bool (decide (0 ≤ aKey ks s))) ∧ w' = w := by
  go_enter Tryz.func132, Tryz.ntmps132
  go_wp2_with (go_at_call 130; refine (ixS_any G _ ks _ _ h hm).mono ?_; rintro e w' ⟨rfl, rfl⟩)
  all_goals go_ret
  all_goals exact ⟨rfl, rfl⟩

end Go.Proofs.YtjcoifdfemejkaaGreatDoor

