/- The program's tagged words, as the heap calls them: the contracts. · The program's searches in lists: the contracts. -/
import Derived.Test.YtlhgdknmgdohkaaGreatDoorK1
set_option linter.unusedSimpArgs false
set_option linter.unusedVariables false
namespace Go.Proofs.YtlhgdknmgdohkaaGreatDoor
open Go Go.RowKit

set_option maxHeartbeats 400000 in
theorem int_any (n : Int) (w : World) :
    Calls Tryz.prog 98 #[.int .i64 n] w fun e w' => e = .returned (.int .u64 (mk n)) ∧ w' = w := by
  go_enter Tryz.func98, Tryz.ntmps98
  go_wp2
  go_ret
  exact ⟨ret_int (int_eq n), rfl⟩

set_option maxHeartbeats 400000 in
theorem kind_any (v : Int) (hv : U v) (w : World) :
    Calls Tryz.prog 60 #[.int .u64 v] w fun e w' => e = .returned (.int .i64 (kd v)) ∧ w' = w := by
  have hb := and3 v hv
  have hr : 0 ≤ v % 4 ∧ v % 4 < 4 := by omega
  go_enter Tryz.func60, Tryz.ntmps60
  go_wp2
  all_goals
    go_ret
    refine ⟨ret_int ?_, rfl⟩
    clear hb
    simp only [beq_iff_eq, beq_eq_false_iff_ne, bne_iff_ne, bne_eq_false_iff_eq, ne_eq] at *
    unfold kd
    repeat' split
    all_goals omega

set_option maxHeartbeats 400000 in
theorem indexed_yes (i k : Int) (h0 : 0 ≤ i) (h1 : i ≤ 2147483647) (k0 : 0 ≤ k) (k1 : k < 4) (w : World) :
    Calls Tryz.prog 92 #[.int .i64 i, .int .i64 k] w fun e w' => e = .returned (.tuple #[.int .u64 (4 * i + k), .int .i64 0]) ∧ w' = w := by
  go_enter Tryz.func92, Tryz.ntmps92
  go_wp2
  go_ret2
  exact ⟨ret_ii (or_tag i k h0 h1 k0 k1) rfl, rfl⟩

set_option maxHeartbeats 400000 in
theorem indexed_no (i k : Int) (h : i < 0 ∨ 2147483647 < i) (w : World) :
    Calls Tryz.prog 92 #[.int .i64 i, .int .i64 k] w fun e w' => e = .returned (.tuple #[.int .u64 0, .int .i64 1]) ∧ w' = w := by
  rcases h with h | h
  · go_enter Tryz.func92, Tryz.ntmps92
    go_wp2
    go_ret2
    exact ⟨rfl, rfl⟩
  · have h' : ¬ i < 0 := by omega
    go_enter Tryz.func92, Tryz.ntmps92
    go_wp2
    go_ret2
    exact ⟨rfl, rfl⟩

set_option maxHeartbeats 400000 in
theorem ref_yes (i : Int) (h0 : 0 ≤ i) (h1 : i ≤ 2147483647) (w : World) :
    Calls Tryz.prog 77 #[.int .i64 i] w fun e w' => e = .returned (.tuple #[.int .u64 (4 * i + 2), .int .i64 0]) ∧ w' = w := by
  go_enter Tryz.func77, Tryz.ntmps77
  go_wp2_with (go_at_call 92; refine (indexed_yes _ _ h0 h1 (by decide) (by decide) _).mono ?_; rintro e w' ⟨rfl, rfl⟩)
  go_ret2
  exact ⟨rfl, rfl⟩

set_option maxHeartbeats 400000 in
theorem ref_no (i : Int) (h : i < 0 ∨ 2147483647 < i) (w : World) :
    Calls Tryz.prog 77 #[.int .i64 i] w fun e w' => e = .returned (.tuple #[.int .u64 0, .int .i64 1]) ∧ w' = w := by
  go_enter Tryz.func77, Tryz.ntmps77
  go_wp2_with (go_at_call 92; refine (indexed_no _ _ h _).mono ?_; rintro e w' ⟨rfl, rfl⟩)
  go_ret2
  exact ⟨rfl, rfl⟩

set_option maxHeartbeats 400000 in
theorem ref_any (i : Int) (w : World) :
    Calls Tryz.prog 77 #[.int .i64 i] w fun e w' => e = .returned (.tuple #[.int .u64 (refV i), .int .i64 (erI i)]) ∧ w' = w := by
  by_cases h : 0 ≤ i ∧ i ≤ 2147483647
  · rw [show refV i = 4 * i + 2 from if_pos h, show erI i = 0 from if_pos h]; exact ref_yes i h.1 h.2 w
  · rw [show refV i = 0 from if_neg h, show erI i = 1 from if_neg h]; exact ref_no i (by omega) w

theorem shr2 (v : Int) (hv : U v) : v / 4 < 4611686018427387904 ∧ 0 ≤ v / 4 := by have := hv.1; have := hv.2; omega

set_option maxHeartbeats 400000 in
theorem index_any (v : Int) (hv : U v) (w : World) :
    Calls Tryz.prog 61 #[.int .u64 v] w fun e w' => e = .returned (.tuple #[.int .i64 (idxV v), .bool (hasI v)]) ∧ w' = w := by
  have h0 : 0 ≤ v := hv.1
  have h1 : v / 4 < 4611686018427387904 := by have := hv.2; omega
  have hd := tdiv4 v hv
  go_enter Tryz.func61, Tryz.ntmps61
  go_wp2_with (go_at_call 60; refine (kind_any _ hv _).mono ?_; rintro e w' ⟨rfl, rfl⟩)
  all_goals
    go_ret2
    refine ⟨ret_ib ?_ ?_, rfl⟩
    all_goals
      clear hd
      try simp only [ne_eq, bne_iff_ne, bne_eq_false_iff_eq, beq_iff_eq, beq_eq_false_iff_ne] at *
      first | exact idx_yes (by omega) | exact idx_no (by omega) | exact has_yes (by omega) | exact has_no (by omega)

end Go.Proofs.YtlhgdknmgdohkaaGreatDoor

set_option linter.unusedSimpArgs false
set_option linter.unusedVariables false
namespace Go.Proofs.YtlhgdknmgdohkaaGreatDoor
open Go Go.RowKit

set_option maxHeartbeats 2000000 in
theorem ixS_any (G : Nat → Prop) (sv : Value) (ks : List ByteArray) (s : ByteArray) (w : World) (h : Sl w G sv ks.length 1 (ks.map Value.string)) (hm : ks.length ≤ 9223372036854775807) :
    Calls Tryz.prog 97 #[sv, .string s] w fun e w' => e = .returned (.int .i64 (aKey ks s)) ∧ w' = w := by
  have HO := hid h
  obtain ⟨ak, ck, rfl⟩ := h.form
  clear h
  go_enter Tryz.func97, Tryz.ntmps97
  go_wp2
  go_loopw [8] (fun j wr => ∃ k, k ≤ ks.length ∧ j = .int .i64 k ∧ wr = w ∧ ∀ i (hi : i < k) (hl : i < ks.length), ks[i] ≠ s) (fun j _ => ks.length - (intOf j).toNat)
  case atStart => exact ⟨0, Nat.zero_le _, rfl, rfl, fun i hi => absurd hi (by omega)⟩
  case round =>
    obtain ⟨k, hk, rfl, rfl, hd⟩ := hrel
    have HD := hid hd
    clear hd
    by_cases hlt : k < ks.length
    · obtain ⟨b, off, rfl, hbs, c1⟩ := HO.out.at hlt
      have c2 : wr.cell? ⟨b, off + k, none⟩ = some (.string ks[k]) := by rw [c1]; simp [hlt]
      have hb1 : (0 : Int) ≤ (k : Int) := by omega
      have hb2 : (k : Int) < (ks.length : Int) := by omega
      clear c1
      by_cases he : ks[k] = s
      · have hr := aKey_hit hlt he (fun j hj => HD.out j hj (by omega))
        have HR := hid hr
        rw [he] at c2
        clear hr
        go_wp2
        all_goals go_ret
        all_goals exact ⟨ret_int HR.out.symm, rfl⟩
      · have hn : ∀ i (hi : i < k + 1) (hl : i < ks.length), ks[i] ≠ s := by
          intro i hi hl
          by_cases hik : i = k
          · subst hik; exact he
          · exact HD.out i (by omega) hl
        have HN := hid hn
        clear hn
        generalize ks[k] = z at c2 he
        have hne := str_ne (z := s) (s := z) (fun h => he h.symm)
        go_wp2
        go_roundw
        case rel => exact ⟨k + 1, by omega, by go_num, trivial, HN.out⟩
        case measure => simp [intOf]; omega
    · have hr := aKey_miss (l := ks) (k := s) (fun j hj => HD.out j (by omega) hj)
      have HR := hid hr
      clear hr
      go_wp2
      all_goals go_ret
      all_goals exact ⟨ret_int HR.out.symm, rfl⟩

set_option maxHeartbeats 2000000 in
theorem ixI_any (G : Nat → Prop) (sv : Value) (ks : List Int) (x : Int) (w : World) (h : Sl w G sv ks.length 1 (ks.map (Value.int .i64))) (hm : ks.length ≤ 9223372036854775807) :
    Calls Tryz.prog 93 #[sv, .int .i64 x] w fun e w' => ∃ r : Int, e = .returned (.int .i64 r) ∧ (0 ≤ r ↔ x ∈ ks) ∧ w' = w := by
  have HO := hid h
  obtain ⟨ak, ck, rfl⟩ := h.form
  clear h
  go_enter Tryz.func93, Tryz.ntmps93
  go_wp2
  go_loopw [8] (fun j wr => ∃ k, k ≤ ks.length ∧ j = .int .i64 k ∧ wr = w ∧ ∀ i (hi : i < k) (hl : i < ks.length), ks[i] ≠ x) (fun j _ => ks.length - (intOf j).toNat)
  case atStart => exact ⟨0, Nat.zero_le _, rfl, rfl, fun i hi => absurd hi (by omega)⟩
  case round =>
    obtain ⟨k, hk, rfl, rfl, hd⟩ := hrel
    have HD := hid hd
    clear hd
    by_cases hlt : k < ks.length
    · obtain ⟨b, off, rfl, hbs, c1⟩ := HO.out.at hlt
      have c2 : wr.cell? ⟨b, off + k, none⟩ = some (.int .i64 ks[k]) := by rw [c1]; simp [hlt]
      have hb1 : (0 : Int) ≤ (k : Int) := by omega
      have hb2 : (k : Int) < (ks.length : Int) := by omega
      clear c1
      by_cases he : ks[k] = x
      · have HR := hid (show x ∈ ks from he ▸ List.getElem_mem hlt)
        rw [he] at c2
        go_wp2
        all_goals go_ret
        all_goals exact ⟨_, rfl, ⟨fun _ => HR.out, fun _ => by omega⟩, rfl⟩
      · have hn : ∀ i (hi : i < k + 1) (hl : i < ks.length), ks[i] ≠ x := by
          intro i hi hl
          by_cases hik : i = k
          · subst hik; exact he
          · exact HD.out i (by omega) hl
        have HN := hid hn
        clear hn
        generalize ks[k] = z at c2 he
        have hne : (x == z) = false := by rw [beq_eq_false_iff_ne]; exact fun h => he h.symm
        clear he
        go_wp2
        go_roundw
        case rel => exact ⟨k + 1, by omega, by go_num, trivial, HN.out⟩
        case measure => simp [intOf]; omega
    · have hr : ¬ x ∈ ks := fun hx => by
        obtain ⟨j, hj, e⟩ := List.getElem_of_mem hx
        exact HD.out j (by omega) hj e
      have HR := hid hr
      clear hr
      go_wp2
      all_goals go_ret
      all_goals exact ⟨_, rfl, ⟨fun h => by omega, fun h => absurd h HR.out⟩, rfl⟩

set_option maxHeartbeats 1000000 in
theorem ctI_any (G : Nat → Prop) (sv : Value) (ks : List Int) (x : Int) (w : World) (h : Sl w G sv ks.length 1 (ks.map (Value.int .i64))) (hm : ks.length ≤ 9223372036854775807) :
    Calls Tryz.prog 78 #[sv, .int .i64 x] w fun e w' => e = .returned (.bool (decide (x ∈ ks))) ∧ w' = w := by
  go_enter Tryz.func78, Tryz.ntmps78
  go_wp2_with (go_at_call 93; refine (ixI_any G _ ks _ _ h hm).mono ?_; rintro e w' ⟨r, rfl, hr, rfl⟩)
  all_goals go_ret
  all_goals exact ⟨ret_bool (by simp only [hr]), rfl⟩

set_option maxHeartbeats 1000000 in
theorem ctS_any (G : Nat → Prop) (sv : Value) (ks : List ByteArray) (s : ByteArray) (w : World) (h : Sl w G sv ks.length 1 (ks.map Value.string)) (hm : ks.length ≤ 9223372036854775807) :
    Calls Tryz.prog 106 #[sv, .string s] w fun e w' => e = .returned (.bool (decide (0 ≤ aKey ks s))) ∧ w' = w := by
  go_enter Tryz.func106, Tryz.ntmps106
  go_wp2_with (go_at_call 97; refine (ixS_any G _ ks _ _ h hm).mono ?_; rintro e w' ⟨rfl, rfl⟩)
  all_goals go_ret
  all_goals exact ⟨rfl, rfl⟩

end Go.Proofs.YtlhgdknmgdohkaaGreatDoor

