/- tell, live: contracts. -/
import Derived.Test.YtfkcbioefdkabaaPg
import Derived.Test.YtfkcbioefdkabaaPj
set_option linter.unusedSimpArgs false
set_option linter.unusedVariables false
namespace Go.Proofs.Ytfkcbioefdkabaa
open Go Go.RowKit

/-- A thing as a value. -/
def actC (x : AA) : List Value := [.int .i64 x.d, .int .i64 x.f, .int .i64 x.t, .int .i64 x.a, .int .i64 x.b, .int .u64 x.v]
def actV (x : AA) : Value := .agg #[.int .i64 x.d, .int .i64 x.f, .int .i64 x.t, .int .i64 x.a, .int .i64 x.b, .int .u64 x.v]

/-- What is told, whatever its number. -/
def nrm (x : AA) : AA := if 0 ≤ x.d ∧ x.d ≤ 3 then x else { x with d := 4 }

section
variable {w w' : World} {p hb wb mb F G : Nat} {L : List AA}

set_option maxRecDepth 100000 in
set_option maxHeartbeats 1000000 in
theorem tell0_yes (x : AA) (hd : x.d = 0) (h : PS w p hb wb mb F G L) (hL : L.length < 1000) (hr : 0 ≤ x.f ∧ x.f < F) : Calls Try.prog 12 #[.pointer (some ⟨p, 0, none⟩), actV x] w fun e w' => e = .returned (.int .i64 0) ∧ PS w' p hb wb mb F G (L ++ [x]) ∧ Ex (bsOf hb wb mb) w w' := by
  unfold actV
  have HP := hid (h.bw (Bw.alloc (Bw.refl w) (.cells #[.int .i64 x.d, .int .i64 x.f, .int .i64 x.t, .int .i64 x.a, .int .i64 x.b, .int .u64 x.v] 36)))
  have HW := hid (Bw.alloc (Bw.refl w) (.cells #[.int .i64 x.d, .int .i64 x.f, .int .i64 x.t, .int .i64 x.a, .int .i64 x.b, .int .u64 x.v] 36))
  obtain ⟨i, hi⟩ : ∃ i : Nat, x.f = i := ⟨x.f.toNat, by omega⟩
  have hi2 : i < F := by omega
  have hd := hd
  obtain ⟨d, f, t, a, b, v⟩ := x
  simp only at hd
  subst hd
  simp only at hi
  subst hi
  clear h
  go_enter Try.func12, Try.ntmps12
  go_wp2_with (first
    | (go_at_call 24; refine (Begin_yes HP.out hi2 hL).mono ?_; rintro e w1 ⟨rfl, hx1, hk1⟩)
    | fail)
  all_goals go_ret
  all_goals exact ⟨rfl, hx1 ⟨0, i, t, a, b, v⟩ rfl (.inl rfl), (Ex.of_bw HW.out).trans hk1⟩

set_option maxRecDepth 100000 in
set_option maxHeartbeats 1000000 in
theorem tell0_no (x : AA) (hd : x.d = 0) (h : PS w p hb wb mb F G L) (hr : ¬ (0 ≤ x.f ∧ x.f < F)) : Calls Try.prog 12 #[.pointer (some ⟨p, 0, none⟩), actV x] w fun e w' => e = .returned (.int .i64 1) ∧ PS w' p hb wb mb F G L ∧ Ex (bsOf hb wb mb) w w' := by
  unfold actV
  have HP := hid (h.bw (Bw.alloc (Bw.refl w) (.cells #[.int .i64 x.d, .int .i64 x.f, .int .i64 x.t, .int .i64 x.a, .int .i64 x.b, .int .u64 x.v] 36)))
  have HW := hid (Bw.alloc (Bw.refl w) (.cells #[.int .i64 x.d, .int .i64 x.f, .int .i64 x.t, .int .i64 x.a, .int .i64 x.b, .int .u64 x.v] 36))
  have hd := hd
  obtain ⟨d, f, t, a, b, v⟩ := x
  simp only at hd
  subst hd
  clear h
  go_enter Try.func12, Try.ntmps12
  go_wp2_with (first
    | (go_at_call 24; refine (Begin_no HP.out (by simpa using hr)).mono ?_; rintro e w1 ⟨rfl, hb1⟩)
    | fail)
  all_goals go_ret
  all_goals exact ⟨rfl, HP.out.bw hb1, (Ex.of_bw HW.out).bw hb1⟩

set_option maxRecDepth 100000 in
set_option maxHeartbeats 1000000 in
theorem tell1_yes (x : AA) (hd : x.d = 1) (h : PS w p hb wb mb F G L) (hL : L.length < 1000) (hr : 0 ≤ x.f ∧ x.f < F) : Calls Try.prog 12 #[.pointer (some ⟨p, 0, none⟩), actV x] w fun e w' => e = .returned (.int .i64 0) ∧ PS w' p hb wb mb F G (L ++ [x]) ∧ Ex (bsOf hb wb mb) w w' := by
  unfold actV
  have HP := hid (h.bw (Bw.alloc (Bw.refl w) (.cells #[.int .i64 x.d, .int .i64 x.f, .int .i64 x.t, .int .i64 x.a, .int .i64 x.b, .int .u64 x.v] 36)))
  have HW := hid (Bw.alloc (Bw.refl w) (.cells #[.int .i64 x.d, .int .i64 x.f, .int .i64 x.t, .int .i64 x.a, .int .i64 x.b, .int .u64 x.v] 36))
  obtain ⟨i, hi⟩ : ∃ i : Nat, x.f = i := ⟨x.f.toNat, by omega⟩
  have hi2 : i < F := by omega
  have hd := hd
  obtain ⟨d, f, t, a, b, v⟩ := x
  simp only at hd
  subst hd
  simp only at hi
  subst hi
  clear h
  go_enter Try.func12, Try.ntmps12
  go_wp2_with (first
    | (go_at_call 25; refine (Loop_yes HP.out hi2 hL).mono ?_; rintro e w1 ⟨rfl, hx1, hk1⟩)
    | fail)
  all_goals go_ret
  all_goals exact ⟨rfl, hx1 ⟨1, i, t, a, b, v⟩ rfl (.inr rfl), (Ex.of_bw HW.out).trans hk1⟩

set_option maxRecDepth 100000 in
set_option maxHeartbeats 1000000 in
theorem tell1_no (x : AA) (hd : x.d = 1) (h : PS w p hb wb mb F G L) (hr : ¬ (0 ≤ x.f ∧ x.f < F)) : Calls Try.prog 12 #[.pointer (some ⟨p, 0, none⟩), actV x] w fun e w' => e = .returned (.int .i64 1) ∧ PS w' p hb wb mb F G L ∧ Ex (bsOf hb wb mb) w w' := by
  unfold actV
  have HP := hid (h.bw (Bw.alloc (Bw.refl w) (.cells #[.int .i64 x.d, .int .i64 x.f, .int .i64 x.t, .int .i64 x.a, .int .i64 x.b, .int .u64 x.v] 36)))
  have HW := hid (Bw.alloc (Bw.refl w) (.cells #[.int .i64 x.d, .int .i64 x.f, .int .i64 x.t, .int .i64 x.a, .int .i64 x.b, .int .u64 x.v] 36))
  have hd := hd
  obtain ⟨d, f, t, a, b, v⟩ := x
  simp only at hd
  subst hd
  clear h
  go_enter Try.func12, Try.ntmps12
  go_wp2_with (first
    | (go_at_call 25; refine (Loop_no HP.out (by simpa using hr)).mono ?_; rintro e w1 ⟨rfl, hb1⟩)
    | fail)
  all_goals go_ret
  all_goals exact ⟨rfl, HP.out.bw hb1, (Ex.of_bw HW.out).bw hb1⟩

set_option maxRecDepth 100000 in
set_option maxHeartbeats 1000000 in
theorem tell3_yes (x : AA) (hd : x.d = 3) (h : PS w p hb wb mb F G L) (hL : L.length < 1000) (hr : 0 ≤ x.f ∧ x.f < G) : Calls Try.prog 12 #[.pointer (some ⟨p, 0, none⟩), actV x] w fun e w' => e = .returned (.int .i64 0) ∧ PS w' p hb wb mb F G (L ++ [x]) ∧ Ex (bsOf hb wb mb) w w' := by
  unfold actV
  have HP := hid (h.bw (Bw.alloc (Bw.refl w) (.cells #[.int .i64 x.d, .int .i64 x.f, .int .i64 x.t, .int .i64 x.a, .int .i64 x.b, .int .u64 x.v] 36)))
  have HW := hid (Bw.alloc (Bw.refl w) (.cells #[.int .i64 x.d, .int .i64 x.f, .int .i64 x.t, .int .i64 x.a, .int .i64 x.b, .int .u64 x.v] 36))
  obtain ⟨i, hi⟩ : ∃ i : Nat, x.f = i := ⟨x.f.toNat, by omega⟩
  have hi2 : i < G := by omega
  have hd := hd
  obtain ⟨d, f, t, a, b, v⟩ := x
  simp only at hd
  subst hd
  simp only at hi
  subst hi
  clear h
  go_enter Try.func12, Try.ntmps12
  go_wp2_with (first
    | (go_at_call 27; refine (Wrote_yes HP.out hi2 hL v).mono ?_; rintro e w1 ⟨rfl, hx1, hk1⟩)
    | fail)
  all_goals go_ret
  all_goals exact ⟨rfl, hx1 ⟨3, i, t, a, b, v⟩ rfl rfl rfl, (Ex.of_bw HW.out).trans hk1⟩

set_option maxRecDepth 100000 in
set_option maxHeartbeats 1000000 in
theorem tell3_no (x : AA) (hd : x.d = 3) (h : PS w p hb wb mb F G L) (hr : ¬ (0 ≤ x.f ∧ x.f < G)) : Calls Try.prog 12 #[.pointer (some ⟨p, 0, none⟩), actV x] w fun e w' => e = .returned (.int .i64 1) ∧ PS w' p hb wb mb F G L ∧ Ex (bsOf hb wb mb) w w' := by
  unfold actV
  have HP := hid (h.bw (Bw.alloc (Bw.refl w) (.cells #[.int .i64 x.d, .int .i64 x.f, .int .i64 x.t, .int .i64 x.a, .int .i64 x.b, .int .u64 x.v] 36)))
  have HW := hid (Bw.alloc (Bw.refl w) (.cells #[.int .i64 x.d, .int .i64 x.f, .int .i64 x.t, .int .i64 x.a, .int .i64 x.b, .int .u64 x.v] 36))
  have hd := hd
  obtain ⟨d, f, t, a, b, v⟩ := x
  simp only at hd
  subst hd
  clear h
  go_enter Try.func12, Try.ntmps12
  go_wp2_with (first
    | (go_at_call 27; refine (Wrote_no HP.out (by simpa using hr) v).mono ?_; rintro e w1 ⟨rfl, hb1⟩)
    | fail)
  all_goals go_ret
  all_goals exact ⟨rfl, HP.out.bw hb1, (Ex.of_bw HW.out).bw hb1⟩

set_option maxRecDepth 100000 in
set_option maxHeartbeats 1000000 in
theorem tell4_yes (x : AA) (hd : ¬ (0 ≤ x.d ∧ x.d ≤ 3)) (h : PS w p hb wb mb F G L) (hL : L.length < 1000) (hr : 0 ≤ x.f ∧ x.f < F) : Calls Try.prog 12 #[.pointer (some ⟨p, 0, none⟩), actV x] w fun e w' => e = .returned (.int .i64 0) ∧ PS w' p hb wb mb F G (L ++ [{ x with d := 4 }]) ∧ Ex (bsOf hb wb mb) w w' := by
  unfold actV
  have HP := hid (h.bw (Bw.alloc (Bw.refl w) (.cells #[.int .i64 x.d, .int .i64 x.f, .int .i64 x.t, .int .i64 x.a, .int .i64 x.b, .int .u64 x.v] 36)))
  have HW := hid (Bw.alloc (Bw.refl w) (.cells #[.int .i64 x.d, .int .i64 x.f, .int .i64 x.t, .int .i64 x.a, .int .i64 x.b, .int .u64 x.v] 36))
  have dn0 : ¬ x.d = 0 := by omega
  have dn1 : ¬ x.d = 1 := by omega
  have dn2 : ¬ x.d = 2 := by omega
  have dn3 : ¬ x.d = 3 := by omega
  obtain ⟨i, hi⟩ : ∃ i : Nat, x.f = i := ⟨x.f.toNat, by omega⟩
  have hi2 : i < F := by omega
  obtain ⟨d, f, t, a, b, v⟩ := x
  simp only at *
  subst hi
  clear h
  go_enter Try.func12, Try.ntmps12
  go_wp2_with (first
    | (go_at_call 28; refine (Cool_yes HP.out hi2).mono ?_; rintro e w1 ⟨rfl, hx1, hk1⟩)
    | fail)
  all_goals go_ret
  all_goals exact ⟨rfl, hx1 ⟨4, i, t, a, b, v⟩ rfl rfl, (Ex.of_bw HW.out).trans hk1⟩

set_option maxRecDepth 100000 in
set_option maxHeartbeats 1000000 in
theorem tell4_no (x : AA) (hd : ¬ (0 ≤ x.d ∧ x.d ≤ 3)) (h : PS w p hb wb mb F G L) (hr : ¬ (0 ≤ x.f ∧ x.f < F)) : Calls Try.prog 12 #[.pointer (some ⟨p, 0, none⟩), actV x] w fun e w' => e = .returned (.int .i64 1) ∧ PS w' p hb wb mb F G L ∧ Ex (bsOf hb wb mb) w w' := by
  unfold actV
  have HP := hid (h.bw (Bw.alloc (Bw.refl w) (.cells #[.int .i64 x.d, .int .i64 x.f, .int .i64 x.t, .int .i64 x.a, .int .i64 x.b, .int .u64 x.v] 36)))
  have HW := hid (Bw.alloc (Bw.refl w) (.cells #[.int .i64 x.d, .int .i64 x.f, .int .i64 x.t, .int .i64 x.a, .int .i64 x.b, .int .u64 x.v] 36))
  have dn0 : ¬ x.d = 0 := by omega
  have dn1 : ¬ x.d = 1 := by omega
  have dn2 : ¬ x.d = 2 := by omega
  have dn3 : ¬ x.d = 3 := by omega
  obtain ⟨d, f, t, a, b, v⟩ := x
  simp only at *
  clear h
  go_enter Try.func12, Try.ntmps12
  go_wp2_with (first
    | (go_at_call 28; refine (Cool_no HP.out (by simpa using hr)).mono ?_; rintro e w1 ⟨rfl, hb1⟩)
    | fail)
  all_goals go_ret
  all_goals exact ⟨rfl, HP.out.bw hb1, (Ex.of_bw HW.out).bw hb1⟩

set_option maxRecDepth 100000 in
set_option maxHeartbeats 1000000 in
theorem tell2_yes (x : AA) (hd : x.d = 2) (h : PS w p hb wb mb F G L) (hF : F ≤ 1024) (hL : L.length < 1000) (hr : 0 ≤ x.f ∧ x.f < F ∧ 0 ≤ x.t ∧ x.t < 65536) (ha : 0 ≤ x.a ∧ x.a ≤ 3) (hb3 : 0 ≤ x.b ∧ x.b ≤ 3) : Calls Try.prog 12 #[.pointer (some ⟨p, 0, none⟩), actV x] w fun e w' => e = .returned (.int .i64 0) ∧ PS w' p hb wb mb F G (L ++ [x]) ∧ Ex (bsOf hb wb mb) w w' := by
  unfold actV
  have HP := hid (h.bw (Bw.alloc (Bw.refl w) (.cells #[.int .i64 x.d, .int .i64 x.f, .int .i64 x.t, .int .i64 x.a, .int .i64 x.b, .int .u64 x.v] 36)))
  have HW := hid (Bw.alloc (Bw.refl w) (.cells #[.int .i64 x.d, .int .i64 x.f, .int .i64 x.t, .int .i64 x.a, .int .i64 x.b, .int .u64 x.v] 36))
  have hd := hd
  obtain ⟨d, f, t, a, b, v⟩ := x
  simp only at hd
  subst hd
  clear h
  go_enter Try.func12, Try.ntmps12
  go_wp2_with (first
    | (go_at_call 26; refine (Pair_yes HP.out f t a b hF hL hr ha hb3).mono ?_; rintro e w1 ⟨rfl, hx1, hk1⟩)
    | fail)
  all_goals go_ret
  all_goals exact ⟨rfl, hx1 ⟨2, f, t, a, b, v⟩ rfl rfl rfl rfl rfl, (Ex.of_bw HW.out).trans hk1⟩

set_option maxRecDepth 100000 in
set_option maxHeartbeats 1000000 in
theorem tell2_no (x : AA) (hd : x.d = 2) (h : PS w p hb wb mb F G L) (hr : ¬ (0 ≤ x.f ∧ x.f < F ∧ 0 ≤ x.t ∧ x.t < 65536 ∧ 0 ≤ x.a ∧ x.a ≤ 3 ∧ 0 ≤ x.b ∧ x.b ≤ 3)) : Calls Try.prog 12 #[.pointer (some ⟨p, 0, none⟩), actV x] w fun e w' => e = .returned (.int .i64 1) ∧ PS w' p hb wb mb F G L ∧ Ex (bsOf hb wb mb) w w' := by
  unfold actV
  have HP := hid (h.bw (Bw.alloc (Bw.refl w) (.cells #[.int .i64 x.d, .int .i64 x.f, .int .i64 x.t, .int .i64 x.a, .int .i64 x.b, .int .u64 x.v] 36)))
  have HW := hid (Bw.alloc (Bw.refl w) (.cells #[.int .i64 x.d, .int .i64 x.f, .int .i64 x.t, .int .i64 x.a, .int .i64 x.b, .int .u64 x.v] 36))
  have hd := hd
  obtain ⟨d, f, t, a, b, v⟩ := x
  simp only at hd
  subst hd
  have HC : Hid (Calls Try.prog 26 #[.pointer (some ⟨p, 0, none⟩), .int .i64 f, .int .i64 t, .int .i64 a, .int .i64 b] (w.alloc (.cells #[.int .i64 2, .int .i64 f, .int .i64 t, .int .i64 a, .int .i64 b, .int .u64 v] 36)) fun e w' => e = .returned (.int .i64 1) ∧ Bw (w.alloc (.cells #[.int .i64 2, .int .i64 f, .int .i64 t, .int .i64 a, .int .i64 b, .int .u64 v] 36)) w') := by
    by_cases hq : 0 ≤ f ∧ f < (F : Int) ∧ 0 ≤ t ∧ t < 65536
    · exact hid (Pair_no2 HP.out f t a b hq (fun k => hr ⟨hq.1, hq.2.1, hq.2.2.1, hq.2.2.2, k⟩))
    · exact hid (Pair_no1 HP.out f t a b hq)
  clear h hr
  go_enter Try.func12, Try.ntmps12
  go_wp2_with (first
    | (go_at_call 26; refine (HC.out).mono ?_; rintro e w1 ⟨rfl, hb1⟩)
    | fail)
  all_goals go_ret
  all_goals exact ⟨rfl, HP.out.bw hb1, (Ex.of_bw HW.out).bw hb1⟩

/-- What the statements tell. -/
theorem tell_any (x : AA) (h : PS w p hb wb mb F G L) (hF : F ≤ 1024) (hL : L.length < 1000) : Calls Try.prog 12 #[.pointer (some ⟨p, 0, none⟩), actV x] w fun e w' => e = .returned (.int .i64 (if okT F G (nrm x) then 0 else 1)) ∧ PS w' p hb wb mb F G (tellL F G L (nrm x)) ∧ Ex (bsOf hb wb mb) w w' := by
  unfold tellL
  by_cases h4 : 0 ≤ x.d ∧ x.d ≤ 3
  · have hn : nrm x = x := by unfold nrm; rw [if_pos h4]
    rw [hn]
    unfold okT
    by_cases h2 : x.d = 2
    · rw [if_pos h2]
      by_cases hr : 0 ≤ x.f ∧ x.f < F ∧ 0 ≤ x.t ∧ x.t < 65536 ∧ 0 ≤ x.a ∧ x.a ≤ 3 ∧ 0 ≤ x.b ∧ x.b ≤ 3
      · rw [decide_eq_true hr]
        exact tell2_yes x h2 h hF hL ⟨hr.1, hr.2.1, hr.2.2.1, hr.2.2.2.1⟩ ⟨hr.2.2.2.2.1, hr.2.2.2.2.2.1⟩ hr.2.2.2.2.2.2
      · rw [decide_eq_false hr]
        exact tell2_no x h2 h hr
    · rw [if_neg h2]
      by_cases h3 : x.d = 3
      · rw [if_pos h3]
        by_cases hr : 0 ≤ x.f ∧ x.f < G
        · rw [decide_eq_true hr]
          exact tell3_yes x h3 h hL hr
        · rw [decide_eq_false hr]
          exact tell3_no x h3 h hr
      · rw [if_neg h3]
        by_cases h0 : x.d = 0
        · by_cases hr : 0 ≤ x.f ∧ x.f < F
          · rw [decide_eq_true hr]
            exact tell0_yes x h0 h hL hr
          · rw [decide_eq_false hr]
            exact tell0_no x h0 h hr
        · have h1 : x.d = 1 := by omega
          by_cases hr : 0 ≤ x.f ∧ x.f < F
          · rw [decide_eq_true hr]
            exact tell1_yes x h1 h hL hr
          · rw [decide_eq_false hr]
            exact tell1_no x h1 h hr
  · have hn : nrm x = { x with d := 4 } := by unfold nrm; rw [if_neg h4]
    rw [hn]
    unfold okT
    by_cases hr : 0 ≤ x.f ∧ x.f < F
    · simp only [decide_eq_true hr]
      exact tell4_yes x h4 h hL hr
    · simp only [decide_eq_false hr]
      exact tell4_no x h4 h hr

set_option maxRecDepth 100000 in
set_option maxHeartbeats 1000000 in
theorem tell_nil (x : AA) (w : World) : Calls Try.prog 12 #[.pointer none, actV x] w fun e w' => e = .returned (.int .i64 5) ∧ Bw w w' := by
  unfold actV
  by_cases h0 : x.d = 0
  · go_enter Try.func12, Try.ntmps12
    go_wp2_with (first
      | (go_at_call 24; refine (Begin_nil _ _).mono ?_; rintro e w1 ⟨rfl, hw1⟩; subst w1)
      | (go_at_call 25; refine (Loop_nil _ _).mono ?_; rintro e w1 ⟨rfl, hw1⟩; subst w1)
      | (go_at_call 26; refine (Pair_nil _ _ _ _ _).mono ?_; rintro e w1 ⟨rfl, hw1⟩; subst w1)
      | (go_at_call 27; refine (Wrote_nil _ _ _).mono ?_; rintro e w1 ⟨rfl, hw1⟩; subst w1)
      | (go_at_call 28; refine (Cool_nil _ _).mono ?_; rintro e w1 ⟨rfl, hw1⟩; subst w1)
      | fail)
    all_goals go_ret
    all_goals exact ⟨rfl, Bw.alloc (Bw.refl _) _⟩
  by_cases h1 : x.d = 1
  · go_enter Try.func12, Try.ntmps12
    go_wp2_with (first
      | (go_at_call 24; refine (Begin_nil _ _).mono ?_; rintro e w1 ⟨rfl, hw1⟩; subst w1)
      | (go_at_call 25; refine (Loop_nil _ _).mono ?_; rintro e w1 ⟨rfl, hw1⟩; subst w1)
      | (go_at_call 26; refine (Pair_nil _ _ _ _ _).mono ?_; rintro e w1 ⟨rfl, hw1⟩; subst w1)
      | (go_at_call 27; refine (Wrote_nil _ _ _).mono ?_; rintro e w1 ⟨rfl, hw1⟩; subst w1)
      | (go_at_call 28; refine (Cool_nil _ _).mono ?_; rintro e w1 ⟨rfl, hw1⟩; subst w1)
      | fail)
    all_goals go_ret
    all_goals exact ⟨rfl, Bw.alloc (Bw.refl _) _⟩
  by_cases h2 : x.d = 2
  · go_enter Try.func12, Try.ntmps12
    go_wp2_with (first
      | (go_at_call 24; refine (Begin_nil _ _).mono ?_; rintro e w1 ⟨rfl, hw1⟩; subst w1)
      | (go_at_call 25; refine (Loop_nil _ _).mono ?_; rintro e w1 ⟨rfl, hw1⟩; subst w1)
      | (go_at_call 26; refine (Pair_nil _ _ _ _ _).mono ?_; rintro e w1 ⟨rfl, hw1⟩; subst w1)
      | (go_at_call 27; refine (Wrote_nil _ _ _).mono ?_; rintro e w1 ⟨rfl, hw1⟩; subst w1)
      | (go_at_call 28; refine (Cool_nil _ _).mono ?_; rintro e w1 ⟨rfl, hw1⟩; subst w1)
      | fail)
    all_goals go_ret
    all_goals exact ⟨rfl, Bw.alloc (Bw.refl _) _⟩
  by_cases h3 : x.d = 3
  · go_enter Try.func12, Try.ntmps12
    go_wp2_with (first
      | (go_at_call 24; refine (Begin_nil _ _).mono ?_; rintro e w1 ⟨rfl, hw1⟩; subst w1)
      | (go_at_call 25; refine (Loop_nil _ _).mono ?_; rintro e w1 ⟨rfl, hw1⟩; subst w1)
      | (go_at_call 26; refine (Pair_nil _ _ _ _ _).mono ?_; rintro e w1 ⟨rfl, hw1⟩; subst w1)
      | (go_at_call 27; refine (Wrote_nil _ _ _).mono ?_; rintro e w1 ⟨rfl, hw1⟩; subst w1)
      | (go_at_call 28; refine (Cool_nil _ _).mono ?_; rintro e w1 ⟨rfl, hw1⟩; subst w1)
      | fail)
    all_goals go_ret
    all_goals exact ⟨rfl, Bw.alloc (Bw.refl _) _⟩
  · go_enter Try.func12, Try.ntmps12
    go_wp2_with (first
      | (go_at_call 24; refine (Begin_nil _ _).mono ?_; rintro e w1 ⟨rfl, hw1⟩; subst w1)
      | (go_at_call 25; refine (Loop_nil _ _).mono ?_; rintro e w1 ⟨rfl, hw1⟩; subst w1)
      | (go_at_call 26; refine (Pair_nil _ _ _ _ _).mono ?_; rintro e w1 ⟨rfl, hw1⟩; subst w1)
      | (go_at_call 27; refine (Wrote_nil _ _ _).mono ?_; rintro e w1 ⟨rfl, hw1⟩; subst w1)
      | (go_at_call 28; refine (Cool_nil _ _).mono ?_; rintro e w1 ⟨rfl, hw1⟩; subst w1)
      | fail)
    all_goals go_ret
    all_goals exact ⟨rfl, Bw.alloc (Bw.refl _) _⟩

end

end Go.Proofs.Ytfkcbioefdkabaa
