/- wellMade, step: contracts. -/
import Derived.Test.YtekkjpecdflajaaDoorM4
import Derived.Test.YtekkjpecdflajaaDoorM8
import Derived.Test.YtekkjpecdflajaaDoorM5
set_option linter.unusedSimpArgs false
set_option linter.unusedVariables false
namespace Go.Proofs.YtekkjpecdflajaaDoor
open Go Go.RowKit

set_option maxRecDepth 100000 in
set_option maxHeartbeats 8000000 in
theorem wellMade_any (n : Nat) (h1 : 0 < n) (h2 : n < 33) (N num at_ : Int) (t : List Int) (ht : (∀ c ∈ t, 0 ≤ c ∧ c ≤ 255) ∧ t.length ≤ 9223372036854775807) (hN : -9223372036854775808 ≤ N ∧ N ≤ 9223372036854775807) (w : World) (hh : Sh w) :
    Calls Tryd.prog 39 #[.agg #[.int .i64 (n : Int), .int .i64 N, .string (strOfNums t), .int .i64 num, .int .i64 at_]] w fun e w' => e = .returned (.bool (wmP ((n : Int), N, t, num, at_))) ∧ Bw w w' := by
  have c0 := hh.c0 n h2
  have c1 := hh.c1 n h2
  have c2 := hh.c2 n h2
  have c3 := hh.c3 n h2
  have gl := hh.lt
  have i1 : (0 : Int) ≤ (n : Int) := by omega
  have i2 : (n : Int) < 33 := by omega
  have XN := hid (xNameB_any t ht.1 ht.2)
  have XB := hid (isBinary_any t)
  have hs1 : 0 ≤ (shpA n).2.1 := by
    unfold shpA
    have : ∀ i, i < 33 → 0 ≤ (shpT.getD i (0, 0, 0, 0)).2.1 := by decide
    exact this _ (by omega)
  have hs12 : ((n : Int) = 12 ∨ (n : Int) = 31) → 1 ≤ (shpA n).2.1 := by
    rintro (h | h)
    · rw [h]; decide
    · rw [h]; decide
  unfold wmP
  dsimp only
  generalize (shpA n).1 = s0 at *
  generalize (shpA n).2.1 = s1 at *
  generalize (shpA n).2.2.1 = s2 at *
  generalize (shpA n).2.2.2 = s3 at *
  have HS12 := hid hs12
  clear hh ht hs12
  by_cases b1 : N < s1
  · rw [if_pos (.inl b1)]
    generalize strOfNums t = s at *
    go_enter Tryd.func39, Tryd.ntmps39
    go_wp2
    all_goals go_ret
    all_goals exact ⟨rfl, (by repeat (first | exact Bw.refl _ | apply Bw.alloc | apply Bw.drewN | apply Bw.drew))⟩
  by_cases b2 : s2 < N
  · rw [if_pos (.inr (.inl b2))]
    generalize strOfNums t = s at *
    go_enter Tryd.func39, Tryd.ntmps39
    go_wp2
    all_goals go_ret
    all_goals exact ⟨rfl, (by repeat (first | exact Bw.refl _ | apply Bw.alloc | apply Bw.drewN | apply Bw.drew))⟩
  have d1 : decide (N < s1) = false := decide_eq_false b1
  have d2 : decide (s2 < N) = false := decide_eq_false b2
  by_cases b3 : s3 = 1 ∧ isName t = false
  · rw [if_pos (.inr (.inr b3))]
    obtain ⟨rfl, b3⟩ := b3
    rw [b3] at XN
    generalize strOfNums t = s at *
    go_enter Tryd.func39, Tryd.ntmps39
    go_wp2_with (first
      | (go_at_call 52; refine (XN.out _).mono ?_; rintro e w' ⟨rfl, hw'⟩; subst w')
      | fail)
    all_goals go_ret
    all_goals exact ⟨rfl, (by repeat (first | exact Bw.refl _ | apply Bw.alloc | apply Bw.drewN | apply Bw.drew))⟩
  · rw [if_neg (by rintro (h | h | h); exact b1 h; exact b2 h; exact b3 h)]
    have b4 : (s3 = 1 ∧ isName t = true) ∨ (s3 == 1) = false := by
      by_cases h : s3 = 1
      · refine .inl ⟨h, ?_⟩
        cases hq : isName t with
        | true => rfl
        | false => exact absurd ⟨h, hq⟩ b3
      · exact .inr (by simpa using h)
    rcases b4 with ⟨rfl, b4⟩ | b4
    · rw [b4] at XN
      by_cases k14 : n = 14
      · subst k14
        rw [if_pos (show ((14 : Nat) : Int) = 14 from rfl)]
        generalize strOfNums t = s at *
        go_enter Tryd.func39, Tryd.ntmps39
        go_wp2_with (first
          | (go_at_call 52; refine (XN.out _).mono ?_; rintro e w' ⟨rfl, hw'⟩; subst w')
          | (go_at_call 53; refine (XB.out _).mono ?_; rintro e w' ⟨rfl, hw'⟩; subst w')
          | fail)
        all_goals go_ret
        all_goals exact ⟨by first | rfl | (simp [*]; done) | (simp; omega), (by repeat (first | exact Bw.refl _ | apply Bw.alloc | apply Bw.drewN | apply Bw.drew))⟩
      by_cases k23 : n = 23
      · subst k23
        rw [if_neg (by decide), if_pos (show ((23 : Nat) : Int) = 23 from rfl)]
        generalize binP t = bb at *
        generalize strOfNums t = s at *
        go_enter Tryd.func39, Tryd.ntmps39
        go_wp2_with (first
          | (go_at_call 52; refine (XN.out _).mono ?_; rintro e w' ⟨rfl, hw'⟩; subst w')
          | (go_at_call 53; refine (XB.out _).mono ?_; rintro e w' ⟨rfl, hw'⟩; subst w')
          | fail)
        all_goals go_ret
        all_goals exact ⟨by first | rfl | (simp [*]; done) | (simp; omega), (by repeat (first | exact Bw.refl _ | apply Bw.alloc | apply Bw.drewN | apply Bw.drew))⟩
      by_cases k12 : n = 12
      · subst k12
        rw [if_neg (by decide), if_neg (by decide), if_pos (.inl rfl)]
        have hs9 := HS12.out (.inl rfl)
        have hN1 : 1 ≤ N := by omega
        generalize strOfNums t = s at *
        go_enter Tryd.func39, Tryd.ntmps39
        go_wp2_with (first
          | (go_at_call 52; refine (XN.out _).mono ?_; rintro e w' ⟨rfl, hw'⟩; subst w')
          | (go_at_call 53; refine (XB.out _).mono ?_; rintro e w' ⟨rfl, hw'⟩; subst w')
          | fail)
        all_goals go_ret
        all_goals exact ⟨by first | rfl | (simp [*]; done) | (simp; omega), (by repeat (first | exact Bw.refl _ | apply Bw.alloc | apply Bw.drewN | apply Bw.drew))⟩
      by_cases k31 : n = 31
      · subst k31
        rw [if_neg (by decide), if_neg (by decide), if_pos (.inr rfl)]
        have hs9 := HS12.out (.inr rfl)
        have hN1 : 1 ≤ N := by omega
        generalize strOfNums t = s at *
        go_enter Tryd.func39, Tryd.ntmps39
        go_wp2_with (first
          | (go_at_call 52; refine (XN.out _).mono ?_; rintro e w' ⟨rfl, hw'⟩; subst w')
          | (go_at_call 53; refine (XB.out _).mono ?_; rintro e w' ⟨rfl, hw'⟩; subst w')
          | fail)
        all_goals go_ret
        all_goals exact ⟨by first | rfl | (simp [*]; done) | (simp; omega), (by repeat (first | exact Bw.refl _ | apply Bw.alloc | apply Bw.drewN | apply Bw.drew))⟩
      rw [if_neg (by omega), if_neg (by omega), if_neg (by omega)]
      generalize strOfNums t = s at *
      go_enter Tryd.func39, Tryd.ntmps39
      go_wp2_with (first
        | (go_at_call 52; refine (XN.out _).mono ?_; rintro e w' ⟨rfl, hw'⟩; subst w')
        | (go_at_call 53; refine (XB.out _).mono ?_; rintro e w' ⟨rfl, hw'⟩; subst w')
        | fail)
      all_goals go_ret
      all_goals exact ⟨by first | rfl | (simp [*]; done) | (simp; omega), (by repeat (first | exact Bw.refl _ | apply Bw.alloc | apply Bw.drewN | apply Bw.drew))⟩
    · skip
      by_cases k14 : n = 14
      · subst k14
        rw [if_pos (show ((14 : Nat) : Int) = 14 from rfl)]
        generalize strOfNums t = s at *
        go_enter Tryd.func39, Tryd.ntmps39
        go_wp2_with (first
          | (go_at_call 52; refine (XN.out _).mono ?_; rintro e w' ⟨rfl, hw'⟩; subst w')
          | (go_at_call 53; refine (XB.out _).mono ?_; rintro e w' ⟨rfl, hw'⟩; subst w')
          | fail)
        all_goals go_ret
        all_goals exact ⟨by first | rfl | (simp [*]; done) | (simp; omega), (by repeat (first | exact Bw.refl _ | apply Bw.alloc | apply Bw.drewN | apply Bw.drew))⟩
      by_cases k23 : n = 23
      · subst k23
        rw [if_neg (by decide), if_pos (show ((23 : Nat) : Int) = 23 from rfl)]
        generalize binP t = bb at *
        generalize strOfNums t = s at *
        go_enter Tryd.func39, Tryd.ntmps39
        go_wp2_with (first
          | (go_at_call 52; refine (XN.out _).mono ?_; rintro e w' ⟨rfl, hw'⟩; subst w')
          | (go_at_call 53; refine (XB.out _).mono ?_; rintro e w' ⟨rfl, hw'⟩; subst w')
          | fail)
        all_goals go_ret
        all_goals exact ⟨by first | rfl | (simp [*]; done) | (simp; omega), (by repeat (first | exact Bw.refl _ | apply Bw.alloc | apply Bw.drewN | apply Bw.drew))⟩
      by_cases k12 : n = 12
      · subst k12
        rw [if_neg (by decide), if_neg (by decide), if_pos (.inl rfl)]
        have hs9 := HS12.out (.inl rfl)
        have hN1 : 1 ≤ N := by omega
        generalize strOfNums t = s at *
        go_enter Tryd.func39, Tryd.ntmps39
        go_wp2_with (first
          | (go_at_call 52; refine (XN.out _).mono ?_; rintro e w' ⟨rfl, hw'⟩; subst w')
          | (go_at_call 53; refine (XB.out _).mono ?_; rintro e w' ⟨rfl, hw'⟩; subst w')
          | fail)
        all_goals go_ret
        all_goals exact ⟨by first | rfl | (simp [*]; done) | (simp; omega), (by repeat (first | exact Bw.refl _ | apply Bw.alloc | apply Bw.drewN | apply Bw.drew))⟩
      by_cases k31 : n = 31
      · subst k31
        rw [if_neg (by decide), if_neg (by decide), if_pos (.inr rfl)]
        have hs9 := HS12.out (.inr rfl)
        have hN1 : 1 ≤ N := by omega
        generalize strOfNums t = s at *
        go_enter Tryd.func39, Tryd.ntmps39
        go_wp2_with (first
          | (go_at_call 52; refine (XN.out _).mono ?_; rintro e w' ⟨rfl, hw'⟩; subst w')
          | (go_at_call 53; refine (XB.out _).mono ?_; rintro e w' ⟨rfl, hw'⟩; subst w')
          | fail)
        all_goals go_ret
        all_goals exact ⟨by first | rfl | (simp [*]; done) | (simp; omega), (by repeat (first | exact Bw.refl _ | apply Bw.alloc | apply Bw.drewN | apply Bw.drew))⟩
      rw [if_neg (by omega), if_neg (by omega), if_neg (by omega)]
      generalize strOfNums t = s at *
      go_enter Tryd.func39, Tryd.ntmps39
      go_wp2_with (first
        | (go_at_call 52; refine (XN.out _).mono ?_; rintro e w' ⟨rfl, hw'⟩; subst w')
        | (go_at_call 53; refine (XB.out _).mono ?_; rintro e w' ⟨rfl, hw'⟩; subst w')
        | fail)
      all_goals go_ret
      all_goals exact ⟨by first | rfl | (simp [*]; done) | (simp; omega), (by repeat (first | exact Bw.refl _ | apply Bw.alloc | apply Bw.drewN | apply Bw.drew))⟩

/-- A node with how many of its parts came, in memory. -/
def unV (u : ANode × Int) : List Value := [.int .i64 u.1.1, .int .i64 u.1.2.1, .string (strOfNums u.1.2.2.1), .int .i64 u.1.2.2.2.1, .int .i64 u.1.2.2.2.2, .int .i64 u.2]

set_option maxRecDepth 100000 in
set_option maxHeartbeats 8000000 in
theorem step_any (n : ANode) (c : Nat) (g o : Nat) (w : World) (hc : (c : Int) < n.2.1) (hc2 : c ≤ 100000) (h4 : n.1 = 4 → n.2.1 ≤ 2) (h5 : n.1 = 5 ∨ n.1 = 6 → n.2.1 ≤ 3) (hg : g < w.heap.size)
    (c0 : w.cell? ⟨g, o, none⟩ = some (.int .i64 n.1)) (c3 : w.cell? ⟨g, o + 3, none⟩ = some (.int .i64 n.2.2.2.1)) (c5 : w.cell? ⟨g, o + 5, none⟩ = some (.int .i64 (c : Int))) (f5 : w.frozen? ⟨g, o + 5, none⟩ = false) :
    Calls Tryd.prog 42 #[.pointer (some ⟨g, o, none⟩)] w fun e w' => e = .returned (.int .i64 (stP n (c : Int))) ∧ w' = w.setCell ⟨g, o + 5, none⟩ (.int .i64 ((c : Int) + 1)) := by
  have x20 : ∀ w, (Instr.index 109 (.agg #[.int .i64 8, .int .i64 3]) (.int .i64 0)).run Tryd.prog w = .ok (.int .i64 8) w := fun _ => rfl
  have x21 : ∀ w, (Instr.index 109 (.agg #[.int .i64 8, .int .i64 3]) (.int .i64 1)).run Tryd.prog w = .ok (.int .i64 3) w := fun _ => rfl
  have x30 : ∀ w, (Instr.index 110 (.agg #[.int .i64 3, .int .i64 6, .int .i64 7]) (.int .i64 0)).run Tryd.prog w = .ok (.int .i64 3) w := fun _ => rfl
  have x31 : ∀ w, (Instr.index 110 (.agg #[.int .i64 3, .int .i64 6, .int .i64 7]) (.int .i64 1)).run Tryd.prog w = .ok (.int .i64 6) w := fun _ => rfl
  have x32 : ∀ w, (Instr.index 110 (.agg #[.int .i64 3, .int .i64 6, .int .i64 7]) (.int .i64 2)).run Tryd.prog w = .ok (.int .i64 7) w := fun _ => rfl
  unfold stP
  generalize n.2.1 = N at *
  generalize n.2.2.2.1 = num at *
  generalize n.1 = k at *
  by_cases k1 : k = 1
  · subst k1
    rw [if_pos (.inl rfl)]
    go_enter Tryd.func42, Tryd.ntmps42
    go_wp2
    all_goals go_ret
    all_goals exact ⟨rfl, rfl⟩
  by_cases k2 : k = 2
  · subst k2
    rw [if_pos (.inr rfl)]
    go_enter Tryd.func42, Tryd.ntmps42
    go_wp2
    all_goals go_ret
    all_goals exact ⟨rfl, rfl⟩
  by_cases k11 : k = 11
  · subst k11
    rw [if_neg (by decide), if_pos rfl]
    go_enter Tryd.func42, Tryd.ntmps42
    go_wp2
    all_goals go_ret
    all_goals exact ⟨rfl, rfl⟩
  by_cases k21 : k = 21
  · subst k21
    rw [if_neg (by decide), if_neg (by decide), if_pos rfl]
    go_enter Tryd.func42, Tryd.ntmps42
    go_wp2
    all_goals go_ret
    all_goals exact ⟨rfl, rfl⟩
  by_cases k4 : k = 4
  · subst k4
    rw [if_neg (by decide), if_neg (by decide), if_neg (by decide), if_pos rfl]
    have hc9 : c = 0 ∨ c = 1 := by have := h4 rfl; omega
    clear h4 h5 hc hc2
    rcases hc9 with rfl | rfl
    · rw [if_pos (show ((0 : Nat) : Int) = 0 from rfl)]
      go_enter Tryd.func42, Tryd.ntmps42
      go_wp2
      all_goals go_ret
      all_goals exact ⟨rfl, rfl⟩
    · rw [if_neg (by decide)]
      go_enter Tryd.func42, Tryd.ntmps42
      go_wp2
      all_goals go_ret
      all_goals exact ⟨rfl, rfl⟩
  by_cases k5 : k = 5
  · subst k5
    rw [if_neg (by decide), if_neg (by decide), if_neg (by decide), if_neg (by decide), if_pos (.inl rfl)]
    have hc9 : c = 0 ∨ c = 1 ∨ c = 2 := by have := h5 (.inl rfl); omega
    clear h4 h5 hc hc2
    rcases hc9 with rfl | rfl | rfl
    · rw [if_pos (show ((0 : Nat) : Int) = 0 from rfl)]
      go_enter Tryd.func42, Tryd.ntmps42
      go_wp2
      all_goals go_ret
      all_goals exact ⟨rfl, rfl⟩
    · rw [if_neg (by decide), if_pos (show ((1 : Nat) : Int) = 1 from rfl)]
      go_enter Tryd.func42, Tryd.ntmps42
      go_wp2
      all_goals go_ret
      all_goals exact ⟨rfl, rfl⟩
    · rw [if_neg (by decide), if_neg (by decide)]
      go_enter Tryd.func42, Tryd.ntmps42
      go_wp2
      all_goals go_ret
      all_goals exact ⟨rfl, rfl⟩
  by_cases k6 : k = 6
  · subst k6
    rw [if_neg (by decide), if_neg (by decide), if_neg (by decide), if_neg (by decide), if_pos (.inr rfl)]
    have hc9 : c = 0 ∨ c = 1 ∨ c = 2 := by have := h5 (.inr rfl); omega
    clear h4 h5 hc hc2
    rcases hc9 with rfl | rfl | rfl
    · rw [if_pos (show ((0 : Nat) : Int) = 0 from rfl)]
      go_enter Tryd.func42, Tryd.ntmps42
      go_wp2
      all_goals go_ret
      all_goals exact ⟨rfl, rfl⟩
    · rw [if_neg (by decide), if_pos (show ((1 : Nat) : Int) = 1 from rfl)]
      go_enter Tryd.func42, Tryd.ntmps42
      go_wp2
      all_goals go_ret
      all_goals exact ⟨rfl, rfl⟩
    · rw [if_neg (by decide), if_neg (by decide)]
      go_enter Tryd.func42, Tryd.ntmps42
      go_wp2
      all_goals go_ret
      all_goals exact ⟨rfl, rfl⟩
  by_cases k12 : k = 12
  · subst k12
    rw [if_neg (by decide), if_neg (by decide), if_neg (by decide), if_neg (by decide), if_neg (by decide), if_pos (.inl rfl)]
    clear h4 h5
    by_cases hcn : (c : Int) < num
    · rw [if_pos hcn]
      go_enter Tryd.func42, Tryd.ntmps42
      go_wp2
      all_goals go_ret
      all_goals exact ⟨rfl, rfl⟩
    · rw [if_neg hcn]
      go_enter Tryd.func42, Tryd.ntmps42
      go_wp2
      all_goals go_ret
      all_goals exact ⟨rfl, rfl⟩
  by_cases k31 : k = 31
  · subst k31
    rw [if_neg (by decide), if_neg (by decide), if_neg (by decide), if_neg (by decide), if_neg (by decide), if_pos (.inr rfl)]
    clear h4 h5
    by_cases hcn : (c : Int) < num
    · rw [if_pos hcn]
      go_enter Tryd.func42, Tryd.ntmps42
      go_wp2
      all_goals go_ret
      all_goals exact ⟨rfl, rfl⟩
    · rw [if_neg hcn]
      go_enter Tryd.func42, Tryd.ntmps42
      go_wp2
      all_goals go_ret
      all_goals exact ⟨rfl, rfl⟩
  rw [if_neg (by omega), if_neg (by omega), if_neg (by omega), if_neg (by omega), if_neg (by omega), if_neg (by omega)]
  clear h4 h5
  go_enter Tryd.func42, Tryd.ntmps42
  go_wp2
  all_goals go_ret
  all_goals exact ⟨rfl, rfl⟩

end Go.Proofs.YtekkjpecdflajaaDoor

