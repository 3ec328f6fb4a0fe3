/- The document's Tell: the contract. -/
import Derived.Test.YtfkcbioefdkabaaQd
set_option linter.unusedSimpArgs false
set_option linter.unusedVariables false
namespace Go.Proofs.Ytfkcbioefdkabaa
open Go Go.RowKit

set_option maxRecDepth 100000 in
set_option maxHeartbeats 2000000 in
theorem rTell_no_2f0 {w : World} {F G : Nat} {av : Option Addr} {cv n : Nat} (x : AA) (hd : x.d = 2)  (y : x.f < 0) : Calls Try.prog 13 #[rpV F G (.slice av n cv), actV x] w fun e w' => e = .returned (.tuple #[rpV F G (.slice av n cv), .int .i64 1]) ∧ Bw w w' := by
  unfold actV
  have q2 : (x.d == 2) = true := by simp [hd]
  clear hd
  go_enter Try.func13, Try.ntmps13
  go_wp2
  all_goals refine bodyPost_ret (v := .tuple #[rpV F G (.slice av n cv), .int .i64 1]) (by simp [results, Try.results13, go_sem, *]) rfl ⟨rfl, ?_⟩
  all_goals repeat (first | exact Bw.refl _ | apply Bw.alloc | apply Bw.drewN | apply Bw.drew)

set_option maxRecDepth 100000 in
set_option maxHeartbeats 2000000 in
theorem rTell_no_2f1 {w : World} {F G : Nat} {av : Option Addr} {cv n : Nat} (x : AA) (hd : x.d = 2) (nf0 : ¬ x.f < 0) (y : (F : Int) ≤ x.f) : Calls Try.prog 13 #[rpV F G (.slice av n cv), actV x] w fun e w' => e = .returned (.tuple #[rpV F G (.slice av n cv), .int .i64 1]) ∧ Bw w w' := by
  unfold actV
  have q2 : (x.d == 2) = true := by simp [hd]
  have df0 : decide (x.f < 0) = false := decide_eq_false nf0
  clear hd
  go_enter Try.func13, Try.ntmps13
  go_wp2
  all_goals refine bodyPost_ret (v := .tuple #[rpV F G (.slice av n cv), .int .i64 1]) (by simp [results, Try.results13, go_sem, *]) rfl ⟨rfl, ?_⟩
  all_goals repeat (first | exact Bw.refl _ | apply Bw.alloc | apply Bw.drewN | apply Bw.drew)

set_option maxRecDepth 100000 in
set_option maxHeartbeats 2000000 in
theorem rTell_no_2t0 {w : World} {F G : Nat} {av : Option Addr} {cv n : Nat} (x : AA) (hd : x.d = 2) (nf0 : ¬ x.f < 0) (nf1 : ¬ (F : Int) ≤ x.f) (y : x.t < 0) : Calls Try.prog 13 #[rpV F G (.slice av n cv), actV x] w fun e w' => e = .returned (.tuple #[rpV F G (.slice av n cv), .int .i64 1]) ∧ Bw w w' := by
  unfold actV
  have q2 : (x.d == 2) = true := by simp [hd]
  have df0 : decide (x.f < 0) = false := decide_eq_false nf0
  have df1 : decide ((F : Int) ≤ x.f) = false := decide_eq_false nf1
  clear hd
  go_enter Try.func13, Try.ntmps13
  go_wp2
  all_goals refine bodyPost_ret (v := .tuple #[rpV F G (.slice av n cv), .int .i64 1]) (by simp [results, Try.results13, go_sem, *]) rfl ⟨rfl, ?_⟩
  all_goals repeat (first | exact Bw.refl _ | apply Bw.alloc | apply Bw.drewN | apply Bw.drew)

set_option maxRecDepth 100000 in
set_option maxHeartbeats 2000000 in
theorem rTell_no_2t1 {w : World} {F G : Nat} {av : Option Addr} {cv n : Nat} (x : AA) (hd : x.d = 2) (nf0 : ¬ x.f < 0) (nf1 : ¬ (F : Int) ≤ x.f) (nt0 : ¬ x.t < 0) (y : 65536 ≤ x.t) : Calls Try.prog 13 #[rpV F G (.slice av n cv), actV x] w fun e w' => e = .returned (.tuple #[rpV F G (.slice av n cv), .int .i64 1]) ∧ Bw w w' := by
  unfold actV
  have q2 : (x.d == 2) = true := by simp [hd]
  have df0 : decide (x.f < 0) = false := decide_eq_false nf0
  have df1 : decide ((F : Int) ≤ x.f) = false := decide_eq_false nf1
  have dt0 : decide (x.t < 0) = false := decide_eq_false nt0
  clear hd
  go_enter Try.func13, Try.ntmps13
  go_wp2
  all_goals refine bodyPost_ret (v := .tuple #[rpV F G (.slice av n cv), .int .i64 1]) (by simp [results, Try.results13, go_sem, *]) rfl ⟨rfl, ?_⟩
  all_goals repeat (first | exact Bw.refl _ | apply Bw.alloc | apply Bw.drewN | apply Bw.drew)

set_option maxRecDepth 100000 in
set_option maxHeartbeats 2000000 in
theorem rTell_no_2a0 {w : World} {F G : Nat} {av : Option Addr} {cv n : Nat} (x : AA) (hd : x.d = 2) (nf0 : ¬ x.f < 0) (nf1 : ¬ (F : Int) ≤ x.f) (nt0 : ¬ x.t < 0) (nt1 : ¬ 65536 ≤ x.t) (y : x.a < 0) : Calls Try.prog 13 #[rpV F G (.slice av n cv), actV x] w fun e w' => e = .returned (.tuple #[rpV F G (.slice av n cv), .int .i64 1]) ∧ Bw w w' := by
  unfold actV
  have q2 : (x.d == 2) = true := by simp [hd]
  have df0 : decide (x.f < 0) = false := decide_eq_false nf0
  have df1 : decide ((F : Int) ≤ x.f) = false := decide_eq_false nf1
  have dt0 : decide (x.t < 0) = false := decide_eq_false nt0
  have dt1 : decide (65536 ≤ x.t) = false := decide_eq_false nt1
  clear hd
  go_enter Try.func13, Try.ntmps13
  go_wp2
  all_goals refine bodyPost_ret (v := .tuple #[rpV F G (.slice av n cv), .int .i64 1]) (by simp [results, Try.results13, go_sem, *]) rfl ⟨rfl, ?_⟩
  all_goals repeat (first | exact Bw.refl _ | apply Bw.alloc | apply Bw.drewN | apply Bw.drew)

set_option maxRecDepth 100000 in
set_option maxHeartbeats 2000000 in
theorem rTell_no_2a1 {w : World} {F G : Nat} {av : Option Addr} {cv n : Nat} (x : AA) (hd : x.d = 2) (nf0 : ¬ x.f < 0) (nf1 : ¬ (F : Int) ≤ x.f) (nt0 : ¬ x.t < 0) (nt1 : ¬ 65536 ≤ x.t) (na0 : ¬ x.a < 0) (y : 3 < x.a) : Calls Try.prog 13 #[rpV F G (.slice av n cv), actV x] w fun e w' => e = .returned (.tuple #[rpV F G (.slice av n cv), .int .i64 1]) ∧ Bw w w' := by
  unfold actV
  have q2 : (x.d == 2) = true := by simp [hd]
  have df0 : decide (x.f < 0) = false := decide_eq_false nf0
  have df1 : decide ((F : Int) ≤ x.f) = false := decide_eq_false nf1
  have dt0 : decide (x.t < 0) = false := decide_eq_false nt0
  have dt1 : decide (65536 ≤ x.t) = false := decide_eq_false nt1
  have da0 : decide (x.a < 0) = false := decide_eq_false na0
  clear hd
  go_enter Try.func13, Try.ntmps13
  go_wp2
  all_goals refine bodyPost_ret (v := .tuple #[rpV F G (.slice av n cv), .int .i64 1]) (by simp [results, Try.results13, go_sem, *]) rfl ⟨rfl, ?_⟩
  all_goals repeat (first | exact Bw.refl _ | apply Bw.alloc | apply Bw.drewN | apply Bw.drew)

set_option maxRecDepth 100000 in
set_option maxHeartbeats 2000000 in
theorem rTell_no_2b0 {w : World} {F G : Nat} {av : Option Addr} {cv n : Nat} (x : AA) (hd : x.d = 2) (nf0 : ¬ x.f < 0) (nf1 : ¬ (F : Int) ≤ x.f) (nt0 : ¬ x.t < 0) (nt1 : ¬ 65536 ≤ x.t) (na0 : ¬ x.a < 0) (na1 : ¬ 3 < x.a) (y : x.b < 0) : Calls Try.prog 13 #[rpV F G (.slice av n cv), actV x] w fun e w' => e = .returned (.tuple #[rpV F G (.slice av n cv), .int .i64 1]) ∧ Bw w w' := by
  unfold actV
  have q2 : (x.d == 2) = true := by simp [hd]
  have df0 : decide (x.f < 0) = false := decide_eq_false nf0
  have df1 : decide ((F : Int) ≤ x.f) = false := decide_eq_false nf1
  have dt0 : decide (x.t < 0) = false := decide_eq_false nt0
  have dt1 : decide (65536 ≤ x.t) = false := decide_eq_false nt1
  have da0 : decide (x.a < 0) = false := decide_eq_false na0
  have da1 : decide (3 < x.a) = false := decide_eq_false na1
  clear hd
  go_enter Try.func13, Try.ntmps13
  go_wp2
  all_goals refine bodyPost_ret (v := .tuple #[rpV F G (.slice av n cv), .int .i64 1]) (by simp [results, Try.results13, go_sem, *]) rfl ⟨rfl, ?_⟩
  all_goals repeat (first | exact Bw.refl _ | apply Bw.alloc | apply Bw.drewN | apply Bw.drew)

set_option maxRecDepth 100000 in
set_option maxHeartbeats 2000000 in
theorem rTell_no_2b1 {w : World} {F G : Nat} {av : Option Addr} {cv n : Nat} (x : AA) (hd : x.d = 2) (nf0 : ¬ x.f < 0) (nf1 : ¬ (F : Int) ≤ x.f) (nt0 : ¬ x.t < 0) (nt1 : ¬ 65536 ≤ x.t) (na0 : ¬ x.a < 0) (na1 : ¬ 3 < x.a) (nb0 : ¬ x.b < 0) (y : 3 < x.b) : Calls Try.prog 13 #[rpV F G (.slice av n cv), actV x] w fun e w' => e = .returned (.tuple #[rpV F G (.slice av n cv), .int .i64 1]) ∧ Bw w w' := by
  unfold actV
  have q2 : (x.d == 2) = true := by simp [hd]
  have df0 : decide (x.f < 0) = false := decide_eq_false nf0
  have df1 : decide ((F : Int) ≤ x.f) = false := decide_eq_false nf1
  have dt0 : decide (x.t < 0) = false := decide_eq_false nt0
  have dt1 : decide (65536 ≤ x.t) = false := decide_eq_false nt1
  have da0 : decide (x.a < 0) = false := decide_eq_false na0
  have da1 : decide (3 < x.a) = false := decide_eq_false na1
  have db0 : decide (x.b < 0) = false := decide_eq_false nb0
  clear hd
  go_enter Try.func13, Try.ntmps13
  go_wp2
  all_goals refine bodyPost_ret (v := .tuple #[rpV F G (.slice av n cv), .int .i64 1]) (by simp [results, Try.results13, go_sem, *]) rfl ⟨rfl, ?_⟩
  all_goals repeat (first | exact Bw.refl _ | apply Bw.alloc | apply Bw.drewN | apply Bw.drew)

set_option maxRecDepth 100000 in
set_option maxHeartbeats 2000000 in
theorem rTell_no_3f0X {w : World} {F G : Nat} {av : Option Addr} {cv n : Nat} (x : AA) (hd : x.d = 3)  (y : x.f < 0) : Calls Try.prog 13 #[rpV F G (.slice av n cv), actV x] w fun e w' => e = .returned (.tuple #[rpV F G (.slice av n cv), .int .i64 1]) ∧ Bw w w' := by
  unfold actV
  have q2 : (x.d == 2) = false := by simp [hd]
  have q3 : (x.d == 3) = true := by simp [hd]
  clear hd
  go_enter Try.func13, Try.ntmps13
  go_wp2
  all_goals refine bodyPost_ret (v := .tuple #[rpV F G (.slice av n cv), .int .i64 1]) (by simp [results, Try.results13, go_sem, *]) rfl ⟨rfl, ?_⟩
  all_goals repeat (first | exact Bw.refl _ | apply Bw.alloc | apply Bw.drewN | apply Bw.drew)

set_option maxRecDepth 100000 in
set_option maxHeartbeats 2000000 in
theorem rTell_no_3f1X {w : World} {F G : Nat} {av : Option Addr} {cv n : Nat} (x : AA) (hd : x.d = 3) (nf0 : ¬ x.f < 0) (y : (G : Int) ≤ x.f) (z : (F : Int) ≤ x.f ∨ ¬ (F : Int) ≤ x.f) : Calls Try.prog 13 #[rpV F G (.slice av n cv), actV x] w fun e w' => e = .returned (.tuple #[rpV F G (.slice av n cv), .int .i64 1]) ∧ Bw w w' := by
  unfold actV
  have q2 : (x.d == 2) = false := by simp [hd]
  have q3 : (x.d == 3) = true := by simp [hd]
  clear hd
  have df0 : decide (x.f < 0) = false := decide_eq_false nf0
  rcases z with z | z
  all_goals go_enter Try.func13, Try.ntmps13
  all_goals go_wp2
  all_goals refine bodyPost_ret (v := .tuple #[rpV F G (.slice av n cv), .int .i64 1]) (by simp [results, Try.results13, go_sem, *]) rfl ⟨rfl, ?_⟩
  all_goals repeat (first | exact Bw.refl _ | apply Bw.alloc | apply Bw.drewN | apply Bw.drew)

set_option maxRecDepth 100000 in
set_option maxHeartbeats 2000000 in
theorem rTell_no_4f0 {w : World} {F G : Nat} {av : Option Addr} {cv n : Nat} (x : AA) (hd2 : ¬ x.d = 2) (hd3 : ¬ x.d = 3)  (y : x.f < 0) : Calls Try.prog 13 #[rpV F G (.slice av n cv), actV x] w fun e w' => e = .returned (.tuple #[rpV F G (.slice av n cv), .int .i64 1]) ∧ Bw w w' := by
  unfold actV
  have q2 : (x.d == 2) = false := by simp [hd2]
  have q3 : (x.d == 3) = false := by simp [hd3]
  clear hd2 hd3
  go_enter Try.func13, Try.ntmps13
  go_wp2
  all_goals refine bodyPost_ret (v := .tuple #[rpV F G (.slice av n cv), .int .i64 1]) (by simp [results, Try.results13, go_sem, *]) rfl ⟨rfl, ?_⟩
  all_goals repeat (first | exact Bw.refl _ | apply Bw.alloc | apply Bw.drewN | apply Bw.drew)

set_option maxRecDepth 100000 in
set_option maxHeartbeats 2000000 in
theorem rTell_no_4f1 {w : World} {F G : Nat} {av : Option Addr} {cv n : Nat} (x : AA) (hd2 : ¬ x.d = 2) (hd3 : ¬ x.d = 3) (nf0 : ¬ x.f < 0) (y : (F : Int) ≤ x.f) : Calls Try.prog 13 #[rpV F G (.slice av n cv), actV x] w fun e w' => e = .returned (.tuple #[rpV F G (.slice av n cv), .int .i64 1]) ∧ Bw w w' := by
  unfold actV
  have q2 : (x.d == 2) = false := by simp [hd2]
  have q3 : (x.d == 3) = false := by simp [hd3]
  clear hd2 hd3
  have df0 : decide (x.f < 0) = false := decide_eq_false nf0
  go_enter Try.func13, Try.ntmps13
  go_wp2
  all_goals refine bodyPost_ret (v := .tuple #[rpV F G (.slice av n cv), .int .i64 1]) (by simp [results, Try.results13, go_sem, *]) rfl ⟨rfl, ?_⟩
  all_goals repeat (first | exact Bw.refl _ | apply Bw.alloc | apply Bw.drewN | apply Bw.drew)

theorem rTell_no {w : World} {F G : Nat} {av : Option Addr} {cv n : Nat} (x : AA) (h : okT F G x = false) : Calls Try.prog 13 #[rpV F G (.slice av n cv), actV x] w fun e w' => e = .returned (.tuple #[rpV F G (.slice av n cv), .int .i64 1]) ∧ Bw w w' := by
  unfold okT at h
  by_cases h2 : x.d = 2
  · rw [if_pos h2] at h
    have h := of_decide_eq_false h
    by_cases f0 : x.f < 0
    · exact rTell_no_2f0 x h2 f0
    by_cases f1 : (F : Int) ≤ x.f
    · exact rTell_no_2f1 x h2 f0 f1
    by_cases t0 : x.t < 0
    · exact rTell_no_2t0 x h2 f0 f1 t0
    by_cases t1 : 65536 ≤ x.t
    · exact rTell_no_2t1 x h2 f0 f1 t0 t1
    by_cases a0 : x.a < 0
    · exact rTell_no_2a0 x h2 f0 f1 t0 t1 a0
    by_cases a1 : 3 < x.a
    · exact rTell_no_2a1 x h2 f0 f1 t0 t1 a0 a1
    by_cases b0 : x.b < 0
    · exact rTell_no_2b0 x h2 f0 f1 t0 t1 a0 a1 b0
    · exact rTell_no_2b1 x h2 f0 f1 t0 t1 a0 a1 b0 (by omega)
  · rw [if_neg h2] at h
    by_cases h3 : x.d = 3
    · rw [if_pos h3] at h
      have h := of_decide_eq_false h
      by_cases f0 : x.f < 0
      · exact rTell_no_3f0X x h3 f0
      · exact rTell_no_3f1X x h3 f0 (by omega) (Classical.em _)
    · rw [if_neg h3] at h
      have h := of_decide_eq_false h
      by_cases f0 : x.f < 0
      · exact rTell_no_4f0 x h2 h3 f0
      · exact rTell_no_4f1 x h2 h3 f0 (by omega)

end Go.Proofs.Ytfkcbioefdkabaa
