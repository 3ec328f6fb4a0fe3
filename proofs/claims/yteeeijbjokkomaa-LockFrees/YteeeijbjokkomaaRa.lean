/- The document's calls where there is no monitor: contracts. -/
import Derived.Test.YteeeijbjokkomaaPl
set_option linter.unusedSimpArgs false
set_option linter.unusedVariables false
namespace Go.Proofs.Yteeeijbjokkomaa
open Go Go.RowKit

/-- No monitors, in the document's words. -/
def rE : Value := .agg #[.slice none 0 0, .slice none 0 0, .slice none 0 0]

set_option maxRecDepth 100000 in
set_option maxHeartbeats 1000000 in
theorem rwrong_e (m t : Int) (w : World) : Calls Try.prog 55 #[rE, .int .i64 m, .int .i64 t] w fun e w' => e = .returned (.bool true) ∧ Ly w w' := by
  unfold rE
  by_cases h : m < 0
  · go_enter Try.func55, Try.ntmps55
    go_wp2
    all_goals go_ret
    all_goals exact ⟨rfl, Ly.alloc (Ly.refl _) _⟩
  · have h0 : decide (m < 0) = false := decide_eq_false h
    have h1 : (0 : Int) ≤ m := by omega
    go_enter Try.func55, Try.ntmps55
    go_wp2
    all_goals go_ret
    all_goals exact ⟨rfl, Ly.alloc (Ly.refl _) _⟩

set_option maxRecDepth 100000 in
set_option maxHeartbeats 1000000 in
theorem rhas_e (m t : Int) (w : World) : Calls Try.prog 58 #[rE, .int .i64 m, .int .i64 t] w fun e w' => e = .returned (.int .i64 1) ∧ Ly w w' := by
  have hw := fun w => rwrong_e m t w
  unfold rE at hw ⊢
  go_enter Try.func58, Try.ntmps58
  go_wp2_with (first
    | (go_at_call 55; refine (hw _).mono ?_; rintro e w1 ⟨rfl, os, k, rfl⟩)
    | fail)
  all_goals go_ret
  all_goals exact ⟨rfl, Ly.lay (Ly.alloc (Ly.refl _) _) _ _⟩

set_option maxRecDepth 100000 in
set_option maxHeartbeats 1000000 in
theorem rplace_e (t : Int) (w : World) : Calls Try.prog 56 #[.slice none 0 0, .int .i64 t] w fun e w' => e = .returned (.int .i64 (-1)) ∧ w' = w := by
  go_enter Try.func56, Try.ntmps56
  go_wp2
  go_loopw [5] (fun j wr => j = .int .i64 0 ∧ wr = w) (fun _ _ => 0)
  case atStart => exact ⟨rfl, rfl⟩
  case round =>
    obtain ⟨rfl, rfl⟩ := hrel
    go_wp2
    all_goals go_ret
    all_goals exact ⟨rfl, rfl⟩

set_option maxRecDepth 100000 in
set_option maxHeartbeats 1000000 in
theorem rLock_e (m t : Int) (w : World) : Calls Try.prog 27 #[rE, .int .i64 m, .int .i64 t] w fun e w' => e = .returned (.tuple #[rE, .int .i64 1]) ∧ Bw w w' := by
  have hw := fun w => rwrong_e m t w
  unfold rE at hw ⊢
  go_enter Try.func27, Try.ntmps27
  go_wp2_with (first
    | (go_at_call 55; refine (hw _).mono ?_; rintro e w1 ⟨rfl, os, k, rfl⟩)
    | fail)
  all_goals exact bodyPost_ret (v := .tuple #[.agg #[.slice none 0 0, .slice none 0 0, .slice none 0 0], .int .i64 1]) (by simp [results, Try.results27, go_sem, *]) rfl ⟨rfl, by repeat (first | exact Bw.refl _ | apply Bw.setCell | apply Bw.lay | apply Bw.alloc | apply Bw.drewN | apply Bw.drew | (simp; done) | (simp; omega))⟩

set_option maxRecDepth 100000 in
set_option maxHeartbeats 1000000 in
theorem rUnlock_e (m t : Int) (w : World) : Calls Try.prog 28 #[rE, .int .i64 m, .int .i64 t] w fun e w' => e = .returned (.tuple #[rE, .int .i64 1]) ∧ Bw w w' := by
  have hw := fun w => rhas_e m t w
  unfold rE at hw ⊢
  go_enter Try.func28, Try.ntmps28
  go_wp2_with (first
    | (go_at_call 58; refine (hw _).mono ?_; rintro e w1 ⟨rfl, os, k, rfl⟩)
    | fail)
  all_goals exact bodyPost_ret (v := .tuple #[.agg #[.slice none 0 0, .slice none 0 0, .slice none 0 0], .int .i64 1]) (by simp [results, Try.results28, go_sem, *]) rfl ⟨rfl, by repeat (first | exact Bw.refl _ | apply Bw.setCell | apply Bw.lay | apply Bw.alloc | apply Bw.drewN | apply Bw.drew | (simp; done) | (simp; omega))⟩

set_option maxRecDepth 100000 in
set_option maxHeartbeats 1000000 in
theorem rWait_e (m t u : Int) (w : World) : Calls Try.prog 29 #[rE, .int .i64 m, .int .i64 t, .int .i64 u] w fun e w' => e = .returned (.tuple #[rE, .int .i64 1]) ∧ Bw w w' := by
  have hw := fun w => rwrong_e m t w
  unfold rE at hw ⊢
  go_enter Try.func29, Try.ntmps29
  go_wp2_with (first
    | (go_at_call 55; refine (hw _).mono ?_; rintro e w1 ⟨rfl, os, k, rfl⟩)
    | fail)
  all_goals exact bodyPost_ret (v := .tuple #[.agg #[.slice none 0 0, .slice none 0 0, .slice none 0 0], .int .i64 1]) (by simp [results, Try.results29, go_sem, *]) rfl ⟨rfl, by repeat (first | exact Bw.refl _ | apply Bw.setCell | apply Bw.lay | apply Bw.alloc | apply Bw.drewN | apply Bw.drew | (simp; done) | (simp; omega))⟩

set_option maxRecDepth 100000 in
set_option maxHeartbeats 1000000 in
theorem rNotify_e (m t : Int) (all : Bool) (w : World) : Calls Try.prog 30 #[rE, .int .i64 m, .int .i64 t, .bool all] w fun e w' => e = .returned (.tuple #[rE, .slice none 0 0, .int .i64 1]) ∧ Bw w w' := by
  have hw := fun w => rhas_e m t w
  unfold rE at hw ⊢
  go_enter Try.func30, Try.ntmps30
  go_wp2_with (first
    | (go_at_call 58; refine (hw _).mono ?_; rintro e w1 ⟨rfl, os, k, rfl⟩)
    | fail)
  all_goals exact bodyPost_ret (v := .tuple #[.agg #[.slice none 0 0, .slice none 0 0, .slice none 0 0], .slice none 0 0, .int .i64 1]) (by simp [results, Try.results30, go_sem, *]) rfl ⟨rfl, by repeat (first | exact Bw.refl _ | apply Bw.setCell | apply Bw.lay | apply Bw.alloc | apply Bw.drewN | apply Bw.drew | (simp; done) | (simp; omega))⟩

set_option maxRecDepth 100000 in
set_option maxHeartbeats 1000000 in
theorem rRelock_e (t : Int) (w : World) : Calls Try.prog 32 #[rE, .int .i64 t] w fun e w' => ∃ k : Int, e = .returned (.tuple #[rE, .int .i64 k]) ∧ Bw w w' := by
  have hw := fun w => rplace_e t w
  unfold rE
  by_cases h1 : t < 0
  · go_enter Try.func32, Try.ntmps32
    go_wp2
    all_goals exact bodyPost_ret (v := .tuple #[.agg #[.slice none 0 0, .slice none 0 0, .slice none 0 0], .int .i64 1]) (by simp [results, Try.results32, go_sem, *]) rfl (by first | exact ⟨_, rfl, by repeat (first | exact Bw.refl _ | apply Bw.setCell | apply Bw.lay | apply Bw.alloc | apply Bw.drewN | apply Bw.drew | (simp; done) | (simp; omega))⟩ | exact ⟨⟨_, rfl⟩, by repeat (first | exact Bw.refl _ | apply Bw.setCell | apply Bw.lay | apply Bw.alloc | apply Bw.drewN | apply Bw.drew | (simp; done) | (simp; omega))⟩)
  by_cases h2 : 256 ≤ t
  · have h1' : decide (t < 0) = false := decide_eq_false h1
    go_enter Try.func32, Try.ntmps32
    go_wp2
    all_goals exact bodyPost_ret (v := .tuple #[.agg #[.slice none 0 0, .slice none 0 0, .slice none 0 0], .int .i64 1]) (by simp [results, Try.results32, go_sem, *]) rfl (by first | exact ⟨_, rfl, by repeat (first | exact Bw.refl _ | apply Bw.setCell | apply Bw.lay | apply Bw.alloc | apply Bw.drewN | apply Bw.drew | (simp; done) | (simp; omega))⟩ | exact ⟨⟨_, rfl⟩, by repeat (first | exact Bw.refl _ | apply Bw.setCell | apply Bw.lay | apply Bw.alloc | apply Bw.drewN | apply Bw.drew | (simp; done) | (simp; omega))⟩)
  · have h1' : decide (t < 0) = false := decide_eq_false h1
    have h2' : decide (256 ≤ t) = false := decide_eq_false h2
    go_enter Try.func32, Try.ntmps32
    go_wp2_with (first
      | (go_at_call 56; refine (hw _).mono ?_; rintro e w1 ⟨rfl, hw⟩; subst w1)
      | fail)
    go_quiet (fail)
    all_goals go_wp2
    all_goals exact bodyPost_ret (v := .tuple #[.agg #[.slice none 0 0, .slice none 0 0, .slice none 0 0], .int .i64 7]) (by simp [results, Try.results32, go_sem, *]) rfl (by first | exact ⟨_, rfl, by repeat (first | exact Bw.refl _ | apply Bw.setCell | apply Bw.lay | apply Bw.alloc | apply Bw.drewN | apply Bw.drew | (simp; done) | (simp; omega))⟩ | exact ⟨⟨_, rfl⟩, by repeat (first | exact Bw.refl _ | apply Bw.setCell | apply Bw.lay | apply Bw.alloc | apply Bw.drewN | apply Bw.drew | (simp; done) | (simp; omega))⟩)

set_option maxRecDepth 100000 in
set_option maxHeartbeats 1000000 in
theorem rExpire_e (now : Int) (w : World) : Calls Try.prog 31 #[rE, .int .i64 now] w fun e w' => e = .returned (.tuple #[rE, .slice none 0 0]) ∧ Bw w w' := by
  unfold rE
  go_enter Try.func31, Try.ntmps31
  go_wp2
  go_loopw [6, 7, 8, 9, 10, 11] (fun o _ _ _ _ _ wr => o = .slice none 0 0 ∧ wr = (w.alloc (.cells #[.slice none 0 0, .slice none 0 0, .slice none 0 0] 29)).alloc (.cells #[.slice none 0 0, .slice none 0 0, .slice none 0 0] 29)) (fun _ _ _ _ _ _ _ => 0)
  case atStart => exact ⟨rfl, rfl⟩
  case round =>
    obtain ⟨rfl, rfl⟩ := hrel
    go_wp2
    go_loopw [7, 8, 9] (fun b j _ wz => b = .int .i64 (-1) ∧ j = .int .i64 0 ∧ wz = (w.alloc (.cells #[.slice none 0 0, .slice none 0 0, .slice none 0 0] 29)).alloc (.cells #[.slice none 0 0, .slice none 0 0, .slice none 0 0] 29)) (fun _ _ _ _ => 0)
    case atStart => exact ⟨rfl, rfl, rfl⟩
    case round =>
      obtain ⟨rfl, rfl, rfl⟩ := hrel
      go_wp2
      all_goals exact bodyPost_ret (v := .tuple #[.agg #[.slice none 0 0, .slice none 0 0, .slice none 0 0], .slice none 0 0]) (by simp [results, Try.results31, go_sem, *]) rfl ⟨rfl, by repeat (first | exact Bw.refl _ | apply Bw.setCell | apply Bw.lay | apply Bw.alloc | apply Bw.drewN | apply Bw.drew | (simp; done) | (simp; omega))⟩

set_option maxRecDepth 100000 in
set_option maxHeartbeats 1000000 in
theorem rDrop_e (t : Int) (w : World) : Calls Try.prog 33 #[rE, .int .i64 t] w fun e w' => e = .returned rE ∧ Bw w w' := by
  unfold rE
  go_enter Try.func33, Try.ntmps33
  go_wp2
  go_loopw [5] (fun j wr => j = .int .i64 0 ∧ wr = (w.alloc (.cells #[.slice none 0 0, .slice none 0 0, .slice none 0 0] 29)).alloc (.cells #[.slice none 0 0, .slice none 0 0, .slice none 0 0] 29)) (fun _ _ => 0)
  case atStart => exact ⟨rfl, rfl⟩
  case round =>
    obtain ⟨rfl, rfl⟩ := hrel
    go_wp2
    go_loopw [6, 8] (fun o j wr => o = .slice none 0 0 ∧ j = .int .i64 0 ∧ wr = (w.alloc (.cells #[.slice none 0 0, .slice none 0 0, .slice none 0 0] 29)).alloc (.cells #[.slice none 0 0, .slice none 0 0, .slice none 0 0] 29)) (fun _ _ _ => 0)
    case atStart => exact ⟨rfl, rfl, rfl⟩
    case round =>
      obtain ⟨rfl, rfl, rfl⟩ := hrel
      go_wp2
      go_loopw [7, 9] (fun o j wr => o = .slice none 0 0 ∧ j = .int .i64 0 ∧ wr = (w.alloc (.cells #[.slice none 0 0, .slice none 0 0, .slice none 0 0] 29)).alloc (.cells #[.slice none 0 0, .slice none 0 0, .slice none 0 0] 29)) (fun _ _ _ => 0)
      case atStart => exact ⟨rfl, rfl, rfl⟩
      case round =>
        obtain ⟨rfl, rfl, rfl⟩ := hrel
        go_wp2
        all_goals exact bodyPost_ret (v := .agg #[.slice none 0 0, .slice none 0 0, .slice none 0 0]) (by simp [results, Try.results33, go_sem, *]) rfl ⟨rfl, by repeat (first | exact Bw.refl _ | apply Bw.setCell | apply Bw.lay | apply Bw.alloc | apply Bw.drewN | apply Bw.drew | (simp; done) | (simp; omega))⟩

set_option maxRecDepth 100000 in
set_option maxHeartbeats 1000000 in
/-- A list against none. -/
theorem sameInts_no {w : World} (a : Option Addr) (n c : Nat) (hn : n ≤ 1000) : Calls Try.prog 25 #[.slice a n c, .slice none 0 0] w fun e w' => e = .returned (.bool (n == 0)) ∧ w' = w := by
  by_cases h : n = 0
  · subst h
    go_enter Try.func25, Try.ntmps25
    go_wp2
    go_loopw [5] (fun j wr => j = .int .i64 0 ∧ wr = w) (fun _ _ => 0)
    case atStart => exact ⟨rfl, rfl⟩
    case round =>
      obtain ⟨rfl, rfl⟩ := hrel
      go_wp2
      all_goals go_ret
      all_goals exact ⟨rfl, rfl⟩
  · have h1 : ((n : Int) != 0) = true := by simp; omega
    rw [show (n == 0) = false by simp [h]]
    go_enter Try.func25, Try.ntmps25
    go_wp2
    all_goals go_ret
    all_goals exact ⟨rfl, rfl⟩

end Go.Proofs.Yteeeijbjokkomaa
