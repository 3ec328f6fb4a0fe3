/- 1024 monitors can be made, numbered from 0 on; then ErrMany. -/
import Derived.Test.YteeeijbjokkomaaFr
set_option linter.unusedVariables false
set_option linter.unusedSimpArgs false
namespace Go.Proofs.Yteeeijbjokkomaa.lockBounds
open Go.ChangeShapes Go.WideShapes Go.ChangeAt Go.RowKit

set_option maxRecDepth 100000 in
set_option maxHeartbeats 2000000 in
theorem walk (a0 : Int) (w0 : -9223372036854775808 ≤ a0 ∧ a0 ≤ 9223372036854775807) (w : World) :
    Calls Try.prog 4 #[.int .i64 a0] w fun e w' => e = .returned (.bool true) ∧ Bw w w' := by
  by_cases hlo : a0 < 1020
  · go_enter Try.func4, Try.ntmps4
    go_wp2_with (first
      | (go_at_call 8; refine (live_any _).mono ?_; rintro e w2 ⟨rfl, hb2⟩)
      | fail)
    all_goals go_ret
    all_goals exact ⟨rfl, hb2⟩
  by_cases hhi : 1030 < a0
  · have hlo' : decide (a0 < 1020) = false := decide_eq_false hlo
    go_enter Try.func4, Try.ntmps4
    go_wp2_with (first
      | (go_at_call 8; refine (live_any _).mono ?_; rintro e w2 ⟨rfl, hb2⟩)
      | fail)
    all_goals go_ret
    all_goals exact ⟨rfl, hb2⟩
  · have hlo' : decide (a0 < 1020) = false := decide_eq_false hlo
    have hhi' : decide (1030 < a0) = false := decide_eq_false hhi
    obtain ⟨N, rfl⟩ : ∃ N : Nat, a0 = N := ⟨a0.toNat, by omega⟩
    have hN : N ≤ 1030 := by omega
    clear w0
    go_enter Try.func4, Try.ntmps4
    go_wp2_with (first
      | (go_at_call 9; refine (New_any _).mono ?_; rintro e w1 ⟨p, rfl, hp1, hb1, b1⟩; have HP1 := hid hp1; have HB1 := hid hb1; have hbs := hid b1; clear hp1 hb1 b1)
      | fail)
    go_loopw [4, 5, 6] (fun j _ _ wr => ∃ (k : Nat) (bs' : List Nat) (A : LL), k ≤ N ∧ j = .int .i64 k ∧ PX wr p bs' A ∧ Nx [p] w1 wr bs' ∧ A.M.length = min k 1024) (fun j _ _ _ => N - (intOf j).toNat)
    case atStart => exact ⟨0, [p], ⟨[], [], []⟩, by omega, rfl, HP1.out, Nx.refl _ _, by simp⟩
    case round =>
      obtain ⟨k, bs', A, hk, rfl, hp, hn, hl⟩ := hrel
      have HP := hid hp
      have HN := hid hn
      have HL := hid hl
      clear hp hn hl
      by_cases h4 : k < N
      · have h4' : (k : Int) < (N : Int) := by omega
        by_cases h5 : k < 1024
        · have h5' : (k : Int) < 1024 := by omega
          have h5'' : ¬ (1024 : Int) ≤ (k : Int) := by omega
          have h6 := Make_any HP.out
          have hmk : makeA A = ({ A with M := A.M ++ [(-1, 0)] }, (k : Int), 0) := by
            unfold makeA
            rw [if_neg (by rw [HL.out]; omega), HL.out, Nat.min_eq_left (by omega)]
          rw [hmk] at h6
          have H6 := hid h6
          clear h6 hmk
          have e1 : ((k : Int) != (k : Int)) = false := by simp
          go_wp2_with (first
            | (go_at_call 12; refine H6.out.mono ?_; rintro e w3 ⟨bs3, rfl, hp3, hn3⟩; have HP3 := hid hp3; have HN3 := hid (HN.out.trans hn3); clear hp3 hn3)
            | (go_at_call 13; refine (num_any _ _).mono ?_; rintro e w9 ⟨rfl, hw⟩; subst w9)
            | fail)
          go_roundw
          case rel => exact ⟨k + 1, bs3, _, by omega, by go_num, HP3.out, HN3.out, by simp only [List.length_append, List.length_cons, List.length_nil]; rw [HL.out]; omega⟩
          case measure => simp [intOf]; omega
        · have h5' : ¬ (k : Int) < 1024 := by omega
          have h5'' : (1024 : Int) ≤ (k : Int) := by omega
          have h6 := Make_any HP.out
          have hmk : makeA A = (A, 0, 3) := by
            unfold makeA
            rw [if_pos (by rw [HL.out]; omega)]
          rw [hmk] at h6
          have H6 := hid h6
          clear h6 hmk
          go_wp2_with (first
            | (go_at_call 12; refine H6.out.mono ?_; rintro e w3 ⟨bs3, rfl, hp3, hn3⟩; have HP3 := hid hp3; have HN3 := hid (HN.out.trans hn3); clear hp3 hn3)
            | (go_at_call 13; refine (num_any _ _).mono ?_; rintro e w9 ⟨rfl, hw⟩; subst w9)
            | fail)
          go_roundw
          case rel => exact ⟨k + 1, bs3, _, by omega, by go_num, HP3.out, HN3.out, by rw [HL.out]; omega⟩
          case measure => simp [intOf]; omega
      · have h4' : ¬ (k : Int) < (N : Int) := by omega
        go_wp2_with (first
          | (go_at_call 8; refine (live_any _).mono ?_; rintro e w2 ⟨rfl, hb2⟩)
          | fail)
        all_goals go_ret
        all_goals exact ⟨rfl, (HB1.out.ex HN.out.ex (fun x hx => by simp at hx; subst hx; exact hbs.out)).trans hb2⟩

set_option maxRecDepth 100000 in
theorem lifted (os : Os) (started : os.Started) (H : Type) (enc : TypeId × Value → H) :
    ReturnsInHanded {} Try.checked os 4 .any (Rows.lockBoundsSpec.pre6 enc Try.prog Try.f4 Rows.lockBoundsRow.domain false) (Rows.lockBoundsSpec.post enc Try.prog Try.f4 false true false false) := by
  refine returnsInHanded_of_change (C := Try.checked) ownK started (by kernel_rfl) Try.func4
    (ChangeSpec.witness6 (enc := enc) (C := Try.checked) false ⟨#[], #[.int .i64 0], []⟩ 8 (by kernel_rfl) (by kernel_rfl) (by kernel_rfl) (by kernel_rfl)) ?_
  intro W base args ds gs before hval0 hW hcnd _
  have hval : ∀ (j : Nat) t v, Try.f4.params[j]? = some t → args[j]? = some v → Value.okWide Try.prog W .any base t v := hval0
  have hW' := hW
  obtain ⟨p, q, hA0, hV, rfl, hfz, hnd⟩ := hW
  have hA : DataW.TrodAll enc Try.prog W 0 (fun _ => true) true Try.f4.params.toList args.toList ds p := hA0
  rw [Try.params4] at hA hval
  obtain ⟨v0, vs0, d0, ds0, p0, q0, hargs, rfl, rfl, h0, r0⟩ := trodAll_cons hA
  obtain ⟨rfl, rfl, rfl⟩ := trodAll_nil r0
  obtain rfl : args = #[v0] := by cases args; simp_all
  obtain ⟨rfl, rfl⟩ := trodVars_none hV
  have k0 := h0
  have lt0 : ∀ x ∈ p0, x.block < W.heap.size := by obtain ⟨m, hm⟩ := k0; exact DataW.trod_lt m _ _ _ hm
  obtain ⟨a0, rfl, rfl, rfl, w00⟩ := open_int Try.underlying3 (hval 0 3 v0 rfl rfl) h0
  have w0 := bounds_i64 w00
  clear hA0 hval0
  refine (walk a0 w0 W).mono fun e W' ⟨he, bel⟩ => ?_
  subst he
  exact ⟨_, rfl, _, _, _, [], _, [], hW', trodAll_mk1 (shut_bool Try.underlying4 _), (trodAll_cons_mk (Below.trod laidOut (by kernel_rfl) (of_decide_eq_true (by kernel_rfl)) k0 bel lt0) trodAll_mk0), rfl, Below.frame bel _, fun h => by cases h⟩

theorem over : Rows.lockBoundsRow.holds Try.pinned (OpenSpec.ofChange Rows.lockBoundsSpec) :=
  OpenClaim.holds_of_wide 4 Try.f4 rfl rfl rfl rfl rfl rfl rfl ⟨rfl, rfl, rfl, rfl, rfl⟩ rfl rfl rfl rfl rfl (by kernel_rfl) Try.func4 (by kernel_rfl)
    (of_decide_eq_true (by kernel_rfl)) (by unfold Func.isWrapper; first | (rw [if_pos (by decide +kernel)]; kernel_rfl) | (rw [if_neg (by decide +kernel)]; exact ⟨rfl, rfl⟩))
    (fun os started H enc _ => lifted os started H enc)

theorem proved : Rows.LockBoundsSaid := over
end Go.Proofs.Yteeeijbjokkomaa.lockBounds
namespace Go.Proofs.Yteeeijbjokkomaa
theorem lockBounds_holds : Rows.LockBoundsSaid := lockBounds.proved
#print axioms lockBounds_holds
end Go.Proofs.Yteeeijbjokkomaa
