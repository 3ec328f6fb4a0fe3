/- The document's sameness, quotients and parts as integers: their contracts; what was there stays as it was. -/
import Derived.Test.YtdakgnbnjncnmaaRB
import Derived.Test.YtdakgnbnjncnmaaW2
import Derived.Deep.RegionHeld3
set_option linter.unusedSimpArgs false
set_option linter.unusedVariables false
namespace Go.Proofs.Ytdakgnbnjncnmaa
open Go Go.RowKit

theorem order_cn (x y : Nat) : F.order (cn x) y = F.order x y := by
  by_cases h : isn x = true
  · obtain ⟨s, t, h1⟩ := read_isn h
    obtain ⟨s', t', h2⟩ := read_isn ((isn_cn x).trans h)
    simp only [Ieee.Format.order, h1, h2]
    cases F.read y <;> rfl
  · rw [cn_of x (by simpa using h)]
theorem order_isn (x y : Nat) (h : isn x = true) : F.order x y = none := by
  obtain ⟨s, t, h1⟩ := read_isn h
  simp only [Ieee.Format.order, h1]
  cases F.read y <;> rfl
theorem order_some (x y : Nat) (h : isn x = false) (k : isn y = false) : ∃ o, F.order x y = some o := by
  unfold isn at h k
  simp only [Ieee.Format.order]
  cases hx : F.read x <;> cases hy : F.read y <;> simp_all [Ieee.Datum.order, Ieee.Datum.isNaN]
theorem pin_cn (x : Nat) : pin (cn x) = pin x := by simp only [pin, order_cn]
theorem pin_isn (x : Nat) (h : isn x = true) : pin x = false := by simp [pin, order_isn x _ h]
theorem pv_cn (x : Nat) : pv (cn x) = pv x := by
  by_cases h : isn x = true
  · simp [pv, pin_cn, pin_isn x h]
  · rw [cn_of x (by simpa using h)]
theorem pe_cn (x : Nat) : pe (cn x) = pe x := by simp only [pe, pin_cn]
theorem pe_bd (x : Nat) : 0 ≤ pe x ∧ pe x ≤ 1000 := by unfold pe; split <;> omega
theorem qer_bd (c d : Nat) : 0 ≤ qer c d ∧ qer c d ≤ 1000 := by unfold qer; split <;> omega
theorem pwe_bd (n : Int) : 0 ≤ pwe n ∧ pwe n ≤ 1000 := by unfold pwe; split <;> omega

theorem rpart_any (x : Nat) (w : World) : Calls Try.prog 30 #[.float .f64 x] w fun e w' => e = .returned (.tuple #[.int .i64 (pv x), .int .i64 (pe x)]) ∧ w' = w := by
  have ho := order_self x
  by_cases hx : isn x = true
  · rw [show pv x = 0 by simp [pv, pin_isn x hx], show pe x = 9 by simp [pe, pin_isn x hx]]
    go_enter Try.func30, Try.ntmps30
    go_wp2
    all_goals go_ret2
    all_goals exact ⟨rfl, rfl⟩
  · have hx : isn x = false := by simpa using hx
    obtain ⟨o1, h1⟩ := order_some x lo61 hx (by kernel_rfl)
    obtain ⟨o2, h2⟩ := order_some x hi61 hx (by kernel_rfl)
    by_cases h : pin x = true
    · obtain ⟨n, hn⟩ := pin_some x h
      rw [pv_int x n h hn, show pe x = 0 from if_pos h]
      have hcv := fun (w : World) => run_convert_float_int (P := Try.prog) w 31 3 .f64 .i64 x n (by kernel_rfl) Try.underlying3 hn
      simp only [pin, h1, h2, Bool.and_eq_true] at h
      have t1 : (F.order x 14105274032924393472 == some .lt) = false := by
        show (F.order x lo61 == some .lt) = false
        rw [h1]
        cases o1 <;> simp_all
      have t2 : (F.order x 4881901996069617664 == some .gt || F.order x 4881901996069617664 == some .eq) = false := by
        show (F.order x hi61 == some .gt || F.order x hi61 == some .eq) = false
        rw [h2]
        cases o2 <;> simp_all
      clear h h1 h2 hn
      go_enter Try.func30, Try.ntmps30
      go_wp2
      all_goals go_ret2
      all_goals exact ⟨rfl, rfl⟩
    · have h : pin x = false := by simpa using h
      rw [show pv x = 0 by simp [pv, h], show pe x = 9 by simp [pe, h]]
      simp only [pin, h1, h2] at h
      by_cases ho1 : o1 = .lt
      · have t1 : (F.order x 14105274032924393472 == some .lt) = true := by
          show (F.order x lo61 == some .lt) = true
          rw [h1, ho1]; rfl
        clear h h1 h2
        go_enter Try.func30, Try.ntmps30
        go_wp2
        all_goals go_ret2
        all_goals exact ⟨rfl, rfl⟩
      · have t1 : (F.order x 14105274032924393472 == some .lt) = false := by
          show (F.order x lo61 == some .lt) = false
          rw [h1]
          cases o1 <;> simp_all
        have t2 : (F.order x 4881901996069617664 == some .gt || F.order x 4881901996069617664 == some .eq) = true := by
          show (F.order x hi61 == some .gt || F.order x hi61 == some .eq) = true
          rw [h2]
          cases o1 <;> cases o2 <;> simp_all
        clear h h1 h2
        go_enter Try.func30, Try.ntmps30
        go_wp2
        all_goals go_ret2
        all_goals exact ⟨rfl, rfl⟩

/-- Two results, the first a struct of two floats out of its own cells. -/
theorem ret_z2 {fn : Func} {p u : Tmp} (hres : fn.results = #[.cell p 33, .tmp u]) {R : Ending → World → Prop} {act : Act} {w : World} {b r i : Nat} {v : Value} (hd : act.defers = [])
    (hp : act.tmps[p]? = some (.pointer (some ⟨b, 0, none⟩))) (hu : act.tmps.getD u undef = v) (h0 : w.cell? ⟨b, 0, none⟩ = some (.float .f64 r)) (h1 : w.cell? ⟨b, 1, none⟩ = some (.float .f64 i))
    (hR : R (.returned (.tuple #[zf r i, v])) w) : bodyPost Try.prog fn R .ret act w := by
  refine bodyPost_ret (v := .tuple #[zf r i, v]) ?_ hd hR
  subst hu
  simp [results, hres, hp, h0, h1, go_sem]

set_option maxHeartbeats 1000000 in
theorem rdiv_any (a b c d : Nat) (w : World) : Calls Try.prog 28 #[zf a b, zf c d] w fun e w' => ∃ r i, e = .returned (.tuple #[zf r i, .int .i64 (qer c d)]) ∧ cn r = qre a b c d ∧ cn i = qim a b c d ∧ Ly w w' := by
  by_cases h : dz c d = true
  · rw [show qre a b c d = 0 from if_pos h, show qim a b c d = 0 from if_pos h, show qer c d = 10 from if_pos h]
    have e0 : cn 0 = 0 := by kernel_rfl
    go_enter Try.func28, Try.ntmps28
    go_wp2_with (go_at_call 26; refine (rnorm_any _ _ _).mono ?_; rintro e w' ⟨r, rfl, hr, os, n, rfl⟩; have hz : (F.order r 0 == some .eq) = true := by (rw [← order_cn, hr]; exact h))
    refine ret_z2 rfl rfl rfl rfl (by go_simp <;> rfl) (by go_simp <;> rfl) ?_
    exact ⟨_, _, rfl, e0, e0, by repeat (first | exact Ly.refl _ | apply Ly.lay | apply Ly.alloc | apply Ly.drewN | apply Ly.drew)⟩
  · have h : dz c d = false := by simpa using h
    rw [show qre a b c d = dre a b c d by simp [qre, h], show qim a b c d = dim a b c d by simp [qim, h], show qer c d = 0 by simp [qer, h]]
    go_enter Try.func28, Try.ntmps28
    go_wp2_with (go_at_call 26; refine (rnorm_any _ _ _).mono ?_; rintro e w' ⟨rn, rfl, hr, os, n, rfl⟩; have hz : (F.order rn 0 == some .eq) = false := by (rw [← order_cn, hr]; exact h))
    refine ret_z2 rfl rfl rfl rfl (by go_simp <;> rfl) (by go_simp <;> rfl) ?_
    refine ⟨_, _, rfl, (cn_fv ..).trans ?_, (cn_fv ..).trans ?_, by repeat (first | exact Ly.refl _ | apply Ly.lay | apply Ly.alloc | apply Ly.drewN | apply Ly.drew)⟩
    · exact fo_congr .quo ((cn_fv ..).trans ((fo_fv ..).trans (cn_fo ..).symm)) (hr.trans (cn_nrm c d).symm)
    · exact fo_congr .quo ((cn_fv ..).trans ((fo_fv ..).trans (cn_fo ..).symm)) (hr.trans (cn_nrm c d).symm)

set_option maxHeartbeats 1000000 in
theorem rsame_any (a b c d : Nat) (w : World) : Calls Try.prog 16 #[zf a b, zf c d] w fun e w' => e = .returned (.bool (sm a b c d)) ∧ Ly w w' := by
  by_cases h : cn a = cn c
  · have hb : ((cn a : Int) == (cn c : Int)) = true := by rw [beq_cast]; exact decide_eq_true h
    go_enter Try.func16, Try.ntmps16
    go_wp2
    go_quiet (first | (go_at_call 14; refine Calls.quiet_of_same (told_any _ _)))
    go_wp2
    all_goals go_ret
    all_goals refine ⟨?_, by repeat (first | exact Ly.refl _ | apply Ly.lay | apply Ly.alloc | apply Ly.drewN | apply Ly.drew)⟩
    all_goals show Ending.returned (.bool (((cn b : Nat) : Int) == ((cn d : Nat) : Int))) = _
    all_goals rw [beq_cast, sm, decide_eq_true h]; rfl
  · have hb : ((cn a : Int) == (cn c : Int)) = false := by rw [beq_cast]; exact decide_eq_false h
    go_enter Try.func16, Try.ntmps16
    go_wp2
    go_quiet (first | (go_at_call 14; refine Calls.quiet_of_same (told_any _ _)))
    go_wp2
    all_goals go_ret
    all_goals refine ⟨?_, by repeat (first | exact Ly.refl _ | apply Ly.lay | apply Ly.alloc | apply Ly.drewN | apply Ly.drew)⟩
    all_goals show Ending.returned (.bool false) = _
    all_goals rw [sm, decide_eq_false h]; rfl

end Go.Proofs.Ytdakgnbnjncnmaa
