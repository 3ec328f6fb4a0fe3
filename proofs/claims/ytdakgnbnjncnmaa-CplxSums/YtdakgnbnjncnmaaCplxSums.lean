/- For every two complex numbers, by whatever bits of their parts, the statement CplxSums of layer 2 answers true: the program's sum, difference, product, mirror and square of the length are the document's, bit by bit; no condition. -/
import Derived.Test.YtdakgnbnjncnmaaFr
import Derived.Test.YtdakgnbnjncnmaaRB
import Derived.Test.YtdakgnbnjncnmaaRL
import Derived.Test.YtdakgnbnjncnmaaFj
set_option linter.unusedVariables false
set_option linter.unusedSimpArgs false
namespace Go.Proofs.Ytdakgnbnjncnmaa.cplxSums
open Go.ChangeShapes Go.WideShapes Go.ChangeAt Go.RowKit

set_option maxHeartbeats 16000000 in
theorem core (a b c d : Nat) (lb : b < 18446744073709551616) (w : World) :
    Calls Try.prog 4 #[.agg #[.int .u64 (a : Int), .int .u64 (b : Int)], .agg #[.int .u64 (c : Int), .int .u64 (d : Int)]] w fun e w' => e = .returned (.bool true) ∧ Bw w w' := by
  have q1 := cn_cn
  have q2 := cn_fneg_cn b lb
  have q3 := nrm_cn a b
  have q4 := cn_nrm a b
  go_enter Try.func4, Try.ntmps4
  go_wp2
  go_region_held3 (fun w' => w'.cell? ⟨w.heap.size, 0, none⟩ = some (.int .u64 (a : Int)) ∧ w'.cell? ⟨w.heap.size, 1, none⟩ = some (.int .u64 (b : Int)) ∧ w'.cell? ⟨w.heap.size + 1, 0, none⟩ = some (.int .u64 (c : Int)) ∧ w'.cell? ⟨w.heap.size + 1, 1, none⟩ = some (.int .u64 (d : Int))) (simp [go_sem])
    (first | (go_at_call 11; refine (of_any _ _ _).mono ?_; rintro e w' ⟨rfl, os, n, rfl⟩))
  go_upto_region 2 with fail
  go_cut [7, 8] (fun p q wc => ∃ bp bq, p = .pointer (some ⟨bp, 0, none⟩) ∧ q = .pointer (some ⟨bq, 0, none⟩) ∧ wc.cell? ⟨bp, 0, none⟩ = some (.float .f64 a) ∧ wc.cell? ⟨bp, 1, none⟩ = some (.float .f64 b) ∧ wc.cell? ⟨bq, 0, none⟩ = some (.float .f64 c) ∧ wc.cell? ⟨bq, 1, none⟩ = some (.float .f64 d) ∧ bp < wc.heap.size ∧ bq < wc.heap.size ∧ Bw w wc)
  case first =>
    go_region_held3 (fun w' => w'.cell? ⟨w.heap.size, 0, none⟩ = some (.int .u64 (a : Int)) ∧ w'.cell? ⟨w.heap.size, 1, none⟩ = some (.int .u64 (b : Int)) ∧ w'.cell? ⟨w.heap.size + 1, 0, none⟩ = some (.int .u64 (c : Int)) ∧ w'.cell? ⟨w.heap.size + 1, 1, none⟩ = some (.int .u64 (d : Int))) (simp [go_sem])
      (first | (go_at_call 13; refine (is_any _ _ _).mono ?_; rintro e w' ⟨rfl, os, n, rfl⟩))
    all_goals (go_wp2_with fail; go_meet)
    all_goals (case rel => exact ⟨_, _, rfl, rfl, by simp [go_sem], by simp [go_sem], by simp [go_sem], by simp [go_sem], by simp [go_sem], by simp [go_sem], Ly.bw (by repeat (first | exact Ly.refl _ | apply Ly.lay | apply Ly.alloc | apply Ly.drewN | apply Ly.drew))⟩)
  case rest =>
    obtain ⟨bp, bq, rfl, rfl, c1, c2, c3, c4, s1, s2, HB⟩ := hcut
    go_wp2
    go_region_held3 (fun w' => w'.cell? ⟨bp, 0, none⟩ = some (.float .f64 a) ∧ w'.cell? ⟨bp, 1, none⟩ = some (.float .f64 b) ∧ w'.cell? ⟨bq, 0, none⟩ = some (.float .f64 c) ∧ w'.cell? ⟨bq, 1, none⟩ = some (.float .f64 d)) (simp [go_sem, s1, s2, c1, c2, c3, c4])
      (first
        | (go_at_call 18; refine (add_any _ _ _ _ _).mono ?_; rintro e w' ⟨rfl, m, rfl⟩)
        | (go_at_call 20; refine (sub_any _ _ _ _ _).mono ?_; rintro e w' ⟨rfl, m, rfl⟩)
        | (go_at_call 22; refine (mul_any _ _ _ _ _).mono ?_; rintro e w' ⟨rfl, m, rfl⟩)
        | (go_at_call 19; refine (radd_any _ _ _ _ _).mono ?_; rintro e w' ⟨r, i, rfl, hr, hi, os, n, rfl⟩)
        | (go_at_call 21; refine (rsub_any _ _ _ _ _).mono ?_; rintro e w' ⟨r, i, rfl, hr, hi, os, n, rfl⟩)
        | (go_at_call 23; refine (rmul_any _ _ _ _ _).mono ?_; rintro e w' ⟨r, i, rfl, hr, hi, os, n, rfl⟩)
        | (go_at_call 12; refine (like_yes _ _ _ _ ?_ ?_ _).mono ?_; (simp only [hr, cn_fo, foo_cn, cn_mre, mre_cn]); (simp only [hi, cn_fo, foo_cn, cn_mim, mim_cn]); rintro e w' ⟨rfl, os, n, rfl⟩))
    go_wp2
    go_region_held3 (fun w' => w'.cell? ⟨bp, 0, none⟩ = some (.float .f64 a) ∧ w'.cell? ⟨bp, 1, none⟩ = some (.float .f64 b) ∧ w'.cell? ⟨bq, 0, none⟩ = some (.float .f64 c) ∧ w'.cell? ⟨bq, 1, none⟩ = some (.float .f64 d)) (simp [go_sem, s1, s2, c1, c2, c3, c4])
      (first
        | (go_at_call 24; refine (conj_any _ _ _).mono ?_; rintro e w' ⟨rfl, rfl⟩)
        | (go_at_call 25; refine (norm_any _ _ _).mono ?_; rintro e w' ⟨rfl, m, rfl⟩)
        | (go_at_call 26; refine (rnorm_any _ _ _).mono ?_; rintro e w' ⟨r, rfl, hr, os, n, rfl⟩)
        | (go_at_call 14; refine (told_any _ _).mono ?_; rintro e w' ⟨rfl, rfl⟩)
        | (go_at_call 12; refine (like_yes _ _ _ _ ?_ ?_ _).mono ?_; (simp only [cn_cn]); (simp only [cn_cn, q2]); rintro e w' ⟨rfl, os, n, rfl⟩)
        | (go_at_call 17; refine (live_any _).mono ?_; rintro e w' ⟨rfl, os, n, rfl⟩))
    go_wp2
    all_goals go_ret
    all_goals exact ⟨rfl, HB.trans (Ly.bw (by repeat (first | exact Ly.refl _ | apply Ly.lay | apply Ly.alloc | apply Ly.drewN | apply Ly.drew)))⟩

theorem walk (a0 b0 : Int) (w0 : Uw a0 b0) (a1 b1 : Int) (w1 : Uw a1 b1) (w : World) :
    Calls Try.prog 4 #[.agg #[.int .u64 a0, .int .u64 b0], .agg #[.int .u64 a1, .int .u64 b1]] w fun e w' => e = .returned (.bool true) ∧ Bw w w' := by
  obtain ⟨⟨u1, u2⟩, u3, u4⟩ := w0
  obtain ⟨⟨v1, v2⟩, v3, v4⟩ := w1
  obtain ⟨a, rfl⟩ : ∃ a : Nat, a0 = a := ⟨a0.toNat, by omega⟩
  obtain ⟨b, rfl⟩ : ∃ b : Nat, b0 = b := ⟨b0.toNat, by omega⟩
  obtain ⟨c, rfl⟩ : ∃ c : Nat, a1 = c := ⟨a1.toNat, by omega⟩
  obtain ⟨d, rfl⟩ : ∃ d : Nat, b1 = d := ⟨b1.toNat, by omega⟩
  exact core a b c d (by omega) w

set_option maxRecDepth 100000 in
theorem lifted (os : Os) (started : os.Started) (H : Type) (enc : TypeId × Value → H) :
    ReturnsInHanded {} Try.checked os 4 .any (Rows.cplxSumsSpec.pre6 enc Try.prog Try.f4 Rows.cplxSumsRow.domain false) (Rows.cplxSumsSpec.post enc Try.prog Try.f4 false true false false) := by
  refine returnsInHanded_of_change (C := Try.checked) ownK started (by kernel_rfl) Try.func4
    (ChangeSpec.witness6 (enc := enc) (C := Try.checked) false ⟨#[], #[.agg #[.int .u64 0, .int .u64 0], .agg #[.int .u64 0, .int .u64 0]], []⟩ 8 (by kernel_rfl) (by kernel_rfl) (by kernel_rfl) (by kernel_rfl)) ?_
  intro W base args ds gs before hval0 hW hcnd _
  have hval : ∀ (j : Nat) t v, Try.f4.params[j]? = some t → args[j]? = some v → Value.okWide Try.prog W .any base t v := hval0
  have hW' := hW
  obtain ⟨p, q, hA0, hV, rfl, hfz, hnd⟩ := hW
  have hA : DataW.TrodAll enc Try.prog W 0 (fun _ => true) true Try.f4.params.toList args.toList ds p := hA0
  rw [Try.params4] at hA hval
  obtain ⟨v0, vs0, d0, ds0, p0, q0, hargs, rfl, rfl, h0, r0⟩ := trodAll_cons hA
  obtain ⟨v1, vs1, d1, ds1, p1, q1, rfl, rfl, rfl, h1, r1⟩ := trodAll_cons r0
  obtain ⟨rfl, rfl, rfl⟩ := trodAll_nil r1
  obtain rfl : args = #[v0, v1] := by cases args; simp_all
  obtain ⟨rfl, rfl⟩ := trodVars_none hV
  have k0 := h0
  have lt0 : ∀ x ∈ p0, x.block < W.heap.size := by obtain ⟨m, hm⟩ := k0; exact DataW.trod_lt m _ _ _ hm
  have k1 := h1
  have lt1 : ∀ x ∈ p1, x.block < W.heap.size := by obtain ⟨m, hm⟩ := k1; exact DataW.trod_lt m _ _ _ hm
  obtain ⟨a0, b0, rfl, w0⟩ := open_z (hval 0 24 v0 rfl rfl) h0
  obtain ⟨a1, b1, rfl, w1⟩ := open_z (hval 1 24 v1 rfl rfl) h1
  clear hA0 hval0
  refine (walk a0 b0 w0 a1 b1 w1 W).mono fun e W' ⟨he, bel⟩ => ?_
  subst he
  exact ⟨_, rfl, _, _, _, [], _, [], hW', trodAll_mk1 (shut_bool Try.underlying4 _), (trodAll_cons_mk (Below.trod laidOut (by kernel_rfl) (of_decide_eq_true (by kernel_rfl)) k0 bel lt0) (trodAll_cons_mk (Below.trod laidOut (by kernel_rfl) (of_decide_eq_true (by kernel_rfl)) k1 bel lt1) trodAll_mk0)), rfl, Below.frame bel _, fun h => by cases h⟩

theorem over : Rows.cplxSumsRow.holds Try.pinned (OpenSpec.ofChange Rows.cplxSumsSpec) :=
  OpenClaim.holds_of_wide 4 Try.f4 rfl rfl rfl rfl rfl rfl rfl ⟨rfl, rfl, rfl, rfl, rfl⟩ rfl rfl rfl rfl rfl (by kernel_rfl) Try.func4 (by kernel_rfl)
    (of_decide_eq_true (by kernel_rfl)) (by unfold Func.isWrapper; first | (rw [if_pos (by decide +kernel)]; kernel_rfl) | (rw [if_neg (by decide +kernel)]; exact ⟨rfl, rfl⟩))
    (fun os started H enc _ => lifted os started H enc)

theorem proved : Rows.CplxSumsSaid := over
end Go.Proofs.Ytdakgnbnjncnmaa.cplxSums
namespace Go.Proofs.Ytdakgnbnjncnmaa
theorem cplxSums_holds : Rows.CplxSumsSaid := cplxSums.proved
#print axioms cplxSums_holds
end Go.Proofs.Ytdakgnbnjncnmaa
