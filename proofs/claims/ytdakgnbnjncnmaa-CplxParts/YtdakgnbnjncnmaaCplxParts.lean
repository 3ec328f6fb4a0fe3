/- For every two complex numbers, by whatever bits of their parts, and either part, the statement CplxParts of layer 2 answers true: the program's quotients, their errors, and parts as integers are the document's; no condition. -/
import Derived.Test.YtdakgnbnjncnmaaFr
import Derived.Test.YtdakgnbnjncnmaaRC
import Derived.Test.YtdakgnbnjncnmaaRL
import Derived.Test.YtdakgnbnjncnmaaFj
set_option linter.unusedVariables false
set_option linter.unusedSimpArgs false
namespace Go.Proofs.Ytdakgnbnjncnmaa.cplxParts
open Go.ChangeShapes Go.WideShapes Go.ChangeAt Go.RowKit

theorem dz_cn (c d : Nat) : dz (cn c) (cn d) = dz c d := by simp only [dz, nrm_cn]
theorem qre_cn (a b c d : Nat) : qre (cn a) (cn b) (cn c) (cn d) = qre a b c d := by simp only [qre, dz_cn, dre, nrm_cn, foo_cn]
theorem qim_cn (a b c d : Nat) : qim (cn a) (cn b) (cn c) (cn d) = qim a b c d := by simp only [qim, dz_cn, dim, nrm_cn, foo_cn]
theorem qer_cn (c d : Nat) : qer (cn c) (cn d) = qer c d := by simp only [qer, dz_cn]
theorem cn_qre (a b c d : Nat) : cn (qre a b c d) = qre a b c d := by
  unfold qre; split
  · kernel_rfl
  · exact cn_fo ..
theorem cn_qim (a b c d : Nat) : cn (qim a b c d) = qim a b c d := by
  unfold qim; split
  · kernel_rfl
  · exact cn_fo ..

set_option maxHeartbeats 16000000 in
theorem core (a b c d : Nat) (im : Bool) (w : World) :
    Calls Try.prog 5 #[.agg #[.int .u64 (a : Int), .int .u64 (b : Int)], .agg #[.int .u64 (c : Int), .int .u64 (d : Int)], .bool im] w fun e w' => e = .returned (.bool true) ∧ Bw w w' := by
  have q1 := cn_cn
  have q2 := qer_cn c d
  have q3 := qer_bd c d
  have q4 := pv_cn
  have q5 := pe_cn
  have q6 := pe_bd a
  have q7 := pe_bd b
  have q8 := qre_cn a b c d
  have q9 := qim_cn a b c d
  cases im
  all_goals
    go_enter Try.func5, Try.ntmps5
    go_wp2
    go_region_held3 (fun w' => w'.cell? ⟨w.heap.size, 0, none⟩ = some (.int .u64 (a : Int)) ∧ w'.cell? ⟨w.heap.size, 1, none⟩ = some (.int .u64 (b : Int)) ∧ w'.cell? ⟨w.heap.size + 1, 0, none⟩ = some (.int .u64 (c : Int)) ∧ w'.cell? ⟨w.heap.size + 1, 1, none⟩ = some (.int .u64 (d : Int))) (simp [go_sem])
      (first
        | (go_at_call 11; refine (of_any _ _ _).mono ?_; rintro e w' ⟨rfl, os, n, rfl⟩)
        | (go_at_call 27; refine (div_any _ _ _ _ _).mono ?_; rintro e w' ⟨rfl, m, rfl⟩))
    go_upto_region 2 with fail
    go_cut [9, 10] (fun p f wc => ∃ bp r i, p = .pointer (some ⟨bp, 0, none⟩) ∧ f = .int .i64 (qer c d) ∧ cn r = qre a b c d ∧ cn i = qim a b c d ∧ wc.cell? ⟨bp, 0, none⟩ = some (.float .f64 r) ∧ wc.cell? ⟨bp, 1, none⟩ = some (.float .f64 i) ∧ bp < wc.heap.size ∧ wc.cell? ⟨w.heap.size, 0, none⟩ = some (.int .u64 (a : Int)) ∧ wc.cell? ⟨w.heap.size, 1, none⟩ = some (.int .u64 (b : Int)) ∧ w.heap.size < wc.heap.size ∧ Bw w wc)
    case first =>
      go_region_held3 (fun w' => w'.cell? ⟨w.heap.size, 0, none⟩ = some (.int .u64 (a : Int)) ∧ w'.cell? ⟨w.heap.size, 1, none⟩ = some (.int .u64 (b : Int)) ∧ w'.cell? ⟨w.heap.size + 1, 0, none⟩ = some (.int .u64 (c : Int)) ∧ w'.cell? ⟨w.heap.size + 1, 1, none⟩ = some (.int .u64 (d : Int))) (simp [go_sem])
        (first
          | (go_at_call 13; refine (is_any _ _ _).mono ?_; rintro e w' ⟨rfl, os, n, rfl⟩)
          | (go_at_call 28; refine (rdiv_any _ _ _ _ _).mono ?_; rintro e w' ⟨r, i, rfl, hr, hi, os, n, rfl⟩))
      all_goals (go_wp2_with fail; go_meet)
      all_goals (case rel => exact ⟨_, _, _, rfl, rfl, by assumption, by assumption, by simp [go_sem], by simp [go_sem], by simp [go_sem], by simp [go_sem], by simp [go_sem], by simp [go_sem], Ly.bw (by repeat (first | exact Ly.refl _ | apply Ly.lay | apply Ly.alloc | apply Ly.drewN | apply Ly.drew))⟩)
    case rest =>
      obtain ⟨bp, r, i, rfl, rfl, hr, hi, c1, c2, s1, c3, c4, s2, HB⟩ := hcut
      go_wp2_with (first
        | (go_at_call 11; refine (of_any _ _ _).mono ?_; rintro e w' ⟨rfl, os, n, rfl⟩)
        | (go_at_call 13; refine (is_any _ _ _).mono ?_; rintro e w' ⟨rfl, os, n, rfl⟩)
        | (go_at_call 29; refine (part_any _ _ _ _).mono ?_; rintro e w' ⟨rfl, rfl⟩)
        | (go_at_call 30; refine (rpart_any _ _).mono ?_; rintro e w' ⟨rfl, rfl⟩)
        | (go_at_call 12; refine (like_yes _ _ _ _ ?_ ?_ _).mono ?_; (simp only [hr, cn_qre, qre_cn]); (simp only [hi, cn_qim, qim_cn]); rintro e w' ⟨rfl, os, n, rfl⟩)
        | (go_at_call 31; refine (num_any _ (by first | exact q3 | exact q6 | exact q7) _).mono ?_; rintro e w' ⟨rfl, rfl⟩)
        | (go_at_call 17; refine (live_any _).mono ?_; rintro e w' ⟨rfl, os, n, rfl⟩))
      all_goals go_ret
      all_goals exact ⟨rfl, HB.trans (Ly.bw (by repeat (first | exact Ly.refl _ | apply Ly.lay | apply Ly.alloc | apply Ly.drewN | apply Ly.drew)))⟩

theorem walk (a0 b0 : Int) (w0 : Uw a0 b0) (a1 b1 : Int) (w1 : Uw a1 b1) (a2 : Bool) (w : World) :
    Calls Try.prog 5 #[.agg #[.int .u64 a0, .int .u64 b0], .agg #[.int .u64 a1, .int .u64 b1], .bool a2] w fun e w' => e = .returned (.bool true) ∧ Bw w w' := by
  obtain ⟨⟨u1, u2⟩, u3, u4⟩ := w0
  obtain ⟨⟨v1, v2⟩, v3, v4⟩ := w1
  obtain ⟨a, rfl⟩ : ∃ a : Nat, a0 = a := ⟨a0.toNat, by omega⟩
  obtain ⟨b, rfl⟩ : ∃ b : Nat, b0 = b := ⟨b0.toNat, by omega⟩
  obtain ⟨c, rfl⟩ : ∃ c : Nat, a1 = c := ⟨a1.toNat, by omega⟩
  obtain ⟨d, rfl⟩ : ∃ d : Nat, b1 = d := ⟨b1.toNat, by omega⟩
  exact core a b c d a2 w

set_option maxRecDepth 100000 in
theorem lifted (os : Os) (started : os.Started) (H : Type) (enc : TypeId × Value → H) :
    ReturnsInHanded {} Try.checked os 5 .any (Rows.cplxPartsSpec.pre6 enc Try.prog Try.f5 Rows.cplxPartsRow.domain false) (Rows.cplxPartsSpec.post enc Try.prog Try.f5 false true false false) := by
  refine returnsInHanded_of_change (C := Try.checked) ownK started (by kernel_rfl) Try.func5
    (ChangeSpec.witness6 (enc := enc) (C := Try.checked) false ⟨#[], #[.agg #[.int .u64 0, .int .u64 0], .agg #[.int .u64 0, .int .u64 0], .bool false], []⟩ 8 (by kernel_rfl) (by kernel_rfl) (by kernel_rfl) (by kernel_rfl)) ?_
  intro W base args ds gs before hval0 hW hcnd _
  have hval : ∀ (j : Nat) t v, Try.f5.params[j]? = some t → args[j]? = some v → Value.okWide Try.prog W .any base t v := hval0
  have hW' := hW
  obtain ⟨p, q, hA0, hV, rfl, hfz, hnd⟩ := hW
  have hA : DataW.TrodAll enc Try.prog W 0 (fun _ => true) true Try.f5.params.toList args.toList ds p := hA0
  rw [Try.params5] at hA hval
  obtain ⟨v0, vs0, d0, ds0, p0, q0, hargs, rfl, rfl, h0, r0⟩ := trodAll_cons hA
  obtain ⟨v1, vs1, d1, ds1, p1, q1, rfl, rfl, rfl, h1, r1⟩ := trodAll_cons r0
  obtain ⟨v2, vs2, d2, ds2, p2, q2, rfl, rfl, rfl, h2, r2⟩ := trodAll_cons r1
  obtain ⟨rfl, rfl, rfl⟩ := trodAll_nil r2
  obtain rfl : args = #[v0, v1, v2] := by cases args; simp_all
  obtain ⟨rfl, rfl⟩ := trodVars_none hV
  have k0 := h0
  have lt0 : ∀ x ∈ p0, x.block < W.heap.size := by obtain ⟨m, hm⟩ := k0; exact DataW.trod_lt m _ _ _ hm
  have k1 := h1
  have lt1 : ∀ x ∈ p1, x.block < W.heap.size := by obtain ⟨m, hm⟩ := k1; exact DataW.trod_lt m _ _ _ hm
  have k2 := h2
  have lt2 : ∀ x ∈ p2, x.block < W.heap.size := by obtain ⟨m, hm⟩ := k2; exact DataW.trod_lt m _ _ _ hm
  obtain ⟨a0, b0, rfl, w0⟩ := open_z (hval 0 24 v0 rfl rfl) h0
  obtain ⟨a1, b1, rfl, w1⟩ := open_z (hval 1 24 v1 rfl rfl) h1
  obtain ⟨a2, rfl⟩ := okWide_bool Try.underlying4 (hval 2 4 v2 rfl rfl)
  clear hA0 hval0
  refine (walk a0 b0 w0 a1 b1 w1 a2 W).mono fun e W' ⟨he, bel⟩ => ?_
  subst he
  exact ⟨_, rfl, _, _, _, [], _, [], hW', trodAll_mk1 (shut_bool Try.underlying4 _), (trodAll_cons_mk (Below.trod laidOut (by kernel_rfl) (of_decide_eq_true (by kernel_rfl)) k0 bel lt0) (trodAll_cons_mk (Below.trod laidOut (by kernel_rfl) (of_decide_eq_true (by kernel_rfl)) k1 bel lt1) (trodAll_cons_mk (Below.trod laidOut (by kernel_rfl) (of_decide_eq_true (by kernel_rfl)) k2 bel lt2) trodAll_mk0))), rfl, Below.frame bel _, fun h => by cases h⟩

theorem over : Rows.cplxPartsRow.holds Try.pinned (OpenSpec.ofChange Rows.cplxPartsSpec) :=
  OpenClaim.holds_of_wide 5 Try.f5 rfl rfl rfl rfl rfl rfl rfl ⟨rfl, rfl, rfl, rfl, rfl⟩ rfl rfl rfl rfl rfl (by kernel_rfl) Try.func5 (by kernel_rfl)
    (of_decide_eq_true (by kernel_rfl)) (by unfold Func.isWrapper; first | (rw [if_pos (by decide +kernel)]; kernel_rfl) | (rw [if_neg (by decide +kernel)]; exact ⟨rfl, rfl⟩))
    (fun os started H enc _ => lifted os started H enc)

theorem proved : Rows.CplxPartsSaid := over
end Go.Proofs.Ytdakgnbnjncnmaa.cplxParts
namespace Go.Proofs.Ytdakgnbnjncnmaa
theorem cplxParts_holds : Rows.CplxPartsSaid := cplxParts.proved
#print axioms cplxParts_holds
end Go.Proofs.Ytdakgnbnjncnmaa
