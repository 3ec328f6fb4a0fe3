/- For every two ints and every two complex numbers, by whatever bits of their parts, the statement CplxMakes of layer 2 answers true: the program's Make, Of, Bits and Same are the document's, bit by bit; no condition. -/
import Derived.Test.YtdakgnbnjncnmaaFr
import Derived.Test.YtdakgnbnjncnmaaRC
import Derived.Test.YtdakgnbnjncnmaaRL
import Derived.Test.YtdakgnbnjncnmaaFj
set_option linter.unusedVariables false
set_option linter.unusedSimpArgs false
namespace Go.Proofs.Ytdakgnbnjncnmaa.cplxMakes
open Go.ChangeShapes Go.WideShapes Go.ChangeAt Go.RowKit

theorem sm_cn (a b c d : Nat) : sm (cn a) (cn b) (cn c) (cn d) = sm a b c d := by simp only [sm, cn_cn]

set_option maxHeartbeats 16000000 in
theorem core (x y : Int) (a b c d : Nat) (w : World) :
    Calls Try.prog 3 #[.int .i64 x, .int .i64 y, .agg #[.int .u64 (a : Int), .int .u64 (b : Int)], .agg #[.int .u64 (c : Int), .int .u64 (d : Int)]] w fun e w' => e = .returned (.bool true) ∧ Bw w w' := by
  have q1 := cn_cn
  have q2 := sm_cn a b c d
  have q3 := sm_self
  go_enter Try.func3, Try.ntmps3
  go_wp2_with (first
    | (go_at_call 9; refine (make_any _ _ _).mono ?_; rintro e w' ⟨rfl, rfl⟩)
    | (go_at_call 11; refine (of_any _ _ _).mono ?_; rintro e w' ⟨rfl, os, n, rfl⟩)
    | (go_at_call 10; refine (bits_any _ _ _).mono ?_; rintro e w' ⟨rfl, rfl⟩))
  go_region_held3 (fun w' => w'.cell? ⟨w.heap.size, 0, none⟩ = some (.int .u64 (a : Int)) ∧ w'.cell? ⟨w.heap.size, 1, none⟩ = some (.int .u64 (b : Int)) ∧ w'.cell? ⟨w.heap.size + 1, 0, none⟩ = some (.int .u64 (c : Int)) ∧ w'.cell? ⟨w.heap.size + 1, 1, none⟩ = some (.int .u64 (d : Int))) (simp [go_sem])
    (first
      | (go_at_call 12; refine (like_yes _ _ _ _ ?_ ?_ _).mono ?_; (simp only [cn_cn]); (simp only [cn_cn]); rintro e w' ⟨rfl, os, n, rfl⟩)
      | (go_at_call 11; refine (of_any _ _ _).mono ?_; rintro e w' ⟨rfl, os, n, rfl⟩)
      | (go_at_call 13; refine (is_any _ _ _).mono ?_; rintro e w' ⟨rfl, os, n, rfl⟩)
      | (go_at_call 14; refine (told_any _ _).mono ?_; rintro e w' ⟨rfl, rfl⟩)
      | (go_at_call 15; refine (same_any _ _ _ _ _).mono ?_; rintro e w' ⟨rfl, rfl⟩)
      | (go_at_call 16; refine (rsame_any _ _ _ _ _).mono ?_; rintro e w' ⟨rfl, os, n, rfl⟩)
      | (go_at_call 17; refine (live_any _).mono ?_; rintro e w' ⟨rfl, os, n, rfl⟩))
  go_wp2
  all_goals go_ret
  all_goals exact ⟨rfl, Ly.bw (by repeat (first | exact Ly.refl _ | apply Ly.lay | apply Ly.alloc | apply Ly.drewN | apply Ly.drew))⟩

theorem walk (a0 : Int) (w0 : -9223372036854775808 ≤ a0 ∧ a0 ≤ 9223372036854775807) (a1 : Int) (w1 : -9223372036854775808 ≤ a1 ∧ a1 ≤ 9223372036854775807) (a2 b2 : Int) (w2 : Uw a2 b2) (a3 b3 : Int) (w3 : Uw a3 b3) (w : World) :
    Calls Try.prog 3 #[.int .i64 a0, .int .i64 a1, .agg #[.int .u64 a2, .int .u64 b2], .agg #[.int .u64 a3, .int .u64 b3]] w fun e w' => e = .returned (.bool true) ∧ Bw w w' := by
  obtain ⟨⟨u1, u2⟩, u3, u4⟩ := w2
  obtain ⟨⟨v1, v2⟩, v3, v4⟩ := w3
  obtain ⟨a, rfl⟩ : ∃ a : Nat, a2 = a := ⟨a2.toNat, by omega⟩
  obtain ⟨b, rfl⟩ : ∃ b : Nat, b2 = b := ⟨b2.toNat, by omega⟩
  obtain ⟨c, rfl⟩ : ∃ c : Nat, a3 = c := ⟨a3.toNat, by omega⟩
  obtain ⟨d, rfl⟩ : ∃ d : Nat, b3 = d := ⟨b3.toNat, by omega⟩
  exact core a0 a1 a b c d w

set_option maxRecDepth 100000 in
theorem lifted (os : Os) (started : os.Started) (H : Type) (enc : TypeId × Value → H) :
    ReturnsInHanded {} Try.checked os 3 .any (Rows.cplxMakesSpec.pre6 enc Try.prog Try.f3 Rows.cplxMakesRow.domain false) (Rows.cplxMakesSpec.post enc Try.prog Try.f3 false true false false) := by
  refine returnsInHanded_of_change (C := Try.checked) ownK started (by kernel_rfl) Try.func3
    (ChangeSpec.witness6 (enc := enc) (C := Try.checked) false ⟨#[], #[.int .i64 0, .int .i64 0, .agg #[.int .u64 0, .int .u64 0], .agg #[.int .u64 0, .int .u64 0]], []⟩ 8 (by kernel_rfl) (by kernel_rfl) (by kernel_rfl) (by kernel_rfl)) ?_
  intro W base args ds gs before hval0 hW hcnd _
  have hval : ∀ (j : Nat) t v, Try.f3.params[j]? = some t → args[j]? = some v → Value.okWide Try.prog W .any base t v := hval0
  have hW' := hW
  obtain ⟨p, q, hA0, hV, rfl, hfz, hnd⟩ := hW
  have hA : DataW.TrodAll enc Try.prog W 0 (fun _ => true) true Try.f3.params.toList args.toList ds p := hA0
  rw [Try.params3] at hA hval
  obtain ⟨v0, vs0, d0, ds0, p0, q0, hargs, rfl, rfl, h0, r0⟩ := trodAll_cons hA
  obtain ⟨v1, vs1, d1, ds1, p1, q1, rfl, rfl, rfl, h1, r1⟩ := trodAll_cons r0
  obtain ⟨v2, vs2, d2, ds2, p2, q2, rfl, rfl, rfl, h2, r2⟩ := trodAll_cons r1
  obtain ⟨v3, vs3, d3, ds3, p3, q3, rfl, rfl, rfl, h3, r3⟩ := trodAll_cons r2
  obtain ⟨rfl, rfl, rfl⟩ := trodAll_nil r3
  obtain rfl : args = #[v0, v1, v2, v3] := by cases args; simp_all
  obtain ⟨rfl, rfl⟩ := trodVars_none hV
  have k0 := h0
  have lt0 : ∀ x ∈ p0, x.block < W.heap.size := by obtain ⟨m, hm⟩ := k0; exact DataW.trod_lt m _ _ _ hm
  have k1 := h1
  have lt1 : ∀ x ∈ p1, x.block < W.heap.size := by obtain ⟨m, hm⟩ := k1; exact DataW.trod_lt m _ _ _ hm
  have k2 := h2
  have lt2 : ∀ x ∈ p2, x.block < W.heap.size := by obtain ⟨m, hm⟩ := k2; exact DataW.trod_lt m _ _ _ hm
  have k3 := h3
  have lt3 : ∀ x ∈ p3, x.block < W.heap.size := by obtain ⟨m, hm⟩ := k3; exact DataW.trod_lt m _ _ _ hm
  obtain ⟨a0, rfl, rfl, rfl, w00⟩ := open_int Try.underlying3 (hval 0 3 v0 rfl rfl) h0
  have w0 := bounds_i64 w00
  obtain ⟨a1, rfl, rfl, rfl, w10⟩ := open_int Try.underlying3 (hval 1 3 v1 rfl rfl) h1
  have w1 := bounds_i64 w10
  obtain ⟨a2, b2, rfl, w2⟩ := open_z (hval 2 24 v2 rfl rfl) h2
  obtain ⟨a3, b3, rfl, w3⟩ := open_z (hval 3 24 v3 rfl rfl) h3
  clear hA0 hval0
  refine (walk a0 w0 a1 w1 a2 b2 w2 a3 b3 w3 W).mono fun e W' ⟨he, bel⟩ => ?_
  subst he
  exact ⟨_, rfl, _, _, _, [], _, [], hW', trodAll_mk1 (shut_bool Try.underlying4 _), (trodAll_cons_mk (Below.trod laidOut (by kernel_rfl) (of_decide_eq_true (by kernel_rfl)) k0 bel lt0) (trodAll_cons_mk (Below.trod laidOut (by kernel_rfl) (of_decide_eq_true (by kernel_rfl)) k1 bel lt1) (trodAll_cons_mk (Below.trod laidOut (by kernel_rfl) (of_decide_eq_true (by kernel_rfl)) k2 bel lt2) (trodAll_cons_mk (Below.trod laidOut (by kernel_rfl) (of_decide_eq_true (by kernel_rfl)) k3 bel lt3) trodAll_mk0)))), rfl, Below.frame bel _, fun h => by cases h⟩

theorem over : Rows.cplxMakesRow.holds Try.pinned (OpenSpec.ofChange Rows.cplxMakesSpec) :=
  OpenClaim.holds_of_wide 3 Try.f3 rfl rfl rfl rfl rfl rfl rfl ⟨rfl, rfl, rfl, rfl, rfl⟩ rfl rfl rfl rfl rfl (by kernel_rfl) Try.func3 (by kernel_rfl)
    (of_decide_eq_true (by kernel_rfl)) (by unfold Func.isWrapper; first | (rw [if_pos (by decide +kernel)]; kernel_rfl) | (rw [if_neg (by decide +kernel)]; exact ⟨rfl, rfl⟩))
    (fun os started H enc _ => lifted os started H enc)

theorem proved : Rows.CplxMakesSaid := over
end Go.Proofs.Ytdakgnbnjncnmaa.cplxMakes
namespace Go.Proofs.Ytdakgnbnjncnmaa
theorem cplxMakes_holds : Rows.CplxMakesSaid := cplxMakes.proved
#print axioms cplxMakes_holds
end Go.Proofs.Ytdakgnbnjncnmaa
