/- For every four ints the statement CplxBack of layer 2 answers true: what is made of integers up to 2^53 is told as them, and sums of such up to 2^52, with the second taken away again, are the first; no condition. -/
import Derived.Test.YtdakgnbnjncnmaaFr
import Derived.Test.YtdakgnbnjncnmaaRL
import Derived.Test.YtdakgnbnjncnmaaFj
set_option linter.unusedVariables false
set_option linter.unusedSimpArgs false
namespace Go.Proofs.Ytdakgnbnjncnmaa.cplxBack
open Go.ChangeShapes Go.WideShapes Go.ChangeAt Go.RowKit

set_option maxHeartbeats 4000000 in
theorem far (a0 a1 a2 a3 : Int) (h : ¬ (-9007199254740992 ≤ a0 ∧ -9007199254740992 ≤ a1 ∧ a0 ≤ 9007199254740992 ∧ a1 ≤ 9007199254740992)) (w : World) : Calls Try.prog 8 #[.int .i64 a0, .int .i64 a1, .int .i64 a2, .int .i64 a3] w fun e w' => e = .returned (.bool true) ∧ Bw w w' := by
  go_enter Try.func8, Try.ntmps8
  go_wp2_with (first
    | (go_at_call 9; refine (make_any _ _ _).mono ?_; rintro e w' ⟨rfl, rfl⟩)
    | (go_at_call 29; refine (part_any _ _ _ _).mono ?_; rintro e w' ⟨rfl, rfl⟩)
    | (go_at_call 18; refine (add_any _ _ _ _ _).mono ?_; rintro e w' ⟨rfl, m, rfl⟩)
    | (go_at_call 20; refine (sub_any _ _ _ _ _).mono ?_; rintro e w' ⟨rfl, m, rfl⟩)
    | (go_at_call 15; refine (same_any _ _ _ _ _).mono ?_; rintro e w' ⟨rfl, rfl⟩)
    | (go_at_call 31; refine (num_any _ (by exact ⟨by omega, by omega⟩) _).mono ?_; rintro e w' ⟨rfl, rfl⟩)
    | (go_at_call 17; refine (live_any _).mono ?_; rintro e w' ⟨rfl, os, n, rfl⟩))
  all_goals go_ret
  all_goals exact ⟨rfl, Ly.bw (by repeat (first | exact Ly.refl _ | apply Ly.lay | apply Ly.alloc | apply Ly.drewN | apply Ly.drew))⟩

set_option maxHeartbeats 4000000 in
theorem mid (a0 a1 a2 a3 : Int) (h1 : -9007199254740992 ≤ a0) (h2 : -9007199254740992 ≤ a1) (h3 : a0 ≤ 9007199254740992) (h4 : a1 ≤ 9007199254740992) (h : ¬ (-9007199254740992 ≤ a2 ∧ -9007199254740992 ≤ a3 ∧ a2 ≤ 9007199254740992 ∧ a3 ≤ 9007199254740992)) (w : World) : Calls Try.prog 8 #[.int .i64 a0, .int .i64 a1, .int .i64 a2, .int .i64 a3] w fun e w' => e = .returned (.bool true) ∧ Bw w w' := by
  have p1 := pv_fi a0 (by omega)
  have p2 := pv_fi a1 (by omega)
  have p3 := pe_fi a0 (by omega)
  have p4 := pe_fi a1 (by omega)
  go_enter Try.func8, Try.ntmps8
  go_wp2_with (first
    | (go_at_call 9; refine (make_any _ _ _).mono ?_; rintro e w' ⟨rfl, rfl⟩)
    | (go_at_call 29; refine (part_any _ _ _ _).mono ?_; rintro e w' ⟨rfl, rfl⟩)
    | (go_at_call 18; refine (add_any _ _ _ _ _).mono ?_; rintro e w' ⟨rfl, m, rfl⟩)
    | (go_at_call 20; refine (sub_any _ _ _ _ _).mono ?_; rintro e w' ⟨rfl, m, rfl⟩)
    | (go_at_call 15; refine (same_any _ _ _ _ _).mono ?_; rintro e w' ⟨rfl, rfl⟩)
    | (go_at_call 31; refine (num_any _ (by exact ⟨by omega, by omega⟩) _).mono ?_; rintro e w' ⟨rfl, rfl⟩)
    | (go_at_call 17; refine (live_any _).mono ?_; rintro e w' ⟨rfl, os, n, rfl⟩))
  all_goals go_ret
  all_goals exact ⟨rfl, Ly.bw (by repeat (first | exact Ly.refl _ | apply Ly.lay | apply Ly.alloc | apply Ly.drewN | apply Ly.drew))⟩

set_option maxHeartbeats 4000000 in
theorem near (a0 a1 a2 a3 : Int) (h1 : -9007199254740992 ≤ a0) (h2 : -9007199254740992 ≤ a1) (h3 : a0 ≤ 9007199254740992) (h4 : a1 ≤ 9007199254740992) (h5 : -9007199254740992 ≤ a2) (h6 : -9007199254740992 ≤ a3) (h7 : a2 ≤ 9007199254740992) (h8 : a3 ≤ 9007199254740992) (h : ¬ (a0 ≤ 4503599627370496 ∧ a1 ≤ 4503599627370496 ∧ a2 ≤ 4503599627370496 ∧ a3 ≤ 4503599627370496 ∧ -4503599627370496 ≤ a0 ∧ -4503599627370496 ≤ a1 ∧ -4503599627370496 ≤ a2 ∧ -4503599627370496 ≤ a3)) (w : World) : Calls Try.prog 8 #[.int .i64 a0, .int .i64 a1, .int .i64 a2, .int .i64 a3] w fun e w' => e = .returned (.bool true) ∧ Bw w w' := by
  have p1 := pv_fi a0 (by omega)
  have p2 := pv_fi a1 (by omega)
  have p3 := pe_fi a0 (by omega)
  have p4 := pe_fi a1 (by omega)
  go_enter Try.func8, Try.ntmps8
  go_wp2_with (first
    | (go_at_call 9; refine (make_any _ _ _).mono ?_; rintro e w' ⟨rfl, rfl⟩)
    | (go_at_call 29; refine (part_any _ _ _ _).mono ?_; rintro e w' ⟨rfl, rfl⟩)
    | (go_at_call 18; refine (add_any _ _ _ _ _).mono ?_; rintro e w' ⟨rfl, m, rfl⟩)
    | (go_at_call 20; refine (sub_any _ _ _ _ _).mono ?_; rintro e w' ⟨rfl, m, rfl⟩)
    | (go_at_call 15; refine (same_any _ _ _ _ _).mono ?_; rintro e w' ⟨rfl, rfl⟩)
    | (go_at_call 31; refine (num_any _ (by exact ⟨by omega, by omega⟩) _).mono ?_; rintro e w' ⟨rfl, rfl⟩)
    | (go_at_call 17; refine (live_any _).mono ?_; rintro e w' ⟨rfl, os, n, rfl⟩))
  all_goals go_ret
  all_goals exact ⟨rfl, Ly.bw (by repeat (first | exact Ly.refl _ | apply Ly.lay | apply Ly.alloc | apply Ly.drewN | apply Ly.drew))⟩

set_option maxHeartbeats 4000000 in
theorem small (a0 a1 a2 a3 : Int) (g1 : a0 ≤ 4503599627370496) (g2 : a1 ≤ 4503599627370496) (g3 : a2 ≤ 4503599627370496) (g4 : a3 ≤ 4503599627370496) (g5 : -4503599627370496 ≤ a0) (g6 : -4503599627370496 ≤ a1) (g7 : -4503599627370496 ≤ a2) (g8 : -4503599627370496 ≤ a3) (w : World) : Calls Try.prog 8 #[.int .i64 a0, .int .i64 a1, .int .i64 a2, .int .i64 a3] w fun e w' => e = .returned (.bool true) ∧ Bw w w' := by
  have p1 := pv_fi a0 (by omega)
  have p2 := pv_fi a1 (by omega)
  have p3 := pe_fi a0 (by omega)
  have p4 := pe_fi a1 (by omega)
  have q1 := fi_back a0 a2 (by omega) (by omega)
  have q2 := fi_back a1 a3 (by omega) (by omega)
  have q3 := sm_self (fi a0) (fi a1)
  go_enter Try.func8, Try.ntmps8
  go_wp2_with (first
    | (go_at_call 9; refine (make_any _ _ _).mono ?_; rintro e w' ⟨rfl, rfl⟩)
    | (go_at_call 29; refine (part_any _ _ _ _).mono ?_; rintro e w' ⟨rfl, rfl⟩)
    | (go_at_call 18; refine (add_any _ _ _ _ _).mono ?_; rintro e w' ⟨rfl, m, rfl⟩)
    | (go_at_call 20; refine (sub_any _ _ _ _ _).mono ?_; rintro e w' ⟨rfl, m, rfl⟩)
    | (go_at_call 15; refine (same_any _ _ _ _ _).mono ?_; rintro e w' ⟨rfl, rfl⟩)
    | (go_at_call 31; refine (num_any _ (by exact ⟨by omega, by omega⟩) _).mono ?_; rintro e w' ⟨rfl, rfl⟩)
    | (go_at_call 17; refine (live_any _).mono ?_; rintro e w' ⟨rfl, os, n, rfl⟩))
  all_goals go_ret
  all_goals exact ⟨rfl, Ly.bw (by repeat (first | exact Ly.refl _ | apply Ly.lay | apply Ly.alloc | apply Ly.drewN | apply Ly.drew))⟩

theorem walk (a0 : Int) (w0 : -9223372036854775808 ≤ a0 ∧ a0 ≤ 9223372036854775807) (a1 : Int) (w1 : -9223372036854775808 ≤ a1 ∧ a1 ≤ 9223372036854775807) (a2 : Int) (w2 : -9223372036854775808 ≤ a2 ∧ a2 ≤ 9223372036854775807) (a3 : Int) (w3 : -9223372036854775808 ≤ a3 ∧ a3 ≤ 9223372036854775807) (w : World) :
    Calls Try.prog 8 #[.int .i64 a0, .int .i64 a1, .int .i64 a2, .int .i64 a3] w fun e w' => e = .returned (.bool true) ∧ Bw w w' := by
  by_cases hab : -9007199254740992 ≤ a0 ∧ -9007199254740992 ≤ a1 ∧ a0 ≤ 9007199254740992 ∧ a1 ≤ 9007199254740992
  · obtain ⟨h1, h2, h3, h4⟩ := hab
    by_cases hcd : -9007199254740992 ≤ a2 ∧ -9007199254740992 ≤ a3 ∧ a2 ≤ 9007199254740992 ∧ a3 ≤ 9007199254740992
    · obtain ⟨h5, h6, h7, h8⟩ := hcd
      by_cases hh : a0 ≤ 4503599627370496 ∧ a1 ≤ 4503599627370496 ∧ a2 ≤ 4503599627370496 ∧ a3 ≤ 4503599627370496 ∧ -4503599627370496 ≤ a0 ∧ -4503599627370496 ≤ a1 ∧ -4503599627370496 ≤ a2 ∧ -4503599627370496 ≤ a3
      · obtain ⟨g1, g2, g3, g4, g5, g6, g7, g8⟩ := hh
        exact small a0 a1 a2 a3 g1 g2 g3 g4 g5 g6 g7 g8 w
      · exact near a0 a1 a2 a3 h1 h2 h3 h4 h5 h6 h7 h8 hh w
    · exact mid a0 a1 a2 a3 h1 h2 h3 h4 hcd w
  · exact far a0 a1 a2 a3 hab w

set_option maxRecDepth 100000 in
theorem lifted (os : Os) (started : os.Started) (H : Type) (enc : TypeId × Value → H) :
    ReturnsInHanded {} Try.checked os 8 .any (Rows.cplxBackSpec.pre6 enc Try.prog Try.f8 Rows.cplxBackRow.domain false) (Rows.cplxBackSpec.post enc Try.prog Try.f8 false true false false) := by
  refine returnsInHanded_of_change (C := Try.checked) ownK started (by kernel_rfl) Try.func8
    (ChangeSpec.witness6 (enc := enc) (C := Try.checked) false ⟨#[], #[.int .i64 0, .int .i64 0, .int .i64 0, .int .i64 0], []⟩ 8 (by kernel_rfl) (by kernel_rfl) (by kernel_rfl) (by kernel_rfl)) ?_
  intro W base args ds gs before hval0 hW hcnd _
  have hval : ∀ (j : Nat) t v, Try.f8.params[j]? = some t → args[j]? = some v → Value.okWide Try.prog W .any base t v := hval0
  have hW' := hW
  obtain ⟨p, q, hA0, hV, rfl, hfz, hnd⟩ := hW
  have hA : DataW.TrodAll enc Try.prog W 0 (fun _ => true) true Try.f8.params.toList args.toList ds p := hA0
  rw [Try.params8] at hA hval
  obtain ⟨v0, vs0, d0, ds0, p0, q0, hargs, rfl, rfl, h0, r0⟩ := trodAll_cons hA
  obtain ⟨v1, vs1, d1, ds1, p1, q1, rfl, rfl, rfl, h1, r1⟩ := trodAll_cons r0
  obtain ⟨v2, vs2, d2, ds2, p2, q2, rfl, rfl, rfl, h2, r2⟩ := trodAll_cons r1
  obtain ⟨v3, vs3, d3, ds3, p3, q3, rfl, rfl, rfl, h3, r3⟩ := trodAll_cons r2
  obtain ⟨rfl, rfl, rfl⟩ := trodAll_nil r3
  obtain rfl : args = #[v0, v1, v2, v3] := by cases args; simp_all
  obtain ⟨rfl, rfl⟩ := trodVars_none hV
  have k0 := h0
  have lt0 : ∀ x ∈ p0, x.block < W.heap.size := by obtain ⟨m, hm⟩ := k0; exact DataW.trod_lt m _ _ _ hm
  have k1 := h1
  have lt1 : ∀ x ∈ p1, x.block < W.heap.size := by obtain ⟨m, hm⟩ := k1; exact DataW.trod_lt m _ _ _ hm
  have k2 := h2
  have lt2 : ∀ x ∈ p2, x.block < W.heap.size := by obtain ⟨m, hm⟩ := k2; exact DataW.trod_lt m _ _ _ hm
  have k3 := h3
  have lt3 : ∀ x ∈ p3, x.block < W.heap.size := by obtain ⟨m, hm⟩ := k3; exact DataW.trod_lt m _ _ _ hm
  obtain ⟨a0, rfl, rfl, rfl, w00⟩ := open_int Try.underlying3 (hval 0 3 v0 rfl rfl) h0
  have w0 := bounds_i64 w00
  obtain ⟨a1, rfl, rfl, rfl, w10⟩ := open_int Try.underlying3 (hval 1 3 v1 rfl rfl) h1
  have w1 := bounds_i64 w10
  obtain ⟨a2, rfl, rfl, rfl, w20⟩ := open_int Try.underlying3 (hval 2 3 v2 rfl rfl) h2
  have w2 := bounds_i64 w20
  obtain ⟨a3, rfl, rfl, rfl, w30⟩ := open_int Try.underlying3 (hval 3 3 v3 rfl rfl) h3
  have w3 := bounds_i64 w30
  clear hA0 hval0
  refine (walk a0 w0 a1 w1 a2 w2 a3 w3 W).mono fun e W' ⟨he, bel⟩ => ?_
  subst he
  exact ⟨_, rfl, _, _, _, [], _, [], hW', trodAll_mk1 (shut_bool Try.underlying4 _), (trodAll_cons_mk (Below.trod laidOut (by kernel_rfl) (of_decide_eq_true (by kernel_rfl)) k0 bel lt0) (trodAll_cons_mk (Below.trod laidOut (by kernel_rfl) (of_decide_eq_true (by kernel_rfl)) k1 bel lt1) (trodAll_cons_mk (Below.trod laidOut (by kernel_rfl) (of_decide_eq_true (by kernel_rfl)) k2 bel lt2) (trodAll_cons_mk (Below.trod laidOut (by kernel_rfl) (of_decide_eq_true (by kernel_rfl)) k3 bel lt3) trodAll_mk0)))), rfl, Below.frame bel _, fun h => by cases h⟩

theorem over : Rows.cplxBackRow.holds Try.pinned (OpenSpec.ofChange Rows.cplxBackSpec) :=
  OpenClaim.holds_of_wide 8 Try.f8 rfl rfl rfl rfl rfl rfl rfl ⟨rfl, rfl, rfl, rfl, rfl⟩ rfl rfl rfl rfl rfl (by kernel_rfl) Try.func8 (by kernel_rfl)
    (of_decide_eq_true (by kernel_rfl)) (by unfold Func.isWrapper; first | (rw [if_pos (by decide +kernel)]; kernel_rfl) | (rw [if_neg (by decide +kernel)]; exact ⟨rfl, rfl⟩))
    (fun os started H enc _ => lifted os started H enc)

theorem proved : Rows.CplxBackSaid := over
end Go.Proofs.Ytdakgnbnjncnmaa.cplxBack
namespace Go.Proofs.Ytdakgnbnjncnmaa
theorem cplxBack_holds : Rows.CplxBackSaid := cplxBack.proved
#print axioms cplxBack_holds
end Go.Proofs.Ytdakgnbnjncnmaa
