/- For every four ints the statement CplxInts of layer 2 answers true: of integers up to 2^20 sums, differences, products and the mirror are the integers' own; no condition. -/
import Derived.Test.YtdakgnbnjncnmabFr
import Derived.Test.YtdakgnbnjncnmabRL
import Derived.Test.YtdakgnbnjncnmabFj
set_option linter.unusedVariables false
set_option linter.unusedSimpArgs false
namespace Go.Proofs.Ytdakgnbnjncnmab.cplxInts
open Go.ChangeShapes Go.WideShapes Go.ChangeAt Go.RowKit

theorem part_yes (x y : Nat) (re im : Int) (h1 : pv x = re) (h2 : pv y = im) (h3 : pe x = 0) (h4 : pe y = 0) (w : World) :
    Calls Try.prog 7 #[.complex .f64 x y, .int .i64 re, .int .i64 im] w fun e w' => e = .returned (.bool true) ∧ w' = w := by
  subst h1 h2
  go_enter Try.func7, Try.ntmps7
  go_wp2_with (first
    | (go_at_call 18; refine (part_any _ _ _ _).mono ?_; rintro e w' ⟨rfl, rfl⟩)
    | (go_at_call 20; refine (num_any _ (by exact ⟨by omega, by omega⟩) _).mono ?_; rintro e w' ⟨rfl, rfl⟩))
  all_goals go_ret
  all_goals exact ⟨rfl, rfl⟩

theorem mul_abs (a c : Int) (ha : a.natAbs ≤ 1048576) (hc : c.natAbs ≤ 1048576) : (a * c).natAbs ≤ 1099511627776 := by
  rw [Int.natAbs_mul]
  exact Nat.mul_le_mul ha hc

theorem mul_fi (a c : Int) (ha : a.natAbs ≤ 1048576) (hc : c.natAbs ≤ 1048576) : ∃ s k, fo .mul (fi a) (fi c) = wi s k ∧ k ≤ 1099511627776 ∧ sv s k = a * c := by
  have h := mul_abs a c ha hc
  have h' : a.natAbs * c.natAbs ≤ 1099511627776 := Nat.mul_le_mul ha hc
  refine ⟨_, _, by rw [fi, fi, int_wi a (by omega), int_wi c (by omega), fo_mul_wi _ _ _ _ (by omega) (by omega) (by omega)], h', ?_⟩
  have e : ∀ s t (m n : Nat), sv (s ^^ t) (m * n) = sv s m * sv t n := by
    intro s t m n
    cases s <;> cases t <;> simp [sv, Int.neg_mul, Int.mul_neg]
  rw [e, sv_int, sv_int]

theorem mre_fi (a b c d : Int) (ha : a.natAbs ≤ 1048576) (hb : b.natAbs ≤ 1048576) (hc : c.natAbs ≤ 1048576) (hd : d.natAbs ≤ 1048576) :
    pv (mre (fi a) (fi b) (fi c) (fi d)) = a * c - b * d ∧ pe (mre (fi a) (fi b) (fi c) (fi d)) = 0 := by
  obtain ⟨s, k, e1, l1, v1⟩ := mul_fi a c ha hc
  obtain ⟨t, j, e2, l2, v2⟩ := mul_fi b d hb hd
  have h1 := mul_abs a c ha hc
  have h2 := mul_abs b d hb hd
  rw [mre, e1, e2, fo_sub_wi _ _ _ _ (by omega) (by omega) (by rw [v1, v2]; omega), v1, v2]
  exact ⟨by rw [pv_wi _ _ (by omega), sv_sg], pe_wi _ _ (by omega)⟩
theorem mim_fi (a b c d : Int) (ha : a.natAbs ≤ 1048576) (hb : b.natAbs ≤ 1048576) (hc : c.natAbs ≤ 1048576) (hd : d.natAbs ≤ 1048576) :
    pv (mim (fi a) (fi b) (fi c) (fi d)) = a * d + b * c ∧ pe (mim (fi a) (fi b) (fi c) (fi d)) = 0 := by
  obtain ⟨s, k, e1, l1, v1⟩ := mul_fi a d ha hd
  obtain ⟨t, j, e2, l2, v2⟩ := mul_fi b c hb hc
  have h1 := mul_abs a d ha hd
  have h2 := mul_abs b c hb hc
  rw [mim, e1, e2, fo_add_wi _ _ _ _ (by omega) (by omega) (by rw [v1, v2]; omega), v1, v2]
  exact ⟨by rw [pv_wi _ _ (by omega), sv_sg], pe_wi _ _ (by omega)⟩
theorem neg_fi (b : Int) (hb : b.natAbs ≤ 1048576) : pv (cn (fneg (fi b))) = -b ∧ pe (cn (fneg (fi b))) = 0 := by
  rw [fi, int_wi b (by omega), fneg_wi _ _ (by omega), cn_wi _ _ (by omega)]
  exact ⟨by rw [pv_wi _ _ (by omega), sv_not, sv_int], pe_wi _ _ (by omega)⟩
theorem cn_fi (n : Int) : cn (fi n) = fi n := cn_of _ (isn_int n)

set_option maxHeartbeats 4000000 in
theorem far (a0 a1 a2 a3 : Int) (h : ¬ (-1048576 ≤ a0 ∧ -1048576 ≤ a1 ∧ -1048576 ≤ a2 ∧ -1048576 ≤ a3 ∧ a0 ≤ 1048576 ∧ a1 ≤ 1048576 ∧ a2 ≤ 1048576 ∧ a3 ≤ 1048576)) (w : World) :
    Calls Try.prog 3 #[.int .i64 a0, .int .i64 a1, .int .i64 a2, .int .i64 a3] w fun e w' => e = .returned (.bool true) ∧ Bw w w' := by
  go_enter Try.func3, Try.ntmps3
  go_wp2_with (go_at_call 5; refine (live_any _).mono ?_; rintro e w' ⟨rfl, os, n, rfl⟩)
  all_goals go_ret
  all_goals exact ⟨rfl, Ly.bw (by repeat (first | exact Ly.refl _ | apply Ly.lay | apply Ly.alloc | apply Ly.drewN | apply Ly.drew))⟩

set_option maxHeartbeats 4000000 in
theorem near (a0 a1 a2 a3 : Int) (h1 : -1048576 ≤ a0) (h2 : -1048576 ≤ a1) (h3 : -1048576 ≤ a2) (h4 : -1048576 ≤ a3) (h5 : a0 ≤ 1048576) (h6 : a1 ≤ 1048576) (h7 : a2 ≤ 1048576) (h8 : a3 ≤ 1048576) (w : World) :
    Calls Try.prog 3 #[.int .i64 a0, .int .i64 a1, .int .i64 a2, .int .i64 a3] w fun e w' => e = .returned (.bool true) ∧ Bw w w' := by
  have b1 := mul_abs a0 a2 (by omega) (by omega)
  have b2 := mul_abs a1 a3 (by omega) (by omega)
  have b3 := mul_abs a0 a3 (by omega) (by omega)
  have b4 := mul_abs a1 a2 (by omega) (by omega)
  have c1 : -1099511627776 ≤ a0 * a2 ∧ a0 * a2 ≤ 1099511627776 := by omega
  have c2 : -1099511627776 ≤ a1 * a3 ∧ a1 * a3 ≤ 1099511627776 := by omega
  have c3 : -1099511627776 ≤ a0 * a3 ∧ a0 * a3 ≤ 1099511627776 := by omega
  have c4 : -1099511627776 ≤ a1 * a2 ∧ a1 * a2 ≤ 1099511627776 := by omega
  clear b1 b2 b3 b4
  have A1 : Hid (∀ w, Calls Try.prog 7 #[.complex .f64 (fo .add (fi a0) (fi a2)) (fo .add (fi a1) (fi a3)), .int .i64 (a0 + a2), .int .i64 (a1 + a3)] w fun e w' => e = .returned (.bool true) ∧ w' = w) := by
    intro w
    rw [fi_add a0 a2 (by omega) (by omega) (by omega), fi_add a1 a3 (by omega) (by omega) (by omega)]
    exact part_yes _ _ _ _ (pv_fi _ (by omega)) (pv_fi _ (by omega)) (pe_fi _ (by omega)) (pe_fi _ (by omega)) w
  have A2 : Hid (∀ w, Calls Try.prog 7 #[.complex .f64 (fo .sub (fi a0) (fi a2)) (fo .sub (fi a1) (fi a3)), .int .i64 (a0 - a2), .int .i64 (a1 - a3)] w fun e w' => e = .returned (.bool true) ∧ w' = w) := by
    intro w
    rw [fi_sub a0 a2 (by omega) (by omega) (by omega), fi_sub a1 a3 (by omega) (by omega) (by omega)]
    exact part_yes _ _ _ _ (pv_fi _ (by omega)) (pv_fi _ (by omega)) (pe_fi _ (by omega)) (pe_fi _ (by omega)) w
  have A3 : Hid (∀ w, Calls Try.prog 7 #[.complex .f64 (mre (fi a0) (fi a1) (fi a2) (fi a3)) (mim (fi a0) (fi a1) (fi a2) (fi a3)), .int .i64 (a0 * a2 - a1 * a3), .int .i64 (a0 * a3 + a1 * a2)] w fun e w' => e = .returned (.bool true) ∧ w' = w) := by
    intro w
    have m1 := mre_fi a0 a1 a2 a3 (by omega) (by omega) (by omega) (by omega)
    have m2 := mim_fi a0 a1 a2 a3 (by omega) (by omega) (by omega) (by omega)
    exact part_yes _ _ _ _ m1.1 m2.1 m1.2 m2.2 w
  have A4 : Hid (∀ w, Calls Try.prog 7 #[.complex .f64 (cn (fi a0)) (cn (fneg (fi a1))), .int .i64 a0, .int .i64 (-a1)] w fun e w' => e = .returned (.bool true) ∧ w' = w) := by
    intro w
    have m1 := neg_fi a1 (by omega)
    rw [cn_fi]
    exact part_yes _ _ _ _ (pv_fi _ (by omega)) m1.1 (pe_fi _ (by omega)) m1.2 w
  go_enter Try.func3, Try.ntmps3
  go_wp2_with (first
    | (go_at_call 6; refine (make_any _ _ _).mono ?_; rintro e w' ⟨rfl, rfl⟩)
    | (go_at_call 8; refine (add_any _ _ _ _ _).mono ?_; rintro e w' ⟨rfl, m, rfl⟩)
    | (go_at_call 9; refine (sub_any _ _ _ _ _).mono ?_; rintro e w' ⟨rfl, m, rfl⟩)
    | (go_at_call 10; refine (mul_any _ _ _ _ _).mono ?_; rintro e w' ⟨rfl, m, rfl⟩)
    | (go_at_call 11; refine (conj_any _ _ _).mono ?_; rintro e w' ⟨rfl, rfl⟩)
    | (go_at_call_of 7 (Value.int .i64 (a0 + a2)); refine (A1.out _).mono ?_; rintro e w' ⟨rfl, rfl⟩)
    | (go_at_call_of 7 (Value.int .i64 (a0 - a2)); refine (A2.out _).mono ?_; rintro e w' ⟨rfl, rfl⟩)
    | (go_at_call_of 7 (Value.int .i64 (a0 * a2 - a1 * a3)); refine (A3.out _).mono ?_; rintro e w' ⟨rfl, rfl⟩)
    | (go_at_call_of 7 (Value.int .i64 (-a1)); refine (A4.out _).mono ?_; rintro e w' ⟨rfl, rfl⟩)
    | (go_at_call 5; refine (live_any _).mono ?_; rintro e w' ⟨rfl, os, n, rfl⟩))
  all_goals go_ret
  all_goals exact ⟨rfl, Ly.bw (by repeat (first | exact Ly.refl _ | apply Ly.lay | apply Ly.alloc | apply Ly.drewN | apply Ly.drew))⟩

theorem walk (a0 : Int) (w0 : -9223372036854775808 ≤ a0 ∧ a0 ≤ 9223372036854775807) (a1 : Int) (w1 : -9223372036854775808 ≤ a1 ∧ a1 ≤ 9223372036854775807) (a2 : Int) (w2 : -9223372036854775808 ≤ a2 ∧ a2 ≤ 9223372036854775807) (a3 : Int) (w3 : -9223372036854775808 ≤ a3 ∧ a3 ≤ 9223372036854775807) (w : World) :
    Calls Try.prog 3 #[.int .i64 a0, .int .i64 a1, .int .i64 a2, .int .i64 a3] w fun e w' => e = .returned (.bool true) ∧ Bw w w' := by
  by_cases h : -1048576 ≤ a0 ∧ -1048576 ≤ a1 ∧ -1048576 ≤ a2 ∧ -1048576 ≤ a3 ∧ a0 ≤ 1048576 ∧ a1 ≤ 1048576 ∧ a2 ≤ 1048576 ∧ a3 ≤ 1048576
  · obtain ⟨h1, h2, h3, h4, h5, h6, h7, h8⟩ := h
    exact near a0 a1 a2 a3 h1 h2 h3 h4 h5 h6 h7 h8 w
  · exact far a0 a1 a2 a3 h w

set_option maxRecDepth 100000 in
theorem lifted (os : Os) (started : os.Started) (H : Type) (enc : TypeId × Value → H) :
    ReturnsInHanded {} Try.checked os 3 .any (Rows.cplxIntsSpec.pre6 enc Try.prog Try.f3 Rows.cplxIntsRow.domain false) (Rows.cplxIntsSpec.post enc Try.prog Try.f3 false true false false) := by
  refine returnsInHanded_of_change (C := Try.checked) ownK started (by kernel_rfl) Try.func3
    (ChangeSpec.witness6 (enc := enc) (C := Try.checked) false ⟨#[], #[.int .i64 0, .int .i64 0, .int .i64 0, .int .i64 0], []⟩ 8 (by kernel_rfl) (by kernel_rfl) (by kernel_rfl) (by kernel_rfl)) ?_
  intro W base args ds gs before hval0 hW hcnd _
  have hval : ∀ (j : Nat) t v, Try.f3.params[j]? = some t → args[j]? = some v → Value.okWide Try.prog W .any base t v := hval0
  have hW' := hW
  obtain ⟨p, q, hA0, hV, rfl, hfz, hnd⟩ := hW
  have hA : DataW.TrodAll enc Try.prog W 0 (fun _ => true) true Try.f3.params.toList args.toList ds p := hA0
  rw [Try.params3] at hA hval
  obtain ⟨v0, vs0, d0, ds0, p0, q0, hargs, rfl, rfl, h0, r0⟩ := trodAll_cons hA
  obtain ⟨v1, vs1, d1, ds1, p1, q1, rfl, rfl, rfl, h1, r1⟩ := trodAll_cons r0
  obtain ⟨v2, vs2, d2, ds2, p2, q2, rfl, rfl, rfl, h2, r2⟩ := trodAll_cons r1
  obtain ⟨v3, vs3, d3, ds3, p3, q3, rfl, rfl, rfl, h3, r3⟩ := trodAll_cons r2
  obtain ⟨rfl, rfl, rfl⟩ := trodAll_nil r3
  obtain rfl : args = #[v0, v1, v2, v3] := by cases args; simp_all
  obtain ⟨rfl, rfl⟩ := trodVars_none hV
  have k0 := h0
  have lt0 : ∀ x ∈ p0, x.block < W.heap.size := by obtain ⟨m, hm⟩ := k0; exact DataW.trod_lt m _ _ _ hm
  have k1 := h1
  have lt1 : ∀ x ∈ p1, x.block < W.heap.size := by obtain ⟨m, hm⟩ := k1; exact DataW.trod_lt m _ _ _ hm
  have k2 := h2
  have lt2 : ∀ x ∈ p2, x.block < W.heap.size := by obtain ⟨m, hm⟩ := k2; exact DataW.trod_lt m _ _ _ hm
  have k3 := h3
  have lt3 : ∀ x ∈ p3, x.block < W.heap.size := by obtain ⟨m, hm⟩ := k3; exact DataW.trod_lt m _ _ _ hm
  obtain ⟨a0, rfl, rfl, rfl, w00⟩ := open_int Try.underlying3 (hval 0 3 v0 rfl rfl) h0
  have w0 := bounds_i64 w00
  obtain ⟨a1, rfl, rfl, rfl, w10⟩ := open_int Try.underlying3 (hval 1 3 v1 rfl rfl) h1
  have w1 := bounds_i64 w10
  obtain ⟨a2, rfl, rfl, rfl, w20⟩ := open_int Try.underlying3 (hval 2 3 v2 rfl rfl) h2
  have w2 := bounds_i64 w20
  obtain ⟨a3, rfl, rfl, rfl, w30⟩ := open_int Try.underlying3 (hval 3 3 v3 rfl rfl) h3
  have w3 := bounds_i64 w30
  clear hA0 hval0
  refine (walk a0 w0 a1 w1 a2 w2 a3 w3 W).mono fun e W' ⟨he, bel⟩ => ?_
  subst he
  exact ⟨_, rfl, _, _, _, [], _, [], hW', trodAll_mk1 (shut_bool Try.underlying4 _), (trodAll_cons_mk (Below.trod laidOut (by kernel_rfl) (of_decide_eq_true (by kernel_rfl)) k0 bel lt0) (trodAll_cons_mk (Below.trod laidOut (by kernel_rfl) (of_decide_eq_true (by kernel_rfl)) k1 bel lt1) (trodAll_cons_mk (Below.trod laidOut (by kernel_rfl) (of_decide_eq_true (by kernel_rfl)) k2 bel lt2) (trodAll_cons_mk (Below.trod laidOut (by kernel_rfl) (of_decide_eq_true (by kernel_rfl)) k3 bel lt3) trodAll_mk0)))), rfl, Below.frame bel _, fun h => by cases h⟩

theorem over : Rows.cplxIntsRow.holds Try.pinned (OpenSpec.ofChange Rows.cplxIntsSpec) :=
  OpenClaim.holds_of_wide 3 Try.f3 rfl rfl rfl rfl rfl rfl rfl ⟨rfl, rfl, rfl, rfl, rfl⟩ rfl rfl rfl rfl rfl (by kernel_rfl) Try.func3 (by kernel_rfl)
    (of_decide_eq_true (by kernel_rfl)) (by unfold Func.isWrapper; first | (rw [if_pos (by decide +kernel)]; kernel_rfl) | (rw [if_neg (by decide +kernel)]; exact ⟨rfl, rfl⟩))
    (fun os started H enc _ => lifted os started H enc)

theorem proved : Rows.CplxIntsSaid := over
end Go.Proofs.Ytdakgnbnjncnmab.cplxInts
namespace Go.Proofs.Ytdakgnbnjncnmab
theorem cplxInts_holds : Rows.CplxIntsSaid := cplxInts.proved
#print axioms cplxInts_holds
end Go.Proofs.Ytdakgnbnjncnmab
