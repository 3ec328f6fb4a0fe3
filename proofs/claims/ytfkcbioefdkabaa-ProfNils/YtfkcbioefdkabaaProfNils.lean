/- A nil profile answers ErrNil, zeros and nothing, whatever is told or asked of it. -/
import Derived.Test.YtfkcbioefdkabaaFr
set_option linter.unusedVariables false
set_option linter.unusedSimpArgs false
namespace Go.Proofs.Ytfkcbioefdkabaa.profNils
open Go.ChangeShapes Go.WideShapes Go.ChangeAt Go.RowKit

set_option maxRecDepth 100000 in
set_option maxHeartbeats 2000000 in
theorem walk (x0 : AA) (w0 : AOK x0) (w : World) :
    Calls Try.prog 4 #[actV x0] w fun e w' => e = .returned (.bool true) ∧ Bw w w' := by
  unfold actV
  obtain ⟨d, f, t, a, b, v⟩ := x0
  simp only
  clear w0
  go_enter Try.func4, Try.ntmps4
  go_wp2
  go_loopw [4] (fun j wr => ∃ (k : Nat) (d' : Int), k ≤ 5 ∧ j = .int .i64 k ∧ Bw w wr ∧ Blk wr w.heap.size #[.int .i64 d', .int .i64 f, .int .i64 t, .int .i64 a, .int .i64 b, .int .u64 v] 36) (fun j _ => 5 - (intOf j).toNat)
  case atStart => exact ⟨0, d, by omega, rfl, Bw.alloc (Bw.refl _) _, Blk.new w _ _⟩
  case round =>
    obtain ⟨k, d', hk, rfl, hbw, hblk⟩ := hrel
    have HB := hid hbw
    have HK := hid hblk
    have c0 := hblk.cell 0
    have c1 := hblk.cell 1
    have c2 := hblk.cell 2
    have c3 := hblk.cell 3
    have c4 := hblk.cell 4
    have c5 := hblk.cell 5
    simp only [List.getElem?_toArray, List.getElem?_cons_zero, List.getElem?_cons_succ] at c0 c1 c2 c3 c4 c5
    have hlt := hblk.lt
    have fz := hblk.free
    clear hbw hblk
    by_cases h5 : k < 5
    · have h5' : (k : Int) ≤ 4 := by omega
      have HS := hid (show Blk (wr.setCell ⟨w.heap.size, 0, none⟩ (.int .i64 (k : Nat))) w.heap.size #[.int .i64 (k : Nat), .int .i64 f, .int .i64 t, .int .i64 a, .int .i64 b, .int .u64 v] 36 from HK.out.set 0 _)
      have HSB := hid (show Bw w (wr.setCell ⟨w.heap.size, 0, none⟩ (.int .i64 (k : Nat))) from Bw.setCell HB.out (Nat.le_refl _) _)
      go_wp2_with (first
        | (go_at_call 12; refine (tell_nil ⟨k, f, t, a, b, v⟩ _).mono ?_; rintro e w1 ⟨rfl, hb1⟩; have HK1 := hid (HS.out.bw hb1); have HB1 := hid (HSB.out.trans hb1); clear hb1)
        | (go_at_call 11; refine (num_any _ _).mono ?_; rintro e w2 ⟨rfl, hw2⟩; subst w2)
        | fail)
      go_roundw
      case rel => exact ⟨k + 1, _, by omega, by go_num, HB1.out, HK1.out⟩
      case measure => simp [intOf]; omega
    · have h5' : ¬ (k : Int) ≤ 4 := by omega
      go_wp2_with (first
        | (go_at_call 11; refine (num_any _ _).mono ?_; rintro e w2 ⟨rfl, hw2⟩; subst w2)
        | (go_at_call 15; refine (Heat_nil _ _).mono ?_; rintro e w2 ⟨rfl, hw2⟩; subst w2)
        | (go_at_call 16; refine (Kinds_nil _ _ _).mono ?_; rintro e w2 ⟨rfl, hw2⟩; subst w2)
        | (go_at_call 17; refine (Writes_nil _ _).mono ?_; rintro e w2 ⟨rfl, hw2⟩; subst w2)
        | (go_at_call 18; refine (Hot_nil _ _).mono ?_; rintro e w2 ⟨rfl, hw2⟩; subst w2)
        | (go_at_call 19; refine (Stable_nil _).mono ?_; rintro e w2 ⟨rfl, hw2⟩; subst w2)
        | (go_at_call 8; refine (live_any _).mono ?_; rintro e w2 ⟨rfl, hb2⟩)
        | fail)
      all_goals go_ret
      all_goals exact ⟨rfl, HB.out.trans hb2⟩

set_option maxRecDepth 100000 in
theorem lifted (os : Os) (started : os.Started) (H : Type) (enc : TypeId × Value → H) :
    ReturnsInHanded {} Try.checked os 4 .any (Rows.profNilsSpec.pre6 enc Try.prog Try.f4 Rows.profNilsRow.domain false) (Rows.profNilsSpec.post enc Try.prog Try.f4 false true false false) := by
  refine returnsInHanded_of_change (C := Try.checked) ownK started (by kernel_rfl) Try.func4
    (ChangeSpec.witness6 (enc := enc) (C := Try.checked) false ⟨#[], #[.agg #[.int .i64 0, .int .i64 0, .int .i64 0, .int .i64 0, .int .i64 0, .int .u64 0]], []⟩ 8 (by kernel_rfl) (by kernel_rfl) (by kernel_rfl) (by kernel_rfl)) ?_
  intro W base args ds gs before hval0 hW hcnd _
  have hval : ∀ (j : Nat) t v, Try.f4.params[j]? = some t → args[j]? = some v → Value.okWide Try.prog W .any base t v := hval0
  have hW' := hW
  obtain ⟨p, q, hA0, hV, rfl, hfz, hnd⟩ := hW
  have hA : DataW.TrodAll enc Try.prog W 0 (fun _ => true) true Try.f4.params.toList args.toList ds p := hA0
  rw [Try.params4] at hA hval
  obtain ⟨v0, vs0, d0, ds0, p0, q0, hargs, rfl, rfl, h0, r0⟩ := trodAll_cons hA
  obtain ⟨rfl, rfl, rfl⟩ := trodAll_nil r0
  obtain rfl : args = #[v0] := by cases args; simp_all
  obtain ⟨rfl, rfl⟩ := trodVars_none hV
  have k0 := h0
  have lt0 : ∀ x ∈ p0, x.block < W.heap.size := by obtain ⟨m, hm⟩ := k0; exact DataW.trod_lt m _ _ _ hm
  obtain ⟨x0, rfl, w0⟩ := open_act (hval 0 36 v0 rfl rfl) h0
  clear hA0 hval0
  refine (walk x0 w0 W).mono fun e W' ⟨he, bel⟩ => ?_
  subst he
  exact ⟨_, rfl, _, _, _, [], _, [], hW', trodAll_mk1 (shut_bool Try.underlying4 _), (trodAll_cons_mk (Below.trod laidOut (by kernel_rfl) (of_decide_eq_true (by kernel_rfl)) k0 bel lt0) trodAll_mk0), rfl, Below.frame bel _, fun h => by cases h⟩

theorem over : Rows.profNilsRow.holds Try.pinned (OpenSpec.ofChange Rows.profNilsSpec) :=
  OpenClaim.holds_of_wide 4 Try.f4 rfl rfl rfl rfl rfl rfl rfl ⟨rfl, rfl, rfl, rfl, rfl⟩ rfl rfl rfl rfl rfl (by kernel_rfl) Try.func4 (by kernel_rfl)
    (of_decide_eq_true (by kernel_rfl)) (by unfold Func.isWrapper; first | (rw [if_pos (by decide +kernel)]; kernel_rfl) | (rw [if_neg (by decide +kernel)]; exact ⟨rfl, rfl⟩))
    (fun os started H enc _ => lifted os started H enc)

theorem proved : Rows.ProfNilsSaid := over
end Go.Proofs.Ytfkcbioefdkabaa.profNils
namespace Go.Proofs.Ytfkcbioefdkabaa
theorem profNils_holds : Rows.ProfNilsSaid := profNils.proved
#print axioms profNils_holds
end Go.Proofs.Ytfkcbioefdkabaa
