/- For every call as the statement draws one, the statement HeapNils of layer 3 answers true: a nil heap of the program answers zeros and ErrNil to whatever is asked of it; no condition. -/
import Derived.Test.YtgkpghcfjccchaaFa
import Derived.Test.YtgkpghcfjccchaaQN
set_option linter.unusedVariables false
set_option linter.unusedSimpArgs false
namespace Go.Proofs.Ytgkpghcfjccchaa.heapNils
open Go.ChangeShapes Go.WideShapes Go.ChangeAt Go.RowKit

set_option maxHeartbeats 64000000 in
set_option maxRecDepth 100000 in
theorem core (w : World) (a0 : AAct) (x0 : Value × Value × Value) (w0 : AOK w (fun _ => True) a0 x0) :
    Calls Try.prog 4 #[actV a0 x0] w fun e w' => e = .returned (.bool true) ∧ Bw w w' := by
  obtain ⟨vb, vl, vk⟩ := x0
  obtain ⟨a1, c1, rfl⟩ := w0.b.form
  obtain ⟨a2, c2, rfl⟩ := w0.l.form
  obtain ⟨a3, c3, rfl⟩ := w0.k.form
  have HU := hid w0.v
  have HR := hid w0.r
  clear w0
  go_enter Try.func4, Try.ntmps4
  go_wp2_with (first
    | (go_at_call 16; refine (bytes_nil _ _).mono ?_; rintro e w' ⟨rfl, os, m, rfl⟩)
    | (go_at_call 17; refine (len_nil _ _).mono ?_; rintro e w' ⟨rfl, os, m, rfl⟩)
    | (go_at_call 18; refine (at_nil _ _ _).mono ?_; rintro e w' ⟨rfl, os, m, rfl⟩)
    | (go_at_call 26; refine (set_nil _ _ _ _).mono ?_; rintro e w' ⟨rfl, os, m, rfl⟩)
    | (go_at_call 27; refine (push_nil _ _ _).mono ?_; rintro e w' ⟨rfl, os, m, rfl⟩)
    | (go_at_call 19; refine (pop_nil _ _).mono ?_; rintro e w' ⟨rfl, os, m, rfl⟩)
    | (go_at_call 25; refine (keys_nil _ _).mono ?_; rintro e w' ⟨rfl, os, m, rfl⟩)
    | (go_at_call 20; refine (field_nil _ _ _).mono ?_; rintro e w' ⟨rfl, os, m, rfl⟩)
    | (go_at_call 28; refine (put_nil _ _ _ _).mono ?_; rintro e w' ⟨rfl, os, m, rfl⟩)
    | (go_at_call 22; refine (funOf_nil _ _).mono ?_; rintro e w' ⟨rfl, os, m, rfl⟩)
    | (go_at_call 23; refine (cplxOf_nil _ _).mono ?_; rintro e w' ⟨rfl, os, m, rfl⟩)
    | (go_at_call 24; refine (itemOf_nil _ _).mono ?_; rintro e w' ⟨rfl, os, m, rfl⟩)
    | (go_at_call 13; refine (num_any _ _).mono ?_; rintro e w' ⟨rfl, rfl⟩)
    | (go_at_call 29; refine (count_nil _).mono ?_; rintro e w' ⟨rfl, rfl⟩)
    | (go_at_call 30; refine (kind_nil _ HU.out _).mono ?_; rintro e w' ⟨rfl, rfl⟩)
    | (go_at_call 31; refine (good_nil _ _).mono ?_; rintro e w' ⟨rfl, rfl⟩)
    | (go_at_call 10; refine (live_any _).mono ?_; rintro e wl ⟨rfl, hbl⟩; have BL := hid hbl; clear hbl))
  go_loopw [14] (fun d wr => ∃ (k : Nat) (dd : Int), k ≤ 7 ∧ d = .int .i64 k ∧ Blk wr w.heap.size #[.int .i64 dd, .int .u64 a0.V, .int .u64 a0.X, .int .i64 a0.I, .slice a1 a0.B.length c1, .slice a2 a0.L.length c2, .slice a3 a0.K.length c3, .string a0.Key, .int .u64 a0.Re, .int .u64 a0.Im] 43 ∧ Bw w wr) (fun d _ => 7 - (intOf d).toNat)
  case atStart => exact ⟨0, a0.Do, by omega, rfl, (Blk.new w _ _).lay _ _, ((Bw.refl w).alloc _).lay _ _⟩
  case round =>
    obtain ⟨k, dd, hk, rfl, hB, hW⟩ := hrel
    have z := hB.cell
    have zf := hB.free
    have hlt : w.heap.size < wr.heap.size := hB.lt
    have HB := hid hB
    have HW := hid hW
    clear hB hW
    by_cases h6 : k ≤ 6
    · have h6' : (k : Int) ≤ 6 := by omega
      go_wp2_with (first
        | (go_at_call 21; refine (make1_nil ⟨(k : Int), a0.V, a0.X, a0.I, a0.B, a0.L, a0.K, a0.Key, a0.Re, a0.Im⟩ a1 a2 a3 _ _ _ c1 c2 c3 _ HR.out (by show (0 : Int) ≤ (k : Int); omega) h6').mono ?_; rintro e w' ⟨v3, rfl, ⟨q1, q2, q3, q4, r1, r2, r3, s1, s2, s3, t1, t2, t3, rfl⟩, os, m, rfl⟩)
        | (go_at_call 13; refine (num_any _ _).mono ?_; rintro e w' ⟨rfl, rfl⟩))
      go_roundw
      case rel => exact ⟨k + 1, k, by omega, by go_num, by simpa using ((HB.out.set 0 (.int .i64 (k : Int))).lay os m).alloc _, Bw.alloc (Bw.lay (Bw.setCell HW.out (p := ⟨w.heap.size, 0, none⟩) (Nat.le_refl _) _) os m) _⟩
      case measure => simp [intOf]; omega
    · have h6' : ¬ (k : Int) ≤ 6 := by omega
      go_wp2_with (first
    | (go_at_call 16; refine (bytes_nil _ _).mono ?_; rintro e w' ⟨rfl, os, m, rfl⟩)
    | (go_at_call 17; refine (len_nil _ _).mono ?_; rintro e w' ⟨rfl, os, m, rfl⟩)
    | (go_at_call 18; refine (at_nil _ _ _).mono ?_; rintro e w' ⟨rfl, os, m, rfl⟩)
    | (go_at_call 26; refine (set_nil _ _ _ _).mono ?_; rintro e w' ⟨rfl, os, m, rfl⟩)
    | (go_at_call 27; refine (push_nil _ _ _).mono ?_; rintro e w' ⟨rfl, os, m, rfl⟩)
    | (go_at_call 19; refine (pop_nil _ _).mono ?_; rintro e w' ⟨rfl, os, m, rfl⟩)
    | (go_at_call 25; refine (keys_nil _ _).mono ?_; rintro e w' ⟨rfl, os, m, rfl⟩)
    | (go_at_call 20; refine (field_nil _ _ _).mono ?_; rintro e w' ⟨rfl, os, m, rfl⟩)
    | (go_at_call 28; refine (put_nil _ _ _ _).mono ?_; rintro e w' ⟨rfl, os, m, rfl⟩)
    | (go_at_call 22; refine (funOf_nil _ _).mono ?_; rintro e w' ⟨rfl, os, m, rfl⟩)
    | (go_at_call 23; refine (cplxOf_nil _ _).mono ?_; rintro e w' ⟨rfl, os, m, rfl⟩)
    | (go_at_call 24; refine (itemOf_nil _ _).mono ?_; rintro e w' ⟨rfl, os, m, rfl⟩)
    | (go_at_call 13; refine (num_any _ _).mono ?_; rintro e w' ⟨rfl, rfl⟩)
    | (go_at_call 29; refine (count_nil _).mono ?_; rintro e w' ⟨rfl, rfl⟩)
    | (go_at_call 30; refine (kind_nil _ HU.out _).mono ?_; rintro e w' ⟨rfl, rfl⟩)
    | (go_at_call 31; refine (good_nil _ _).mono ?_; rintro e w' ⟨rfl, rfl⟩)
    | (go_at_call 10; refine (live_any _).mono ?_; rintro e wl ⟨rfl, hbl⟩; have BL := hid hbl; clear hbl))
      all_goals go_ret
      all_goals exact ⟨rfl, Bw.trans (Bw.lay HW.out _ _) BL.out⟩

theorem walk (w : World) (a0 : AAct) (x0 : Value × Value × Value) (w0 : AOK w (fun _ => True) a0 x0) :
    Calls Try.prog 4 #[actV a0 x0] w fun e w' => e = .returned (.bool true) ∧ Bw w w' := by
  exact core w a0 x0 w0

set_option maxRecDepth 100000 in
theorem lifted (os : Os) (started : os.Started) (H : Type) (enc : TypeId × Value → H) :
    ReturnsInHanded {} Try.checked os 4 .any (Rows.heapNilsSpec.pre6 enc Try.prog Try.f4 Rows.heapNilsRow.domain false) (Rows.heapNilsSpec.post enc Try.prog Try.f4 false true false false) := by
  refine returnsInHanded_of_change (C := Try.checked) ownK started (by kernel_rfl) Try.func4
    (ChangeSpec.witness6 (enc := enc) (C := Try.checked) false ⟨#[], #[.agg #[.int .i64 0, .int .u64 0, .int .u64 0, .int .i64 0, .slice none 0 0, .slice none 0 0, .slice none 0 0, .string ByteArray.empty, .int .u64 0, .int .u64 0]], []⟩ 8 (by kernel_rfl) (by kernel_rfl) (by kernel_rfl) (by kernel_rfl)) ?_
  intro W base args ds gs before hval0 hW hcnd _
  have hval : ∀ (j : Nat) t v, Try.f4.params[j]? = some t → args[j]? = some v → Value.okWide Try.prog W .any base t v := hval0
  have hW' := hW
  obtain ⟨p, q, hA0, hV, rfl, hfz, hnd⟩ := hW
  have hA : DataW.TrodAll enc Try.prog W 0 (fun _ => true) true Try.f4.params.toList args.toList ds p := hA0
  rw [Try.params4] at hA hval
  obtain ⟨v0, vs0, d0, ds0, p0, q0, hargs, rfl, rfl, h0, r0⟩ := trodAll_cons hA
  obtain ⟨rfl, rfl, rfl⟩ := trodAll_nil r0
  obtain rfl : args = #[v0] := by cases args; simp_all
  obtain ⟨rfl, rfl⟩ := trodVars_none hV
  have k0 := h0
  have lt0 : ∀ x ∈ p0, x.block < W.heap.size := by obtain ⟨m, hm⟩ := k0; exact DataW.trod_lt m _ _ _ hm
  obtain ⟨a0, x0, rfl, w0⟩ := open_act (hval 0 43 v0 rfl rfl) h0
  clear hA0 hval0
  refine (walk W a0 x0 w0).mono fun e W' ⟨he, bel⟩ => ?_
  subst he
  exact ⟨_, rfl, _, _, _, [], _, [], hW', trodAll_mk1 (shut_bool Try.underlying4 _), (trodAll_cons_mk (Below.trod laidOut (by kernel_rfl) (of_decide_eq_true (by kernel_rfl)) k0 bel lt0) trodAll_mk0), rfl, Below.frame bel _, fun h => by cases h⟩

theorem over : Rows.heapNilsRow.holds Try.pinned (OpenSpec.ofChange Rows.heapNilsSpec) :=
  OpenClaim.holds_of_wide 4 Try.f4 rfl rfl rfl rfl rfl rfl rfl ⟨rfl, rfl, rfl, rfl, rfl⟩ rfl rfl rfl rfl rfl (by kernel_rfl) Try.func4 (by kernel_rfl)
    (of_decide_eq_true (by kernel_rfl)) (by unfold Func.isWrapper; first | (rw [if_pos (by decide +kernel)]; kernel_rfl) | (rw [if_neg (by decide +kernel)]; exact ⟨rfl, rfl⟩))
    (fun os started H enc _ => lifted os started H enc)

theorem proved : Rows.HeapNilsSaid := over
end Go.Proofs.Ytgkpghcfjccchaa.heapNils
namespace Go.Proofs.Ytgkpghcfjccchaa
theorem heapNils_holds : Rows.HeapNilsSaid := heapNils.proved
#print axioms heapNils_holds
end Go.Proofs.Ytgkpghcfjccchaa
