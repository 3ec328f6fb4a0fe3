/- For every small number and every call as the statement draws them, the statement HeapFulls of layer 3 answers true: where a heap of the program has as many objects as it may have, none is made any more, and nothing changes; no condition. -/
import Derived.Test.YtolfgkpmcfneiaaPX
import Derived.Test.YtolfgkpmcfneiaaFa
set_option linter.unusedVariables false
set_option linter.unusedSimpArgs false
namespace Go.Proofs.Ytolfgkpmcfneiaa.heapFulls
open Go.ChangeShapes Go.WideShapes Go.ChangeAt Go.RowKit

set_option maxHeartbeats 32000000 in
set_option maxRecDepth 100000 in
theorem core (w : World) (a0 : Int) (w0 : 0 ≤ a0 ∧ a0 ≤ 255) (a1 : AAct) (x1 : Value × Value × Value) (w1 : AOK w (fun _ => True) a1 x1) :
    Calls Try.prog 8 #[.int .u8 a0, actV a1 x1] w fun e w' => e = .returned (.bool true) ∧ Bw w w' := by
  obtain ⟨q, hq, hq9⟩ : ∃ q : Nat, a0.tmod 20 = (q : Int) ∧ q ≤ 19 := by
    refine ⟨(a0 % 20).toNat, ?_, by omega⟩
    rw [Int.tmod_eq_emod_of_nonneg w0.1]; omega
  have hm1 := w1.m1
  have hm2 := w1.m2
  have hm3 := w1.m3
  unfold maxLen at hm1 hm2 hm3
  obtain ⟨vb, vl, vk⟩ := x1
  obtain ⟨p1, c1, e1⟩ := w1.b.form
  obtain ⟨p2, c2, e2⟩ := w1.l.form
  obtain ⟨p3, c3, e3⟩ := w1.k.form
  simp only at e1 e2 e3
  subst e1 e2 e3
  have W1 := hid w1
  clear w1
  have hq1 : (1 : Int) ≤ 1 + (q : Int) := by omega
  have hq2 : 1 + (q : Int) ≤ 65536 := by omega
  have HQ := hid (And.intro hq1 hq2)
  clear hq1 hq2
  by_cases hl : a1.B.length ≤ 300 ∧ a1.L.length ≤ 200 ∧ a1.K.length ≤ 200
  · have HL := hid hl
    have l1 : decide ((300 : Int) < (a1.B.length : Int)) = false := decide_eq_false (by omega)
    have l2 : decide ((200 : Int) < (a1.L.length : Int)) = false := decide_eq_false (by omega)
    have l3 : decide ((200 : Int) < (a1.K.length : Int)) = false := decide_eq_false (by omega)
    clear hl
    go_enter Try.func8, Try.ntmps8
    go_wp2_with (first
      | (go_at_call 11; refine (new_ok (1 + (q : Int)) _ HQ.out.1 HQ.out.2).mono ?_; rintro e wn ⟨rfl, hs1, hb1, hl1⟩; have S1 := hid hs1; have B1 := hid hb1; have bk := (Blk.new w #[.int .i64 a1.Do, .int .u64 a1.V, .int .u64 a1.X, .int .i64 a1.I, .slice p1 a1.B.length c1, .slice p2 a1.L.length c2, .slice p3 a1.K.length c3, .string a1.Key, .int .u64 a1.Re, .int .u64 a1.Im] 43).bw hb1; have BK := hid bk; have zc := bk.cell; have hlt : w.heap.size < wn.heap.size := bk.lt; clear hs1 hb1 hl1 bk)
      | (go_at_call 13; refine (num_any _ _).mono ?_; rintro e w' ⟨rfl, rfl⟩))
    go_loopw [8] (fun j wr => ∃ (k : Nat) (bs : List Nat), k ≤ q + 1 ∧ j = .int .i64 k ∧ HS wr (w.heap.size + 1) (1 + (q : Int), cellsTo k) bs ∧ (Bw w wr ∧ ∀ b ∈ bs, w.heap.size + 1 ≤ b) ∧ Blk wr w.heap.size #[.int .i64 a1.Do, .int .u64 a1.V, .int .u64 a1.X, .int .i64 a1.I, .slice p1 a1.B.length c1, .slice p2 a1.L.length c2, .slice p3 a1.K.length c3, .string a1.Key, .int .u64 a1.Re, .int .u64 a1.Im] 43) (fun j _ => q + 1 - (intOf j).toNat)
    case atStart => exact ⟨0, [w.heap.size + 1], by omega, rfl, by simpa [cellsTo] using S1.out, ⟨Bw.trans (Bw.alloc (Bw.refl w) _) B1.out, by simp⟩, BK.out⟩
    case round =>
      obtain ⟨k, bs, hk, rfl, hS, hB, hb0⟩ := hrel
      have HSr := hid hS
      have HBr := hid hB
      have HBl := hid hb0
      have hnb : w.heap.size ∉ bs := fun h => by have := hB.2 _ h; omega
      have HNB := hid hnb
      clear hS hB hb0 hnb zc hlt
      by_cases hlt : k < q + 1
      · have hlt' : (k : Int) < 1 + (q : Int) := by omega
        have HE := hid (And.intro (cellsMkE hlt') (And.intro (cellsMkV hlt') (cellsMkH hlt')))
        have HU4 := hid (show U (4 * (k : Int)) from ⟨by omega, by omega⟩)
        go_wp2_with (first
          | (go_at_call 38; refine (cell_any (4 * (k : Int)) _ HSr.out HU4.out).mono ?_; rw [HE.out.1, HE.out.2.1, HE.out.2.2]; rintro e wp ⟨rfl, bsp, hsp, hnp⟩; have SP := hid hsp; have BP := hid hnp; clear hsp hnp)
          | (go_at_call 13; refine (num_any _ _).mono ?_; rintro e w' ⟨rfl, rfl⟩))
        go_roundw
        case rel => exact ⟨k + 1, bsp, by omega, by go_num, SP.out, ⟨BP.out.1.below HBr.out.1 HBr.out.1.size (fun b hb => by have := HBr.out.2 b hb; omega), fun b hb => (BP.out.2 b hb).elim (HBr.out.2 b) (fun hh => by have := HBl.out.lt; omega)⟩, HBl.out.nx BP.out HNB.out⟩
        case measure => simp [intOf]; omega
      · obtain rfl : k = q + 1 := by omega
        have hge : ¬ ((q + 1 : Nat) : Int) < 1 + (q : Int) := by omega
        go_wp2
        go_loopw [11] (fun d wr => ∃ (k : Nat) (dd : Int) (bs : List Nat), k ≤ 7 ∧ d = .int .i64 k ∧ HS wr (w.heap.size + 1) (1 + (q : Int), cellsTo (q + 1)) bs ∧ (Bw w wr ∧ ∀ b ∈ bs, w.heap.size + 1 ≤ b) ∧ Blk wr w.heap.size #[.int .i64 dd, .int .u64 a1.V, .int .u64 a1.X, .int .i64 a1.I, .slice p1 a1.B.length c1, .slice p2 a1.L.length c2, .slice p3 a1.K.length c3, .string a1.Key, .int .u64 a1.Re, .int .u64 a1.Im] 43) (fun d _ => 7 - (intOf d).toNat)
        case atStart => exact ⟨0, a1.Do, bs, by omega, rfl, HSr.out, HBr.out, HBl.out⟩
        case round =>
          clear HSr HBr HBl HNB
          obtain ⟨k, dd, bs, hk, rfl, hS, hB, hb0⟩ := hrel
          have HSr := hid hS
          have HBr := hid hB
          have HBl := hid hb0
          have hnb : w.heap.size ∉ bs := fun h => by have := hB.2 _ h; omega
          have HNB := hid hnb
          have z := hb0.cell
          have zf := hb0.free
          have hlt : w.heap.size < wr.heap.size := hb0.lt
          clear hS hB hb0 hnb
          by_cases h6 : k ≤ 6
          · have h6' : (k : Int) ≤ 6 := by omega
            have HSs := hid (HSr.out.out (p := ⟨w.heap.size, 0, none⟩) HNB.out (.int .i64 (k : Int)))
            have HBs := hid (Bw.setCell HBr.out.1 (p := ⟨w.heap.size, 0, none⟩) (Nat.le_refl _) (.int .i64 (k : Int)))
            have HAs := hid (((W1.out.since HBs.out (fun b hb => by have := HBr.out.2 b hb; omega)).does (k : Int) (by omega)))
            have HBb := hid (HBl.out.set 0 (.int .i64 (k : Int)))
            have HF := hid (full_make (H := (1 + (q : Int), cellsTo (q + 1))) (a := a1.does (k : Int)) (by rw [cellsTo_len]; omega) (pLong_mk HL.out.1 HL.out.2.1 HL.out.2.2))
            obtain ⟨kE, hkE⟩ : ∃ kE, kMakeE (1 + (q : Int), cellsTo (q + 1)) (a1.does (k : Int)) = kE := ⟨_, rfl⟩
            have HKE := hid hkE
            clear hkE
            have hcnt : ((cellsTo (q + 1)).length : Int) = 1 + (q : Int) := by rw [cellsTo_len]; omega
            have HCN := hid hcnt
            clear hcnt
            have h13 : kE = 1 ∨ kE = 3 := by rw [← HKE.out]; exact HF.out.1
            rcases h13 with rfl | rfl
            all_goals
              go_wp2_with (first
                | (go_at_call 21; refine (make1_any (a1.does (k : Int)) (.slice p1 a1.B.length c1, .slice p2 a1.L.length c2, .slice p3 a1.K.length c3) _ HSs.out HAs.out (show a1.B.length ≤ 1000000000 by have := HL.out.1; omega) (show a1.L.length ≤ 1000000000 by have := HL.out.2.1; omega) (show a1.K.length ≤ 1000000000 by have := HL.out.2.2; omega)).mono ?_; rw [HKE.out, HF.out.2.1, HF.out.2.2]; rintro e wp ⟨vb, vv, vk, rfl, bsp, hol, hsp, hnp⟩; obtain ⟨y1, d1, rfl⟩ := hol.1.form; obtain ⟨y2, d2, rfl⟩ := hol.2.1.form; obtain ⟨y3, d3, rfl⟩ := hol.2.2.form; have SP := hid (hsp.alloc (.cells #[.int .i64 (mkO (a1.does k)).kind, .slice y1 (mkO (a1.does k)).bytes.length d1, .slice y2 (mkO (a1.does k)).vals.length d2, .slice y3 (mkO (a1.does k)).keys.length d3, .int .i64 (mkO (a1.does k)).num, .int .u64 (mkO (a1.does k)).re, .int .u64 (mkO (a1.does k)).im] 55)); have NP := hid hnp; clear hol hsp hnp)
                | (go_at_call 13; refine (num_any _ _).mono ?_; rintro e w' ⟨rfl, rfl⟩)
                | (go_at_call 29; refine (count_hs _ SP.out).mono ?_; rw [HCN.out]; rintro e w' ⟨rfl, rfl⟩))
              go_roundw
              case rel => exact ⟨k + 1, k, bsp, by omega, by go_num, SP.out, ⟨Bw.alloc (NP.out.1.below HBs.out HBs.out.size (fun b hb => by have := HBr.out.2 b hb; omega)) _, fun b hb => (NP.out.2 b hb).elim (HBr.out.2 b) (fun hh => by have := HBb.out.lt; omega)⟩, (HBb.out.nx NP.out HNB.out).alloc _⟩
              case measure => simp [intOf]; omega
          · have h6' : ¬ (k : Int) ≤ 6 := by omega
            clear z zf
            go_wp2
            go_loopw [15] (fun j wr => ∃ (k : Nat), k ≤ q + 1 ∧ j = .int .i64 k ∧ HS wr (w.heap.size + 1) (1 + (q : Int), cellsTo (q + 1)) bs ∧ Bw w wr) (fun j _ => q + 1 - (intOf j).toNat)
            case atStart => exact ⟨0, by omega, rfl, HSr.out, HBr.out.1⟩
            case round =>
              clear HSr
              obtain ⟨i, hi, rfl, hS, hB⟩ := hrel
              have HSr := hid hS
              have HBw := hid hB
              clear hS hB hlt
              by_cases hlt : i < q + 1
              · have hlt' : (i : Int) < 1 + (q : Int) := by omega
                have HA := hid (at_cells (n := 1 + (q : Int)) hlt (by omega))
                have HU4 := hid (show U (4 * (i : Int) + 2) from ⟨by omega, by omega⟩)
                go_wp2_with (first
                  | (go_at_call 18; refine (at_any (4 * (i : Int) + 2) 0 HU4.out _ HSr.out).mono ?_; rw [HA.out.1, HA.out.2]; rintro e w' ⟨rfl, os, m, rfl⟩)
                  | (go_at_call 13; refine (num_any _ _).mono ?_; rintro e w' ⟨rfl, rfl⟩))
                go_roundw
                case rel => exact ⟨i + 1, by omega, by go_num, HSr.out.bw (Bw.lay (Bw.refl _) _ _), Bw.lay HBw.out _ _⟩
                case measure => simp [intOf]; omega
              · have hlt' : ¬ (i : Int) < 1 + (q : Int) := by omega
                go_wp2_with (first
                  | (go_at_call 10; refine (live_any _).mono ?_; rintro e wl ⟨rfl, hbl⟩; have BL := hid hbl; clear hbl))
                all_goals go_ret
                all_goals exact ⟨rfl, Bw.trans HBw.out BL.out⟩
  · have h3 : (decide ((300 : Int) < (a1.B.length : Int)) = true) ∨ (decide ((300 : Int) < (a1.B.length : Int)) = false ∧ decide ((200 : Int) < (a1.L.length : Int)) = true) ∨ (decide ((300 : Int) < (a1.B.length : Int)) = false ∧ decide ((200 : Int) < (a1.L.length : Int)) = false ∧ decide ((200 : Int) < (a1.K.length : Int)) = true) := by
      simp only [decide_eq_true_iff, decide_eq_false_iff_not]; omega
    clear hl
    rcases h3 with l1 | ⟨l1, l2⟩ | ⟨l1, l2, l3⟩
    all_goals
      go_enter Try.func8, Try.ntmps8
      go_wp2_with (first
        | (go_at_call 11; refine (new_ok (1 + (q : Int)) _ HQ.out.1 HQ.out.2).mono ?_; rintro e wn ⟨rfl, hs1, hb1, hl1⟩; have S1 := hid hs1; have B1 := hid hb1; have bk := (Blk.new w #[.int .i64 a1.Do, .int .u64 a1.V, .int .u64 a1.X, .int .i64 a1.I, .slice p1 a1.B.length c1, .slice p2 a1.L.length c2, .slice p3 a1.K.length c3, .string a1.Key, .int .u64 a1.Re, .int .u64 a1.Im] 43).bw hb1; have zc := bk.cell; have hlt : w.heap.size < wn.heap.size := bk.lt; clear hs1 hb1 hl1 bk)
        | (go_at_call 13; refine (num_any _ _).mono ?_; rintro e w' ⟨rfl, rfl⟩)
        | (go_at_call 10; refine (live_any _).mono ?_; rintro e wl ⟨rfl, hbl⟩; have BL := hid hbl; clear hbl))
      all_goals go_ret
      all_goals exact ⟨rfl, Bw.trans (Bw.trans (Bw.alloc (Bw.refl w) _) B1.out) BL.out⟩

theorem walk (a0 : Int) (w0 : 0 ≤ a0 ∧ a0 ≤ 255) (w : World) (a1 : AAct) (x1 : Value × Value × Value) (w1 : AOK w (fun _ => True) a1 x1) :
    Calls Try.prog 8 #[.int .u8 a0, actV a1 x1] w fun e w' => e = .returned (.bool true) ∧ Bw w w' := by
  exact core w a0 w0 a1 x1 w1

set_option maxRecDepth 100000 in
theorem lifted (os : Os) (started : os.Started) (H : Type) (enc : TypeId × Value → H) :
    ReturnsInHanded {} Try.checked os 8 .any (Rows.heapFullsSpec.pre6 enc Try.prog Try.f8 Rows.heapFullsRow.domain false) (Rows.heapFullsSpec.post enc Try.prog Try.f8 false true false false) := by
  refine returnsInHanded_of_change (C := Try.checked) ownK started (by kernel_rfl) Try.func8
    (ChangeSpec.witness6 (enc := enc) (C := Try.checked) false ⟨#[], #[.int .u8 0, .agg #[.int .i64 0, .int .u64 0, .int .u64 0, .int .i64 0, .slice none 0 0, .slice none 0 0, .slice none 0 0, .string ByteArray.empty, .int .u64 0, .int .u64 0]], []⟩ 8 (by kernel_rfl) (by kernel_rfl) (by kernel_rfl) (by kernel_rfl)) ?_
  intro W base args ds gs before hval0 hW hcnd _
  have hval : ∀ (j : Nat) t v, Try.f8.params[j]? = some t → args[j]? = some v → Value.okWide Try.prog W .any base t v := hval0
  have hW' := hW
  obtain ⟨p, q, hA0, hV, rfl, hfz, hnd⟩ := hW
  have hA : DataW.TrodAll enc Try.prog W 0 (fun _ => true) true Try.f8.params.toList args.toList ds p := hA0
  rw [Try.params8] at hA hval
  obtain ⟨v0, vs0, d0, ds0, p0, q0, hargs, rfl, rfl, h0, r0⟩ := trodAll_cons hA
  obtain ⟨v1, vs1, d1, ds1, p1, q1, rfl, rfl, rfl, h1, r1⟩ := trodAll_cons r0
  obtain ⟨rfl, rfl, rfl⟩ := trodAll_nil r1
  obtain rfl : args = #[v0, v1] := by cases args; simp_all
  obtain ⟨rfl, rfl⟩ := trodVars_none hV
  have k0 := h0
  have lt0 : ∀ x ∈ p0, x.block < W.heap.size := by obtain ⟨m, hm⟩ := k0; exact DataW.trod_lt m _ _ _ hm
  have k1 := h1
  have lt1 : ∀ x ∈ p1, x.block < W.heap.size := by obtain ⟨m, hm⟩ := k1; exact DataW.trod_lt m _ _ _ hm
  obtain ⟨a0, rfl, rfl, rfl, w00⟩ := open_int Try.underlying5 (hval 0 5 v0 rfl rfl) h0
  have w0 := bounds_u8 w00
  obtain ⟨a1, x1, rfl, w1⟩ := open_act (hval 1 43 v1 rfl rfl) h1
  clear hA0 hval0
  refine (walk a0 w0 W a1 x1 w1).mono fun e W' ⟨he, bel⟩ => ?_
  subst he
  exact ⟨_, rfl, _, _, _, [], _, [], hW', trodAll_mk1 (shut_bool Try.underlying4 _), (trodAll_cons_mk (Below.trod laidOut (by kernel_rfl) (of_decide_eq_true (by kernel_rfl)) k0 bel lt0) (trodAll_cons_mk (Below.trod laidOut (by kernel_rfl) (of_decide_eq_true (by kernel_rfl)) k1 bel lt1) trodAll_mk0)), rfl, Below.frame bel _, fun h => by cases h⟩

theorem over : Rows.heapFullsRow.holds Try.pinned (OpenSpec.ofChange Rows.heapFullsSpec) :=
  OpenClaim.holds_of_wide 8 Try.f8 rfl rfl rfl rfl rfl rfl rfl ⟨rfl, rfl, rfl, rfl, rfl⟩ rfl rfl rfl rfl rfl (by kernel_rfl) Try.func8 (by kernel_rfl)
    (of_decide_eq_true (by kernel_rfl)) (by unfold Func.isWrapper; first | (rw [if_pos (by decide +kernel)]; kernel_rfl) | (rw [if_neg (by decide +kernel)]; exact ⟨rfl, rfl⟩))
    (fun os started H enc _ => lifted os started H enc)

theorem proved : Rows.HeapFullsSaid := over
end Go.Proofs.Ytolfgkpmcfneiaa.heapFulls
namespace Go.Proofs.Ytolfgkpmcfneiaa
theorem heapFulls_holds : Rows.HeapFullsSaid := heapFulls.proved
#print axioms heapFulls_holds
end Go.Proofs.Ytolfgkpmcfneiaa
