/- The hottest functions come first, of the same heat in order; all that are hot enough are there, each once. -/
import Derived.Test.YtfkcbioefdkabaaPn
set_option linter.unusedVariables false
set_option linter.unusedSimpArgs false
namespace Go.Proofs.Ytfkcbioefdkabaa.profSorted
open Go.ChangeShapes Go.WideShapes Go.ChangeAt Go.RowKit

set_option maxRecDepth 100000 in
set_option maxHeartbeats 2000000 in
theorem walk (a1 : Int) (w1 : -9223372036854775808 ≤ a1 ∧ a1 ≤ 9223372036854775807) (w : World) (v0 : Value) (l0 : List AA) (w0 : Acts w (fun _ => True) v0 l0) :
    Calls Try.prog 7 #[v0, .int .i64 a1] w fun e w' => e = .returned (.bool true) ∧ Bw w w' := by
  obtain ⟨av, cv, rfl⟩ := w0.form
  have HA := hid w0
  clear w0
  by_cases hlen : 60 < l0.length
  · have h60 : (60 : Int) < (l0.length : Int) := by omega
    go_enter Try.func7, Try.ntmps7
    go_wp2_with (first
      | (go_at_call 8; refine (live_any _).mono ?_; rintro e w2 ⟨rfl, hb2⟩)
      | fail)
    all_goals go_ret
    all_goals exact ⟨rfl, hb2⟩
  · have h60 : ¬ (60 : Int) < (l0.length : Int) := by omega
    have hN := fun w => New_yes 5 5 w (by decide) (by decide) (by decide)
    go_enter Try.func7, Try.ntmps7
    go_wp2_with (first
      | (go_at_call 9; refine (hN _).mono ?_; rintro e w1 ⟨p, hb, wb, mb, rfl, hp1, hb1, b1, b2, b3, b4⟩; have HP1 := hid hp1; have HB1 := hid hb1; have hbs := hid (show ∀ x ∈ bsOf hb wb mb, w.heap.size ≤ x by intro x hx; simp at hx; rcases hx with rfl | rfl | rfl <;> assumption); clear hp1 hb1 b1 b2 b3 b4)
      | (go_at_call 11; refine (num_any _ _).mono ?_; rintro e w2 ⟨rfl, hw2⟩; subst w2)
      | fail)
    go_loopw [7] (fun j wr => ∃ (k : Nat) (L : List AA), k ≤ l0.length ∧ L.length ≤ k ∧ j = .int .i64 k ∧ Bw w wr ∧ PS wr p hb wb mb 5 5 L) (fun j _ => l0.length - (intOf j).toNat)
    case atStart => exact ⟨0, [], by omega, Nat.le_refl _, rfl, HB1.out, HP1.out⟩
    case round =>
      obtain ⟨k, L, hk, hL, rfl, hbw, hps⟩ := hrel
      have HB := hid hbw
      have HP := hid hps
      by_cases hlt : k < l0.length
      · obtain ⟨g, o, rfl, hg, x0, x1, x2, x3, x4, x5, _⟩ := (HA.out.bw hbw).at hlt
        have hlt2 : (k : Int) < (l0.length : Int) := by omega
        generalize l0[k] = x at x0 x1 x2 x3 x4 x5
        obtain ⟨d, f, t, a, b, v⟩ := x
        simp only at x0 x1 x2 x3 x4 x5
        clear hbw hps
        go_wp2_with (first
          | (go_at_call 12; refine (tell_any ⟨d, f, t, a, b, v⟩ HP.out (by decide) (by omega)).mono ?_; rintro e w2 ⟨rfl, hp2, hk2⟩; have HP2 := hid hp2; have HB2 := hid (HB.out.ex hk2 hbs.out); clear hp2 hk2)
          | fail)
        all_goals
          go_roundw
          case rel => exact ⟨k + 1, _, by omega, Nat.le_trans (tellL_len _ _ _ _) (by omega), by go_num, HB2.out, HP2.out⟩
          case measure => simp [intOf]; omega
      · have hlt2 : ¬ (k : Int) < (l0.length : Int) := by omega
        clear hbw hps
        have HOT := hid (fun i => hot_at (hsOf L) a1 5 (k := i))
        have PAIR := hid (fun i j n => hot_pair (hsOf L) a1 5 (k := n) (i := i) (j := j))
        go_wp2_with (first
          | (go_at_call 18; refine (Hot_any HP.out (by decide) a1).mono ?_; rintro e w2 ⟨r, he, ho2, hb2⟩; subst he; obtain ⟨ar, cr, er⟩ := own_form ho2; subst er; have HR := hid (own_sl (G := fun _ => True) ho2 (fun _ _ => trivial)); have HB2 := hid (HB.out.trans hb2); have HP2 := hid (HP.out.bw hb2); clear ho2 hb2)
          | fail)
        have hlen2 := hotL_len (hsOf L) a1 5
        have hle2 := hots_len (hsOf L) a1 5
        have CNT := hid (fun n => hots_succ (hsOf L) a1 n)
        have CN0 := hid (show (hots (hsOf L) a1 0).length = 0 from rfl)
        obtain ⟨M, hM⟩ : ∃ M, hotL (hsOf L) a1 5 = M := ⟨_, rfl⟩
        rw [hM] at HR hlen2 ⊢
        have HM := hid hM
        have HL2 := hid hlen2
        have hM5 : M.length ≤ 5 := by omega
        clear hM hlen2 hle2
        go_loopw [9, 10] (fun c j wr => ∃ (i : Nat), i ≤ 5 ∧ c = .int .i64 ((hots (hsOf L) a1 i).length : Nat) ∧ j = .int .i64 i ∧ Bw w2 wr) (fun c j _ => 5 - (intOf j).toNat)
        case atStart => exact ⟨0, by omega, rfl, rfl, Bw.refl _⟩
        case round =>
          obtain ⟨i, hi, rfl, rfl, hbw⟩ := hrel
          have HB3 := hid hbw
          have HP3 := hid (HP2.out.bw hbw)
          clear hbw
          by_cases hi5 : i < 5
          · have hi5' : (i : Int) < 5 := by omega
            have hcs := CNT.out i
            have HT := hid (Heat_yes HP3.out hi5)
            rw [show ((heatOf L (i : Int) : Nat) : Int) = hsOf L i from rfl] at HT
            have hcl := hots_len (hsOf L) a1 i
            generalize hsOf L i = n at HT hcs
            by_cases hn0 : 0 < n
            · by_cases hnl : a1 ≤ n
              · rw [if_pos ⟨hn0, hnl⟩] at hcs
                have HCS := hid hcs
                clear hcs
                go_wp2_with (first
                  | (go_at_call 15; refine (HT.out).mono ?_; rintro e w4 ⟨rfl, hb4⟩)
                  | fail)
                go_roundw
                case rel => exact ⟨i + 1, by omega, by rw [HCS.out, List.length_append]; go_num, by go_num, HB3.out.trans hb4⟩
                case measure => simp [intOf]; omega
              · have hnl' : ¬ a1 ≤ n := hnl
                rw [if_neg (fun h => hnl h.2), List.append_nil] at hcs
                have HCS := hid hcs
                clear hcs
                go_wp2_with (first
                  | (go_at_call 15; refine (HT.out).mono ?_; rintro e w4 ⟨rfl, hb4⟩)
                  | fail)
                go_roundw
                case rel => exact ⟨i + 1, by omega, by rw [HCS.out], by go_num, HB3.out.trans hb4⟩
                case measure => simp [intOf]; omega
            · have hn0' : ¬ 0 < n := hn0
              rw [if_neg (fun h => hn0 h.1), List.append_nil] at hcs
              have HCS := hid hcs
              clear hcs
              go_wp2_with (first
                | (go_at_call 15; refine (HT.out).mono ?_; rintro e w4 ⟨rfl, hb4⟩)
                | fail)
              go_roundw
              case rel => exact ⟨i + 1, by omega, by rw [HCS.out], by go_num, HB3.out.trans hb4⟩
              case measure => simp [intOf]; omega
          · have hi5' : ¬ (i : Int) < 5 := by omega
            obtain rfl : i = 5 := by omega
            rw [← HL2.out]
            have HR3 := hid (HR.out.below HB3.out)
            have HB4 := hid (HB2.out.trans HB3.out)
            clear CNT CN0 HP1 HB1 HP2 HB2 HB3 HR
            go_wp2
            go_loopw [13] (fun j ws => ∃ (n : Nat), n ≤ M.length ∧ j = .int .i64 n ∧ Bw wr ws) (fun j _ => M.length - (intOf j).toNat)
            case atStart => exact ⟨0, by omega, rfl, Bw.refl _⟩
            case round =>
              obtain ⟨n, hn, rfl, hbw⟩ := hrel
              have HB5 := hid hbw
              have HP5 := hid (HP3.out.bw hbw)
              have HR5 := hid (HR3.out.below hbw)
              clear hbw
              by_cases hlt : n < M.length
              · have hlt2 : (n : Int) < (M.length : Int) := by omega
                obtain ⟨g, o, rfl, hg, z0⟩ := HR5.out.at hlt
                have x0 : wr.cell? ⟨g, o + n, none⟩ = some (.int .i64 M[n]) := by rw [z0]; simp [hlt]
                clear z0
                have hot := HOT.out n
                simp only [HM.out] at hot
                obtain ⟨i, hi5, he, q1, q2, q3⟩ := hot hlt
                rw [he] at x0
                have HT := hid (Heat_yes HP5.out hi5)
                rw [show ((heatOf L (i : Int) : Nat) : Int) = hsOf L i from rfl] at HT
                by_cases hn0 : n = 0
                · subst hn0
                  clear hot
                  simp only [Nat.add_zero] at x0
                  have hlt3 : (0 : Int) < (M.length : Int) := by omega
                  generalize hsOf L i = h at HT q1 q2 q3
                  have r1 : ¬ h < a1 := by omega
                  have r2 : ¬ h < 1 := by omega
                  go_wp2_with (first
                    | (go_at_call 15; refine (HT.out).mono ?_; rintro e w4 ⟨rfl, hb4⟩)
                    | (go_at_call 11; refine (num_any _ _).mono ?_; rintro e w5 ⟨rfl, hw5⟩; subst w5)
                    | fail)
                  go_roundw
                  case rel => exact ⟨1, by omega, by go_num, HB5.out.trans hb4⟩
                  case measure => simp [intOf]; omega
                · obtain ⟨m, rfl⟩ : ∃ m, n = m + 1 := ⟨n - 1, by omega⟩
                  obtain ⟨g', o', e', hg', z0⟩ := HR5.out.at (i := m) (by omega)
                  cases e'
                  have y0 : wr.cell? ⟨g, o + m, none⟩ = some (.int .i64 M[m]) := by rw [z0]; simp [show m < M.length by omega]
                  clear z0
                  have hot2 := HOT.out m
                  simp only [HM.out] at hot2
                  obtain ⟨j, hj5, he2, p1, p2, p3⟩ := hot2 (by omega)
                  rw [he2] at y0
                  have HT2 := hid (fun w4 (hb4 : Bw wr w4) => Heat_yes (HP5.out.bw hb4) hj5)
                  rw [show ((heatOf L (j : Int) : Nat) : Int) = hsOf L j from rfl] at HT2
                  obtain ⟨o1, o2⟩ := PAIR.out j i m p3 q3
                  clear hot hot2
                  clear q3 p3
                  have hm1 : ((m + 1 : Nat) : Int) - 1 = (m : Nat) := by omega
                  have hm2 : IntKind.i64.wrap (((m + 1 : Nat) : Int) - 1) = (m : Nat) := by rw [hm1]; simp [IntKind.wrap, IntKind.bits, IntKind.signed]; omega
                  have hne0 : (((m + 1 : Nat) : Int) == 0) = false := by simp; omega
                  have hm3 : (m : Int) < (M.length : Int) := by omega
                  generalize hi1 : hsOf L i = h at HT q1 q2 o1 o2
                  generalize hj1 : hsOf L j = hh at HT2 p1 p2 o1 o2
                  have r1 : ¬ h < a1 := by omega
                  have r2 : ¬ h < 1 := by omega
                  have r3 : ¬ hh < h := by omega
                  have r4 : decide (hh < h) = false := decide_eq_false r3
                  clear hi1 hj1 he he2
                  by_cases hq : hh = h
                  · have hji : j < i := o2 hq
                    have hji2 : ¬ (i : Int) ≤ (j : Int) := by omega
                    subst hq
                    go_wp2_with (first
                      | (go_at_call_of 15 (Value.int .i64 (i : Nat)); refine (HT.out).mono ?_; rintro e w4 ⟨rfl, hb4⟩; have HB4 := hid hb4; have y4 := cell_bw hb4 hg y0; have x4 := cell_bw hb4 hg x0; have g4 : g < w4.heap.size := Nat.lt_of_lt_of_le hg hb4.size; clear hb4)
                      | (go_at_call_of 15 (Value.int .i64 (j : Nat)); refine (HT2.out _ HB4.out).mono ?_; rintro e w6 ⟨rfl, hb6⟩; have HB6 := hid (HB4.out.trans hb6); have y6 := cell_bw hb6 g4 y4; have x6 := cell_bw hb6 g4 x4; clear hb6)
                      | (go_at_call 11; refine (num_any _ _).mono ?_; rintro e w5 ⟨rfl, hw5⟩; subst w5)
                      | fail)
                    all_goals go_region
                    all_goals go_wp2
                    all_goals go_roundw
                    case rel => exact ⟨m + 2, by omega, by go_num, HB5.out.trans (HB6.out.trans (Bw.drew (Bw.refl _)))⟩
                    case measure => simp [intOf]; omega
                  · have hq2 : (hh == h) = false := by simpa using hq
                    go_wp2_with (first
                      | (go_at_call_of 15 (Value.int .i64 (i : Nat)); refine (HT.out).mono ?_; rintro e w4 ⟨rfl, hb4⟩; have HB4 := hid hb4; have y4 := cell_bw hb4 hg y0; have x4 := cell_bw hb4 hg x0; have g4 : g < w4.heap.size := Nat.lt_of_lt_of_le hg hb4.size; clear hb4)
                      | (go_at_call_of 15 (Value.int .i64 (j : Nat)); refine (HT2.out _ HB4.out).mono ?_; rintro e w6 ⟨rfl, hb6⟩; have HB6 := hid (HB4.out.trans hb6); have y6 := cell_bw hb6 g4 y4; have x6 := cell_bw hb6 g4 x4; clear hb6)
                      | (go_at_call 11; refine (num_any _ _).mono ?_; rintro e w5 ⟨rfl, hw5⟩; subst w5)
                      | fail)
                    refine wp_region_W (fun _ => True) (fun j => 1) (by kernel_rfl) ?_
                    refine wpAnyW_take (i := 0) (oi := { dst := some 106, op := Op.move (Operand.tmp 16), type := 3, pos := "law.go:204", after := #[], guard := none }) (v := ?_) rfl (by kernel_rfl) (by kernel_rfl) (by kernel_rfl) (by kernel_rfl) (fun _ _ _ h => h) (Or.inl ⟨by rfl, fun w _ => ?_⟩) ?_
                    rotate_left
                    · (go_simp; first | done | with_reducible rfl)
                    try simp only [Act.put, List.setIfInBounds_toArray, List.set_cons_zero, List.set_cons_succ]
                    refine wpAnyW_take (i := 1) (oi := { dst := some 107, op := Op.move (Operand.tmp 14), type := 3, pos := "law.go:204", after := #[], guard := none }) (v := ?_) rfl (by kernel_rfl) (by kernel_rfl) (by kernel_rfl) (by kernel_rfl) (fun _ _ _ h => h) (Or.inl ⟨by rfl, fun w _ => ?_⟩) ?_
                    rotate_left
                    · (go_simp; first | done | with_reducible rfl)
                    try simp only [Act.put, List.setIfInBounds_toArray, List.set_cons_zero, List.set_cons_succ]
                    refine wpAnyW_take (i := 2) (oi := { dst := some 108, op := Op.binOp BinOp.lss 3 (Operand.tmp 106) (Operand.tmp 107) 3, type := 4, pos := "law.go:204", after := #[{ on := 0, ground := Ground.data }, { on := 1, ground := Ground.data }], guard := none }) (v := ?_) rfl (by kernel_rfl) (by kernel_rfl) (by kernel_rfl) (by kernel_rfl) (fun _ _ _ h => h) (Or.inl ⟨by rfl, fun w _ => ?_⟩) ?_
                    rotate_left
                    · (go_simp; first | done | with_reducible rfl)
                    try simp only [Act.put, List.setIfInBounds_toArray, List.set_cons_zero, List.set_cons_succ]
                    try rw [r4]
                    refine wpAnyW_take (i := 3) (oi := { dst := some 109, op := Op.move (Operand.tmp 108), type := 4, pos := "law.go:204", after := #[{ on := 2, ground := Ground.data }], guard := none }) (v := ?_) rfl (by kernel_rfl) (by kernel_rfl) (by kernel_rfl) (by kernel_rfl) (fun _ _ _ h => h) (Or.inl ⟨by rfl, fun w _ => ?_⟩) ?_
                    rotate_left
                    · (go_simp; first | done | with_reducible rfl)
                    try simp only [Act.put, List.setIfInBounds_toArray, List.set_cons_zero, List.set_cons_succ]
                    refine wpAnyW_take (i := 4) (oi := { dst := some 110, op := Op.move (Operand.tmp 16), type := 3, pos := "law.go:204", after := #[{ on := 3, ground := Ground.guard }], guard := some (3, false) }) (v := ?_) rfl (by kernel_rfl) (by kernel_rfl) (by kernel_rfl) (by kernel_rfl) (fun _ _ _ h => h) (Or.inl ⟨by rfl, fun w _ => ?_⟩) ?_
                    rotate_left
                    · (go_simp; first | done | with_reducible rfl)
                    try simp only [Act.put, List.setIfInBounds_toArray, List.set_cons_zero, List.set_cons_succ]
                    refine wpAnyW_take (i := 5) (oi := { dst := some 111, op := Op.move (Operand.tmp 14), type := 3, pos := "law.go:204", after := #[{ on := 3, ground := Ground.guard }], guard := some (3, false) }) (v := ?_) rfl (by kernel_rfl) (by kernel_rfl) (by kernel_rfl) (by kernel_rfl) (fun _ _ _ h => h) (Or.inl ⟨by rfl, fun w _ => ?_⟩) ?_
                    rotate_left
                    · (go_simp; first | done | with_reducible rfl)
                    try simp only [Act.put, List.setIfInBounds_toArray, List.set_cons_zero, List.set_cons_succ]
                    refine wpAnyW_take (i := 6) (oi := { dst := some 112, op := Op.binOp BinOp.eql 3 (Operand.tmp 110) (Operand.tmp 111) 3, type := 4, pos := "law.go:204", after := #[{ on := 4, ground := Ground.data }, { on := 5, ground := Ground.data }, { on := 3, ground := Ground.guard }], guard := some (3, false) }) (v := ?_) rfl (by kernel_rfl) (by kernel_rfl) (by kernel_rfl) (by kernel_rfl) (fun _ _ _ h => h) (Or.inl ⟨by rfl, fun w _ => ?_⟩) ?_
                    rotate_left
                    · (go_simp; first | done | with_reducible rfl)
                    try simp only [Act.put, List.setIfInBounds_toArray, List.set_cons_zero, List.set_cons_succ]
                    try rw [hq2]
                    refine wpAnyW_take (i := 7) (oi := { dst := some 113, op := Op.move (Operand.tmp 112), type := 4, pos := "law.go:204", after := #[{ on := 6, ground := Ground.data }, { on := 3, ground := Ground.chain }, { on := 3, ground := Ground.guard }], guard := some (3, false) }) (v := ?_) rfl (by kernel_rfl) (by kernel_rfl) (by kernel_rfl) (by kernel_rfl) (fun _ _ _ h => h) (Or.inl ⟨by rfl, fun w _ => ?_⟩) ?_
                    rotate_left
                    · (go_simp; first | done | with_reducible rfl)
                    try simp only [Act.put, List.setIfInBounds_toArray, List.set_cons_zero, List.set_cons_succ]
                    refine wpAnyW_take (i := 8) (oi := { dst := some 114, op := Op.move (Operand.tmp 8), type := 46, pos := "law.go:204", after := #[{ on := 7, ground := Ground.guard }], guard := some (7, true) }) (v := undef) rfl (by kernel_rfl) (by kernel_rfl) (by kernel_rfl) (by kernel_rfl) (fun _ _ _ h => h) (Or.inr ⟨by rfl, rfl⟩) ?_
                    try simp only [Act.put, List.setIfInBounds_toArray, List.set_cons_zero, List.set_cons_succ]
                    refine wpAnyW_take (i := 9) (oi := { dst := some 115, op := Op.move (Operand.tmp 13), type := 3, pos := "law.go:204", after := #[{ on := 7, ground := Ground.guard }], guard := some (7, true) }) (v := undef) rfl (by kernel_rfl) (by kernel_rfl) (by kernel_rfl) (by kernel_rfl) (fun _ _ _ h => h) (Or.inr ⟨by rfl, rfl⟩) ?_
                    try simp only [Act.put, List.setIfInBounds_toArray, List.set_cons_zero, List.set_cons_succ]
                    refine wpAnyW_take (i := 10) (oi := { dst := some 116, op := Op.binOp BinOp.sub 3 (Operand.tmp 115) (Operand.const (Value.int IntKind.i64 1)) 3, type := 3, pos := "law.go:204", after := #[{ on := 9, ground := Ground.data }, { on := 7, ground := Ground.guard }], guard := some (7, true) }) (v := undef) rfl (by kernel_rfl) (by kernel_rfl) (by kernel_rfl) (by kernel_rfl) (fun _ _ _ h => h) (Or.inr ⟨by rfl, rfl⟩) ?_
                    try simp only [Act.put, List.setIfInBounds_toArray, List.set_cons_zero, List.set_cons_succ]
                    refine wpAnyW_take (i := 11) (oi := { dst := some 117, op := Op.indexAddr 46 (Operand.tmp 114) (Operand.tmp 116), type := 0, pos := "law.go:204", after := #[{ on := 8, ground := Ground.data }, { on := 10, ground := Ground.data }, { on := 7, ground := Ground.guard }], guard := some (7, true) }) (v := undef) rfl (by kernel_rfl) (by kernel_rfl) (by kernel_rfl) (by kernel_rfl) (fun _ _ _ h => h) (Or.inr ⟨by rfl, rfl⟩) ?_
                    try simp only [Act.put, List.setIfInBounds_toArray, List.set_cons_zero, List.set_cons_succ]
                    refine wpAnyW_take (i := 12) (oi := { dst := some 118, op := Op.load 3 (Operand.tmp 117), type := 3, pos := "law.go:204", after := #[{ on := 11, ground := Ground.data }, { on := 7, ground := Ground.guard }], guard := some (7, true) }) (v := undef) rfl (by kernel_rfl) (by kernel_rfl) (by kernel_rfl) (by kernel_rfl) (fun _ _ _ h => h) (Or.inr ⟨by rfl, rfl⟩) ?_
                    try simp only [Act.put, List.setIfInBounds_toArray, List.set_cons_zero, List.set_cons_succ]
                    refine wpAnyW_take (i := 13) (oi := { dst := some 119, op := Op.move (Operand.tmp 8), type := 46, pos := "law.go:204", after := #[{ on := 7, ground := Ground.guard }], guard := some (7, true) }) (v := undef) rfl (by kernel_rfl) (by kernel_rfl) (by kernel_rfl) (by kernel_rfl) (fun _ _ _ h => h) (Or.inr ⟨by rfl, rfl⟩) ?_
                    try simp only [Act.put, List.setIfInBounds_toArray, List.set_cons_zero, List.set_cons_succ]
                    refine wpAnyW_take (i := 14) (oi := { dst := some 120, op := Op.move (Operand.tmp 13), type := 3, pos := "law.go:204", after := #[{ on := 7, ground := Ground.guard }], guard := some (7, true) }) (v := undef) rfl (by kernel_rfl) (by kernel_rfl) (by kernel_rfl) (by kernel_rfl) (fun _ _ _ h => h) (Or.inr ⟨by rfl, rfl⟩) ?_
                    try simp only [Act.put, List.setIfInBounds_toArray, List.set_cons_zero, List.set_cons_succ]
                    refine wpAnyW_take (i := 15) (oi := { dst := some 121, op := Op.indexAddr 46 (Operand.tmp 119) (Operand.tmp 120), type := 0, pos := "law.go:204", after := #[{ on := 13, ground := Ground.data }, { on := 14, ground := Ground.data }, { on := 7, ground := Ground.guard }], guard := some (7, true) }) (v := undef) rfl (by kernel_rfl) (by kernel_rfl) (by kernel_rfl) (by kernel_rfl) (fun _ _ _ h => h) (Or.inr ⟨by rfl, rfl⟩) ?_
                    try simp only [Act.put, List.setIfInBounds_toArray, List.set_cons_zero, List.set_cons_succ]
                    refine wpAnyW_take (i := 16) (oi := { dst := some 122, op := Op.load 3 (Operand.tmp 121), type := 3, pos := "law.go:204", after := #[{ on := 15, ground := Ground.data }, { on := 7, ground := Ground.guard }], guard := some (7, true) }) (v := undef) rfl (by kernel_rfl) (by kernel_rfl) (by kernel_rfl) (by kernel_rfl) (fun _ _ _ h => h) (Or.inr ⟨by rfl, rfl⟩) ?_
                    try simp only [Act.put, List.setIfInBounds_toArray, List.set_cons_zero, List.set_cons_succ]
                    refine wpAnyW_take (i := 17) (oi := { dst := some 123, op := Op.binOp BinOp.geq 3 (Operand.tmp 118) (Operand.tmp 122) 3, type := 4, pos := "law.go:204", after := #[{ on := 12, ground := Ground.data }, { on := 16, ground := Ground.data }, { on := 7, ground := Ground.guard }], guard := some (7, true) }) (v := undef) rfl (by kernel_rfl) (by kernel_rfl) (by kernel_rfl) (by kernel_rfl) (fun _ _ _ h => h) (Or.inr ⟨by rfl, rfl⟩) ?_
                    try simp only [Act.put, List.setIfInBounds_toArray, List.set_cons_zero, List.set_cons_succ]
                    refine wpAnyW_take (i := 18) (oi := { dst := some 124, op := Op.pick (Operand.tmp 113) (Operand.tmp 123) (Operand.const (Value.bool false)), type := 4, pos := "law.go:204", after := #[{ on := 7, ground := Ground.data }, { on := 17, ground := Ground.data }, { on := 3, ground := Ground.guard }], guard := some (3, false) }) (v := ?_) rfl (by kernel_rfl) (by kernel_rfl) (by kernel_rfl) (by kernel_rfl) (fun _ _ _ h => h) (Or.inl ⟨by rfl, fun w _ => ?_⟩) ?_
                    rotate_left
                    · (go_simp; first | done | with_reducible rfl)
                    try simp only [Act.put, List.setIfInBounds_toArray, List.set_cons_zero, List.set_cons_succ]
                    refine wpAnyW_take (i := 19) (oi := { dst := some 125, op := Op.pick (Operand.tmp 109) (Operand.const (Value.bool true)) (Operand.tmp 124), type := 4, pos := "law.go:204", after := #[{ on := 3, ground := Ground.data }, { on := 18, ground := Ground.data }], guard := none }) (v := ?_) rfl (by kernel_rfl) (by kernel_rfl) (by kernel_rfl) (by kernel_rfl) (fun _ _ _ h => h) (Or.inl ⟨by rfl, fun w _ => ?_⟩) ?_
                    rotate_left
                    · (go_simp; first | done | with_reducible rfl)
                    try simp only [Act.put, List.setIfInBounds_toArray, List.set_cons_zero, List.set_cons_succ]
                    refine wpAnyW_done (by kernel_rfl) ?_ _
                    all_goals go_wp2
                    all_goals go_roundw
                    case rel => exact ⟨m + 2, by omega, by go_num, HB5.out.trans (HB6.out.trans (Bw.drew (Bw.refl _)))⟩
                    case measure => simp [intOf]; omega
              · obtain rfl : n = M.length := by omega
                have hlt2 : ¬ (M.length : Int) < (M.length : Int) := by omega
                go_wp2_with (first
                  | (go_at_call 8; refine (live_any _).mono ?_; rintro e w7 ⟨rfl, hb7⟩)
                  | fail)
                all_goals go_ret
                all_goals exact ⟨rfl, HB4.out.trans (HB5.out.trans hb7)⟩

set_option maxRecDepth 100000 in
theorem lifted (os : Os) (started : os.Started) (H : Type) (enc : TypeId × Value → H) :
    ReturnsInHanded {} Try.checked os 7 .any (Rows.profSortedSpec.pre6 enc Try.prog Try.f7 Rows.profSortedRow.domain false) (Rows.profSortedSpec.post enc Try.prog Try.f7 false true false false) := by
  refine returnsInHanded_of_change (C := Try.checked) ownK started (by kernel_rfl) Try.func7
    (ChangeSpec.witness6 (enc := enc) (C := Try.checked) false ⟨#[], #[.slice none 0 0, .int .i64 0], []⟩ 8 (by kernel_rfl) (by kernel_rfl) (by kernel_rfl) (by kernel_rfl)) ?_
  intro W base args ds gs before hval0 hW hcnd _
  have hval : ∀ (j : Nat) t v, Try.f7.params[j]? = some t → args[j]? = some v → Value.okWide Try.prog W .any base t v := hval0
  have hW' := hW
  obtain ⟨p, q, hA0, hV, rfl, hfz, hnd⟩ := hW
  have hA : DataW.TrodAll enc Try.prog W 0 (fun _ => true) true Try.f7.params.toList args.toList ds p := hA0
  rw [Try.params7] at hA hval
  obtain ⟨v0, vs0, d0, ds0, p0, q0, hargs, rfl, rfl, h0, r0⟩ := trodAll_cons hA
  obtain ⟨v1, vs1, d1, ds1, p1, q1, rfl, rfl, rfl, h1, r1⟩ := trodAll_cons r0
  obtain ⟨rfl, rfl, rfl⟩ := trodAll_nil r1
  obtain rfl : args = #[v0, v1] := by cases args; simp_all
  obtain ⟨rfl, rfl⟩ := trodVars_none hV
  have k0 := h0
  have lt0 : ∀ x ∈ p0, x.block < W.heap.size := by obtain ⟨m, hm⟩ := k0; exact DataW.trod_lt m _ _ _ hm
  have k1 := h1
  have lt1 : ∀ x ∈ p1, x.block < W.heap.size := by obtain ⟨m, hm⟩ := k1; exact DataW.trod_lt m _ _ _ hm
  obtain ⟨l0, w0⟩ := open_acts (hval 0 22 v0 rfl rfl) h0
  obtain ⟨a1, rfl, rfl, rfl, w10⟩ := open_int Try.underlying3 (hval 1 3 v1 rfl rfl) h1
  have w1 := bounds_i64 w10
  clear hA0 hval0
  refine (walk a1 w1 W v0 l0 w0).mono fun e W' ⟨he, bel⟩ => ?_
  subst he
  exact ⟨_, rfl, _, _, _, [], _, [], hW', trodAll_mk1 (shut_bool Try.underlying4 _), (trodAll_cons_mk (Below.trod laidOut (by kernel_rfl) (of_decide_eq_true (by kernel_rfl)) k0 bel lt0) (trodAll_cons_mk (Below.trod laidOut (by kernel_rfl) (of_decide_eq_true (by kernel_rfl)) k1 bel lt1) trodAll_mk0)), rfl, Below.frame bel _, fun h => by cases h⟩

theorem over : Rows.profSortedRow.holds Try.pinned (OpenSpec.ofChange Rows.profSortedSpec) :=
  OpenClaim.holds_of_wide 7 Try.f7 rfl rfl rfl rfl rfl rfl rfl ⟨rfl, rfl, rfl, rfl, rfl⟩ rfl rfl rfl rfl rfl (by kernel_rfl) Try.func7 (by kernel_rfl)
    (of_decide_eq_true (by kernel_rfl)) (by unfold Func.isWrapper; first | (rw [if_pos (by decide +kernel)]; kernel_rfl) | (rw [if_neg (by decide +kernel)]; exact ⟨rfl, rfl⟩))
    (fun os started H enc _ => lifted os started H enc)

theorem proved : Rows.ProfSortedSaid := over
end Go.Proofs.Ytfkcbioefdkabaa.profSorted
namespace Go.Proofs.Ytfkcbioefdkabaa
theorem profSorted_holds : Rows.ProfSortedSaid := profSorted.proved
#print axioms profSorted_holds
end Go.Proofs.Ytfkcbioefdkabaa
