/- The reader: a number: contract. -/
import Derived.Test.YtfhnhbpmiodomaaDoorQa
set_option linter.unusedSimpArgs false
set_option linter.unusedVariables false
namespace Go.Proofs.YtfhnhbpmiodomaaDoor
open Go Go.RowKit

theorem u8_and127 (c : Int) (h0 : 0 ≤ c) (h1 : c ≤ 255) : bits .and .u8 c 127 = c % 128 := by
  rw [u8_and c 127 h0 (by omega) (by decide) (by decide)]
  rw [show (127 : Int).toNat = 2 ^ 7 - 1 from rfl, Nat.and_two_pow_sub_one_eq_mod]
  omega

theorem pow128 (i : Nat) : (2 : Int) ^ (7 * (i : Int)).toNat = 128 ^ i := by
  rw [show (7 * (i : Int)).toNat = 7 * i by omega, Int.pow_mul]
  rfl

theorem pow128_le {i : Nat} (h : i ≤ 8) : (1 : Int) ≤ 128 ^ i ∧ (128 : Int) ^ i ≤ 72057594037927936 := by
  have : ∀ j : Fin 9, (1 : Int) ≤ 128 ^ j.val ∧ (128 : Int) ^ j.val ≤ 72057594037927936 := by decide
  exact this ⟨i, by omega⟩

theorem nM_some {b : List Int} {p j : Nat} {n : Int} (h : rd (b.drop p) 0 = (j, some n)) : nM b (p, 0) = (n, (p + j, 0)) := by
  unfold nM
  simp only [if_true]
  rw [h]
theorem nM_none {b : List Int} {p j : Nat} (h : rd (b.drop p) 0 = (j, none)) : nM b (p, 0) = (0, (p + j, 6)) := by
  unfold nM
  simp only [if_true]
  rw [h]

/-- One byte more. -/
theorem shl_step {c : Int} {i : Nat} (hc : 0 ≤ c ∧ c ≤ 255) (hi : i ≤ 8) : IntKind.i64.wrap (c % 128 * 2 ^ (7 * (i : Int)).toNat) = c % 128 * 128 ^ i ∧ 0 ≤ c % 128 * 128 ^ i ∧ c % 128 * 128 ^ i ≤ 127 * 128 ^ i ∧ c % 128 * 128 ^ i + 128 ^ i ≤ 9223372036854775807 + 1 := by
  have hp := pow128_le hi
  rw [pow128]
  generalize (128 : Int) ^ i = P at *
  have h1 : 0 ≤ c % 128 * P := Int.mul_nonneg (by omega) (by omega)
  have h2 : c % 128 * P ≤ 127 * P := Int.mul_le_mul_of_nonneg_right (by omega) (by omega)
  refine ⟨?_, h1, h2, by omega⟩
  rw [IntKind.wrap_i64]; omega

section
variable {base r : Nat} {w w' : World} {vb : Value} {b : List Int} {s : St}

set_option maxRecDepth 100000 in
set_option maxHeartbeats 8000000 in
theorem qnumber_any (h : RB base w r vb b s) :
    Calls Tryd.prog 52 #[.pointer (some ⟨r, 0, none⟩)] w fun e w' => e = .returned (.int .i64 (nM b s).1) ∧ RB base w' r vb b (nM b s).2 ∧ Kp r w w' := by
  have HR := hid h
  obtain ⟨p, f⟩ := s
  by_cases h0 : f = 0
  · subst h0
    have HLN := hid h.len
    have hbb := hid h.bytes
    clear h
    go_enter Tryd.func52, Tryd.ntmps52
    go_wp2
    go_loopw [3, 6] (fun acc j wr => ∃ (i : Nat) (a : Int), i ≤ 8 ∧ j = .int .i64 (i : Nat) ∧ acc = .int .i64 a ∧ (0 ≤ a ∧ a < 128 ^ i) ∧ RB base wr r vb b (p + i, 0) ∧ Kp r w wr ∧ rd (b.drop p) 0 = ((rd (b.drop (p + i)) i).1, (rd (b.drop (p + i)) i).2.map (a + ·))) (fun _ j _ => 9 - (intOf j).toNat)
    case atStart => exact ⟨0, 0, by omega, rfl, rfl, by simp, HR.out, Kp.refl _ _, by simp⟩
    case round =>
      obtain ⟨i, a, hi, rfl, rfl, ha, hr, hk, he⟩ := hrel
      have HR2 := hid hr
      have HK2 := hid hk
      have HE := hid he
      have HA := hid ha
      clear hr hk he ha
      have hi9 : (i : Int) < 9 := by omega
      by_cases hlt : p + i < b.length
      · have hr0 : b.drop (p + i) = b[p + i] :: b.drop (p + i + 1) := List.drop_eq_getElem_cons hlt
        have hcb := hbb.out _ (List.getElem_mem hlt)
        have HX := hid (show xM b (p + i, 0) = (b[p + i], (p + i + 1, 0)) by simp [xM, hlt])
        have HLL := hid hlt
        generalize b[p + i] = c at hr0 hcb HX
        by_cases hbad : (0 < i ∧ c = 0) ∨ (i = 8 ∧ 63 < c)
        · have HN := hid (show nM b (p, 0) = (0, (p + i, 6)) by
            refine nM_none ?_
            rw [HE.out, hr0]
            simp only [rd]
            rw [if_pos hbad]
            rfl)
          clear hr0
          rcases hbad with ⟨hb1, hb2⟩ | ⟨hb1, hb2⟩
          · subst hb2
            have hi1 : (0 : Int) < (i : Int) := by omega
            have hat : (p : Int) + i + 1 - 1 = (p : Int) + i := by omega
            have hpb : (p : Int) + i ≤ 9000000 := by have := HLN.out; omega
            have HF := hid (show failS (p + i + 1, 0) 6 (p + i) = (p + i, 6) by simp [failS])
            go_wp2_with (first
              | (go_at_call 68; refine (qnext_any HR2.out).mono ?_; rintro e w1 ⟨rfl, hr1, hk1⟩; rw [HX.out] at hr1 ⊢; have HR1 := hid hr1; have HK1 := hid (HK2.out.trans hk1); have y := hr1.k.cell; have yl := hr1.k.lt; simp only at y; clear hr1 hk1)
              | (go_at_call 56; refine (qfail_any 6 (p + i) HR1.out (by decide) (fun _ => by have := HLL.out; omega)).mono ?_; rintro e w3 ⟨⟨_, rfl⟩, hr3, hk3⟩; rw [HF.out] at hr3; have HR3 := hid hr3; have HK3 := hid (HK1.out.trans hk3); have y3 := hr3.k.cell; have yl3 := hr3.k.lt; simp only at y3; clear hr3 hk3)
              | fail)
            all_goals go_ret
            all_goals rw [HN.out]
            all_goals exact ⟨rfl, HR3.out, HK3.out⟩
          · subst hb1
            have hc0 : (c == 0) = false := by simp; omega
            have hat : (p : Int) + 8 + 1 - 1 = (p : Int) + 8 := by omega
            have hpb : (p : Int) + 8 ≤ 9000000 := by have := HLN.out; omega
            have HF := hid (show failS (p + 8 + 1, 0) 6 (p + 8) = (p + 8, 6) by simp [failS])
            go_wp2_with (first
              | (go_at_call 68; refine (qnext_any HR2.out).mono ?_; rintro e w1 ⟨rfl, hr1, hk1⟩; rw [HX.out] at hr1 ⊢; have HR1 := hid hr1; have HK1 := hid (HK2.out.trans hk1); have y := hr1.k.cell; have yl := hr1.k.lt; simp only at y; clear hr1 hk1)
              | (go_at_call 56; refine (qfail_any 6 (p + 8) HR1.out (by decide) (fun _ => by have := HLL.out; omega)).mono ?_; rintro e w3 ⟨⟨_, rfl⟩, hr3, hk3⟩; rw [HF.out] at hr3; have HR3 := hid hr3; have HK3 := hid (HK1.out.trans hk3); have y3 := hr3.k.cell; have yl3 := hr3.k.lt; simp only at y3; clear hr3 hk3)
              | fail)
            all_goals go_ret
            all_goals rw [HN.out]
            all_goals exact ⟨rfl, HR3.out, HK3.out⟩
        · have HR0 := hid hr0
          have HBAD := hid hbad
          have ha127 := u8_and127 c hcb.1 hcb.2
          have hsh := shl_step hcb hi
          have h70 : (0 : Int) ≤ 7 * (i : Int) ∧ 7 * (i : Int) ≤ 64 := by omega
          obtain ⟨d, hd⟩ : ∃ d, c % 128 * 128 ^ i = d := ⟨_, rfl⟩
          rw [hd] at hsh
          have hs1 := hsh.1
          have hbd : -9223372036854775808 ≤ a + d ∧ a + d ≤ 9223372036854775807 := by have := HA.out; have := hsh.2; omega
          have HD := hid hd
          have HS2 := hid hsh.2
          clear hsh hd hr0
          by_cases h128 : c < 128
          · have HN := hid (show nM b (p, 0) = (a + d, (p + i + 1, 0)) by
              rw [Nat.add_assoc]
              refine nM_some ?_
              rw [HE.out, HR0.out]
              simp only [rd]
              rw [if_neg HBAD.out, if_pos h128]
              have := HD.out
              rw [Int.emod_eq_of_lt hcb.1 h128] at this
              simp [this])
            by_cases hi0 : i = 0
            · have hi1 : ¬ (0 : Int) < (i : Int) := by omega
              have hi1b : ¬ 0 < i := by omega
              have hi8b : ((i : Int) == 8) = false := by simp; omega
              clear hbad hi0
              go_wp2_with (first
                | (go_at_call 68; refine (qnext_any HR2.out).mono ?_; rintro e w1 ⟨rfl, hr1, hk1⟩; rw [HX.out] at hr1 ⊢; have HR1 := hid hr1; have HK1 := hid (HK2.out.trans hk1); have y := hr1.k.cell; have yl := hr1.k.lt; simp only at y; clear hr1 hk1)
                | fail)
              all_goals go_ret
              all_goals rw [HN.out]
              all_goals exact ⟨rfl, HR1.out, HK1.out⟩
            · have hi1 : (0 : Int) < (i : Int) := by omega
              have hc0 : (c == 0) = false := by simp; omega
              clear hbad
              by_cases hi8 : i = 8
              · have hi8b : ((i : Int) == 8) = true := by simp; omega
                have hc63 : decide (63 < c) = false := decide_eq_false (by have := HBAD.out; omega)
                clear hi8
                go_wp2_with (first
                  | (go_at_call 68; refine (qnext_any HR2.out).mono ?_; rintro e w1 ⟨rfl, hr1, hk1⟩; rw [HX.out] at hr1 ⊢; have HR1 := hid hr1; have HK1 := hid (HK2.out.trans hk1); have y := hr1.k.cell; have yl := hr1.k.lt; simp only at y; clear hr1 hk1)
                  | fail)
                all_goals go_ret
                all_goals rw [HN.out]
                all_goals exact ⟨rfl, HR1.out, HK1.out⟩
              · have hi8b : ((i : Int) == 8) = false := by simp; omega
                clear hi8
                go_wp2_with (first
                  | (go_at_call 68; refine (qnext_any HR2.out).mono ?_; rintro e w1 ⟨rfl, hr1, hk1⟩; rw [HX.out] at hr1 ⊢; have HR1 := hid hr1; have HK1 := hid (HK2.out.trans hk1); have y := hr1.k.cell; have yl := hr1.k.lt; simp only at y; clear hr1 hk1)
                  | fail)
                all_goals go_ret
                all_goals rw [HN.out]
                all_goals exact ⟨rfl, HR1.out, HK1.out⟩
          · have hlt8 : i < 8 := by
              rcases Nat.lt_or_ge i 8 with h | h
              · exact h
              · exact absurd (.inr ⟨by omega, by omega⟩) hbad
            have HPW := hid (show d + 128 ^ i ≤ 128 ^ (i + 1) by
              have h1 := HD.out
              have h2 := HS2.out.2.1
              rw [Int.pow_succ]
              omega)
            have HE2 := hid (show rd (b.drop p) 0 = ((rd (b.drop (p + (i + 1))) (i + 1)).1, (rd (b.drop (p + (i + 1))) (i + 1)).2.map ((a + d) + ·)) by
              rw [HE.out, HR0.out, ← Nat.add_assoc]
              simp only [rd]
              rw [if_neg HBAD.out, if_neg h128]
              have e : (c - 128) * 128 ^ i = d := by rw [← HD.out]; congr 1; omega
              rw [e]
              cases rd (b.drop (p + i + 1)) (i + 1) with
              | mk j o => cases o <;> simp [Int.add_assoc])
            by_cases hi0 : i = 0
            · have hi1 : ¬ (0 : Int) < (i : Int) := by omega
              have hi1b : ¬ 0 < i := by omega
              have hi8b : ((i : Int) == 8) = false := by simp; omega
              clear hbad hi0
              go_wp2_with (first
                | (go_at_call 68; refine (qnext_any HR2.out).mono ?_; rintro e w1 ⟨rfl, hr1, hk1⟩; rw [HX.out] at hr1 ⊢; have HR1 := hid hr1; have HK1 := hid (HK2.out.trans hk1); have y := hr1.k.cell; have yl := hr1.k.lt; simp only at y; clear hr1 hk1)
                | fail)
              go_roundw
              case rel => exact ⟨i + 1, a + d, by omega, by go_num, rfl, by have := HA.out; have := HS2.out; have := HPW.out; omega, by simpa [Nat.add_assoc] using HR1.out, HK1.out, HE2.out⟩
              case measure => simp [intOf]; omega
            · have hi1 : (0 : Int) < (i : Int) := by omega
              have hc0 : (c == 0) = false := by simp; omega
              clear hbad
              have hi8b : ((i : Int) == 8) = false := by simp; omega
              go_wp2_with (first
                | (go_at_call 68; refine (qnext_any HR2.out).mono ?_; rintro e w1 ⟨rfl, hr1, hk1⟩; rw [HX.out] at hr1 ⊢; have HR1 := hid hr1; have HK1 := hid (HK2.out.trans hk1); have y := hr1.k.cell; have yl := hr1.k.lt; simp only at y; clear hr1 hk1)
                | fail)
              go_roundw
              case rel => exact ⟨i + 1, a + d, by omega, by go_num, rfl, by have := HA.out; have := HS2.out; have := HPW.out; omega, by simpa [Nat.add_assoc] using HR1.out, HK1.out, HE2.out⟩
              case measure => simp [intOf]; omega
      · have hpe : p + i = b.length := by have := HR2.out.at_; simp only at this; omega
        have HX := hid (show xM b (p + i, 0) = (0, (p + i, 6)) by simp [xM, hpe])
        have HN := hid (show nM b (p, 0) = (0, (p + i, 6)) by
          refine nM_none ?_
          rw [HE.out, List.drop_eq_nil_of_le (by omega)]
          rfl)
        have HLL := hid (show p + i ≤ b.length by omega)
        have hpb : (p : Int) + i ≤ 9000000 := by have := HLN.out; omega
        clear hlt hpe
        by_cases hi0 : i = 0
        · subst hi0
          go_wp2_with (first
            | (go_at_call 68; refine (qnext_any HR2.out).mono ?_; rintro e w1 ⟨rfl, hr1, hk1⟩; rw [HX.out] at hr1 ⊢; have HR1 := hid hr1; have HK1 := hid (HK2.out.trans hk1); have y := hr1.k.cell; have yl := hr1.k.lt; simp only at y; clear hr1 hk1)
            | fail)
          all_goals go_ret
          all_goals rw [HN.out]
          all_goals exact ⟨rfl, HR1.out, HK1.out⟩
        · have hi1 : (0 : Int) < (i : Int) := by omega
          have hat : (p : Int) + i - 1 = ((p + i - 1 : Nat) : Int) := by omega
          have hsub : -9223372036854775808 ≤ (p : Int) + i - 1 ∧ (p : Int) + i - 1 ≤ 9223372036854775807 := by omega
          have HF := hid (show failS (p + i, 6) 6 (p + i - 1) = (p + i, 6) by simp [failS])
          go_wp2_with (first
            | (go_at_call 68; refine (qnext_any HR2.out).mono ?_; rintro e w1 ⟨rfl, hr1, hk1⟩; rw [HX.out] at hr1 ⊢; have HR1 := hid hr1; have HK1 := hid (HK2.out.trans hk1); have y := hr1.k.cell; have yl := hr1.k.lt; simp only at y; clear hr1 hk1)
            | (go_at_call 56; refine (qfail_any 6 (p + i - 1) HR1.out (by decide) (fun _ => by have := HLL.out; omega)).mono ?_; rintro e w3 ⟨⟨_, rfl⟩, hr3, hk3⟩; rw [HF.out] at hr3; have HR3 := hid hr3; have HK3 := hid (HK1.out.trans hk3); have y3 := hr3.k.cell; have yl3 := hr3.k.lt; simp only at y3; clear hr3 hk3)
            | fail)
          all_goals go_ret
          all_goals rw [HN.out]
          all_goals exact ⟨rfl, HR3.out, HK3.out⟩
  · have HX := hid (show xM b (p, f) = (0, (p, f)) by simp [xM, h0])
    have HN := hid (show nM b (p, f) = (0, (p, f)) by simp [nM, h0])
    have t2 : ((f : Int) != 0) = true := by simp [h0]
    rw [HN.out]
    clear h
    go_enter Tryd.func52, Tryd.ntmps52
    go_wp2
    go_loopw [3, 6] (fun acc j wr => j = .int .i64 0 ∧ acc = .int .i64 0 ∧ wr = w) (fun _ j _ => 9 - (intOf j).toNat)
    case atStart => exact ⟨rfl, rfl, rfl⟩
    case round =>
      obtain ⟨rfl, rfl, hw⟩ := hrel
      subst wr
      go_wp2_with (first
        | (go_at_call 68; refine (qnext_any HR.out).mono ?_; rintro e w1 ⟨rfl, hr1, hk1⟩; rw [HX.out] at hr1 ⊢; have HR1 := hid hr1; have HK1 := hid hk1; have y := hr1.k.cell; have yl := hr1.k.lt; simp only at y; clear hr1 hk1)
        | fail)
      all_goals go_ret
      all_goals exact ⟨rfl, HR1.out, HK1.out⟩

end

end Go.Proofs.YtfhnhbpmiodomaaDoor
