/- verify.Check of any image: the contract. -/
import Derived.Test.YtcljlmjcjfmppaaDoorGc
import Derived.Test.YtcljlmjcjfmppaaDoorVr
set_option linter.unusedSimpArgs false
set_option linter.unusedVariables false
namespace Go.Proofs.YtcljlmjcjfmppaaDoor
open Go Go.RowKit

def CkA (w : World) (m : AIm) (N : Nat) (e : Ending) (w' : World) : Prop := Bw w w' ∧ ∃ a b c, e = .returned (.tuple #[.int .i64 a, .int .i64 b, .int .i64 c]) ∧ ((AllOk m N ∧ c = 0) ∨ (¬ AllOk m N ∧ c ≠ 0))

section
variable {w w' : World}

set_option maxRecDepth 100000 in
set_option maxHeartbeats 2000000 in
theorem check_any (m : AIm) (G : Nat → Prop) (vf vs vk : Value) (N : Nat) (ho : Og w) (hm : RIm w G vf vs vk m) (hl : m.strs.length ≤ 1000000) (hk1 : m.keys.length ≤ 1000000) (hy : ∀ l ∈ m.keys, l.length ≤ 1000000) (hN : 65536 < N) :
    Calls Tryd.prog 6 #[imV vf vs vk m] w (CkA w m N) := by
  obtain ⟨af, kf, az, ks, ak, kk, e1, e2, e3⟩ := hm.forms
  subst e1 e2 e3
  unfold imV
  have HIF := hid (fun (w1 : World) (hb : Bw w w1) => image_any af az ak kf ks kk m G (RIm.bw hm hb) hl hk1 hy)
  have HM := hid hm
  obtain ⟨⟨ms, em, hf⟩, _, _, _⟩ := hm
  have hlm : ms.length = m.funs.length := by rw [← em, List.length_map]
  have ln : m.funs.length ≤ 9223372036854775807 := by have := hf.2.2.1; unfold maxLen at this; omega
  have HFS := hid hf
  have HEM := hid em
  have HLM := hid hlm
  have HOG := hid ho
  have HY := hid hy
  have HN := hid hN
  obtain ⟨W1, hW1⟩ : ∃ W1, (w.alloc (.cells #[.slice af m.funs.length kf, .slice az m.strs.length ks, .slice ak m.keys.length kk, .int .i64 m.globals] 26)) = W1 := ⟨_, rfl⟩
  have HWE := hid hW1
  have HW1 := hid (show Bw w W1 from by rw [← hW1]; exact Bw.alloc (Bw.refl w) _)
  have HPI := hid (show Blk W1 w.heap.size #[.slice af m.funs.length kf, .slice az m.strs.length ks, .slice ak m.keys.length kk, .int .i64 m.globals] 26 from by rw [← hW1]; exact Blk.new w _ 26)
  clear hf em hlm ho hy hN hW1 hl hk1
  obtain ⟨q0, hq0⟩ : ∃ q, imF m = q := ⟨_, rfl⟩
  have HQ0 := hid hq0
  clear hq0
  by_cases hz0 : q0 = 0
  rotate_left
  · have bq0 : (q0 != 0) = true := by simp [hz0]
    have HNO := hid (show ¬ AllOk m N from fun h => hz0 (by rw [← HQ0.out]; exact h.im))
    have HZ := hid hz0
    clear hz0
    go_enter Tryd.func6, Tryd.ntmps6
    go_wp2_with (first
      | (go_at_call 10; refine (HIF.out _ (by repeat (first | exact Bw.refl _ | apply Bw.alloc | apply Bw.drewN | apply Bw.drew))).mono ?_; rw [HQ0.out]; rintro e w1 ⟨rfl, hb1⟩; have HB := hid (show Bw W1 w1 from by rw [← HWE.out]; exact hb1); clear hb1)
      | fail)
    all_goals go_ret3
    all_goals exact ⟨HW1.out.trans HB.out, _, _, _, rfl, .inr ⟨HNO.out, HZ.out⟩⟩
  have bq0 : (q0 != 0) = false := by simp [hz0]
  have HIM := hid (show imF m = 0 by rw [HQ0.out, hz0])
  clear hz0
  go_enter Tryd.func6, Tryd.ntmps6
  go_wp2_with (first
    | (go_at_call 10; refine (HIF.out _ (by repeat (first | exact Bw.refl _ | apply Bw.alloc | apply Bw.drewN | apply Bw.drew))).mono ?_; rw [HQ0.out]; rintro e w1 ⟨rfl, hb1⟩; have HB := hid (show Bw W1 w1 from by rw [← HWE.out]; exact hb1); have u := (HPI.out.bw HB.out).cell; have ul := (HPI.out.bw HB.out).lt; clear hb1)
    | fail)
  go_loopw [24] (fun j wr => ∃ i, i ≤ m.funs.length ∧ j = .int .i64 (i : Nat) ∧ (∀ q (h : q < m.funs.length), q < i → frF m.funs[q] (q == 0) = 0) ∧ Bw W1 wr) (fun j _ => m.funs.length - (intOf j).toNat)
  case atStart => exact ⟨0, Nat.zero_le _, rfl, fun q _ h => by omega, HB.out⟩
  case round =>
    obtain ⟨i, hi, rfl, hfa, hbw⟩ := hrel
    have HFA := hid hfa
    clear hfa
    clear HB u ul
    have HB := hid hbw
    have u := (HPI.out.bw hbw).cell
    have ul := (HPI.out.bw hbw).lt
    clear hbw
    by_cases hlt : i < m.funs.length
    · have hlt2 : (i : Int) < (m.funs.length : Int) := by omega
      have HLT := hid hlt
      obtain ⟨rr, hrr⟩ : ∃ rr, frF m.funs[i] (i == 0) = rr := ⟨_, rfl⟩
      have HRR := hid hrr
      by_cases h0 : rr = 0
      · have hb0 : (rr != 0) = false := by simp [h0]
        have HNX := hid (show ∀ q (h : q < m.funs.length), q < i + 1 → frF m.funs[q] (q == 0) = 0 from fun q h hq => by
          by_cases hqi : q < i
          · exact HFA.out q h hqi
          · obtain rfl : q = i := by omega
            exact hrr.trans h0)
        clear h0 hrr
        go_wp2_with (first
          | (go_at_call 11; refine (frameFault_any m G _ _ _ i (HM.out.bw (HW1.out.trans (HB.out.trans (by repeat (first | exact Bw.refl _ | apply Bw.alloc | apply Bw.drewN | apply Bw.drew))))) HLT.out).mono ?_; intro e w1 hh; obtain ⟨rfl, hb1⟩ : e = .returned (.int .i64 rr) ∧ Bw _ w1 := ⟨hh.1.trans (congrArg (fun z => Ending.returned (.int .i64 z)) HRR.out), hh.2⟩; clear hh; replace HB := hid (HB.out.trans (Bw.trans (by repeat (first | exact Bw.refl _ | apply Bw.alloc | apply Bw.drewN | apply Bw.drew)) hb1)); clear hb1)
          | fail)
        go_roundw
        case rel => exact ⟨i + 1, by omega, by go_num, HNX.out, HB.out⟩
        case measure => simp [intOf]; omega
      · have hb0 : (rr != 0) = true := by simp [h0]
        have HNO := hid (show ¬ AllOk m N from fun h => h0 (hrr.symm.trans (h.fr i hlt)))
        have HZ := hid h0
        clear h0 hrr
        go_wp2_with (first
          | (go_at_call 11; refine (frameFault_any m G _ _ _ i (HM.out.bw (HW1.out.trans (HB.out.trans (by repeat (first | exact Bw.refl _ | apply Bw.alloc | apply Bw.drewN | apply Bw.drew))))) HLT.out).mono ?_; intro e w1 hh; obtain ⟨rfl, hb1⟩ : e = .returned (.int .i64 rr) ∧ Bw _ w1 := ⟨hh.1.trans (congrArg (fun z => Ending.returned (.int .i64 z)) HRR.out), hh.2⟩; clear hh; replace HB := hid (HB.out.trans (Bw.trans (by repeat (first | exact Bw.refl _ | apply Bw.alloc | apply Bw.drewN | apply Bw.drew)) hb1)); clear hb1)
          | fail)
        all_goals go_ret3
        all_goals exact ⟨HW1.out.trans HB.out, _, _, _, rfl, .inr ⟨HNO.out, HZ.out⟩⟩
    · obtain rfl : i = m.funs.length := by omega
      have HFR := hid (show ∀ q (h : q < m.funs.length), frF m.funs[q] (q == 0) = 0 from fun q h => HFA.out q h h)
      have HN1 := hid (show ∀ f ∈ m.funs, 1 ≤ f.code.length from fun f hf => by obtain ⟨q, hq, rfl⟩ := List.getElem_of_mem hf; exact (frF_len (HFR.out q hq)).1)
      have HN2 := hid (show ∀ f ∈ m.funs, f.code.length ≤ 65536 from fun f hf => by obtain ⟨q, hq, rfl⟩ := List.getElem_of_mem hf; exact (frF_len (HFR.out q hq)).2)
      clear hlt hi HFA
      go_wp2
      go_loopw [38] (fun j wr => ∃ i, i ≤ m.funs.length ∧ j = .int .i64 (i : Nat) ∧ (∀ q (h : q < m.funs.length), q < i → CdOk m m.funs[q]) ∧ Bw W1 wr) (fun j _ => m.funs.length - (intOf j).toNat)
      case atStart => exact ⟨0, Nat.zero_le _, rfl, fun q _ h => by omega, HB.out⟩
      case round =>
        obtain ⟨i, hi, rfl, hca, hbw⟩ := hrel
        have HCA := hid hca
        clear hca
        clear HB u ul
        have HB := hid hbw
        have u := (HPI.out.bw hbw).cell
        have ul := (HPI.out.bw hbw).lt
        by_cases hlt : i < m.funs.length
        · have hlt2 : (i : Int) < (m.funs.length : Int) := by omega
          have him : i < ms.length := by rw [HLM.out]; exact hlt
          obtain ⟨gf, of, df, ef, _, hgf, _, z⟩ := (RFs.bw HFS.out (HW1.out.trans hbw)).parts him (by decide)
          have hX := HFS.out.2.1 _ (List.getElem_mem him)
          have hfe : m.funs[i] = ms[i].f := by simp only [← HEM.out, List.getElem_map]
          have HCN := hid (show CdOk m ms[i].f → ∀ q (h : q < m.funs.length), q < i + 1 → CdOk m m.funs[q] from fun hc q h hq => by
            by_cases hqi : q < i
            · exact HCA.out q h hqi
            · obtain rfl : q = i := by omega
              rw [hfe]; exact hc)
          have HCF := hid (show ¬ CdOk m ms[i].f → ¬ AllOk m N from fun hc h => hc (by rw [← hfe]; exact h.cd _ (List.getElem_mem hlt)))
          have HNX := hid (show ms[i].f.code.length ≤ 65536 from by rw [← hfe]; exact HN2.out _ (List.getElem_mem hlt))
          rw [HLM.out] at ef
          cases ef
          have z0 := z 0 (by decide)
          have z1 := z 1 (by decide)
          have z2 := z 2 (by decide)
          have z3 := z 3 (by decide)
          have z4 := z 4 (by decide)
          have z5 := z 5 (by decide)
          simp only [Nat.add_zero, ← Nat.add_assoc, fnC, List.getElem?_cons_zero, List.getElem?_cons_succ] at z0 z1 z2 z3 z4 z5
          clear z hfe hbw
          generalize ms[i] = x at z0 z1 z2 z3 z4 z5 hX HCN HCF HNX
          obtain ⟨f, xb, xc, xo, xt⟩ := x
          obtain ⟨a1, c1, e1⟩ := hX.b.form
          obtain ⟨a2, c2, e2⟩ := hX.c.form
          obtain ⟨a3, c3, e3⟩ := hX.o.form
          obtain ⟨a4, c4, e4⟩ := hX.t.form
          simp only at e1 e2 e3 e4 z0 z1 z2 z3 z4 z5 HCN HCF HNX
          subst e1 e2 e3 e4
          have HX := hid hX
          clear hX him
          by_cases hcd : CdOk m f
          · have HNC := hid (HCN.out hcd)
            have HCX := hid hcd
            clear hcd
            go_wp2_with (first
              | (go_at_call 12; refine (codeFault_any m G _ _ _ ⟨f, .slice a1 f.boxes.length c1, .slice a2 f.caps.length c2, .slice a3 f.code.length c3, .slice a4 f.tries.length c4⟩ (HOG.out.bw (HW1.out.trans (HB.out.trans (by repeat (first | exact Bw.refl _ | apply Bw.alloc | apply Bw.drewN | apply Bw.drew))))) (HM.out.bw (HW1.out.trans (HB.out.trans (by repeat (first | exact Bw.refl _ | apply Bw.alloc | apply Bw.drewN | apply Bw.drew))))) (HX.out.bw (HW1.out.trans (HB.out.trans (by repeat (first | exact Bw.refl _ | apply Bw.alloc | apply Bw.drewN | apply Bw.drew))))) HNX.out).mono ?_; rintro e w1 ⟨ra, re, rfl, hc, hb1⟩; obtain ⟨rfl, rfl⟩ : ra = 0 ∧ re = 0 := (hc.elim (fun h => h.2) (fun h => absurd HCX.out h.1)); clear hc; replace HB := hid (HB.out.trans (Bw.trans (by repeat (first | exact Bw.refl _ | apply Bw.alloc | apply Bw.drewN | apply Bw.drew)) hb1)); clear hb1)
              | fail)
            go_roundw
            case rel => exact ⟨i + 1, by omega, by go_num, HNC.out, HB.out⟩
            case measure => simp [intOf]; omega
          · have HNO := hid (HCF.out hcd)
            have HCX := hid hcd
            clear hcd
            go_wp2_with (first
              | (go_at_call 12; refine (codeFault_any m G _ _ _ ⟨f, .slice a1 f.boxes.length c1, .slice a2 f.caps.length c2, .slice a3 f.code.length c3, .slice a4 f.tries.length c4⟩ (HOG.out.bw (HW1.out.trans (HB.out.trans (by repeat (first | exact Bw.refl _ | apply Bw.alloc | apply Bw.drewN | apply Bw.drew))))) (HM.out.bw (HW1.out.trans (HB.out.trans (by repeat (first | exact Bw.refl _ | apply Bw.alloc | apply Bw.drewN | apply Bw.drew))))) (HX.out.bw (HW1.out.trans (HB.out.trans (by repeat (first | exact Bw.refl _ | apply Bw.alloc | apply Bw.drewN | apply Bw.drew))))) HNX.out).mono ?_; rintro e w1 ⟨ra, re, rfl, hc, hb1⟩; have hre : (re != 0) = true := (hc.elim (fun h => absurd h.1 HCX.out) (fun h => by simpa using h.2)); have HZ := hid (show re ≠ 0 by simpa using hre); clear hc; replace HB := hid (HB.out.trans (Bw.trans (by repeat (first | exact Bw.refl _ | apply Bw.alloc | apply Bw.drewN | apply Bw.drew)) hb1)); clear hb1)
              | fail)
            all_goals go_ret3
            all_goals exact ⟨HW1.out.trans HB.out, _, _, _, rfl, .inr ⟨HNO.out, HZ.out⟩⟩
        · obtain rfl : i = m.funs.length := by omega
          have HCD := hid (show ∀ f ∈ m.funs, CdOk m f from fun f hf => by obtain ⟨q, hq, rfl⟩ := List.getElem_of_mem hf; exact HCA.out q hq hq)
          clear hlt hi hbw HCA
          go_wp2
          go_loopw [58] (fun j wr => ∃ i, i ≤ m.funs.length ∧ j = .int .i64 (i : Nat) ∧ (∀ q (h : q < m.funs.length), q < i → (flow m m.funs[q] N 0 (flow0 m.funs[q])).f = -1) ∧ Bw W1 wr) (fun j _ => m.funs.length - (intOf j).toNat)
          case atStart => exact ⟨0, Nat.zero_le _, rfl, fun q _ h => by omega, HB.out⟩
          case round =>
            obtain ⟨i, hi, rfl, hal, hbw⟩ := hrel
            clear HB u ul
            have HB := hid hbw
            have HAL := hid hal
            have u := (HPI.out.bw hbw).cell
            have ul := (HPI.out.bw hbw).lt
            clear hal
            by_cases hlt : i < m.funs.length
            · have hlt2 : (i : Int) < (m.funs.length : Int) := by omega
              have HLT := hid hlt
              have him : i < ms.length := by rw [HLM.out]; exact hlt
              obtain ⟨gf, of, df, ef, _, hgf, _, z⟩ := (RFs.bw HFS.out (HW1.out.trans hbw)).parts him (by decide)
              have hX := HFS.out.2.1 _ (List.getElem_mem him)
              have hfe : m.funs[i] = ms[i].f := by simp only [← HEM.out, List.getElem_map]
              have HCX := hid (show CdOk m ms[i].f from by rw [← hfe]; exact HCD.out _ (List.getElem_mem hlt))
              have HNX := hid (show ms[i].f.code.length ≤ 65536 from by rw [← hfe]; exact HN2.out _ (List.getElem_mem hlt))
              have HOX := hid (show 1 ≤ ms[i].f.code.length from by rw [← hfe]; exact HN1.out _ (List.getElem_mem hlt))
              have HNN := hid (show ms[i].f.code.length < N from by rw [← hfe]; have := HN2.out _ (List.getElem_mem hlt); have := HN.out; omega)
              obtain ⟨S, hS⟩ : ∃ S, flow m ms[i].f N 0 (flow0 ms[i].f) = S := ⟨_, rfl⟩
              have HFX := hid hS
              have HFI := hid (show flow m m.funs[i] N 0 (flow0 m.funs[i]) = S from by rw [hfe]; exact hS)
              rw [HLM.out] at ef
              cases ef
              have z0 := z 0 (by decide)
              have z1 := z 1 (by decide)
              have z2 := z 2 (by decide)
              have z3 := z 3 (by decide)
              have z4 := z 4 (by decide)
              have z5 := z 5 (by decide)
              simp only [Nat.add_zero, ← Nat.add_assoc, fnC, List.getElem?_cons_zero, List.getElem?_cons_succ] at z0 z1 z2 z3 z4 z5
              clear z hfe hbw hS
              generalize ms[i] = x at z0 z1 z2 z3 z4 z5 hX HCX HNX HOX HNN HFX
              obtain ⟨f, xb, xc, xo, xt⟩ := x
              obtain ⟨a1, c1, e1⟩ := hX.b.form
              obtain ⟨a2, c2, e2⟩ := hX.c.form
              obtain ⟨a3, c3, e3⟩ := hX.o.form
              obtain ⟨a4, c4, e4⟩ := hX.t.form
              simp only at e1 e2 e3 e4 z0 z1 z2 z3 z4 z5 HCX HNX HOX HNN HFX
              subst e1 e2 e3 e4
              have HX := hid hX
              clear hX him
              obtain ⟨q, hq⟩ : ∃ q, S.f = q := ⟨_, rfl⟩
              have HQ := hid hq
              by_cases h0 : q = -1
              · have hb0 : (q != -1) = false := by simp [h0]
                have HNXT := hid (show ∀ p (h : p < m.funs.length), p < i + 1 → (flow m m.funs[p] N 0 (flow0 m.funs[p])).f = -1 from fun p h hp => by
                  by_cases hpi : p < i
                  · exact HAL.out p h hpi
                  · obtain rfl : p = i := by omega
                    exact (congrArg HSt.f HFI.out).trans (HQ.out.trans h0))
                clear h0 hq
                go_wp2_with (first
                  | (go_at_call 13; refine (heightsOf_any m G _ _ _ ⟨f, .slice a1 f.boxes.length c1, .slice a2 f.caps.length c2, .slice a3 f.code.length c3, .slice a4 f.tries.length c4⟩ N S (HOG.out.bw (HW1.out.trans (HB.out.trans (by repeat (first | exact Bw.refl _ | apply Bw.alloc | apply Bw.drewN | apply Bw.drew))))) (HM.out.bw (HW1.out.trans (HB.out.trans (by repeat (first | exact Bw.refl _ | apply Bw.alloc | apply Bw.drewN | apply Bw.drew))))) (HX.out.bw (HW1.out.trans (HB.out.trans (by repeat (first | exact Bw.refl _ | apply Bw.alloc | apply Bw.drewN | apply Bw.drew))))) HCX.out HOX.out HNX.out HY.out HNN.out HFX.out).mono ?_; rintro e w1 ⟨hb1, ra, rc, rfl, hsl⟩; rw [HQ.out]; clear hsl; replace HB := hid (HB.out.trans (Bw.trans (by repeat (first | exact Bw.refl _ | apply Bw.alloc | apply Bw.drewN | apply Bw.drew)) hb1)); clear hb1)
                  | fail)
                go_roundw
                case rel => exact ⟨i + 1, by omega, by go_num, HNXT.out, HB.out⟩
                case measure => simp [intOf]; omega
              · have hb0 : (q != -1) = true := by simp [h0]
                have HNO := hid (show ¬ AllOk m N from fun h => h0 (HQ.out.symm.trans ((congrArg HSt.f HFI.out).symm.trans (h.fl i hlt))))
                clear h0 hq
                go_wp2_with (first
                  | (go_at_call 13; refine (heightsOf_any m G _ _ _ ⟨f, .slice a1 f.boxes.length c1, .slice a2 f.caps.length c2, .slice a3 f.code.length c3, .slice a4 f.tries.length c4⟩ N S (HOG.out.bw (HW1.out.trans (HB.out.trans (by repeat (first | exact Bw.refl _ | apply Bw.alloc | apply Bw.drewN | apply Bw.drew))))) (HM.out.bw (HW1.out.trans (HB.out.trans (by repeat (first | exact Bw.refl _ | apply Bw.alloc | apply Bw.drewN | apply Bw.drew))))) (HX.out.bw (HW1.out.trans (HB.out.trans (by repeat (first | exact Bw.refl _ | apply Bw.alloc | apply Bw.drewN | apply Bw.drew))))) HCX.out HOX.out HNX.out HY.out HNN.out HFX.out).mono ?_; rintro e w1 ⟨hb1, ra, rc, rfl, hsl⟩; rw [HQ.out]; clear hsl; replace HB := hid (HB.out.trans (Bw.trans (by repeat (first | exact Bw.refl _ | apply Bw.alloc | apply Bw.drewN | apply Bw.drew)) hb1)); clear hb1)
                  | fail)
                all_goals go_ret3
                all_goals exact ⟨HW1.out.trans HB.out, _, _, _, rfl, .inr ⟨HNO.out, by decide⟩⟩
            · obtain rfl : i = m.funs.length := by omega
              have HALL := hid (show AllOk m N from ⟨HIM.out, HFR.out, HCD.out, fun q h => HAL.out q h h⟩)
              clear hlt hi hbw
              go_wp2
              all_goals go_ret3
              all_goals exact ⟨HW1.out.trans HB.out, _, _, _, rfl, .inl ⟨HALL.out, rfl⟩⟩

end

end Go.Proofs.YtcljlmjcjfmppaaDoor
