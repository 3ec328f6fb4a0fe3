/- verify.Check where the frames and the codes are right: a contract. -/
import Derived.Test.YtcljlmjcjfmppaaDoorVq
set_option linter.unusedSimpArgs false
set_option linter.unusedVariables false
namespace Go.Proofs.YtcljlmjcjfmppaaDoor
open Go Go.RowKit

def CkP (w : World) (n : Nat) (F : Nat → HSt) (e : Ending) (w' : World) : Prop := Bw w w' ∧ ((∃ j, j < n ∧ (∀ i, i < j → (F i).f = -1) ∧ (F j).f ≠ -1 ∧ e = .returned (.tuple #[.int .i64 j, .int .i64 (F j).f, .int .i64 6])) ∨ ((∀ i, i < n → (F i).f = -1) ∧ e = .returned (.tuple #[.int .i64 0, .int .i64 0, .int .i64 0])))

section
variable {w w' : World}

set_option maxRecDepth 100000 in
set_option maxHeartbeats 2000000 in
theorem check_fine (m : AIm) (G : Nat → Prop) (vf vs vk : Value) (N : Nat) (F : Nat → HSt) (ho : Og w) (hm : RIm w G vf vs vk m)
    (hif : ∀ w1, Bw w w1 → Calls Tryd.prog 10 #[imV vf vs vk m] w1 fun e w' => e = .returned (.int .i64 0) ∧ Bw w1 w')
    (hfr : ∀ i (h : i < m.funs.length), frF m.funs[i] (i == 0) = 0) (hcd : ∀ f ∈ m.funs, CdOk m f) (hn1 : ∀ f ∈ m.funs, 1 ≤ f.code.length) (hn2 : ∀ f ∈ m.funs, f.code.length ≤ 65536) (hy : ∀ l ∈ m.keys, l.length ≤ 1000000) (hN : ∀ f ∈ m.funs, f.code.length < N) (hF : ∀ i (h : i < m.funs.length), flow m m.funs[i] N 0 (flow0 m.funs[i]) = F i) :
    Calls Tryd.prog 6 #[imV vf vs vk m] w (CkP w m.funs.length F) := by
  obtain ⟨af, kf, az, ks, ak, kk, e1, e2, e3⟩ := hm.forms
  subst e1 e2 e3
  unfold imV at hif ⊢
  have HM := hid hm
  obtain ⟨⟨ms, em, hf⟩, _, _, _⟩ := hm
  have hlm : ms.length = m.funs.length := by rw [← em, List.length_map]
  have ln : m.funs.length ≤ 9223372036854775807 := by have := hf.2.2.1; unfold maxLen at this; omega
  have HFS := hid hf
  have HEM := hid em
  have HLM := hid hlm
  have HOG := hid ho
  have HIF := hid hif
  have HFR := hid hfr
  have HCD := hid hcd
  have HN1 := hid hn1
  have HN2 := hid hn2
  have HY := hid hy
  have HN := hid hN
  have HF := hid hF
  obtain ⟨W1, hW1⟩ : ∃ W1, (w.alloc (.cells #[.slice af m.funs.length kf, .slice az m.strs.length ks, .slice ak m.keys.length kk, .int .i64 m.globals] 26)) = W1 := ⟨_, rfl⟩
  have HWE := hid hW1
  have HW1 := hid (show Bw w W1 from by rw [← hW1]; exact Bw.alloc (Bw.refl w) _)
  have HPI := hid (show Blk W1 w.heap.size #[.slice af m.funs.length kf, .slice az m.strs.length ks, .slice ak m.keys.length kk, .int .i64 m.globals] 26 from by rw [← hW1]; exact Blk.new w _ 26)
  clear hf em hlm ho hif hfr hcd hn1 hn2 hy hN hF hW1
  go_enter Tryd.func6, Tryd.ntmps6
  go_wp2_with (first
    | (go_at_call 10; refine (HIF.out _ (by repeat (first | exact Bw.refl _ | apply Bw.alloc | apply Bw.drewN | apply Bw.drew))).mono ?_; rintro e w1 ⟨rfl, hb1⟩; have HB := hid (show Bw W1 w1 from by rw [← HWE.out]; exact hb1); have u := (HPI.out.bw HB.out).cell; have ul := (HPI.out.bw HB.out).lt; clear hb1)
    | fail)
  go_loopw [24] (fun j wr => ∃ i, i ≤ m.funs.length ∧ j = .int .i64 (i : Nat) ∧ Bw W1 wr) (fun j _ => m.funs.length - (intOf j).toNat)
  case atStart => exact ⟨0, Nat.zero_le _, rfl, HB.out⟩
  case round =>
    obtain ⟨i, hi, rfl, hbw⟩ := hrel
    clear HB u ul
    have HB := hid hbw
    have u := (HPI.out.bw hbw).cell
    have ul := (HPI.out.bw hbw).lt
    clear hbw
    by_cases hlt : i < m.funs.length
    · have hlt2 : (i : Int) < (m.funs.length : Int) := by omega
      have HLT := hid hlt
      go_wp2_with (first
        | (go_at_call 11; refine (frameFault_any m G _ _ _ i (HM.out.bw (HW1.out.trans (HB.out.trans (by repeat (first | exact Bw.refl _ | apply Bw.alloc | apply Bw.drewN | apply Bw.drew))))) HLT.out).mono ?_; rw [HFR.out i HLT.out]; rintro e w1 ⟨rfl, hb1⟩; replace HB := hid (HB.out.trans (Bw.trans (by repeat (first | exact Bw.refl _ | apply Bw.alloc | apply Bw.drewN | apply Bw.drew)) hb1)); clear hb1)
        | fail)
      go_roundw
      case rel => exact ⟨i + 1, by omega, by go_num, HB.out⟩
      case measure => simp [intOf]; omega
    · obtain rfl : i = m.funs.length := by omega
      clear hlt hi
      go_wp2
      go_loopw [38] (fun j wr => ∃ i, i ≤ m.funs.length ∧ j = .int .i64 (i : Nat) ∧ Bw W1 wr) (fun j _ => m.funs.length - (intOf j).toNat)
      case atStart => exact ⟨0, Nat.zero_le _, rfl, HB.out⟩
      case round =>
        obtain ⟨i, hi, rfl, hbw⟩ := hrel
        clear HB u ul
        have HB := hid hbw
        have u := (HPI.out.bw hbw).cell
        have ul := (HPI.out.bw hbw).lt
        by_cases hlt : i < m.funs.length
        · have hlt2 : (i : Int) < (m.funs.length : Int) := by omega
          have him : i < ms.length := by rw [HLM.out]; exact hlt
          obtain ⟨gf, of, df, ef, _, hgf, _, z⟩ := (RFs.bw HFS.out (HW1.out.trans hbw)).parts him (by decide)
          have hX := HFS.out.2.1 _ (List.getElem_mem him)
          have hfe : m.funs[i] = ms[i].f := by simp only [← HEM.out, List.getElem_map]
          have HCX := hid (show CdOk m ms[i].f from by rw [← hfe]; exact HCD.out _ (List.getElem_mem hlt))
          have HNX := hid (show ms[i].f.code.length ≤ 65536 from by rw [← hfe]; exact HN2.out _ (List.getElem_mem hlt))
          rw [HLM.out] at ef
          cases ef
          have z0 := z 0 (by decide)
          have z1 := z 1 (by decide)
          have z2 := z 2 (by decide)
          have z3 := z 3 (by decide)
          have z4 := z 4 (by decide)
          have z5 := z 5 (by decide)
          simp only [Nat.add_zero, ← Nat.add_assoc, fnC, List.getElem?_cons_zero, List.getElem?_cons_succ] at z0 z1 z2 z3 z4 z5
          clear z hfe hbw
          generalize ms[i] = x at z0 z1 z2 z3 z4 z5 hX HCX HNX
          obtain ⟨f, xb, xc, xo, xt⟩ := x
          obtain ⟨a1, c1, e1⟩ := hX.b.form
          obtain ⟨a2, c2, e2⟩ := hX.c.form
          obtain ⟨a3, c3, e3⟩ := hX.o.form
          obtain ⟨a4, c4, e4⟩ := hX.t.form
          simp only at e1 e2 e3 e4 z0 z1 z2 z3 z4 z5 HCX HNX
          subst e1 e2 e3 e4
          have HX := hid hX
          clear hX him
          go_wp2_with (first
            | (go_at_call 12; refine (codeFault_any m G _ _ _ ⟨f, .slice a1 f.boxes.length c1, .slice a2 f.caps.length c2, .slice a3 f.code.length c3, .slice a4 f.tries.length c4⟩ (HOG.out.bw (HW1.out.trans (HB.out.trans (by repeat (first | exact Bw.refl _ | apply Bw.alloc | apply Bw.drewN | apply Bw.drew))))) (HM.out.bw (HW1.out.trans (HB.out.trans (by repeat (first | exact Bw.refl _ | apply Bw.alloc | apply Bw.drewN | apply Bw.drew))))) (HX.out.bw (HW1.out.trans (HB.out.trans (by repeat (first | exact Bw.refl _ | apply Bw.alloc | apply Bw.drewN | apply Bw.drew))))) HNX.out).mono ?_; rintro e w1 ⟨ra, re, rfl, hc, hb1⟩; obtain ⟨rfl, rfl⟩ : ra = 0 ∧ re = 0 := (hc.elim (fun h => h.2) (fun h => absurd HCX.out h.1)); clear hc; replace HB := hid (HB.out.trans (Bw.trans (by repeat (first | exact Bw.refl _ | apply Bw.alloc | apply Bw.drewN | apply Bw.drew)) hb1)); clear hb1)
            | fail)
          go_roundw
          case rel => exact ⟨i + 1, by omega, by go_num, HB.out⟩
          case measure => simp [intOf]; omega
        · obtain rfl : i = m.funs.length := by omega
          clear hlt hi hbw
          go_wp2
          go_loopw [58] (fun j wr => ∃ i, i ≤ m.funs.length ∧ j = .int .i64 (i : Nat) ∧ (∀ q, q < i → (F q).f = -1) ∧ Bw W1 wr) (fun j _ => m.funs.length - (intOf j).toNat)
          case atStart => exact ⟨0, Nat.zero_le _, rfl, fun q h => by omega, HB.out⟩
          case round =>
            obtain ⟨i, hi, rfl, hal, hbw⟩ := hrel
            clear HB u ul
            have HB := hid hbw
            have HAL := hid hal
            have u := (HPI.out.bw hbw).cell
            have ul := (HPI.out.bw hbw).lt
            clear hal
            by_cases hlt : i < m.funs.length
            · have hlt2 : (i : Int) < (m.funs.length : Int) := by omega
              have HLT := hid hlt
              have him : i < ms.length := by rw [HLM.out]; exact hlt
              obtain ⟨gf, of, df, ef, _, hgf, _, z⟩ := (RFs.bw HFS.out (HW1.out.trans hbw)).parts him (by decide)
              have hX := HFS.out.2.1 _ (List.getElem_mem him)
              have hfe : m.funs[i] = ms[i].f := by simp only [← HEM.out, List.getElem_map]
              have HCX := hid (show CdOk m ms[i].f from by rw [← hfe]; exact HCD.out _ (List.getElem_mem hlt))
              have HNX := hid (show ms[i].f.code.length ≤ 65536 from by rw [← hfe]; exact HN2.out _ (List.getElem_mem hlt))
              have HOX := hid (show 1 ≤ ms[i].f.code.length from by rw [← hfe]; exact HN1.out _ (List.getElem_mem hlt))
              have HNN := hid (show ms[i].f.code.length < N from by rw [← hfe]; exact HN.out _ (List.getElem_mem hlt))
              have HFX := hid (show flow m ms[i].f N 0 (flow0 ms[i].f) = F i from by rw [← hfe]; exact HF.out i hlt)
              rw [HLM.out] at ef
              cases ef
              have z0 := z 0 (by decide)
              have z1 := z 1 (by decide)
              have z2 := z 2 (by decide)
              have z3 := z 3 (by decide)
              have z4 := z 4 (by decide)
              have z5 := z 5 (by decide)
              simp only [Nat.add_zero, ← Nat.add_assoc, fnC, List.getElem?_cons_zero, List.getElem?_cons_succ] at z0 z1 z2 z3 z4 z5
              clear z hfe hbw
              generalize ms[i] = x at z0 z1 z2 z3 z4 z5 hX HCX HNX HOX HNN HFX
              obtain ⟨f, xb, xc, xo, xt⟩ := x
              obtain ⟨a1, c1, e1⟩ := hX.b.form
              obtain ⟨a2, c2, e2⟩ := hX.c.form
              obtain ⟨a3, c3, e3⟩ := hX.o.form
              obtain ⟨a4, c4, e4⟩ := hX.t.form
              simp only at e1 e2 e3 e4 z0 z1 z2 z3 z4 z5 HCX HNX HOX HNN HFX
              subst e1 e2 e3 e4
              have HX := hid hX
              clear hX him
              obtain ⟨q, hq⟩ : ∃ q, (F i).f = q := ⟨_, rfl⟩
              have HQ := hid hq
              by_cases h0 : q = -1
              · have hb0 : (q != -1) = false := by simp [h0]
                have HNXT := hid (show ∀ p, p < i + 1 → (F p).f = -1 from fun p hp => by
                  by_cases hpi : p < i
                  · exact HAL.out p hpi
                  · obtain rfl : p = i := by omega
                    rw [HQ.out, h0])
                clear h0 hq
                go_wp2_with (first
                  | (go_at_call 13; refine (heightsOf_any m G _ _ _ ⟨f, .slice a1 f.boxes.length c1, .slice a2 f.caps.length c2, .slice a3 f.code.length c3, .slice a4 f.tries.length c4⟩ N (F i) (HOG.out.bw (HW1.out.trans (HB.out.trans (by repeat (first | exact Bw.refl _ | apply Bw.alloc | apply Bw.drewN | apply Bw.drew))))) (HM.out.bw (HW1.out.trans (HB.out.trans (by repeat (first | exact Bw.refl _ | apply Bw.alloc | apply Bw.drewN | apply Bw.drew))))) (HX.out.bw (HW1.out.trans (HB.out.trans (by repeat (first | exact Bw.refl _ | apply Bw.alloc | apply Bw.drewN | apply Bw.drew))))) HCX.out HOX.out HNX.out HY.out HNN.out HFX.out).mono ?_; rintro e w1 ⟨hb1, ra, rc, rfl, hsl⟩; rw [HQ.out]; clear hsl; replace HB := hid (HB.out.trans (Bw.trans (by repeat (first | exact Bw.refl _ | apply Bw.alloc | apply Bw.drewN | apply Bw.drew)) hb1)); clear hb1)
                  | fail)
                go_roundw
                case rel => exact ⟨i + 1, by omega, by go_num, HNXT.out, HB.out⟩
                case measure => simp [intOf]; omega
              · have hb0 : (q != -1) = true := by simp [h0]
                have HQ0 := hid h0
                clear h0 hq
                go_wp2_with (first
                  | (go_at_call 13; refine (heightsOf_any m G _ _ _ ⟨f, .slice a1 f.boxes.length c1, .slice a2 f.caps.length c2, .slice a3 f.code.length c3, .slice a4 f.tries.length c4⟩ N (F i) (HOG.out.bw (HW1.out.trans (HB.out.trans (by repeat (first | exact Bw.refl _ | apply Bw.alloc | apply Bw.drewN | apply Bw.drew))))) (HM.out.bw (HW1.out.trans (HB.out.trans (by repeat (first | exact Bw.refl _ | apply Bw.alloc | apply Bw.drewN | apply Bw.drew))))) (HX.out.bw (HW1.out.trans (HB.out.trans (by repeat (first | exact Bw.refl _ | apply Bw.alloc | apply Bw.drewN | apply Bw.drew))))) HCX.out HOX.out HNX.out HY.out HNN.out HFX.out).mono ?_; rintro e w1 ⟨hb1, ra, rc, rfl, hsl⟩; rw [HQ.out]; clear hsl; replace HB := hid (HB.out.trans (Bw.trans (by repeat (first | exact Bw.refl _ | apply Bw.alloc | apply Bw.drewN | apply Bw.drew)) hb1)); clear hb1)
                  | fail)
                all_goals go_ret3
                all_goals exact ⟨HW1.out.trans HB.out, .inl ⟨i, HLT.out, HAL.out, by rw [HQ.out]; exact HQ0.out, by rw [HQ.out]; rfl⟩⟩
            · obtain rfl : i = m.funs.length := by omega
              clear hlt hi hbw
              go_wp2
              all_goals go_ret3
              all_goals exact ⟨HW1.out.trans HB.out, .inr ⟨HAL.out, rfl⟩⟩

end

end Go.Proofs.YtcljlmjcjfmppaaDoor
