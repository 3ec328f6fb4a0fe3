/- codeFault: the contract. -/
import Derived.Test.YtcljlmjcjfmppaaDoorVd
set_option linter.unusedSimpArgs false
set_option linter.unusedVariables false
namespace Go.Proofs.YtcljlmjcjfmppaaDoor
open Go Go.RowKit

/-- All instructions and Tries of a function are right. -/
def CdOk (m : AIm) (f : AFn) : Prop := (∀ (i : Nat) (h : i < f.code.length), inF m f i f.code[i] = 0) ∧ ∀ t ∈ f.tries, tryR t f.code.length = true
/-- What codeFault answers. -/
def CdP (w : World) (m : AIm) (f : AFn) (e : Ending) (w' : World) : Prop := ∃ a e', e = .returned (.tuple #[.int .i64 a, .int .i64 e']) ∧ ((CdOk m f ∧ a = 0 ∧ e' = 0) ∨ (¬ CdOk m f ∧ e' ≠ 0)) ∧ Bw w w'

section
variable {w w' : World}

set_option maxRecDepth 100000 in
set_option maxHeartbeats 2000000 in
theorem codeFault_any (m : AIm) (G : Nat → Prop) (vf vs vk : Value) (x : MFn) (ho : Og w) (hm : RIm w G vf vs vk m) (ha : RFn w G x) (hk2 : x.f.code.length ≤ 65536) :
    Calls Tryd.prog 12 #[imV vf vs vk m, .agg #[.int .i64 x.f.params, .int .i64 x.f.slots, x.vb, x.vc, x.vo, x.vt]] w (CdP w m x.f) := by
  obtain ⟨af, kf, az, ks, ak, kk, e1, e2, e3⟩ := hm.forms
  subst e1 e2 e3
  unfold imV
  obtain ⟨f, xb, xc, xo, xt⟩ := x
  obtain ⟨a1, c1, e1⟩ := ha.b.form
  obtain ⟨a2, c2, e2⟩ := ha.c.form
  obtain ⟨a3, c3, e3⟩ := ha.o.form
  obtain ⟨a4, c4, e4⟩ := ha.t.form
  simp only at e1 e2 e3 e4 hk2 ⊢
  subst e1 e2 e3 e4
  have HM := hid hm
  have HA := hid ha
  have HK2 := hid hk2
  have HOG := hid ho
  have l4 : f.tries.length ≤ 9223372036854775807 := by have := ha.t.2.2.1; unfold maxLen at this; simp only at this; omega
  have l3 : f.code.length ≤ 9223372036854775807 := by omega
  obtain ⟨W1, hW1⟩ : ∃ W1, ((w.alloc (.cells #[.slice af m.funs.length kf, .slice az m.strs.length ks, .slice ak m.keys.length kk, .int .i64 m.globals] 26)).alloc (.cells #[.int .i64 f.params, .int .i64 f.slots, .slice a1 f.boxes.length c1, .slice a2 f.caps.length c2, .slice a3 f.code.length c3, .slice a4 f.tries.length c4] 38)) = W1 := ⟨_, rfl⟩
  have HWE := hid hW1
  have HW1 := hid (show Bw w W1 from by rw [← hW1]; exact Bw.alloc (Bw.alloc (Bw.refl w) _) _)
  have HPI := hid (show Blk W1 w.heap.size #[.slice af m.funs.length kf, .slice az m.strs.length ks, .slice ak m.keys.length kk, .int .i64 m.globals] 26 from by rw [← hW1]; exact (Blk.new w _ 26).alloc _)
  have HPC := hid (show Blk W1 (w.heap.size + 1) #[.int .i64 f.params, .int .i64 f.slots, .slice a1 f.boxes.length c1, .slice a2 f.caps.length c2, .slice a3 f.code.length c3, .slice a4 f.tries.length c4] 38 from by rw [← hW1]; have := Blk.new (w.alloc (.cells #[.slice af m.funs.length kf, .slice az m.strs.length ks, .slice ak m.keys.length kk, .int .i64 m.globals] 26)) #[.int .i64 f.params, .int .i64 f.slots, .slice a1 f.boxes.length c1, .slice a2 f.caps.length c2, .slice a3 f.code.length c3, .slice a4 f.tries.length c4] 38; simpa only [World.size_alloc] using this)
  clear hm ha ho hW1 hk2
  go_enter Tryd.func12, Tryd.ntmps12
  go_wp2
  go_loopw [13] (fun j wr => ∃ i, i ≤ f.code.length ∧ j = .int .i64 (i : Nat) ∧ (∀ (q : Nat) (h : q < f.code.length), q < i → inF m f q f.code[q] = 0) ∧ Bw W1 wr) (fun j _ => f.code.length - (intOf j).toNat)
  case atStart => exact ⟨0, Nat.zero_le _, rfl, fun q _ h => by omega, by rw [← HWE.out]; exact Bw.refl _⟩
  case round =>
    obtain ⟨i, hi, rfl, hal, hbw⟩ := hrel
    have HB := hid hbw
    have HAL := hid hal
    have u := (HPC.out.bw hbw).cell
    have ul := (HPC.out.bw hbw).lt
    have v := (HPI.out.bw hbw).cell
    have vl := (HPI.out.bw hbw).lt
    clear hal hbw
    by_cases hlt : i < f.code.length
    · have hlt2 : (i : Int) < (f.code.length : Int) := by omega
      obtain ⟨op, a, bb, hop⟩ : ∃ op a bb, f.code[i] = (op, a, bb) := ⟨_, _, _, rfl⟩
      have HOP := hid hop
      have HLT := hid hlt
      obtain ⟨rr, hrr⟩ : ∃ rr, inF m f i (op, a, bb) = rr := ⟨_, rfl⟩
      have HRR := hid hrr
      clear hop
      by_cases h0 : rr = 0
      · have hb0 : (rr != 0) = false := by simp [h0]
        have HNX := hid (show ∀ (q : Nat) (h : q < f.code.length), q < i + 1 → inF m f q f.code[q] = 0 from fun q h hq => by
          by_cases hqi : q < i
          · exact HAL.out q h hqi
          · obtain rfl : q = i := by omega
            rw [HOP.out, hrr, h0])
        clear h0 hrr
        go_wp2_with (first
          | (go_at_call 18; refine (instrFault_any m G _ _ _ ⟨f, .slice a1 f.boxes.length c1, .slice a2 f.caps.length c2, .slice a3 f.code.length c3, .slice a4 f.tries.length c4⟩ i (HOG.out.bw (HW1.out.trans (HB.out.trans (by repeat (first | exact Bw.refl _ | apply Bw.alloc | apply Bw.drewN | apply Bw.drew))))) (HM.out.bw (HW1.out.trans (HB.out.trans (by repeat (first | exact Bw.refl _ | apply Bw.alloc | apply Bw.drewN | apply Bw.drew))))) (HA.out.bw (HW1.out.trans (HB.out.trans (by repeat (first | exact Bw.refl _ | apply Bw.alloc | apply Bw.drewN | apply Bw.drew))))) HLT.out op a bb HOP.out HK2.out).mono ?_; rintro e w1 ⟨rfl, hb1⟩; rw [HRR.out]; replace HB := hid (HB.out.trans (Bw.trans (by repeat (first | exact Bw.refl _ | apply Bw.alloc | apply Bw.drewN | apply Bw.drew)) hb1)); clear hb1)
          | fail)
        go_roundw
        case rel => exact ⟨i + 1, by omega, by go_num, HNX.out, HB.out⟩
        case measure => simp [intOf]; omega
      · have hb0 : (rr != 0) = true := by simp [h0]
        have HNO := hid (show ¬ CdOk m f from fun h => h0 (by rw [← hrr, ← HOP.out]; exact h.1 i hlt))
        have HR0 := hid h0
        clear h0 hrr
        go_wp2_with (first
          | (go_at_call 18; refine (instrFault_any m G _ _ _ ⟨f, .slice a1 f.boxes.length c1, .slice a2 f.caps.length c2, .slice a3 f.code.length c3, .slice a4 f.tries.length c4⟩ i (HOG.out.bw (HW1.out.trans (HB.out.trans (by repeat (first | exact Bw.refl _ | apply Bw.alloc | apply Bw.drewN | apply Bw.drew))))) (HM.out.bw (HW1.out.trans (HB.out.trans (by repeat (first | exact Bw.refl _ | apply Bw.alloc | apply Bw.drewN | apply Bw.drew))))) (HA.out.bw (HW1.out.trans (HB.out.trans (by repeat (first | exact Bw.refl _ | apply Bw.alloc | apply Bw.drewN | apply Bw.drew))))) HLT.out op a bb HOP.out HK2.out).mono ?_; rintro e w1 ⟨rfl, hb1⟩; rw [HRR.out]; replace HB := hid (HB.out.trans (Bw.trans (by repeat (first | exact Bw.refl _ | apply Bw.alloc | apply Bw.drewN | apply Bw.drew)) hb1)); clear hb1)
          | fail)
        all_goals go_ret2
        all_goals exact ⟨_, _, rfl, .inr ⟨HNO.out, HR0.out⟩, HW1.out.trans HB.out⟩
    · obtain rfl : i = f.code.length := by omega
      have HI1 := hid (show ∀ (q : Nat) (h : q < f.code.length), inF m f q f.code[q] = 0 from fun q h => HAL.out q h h)
      clear hlt HAL hi
      go_wp2
      go_loopw [28] (fun j wr => ∃ i, i ≤ f.tries.length ∧ j = .int .i64 (i : Nat) ∧ (f.tries.take i).all (fun t => tryR t f.code.length) = true ∧ Bw W1 wr) (fun j _ => f.tries.length - (intOf j).toNat)
      case atStart => exact ⟨0, Nat.zero_le _, rfl, rfl, HB.out⟩
      case round =>
        obtain ⟨i, hi, rfl, hal, hbw⟩ := hrel
        replace HB := hid hbw
        have HAL := hid hal
        have u := (HPC.out.bw hbw).cell
        have ul := (HPC.out.bw hbw).lt
        clear hal
        by_cases hlt : i < f.tries.length
        · obtain ⟨g1, o1, d1, e1, _, hg1, _, x⟩ := (RL.bw HA.out.t (HW1.out.trans hbw)).parts hlt (by decide)
          simp only at e1 x
          cases e1
          have x0 := x 0 (by decide)
          have x1 := x 1 (by decide)
          have x2 := x 2 (by decide)
          have x3 := x 3 (by decide)
          simp only [Nat.add_zero, ← Nat.add_assoc, tryC, List.getElem?_cons_zero, List.getElem?_cons_succ] at x0 x1 x2 x3
          have hlt2 : (i : Int) < (f.tries.length : Int) := by omega
          have HT := hid (fun h => all_snoc (p := fun t => tryR t f.code.length) hlt HAL.out h)
          have HF := hid (all_not (p := fun t => tryR t f.code.length) hlt)
          generalize f.tries[i] = y at x0 x1 x2 x3 HT HF
          obtain ⟨p, q, r, s⟩ := y
          simp only at x0 x1 x2 x3 HT HF
          clear x hbw
          cases hq : tryR (p, q, r, s) f.code.length
          · have HNO := hid (show ¬ CdOk m f from fun h => by have := List.all_eq_true.2 h.2; rw [HF.out hq] at this; cases this)
            have HQ := hid hq
            clear hq
            go_wp2_with (first
              | (go_at_call 19; refine (tryIsRight_any p q r s f.code.length _).mono ?_; rw [HQ.out]; rintro e w1 ⟨rfl, hb1⟩; replace HB := hid (HB.out.trans (Bw.trans (by repeat (first | exact Bw.refl _ | apply Bw.alloc | apply Bw.drewN | apply Bw.drew)) hb1)); have u1 := (HPC.out.bw HB.out).cell; have ul1 := (HPC.out.bw HB.out).lt; clear hb1)
              | fail)
            all_goals go_ret2
            all_goals exact ⟨_, _, rfl, .inr ⟨HNO.out, by decide⟩, HW1.out.trans HB.out⟩
          · have HR := hid (HT.out hq)
            have HQ := hid hq
            clear hq
            go_wp2_with (first
              | (go_at_call 19; refine (tryIsRight_any p q r s f.code.length _).mono ?_; rw [HQ.out]; rintro e w1 ⟨rfl, hb1⟩; replace HB := hid (HB.out.trans (Bw.trans (by repeat (first | exact Bw.refl _ | apply Bw.alloc | apply Bw.drewN | apply Bw.drew)) hb1)); have u1 := (HPC.out.bw HB.out).cell; have ul1 := (HPC.out.bw HB.out).lt; clear hb1)
              | fail)
            go_roundw
            case rel => exact ⟨i + 1, by omega, by go_num, HR.out, HB.out⟩
            case measure => simp [intOf]; omega
        · obtain rfl : i = f.tries.length := by omega
          have HOKK := hid (show CdOk m f from ⟨HI1.out, List.all_eq_true.1 (by have := HAL.out; rwa [List.take_length] at this)⟩)
          go_wp2
          all_goals go_ret2
          all_goals exact ⟨_, _, rfl, .inl ⟨HOKK.out, rfl, rfl⟩, HW1.out.trans HB.out⟩

end

end Go.Proofs.YtcljlmjcjfmppaaDoor
