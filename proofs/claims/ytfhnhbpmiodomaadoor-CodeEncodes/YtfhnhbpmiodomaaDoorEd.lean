/- The document's right: the contract. -/
import Derived.Test.YtfhnhbpmiodomaaDoorEc
set_option linter.unusedVariables false
set_option linter.unusedSimpArgs false
namespace Go.Proofs.YtfhnhbpmiodomaaDoor
open Go Go.RowKit

def qCap (p : Int × Int) : Bool := pl p.1 && pl p.2
def qIns (p : Int × Int × Int) : Bool := pl p.1 && sg p.2.1 && sg p.2.2
def qTry (p : Int × Int × Int × Int) : Bool := pl p.1 && pl p.2.1 && pl p.2.2.1 && pl p.2.2.2
/-- May all of a function's numbers be told? -/
def rgt (f : AFn) : Bool := pl f.params && pl f.slots && f.boxes.all pl && f.caps.all qCap && f.code.all qIns && f.tries.all qTry

section
variable {w : World}

set_option maxRecDepth 100000 in
set_option maxHeartbeats 600000 in
theorem rright_any (x : MFn) (G : Nat → Prop) (ha : RFn w G x) :
    Calls Tryd.prog 18 #[.agg #[.int .i64 x.f.params, .int .i64 x.f.slots, x.vb, x.vc, x.vo, x.vt]] w fun e w' => e = .returned (.bool (rgt x.f)) ∧ Bw w w' := by
  obtain ⟨f, xb, xc, xo, xt⟩ := x
  obtain ⟨a1, c1, e1⟩ := ha.b.form
  obtain ⟨a2, c2, e2⟩ := ha.c.form
  obtain ⟨a3, c3, e3⟩ := ha.o.form
  obtain ⟨a4, c4, e4⟩ := ha.t.form
  simp only at e1 e2 e3 e4 ⊢
  subst e1 e2 e3 e4
  have HA := hid ha
  have HI1 := hid ha.p
  have HI2 := hid ha.s
  have HW0 := hid (show Bw w (w.alloc (.cells #[.int .i64 f.params, .int .i64 f.slots, .slice a1 f.boxes.length c1, .slice a2 f.caps.length c2, .slice a3 f.code.length c3, .slice a4 f.tries.length c4] 47)) from Bw.alloc (Bw.refl w) _)
  have HP := hid (Blk.new w #[.int .i64 f.params, .int .i64 f.slots, .slice a1 f.boxes.length c1, .slice a2 f.caps.length c2, .slice a3 f.code.length c3, .slice a4 f.tries.length c4] 47)
  have l2 : f.caps.length ≤ 9223372036854775807 := by have := ha.c.2.2.1; unfold maxLen at this; simp only at this; omega
  have l3 : f.code.length ≤ 9223372036854775807 := by have := ha.o.2.2.1; unfold maxLen at this; simp only at this; omega
  have l4 : f.tries.length ≤ 9223372036854775807 := by have := ha.t.2.2.1; unfold maxLen at this; simp only at this; omega
  have HO := hid (show Bw (w.alloc (.cells #[.int .i64 f.params, .int .i64 f.slots, .slice a1 f.boxes.length c1, .slice a2 f.caps.length c2, .slice a3 f.code.length c3, .slice a4 f.tries.length c4] 47)) (w.alloc (.cells #[.int .i64 f.params, .int .i64 f.slots, .slice a1 f.boxes.length c1, .slice a2 f.caps.length c2, .slice a3 f.code.length c3, .slice a4 f.tries.length c4] 47)) from Bw.refl _)
  clear ha
  cases hp1 : pl f.params
  · have HP1 := hid hp1
    clear hp1
    have HR := hid (show rgt f = false by simp [rgt, HP1.out])
    go_enter Tryd.func18, Tryd.ntmps18
    go_wp2_with (first
      | (go_at_call_of 16 (Value.int .i64 f.params); refine (rplain_any f.params _ HI1.out).mono ?_; rw [HP1.out]; rintro e wn ⟨rfl, hwn⟩; subst wn)
      | (go_at_call_of 16 (Value.int .i64 f.slots); refine (rplain_any f.slots _ HI2.out).mono ?_; rw [HP2.out]; rintro e wn ⟨rfl, hwn⟩; subst wn)
      | fail)
    all_goals go_ret
    all_goals exact ⟨by rw [HR.out]; rfl, HW0.out⟩
  have HP1 := hid hp1
  clear hp1
  cases hp2 : pl f.slots
  · have HP2 := hid hp2
    clear hp2
    have HR := hid (show rgt f = false by simp [rgt, HP1.out, HP2.out])
    go_enter Tryd.func18, Tryd.ntmps18
    go_wp2_with (first
      | (go_at_call_of 16 (Value.int .i64 f.params); refine (rplain_any f.params _ HI1.out).mono ?_; rw [HP1.out]; rintro e wn ⟨rfl, hwn⟩; subst wn)
      | (go_at_call_of 16 (Value.int .i64 f.slots); refine (rplain_any f.slots _ HI2.out).mono ?_; rw [HP2.out]; rintro e wn ⟨rfl, hwn⟩; subst wn)
      | fail)
    all_goals go_ret
    all_goals exact ⟨by rw [HR.out]; rfl, HW0.out⟩
  have HP2 := hid hp2
  clear hp2
  cases hp3 : f.boxes.all pl
  · have HP3 := hid hp3
    clear hp3
    have HR := hid (show rgt f = false by simp [rgt, HP1.out, HP2.out, HP3.out])
    go_enter Tryd.func18, Tryd.ntmps18
    go_wp2_with (first
      | (go_at_call_of 16 (Value.int .i64 f.params); refine (rplain_any f.params _ HI1.out).mono ?_; rw [HP1.out]; rintro e wn ⟨rfl, hwn⟩; subst wn)
      | (go_at_call_of 16 (Value.int .i64 f.slots); refine (rplain_any f.slots _ HI2.out).mono ?_; rw [HP2.out]; rintro e wn ⟨rfl, hwn⟩; subst wn)
      | (go_at_call 17; refine (rnumbers_any _ f.boxes G (HA.out.b.bw (HW0.out.trans (by repeat (first | exact Bw.refl _ | apply Bw.alloc | apply Bw.drewN | apply Bw.drew))))).mono ?_; rw [HP3.out]; rintro e w1 ⟨rfl, hb1⟩; have HB := hid (show Bw (w.alloc (.cells #[.int .i64 f.params, .int .i64 f.slots, .slice a1 f.boxes.length c1, .slice a2 f.caps.length c2, .slice a3 f.code.length c3, .slice a4 f.tries.length c4] 47)) w1 from Bw.trans (by repeat (first | exact Bw.refl _ | apply Bw.alloc | apply Bw.drewN | apply Bw.drew)) hb1); have u := (HP.out.bw HB.out).cell; have ul := (HP.out.bw HB.out).lt; clear hb1)
      | fail)
    all_goals go_ret
    all_goals exact ⟨by rw [HR.out]; rfl, HW0.out.trans HB.out⟩
  have HP3 := hid hp3
  clear hp3
  go_enter Tryd.func18, Tryd.ntmps18
  go_wp2_with (first
    | (go_at_call_of 16 (Value.int .i64 f.params); refine (rplain_any f.params _ HI1.out).mono ?_; rw [HP1.out]; rintro e wn ⟨rfl, hwn⟩; subst wn)
    | (go_at_call_of 16 (Value.int .i64 f.slots); refine (rplain_any f.slots _ HI2.out).mono ?_; rw [HP2.out]; rintro e wn ⟨rfl, hwn⟩; subst wn)
    | (go_at_call 17; refine (rnumbers_any _ f.boxes G (HA.out.b.bw (HW0.out.trans (by repeat (first | exact Bw.refl _ | apply Bw.alloc | apply Bw.drewN | apply Bw.drew))))).mono ?_; rw [HP3.out]; rintro e w1 ⟨rfl, hb1⟩; have HB := hid (show Bw (w.alloc (.cells #[.int .i64 f.params, .int .i64 f.slots, .slice a1 f.boxes.length c1, .slice a2 f.caps.length c2, .slice a3 f.code.length c3, .slice a4 f.tries.length c4] 47)) w1 from Bw.trans (by repeat (first | exact Bw.refl _ | apply Bw.alloc | apply Bw.drewN | apply Bw.drew)) hb1); have u := (HP.out.bw HB.out).cell; have ul := (HP.out.bw HB.out).lt; clear hb1)
    | fail)
  go_loopw [3] (fun j wr => ∃ i, i ≤ f.caps.length ∧ j = .int .i64 (i : Nat) ∧ (f.caps.take i).all qCap = true ∧ Bw (w.alloc (.cells #[.int .i64 f.params, .int .i64 f.slots, .slice a1 f.boxes.length c1, .slice a2 f.caps.length c2, .slice a3 f.code.length c3, .slice a4 f.tries.length c4] 47)) wr) (fun j _ => f.caps.length - (intOf j).toNat)
  case atStart => exact ⟨0, Nat.zero_le _, rfl, rfl, HB.out⟩
  case round =>
    obtain ⟨i, hi, rfl, hal, hbw⟩ := hrel
    replace HB := hid hbw
    have HAL := hid hal
    have u := (HP.out.bw hbw).cell
    have ul := (HP.out.bw hbw).lt
    clear hal
    by_cases hlt : i < f.caps.length
    · obtain ⟨g1, o1, d1, e1, _, hg1, _, x⟩ := (HA.out.c.bw (HW0.out.trans hbw)).parts hlt (by decide)
      cases e1
      have x0 := x 0 (by decide)
      have x1 := x 1 (by decide)
      simp only [Nat.add_zero, ← Nat.add_assoc, capC, List.getElem?_cons_zero, List.getElem?_cons_succ] at x0 x1
      have hlt2 : (i : Int) < (f.caps.length : Int) := by omega
      have HT := hid (fun h => all_snoc (p := qCap) hlt HAL.out h)
      have HF := hid (all_not (p := qCap) hlt)
      have HII := hid (HA.out.c.2.1 _ (List.getElem_mem hlt))
      generalize f.caps[i] = p at x0 x1 HT HF HII
      obtain ⟨n10, n11⟩ := p
      simp only at x0 x1
      clear x hbw
      cases hv0 : pl n10
      · have HV0 := hid hv0
        have HR := hid (show rgt f = false by have := HF.out (by simp [qCap, HV0.out]); simp [rgt, this])
        clear hv0
        go_wp2_with (first
          | (go_at_call_of 16 (Value.int .i64 n10); (fail_if_success (have _q := HC0)); refine (rplain_any n10 _ HII.out.1).mono ?_; rw [HV0.out]; rintro e wn ⟨rfl, hwn⟩; subst wn; have HC0 := hid trivial)
          | fail)
        all_goals go_ret
        all_goals exact ⟨by rw [HR.out]; rfl, HW0.out.trans (HB.out.trans (by repeat (first | exact Bw.refl _ | apply Bw.alloc | apply Bw.drewN | apply Bw.drew)))⟩
      have HV0 := hid hv0
      clear hv0
      cases hv1 : pl n11
      · have HV1 := hid hv1
        have HR := hid (show rgt f = false by have := HF.out (by simp [qCap, HV0.out, HV1.out]); simp [rgt, this])
        clear hv1
        go_wp2_with (first
          | (go_at_call_of 16 (Value.int .i64 n10); (fail_if_success (have _q := HC0)); refine (rplain_any n10 _ HII.out.1).mono ?_; rw [HV0.out]; rintro e wn ⟨rfl, hwn⟩; subst wn; have HC0 := hid trivial)
          | (go_at_call_of 16 (Value.int .i64 n11); (fail_if_success (have _q := HC1)); refine (rplain_any n11 _ HII.out.2).mono ?_; rw [HV1.out]; rintro e wn ⟨rfl, hwn⟩; subst wn; have HC1 := hid trivial)
          | fail)
        all_goals go_ret
        all_goals exact ⟨by rw [HR.out]; rfl, HW0.out.trans (HB.out.trans (by repeat (first | exact Bw.refl _ | apply Bw.alloc | apply Bw.drewN | apply Bw.drew)))⟩
      have HV1 := hid hv1
      clear hv1
      have HR := hid (HT.out (by simp [qCap, HV0.out, HV1.out]))
      go_wp2_with (first
        | (go_at_call_of 16 (Value.int .i64 n10); (fail_if_success (have _q := HC0)); refine (rplain_any n10 _ HII.out.1).mono ?_; rw [HV0.out]; rintro e wn ⟨rfl, hwn⟩; subst wn; have HC0 := hid trivial)
        | (go_at_call_of 16 (Value.int .i64 n11); (fail_if_success (have _q := HC1)); refine (rplain_any n11 _ HII.out.2).mono ?_; rw [HV1.out]; rintro e wn ⟨rfl, hwn⟩; subst wn; have HC1 := hid trivial)
        | fail)
      go_roundw
      case rel => exact ⟨i + 1, by omega, by go_num, HR.out, HB.out.trans (by repeat (first | exact Bw.refl _ | apply Bw.alloc | apply Bw.drewN | apply Bw.drew))⟩
      case measure => simp [intOf]; omega
    · obtain rfl : i = f.caps.length := by omega
      have HQ1 := hid (show f.caps.all qCap = true by have := HAL.out; rwa [List.take_length] at this)
      clear hbw
      go_wp2
      go_loopw [4] (fun j wr => ∃ i, i ≤ f.code.length ∧ j = .int .i64 (i : Nat) ∧ (f.code.take i).all qIns = true ∧ Bw (w.alloc (.cells #[.int .i64 f.params, .int .i64 f.slots, .slice a1 f.boxes.length c1, .slice a2 f.caps.length c2, .slice a3 f.code.length c3, .slice a4 f.tries.length c4] 47)) wr) (fun j _ => f.code.length - (intOf j).toNat)
      case atStart => exact ⟨0, Nat.zero_le _, rfl, rfl, HB.out⟩
      case round =>
        obtain ⟨i, hi, rfl, hal, hbw⟩ := hrel
        replace HB := hid hbw
        have HAL := hid hal
        have u := (HP.out.bw hbw).cell
        have ul := (HP.out.bw hbw).lt
        clear hal
        by_cases hlt : i < f.code.length
        · obtain ⟨g1, o1, d1, e1, _, hg1, _, x⟩ := (HA.out.o.bw (HW0.out.trans hbw)).parts hlt (by decide)
          cases e1
          have x0 := x 0 (by decide)
          have x1 := x 1 (by decide)
          have x2 := x 2 (by decide)
          simp only [Nat.add_zero, ← Nat.add_assoc, insC, List.getElem?_cons_zero, List.getElem?_cons_succ] at x0 x1 x2
          have hlt2 : (i : Int) < (f.code.length : Int) := by omega
          have HT := hid (fun h => all_snoc (p := qIns) hlt HAL.out h)
          have HF := hid (all_not (p := qIns) hlt)
          have HII := hid (HA.out.o.2.1 _ (List.getElem_mem hlt))
          generalize f.code[i] = p at x0 x1 x2 HT HF HII
          obtain ⟨n20, n21, n22⟩ := p
          simp only at x0 x1 x2
          clear x hbw
          cases hv0 : pl n20
          · have HV0 := hid hv0
            have HR := hid (show rgt f = false by have := HF.out (by simp [qIns, HV0.out]); simp [rgt, this])
            clear hv0
            go_wp2_with (first
              | (go_at_call_of 16 (Value.int .i64 n20); (fail_if_success (have _q := HC0)); refine (rplain_any n20 _ HII.out.1).mono ?_; rw [HV0.out]; rintro e wn ⟨rfl, hwn⟩; subst wn; have HC0 := hid trivial)
              | fail)
            all_goals go_ret
            all_goals exact ⟨by rw [HR.out]; rfl, HW0.out.trans (HB.out.trans (by repeat (first | exact Bw.refl _ | apply Bw.alloc | apply Bw.drewN | apply Bw.drew)))⟩
          have HV0 := hid hv0
          clear hv0
          cases hv1 : sg n21
          · have HV1 := hid hv1
            have HR := hid (show rgt f = false by have := HF.out (by simp [qIns, HV0.out, HV1.out]); simp [rgt, this])
            clear hv1
            go_wp2_with (first
              | (go_at_call_of 16 (Value.int .i64 n20); (fail_if_success (have _q := HC0)); refine (rplain_any n20 _ HII.out.1).mono ?_; rw [HV0.out]; rintro e wn ⟨rfl, hwn⟩; subst wn; have HC0 := hid trivial)
              | (go_at_call_of 43 (Value.int .i64 n21); (fail_if_success (have _q := HC1)); refine (rsigned_any n21 _ HII.out.2.1).mono ?_; rw [HV1.out]; rintro e wn ⟨rfl, hwn⟩; subst wn; have HC1 := hid trivial)
              | fail)
            all_goals go_ret
            all_goals exact ⟨by rw [HR.out]; rfl, HW0.out.trans (HB.out.trans (by repeat (first | exact Bw.refl _ | apply Bw.alloc | apply Bw.drewN | apply Bw.drew)))⟩
          have HV1 := hid hv1
          clear hv1
          cases hv2 : sg n22
          · have HV2 := hid hv2
            have HR := hid (show rgt f = false by have := HF.out (by simp [qIns, HV0.out, HV1.out, HV2.out]); simp [rgt, this])
            clear hv2
            go_wp2_with (first
              | (go_at_call_of 16 (Value.int .i64 n20); (fail_if_success (have _q := HC0)); refine (rplain_any n20 _ HII.out.1).mono ?_; rw [HV0.out]; rintro e wn ⟨rfl, hwn⟩; subst wn; have HC0 := hid trivial)
              | (go_at_call_of 43 (Value.int .i64 n21); (fail_if_success (have _q := HC1)); refine (rsigned_any n21 _ HII.out.2.1).mono ?_; rw [HV1.out]; rintro e wn ⟨rfl, hwn⟩; subst wn; have HC1 := hid trivial)
              | (go_at_call_of 43 (Value.int .i64 n22); (fail_if_success (have _q := HC2)); refine (rsigned_any n22 _ HII.out.2.2).mono ?_; rw [HV2.out]; rintro e wn ⟨rfl, hwn⟩; subst wn; have HC2 := hid trivial)
              | fail)
            all_goals go_ret
            all_goals exact ⟨by rw [HR.out]; rfl, HW0.out.trans (HB.out.trans (by repeat (first | exact Bw.refl _ | apply Bw.alloc | apply Bw.drewN | apply Bw.drew)))⟩
          have HV2 := hid hv2
          clear hv2
          have HR := hid (HT.out (by simp [qIns, HV0.out, HV1.out, HV2.out]))
          go_wp2_with (first
            | (go_at_call_of 16 (Value.int .i64 n20); (fail_if_success (have _q := HC0)); refine (rplain_any n20 _ HII.out.1).mono ?_; rw [HV0.out]; rintro e wn ⟨rfl, hwn⟩; subst wn; have HC0 := hid trivial)
            | (go_at_call_of 43 (Value.int .i64 n21); (fail_if_success (have _q := HC1)); refine (rsigned_any n21 _ HII.out.2.1).mono ?_; rw [HV1.out]; rintro e wn ⟨rfl, hwn⟩; subst wn; have HC1 := hid trivial)
            | (go_at_call_of 43 (Value.int .i64 n22); (fail_if_success (have _q := HC2)); refine (rsigned_any n22 _ HII.out.2.2).mono ?_; rw [HV2.out]; rintro e wn ⟨rfl, hwn⟩; subst wn; have HC2 := hid trivial)
            | fail)
          go_roundw
          case rel => exact ⟨i + 1, by omega, by go_num, HR.out, HB.out.trans (by repeat (first | exact Bw.refl _ | apply Bw.alloc | apply Bw.drewN | apply Bw.drew))⟩
          case measure => simp [intOf]; omega
        · obtain rfl : i = f.code.length := by omega
          have HQ2 := hid (show f.code.all qIns = true by have := HAL.out; rwa [List.take_length] at this)
          clear hbw
          go_wp2
          go_loopw [5] (fun j wr => ∃ i, i ≤ f.tries.length ∧ j = .int .i64 (i : Nat) ∧ (f.tries.take i).all qTry = true ∧ Bw (w.alloc (.cells #[.int .i64 f.params, .int .i64 f.slots, .slice a1 f.boxes.length c1, .slice a2 f.caps.length c2, .slice a3 f.code.length c3, .slice a4 f.tries.length c4] 47)) wr) (fun j _ => f.tries.length - (intOf j).toNat)
          case atStart => exact ⟨0, Nat.zero_le _, rfl, rfl, HB.out⟩
          case round =>
            obtain ⟨i, hi, rfl, hal, hbw⟩ := hrel
            replace HB := hid hbw
            have HAL := hid hal
            have u := (HP.out.bw hbw).cell
            have ul := (HP.out.bw hbw).lt
            clear hal
            by_cases hlt : i < f.tries.length
            · obtain ⟨g1, o1, d1, e1, _, hg1, _, x⟩ := (HA.out.t.bw (HW0.out.trans hbw)).parts hlt (by decide)
              cases e1
              have x0 := x 0 (by decide)
              have x1 := x 1 (by decide)
              have x2 := x 2 (by decide)
              have x3 := x 3 (by decide)
              simp only [Nat.add_zero, ← Nat.add_assoc, tryC, List.getElem?_cons_zero, List.getElem?_cons_succ] at x0 x1 x2 x3
              have hlt2 : (i : Int) < (f.tries.length : Int) := by omega
              have HT := hid (fun h => all_snoc (p := qTry) hlt HAL.out h)
              have HF := hid (all_not (p := qTry) hlt)
              have HII := hid (HA.out.t.2.1 _ (List.getElem_mem hlt))
              generalize f.tries[i] = p at x0 x1 x2 x3 HT HF HII
              obtain ⟨n30, n31, n32, n33⟩ := p
              simp only at x0 x1 x2 x3
              clear x hbw
              cases hv0 : pl n30
              · have HV0 := hid hv0
                have HR := hid (show rgt f = false by have := HF.out (by simp [qTry, HV0.out]); simp [rgt, this])
                clear hv0
                go_wp2_with (first
                  | (go_at_call_of 16 (Value.int .i64 n30); (fail_if_success (have _q := HC0)); refine (rplain_any n30 _ HII.out.1).mono ?_; rw [HV0.out]; rintro e wn ⟨rfl, hwn⟩; subst wn; have HC0 := hid trivial)
                  | fail)
                all_goals go_ret
                all_goals exact ⟨by rw [HR.out]; rfl, HW0.out.trans (HB.out.trans (by repeat (first | exact Bw.refl _ | apply Bw.alloc | apply Bw.drewN | apply Bw.drew)))⟩
              have HV0 := hid hv0
              clear hv0
              cases hv1 : pl n31
              · have HV1 := hid hv1
                have HR := hid (show rgt f = false by have := HF.out (by simp [qTry, HV0.out, HV1.out]); simp [rgt, this])
                clear hv1
                go_wp2_with (first
                  | (go_at_call_of 16 (Value.int .i64 n30); (fail_if_success (have _q := HC0)); refine (rplain_any n30 _ HII.out.1).mono ?_; rw [HV0.out]; rintro e wn ⟨rfl, hwn⟩; subst wn; have HC0 := hid trivial)
                  | (go_at_call_of 16 (Value.int .i64 n31); (fail_if_success (have _q := HC1)); refine (rplain_any n31 _ HII.out.2.1).mono ?_; rw [HV1.out]; rintro e wn ⟨rfl, hwn⟩; subst wn; have HC1 := hid trivial)
                  | fail)
                all_goals go_ret
                all_goals exact ⟨by rw [HR.out]; rfl, HW0.out.trans (HB.out.trans (by repeat (first | exact Bw.refl _ | apply Bw.alloc | apply Bw.drewN | apply Bw.drew)))⟩
              have HV1 := hid hv1
              clear hv1
              cases hv2 : pl n32
              · have HV2 := hid hv2
                have HR := hid (show rgt f = false by have := HF.out (by simp [qTry, HV0.out, HV1.out, HV2.out]); simp [rgt, this])
                clear hv2
                go_wp2_with (first
                  | (go_at_call_of 16 (Value.int .i64 n30); (fail_if_success (have _q := HC0)); refine (rplain_any n30 _ HII.out.1).mono ?_; rw [HV0.out]; rintro e wn ⟨rfl, hwn⟩; subst wn; have HC0 := hid trivial)
                  | (go_at_call_of 16 (Value.int .i64 n31); (fail_if_success (have _q := HC1)); refine (rplain_any n31 _ HII.out.2.1).mono ?_; rw [HV1.out]; rintro e wn ⟨rfl, hwn⟩; subst wn; have HC1 := hid trivial)
                  | (go_at_call_of 16 (Value.int .i64 n32); (fail_if_success (have _q := HC2)); refine (rplain_any n32 _ HII.out.2.2.1).mono ?_; rw [HV2.out]; rintro e wn ⟨rfl, hwn⟩; subst wn; have HC2 := hid trivial)
                  | fail)
                all_goals go_ret
                all_goals exact ⟨by rw [HR.out]; rfl, HW0.out.trans (HB.out.trans (by repeat (first | exact Bw.refl _ | apply Bw.alloc | apply Bw.drewN | apply Bw.drew)))⟩
              have HV2 := hid hv2
              clear hv2
              cases hv3 : pl n33
              · have HV3 := hid hv3
                have HR := hid (show rgt f = false by have := HF.out (by simp [qTry, HV0.out, HV1.out, HV2.out, HV3.out]); simp [rgt, this])
                clear hv3
                go_wp2_with (first
                  | (go_at_call_of 16 (Value.int .i64 n30); (fail_if_success (have _q := HC0)); refine (rplain_any n30 _ HII.out.1).mono ?_; rw [HV0.out]; rintro e wn ⟨rfl, hwn⟩; subst wn; have HC0 := hid trivial)
                  | (go_at_call_of 16 (Value.int .i64 n31); (fail_if_success (have _q := HC1)); refine (rplain_any n31 _ HII.out.2.1).mono ?_; rw [HV1.out]; rintro e wn ⟨rfl, hwn⟩; subst wn; have HC1 := hid trivial)
                  | (go_at_call_of 16 (Value.int .i64 n32); (fail_if_success (have _q := HC2)); refine (rplain_any n32 _ HII.out.2.2.1).mono ?_; rw [HV2.out]; rintro e wn ⟨rfl, hwn⟩; subst wn; have HC2 := hid trivial)
                  | (go_at_call_of 16 (Value.int .i64 n33); (fail_if_success (have _q := HC3)); refine (rplain_any n33 _ HII.out.2.2.2).mono ?_; rw [HV3.out]; rintro e wn ⟨rfl, hwn⟩; subst wn; have HC3 := hid trivial)
                  | fail)
                all_goals go_ret
                all_goals exact ⟨by rw [HR.out]; rfl, HW0.out.trans (HB.out.trans (by repeat (first | exact Bw.refl _ | apply Bw.alloc | apply Bw.drewN | apply Bw.drew)))⟩
              have HV3 := hid hv3
              clear hv3
              have HR := hid (HT.out (by simp [qTry, HV0.out, HV1.out, HV2.out, HV3.out]))
              go_wp2_with (first
                | (go_at_call_of 16 (Value.int .i64 n30); (fail_if_success (have _q := HC0)); refine (rplain_any n30 _ HII.out.1).mono ?_; rw [HV0.out]; rintro e wn ⟨rfl, hwn⟩; subst wn; have HC0 := hid trivial)
                | (go_at_call_of 16 (Value.int .i64 n31); (fail_if_success (have _q := HC1)); refine (rplain_any n31 _ HII.out.2.1).mono ?_; rw [HV1.out]; rintro e wn ⟨rfl, hwn⟩; subst wn; have HC1 := hid trivial)
                | (go_at_call_of 16 (Value.int .i64 n32); (fail_if_success (have _q := HC2)); refine (rplain_any n32 _ HII.out.2.2.1).mono ?_; rw [HV2.out]; rintro e wn ⟨rfl, hwn⟩; subst wn; have HC2 := hid trivial)
                | (go_at_call_of 16 (Value.int .i64 n33); (fail_if_success (have _q := HC3)); refine (rplain_any n33 _ HII.out.2.2.2).mono ?_; rw [HV3.out]; rintro e wn ⟨rfl, hwn⟩; subst wn; have HC3 := hid trivial)
                | fail)
              go_roundw
              case rel => exact ⟨i + 1, by omega, by go_num, HR.out, HB.out.trans (by repeat (first | exact Bw.refl _ | apply Bw.alloc | apply Bw.drewN | apply Bw.drew))⟩
              case measure => simp [intOf]; omega
            · obtain rfl : i = f.tries.length := by omega
              have HQ3 := hid (show f.tries.all qTry = true by have := HAL.out; rwa [List.take_length] at this)
              clear hbw
              go_wp2
              have HR := hid (show rgt f = true by simp [rgt, HP1.out, HP2.out, HP3.out, HQ1.out, HQ2.out, HQ3.out])
              all_goals go_ret
              all_goals exact ⟨by rw [HR.out]; rfl, HW0.out.trans HB.out⟩

end

end Go.Proofs.YtfhnhbpmiodomaaDoor
