/- The document's Same, of images that are the same: contracts. -/
import Derived.Test.YtfhnhbpmiodomaaDoorQk
set_option linter.unusedSimpArgs false
set_option linter.unusedVariables false
namespace Go.Proofs.YtfhnhbpmiodomaaDoor
open Go Go.RowKit

section
variable {w w' : World}

set_option maxRecDepth 100000 in
set_option maxHeartbeats 4000000 in
theorem ints_any (va vb : Value) (l : List Int) (G G' : Nat → Prop) (ha : RInts w G va l) (hb : RInts w G' vb l) :
    Calls Tryd.prog 29 #[va, vb] w fun e w' => e = .returned (.bool true) ∧ Bw w w' := by
  have HA := hid ha
  have HB := hid hb
  have hmx : l.length ≤ 9223372036854775807 := by have := ha.2.2.1; unfold maxLen at this; omega
  obtain ⟨aa, ca, rfl⟩ := ha.form
  obtain ⟨ab, cb, rfl⟩ := hb.form
  clear ha hb
  go_enter Tryd.func29, Tryd.ntmps29
  go_wp2
  go_loopw [5] (fun j wr => ∃ i, i ≤ l.length ∧ j = .int .i64 (i : Nat) ∧ Bw w wr) (fun j _ => l.length - (intOf j).toNat)
  case atStart => exact ⟨0, Nat.zero_le _, rfl, Bw.refl _⟩
  case round =>
    obtain ⟨i, hi, rfl, hbw⟩ := hrel
    have HBW := hid hbw
    by_cases hlt : i < l.length
    · obtain ⟨g1, o1, c1, e1, _, hg1, _, x⟩ := (HA.out.bw hbw).parts hlt (by decide)
      obtain ⟨g2, o2, c2, e2, _, hg2, _, y⟩ := (HB.out.bw hbw).parts hlt (by decide)
      cases e1
      cases e2
      have x0 := x 0 (by decide)
      have y0 := y 0 (by decide)
      simp only [Nat.add_zero, Nat.mul_one, List.getElem?_cons_zero] at x0 y0
      have hlt2 : (i : Int) < (l.length : Int) := by omega
      generalize l[i] = n at x0 y0
      have e1 : (n != n) = false := by simp
      clear x y hbw
      go_wp2
      go_quiet (fail)
      go_wp2
      go_roundw
      case rel => exact ⟨i + 1, by omega, by go_num, HBW.out.trans (by repeat (first | exact Bw.refl _ | apply Bw.alloc | apply Bw.drewN | apply Bw.drew))⟩
      case measure => simp [intOf]; omega
    · go_wp2
      all_goals go_ret
      all_goals exact ⟨rfl, HBW.out⟩

set_option maxRecDepth 100000 in
set_option maxHeartbeats 4000000 in
theorem sameCode_any (x y : MFn) (G G' : Nat → Prop) (hf : y.f = x.f) (ha : RFn w G x) (hb : RFn w G' y) :
    Calls Tryd.prog 30 #[.agg #[.int .i64 x.f.params, .int .i64 x.f.slots, x.vb, x.vc, x.vo, x.vt], .agg #[.int .i64 y.f.params, .int .i64 y.f.slots, y.vb, y.vc, y.vo, y.vt]] w fun e w' => e = .returned (.bool true) ∧ Bw w w' := by
  obtain ⟨f0, xb, xc, xo, xt⟩ := x
  obtain ⟨f, yb, yc, yo, yt⟩ := y
  simp only at hf
  subst hf
  have HA := hid ha
  have HB := hid hb
  obtain ⟨p1, pk1, e1⟩ := ha.b.form
  obtain ⟨p2, pk2, e2⟩ := ha.c.form
  obtain ⟨p3, pk3, e3⟩ := ha.o.form
  obtain ⟨p4, pk4, e4⟩ := ha.t.form
  obtain ⟨q1, qk1, d1⟩ := hb.b.form
  obtain ⟨q2, qk2, d2⟩ := hb.c.form
  obtain ⟨q3, qk3, d3⟩ := hb.o.form
  obtain ⟨q4, qk4, d4⟩ := hb.t.form
  simp only at e1 e2 e3 e4 d1 d2 d3 d4 ⊢
  subst e1 e2 e3 e4 d1 d2 d3 d4
  have HP := hid (show Blk ((w.alloc (.cells #[.int .i64 f.params, .int .i64 f.slots, .slice p1 f.boxes.length pk1, .slice p2 f.caps.length pk2, .slice p3 f.code.length pk3, .slice p4 f.tries.length pk4] 47)).alloc (.cells #[.int .i64 f.params, .int .i64 f.slots, .slice q1 f.boxes.length qk1, .slice q2 f.caps.length qk2, .slice q3 f.code.length qk3, .slice q4 f.tries.length qk4] 47)) w.heap.size #[.int .i64 f.params, .int .i64 f.slots, .slice p1 f.boxes.length pk1, .slice p2 f.caps.length pk2, .slice p3 f.code.length pk3, .slice p4 f.tries.length pk4] 47 from (Blk.new w #[.int .i64 f.params, .int .i64 f.slots, .slice p1 f.boxes.length pk1, .slice p2 f.caps.length pk2, .slice p3 f.code.length pk3, .slice p4 f.tries.length pk4] 47).alloc _)
  have HQ := hid (show Blk ((w.alloc (.cells #[.int .i64 f.params, .int .i64 f.slots, .slice p1 f.boxes.length pk1, .slice p2 f.caps.length pk2, .slice p3 f.code.length pk3, .slice p4 f.tries.length pk4] 47)).alloc (.cells #[.int .i64 f.params, .int .i64 f.slots, .slice q1 f.boxes.length qk1, .slice q2 f.caps.length qk2, .slice q3 f.code.length qk3, .slice q4 f.tries.length qk4] 47)) (w.heap.size + 1) #[.int .i64 f.params, .int .i64 f.slots, .slice q1 f.boxes.length qk1, .slice q2 f.caps.length qk2, .slice q3 f.code.length qk3, .slice q4 f.tries.length qk4] 47 from by have := Blk.new (w.alloc (.cells #[.int .i64 f.params, .int .i64 f.slots, .slice p1 f.boxes.length pk1, .slice p2 f.caps.length pk2, .slice p3 f.code.length pk3, .slice p4 f.tries.length pk4] 47)) #[.int .i64 f.params, .int .i64 f.slots, .slice q1 f.boxes.length qk1, .slice q2 f.caps.length qk2, .slice q3 f.code.length qk3, .slice q4 f.tries.length qk4] 47; simpa only [World.size_alloc] using this)
  have HW0 := hid (show Bw w ((w.alloc (.cells #[.int .i64 f.params, .int .i64 f.slots, .slice p1 f.boxes.length pk1, .slice p2 f.caps.length pk2, .slice p3 f.code.length pk3, .slice p4 f.tries.length pk4] 47)).alloc (.cells #[.int .i64 f.params, .int .i64 f.slots, .slice q1 f.boxes.length qk1, .slice q2 f.caps.length qk2, .slice q3 f.code.length qk3, .slice q4 f.tries.length qk4] 47)) from Bw.alloc (Bw.alloc (Bw.refl w) _) _)
  have m1 : (f.params != f.params) = false := by simp
  have m2 : (f.slots != f.slots) = false := by simp
  have l2 : f.caps.length ≤ 9223372036854775807 := by have := ha.c.2.2.1; unfold maxLen at this; simp only at this; omega
  have l3 : f.code.length ≤ 9223372036854775807 := by have := ha.o.2.2.1; unfold maxLen at this; simp only at this; omega
  have l4 : f.tries.length ≤ 9223372036854775807 := by have := ha.t.2.2.1; unfold maxLen at this; simp only at this; omega
  clear ha hb
  go_enter Tryd.func30, Tryd.ntmps30
  go_wp2_with (first
    | (go_at_call 29; refine (ints_any _ _ _ G G' (RL.bw HA.out.b HW0.out) (RL.bw HB.out.b HW0.out)).mono ?_; rintro e w1 ⟨rfl, hb1⟩; have HBX := hid hb1; have v1 := (HP.out.bw hb1).cell; have v2 := (HQ.out.bw hb1).cell; have vl1 := (HP.out.bw hb1).lt; have vl2 := (HQ.out.bw hb1).lt; clear hb1)
    | fail)
  go_loopw [5] (fun j wr => ∃ i, i ≤ f.caps.length ∧ j = .int .i64 (i : Nat) ∧ Bw ((w.alloc (.cells #[.int .i64 f.params, .int .i64 f.slots, .slice p1 f.boxes.length pk1, .slice p2 f.caps.length pk2, .slice p3 f.code.length pk3, .slice p4 f.tries.length pk4] 47)).alloc (.cells #[.int .i64 f.params, .int .i64 f.slots, .slice q1 f.boxes.length qk1, .slice q2 f.caps.length qk2, .slice q3 f.code.length qk3, .slice q4 f.tries.length qk4] 47)) wr) (fun j _ => f.caps.length - (intOf j).toNat)
  case atStart => exact ⟨0, Nat.zero_le _, rfl, HBX.out⟩
  case round =>
    obtain ⟨i, hi, rfl, hbw⟩ := hrel
    have HBW := hid hbw
    have u1 := (HP.out.bw hbw).cell
    have u2 := (HQ.out.bw hbw).cell
    have ul1 := (HP.out.bw hbw).lt
    have ul2 := (HQ.out.bw hbw).lt
    by_cases hlt : i < f.caps.length
    · obtain ⟨g1, o1, c1, e1, _, hg1, _, x⟩ := (RL.bw HA.out.c (HW0.out.trans hbw)).parts hlt (by decide)
      obtain ⟨g2, o2, c2, e2, _, hg2, _, y⟩ := (RL.bw HB.out.c (HW0.out.trans hbw)).parts hlt (by decide)
      cases e1
      cases e2
      have x0 := x 0 (by decide)
      have y0 := y 0 (by decide)
      have x1 := x 1 (by decide)
      have y1 := y 1 (by decide)
      simp only [Nat.add_zero, Nat.mul_one, ← Nat.add_assoc, capC, List.getElem?_cons_zero, List.getElem?_cons_succ] at x0 y0 x1 y1
      have hlt2 : (i : Int) < (f.caps.length : Int) := by omega
      generalize f.caps[i] = n at x0 y0 x1 y1
      generalize n.1 = n0 at x0 y0 x1 y1
      generalize n.2 = n1 at x0 y0 x1 y1
      have z0 : (n0 != n0) = false := by simp
      have zz0 : (n0 == n0) = true := by simp
      have z1 : (n1 != n1) = false := by simp
      have zz1 : (n1 == n1) = true := by simp
      clear x y hbw
      go_wp2
      go_quiet (fail)
      go_wp2
      go_roundw
      case rel => exact ⟨i + 1, by omega, by go_num, HBW.out.trans (by repeat (first | exact Bw.refl _ | apply Bw.alloc | apply Bw.drewN | apply Bw.drew))⟩
      case measure => simp [intOf]; omega
    · clear hbw
      have hge : ¬ (i : Int) < (f.caps.length : Int) := by omega
      go_wp2
      go_loopw [6] (fun j wr => ∃ i, i ≤ f.code.length ∧ j = .int .i64 (i : Nat) ∧ Bw ((w.alloc (.cells #[.int .i64 f.params, .int .i64 f.slots, .slice p1 f.boxes.length pk1, .slice p2 f.caps.length pk2, .slice p3 f.code.length pk3, .slice p4 f.tries.length pk4] 47)).alloc (.cells #[.int .i64 f.params, .int .i64 f.slots, .slice q1 f.boxes.length qk1, .slice q2 f.caps.length qk2, .slice q3 f.code.length qk3, .slice q4 f.tries.length qk4] 47)) wr) (fun j _ => f.code.length - (intOf j).toNat)
      case atStart => exact ⟨0, Nat.zero_le _, rfl, HBW.out⟩
      case round =>
        obtain ⟨i, hi, rfl, hbw⟩ := hrel
        have HBW := hid hbw
        have u1 := (HP.out.bw hbw).cell
        have u2 := (HQ.out.bw hbw).cell
        have ul1 := (HP.out.bw hbw).lt
        have ul2 := (HQ.out.bw hbw).lt
        by_cases hlt : i < f.code.length
        · obtain ⟨g1, o1, c1, e1, _, hg1, _, x⟩ := (RL.bw HA.out.o (HW0.out.trans hbw)).parts hlt (by decide)
          obtain ⟨g2, o2, c2, e2, _, hg2, _, y⟩ := (RL.bw HB.out.o (HW0.out.trans hbw)).parts hlt (by decide)
          cases e1
          cases e2
          have x0 := x 0 (by decide)
          have y0 := y 0 (by decide)
          have x1 := x 1 (by decide)
          have y1 := y 1 (by decide)
          have x2 := x 2 (by decide)
          have y2 := y 2 (by decide)
          simp only [Nat.add_zero, Nat.mul_one, ← Nat.add_assoc, insC, List.getElem?_cons_zero, List.getElem?_cons_succ] at x0 y0 x1 y1 x2 y2
          have hlt2 : (i : Int) < (f.code.length : Int) := by omega
          generalize f.code[i] = n at x0 y0 x1 y1 x2 y2
          generalize n.1 = n0 at x0 y0 x1 y1 x2 y2
          generalize n.2.1 = n1 at x0 y0 x1 y1 x2 y2
          generalize n.2.2 = n2 at x0 y0 x1 y1 x2 y2
          have z0 : (n0 != n0) = false := by simp
          have zz0 : (n0 == n0) = true := by simp
          have z1 : (n1 != n1) = false := by simp
          have zz1 : (n1 == n1) = true := by simp
          have z2 : (n2 != n2) = false := by simp
          have zz2 : (n2 == n2) = true := by simp
          clear x y hbw
          go_wp2
          go_quiet (fail)
          go_wp2
          go_roundw
          case rel => exact ⟨i + 1, by omega, by go_num, HBW.out.trans (by repeat (first | exact Bw.refl _ | apply Bw.alloc | apply Bw.drewN | apply Bw.drew))⟩
          case measure => simp [intOf]; omega
        · clear hbw
          have hge : ¬ (i : Int) < (f.code.length : Int) := by omega
          go_wp2
          go_loopw [7] (fun j wr => ∃ i, i ≤ f.tries.length ∧ j = .int .i64 (i : Nat) ∧ Bw ((w.alloc (.cells #[.int .i64 f.params, .int .i64 f.slots, .slice p1 f.boxes.length pk1, .slice p2 f.caps.length pk2, .slice p3 f.code.length pk3, .slice p4 f.tries.length pk4] 47)).alloc (.cells #[.int .i64 f.params, .int .i64 f.slots, .slice q1 f.boxes.length qk1, .slice q2 f.caps.length qk2, .slice q3 f.code.length qk3, .slice q4 f.tries.length qk4] 47)) wr) (fun j _ => f.tries.length - (intOf j).toNat)
          case atStart => exact ⟨0, Nat.zero_le _, rfl, HBW.out⟩
          case round =>
            obtain ⟨i, hi, rfl, hbw⟩ := hrel
            have HBW := hid hbw
            have u1 := (HP.out.bw hbw).cell
            have u2 := (HQ.out.bw hbw).cell
            have ul1 := (HP.out.bw hbw).lt
            have ul2 := (HQ.out.bw hbw).lt
            by_cases hlt : i < f.tries.length
            · obtain ⟨g1, o1, c1, e1, _, hg1, _, x⟩ := (RL.bw HA.out.t (HW0.out.trans hbw)).parts hlt (by decide)
              obtain ⟨g2, o2, c2, e2, _, hg2, _, y⟩ := (RL.bw HB.out.t (HW0.out.trans hbw)).parts hlt (by decide)
              cases e1
              cases e2
              have x0 := x 0 (by decide)
              have y0 := y 0 (by decide)
              have x1 := x 1 (by decide)
              have y1 := y 1 (by decide)
              have x2 := x 2 (by decide)
              have y2 := y 2 (by decide)
              have x3 := x 3 (by decide)
              have y3 := y 3 (by decide)
              simp only [Nat.add_zero, Nat.mul_one, ← Nat.add_assoc, tryC, List.getElem?_cons_zero, List.getElem?_cons_succ] at x0 y0 x1 y1 x2 y2 x3 y3
              have hlt2 : (i : Int) < (f.tries.length : Int) := by omega
              generalize f.tries[i] = n at x0 y0 x1 y1 x2 y2 x3 y3
              generalize n.1 = n0 at x0 y0 x1 y1 x2 y2 x3 y3
              generalize n.2.1 = n1 at x0 y0 x1 y1 x2 y2 x3 y3
              generalize n.2.2.1 = n2 at x0 y0 x1 y1 x2 y2 x3 y3
              generalize n.2.2.2 = n3 at x0 y0 x1 y1 x2 y2 x3 y3
              have z0 : (n0 != n0) = false := by simp
              have zz0 : (n0 == n0) = true := by simp
              have z1 : (n1 != n1) = false := by simp
              have zz1 : (n1 == n1) = true := by simp
              have z2 : (n2 != n2) = false := by simp
              have zz2 : (n2 == n2) = true := by simp
              have z3 : (n3 != n3) = false := by simp
              have zz3 : (n3 == n3) = true := by simp
              clear x y hbw
              go_wp2
              go_quiet (fail)
              go_wp2
              go_roundw
              case rel => exact ⟨i + 1, by omega, by go_num, HBW.out.trans (by repeat (first | exact Bw.refl _ | apply Bw.alloc | apply Bw.drewN | apply Bw.drew))⟩
              case measure => simp [intOf]; omega
            · clear hbw
              have hge : ¬ (i : Int) < (f.tries.length : Int) := by omega
              go_wp2
              all_goals go_ret
              all_goals exact ⟨rfl, HW0.out.trans HBW.out⟩

end

end Go.Proofs.YtfhnhbpmiodomaaDoor
