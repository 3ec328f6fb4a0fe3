/- isPlace, covers, hasNext, tryIsRight, ownsAreRight, boxesAreRight, fits: contracts. -/
import Derived.Test.YtcljlmjcjfmppaaDoorVa
set_option linter.unusedSimpArgs false
set_option linter.unusedVariables false
namespace Go.Proofs.YtcljlmjcjfmppaaDoor
open Go Go.RowKit

section
variable {w w' : World}

set_option maxRecDepth 100000 in
set_option maxHeartbeats 1000000 in
theorem isPlace_any (i n : Int) (w : World) : Calls Tryd.prog 14 #[.int .i64 i, .int .i64 n] w fun e w' => e = .returned (.bool (isPl i n)) ∧ w' = w := by
  unfold isPl
  by_cases h0 : 0 ≤ i
  · by_cases h1 : i < n
    · rw [decide_eq_true h0, decide_eq_true h1]
      go_enter Tryd.func14, Tryd.ntmps14
      go_wp2
      all_goals go_ret
      all_goals exact ⟨rfl, rfl⟩
    · rw [decide_eq_true h0, decide_eq_false h1]
      have hb : decide (i < n) = false := decide_eq_false h1
      go_enter Tryd.func14, Tryd.ntmps14
      go_wp2
      all_goals go_ret
      all_goals exact ⟨rfl, rfl⟩
  · rw [decide_eq_false h0]
    have hb : decide (0 ≤ i) = false := decide_eq_false h0
    go_enter Tryd.func14, Tryd.ntmps14
    go_wp2
    all_goals go_ret
    all_goals exact ⟨rfl, rfl⟩

set_option maxRecDepth 100000 in
set_option maxHeartbeats 1000000 in
theorem covers_any (a b c d at' : Int) (w : World) : Calls Tryd.prog 23 #[.agg #[.int .i64 a, .int .i64 b, .int .i64 c, .int .i64 d], .int .i64 at'] w fun e w' => e = .returned (.bool (cov (a, b, c, d) at')) ∧ Bw w w' := by
  unfold cov
  simp only
  by_cases h0 : a ≤ at'
  · by_cases h1 : at' < b
    · rw [decide_eq_true h0, decide_eq_true h1]
      go_enter Tryd.func23, Tryd.ntmps23
      go_wp2
      all_goals go_ret
      all_goals exact ⟨rfl, (by repeat (first | exact Bw.refl _ | apply Bw.alloc | apply Bw.drewN | apply Bw.drew))⟩
    · rw [decide_eq_true h0, decide_eq_false h1]
      have hb : decide (at' < b) = false := decide_eq_false h1
      go_enter Tryd.func23, Tryd.ntmps23
      go_wp2
      all_goals go_ret
      all_goals exact ⟨rfl, (by repeat (first | exact Bw.refl _ | apply Bw.alloc | apply Bw.drewN | apply Bw.drew))⟩
  · rw [decide_eq_false h0]
    have hb : decide (a ≤ at') = false := decide_eq_false h0
    go_enter Tryd.func23, Tryd.ntmps23
    go_wp2
    all_goals go_ret
    all_goals exact ⟨rfl, (by repeat (first | exact Bw.refl _ | apply Bw.alloc | apply Bw.drewN | apply Bw.drew))⟩

set_option maxRecDepth 100000 in
set_option maxHeartbeats 1000000 in
theorem hasNext_any (op : Int) (w : World) : Calls Tryd.prog 30 #[.int .i64 op] w fun e w' => e = .returned (.bool (nxt op)) ∧ w' = w := by
  by_cases h20 : op = 20
  · subst h20
    go_enter Tryd.func30, Tryd.ntmps30
    go_wp2
    all_goals go_ret
    all_goals exact ⟨rfl, rfl⟩
  by_cases h24 : op = 24
  · subst h24
    go_enter Tryd.func30, Tryd.ntmps30
    go_wp2
    all_goals go_ret
    all_goals exact ⟨rfl, rfl⟩
  by_cases h27 : op = 27
  · subst h27
    go_enter Tryd.func30, Tryd.ntmps30
    go_wp2
    all_goals go_ret
    all_goals exact ⟨rfl, rfl⟩
  by_cases h28 : op = 28
  · subst h28
    go_enter Tryd.func30, Tryd.ntmps30
    go_wp2
    all_goals go_ret
    all_goals exact ⟨rfl, rfl⟩
  have HR := hid (show nxt op = true by simp [nxt, h20, h24, h27, h28])
  have b20 : (op == 20) = false := by simp [h20]
  have b24 : (op == 24) = false := by simp [h24]
  have b27 : (op == 27) = false := by simp [h27]
  have b28 : (op == 28) = false := by simp [h28]
  clear h20 h24 h27 h28
  rw [HR.out]
  go_enter Tryd.func30, Tryd.ntmps30
  go_wp2
  all_goals go_ret
  all_goals exact ⟨rfl, rfl⟩

set_option maxRecDepth 100000 in
set_option maxHeartbeats 1000000 in
theorem tryIsRight_any (a b c d n : Int) (w : World) : Calls Tryd.prog 19 #[.agg #[.int .i64 a, .int .i64 b, .int .i64 c, .int .i64 d], .int .i64 n] w fun e w' => e = .returned (.bool (tryR (a, b, c, d) n)) ∧ Bw w w' := by
  by_cases h1 : 0 ≤ a
  rotate_left
  · have hb : decide (0 ≤ a) = false := decide_eq_false h1
    have HR := hid (show tryR (a, b, c, d) n = false by simp [tryR, hb])
    rw [HR.out]
    go_enter Tryd.func19, Tryd.ntmps19
    go_wp2
    all_goals go_ret
    all_goals exact ⟨rfl, (by repeat (first | exact Bw.refl _ | apply Bw.alloc | apply Bw.drewN | apply Bw.drew))⟩
  have hb1 : decide (0 ≤ a) = true := decide_eq_true h1
  by_cases h2 : a ≤ b
  rotate_left
  · have hb : decide (a ≤ b) = false := decide_eq_false h2
    have HR := hid (show tryR (a, b, c, d) n = false by simp [tryR, hb])
    rw [HR.out]
    go_enter Tryd.func19, Tryd.ntmps19
    go_wp2
    all_goals go_ret
    all_goals exact ⟨rfl, (by repeat (first | exact Bw.refl _ | apply Bw.alloc | apply Bw.drewN | apply Bw.drew))⟩
  have hb2 : decide (a ≤ b) = true := decide_eq_true h2
  by_cases h3 : b ≤ c
  rotate_left
  · have hb : decide (b ≤ c) = false := decide_eq_false h3
    have HR := hid (show tryR (a, b, c, d) n = false by simp [tryR, hb])
    rw [HR.out]
    go_enter Tryd.func19, Tryd.ntmps19
    go_wp2
    all_goals go_ret
    all_goals exact ⟨rfl, (by repeat (first | exact Bw.refl _ | apply Bw.alloc | apply Bw.drewN | apply Bw.drew))⟩
  have hb3 : decide (b ≤ c) = true := decide_eq_true h3
  by_cases h4 : c < n
  rotate_left
  · have hb : decide (c < n) = false := decide_eq_false h4
    have HR := hid (show tryR (a, b, c, d) n = false by simp [tryR, hb])
    rw [HR.out]
    go_enter Tryd.func19, Tryd.ntmps19
    go_wp2
    all_goals go_ret
    all_goals exact ⟨rfl, (by repeat (first | exact Bw.refl _ | apply Bw.alloc | apply Bw.drewN | apply Bw.drew))⟩
  have hb4 : decide (c < n) = true := decide_eq_true h4
  have HR := hid (show tryR (a, b, c, d) n = isPl d 256 by simp [tryR, hb1, hb2, hb3, hb4])
  rw [HR.out]
  clear h1 h2 h3 h4
  go_enter Tryd.func19, Tryd.ntmps19
  go_wp2_with (first
    | (go_at_call 14; refine (isPlace_any _ _ _).mono ?_; rintro e w1 ⟨rfl, hw1⟩; subst w1)
    | fail)
  all_goals go_ret
  all_goals exact ⟨rfl, (by repeat (first | exact Bw.refl _ | apply Bw.alloc | apply Bw.drewN | apply Bw.drew))⟩

set_option maxRecDepth 100000 in
set_option maxHeartbeats 1000000 in
theorem owns_any (v : Value) (l : List (Int × Int)) (G : Nat → Prop) (ha : RCaps w G v l) :
    Calls Tryd.prog 17 #[v] w fun e w' => e = .returned (.bool (ownR l)) ∧ Bw w w' := by
  have HA := hid ha
  have hmx : l.length ≤ 9223372036854775807 := by have := ha.2.2.1; unfold maxLen at this; omega
  obtain ⟨aa, ca, rfl⟩ := ha.form
  unfold ownR
  clear ha
  go_enter Tryd.func17, Tryd.ntmps17
  go_wp2
  go_loopw [7] (fun j wr => ∃ i, i ≤ l.length ∧ j = .int .i64 (i : Nat) ∧ (l.take i).all (fun p => p.1 == 0 || p.1 == 1) = true ∧ Bw w wr) (fun j _ => l.length - (intOf j).toNat)
  case atStart => exact ⟨0, Nat.zero_le _, rfl, rfl, Bw.refl _⟩
  case round =>
    obtain ⟨i, hi, rfl, hal, hbw⟩ := hrel
    have HBW := hid hbw
    have HAL := hid hal
    clear hal
    by_cases hlt : i < l.length
    · obtain ⟨g1, o1, c1, e1, _, hg1, _, x⟩ := (RL.bw HA.out hbw).parts hlt (by decide)
      cases e1
      have x0 := x 0 (by decide)
      have x1 := x 1 (by decide)
      simp only [Nat.add_zero, ← Nat.add_assoc, capC, List.getElem?_cons_zero, List.getElem?_cons_succ] at x0 x1
      have hlt2 : (i : Int) < (l.length : Int) := by omega
      have HT := hid (fun h => all_snoc (p := fun p => p.1 == 0 || p.1 == 1) hlt HAL.out h)
      have HF := hid (all_not (p := fun p => p.1 == 0 || p.1 == 1) hlt)
      generalize l[i] = y at x0 x1 HT HF
      obtain ⟨p, q⟩ := y
      simp only at x0 x1
      clear x hbw
      by_cases h0 : p = 0
      · have hb0 : (p != 0) = false := by simp [h0]
        have HR := hid (HT.out (by simp [h0]))
        clear h0
        go_wp2
        go_roundw
        case rel => exact ⟨i + 1, by omega, by go_num, HR.out, HBW.out.trans (by repeat (first | exact Bw.refl _ | apply Bw.alloc | apply Bw.drewN | apply Bw.drew))⟩
        case measure => simp [intOf]; omega
      · have hb0 : (p != 0) = true := by simp [h0]
        by_cases h1 : p = 1
        · have hb1 : (p != 1) = false := by simp [h1]
          have HR := hid (HT.out (by simp [h1]))
          clear h0 h1
          go_wp2
          go_roundw
          case rel => exact ⟨i + 1, by omega, by go_num, HR.out, HBW.out.trans (by repeat (first | exact Bw.refl _ | apply Bw.alloc | apply Bw.drewN | apply Bw.drew))⟩
          case measure => simp [intOf]; omega
        · have hb1 : (p != 1) = true := by simp [h1]
          have HR := hid (HF.out (by simp [h0, h1]))
          clear h0 h1
          go_wp2
          all_goals go_ret
          all_goals exact ⟨by rw [HR.out]; rfl, HBW.out.trans (by repeat (first | exact Bw.refl _ | apply Bw.alloc | apply Bw.drewN | apply Bw.drew))⟩
    · obtain rfl : i = l.length := by omega
      have HR := hid (show l.all (fun p => p.1 == 0 || p.1 == 1) = true by have := HAL.out; rwa [List.take_length] at this)
      go_wp2
      all_goals go_ret
      all_goals exact ⟨by rw [HR.out]; rfl, HBW.out⟩

theorem boxR_step {p least x : Int} {t : List Int} (h1 : ¬ x < least) (h2 : ¬ p ≤ x) : boxR p least (x :: t) = boxR p (x + 1) t := by
  unfold boxR; rw [if_neg (by omega)]; cases t <;> rfl

set_option maxRecDepth 100000 in
set_option maxHeartbeats 1000000 in
theorem boxes_any (x : MFn) (G : Nat → Prop) (ha : RFn w G x) :
    Calls Tryd.prog 16 #[.agg #[.int .i64 x.f.params, .int .i64 x.f.slots, x.vb, x.vc, x.vo, x.vt]] w fun e w' => e = .returned (.bool (boxR x.f.params 0 x.f.boxes)) ∧ Bw w w' := by
  obtain ⟨f, xb, xc, xo, xt⟩ := x
  obtain ⟨a1, c1, e1⟩ := ha.b.form
  obtain ⟨a2, c2, e2⟩ := ha.c.form
  obtain ⟨a3, c3, e3⟩ := ha.o.form
  obtain ⟨a4, c4, e4⟩ := ha.t.form
  simp only at e1 e2 e3 e4 ⊢
  subst e1 e2 e3 e4
  have HA := hid ha
  have HI1 := ha.p
  unfold I64 at HI1
  simp only at HI1
  have hmx : f.boxes.length ≤ 9223372036854775807 := by have := ha.b.2.2.1; unfold maxLen at this; simp only at this; omega
  obtain ⟨W0, hW0⟩ : ∃ W0, W0 = w.alloc (.cells #[.int .i64 f.params, .int .i64 f.slots, .slice a1 f.boxes.length c1, .slice a2 f.caps.length c2, .slice a3 f.code.length c3, .slice a4 f.tries.length c4] 38) := ⟨_, rfl⟩
  have HWE := hid hW0
  have HW0 := hid (show Bw w W0 from by rw [hW0]; exact Bw.alloc (Bw.refl w) _)
  have HP := hid (show Blk W0 w.heap.size #[.int .i64 f.params, .int .i64 f.slots, .slice a1 f.boxes.length c1, .slice a2 f.caps.length c2, .slice a3 f.code.length c3, .slice a4 f.tries.length c4] 38 from by rw [hW0]; exact Blk.new w _ 38)
  clear ha hW0
  go_enter Tryd.func16, Tryd.ntmps16
  go_wp2
  go_loopw [3, 9] (fun ls j wr => ∃ i k, i ≤ f.boxes.length ∧ j = .int .i64 (i : Nat) ∧ ls = .int .i64 k ∧ boxR f.params 0 f.boxes = boxR f.params k (f.boxes.drop i) ∧ Bw W0 wr) (fun _ j _ => f.boxes.length - (intOf j).toNat)
  case atStart => exact ⟨0, 0, Nat.zero_le _, rfl, rfl, rfl, by rw [← HWE.out]; exact Bw.refl _⟩
  case round =>
    obtain ⟨i, k, hi, rfl, rfl, he, hbw⟩ := hrel
    have HBW := hid hbw
    have HE := hid he
    have u := (HP.out.bw hbw).cell
    have ul := (HP.out.bw hbw).lt
    clear he
    by_cases hlt : i < f.boxes.length
    · obtain ⟨g1, o1, d1, e1, _, hg1, _, x⟩ := (RL.bw HA.out.b (HW0.out.trans hbw)).parts hlt (by decide)
      cases e1
      have x0 := x 0 (by decide)
      simp only [Nat.add_zero, Nat.mul_one, List.getElem?_cons_zero] at x0
      have hlt2 : (i : Int) < (f.boxes.length : Int) := by omega
      have hdr : f.boxes.drop i = f.boxes[i] :: f.boxes.drop (i + 1) := List.drop_eq_getElem_cons hlt
      generalize f.boxes[i] = y at x0 hdr
      have HD := hid hdr
      clear x hbw hdr
      by_cases h0 : y < k
      · have hb0 : decide (y < k) = true := decide_eq_true h0
        have HR := hid (show boxR f.params 0 f.boxes = false by rw [HE.out, HD.out]; unfold boxR; rw [if_pos (.inl h0)])
        go_wp2
        all_goals go_ret
        all_goals exact ⟨by rw [HR.out]; rfl, HW0.out.trans (HBW.out.trans (by repeat (first | exact Bw.refl _ | apply Bw.alloc | apply Bw.drewN | apply Bw.drew)))⟩
      · have hb0 : decide (y < k) = false := decide_eq_false h0
        by_cases h1 : f.params ≤ y
        · have hb1 : decide (f.params ≤ y) = true := decide_eq_true h1
          have HR := hid (show boxR f.params 0 f.boxes = false by rw [HE.out, HD.out]; unfold boxR; rw [if_pos (.inr h1)])
          go_wp2
          all_goals go_ret
          all_goals exact ⟨by rw [HR.out]; rfl, HW0.out.trans (HBW.out.trans (by repeat (first | exact Bw.refl _ | apply Bw.alloc | apply Bw.drewN | apply Bw.drew)))⟩
        · have hb1 : decide (f.params ≤ y) = false := decide_eq_false h1
          have hy1 : -9223372036854775808 ≤ y + 1 ∨ True := .inr trivial
          have hy2 : y + 1 ≤ 9223372036854775807 := by omega
          have HR := hid (show boxR f.params 0 f.boxes = boxR f.params (y + 1) (f.boxes.drop (i + 1)) by rw [HE.out, HD.out, boxR_step h0 h1])
          by_cases hy3 : -9223372036854775809 ≤ y
          · go_wp2
            go_roundw
            case rel => exact ⟨i + 1, y + 1, by omega, by go_num, by go_num, HR.out, HBW.out.trans (by repeat (first | exact Bw.refl _ | apply Bw.alloc | apply Bw.drewN | apply Bw.drew))⟩
            case measure => simp [intOf]; omega
          · exact absurd (HA.out.b.2.1) (fun h => by
              have := HD.out
              have hm : y ∈ f.boxes := List.mem_of_mem_drop (i := i) (by rw [this]; simp)
              have := h y hm
              unfold I64 at this
              omega)
    · obtain rfl : i = f.boxes.length := by omega
      have HR := hid (show boxR f.params 0 f.boxes = true by rw [HE.out, List.drop_length]; rfl)
      go_wp2
      all_goals go_ret
      all_goals exact ⟨by rw [HR.out]; rfl, HW0.out.trans HBW.out⟩

end

end Go.Proofs.YtcljlmjcjfmppaaDoor
