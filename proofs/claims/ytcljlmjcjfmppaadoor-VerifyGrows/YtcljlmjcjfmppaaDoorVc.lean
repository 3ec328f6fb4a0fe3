/- rangeOf, capsFit: contracts. -/
import Derived.Test.YtcljlmjcjfmppaaDoorVb
set_option linter.unusedSimpArgs false
set_option linter.unusedVariables false
namespace Go.Proofs.YtcljlmjcjfmppaaDoor
open Go Go.RowKit

/-- An image's memory by its lists' lengths. -/
theorem RIm.forms {w : World} {G : Nat → Prop} {vf vs vk : Value} {m : AIm} (h : RIm w G vf vs vk m) : ∃ af kf az ks ak kk, vf = .slice af m.funs.length kf ∧ vs = .slice az m.strs.length ks ∧ vk = .slice ak m.keys.length kk := by
  obtain ⟨⟨ms, em, hf⟩, hs, ⟨mk, ek, hy⟩, _⟩ := h
  obtain ⟨af, kf, e1⟩ := hf.form
  obtain ⟨az, ks, e2⟩ := hs.form
  obtain ⟨ak, kk, e3⟩ := hy.form
  exact ⟨af, kf, az, ks, ak, kk, by rw [e1, ← em, List.length_map], e2, by rw [e3, ← ek, List.length_map]⟩

theorem capF_all {f : AFn} {l : List (Int × Int)} : capF f l = l.all (fun p => isPl p.2 (if p.1 = 1 then f.slots else f.caps.length)) := rfl

section
variable {w w' : World}

set_option maxRecDepth 100000 in
set_option maxHeartbeats 2000000 in
theorem capsFit_any (v : Value) (l : List (Int × Int)) (G G' : Nat → Prop) (x : MFn) (ha : RFn w G x) (hv : RCaps w G' v l) :
    Calls Tryd.prog 28 #[v, .agg #[.int .i64 x.f.params, .int .i64 x.f.slots, x.vb, x.vc, x.vo, x.vt]] w fun e w' => e = .returned (.bool (capF x.f l)) ∧ Bw w w' := by
  obtain ⟨f, xb, xc, xo, xt⟩ := x
  obtain ⟨a1, c1, e1⟩ := ha.b.form
  obtain ⟨a2, c2, e2⟩ := ha.c.form
  obtain ⟨a3, c3, e3⟩ := ha.o.form
  obtain ⟨a4, c4, e4⟩ := ha.t.form
  simp only at e1 e2 e3 e4 ⊢
  subst e1 e2 e3 e4
  have HA := hid hv
  have hmx : l.length ≤ 9223372036854775807 := by have := hv.2.2.1; unfold maxLen at this; omega
  obtain ⟨aa, ca, rfl⟩ := hv.form
  rw [capF_all]
  obtain ⟨W0, hW0⟩ : ∃ W0, W0 = w.alloc (.cells #[.int .i64 f.params, .int .i64 f.slots, .slice a1 f.boxes.length c1, .slice a2 f.caps.length c2, .slice a3 f.code.length c3, .slice a4 f.tries.length c4] 38) := ⟨_, rfl⟩
  have HWE := hid hW0
  have HW0 := hid (show Bw w W0 from by rw [hW0]; exact Bw.alloc (Bw.refl w) _)
  have HP := hid (show Blk W0 w.heap.size #[.int .i64 f.params, .int .i64 f.slots, .slice a1 f.boxes.length c1, .slice a2 f.caps.length c2, .slice a3 f.code.length c3, .slice a4 f.tries.length c4] 38 from by rw [hW0]; exact Blk.new w _ 38)
  clear ha hv hW0
  go_enter Tryd.func28, Tryd.ntmps28
  go_wp2
  go_loopw [10] (fun j wr => ∃ i, i ≤ l.length ∧ j = .int .i64 (i : Nat) ∧ (l.take i).all (fun p => isPl p.2 (if p.1 = 1 then f.slots else f.caps.length)) = true ∧ Bw W0 wr) (fun j _ => l.length - (intOf j).toNat)
  case atStart => exact ⟨0, Nat.zero_le _, rfl, rfl, by rw [← HWE.out]; exact Bw.refl _⟩
  case round =>
    obtain ⟨i, hi, rfl, hal, hbw⟩ := hrel
    have HBW := hid hbw
    have HAL := hid hal
    have u := (HP.out.bw hbw).cell
    have ul := (HP.out.bw hbw).lt
    clear hal
    by_cases hlt : i < l.length
    · obtain ⟨g1, o1, d1, e1, _, hg1, _, x⟩ := (RL.bw HA.out (HW0.out.trans hbw)).parts hlt (by decide)
      cases e1
      have x0 := x 0 (by decide)
      have x1 := x 1 (by decide)
      simp only [Nat.add_zero, ← Nat.add_assoc, capC, List.getElem?_cons_zero, List.getElem?_cons_succ] at x0 x1
      have hlt2 : (i : Int) < (l.length : Int) := by omega
      have HT := hid (fun h => all_snoc (p := fun p => isPl p.2 (if p.1 = 1 then f.slots else f.caps.length)) hlt HAL.out h)
      have HF := hid (all_not (p := fun p => isPl p.2 (if p.1 = 1 then f.slots else f.caps.length)) hlt)
      generalize l[i] = y at x0 x1 HT HF
      obtain ⟨p, q⟩ := y
      simp only at x0 x1 HT HF
      clear x hbw
      by_cases h1 : p = 1
      · have hb1 : (p == 1) = true := by simp [h1]
        rw [if_pos h1] at HT HF
        clear h1
        cases hq : isPl q f.slots
        · have HR := hid (HF.out hq)
          have HQ := hid hq
          clear hq
          go_wp2_with (first
            | (go_at_call 14; refine (isPlace_any q f.slots _).mono ?_; rw [HQ.out]; rintro e w1 ⟨rfl, hw1⟩; subst w1)
            | fail)
          all_goals go_ret
          all_goals exact ⟨by rw [HR.out]; rfl, HW0.out.trans (HBW.out.trans (by repeat (first | exact Bw.refl _ | apply Bw.alloc | apply Bw.drewN | apply Bw.drew)))⟩
        · have HR := hid (HT.out hq)
          have HQ := hid hq
          clear hq
          go_wp2_with (first
            | (go_at_call 14; refine (isPlace_any q f.slots _).mono ?_; rw [HQ.out]; rintro e w1 ⟨rfl, hw1⟩; subst w1)
            | fail)
          go_roundw
          case rel => exact ⟨i + 1, by omega, by go_num, HR.out, HBW.out.trans (by repeat (first | exact Bw.refl _ | apply Bw.alloc | apply Bw.drewN | apply Bw.drew))⟩
          case measure => simp [intOf]; omega
      · have hb1 : (p == 1) = false := by simp [h1]
        rw [if_neg h1] at HT HF
        clear h1
        cases hq : isPl q f.caps.length
        · have HR := hid (HF.out hq)
          have HQ := hid hq
          clear hq
          go_wp2_with (first
            | (go_at_call 14; refine (isPlace_any q f.caps.length _).mono ?_; rw [HQ.out]; rintro e w1 ⟨rfl, hw1⟩; subst w1)
            | fail)
          all_goals go_ret
          all_goals exact ⟨by rw [HR.out]; rfl, HW0.out.trans (HBW.out.trans (by repeat (first | exact Bw.refl _ | apply Bw.alloc | apply Bw.drewN | apply Bw.drew)))⟩
        · have HR := hid (HT.out hq)
          have HQ := hid hq
          clear hq
          go_wp2_with (first
            | (go_at_call 14; refine (isPlace_any q f.caps.length _).mono ?_; rw [HQ.out]; rintro e w1 ⟨rfl, hw1⟩; subst w1)
            | fail)
          go_roundw
          case rel => exact ⟨i + 1, by omega, by go_num, HR.out, HBW.out.trans (by repeat (first | exact Bw.refl _ | apply Bw.alloc | apply Bw.drewN | apply Bw.drew))⟩
          case measure => simp [intOf]; omega
    · obtain rfl : i = l.length := by omega
      have HR := hid (show l.all (fun p => isPl p.2 (if p.1 = 1 then f.slots else f.caps.length)) = true by have := HAL.out; rwa [List.take_length] at this)
      go_wp2
      all_goals go_ret
      all_goals exact ⟨by rw [HR.out]; rfl, HW0.out.trans HBW.out⟩

set_option maxRecDepth 100000 in
set_option maxHeartbeats 2000000 in
theorem rangeOf_any (m : AIm) (G : Nat → Prop) (af az ak : Option Addr) (kf ks kk : Nat) (x : MFn) (k : Nat) (op a bb : Int) (ha : RFn w G x) (hk : k < x.f.code.length) (hop : x.f.code[k] = (op, a, bb)) (hk2 : x.f.code.length ≤ 65536) :
    Calls Tryd.prog 26 #[.agg #[.slice af m.funs.length kf, .slice az m.strs.length ks, .slice ak m.keys.length kk, .int .i64 m.globals], .agg #[.int .i64 x.f.params, .int .i64 x.f.slots, x.vb, x.vc, x.vo, x.vt], .int .i64 k] w fun e w' => e = .returned (.tuple #[.int .i64 (rngM m x.f k op).1, .int .i64 (rngM m x.f k op).2]) ∧ Bw w w' := by
  obtain ⟨f, xb, xc, xo, xt⟩ := x
  obtain ⟨a1, c1, e1⟩ := ha.b.form
  obtain ⟨a2, c2, e2⟩ := ha.c.form
  obtain ⟨a3, c3, e3⟩ := ha.o.form
  obtain ⟨a4, c4, e4⟩ := ha.t.form
  simp only at e1 e2 e3 e4 hk hop hk2 ⊢
  subst e1 e2 e3 e4
  obtain ⟨g1, o1, d1, e1, _, hg1, _, y⟩ := ha.o.parts hk (by decide)
  simp only at e1 y
  cases e1
  have y0 := y 0 (by decide)
  simp only [Nat.add_zero, insC, List.getElem?_cons_zero, hop] at y0
  have hk3 : (k : Int) < (f.code.length : Int) := by omega
  have hk4 : (k : Int) + 1 ≤ 9223372036854775807 := by omega
  clear ha hop y
  by_cases h0 : op = 0
  · subst h0
    go_enter Tryd.func26, Tryd.ntmps26
    go_wp2
    all_goals go_ret2
    all_goals exact ⟨rfl, (by repeat (first | exact Bw.refl _ | apply Bw.alloc | apply Bw.drewN | apply Bw.drew))⟩
  by_cases h1 : op = 1
  · subst h1
    go_enter Tryd.func26, Tryd.ntmps26
    go_wp2
    all_goals go_ret2
    all_goals exact ⟨rfl, (by repeat (first | exact Bw.refl _ | apply Bw.alloc | apply Bw.drewN | apply Bw.drew))⟩
  by_cases h2 : op = 2
  · subst h2
    go_enter Tryd.func26, Tryd.ntmps26
    go_wp2
    go_quiet (fail)
    go_wp2
    all_goals go_ret2
    all_goals exact ⟨rfl, (by repeat (first | exact Bw.refl _ | apply Bw.alloc | apply Bw.drewN | apply Bw.drew))⟩
  by_cases h3 : op = 3
  · subst h3
    go_enter Tryd.func26, Tryd.ntmps26
    go_wp2
    all_goals go_ret2
    all_goals exact ⟨rfl, (by repeat (first | exact Bw.refl _ | apply Bw.alloc | apply Bw.drewN | apply Bw.drew))⟩
  by_cases h5 : op = 5
  · subst h5
    go_enter Tryd.func26, Tryd.ntmps26
    go_wp2
    go_quiet (fail)
    go_wp2
    all_goals go_ret2
    all_goals exact ⟨rfl, (by repeat (first | exact Bw.refl _ | apply Bw.alloc | apply Bw.drewN | apply Bw.drew))⟩
  by_cases h6 : op = 6
  · subst h6
    go_enter Tryd.func26, Tryd.ntmps26
    go_wp2
    go_quiet (fail)
    go_wp2
    all_goals go_ret2
    all_goals exact ⟨rfl, (by repeat (first | exact Bw.refl _ | apply Bw.alloc | apply Bw.drewN | apply Bw.drew))⟩
  by_cases h7 : op = 7
  · subst h7
    go_enter Tryd.func26, Tryd.ntmps26
    go_wp2
    go_quiet (fail)
    go_wp2
    all_goals go_ret2
    all_goals exact ⟨rfl, (by repeat (first | exact Bw.refl _ | apply Bw.alloc | apply Bw.drewN | apply Bw.drew))⟩
  by_cases h8 : op = 8
  · subst h8
    go_enter Tryd.func26, Tryd.ntmps26
    go_wp2
    go_quiet (fail)
    go_wp2
    all_goals go_ret2
    all_goals exact ⟨rfl, (by repeat (first | exact Bw.refl _ | apply Bw.alloc | apply Bw.drewN | apply Bw.drew))⟩
  by_cases h9 : op = 9
  · subst h9
    go_enter Tryd.func26, Tryd.ntmps26
    go_wp2
    go_quiet (fail)
    go_wp2
    all_goals go_ret2
    all_goals exact ⟨rfl, (by repeat (first | exact Bw.refl _ | apply Bw.alloc | apply Bw.drewN | apply Bw.drew))⟩
  by_cases h10 : op = 10
  · subst h10
    go_enter Tryd.func26, Tryd.ntmps26
    go_wp2
    go_quiet (fail)
    go_wp2
    all_goals go_ret2
    all_goals exact ⟨rfl, (by repeat (first | exact Bw.refl _ | apply Bw.alloc | apply Bw.drewN | apply Bw.drew))⟩
  by_cases h11 : op = 11
  · subst h11
    go_enter Tryd.func26, Tryd.ntmps26
    go_wp2
    go_quiet (fail)
    go_wp2
    all_goals go_ret2
    all_goals exact ⟨rfl, (by repeat (first | exact Bw.refl _ | apply Bw.alloc | apply Bw.drewN | apply Bw.drew))⟩
  by_cases h12 : op = 12
  · subst h12
    go_enter Tryd.func26, Tryd.ntmps26
    go_wp2
    go_quiet (fail)
    go_wp2
    all_goals go_ret2
    all_goals exact ⟨rfl, (by repeat (first | exact Bw.refl _ | apply Bw.alloc | apply Bw.drewN | apply Bw.drew))⟩
  by_cases h13 : op = 13
  · subst h13
    go_enter Tryd.func26, Tryd.ntmps26
    go_wp2
    go_quiet (fail)
    go_wp2
    all_goals go_ret2
    all_goals exact ⟨rfl, (by repeat (first | exact Bw.refl _ | apply Bw.alloc | apply Bw.drewN | apply Bw.drew))⟩
  by_cases h14 : op = 14
  · subst h14
    go_enter Tryd.func26, Tryd.ntmps26
    go_wp2
    all_goals go_ret2
    all_goals exact ⟨rfl, (by repeat (first | exact Bw.refl _ | apply Bw.alloc | apply Bw.drewN | apply Bw.drew))⟩
  by_cases h15 : op = 15
  · subst h15
    go_enter Tryd.func26, Tryd.ntmps26
    go_wp2
    go_quiet (fail)
    go_wp2
    all_goals go_ret2
    all_goals exact ⟨rfl, (by repeat (first | exact Bw.refl _ | apply Bw.alloc | apply Bw.drewN | apply Bw.drew))⟩
  by_cases h16 : op = 16
  · subst h16
    go_enter Tryd.func26, Tryd.ntmps26
    go_wp2
    go_quiet (fail)
    go_wp2
    all_goals go_ret2
    all_goals exact ⟨rfl, (by repeat (first | exact Bw.refl _ | apply Bw.alloc | apply Bw.drewN | apply Bw.drew))⟩
  by_cases h17 : op = 17
  · subst h17
    go_enter Tryd.func26, Tryd.ntmps26
    go_wp2
    all_goals go_ret2
    all_goals exact ⟨rfl, (by repeat (first | exact Bw.refl _ | apply Bw.alloc | apply Bw.drewN | apply Bw.drew))⟩
  by_cases h20 : op = 20
  · subst h20
    go_enter Tryd.func26, Tryd.ntmps26
    go_wp2
    go_quiet (fail)
    go_wp2
    all_goals go_ret2
    all_goals exact ⟨rfl, (by repeat (first | exact Bw.refl _ | apply Bw.alloc | apply Bw.drewN | apply Bw.drew))⟩
  by_cases h21 : op = 21
  · subst h21
    go_enter Tryd.func26, Tryd.ntmps26
    go_wp2
    go_quiet (fail)
    go_wp2
    all_goals go_ret2
    all_goals exact ⟨rfl, (by repeat (first | exact Bw.refl _ | apply Bw.alloc | apply Bw.drewN | apply Bw.drew))⟩
  by_cases h22 : op = 22
  · subst h22
    go_enter Tryd.func26, Tryd.ntmps26
    go_wp2
    go_quiet (fail)
    go_wp2
    all_goals go_ret2
    all_goals exact ⟨rfl, (by repeat (first | exact Bw.refl _ | apply Bw.alloc | apply Bw.drewN | apply Bw.drew))⟩
  by_cases h23 : op = 23
  · subst h23
    go_enter Tryd.func26, Tryd.ntmps26
    go_wp2
    go_quiet (fail)
    go_wp2
    all_goals go_ret2
    all_goals exact ⟨rfl, (by repeat (first | exact Bw.refl _ | apply Bw.alloc | apply Bw.drewN | apply Bw.drew))⟩
  by_cases h24 : op = 24
  · subst h24
    go_enter Tryd.func26, Tryd.ntmps26
    go_wp2
    all_goals go_ret2
    all_goals exact ⟨rfl, (by repeat (first | exact Bw.refl _ | apply Bw.alloc | apply Bw.drewN | apply Bw.drew))⟩
  by_cases h25 : op = 25
  · subst h25
    go_enter Tryd.func26, Tryd.ntmps26
    go_wp2
    all_goals go_ret2
    all_goals exact ⟨rfl, (by repeat (first | exact Bw.refl _ | apply Bw.alloc | apply Bw.drewN | apply Bw.drew))⟩
  by_cases h26 : op = 26
  · subst h26
    go_enter Tryd.func26, Tryd.ntmps26
    go_wp2
    all_goals go_ret2
    all_goals exact ⟨rfl, (by repeat (first | exact Bw.refl _ | apply Bw.alloc | apply Bw.drewN | apply Bw.drew))⟩
  by_cases h31 : op = 31
  · subst h31
    go_enter Tryd.func26, Tryd.ntmps26
    go_wp2
    go_quiet (fail)
    go_wp2
    all_goals go_ret2
    all_goals exact ⟨rfl, (by repeat (first | exact Bw.refl _ | apply Bw.alloc | apply Bw.drewN | apply Bw.drew))⟩
  by_cases h32 : op = 32
  · subst h32
    go_enter Tryd.func26, Tryd.ntmps26
    go_wp2
    go_quiet (fail)
    go_wp2
    all_goals go_ret2
    all_goals exact ⟨rfl, (by repeat (first | exact Bw.refl _ | apply Bw.alloc | apply Bw.drewN | apply Bw.drew))⟩
  have HR := hid (show rngM m f k op = (0, 1) by unfold rngM; simp [h0, h1, h2, h3, h5, h6, h7, h8, h9, h10, h11, h12, h13, h14, h15, h16, h17, h20, h21, h22, h23, h24, h25, h26, h31, h32])
  have b0 : (op == 0) = false := by simp [h0]
  have b1 : (op == 1) = false := by simp [h1]
  have b2 : (op == 2) = false := by simp [h2]
  have b3 : (op == 3) = false := by simp [h3]
  have b5 : (op == 5) = false := by simp [h5]
  have b6 : (op == 6) = false := by simp [h6]
  have b7 : (op == 7) = false := by simp [h7]
  have b8 : (op == 8) = false := by simp [h8]
  have b9 : (op == 9) = false := by simp [h9]
  have b10 : (op == 10) = false := by simp [h10]
  have b11 : (op == 11) = false := by simp [h11]
  have b12 : (op == 12) = false := by simp [h12]
  have b13 : (op == 13) = false := by simp [h13]
  have b14 : (op == 14) = false := by simp [h14]
  have b15 : (op == 15) = false := by simp [h15]
  have b16 : (op == 16) = false := by simp [h16]
  have b17 : (op == 17) = false := by simp [h17]
  have b20 : (op == 20) = false := by simp [h20]
  have b21 : (op == 21) = false := by simp [h21]
  have b22 : (op == 22) = false := by simp [h22]
  have b23 : (op == 23) = false := by simp [h23]
  have b24 : (op == 24) = false := by simp [h24]
  have b25 : (op == 25) = false := by simp [h25]
  have b26 : (op == 26) = false := by simp [h26]
  have b31 : (op == 31) = false := by simp [h31]
  have b32 : (op == 32) = false := by simp [h32]
  clear h0 h1 h2 h3 h5 h6 h7 h8 h9 h10 h11 h12 h13 h14 h15 h16 h17 h20 h21 h22 h23 h24 h25 h26 h31 h32
  rw [HR.out]
  go_enter Tryd.func26, Tryd.ntmps26
  go_wp2
  all_goals go_ret2
  all_goals exact ⟨rfl, (by repeat (first | exact Bw.refl _ | apply Bw.alloc | apply Bw.drewN | apply Bw.drew))⟩

end

end Go.Proofs.YtcljlmjcjfmppaaDoor
