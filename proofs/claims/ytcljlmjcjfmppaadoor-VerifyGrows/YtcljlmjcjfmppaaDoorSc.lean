/- The document's Big: the contract. -/
import Derived.Test.YtcljlmjcjfmppaaDoorMb
set_option linter.unusedSimpArgs false
set_option linter.unusedVariables false
namespace Go.Proofs.YtcljlmjcjfmppaaDoor
open Go Go.RowKit

def SmallF (f : AFn) : Prop := f.code.length ≤ 500 ∧ f.boxes.length ≤ 100 ∧ f.caps.length ≤ 100 ∧ f.tries.length ≤ 50
/-- As much as is asked in a statement. -/
def SmallI (m : AIm) : Prop := m.funs.length ≤ 30 ∧ m.strs.length ≤ 100 ∧ m.keys.length ≤ 50 ∧ (∀ s ∈ m.strs, s.length ≤ 2000) ∧ (∀ l ∈ m.keys, l.length ≤ 100) ∧ ∀ f ∈ m.funs, SmallF f
/-- What Big answers. -/
def BgP (w : World) (m : AIm) (e : Ending) (w' : World) : Prop := ∃ q, e = .returned (.bool q) ∧ (q = false → SmallI m) ∧ Bw w w'

theorem all_of {α : Type} {p : α → Prop} {l : List α} (h : ∀ k (hk : k < l.length), p l[k]) : ∀ x ∈ l, p x := by
  intro x hx
  obtain ⟨k, hk, rfl⟩ := List.getElem_of_mem hx
  exact h k hk

theorem upto {α : Type} {p : α → Prop} {l : List α} {i : Nat} (h : ∀ k (hk : k < l.length), k < i → p l[k]) (hi : i < l.length) (hp : p l[i]) : ∀ k (hk : k < l.length), k < i + 1 → p l[k] := by
  intro k hk hk2
  by_cases hki : k < i
  · exact h k hk hki
  · obtain rfl : k = i := by omega
    exact hp

section
variable {w w' : World}

set_option maxRecDepth 100000 in
set_option maxHeartbeats 4000000 in
theorem big_any (vf vs vk : Value) (m : AIm) (G : Nat → Prop) (ha : RIm w G vf vs vk m) :
    Calls Tryd.prog 4 #[imV vf vs vk m] w (BgP w m) := by
  obtain ⟨⟨ms, em, hf⟩, hs, ⟨mk, ek, hy⟩, hg⟩ := ha
  have EM := hid em
  have EK := hid ek
  obtain ⟨p1, pk1, e1⟩ := hf.form
  obtain ⟨p2, pk2, e2⟩ := hs.form
  obtain ⟨p3, pk3, e3⟩ := hy.form
  subst e1 e2 e3
  unfold imV
  have HF := hid hf
  have HS := hid hs
  have HY := hid hy
  have HP := hid (show Blk (w.alloc (.cells #[.slice p1 ms.length pk1, .slice p2 m.strs.length pk2, .slice p3 mk.length pk3, .int .i64 m.globals] 26)) w.heap.size #[.slice p1 ms.length pk1, .slice p2 m.strs.length pk2, .slice p3 mk.length pk3, .int .i64 m.globals] 26 from Blk.new w #[.slice p1 ms.length pk1, .slice p2 m.strs.length pk2, .slice p3 mk.length pk3, .int .i64 m.globals] 26)
  have HW0 := hid (show Bw w (w.alloc (.cells #[.slice p1 ms.length pk1, .slice p2 m.strs.length pk2, .slice p3 mk.length pk3, .int .i64 m.globals] 26)) from Bw.alloc (Bw.refl w) _)
  have HBW := hid (Bw.refl (w.alloc (.cells #[.slice p1 ms.length pk1, .slice p2 m.strs.length pk2, .slice p3 mk.length pk3, .int .i64 m.globals] 26)))
  clear hf hs hy hg em ek
  by_cases q1 : ms.length ≤ 30
  rotate_left
  · have d1 : decide (30 < (ms.length : Int)) = true := decide_eq_true (by omega)
    go_enter Tryd.func4, Tryd.ntmps4
    go_wp2
    all_goals go_ret
    all_goals exact ⟨true, rfl, fun h => (by cases h), HW0.out⟩
  have d1 : decide (30 < (ms.length : Int)) = false := decide_eq_false (by omega)
  by_cases q2 : m.strs.length ≤ 100
  rotate_left
  · have d2 : decide (100 < (m.strs.length : Int)) = true := decide_eq_true (by omega)
    go_enter Tryd.func4, Tryd.ntmps4
    go_wp2
    all_goals go_ret
    all_goals exact ⟨true, rfl, fun h => (by cases h), HW0.out⟩
  have d2 : decide (100 < (m.strs.length : Int)) = false := decide_eq_false (by omega)
  by_cases q3 : mk.length ≤ 50
  rotate_left
  · have d3 : decide (50 < (mk.length : Int)) = true := decide_eq_true (by omega)
    go_enter Tryd.func4, Tryd.ntmps4
    go_wp2
    all_goals go_ret
    all_goals exact ⟨true, rfl, fun h => (by cases h), HW0.out⟩
  have d3 : decide (50 < (mk.length : Int)) = false := decide_eq_false (by omega)
  have HMS0 := hid q1
  have HS0 := hid q2
  have HK0 := hid q3
  have q1b : ms.length ≤ 9223372036854775807 := by omega
  have q2b : m.strs.length ≤ 9223372036854775807 := by omega
  have q3b : mk.length ≤ 9223372036854775807 := by omega
  clear q1 q2 q3
  go_enter Tryd.func4, Tryd.ntmps4
  go_wp2
  go_loopw [4] (fun j wr => ∃ (i : Nat), i ≤ m.strs.length ∧ j = .int .i64 (i : Nat) ∧ Bw (w.alloc (.cells #[.slice p1 ms.length pk1, .slice p2 m.strs.length pk2, .slice p3 mk.length pk3, .int .i64 m.globals] 26)) wr ∧ ∀ k (hk : k < m.strs.length), k < i → m.strs[k].length ≤ 2000) (fun j _ => m.strs.length - (intOf j).toNat)
  case atStart => exact ⟨0, Nat.zero_le _, rfl, HBW.out, fun k hk h => absurd h (by omega)⟩
  case round =>
    obtain ⟨i, hi, rfl, hbw, hu⟩ := hrel
    have HBW := hid hbw
    have HU := hid hu
    have u1 := (HP.out.bw hbw).cell
    have ul1 := (HP.out.bw hbw).lt
    by_cases hlt : i < m.strs.length
    · obtain ⟨g1, o1, c1, e1, _, hg1, _, x⟩ := (RL.bw HS.out (HW0.out.trans hbw)).parts hlt (by decide)
      cases e1
      have x0 := x 0 (by decide)
      simp only [Nat.add_zero, Nat.mul_one, List.getElem?_cons_zero] at x0
      have hlt2 : (i : Int) < (m.strs.length : Int) := by omega
      have HUS := hid (fun hp => upto (p := fun s : List Int => s.length ≤ 2000) HU.out hlt hp)
      generalize m.strs[i] = sl at x0 HUS
      have Z : (strOfNums sl).size = sl.length := strOfNums_size _
      generalize strOfNums sl = ss at x0 Z
      clear x hbw hu
      by_cases b0 : sl.length ≤ 2000
      rotate_left
      · have d0 : decide (2000 < (sl.length : Int)) = true := decide_eq_true (by omega)
        go_wp2
        all_goals go_ret
        all_goals exact ⟨true, rfl, fun h => (by cases h), HW0.out.trans (HBW.out.trans (by repeat (first | exact Bw.refl _ | apply Bw.alloc | apply Bw.drewN | apply Bw.drew)))⟩
      have d0 : decide (2000 < (sl.length : Int)) = false := decide_eq_false (by omega)
      have HBB := hid b0
      clear b0
      go_wp2
      go_roundw
      case rel => exact ⟨i + 1, by omega, by go_num, HBW.out.trans (by repeat (first | exact Bw.refl _ | apply Bw.alloc | apply Bw.drewN | apply Bw.drew)), HUS.out HBB.out⟩
      case measure => simp [intOf]; omega
    · clear hbw hu
      have hge : ¬ (i : Int) < (m.strs.length : Int) := by omega
      have HSS := hid (show ∀ k (hk : k < m.strs.length), m.strs[k].length ≤ 2000 from fun k hk => HU.out k hk (by omega))
      go_wp2
      go_loopw [5] (fun j wr => ∃ (i : Nat), i ≤ mk.length ∧ j = .int .i64 (i : Nat) ∧ Bw (w.alloc (.cells #[.slice p1 ms.length pk1, .slice p2 m.strs.length pk2, .slice p3 mk.length pk3, .int .i64 m.globals] 26)) wr ∧ ∀ k (hk : k < mk.length), k < i → mk[k].1.length ≤ 100) (fun j _ => mk.length - (intOf j).toNat)
      case atStart => exact ⟨0, Nat.zero_le _, rfl, HBW.out, fun k hk h => absurd h (by omega)⟩
      case round =>
        obtain ⟨i, hi, rfl, hbw, hu⟩ := hrel
        have HBW := hid hbw
        have HU := hid hu
        have u1 := (HP.out.bw hbw).cell
        have ul1 := (HP.out.bw hbw).lt
        by_cases hlt : i < mk.length
        · obtain ⟨g1, o1, c1, e1, _, hg1, _, x⟩ := (RKs.bw HY.out (HW0.out.trans hbw)).parts hlt (by decide)
          cases e1
          have x0 := x 0 (by decide)
          simp only [Nat.add_zero, Nat.mul_one, List.getElem?_cons_zero] at x0
          have hlt2 : (i : Int) < (mk.length : Int) := by omega
          have hO := (RKs.bw HY.out (HW0.out.trans hbw)).2.1 _ (List.getElem_mem hlt)
          have HUS := hid (fun hp => upto (p := fun m : List Int × Value => m.1.length ≤ 100) HU.out hlt hp)
          generalize mk[i] = a at x0 hO HUS
          obtain ⟨kl, kv⟩ := a
          obtain ⟨r0, rk0, d0⟩ := hO.form
          simp only at d0 x0
          subst d0
          clear hO
          clear x hbw hu
          by_cases b0 : kl.length ≤ 100
          rotate_left
          · have d0 : decide (100 < (kl.length : Int)) = true := decide_eq_true (by omega)
            go_wp2
            all_goals go_ret
            all_goals exact ⟨true, rfl, fun h => (by cases h), HW0.out.trans (HBW.out.trans (by repeat (first | exact Bw.refl _ | apply Bw.alloc | apply Bw.drewN | apply Bw.drew)))⟩
          have d0 : decide (100 < (kl.length : Int)) = false := decide_eq_false (by omega)
          have HBB := hid b0
          clear b0
          go_wp2
          go_roundw
          case rel => exact ⟨i + 1, by omega, by go_num, HBW.out.trans (by repeat (first | exact Bw.refl _ | apply Bw.alloc | apply Bw.drewN | apply Bw.drew)), HUS.out HBB.out⟩
          case measure => simp [intOf]; omega
        · clear hbw hu
          have hge : ¬ (i : Int) < (mk.length : Int) := by omega
          have HKK := hid (show ∀ k (hk : k < mk.length), mk[k].1.length ≤ 100 from fun k hk => HU.out k hk (by omega))
          go_wp2
          have FIN := hid (show (∀ k (hk : k < ms.length), SmallF ms[k].f) → SmallI m from fun h => ⟨by rw [← EM.out, List.length_map]; have := HMS0.out; omega, HS0.out, by rw [← EK.out, List.length_map]; exact HK0.out, all_of HSS.out, by rw [← EK.out]; intro l hl; obtain ⟨a, ha, rfl⟩ := List.mem_map.1 hl; exact all_of (p := fun m : List Int × Value => m.1.length ≤ 100) HKK.out a ha, by rw [← EM.out]; intro l hl; obtain ⟨a, ha, rfl⟩ := List.mem_map.1 hl; exact all_of (p := fun m : MFn => SmallF m.f) h a ha⟩)
          go_loopw [3, 6] (fun n j wr => ∃ (i : Nat) (N : Int), i ≤ ms.length ∧ j = .int .i64 (i : Nat) ∧ n = .int .i64 N ∧ (0 ≤ N ∧ N ≤ 500 * (i : Int)) ∧ Bw (w.alloc (.cells #[.slice p1 ms.length pk1, .slice p2 m.strs.length pk2, .slice p3 mk.length pk3, .int .i64 m.globals] 26)) wr ∧ ∀ k (hk : k < ms.length), k < i → SmallF ms[k].f) (fun _ j _ => ms.length - (intOf j).toNat)
          case atStart => exact ⟨0, 0, Nat.zero_le _, rfl, rfl, by omega, HBW.out, fun k hk h => absurd h (by omega)⟩
          case round =>
            obtain ⟨i, N, hi, rfl, rfl, hN, hbw, hu⟩ := hrel
            have HBW := hid hbw
            have HU := hid hu
            have u1 := (HP.out.bw hbw).cell
            have ul1 := (HP.out.bw hbw).lt
            by_cases hlt : i < ms.length
            · obtain ⟨g1, o1, c1, e1, _, hg1, _, x⟩ := (RFs.bw HF.out (HW0.out.trans hbw)).parts hlt (by decide)
              cases e1
              have x0 := x 0 (by decide)
              have x1 := x 1 (by decide)
              have x2 := x 2 (by decide)
              have x3 := x 3 (by decide)
              have x4 := x 4 (by decide)
              have x5 := x 5 (by decide)
              simp only [Nat.add_zero, ← Nat.add_assoc, fnC, List.getElem?_cons_zero, List.getElem?_cons_succ] at x0 x1 x2 x3 x4 x5
              have hlt2 : (i : Int) < (ms.length : Int) := by omega
              have hO := (RFs.bw HF.out (HW0.out.trans hbw)).2.1 _ (List.getElem_mem hlt)
              have HUS := hid (fun hp => upto (p := fun m : MFn => SmallF m.f) HU.out hlt hp)
              generalize ms[i] = a at x0 x1 x2 x3 x4 x5 hO HUS
              obtain ⟨f, xb, xc, xo, xt⟩ := a
              obtain ⟨r0, rk0, d0⟩ := hO.b.form
              obtain ⟨r1, rk1, d1⟩ := hO.c.form
              obtain ⟨r2, rk2, d2⟩ := hO.o.form
              obtain ⟨r3, rk3, d3⟩ := hO.t.form
              simp only at d0 d1 d2 d3 x0 x1 x2 x3 x4 x5
              subst d0 d1 d2 d3
              have HMS := hid HMS0.out
              clear x hbw hu hO
              by_cases b0 : f.code.length ≤ 500
              rotate_left
              · have d0 : decide (500 < (f.code.length : Int)) = true := decide_eq_true (by omega)
                go_wp2
                all_goals go_ret
                all_goals exact ⟨true, rfl, fun h => (by cases h), HW0.out.trans (HBW.out.trans (by repeat (first | exact Bw.refl _ | apply Bw.alloc | apply Bw.drewN | apply Bw.drew)))⟩
              have d0 : decide (500 < (f.code.length : Int)) = false := decide_eq_false (by omega)
              by_cases b1 : f.boxes.length ≤ 100
              rotate_left
              · have d1 : decide (100 < (f.boxes.length : Int)) = true := decide_eq_true (by omega)
                go_wp2
                all_goals go_ret
                all_goals exact ⟨true, rfl, fun h => (by cases h), HW0.out.trans (HBW.out.trans (by repeat (first | exact Bw.refl _ | apply Bw.alloc | apply Bw.drewN | apply Bw.drew)))⟩
              have d1 : decide (100 < (f.boxes.length : Int)) = false := decide_eq_false (by omega)
              by_cases b2 : f.caps.length ≤ 100
              rotate_left
              · have d2 : decide (100 < (f.caps.length : Int)) = true := decide_eq_true (by omega)
                go_wp2
                all_goals go_ret
                all_goals exact ⟨true, rfl, fun h => (by cases h), HW0.out.trans (HBW.out.trans (by repeat (first | exact Bw.refl _ | apply Bw.alloc | apply Bw.drewN | apply Bw.drew)))⟩
              have d2 : decide (100 < (f.caps.length : Int)) = false := decide_eq_false (by omega)
              by_cases b3 : f.tries.length ≤ 50
              rotate_left
              · have d3 : decide (50 < (f.tries.length : Int)) = true := decide_eq_true (by omega)
                go_wp2
                all_goals go_ret
                all_goals exact ⟨true, rfl, fun h => (by cases h), HW0.out.trans (HBW.out.trans (by repeat (first | exact Bw.refl _ | apply Bw.alloc | apply Bw.drewN | apply Bw.drew)))⟩
              have d3 : decide (50 < (f.tries.length : Int)) = false := decide_eq_false (by omega)
              have hs : -9223372036854775808 ≤ N + (f.code.length : Int) ∧ N + (f.code.length : Int) ≤ 9223372036854775807 := by have := HMS.out; omega
              have HBB := hid (show SmallF f from ⟨b0, b1, b2, b3⟩)
              have HNN := hid (show 0 ≤ N + (f.code.length : Int) ∧ N + (f.code.length : Int) ≤ 500 * ((i : Int) + 1) by omega)
              clear b0 b1 b2 b3
              go_wp2
              go_roundw
              case rel => exact ⟨i + 1, _, by omega, by go_num, rfl, by have := HNN.out; omega, HBW.out.trans (by repeat (first | exact Bw.refl _ | apply Bw.alloc | apply Bw.drewN | apply Bw.drew)), HUS.out HBB.out⟩
              case measure => simp [intOf]; omega
            · clear hbw hu
              have hN3 : ¬ (i : Int) < (ms.length : Int) := by omega
              go_wp2
              all_goals go_ret
              all_goals exact ⟨_, rfl, fun _ => FIN.out (fun k hk => HU.out k hk (by omega)), HW0.out.trans HBW.out⟩

end

end Go.Proofs.YtcljlmjcjfmppaaDoor
