/- The document's Same, of images that are the same: the contract. -/
import Derived.Test.YtfhnhbpmiodomaaDoorSa
set_option linter.unusedSimpArgs false
set_option linter.unusedVariables false
namespace Go.Proofs.YtfhnhbpmiodomaaDoor
open Go Go.RowKit

theorem map_len {α β : Type} {f : α → β} {a b : List α} {c : List β} (h : a.map f = c) (g : b.map f = c) : b.length = a.length := by
  have e := congrArg List.length (g.trans h.symm)
  simpa using e

theorem map_at {α β : Type} {f : α → β} {a b : List α} {c : List β} (h : a.map f = c) (g : b.map f = c) {i : Nat} (hi : i < a.length) (hj : i < b.length) : f b[i] = f a[i] := by
  have e := congrArg (·[i]?) (g.trans h.symm)
  simpa [hi, hj] using e

section
variable {w w' : World}

set_option maxRecDepth 100000 in
set_option maxHeartbeats 4000000 in
theorem same_any (vf vs vk vf' vs' vk' : Value) (m : AIm) (G G' : Nat → Prop) (ha : RIm w G vf vs vk m) (hb : RIm w G' vf' vs' vk' m) :
    Calls Tryd.prog 12 #[imV vf vs vk m, imV vf' vs' vk' m] w fun e w' => e = .returned (.bool true) ∧ Bw w w' := by
  obtain ⟨⟨ms, em, hf⟩, hs, ⟨mk, ek, hy⟩, hg⟩ := ha
  obtain ⟨⟨ms', em', hf'⟩, hs', ⟨mk', ek', hy'⟩, _⟩ := hb
  have hlm := map_len em em'
  have hlk := map_len ek ek'
  have HLM := hid hlm
  have HLK := hid hlk
  have EM := hid em
  have EM' := hid em'
  have EK := hid ek
  have EK' := hid ek'
  obtain ⟨p1, pk1, e1⟩ := hf.form
  obtain ⟨p2, pk2, e2⟩ := hs.form
  obtain ⟨p3, pk3, e3⟩ := hy.form
  obtain ⟨q1, qk1, d1⟩ := hf'.form
  obtain ⟨q2, qk2, d2⟩ := hs'.form
  obtain ⟨q3, qk3, d3⟩ := hy'.form
  rw [hlm] at d1
  rw [hlk] at d3
  subst e1 e2 e3 d1 d2 d3
  unfold imV
  have HF := hid hf
  have HF' := hid hf'
  have HS := hid hs
  have HS' := hid hs'
  have HY0 := hid hy
  have HY0' := hid hy'
  have HP := hid (show Blk ((w.alloc (.cells #[.slice p1 ms.length pk1, .slice p2 m.strs.length pk2, .slice p3 mk.length pk3, .int .i64 m.globals] 26)).alloc (.cells #[.slice q1 ms.length qk1, .slice q2 m.strs.length qk2, .slice q3 mk.length qk3, .int .i64 m.globals] 26)) w.heap.size #[.slice p1 ms.length pk1, .slice p2 m.strs.length pk2, .slice p3 mk.length pk3, .int .i64 m.globals] 26 from (Blk.new w #[.slice p1 ms.length pk1, .slice p2 m.strs.length pk2, .slice p3 mk.length pk3, .int .i64 m.globals] 26).alloc _)
  have HQ := hid (show Blk ((w.alloc (.cells #[.slice p1 ms.length pk1, .slice p2 m.strs.length pk2, .slice p3 mk.length pk3, .int .i64 m.globals] 26)).alloc (.cells #[.slice q1 ms.length qk1, .slice q2 m.strs.length qk2, .slice q3 mk.length qk3, .int .i64 m.globals] 26)) (w.heap.size + 1) #[.slice q1 ms.length qk1, .slice q2 m.strs.length qk2, .slice q3 mk.length qk3, .int .i64 m.globals] 26 from by have := Blk.new (w.alloc (.cells #[.slice p1 ms.length pk1, .slice p2 m.strs.length pk2, .slice p3 mk.length pk3, .int .i64 m.globals] 26)) #[.slice q1 ms.length qk1, .slice q2 m.strs.length qk2, .slice q3 mk.length qk3, .int .i64 m.globals] 26; simpa only [World.size_alloc] using this)
  have HW0 := hid (show Bw w ((w.alloc (.cells #[.slice p1 ms.length pk1, .slice p2 m.strs.length pk2, .slice p3 mk.length pk3, .int .i64 m.globals] 26)).alloc (.cells #[.slice q1 ms.length qk1, .slice q2 m.strs.length qk2, .slice q3 mk.length qk3, .int .i64 m.globals] 26)) from Bw.alloc (Bw.alloc (Bw.refl w) _) _)
  have HBX := hid (Bw.refl ((w.alloc (.cells #[.slice p1 ms.length pk1, .slice p2 m.strs.length pk2, .slice p3 mk.length pk3, .int .i64 m.globals] 26)).alloc (.cells #[.slice q1 ms.length qk1, .slice q2 m.strs.length qk2, .slice q3 mk.length qk3, .int .i64 m.globals] 26)))
  have m1 : (m.globals != m.globals) = false := by simp
  have l2 : ms.length ≤ 9223372036854775807 := by have := hf.2.2.1; unfold maxLen at this; omega
  have l3 : m.strs.length ≤ 9223372036854775807 := by have := hs.2.2.1; unfold maxLen at this; omega
  have l4 : mk.length ≤ 9223372036854775807 := by have := hy.2.2.1; unfold maxLen at this; omega
  clear hf hf' hs hs' hy hy' hg em em' ek ek' hlm hlk
  go_enter Tryd.func12, Tryd.ntmps12
  go_wp2
  go_loopw [5] (fun j wr => ∃ i, i ≤ m.strs.length ∧ j = .int .i64 (i : Nat) ∧ Bw ((w.alloc (.cells #[.slice p1 ms.length pk1, .slice p2 m.strs.length pk2, .slice p3 mk.length pk3, .int .i64 m.globals] 26)).alloc (.cells #[.slice q1 ms.length qk1, .slice q2 m.strs.length qk2, .slice q3 mk.length qk3, .int .i64 m.globals] 26)) wr) (fun j _ => m.strs.length - (intOf j).toNat)
  case atStart => exact ⟨0, Nat.zero_le _, rfl, HBX.out⟩
  case round =>
    obtain ⟨i, hi, rfl, hbw⟩ := hrel
    have HBW := hid hbw
    have u1 := (HP.out.bw hbw).cell
    have u2 := (HQ.out.bw hbw).cell
    have ul1 := (HP.out.bw hbw).lt
    have ul2 := (HQ.out.bw hbw).lt
    by_cases hlt : i < m.strs.length
    · obtain ⟨g1, o1, c1, e1, _, hg1, _, x⟩ := (RL.bw HS.out (HW0.out.trans hbw)).parts hlt (by decide)
      obtain ⟨g2, o2, c2, e2, _, hg2, _, y⟩ := (RL.bw HS'.out (HW0.out.trans hbw)).parts hlt (by decide)
      cases e1
      cases e2
      have x0 := x 0 (by decide)
      have y0 := y 0 (by decide)
      simp only [Nat.add_zero, Nat.mul_one, ← Nat.add_assoc, List.getElem?_cons_zero, List.getElem?_cons_succ] at x0 y0
      have hlt2 : (i : Int) < (m.strs.length : Int) := by omega
      generalize m.strs[i] = n at x0 y0
      generalize strOfNums n = n0 at x0 y0
      have z0 : (n0.toList != n0.toList) = false := by simp
      have zz0 : (n0.toList == n0.toList) = true := by simp
      clear x y hbw
      go_wp2
      go_quiet (fail)
      go_wp2
      go_roundw
      case rel => exact ⟨i + 1, by omega, by go_num, HBW.out.trans (by repeat (first | exact Bw.refl _ | apply Bw.alloc | apply Bw.drewN | apply Bw.drew))⟩
      case measure => simp [intOf]; omega
    · clear hbw
      have hge : ¬ (i : Int) < (m.strs.length : Int) := by omega
      go_wp2
      go_loopw [6] (fun j wr => ∃ i, i ≤ mk.length ∧ j = .int .i64 (i : Nat) ∧ Bw ((w.alloc (.cells #[.slice p1 ms.length pk1, .slice p2 m.strs.length pk2, .slice p3 mk.length pk3, .int .i64 m.globals] 26)).alloc (.cells #[.slice q1 ms.length qk1, .slice q2 m.strs.length qk2, .slice q3 mk.length qk3, .int .i64 m.globals] 26)) wr) (fun j _ => mk.length - (intOf j).toNat)
      case atStart => exact ⟨0, Nat.zero_le _, rfl, HBW.out⟩
      case round =>
        obtain ⟨i, hi, rfl, hbw⟩ := hrel
        have HBW := hid hbw
        have u1 := (HP.out.bw hbw).cell
        have u2 := (HQ.out.bw hbw).cell
        have ul1 := (HP.out.bw hbw).lt
        have ul2 := (HQ.out.bw hbw).lt
        by_cases hlt : i < mk.length
        · have hlt' : i < mk'.length := by have := HLK.out; omega
          obtain ⟨g1, o1, c1, e1, _, hg1, _, x⟩ := (RKs.bw HY0.out (HW0.out.trans hbw)).parts hlt (by decide)
          obtain ⟨g2, o2, c2, e2, _, hg2, _, y⟩ := (RKs.bw HY0'.out (HW0.out.trans hbw)).parts hlt' (by decide)
          rw [HLK.out] at e2
          cases e1
          cases e2
          have x0 := x 0 (by decide)
          have y0 := y 0 (by decide)
          simp only [Nat.add_zero, Nat.mul_one, ← Nat.add_assoc, fnC, List.getElem?_cons_zero, List.getElem?_cons_succ] at x0 y0
          have hlt2 : (i : Int) < (mk.length : Int) := by omega
          have hO := (RKs.bw HY0.out (HW0.out.trans hbw)).2.1 _ (List.getElem_mem hlt)
          have hO' := (RKs.bw HY0'.out (HW0.out.trans hbw)).2.1 _ (List.getElem_mem hlt')
          have hff := map_at EK.out EK'.out hlt hlt'
          generalize mk[i] = a at x0 hO hff
          generalize mk'[i] = b at y0 hO' hff
          obtain ⟨l0, xv⟩ := a
          obtain ⟨l, yv⟩ := b
          simp only at hff
          subst hff
          obtain ⟨r0, rk0, d0⟩ := hO.form
          obtain ⟨t0, tk0, d4⟩ := hO'.form
          simp only at d0 d4 x0 y0
          subst d0 d4
          have HX := hid hO
          have HY := hid hO'
          clear hO hO'
          clear x y hbw
          go_wp2
          go_region_held3 (fun w' => ∀ b j, b < wr.heap.size → w'.cell? ⟨b, j, none⟩ = wr.cell? ⟨b, j, none⟩) (first | exact hS1 | (intro b j hb; rfl) | assumption) (first
            | (go_at_call 29; refine (ints_any _ _ l G G' (RL.bw HX.out (by repeat (first | exact Bw.refl _ | apply Bw.alloc | apply Bw.drewN | apply Bw.drew))) (RL.bw HY.out (by repeat (first | exact Bw.refl _ | apply Bw.alloc | apply Bw.drewN | apply Bw.drew)))).mono ?_; rintro e w1 ⟨rfl, hb1⟩; have hbz : Bw wr w1 := Bw.trans (by repeat (first | exact Bw.refl _ | apply Bw.alloc | apply Bw.drewN | apply Bw.drew)) hb1; have hS1 : ∀ b j, b < wr.heap.size → w1.cell? ⟨b, j, none⟩ = wr.cell? ⟨b, j, none⟩ := (fun b j hb => World.cell?_of_block (w := wr) (w' := w1) (a := ⟨b, j, none⟩) (hbz.block b hb)); have HBZ := hid (HBW.out.trans hbz); clear hb1 hbz)
            | fail)
          go_wp2
          go_roundw
          case rel => exact ⟨i + 1, by omega, by go_num, HBZ.out.trans (by repeat (first | exact Bw.refl _ | apply Bw.alloc | apply Bw.drewN | apply Bw.drew))⟩
          case measure => simp [intOf]; omega
        · clear hbw
          have hge : ¬ (i : Int) < (mk.length : Int) := by omega
          go_wp2
          go_loopw [7] (fun j wr => ∃ i, i ≤ ms.length ∧ j = .int .i64 (i : Nat) ∧ Bw ((w.alloc (.cells #[.slice p1 ms.length pk1, .slice p2 m.strs.length pk2, .slice p3 mk.length pk3, .int .i64 m.globals] 26)).alloc (.cells #[.slice q1 ms.length qk1, .slice q2 m.strs.length qk2, .slice q3 mk.length qk3, .int .i64 m.globals] 26)) wr) (fun j _ => ms.length - (intOf j).toNat)
          case atStart => exact ⟨0, Nat.zero_le _, rfl, HBW.out⟩
          case round =>
            obtain ⟨i, hi, rfl, hbw⟩ := hrel
            have HBW := hid hbw
            have u1 := (HP.out.bw hbw).cell
            have u2 := (HQ.out.bw hbw).cell
            have ul1 := (HP.out.bw hbw).lt
            have ul2 := (HQ.out.bw hbw).lt
            by_cases hlt : i < ms.length
            · have hlt' : i < ms'.length := by have := HLM.out; omega
              obtain ⟨g1, o1, c1, e1, _, hg1, _, x⟩ := (RFs.bw HF.out (HW0.out.trans hbw)).parts hlt (by decide)
              obtain ⟨g2, o2, c2, e2, _, hg2, _, y⟩ := (RFs.bw HF'.out (HW0.out.trans hbw)).parts hlt' (by decide)
              rw [HLM.out] at e2
              cases e1
              cases e2
              have x0 := x 0 (by decide)
              have y0 := y 0 (by decide)
              have x1 := x 1 (by decide)
              have y1 := y 1 (by decide)
              have x2 := x 2 (by decide)
              have y2 := y 2 (by decide)
              have x3 := x 3 (by decide)
              have y3 := y 3 (by decide)
              have x4 := x 4 (by decide)
              have y4 := y 4 (by decide)
              have x5 := x 5 (by decide)
              have y5 := y 5 (by decide)
              simp only [Nat.add_zero, Nat.mul_one, ← Nat.add_assoc, fnC, List.getElem?_cons_zero, List.getElem?_cons_succ] at x0 y0 x1 y1 x2 y2 x3 y3 x4 y4 x5 y5
              have hlt2 : (i : Int) < (ms.length : Int) := by omega
              have hO := (RFs.bw HF.out (HW0.out.trans hbw)).2.1 _ (List.getElem_mem hlt)
              have hO' := (RFs.bw HF'.out (HW0.out.trans hbw)).2.1 _ (List.getElem_mem hlt')
              have hff := map_at EM.out EM'.out hlt hlt'
              generalize ms[i] = a at x0 x1 x2 x3 x4 x5 hO hff
              generalize ms'[i] = b at y0 y1 y2 y3 y4 y5 hO' hff
              obtain ⟨f0, xb, xc, xo, xt⟩ := a
              obtain ⟨f, yb, yc, yo, yt⟩ := b
              simp only at hff
              subst hff
              obtain ⟨r0, rk0, d0⟩ := hO.b.form
              obtain ⟨r1, rk1, d1⟩ := hO.c.form
              obtain ⟨r2, rk2, d2⟩ := hO.o.form
              obtain ⟨r3, rk3, d3⟩ := hO.t.form
              obtain ⟨t0, tk0, d4⟩ := hO'.b.form
              obtain ⟨t1, tk1, d5⟩ := hO'.c.form
              obtain ⟨t2, tk2, d6⟩ := hO'.o.form
              obtain ⟨t3, tk3, d7⟩ := hO'.t.form
              simp only at d0 d1 d2 d3 d4 d5 d6 d7 x0 x1 x2 x3 x4 x5 y0 y1 y2 y3 y4 y5
              subst d0 d1 d2 d3 d4 d5 d6 d7
              have HX := hid hO
              have HY := hid hO'
              clear hO hO'
              clear x y hbw
              go_wp2
              go_region_held3 (fun w' => ∀ b j, b < wr.heap.size → w'.cell? ⟨b, j, none⟩ = wr.cell? ⟨b, j, none⟩) (first | exact hS1 | (intro b j hb; rfl) | assumption) (first
                | (go_at_call 30; refine (sameCode_any ⟨f, .slice r0 f.boxes.length rk0, .slice r1 f.caps.length rk1, .slice r2 f.code.length rk2, .slice r3 f.tries.length rk3⟩ ⟨f, .slice t0 f.boxes.length tk0, .slice t1 f.caps.length tk1, .slice t2 f.code.length tk2, .slice t3 f.tries.length tk3⟩ G G' rfl (HX.out.bw (by repeat (first | exact Bw.refl _ | apply Bw.alloc | apply Bw.drewN | apply Bw.drew))) (HY.out.bw (by repeat (first | exact Bw.refl _ | apply Bw.alloc | apply Bw.drewN | apply Bw.drew)))).mono ?_; rintro e w1 ⟨rfl, hb1⟩; have hbz : Bw wr w1 := Bw.trans (by repeat (first | exact Bw.refl _ | apply Bw.alloc | apply Bw.drewN | apply Bw.drew)) hb1; have hS1 : ∀ b j, b < wr.heap.size → w1.cell? ⟨b, j, none⟩ = wr.cell? ⟨b, j, none⟩ := (fun b j hb => World.cell?_of_block (w := wr) (w' := w1) (a := ⟨b, j, none⟩) (hbz.block b hb)); have HBZ := hid (HBW.out.trans hbz); clear hb1 hbz)
                | fail)
              go_wp2
              go_roundw
              case rel => exact ⟨i + 1, by omega, by go_num, HBZ.out.trans (by repeat (first | exact Bw.refl _ | apply Bw.alloc | apply Bw.drewN | apply Bw.drew))⟩
              case measure => simp [intOf]; omega
            · clear hbw
              have hge : ¬ (i : Int) < (ms.length : Int) := by omega
              go_wp2
              all_goals go_ret
              all_goals exact ⟨rfl, HW0.out.trans HBW.out⟩

end

end Go.Proofs.YtfhnhbpmiodomaaDoor
