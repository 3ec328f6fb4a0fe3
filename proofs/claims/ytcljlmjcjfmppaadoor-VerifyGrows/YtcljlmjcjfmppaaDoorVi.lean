/- reachTargets, stepAt, fits: contracts. -/
import Derived.Test.YtcljlmjcjfmppaaDoorVh
set_option linter.unusedSimpArgs false
set_option linter.unusedVariables false
namespace Go.Proofs.YtcljlmjcjfmppaaDoor
open Go Go.RowKit

theorem tgts_no {f : AFn} {at' : Int} {t : Int × Int × Int × Int} {l : List (Int × Int × Int × Int)} (h : cov t at' = false) : tgts f at' (t :: l) = tgts f at' l := by simp [tgts, h]
theorem tgts_yes {f : AFn} {at' : Int} {t : Int × Int × Int × Int} {l : List (Int × Int × Int × Int)} (h : cov t at' = true) : tgts f at' (t :: l) = (t.2.2.1, t.2.2.2 + 1) :: tgts f at' l := by simp [tgts, h]
theorem runL_go {s : HSt} {p n : Int} {t : List (Int × Int)} (h : (reachM s p n).f = -1) : runL s ((p, n) :: t) = runL (reachM s p n) t := by
  rw [runL, if_pos h]
theorem runL_no {s : HSt} {p n : Int} {t : List (Int × Int)} (h : (reachM s p n).f ≠ -1) : runL s ((p, n) :: t) = (reachM s p n, false) := by
  rw [runL, if_neg h]
theorem tryR_bd {t : Int × Int × Int × Int} {n : Int} (h : tryR t n = true) : 0 ≤ t.1 ∧ t.1 ≤ t.2.1 ∧ t.2.1 ≤ t.2.2.1 ∧ t.2.2.1 < n ∧ 0 ≤ t.2.2.2 ∧ t.2.2.2 < 256 := by
  simp only [tryR, isPl, Bool.and_eq_true, decide_eq_true_eq] at h
  omega
theorem reach_len (s : HSt) (p n : Int) : (reachM s p n).h.length = s.h.length := by
  unfold reachM
  split
  · simp
  · split <;> rfl
/-- What a walk over places answers. -/
def RnP (bh bf hb br : Nat) (w : World) (R : HSt × Bool) (e : Ending) (w' : World) : Prop := e = .returned (.bool R.2) ∧ HI w' bh bf hb br R.1 ∧ Wh bf w w'

section
variable {w w' : World} {bh bf hb br : Nat} {s : HSt}

set_option maxRecDepth 100000 in
set_option maxHeartbeats 2000000 in
theorem targets_any (x : MFn) (k : Nat) (n : Nat) (h : HI w bh bf hb br s) (ha : RFn w (fun b => b < bf) x) (hok : HOk n s) (hn : n ≤ 65536) (ht : ∀ t ∈ x.f.tries, tryR t n = true) :
    Calls Tryd.prog 31 #[.agg #[.int .i64 x.f.params, .int .i64 x.f.slots, x.vb, x.vc, x.vo, x.vt], .int .i64 k, clo bh bf br] w (RnP bh bf hb br w (runL s (tgts x.f k x.f.tries))) := by
  unfold clo
  obtain ⟨f, xb, xc, xo, xt⟩ := x
  obtain ⟨a1, c1, e1⟩ := ha.b.form
  obtain ⟨a2, c2, e2⟩ := ha.c.form
  obtain ⟨a3, c3, e3⟩ := ha.o.form
  obtain ⟨a4, c4, e4⟩ := ha.t.form
  simp only at e1 e2 e3 e4 ht ⊢
  subst e1 e2 e3 e4
  have HA := hid ha
  have HT := hid ht
  have HN := hid hn
  have l4 : f.tries.length ≤ 9223372036854775807 := by have := ha.t.2.2.1; unfold maxLen at this; simp only at this; omega
  obtain ⟨W0, hW0⟩ : ∃ W0, W0 = w.alloc (.cells #[.int .i64 f.params, .int .i64 f.slots, .slice a1 f.boxes.length c1, .slice a2 f.caps.length c2, .slice a3 f.code.length c3, .slice a4 f.tries.length c4] 38) := ⟨_, rfl⟩
  have HWE := hid hW0
  have HW0 := hid (show Bw w W0 from by rw [hW0]; exact Bw.alloc (Bw.refl w) _)
  have HP := hid (show Blk W0 w.heap.size #[.int .i64 f.params, .int .i64 f.slots, .slice a1 f.boxes.length c1, .slice a2 f.caps.length c2, .slice a3 f.code.length c3, .slice a4 f.tries.length c4] 38 from by rw [hW0]; exact Blk.new w _ 38)
  have HH0 := hid (show HI W0 bh bf hb br s from h.bw HW0.out)
  have HOK0 := hid hok
  obtain ⟨R, hR⟩ : ∃ R, runL s (tgts f k f.tries) = R := ⟨_, rfl⟩
  have HR0 := hid hR
  rw [hR]
  clear ha ht hn h hok hW0 hR
  go_enter Tryd.func31, Tryd.ntmps31
  go_wp2
  go_loopw [12] (fun j wr => ∃ i s', i ≤ f.tries.length ∧ j = .int .i64 (i : Nat) ∧ runL s' (tgts f k (f.tries.drop i)) = R ∧ HI wr bh bf hb br s' ∧ HOk n s' ∧ Wh bf W0 wr) (fun j _ => f.tries.length - (intOf j).toNat)
  case atStart => exact ⟨0, s, Nat.zero_le _, rfl, HR0.out, by rw [← HWE.out]; exact HH0.out, HOK0.out, by rw [← HWE.out]; exact Wh.refl _ _⟩
  case round =>
    obtain ⟨i, s', hi, rfl, he, hh, hok, hwh⟩ := hrel
    have HE := hid he
    have HH := hid hh
    have HOK := hid hok
    have HW := hid hwh
    have u := (HP.out.wh hwh (by decide) (by decide)).cell
    have ul := (HP.out.wh hwh (by decide) (by decide)).lt
    clear he hh hok
    by_cases hlt : i < f.tries.length
    · obtain ⟨g1, o1, d1, e1, _, hg1, _, x⟩ := (RL.wh (RL.bw HA.out.t HW0.out) hwh).parts hlt (by decide)
      simp only at e1 x
      cases e1
      have x0 := x 0 (by decide)
      have x1 := x 1 (by decide)
      have x2 := x 2 (by decide)
      have x3 := x 3 (by decide)
      simp only [Nat.add_zero, ← Nat.add_assoc, tryC, List.getElem?_cons_zero, List.getElem?_cons_succ] at x0 x1 x2 x3
      have hlt2 : (i : Int) < (f.tries.length : Int) := by omega
      have hdr : f.tries.drop i = f.tries[i] :: f.tries.drop (i + 1) := List.drop_eq_getElem_cons hlt
      have hbd := tryR_bd (HT.out _ (List.getElem_mem hlt))
      generalize f.tries[i] = y at x0 x1 x2 x3 hdr hbd
      obtain ⟨p, q, r, d⟩ := y
      simp only at x0 x1 x2 x3 hbd
      obtain ⟨rk, hrk⟩ : ∃ rk : Nat, r = rk := ⟨r.toNat, by omega⟩
      subst hrk
      have HBD := hid hbd
      have HDR := hid hdr
      have hd1 : -9223372036854775808 ≤ d + 1 ∧ d + 1 ≤ 9223372036854775807 := by omega
      have HTB := hid (show Blk (wr.alloc (.cells #[.int .i64 p, .int .i64 q, .int .i64 rk, .int .i64 d] 55)) wr.heap.size #[.int .i64 p, .int .i64 q, .int .i64 rk, .int .i64 d] 55 from Blk.new wr _ 55)
      clear x hwh hdr hbd
      cases hq : cov (p, q, (rk : Int), d) k
      · have HNX := hid (show runL s' (tgts f k (f.tries.drop (i + 1))) = R from by rw [← HE.out, HDR.out, tgts_no hq])
        have HQ := hid hq
        clear hq
        go_wp2_with (first
          | (go_at_call 23; refine (covers_any p q rk d k _).mono ?_; rw [HQ.out]; rintro e w1 ⟨rfl, hb1⟩; have HB1 := hid (show Bw wr w1 from Bw.trans (by repeat (first | exact Bw.refl _ | apply Bw.alloc | apply Bw.drewN | apply Bw.drew)) hb1); clear hb1)
          | fail)
        go_roundw
        case rel => exact ⟨i + 1, s', by omega, by go_num, HNX.out, HH.out.bw (HB1.out.trans (by repeat (first | exact Bw.refl _ | apply Bw.alloc | apply Bw.drewN | apply Bw.drew))), HOK.out, HW.out.bw (HB1.out.trans (by repeat (first | exact Bw.refl _ | apply Bw.alloc | apply Bw.drewN | apply Bw.drew)))⟩
        case measure => simp [intOf]; omega
      · have HYS := hid (show runL s' (((rk : Int), d + 1) :: tgts f k (f.tries.drop (i + 1))) = R from by rw [← HE.out, HDR.out, tgts_yes hq])
        have HQ := hid hq
        have HOK2 := hid (HOK.out.reach (p := (rk : Int)) (v := d + 1) (by have := HBD.out; omega) (by have := HBD.out; omega))
        have HRK := hid (show rk < s'.h.length from by rw [HOK.out.len]; have := HBD.out; omega)
        have HRL := hid (show s'.row.length ≤ 1000000 from by have := HOK.out.rowLe; have := HN.out; omega)
        have HHL := hid (show s'.h.length ≤ 1000000 from by rw [HOK.out.len]; have := HN.out; omega)
        clear hq
        by_cases hf : (reachM s' (rk : Int) (d + 1)).f = -1
        · have hfb : ((reachM s' (rk : Int) (d + 1)).f == -1) = true := by simp [hf]
          have HNX := hid (show runL (reachM s' (rk : Int) (d + 1)) (tgts f k (f.tries.drop (i + 1))) = R from by rw [← HYS.out, runL_go hf])
          have HFB := hid hfb
          clear hf hfb
          go_wp2_with (first
            | (go_at_call 23; refine (covers_any p q rk d k _).mono ?_; rw [HQ.out]; rintro e w1 ⟨rfl, hb1⟩; have HB1 := hid (show Bw wr w1 from Bw.trans (by repeat (first | exact Bw.refl _ | apply Bw.alloc | apply Bw.drewN | apply Bw.drew)) hb1); have v1 := (HTB.out.bw hb1).cell; have v1l := (HTB.out.bw hb1).lt; clear hb1)
            | (go_at_call 20; refine (reach_any rk (d + 1) (HH.out.bw (HB1.out.trans (by repeat (first | exact Bw.refl _ | apply Bw.alloc | apply Bw.drewN | apply Bw.drew)))) HRK.out HRL.out HHL.out).mono ?_; rw [HFB.out]; rintro e w2 ⟨rfl, hh2, hw2⟩; have HH2 := hid hh2; have HW2 := hid ((HW.out.bw (HB1.out.trans (by repeat (first | exact Bw.refl _ | apply Bw.alloc | apply Bw.drewN | apply Bw.drew)))).trans hw2); clear hh2 hw2)
            | fail)
          go_roundw
          case rel => exact ⟨i + 1, _, by omega, by go_num, HNX.out, HH2.out.bw (by repeat (first | exact Bw.refl _ | apply Bw.alloc | apply Bw.drewN | apply Bw.drew)), HOK2.out, HW2.out.bw (by repeat (first | exact Bw.refl _ | apply Bw.alloc | apply Bw.drewN | apply Bw.drew))⟩
          case measure => simp [intOf]; omega
        · have hfb : ((reachM s' (rk : Int) (d + 1)).f == -1) = false := by simp [hf]
          have HNX := hid (show R = (reachM s' (rk : Int) (d + 1), false) from by rw [← HYS.out, runL_no hf])
          have HFB := hid hfb
          clear hf hfb
          go_wp2_with (first
            | (go_at_call 23; refine (covers_any p q rk d k _).mono ?_; rw [HQ.out]; rintro e w1 ⟨rfl, hb1⟩; have HB1 := hid (show Bw wr w1 from Bw.trans (by repeat (first | exact Bw.refl _ | apply Bw.alloc | apply Bw.drewN | apply Bw.drew)) hb1); have v1 := (HTB.out.bw hb1).cell; have v1l := (HTB.out.bw hb1).lt; clear hb1)
            | (go_at_call 20; refine (reach_any rk (d + 1) (HH.out.bw (HB1.out.trans (by repeat (first | exact Bw.refl _ | apply Bw.alloc | apply Bw.drewN | apply Bw.drew)))) HRK.out HRL.out HHL.out).mono ?_; rw [HFB.out]; rintro e w2 ⟨rfl, hh2, hw2⟩; have HH2 := hid hh2; have HW2 := hid ((HW.out.bw (HB1.out.trans (by repeat (first | exact Bw.refl _ | apply Bw.alloc | apply Bw.drewN | apply Bw.drew)))).trans hw2); clear hh2 hw2)
            | fail)
          all_goals go_ret
          all_goals exact ⟨by rw [HNX.out]; rfl, by rw [HNX.out]; exact HH2.out.bw (by repeat (first | exact Bw.refl _ | apply Bw.alloc | apply Bw.drewN | apply Bw.drew)), (Wh.of_bw HW0.out).trans (HW2.out.bw (by repeat (first | exact Bw.refl _ | apply Bw.alloc | apply Bw.drewN | apply Bw.drew)))⟩
    · obtain rfl : i = f.tries.length := by omega
      have HNX := hid (show R = (s', true) from by rw [← HE.out, List.drop_length]; rfl)
      go_wp2
      all_goals go_ret
      all_goals exact ⟨by rw [HNX.out]; rfl, by rw [HNX.out]; exact HH.out, (Wh.of_bw HW0.out).trans HW.out⟩

end

end Go.Proofs.YtcljlmjcjfmppaaDoor
