/- goOn: the contract. -/
import Derived.Test.YtcljlmjcjfmppaaDoorVk
set_option linter.unusedSimpArgs false
set_option linter.unusedVariables false
namespace Go.Proofs.YtcljlmjcjfmppaaDoor
open Go Go.RowKit

section
variable {w w' : World}

set_option maxRecDepth 100000 in
set_option maxHeartbeats 2000000 in
theorem goOn_any (x : MFn) (k n : Nat) (op a bb h kept after : Int) {bh bf hb br : Nat} {s : HSt} (hi : HI w bh bf hb br s) (ha : RFn w (fun b => b < bf) x) (hok : HOk n s) (hn : n ≤ 65536) (ht : ∀ t ∈ x.f.tries, tryR t n = true) (hpl : ∀ y ∈ leads x.f op a k h after, (0 ≤ y.1 ∧ y.1 < n) ∧ 0 ≤ y.2 ∧ y.2 ≤ 257) (ha' : I64 after) (hk : k < n) :
    Calls Tryd.prog 24 #[.agg #[.int .i64 x.f.params, .int .i64 x.f.slots, x.vb, x.vc, x.vo, x.vt], stpV op a bb k h kept after, clo bh bf br] w (RnP bh bf hb br w (runL s (leads x.f op a k h after))) := by
  unfold stpV clo
  obtain ⟨f, xb, xc, xo, xt⟩ := x
  obtain ⟨a1, c1, e1⟩ := ha.b.form
  obtain ⟨a2, c2, e2⟩ := ha.c.form
  obtain ⟨a3, c3, e3⟩ := ha.o.form
  obtain ⟨a4, c4, e4⟩ := ha.t.form
  simp only at e1 e2 e3 e4 ht hpl ⊢
  subst e1 e2 e3 e4
  have HA := hid ha
  have HT := hid ht
  have HN := hid hn
  have HPL0 := hid hpl
  have HO0 := hid hok
  obtain ⟨W0, hW0⟩ : ∃ W0, (w.alloc (.cells #[.int .i64 f.params, .int .i64 f.slots, .slice a1 f.boxes.length c1, .slice a2 f.caps.length c2, .slice a3 f.code.length c3, .slice a4 f.tries.length c4] 38)).alloc (.cells #[.int .i64 op, .int .i64 a, .int .i64 bb, .int .i64 k, .int .i64 h, .int .i64 kept, .int .i64 after] 58) = W0 := ⟨_, rfl⟩
  have HWE := hid hW0
  have HW0 := hid (show Bw w W0 from by rw [← hW0]; exact Bw.alloc (Bw.alloc (Bw.refl w) _) _)
  have HPC := hid (show Blk W0 w.heap.size #[.int .i64 f.params, .int .i64 f.slots, .slice a1 f.boxes.length c1, .slice a2 f.caps.length c2, .slice a3 f.code.length c3, .slice a4 f.tries.length c4] 38 from by rw [← hW0]; exact (Blk.new w _ 38).alloc _)
  have HPS := hid (show Blk W0 (w.heap.size + 1) #[.int .i64 op, .int .i64 a, .int .i64 bb, .int .i64 k, .int .i64 h, .int .i64 kept, .int .i64 after] 58 from by rw [← hW0]; have := Blk.new (w.alloc (.cells #[.int .i64 f.params, .int .i64 f.slots, .slice a1 f.boxes.length c1, .slice a2 f.caps.length c2, .slice a3 f.code.length c3, .slice a4 f.tries.length c4] 38)) #[.int .i64 op, .int .i64 a, .int .i64 bb, .int .i64 k, .int .i64 h, .int .i64 kept, .int .i64 after] 58; simpa only [World.size_alloc] using this)
  have HH0 := hid (show HI ((w.alloc (.cells #[.int .i64 f.params, .int .i64 f.slots, .slice a1 f.boxes.length c1, .slice a2 f.caps.length c2, .slice a3 f.code.length c3, .slice a4 f.tries.length c4] 38)).alloc (.cells #[.int .i64 op, .int .i64 a, .int .i64 bb, .int .i64 k, .int .i64 h, .int .i64 kept, .int .i64 after] 58)) bh bf hb br s from hi.bw (Bw.alloc (Bw.alloc (Bw.refl w) _) _))
  have HWX := hid (show Wh bf W0 ((w.alloc (.cells #[.int .i64 f.params, .int .i64 f.slots, .slice a1 f.boxes.length c1, .slice a2 f.caps.length c2, .slice a3 f.code.length c3, .slice a4 f.tries.length c4] 38)).alloc (.cells #[.int .i64 op, .int .i64 a, .int .i64 bb, .int .i64 k, .int .i64 h, .int .i64 kept, .int .i64 after] 58)) from by rw [hW0]; exact Wh.refl _ _)
  have hk1 : (k : Int) + 1 ≤ 9223372036854775807 := by omega
  have hkc : ((k + 1 : Nat) : Int) = (k : Int) + 1 := by omega
  clear ha ht hn hok hi hW0 hpl
  by_cases h20 : op = 20
  · subst h20
    have HPL := hid (show ∀ y ∈ ([(a, after)] : List (Int × Int)), (0 ≤ y.1 ∧ y.1 < n) ∧ 0 ≤ y.2 ∧ y.2 ≤ 257 from HPL0.out)
    change Calls _ _ _ _ (RnP bh bf hb br w (runL s ([(a, after)])))
    clear HPL0
    have HL1 := hid (show (0 ≤ a ∧ a < (s.h.length : Int)) ∧ s.row.length ≤ 1000000 ∧ s.h.length ≤ 1000000 from by have := HO0.out.len; have := HO0.out.rowLe; have := HN.out; have h9 := HPL.out (a, after) (by simp); simp only at h9; omega)
    obtain ⟨s1, hs1⟩ : ∃ z, reachM s a after = z := ⟨_, rfl⟩
    have HS1 := hid hs1
    have HO1 := hid (show HOk n s1 from by rw [← hs1]; have h9 := HPL.out (a, after) (by simp); simp only at h9; exact HO0.out.reach (by omega) (by omega))
    by_cases hf1 : s1.f = -1
    · have HF1 := hid (show ((reachM s a after).f == -1) = true by rw [hs1]; simp [hf1])
      have RG1 := hid (show runL s ((a, after) :: []) = runL s1 ([]) from by rw [runL_go (by rw [hs1]; exact hf1), hs1])
      clear hf1 hs1
      have HR := hid (show runL s ([(a, after)]) = (s1, true) from by rw [RG1.out]; rfl)
      go_enter Tryd.func24, Tryd.ntmps24
      go_wp2_with (first
        | (go_at_call 20; (fail_if_success (have _q := HG1)); refine (reach_anyI a after (HH0.out.bw (by repeat (first | exact Bw.refl _ | apply Bw.alloc | apply Bw.drewN | apply Bw.drew))) HL1.out.1 HL1.out.2.1 HL1.out.2.2).mono ?_; rw [HF1.out]; rintro e w1 ⟨rfl, hh, hw⟩; rw [HS1.out] at hh; have HH1 := hid hh; have HW1 := hid (Wh.trans (Wh.bw HWX.out (by repeat (first | exact Bw.refl _ | apply Bw.alloc | apply Bw.drewN | apply Bw.drew))) hw); have u1 := (HPC.out.wh HW1.out (by decide) (by decide)).cell; have ul1 := (HPC.out.wh HW1.out (by decide) (by decide)).lt; have v1 := (HPS.out.wh HW1.out (by decide) (by decide)).cell; have vl1 := (HPS.out.wh HW1.out (by decide) (by decide)).lt; have HG1 := hid trivial; clear hh hw)
        | fail)
      all_goals go_ret
      all_goals exact ⟨by rw [HR.out]; rfl, by rw [HR.out]; exact HH1.out.bw (by repeat (first | exact Bw.refl _ | apply Bw.alloc | apply Bw.drewN | apply Bw.drew)), (Wh.of_bw HW0.out).trans (HW1.out.bw (by repeat (first | exact Bw.refl _ | apply Bw.alloc | apply Bw.drewN | apply Bw.drew)))⟩
    · have HF1 := hid (show ((reachM s a after).f == -1) = false by rw [hs1]; simp [hf1])
      have RN1 := hid (show runL s ((a, after) :: []) = (s1, false) from by rw [runL_no (by rw [hs1]; exact hf1), hs1])
      have HR := hid (show runL s ([(a, after)]) = (s1, false) from by rw [RN1.out])
      clear hf1 hs1
      go_enter Tryd.func24, Tryd.ntmps24
      go_wp2_with (first
        | (go_at_call 20; (fail_if_success (have _q := HG1)); refine (reach_anyI a after (HH0.out.bw (by repeat (first | exact Bw.refl _ | apply Bw.alloc | apply Bw.drewN | apply Bw.drew))) HL1.out.1 HL1.out.2.1 HL1.out.2.2).mono ?_; rw [HF1.out]; rintro e w1 ⟨rfl, hh, hw⟩; rw [HS1.out] at hh; have HH1 := hid hh; have HW1 := hid (Wh.trans (Wh.bw HWX.out (by repeat (first | exact Bw.refl _ | apply Bw.alloc | apply Bw.drewN | apply Bw.drew))) hw); have u1 := (HPC.out.wh HW1.out (by decide) (by decide)).cell; have ul1 := (HPC.out.wh HW1.out (by decide) (by decide)).lt; have v1 := (HPS.out.wh HW1.out (by decide) (by decide)).cell; have vl1 := (HPS.out.wh HW1.out (by decide) (by decide)).lt; have HG1 := hid trivial; clear hh hw)
        | fail)
      all_goals go_ret
      all_goals exact ⟨by rw [HR.out]; rfl, by rw [HR.out]; exact HH1.out.bw (by repeat (first | exact Bw.refl _ | apply Bw.alloc | apply Bw.drewN | apply Bw.drew)), (Wh.of_bw HW0.out).trans (HW1.out.bw (by repeat (first | exact Bw.refl _ | apply Bw.alloc | apply Bw.drewN | apply Bw.drew)))⟩
  by_cases h24 : op = 24
  · subst h24
    have HPL := hid (show ∀ y ∈ ([(a, after)] : List (Int × Int)), (0 ≤ y.1 ∧ y.1 < n) ∧ 0 ≤ y.2 ∧ y.2 ≤ 257 from HPL0.out)
    change Calls _ _ _ _ (RnP bh bf hb br w (runL s ([(a, after)])))
    clear HPL0
    have HL1 := hid (show (0 ≤ a ∧ a < (s.h.length : Int)) ∧ s.row.length ≤ 1000000 ∧ s.h.length ≤ 1000000 from by have := HO0.out.len; have := HO0.out.rowLe; have := HN.out; have h9 := HPL.out (a, after) (by simp); simp only at h9; omega)
    obtain ⟨s1, hs1⟩ : ∃ z, reachM s a after = z := ⟨_, rfl⟩
    have HS1 := hid hs1
    have HO1 := hid (show HOk n s1 from by rw [← hs1]; have h9 := HPL.out (a, after) (by simp); simp only at h9; exact HO0.out.reach (by omega) (by omega))
    by_cases hf1 : s1.f = -1
    · have HF1 := hid (show ((reachM s a after).f == -1) = true by rw [hs1]; simp [hf1])
      have RG1 := hid (show runL s ((a, after) :: []) = runL s1 ([]) from by rw [runL_go (by rw [hs1]; exact hf1), hs1])
      clear hf1 hs1
      have HR := hid (show runL s ([(a, after)]) = (s1, true) from by rw [RG1.out]; rfl)
      go_enter Tryd.func24, Tryd.ntmps24
      go_wp2_with (first
        | (go_at_call 20; (fail_if_success (have _q := HG1)); refine (reach_anyI a after (HH0.out.bw (by repeat (first | exact Bw.refl _ | apply Bw.alloc | apply Bw.drewN | apply Bw.drew))) HL1.out.1 HL1.out.2.1 HL1.out.2.2).mono ?_; rw [HF1.out]; rintro e w1 ⟨rfl, hh, hw⟩; rw [HS1.out] at hh; have HH1 := hid hh; have HW1 := hid (Wh.trans (Wh.bw HWX.out (by repeat (first | exact Bw.refl _ | apply Bw.alloc | apply Bw.drewN | apply Bw.drew))) hw); have u1 := (HPC.out.wh HW1.out (by decide) (by decide)).cell; have ul1 := (HPC.out.wh HW1.out (by decide) (by decide)).lt; have v1 := (HPS.out.wh HW1.out (by decide) (by decide)).cell; have vl1 := (HPS.out.wh HW1.out (by decide) (by decide)).lt; have HG1 := hid trivial; clear hh hw)
        | fail)
      all_goals go_ret
      all_goals exact ⟨by rw [HR.out]; rfl, by rw [HR.out]; exact HH1.out.bw (by repeat (first | exact Bw.refl _ | apply Bw.alloc | apply Bw.drewN | apply Bw.drew)), (Wh.of_bw HW0.out).trans (HW1.out.bw (by repeat (first | exact Bw.refl _ | apply Bw.alloc | apply Bw.drewN | apply Bw.drew)))⟩
    · have HF1 := hid (show ((reachM s a after).f == -1) = false by rw [hs1]; simp [hf1])
      have RN1 := hid (show runL s ((a, after) :: []) = (s1, false) from by rw [runL_no (by rw [hs1]; exact hf1), hs1])
      have HR := hid (show runL s ([(a, after)]) = (s1, false) from by rw [RN1.out])
      clear hf1 hs1
      go_enter Tryd.func24, Tryd.ntmps24
      go_wp2_with (first
        | (go_at_call 20; (fail_if_success (have _q := HG1)); refine (reach_anyI a after (HH0.out.bw (by repeat (first | exact Bw.refl _ | apply Bw.alloc | apply Bw.drewN | apply Bw.drew))) HL1.out.1 HL1.out.2.1 HL1.out.2.2).mono ?_; rw [HF1.out]; rintro e w1 ⟨rfl, hh, hw⟩; rw [HS1.out] at hh; have HH1 := hid hh; have HW1 := hid (Wh.trans (Wh.bw HWX.out (by repeat (first | exact Bw.refl _ | apply Bw.alloc | apply Bw.drewN | apply Bw.drew))) hw); have u1 := (HPC.out.wh HW1.out (by decide) (by decide)).cell; have ul1 := (HPC.out.wh HW1.out (by decide) (by decide)).lt; have v1 := (HPS.out.wh HW1.out (by decide) (by decide)).cell; have vl1 := (HPS.out.wh HW1.out (by decide) (by decide)).lt; have HG1 := hid trivial; clear hh hw)
        | fail)
      all_goals go_ret
      all_goals exact ⟨by rw [HR.out]; rfl, by rw [HR.out]; exact HH1.out.bw (by repeat (first | exact Bw.refl _ | apply Bw.alloc | apply Bw.drewN | apply Bw.drew)), (Wh.of_bw HW0.out).trans (HW1.out.bw (by repeat (first | exact Bw.refl _ | apply Bw.alloc | apply Bw.drewN | apply Bw.drew)))⟩
  by_cases h27 : op = 27
  · subst h27
    have HPL := hid (show ∀ y ∈ ([] : List (Int × Int)), (0 ≤ y.1 ∧ y.1 < n) ∧ 0 ≤ y.2 ∧ y.2 ≤ 257 from HPL0.out)
    change Calls _ _ _ _ (RnP bh bf hb br w (runL s ([])))
    clear HPL0
    have HR := hid (show runL s ([]) = (s, true) from by rfl)
    go_enter Tryd.func24, Tryd.ntmps24
    go_wp2_with (first
      | fail)
    all_goals go_ret
    all_goals exact ⟨by rw [HR.out]; rfl, by rw [HR.out]; exact HH0.out.bw (by repeat (first | exact Bw.refl _ | apply Bw.alloc | apply Bw.drewN | apply Bw.drew)), (Wh.of_bw HW0.out).trans (HWX.out.bw (by repeat (first | exact Bw.refl _ | apply Bw.alloc | apply Bw.drewN | apply Bw.drew)))⟩
  by_cases h28 : op = 28
  · subst h28
    have HPL := hid (show ∀ y ∈ (tgts f k f.tries : List (Int × Int)), (0 ≤ y.1 ∧ y.1 < n) ∧ 0 ≤ y.2 ∧ y.2 ≤ 257 from HPL0.out)
    change Calls _ _ _ _ (RnP bh bf hb br w (runL s (tgts f k f.tries)))
    clear HPL0
    go_enter Tryd.func24, Tryd.ntmps24
    go_wp2_with (first
      | (go_at_call 31; refine (targets_any ⟨f, .slice a1 f.boxes.length c1, .slice a2 f.caps.length c2, .slice a3 f.code.length c3, .slice a4 f.tries.length c4⟩ k n (HH0.out.bw (by repeat (first | exact Bw.refl _ | apply Bw.alloc | apply Bw.drewN | apply Bw.drew))) ((HA.out.bw HW0.out).wh (HWX.out.bw (by repeat (first | exact Bw.refl _ | apply Bw.alloc | apply Bw.drewN | apply Bw.drew)))) HO0.out HN.out HT.out).mono ?_; rintro e w9 ⟨rfl, hh, hw⟩; have HH9 := hid hh; have HW9 := hid ((HWX.out.bw (by repeat (first | exact Bw.refl _ | apply Bw.alloc | apply Bw.drewN | apply Bw.drew))).trans hw); clear hh hw)
      | fail)
    all_goals go_ret
    all_goals exact ⟨rfl, HH9.out.bw (by repeat (first | exact Bw.refl _ | apply Bw.alloc | apply Bw.drewN | apply Bw.drew)), (Wh.of_bw HW0.out).trans (HW9.out.bw (by repeat (first | exact Bw.refl _ | apply Bw.alloc | apply Bw.drewN | apply Bw.drew)))⟩
  by_cases h21 : op = 21
  · subst h21
    have HPL := hid (show ∀ y ∈ ((((k : Int) + 1), after) :: (a, after) :: tgts f k f.tries : List (Int × Int)), (0 ≤ y.1 ∧ y.1 < n) ∧ 0 ≤ y.2 ∧ y.2 ≤ 257 from HPL0.out)
    change Calls _ _ _ _ (RnP bh bf hb br w (runL s ((((k : Int) + 1), after) :: (a, after) :: tgts f k f.tries)))
    clear HPL0
    have HL1 := hid (show (0 ≤ ((k : Int) + 1) ∧ ((k : Int) + 1) < (s.h.length : Int)) ∧ s.row.length ≤ 1000000 ∧ s.h.length ≤ 1000000 from by have := HO0.out.len; have := HO0.out.rowLe; have := HN.out; have h9 := HPL.out (((k : Int) + 1), after) (by simp); simp only at h9; omega)
    obtain ⟨s1, hs1⟩ : ∃ z, reachM s ((k : Int) + 1) after = z := ⟨_, rfl⟩
    have HS1 := hid hs1
    have HO1 := hid (show HOk n s1 from by rw [← hs1]; have h9 := HPL.out (((k : Int) + 1), after) (by simp); simp only at h9; exact HO0.out.reach (by omega) (by omega))
    by_cases hf1 : s1.f = -1
    · have HF1 := hid (show ((reachM s ((k : Int) + 1) after).f == -1) = true by rw [hs1]; simp [hf1])
      have RG1 := hid (show runL s ((((k : Int) + 1), after) :: (a, after) :: (tgts f k f.tries)) = runL s1 ((a, after) :: (tgts f k f.tries)) from by rw [runL_go (by rw [hs1]; exact hf1), hs1])
      clear hf1 hs1
      have HL2 := hid (show (0 ≤ a ∧ a < (s1.h.length : Int)) ∧ s1.row.length ≤ 1000000 ∧ s1.h.length ≤ 1000000 from by have := HO1.out.len; have := HO1.out.rowLe; have := HN.out; have h9 := HPL.out (a, after) (by simp); simp only at h9; omega)
      obtain ⟨s2, hs2⟩ : ∃ z, reachM s1 a after = z := ⟨_, rfl⟩
      have HS2 := hid hs2
      have HO2 := hid (show HOk n s2 from by rw [← hs2]; have h9 := HPL.out (a, after) (by simp); simp only at h9; exact HO1.out.reach (by omega) (by omega))
      by_cases hf2 : s2.f = -1
      · have HF2 := hid (show ((reachM s1 a after).f == -1) = true by rw [hs2]; simp [hf2])
        have RG2 := hid (show runL s1 ((a, after) :: (tgts f k f.tries)) = runL s2 ((tgts f k f.tries)) from by rw [runL_go (by rw [hs2]; exact hf2), hs2])
        clear hf2 hs2
        have HR := hid (show runL s ((((k : Int) + 1), after) :: (a, after) :: tgts f k f.tries) = runL s2 (tgts f k f.tries) from by rw [RG1.out, RG2.out])
        go_enter Tryd.func24, Tryd.ntmps24
        go_wp2_with (first
          | (go_at_call 20; (fail_if_success (have _q := HG1)); refine (reach_anyI ((k : Int) + 1) after (HH0.out.bw (by repeat (first | exact Bw.refl _ | apply Bw.alloc | apply Bw.drewN | apply Bw.drew))) HL1.out.1 HL1.out.2.1 HL1.out.2.2).mono ?_; rw [HF1.out]; rintro e w1 ⟨rfl, hh, hw⟩; rw [HS1.out] at hh; have HH1 := hid hh; have HW1 := hid (Wh.trans (Wh.bw HWX.out (by repeat (first | exact Bw.refl _ | apply Bw.alloc | apply Bw.drewN | apply Bw.drew))) hw); have u1 := (HPC.out.wh HW1.out (by decide) (by decide)).cell; have ul1 := (HPC.out.wh HW1.out (by decide) (by decide)).lt; have v1 := (HPS.out.wh HW1.out (by decide) (by decide)).cell; have vl1 := (HPS.out.wh HW1.out (by decide) (by decide)).lt; have HG1 := hid trivial; clear hh hw)
          | (go_at_call 20; (have _q := HG1; clear _q); (fail_if_success (have _q := HG2)); refine (reach_anyI a after (HH1.out.bw (by repeat (first | exact Bw.refl _ | apply Bw.alloc | apply Bw.drewN | apply Bw.drew))) HL2.out.1 HL2.out.2.1 HL2.out.2.2).mono ?_; rw [HF2.out]; rintro e w2 ⟨rfl, hh, hw⟩; rw [HS2.out] at hh; have HH2 := hid hh; have HW2 := hid (Wh.trans (Wh.bw HW1.out (by repeat (first | exact Bw.refl _ | apply Bw.alloc | apply Bw.drewN | apply Bw.drew))) hw); have u2 := (HPC.out.wh HW2.out (by decide) (by decide)).cell; have ul2 := (HPC.out.wh HW2.out (by decide) (by decide)).lt; have v2 := (HPS.out.wh HW2.out (by decide) (by decide)).cell; have vl2 := (HPS.out.wh HW2.out (by decide) (by decide)).lt; have HG2 := hid trivial; clear hh hw)
          | (go_at_call 31; refine (targets_any ⟨f, .slice a1 f.boxes.length c1, .slice a2 f.caps.length c2, .slice a3 f.code.length c3, .slice a4 f.tries.length c4⟩ k n (HH2.out.bw (by repeat (first | exact Bw.refl _ | apply Bw.alloc | apply Bw.drewN | apply Bw.drew))) ((HA.out.bw HW0.out).wh (HW2.out.bw (by repeat (first | exact Bw.refl _ | apply Bw.alloc | apply Bw.drewN | apply Bw.drew)))) HO2.out HN.out HT.out).mono ?_; rintro e w9 ⟨rfl, hh, hw⟩; have HH9 := hid hh; have HW9 := hid ((HW2.out.bw (by repeat (first | exact Bw.refl _ | apply Bw.alloc | apply Bw.drewN | apply Bw.drew))).trans hw); clear hh hw)
          | fail)
        all_goals go_ret
        all_goals exact ⟨by rw [HR.out]; try rfl, by rw [HR.out]; exact HH9.out.bw (by repeat (first | exact Bw.refl _ | apply Bw.alloc | apply Bw.drewN | apply Bw.drew)), (Wh.of_bw HW0.out).trans (HW9.out.bw (by repeat (first | exact Bw.refl _ | apply Bw.alloc | apply Bw.drewN | apply Bw.drew)))⟩
      · have HF2 := hid (show ((reachM s1 a after).f == -1) = false by rw [hs2]; simp [hf2])
        have RN2 := hid (show runL s1 ((a, after) :: (tgts f k f.tries)) = (s2, false) from by rw [runL_no (by rw [hs2]; exact hf2), hs2])
        have HR := hid (show runL s ((((k : Int) + 1), after) :: (a, after) :: tgts f k f.tries) = (s2, false) from by rw [RG1.out, RN2.out])
        clear hf2 hs2
        go_enter Tryd.func24, Tryd.ntmps24
        go_wp2_with (first
          | (go_at_call 20; (fail_if_success (have _q := HG1)); refine (reach_anyI ((k : Int) + 1) after (HH0.out.bw (by repeat (first | exact Bw.refl _ | apply Bw.alloc | apply Bw.drewN | apply Bw.drew))) HL1.out.1 HL1.out.2.1 HL1.out.2.2).mono ?_; rw [HF1.out]; rintro e w1 ⟨rfl, hh, hw⟩; rw [HS1.out] at hh; have HH1 := hid hh; have HW1 := hid (Wh.trans (Wh.bw HWX.out (by repeat (first | exact Bw.refl _ | apply Bw.alloc | apply Bw.drewN | apply Bw.drew))) hw); have u1 := (HPC.out.wh HW1.out (by decide) (by decide)).cell; have ul1 := (HPC.out.wh HW1.out (by decide) (by decide)).lt; have v1 := (HPS.out.wh HW1.out (by decide) (by decide)).cell; have vl1 := (HPS.out.wh HW1.out (by decide) (by decide)).lt; have HG1 := hid trivial; clear hh hw)
          | (go_at_call 20; (have _q := HG1; clear _q); (fail_if_success (have _q := HG2)); refine (reach_anyI a after (HH1.out.bw (by repeat (first | exact Bw.refl _ | apply Bw.alloc | apply Bw.drewN | apply Bw.drew))) HL2.out.1 HL2.out.2.1 HL2.out.2.2).mono ?_; rw [HF2.out]; rintro e w2 ⟨rfl, hh, hw⟩; rw [HS2.out] at hh; have HH2 := hid hh; have HW2 := hid (Wh.trans (Wh.bw HW1.out (by repeat (first | exact Bw.refl _ | apply Bw.alloc | apply Bw.drewN | apply Bw.drew))) hw); have u2 := (HPC.out.wh HW2.out (by decide) (by decide)).cell; have ul2 := (HPC.out.wh HW2.out (by decide) (by decide)).lt; have v2 := (HPS.out.wh HW2.out (by decide) (by decide)).cell; have vl2 := (HPS.out.wh HW2.out (by decide) (by decide)).lt; have HG2 := hid trivial; clear hh hw)
          | fail)
        all_goals go_ret
        all_goals exact ⟨by rw [HR.out]; rfl, by rw [HR.out]; exact HH2.out.bw (by repeat (first | exact Bw.refl _ | apply Bw.alloc | apply Bw.drewN | apply Bw.drew)), (Wh.of_bw HW0.out).trans (HW2.out.bw (by repeat (first | exact Bw.refl _ | apply Bw.alloc | apply Bw.drewN | apply Bw.drew)))⟩
    · have HF1 := hid (show ((reachM s ((k : Int) + 1) after).f == -1) = false by rw [hs1]; simp [hf1])
      have RN1 := hid (show runL s ((((k : Int) + 1), after) :: (a, after) :: (tgts f k f.tries)) = (s1, false) from by rw [runL_no (by rw [hs1]; exact hf1), hs1])
      have HR := hid (show runL s ((((k : Int) + 1), after) :: (a, after) :: tgts f k f.tries) = (s1, false) from by rw [RN1.out])
      clear hf1 hs1
      go_enter Tryd.func24, Tryd.ntmps24
      go_wp2_with (first
        | (go_at_call 20; (fail_if_success (have _q := HG1)); refine (reach_anyI ((k : Int) + 1) after (HH0.out.bw (by repeat (first | exact Bw.refl _ | apply Bw.alloc | apply Bw.drewN | apply Bw.drew))) HL1.out.1 HL1.out.2.1 HL1.out.2.2).mono ?_; rw [HF1.out]; rintro e w1 ⟨rfl, hh, hw⟩; rw [HS1.out] at hh; have HH1 := hid hh; have HW1 := hid (Wh.trans (Wh.bw HWX.out (by repeat (first | exact Bw.refl _ | apply Bw.alloc | apply Bw.drewN | apply Bw.drew))) hw); have u1 := (HPC.out.wh HW1.out (by decide) (by decide)).cell; have ul1 := (HPC.out.wh HW1.out (by decide) (by decide)).lt; have v1 := (HPS.out.wh HW1.out (by decide) (by decide)).cell; have vl1 := (HPS.out.wh HW1.out (by decide) (by decide)).lt; have HG1 := hid trivial; clear hh hw)
        | fail)
      all_goals go_ret
      all_goals exact ⟨by rw [HR.out]; rfl, by rw [HR.out]; exact HH1.out.bw (by repeat (first | exact Bw.refl _ | apply Bw.alloc | apply Bw.drewN | apply Bw.drew)), (Wh.of_bw HW0.out).trans (HW1.out.bw (by repeat (first | exact Bw.refl _ | apply Bw.alloc | apply Bw.drewN | apply Bw.drew)))⟩
  by_cases h22 : op = 22
  · subst h22
    have HPL := hid (show ∀ y ∈ ((((k : Int) + 1), after) :: (a, h) :: tgts f k f.tries : List (Int × Int)), (0 ≤ y.1 ∧ y.1 < n) ∧ 0 ≤ y.2 ∧ y.2 ≤ 257 from HPL0.out)
    change Calls _ _ _ _ (RnP bh bf hb br w (runL s ((((k : Int) + 1), after) :: (a, h) :: tgts f k f.tries)))
    clear HPL0
    have HL1 := hid (show (0 ≤ ((k : Int) + 1) ∧ ((k : Int) + 1) < (s.h.length : Int)) ∧ s.row.length ≤ 1000000 ∧ s.h.length ≤ 1000000 from by have := HO0.out.len; have := HO0.out.rowLe; have := HN.out; have h9 := HPL.out (((k : Int) + 1), after) (by simp); simp only at h9; omega)
    obtain ⟨s1, hs1⟩ : ∃ z, reachM s ((k : Int) + 1) after = z := ⟨_, rfl⟩
    have HS1 := hid hs1
    have HO1 := hid (show HOk n s1 from by rw [← hs1]; have h9 := HPL.out (((k : Int) + 1), after) (by simp); simp only at h9; exact HO0.out.reach (by omega) (by omega))
    by_cases hf1 : s1.f = -1
    · have HF1 := hid (show ((reachM s ((k : Int) + 1) after).f == -1) = true by rw [hs1]; simp [hf1])
      have RG1 := hid (show runL s ((((k : Int) + 1), after) :: (a, h) :: (tgts f k f.tries)) = runL s1 ((a, h) :: (tgts f k f.tries)) from by rw [runL_go (by rw [hs1]; exact hf1), hs1])
      clear hf1 hs1
      have HL2 := hid (show (0 ≤ a ∧ a < (s1.h.length : Int)) ∧ s1.row.length ≤ 1000000 ∧ s1.h.length ≤ 1000000 from by have := HO1.out.len; have := HO1.out.rowLe; have := HN.out; have h9 := HPL.out (a, h) (by simp); simp only at h9; omega)
      obtain ⟨s2, hs2⟩ : ∃ z, reachM s1 a h = z := ⟨_, rfl⟩
      have HS2 := hid hs2
      have HO2 := hid (show HOk n s2 from by rw [← hs2]; have h9 := HPL.out (a, h) (by simp); simp only at h9; exact HO1.out.reach (by omega) (by omega))
      by_cases hf2 : s2.f = -1
      · have HF2 := hid (show ((reachM s1 a h).f == -1) = true by rw [hs2]; simp [hf2])
        have RG2 := hid (show runL s1 ((a, h) :: (tgts f k f.tries)) = runL s2 ((tgts f k f.tries)) from by rw [runL_go (by rw [hs2]; exact hf2), hs2])
        clear hf2 hs2
        have HR := hid (show runL s ((((k : Int) + 1), after) :: (a, h) :: tgts f k f.tries) = runL s2 (tgts f k f.tries) from by rw [RG1.out, RG2.out])
        go_enter Tryd.func24, Tryd.ntmps24
        go_wp2_with (first
          | (go_at_call 20; (fail_if_success (have _q := HG1)); refine (reach_anyI ((k : Int) + 1) after (HH0.out.bw (by repeat (first | exact Bw.refl _ | apply Bw.alloc | apply Bw.drewN | apply Bw.drew))) HL1.out.1 HL1.out.2.1 HL1.out.2.2).mono ?_; rw [HF1.out]; rintro e w1 ⟨rfl, hh, hw⟩; rw [HS1.out] at hh; have HH1 := hid hh; have HW1 := hid (Wh.trans (Wh.bw HWX.out (by repeat (first | exact Bw.refl _ | apply Bw.alloc | apply Bw.drewN | apply Bw.drew))) hw); have u1 := (HPC.out.wh HW1.out (by decide) (by decide)).cell; have ul1 := (HPC.out.wh HW1.out (by decide) (by decide)).lt; have v1 := (HPS.out.wh HW1.out (by decide) (by decide)).cell; have vl1 := (HPS.out.wh HW1.out (by decide) (by decide)).lt; have HG1 := hid trivial; clear hh hw)
          | (go_at_call 20; (have _q := HG1; clear _q); (fail_if_success (have _q := HG2)); refine (reach_anyI a h (HH1.out.bw (by repeat (first | exact Bw.refl _ | apply Bw.alloc | apply Bw.drewN | apply Bw.drew))) HL2.out.1 HL2.out.2.1 HL2.out.2.2).mono ?_; rw [HF2.out]; rintro e w2 ⟨rfl, hh, hw⟩; rw [HS2.out] at hh; have HH2 := hid hh; have HW2 := hid (Wh.trans (Wh.bw HW1.out (by repeat (first | exact Bw.refl _ | apply Bw.alloc | apply Bw.drewN | apply Bw.drew))) hw); have u2 := (HPC.out.wh HW2.out (by decide) (by decide)).cell; have ul2 := (HPC.out.wh HW2.out (by decide) (by decide)).lt; have v2 := (HPS.out.wh HW2.out (by decide) (by decide)).cell; have vl2 := (HPS.out.wh HW2.out (by decide) (by decide)).lt; have HG2 := hid trivial; clear hh hw)
          | (go_at_call 31; refine (targets_any ⟨f, .slice a1 f.boxes.length c1, .slice a2 f.caps.length c2, .slice a3 f.code.length c3, .slice a4 f.tries.length c4⟩ k n (HH2.out.bw (by repeat (first | exact Bw.refl _ | apply Bw.alloc | apply Bw.drewN | apply Bw.drew))) ((HA.out.bw HW0.out).wh (HW2.out.bw (by repeat (first | exact Bw.refl _ | apply Bw.alloc | apply Bw.drewN | apply Bw.drew)))) HO2.out HN.out HT.out).mono ?_; rintro e w9 ⟨rfl, hh, hw⟩; have HH9 := hid hh; have HW9 := hid ((HW2.out.bw (by repeat (first | exact Bw.refl _ | apply Bw.alloc | apply Bw.drewN | apply Bw.drew))).trans hw); clear hh hw)
          | fail)
        all_goals go_ret
        all_goals exact ⟨by rw [HR.out]; try rfl, by rw [HR.out]; exact HH9.out.bw (by repeat (first | exact Bw.refl _ | apply Bw.alloc | apply Bw.drewN | apply Bw.drew)), (Wh.of_bw HW0.out).trans (HW9.out.bw (by repeat (first | exact Bw.refl _ | apply Bw.alloc | apply Bw.drewN | apply Bw.drew)))⟩
      · have HF2 := hid (show ((reachM s1 a h).f == -1) = false by rw [hs2]; simp [hf2])
        have RN2 := hid (show runL s1 ((a, h) :: (tgts f k f.tries)) = (s2, false) from by rw [runL_no (by rw [hs2]; exact hf2), hs2])
        have HR := hid (show runL s ((((k : Int) + 1), after) :: (a, h) :: tgts f k f.tries) = (s2, false) from by rw [RG1.out, RN2.out])
        clear hf2 hs2
        go_enter Tryd.func24, Tryd.ntmps24
        go_wp2_with (first
          | (go_at_call 20; (fail_if_success (have _q := HG1)); refine (reach_anyI ((k : Int) + 1) after (HH0.out.bw (by repeat (first | exact Bw.refl _ | apply Bw.alloc | apply Bw.drewN | apply Bw.drew))) HL1.out.1 HL1.out.2.1 HL1.out.2.2).mono ?_; rw [HF1.out]; rintro e w1 ⟨rfl, hh, hw⟩; rw [HS1.out] at hh; have HH1 := hid hh; have HW1 := hid (Wh.trans (Wh.bw HWX.out (by repeat (first | exact Bw.refl _ | apply Bw.alloc | apply Bw.drewN | apply Bw.drew))) hw); have u1 := (HPC.out.wh HW1.out (by decide) (by decide)).cell; have ul1 := (HPC.out.wh HW1.out (by decide) (by decide)).lt; have v1 := (HPS.out.wh HW1.out (by decide) (by decide)).cell; have vl1 := (HPS.out.wh HW1.out (by decide) (by decide)).lt; have HG1 := hid trivial; clear hh hw)
          | (go_at_call 20; (have _q := HG1; clear _q); (fail_if_success (have _q := HG2)); refine (reach_anyI a h (HH1.out.bw (by repeat (first | exact Bw.refl _ | apply Bw.alloc | apply Bw.drewN | apply Bw.drew))) HL2.out.1 HL2.out.2.1 HL2.out.2.2).mono ?_; rw [HF2.out]; rintro e w2 ⟨rfl, hh, hw⟩; rw [HS2.out] at hh; have HH2 := hid hh; have HW2 := hid (Wh.trans (Wh.bw HW1.out (by repeat (first | exact Bw.refl _ | apply Bw.alloc | apply Bw.drewN | apply Bw.drew))) hw); have u2 := (HPC.out.wh HW2.out (by decide) (by decide)).cell; have ul2 := (HPC.out.wh HW2.out (by decide) (by decide)).lt; have v2 := (HPS.out.wh HW2.out (by decide) (by decide)).cell; have vl2 := (HPS.out.wh HW2.out (by decide) (by decide)).lt; have HG2 := hid trivial; clear hh hw)
          | fail)
        all_goals go_ret
        all_goals exact ⟨by rw [HR.out]; rfl, by rw [HR.out]; exact HH2.out.bw (by repeat (first | exact Bw.refl _ | apply Bw.alloc | apply Bw.drewN | apply Bw.drew)), (Wh.of_bw HW0.out).trans (HW2.out.bw (by repeat (first | exact Bw.refl _ | apply Bw.alloc | apply Bw.drewN | apply Bw.drew)))⟩
    · have HF1 := hid (show ((reachM s ((k : Int) + 1) after).f == -1) = false by rw [hs1]; simp [hf1])
      have RN1 := hid (show runL s ((((k : Int) + 1), after) :: (a, h) :: (tgts f k f.tries)) = (s1, false) from by rw [runL_no (by rw [hs1]; exact hf1), hs1])
      have HR := hid (show runL s ((((k : Int) + 1), after) :: (a, h) :: tgts f k f.tries) = (s1, false) from by rw [RN1.out])
      clear hf1 hs1
      go_enter Tryd.func24, Tryd.ntmps24
      go_wp2_with (first
        | (go_at_call 20; (fail_if_success (have _q := HG1)); refine (reach_anyI ((k : Int) + 1) after (HH0.out.bw (by repeat (first | exact Bw.refl _ | apply Bw.alloc | apply Bw.drewN | apply Bw.drew))) HL1.out.1 HL1.out.2.1 HL1.out.2.2).mono ?_; rw [HF1.out]; rintro e w1 ⟨rfl, hh, hw⟩; rw [HS1.out] at hh; have HH1 := hid hh; have HW1 := hid (Wh.trans (Wh.bw HWX.out (by repeat (first | exact Bw.refl _ | apply Bw.alloc | apply Bw.drewN | apply Bw.drew))) hw); have u1 := (HPC.out.wh HW1.out (by decide) (by decide)).cell; have ul1 := (HPC.out.wh HW1.out (by decide) (by decide)).lt; have v1 := (HPS.out.wh HW1.out (by decide) (by decide)).cell; have vl1 := (HPS.out.wh HW1.out (by decide) (by decide)).lt; have HG1 := hid trivial; clear hh hw)
        | fail)
      all_goals go_ret
      all_goals exact ⟨by rw [HR.out]; rfl, by rw [HR.out]; exact HH1.out.bw (by repeat (first | exact Bw.refl _ | apply Bw.alloc | apply Bw.drewN | apply Bw.drew)), (Wh.of_bw HW0.out).trans (HW1.out.bw (by repeat (first | exact Bw.refl _ | apply Bw.alloc | apply Bw.drewN | apply Bw.drew)))⟩
  by_cases h23 : op = 23
  · subst h23
    have HPL := hid (show ∀ y ∈ ((((k : Int) + 1), after) :: (a, h) :: tgts f k f.tries : List (Int × Int)), (0 ≤ y.1 ∧ y.1 < n) ∧ 0 ≤ y.2 ∧ y.2 ≤ 257 from HPL0.out)
    change Calls _ _ _ _ (RnP bh bf hb br w (runL s ((((k : Int) + 1), after) :: (a, h) :: tgts f k f.tries)))
    clear HPL0
    have HL1 := hid (show (0 ≤ ((k : Int) + 1) ∧ ((k : Int) + 1) < (s.h.length : Int)) ∧ s.row.length ≤ 1000000 ∧ s.h.length ≤ 1000000 from by have := HO0.out.len; have := HO0.out.rowLe; have := HN.out; have h9 := HPL.out (((k : Int) + 1), after) (by simp); simp only at h9; omega)
    obtain ⟨s1, hs1⟩ : ∃ z, reachM s ((k : Int) + 1) after = z := ⟨_, rfl⟩
    have HS1 := hid hs1
    have HO1 := hid (show HOk n s1 from by rw [← hs1]; have h9 := HPL.out (((k : Int) + 1), after) (by simp); simp only at h9; exact HO0.out.reach (by omega) (by omega))
    by_cases hf1 : s1.f = -1
    · have HF1 := hid (show ((reachM s ((k : Int) + 1) after).f == -1) = true by rw [hs1]; simp [hf1])
      have RG1 := hid (show runL s ((((k : Int) + 1), after) :: (a, h) :: (tgts f k f.tries)) = runL s1 ((a, h) :: (tgts f k f.tries)) from by rw [runL_go (by rw [hs1]; exact hf1), hs1])
      clear hf1 hs1
      have HL2 := hid (show (0 ≤ a ∧ a < (s1.h.length : Int)) ∧ s1.row.length ≤ 1000000 ∧ s1.h.length ≤ 1000000 from by have := HO1.out.len; have := HO1.out.rowLe; have := HN.out; have h9 := HPL.out (a, h) (by simp); simp only at h9; omega)
      obtain ⟨s2, hs2⟩ : ∃ z, reachM s1 a h = z := ⟨_, rfl⟩
      have HS2 := hid hs2
      have HO2 := hid (show HOk n s2 from by rw [← hs2]; have h9 := HPL.out (a, h) (by simp); simp only at h9; exact HO1.out.reach (by omega) (by omega))
      by_cases hf2 : s2.f = -1
      · have HF2 := hid (show ((reachM s1 a h).f == -1) = true by rw [hs2]; simp [hf2])
        have RG2 := hid (show runL s1 ((a, h) :: (tgts f k f.tries)) = runL s2 ((tgts f k f.tries)) from by rw [runL_go (by rw [hs2]; exact hf2), hs2])
        clear hf2 hs2
        have HR := hid (show runL s ((((k : Int) + 1), after) :: (a, h) :: tgts f k f.tries) = runL s2 (tgts f k f.tries) from by rw [RG1.out, RG2.out])
        go_enter Tryd.func24, Tryd.ntmps24
        go_wp2_with (first
          | (go_at_call 20; (fail_if_success (have _q := HG1)); refine (reach_anyI ((k : Int) + 1) after (HH0.out.bw (by repeat (first | exact Bw.refl _ | apply Bw.alloc | apply Bw.drewN | apply Bw.drew))) HL1.out.1 HL1.out.2.1 HL1.out.2.2).mono ?_; rw [HF1.out]; rintro e w1 ⟨rfl, hh, hw⟩; rw [HS1.out] at hh; have HH1 := hid hh; have HW1 := hid (Wh.trans (Wh.bw HWX.out (by repeat (first | exact Bw.refl _ | apply Bw.alloc | apply Bw.drewN | apply Bw.drew))) hw); have u1 := (HPC.out.wh HW1.out (by decide) (by decide)).cell; have ul1 := (HPC.out.wh HW1.out (by decide) (by decide)).lt; have v1 := (HPS.out.wh HW1.out (by decide) (by decide)).cell; have vl1 := (HPS.out.wh HW1.out (by decide) (by decide)).lt; have HG1 := hid trivial; clear hh hw)
          | (go_at_call 20; (have _q := HG1; clear _q); (fail_if_success (have _q := HG2)); refine (reach_anyI a h (HH1.out.bw (by repeat (first | exact Bw.refl _ | apply Bw.alloc | apply Bw.drewN | apply Bw.drew))) HL2.out.1 HL2.out.2.1 HL2.out.2.2).mono ?_; rw [HF2.out]; rintro e w2 ⟨rfl, hh, hw⟩; rw [HS2.out] at hh; have HH2 := hid hh; have HW2 := hid (Wh.trans (Wh.bw HW1.out (by repeat (first | exact Bw.refl _ | apply Bw.alloc | apply Bw.drewN | apply Bw.drew))) hw); have u2 := (HPC.out.wh HW2.out (by decide) (by decide)).cell; have ul2 := (HPC.out.wh HW2.out (by decide) (by decide)).lt; have v2 := (HPS.out.wh HW2.out (by decide) (by decide)).cell; have vl2 := (HPS.out.wh HW2.out (by decide) (by decide)).lt; have HG2 := hid trivial; clear hh hw)
          | (go_at_call 31; refine (targets_any ⟨f, .slice a1 f.boxes.length c1, .slice a2 f.caps.length c2, .slice a3 f.code.length c3, .slice a4 f.tries.length c4⟩ k n (HH2.out.bw (by repeat (first | exact Bw.refl _ | apply Bw.alloc | apply Bw.drewN | apply Bw.drew))) ((HA.out.bw HW0.out).wh (HW2.out.bw (by repeat (first | exact Bw.refl _ | apply Bw.alloc | apply Bw.drewN | apply Bw.drew)))) HO2.out HN.out HT.out).mono ?_; rintro e w9 ⟨rfl, hh, hw⟩; have HH9 := hid hh; have HW9 := hid ((HW2.out.bw (by repeat (first | exact Bw.refl _ | apply Bw.alloc | apply Bw.drewN | apply Bw.drew))).trans hw); clear hh hw)
          | fail)
        all_goals go_ret
        all_goals exact ⟨by rw [HR.out]; try rfl, by rw [HR.out]; exact HH9.out.bw (by repeat (first | exact Bw.refl _ | apply Bw.alloc | apply Bw.drewN | apply Bw.drew)), (Wh.of_bw HW0.out).trans (HW9.out.bw (by repeat (first | exact Bw.refl _ | apply Bw.alloc | apply Bw.drewN | apply Bw.drew)))⟩
      · have HF2 := hid (show ((reachM s1 a h).f == -1) = false by rw [hs2]; simp [hf2])
        have RN2 := hid (show runL s1 ((a, h) :: (tgts f k f.tries)) = (s2, false) from by rw [runL_no (by rw [hs2]; exact hf2), hs2])
        have HR := hid (show runL s ((((k : Int) + 1), after) :: (a, h) :: tgts f k f.tries) = (s2, false) from by rw [RG1.out, RN2.out])
        clear hf2 hs2
        go_enter Tryd.func24, Tryd.ntmps24
        go_wp2_with (first
          | (go_at_call 20; (fail_if_success (have _q := HG1)); refine (reach_anyI ((k : Int) + 1) after (HH0.out.bw (by repeat (first | exact Bw.refl _ | apply Bw.alloc | apply Bw.drewN | apply Bw.drew))) HL1.out.1 HL1.out.2.1 HL1.out.2.2).mono ?_; rw [HF1.out]; rintro e w1 ⟨rfl, hh, hw⟩; rw [HS1.out] at hh; have HH1 := hid hh; have HW1 := hid (Wh.trans (Wh.bw HWX.out (by repeat (first | exact Bw.refl _ | apply Bw.alloc | apply Bw.drewN | apply Bw.drew))) hw); have u1 := (HPC.out.wh HW1.out (by decide) (by decide)).cell; have ul1 := (HPC.out.wh HW1.out (by decide) (by decide)).lt; have v1 := (HPS.out.wh HW1.out (by decide) (by decide)).cell; have vl1 := (HPS.out.wh HW1.out (by decide) (by decide)).lt; have HG1 := hid trivial; clear hh hw)
          | (go_at_call 20; (have _q := HG1; clear _q); (fail_if_success (have _q := HG2)); refine (reach_anyI a h (HH1.out.bw (by repeat (first | exact Bw.refl _ | apply Bw.alloc | apply Bw.drewN | apply Bw.drew))) HL2.out.1 HL2.out.2.1 HL2.out.2.2).mono ?_; rw [HF2.out]; rintro e w2 ⟨rfl, hh, hw⟩; rw [HS2.out] at hh; have HH2 := hid hh; have HW2 := hid (Wh.trans (Wh.bw HW1.out (by repeat (first | exact Bw.refl _ | apply Bw.alloc | apply Bw.drewN | apply Bw.drew))) hw); have u2 := (HPC.out.wh HW2.out (by decide) (by decide)).cell; have ul2 := (HPC.out.wh HW2.out (by decide) (by decide)).lt; have v2 := (HPS.out.wh HW2.out (by decide) (by decide)).cell; have vl2 := (HPS.out.wh HW2.out (by decide) (by decide)).lt; have HG2 := hid trivial; clear hh hw)
          | fail)
        all_goals go_ret
        all_goals exact ⟨by rw [HR.out]; rfl, by rw [HR.out]; exact HH2.out.bw (by repeat (first | exact Bw.refl _ | apply Bw.alloc | apply Bw.drewN | apply Bw.drew)), (Wh.of_bw HW0.out).trans (HW2.out.bw (by repeat (first | exact Bw.refl _ | apply Bw.alloc | apply Bw.drewN | apply Bw.drew)))⟩
    · have HF1 := hid (show ((reachM s ((k : Int) + 1) after).f == -1) = false by rw [hs1]; simp [hf1])
      have RN1 := hid (show runL s ((((k : Int) + 1), after) :: (a, h) :: (tgts f k f.tries)) = (s1, false) from by rw [runL_no (by rw [hs1]; exact hf1), hs1])
      have HR := hid (show runL s ((((k : Int) + 1), after) :: (a, h) :: tgts f k f.tries) = (s1, false) from by rw [RN1.out])
      clear hf1 hs1
      go_enter Tryd.func24, Tryd.ntmps24
      go_wp2_with (first
        | (go_at_call 20; (fail_if_success (have _q := HG1)); refine (reach_anyI ((k : Int) + 1) after (HH0.out.bw (by repeat (first | exact Bw.refl _ | apply Bw.alloc | apply Bw.drewN | apply Bw.drew))) HL1.out.1 HL1.out.2.1 HL1.out.2.2).mono ?_; rw [HF1.out]; rintro e w1 ⟨rfl, hh, hw⟩; rw [HS1.out] at hh; have HH1 := hid hh; have HW1 := hid (Wh.trans (Wh.bw HWX.out (by repeat (first | exact Bw.refl _ | apply Bw.alloc | apply Bw.drewN | apply Bw.drew))) hw); have u1 := (HPC.out.wh HW1.out (by decide) (by decide)).cell; have ul1 := (HPC.out.wh HW1.out (by decide) (by decide)).lt; have v1 := (HPS.out.wh HW1.out (by decide) (by decide)).cell; have vl1 := (HPS.out.wh HW1.out (by decide) (by decide)).lt; have HG1 := hid trivial; clear hh hw)
        | fail)
      all_goals go_ret
      all_goals exact ⟨by rw [HR.out]; rfl, by rw [HR.out]; exact HH1.out.bw (by repeat (first | exact Bw.refl _ | apply Bw.alloc | apply Bw.drewN | apply Bw.drew)), (Wh.of_bw HW0.out).trans (HW1.out.bw (by repeat (first | exact Bw.refl _ | apply Bw.alloc | apply Bw.drewN | apply Bw.drew)))⟩
  have hld : leads f op a k h after = (((k : Int) + 1), after) :: tgts f k f.tries := by unfold leads; simp [h20, h24, h27, h28, h21, h22, h23]
  rw [hld] at HPL0 ⊢
  have HPL := hid HPL0.out
  have b20 : (op == 20) = false := by simp [h20]
  have b24 : (op == 24) = false := by simp [h24]
  have b27 : (op == 27) = false := by simp [h27]
  have b28 : (op == 28) = false := by simp [h28]
  have b21 : (op == 21) = false := by simp [h21]
  have b22 : (op == 22) = false := by simp [h22]
  have b23 : (op == 23) = false := by simp [h23]
  clear hld HPL0 h20 h24 h27 h28 h21 h22 h23
  have HL1 := hid (show (0 ≤ ((k : Int) + 1) ∧ ((k : Int) + 1) < (s.h.length : Int)) ∧ s.row.length ≤ 1000000 ∧ s.h.length ≤ 1000000 from by have := HO0.out.len; have := HO0.out.rowLe; have := HN.out; have h9 := HPL.out (((k : Int) + 1), after) (by simp); simp only at h9; omega)
  obtain ⟨s1, hs1⟩ : ∃ z, reachM s ((k : Int) + 1) after = z := ⟨_, rfl⟩
  have HS1 := hid hs1
  have HO1 := hid (show HOk n s1 from by rw [← hs1]; have h9 := HPL.out (((k : Int) + 1), after) (by simp); simp only at h9; exact HO0.out.reach (by omega) (by omega))
  by_cases hf1 : s1.f = -1
  · have HF1 := hid (show ((reachM s ((k : Int) + 1) after).f == -1) = true by rw [hs1]; simp [hf1])
    have RG1 := hid (show runL s ((((k : Int) + 1), after) :: (tgts f k f.tries)) = runL s1 ((tgts f k f.tries)) from by rw [runL_go (by rw [hs1]; exact hf1), hs1])
    clear hf1 hs1
    have HR := hid (show runL s ((((k : Int) + 1), after) :: tgts f k f.tries) = runL s1 (tgts f k f.tries) from by rw [RG1.out])
    go_enter Tryd.func24, Tryd.ntmps24
    go_wp2_with (first
      | (go_at_call 20; (fail_if_success (have _q := HG1)); refine (reach_anyI ((k : Int) + 1) after (HH0.out.bw (by repeat (first | exact Bw.refl _ | apply Bw.alloc | apply Bw.drewN | apply Bw.drew))) HL1.out.1 HL1.out.2.1 HL1.out.2.2).mono ?_; rw [HF1.out]; rintro e w1 ⟨rfl, hh, hw⟩; rw [HS1.out] at hh; have HH1 := hid hh; have HW1 := hid (Wh.trans (Wh.bw HWX.out (by repeat (first | exact Bw.refl _ | apply Bw.alloc | apply Bw.drewN | apply Bw.drew))) hw); have u1 := (HPC.out.wh HW1.out (by decide) (by decide)).cell; have ul1 := (HPC.out.wh HW1.out (by decide) (by decide)).lt; have v1 := (HPS.out.wh HW1.out (by decide) (by decide)).cell; have vl1 := (HPS.out.wh HW1.out (by decide) (by decide)).lt; have HG1 := hid trivial; clear hh hw)
      | (go_at_call 31; refine (targets_any ⟨f, .slice a1 f.boxes.length c1, .slice a2 f.caps.length c2, .slice a3 f.code.length c3, .slice a4 f.tries.length c4⟩ k n (HH1.out.bw (by repeat (first | exact Bw.refl _ | apply Bw.alloc | apply Bw.drewN | apply Bw.drew))) ((HA.out.bw HW0.out).wh (HW1.out.bw (by repeat (first | exact Bw.refl _ | apply Bw.alloc | apply Bw.drewN | apply Bw.drew)))) HO1.out HN.out HT.out).mono ?_; rintro e w9 ⟨rfl, hh, hw⟩; have HH9 := hid hh; have HW9 := hid ((HW1.out.bw (by repeat (first | exact Bw.refl _ | apply Bw.alloc | apply Bw.drewN | apply Bw.drew))).trans hw); clear hh hw)
      | fail)
    all_goals go_ret
    all_goals exact ⟨by rw [HR.out]; try rfl, by rw [HR.out]; exact HH9.out.bw (by repeat (first | exact Bw.refl _ | apply Bw.alloc | apply Bw.drewN | apply Bw.drew)), (Wh.of_bw HW0.out).trans (HW9.out.bw (by repeat (first | exact Bw.refl _ | apply Bw.alloc | apply Bw.drewN | apply Bw.drew)))⟩
  · have HF1 := hid (show ((reachM s ((k : Int) + 1) after).f == -1) = false by rw [hs1]; simp [hf1])
    have RN1 := hid (show runL s ((((k : Int) + 1), after) :: (tgts f k f.tries)) = (s1, false) from by rw [runL_no (by rw [hs1]; exact hf1), hs1])
    have HR := hid (show runL s ((((k : Int) + 1), after) :: tgts f k f.tries) = (s1, false) from by rw [RN1.out])
    clear hf1 hs1
    go_enter Tryd.func24, Tryd.ntmps24
    go_wp2_with (first
      | (go_at_call 20; (fail_if_success (have _q := HG1)); refine (reach_anyI ((k : Int) + 1) after (HH0.out.bw (by repeat (first | exact Bw.refl _ | apply Bw.alloc | apply Bw.drewN | apply Bw.drew))) HL1.out.1 HL1.out.2.1 HL1.out.2.2).mono ?_; rw [HF1.out]; rintro e w1 ⟨rfl, hh, hw⟩; rw [HS1.out] at hh; have HH1 := hid hh; have HW1 := hid (Wh.trans (Wh.bw HWX.out (by repeat (first | exact Bw.refl _ | apply Bw.alloc | apply Bw.drewN | apply Bw.drew))) hw); have u1 := (HPC.out.wh HW1.out (by decide) (by decide)).cell; have ul1 := (HPC.out.wh HW1.out (by decide) (by decide)).lt; have v1 := (HPS.out.wh HW1.out (by decide) (by decide)).cell; have vl1 := (HPS.out.wh HW1.out (by decide) (by decide)).lt; have HG1 := hid trivial; clear hh hw)
      | fail)
    all_goals go_ret
    all_goals exact ⟨by rw [HR.out]; rfl, by rw [HR.out]; exact HH1.out.bw (by repeat (first | exact Bw.refl _ | apply Bw.alloc | apply Bw.drewN | apply Bw.drew)), (Wh.of_bw HW0.out).trans (HW1.out.bw (by repeat (first | exact Bw.refl _ | apply Bw.alloc | apply Bw.drewN | apply Bw.drew)))⟩

end

end Go.Proofs.YtcljlmjcjfmppaaDoor
