/- The resolver: parts. -/
import Derived.Test.YtekkjpecdflajaaDoorM16
set_option linter.unusedSimpArgs false
set_option linter.unusedVariables false
namespace Go.Proofs.YtekkjpecdflajaaDoor
open Go Go.RowKit

/-- The next node's place, as it stands in memory. -/
def nextW (w : World) (r : Nat) : Nat := match w.cell? ⟨r, 4, none⟩ with | some (.int _ k) => k.toNat | _ => 0

section
variable {w : World} {X : ZX} {z : ZS} {B : ZB}
theorem RS.nextW (h : RS w X z B) : nextW w X.r = z.next := by
  have c4 : w.cell? ⟨X.r, 4, none⟩ = some (.int .i64 z.next) := h.blk.cell 4
  unfold Go.Proofs.YtekkjpecdflajaaDoor.nextW
  rw [c4]
  simp
theorem RS.went (h : RS w X z B) (hn : z.next < X.L.length) : RS (w.setCell ⟨X.r, 4, none⟩ (.int .i64 ((z.next : Int) + 1))) X { z with next := z.next + 1 } B :=
  ⟨h.blk.set 4 _, (h.x.setR 4 _).nums (by omega) z.fn z.loops z.fault z.faulty⟩

set_option maxRecDepth 100000 in
set_option maxHeartbeats 8000000 in
theorem parts_step {t : Nat} (hC : ∀ f, f ≤ t → ConZ X f) (h : RS w X z B) (due : Int) (z' : ZS) (hz : zR X.L X.A (t + 1) (.parts due) z = some z') : Calls Tryd.prog 44 #[.pointer (some ⟨X.r, 0, none⟩), .int .i64 due] w fun e' w' => e' = .returned (.tuple #[]) ∧ Zp w X B z' w' := by
  have H := hid h
  have HZ := hid hz
  have HCC := hid hC
  clear h hz hC
  go_enter Tryd.func44, Tryd.ntmps44
  go_wp2
  go_loopw [1] (fun v1 wr => ∃ (f : Nat) (d : Int) (zz : ZS) (BB : ZB), v1 = .int .i64 d ∧ f ≤ t + 1 ∧ zR X.L X.A f (.parts d) zz = some z' ∧ RS wr X zz BB ∧ NX B.ρ w wr BB.ρ) (fun _ wr => X.L.length - nextW wr X.r)
  case atStart => exact ⟨t + 1, due, z, B, rfl, Nat.le_refl _, HZ.out, H.out, NX.refl _ _⟩
  case round =>
    obtain ⟨f, d, zz, BB, rfl, hft, hr, hrs, hnx⟩ := hrel
    cases f with
    | zero => unfold zR at hr; cases hr
    | succ f =>
    unfold zR at hr
    simp only at hr
    have HRS := hid hrs
    have HNX := hid hnx
    have c11 : wr.cell? ⟨X.r, 11, none⟩ = some (.int .i64 zz.fault) := hrs.blk.cell 11
    have c4 : wr.cell? ⟨X.r, 4, none⟩ = some (.int .i64 zz.next) := hrs.blk.cell 4
    have c3 : wr.cell? ⟨X.r, 3, none⟩ = some (.slice (some ⟨X.g, X.o, none⟩) X.L.length X.cap) := hrs.blk.cell 3
    have rf := hrs.blk.free
    have rl := hrs.blk.lt
    have gl := hrs.x.nc.1.lt
    have hgr : ¬ X.g = X.r := fun e => by have h1 := hrs.x.nc.2; rw [e, hrs.x.rr] at h1; cases h1
    have HC := hid (HCC.out f (by omega))
    have HFT := hid hft
    by_cases h0 : 0 < d ∧ zz.fault = 0
    case neg =>
      rw [if_neg h0] at hr
      have hcase : decide (0 < d) = false ∨ (0 < d ∧ (zz.fault == 0) = false) := by
        by_cases hd : 0 < d
        · exact .inr ⟨hd, by simpa using fun e => h0 ⟨hd, e⟩⟩
        · exact .inl (by simpa using hd)
      have HE := hid (Option.some.inj hr)
      clear hrs hnx hft c4 c3 hr h0
      rcases hcase with e1 | ⟨e1, e2⟩
      all_goals
        go_wp2
        all_goals go_end0
        all_goals exact ⟨rfl, BB, HE.out ▸ HRS.out, HNX.out⟩
    rw [if_pos h0] at hr
    by_cases h1 : d ≤ 1000000 ∧ zz.next < X.L.length
    case neg => rw [if_neg h1] at hr; cases hr
    rw [if_pos h1] at hr
    obtain ⟨hd0, hfa⟩ := h0
    obtain ⟨hd1, hnl⟩ := h1
    have e2 : (zz.fault == 0) = true := by simpa using hfa
    have ck := hrs.x.nc.1.kind hnl
    have hi2 : (zz.next : Int) < (X.L.length : Int) := by omega
    have hw1 : IntKind.i64.wrap ((zz.next : Int) + 1) = (zz.next : Int) + 1 := by have := hrs.x.ll; rw [IntKind.wrap_i64]; omega
    have hw2 : IntKind.i64.wrap (d - 1) = d - 1 := by rw [IntKind.wrap_i64]; omega
    have R1 := hid (hrs.went hnl)
    have N1 := hid (hnx.set hrs.rn 4 (.int .i64 ((zz.next : Int) + 1)))
    have HNL := hid hnl
    have HNW := hid hrs.nextW
    have HD := hid (And.intro hd0 hd1)
    generalize hkd : (zN X.L zz.next).1 = kd at ck hr
    have HKD := hid hkd
    clear hrs hnx hft hfa hkd hd1
    by_cases h2 : kd = 2
    · rw [if_pos h2] at hr
      obtain ⟨z2, hr1, hr2⟩ := Option.bind_eq_some_iff.1 hr
      have HQ := hid hr1
      have HP := hid hr2
      have HG := hid (zR_next f _ hr1)
      have e2 : (kd == 2) = true := by simp [h2]
      clear hr hr1 hr2 h2
      go_wp2_with (first
        | (go_at_call 55; refine (HC.out.block R1.out zz.next z2 HQ.out).mono ?_; rintro e w2 ⟨rfl, B2, hrs2, hns2⟩; have R2 := hid hrs2; have N2 := hid (N1.out.trans hns2); clear hrs2 hns2)
        | fail)
      all_goals first
        | (case roundEnd => exact ⟨⟨f, d - 1, z2, B2, by first | rfl | (rw [hw2]), by have := HFT.out; omega, HP.out, R2.out, N2.out⟩, by rw [R2.out.nextW, HNW.out]; have h1 := HG.out; have h2 := HNL.out; (try simp only at h1); omega⟩)
    rw [if_neg h2] at hr
    have e2 : (kd == 2) = false := by simpa using h2
    clear h2
    by_cases h3 : kd = 3
    · rw [if_pos h3] at hr
      obtain ⟨z2, hr1, hr2⟩ := Option.bind_eq_some_iff.1 hr
      have HQ := hid hr1
      have HP := hid hr2
      have HG := hid (zR_next f _ hr1)
      have e3 : (kd == 3) = true := by simp [h3]
      clear hr hr1 hr2 h3
      go_wp2_with (first
        | (go_at_call 56; refine (HC.out.var R1.out zz.next z2 HQ.out).mono ?_; rintro e w2 ⟨rfl, B2, hrs2, hns2⟩; have R2 := hid hrs2; have N2 := hid (N1.out.trans hns2); clear hrs2 hns2)
        | fail)
      all_goals first
        | (case roundEnd => exact ⟨⟨f, d - 1, z2, B2, by first | rfl | (rw [hw2]), by have := HFT.out; omega, HP.out, R2.out, N2.out⟩, by rw [R2.out.nextW, HNW.out]; have h1 := HG.out; have h2 := HNL.out; (try simp only at h1); omega⟩)
    rw [if_neg h3] at hr
    have e3 : (kd == 3) = false := by simpa using h3
    clear h3
    by_cases h6 : kd = 6
    · rw [if_pos h6] at hr
      obtain ⟨z2, hr1, hr2⟩ := Option.bind_eq_some_iff.1 hr
      have HQ := hid hr1
      have HP := hid hr2
      have HG := hid (zR_next f _ hr1)
      have e6 : (kd == 6) = true := by simp [h6]
      clear hr hr1 hr2 h6
      go_wp2_with (first
        | (go_at_call 57; refine (HC.out.loop R1.out z2 HQ.out).mono ?_; rintro e w2 ⟨rfl, B2, hrs2, hns2⟩; have R2 := hid hrs2; have N2 := hid (N1.out.trans hns2); clear hrs2 hns2)
        | fail)
      all_goals first
        | (case roundEnd => exact ⟨⟨f, d - 1, z2, B2, by first | rfl | (rw [hw2]), by have := HFT.out; omega, HP.out, R2.out, N2.out⟩, by rw [R2.out.nextW, HNW.out]; have h1 := HG.out; have h2 := HNL.out; (try simp only at h1); omega⟩)
    rw [if_neg h6] at hr
    have e6 : (kd == 6) = false := by simpa using h6
    clear h6
    by_cases h11 : kd = 11
    · rw [if_pos h11] at hr
      obtain ⟨z2, hr1, hr2⟩ := Option.bind_eq_some_iff.1 hr
      have HQ := hid hr1
      have HP := hid hr2
      have HG := hid (zR_next f _ hr1)
      have e11 : (kd == 11) = true := by simp [h11]
      clear hr hr1 hr2 h11
      go_wp2_with (first
        | (go_at_call 58; refine (HC.out.att R1.out zz.next z2 HQ.out).mono ?_; rintro e w2 ⟨rfl, B2, hrs2, hns2⟩; have R2 := hid hrs2; have N2 := hid (N1.out.trans hns2); clear hrs2 hns2)
        | fail)
      all_goals first
        | (case roundEnd => exact ⟨⟨f, d - 1, z2, B2, by first | rfl | (rw [hw2]), by have := HFT.out; omega, HP.out, R2.out, N2.out⟩, by rw [R2.out.nextW, HNW.out]; have h1 := HG.out; have h2 := HNL.out; (try simp only at h1); omega⟩)
    rw [if_neg h11] at hr
    have e11 : (kd == 11) = false := by simpa using h11
    clear h11
    by_cases h12 : kd = 12
    · rw [if_pos h12] at hr
      obtain ⟨z2, hr1, hr2⟩ := Option.bind_eq_some_iff.1 hr
      have HQ := hid hr1
      have HP := hid hr2
      have HG := hid (zR_next f _ hr1)
      have e12 : (kd == 12) = true := by simp [h12]
      clear hr hr1 hr2 h12
      go_wp2_with (first
        | (go_at_call 59; refine (HC.out.named R1.out zz.next z2 HQ.out).mono ?_; rintro e w2 ⟨rfl, B2, hrs2, hns2⟩; have R2 := hid hrs2; have N2 := hid (N1.out.trans hns2); clear hrs2 hns2)
        | fail)
      all_goals first
        | (case roundEnd => exact ⟨⟨f, d - 1, z2, B2, by first | rfl | (rw [hw2]), by have := HFT.out; omega, HP.out, R2.out, N2.out⟩, by rw [R2.out.nextW, HNW.out]; have h1 := HG.out; have h2 := HNL.out; (try simp only at h1); omega⟩)
    rw [if_neg h12] at hr
    have e12 : (kd == 12) = false := by simpa using h12
    clear h12
    by_cases h31 : kd = 31
    · rw [if_pos h31] at hr
      obtain ⟨z2, hr1, hr2⟩ := Option.bind_eq_some_iff.1 hr
      have HQ := hid hr1
      have HP := hid hr2
      have HG := hid (zR_next f _ hr1)
      have e31 : (kd == 31) = true := by simp [h31]
      clear hr hr1 hr2 h31
      go_wp2_with (first
        | (go_at_call 60; refine (HC.out.func R1.out zz.next z2 HQ.out).mono ?_; rintro e w2 ⟨rfl, B2, hrs2, hns2⟩; have R2 := hid hrs2; have N2 := hid (N1.out.trans hns2); clear hrs2 hns2)
        | fail)
      all_goals first
        | (case roundEnd => exact ⟨⟨f, d - 1, z2, B2, by first | rfl | (rw [hw2]), by have := HFT.out; omega, HP.out, R2.out, N2.out⟩, by rw [R2.out.nextW, HNW.out]; have h1 := HG.out; have h2 := HNL.out; (try simp only at h1); omega⟩)
    rw [if_neg h31] at hr
    have e31 : (kd == 31) = false := by simpa using h31
    clear h31
    by_cases hn : 0 ≤ (zN X.L zz.next).2.1 ∧ (zN X.L zz.next).2.1 ≤ 1000000
    case neg => rw [if_neg hn] at hr; cases hr
    rw [if_pos hn] at hr
    obtain ⟨z2, hr1, hr2⟩ := Option.bind_eq_some_iff.1 hr
    have HQ := hid hr1
    have HG := hid (zplain_next hr1)
    have cn := R1.out.x.nc.1.cnt HNL.out
    generalize hN : (zN X.L zz.next).2.1 = N at hr2 hn cn
    have HN := hid hN
    have HP := hid hr2
    have hw3 : IntKind.i64.wrap (d + N) = d + N := by have := HD.out; rw [IntKind.wrap_i64]; omega
    have hw4 : IntKind.i64.wrap (d + N - 1) = d + N - 1 := by have := HD.out; rw [IntKind.wrap_i64]; omega
    clear hr hr1 hr2 hn hN cn
    go_wp2_with (first
      | (go_at_call 61; refine (plain_any R1.out zz.next HNL.out z2 HQ.out).mono ?_; rintro e w2 ⟨rfl, B2, hrs2, hns2⟩; have R2 := hid hrs2; have N2 := hid (N1.out.trans hns2); have q3 : w2.cell? ⟨X.r, 3, none⟩ = some (.slice (some ⟨X.g, X.o, none⟩) X.L.length X.cap) := hrs2.blk.cell 3; have qn := hrs2.x.nc.1.cnt HNL.out; rw [HN.out] at qn; have ql := hrs2.blk.lt; have qg := hrs2.x.nc.1.lt; clear hrs2 hns2)
      | fail)
    all_goals first
      | (case roundEnd => exact ⟨⟨f, d + N - 1, z2, B2, by first | rfl | (rw [hw3, hw4]) | (rw [hw4]), by have := HFT.out; omega, HP.out, R2.out, N2.out⟩, by rw [R2.out.nextW, HNW.out]; have h1 := HG.out; have h2 := HNL.out; (try simp only at h1); omega⟩)
end
end Go.Proofs.YtekkjpecdflajaaDoor

