/- The resolver: parts. · The resolver: function. · The resolver: all its functions together; a resolver that was just made. -/
import Derived.Test.YtdhkcdehedbpcaaDoorM35
import Derived.Test.YtdhkcdehedbpcaaDoorM30
set_option linter.unusedSimpArgs false
set_option linter.unusedVariables false
namespace Go.Proofs.YtdhkcdehedbpcaaDoor
open Go Go.RowKit

def nextW (w : World) (r : Nat) : Nat := match w.cell? ⟨r, 4, none⟩ with | some (.int _ k) => k.toNat | _ => 0

section
variable {w : World} {X : ZX} {z : ZS} {B : ZB}
theorem RS.nextW (h : RS w X z B) : nextW w X.r = z.next := by
 have c4 : w.cell? ⟨X.r, 4, none⟩ = some (.int .i64 z.next) := h.blk.cell 4
 unfold Go.Proofs.YtdhkcdehedbpcaaDoor.nextW
 rw [c4]
 simp
theorem RS.went (h : RS w X z B) (hn : z.next < X.L.length) : RS (w.setCell ⟨X.r, 4, none⟩ (.int .i64 ((z.next : Int) + 1))) X { z with next := z.next + 1 } B :=
 ⟨h.blk.set 4 _, (h.x.setR 4 _).nums (by omega) z.fn z.loops z.fault z.faulty⟩

set_option maxRecDepth 100000 in
set_option maxHeartbeats 8000000 in
theorem parts_step {t : Nat} (hC : ∀ f, f ≤ t → ConZ X f) (h : RS w X z B) (due : Int) (z' : ZS) (hz : zR X.L X.A (t + 1) (.parts due) z = some z') : Calls Tryd.prog 58 #[.pointer (some ⟨X.r, 0, none⟩), .int .i64 due] w fun e' w' => e' = .returned (.tuple #[]) ∧ Zp w X B z' w' := by
 have H := hid h
 have HZ := hid hz
 have HCC := hid hC
 clear h hz hC
 go_enter Tryd.func58, Tryd.ntmps58
 go_wp2
 go_loopw [1] (fun v1 wr => ∃ (f : Nat) (d : Int) (zz : ZS) (BB : ZB), v1 = .int .i64 d ∧ f ≤ t + 1 ∧ zR X.L X.A f (.parts d) zz = some z' ∧ RS wr X zz BB ∧ NX B.ρ w wr BB.ρ) (fun _ wr => X.L.length - nextW wr X.r)
 case atStart => exact ⟨t + 1, due, z, B, rfl, Nat.le_refl _, HZ.out, H.out, NX.refl _ _⟩
 case round =>
  obtain ⟨f, d, zz, BB, rfl, hft, hr, hrs, hnx⟩ := hrel
  cases f with
  | zero => unfold zR at hr; cases hr
  | succ f =>
  unfold zR at hr
  simp only at hr
  have HRS := hid hrs
  have HNX := hid hnx
  have c11 : wr.cell? ⟨X.r, 11, none⟩ = some (.int .i64 zz.fault) := hrs.blk.cell 11
  have c4 : wr.cell? ⟨X.r, 4, none⟩ = some (.int .i64 zz.next) := hrs.blk.cell 4
  have c3 : wr.cell? ⟨X.r, 3, none⟩ = some (.slice (some ⟨X.g, X.o, none⟩) X.L.length X.cap) := hrs.blk.cell 3
  have rf := hrs.blk.free
  have rl := hrs.blk.lt
  have gl := hrs.x.nc.1.lt
  have hgr : ¬ X.g = X.r := fun e => by have h1 := hrs.x.nc.2; rw [e, hrs.x.rr] at h1; cases h1
  have HC := hid (HCC.out f (by omega))
  have HFT := hid hft
  by_cases h0 : 0 < d ∧ zz.fault = 0
  case neg =>
   rw [if_neg h0] at hr
   have hcase : decide (0 < d) = false ∨ (0 < d ∧ (zz.fault == 0) = false) := by
    by_cases hd : 0 < d
    ·exact .inr ⟨hd, by simpa using fun e => h0 ⟨hd, e⟩⟩
    ·exact .inl (by simpa using hd)
   have HE := hid (Option.some.inj hr)
   clear hrs hnx hft c4 c3 hr h0
   rcases hcase with e1 | ⟨e1, e2⟩
   all_goals
    go_wp2
    all_goals go_end0
    all_goals exact ⟨rfl, BB, HE.out ▸ HRS.out, HNX.out⟩
  rw [if_pos h0] at hr
  by_cases h1 : d ≤ 1000000 ∧ zz.next < X.L.length
  case neg => rw [if_neg h1] at hr; cases hr
  rw [if_pos h1] at hr
  obtain ⟨hd0, hfa⟩ := h0
  obtain ⟨hd1, hnl⟩ := h1
  have e2 : (zz.fault == 0) = true := by simpa using hfa
  have ck := hrs.x.nc.1.kind hnl
  have hi2 : (zz.next : Int) < (X.L.length : Int) := by omega
  have hw1 : IntKind.i64.wrap ((zz.next : Int) + 1) = (zz.next : Int) + 1 := by have := hrs.x.ll; rw [IntKind.wrap_i64]; omega
  have hw2 : IntKind.i64.wrap (d - 1) = d - 1 := by rw [IntKind.wrap_i64]; omega
  have R1 := hid (hrs.went hnl)
  have N1 := hid (hnx.set hrs.rn 4 (.int .i64 ((zz.next : Int) + 1)))
  have HNL := hid hnl
  have HNW := hid hrs.nextW
  have HD := hid (And.intro hd0 hd1)
  generalize hkd : (zN X.L zz.next).1 = kd at ck hr
  have HKD := hid hkd
  clear hrs hnx hft hfa hkd hd1
  by_cases h2 : kd = 2
  ·rw [if_pos h2] at hr
   obtain ⟨z2, hr1, hr2⟩ := Option.bind_eq_some_iff.1 hr
   have HQ := hid hr1
   have HP := hid hr2
   have HG := hid (zR_next f _ hr1)
   have e2 : (kd == 2) = true := by simp [h2]
   clear hr hr1 hr2 h2
   go_wp2_with (first
    | (go_at_call 76; refine (HC.out.block R1.out zz.next z2 HQ.out).mono ?_; rintro e w2 ⟨rfl, B2, hrs2, hns2⟩; have R2 := hid hrs2; have N2 := hid (N1.out.trans hns2); clear hrs2 hns2)
    | fail)
   all_goals first
    | (case roundEnd => exact ⟨⟨f, d - 1, z2, B2, by first | rfl | (rw [hw2]), by have := HFT.out; omega, HP.out, R2.out, N2.out⟩, by rw [R2.out.nextW, HNW.out]; have h1 := HG.out; have h2 := HNL.out; (try simp only at h1); omega⟩)
  rw [if_neg h2] at hr
  have e2 : (kd == 2) = false := by simpa using h2
  clear h2
  by_cases h3 : kd = 3
  ·rw [if_pos h3] at hr
   obtain ⟨z2, hr1, hr2⟩ := Option.bind_eq_some_iff.1 hr
   have HQ := hid hr1
   have HP := hid hr2
   have HG := hid (zR_next f _ hr1)
   have e3 : (kd == 3) = true := by simp [h3]
   clear hr hr1 hr2 h3
   go_wp2_with (first
    | (go_at_call 77; refine (HC.out.var R1.out zz.next z2 HQ.out).mono ?_; rintro e w2 ⟨rfl, B2, hrs2, hns2⟩; have R2 := hid hrs2; have N2 := hid (N1.out.trans hns2); clear hrs2 hns2)
    | fail)
   all_goals first
    | (case roundEnd => exact ⟨⟨f, d - 1, z2, B2, by first | rfl | (rw [hw2]), by have := HFT.out; omega, HP.out, R2.out, N2.out⟩, by rw [R2.out.nextW, HNW.out]; have h1 := HG.out; have h2 := HNL.out; (try simp only at h1); omega⟩)
  rw [if_neg h3] at hr
  have e3 : (kd == 3) = false := by simpa using h3
  clear h3
  by_cases h6 : kd = 6
  ·rw [if_pos h6] at hr
   obtain ⟨z2, hr1, hr2⟩ := Option.bind_eq_some_iff.1 hr
   have HQ := hid hr1
   have HP := hid hr2
   have HG := hid (zR_next f _ hr1)
   have e6 : (kd == 6) = true := by simp [h6]
   clear hr hr1 hr2 h6
   go_wp2_with (first
    | (go_at_call 78; refine (HC.out.loop R1.out z2 HQ.out).mono ?_; rintro e w2 ⟨rfl, B2, hrs2, hns2⟩; have R2 := hid hrs2; have N2 := hid (N1.out.trans hns2); clear hrs2 hns2)
    | fail)
   all_goals first
    | (case roundEnd => exact ⟨⟨f, d - 1, z2, B2, by first | rfl | (rw [hw2]), by have := HFT.out; omega, HP.out, R2.out, N2.out⟩, by rw [R2.out.nextW, HNW.out]; have h1 := HG.out; have h2 := HNL.out; (try simp only at h1); omega⟩)
  rw [if_neg h6] at hr
  have e6 : (kd == 6) = false := by simpa using h6
  clear h6
  by_cases h11 : kd = 11
  ·rw [if_pos h11] at hr
   obtain ⟨z2, hr1, hr2⟩ := Option.bind_eq_some_iff.1 hr
   have HQ := hid hr1
   have HP := hid hr2
   have HG := hid (zR_next f _ hr1)
   have e11 : (kd == 11) = true := by simp [h11]
   clear hr hr1 hr2 h11
   go_wp2_with (first
    | (go_at_call 79; refine (HC.out.att R1.out zz.next z2 HQ.out).mono ?_; rintro e w2 ⟨rfl, B2, hrs2, hns2⟩; have R2 := hid hrs2; have N2 := hid (N1.out.trans hns2); clear hrs2 hns2)
    | fail)
   all_goals first
    | (case roundEnd => exact ⟨⟨f, d - 1, z2, B2, by first | rfl | (rw [hw2]), by have := HFT.out; omega, HP.out, R2.out, N2.out⟩, by rw [R2.out.nextW, HNW.out]; have h1 := HG.out; have h2 := HNL.out; (try simp only at h1); omega⟩)
  rw [if_neg h11] at hr
  have e11 : (kd == 11) = false := by simpa using h11
  clear h11
  by_cases h12 : kd = 12
  ·rw [if_pos h12] at hr
   obtain ⟨z2, hr1, hr2⟩ := Option.bind_eq_some_iff.1 hr
   have HQ := hid hr1
   have HP := hid hr2
   have HG := hid (zR_next f _ hr1)
   have e12 : (kd == 12) = true := by simp [h12]
   clear hr hr1 hr2 h12
   go_wp2_with (first
    | (go_at_call 80; refine (HC.out.named R1.out zz.next z2 HQ.out).mono ?_; rintro e w2 ⟨rfl, B2, hrs2, hns2⟩; have R2 := hid hrs2; have N2 := hid (N1.out.trans hns2); clear hrs2 hns2)
    | fail)
   all_goals first
    | (case roundEnd => exact ⟨⟨f, d - 1, z2, B2, by first | rfl | (rw [hw2]), by have := HFT.out; omega, HP.out, R2.out, N2.out⟩, by rw [R2.out.nextW, HNW.out]; have h1 := HG.out; have h2 := HNL.out; (try simp only at h1); omega⟩)
  rw [if_neg h12] at hr
  have e12 : (kd == 12) = false := by simpa using h12
  clear h12
  by_cases h31 : kd = 31
  ·rw [if_pos h31] at hr
   obtain ⟨z2, hr1, hr2⟩ := Option.bind_eq_some_iff.1 hr
   have HQ := hid hr1
   have HP := hid hr2
   have HG := hid (zR_next f _ hr1)
   have e31 : (kd == 31) = true := by simp [h31]
   clear hr hr1 hr2 h31
   go_wp2_with (first
    | (go_at_call 81; refine (HC.out.func R1.out zz.next z2 HQ.out).mono ?_; rintro e w2 ⟨rfl, B2, hrs2, hns2⟩; have R2 := hid hrs2; have N2 := hid (N1.out.trans hns2); clear hrs2 hns2)
    | fail)
   all_goals first
    | (case roundEnd => exact ⟨⟨f, d - 1, z2, B2, by first | rfl | (rw [hw2]), by have := HFT.out; omega, HP.out, R2.out, N2.out⟩, by rw [R2.out.nextW, HNW.out]; have h1 := HG.out; have h2 := HNL.out; (try simp only at h1); omega⟩)
  rw [if_neg h31] at hr
  have e31 : (kd == 31) = false := by simpa using h31
  clear h31
  by_cases hn : 0 ≤ (zN X.L zz.next).2.1 ∧ (zN X.L zz.next).2.1 ≤ 1000000
  case neg => rw [if_neg hn] at hr; cases hr
  rw [if_pos hn] at hr
  obtain ⟨z2, hr1, hr2⟩ := Option.bind_eq_some_iff.1 hr
  have HQ := hid hr1
  have HG := hid (zplain_next hr1)
  have cn := R1.out.x.nc.1.cnt HNL.out
  generalize hN : (zN X.L zz.next).2.1 = N at hr2 hn cn
  have HN := hid hN
  have HP := hid hr2
  have hw3 : IntKind.i64.wrap (d + N) = d + N := by have := HD.out; rw [IntKind.wrap_i64]; omega
  have hw4 : IntKind.i64.wrap (d + N - 1) = d + N - 1 := by have := HD.out; rw [IntKind.wrap_i64]; omega
  clear hr hr1 hr2 hn hN cn
  go_wp2_with (first
   | (go_at_call 82; refine (plain_any R1.out zz.next HNL.out z2 HQ.out).mono ?_; rintro e w2 ⟨rfl, B2, hrs2, hns2⟩; have R2 := hid hrs2; have N2 := hid (N1.out.trans hns2); have q3 : w2.cell? ⟨X.r, 3, none⟩ = some (.slice (some ⟨X.g, X.o, none⟩) X.L.length X.cap) := hrs2.blk.cell 3; have qn := hrs2.x.nc.1.cnt HNL.out; rw [HN.out] at qn; have ql := hrs2.blk.lt; have qg := hrs2.x.nc.1.lt; clear hrs2 hns2)
   | fail)
  all_goals first
   | (case roundEnd => exact ⟨⟨f, d + N - 1, z2, B2, by first | rfl | (rw [hw3, hw4]) | (rw [hw4]), by have := HFT.out; omega, HP.out, R2.out, N2.out⟩, by rw [R2.out.nextW, HNW.out]; have h1 := HG.out; have h2 := HNL.out; (try simp only at h1); omega⟩)
end
end Go.Proofs.YtdhkcdehedbpcaaDoor

namespace Go.Proofs.YtdhkcdehedbpcaaDoor
open Go Go.RowKit
section
variable {w : World} {X : ZX} {z : ZS} {B : ZB}

set_option maxRecDepth 100000 in
set_option maxHeartbeats 8000000 in
theorem function_step {t : Nat} (hC : ConZ X t) (h : RS w X z B) (i : Nat) (z' : ZS) (hz : zR X.L X.A (t + 1) (.func i) z = some z') : Calls Tryd.prog 81 #[.pointer (some ⟨X.r, 0, none⟩), .int .i64 i] w fun e' w' => e' = .returned (.tuple #[]) ∧ Zp w X B z' w' := by
 unfold zR at hz
 simp only at hz
 have hfl : B.K.length = z.funs.length := by rw [← h.x.kf, List.length_map]
 obtain ⟨fa, fc, hfv⟩ := own_form (h.x.funs (by decide)).1
 obtain ⟨n, hkn⟩ : ∃ n, B.K.length = n := ⟨_, rfl⟩
 rw [hkn] at hfv hfl
 rw [← hfl] at hz
 have c5 : w.cell? ⟨X.r, 5, none⟩ = some (.slice fa n fc) := by
  have := h.blk.cell 5
  rw [this]
  exact congrArg some hfv
 have hl := h.blk.lt
 have rfz := h.blk.free
 have H := hid h
 have HCC := hid hC
 have HFV := hid hfv
 have HKN := hid hkn
 by_cases h1024 : n = 1024
 ·rw [if_pos h1024] at hz
  cases hz
  have e1 : ((n : Int) == 1024) = true := by simp [h1024]
  clear h hC hfv hkn hfl h1024
  go_enter_defers Tryd.func81, Tryd.ntmps81
  go_wp2_with (first
   | (go_at_call 94; refine (fail_any H.out i 3).mono ?_; rintro e w1 ⟨rfl, hr, hn⟩; have R := hid hr; have N := hid hn; clear hr hn)
   | fail)
  exact ⟨_, results_none rfl _ _ _, rfl, Zp.self R.out N.out⟩
 ·rw [if_neg h1024] at hz
  by_cases hg : (i < X.L.length ∧ 0 < n) ∧ 0 ≤ (zN X.L i).2.2.2.1 ∧ (zN X.L i).2.2.2.1 ≤ 100000
  case neg => rw [if_neg hg] at hz; cases hz
  rw [if_pos hg] at hz
  obtain ⟨⟨hi, hn0⟩, hp0, hp1⟩ := hg
  obtain ⟨y, hy, hz⟩ := Option.bind_eq_some_iff.1 hz
  obtain ⟨v, hv, hz⟩ := Option.bind_eq_some_iff.1 hz
  have e1 : ((n : Int) == 1024) = false := by simp; omega
  have HLT := hid (show n < 1024 by have := h.x.bd.1; omega)
  have HFL := hid hfl
  have hpn := h.x.nc.1.num hi
  obtain ⟨pn, hpe⟩ : ∃ pn : Nat, (zN X.L i).2.2.2.1 = (pn : Int) := ⟨(zN X.L i).2.2.2.1.toNat, by omega⟩
  rw [hpe] at hpn hy hp1
  rw [Int.toNat_natCast] at hy
  have c1 : w.cell? ⟨X.r, 1, none⟩ = some (.int .i64 z.fn) := h.blk.cell 1
  have c3 : w.cell? ⟨X.r, 3, none⟩ = some (.slice (some ⟨X.g, X.o, none⟩) X.L.length X.cap) := h.blk.cell 3
  have gl := h.x.nc.1.lt
  have hi2 : (i : Int) < (X.L.length : Int) := by omega
  obtain ⟨np, hnp⟩ : ∃ np : Int, (pn : Int) = np := ⟨_, rfl⟩
  have HPE := hid (hpe.trans hnp)
  have HNP := hid hnp
  have HP1 := hid hp1
  have hw0 : wrap64 (n : Int) = (n : Int) := by have := HLT.out; unfold wrap64; omega
  have HY := hid hy
  have HV := hid hv
  have HZ := hid hz
  have HZO := hid (show zopen X.L z i = zenter { z with funs := z.funs ++ [⟨i, np, 0, [], z.fn, fun _ => none⟩] } n 0 by unfold zopen; rw [hpe, hnp, ← hfl])
  have HN0 := hid hn0
  rw [hnp] at hpn
  obtain ⟨i1, I1⟩ := info_parts8 infoFu
  have I1 := hid I1
  have OW := hid (fun (W' : World) (hb : Bw w W') => (show W'.ownsRow 0 118 6 (.slice fa n fc) n (rowK B.K) from by have := ((H.out.bw hb).x.funs (by decide)).1; rw [HFV.out, HKN.out] at this; exact this))
  have HS := hid (fun (W' : World) (hb : Bw w W') => (⟨(by have := (H.out.bw hb).blk.cell 5; rw [this]; exact congrArg some HFV.out), (H.out.bw hb).blk.cell 1⟩ : W'.cell? ⟨X.r, 5, none⟩ = some (.slice fa n fc) ∧ W'.cell? ⟨X.r, 1, none⟩ = some (.int .i64 z.fn)))
  have hmm := @run_makeMap Tryd.prog
  clear h hC hfv hkn hfl h1024 hn0 hi hp0 hp1 hpe hnp hy hv hz
  go_enter_defers Tryd.func81, Tryd.ntmps81
  go_upto_region 3 with fail
  refine wp_noPanic ?_
  refine wp_region_W (fun w' => w'.cell? ⟨X.r, 5, none⟩ = some (.slice fa n fc) ∧ w'.cell? ⟨X.r, 1, none⟩ = some (.int .i64 z.fn)) (fun j => if j == 13 || j == 15 || j == 16 then 0 else if j == 19 then 2 else 1) (by kernel_rfl) ?_
  refine tkW (i := 0) (oi := _) (v := ?_) rfl (Or.inl ⟨by rfl, fun w _ => ?_⟩) ?_
  rotate_left
  ·(go_simp; first | done | with_reducible rfl)
  try simp only [Act.put, sqA, sqZ, sqS]
  refine tkW (i := 1) (oi := _) (v := ?_) rfl (Or.inl ⟨by rfl, fun w _ => ?_⟩) ?_
  rotate_left
  ·(go_simp; first | done | with_reducible rfl)
  try simp only [Act.put, sqA, sqZ, sqS]
  refine tkW (i := 2) (oi := _) (v := ?_) rfl (Or.inl ⟨by rfl, fun w _ => ?_⟩) ?_
  rotate_left
  ·(go_simp; first | done | with_reducible rfl)
  try simp only [Act.put, sqA, sqZ, sqS]
  refine tkW (i := 3) (oi := _) (v := ?_) rfl (Or.inl ⟨by rfl, fun w _ => ?_⟩) ?_
  rotate_left
  ·(go_simp; first | done | with_reducible rfl)
  try simp only [Act.put, sqA, sqZ, sqS]
  refine ldW (i := 4) (oi := _) (v := ?_) rfl (Or.inl ⟨by rfl, fun w hS => ?_⟩) (HS.out _ (Bw.drew (Bw.refl _))) ?_
  rotate_left
  ·(obtain ⟨s1, s2⟩ := hS; go_simp; first | done | with_reducible rfl)
  try simp only [Act.put, sqA, sqZ, sqS]
  refine tkW (i := 5) (oi := _) (v := ?_) rfl (Or.inl ⟨by rfl, fun w _ => ?_⟩) ?_
  rotate_left
  ·(go_simp; first | done | with_reducible rfl)
  try simp only [Act.put, sqA, sqZ, sqS]
  refine tkW (i := 6) (oi := _) (v := ?_) rfl (Or.inl ⟨by rfl, fun w _ => ?_⟩) ?_
  rotate_left
  ·(go_simp; first | done | with_reducible rfl)
  try simp only [Act.put, sqA, sqZ, sqS]
  refine tkW (i := 7) (oi := _) (v := ?_) rfl (Or.inl ⟨by rfl, fun w _ => ?_⟩) ?_
  rotate_left
  ·(go_simp; first | done | with_reducible rfl)
  try simp only [Act.put, sqA, sqZ, sqS]
  refine tkW (i := 8) (oi := _) (v := ?_) rfl (Or.inl ⟨by rfl, fun w _ => ?_⟩) ?_
  rotate_left
  ·(go_simp; first | done | with_reducible rfl)
  try simp only [Act.put, sqA, sqZ, sqS]
  refine tkW (i := 9) (oi := _) (v := ?_) rfl (Or.inl ⟨by rfl, fun w _ => ?_⟩) ?_
  rotate_left
  ·(go_simp; first | done | with_reducible rfl)
  try simp only [Act.put, sqA, sqZ, sqS]
  refine tkW (i := 10) (oi := _) (v := ?_) rfl (Or.inl ⟨by rfl, fun w _ => ?_⟩) ?_
  rotate_left
  ·(go_simp; first | done | with_reducible rfl)
  try simp only [Act.put, sqA, sqZ, sqS]
  refine tkW (i := 11) (oi := _) (v := ?_) rfl (Or.inl ⟨by rfl, fun w _ => ?_⟩) ?_
  rotate_left
  ·(go_simp; first | done | with_reducible rfl)
  try simp only [Act.put, sqA, sqZ, sqS]
  refine ldW (i := 12) (oi := _) (v := ?_) rfl (Or.inl ⟨by rfl, fun w hS => ?_⟩) (HS.out _ (Bw.drew (Bw.refl _))) ?_
  rotate_left
  ·(obtain ⟨s1, s2⟩ := hS; go_simp; first | done | with_reducible rfl)
  try simp only [Act.put, sqA, sqZ, sqS]
  refine wpAnyW_ready (rs := [13]) (by kernel_rfl) (by simp) ?_
  refine (AllReadyW.cons (o := _) rfl (fun K hK => ?_) AllReadyW.nil)
  go_simp
  refine hK.out _ _ (HS.out _ (Bw.alloc (Bw.drew (Bw.refl _)) _)) ?_
  clear hK K
  try simp only [Act.put, sqA, sqZ, sqS]
  refine tkW (i := 14) (oi := _) (v := ?_) rfl (Or.inl ⟨by rfl, fun w _ => ?_⟩) ?_
  rotate_left
  ·(go_simp; first | done | with_reducible rfl)
  try simp only [Act.put, sqA, sqZ, sqS]
  refine wpAnyW_ready (rs := [15]) (by kernel_rfl) (by simp) ?_
  refine (AllReadyW.cons (o := _) rfl (fun K hK => ?_) AllReadyW.nil)
  go_simp
  refine hK.out _ _ (HS.out _ (Bw.alloc (Bw.alloc (Bw.drew (Bw.refl _)) _) _)) ?_
  clear hK K
  try simp only [Act.put, sqA, sqZ, sqS]
  have NWS := hid (show ∀ (j : Nat) (u : Value), ([.int .i64 i, .int .i64 np, .int .i64 0, .slice none 0 0, .int .i64 z.fn, .map (some w.heap.size)] : List Value)[j]? = some u → (((w.drew.alloc (.map #[] 0)).alloc (.cells #[.int .i64 i, .int .i64 np, .int .i64 0, .slice none 0 0, .int .i64 z.fn, .map (some w.heap.size)] 118))).cell? ((⟨w.heap.size + 1, 0, none⟩ : Addr).add j) = some u from by have h1 := new_news (w.drew.alloc (.map #[] 0)) [.int .i64 i, .int .i64 np, .int .i64 0, .slice none 0 0, .int .i64 z.fn, .map (some w.heap.size)] 118; rw [show ((w.drew.alloc (.map #[] 0))).heap.size = w.heap.size + 1 by simp [go_sem]] at h1; exact h1)
  refine wpAnyW_ready (rs := [16]) (by kernel_rfl) (by simp) ?_
  refine (AllReadyW.cons (o := _) rfl (fun K hK => ?_) AllReadyW.nil)
  refine step_append_row rfl _ _ 80 rfl 118 i1 _ 6 64 undF8 I1.out.1 I1.out.2.1 I1.out.2.2.1 I1.out.2.2.2 rfl (by decide) (.slice fa n fc) n (rowK B.K) rfl (OW.out _ (Bw.alloc (Bw.alloc (Bw.drew (Bw.refl _)) _) _)) ⟨w.heap.size + 1, 0, none⟩ 1 1 [.int .i64 i, .int .i64 np, .int .i64 0, .slice none 0 0, .int .i64 z.fn, .map (some w.heap.size)] rfl rfl NWS.out (by intro u hu; simp at hu; rcases hu with rfl | rfl | rfl | rfl | rfl | rfl <;> rfl) (by have := HLT.out; unfold maxLen; omega) (by have := HLT.out; omega) ?_
  intro v1 w3 ho1 hg1 hvb1
  have RA := H.out.bw (w' := ((w.drew.alloc (.map #[] 0)).alloc (.cells #[.int .i64 i, .int .i64 np, .int .i64 0, .slice none 0 0, .int .i64 z.fn, .map (some w.heap.size)] 118))) (Bw.alloc (Bw.alloc (Bw.drew (Bw.refl _)) _) _)
  have S3 := hid (show w3.cell? ⟨X.r, 5, none⟩ = some (.slice fa n fc) ∧ w3.cell? ⟨X.r, 1, none⟩ = some (.int .i64 z.fn) from by have sA := HS.out ((w.drew.alloc (.map #[] 0)).alloc (.cells #[.int .i64 i, .int .i64 np, .int .i64 0, .slice none 0 0, .int .i64 z.fn, .map (some w.heap.size)] 118)) (Bw.alloc (Bw.alloc (Bw.drew (Bw.refl _)) _) _); have hρ5 := (RA.x.funs (by decide)).2; rw [HFV.out] at hρ5; have k1 : w3.heap[X.r]? = (((w.drew.alloc (.map #[] 0)).alloc (.cells #[.int .i64 i, .int .i64 np, .int .i64 0, .slice none 0 0, .int .i64 z.fn, .map (some w.heap.size)] 118))).heap[X.r]? := hg1.block _ RA.blk.lt (fun e => by have h5 := hρ5 X.r e.symm; rw [RA.x.rr] at h5; cases h5); exact ⟨(World.cell?_of_block k1).trans sA.1, (World.cell?_of_block k1).trans sA.2⟩)
  have hMI : MI ((w.drew.alloc (.map #[] 0)).alloc (.cells #[.int .i64 i, .int .i64 np, .int .i64 0, .slice none 0 0, .int .i64 z.fn, .map (some w.heap.size)] 118)) w.heap.size (fun _ => none) 0 := (show MI (w.drew.alloc (.map #[] 0)) w.heap.size (fun _ => none) 0 from MI.new w.drew).keep (Below.heap_alloc (w.drew.alloc (.map #[] 0)) _ w.heap.size (by simp [go_sem]))
  have E0 := RA.funApp (w0 := w) (mb := w.heap.size) (Bw.alloc (Bw.alloc (Bw.drew (Bw.refl _)) _) _) (Nat.le_refl _) hMI (H.out.x.top _ (Nat.le_refl _)) (by have := H.out.x.nc.1.lt; omega) (by have := H.out.x.ah.1.lt; omega) (by have := H.out.x.pr.1.1; omega) HFV.out ⟨i, np, 0, [], z.fn, fun _ => none⟩ rfl rfl rfl HKN.out HLT.out ho1 hg1 hvb1 HN0.out
  obtain ⟨hr1, hn1, q5, ql, qf⟩ := E0
  have R3 := hid hr1
  have N3 := hid hn1
  obtain ⟨a1, cc1, e1⟩ := own_form ho1
  subst e1
  clear ho1 hg1 hvb1 hr1 hn1 RA hMI
  refine hK.out _ _ S3.out ?_
  clear hK K
  try simp only [Act.put, sqA, sqZ, sqS]
  refine tkW (i := 17) (oi := _) (v := ?_) rfl (Or.inl ⟨by rfl, fun w _ => ?_⟩) ?_
  rotate_left
  ·(go_simp; first | done | with_reducible rfl)
  try simp only [Act.put, sqA, sqZ, sqS]
  refine tkW (i := 18) (oi := _) (v := ?_) rfl (Or.inl ⟨by rfl, fun w _ => ?_⟩) ?_
  rotate_left
  ·(go_simp; first | done | with_reducible rfl)
  try simp only [Act.put, sqA, sqZ, sqS]
  refine wpAnyW_ready (rs := [19]) (by kernel_rfl) (by simp) ?_
  refine (AllReadyW.cons (o := _) rfl (fun K hK => ?_) AllReadyW.nil)
  go_simp
  refine hK.out _ _ trivial ?_
  clear hK K
  try simp only [Act.put, sqA, sqZ, sqS]
  refine wpAnyW_done (by kernel_rfl) ?_ _
  simp only [noPanic]
  have hzo := HZO.out
  generalize World.setCell w3 ⟨X.r, 5, none⟩ (.slice a1 (n + 1) cc1) = w4 at R3 N3 ⊢
  obtain ⟨B3, hB3⟩ : ∃ B3 : ZB, B3 = { B with K := B.K ++ [⟨⟨i, np, 0, [], z.fn, fun _ => none⟩, .slice none 0 0, .map (some w.heap.size)⟩], fv := .slice a1 (n + 1) cc1, ρ := funρ B.ρ (.slice a1 (n + 1) cc1) w.heap.size n } := ⟨_, rfl⟩
  have HB3 := hid hB3
  have R4 := hid (show RS w4 X { z with funs := z.funs ++ [⟨i, np, 0, [], z.fn, fun _ => none⟩] } B3 from HB3.out ▸ R3.out)
  have N4 := hid (show NX B.ρ w w4 B3.ρ from HB3.out ▸ N3.out)
  have HNB3 := hid (show B3.nb = B.nb by rw [HB3.out])
  have r5 : w4.cell? ⟨X.r, 5, none⟩ = some (.slice a1 (n + 1) cc1) := by have := R4.out.blk.cell 5; rw [this]; exact congrArg some (show B3.fv = _ by rw [HB3.out])
  have r4l := R4.out.blk.lt
  clear q5 ql qf c5 c1 c3 gl hl rfz hi2 hpn hzo R3 N3 hB3 hmm HS OW
  go_upto_region 5 with (first
   | (go_at_call 91; refine (enter_any R4.out n 0).mono ?_; rintro e' w5 ⟨nb, rfl, hr5, hn5, hb5⟩; have R5 := hid hr5; have N5 := hid hn5; have BK := hid hb5; clear hr5 hn5 hb5)
   | fail)
  have R6 := hid (show RS w5 X (zopen X.L z i) { B3 with nb := nb, ρ := entρ z.names B3.nb nb B3.ρ } by rw [HZO.out]; exact R5.out)
  have N6 := hid (N4.out.trans N5.out)
  have BK6 := hid (show Bk w5 X z B3.nb (entρ z.names B3.nb nb B3.ρ) from BK.out)
  clear R5 r5 r4l
  obtain ⟨B5, hB5⟩ : ∃ B5 : ZB, B5 = { B3 with nb := nb, ρ := entρ z.names B3.nb nb B3.ρ } := ⟨_, rfl⟩
  have R7 := hid (show RS w5 X (zopen X.L z i) B5 from hB5 ▸ R6.out)
  have N7 := hid (show NX B.ρ w w5 B5.ρ from hB5 ▸ N6.out)
  have BK7 := hid (show Bk w5 X z B3.nb B5.ρ from hB5 ▸ BK6.out)
  clear R6 N6 BK6 hB5 BK N5
  go_wp2
  go_loopw [51] (fun v51 wr => ∃ (k : Nat) (zz : ZS) (BB : ZB), v51 = .int .i64 (k : Nat) ∧ k ≤ pn ∧ zparam X.L X.A (pn - k) zz = some y ∧ RS wr X zz BB ∧ NX B5.ρ w5 wr BB.ρ) (fun v51 _ => pn - (intOf v51).toNat)
  case atStart => exact ⟨0, zopen X.L z i, B5, rfl, Nat.zero_le _, HY.out, R7.out, NX.refl _ _⟩
  case round =>
   obtain ⟨k, zz, BB, rfl, hk, hzp, hrs, hnx⟩ := hrel
   have HNX := hid hnx
   have HRS := hid hrs
   by_cases hkn : k < pn
   ·obtain ⟨q, hq⟩ : ∃ q, pn - k = q + 1 := ⟨pn - k - 1, by omega⟩
    rw [hq] at hzp
    unfold zparam at hzp
    obtain ⟨y1, hy1, hzp⟩ := Option.bind_eq_some_iff.1 hzp
    obtain ⟨v1, hv1, hzp⟩ := Option.bind_eq_some_iff.1 hzp
    have hlt := zdeclare_lt hy1
    have hn1 := zdeclare_next hy1
    have hn2 := zshow_next hv1
    have HY1 := hid hy1
    have HV1 := hid hv1
    have HZP := hid (show zparam X.L X.A (pn - (k + 1)) { v1 with next := zz.next + 1 } = some y by rw [show pn - (k + 1) = q by omega]; exact hzp)
    have HL := hid hlt
    have HN1 := hid hn1
    have HN2 := hid (hn2.trans hn1)
    have hkn2 : (k : Int) < np := by have := HNP.out; omega
    have hw1 : IntKind.i64.wrap ((zz.next : Int) + 1) = (zz.next : Int) + 1 := by have := hrs.x.ll; rw [IntKind.wrap_i64]; omega
    have hw2 : IntKind.i64.wrap ((k : Int) + 1) = (k : Int) + 1 := by have := HP1.out; rw [IntKind.wrap_i64]; omega
    have HKN2 := hid hkn
    have c4 : wr.cell? ⟨X.r, 4, none⟩ = some (.int .i64 zz.next) := hrs.blk.cell 4
    have rl := hrs.blk.lt
    clear hrs hnx hzp hy1 hv1 hlt hn1 hn2 hq hk hkn
    go_wp2_with (first
     | (go_at_call 92; refine (declare_any HRS.out zz.next y1 HY1.out).mono ?_; rintro e w6 ⟨rfl, B6, hr6, hn6⟩; have R8 := hid hr6; have N8 := hid hn6; have c4b : w6.cell? ⟨X.r, 4, none⟩ = some (.int .i64 zz.next) := (by have h4 : w6.cell? ⟨X.r, 4, none⟩ = some (.int .i64 y1.next) := hr6.blk.cell 4; rw [HN1.out] at h4; exact h4); have rl6 := hr6.blk.lt; clear hr6 hn6)
     | (go_at_call 93; refine (show_any R8.out zz.next HL.out v1 HV1.out).mono ?_; rintro e w7 ⟨rfl, hr7, hn7⟩; have R9 := hid hr7; have N9 := hid hn7; have c4c : w7.cell? ⟨X.r, 4, none⟩ = some (.int .i64 zz.next) := (by have h4 : w7.cell? ⟨X.r, 4, none⟩ = some (.int .i64 v1.next) := hr7.blk.cell 4; rw [HN2.out] at h4; exact h4); have rl7 := hr7.blk.lt; have rf7 := hr7.blk.free; have R10 := hid (show RS (w7.setCell ⟨X.r, 4, none⟩ (.int .i64 ((zz.next : Int) + 1))) X { v1 with next := zz.next + 1 } B6 from (by have h5 := hr7.went (by rw [HN2.out]; exact HL.out); rw [HN2.out] at h5; exact h5)); have N10 := hid (hn7.set hr7.rn 4 (.int .i64 ((zz.next : Int) + 1))); clear hr7 hn7)
     | fail)
    case roundEnd => exact ⟨⟨k + 1, _, B6, by first | rfl | (rw [hw2]; rfl), by have := HKN2.out; omega, HZP.out, R10.out, HNX.out.trans (N8.out.trans N10.out)⟩, by have := HKN2.out; simp [intOf]; omega⟩
   ·obtain rfl : k = pn := by omega
    rw [Nat.sub_self] at hzp
    unfold zparam at hzp
    obtain rfl := Option.some.inj hzp
    have e9 : decide ((k : Int) < np) = false := by have := HNP.out; simpa using (by omega : ¬ (k : Int) < np)
    have rl := hrs.blk.lt
    clear hrs hnx hzp hk hkn
    go_wp2_with (first
     | (go_at_call 58; refine (HCC.out.parts HRS.out _ v HV.out).mono ?_; rintro e w8 ⟨rfl, B8, hr8, hn8⟩; have R8 := hid hr8; have N8 := hid hn8; clear hr8 hn8)
     | fail)
    have NN := hid (HNX.out.trans N8.out)
    refine leaves_cons (f := 90) (args := #[.pointer (some ⟨X.r, 0, none⟩), .agg #[.map (nmO z.names B3.nb), .int .i64 z.fn, .int .i64 z.loops]]) (by simp) (by simp [go_sem]) ?_
    refine (leave_any R8.out z z' B3.nb (BK7.out.nx NN.out) HZ.out .returning).mono ?_
    rintro e u' w9 ⟨rfl, rfl, hr9, hn9⟩
    have N9 := hid (N7.out.trans (NN.out.trans hn9))
    have HNB := hid (N9.out.left (names := z.names) (nb := B3.nb) (fun m hm => .inl (by rw [HNB3.out, (H.out.x.nams (by decide) m hm).2]; decide)))
    exact ⟨_, results_none rfl _ _ _, rfl, _, hr9, HNB.out⟩
end
end Go.Proofs.YtdhkcdehedbpcaaDoor

namespace Go.Proofs.YtdhkcdehedbpcaaDoor
open Go Go.RowKit

theorem conZ_zero (X : ZX) : ConZ X 0 := by
  refine ⟨?_, ?_, ?_, ?_, ?_, ?_, ?_⟩
  all_goals (intros; rename_i hz; unfold zR at hz; cases hz)
theorem conZ_le (X : ZX) : ∀ t f, f ≤ t → ConZ X f
  | 0, f, hf => by
    obtain rfl : f = 0 := by omega
    exact conZ_zero X
  | t + 1, f, hf => by
    have ih := conZ_le X t
    by_cases h : f ≤ t
    · exact ih f h
    · obtain rfl : f = t + 1 := by omega
      have c := ih t (Nat.le_refl _)
      exact ⟨fun h d z' hz => parts_step ih h d z' hz, fun h i z' hz => zblock_step c h i z' hz, fun h i z' hz => variable_step c h i z' hz, fun h z' hz => loop_step c h z' hz, fun h i z' hz => attempt_step c h i z' hz, fun h i z' hz => named_step c h i z' hz, fun h i z' hz => function_step c h i z' hz⟩
theorem conZ_any (X : ZX) (t : Nat) : ConZ X t := conZ_le X t t (Nat.le_refl _)

theorem undU8 : Tryd.prog.underlying 28 = some (.slice 57) := by kernel_rfl
theorem rowP_rep (n : Nat) : rowP (List.replicate n (0, 0)) = List.replicate (n * 2) (.int .i64 0) := by
  induction n with
  | zero => rfl
  | succ n ih =>
    rw [show (n + 1) * 2 = n * 2 + 1 + 1 by omega, List.replicate_succ, List.replicate_succ, List.replicate_succ, ← ih]
    rfl
theorem made_u (n : Nat) (h : n ≤ 1000) (w : World) : (Instr.makeSlice 28 (.int .i64 n) (.int .i64 n)).run Tryd.prog w = .ok (.slice (some ⟨w.heap.size, 0, none⟩) n n) (w.alloc (.cells (rowP (List.replicate n (0, 0))).toArray 57)) := by
  obtain ⟨i, h1, h2, h3, h4⟩ := info_parts8 infoUs
  have := run_makeSlice (P := Tryd.prog) (w := w) 28 57 i _ undU8 h1 h2 .i64 .i64 (n : Int) (n : Int) (by omega) (by omega) (by rw [h3]; omega) (by rw [h4]; omega) (by omega)
  rw [this, h3, rowP_rep]
  have e : madeCells (Value.agg #[.int .i64 0, .int .i64 0]).cells (n * 2) = (List.replicate (n * 2) (Value.int .i64 0)).toArray := by
    apply Array.ext_getElem?
    intro j
    by_cases hj : j < n * 2
    · have h5 : j % 2 = 0 ∨ j % 2 = 1 := by omega
      rcases h5 with h5 | h5 <;> simp [madeCells, Value.cells, hj, h5]
    · simp [madeCells, Value.cells, hj]
  simp only [Int.toNat_natCast]
  rw [e]

theorem newR {w W : World} {g o cap b2 b5 b7 b8 n : Nat} {L : List ANode} {A : ByteArray → Option Int} (hL : 0 < L.length) (hll : L.length ≤ 1000) (hbw : Bw w W) (hnc : NC w g o L) (hpr : PrM w)
    (h2 : Blk W b2 #[.int .i64 0, .int .i64 0, .int .i64 0, .slice none 0 0, .int .i64 0, .map none] 118) (h5 : Blk W b5 (rowP (List.replicate L.length (0, 0))).toArray 57) (h7 : MS W b7 A n) (h8 : MS W b8 (fun _ => none) 0)
    (n2 : w.heap.size ≤ b2) (n5 : w.heap.size ≤ b5) (n7 : w.heap.size ≤ b7) (n8 : w.heap.size ≤ b8) (hne : b2 ≠ b5 ∧ b2 ≠ b7 ∧ b2 ≠ b8 ∧ b5 ≠ b7 ∧ b5 ≠ b8 ∧ b7 ≠ b8) :
    ∃ B, RS (W.alloc (.cells #[.map none, .int .i64 0, .int .i64 0, .slice (some ⟨g, o, none⟩) L.length cap, .int .i64 1, .slice (some ⟨b2, 0, none⟩) 1 1, .slice (some ⟨b5, 0, none⟩) L.length L.length, .slice none 0 0, .map (some b7), .slice none 0 0, .map (some b8), .int .i64 0, .int .i64 0] 83)) ⟨W.heap.size, g, o, cap, b7, n, L, A⟩ (zstart L) B ∧ ∀ b, b < w.heap.size → B.ρ b = 0 := by
  obtain ⟨w2, w5, w7, w8, wg, wp⟩ : b2 < W.heap.size ∧ b5 < W.heap.size ∧ b7 < W.heap.size ∧ b8 < W.heap.size ∧ g < w.heap.size ∧ 0 < w.heap.size := ⟨h2.lt, h5.lt, h7.lt, h8.lt, hnc.lt, hpr.1⟩
  have hs := hbw.size
  obtain ⟨e1, e2, e3, e4, e5, e6⟩ := hne
  refine ⟨⟨[⟨⟨0, 0, 0, [], 0, fun _ => none⟩, .slice none 0 0, .map none⟩], .slice (some ⟨b2, 0, none⟩) 1 1, .slice (some ⟨b5, 0, none⟩) L.length L.length, .slice none 0 0, .slice none 0 0, b8, 0, fun b => if b = W.heap.size then 1 else if b = b2 then 2 else if b = b5 then 3 else if b = b8 then 6 else 0⟩, ⟨Blk.new W _ _, ?_⟩, fun b hb => by dsimp only; rw [if_neg (by omega), if_neg (by omega), if_neg (by omega), if_neg (by omega)]⟩
  have hW : ∀ b, b < W.heap.size → ∀ (o : Obj), (W.alloc o).heap[b]? = W.heap[b]? := fun b hb o => Below.heap_alloc W o b hb
  refine ⟨?_, ?_, fun _ => ⟨?_, fun b hb => ?_⟩, fun _ => ⟨?_, fun b hb => ?_⟩, fun _ => ⟨World.ownsRow_nil _ 0 9 1, fun b hb => by cases hb⟩, fun _ => ⟨World.ownsRow_nil _ 0 122 3, fun b hb => by cases hb⟩, fun _ => ⟨h8.keep (hW _ w8 _), ?_⟩, (fun _ m hm => by cases hm), fun i q hq _ => ?_, fun q hq => ?_, fun i q hq hi _ => ?_, ⟨(hnc.bw hbw).keep (by simp) (hW _ (by omega) _), ?_⟩, ⟨h7.keep (hW _ w7 _), ?_⟩, ⟨(hpr.bw hbw).keep (by simp) (hW _ (by omega) _), ?_⟩, fun b hb => ?_, rfl, ?_, hL, hll, ?_, fun f hf => ?_⟩
  · dsimp only; rw [if_pos rfl]
  · simp
  · exact ⟨rfl, .inr ⟨b2, 1, _, rfl, Nat.zero_le _, (h2.keep (hW _ w2 _)), Nat.le_refl _, by unfold maxLen; decide, rfl, rfl⟩⟩
  · cases hb; dsimp only; rw [if_neg (by omega), if_pos rfl]
  · have hl : (rowP (List.replicate L.length (0, 0))).length = L.length * 2 := by rw [rowP_rep, List.length_replicate]
    show World.ownsRow _ 0 57 2 (.slice (some ⟨b5, 0, none⟩) L.length L.length) (List.replicate L.length ((0 : Int), (0 : Int))).length (rowP (List.replicate L.length (0, 0)))
    rw [List.length_replicate]
    refine ⟨hl, .inr ⟨b5, L.length, _, rfl, Nat.zero_le _, (h5.keep (hW _ w5 _)), Nat.le_refl _, by unfold maxLen; omega, by simpa using hl, ?_⟩⟩
    show (rowP (List.replicate L.length (0, 0))).toArray.toList.take (L.length * 2) = _
    rw [← hl]
    simp
  · cases hb; dsimp only; rw [if_neg (by omega), if_neg (by omega), if_pos rfl]
  · dsimp only; rw [if_neg (by omega), if_neg (by omega), if_neg (by omega), if_pos rfl]
  · cases i with
    | zero => simp at hq; subst hq; exact ⟨World.ownsRow_nil _ 0 59 2, fun b hb => by cases hb⟩
    | succ i => simp at hq
  · simp at hq; subst hq; exact ⟨rfl, fun _ => rfl⟩
  · cases i with
    | zero => omega
    | succ i => simp at hq
  · dsimp only; rw [if_neg (by omega), if_neg (by omega), if_neg (by omega), if_neg (by omega)]
  · dsimp only; rw [if_neg (by omega), if_neg (by omega), if_neg (by omega), if_neg (by omega)]
  · dsimp only; rw [if_neg (by omega), if_neg (by omega), if_neg (by omega), if_neg (by omega)]
  · dsimp only
    have : W.heap.size < b := by have h9 : W.heap.size + 1 ≤ b := by simpa using hb
                                 omega
    rw [if_neg (by omega), if_neg (by omega), if_neg (by omega), if_neg (by omega)]
  · unfold zstart; simp
  · unfold zstart; simp
  · simp [zstart] at hf; subst hf; decide

end Go.Proofs.YtdhkcdehedbpcaaDoor

