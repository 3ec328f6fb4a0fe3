/- The reader: one of either sign, how many, a text, the end, the first four bytes: contracts. -/
import Derived.Test.YtfhnhbpmiodomaaDoorQb
set_option linter.unusedSimpArgs false
set_option linter.unusedVariables false
namespace Go.Proofs.YtfhnhbpmiodomaaDoor
open Go Go.RowKit

theorem nM_bd (b : List Int) (hb : ∀ c ∈ b, 0 ≤ c ∧ c ≤ 255) (s : St) : 0 ≤ (nM b s).1 ∧ (nM b s).1 ≤ 4611686018427387903 := by
  unfold nM
  split
  · split
    · rename_i j n he
      obtain ⟨q, rfl, _, _, _, hq⟩ := rd_inv _ _ _ _ (fun c hc => hb c (List.mem_of_mem_drop hc)) (by omega) he
      rw [lim0] at hq
      simp only [Int.pow_zero, Int.mul_one]
      omega
    · simp
  · simp

theorem sz_bd {n : Int} (h : 0 ≤ n ∧ n ≤ 4611686018427387903) : -2305843009213693952 ≤ sz n ∧ sz n ≤ 2305843009213693951 := by
  unfold sz
  split <;> omega

section
variable {base r : Nat} {w w' : World} {vb : Value} {b : List Int} {s : St}

set_option maxRecDepth 100000 in
set_option maxHeartbeats 8000000 in
theorem qsigned_any (h : RB base w r vb b s) :
    Calls Tryd.prog 76 #[.pointer (some ⟨r, 0, none⟩)] w fun e w' => e = .returned (.int .i64 (zM b s).1) ∧ RB base w' r vb b (zM b s).2 ∧ Kp r w w' := by
  have HR := hid h
  have hb := nM_bd b h.bytes s
  unfold zM
  obtain ⟨⟨n, s'⟩, hn⟩ : ∃ x, nM b s = x := ⟨_, rfl⟩
  rw [hn] at hb ⊢
  have HN := hid hn
  clear hn h
  simp only at hb ⊢
  by_cases h1 : n % 2 = 1
  · have e1 : n.tmod 2 = 1 := by rw [Int.tmod_eq_emod_of_nonneg hb.1]; exact h1
    have e2 : n.tdiv 2 = n / 2 := Int.tdiv_eq_ediv_of_nonneg hb.1
    have hsz : sz n = -(n / 2) - 1 := by unfold sz; rw [if_pos h1]
    rw [hsz]
    have HB := hid hb
    go_enter Tryd.func76, Tryd.ntmps76
    go_wp2_with (first
      | (go_at_call 52; refine (qnumber_any HR.out).mono ?_; rintro e w1 ⟨rfl, hr1, hk1⟩; rw [HN.out] at hr1 ⊢; have HR1 := hid hr1; have HK1 := hid hk1; clear hr1 hk1)
      | fail)
    all_goals go_ret
    all_goals exact ⟨rfl, HR1.out, HK1.out⟩
  · have e1 : n.tmod 2 = 0 := by rw [Int.tmod_eq_emod_of_nonneg hb.1]; omega
    have e2 : n.tdiv 2 = n / 2 := Int.tdiv_eq_ediv_of_nonneg hb.1
    have hsz : sz n = n / 2 := by unfold sz; rw [if_neg h1]
    rw [hsz]
    have HB := hid hb
    go_enter Tryd.func76, Tryd.ntmps76
    go_wp2_with (first
      | (go_at_call 52; refine (qnumber_any HR.out).mono ?_; rintro e w1 ⟨rfl, hr1, hk1⟩; rw [HN.out] at hr1 ⊢; have HR1 := hid hr1; have HK1 := hid hk1; clear hr1 hk1)
      | fail)
    all_goals go_ret
    all_goals exact ⟨rfl, HR1.out, HK1.out⟩

set_option maxRecDepth 100000 in
set_option maxHeartbeats 8000000 in
theorem qcount_any (h : RB base w r vb b s) :
    Calls Tryd.prog 69 #[.pointer (some ⟨r, 0, none⟩)] w fun e w' => e = .returned (.int .i64 (cM b s).1) ∧ RB base w' r vb b (cM b s).2 ∧ Kp r w w' := by
  have HR := hid h
  have hb := nM_bd b h.bytes s
  have hat := (nM_ok b).1 s h.at_
  have hln := h.len
  have HAT0 := hid h.at_
  obtain ⟨av, cv, e1, _⟩ := h.form
  subst e1
  have z := h.k.cell
  have zl := h.k.lt
  unfold cM
  obtain ⟨⟨n, s'⟩, hn⟩ : ∃ x, nM b s = x := ⟨_, rfl⟩
  rw [hn] at hb hat ⊢
  have HN := hid hn
  clear hn h
  simp only at hb hat ⊢
  have HB := hid hb
  have hsub : -9223372036854775808 ≤ (b.length : Int) - (s'.1 : Int) ∧ (b.length : Int) - (s'.1 : Int) ≤ 9223372036854775807 := by omega
  by_cases hgt : (b.length : Int) - (s'.1 : Int) < n
  · rw [if_pos hgt]
    go_enter Tryd.func69, Tryd.ntmps69
    go_wp2_with (first
      | (go_at_call 52; refine (qnumber_any HR.out).mono ?_; rintro e w1 ⟨rfl, hr1, hk1⟩; rw [HN.out] at hr1 ⊢; have HR1 := hid hr1; have HK1 := hid hk1; have y := hr1.k.cell; have yl := hr1.k.lt; clear hr1 hk1)
      | fail)
    go_quiet (fail)
    go_wp2_with (first
      | (go_at_call 56; refine (qfail_any 3 s.1 (HR1.out.bw (by repeat (first | exact Bw.refl _ | apply Bw.drewN | apply Bw.drew))) (by decide) (fun _ => HAT0.out)).mono ?_; rintro e w2 ⟨⟨_, rfl⟩, hr2, hk2⟩; have HR2 := hid hr2; have HK2 := hid (show Kp r w w2 from HK1.out.trans (Kp.trans (Kp.of_bw (by repeat (first | exact Bw.refl _ | apply Bw.drewN | apply Bw.drew))) hk2)); clear hr2 hk2)
      | fail)
    all_goals go_ret
    all_goals exact ⟨rfl, HR2.out, HK2.out⟩
  · rw [if_neg hgt]
    have HT := hid (show ((n.toNat : Nat) : Int) = n by omega)
    rw [HT.out]
    go_enter Tryd.func69, Tryd.ntmps69
    go_wp2_with (first
      | (go_at_call 52; refine (qnumber_any HR.out).mono ?_; rintro e w1 ⟨rfl, hr1, hk1⟩; rw [HN.out] at hr1 ⊢; have HR1 := hid hr1; have HK1 := hid hk1; have y := hr1.k.cell; have yl := hr1.k.lt; clear hr1 hk1)
      | fail)
    go_quiet (fail)
    go_wp2
    all_goals go_ret
    all_goals exact ⟨rfl, HR1.out.bw (by repeat (first | exact Bw.refl _ | apply Bw.drewN | apply Bw.drew)), HK1.out.bw (by repeat (first | exact Bw.refl _ | apply Bw.drewN | apply Bw.drew))⟩

set_option maxRecDepth 100000 in
set_option maxHeartbeats 8000000 in
theorem qend_any (h : RB base w r vb b s) :
    Calls Tryd.prog 23 #[.pointer (some ⟨r, 0, none⟩)] w fun e w' => (∃ v, e = .returned v) ∧ RB base w' r vb b (endS b s) ∧ Kp r w w' := by
  have HR := hid h
  have HAT0 := hid h.at_
  obtain ⟨av, cv, e1, _⟩ := h.form
  subst e1
  have z := h.k.cell
  have zl := h.k.lt
  unfold endS
  clear h
  by_cases hgt : s.1 < b.length
  · rw [if_pos hgt]
    have hg2 : (s.1 : Int) < (b.length : Int) := by omega
    go_enter Tryd.func23, Tryd.ntmps23
    go_wp2
    go_quiet (fail)
    go_wp2_with (first
      | (go_at_call 56; refine (qfail_any 6 s.1 (HR.out.bw (by repeat (first | exact Bw.refl _ | apply Bw.drewN | apply Bw.drew))) (by decide) (fun _ => HAT0.out)).mono ?_; rintro e w2 ⟨⟨_, rfl⟩, hr2, hk2⟩; have HR2 := hid hr2; have HK2 := hid (show Kp r w w2 from Kp.trans (Kp.of_bw (by repeat (first | exact Bw.refl _ | apply Bw.drewN | apply Bw.drew))) hk2); clear hr2 hk2)
      | fail)
    all_goals go_end0
    all_goals exact ⟨⟨_, rfl⟩, HR2.out, HK2.out⟩
  · rw [if_neg hgt]
    have hg2 : ¬ (s.1 : Int) < (b.length : Int) := by omega
    go_enter Tryd.func23, Tryd.ntmps23
    go_wp2
    go_quiet (fail)
    go_wp2
    all_goals go_end0
    all_goals exact ⟨⟨_, rfl⟩, HR.out.bw (by repeat (first | exact Bw.refl _ | apply Bw.drewN | apply Bw.drew)), Kp.of_bw (by repeat (first | exact Bw.refl _ | apply Bw.drewN | apply Bw.drew))⟩

theorem RB.conv {g o cap : Nat} (h : RB base w r (.slice (some ⟨g, o, none⟩) b.length cap) b s) (k m c : Nat) (hk : k + m ≤ b.length) :
    (convert 29 9 (.slice (some ⟨g, o + k, none⟩) m c)).run Tryd.prog w = .ok (.string (strOfNums ((b.drop k).take m))) w := by
  refine run_convert_bytes_arg w 29 5 under22 under5 g (o + k) m c ((b.drop k).take m) (by simp; omega) (fun i hi => ?_) 9 under9
  have hi' : k + i < b.length := by omega
  obtain ⟨g', o', e, _, _, hc⟩ := h.at hi'
  cases e
  rw [Nat.add_assoc, hc]
  congr 2
  rw [List.getD_eq_getElem?_getD, List.getElem?_take, if_pos hi, List.getElem?_drop, List.getElem?_eq_getElem hi']
  rfl

set_option maxRecDepth 100000 in
set_option maxHeartbeats 8000000 in
theorem qtext_any (h : RB base w r vb b s) (hne : 0 < b.length) :
    Calls Tryd.prog 48 #[.pointer (some ⟨r, 0, none⟩)] w fun e w' => e = .returned (.string (strOfNums (tM b s).1)) ∧ RB base w' r vb b (tM b s).2 ∧ Kp r w w' := by
  have HR := hid h
  have hat := (cM_ok b).1 s h.at_
  have hln := h.len
  obtain ⟨av, cv, e1, hcap⟩ := h.form
  subst e1
  obtain ⟨g, o, e2, hg, hgr, _⟩ := h.at hne
  subst e2
  unfold tM
  obtain ⟨⟨n, p, f⟩, hn⟩ : ∃ x, cM b s = x := ⟨_, rfl⟩
  rw [hn] at hat ⊢
  have HN := hid hn
  clear hn h
  simp only at hat ⊢
  have h1 : -9223372036854775808 ≤ (p : Int) + (n : Int) ∧ (p : Int) + (n : Int) ≤ 9223372036854775807 := by omega
  have h2 : (p : Int) ≤ (p : Int) + (n : Int) := by omega
  have h3 : (p : Int) + (n : Int) ≤ (b.length : Int) := by omega
  go_enter Tryd.func48, Tryd.ntmps48
  go_wp2_with (first
    | (go_at_call 69; refine (qcount_any HR.out).mono ?_; rintro e w1 ⟨rfl, hr1, hk1⟩; rw [HN.out] at hr1 ⊢; have HR1 := hid hr1; have HK1 := hid hk1; have y := hr1.k.cell; have yf := hr1.k.free; have yl := hr1.k.lt; clear hr1 hk1)
    | fail)
  have kk : Kp r w1 (w1.setCell ⟨r, 1, none⟩ (.int .i64 ((p : Int) + (n : Int)))) := (Kp.refl _ _).set 1 _
  have hr2 : RB base (w1.setCell ⟨r, 1, none⟩ (.int .i64 ((p : Int) + (n : Int)))) r (.slice (some ⟨g, o, none⟩) b.length cv) b (p + n, f) :=
    HR1.out.set (s' := (p + n, f)) hat HR1.out.f (by simpa using HR1.out.k.set 1 (.int .i64 ((p : Int) + (n : Int)))) kk
  generalize w1.setCell ⟨r, 1, none⟩ (.int .i64 ((p : Int) + (n : Int))) = w2 at *
  have HR2 := hid hr2
  have HK2 := hid (HK1.out.trans kk)
  have y2 := hr2.k.cell
  have yl2 := hr2.k.lt
  simp only [Int.natCast_add] at y2
  clear y yf yl kk hr2 HR1 HK1
  by_cases hcp : cv = p
  · have hn0 : n = 0 := by omega
    subst hn0
    have hcv : ∀ m, (convert 29 9 (.slice (some ⟨g, o, none⟩) 0 0)).run Tryd.prog (w2.drewN m) = .ok (.string (strOfNums ((b.drop p).take 0))) (w2.drewN m) := fun m => (HR2.out.bw (bw_drewN _ _)).conv 0 0 0 (by omega)
    generalize hss : strOfNums ((b.drop p).take 0) = ss at hcv
    have HSS := hid hss
    clear hss
    go_quiet (fail)
    go_wp2
    all_goals go_ret
    all_goals rw [HSS.out]
    all_goals exact ⟨rfl, HR2.out.bw (by repeat (first | exact Bw.refl _ | apply Bw.drewN | apply Bw.drew)), HK2.out.bw (by repeat (first | exact Bw.refl _ | apply Bw.drewN | apply Bw.drew))⟩
  · have hcv : ∀ m, (convert 29 9 (.slice (some ⟨g, o + p, none⟩) n (cv - p))).run Tryd.prog (w2.drewN m) = .ok (.string (strOfNums ((b.drop p).take n))) (w2.drewN m) := fun m => (HR2.out.bw (bw_drewN _ _)).conv p n _ (by omega)
    generalize hss : strOfNums ((b.drop p).take n) = ss at hcv
    have HSS := hid hss
    clear hss
    go_quiet (fail)
    go_wp2
    all_goals go_ret
    all_goals rw [HSS.out]
    all_goals exact ⟨rfl, HR2.out.bw (by repeat (first | exact Bw.refl _ | apply Bw.drewN | apply Bw.drew)), HK2.out.bw (by repeat (first | exact Bw.refl _ | apply Bw.drewN | apply Bw.drew))⟩

/-- One of the first four bytes. -/
def mkS (b : List Int) (i : Nat) (s : St) : St := if (xM b s).1 = markL.getD i 0 then (xM b s).2 else failS (xM b s).2 6 i
def mkR (b : List Int) : Nat → St → St
  | 0, s => s
  | k + 1, s => mkR b k (mkS b (3 - k) s)

theorem mk_bad (b : List Int) (i : Nat) {s : St} (h : s.2 ≠ 0) : mkS b i s = s := by
  simp [mkS, xM, h, failS]

theorem mk_good {b : List Int} {i : Nat} {c : Int} (h : b[i]? = some c) (hi : markL.getD i 0 = c) : mkS b i (i, 0) = (i + 1, 0) := by
  simp only [mkS, xM, if_true, h]
  rw [if_pos hi.symm]

theorem mk_no {b : List Int} {i : Nat} (h : b[i]? ≠ some (markL.getD i 0)) (hc : markL.getD i 0 ≠ 0) : mkS b i (i, 0) = (i, 6) := by
  simp only [mkS, xM, if_true]
  cases hb : b[i]? with
  | none => simp only; rw [if_neg (fun e => hc e.symm)]; simp [failS]
  | some c => simp only; rw [if_neg (fun e => h (by rw [hb, e]))]; simp [failS]

theorem mkM_steps (b : List Int) : mkM b = mkR b 4 (0, 0) := by
  have m0 : markL.getD 0 0 = 74 := rfl
  have m1 : markL.getD 1 0 = 81 := rfl
  have m2 : markL.getD 2 0 = 48 := rfl
  have m3 : markL.getD 3 0 = 49 := rfl
  simp only [mkR, Nat.sub_self, Nat.reduceSub]
  unfold mkM
  split
  · rename_i h0
    rw [mk_good h0 m0]
    split
    · rename_i h1
      rw [mk_good h1 m1]
      split
      · rename_i h2
        rw [mk_good h2 m2]
        split
        · rename_i h3
          rw [mk_good h3 m3]
        · rename_i h3
          rw [mk_no (by rw [m3]; exact h3) (by rw [m3]; decide)]
      · rename_i h2
        rw [mk_no (by rw [m2]; exact h2) (by rw [m2]; decide), mk_bad b 3 (s := (2, 6)) (by simp)]
    · rename_i h1
      rw [mk_no (by rw [m1]; exact h1) (by rw [m1]; decide), mk_bad b 2 (s := (1, 6)) (by simp), mk_bad b 3 (s := (1, 6)) (by simp)]
  · rename_i h0
    rw [mk_no (by rw [m0]; exact h0) (by rw [m0]; decide), mk_bad b 1 (s := (0, 6)) (by simp), mk_bad b 2 (s := (0, 6)) (by simp), mk_bad b 3 (s := (0, 6)) (by simp)]

set_option maxRecDepth 100000 in
set_option maxHeartbeats 8000000 in
theorem qmark_any (h : RB base w r vb b (0, 0)) :
    Calls Tryd.prog 45 #[.pointer (some ⟨r, 0, none⟩)] w fun e w' => (∃ v, e = .returned v) ∧ RB base w' r vb b (mkM b) ∧ Kp r w w' := by
  have HR := hid h
  have HB := hid h.bytes
  clear h
  rw [mkM_steps]
  go_enter Tryd.func45, Tryd.ntmps45
  go_wp2
  go_loopw [3] (fun j wr => ∃ (k : Nat) (s' : St), k ≤ 4 ∧ j = .int .i64 ((4 - k : Nat) : Int) ∧ mkR b 4 (0, 0) = mkR b k s' ∧ RB base wr r vb b s' ∧ Kp r w wr ∧ (s'.2 = 0 → s'.1 = 4 - k)) (fun j _ => 4 - (intOf j).toNat)
  case atStart => exact ⟨4, (0, 0), by omega, rfl, rfl, HR.out, Kp.refl _ _, fun _ => rfl⟩
  case round =>
    obtain ⟨k, s', hk, rfl, he, hr, hkp, hpl⟩ := hrel
    have HR2 := hid hr
    have HK2 := hid hkp
    have HE := hid he
    obtain ⟨⟨c, s2⟩, hx⟩ : ∃ x, xM b s' = x := ⟨_, rfl⟩
    have HX := hid hx
    have HST := hid (show s2.2 = 0 → s2.1 = 4 - k + 1 from fun h => by
      have e2 : (xM b s').2 = s2 := by rw [hx]
      rw [← e2] at h ⊢
      unfold xM at h ⊢
      split at h
      · rename_i h0
        rw [if_pos h0]
        split at h
        · simp [hpl h0]
        · simp at h
      · rename_i h0; exact absurd h h0)
    have HPL0 := hid (show s2.2 = 0 → 4 - k ≤ b.length from fun h => by
      have e2 : (xM b s').2 = s2 := by rw [hx]
      rw [← e2] at h
      unfold xM at h
      split at h
      · rename_i h0
        have := hr.at_
        have := hpl h0
        omega
      · rename_i h0; exact absurd h h0)
    clear hr hkp he hx hpl
    obtain rfl | rfl | rfl | rfl | rfl : k = 4 ∨ k = 3 ∨ k = 2 ∨ k = 1 ∨ k = 0 := by omega
    all_goals simp only [Nat.reduceSub] at *
    · have HM := hid (show markL.getD 0 0 = 74 from rfl)
      have hidx : (((⟨#[74, 81, 48, 49]⟩ : ByteArray)[0]'(by decide)).toNat : Int) = 74 := by decide
      have HPL := hid (show s2.2 = 0 → 0 ≤ b.length from HPL0.out)
      by_cases hc : c = 74
      · have HS := hid (show mkS b 0 s' = s2 by unfold mkS; rw [HX.out, HM.out, if_pos hc])
        subst hc
        go_wp2
        go_region_held3 (fun _ => True) (trivial) (first
          | (go_at_call 68; refine (qnext_any (HR2.out.bw (by repeat (first | exact Bw.refl _ | apply Bw.alloc | apply Bw.drewN | apply Bw.drew)))).mono ?_; rintro e w1 ⟨rfl, hr1, hk1⟩; rw [HX.out] at hr1 ⊢; have HR1 := hid hr1; have HK1 := hid (show Kp r w w1 from (HK2.out.bw (by repeat (first | exact Bw.refl _ | apply Bw.alloc | apply Bw.drewN | apply Bw.drew))).trans hk1); clear hr1 hk1)
          | fail)
        go_wp2
        all_goals exact ⟨⟨3, s2, by omega, by first | rfl | go_num, by rw [HE.out]; simp only [mkR]; rw [HS.out], HR1.out.bw (by repeat (first | exact Bw.refl _ | apply Bw.alloc | apply Bw.drewN | apply Bw.drew)), HK1.out.bw (by repeat (first | exact Bw.refl _ | apply Bw.alloc | apply Bw.drewN | apply Bw.drew)), fun h => HST.out h⟩, by simp [intOf]⟩
      · have HS := hid (show mkS b 0 s' = failS s2 6 0 by unfold mkS; rw [HX.out, HM.out, if_neg hc])
        have hcm : (c != 74) = true := by simp [hc]
        go_wp2
        go_region_held3 (fun _ => True) (trivial) (first
          | (go_at_call 68; refine (qnext_any (HR2.out.bw (by repeat (first | exact Bw.refl _ | apply Bw.alloc | apply Bw.drewN | apply Bw.drew)))).mono ?_; rintro e w1 ⟨rfl, hr1, hk1⟩; rw [HX.out] at hr1 ⊢; have HR1 := hid hr1; have HK1 := hid (show Kp r w w1 from (HK2.out.bw (by repeat (first | exact Bw.refl _ | apply Bw.alloc | apply Bw.drewN | apply Bw.drew))).trans hk1); clear hr1 hk1)
          | fail)
        go_wp2_with (first
          | (go_at_call 56; refine (qfail_any 6 0 (HR1.out.bw (by repeat (first | exact Bw.refl _ | apply Bw.alloc | apply Bw.drewN | apply Bw.drew))) (by decide) HPL.out).mono ?_; rintro e w3 ⟨⟨_, rfl⟩, hr3, hk3⟩; have HR3 := hid hr3; have HK3 := hid (show Kp r w w3 from (HK1.out.bw (by repeat (first | exact Bw.refl _ | apply Bw.alloc | apply Bw.drewN | apply Bw.drew))).trans hk3); clear hr3 hk3)
          | fail)
        all_goals exact ⟨⟨3, failS s2 6 0, by omega, by first | rfl | go_num, by rw [HE.out]; simp only [mkR]; rw [HS.out], HR3.out, HK3.out, fun h => by simp only [failS] at h; split at h <;> simp_all⟩, by simp [intOf]⟩
    · have HM := hid (show markL.getD 1 0 = 81 from rfl)
      have hidx : (((⟨#[74, 81, 48, 49]⟩ : ByteArray)[1]'(by decide)).toNat : Int) = 81 := by decide
      have HPL := hid (show s2.2 = 0 → 1 ≤ b.length from HPL0.out)
      by_cases hc : c = 81
      · have HS := hid (show mkS b 1 s' = s2 by unfold mkS; rw [HX.out, HM.out, if_pos hc])
        subst hc
        go_wp2
        go_region_held3 (fun _ => True) (trivial) (first
          | (go_at_call 68; refine (qnext_any (HR2.out.bw (by repeat (first | exact Bw.refl _ | apply Bw.alloc | apply Bw.drewN | apply Bw.drew)))).mono ?_; rintro e w1 ⟨rfl, hr1, hk1⟩; rw [HX.out] at hr1 ⊢; have HR1 := hid hr1; have HK1 := hid (show Kp r w w1 from (HK2.out.bw (by repeat (first | exact Bw.refl _ | apply Bw.alloc | apply Bw.drewN | apply Bw.drew))).trans hk1); clear hr1 hk1)
          | fail)
        go_wp2
        all_goals exact ⟨⟨2, s2, by omega, by first | rfl | go_num, by rw [HE.out]; simp only [mkR]; rw [HS.out], HR1.out.bw (by repeat (first | exact Bw.refl _ | apply Bw.alloc | apply Bw.drewN | apply Bw.drew)), HK1.out.bw (by repeat (first | exact Bw.refl _ | apply Bw.alloc | apply Bw.drewN | apply Bw.drew)), fun h => HST.out h⟩, by simp [intOf]⟩
      · have HS := hid (show mkS b 1 s' = failS s2 6 1 by unfold mkS; rw [HX.out, HM.out, if_neg hc])
        have hcm : (c != 81) = true := by simp [hc]
        go_wp2
        go_region_held3 (fun _ => True) (trivial) (first
          | (go_at_call 68; refine (qnext_any (HR2.out.bw (by repeat (first | exact Bw.refl _ | apply Bw.alloc | apply Bw.drewN | apply Bw.drew)))).mono ?_; rintro e w1 ⟨rfl, hr1, hk1⟩; rw [HX.out] at hr1 ⊢; have HR1 := hid hr1; have HK1 := hid (show Kp r w w1 from (HK2.out.bw (by repeat (first | exact Bw.refl _ | apply Bw.alloc | apply Bw.drewN | apply Bw.drew))).trans hk1); clear hr1 hk1)
          | fail)
        go_wp2_with (first
          | (go_at_call 56; refine (qfail_any 6 1 (HR1.out.bw (by repeat (first | exact Bw.refl _ | apply Bw.alloc | apply Bw.drewN | apply Bw.drew))) (by decide) HPL.out).mono ?_; rintro e w3 ⟨⟨_, rfl⟩, hr3, hk3⟩; have HR3 := hid hr3; have HK3 := hid (show Kp r w w3 from (HK1.out.bw (by repeat (first | exact Bw.refl _ | apply Bw.alloc | apply Bw.drewN | apply Bw.drew))).trans hk3); clear hr3 hk3)
          | fail)
        all_goals exact ⟨⟨2, failS s2 6 1, by omega, by first | rfl | go_num, by rw [HE.out]; simp only [mkR]; rw [HS.out], HR3.out, HK3.out, fun h => by simp only [failS] at h; split at h <;> simp_all⟩, by simp [intOf]⟩
    · have HM := hid (show markL.getD 2 0 = 48 from rfl)
      have hidx : (((⟨#[74, 81, 48, 49]⟩ : ByteArray)[2]'(by decide)).toNat : Int) = 48 := by decide
      have HPL := hid (show s2.2 = 0 → 2 ≤ b.length from HPL0.out)
      by_cases hc : c = 48
      · have HS := hid (show mkS b 2 s' = s2 by unfold mkS; rw [HX.out, HM.out, if_pos hc])
        subst hc
        go_wp2
        go_region_held3 (fun _ => True) (trivial) (first
          | (go_at_call 68; refine (qnext_any (HR2.out.bw (by repeat (first | exact Bw.refl _ | apply Bw.alloc | apply Bw.drewN | apply Bw.drew)))).mono ?_; rintro e w1 ⟨rfl, hr1, hk1⟩; rw [HX.out] at hr1 ⊢; have HR1 := hid hr1; have HK1 := hid (show Kp r w w1 from (HK2.out.bw (by repeat (first | exact Bw.refl _ | apply Bw.alloc | apply Bw.drewN | apply Bw.drew))).trans hk1); clear hr1 hk1)
          | fail)
        go_wp2
        all_goals exact ⟨⟨1, s2, by omega, by first | rfl | go_num, by rw [HE.out]; simp only [mkR]; rw [HS.out], HR1.out.bw (by repeat (first | exact Bw.refl _ | apply Bw.alloc | apply Bw.drewN | apply Bw.drew)), HK1.out.bw (by repeat (first | exact Bw.refl _ | apply Bw.alloc | apply Bw.drewN | apply Bw.drew)), fun h => HST.out h⟩, by simp [intOf]⟩
      · have HS := hid (show mkS b 2 s' = failS s2 6 2 by unfold mkS; rw [HX.out, HM.out, if_neg hc])
        have hcm : (c != 48) = true := by simp [hc]
        go_wp2
        go_region_held3 (fun _ => True) (trivial) (first
          | (go_at_call 68; refine (qnext_any (HR2.out.bw (by repeat (first | exact Bw.refl _ | apply Bw.alloc | apply Bw.drewN | apply Bw.drew)))).mono ?_; rintro e w1 ⟨rfl, hr1, hk1⟩; rw [HX.out] at hr1 ⊢; have HR1 := hid hr1; have HK1 := hid (show Kp r w w1 from (HK2.out.bw (by repeat (first | exact Bw.refl _ | apply Bw.alloc | apply Bw.drewN | apply Bw.drew))).trans hk1); clear hr1 hk1)
          | fail)
        go_wp2_with (first
          | (go_at_call 56; refine (qfail_any 6 2 (HR1.out.bw (by repeat (first | exact Bw.refl _ | apply Bw.alloc | apply Bw.drewN | apply Bw.drew))) (by decide) HPL.out).mono ?_; rintro e w3 ⟨⟨_, rfl⟩, hr3, hk3⟩; have HR3 := hid hr3; have HK3 := hid (show Kp r w w3 from (HK1.out.bw (by repeat (first | exact Bw.refl _ | apply Bw.alloc | apply Bw.drewN | apply Bw.drew))).trans hk3); clear hr3 hk3)
          | fail)
        all_goals exact ⟨⟨1, failS s2 6 2, by omega, by first | rfl | go_num, by rw [HE.out]; simp only [mkR]; rw [HS.out], HR3.out, HK3.out, fun h => by simp only [failS] at h; split at h <;> simp_all⟩, by simp [intOf]⟩
    · have HM := hid (show markL.getD 3 0 = 49 from rfl)
      have hidx : (((⟨#[74, 81, 48, 49]⟩ : ByteArray)[3]'(by decide)).toNat : Int) = 49 := by decide
      have HPL := hid (show s2.2 = 0 → 3 ≤ b.length from HPL0.out)
      by_cases hc : c = 49
      · have HS := hid (show mkS b 3 s' = s2 by unfold mkS; rw [HX.out, HM.out, if_pos hc])
        subst hc
        go_wp2
        go_region_held3 (fun _ => True) (trivial) (first
          | (go_at_call 68; refine (qnext_any (HR2.out.bw (by repeat (first | exact Bw.refl _ | apply Bw.alloc | apply Bw.drewN | apply Bw.drew)))).mono ?_; rintro e w1 ⟨rfl, hr1, hk1⟩; rw [HX.out] at hr1 ⊢; have HR1 := hid hr1; have HK1 := hid (show Kp r w w1 from (HK2.out.bw (by repeat (first | exact Bw.refl _ | apply Bw.alloc | apply Bw.drewN | apply Bw.drew))).trans hk1); clear hr1 hk1)
          | fail)
        go_wp2
        all_goals exact ⟨⟨0, s2, by omega, by first | rfl | go_num, by rw [HE.out]; simp only [mkR]; rw [HS.out], HR1.out.bw (by repeat (first | exact Bw.refl _ | apply Bw.alloc | apply Bw.drewN | apply Bw.drew)), HK1.out.bw (by repeat (first | exact Bw.refl _ | apply Bw.alloc | apply Bw.drewN | apply Bw.drew)), fun h => HST.out h⟩, by simp [intOf]⟩
      · have HS := hid (show mkS b 3 s' = failS s2 6 3 by unfold mkS; rw [HX.out, HM.out, if_neg hc])
        have hcm : (c != 49) = true := by simp [hc]
        go_wp2
        go_region_held3 (fun _ => True) (trivial) (first
          | (go_at_call 68; refine (qnext_any (HR2.out.bw (by repeat (first | exact Bw.refl _ | apply Bw.alloc | apply Bw.drewN | apply Bw.drew)))).mono ?_; rintro e w1 ⟨rfl, hr1, hk1⟩; rw [HX.out] at hr1 ⊢; have HR1 := hid hr1; have HK1 := hid (show Kp r w w1 from (HK2.out.bw (by repeat (first | exact Bw.refl _ | apply Bw.alloc | apply Bw.drewN | apply Bw.drew))).trans hk1); clear hr1 hk1)
          | fail)
        go_wp2_with (first
          | (go_at_call 56; refine (qfail_any 6 3 (HR1.out.bw (by repeat (first | exact Bw.refl _ | apply Bw.alloc | apply Bw.drewN | apply Bw.drew))) (by decide) HPL.out).mono ?_; rintro e w3 ⟨⟨_, rfl⟩, hr3, hk3⟩; have HR3 := hid hr3; have HK3 := hid (show Kp r w w3 from (HK1.out.bw (by repeat (first | exact Bw.refl _ | apply Bw.alloc | apply Bw.drewN | apply Bw.drew))).trans hk3); clear hr3 hk3)
          | fail)
        all_goals exact ⟨⟨0, failS s2 6 3, by omega, by first | rfl | go_num, by rw [HE.out]; simp only [mkR]; rw [HS.out], HR3.out, HK3.out, fun h => by simp only [failS] at h; split at h <;> simp_all⟩, by simp [intOf]⟩
    · go_wp2
      all_goals go_end0
      all_goals exact ⟨⟨_, rfl⟩, by rw [HE.out]; exact HR2.out, HK2.out⟩

end

end Go.Proofs.YtfhnhbpmiodomaaDoor
