/- The document's check, Check: contracts. · The document's Check; the table of kinds out of the condition; both Checks of any list. · The table of kinds out of the condition. -/
import Derived.Test.YtlcieebneclmpaaDoorC4
import Derived.Test.YtlcieebneclmpaaDoorC1
import Derived.Test.YtlcieebneclmpaaDoorK13
set_option linter.unusedSimpArgs false
set_option linter.unusedVariables false
namespace Go.Proofs.YtlcieebneclmpaaDoor
open Go Go.RowKit

set_option maxHeartbeats 4000000 in
theorem cnt_fld (kn : Nat) (h1 : 0 < kn) (h2 : kn < 33) (N num at_ : Int) (t : List Int) (hN : N ≤ 9223372036854775807) : (cntP (kn : Int) N num && fldP (kn : Int) t num) = wmP ((kn : Int), N, t, num, at_) := by
  have hc : kn = 1 ∨ kn = 2 ∨ kn = 3 ∨ kn = 4 ∨ kn = 5 ∨ kn = 6 ∨ kn = 7 ∨ kn = 8 ∨ kn = 9 ∨ kn = 10 ∨ kn = 11 ∨ kn = 12 ∨ kn = 13 ∨ kn = 14 ∨ kn = 15 ∨ kn = 16 ∨ kn = 17 ∨ kn = 18 ∨ kn = 19 ∨ kn = 20 ∨ kn = 21 ∨ kn = 22 ∨ kn = 23 ∨ kn = 24 ∨ kn = 25 ∨ kn = 26 ∨ kn = 27 ∨ kn = 28 ∨ kn = 29 ∨ kn = 30 ∨ kn = 31 ∨ kn = 32 := by omega
  clear h1 h2
  cases hn : isName t <;> cases hb : binP t
  all_goals
    rcases hc with rfl | rfl | rfl | rfl | rfl | rfl | rfl | rfl | rfl | rfl | rfl | rfl | rfl | rfl | rfl | rfl | rfl | rfl | rfl | rfl | rfl | rfl | rfl | rfl | rfl | rfl | rfl | rfl | rfl | rfl | rfl | rfl
  all_goals
    rw [Bool.eq_iff_iff]
    simp [cntP, fldP, wmP, shpA, shpT, hn, hb]
    try omega

theorem NC.bw {w w' : World} {g o : Nat} {L : List ANode} (h : NC w g o L) (hb : Bw w w') : NC w' g o L :=
  ⟨Nat.lt_of_lt_of_le h.lt hb.size, fun i hi j hj => (World.cell?_of_block (w := w) (w' := w') (a := ⟨g, o + i * 5 + j, none⟩) (hb.block g h.lt)).trans (h.c i hi j hj), h.b⟩

theorem ckR_gt {f : Nat} {r r' : List ANode} {at_ at' : Nat} {a : Int} (h : ckR f r at_ a = .ok r' at') : at_ < at' := by
  cases f with
  | zero => cases h
  | succ f =>
    cases r with
    | nil => cases h
    | cons n r =>
      rw [ckR] at h
      split at h
      · cases h
      split at h
      · cases h
      have q := kd_suf (ckR_suf f) n n.2.1.toNat 0 r (at_ + 1)
      rw [h] at q
      have := q.2
      omega

/-- What the document's check answers. -/
def crV (c : CR) : Int × Int := match c with | .bad p e => ((p : Int), e) | .ok _ at_ => ((at_ : Int), 0)

set_option maxRecDepth 100000 in
set_option maxHeartbeats 16000000 in
theorem rcheck_any (g o cap : Nat) (L : List ANode) (hl : L.length ≤ 500) : ∀ (f : Nat) (at_ : Nat) (a : Int) (w : World), NC w g o L → at_ ≤ L.length → L.length < at_ + f → 1 ≤ a ∧ a ≤ 8 →
    Calls Tryd.prog 23 #[.slice (some ⟨g, o, none⟩) L.length cap, .int .i64 (at_ : Int), .int .i64 (plR a)] w fun e w' => e = .returned (.tuple #[.int .i64 (crV (ckR f (L.drop at_) at_ a)).1, .int .i64 (crV (ckR f (L.drop at_) at_ a)).2]) ∧ Bw w w' := by
  intro f
  induction f with
  | zero => intro at_ a w h h1 h2; omega
  | succ f ih =>
    intro at_ a w h h1 h2 ha
    by_cases hend : at_ = L.length
    · subst hend
      have e : ckR (f + 1) (L.drop L.length) L.length a = .bad L.length 6 := by rw [List.drop_length, ckR]
      rw [e]
      have hee : ((L.length : Int) == (L.length : Int)) = true := by simp
      clear h ih h1 h2 e
      generalize plR a = pa
      go_enter Tryd.func23, Tryd.ntmps23
      go_wp2
      all_goals go_ret2
      all_goals exact ⟨rfl, (by repeat (first | exact Bw.refl _ | apply Bw.alloc | apply Bw.drewN | apply Bw.drew))⟩
    · have hlt : at_ < L.length := by omega
      have hne : ((at_ : Int) == (L.length : Int)) = false := by rw [beq_eq_false_iff_ne]; omega
      have hlt2 : (at_ : Int) < (L.length : Int) := by omega
      have ha0 : (0 : Int) ≤ (at_ : Int) := by omega
      have hdrop : L.drop at_ = L[at_] :: L.drop (at_ + 1) := List.drop_eq_getElem_cons hlt
      rw [hdrop, ckR]
      have y0 := h.c at_ hlt 0 (by decide)
      have y1 := h.c at_ hlt 1 (by decide)
      have y2 := h.c at_ hlt 2 (by decide)
      have y3 := h.c at_ hlt 3 (by decide)
      have y4 := h.c at_ hlt 4 (by decide)
      have hb9 := h.b at_ hlt
      have hgl := h.lt
      generalize L[at_] = n at *
      obtain ⟨nk, nN, nt, nu, na⟩ := n
      replace y0 : w.cell? ⟨g, o + at_ * 5, none⟩ = some (.int .i64 nk) := y0
      replace y1 : w.cell? ⟨g, o + at_ * 5 + 1, none⟩ = some (.int .i64 nN) := y1
      replace y2 : w.cell? ⟨g, o + at_ * 5 + 2, none⟩ = some (.string (strOfNums nt)) := y2
      replace y3 : w.cell? ⟨g, o + at_ * 5 + 3, none⟩ = some (.int .i64 nu) := y3
      replace y4 : w.cell? ⟨g, o + at_ * 5 + 4, none⟩ = some (.int .i64 na) := y4
      dsimp only at hb9 ⊢
      have HNC := hid h
      have HNB := hid hb9
      have HIH := hid ih
      have HLT := hid (And.intro h2 hlt)
      clear hdrop h hb9 ih h1 h2 hend
      have HMAY := hid (may_any nk a ha)
      cases hft : ftP nk a
      · rw [if_pos rfl]
        rw [hft] at HMAY
        clear hft HNB
        generalize strOfNums nt = ss at *
        generalize plR a = pa at *
        go_enter Tryd.func23, Tryd.ntmps23
        go_wp2_with (first
          | (go_at_call 34; refine (HMAY.out _).mono ?_; rintro e w' ⟨rfl, hw'⟩; subst w')
          | fail)
        all_goals go_ret2
        all_goals exact ⟨rfl, (by repeat (first | exact Bw.refl _ | apply Bw.alloc | apply Bw.drewN | apply Bw.drew))⟩
      · rw [if_neg (by decide)]
        rw [hft] at HMAY
        obtain ⟨kn, rfl, hk1, hk2⟩ := ft_kind hft
        have HCNT := hid (count_any kn hk1 hk2 nN nu na (strOfNums nt) HNB.out.1)
        have HFLD := hid (fields_any (kn : Int) nN nu na nt HNB.out.2)
        have hcf := cnt_fld kn hk1 hk2 nN nu na nt HNB.out.1.2
        cases hwm : wmP ((kn : Int), nN, nt, nu, na)
        · rw [if_pos rfl]
          rw [hwm] at hcf
          clear hft HNB hwm
          generalize plR a = pa at *
          generalize fldP (kn : Int) nt nu = bf at *
          generalize cntP (kn : Int) nN nu = bc at *
          generalize strOfNums nt = ss at *
          cases bc
          · clear hcf
            go_enter Tryd.func23, Tryd.ntmps23
            go_wp2_with (first
              | (go_at_call 34; refine (HMAY.out _).mono ?_; rintro e w' ⟨rfl, hw'⟩; subst w')
              | (go_at_call 35; refine (HCNT.out _).mono ?_; rintro e w3 ⟨rfl, hb3⟩; have B3 := hid (Bw.trans (show Bw w _ from (by repeat (first | exact Bw.refl _ | apply Bw.alloc | apply Bw.drewN | apply Bw.drew))) hb3); clear hb3)
              | fail)
            all_goals go_ret2
            all_goals exact ⟨rfl, B3.out⟩
          · obtain rfl : bf = false := by simpa using hcf
            clear hcf
            go_enter Tryd.func23, Tryd.ntmps23
            go_wp2_with (first
              | (go_at_call 34; refine (HMAY.out _).mono ?_; rintro e w' ⟨rfl, hw'⟩; subst w')
              | (go_at_call 35; refine (HCNT.out _).mono ?_; rintro e w3 ⟨rfl, hb3⟩; have B3 := hid (Bw.trans (show Bw w _ from (by repeat (first | exact Bw.refl _ | apply Bw.alloc | apply Bw.drewN | apply Bw.drew))) hb3); have z0 := ((Blk.new w #[.int .i64 (kn : Int), .int .i64 nN, .string ss, .int .i64 nu, .int .i64 na] 38).bw hb3).cell; have zl := ((Blk.new w #[.int .i64 (kn : Int), .int .i64 nN, .string ss, .int .i64 nu, .int .i64 na] 38).bw hb3).lt; clear hb3)
              | (go_at_call 36; refine (HFLD.out _).mono ?_; rintro e w4 ⟨rfl, hb4⟩; have B4 := hid (B3.out.trans hb4); clear hb4)
              | fail)
            all_goals go_ret2
            all_goals exact ⟨rfl, B4.out⟩
        · rw [if_neg (by decide)]
          rw [hwm] at hcf
          simp only [Bool.and_eq_true] at hcf
          rw [hcf.1] at HCNT
          rw [hcf.2] at HFLD
          have hnn := wm_nonneg (n := ((kn : Int), nN, nt, nu, na)) hft hwm
          have hwf := wm_facts hwm
          dsimp only at hnn hwf
          obtain ⟨nd, hnd⟩ : ∃ nd : ANode, nd = ((kn : Int), nN, nt, nu, na) := ⟨_, rfl⟩
          obtain ⟨R, hR⟩ : ∃ R, R = kd (ckR f) ((kn : Int), nN, nt, nu, na) nN.toNat 0 (L.drop (at_ + 1)) (at_ + 1) := ⟨_, rfl⟩
          rw [← hR]
          rw [← hnd] at hR
          have HPL := hid (fun (c : Nat) (h1 : (c : Int) < nN) (h2 : c ≤ 100000) (w9 : World) => place_any (kn : Int) nN nu na (strOfNums nt) nt c h1 h2 hwf.1 hwf.2.1 hwf.2.2.1 hwf.2.2.2 w9)
          rw [← hnd] at HPL
          have HR := hid hR
          clear hft HNB hwm hcf hwf hR hnd
          generalize strOfNums nt = ss at *
          generalize plR a = pa at *
          go_enter Tryd.func23, Tryd.ntmps23
          go_wp2_with (first
            | (go_at_call 34; refine (HMAY.out _).mono ?_; rintro e w' ⟨rfl, hw'⟩; subst w')
            | (go_at_call 35; refine (HCNT.out _).mono ?_; rintro e w3 ⟨rfl, hb3⟩; have B3 := hid (Bw.trans (show Bw w _ from (by repeat (first | exact Bw.refl _ | apply Bw.alloc | apply Bw.drewN | apply Bw.drew))) hb3); have K3 := hid ((Blk.new w #[.int .i64 (kn : Int), .int .i64 nN, .string ss, .int .i64 nu, .int .i64 na] 38).bw hb3); have z0 := K3.out.cell; have zl := K3.out.lt; clear hb3)
            | (go_at_call 36; refine (HFLD.out _).mono ?_; rintro e w4 ⟨rfl, hb4⟩; have B4 := hid (B3.out.trans hb4); have K4 := hid (K3.out.bw hb4); clear hb4 z0 zl)
            | fail)
          clear HMAY HCNT HFLD K3 B3 y0 y1 y2 y3 y4
          go_loopw [9, 10] (fun u v wr => ∃ k i : Nat, u = .int .i64 (k : Int) ∧ v = .int .i64 (i : Int) ∧ (i : Int) ≤ nN ∧ at_ < k ∧ k ≤ L.length ∧ i < k ∧ kd (ckR f) nd (nN.toNat - i) i (L.drop k) k = R ∧ Bw w4 wr) (fun _ v _ => nN.toNat - (intOf v).toNat)
          case atStart => exact ⟨at_ + 1, 0, by simp, rfl, hnn, by omega, by omega, by omega, HR.out.symm, Bw.refl _⟩
          case round =>
            obtain ⟨k, i, rfl, rfl, hi, hk1', hk2', hik, hr, hbw⟩ := hrel
            have K5 := K4.out.bw hbw
            have z0 := K5.cell
            have zl := K5.lt
            have HBW := hid hbw
            have HRR := hid hr
            have K5H := hid K5
            clear K5 hbw hr HR
            by_cases hiN : (i : Int) < nN
            · have hq : nN.toNat - i = (nN.toNat - (i + 1)) + 1 := by omega
              have hrr := HRR.out
              rw [hq, kd] at hrr
              have HRR2 := hid hrr
              have HNC5 := hid (HNC.out.bw (B4.out.trans HBW.out))
              have HP := hid (HPL.out i hiN (by omega))
              have HC := hid (fun w9 (hb : Bw wr w9) => HIH.out k (stP nd i) w9 (HNC5.out.bw hb) hk2' (by have := HLT.out; omega) (stP_range nd i))
              have HQ := hid (And.intro hk1' (And.intro hk2' (And.intro hik hiN)))
              have hkb : k ≤ 1000 := by omega
              have hib : i ≤ 1000 := by omega
              have hki : (i : Int) ≤ 1000 := by omega
              clear hrr hq HRR
              cases hc : ckR f (L.drop k) k (stP nd i) with
              | bad p e9 =>
                have herr := ckR_err f (L.drop k) k (stP nd i) (by have := HLT.out; simp; omega)
                rw [hc] at herr
                have hR9 : R = .bad p e9 := by have := HRR2.out; rw [hc] at this; exact this.symm
                subst hR9
                rw [hc] at HC
                have hen : (e9 != 0) = true := by rcases herr with h | h | h <;> subst h <;> rfl
                clear HRR2 hc herr hik hk1' hk2' hi hki
                dsimp only [crV] at HC ⊢
                generalize plR (stP nd i) = ps at *
                generalize stP nd i = pz at *
                go_wp2_with (first
                  | (go_at_call 37; refine (HP.out _).mono ?_; rintro e w6 ⟨rfl, hb6⟩; have B6 := hid (Bw.trans (show Bw wr _ from (by repeat (first | exact Bw.refl _ | apply Bw.alloc | apply Bw.drewN | apply Bw.drew))) hb6); clear hb6)
                  | (go_at_call 23; refine (HC.out _ B6.out).mono ?_; rintro e w7 ⟨rfl, hb7⟩; have B7 := hid (B6.out.trans hb7); clear hb7)
                  | fail)
                all_goals go_ret2
                all_goals exact ⟨rfl, B4.out.trans (HBW.out.trans B7.out)⟩
              | ok r' at' =>
                have hsuf := ckR_suf f (L.drop k) k (stP nd i)
                have hgt := ckR_gt hc
                have hlen := ckR_len f (L.drop k) k (stP nd i)
                rw [hc] at hsuf hlen
                obtain ⟨hs1, _⟩ := hsuf
                obtain ⟨hl1, _⟩ := hlen
                have hr' : r' = L.drop at' := by
                  rw [hs1, List.drop_drop]
                  congr 1
                  omega
                have hat : at' ≤ L.length := by
                  have := hl1
                  rw [List.length_drop] at this
                  omega
                have hkd : kd (ckR f) nd (nN.toNat - (i + 1)) ((i + 1 : Nat) : Int) (L.drop at') at' = R := by
                  have := HRR2.out
                  rw [hc, hr'] at this
                  rw [show ((i + 1 : Nat) : Int) = (i : Int) + 1 by omega]
                  exact this
                have HKD := hid hkd
                have HAT := hid (And.intro hat hgt)
                rw [hc] at HC
                clear HRR2 hc hik hk1' hk2' hi hki hs1 hl1 hr' hat hkd hgt
                dsimp only [crV] at HC
                generalize plR (stP nd i) = ps at *
                generalize stP nd i = pz at *
                go_wp2_with (first
                  | (go_at_call 37; refine (HP.out _).mono ?_; rintro e w6 ⟨rfl, hb6⟩; have B6 := hid (Bw.trans (show Bw wr _ from (by repeat (first | exact Bw.refl _ | apply Bw.alloc | apply Bw.drewN | apply Bw.drew))) hb6); clear hb6)
                  | (go_at_call 23; refine (HC.out _ B6.out).mono ?_; rintro e w7 ⟨rfl, hb7⟩; have B7 := hid (B6.out.trans hb7); clear hb7)
                  | fail)
                go_roundw
                case rel =>
                  have q1 := HAT.out
                  have q2 := HQ.out
                  exact ⟨at', i + 1, rfl, by go_num, by omega, by omega, q1.1, by omega, HKD.out, HBW.out.trans B7.out⟩
                case measure => simp [intOf]; omega
            · have hR9 : R = .ok (L.drop k) k := by
                rw [← HRR.out, show nN.toNat - i = 0 by omega, kd]
              subst hR9
              clear HRR HIH HPL HNC
              have hN2 : nN ≤ (i : Int) := by omega
              clear hiN hi
              go_wp2
              all_goals go_ret2
              all_goals exact ⟨rfl, B4.out.trans HBW.out⟩

end Go.Proofs.YtlcieebneclmpaaDoor

set_option linter.unusedSimpArgs false
set_option linter.unusedVariables false
namespace Go.Proofs.YtlcieebneclmpaaDoor
open Go.ChangeShapes Go.WideShapes Go.ChangeAt Go.RowKit

set_option maxRecDepth 100000 in
set_option maxHeartbeats 8000000 in
theorem rCheck_any (g o cap : Nat) (L : List ANode) (h0 : 0 < L.length) (hl : L.length ≤ 500) (w : World) (h : NC w g o L) :
    Calls Tryd.prog 11 #[.slice (some ⟨g, o, none⟩) L.length cap] w fun e w' => e = .returned (.tuple #[.int .i64 (ckD L).1, .int .i64 (ckD L).2]) ∧ Bw w w' := by
  have hne : L ≠ [] := by intro e; rw [e] at h0; simp at h0
  have hz : ((L.length : Int) == 0) = false := by rw [beq_eq_false_iff_ne]; omega
  have HC := hid (rcheck_any g o cap L hl (L.length + 1) 0 1 w h (Nat.zero_le _) (by omega) ⟨by decide, by decide⟩)
  have herr := ckR_err (L.length + 1) L 0 1 (by omega)
  have hsuf := ckR_suf (L.length + 1) L 0 1
  have hlen := ckR_len (L.length + 1) L 0 1
  rw [show ckD L = match ckR (L.length + 1) L 0 1 with | .bad p e => ((p : Int), e) | .ok r p => if r = [] then (0, 0) else ((p : Int), 6) from if_neg hne]
  rw [List.drop_zero, show plR 1 = 0 from rfl, show ((0 : Nat) : Int) = 0 from rfl] at HC
  clear h hne
  cases hc : ckR (L.length + 1) L 0 1 with
  | bad p e9 =>
    rw [hc] at HC herr
    have hen : (e9 != 0) = true := by rcases herr with h | h | h <;> subst h <;> rfl
    clear hsuf hlen hc herr
    dsimp only [crV] at HC ⊢
    go_enter Tryd.func11, Tryd.ntmps11
    go_wp2_with (first
      | (go_at_call 23; refine HC.out.mono ?_; rintro e w7 ⟨rfl, hb7⟩; have B7 := hid hb7; clear hb7)
      | fail)
    all_goals go_ret2
    all_goals exact ⟨rfl, B7.out⟩
  | ok r p =>
    rw [hc] at HC hsuf hlen
    obtain ⟨hl1, _⟩ := hlen
    clear hc herr
    dsimp only [crV] at HC ⊢
    by_cases hr : r = []
    · rw [if_pos hr]
      have hp : ¬ (p : Int) < (L.length : Int) := by rw [hr] at hl1; simp at hl1; omega
      clear hsuf hl1 hr
      go_enter Tryd.func11, Tryd.ntmps11
      go_wp2_with (first
        | (go_at_call 23; refine HC.out.mono ?_; rintro e w7 ⟨rfl, hb7⟩; have B7 := hid hb7; clear hb7)
        | fail)
      all_goals go_ret2
      all_goals exact ⟨rfl, B7.out⟩
    · rw [if_neg hr]
      have hp : (p : Int) < (L.length : Int) := by
        have : 0 < r.length := List.length_pos_iff.2 hr
        omega
      clear hsuf hl1 hr
      go_enter Tryd.func11, Tryd.ntmps11
      go_wp2_with (first
        | (go_at_call 23; refine HC.out.mono ?_; rintro e w7 ⟨rfl, hb7⟩; have B7 := hid hb7; clear hb7)
        | fail)
      all_goals go_ret2
      all_goals exact ⟨rfl, B7.out⟩

set_option maxRecDepth 100000 in
set_option maxHeartbeats 4000000 in
theorem check_nil (a : Option Addr) (cap : Nat) (w : World) :
    Calls Tryd.prog 10 #[.slice a 0 cap] w fun e w' => e = .returned (.tuple #[.int .i64 0, .int .i64 6]) ∧ w' = w := by
  go_enter Tryd.func10, Tryd.ntmps10
  go_wp2
  all_goals go_ret2
  all_goals exact ⟨rfl, rfl⟩

set_option maxRecDepth 100000 in
set_option maxHeartbeats 4000000 in
theorem rCheck_nil (a : Option Addr) (cap : Nat) (w : World) :
    Calls Tryd.prog 11 #[.slice a 0 cap] w fun e w' => e = .returned (.tuple #[.int .i64 0, .int .i64 6]) ∧ w' = w := by
  go_enter Tryd.func11, Tryd.ntmps11
  go_wp2
  all_goals go_ret2
  all_goals exact ⟨rfl, rfl⟩

theorem na_nc {w : World} {a : Option Addr} {L : List ANode} (h : NA w a L) (h0 : 0 < L.length) : ∃ g o, a = some ⟨g, o, none⟩ ∧ NC w g o L := by
  obtain ⟨g, off, rfl, hg, _, _⟩ := h 0 h0
  refine ⟨g, off, rfl, hg, fun i hi j hj => ?_, fun i hi => ?_⟩
  · obtain ⟨b, o, e, _, hc, _⟩ := h i hi
    injection e with e
    injection e with e1 e2
    subst e1 e2
    have := hc j hj
    rw [← Nat.add_assoc] at this
    exact this
  · obtain ⟨b, o, e, _, _, hk⟩ := h i hi
    exact ⟨hk.2.1, hk.2.2.1.1, by have := hk.2.2.1.2; unfold maxLen at this; omega⟩

/-- Both, of any list. -/
theorem checks_any {w : World} {a : Option Addr} {L : List ANode} (h : NA w a L) (hl : L.length ≤ 500) (hh : Sh w) (cap : Nat) :
    ∃ x y : Int, Calls Tryd.prog 10 #[.slice a L.length cap] w (fun e w' => e = .returned (.tuple #[.int .i64 x, .int .i64 y]) ∧ Bw w w') ∧
      ∀ w1, Bw w w1 → Calls Tryd.prog 11 #[.slice a L.length cap] w1 (fun e w' => e = .returned (.tuple #[.int .i64 x, .int .i64 y]) ∧ Bw w1 w') := by
  by_cases h0 : L.length = 0
  · rw [h0]
    exact ⟨0, 6, (check_nil a cap w).mono fun e w' h => ⟨h.1, h.2 ▸ Bw.refl _⟩, fun w1 _ => (rCheck_nil a cap w1).mono fun e w' h => ⟨h.1, h.2 ▸ Bw.refl _⟩⟩
  · obtain ⟨g, o, rfl, hm⟩ := na_nc h (by omega)
    refine ⟨(ckP L).1, (ckP L).2, check_any g o cap L (by omega) hl w hm hh, fun w1 hb => ?_⟩
    rw [ck_same]
    exact rCheck_any g o cap L (by omega) hl w1 (hm.bw hb)

theorem gShapes : Tryd.prog.globalNamed "jacquard/parse.shapes" = some 0 := by kernel_rfl
theorem tShapes : (Tryd.prog.globals[0]?).map (·.type) = some 65 := by kernel_rfl
theorem cellsShp : Tryd.prog.cellsOf 64 = 4 := by kernel_rfl

/-- The kinds, as the table's datum has them. -/
theorem shp_datum : (Rows.laid_jacquard_parse_shapes : DataW Unit) = .agg (shpT.map fun r => .agg [.lit (.int .i64 r.1), .lit (.int .i64 r.2.1), .lit (.int .i64 r.2.2.1), .lit (.int .i64 r.2.2.2)]) := by
  simp [Rows.laid_jacquard_parse_shapes, shpT]

end Go.Proofs.YtlcieebneclmpaaDoor

set_option linter.unusedSimpArgs false
set_option linter.unusedVariables false
namespace Go.Proofs.YtlcieebneclmpaaDoor
open Go.ChangeShapes Go.WideShapes Go.ChangeAt Go.RowKit

theorem sh_of_laid {W : World} (h : laidMetH Tryd.prog laidS W) : Sh W := by
  rw [MakeChecks.laidMetH_plain _ _ _ (by kernel_rfl)] at h
  obtain ⟨ps, ⟨g0, t0, cs0, f0, p0, q0, hg0, ht0, hv0, hd0, ⟨g1, t1, cs1, f1, p1, q1, hg1, ht1, hv1, hd1, _, _⟩, _⟩, _⟩ := h
  obtain rfl := Option.some.inj (gShapes.symm.trans hg1)
  obtain rfl := Option.some.inj (tShapes.symm.trans ht1)
  obtain ⟨xs, m1, rfl, hx1, hlen, hn, hel⟩ := DataW.trod_array Tryd.underlying65 hd1
  rw [cellsShp] at hel
  simp only [Prod.mk.injEq] at hx1
  rw [shp_datum] at hx1
  have hxs : (shpT.map fun r => (DataW.agg [.lit (.int .i64 r.1), .lit (.int .i64 r.2.1), .lit (.int .i64 r.2.2.1), .lit (.int .i64 r.2.2.2)] : DataW Unit)) = xs.map (·.1) := by simpa using hx1.1
  have key : ∀ k : Nat, k < 33 → ∃ c0 c1 c2 c3 : Int, (c0, c1, c2, c3) = shpA k ∧ W.cell? ⟨0, k * 4, none⟩ = some (.int .i64 c0) ∧ W.cell? ⟨0, k * 4 + 1, none⟩ = some (.int .i64 c1) ∧ W.cell? ⟨0, k * 4 + 2, none⟩ = some (.int .i64 c2) ∧ W.cell? ⟨0, k * 4 + 3, none⟩ = some (.int .i64 c3) := by
    intro k hk
    have h1 := hel k hk
    have hxi : k < xs.length := by omega
    rw [List.getElem?_eq_getElem hxi] at h1
    obtain ⟨ys, n, _, hy, hl, hlen2, hf⟩ := DataW.trod_struct Tryd.underlying64 h1
    have hl4 : ys.length = 4 := hlen2
    match ys, hl4 with
    | [y0, y1, y2, y3], _ =>
    obtain ⟨a0, e0, d0, _⟩ := DataW.trod_int under3' (hf 0 _ rfl)
    obtain ⟨a1, e1, d1, _⟩ := DataW.trod_int under3' (hf 1 _ rfl)
    obtain ⟨a2, e2, d2, _⟩ := DataW.trod_int under3' (hf 2 _ rfl)
    obtain ⟨a3, e3, d3, _⟩ := DataW.trod_int under3' (hf 3 _ rfl)
    have hsk : shpT[k]? = some (shpA k) := by
      unfold shpA
      rw [show ((k : Nat) : Int).toNat = k from rfl, List.getD_eq_getElem?_getD, List.getElem?_eq_getElem (show k < shpT.length from hk)]
      rfl
    have h2 : (shpT.map fun r => (DataW.agg [.lit (.int .i64 r.1), .lit (.int .i64 r.2.1), .lit (.int .i64 r.2.2.1), .lit (.int .i64 r.2.2.2)] : DataW Unit))[k]? = (xs.map (·.1))[k]? := by rw [hxs]
    rw [List.getElem?_map, hsk, List.getElem?_map, List.getElem?_eq_getElem hxi, hy] at h2
    rw [d0, d1, d2, d3] at h2
    simp only [Option.map_some, Option.some.injEq, List.map_cons, List.map_nil, DataW.agg.injEq, List.cons.injEq, DataW.lit.injEq, Lit.int.injEq, true_and, and_true] at h2
    obtain ⟨r0, r1, r2, r3⟩ := h2
    replace e0 : List.take 1 (List.drop 0 (List.take 4 (List.drop (k * 4) cs1.toList))) = [Value.int .i64 a0] := by
      have q : List.take (Tryd.prog.cellsOf 3) (List.drop 0 (List.take 4 (List.drop (k * 4) cs1.toList))) = [Value.int .i64 a0] := e0
      rw [cells3] at q
      exact q
    replace e1 : List.take 1 (List.drop 1 (List.take 4 (List.drop (k * 4) cs1.toList))) = [Value.int .i64 a1] := by
      have q : List.take (Tryd.prog.cellsOf 3) (List.drop 1 (List.take 4 (List.drop (k * 4) cs1.toList))) = [Value.int .i64 a1] := e1
      rw [cells3] at q
      exact q
    replace e2 : List.take 1 (List.drop 2 (List.take 4 (List.drop (k * 4) cs1.toList))) = [Value.int .i64 a2] := by
      have q : List.take (Tryd.prog.cellsOf 3) (List.drop 2 (List.take 4 (List.drop (k * 4) cs1.toList))) = [Value.int .i64 a2] := e2
      rw [cells3] at q
      exact q
    replace e3 : List.take 1 (List.drop 3 (List.take 4 (List.drop (k * 4) cs1.toList))) = [Value.int .i64 a3] := by
      have q : List.take (Tryd.prog.cellsOf 3) (List.drop 3 (List.take 4 (List.drop (k * 4) cs1.toList))) = [Value.int .i64 a3] := e3
      rw [cells3] at q
      exact q
    have f0 := congrArg (·[0]?) e0
    have f1 := congrArg (·[0]?) e1
    have f2 := congrArg (·[0]?) e2
    have f3 := congrArg (·[0]?) e3
    refine ⟨a0, a1, a2, a3, ?_, ?_, ?_, ?_, ?_⟩
    · rw [← r0, ← r1, ← r2, ← r3]
    · rw [World.var?_cell hg1 hv1]; simpa [List.getElem?_take, List.getElem?_drop] using f0
    · rw [World.var?_cell hg1 hv1]; simpa [List.getElem?_take, List.getElem?_drop] using f1
    · rw [World.var?_cell hg1 hv1]; simpa [List.getElem?_take, List.getElem?_drop] using f2
    · rw [World.var?_cell hg1 hv1]; simpa [List.getElem?_take, List.getElem?_drop] using f3
  obtain ⟨z0, z1, z2, z3, _, hz, _⟩ := key 0 (by decide)
  refine ⟨World.block_lt_of_cell? W _ hz, fun k hk => ?_, fun k hk => ?_, fun k hk => ?_, fun k hk => ?_⟩
  · obtain ⟨c0, c1, c2, c3, e, h0, h1, h2, h3⟩ := key k hk
    rw [← e]; exact h0
  · obtain ⟨c0, c1, c2, c3, e, h0, h1, h2, h3⟩ := key k hk
    rw [← e]; exact h1
  · obtain ⟨c0, c1, c2, c3, e, h0, h1, h2, h3⟩ := key k hk
    rw [← e]; exact h2
  · obtain ⟨c0, c1, c2, c3, e, h0, h1, h2, h3⟩ := key k hk
    rw [← e]; exact h3

end Go.Proofs.YtlcieebneclmpaaDoor

