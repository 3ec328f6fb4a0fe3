/- The document's From: bytes, a place, the first fault: its memory; bad, number, signed, count: contracts. -/
import Derived.Test.YtfhnhbpmiodomaaDoorFl
import Derived.Test.YtfhnhbpmiodomaaDoorWA
set_option linter.unusedSimpArgs false
set_option linter.unusedVariables false
namespace Go.Proofs.YtfhnhbpmiodomaaDoor
open Go Go.RowKit

/-- The bytes, the place, the fault in memory. -/
structure FB (base : Nat) (w : World) (r : Nat) (vb : Value) (b : List Int) (s : St) : Prop where
  k : Blk w r #[vb, .int .i64 s.1, .int .i64 s.2] 70
  sl : Sl w (fun x => x < base) vb b.length 1 (b.map (Value.int .u8))
  bytes : ∀ c ∈ b, 0 ≤ c ∧ c ≤ 255
  len : b.length ≤ 4194304
  at_ : s.1 ≤ b.length
  f : s.2 ≤ 100
  base : base ≤ r

section
variable {base r : Nat} {w w' : World} {vb : Value} {b : List Int} {s : St}

theorem FB.kp (h : FB base w r vb b s) (k : Kp r w w') (hb : w'.heap[r]? = w.heap[r]?) : FB base w' r vb b s :=
  ⟨h.k.keep hb, h.sl.keep k.size (fun x hx hl => k.block x hx (by have := h.base; omega)) (fun _ _ g => g), h.bytes, h.len, h.at_, h.f, h.base⟩
theorem FB.bw (h : FB base w r vb b s) (k : Bw w w') : FB base w' r vb b s := h.kp (Kp.of_bw k) (k.block r h.k.lt)
theorem FB.to {s' : St} (h : FB base w r vb b s) (e : s = s') : FB base w r vb b s' := e ▸ h
theorem FB.set (h : FB base w r vb b s) {s' : St} (h1 : s'.1 ≤ b.length) (h2 : s'.2 ≤ 100) (hk : Blk w' r #[vb, .int .i64 s'.1, .int .i64 s'.2] 70) (k : Kp r w w') : FB base w' r vb b s' :=
  ⟨hk, h.sl.keep k.size (fun x hx hl => k.block x hx (by have := h.base; omega)) (fun _ _ g => g), h.bytes, h.len, h1, h2, h.base⟩

theorem FB.form (h : FB base w r vb b s) : ∃ a cap, vb = .slice a b.length cap ∧ b.length ≤ cap := by
  obtain ⟨_, a, cap, e, hc, _⟩ := h.sl
  exact ⟨a, cap, e, hc.1⟩

theorem FB.at {a : Option Addr} {cap : Nat} (h : FB base w r (.slice a b.length cap) b s) {i : Nat} (hi : i < b.length) :
    ∃ g o, a = some ⟨g, o, none⟩ ∧ g < w.heap.size ∧ g ≠ r ∧ w.cell? ⟨g, o + i, none⟩ = some (.int .u8 b[i]) := by
  obtain ⟨g, o, e, hlt, hG, hc⟩ := h.sl.cellAt (by omega)
  have := h.base
  exact ⟨g, o, e, hlt, by omega, by rw [hc i (by omega)]; simp [hi]⟩

set_option maxRecDepth 100000 in
set_option maxHeartbeats 4000000 in
theorem fbad_any (e a : Nat) (h : FB base w r vb b s) (he : e ≤ 100) (ha : s.2 = 0 → a ≤ b.length) :
    Calls Tryd.prog 28 #[.pointer (some ⟨r, 0, none⟩), .int .i64 e, .int .i64 a] w fun e' w' => (∃ v, e' = .returned v) ∧ FB base w' r vb b (failS s e a) ∧ Kp r w w' := by
  have HR := hid h
  have HE := hid he
  have HA := hid ha
  obtain ⟨av, cv, e1, _⟩ := h.form
  subst e1
  have z := h.k.cell
  have zf := h.k.free
  have zl := h.k.lt
  clear h he ha
  by_cases h0 : s.2 = 0
  · have t : ((s.2 : Int) == 0) = true := by simp [h0]
    have H0 := hid h0
    clear h0
    go_enter Tryd.func28, Tryd.ntmps28
    go_wp2
    all_goals go_end0
    have hk := (HR.out.k.set 2 (.int .i64 e)).set 1 (.int .i64 a)
    have kk : Kp r w ((w.setCell ⟨r, 2, none⟩ (.int .i64 e)).setCell ⟨r, 1, none⟩ (.int .i64 a)) := ((Kp.refl r w).set 2 _).set 1 _
    refine ⟨⟨_, rfl⟩, (HR.out.set (s' := (a, e)) (HA.out H0.out) HE.out (by simpa using hk) kk).to (by simp [failS, H0.out]), kk⟩
  · have t : ((s.2 : Int) == 0) = false := by simp [h0]
    have H0 := hid h0
    clear h0
    go_enter Tryd.func28, Tryd.ntmps28
    go_wp2
    all_goals go_end0
    exact ⟨⟨_, rfl⟩, HR.out.to (by simp [failS, H0.out]), Kp.refl _ _⟩

set_option maxRecDepth 100000 in
set_option maxHeartbeats 2000000 in
theorem fnumber_any (h : FB base w r vb b s) :
    Calls Tryd.prog 26 #[.pointer (some ⟨r, 0, none⟩)] w fun e w' => e = .returned (.int .i64 (nM b s).1) ∧ FB base w' r vb b (nM b s).2 ∧ Kp r w w' := by
  have HR := hid h
  obtain ⟨p, f⟩ := s
  have z := h.k.cell
  have zl := h.k.lt
  simp only at z
  by_cases h0 : f = 0
  · subst h0
    have HLN := hid h.len
    have hbb := hid h.bytes
    clear h
    go_enter Tryd.func26, Tryd.ntmps26
    go_wp2
    go_loopw [3, 4, 5] (fun acc un j wr => ∃ (i : Nat) (a U : Int), i ≤ 8 ∧ j = .int .i64 (i : Nat) ∧ acc = .int .i64 a ∧ un = .int .i64 U ∧ U = 128 ^ i ∧ (0 ≤ a ∧ a < 128 ^ i) ∧ FB base wr r vb b (p + i, 0) ∧ Kp r w wr ∧ rd (b.drop p) 0 = ((rd (b.drop (p + i)) i).1, (rd (b.drop (p + i)) i).2.map (a + ·))) (fun _ _ j _ => 9 - (intOf j).toNat)
    case atStart => exact ⟨0, 0, 1, by omega, rfl, rfl, rfl, by simp, by simp, HR.out, Kp.refl _ _, by simp⟩
    case round =>
      obtain ⟨i, a, U, hi, rfl, rfl, rfl, hU, ha, hr, hk, he⟩ := hrel
      have HR2 := hid hr
      have HK2 := hid hk
      have HE := hid he
      have HA := hid ha
      have HU := hid hU
      clear z zl
      have z := hr.k.cell
      have zf := hr.k.free
      have zl := hr.k.lt
      simp only [Int.natCast_add] at z
      obtain ⟨av, cap, ev, hcap⟩ := hr.form
      subst ev
      have hpl := hr.at_
      have hlen := HLN.out
      simp only at hpl
      clear he ha hU hk
      have hp9 : (p : Int) + i + 1 ≤ 9223372036854775807 := by omega
      by_cases hlt : p + i < b.length
      · obtain ⟨g, o, e2, hg, hgr, hcc⟩ := hr.at hlt
        subst e2
        have hr0 : b.drop (p + i) = b[p + i] :: b.drop (p + i + 1) := List.drop_eq_getElem_cons hlt
        have hcb := hbb.out _ (List.getElem_mem hlt)
        have HLL := hid hlt
        have hge : decide ((b.length : Int) ≤ (p : Int) + i) = false := decide_eq_false (by omega)
        have hlt2 : (p : Int) + i < (b.length : Int) := by omega
        have htn : ((p : Int) + i).toNat = p + i := by omega
        have hp0 : ¬ (p : Int) + i < 0 := by omega
        generalize b[p + i] = c at hr0 hcb hcc
        clear hr hlt
        by_cases hbad : (0 < i ∧ c = 0) ∨ (i = 8 ∧ 63 < c)
        · have HN := hid (show nM b (p, 0) = (0, (p + i, 6)) by
            refine nM_none ?_
            rw [HE.out, hr0]
            simp only [rd]
            rw [if_pos hbad]
            rfl)
          have HF := hid (show failS (p + i, 0) 6 (p + i) = (p + i, 6) by simp [failS])
          clear hr0
          rcases hbad with ⟨hb1, hb2⟩ | ⟨hb1, hb2⟩
          · subst hb2
            have hi1 : (0 : Int) < (i : Int) := by omega
            go_wp2
            go_quiet (fail)
            go_wp2
            go_quiet (fail)
            go_wp2_with (first
              | (go_at_call 28; refine (fbad_any 6 (p + i) (HR2.out.bw (by repeat (first | exact Bw.refl _ | apply Bw.drewN | apply Bw.drew))) (by decide) (fun _ => by have := HLL.out; omega)).mono ?_; rintro e w3 ⟨⟨_, rfl⟩, hr3, hk3⟩; rw [HF.out] at hr3; have HR3 := hid hr3; have HK3 := hid (HK2.out.trans (Kp.trans (Kp.of_bw (by repeat (first | exact Bw.refl _ | apply Bw.drewN | apply Bw.drew))) hk3)); clear hr3 hk3)
              | fail)
            all_goals go_ret
            all_goals rw [HN.out]
            all_goals exact ⟨rfl, HR3.out, HK3.out⟩
          · have hi8b : ((i : Int) == 8) = true := by simp; omega
            have hc63 : decide (63 < c) = true := decide_eq_true hb2
            have hc0 : (c == 0) = false := by simp; omega
            clear hb1 hb2
            go_wp2
            go_quiet (fail)
            go_wp2
            go_quiet (fail)
            go_wp2_with (first
              | (go_at_call 28; refine (fbad_any 6 (p + i) (HR2.out.bw (by repeat (first | exact Bw.refl _ | apply Bw.drewN | apply Bw.drew))) (by decide) (fun _ => by have := HLL.out; omega)).mono ?_; rintro e w3 ⟨⟨_, rfl⟩, hr3, hk3⟩; rw [HF.out] at hr3; have HR3 := hid hr3; have HK3 := hid (HK2.out.trans (Kp.trans (Kp.of_bw (by repeat (first | exact Bw.refl _ | apply Bw.drewN | apply Bw.drew))) hk3)); clear hr3 hk3)
              | fail)
            all_goals go_ret
            all_goals rw [HN.out]
            all_goals exact ⟨rfl, HR3.out, HK3.out⟩
        · have HR0 := hid hr0
          have HBAD := hid hbad
          have hpw := pow128_le hi
          have htm : c.tmod 128 = c % 128 := Int.tmod_eq_emod_of_nonneg hcb.1
          have h1 : 0 ≤ c % 128 * U := Int.mul_nonneg (by omega) (by have := HU.out; omega)
          have h2 : c % 128 * U ≤ 127 * U := Int.mul_le_mul_of_nonneg_right (by omega) (by have := HU.out; omega)
          obtain ⟨d, hd⟩ : ∃ d, c % 128 * U = d := ⟨_, rfl⟩
          rw [hd] at h1 h2
          have hUb : U ≤ 72057594037927936 := by have := HU.out; omega
          have hdb : -9223372036854775808 ≤ d ∧ d ≤ 9223372036854775807 := by omega
          have hbd : -9223372036854775808 ≤ a + d ∧ a + d ≤ 9223372036854775807 := by have := HA.out; have := HU.out; omega
          have hub : -9223372036854775808 ≤ U * 128 ∧ U * 128 ≤ 9223372036854775807 ∨ 8 ≤ i := by
            by_cases h8 : i = 8
            · exact .inr (by omega)
            · left
              have := (pow128_le (show i + 1 ≤ 8 by omega)).2
              have h3 := (pow128_le hi).1
              rw [Int.pow_succ] at this
              have := HU.out
              omega
          have HD := hid hd
          have HDB := hid (And.intro h1 h2)
          have hs1 : IntKind.i64.wrap d = d := by rw [IntKind.wrap_i64]; omega
          clear h1 h2 hr0 hpw
          by_cases h128 : c < 128
          · have HN := hid (show nM b (p, 0) = (a + d, (p + i + 1, 0)) by
              rw [Nat.add_assoc]
              refine nM_some ?_
              rw [HE.out, HR0.out]
              simp only [rd]
              rw [if_neg HBAD.out, if_pos h128]
              have := HD.out
              rw [Int.emod_eq_of_lt hcb.1 h128, HU.out] at this
              simp [this])
            have h128b : decide (c < 128) = true := decide_eq_true h128
            by_cases hc : c = 0
            · have hc0 : (c == 0) = true := by simp [hc]
              have hi1 : decide ((0 : Int) < (i : Int)) = false := decide_eq_false (by have := HBAD.out; omega)
              have hi1b : ¬ (0 : Int) < (i : Int) := by have := HBAD.out; omega
              have hi1c : ¬ 0 < i := by have := HBAD.out; omega
              have hi8b : ((i : Int) == 8) = false := by simp; omega
              clear hbad hc
              go_wp2
              go_quiet (fail)
              go_wp2
              go_quiet (fail)
              go_wp2
              all_goals go_ret
              have kk : ∀ m, Kp r w ((wr.setCell ⟨r, 1, none⟩ (.int .i64 ((p : Int) + i + 1))).drewN m) := fun m => (HK2.out.set 1 _).bw (bw_drewN _ _)
              have hb : ∀ m, FB base ((wr.setCell ⟨r, 1, none⟩ (.int .i64 ((p : Int) + i + 1))).drewN m) r (.slice (some ⟨g, o, none⟩) b.length cap) b (p + i + 1, 0) := fun m => HR2.out.set (s' := (p + i + 1, 0)) HLL.out (by simp) (by simpa using (HR2.out.k.set 1 (.int .i64 ((p : Int) + i + 1))).drewN m) (((Kp.refl _ _).set 1 _).bw (bw_drewN _ _))
              all_goals rw [HN.out]
              all_goals exact ⟨rfl, hb _, kk _⟩
            · have hc0 : (c == 0) = false := by simp; omega
              by_cases hi8 : i = 8
              · have hi8b : ((i : Int) == 8) = true := by simp; omega
                have hc63 : decide (63 < c) = false := decide_eq_false (by have := HBAD.out; omega)
                clear hbad hi8 hc
                go_wp2
                go_quiet (fail)
                go_wp2
                go_quiet (fail)
                go_wp2
                all_goals go_ret
                have kk : ∀ m, Kp r w ((wr.setCell ⟨r, 1, none⟩ (.int .i64 ((p : Int) + i + 1))).drewN m) := fun m => (HK2.out.set 1 _).bw (bw_drewN _ _)
                have hb : ∀ m, FB base ((wr.setCell ⟨r, 1, none⟩ (.int .i64 ((p : Int) + i + 1))).drewN m) r (.slice (some ⟨g, o, none⟩) b.length cap) b (p + i + 1, 0) := fun m => HR2.out.set (s' := (p + i + 1, 0)) HLL.out (by simp) (by simpa using (HR2.out.k.set 1 (.int .i64 ((p : Int) + i + 1))).drewN m) (((Kp.refl _ _).set 1 _).bw (bw_drewN _ _))
                all_goals rw [HN.out]
                all_goals exact ⟨rfl, hb _, kk _⟩
              · have hi8b : ((i : Int) == 8) = false := by simp; omega
                clear hbad hi8 hc
                go_wp2
                go_quiet (fail)
                go_wp2
                go_quiet (fail)
                go_wp2
                all_goals go_ret
                have kk : ∀ m, Kp r w ((wr.setCell ⟨r, 1, none⟩ (.int .i64 ((p : Int) + i + 1))).drewN m) := fun m => (HK2.out.set 1 _).bw (bw_drewN _ _)
                have hb : ∀ m, FB base ((wr.setCell ⟨r, 1, none⟩ (.int .i64 ((p : Int) + i + 1))).drewN m) r (.slice (some ⟨g, o, none⟩) b.length cap) b (p + i + 1, 0) := fun m => HR2.out.set (s' := (p + i + 1, 0)) HLL.out (by simp) (by simpa using (HR2.out.k.set 1 (.int .i64 ((p : Int) + i + 1))).drewN m) (((Kp.refl _ _).set 1 _).bw (bw_drewN _ _))
                all_goals rw [HN.out]
                all_goals exact ⟨rfl, hb _, kk _⟩
          · have hlt8 : i < 8 := by
              rcases Nat.lt_or_ge i 8 with h | h
              · exact h
              · exact absurd (.inr ⟨by omega, by omega⟩) hbad
            have hub2 : -9223372036854775808 ≤ U * 128 ∧ U * 128 ≤ 9223372036854775807 := by rcases hub with h | h; exact h; omega
            clear hub
            have h128b : decide (c < 128) = false := decide_eq_false h128
            have HPW := hid (show d + 128 ^ i ≤ 128 ^ (i + 1) by
              have h2 := HDB.out.2
              rw [Int.pow_succ, ← HU.out]
              omega)
            have HE2 := hid (show rd (b.drop p) 0 = ((rd (b.drop (p + (i + 1))) (i + 1)).1, (rd (b.drop (p + (i + 1))) (i + 1)).2.map ((a + d) + ·)) by
              rw [HE.out, HR0.out, ← Nat.add_assoc]
              simp only [rd]
              rw [if_neg HBAD.out, if_neg h128]
              have e : (c - 128) * 128 ^ i = d := by rw [← HD.out, ← HU.out]; congr 1; omega
              rw [e]
              cases rd (b.drop (p + i + 1)) (i + 1) with
              | mk j o => cases o <;> simp [Int.add_assoc])
            have hc0 : (c == 0) = false := by simp; omega
            have hi8b : ((i : Int) == 8) = false := by simp; omega
            clear hbad
            go_wp2
            go_quiet (fail)
            go_wp2
            go_quiet (fail)
            go_wp2
            have kk : ∀ m, Kp r w ((wr.setCell ⟨r, 1, none⟩ (.int .i64 ((p : Int) + i + 1))).drewN m) := fun m => (HK2.out.set 1 _).bw (bw_drewN _ _)
            have hb : ∀ m, FB base ((wr.setCell ⟨r, 1, none⟩ (.int .i64 ((p : Int) + i + 1))).drewN m) r (.slice (some ⟨g, o, none⟩) b.length cap) b (p + i + 1, 0) := fun m => HR2.out.set (s' := (p + i + 1, 0)) HLL.out (by simp) (by simpa using (HR2.out.k.set 1 (.int .i64 ((p : Int) + i + 1))).drewN m) (((Kp.refl _ _).set 1 _).bw (bw_drewN _ _))
            go_roundw
            case rel => exact ⟨i + 1, a + d, U * 128, by omega, by go_num, rfl, rfl, by rw [Int.pow_succ, HU.out], by have := HA.out; have := HDB.out; have := HPW.out; omega, by simpa [Nat.add_assoc] using hb _, kk _, HE2.out⟩
            case measure => simp [intOf]; omega
      · have hpe : p + i = b.length := by omega
        have HN := hid (show nM b (p, 0) = (0, (p + i, 6)) by
          refine nM_none ?_
          rw [HE.out, List.drop_eq_nil_of_le (by omega)]
          rfl)
        have HLL := hid (show p + i ≤ b.length by omega)
        have HF := hid (show failS (p + i, 0) 6 b.length = (p + i, 6) by simp [failS, hpe])
        have hge : decide ((b.length : Int) ≤ (p : Int) + i) = true := decide_eq_true (by omega)
        clear hlt hpe hr
        go_wp2
        go_quiet (fail)
        go_wp2_with (first
          | (go_at_call 28; refine (fbad_any 6 (b.length) (HR2.out.bw (by repeat (first | exact Bw.refl _ | apply Bw.drewN | apply Bw.drew))) (by decide) (fun _ => by have := HLL.out; omega)).mono ?_; rintro e w3 ⟨⟨_, rfl⟩, hr3, hk3⟩; rw [HF.out] at hr3; have HR3 := hid hr3; have HK3 := hid (HK2.out.trans (Kp.trans (Kp.of_bw (by repeat (first | exact Bw.refl _ | apply Bw.drewN | apply Bw.drew))) hk3)); clear hr3 hk3)
          | fail)
        all_goals go_ret
        all_goals rw [HN.out]
        all_goals exact ⟨rfl, HR3.out, HK3.out⟩
  · have HN := hid (show nM b (p, f) = (0, (p, f)) by simp [nM, h0])
    have t2 : ((f : Int) == 0) = false := by simp [h0]
    rw [HN.out]
    clear h
    go_enter Tryd.func26, Tryd.ntmps26
    go_wp2
    go_loopw [3, 4, 5] (fun acc un j wr => j = .int .i64 0 ∧ acc = .int .i64 0 ∧ un = .int .i64 1 ∧ wr = w) (fun _ _ j _ => 9 - (intOf j).toNat)
    case atStart => exact ⟨rfl, rfl, rfl, rfl⟩
    case round =>
      obtain ⟨rfl, rfl, rfl, hw⟩ := hrel
      subst wr
      go_wp2
      all_goals go_ret
      all_goals exact ⟨rfl, HR.out, Kp.refl _ _⟩

set_option maxRecDepth 100000 in
set_option maxHeartbeats 8000000 in
theorem fsigned_any (h : FB base w r vb b s) :
    Calls Tryd.prog 57 #[.pointer (some ⟨r, 0, none⟩)] w fun e w' => e = .returned (.int .i64 (zM b s).1) ∧ FB base w' r vb b (zM b s).2 ∧ Kp r w w' := by
  have HR := hid h
  have hb := nM_bd b h.bytes s
  unfold zM
  obtain ⟨⟨n, s'⟩, hn⟩ : ∃ x, nM b s = x := ⟨_, rfl⟩
  rw [hn] at hb ⊢
  have HN := hid hn
  clear hn h
  simp only at hb ⊢
  by_cases h1 : n % 2 = 1
  · have e1 : n.tmod 2 = 1 := by rw [Int.tmod_eq_emod_of_nonneg hb.1]; exact h1
    have e2 : n.tdiv 2 = n / 2 := Int.tdiv_eq_ediv_of_nonneg hb.1
    have hsz : sz n = -(n / 2) - 1 := by unfold sz; rw [if_pos h1]
    rw [hsz]
    have HB := hid hb
    go_enter Tryd.func57, Tryd.ntmps57
    go_wp2_with (first
      | (go_at_call 26; refine (fnumber_any HR.out).mono ?_; rintro e w1 ⟨rfl, hr1, hk1⟩; rw [HN.out] at hr1 ⊢; have HR1 := hid hr1; have HK1 := hid hk1; clear hr1 hk1)
      | fail)
    all_goals go_ret
    all_goals exact ⟨rfl, HR1.out, HK1.out⟩
  · have e1 : n.tmod 2 = 0 := by rw [Int.tmod_eq_emod_of_nonneg hb.1]; omega
    have e2 : n.tdiv 2 = n / 2 := Int.tdiv_eq_ediv_of_nonneg hb.1
    have hsz : sz n = n / 2 := by unfold sz; rw [if_neg h1]
    rw [hsz]
    have HB := hid hb
    go_enter Tryd.func57, Tryd.ntmps57
    go_wp2_with (first
      | (go_at_call 26; refine (fnumber_any HR.out).mono ?_; rintro e w1 ⟨rfl, hr1, hk1⟩; rw [HN.out] at hr1 ⊢; have HR1 := hid hr1; have HK1 := hid hk1; clear hr1 hk1)
      | fail)
    all_goals go_ret
    all_goals exact ⟨rfl, HR1.out, HK1.out⟩

set_option maxRecDepth 100000 in
set_option maxHeartbeats 2000000 in
theorem fcount_any (h : FB base w r vb b s) :
    Calls Tryd.prog 24 #[.pointer (some ⟨r, 0, none⟩)] w fun e w' => e = .returned (.int .i64 (cM b s).1) ∧ FB base w' r vb b (cM b s).2 ∧ Kp r w w' := by
  have HR := hid h
  have hb := nM_bd b h.bytes s
  have hat := (nM_ok b).1 s h.at_
  have hbadn : (nM b s).2.2 ≠ 0 → (nM b s).1 = 0 := by
    intro hx
    unfold nM at hx ⊢
    split at hx
    · rename_i h0; rw [if_pos h0]
      split at hx
      · simp at hx
      · rename_i j he; rfl
    · rename_i h0; rw [if_neg h0]
  have hln := h.len
  have HAT0 := hid h.at_
  obtain ⟨av, cv, e1, _⟩ := h.form
  subst e1
  have z := h.k.cell
  have zl := h.k.lt
  unfold cM
  obtain ⟨⟨n, s'⟩, hn⟩ : ∃ x, nM b s = x := ⟨_, rfl⟩
  rw [hn] at hb hat hbadn ⊢
  have HN := hid hn
  clear hn h
  simp only at hb hat hbadn ⊢
  have HB := hid hb
  have hsub : -9223372036854775808 ≤ (b.length : Int) - (s'.1 : Int) ∧ (b.length : Int) - (s'.1 : Int) ≤ 9223372036854775807 := by omega
  by_cases hgt : (b.length : Int) - (s'.1 : Int) < n
  · have h0 : s'.2 = 0 := by
      by_cases h : s'.2 = 0
      · exact h
      · have := hbadn h; omega
    have h0b : ((s'.2 : Int) == 0) = true := by simp [h0]
    have hgtb : decide ((b.length : Int) - (s'.1 : Int) < n) = true := decide_eq_true hgt
    have HF := hid (show failS s' 3 s.1 = (s.1, 3) by simp [failS, h0])
    rw [if_pos hgt]
    clear hbadn h0
    go_enter Tryd.func24, Tryd.ntmps24
    go_wp2_with (first
      | (go_at_call 26; refine (fnumber_any HR.out).mono ?_; rintro e w1 ⟨rfl, hr1, hk1⟩; rw [HN.out] at hr1 ⊢; have HR1 := hid hr1; have HK1 := hid hk1; have y := hr1.k.cell; have yl := hr1.k.lt; clear hr1 hk1)
      | fail)
    go_quiet (fail)
    go_wp2_with (first
      | (go_at_call 28; refine (fbad_any 3 s.1 (HR1.out.bw (by repeat (first | exact Bw.refl _ | apply Bw.drewN | apply Bw.drew))) (by decide) (fun _ => HAT0.out)).mono ?_; rintro e w2 ⟨⟨_, rfl⟩, hr2, hk2⟩; have HR2 := hid hr2; have HK2 := hid (show Kp r w w2 from HK1.out.trans (Kp.trans (Kp.of_bw (by repeat (first | exact Bw.refl _ | apply Bw.drewN | apply Bw.drew))) hk2)); rw [HF.out] at hr2; have y2 := hr2.k.cell; have yl2 := hr2.k.lt; simp only at y2; clear hr2 hk2)
      | fail)
    all_goals go_ret
    all_goals exact ⟨rfl, HR2.out, HK2.out⟩
  · rw [if_neg hgt]
    have hgtb : decide ((b.length : Int) - (s'.1 : Int) < n) = false := decide_eq_false hgt
    by_cases h0 : s'.2 = 0
    · have h0b : ((s'.2 : Int) == 0) = true := by simp [h0]
      have h0c : ((s'.2 : Int) != 0) = false := by simp [h0]
      have HT := hid (show ((n.toNat : Nat) : Int) = n by omega)
      rw [HT.out]
      clear hbadn h0
      go_enter Tryd.func24, Tryd.ntmps24
      go_wp2_with (first
        | (go_at_call 26; refine (fnumber_any HR.out).mono ?_; rintro e w1 ⟨rfl, hr1, hk1⟩; rw [HN.out] at hr1 ⊢; have HR1 := hid hr1; have HK1 := hid hk1; have y := hr1.k.cell; have yl := hr1.k.lt; clear hr1 hk1)
        | fail)
      go_quiet (fail)
      go_wp2
      all_goals go_ret
      all_goals exact ⟨rfl, HR1.out.bw (by repeat (first | exact Bw.refl _ | apply Bw.drewN | apply Bw.drew)), HK1.out.bw (by repeat (first | exact Bw.refl _ | apply Bw.drewN | apply Bw.drew))⟩
    · have hn0 : n = 0 := hbadn h0
      have h0b : ((s'.2 : Int) == 0) = false := by simp [h0]
      have h0c : ((s'.2 : Int) != 0) = true := by simp [h0]
      have HT := hid (show ((n.toNat : Nat) : Int) = 0 by omega)
      rw [HT.out]
      clear hbadn h0 hn0
      go_enter Tryd.func24, Tryd.ntmps24
      go_wp2_with (first
        | (go_at_call 26; refine (fnumber_any HR.out).mono ?_; rintro e w1 ⟨rfl, hr1, hk1⟩; rw [HN.out] at hr1 ⊢; have HR1 := hid hr1; have HK1 := hid hk1; have y := hr1.k.cell; have yl := hr1.k.lt; clear hr1 hk1)
        | fail)
      go_quiet (fail)
      go_wp2
      all_goals go_ret
      all_goals exact ⟨rfl, HR1.out.bw (by repeat (first | exact Bw.refl _ | apply Bw.drewN | apply Bw.drew)), HK1.out.bw (by repeat (first | exact Bw.refl _ | apply Bw.drewN | apply Bw.drew))⟩

end

/-- The reader where the list's row grows. -/
theorem FB.grown {base r : Nat} {w w1 w2 : World} {vb : Value} {b : List Int} {s : St} {l : Value} (h : FB base w1 r vb b s) (hg : w1.grownBy w2 l.ownBlock) (ho : ∀ n, l.ownBlock = some n → w.heap.size ≤ n) (hr : r < w.heap.size) (hb : base ≤ r) : FB base w2 r vb b s := by
  have hk : ∀ k, k < w1.heap.size → k ≤ r → w2.heap[k]? = w1.heap[k]? := fun k hk hl => hg.block k hk (fun e => by have := ho k e.symm; omega)
  exact ⟨h.k.keep (hk r h.k.lt (Nat.le_refl _)), h.sl.keep hg.size (fun x hx hl => hk x hx (by omega)) (fun _ _ g => g), h.bytes, h.len, h.at_, h.f, h.base⟩

theorem FB.other {base r : Nat} {w : World} {vb : Value} {b : List Int} {s : St} (h : FB base w r vb b s) {g : Nat} (hg : g ≠ r) (hb : base ≤ g) (j : Nat) (v : Value) : FB base (w.setCell ⟨g, j, none⟩ v) r vb b s :=
  ⟨h.k.other (p := ⟨g, j, none⟩) hg v, h.sl.keep (by simp [World.setCell]) (fun x hx hl => Below.heap_setCell w ⟨g, j, none⟩ v x (show x ≠ g by omega)) (fun _ _ g => g), h.bytes, h.len, h.at_, h.f, h.base⟩

theorem FB.conv {base r : Nat} {w : World} {b : List Int} {s : St} {g o cap : Nat} (h : FB base w r (.slice (some ⟨g, o, none⟩) b.length cap) b s) (k m c : Nat) (hk : k + m ≤ b.length) :
    (convert 29 9 (.slice (some ⟨g, o + k, none⟩) m c)).run Tryd.prog w = .ok (.string (strOfNums ((b.drop k).take m))) w := by
  refine run_convert_bytes_arg w 29 5 under22 under5 g (o + k) m c ((b.drop k).take m) (by simp; omega) (fun i hi => ?_) 9 under9
  have hi' : k + i < b.length := by omega
  obtain ⟨g', o', e, _, _, hc⟩ := h.at hi'
  cases e
  rw [Nat.add_assoc, hc]
  congr 2
  rw [List.getD_eq_getElem?_getD, List.getElem?_take, if_pos hi, List.getElem?_drop, List.getElem?_eq_getElem hi']
  rfl

end Go.Proofs.YtfhnhbpmiodomaaDoor
