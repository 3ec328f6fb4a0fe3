/- Lock, Unlock, Wait: contracts. -/
import Derived.Test.YteeeijbjokkomaaPd
set_option linter.unusedSimpArgs false
set_option linter.unusedVariables false
namespace Go.Proofs.Yteeeijbjokkomaa
open Go Go.RowKit

theorem ok_snoc {n : Nat} {l : List WW} {x : WW} (h : ∀ y ∈ l, okW n y) (hx : okW n x) : ∀ y ∈ l ++ [x], okW n y := by
  intro y hy
  rcases List.mem_append.1 hy with h1 | h1
  · exact h y h1
  · exact (List.mem_singleton.1 h1) ▸ hx
theorem okK_snoc {n : Nat} {l : List KK} {x : KK} (h : ∀ y ∈ l, okW n y.1) (hx : okW n x.1) : ∀ y ∈ l ++ [x], okW n y.1 := by
  intro y hy
  rcases List.mem_append.1 hy with h1 | h1
  · exact h y h1
  · exact (List.mem_singleton.1 h1) ▸ hx

section
variable {w : World} {p : Nat} {bs : List Nat} {mv wv kv : Value} {R : List MM} {A : LL}

set_option maxRecDepth 100000 in
set_option maxHeartbeats 2000000 in
theorem Lock_wr (h : PS w p bs mv wv kv R A) (m t : Int) (hw : wrongA A m t = true) : Calls Try.prog 21 #[.pointer (some ⟨p, 0, none⟩), .int .i64 m, .int .i64 t] w fun e w' => e = .returned (.int .i64 1) ∧ Bw w w' := by
  have HW := hid (wrong_any h m t)
  rw [hw] at HW
  simp only [if_true] at HW
  clear h hw
  go_enter Try.func21, Try.ntmps21
  go_wp2_with (first
    | (go_at_call 37; refine HW.out.mono ?_; rintro e w1 ⟨rfl, hw⟩; subst w1)
    | fail)
  all_goals go_ret
  all_goals exact ⟨rfl, Bw.refl _⟩

set_option maxRecDepth 100000 in
set_option maxHeartbeats 2000000 in
theorem Unlock_wr (h : PS w p bs mv wv kv R A) (m t : Int) (hw : wrongA A m t = true) : Calls Try.prog 22 #[.pointer (some ⟨p, 0, none⟩), .int .i64 m, .int .i64 t] w fun e w' => e = .returned (.int .i64 1) ∧ Bw w w' := by
  have HW := hid (wrong_any h m t)
  rw [hw] at HW
  simp only [if_true] at HW
  clear h hw
  go_enter Try.func22, Try.ntmps22
  go_wp2_with (first
    | (go_at_call 37; refine HW.out.mono ?_; rintro e w1 ⟨rfl, hw⟩; subst w1)
    | fail)
  all_goals go_ret
  all_goals exact ⟨rfl, Bw.refl _⟩

set_option maxRecDepth 100000 in
set_option maxHeartbeats 2000000 in
theorem Lock_nf (h : PS w p bs mv wv kv R A) (m t : Int) (hw : wrongA A m t = false) (hfr : freeM (monA A m) t = false) : Calls Try.prog 21 #[.pointer (some ⟨p, 0, none⟩), .int .i64 m, .int .i64 t] w fun e w' => e = .returned (.int .i64 7) ∧ Bw w w' := by
  obtain ⟨hlp, c0, c1, c2, hfz⟩ := h.cells
  obtain ⟨am, cm, rfl⟩ := own_form h.rm
  have HW := hid (wrong_any h m t)
  rw [hw] at HW
  simp only [if_neg Bool.false_ne_true] at HW
  obtain ⟨z1, z2, z3, z4⟩ := wrong_no hw
  rw [h.len] at z2
  obtain ⟨n, rfl⟩ : ∃ n : Nat, m = n := ⟨m.toNat, by omega⟩
  have hn : n < R.length := by omega
  obtain ⟨g, e, hlg, x0, x1, hfg⟩ := h.mon hn
  subst e
  have HR := hid (h.raw _ (List.getElem_mem hn))
  have HA := hid (h.at hn)
  have HP := hid h
  clear h hw
  obtain ⟨x, hx⟩ : ∃ x, R[n] = x := ⟨_, rfl⟩
  rw [hx] at x0 x1 HR HA
  have HX := hid hx
  clear hx
  obtain ⟨a, b⟩ := x
  simp only at x0 x1
  have hf := fun w => isFree_any a b t w
  have e1 : freeR a b t = false := by rw [freeR_nrm HR.out t, ← HA.out]; exact hfr
  simp only [e1] at hf
  clear hfr
  go_enter Try.func21, Try.ntmps21
  go_wp2_with (first
    | (go_at_call 37; refine HW.out.mono ?_; rintro e w1 ⟨rfl, hw⟩; subst w1)
    | (go_at_call 52; refine (hf _).mono ?_; rintro e w1 ⟨rfl, os, k, rfl⟩; have HP1 := hid (HP.out.bw (Bw.lay (Bw.refl _) os k)))
    | fail)
  all_goals go_ret
  all_goals exact ⟨rfl, Bw.lay (Bw.refl _) _ _⟩

set_option maxRecDepth 100000 in
set_option maxHeartbeats 2000000 in
theorem Lock_wa (h : PS w p bs mv wv kv R A) (m t : Int) (hw : wrongA A m t = false) (hfr : freeM (monA A m) t = true) (hwa : waitsA A t = true) : Calls Try.prog 21 #[.pointer (some ⟨p, 0, none⟩), .int .i64 m, .int .i64 t] w fun e w' => e = .returned (.int .i64 7) ∧ Bw w w' := by
  have HWA := hid hwa
  clear hwa
  obtain ⟨hlp, c0, c1, c2, hfz⟩ := h.cells
  obtain ⟨am, cm, rfl⟩ := own_form h.rm
  have HW := hid (wrong_any h m t)
  rw [hw] at HW
  simp only [if_neg Bool.false_ne_true] at HW
  obtain ⟨z1, z2, z3, z4⟩ := wrong_no hw
  rw [h.len] at z2
  obtain ⟨n, rfl⟩ : ∃ n : Nat, m = n := ⟨m.toNat, by omega⟩
  have hn : n < R.length := by omega
  obtain ⟨g, e, hlg, x0, x1, hfg⟩ := h.mon hn
  subst e
  have HR := hid (h.raw _ (List.getElem_mem hn))
  have HA := hid (h.at hn)
  have HP := hid h
  clear h hw
  obtain ⟨x, hx⟩ : ∃ x, R[n] = x := ⟨_, rfl⟩
  rw [hx] at x0 x1 HR HA
  have HX := hid hx
  clear hx
  obtain ⟨a, b⟩ := x
  simp only at x0 x1
  have hf := fun w => isFree_any a b t w
  have e1 : freeR a b t = true := by rw [freeR_nrm HR.out t, ← HA.out]; exact hfr
  simp only [e1] at hf
  clear hfr
  go_enter Try.func21, Try.ntmps21
  go_wp2_with (first
    | (go_at_call 37; refine HW.out.mono ?_; rintro e w1 ⟨rfl, hw⟩; subst w1)
    | (go_at_call 52; refine (hf _).mono ?_; rintro e w1 ⟨rfl, os, k, rfl⟩; have HP1 := hid (HP.out.bw (Bw.lay (Bw.refl _) os k)))
    | (go_at_call 53; refine (waits_any HP1.out t).mono ?_; rintro e w2 ⟨he, hb⟩; rw [HWA.out] at he; subst he; have HP2 := hid (HP1.out.bw hb); have HB2 := hid (Bw.trans (Bw.lay (Bw.refl w) os k) hb); clear hb)
    | fail)
  all_goals go_ret
  all_goals exact ⟨rfl, HB2.out⟩

set_option maxRecDepth 100000 in
set_option maxHeartbeats 2000000 in
theorem Lock_wk (h : PS w p bs mv wv kv R A) (m t : Int) (hw : wrongA A m t = false) (hfr : freeM (monA A m) t = true) (hwa : waitsA A t = false) (hwk : 0 ≤ wokeA A t) : Calls Try.prog 21 #[.pointer (some ⟨p, 0, none⟩), .int .i64 m, .int .i64 t] w fun e w' => e = .returned (.int .i64 7) ∧ Bw w w' := by
  have HWA := hid hwa
  clear hwa
  obtain ⟨hlp, c0, c1, c2, hfz⟩ := h.cells
  obtain ⟨am, cm, rfl⟩ := own_form h.rm
  have HW := hid (wrong_any h m t)
  rw [hw] at HW
  simp only [if_neg Bool.false_ne_true] at HW
  obtain ⟨z1, z2, z3, z4⟩ := wrong_no hw
  rw [h.len] at z2
  obtain ⟨n, rfl⟩ : ∃ n : Nat, m = n := ⟨m.toNat, by omega⟩
  have hn : n < R.length := by omega
  obtain ⟨g, e, hlg, x0, x1, hfg⟩ := h.mon hn
  subst e
  have HR := hid (h.raw _ (List.getElem_mem hn))
  have HA := hid (h.at hn)
  have HP := hid h
  clear h hw
  obtain ⟨x, hx⟩ : ∃ x, R[n] = x := ⟨_, rfl⟩
  rw [hx] at x0 x1 HR HA
  have HX := hid hx
  clear hx
  obtain ⟨a, b⟩ := x
  simp only at x0 x1
  have hf := fun w => isFree_any a b t w
  have e1 : freeR a b t = true := by rw [freeR_nrm HR.out t, ← HA.out]; exact hfr
  simp only [e1] at hf
  clear hfr
  go_enter Try.func21, Try.ntmps21
  go_wp2_with (first
    | (go_at_call 37; refine HW.out.mono ?_; rintro e w1 ⟨rfl, hw⟩; subst w1)
    | (go_at_call 52; refine (hf _).mono ?_; rintro e w1 ⟨rfl, os, k, rfl⟩; have HP1 := hid (HP.out.bw (Bw.lay (Bw.refl _) os k)))
    | (go_at_call 53; refine (waits_any HP1.out t).mono ?_; rintro e w2 ⟨he, hb⟩; rw [HWA.out] at he; subst he; have HP2 := hid (HP1.out.bw hb); have HB2 := hid (Bw.trans (Bw.lay (Bw.refl w) os k) hb); clear hb)
    | (go_at_call 42; refine (firstWoken_any HP2.out t).mono ?_; rintro e w3 ⟨rfl, hb⟩; have HP3 := hid (HP2.out.bw hb); have HB3 := hid (HB2.out.trans hb); clear hb)
    | fail)
  all_goals go_ret
  all_goals exact ⟨rfl, HB3.out⟩

set_option maxRecDepth 100000 in
set_option maxHeartbeats 2000000 in
theorem Lock_ma (h : PS w p bs mv wv kv R A) (m t : Int) (hw : wrongA A m t = false) (hfr : freeM (monA A m) t = true) (hwa : waitsA A t = false) (hwk : wokeA A t < 0) (hma : 1099511627776 ≤ (monA A m).2) : Calls Try.prog 21 #[.pointer (some ⟨p, 0, none⟩), .int .i64 m, .int .i64 t] w fun e w' => e = .returned (.int .i64 3) ∧ Bw w w' := by
  have HWA := hid hwa
  clear hwa
  have hwk' : ¬ 0 ≤ wokeA A t := by omega
  obtain ⟨hlp, c0, c1, c2, hfz⟩ := h.cells
  obtain ⟨am, cm, rfl⟩ := own_form h.rm
  have HW := hid (wrong_any h m t)
  rw [hw] at HW
  simp only [if_neg Bool.false_ne_true] at HW
  obtain ⟨z1, z2, z3, z4⟩ := wrong_no hw
  rw [h.len] at z2
  obtain ⟨n, rfl⟩ : ∃ n : Nat, m = n := ⟨m.toNat, by omega⟩
  have hn : n < R.length := by omega
  obtain ⟨g, e, hlg, x0, x1, hfg⟩ := h.mon hn
  subst e
  have HR := hid (h.raw _ (List.getElem_mem hn))
  have HA := hid (h.at hn)
  have HP := hid h
  clear h hw
  obtain ⟨x, hx⟩ : ∃ x, R[n] = x := ⟨_, rfl⟩
  rw [hx] at x0 x1 HR HA
  have HX := hid hx
  clear hx
  obtain ⟨a, b⟩ := x
  simp only at x0 x1
  have hma2 : 1099511627776 ≤ b := by
    rw [HA.out] at hma
    unfold nrm at hma
    split at hma
    · simp at hma
    · exact hma
  have hf := fun w => isFree_any a b t w
  have e1 : freeR a b t = true := by rw [freeR_nrm HR.out t, ← HA.out]; exact hfr
  simp only [e1] at hf
  clear hfr
  clear hma
  go_enter Try.func21, Try.ntmps21
  go_wp2_with (first
    | (go_at_call 37; refine HW.out.mono ?_; rintro e w1 ⟨rfl, hw⟩; subst w1)
    | (go_at_call 52; refine (hf _).mono ?_; rintro e w1 ⟨rfl, os, k, rfl⟩; have HP1 := hid (HP.out.bw (Bw.lay (Bw.refl _) os k)))
    | (go_at_call 53; refine (waits_any HP1.out t).mono ?_; rintro e w2 ⟨he, hb⟩; rw [HWA.out] at he; subst he; have HP2 := hid (HP1.out.bw hb); have HB2 := hid (Bw.trans (Bw.lay (Bw.refl w) os k) hb); clear hb)
    | (go_at_call 42; refine (firstWoken_any HP2.out t).mono ?_; rintro e w3 ⟨rfl, hb⟩; have HP3 := hid (HP2.out.bw hb); have HB3 := hid (HB2.out.trans hb); clear hb; obtain ⟨hlp3, d0, d1, d2, hfz3⟩ := HP3.out.cells; obtain ⟨g2, e2, hlg3, y0, y1, hfg3⟩ := HP3.out.mon hn; cases e2; rw [HX.out] at y0 y1; simp only at y0 y1)
    | fail)
  all_goals go_ret
  all_goals exact ⟨rfl, HB3.out⟩

set_option maxRecDepth 100000 in
set_option maxHeartbeats 2000000 in
theorem Lock_ok (h : PS w p bs mv wv kv R A) (m t : Int) (hw : wrongA A m t = false) (hfr : freeM (monA A m) t = true) (hwa : waitsA A t = false) (hwk : wokeA A t < 0) (hma : (monA A m).2 < 1099511627776) : Calls Try.prog 21 #[.pointer (some ⟨p, 0, none⟩), .int .i64 m, .int .i64 t] w fun e w' => e = .returned (.int .i64 0) ∧ PX w' p bs (putA A m (t, (monA A m).2 + 1)) ∧ Nx bs w w' bs := by
  have HWA := hid hwa
  clear hwa
  have hwk' : ¬ 0 ≤ wokeA A t := by omega
  obtain ⟨hlp, c0, c1, c2, hfz⟩ := h.cells
  obtain ⟨am, cm, rfl⟩ := own_form h.rm
  have HW := hid (wrong_any h m t)
  rw [hw] at HW
  simp only [if_neg Bool.false_ne_true] at HW
  obtain ⟨z1, z2, z3, z4⟩ := wrong_no hw
  rw [h.len] at z2
  obtain ⟨n, rfl⟩ : ∃ n : Nat, m = n := ⟨m.toNat, by omega⟩
  have hn : n < R.length := by omega
  obtain ⟨g, e, hlg, x0, x1, hfg⟩ := h.mon hn
  subst e
  have HR := hid (h.raw _ (List.getElem_mem hn))
  have HA := hid (h.at hn)
  have HP := hid h
  clear h hw
  obtain ⟨x, hx⟩ : ∃ x, R[n] = x := ⟨_, rfl⟩
  rw [hx] at x0 x1 HR HA
  have HX := hid hx
  clear hx
  obtain ⟨a, b⟩ := x
  simp only at x0 x1
  have hb0 := HR.out.n
  simp only at hb0
  have hma2 : ¬ 1099511627776 ≤ b := by
    rw [HA.out] at hma
    unfold nrm at hma
    split at hma
    · rename_i e; simp only at e; omega
    · simp only at hma; omega
  have e5 : (monA A (n : Int)).2 = b := by
    rw [HA.out]
    unfold nrm
    split
    · rename_i e; simp only at e; rw [e]
    · rfl
  have HE := hid e5
  have q1 : -9223372036854775808 ≤ t := by omega
  have q2 : t ≤ 9223372036854775807 := by omega
  have q3 : 0 ≤ b + 1 := by omega
  have q4 : b + 1 ≤ 1099511627776 := by omega
  have q5 : ¬ b + 1 = 0 := by omega
  have HRT := hid (show RawOk (t, b + 1) from ⟨⟨q1, q2⟩, ⟨q3, q4⟩, fun _ => ⟨z3, z4⟩⟩)
  have HN := hid (show nrm (t, b + 1) = (t, b + 1) by unfold nrm; rw [if_neg q5])
  clear q1 q2 q3 q4 q5
  have hf := fun w => isFree_any a b t w
  have e1 : freeR a b t = true := by rw [freeR_nrm HR.out t, ← HA.out]; exact hfr
  simp only [e1] at hf
  clear hfr
  clear hma e5
  rw [HE.out]
  go_enter Try.func21, Try.ntmps21
  go_wp2_with (first
    | (go_at_call 37; refine HW.out.mono ?_; rintro e w1 ⟨rfl, hw⟩; subst w1)
    | (go_at_call 52; refine (hf _).mono ?_; rintro e w1 ⟨rfl, os, k, rfl⟩; have HP1 := hid (HP.out.bw (Bw.lay (Bw.refl _) os k)))
    | (go_at_call 53; refine (waits_any HP1.out t).mono ?_; rintro e w2 ⟨he, hb⟩; rw [HWA.out] at he; subst he; have HP2 := hid (HP1.out.bw hb); have HB2 := hid (Bw.trans (Bw.lay (Bw.refl w) os k) hb); clear hb)
    | (go_at_call 42; refine (firstWoken_any HP2.out t).mono ?_; rintro e w3 ⟨rfl, hb⟩; have HP3 := hid (HP2.out.bw hb); have HB3 := hid (HB2.out.trans hb); clear hb; obtain ⟨hlp3, d0, d1, d2, hfz3⟩ := HP3.out.cells; obtain ⟨g2, e2, hlg3, y0, y1, hfg3⟩ := HP3.out.mon hn; cases e2; rw [HX.out] at y0 y1; simp only at y0 y1; have HS := hid (HP3.out.setM hn (t, b + 1) HRT.out))
    | fail)
  all_goals go_ret
  all_goals exact ⟨rfl, ⟨_, _, _, _, HN.out ▸ HS.out.1⟩, (Nx.of_bw HB3.out).trans HS.out.2⟩

set_option maxRecDepth 100000 in
set_option maxHeartbeats 2000000 in
theorem Unlock_no (h : PS w p bs mv wv kv R A) (m t : Int) (hw : wrongA A m t = false) (hfr : ((monA A m).1 == t) = false) : Calls Try.prog 22 #[.pointer (some ⟨p, 0, none⟩), .int .i64 m, .int .i64 t] w fun e w' => e = .returned (.int .i64 8) ∧ Bw w w' := by
  obtain ⟨hlp, c0, c1, c2, hfz⟩ := h.cells
  obtain ⟨am, cm, rfl⟩ := own_form h.rm
  have HW := hid (wrong_any h m t)
  rw [hw] at HW
  simp only [if_neg Bool.false_ne_true] at HW
  obtain ⟨z1, z2, z3, z4⟩ := wrong_no hw
  rw [h.len] at z2
  obtain ⟨n, rfl⟩ : ∃ n : Nat, m = n := ⟨m.toNat, by omega⟩
  have hn : n < R.length := by omega
  obtain ⟨g, e, hlg, x0, x1, hfg⟩ := h.mon hn
  subst e
  have HR := hid (h.raw _ (List.getElem_mem hn))
  have HA := hid (h.at hn)
  have HP := hid h
  clear h hw
  obtain ⟨x, hx⟩ : ∃ x, R[n] = x := ⟨_, rfl⟩
  rw [hx] at x0 x1 HR HA
  have HX := hid hx
  clear hx
  obtain ⟨a, b⟩ := x
  simp only at x0 x1
  have hf := fun w => isOf_any a b t w
  have e1 : ofR a b t = false := by rw [ofR_nrm HR.out z3, ← HA.out]; exact hfr
  simp only [e1] at hf
  clear hfr
  go_enter Try.func22, Try.ntmps22
  go_wp2_with (first
    | (go_at_call 37; refine HW.out.mono ?_; rintro e w1 ⟨rfl, hw⟩; subst w1)
    | (go_at_call 38; refine (hf _).mono ?_; rintro e w1 ⟨rfl, os, k, rfl⟩; have HP1 := hid (HP.out.bw (Bw.lay (Bw.refl _) os k)))
    | fail)
  all_goals go_ret
  all_goals exact ⟨rfl, Bw.lay (Bw.refl _) _ _⟩

set_option maxRecDepth 100000 in
set_option maxHeartbeats 2000000 in
theorem Unlock_ok (h : PS w p bs mv wv kv R A) (m t : Int) (hw : wrongA A m t = false) (hfr : ((monA A m).1 == t) = true) : Calls Try.prog 22 #[.pointer (some ⟨p, 0, none⟩), .int .i64 m, .int .i64 t] w fun e w' => e = .returned (.int .i64 0) ∧ PX w' p bs (putA A m (nrm (t, (monA A m).2 - 1))) ∧ Nx bs w w' bs := by
  obtain ⟨hlp, c0, c1, c2, hfz⟩ := h.cells
  obtain ⟨am, cm, rfl⟩ := own_form h.rm
  have HW := hid (wrong_any h m t)
  rw [hw] at HW
  simp only [if_neg Bool.false_ne_true] at HW
  obtain ⟨z1, z2, z3, z4⟩ := wrong_no hw
  rw [h.len] at z2
  obtain ⟨n, rfl⟩ : ∃ n : Nat, m = n := ⟨m.toNat, by omega⟩
  have hn : n < R.length := by omega
  obtain ⟨g, e, hlg, x0, x1, hfg⟩ := h.mon hn
  subst e
  have HR := hid (h.raw _ (List.getElem_mem hn))
  have HA := hid (h.at hn)
  have HP := hid h
  clear h hw
  obtain ⟨x, hx⟩ : ∃ x, R[n] = x := ⟨_, rfl⟩
  rw [hx] at x0 x1 HR HA
  have HX := hid hx
  clear hx
  obtain ⟨a, b⟩ := x
  simp only at x0 x1
  have hb0 := HR.out.n
  simp only at hb0
  have hb1 : b ≠ 0 ∧ a = t := by
    rw [HA.out] at hfr
    unfold nrm at hfr
    split at hfr
    · simp at hfr; omega
    · rename_i e; simp at hfr; exact ⟨e, hfr⟩
  obtain ⟨hb2, hb3⟩ := hb1
  subst a
  have e5 : (monA A (n : Int)).2 = b := by
    rw [HA.out]
    unfold nrm
    rw [if_neg hb2]
  have HE := hid e5
  have q1 : -9223372036854775808 ≤ t := by omega
  have q2 : t ≤ 9223372036854775807 := by omega
  have q3 : 0 ≤ b - 1 := by omega
  have q4 : b - 1 ≤ 1099511627776 := by omega
  have HRT := hid (show RawOk (R[n].1, b - 1) from (by rw [HX.out]; exact ⟨⟨q1, q2⟩, ⟨q3, q4⟩, fun _ => ⟨z3, z4⟩⟩))
  clear q1 q2 q3 q4
  have hf := fun w => isOf_any t b t w
  have e1 : ofR t b t = true := by rw [ofR_nrm HR.out z3, ← HA.out]; exact hfr
  simp only [e1] at hf
  clear hfr
  clear e5
  rw [HE.out]
  go_enter Try.func22, Try.ntmps22
  go_wp2_with (first
    | (go_at_call 37; refine HW.out.mono ?_; rintro e w1 ⟨rfl, hw⟩; subst w1)
    | (go_at_call 38; refine (hf _).mono ?_; rintro e w1 ⟨rfl, os, k, rfl⟩; have HP1 := hid (HP.out.bw (Bw.lay (Bw.refl _) os k)))
    | fail)
  have HS := HP1.out.setM1 hn (b - 1) HRT.out
  rw [HX.out, lay_setCell (h := hlg)] at HS
  have HS := hid HS
  go_wp2
  all_goals go_ret
  all_goals exact ⟨rfl, ⟨_, _, _, _, HS.out.1⟩, (Nx.of_bw (Bw.lay (Bw.refl _) os k)).trans HS.out.2⟩

theorem Lock_any (h : PX w p bs A) (m t : Int) : Calls Try.prog 21 #[.pointer (some ⟨p, 0, none⟩), .int .i64 m, .int .i64 t] w fun e w' => e = .returned (.int .i64 (lockE A m t)) ∧ PX w' p bs (lockA A m t) ∧ Nx bs w w' bs := by
  obtain ⟨mv, wv, kv, R, h⟩ := h
  have key : ∀ k : Int, k ≠ 0 → lockE A m t = k → (Calls Try.prog 21 #[.pointer (some ⟨p, 0, none⟩), .int .i64 m, .int .i64 t] w fun e w' => e = .returned (.int .i64 k) ∧ Bw w w') → Calls Try.prog 21 #[.pointer (some ⟨p, 0, none⟩), .int .i64 m, .int .i64 t] w fun e w' => e = .returned (.int .i64 (lockE A m t)) ∧ PX w' p bs (lockA A m t) ∧ Nx bs w w' bs := by
    intro k hk he hc
    unfold lockA
    rw [he, if_neg hk]
    exact hc.mono fun e w' ⟨he, hb⟩ => ⟨he, ⟨_, _, _, _, h.bw hb⟩, Nx.of_bw hb⟩
  cases h1 : wrongA A m t
  · cases h2 : freeM (monA A m) t
    · exact key 7 (by decide) (by simp [lockE, h1, h2]) (Lock_nf h m t h1 h2)
    · cases h3 : waitsA A t
      · by_cases h4 : 0 ≤ wokeA A t
        · exact key 7 (by decide) (by simp [lockE, h1, h2, h3, h4]) (Lock_wk h m t h1 h2 h3 h4)
        · by_cases h5 : 1099511627776 ≤ (monA A m).2
          · exact key 3 (by decide) (by simp [lockE, h1, h2, h3, h4, h5]) (Lock_ma h m t h1 h2 h3 (by omega) h5)
          · have e : lockE A m t = 0 := by simp [lockE, h1, h2, h3, h4, h5]
            unfold lockA
            rw [e, if_pos rfl]
            exact Lock_ok h m t h1 h2 h3 (by omega) (by omega)
      · exact key 7 (by decide) (by simp [lockE, h1, h2, h3]) (Lock_wa h m t h1 h2 h3)
  · exact key 1 (by decide) (by simp [lockE, h1]) (Lock_wr h m t h1)

theorem Unlock_any (h : PX w p bs A) (m t : Int) : Calls Try.prog 22 #[.pointer (some ⟨p, 0, none⟩), .int .i64 m, .int .i64 t] w fun e w' => e = .returned (.int .i64 (hasE A m t)) ∧ PX w' p bs (unlockA A m t) ∧ Nx bs w w' bs := by
  obtain ⟨mv, wv, kv, R, h⟩ := h
  cases h1 : wrongA A m t
  · cases h2 : (monA A m).1 == t
    · have e : hasE A m t = 8 := by simp [hasE, h1, h2]
      unfold unlockA
      rw [e, if_neg (by decide)]
      exact (Unlock_no h m t h1 h2).mono fun e w' ⟨he, hb⟩ => ⟨he, ⟨_, _, _, _, h.bw hb⟩, Nx.of_bw hb⟩
    · have e : hasE A m t = 0 := by simp [hasE, h1, h2]
      unfold unlockA
      rw [e, if_pos rfl]
      exact Unlock_ok h m t h1 h2
  · have e : hasE A m t = 1 := by simp [hasE, h1]
    unfold unlockA
    rw [e, if_neg (by decide)]
    exact (Unlock_wr h m t h1).mono fun e w' ⟨he, hb⟩ => ⟨he, ⟨_, _, _, _, h.bw hb⟩, Nx.of_bw hb⟩

set_option maxRecDepth 100000 in
set_option maxHeartbeats 2000000 in
theorem Wait_wr (h : PS w p bs mv wv kv R A) (m t u : Int) (hw : wrongA A m t = true) : Calls Try.prog 23 #[.pointer (some ⟨p, 0, none⟩), .int .i64 m, .int .i64 t, .int .i64 u] w fun e w' => e = .returned (.int .i64 1) ∧ Bw w w' := by
  have HW := hid (wrong_any h m t)
  rw [hw] at HW
  simp only [if_true] at HW
  clear h hw
  go_enter Try.func23, Try.ntmps23
  go_wp2_with (first
    | (go_at_call 37; refine HW.out.mono ?_; rintro e w1 ⟨rfl, hw⟩; subst w1)
    | fail)
  all_goals go_ret
  all_goals exact ⟨rfl, Bw.refl _⟩

set_option maxRecDepth 100000 in
set_option maxHeartbeats 2000000 in
theorem Wait_un (h : PS w p bs mv wv kv R A) (m t u : Int) (hw : wrongA A m t = false) (hu : u < -1) : Calls Try.prog 23 #[.pointer (some ⟨p, 0, none⟩), .int .i64 m, .int .i64 t, .int .i64 u] w fun e w' => e = .returned (.int .i64 1) ∧ Bw w w' := by
  have HW := hid (wrong_any h m t)
  rw [hw] at HW
  simp only [if_neg Bool.false_ne_true] at HW
  clear h hw
  go_enter Try.func23, Try.ntmps23
  go_wp2_with (first
    | (go_at_call 37; refine HW.out.mono ?_; rintro e w1 ⟨rfl, hw⟩; subst w1)
    | fail)
  all_goals go_ret
  all_goals exact ⟨rfl, Bw.refl _⟩

set_option maxRecDepth 100000 in
set_option maxHeartbeats 2000000 in
theorem Wait_no (h : PS w p bs mv wv kv R A) (m t u : Int) (hw : wrongA A m t = false) (hu : ¬ u < -1) (hfr : ((monA A m).1 == t) = false) : Calls Try.prog 23 #[.pointer (some ⟨p, 0, none⟩), .int .i64 m, .int .i64 t, .int .i64 u] w fun e w' => e = .returned (.int .i64 8) ∧ Bw w w' := by
  obtain ⟨hlp, c0, c1, c2, hfz⟩ := h.cells
  obtain ⟨am, cm, rfl⟩ := own_form h.rm
  have HW := hid (wrong_any h m t)
  rw [hw] at HW
  simp only [if_neg Bool.false_ne_true] at HW
  obtain ⟨z1, z2, z3, z4⟩ := wrong_no hw
  rw [h.len] at z2
  obtain ⟨n, rfl⟩ : ∃ n : Nat, m = n := ⟨m.toNat, by omega⟩
  have hn : n < R.length := by omega
  obtain ⟨g, e, hlg, x0, x1, hfg⟩ := h.mon hn
  subst e
  have HR := hid (h.raw _ (List.getElem_mem hn))
  have HA := hid (h.at hn)
  have HP := hid h
  clear h hw
  obtain ⟨x, hx⟩ : ∃ x, R[n] = x := ⟨_, rfl⟩
  rw [hx] at x0 x1 HR HA
  have HX := hid hx
  clear hx
  obtain ⟨a, b⟩ := x
  simp only at x0 x1
  have hf := fun w => isOf_any a b t w
  have e1 : ofR a b t = false := by rw [ofR_nrm HR.out z3, ← HA.out]; exact hfr
  simp only [e1] at hf
  clear hfr
  go_enter Try.func23, Try.ntmps23
  go_wp2_with (first
    | (go_at_call 37; refine HW.out.mono ?_; rintro e w1 ⟨rfl, hw⟩; subst w1)
    | (go_at_call 38; refine (hf _).mono ?_; rintro e w1 ⟨rfl, os, k, rfl⟩; have HP1 := hid (HP.out.bw (Bw.lay (Bw.refl _) os k)))
    | fail)
  all_goals go_ret
  all_goals exact ⟨rfl, Bw.lay (Bw.refl _) _ _⟩

set_option maxRecDepth 100000 in
set_option maxHeartbeats 2000000 in
theorem Wait_ok (h : PS w p bs mv wv kv R A) (m t u : Int) (hw : wrongA A m t = false) (hu : ¬ u < -1) (hum : u ≤ 9223372036854775807) (hfr : ((monA A m).1 == t) = true) (hbig : A.W.length + A.K.length < 1000) : Calls Try.prog 23 #[.pointer (some ⟨p, 0, none⟩), .int .i64 m, .int .i64 t, .int .i64 u] w fun e w' => ∃ bs', e = .returned (.int .i64 0) ∧ PX w' p bs' (putA { A with W := A.W ++ [⟨t, (monA A m).2, m, u⟩] } m (nrm (0, 0))) ∧ Nx bs w w' bs' := by
  obtain ⟨aw, cw, rfl⟩ := own_form h.rw
  obtain ⟨hlp, c0, c1, c2, hfz⟩ := h.cells
  obtain ⟨am, cm, rfl⟩ := own_form h.rm
  have HW := hid (wrong_any h m t)
  rw [hw] at HW
  simp only [if_neg Bool.false_ne_true] at HW
  obtain ⟨z1, z2, z3, z4⟩ := wrong_no hw
  rw [h.len] at z2
  obtain ⟨n, rfl⟩ : ∃ n : Nat, m = n := ⟨m.toNat, by omega⟩
  have hn : n < R.length := by omega
  obtain ⟨g, e, hlg, x0, x1, hfg⟩ := h.mon hn
  subst e
  have HR := hid (h.raw _ (List.getElem_mem hn))
  have HA := hid (h.at hn)
  have HP := hid h
  clear h hw
  obtain ⟨x, hx⟩ : ∃ x, R[n] = x := ⟨_, rfl⟩
  rw [hx] at x0 x1 HR HA
  have HX := hid hx
  clear hx
  obtain ⟨a, b⟩ := x
  simp only at x0 x1
  have hb0 := HR.out.n
  simp only at hb0
  have hb1 : b ≠ 0 ∧ a = t := by
    rw [HA.out] at hfr
    unfold nrm at hfr
    split at hfr
    · simp at hfr; omega
    · rename_i e; simp at hfr; exact ⟨e, hfr⟩
  obtain ⟨hb2, hb3⟩ := hb1
  subst a
  have e5 : (monA A (n : Int)).2 = b := by
    rw [HA.out]
    unfold nrm
    rw [if_neg hb2]
  have HE := hid e5
  have HRT := hid HR.out
  have q1 : 1 ≤ b := by omega
  have q2 : 0 ≤ (n : Int) := by omega
  have q3 : (n : Int) < (R.length : Int) := by omega
  have q4 : -1 ≤ u := by omega
  have HOK := hid (show okW A.M.length ⟨t, b, (n : Int), u⟩ from (by rw [HP.out.len]; exact ⟨⟨z3, z4⟩, ⟨q1, hb0.2⟩, ⟨q2, q3⟩, ⟨q4, hum⟩⟩))
  clear q1 q2 q3 q4
  obtain ⟨i2, hi2, hz2, hs2, hy2⟩ := info_parts infoWa
  have I2 := hid (And.intro hi2 (And.intro hz2 (And.intro hs2 hy2)))
  clear hi2 hz2 hs2 hy2
  have hf := fun w => isOf_any t b t w
  have e1 : ofR t b t = true := by rw [ofR_nrm HR.out z3, ← HA.out]; exact hfr
  simp only [e1] at hf
  clear hfr
  clear e5
  rw [HE.out]
  go_enter Try.func23, Try.ntmps23
  go_wp2_with (first
    | (go_at_call 37; refine HW.out.mono ?_; rintro e w1 ⟨rfl, hw⟩; subst w1)
    | (go_at_call 38; refine (hf _).mono ?_; rintro e w1 ⟨rfl, os, k, rfl⟩; have HP1 := hid (HP.out.bw (Bw.lay (Bw.refl _) os k)))
    | fail)
  refine wp_region_W (fun w' => (w'.cell? ⟨p, 1, none⟩ = some (.slice aw A.W.length cw) ∧ w'.cell? ⟨g, n * 2, none⟩ = some (.int .i64 t)) ∧ w'.cell? ⟨g, n * 2 + 1, none⟩ = some (.int .i64 b)) (fun j => if j == 12 || j == 13 then 0 else if j == 16 then 2 else 1) (by kernel_rfl) ?_
  have hB0 : Bw w (lay w os k).drew := Bw.drew (Bw.lay (Bw.refl _) os k)
  have HPD := hid (HP1.out.bw (Bw.drew (Bw.refl (lay w os k))))
  have HBD := hid hB0
  generalize hW0 : (lay w os k).drew = W0 at HPD HBD
  clear hB0
  have hS := hid (show ∀ W', Bw W0 W' → (W'.cell? ⟨p, 1, none⟩ = some (.slice aw A.W.length cw) ∧ W'.cell? ⟨g, n * 2, none⟩ = some (.int .i64 t)) ∧ W'.cell? ⟨g, n * 2 + 1, none⟩ = some (.int .i64 b) from fun W' hb => (by
    obtain ⟨g2, e2, hlg3, y0, y1, hfg3⟩ := (HPD.out.bw hb).mon hn
    cases e2
    rw [HX.out] at y0 y1
    exact ⟨⟨(HPD.out.bw hb).cells.2.2.1, y0⟩, y1⟩))
  refine wpAnyW_take (i := 0) (oi := { dst := some 33, op := Op.move (Operand.tmp 0), type := 24, pos := "lock.go:106", after := #[], guard := none }) (v := ?_) rfl (by kernel_rfl) (by kernel_rfl) (by kernel_rfl) (by kernel_rfl) (fun _ _ _ h => h) (Or.inl ⟨by rfl, fun w _ => ?_⟩) ?_
  rotate_left
  · (go_simp; first | done | with_reducible rfl)
  try simp only [Act.put, List.setIfInBounds_toArray, List.set_cons_zero, List.set_cons_succ]
  refine wpAnyW_take (i := 1) (oi := { dst := some 34, op := Op.move (Operand.tmp 0), type := 24, pos := "lock.go:106", after := #[], guard := none }) (v := ?_) rfl (by kernel_rfl) (by kernel_rfl) (by kernel_rfl) (by kernel_rfl) (fun _ _ _ h => h) (Or.inl ⟨by rfl, fun w _ => ?_⟩) ?_
  rotate_left
  · (go_simp; first | done | with_reducible rfl)
  try simp only [Act.put, List.setIfInBounds_toArray, List.set_cons_zero, List.set_cons_succ]
  refine wpAnyW_take (i := 2) (oi := { dst := some 35, op := Op.nilCheck (Operand.tmp 34), type := 0, pos := "lock.go:106", after := #[{ on := 1, ground := Ground.data }], guard := none }) (v := ?_) rfl (by kernel_rfl) (by kernel_rfl) (by kernel_rfl) (by kernel_rfl) (fun _ _ _ h => h) (Or.inl ⟨by rfl, fun w _ => ?_⟩) ?_
  rotate_left
  · (go_simp; first | done | with_reducible rfl)
  try simp only [Act.put, List.setIfInBounds_toArray, List.set_cons_zero, List.set_cons_succ]
  refine wpAnyW_take (i := 3) (oi := { dst := some 36, op := Op.fieldAddr 65 (Operand.tmp 35) 1, type := 0, pos := "lock.go:106", after := #[{ on := 2, ground := Ground.data }], guard := none }) (v := ?_) rfl (by kernel_rfl) (by kernel_rfl) (by kernel_rfl) (by kernel_rfl) (fun _ _ _ h => h) (Or.inl ⟨by rfl, fun w _ => ?_⟩) ?_
  rotate_left
  · (go_simp; first | done | with_reducible rfl)
  try simp only [Act.put, List.setIfInBounds_toArray, List.set_cons_zero, List.set_cons_succ]
  refine wpAnyW_load (i := 4) (oi := { dst := some 37, op := Op.load 62 (Operand.tmp 36), type := 62, pos := "lock.go:106", after := #[{ on := 3, ground := Ground.data }], guard := none }) (v := ?_) rfl (by kernel_rfl) (by kernel_rfl) (by kernel_rfl) (by kernel_rfl) (by kernel_rfl) (fun _ _ _ h => h) (Or.inl ⟨by rfl, fun w hS => ?_⟩) (hS.out W0 (Bw.refl _)) ?_
  rotate_left
  · (obtain ⟨⟨hS1, hS2⟩, hS3⟩ := hS; go_simp; first | done | with_reducible rfl)
  try simp only [Act.put, List.setIfInBounds_toArray, List.set_cons_zero, List.set_cons_succ]
  refine wpAnyW_take (i := 5) (oi := { dst := some 38, op := Op.move (Operand.tmp 10), type := 101, pos := "lock.go:106", after := #[], guard := none }) (v := ?_) rfl (by kernel_rfl) (by kernel_rfl) (by kernel_rfl) (by kernel_rfl) (fun _ _ _ h => h) (Or.inl ⟨by rfl, fun w _ => ?_⟩) ?_
  rotate_left
  · (go_simp; first | done | with_reducible rfl)
  try simp only [Act.put, List.setIfInBounds_toArray, List.set_cons_zero, List.set_cons_succ]
  refine wpAnyW_take (i := 6) (oi := { dst := some 39, op := Op.nilCheck (Operand.tmp 38), type := 0, pos := "lock.go:106", after := #[{ on := 5, ground := Ground.data }], guard := none }) (v := ?_) rfl (by kernel_rfl) (by kernel_rfl) (by kernel_rfl) (by kernel_rfl) (fun _ _ _ h => h) (Or.inl ⟨by rfl, fun w _ => ?_⟩) ?_
  rotate_left
  · (go_simp; first | done | with_reducible rfl)
  try simp only [Act.put, List.setIfInBounds_toArray, List.set_cons_zero, List.set_cons_succ]
  refine wpAnyW_take (i := 7) (oi := { dst := some 40, op := Op.fieldAddr 85 (Operand.tmp 39) 0, type := 0, pos := "lock.go:106", after := #[{ on := 6, ground := Ground.data }], guard := none }) (v := ?_) rfl (by kernel_rfl) (by kernel_rfl) (by kernel_rfl) (by kernel_rfl) (fun _ _ _ h => h) (Or.inl ⟨by rfl, fun w _ => ?_⟩) ?_
  rotate_left
  · (go_simp; first | done | with_reducible rfl)
  try simp only [Act.put, List.setIfInBounds_toArray, List.set_cons_zero, List.set_cons_succ]
  refine wpAnyW_load (i := 8) (oi := { dst := some 41, op := Op.load 83 (Operand.tmp 40), type := 83, pos := "lock.go:106", after := #[{ on := 7, ground := Ground.data }], guard := none }) (v := ?_) rfl (by kernel_rfl) (by kernel_rfl) (by kernel_rfl) (by kernel_rfl) (by kernel_rfl) (fun _ _ _ h => h) (Or.inl ⟨by rfl, fun w hS => ?_⟩) (hS.out W0 (Bw.refl _)) ?_
  rotate_left
  · (obtain ⟨⟨hS1, hS2⟩, hS3⟩ := hS; go_simp; first | done | with_reducible rfl)
  try simp only [Act.put, List.setIfInBounds_toArray, List.set_cons_zero, List.set_cons_succ]
  refine wpAnyW_take (i := 9) (oi := { dst := some 42, op := Op.move (Operand.tmp 1), type := 3, pos := "lock.go:106", after := #[], guard := none }) (v := ?_) rfl (by kernel_rfl) (by kernel_rfl) (by kernel_rfl) (by kernel_rfl) (fun _ _ _ h => h) (Or.inl ⟨by rfl, fun w _ => ?_⟩) ?_
  rotate_left
  · (go_simp; first | done | with_reducible rfl)
  try simp only [Act.put, List.setIfInBounds_toArray, List.set_cons_zero, List.set_cons_succ]
  refine wpAnyW_take (i := 10) (oi := { dst := some 43, op := Op.move (Operand.tmp 3), type := 3, pos := "lock.go:106", after := #[], guard := none }) (v := ?_) rfl (by kernel_rfl) (by kernel_rfl) (by kernel_rfl) (by kernel_rfl) (fun _ _ _ h => h) (Or.inl ⟨by rfl, fun w _ => ?_⟩) ?_
  rotate_left
  · (go_simp; first | done | with_reducible rfl)
  try simp only [Act.put, List.setIfInBounds_toArray, List.set_cons_zero, List.set_cons_succ]
  refine wpAnyW_take (i := 11) (oi := { dst := some 44, op := Op.build 89 #[(0, Operand.tmp 41), (1, Operand.tmp 42), (2, Operand.tmp 43)], type := 89, pos := "lock.go:106", after := #[{ on := 8, ground := Ground.data }, { on := 9, ground := Ground.data }, { on := 10, ground := Ground.data }], guard := none }) (v := ?_) rfl (by kernel_rfl) (by kernel_rfl) (by kernel_rfl) (by kernel_rfl) (fun _ _ _ h => h) (Or.inl ⟨by rfl, fun w _ => ?_⟩) ?_
  rotate_left
  · (go_simp; first | done | with_reducible rfl)
  try simp only [Act.put, List.setIfInBounds_toArray, List.set_cons_zero, List.set_cons_succ]
  refine wpAnyW_ready (rs := [12]) (by kernel_rfl) (by simp) ?_
  refine (AllReadyW.cons (o := { dst := some 45, op := Op.buildSlice 62 1 #[(0, Operand.tmp 44)], type := 62, pos := "lock.go:106", after := #[{ on := 11, ground := Ground.data }], guard := none }) rfl (fun K hK => ?_) AllReadyW.nil)
  go_simp
  have N9 := hid (show Sl (W0.alloc (.cells (wC ⟨t, b, (n : Int), u⟩).toArray 89)) (fun b => b = W0.heap.size) (.slice (some ⟨W0.heap.size, 0, none⟩) 1 1) 1 4 (wC ⟨t, b, (n : Int), u⟩) from sl_new W0 (fun b => b = W0.heap.size) (wC ⟨t, b, (n : Int), u⟩) 89 1 4 rfl rfl)
  skip
  refine hK.out _ _ (hS.out _ (Bw.alloc (Bw.refl _) _)) ?_
  clear hK K
  try simp only [Act.put, List.setIfInBounds_toArray, List.set_cons_zero, List.set_cons_succ]
  refine wpAnyW_ready (rs := [13]) (by kernel_rfl) (by simp) ?_
  refine (AllReadyW.cons (o := { dst := some 46, op := Op.call { callee := Callee.builtin Builtin.append, args := #[Operand.tmp 37, Operand.tmp 45], argTypes := #[62, 62] }, type := 62, pos := "lock.go:106", after := #[{ on := 4, ground := Ground.data }, { on := 12, ground := Ground.data }], guard := none }) rfl (fun K hK => ?_) AllReadyW.nil)
  have HP9 := hid (HPD.out.bw (Bw.alloc (Bw.refl W0) (.cells (wC ⟨t, b, (n : Int), u⟩).toArray 89)))
  refine step_append_any rfl _ _ 62 rfl 89 i2 _ 4 32 Try.underlying62 I2.out.1 I2.out.2.1 I2.out.2.2.1 I2.out.2.2.2 rfl (by decide) (.slice aw A.W.length cw) A.W.length (A.W.flatMap wC) rfl HP9.out.rw (.slice (some ⟨W0.heap.size, 0, none⟩) 1 1) 1 (wC ⟨t, b, (n : Int), u⟩) rfl N9.out (wC_one _) (by unfold maxLen; omega) (by omega) ?_
  intro v10 w10 ho10 hg10 hvb10
  have hbB := blk_grown hg10 HP9.out.rw HP9.out.blk (by decide)
  have hmB := keep_grown hg10 HP9.out.rw HP9.out.rm (by decide)
  have HX2 := hid (PS.turnW HPD.out (A.W ++ [⟨t, b, (n : Int), u⟩]) hbB hmB (keep_grown hg10 HP9.out.rw HP9.out.rk (by decide)) (by rw [fm_snoc, List.length_append]; exact ho10) (Ex.grown (Ex.of_bw (Bw.alloc (Bw.refl W0) _)) hg10 (fun b e => .inl (HPD.out.mw b e))) (fun b e => hvb10.elim (fun k => .inl (HPD.out.mw b (k ▸ e))) (fun k => .inr (Nat.le_trans (Bw.alloc (Bw.refl W0) _).size (k b e)))) (ok_snoc HPD.out.ok.W HOK.out) (by rw [List.length_append]; simp only [List.length_cons, List.length_nil]; omega))
  obtain ⟨a10, c10, e10⟩ := own_form ho10
  subst e10
  have p1 := hbB.cell 1
  simp only [List.getElem?_toArray, List.getElem?_cons_zero, List.getElem?_cons_succ] at p1
  have pl := hbB.lt
  have pf := hbB.free
  have HM10 := hid hmB
  have hS10 := hid (show (w10.cell? ⟨p, 1, none⟩ = some (.slice aw A.W.length cw) ∧ w10.cell? ⟨g, n * 2, none⟩ = some (.int .i64 t)) ∧ w10.cell? ⟨g, n * 2 + 1, none⟩ = some (.int .i64 b) from (by obtain ⟨g2, e2, _, hlt, hc, _⟩ := own_elem mC_len hmB hn; cases e2; rw [HX.out] at hc; exact ⟨⟨p1, hc 0 (by decide)⟩, hc 1 (by decide)⟩))
  refine hK.out _ _ hS10.out ?_
  clear hK K
  try simp only [Act.put, List.setIfInBounds_toArray, List.set_cons_zero, List.set_cons_succ]
  clear hg10 hvb10 ho10 hbB hmB
  refine wpAnyW_take (i := 14) (oi := { dst := some 47, op := Op.nilCheck (Operand.tmp 33), type := 0, pos := "lock.go:106", after := #[{ on := 0, ground := Ground.data }, { on := 0, ground := Ground.phase }, { on := 1, ground := Ground.phase }, { on := 2, ground := Ground.phase }, { on := 3, ground := Ground.phase }, { on := 4, ground := Ground.phase }, { on := 5, ground := Ground.phase }, { on := 6, ground := Ground.phase }, { on := 7, ground := Ground.phase }, { on := 8, ground := Ground.phase }, { on := 9, ground := Ground.phase }, { on := 10, ground := Ground.phase }, { on := 11, ground := Ground.phase }, { on := 12, ground := Ground.phase }, { on := 13, ground := Ground.phase }], guard := none }) (v := ?_) rfl (by kernel_rfl) (by kernel_rfl) (by kernel_rfl) (by kernel_rfl) (fun _ _ _ h => h) (Or.inl ⟨by rfl, fun w _ => ?_⟩) ?_
  rotate_left
  · (go_simp; first | done | with_reducible rfl)
  try simp only [Act.put, List.setIfInBounds_toArray, List.set_cons_zero, List.set_cons_succ]
  refine wpAnyW_take (i := 15) (oi := { dst := some 48, op := Op.fieldAddr 65 (Operand.tmp 47) 1, type := 0, pos := "lock.go:106", after := #[{ on := 14, ground := Ground.data }, { on := 0, ground := Ground.phase }, { on := 1, ground := Ground.phase }, { on := 2, ground := Ground.phase }, { on := 3, ground := Ground.phase }, { on := 4, ground := Ground.phase }, { on := 5, ground := Ground.phase }, { on := 6, ground := Ground.phase }, { on := 7, ground := Ground.phase }, { on := 8, ground := Ground.phase }, { on := 9, ground := Ground.phase }, { on := 10, ground := Ground.phase }, { on := 11, ground := Ground.phase }, { on := 12, ground := Ground.phase }, { on := 13, ground := Ground.phase }], guard := none }) (v := ?_) rfl (by kernel_rfl) (by kernel_rfl) (by kernel_rfl) (by kernel_rfl) (fun _ _ _ h => h) (Or.inl ⟨by rfl, fun w _ => ?_⟩) ?_
  rotate_left
  · (go_simp; first | done | with_reducible rfl)
  try simp only [Act.put, List.setIfInBounds_toArray, List.set_cons_zero, List.set_cons_succ]
  refine wpAnyW_ready (rs := [16]) (by kernel_rfl) (by simp) ?_
  refine (AllReadyW.cons (o := { dst := none, op := Op.store 62 (Operand.tmp 48) (Operand.tmp 46), type := 0, pos := "lock.go:106", after := #[{ on := 15, ground := Ground.data }, { on := 13, ground := Ground.data }, { on := 13, ground := Ground.chain }, { on := 0, ground := Ground.phase }, { on := 1, ground := Ground.phase }, { on := 2, ground := Ground.phase }, { on := 3, ground := Ground.phase }, { on := 4, ground := Ground.phase }, { on := 5, ground := Ground.phase }, { on := 6, ground := Ground.phase }, { on := 7, ground := Ground.phase }, { on := 8, ground := Ground.phase }, { on := 9, ground := Ground.phase }, { on := 10, ground := Ground.phase }, { on := 11, ground := Ground.phase }, { on := 12, ground := Ground.phase }, { on := 13, ground := Ground.phase }], guard := none }) rfl (fun K hK => ?_) AllReadyW.nil)
  go_simp
  refine hK.out _ _ trivial ?_
  clear hK K
  try simp only [Act.put, List.setIfInBounds_toArray, List.set_cons_zero, List.set_cons_succ]
  refine wpAnyW_done (by kernel_rfl) ?_ _
  have HS2 := hid (HX2.out.1.setM hn (0, 0) ⟨⟨by decide, by decide⟩, ⟨by decide, by decide⟩, fun k => absurd rfl k⟩)
  obtain ⟨g2, e2, hlg3, y0, y1, hfg3⟩ := HX2.out.1.mon hn
  cases e2
  all_goals go_wp2
  all_goals go_ret
  all_goals exact ⟨rfl, _, ⟨_, _, _, _, HS2.out.1⟩, (Nx.of_bw HBD.out).trans (HX2.out.2.trans HS2.out.2)⟩

theorem Wait_any (h : PX w p bs A) (m t u : Int) (hum : I64 u) (hbig : A.W.length + A.K.length < 1000) : Calls Try.prog 23 #[.pointer (some ⟨p, 0, none⟩), .int .i64 m, .int .i64 t, .int .i64 u] w fun e w' => ∃ bs', e = .returned (.int .i64 (waitE A m t u)) ∧ PX w' p bs' (waitA A m t u) ∧ Nx bs w w' bs' := by
  obtain ⟨mv, wv, kv, R, h⟩ := h
  have key : ∀ k : Int, k ≠ 0 → waitE A m t u = k → (Calls Try.prog 23 #[.pointer (some ⟨p, 0, none⟩), .int .i64 m, .int .i64 t, .int .i64 u] w fun e w' => e = .returned (.int .i64 k) ∧ Bw w w') → Calls Try.prog 23 #[.pointer (some ⟨p, 0, none⟩), .int .i64 m, .int .i64 t, .int .i64 u] w fun e w' => ∃ bs', e = .returned (.int .i64 (waitE A m t u)) ∧ PX w' p bs' (waitA A m t u) ∧ Nx bs w w' bs' := by
    intro k hk he hc
    unfold waitA
    rw [he, if_neg hk]
    exact hc.mono fun e w' ⟨he, hb⟩ => ⟨bs, he, ⟨_, _, _, _, h.bw hb⟩, Nx.of_bw hb⟩
  cases h1 : wrongA A m t
  · by_cases h2 : u < -1
    · exact key 1 (by decide) (by simp [waitE, h1, h2]) (Wait_un h m t u h1 h2)
    · cases h3 : (monA A m).1 == t
      · exact key 8 (by decide) (by simp [waitE, hasE, h1, h2, h3]) (Wait_no h m t u h1 h2 h3)
      · have e : waitE A m t u = 0 := by simp [waitE, hasE, h1, h2, h3]
        unfold waitA
        rw [e, if_pos rfl]
        exact (Wait_ok h m t u h1 h2 hum.2 h3 hbig).mono fun e w' ⟨bs', he, hp, hx⟩ => ⟨bs', he, hp, hx⟩
  · exact key 1 (by decide) (by simp [waitE, h1]) (Wait_wr h m t u h1)
end

end Go.Proofs.Yteeeijbjokkomaa
