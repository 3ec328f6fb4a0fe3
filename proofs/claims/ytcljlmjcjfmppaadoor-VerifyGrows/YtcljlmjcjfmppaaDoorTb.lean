/- Effect; the page's examples: contracts. -/
import Derived.Test.YtcljlmjcjfmppaaDoorTa
set_option linter.unusedSimpArgs false
set_option linter.unusedVariables false
namespace Go.Proofs.YtcljlmjcjfmppaaDoor
open Go Go.RowKit

/-- What takenBy answers. -/
def TkP (w : World) (ks : List (List Int)) (op a : Int) (e : Ending) (w' : World) : Prop :=
  ∃ x ok, e = .returned (.tuple #[.int .i64 x, .bool ok]) ∧ ((takenM ks op a = some x ∧ ok = true) ∨ (takenM ks op a = none ∧ ok = false)) ∧ Bw w w'

section
variable {w w' : World}

set_option maxRecDepth 100000 in
set_option maxHeartbeats 8000000 in
theorem takenBy_any (nf ns kf ks kk : Nat) (af az ak : Option Addr) (gl op a bb : Int) (mk : List (List Int × Value)) (G : Nat → Prop) (hk : RKs w G (.slice ak mk.length kk) mk) (ha : I64 a) :
    Calls Tryd.prog 33 #[.agg #[.slice af nf kf, .slice az ns ks, .slice ak mk.length kk, .int .i64 gl], .agg #[.int .i64 op, .int .i64 a, .int .i64 bb]] w (TkP w (mk.map (·.1)) op a) := by
  have HK := hid hk
  have HA := hid ha
  clear hk ha
  by_cases h14 : op = 14 ∨ op = 25 ∨ op = 26
  · have HT := hid (show takenM (mk.map (·.1)) op a = if 0 ≤ a ∧ a ≤ 255 then some a else none by unfold takenM; rw [if_pos h14])
    have fin : ∀ w', Bw w w' → TkP w (mk.map (·.1)) op a (.returned (.tuple #[.int .i64 a, .bool (decide (0 ≤ a) && decide (a ≤ 255))])) w' := by
      intro w' hb
      refine ⟨_, _, rfl, ?_, hb⟩
      rw [HT.out]
      by_cases h : 0 ≤ a ∧ a ≤ 255
      · rw [if_pos h]; exact .inl ⟨rfl, by simp [h]⟩
      · rw [if_neg h]; exact .inr ⟨rfl, by simp; omega⟩
    have FIN := hid fin
    clear fin
    rcases h14 with rfl | rfl | rfl
    · by_cases h0 : 0 ≤ a
      · have h0b : decide (0 ≤ a) = true := decide_eq_true h0
        rw [h0b] at FIN
        go_enter Tryd.func33, Tryd.ntmps33
        go_wp2
        go_quiet (fail)
        go_wp2
        all_goals go_ret2
        all_goals exact FIN.out _ (by repeat (first | exact Bw.refl _ | apply Bw.alloc | apply Bw.drewN | apply Bw.drew))
      · have h0b : decide (0 ≤ a) = false := decide_eq_false h0
        rw [h0b] at FIN
        go_enter Tryd.func33, Tryd.ntmps33
        go_wp2
        go_quiet (fail)
        go_wp2
        all_goals go_ret2
        all_goals exact FIN.out _ (by repeat (first | exact Bw.refl _ | apply Bw.alloc | apply Bw.drewN | apply Bw.drew))
    · by_cases h0 : 0 ≤ a
      · have h0b : decide (0 ≤ a) = true := decide_eq_true h0
        rw [h0b] at FIN
        go_enter Tryd.func33, Tryd.ntmps33
        go_wp2
        go_quiet (fail)
        go_wp2
        all_goals go_ret2
        all_goals exact FIN.out _ (by repeat (first | exact Bw.refl _ | apply Bw.alloc | apply Bw.drewN | apply Bw.drew))
      · have h0b : decide (0 ≤ a) = false := decide_eq_false h0
        rw [h0b] at FIN
        go_enter Tryd.func33, Tryd.ntmps33
        go_wp2
        go_quiet (fail)
        go_wp2
        all_goals go_ret2
        all_goals exact FIN.out _ (by repeat (first | exact Bw.refl _ | apply Bw.alloc | apply Bw.drewN | apply Bw.drew))
    · by_cases h0 : 0 ≤ a
      · have h0b : decide (0 ≤ a) = true := decide_eq_true h0
        rw [h0b] at FIN
        go_enter Tryd.func33, Tryd.ntmps33
        go_wp2
        go_quiet (fail)
        go_wp2
        all_goals go_ret2
        all_goals exact FIN.out _ (by repeat (first | exact Bw.refl _ | apply Bw.alloc | apply Bw.drewN | apply Bw.drew))
      · have h0b : decide (0 ≤ a) = false := decide_eq_false h0
        rw [h0b] at FIN
        go_enter Tryd.func33, Tryd.ntmps33
        go_wp2
        go_quiet (fail)
        go_wp2
        all_goals go_ret2
        all_goals exact FIN.out _ (by repeat (first | exact Bw.refl _ | apply Bw.alloc | apply Bw.drewN | apply Bw.drew))
  · have n14 : (op == 14) = false := by simp; omega
    have n25 : (op == 25) = false := by simp; omega
    have n26 : (op == 26) = false := by simp; omega
    by_cases h15 : op = 15
    · have HT := hid (show takenM (mk.map (·.1)) op a = if 0 ≤ a ∧ a < (mk.map (·.1)).length then some (((mk.map (·.1)).getD a.toNat []).length : Int) else none by unfold takenM; rw [if_neg h14, if_pos h15])
      subst h15
      clear n14 n25 n26
      by_cases hin : 0 ≤ a ∧ a < mk.length
      · obtain ⟨k, hk⟩ : ∃ k : Nat, a = k := ⟨a.toNat, by omega⟩
        subst hk
        have hkl : k < mk.length := by omega
        obtain ⟨g, o, cap', e, hcap, hg, _, hc⟩ := HK.out.parts hkl (by decide)
        cases e
        have c0 := hc 0 (by decide)
        simp only [Nat.mul_one, Nat.add_zero, List.getElem?_cons_zero] at c0
        have hO := HK.out.2.1 _ (List.getElem_mem hkl)
        have HV := hid (show takenM (mk.map (·.1)) 15 (k : Int) = some ((mk[k].1).length : Int) by
          rw [HT.out, if_pos (by simp; omega)]
          simp [List.getD_eq_getElem?_getD, hkl])
        generalize mk[k] = x at c0 hO HV
        obtain ⟨xl, xv⟩ := x
        obtain ⟨ax, cx, ex⟩ := hO.form
        simp only at ex c0 HV
        subst ex
        have hlt2 : (k : Int) < (mk.length : Int) := by omega
        have hge : decide ((mk.length : Int) ≤ (k : Int)) = false := decide_eq_false (by omega)
        clear hc hO
        go_enter Tryd.func33, Tryd.ntmps33
        go_wp2
        all_goals go_ret2
        all_goals exact ⟨_, _, rfl, .inl ⟨HV.out, rfl⟩, (by repeat (first | exact Bw.refl _ | apply Bw.alloc | apply Bw.drewN | apply Bw.drew))⟩
      · have HV := hid (show takenM (mk.map (·.1)) 15 a = none by rw [HT.out, if_neg (by simpa using hin)])
        by_cases h0 : a < 0
        · go_enter Tryd.func33, Tryd.ntmps33
          go_wp2
          all_goals go_ret2
          all_goals exact ⟨_, _, rfl, .inr ⟨HV.out, rfl⟩, (by repeat (first | exact Bw.refl _ | apply Bw.alloc | apply Bw.drewN | apply Bw.drew))⟩
        · have hge : decide ((mk.length : Int) ≤ a) = true := decide_eq_true (by omega)
          clear hin
          go_enter Tryd.func33, Tryd.ntmps33
          go_wp2
          all_goals go_ret2
          all_goals exact ⟨_, _, rfl, .inr ⟨HV.out, rfl⟩, (by repeat (first | exact Bw.refl _ | apply Bw.alloc | apply Bw.drewN | apply Bw.drew))⟩
    · have HV := hid (show takenM (mk.map (·.1)) op a = some 0 by unfold takenM; rw [if_neg h14, if_neg h15])
      have n15 : (op == 15) = false := by simp; omega
      clear h14 h15
      go_enter Tryd.func33, Tryd.ntmps33
      go_wp2
      all_goals go_ret2
      all_goals exact ⟨_, _, rfl, .inl ⟨HV.out, rfl⟩, (by repeat (first | exact Bw.refl _ | apply Bw.alloc | apply Bw.drewN | apply Bw.drew))⟩

set_option maxRecDepth 100000 in
set_option maxHeartbeats 8000000 in
theorem effect_any (nf ns kf ks kk : Nat) (af az ak : Option Addr) (gl op a bb : Int) (mk : List (List Int × Value)) (G : Nat → Prop) (ho : Og w) (hk : RKs w G (.slice ak mk.length kk) mk) (ha : I64 a) (hl : ∀ m ∈ mk, m.1.length ≤ 1000000) :
    Calls Tryd.prog 29 #[.agg #[.slice af nf kf, .slice az ns ks, .slice ak mk.length kk, .int .i64 gl], .agg #[.int .i64 op, .int .i64 a, .int .i64 bb]] w fun e w' => e = .returned (.tuple #[.int .i64 (effM (mk.map (·.1)) op a).1, .int .i64 (effM (mk.map (·.1)) op a).2.1, .int .i64 (effM (mk.map (·.1)) op a).2.2]) ∧ Bw w w' := by
  have HK := hid hk
  have HA := hid ha
  have HO := hid ho
  have HI := hid (show Blk ((w.alloc (.cells #[.slice af nf kf, .slice az ns ks, .slice ak mk.length kk, .int .i64 gl] 26)).alloc (.cells #[.int .i64 op, .int .i64 a, .int .i64 bb] 40)) (w.heap.size + 1) #[.int .i64 op, .int .i64 a, .int .i64 bb] 40 from by have := Blk.new (w.alloc (.cells #[.slice af nf kf, .slice az ns ks, .slice ak mk.length kk, .int .i64 gl] 26)) #[.int .i64 op, .int .i64 a, .int .i64 bb] 40; simpa only [World.size_alloc] using this)
  have HBD := hid (show ∀ m, takenM (mk.map (·.1)) op a = some m → 0 ≤ m ∧ m ≤ 1000000 from fun m h => by
    unfold takenM at h
    split at h
    · split at h
      · cases h; omega
      · cases h
    · split at h
      · split at h
        · cases h
          refine ⟨by omega, ?_⟩
          rename_i hin
          rw [List.length_map] at hin
          obtain ⟨k, rfl⟩ : ∃ k : Nat, a = k := ⟨a.toNat, by omega⟩
          have hkl : k < mk.length := by omega
          have := hl _ (List.getElem_mem hkl)
          simp [List.getD_eq_getElem?_getD, hkl]
          omega
        · cases h
      · cases h; omega)
  have h33 : decide (33 ≤ op) = true ∨ decide (33 ≤ op) = false := by cases decide (33 ≤ op) <;> simp
  clear hk ha ho hl h33
  cases hq : isOp op
  · have HQ := hid hq
    have HE := hid (show effM (mk.map (·.1)) op a = (0, 0, 8) by unfold effM; rw [hq]; rfl)
    rw [HE.out]
    go_enter Tryd.func29, Tryd.ntmps29
    go_wp2_with (first
      | (go_at_call 32; refine (isOperation_any _ _).mono ?_; rintro e w1 ⟨rfl, hw1⟩; subst w1; rw [HQ.out])
      | fail)
    all_goals
      refine bodyPost_ret (v := .tuple #[.int .i64 0, .int .i64 0, .int .i64 8]) (by simp [results, Tryd.results29, go_sem]) rfl ?_
      exact ⟨rfl, (by repeat (first | exact Bw.refl _ | apply Bw.alloc | apply Bw.drewN | apply Bw.drew))⟩
  · have HQ := hid hq
    obtain ⟨k, hk, hk33, hg⟩ := opAt_get hq
    cases ht : takenM (mk.map (·.1)) op a with
    | none =>
      have HE := hid (show effM (mk.map (·.1)) op a = (0, 0, 1) by unfold effM; rw [hq, ht]; rfl)
      have HT := hid ht
      rw [HE.out]
      clear hk hk33 hg ht hq
      go_enter Tryd.func29, Tryd.ntmps29
      go_wp2_with (first
        | (go_at_call 32; refine (isOperation_any _ _).mono ?_; rintro e w1 ⟨rfl, hw1⟩; subst w1; rw [HQ.out])
        | (go_at_call 33; refine (takenBy_any _ _ _ _ _ _ _ _ _ _ _ _ mk G (RKs.bw HK.out (by repeat (first | exact Bw.refl _ | apply Bw.alloc | apply Bw.drewN | apply Bw.drew))) HA.out).mono ?_; rintro e w1 ⟨x, ok, rfl, ht1, hb1⟩; have HB1 := hid (show Bw w w1 from Bw.trans (by repeat (first | exact Bw.refl _ | apply Bw.alloc | apply Bw.drewN | apply Bw.drew)) hb1); have c1 := (Blk.bw HI.out hb1).cell; have c1l := (Blk.bw HI.out hb1).lt; have HT1 := hid ht1; have HO1 := hid (HO.out.bw (show Bw w w1 from HB1.out)); clear ht1 hb1; obtain rfl : ok = false := (HT1.out.elim (fun h => by rw [HT.out] at h; cases h.1) (fun h => h.2)))
        | fail)
      all_goals
        refine bodyPost_ret (v := .tuple #[.int .i64 0, .int .i64 0, .int .i64 1]) (by simp [results, Tryd.results29, go_sem]) rfl ?_
        exact ⟨rfl, HB1.out⟩
    | some m =>
      have HE := hid (show effM (mk.map (·.1)) op a = ((opAt op).2.1 + m, (opAt op).2.2.1, 0) by unfold effM; rw [hq, ht]; rfl)
      have HT := hid ht
      have hbd := HBD.out m ht
      have hbo := opAt_bd op
      rw [HE.out]
      have HG := hid hg
      generalize opAt op = oa at *
      have hs : -9223372036854775808 ≤ oa.2.1 + m ∧ oa.2.1 + m ≤ 9223372036854775807 := by omega
      clear hg hq ht hbo hbd HE HBD
      subst hk
      go_enter Tryd.func29, Tryd.ntmps29
      go_wp2_with (first
        | (go_at_call 32; refine (isOperation_any _ _).mono ?_; rintro e w1 ⟨rfl, hw1⟩; subst w1; rw [HQ.out])
        | (go_at_call 33; refine (takenBy_any _ _ _ _ _ _ _ _ _ _ _ _ mk G (RKs.bw HK.out (by repeat (first | exact Bw.refl _ | apply Bw.alloc | apply Bw.drewN | apply Bw.drew))) HA.out).mono ?_; rintro e w1 ⟨x, ok, rfl, ht1, hb1⟩; have HB1 := hid (show Bw w w1 from Bw.trans (by repeat (first | exact Bw.refl _ | apply Bw.alloc | apply Bw.drewN | apply Bw.drew)) hb1); have c1 := (Blk.bw HI.out hb1).cell; have c1l := (Blk.bw HI.out hb1).lt; have HT1 := hid ht1; have HO1 := hid (HO.out.bw (show Bw w w1 from HB1.out)); clear ht1 hb1; obtain ⟨rfl, rfl⟩ : m = x ∧ ok = true := (HT1.out.elim (fun h => ⟨by rw [HT.out] at h; exact Option.some.inj h.1, h.2⟩) (fun h => by rw [HT.out] at h; cases h.1)); obtain ⟨c00, c01, c02, c03⟩ := HO1.out.2 k _ HG.out; have h00 := HO1.out.1)
        | fail)
      go_quiet (fail)
      go_wp2
      all_goals
        refine bodyPost_ret (v := .tuple #[.int .i64 (oa.2.1 + m), .int .i64 oa.2.2.1, .int .i64 0]) (by simp [results, Tryd.results29, go_sem]) rfl ?_
        exact ⟨rfl, Bw.trans HB1.out (by repeat (first | exact Bw.refl _ | apply Bw.alloc | apply Bw.drewN | apply Bw.drew))⟩

set_option maxRecDepth 100000 in
set_option maxHeartbeats 8000000 in
theorem num_any (n : Int) (w : World) : Calls Tryd.prog 7 #[.int .i64 n] w fun e w' => e = .returned (.int .i64 n) ∧ w' = w := by
  go_enter Tryd.func7, Tryd.ntmps7
  go_wp2
  all_goals go_ret
  all_goals exact ⟨rfl, rfl⟩

end

end Go.Proofs.YtcljlmjcjfmppaaDoor
