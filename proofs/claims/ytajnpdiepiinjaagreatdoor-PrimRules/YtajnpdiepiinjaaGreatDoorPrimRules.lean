/- For all worlds, words and texts that may be handed in, the statement PrimRules of layer 9 answers true: of numbers a difference is the sum with the negative; comparisons fit one another; what is put under a key, or at an index, is there; no condition but that the listed tables lie as the program's text lays them. -/
import Derived.Test.YtajnpdiepiinjaaGreatDoorFr9
import Derived.Test.YtajnpdiepiinjaaGreatDoorKQ
import Derived.Test.YtajnpdiepiinjaaGreatDoorKD
set_option linter.unusedVariables false
set_option linter.unusedSimpArgs false
namespace Go.Proofs.YtajnpdiepiinjaaGreatDoor.primRules
open Go.ChangeShapes Go.WideShapes Go.ChangeAt Go.RowKit

theorem OU.bw9 {w w' : World} {o : AObj} {vb vv vk : Value} (h : OU w o vb vv vk) (hb : Bw w w') : OU w' o vb vv vk :=
  ⟨h.ol.below hb, h.u, h.b, h.m1, h.m2, h.m3, h.ks, h.nn, h.nr, h.ni⟩
theorem cell_bw9 {w w' : World} (h : Bw w w') {b o : Nat} (hb : b < w.heap.size) : w'.cell? ⟨b, o, none⟩ = w.cell? ⟨b, o, none⟩ := World.cell?_of_block (a := ⟨b, o, none⟩) (h.block b hb)
theorem WU.bw9 {w w' : World} {ao aw : Option Addr} {Os : List AObj} {Ws : List (Int × Int × Int)} (h : WU w ao aw Os Ws) (hb : Bw w w') : WU w' ao aw Os Ws := by
  refine ⟨fun i hi => ?_, fun i hi => ?_⟩
  · obtain ⟨b, off, x, e, hlt, hc, ho⟩ := h.1 i hi
    exact ⟨b, off, x, e, Nat.lt_of_lt_of_le hlt hb.size, fun j hj => (cell_bw9 hb hlt).trans (hc j hj), OU.bw9 ho hb⟩
  · obtain ⟨b, off, e, hlt, c0, c1, c2, hu⟩ := h.2 i hi
    exact ⟨b, off, e, Nat.lt_of_lt_of_le hlt hb.size, (cell_bw9 hb hlt).trans c0, (cell_bw9 hb hlt).trans c1, (cell_bw9 hb hlt).trans c2, hu⟩

theorem made9 {ao aw : Option Addr} {co cw : Nat} {Os : List AObj} {Ws : List (Int × Int × Int)} {w : World} (hw : WU w ao aw Os Ws) (hm : muchW Os Ws = false) :
    ∀ w1, Bw w w1 → Calls Tryz.prog 10 #[.agg #[.slice ao Os.length co, .slice aw Ws.length cw]] w1 fun e w' => ∃ b0 bs ar cr, e = .returned (.tuple #[.pointer (some ⟨b0, 0, none⟩), .agg #[.int .i64 (madeH Os Ws).1, .slice ar (madeH Os Ws).2.length cr]]) ∧ HS w' b0 (madeH Os Ws) bs ∧ Bw w w' ∧ ∀ b ∈ bs, w.heap.size ≤ b := by
  intro w1 hb
  have hn := much_no9 hm
  refine (made_any ao aw co cw Os Ws w1 (WU.wr9 (WU.bw9 hw hb) hm) (by omega) (by omega)).mono fun e w' h => ?_
  obtain ⟨b0, bs, va, rfl, hs, ⟨va', t, e1, _, hsl, _⟩, hbw, hl⟩ := h
  cases e1
  obtain ⟨ar, cr, rfl⟩ := hsl.form
  exact ⟨b0, bs, ar, cr, rfl, hs, hb.trans hbw, fun b hm => Nat.le_trans hb.size (hl b hm)⟩

theorem cmp_anti : ∀ (a b : List UInt8), Lib.compareBytes b a = - Lib.compareBytes a b
  | [], [] => rfl
  | [], _ :: _ => rfl
  | _ :: _, [] => rfl
  | x :: a, y :: b => by
    have ih := cmp_anti a b
    unfold Lib.compareBytes
    by_cases h : x < y
    · have h2 : ¬ y < x := fun k => UInt8.lt_irrefl _ (UInt8.lt_trans h k)
      simp [h, h2]
    · by_cases h2 : y < x
      · simp [h, h2]
      · simp [h, h2, ih]
theorem eqW_symm (H : AHeap) (a b : Int) : eqW H a b = eqW H b a := by
  unfold eqW
  by_cases h : kk H a = kk H b
  · rw [h, decide_eq_decide.2 (eq_comm (a := a) (b := b)), decide_eq_decide.2 (eq_comm (a := (ob H a).bytes) (b := (ob H b).bytes)), decide_eq_decide.2 (eq_comm (a := (ob H a).re) (b := (ob H b).re)), decide_eq_decide.2 (eq_comm (a := (ob H a).im) (b := (ob H b).im))]
  · rw [decide_eq_decide.2 (eq_comm (a := a) (b := b)), show decide (kk H a = kk H b) = false from decide_eq_false h, show decide (kk H b = kk H a) = false from decide_eq_false (fun k => h k.symm)]
    rfl

/-- What comparisons answer, all together. -/
theorem rules {H : AHeap} {a b : Int} (ha : U a) (hb : U b) (hok : HOK H) (h9 : ∀ o ∈ H.2, o.kind ≤ 9) :
    ∃ (F : Int) (qe : Bool), bcF H 7 a b = F ∧ bcF H 10 a b = F ∧ bcF H 9 b a = F ∧ eqW H a b = qe ∧ eqW H b a = qe ∧ (F ≠ 0 ∨ F = 0 ∧ ∃ ql, bcV H 7 a b = bv ql ∧ bcV H 10 a b = bv (!ql) ∧ bcV H 9 b a = bv ql ∧ (ql && qe) = false) := by
  refine ⟨bcF H 7 a b, eqW H a b, rfl, rfl, ?_, rfl, (eqW_symm H a b).symm, ?_⟩
  · unfold bcF
    by_cases h : kof H a = 10 ∧ kof H b = 10 ∨ kof H a = 1 ∧ kof H b = 1
    · rw [if_pos h, if_pos (by omega)]; rfl
    · rw [if_neg h, if_neg (by omega)]
  · by_cases h1 : kof H a = 10 ∧ kof H b = 10
    · right
      have na := kof_10 ha hok h1.1 h9
      have nb := kof_10 hb hok h1.2 h9
      refine ⟨by unfold bcF; rw [if_pos (.inl h1)]; rfl, ltB a b, ?_, ?_, ?_, ?_⟩
      · unfold bcV; rw [if_pos h1]; rfl
      · unfold bcV; rw [if_pos h1]; rfl
      · unfold bcV; rw [if_pos ⟨h1.2, h1.1⟩]; rfl
      · cases hl : ltB a b
        · rfl
        · have hne : a ≠ b := fun e => by subst e; simp [ltB] at hl
          have ka : kk H a = 0 := by unfold kk; rw [if_neg (fun h => by have := kd_num na; omega)]
          have kb : kk H b = 0 := by unfold kk; rw [if_neg (fun h => by have := kd_num nb; omega)]
          unfold eqW
          rw [ka, kb]
          simp [hne]
    · by_cases h2 : kof H a = 1 ∧ kof H b = 1
      · right
        have ka := kof_kk6 (H := H) (.inl rfl) h2.1
        have kb := kof_kk6 (H := H) (.inl rfl) h2.2
        have h3 : ¬ (kof H b = 10 ∧ kof H a = 10) := fun h => h1 ⟨h.2, h.1⟩
        have hc : cmpB (ob H b).bytes (ob H a).bytes = - cmpB (ob H a).bytes (ob H b).bytes := cmp_anti _ _
        refine ⟨by unfold bcF; rw [if_pos (.inr h2)]; rfl, decide (cmpB (ob H a).bytes (ob H b).bytes < 0), ?_, ?_, ?_, ?_⟩
        · unfold bcV; rw [if_neg h1, if_pos h2]; rfl
        · unfold bcV; rw [if_neg h1, if_pos h2]; rfl
        · unfold bcV; rw [if_neg h3, if_pos ⟨h2.2, h2.1⟩, hc]
          show bv (decide (0 < - cmpB (ob H a).bytes (ob H b).bytes)) = _
          congr 1
          by_cases h : cmpB (ob H a).bytes (ob H b).bytes < 0
          · rw [decide_eq_true h, decide_eq_true (by omega)]
          · rw [decide_eq_false h, decide_eq_false (by omega)]
        · by_cases h : cmpB (ob H a).bytes (ob H b).bytes < 0
          · have hne : (ob H a).bytes ≠ (ob H b).bytes := fun e => by
              rw [e] at h
              unfold cmpB at h
              rw [cmp_self] at h
              omega
            have hab : a ≠ b := fun e => hne (by rw [e])
            unfold eqW
            rw [ka, kb]
            simp [hab, hne]
          · rw [decide_eq_false h]; rfl
      · left
        unfold bcF
        rw [if_neg (by omega)]
        decide

theorem bv_ne (q : Bool) : (bv q == bv (!q)) = false := by cases q <;> rfl
theorem bv_ne2 (q : Bool) : (bv q != bv (!q)) = true := by cases q <;> rfl
theorem not_bv (q : Bool) : bv (!tru (bv (!q))) = bv q := by cases q <;> rfl
theorem both9 {p q : Bool} (h : (p && q) = false) : ((bv p == 9) && (bv q == 9)) = false := by cases p <;> cases q <;> first | rfl | cases h
theorem num_kd {v : Int} (h : kd v = 0) : N v := by
  unfold kd at h
  unfold N
  revert h
  repeat' split
  all_goals omega
theorem sub_add (a b : Int) : mk (nm a + nm (mk (- nm b))) = mk (nm a - nm b) := by
  obtain ⟨k, hk⟩ := nm_mk (- nm b)
  rw [hk]
  exact mk_congr _ _ k (by omega)

set_option maxRecDepth 100000 in
set_option maxHeartbeats 16000000 in
theorem core (ao aw : Option Addr) (co cw : Nat) (Os : List AObj) (Ws : List (Int × Int × Int)) (mo : Os.length ≤ maxLen) (mw : Ws.length ≤ maxLen) (a : Int) (wa : U a) (b : Int) (wb : U b) (s : ByteArray) (w : World) (ht : Tf w) (wu : WU w ao aw Os Ws) :
    Calls Tryz.prog 4 #[.agg #[.slice ao Os.length co, .slice aw Ws.length cw], .int .u64 a, .int .u64 b, .string s] w fun e w' => e = .returned (.bool true) ∧ Bw w w' := by
  have HMU := hid (fun w1 (hb : Bw w w1) => much4_any ao aw co cw Os Ws w1 (WU.bw9 wu hb) mo mw)
  have HT := hid ht
  have HUA := hid wa
  have HUB := hid wb
  by_cases hm : muchW Os Ws = true
  · rw [hm] at HMU
    have HMU := hid HMU.out
    clear wa wb wu mo mw hm ht
    go_enter Tryz.func4, Tryz.ntmps4
    go_wp2_with (first
      | (go_at_call 8; refine (HMU.out _ (by repeat (first | exact Bw.refl _ | apply Bw.lay | apply Bw.alloc | apply Bw.drewN | apply Bw.drew))).mono ?_; rintro e w1 ⟨rfl, os1, n1, rfl⟩)
      | (go_at_call 9; refine (live_any _ (HT.out.bw (by repeat (first | exact Bw.refl _ | apply Bw.lay | apply Bw.alloc | apply Bw.drewN | apply Bw.drew)))).mono ?_; rintro e wl ⟨rfl, hbl⟩; have BL := hid (Bw.trans (a := w) (by repeat (first | exact Bw.refl _ | apply Bw.lay | apply Bw.alloc | apply Bw.drewN | apply Bw.drew)) hbl); clear hbl)
      | fail)
    all_goals go_ret
    all_goals exact ⟨rfl, BL.out⟩
  have hm' : muchW Os Ws = false := by simpa using hm
  have HMD := hid (made9 (co := co) (cw := cw) wu hm')
  have hlim := made_lim wu hm'
  rw [hm'] at HMU
  have HMU := hid HMU.out
  clear wu mo mw hm hm' ht
  by_cases hsz : s.size ≤ 100
  rotate_left
  · have bsz : decide ((100 : Int) < (s.size : Int)) = true := decide_eq_true (by omega)
    clear hsz
    go_enter Tryz.func4, Tryz.ntmps4
    go_wp2_with (first
      | (go_at_call 8; refine (HMU.out _ (by repeat (first | exact Bw.refl _ | apply Bw.lay | apply Bw.alloc | apply Bw.drewN | apply Bw.drew))).mono ?_; rintro e w1 ⟨rfl, os1, n1, rfl⟩)
      | (go_at_call 9; refine (live_any _ (HT.out.bw (by repeat (first | exact Bw.refl _ | apply Bw.lay | apply Bw.alloc | apply Bw.drewN | apply Bw.drew)))).mono ?_; rintro e wl ⟨rfl, hbl⟩; have BL := hid (Bw.trans (a := w) (by repeat (first | exact Bw.refl _ | apply Bw.lay | apply Bw.alloc | apply Bw.drewN | apply Bw.drew)) hbl); clear hbl)
      | fail)
    all_goals go_ret
    all_goals exact ⟨rfl, BL.out⟩
  have bsz : decide ((100 : Int) < (s.size : Int)) = false := decide_eq_false (by omega)
  clear hsz
  generalize madeH Os Ws = H at HMD hlim
  by_cases hok : HOK H
  rotate_left
  · have HNOK := hid hok
    clear hok hlim wa wb
    go_enter Tryz.func4, Tryz.ntmps4
    go_wp2_with (first
      | (go_at_call 8; refine (HMU.out _ (by repeat (first | exact Bw.refl _ | apply Bw.lay | apply Bw.alloc | apply Bw.drewN | apply Bw.drew))).mono ?_; rintro e w1 ⟨rfl, os1, n1, rfl⟩)
      | (go_at_call 10; refine (HMD.out _ (by repeat (first | exact Bw.refl _ | apply Bw.lay | apply Bw.alloc | apply Bw.drewN | apply Bw.drew))).mono ?_; rintro e w2 ⟨b0, bs, ar, cr, rfl, hs2, hb2, hl2⟩; exact absurd hs2.ok HNOK.out)
      | fail)
  have H9 := hid (fun o ho => (hlim o ho).1 : ∀ o ∈ H.2, o.kind ≤ 9)
  have HCP := hid (fun o ho => (by have := (hlim o ho).2; omega) : ∀ o ∈ H.2, o.keys.length ≤ 256)
  have HOK := hid hok
  obtain ⟨F, qe, r1, r2, r3, r4, r5, r6⟩ := rules wa wb hok H9.out
  have R1f := hid r1
  have R2f := hid r2
  have R3f := hid r3
  have R4 := hid r4
  have R5 := hid r5
  obtain ⟨V1, hv1⟩ : ∃ V, bcV H 7 a b = V := ⟨_, rfl⟩
  obtain ⟨V2, hv2⟩ : ∃ V, bcV H 10 a b = V := ⟨_, rfl⟩
  obtain ⟨V3, hv3⟩ : ∃ V, bcV H 9 b a = V := ⟨_, rfl⟩
  rw [hv1, hv2, hv3] at r6
  have RV1 := hid hv1
  have RV2 := hid hv2
  have RV3 := hid hv3
  have bq1 := bv_ne qe
  have hka := wa
  clear r1 r2 r3 r4 r5 hv1 hv2 hv3 hlim hok
  obtain ⟨x, hx⟩ : ∃ x, kd a = x := ⟨_, rfl⟩
  obtain ⟨y, hy⟩ : ∃ y, kd b = y := ⟨_, rfl⟩
  have KA := hid hx
  have KB := hid hy
  clear hka wa wb
  by_cases hx0 : x = 0
  · by_cases hy0 : y = 0
    · have NA := hid (num_kd (hx.trans hx0))
      have NB := hid (num_kd (hy.trans hy0))
      obtain ⟨D, hD⟩ : ∃ D, mk (nm a - nm b) = D := ⟨_, rfl⟩
      have SA := hid hD
      subst hx0 hy0
      clear hx hy hD
      rcases r6 with hF | ⟨hF, ql, e1, e2, e3, e4⟩
      · have bF : (F == 0) = false := by simpa using hF
        clear hF
        go_enter Tryz.func4, Tryz.ntmps4
        go_wp2_with (first
          | (go_at_call 8; refine (HMU.out _ (by repeat (first | exact Bw.refl _ | apply Bw.lay | apply Bw.alloc | apply Bw.drewN | apply Bw.drew))).mono ?_; rintro e w1 ⟨rfl, os1, n1, rfl⟩)
          | (go_at_call 10; refine (HMD.out _ (by repeat (first | exact Bw.refl _ | apply Bw.lay | apply Bw.alloc | apply Bw.drewN | apply Bw.drew))).mono ?_; rintro e w2 ⟨b0, bs, ar, cr, rfl, hs2, hb2, hl2⟩; have S2 := hid hs2; have B2 := hid hb2; have L2 := hid hl2; clear hs2 hb2 hl2)
          | (go_at_call_of 11 (Value.pointer none); refine (Bin_nil _ _ _).mono ?_; rintro e w' ⟨rfl, hw'⟩; subst w')
          | (go_at_call_of 11 (Value.int .i64 7); refine (bin_cmps 7 a b (by decide) HUA.out HUB.out (S2.out.bw (by repeat (first | exact Bw.refl _ | apply Bw.alloc | apply Bw.drewN | apply Bw.drew))) H9.out).mono ?_; rw [RV1.out, R1f.out]; rintro e w3 ⟨rfl, hb3⟩; have B3 := hid (Bw.trans (by repeat (first | exact Bw.refl _ | apply Bw.alloc | apply Bw.drewN | apply Bw.drew)) hb3 : Bw w2 w3); clear hb3)
          | (go_at_call_of 11 (Value.int .i64 10); refine (bin_cmps 10 a b (by decide) HUA.out HUB.out (S2.out.bw B3.out) H9.out).mono ?_; rw [RV2.out, R2f.out]; rintro e w4 ⟨rfl, hb4⟩; have B4 := hid (B3.out.trans hb4); clear hb4)
          | (go_at_call_of 11 (Value.int .i64 9); refine (bin_cmps 9 b a (by decide) HUB.out HUA.out (S2.out.bw B4.out) H9.out).mono ?_; rw [RV3.out, R3f.out]; rintro e w5 ⟨rfl, hb5⟩; have B5 := hid (B4.out.trans hb5); clear hb5)
          | (go_at_call_of 11 (Value.int .i64 5); refine (bin_eq a b HUA.out HUB.out (S2.out.bw B5.out)).mono ?_; rw [R4.out]; rintro e w6 ⟨rfl, hb6⟩; have B6 := hid (B5.out.trans hb6); clear hb6)
          | (go_at_call_of 11 (Value.int .i64 6); refine (bin_ne b a HUB.out HUA.out (S2.out.bw B6.out)).mono ?_; rw [R5.out]; rintro e w7 ⟨rfl, hb7⟩; have B7 := hid (B6.out.trans hb7); clear hb7)
          | (go_at_call 16; refine (Not_any _).mono ?_; rw [not_bv]; rintro e w' ⟨rfl, hw'⟩; subst w')
          | (go_at_call_of 19 (Value.int .u64 a); (fail_if_success (have _g := G1)); refine (kind_any a HUA.out _).mono ?_; rw [KA.out]; rintro e w' ⟨rfl, hw'⟩; subst w'; have G1 := hid trivial)
          | (go_at_call_of 19 (Value.int .u64 b); refine (kind_any b HUB.out _).mono ?_; rw [KB.out]; rintro e w' ⟨rfl, hw'⟩; subst w')
          | (go_at_call_of 11 (Value.int .i64 1); refine (bin_sub a b HUA.out HUB.out (S2.out.bw B7.out) NA.out NB.out).mono ?_; rw [SA.out]; rintro e w' ⟨rfl, hw'⟩; subst w')
          | (go_at_call 14; refine (Neg_num b HUB.out (S2.out.bw B7.out) NB.out).mono ?_; rintro e w' ⟨rfl, hw'⟩; subst w')
          | (go_at_call_of 11 (Value.int .i64 0); refine (bin_add a _ HUA.out (mk_U _) (S2.out.bw B7.out) NA.out (mk_N _)).mono ?_; rw [sub_add, SA.out]; rintro e w' ⟨rfl, hw'⟩; subst w')
          | (go_at_call 20; refine (SetField_two a _ b HUA.out HUB.out (S2.out.bw B7.out) HCP.out).mono ?_; rintro e w8 ⟨f, rfl, hf⟩; rcases hf with hf | hf <;> first | (obtain ⟨h0, rfl, bs8, hs8, hn8⟩ := hf; have HP0 := hid (put_field HUA.out HOK.out h0); have S8 := hid hs8; have BB := hid (hn8.bw (B2.out.trans B7.out) L2.out); clear h0 hs8 hn8) | (obtain ⟨_, hf0, bs8, hs8, hn8⟩ := hf; have hfb : (f == 0) = false := (by simpa using hf0); have S8 := hid hs8; have BB := hid (hn8.bw (B2.out.trans B7.out) L2.out); clear hf0 hs8 hn8))
          | (go_at_call 21; refine (Field_any a _ HUA.out S8.out).mono ?_; rw [HP0.out.1, HP0.out.2, show fF 0 = 0 from rfl, show fV 0 b = b from rfl]; rintro e w9 ⟨rfl, hb9⟩; have S9 := hid (S8.out.bw hb9); have B9 := hid (BB.out.1.trans hb9); have L9 := hid BB.out.2; clear hb9)
          | (go_at_call 22; have _g := S9; clear _g; refine (SetIndex_zero a b HUA.out HUB.out S9.out).mono ?_; rintro e wa ⟨f2, rfl, hf⟩; rcases hf with hf | hf <;> first | (obtain ⟨h0, rfl, bsa, hsa, hna⟩ := hf; have HI0 := hid (set_at HUA.out h0); have SA1 := hid hsa; have BA := hid (hna.bw B9.out L9.out); clear h0 hsa hna) | (obtain ⟨hf0, bsa, hsa, hna⟩ := hf; have hfb2 : (f2 == 0) = false := (by simpa using hf0); have BA := hid (hna.bw B9.out L9.out); clear hf0 hsa hna))
          | (go_at_call 22; (fail_if_success (have _g := S9)); refine (SetIndex_zero a b HUA.out HUB.out S8.out).mono ?_; rintro e wa ⟨f2, rfl, hf⟩; rcases hf with hf | hf <;> first | (obtain ⟨h0, rfl, bsa, hsa, hna⟩ := hf; have HI0 := hid (set_at HUA.out h0); have SA1 := hid hsa; have BA := hid (hna.bw BB.out.1 BB.out.2); clear h0 hsa hna) | (obtain ⟨hf0, bsa, hsa, hna⟩ := hf; have hfb2 : (f2 == 0) = false := (by simpa using hf0); have BA := hid (hna.bw BB.out.1 BB.out.2); clear hf0 hsa hna))
          | (go_at_call 23; refine (index_arr a 0 HUA.out ⟨by decide, by decide⟩ SA1.out HI0.out.2.1 rfl).mono ?_; rw [show nm 0 = 0 from by decide, HI0.out.2.2.1, HI0.out.2.2.2, show iF 0 = 0 from rfl, show iV 0 b = b from rfl]; rintro e wb ⟨rfl, hbb⟩; have BI := hid (BA.out.1.trans hbb); clear hbb)
          | (go_at_call 9; have _g := BI; clear _g; refine (live_any _ (HT.out.bw BI.out)).mono ?_; rintro e wl ⟨rfl, hbl⟩; have BL := hid (BI.out.trans hbl); clear hbl)
          | (go_at_call 9; (fail_if_success (have _g := BI)); refine (live_any _ (HT.out.bw BA.out.1)).mono ?_; rintro e wl ⟨rfl, hbl⟩; have BL := hid (BA.out.1.trans hbl); clear hbl)
          | fail)
        all_goals go_ret
        all_goals exact ⟨rfl, BL.out⟩
      · subst hF e1 e2 e3
        cases ql
        · clear e4
          rw [show bv false = 5 from rfl] at RV1 RV3
          rw [show bv (!false) = 9 from rfl] at RV2
          go_enter Tryz.func4, Tryz.ntmps4
          go_wp2_with (first
            | (go_at_call 8; refine (HMU.out _ (by repeat (first | exact Bw.refl _ | apply Bw.lay | apply Bw.alloc | apply Bw.drewN | apply Bw.drew))).mono ?_; rintro e w1 ⟨rfl, os1, n1, rfl⟩)
            | (go_at_call 10; refine (HMD.out _ (by repeat (first | exact Bw.refl _ | apply Bw.lay | apply Bw.alloc | apply Bw.drewN | apply Bw.drew))).mono ?_; rintro e w2 ⟨b0, bs, ar, cr, rfl, hs2, hb2, hl2⟩; have S2 := hid hs2; have B2 := hid hb2; have L2 := hid hl2; clear hs2 hb2 hl2)
            | (go_at_call_of 11 (Value.pointer none); refine (Bin_nil _ _ _).mono ?_; rintro e w' ⟨rfl, hw'⟩; subst w')
            | (go_at_call_of 11 (Value.int .i64 7); refine (bin_cmps 7 a b (by decide) HUA.out HUB.out (S2.out.bw (by repeat (first | exact Bw.refl _ | apply Bw.alloc | apply Bw.drewN | apply Bw.drew))) H9.out).mono ?_; rw [RV1.out, R1f.out]; rintro e w3 ⟨rfl, hb3⟩; have B3 := hid (Bw.trans (by repeat (first | exact Bw.refl _ | apply Bw.alloc | apply Bw.drewN | apply Bw.drew)) hb3 : Bw w2 w3); clear hb3)
            | (go_at_call_of 11 (Value.int .i64 10); refine (bin_cmps 10 a b (by decide) HUA.out HUB.out (S2.out.bw B3.out) H9.out).mono ?_; rw [RV2.out, R2f.out]; rintro e w4 ⟨rfl, hb4⟩; have B4 := hid (B3.out.trans hb4); clear hb4)
            | (go_at_call_of 11 (Value.int .i64 9); refine (bin_cmps 9 b a (by decide) HUB.out HUA.out (S2.out.bw B4.out) H9.out).mono ?_; rw [RV3.out, R3f.out]; rintro e w5 ⟨rfl, hb5⟩; have B5 := hid (B4.out.trans hb5); clear hb5)
            | (go_at_call_of 11 (Value.int .i64 5); refine (bin_eq a b HUA.out HUB.out (S2.out.bw B5.out)).mono ?_; rw [R4.out]; rintro e w6 ⟨rfl, hb6⟩; have B6 := hid (B5.out.trans hb6); clear hb6)
            | (go_at_call_of 11 (Value.int .i64 6); refine (bin_ne b a HUB.out HUA.out (S2.out.bw B6.out)).mono ?_; rw [R5.out]; rintro e w7 ⟨rfl, hb7⟩; have B7 := hid (B6.out.trans hb7); clear hb7)
            | (go_at_call 16; refine (Not_any _).mono ?_; rw [not_bv]; rintro e w' ⟨rfl, hw'⟩; subst w')
            | (go_at_call_of 19 (Value.int .u64 a); (fail_if_success (have _g := G1)); refine (kind_any a HUA.out _).mono ?_; rw [KA.out]; rintro e w' ⟨rfl, hw'⟩; subst w'; have G1 := hid trivial)
            | (go_at_call_of 19 (Value.int .u64 b); refine (kind_any b HUB.out _).mono ?_; rw [KB.out]; rintro e w' ⟨rfl, hw'⟩; subst w')
            | (go_at_call_of 11 (Value.int .i64 1); refine (bin_sub a b HUA.out HUB.out (S2.out.bw B7.out) NA.out NB.out).mono ?_; rw [SA.out]; rintro e w' ⟨rfl, hw'⟩; subst w')
            | (go_at_call 14; refine (Neg_num b HUB.out (S2.out.bw B7.out) NB.out).mono ?_; rintro e w' ⟨rfl, hw'⟩; subst w')
            | (go_at_call_of 11 (Value.int .i64 0); refine (bin_add a _ HUA.out (mk_U _) (S2.out.bw B7.out) NA.out (mk_N _)).mono ?_; rw [sub_add, SA.out]; rintro e w' ⟨rfl, hw'⟩; subst w')
            | (go_at_call 20; refine (SetField_two a _ b HUA.out HUB.out (S2.out.bw B7.out) HCP.out).mono ?_; rintro e w8 ⟨f, rfl, hf⟩; rcases hf with hf | hf <;> first | (obtain ⟨h0, rfl, bs8, hs8, hn8⟩ := hf; have HP0 := hid (put_field HUA.out HOK.out h0); have S8 := hid hs8; have BB := hid (hn8.bw (B2.out.trans B7.out) L2.out); clear h0 hs8 hn8) | (obtain ⟨_, hf0, bs8, hs8, hn8⟩ := hf; have hfb : (f == 0) = false := (by simpa using hf0); have S8 := hid hs8; have BB := hid (hn8.bw (B2.out.trans B7.out) L2.out); clear hf0 hs8 hn8))
            | (go_at_call 21; refine (Field_any a _ HUA.out S8.out).mono ?_; rw [HP0.out.1, HP0.out.2, show fF 0 = 0 from rfl, show fV 0 b = b from rfl]; rintro e w9 ⟨rfl, hb9⟩; have S9 := hid (S8.out.bw hb9); have B9 := hid (BB.out.1.trans hb9); have L9 := hid BB.out.2; clear hb9)
            | (go_at_call 22; have _g := S9; clear _g; refine (SetIndex_zero a b HUA.out HUB.out S9.out).mono ?_; rintro e wa ⟨f2, rfl, hf⟩; rcases hf with hf | hf <;> first | (obtain ⟨h0, rfl, bsa, hsa, hna⟩ := hf; have HI0 := hid (set_at HUA.out h0); have SA1 := hid hsa; have BA := hid (hna.bw B9.out L9.out); clear h0 hsa hna) | (obtain ⟨hf0, bsa, hsa, hna⟩ := hf; have hfb2 : (f2 == 0) = false := (by simpa using hf0); have BA := hid (hna.bw B9.out L9.out); clear hf0 hsa hna))
            | (go_at_call 22; (fail_if_success (have _g := S9)); refine (SetIndex_zero a b HUA.out HUB.out S8.out).mono ?_; rintro e wa ⟨f2, rfl, hf⟩; rcases hf with hf | hf <;> first | (obtain ⟨h0, rfl, bsa, hsa, hna⟩ := hf; have HI0 := hid (set_at HUA.out h0); have SA1 := hid hsa; have BA := hid (hna.bw BB.out.1 BB.out.2); clear h0 hsa hna) | (obtain ⟨hf0, bsa, hsa, hna⟩ := hf; have hfb2 : (f2 == 0) = false := (by simpa using hf0); have BA := hid (hna.bw BB.out.1 BB.out.2); clear hf0 hsa hna))
            | (go_at_call 23; refine (index_arr a 0 HUA.out ⟨by decide, by decide⟩ SA1.out HI0.out.2.1 rfl).mono ?_; rw [show nm 0 = 0 from by decide, HI0.out.2.2.1, HI0.out.2.2.2, show iF 0 = 0 from rfl, show iV 0 b = b from rfl]; rintro e wb ⟨rfl, hbb⟩; have BI := hid (BA.out.1.trans hbb); clear hbb)
            | (go_at_call 9; have _g := BI; clear _g; refine (live_any _ (HT.out.bw BI.out)).mono ?_; rintro e wl ⟨rfl, hbl⟩; have BL := hid (BI.out.trans hbl); clear hbl)
            | (go_at_call 9; (fail_if_success (have _g := BI)); refine (live_any _ (HT.out.bw BA.out.1)).mono ?_; rintro e wl ⟨rfl, hbl⟩; have BL := hid (BA.out.1.trans hbl); clear hbl)
            | fail)
          all_goals go_ret
          all_goals exact ⟨rfl, BL.out⟩
        · have bq9 : (bv qe == 9) = false := by rw [show qe = false by simpa using e4]; rfl
          clear e4
          rw [show bv true = 9 from rfl] at RV1 RV3
          rw [show bv (!true) = 5 from rfl] at RV2
          go_enter Tryz.func4, Tryz.ntmps4
          go_wp2_with (first
            | (go_at_call 8; refine (HMU.out _ (by repeat (first | exact Bw.refl _ | apply Bw.lay | apply Bw.alloc | apply Bw.drewN | apply Bw.drew))).mono ?_; rintro e w1 ⟨rfl, os1, n1, rfl⟩)
            | (go_at_call 10; refine (HMD.out _ (by repeat (first | exact Bw.refl _ | apply Bw.lay | apply Bw.alloc | apply Bw.drewN | apply Bw.drew))).mono ?_; rintro e w2 ⟨b0, bs, ar, cr, rfl, hs2, hb2, hl2⟩; have S2 := hid hs2; have B2 := hid hb2; have L2 := hid hl2; clear hs2 hb2 hl2)
            | (go_at_call_of 11 (Value.pointer none); refine (Bin_nil _ _ _).mono ?_; rintro e w' ⟨rfl, hw'⟩; subst w')
            | (go_at_call_of 11 (Value.int .i64 7); refine (bin_cmps 7 a b (by decide) HUA.out HUB.out (S2.out.bw (by repeat (first | exact Bw.refl _ | apply Bw.alloc | apply Bw.drewN | apply Bw.drew))) H9.out).mono ?_; rw [RV1.out, R1f.out]; rintro e w3 ⟨rfl, hb3⟩; have B3 := hid (Bw.trans (by repeat (first | exact Bw.refl _ | apply Bw.alloc | apply Bw.drewN | apply Bw.drew)) hb3 : Bw w2 w3); clear hb3)
            | (go_at_call_of 11 (Value.int .i64 10); refine (bin_cmps 10 a b (by decide) HUA.out HUB.out (S2.out.bw B3.out) H9.out).mono ?_; rw [RV2.out, R2f.out]; rintro e w4 ⟨rfl, hb4⟩; have B4 := hid (B3.out.trans hb4); clear hb4)
            | (go_at_call_of 11 (Value.int .i64 9); refine (bin_cmps 9 b a (by decide) HUB.out HUA.out (S2.out.bw B4.out) H9.out).mono ?_; rw [RV3.out, R3f.out]; rintro e w5 ⟨rfl, hb5⟩; have B5 := hid (B4.out.trans hb5); clear hb5)
            | (go_at_call_of 11 (Value.int .i64 5); refine (bin_eq a b HUA.out HUB.out (S2.out.bw B5.out)).mono ?_; rw [R4.out]; rintro e w6 ⟨rfl, hb6⟩; have B6 := hid (B5.out.trans hb6); clear hb6)
            | (go_at_call_of 11 (Value.int .i64 6); refine (bin_ne b a HUB.out HUA.out (S2.out.bw B6.out)).mono ?_; rw [R5.out]; rintro e w7 ⟨rfl, hb7⟩; have B7 := hid (B6.out.trans hb7); clear hb7)
            | (go_at_call 16; refine (Not_any _).mono ?_; rw [not_bv]; rintro e w' ⟨rfl, hw'⟩; subst w')
            | (go_at_call_of 19 (Value.int .u64 a); (fail_if_success (have _g := G1)); refine (kind_any a HUA.out _).mono ?_; rw [KA.out]; rintro e w' ⟨rfl, hw'⟩; subst w'; have G1 := hid trivial)
            | (go_at_call_of 19 (Value.int .u64 b); refine (kind_any b HUB.out _).mono ?_; rw [KB.out]; rintro e w' ⟨rfl, hw'⟩; subst w')
            | (go_at_call_of 11 (Value.int .i64 1); refine (bin_sub a b HUA.out HUB.out (S2.out.bw B7.out) NA.out NB.out).mono ?_; rw [SA.out]; rintro e w' ⟨rfl, hw'⟩; subst w')
            | (go_at_call 14; refine (Neg_num b HUB.out (S2.out.bw B7.out) NB.out).mono ?_; rintro e w' ⟨rfl, hw'⟩; subst w')
            | (go_at_call_of 11 (Value.int .i64 0); refine (bin_add a _ HUA.out (mk_U _) (S2.out.bw B7.out) NA.out (mk_N _)).mono ?_; rw [sub_add, SA.out]; rintro e w' ⟨rfl, hw'⟩; subst w')
            | (go_at_call 20; refine (SetField_two a _ b HUA.out HUB.out (S2.out.bw B7.out) HCP.out).mono ?_; rintro e w8 ⟨f, rfl, hf⟩; rcases hf with hf | hf <;> first | (obtain ⟨h0, rfl, bs8, hs8, hn8⟩ := hf; have HP0 := hid (put_field HUA.out HOK.out h0); have S8 := hid hs8; have BB := hid (hn8.bw (B2.out.trans B7.out) L2.out); clear h0 hs8 hn8) | (obtain ⟨_, hf0, bs8, hs8, hn8⟩ := hf; have hfb : (f == 0) = false := (by simpa using hf0); have S8 := hid hs8; have BB := hid (hn8.bw (B2.out.trans B7.out) L2.out); clear hf0 hs8 hn8))
            | (go_at_call 21; refine (Field_any a _ HUA.out S8.out).mono ?_; rw [HP0.out.1, HP0.out.2, show fF 0 = 0 from rfl, show fV 0 b = b from rfl]; rintro e w9 ⟨rfl, hb9⟩; have S9 := hid (S8.out.bw hb9); have B9 := hid (BB.out.1.trans hb9); have L9 := hid BB.out.2; clear hb9)
            | (go_at_call 22; have _g := S9; clear _g; refine (SetIndex_zero a b HUA.out HUB.out S9.out).mono ?_; rintro e wa ⟨f2, rfl, hf⟩; rcases hf with hf | hf <;> first | (obtain ⟨h0, rfl, bsa, hsa, hna⟩ := hf; have HI0 := hid (set_at HUA.out h0); have SA1 := hid hsa; have BA := hid (hna.bw B9.out L9.out); clear h0 hsa hna) | (obtain ⟨hf0, bsa, hsa, hna⟩ := hf; have hfb2 : (f2 == 0) = false := (by simpa using hf0); have BA := hid (hna.bw B9.out L9.out); clear hf0 hsa hna))
            | (go_at_call 22; (fail_if_success (have _g := S9)); refine (SetIndex_zero a b HUA.out HUB.out S8.out).mono ?_; rintro e wa ⟨f2, rfl, hf⟩; rcases hf with hf | hf <;> first | (obtain ⟨h0, rfl, bsa, hsa, hna⟩ := hf; have HI0 := hid (set_at HUA.out h0); have SA1 := hid hsa; have BA := hid (hna.bw BB.out.1 BB.out.2); clear h0 hsa hna) | (obtain ⟨hf0, bsa, hsa, hna⟩ := hf; have hfb2 : (f2 == 0) = false := (by simpa using hf0); have BA := hid (hna.bw BB.out.1 BB.out.2); clear hf0 hsa hna))
            | (go_at_call 23; refine (index_arr a 0 HUA.out ⟨by decide, by decide⟩ SA1.out HI0.out.2.1 rfl).mono ?_; rw [show nm 0 = 0 from by decide, HI0.out.2.2.1, HI0.out.2.2.2, show iF 0 = 0 from rfl, show iV 0 b = b from rfl]; rintro e wb ⟨rfl, hbb⟩; have BI := hid (BA.out.1.trans hbb); clear hbb)
            | (go_at_call 9; have _g := BI; clear _g; refine (live_any _ (HT.out.bw BI.out)).mono ?_; rintro e wl ⟨rfl, hbl⟩; have BL := hid (BI.out.trans hbl); clear hbl)
            | (go_at_call 9; (fail_if_success (have _g := BI)); refine (live_any _ (HT.out.bw BA.out.1)).mono ?_; rintro e wl ⟨rfl, hbl⟩; have BL := hid (BA.out.1.trans hbl); clear hbl)
            | fail)
          all_goals go_ret
          all_goals exact ⟨rfl, BL.out⟩
    · have by0 : (y == 0) = false := by simpa using hy0
      subst hx0
      clear hx hy hy0
      rcases r6 with hF | ⟨hF, ql, e1, e2, e3, e4⟩
      · have bF : (F == 0) = false := by simpa using hF
        clear hF
        go_enter Tryz.func4, Tryz.ntmps4
        go_wp2_with (first
          | (go_at_call 8; refine (HMU.out _ (by repeat (first | exact Bw.refl _ | apply Bw.lay | apply Bw.alloc | apply Bw.drewN | apply Bw.drew))).mono ?_; rintro e w1 ⟨rfl, os1, n1, rfl⟩)
          | (go_at_call 10; refine (HMD.out _ (by repeat (first | exact Bw.refl _ | apply Bw.lay | apply Bw.alloc | apply Bw.drewN | apply Bw.drew))).mono ?_; rintro e w2 ⟨b0, bs, ar, cr, rfl, hs2, hb2, hl2⟩; have S2 := hid hs2; have B2 := hid hb2; have L2 := hid hl2; clear hs2 hb2 hl2)
          | (go_at_call_of 11 (Value.pointer none); refine (Bin_nil _ _ _).mono ?_; rintro e w' ⟨rfl, hw'⟩; subst w')
          | (go_at_call_of 11 (Value.int .i64 7); refine (bin_cmps 7 a b (by decide) HUA.out HUB.out (S2.out.bw (by repeat (first | exact Bw.refl _ | apply Bw.alloc | apply Bw.drewN | apply Bw.drew))) H9.out).mono ?_; rw [RV1.out, R1f.out]; rintro e w3 ⟨rfl, hb3⟩; have B3 := hid (Bw.trans (by repeat (first | exact Bw.refl _ | apply Bw.alloc | apply Bw.drewN | apply Bw.drew)) hb3 : Bw w2 w3); clear hb3)
          | (go_at_call_of 11 (Value.int .i64 10); refine (bin_cmps 10 a b (by decide) HUA.out HUB.out (S2.out.bw B3.out) H9.out).mono ?_; rw [RV2.out, R2f.out]; rintro e w4 ⟨rfl, hb4⟩; have B4 := hid (B3.out.trans hb4); clear hb4)
          | (go_at_call_of 11 (Value.int .i64 9); refine (bin_cmps 9 b a (by decide) HUB.out HUA.out (S2.out.bw B4.out) H9.out).mono ?_; rw [RV3.out, R3f.out]; rintro e w5 ⟨rfl, hb5⟩; have B5 := hid (B4.out.trans hb5); clear hb5)
          | (go_at_call_of 11 (Value.int .i64 5); refine (bin_eq a b HUA.out HUB.out (S2.out.bw B5.out)).mono ?_; rw [R4.out]; rintro e w6 ⟨rfl, hb6⟩; have B6 := hid (B5.out.trans hb6); clear hb6)
          | (go_at_call_of 11 (Value.int .i64 6); refine (bin_ne b a HUB.out HUA.out (S2.out.bw B6.out)).mono ?_; rw [R5.out]; rintro e w7 ⟨rfl, hb7⟩; have B7 := hid (B6.out.trans hb7); clear hb7)
          | (go_at_call 16; refine (Not_any _).mono ?_; rw [not_bv]; rintro e w' ⟨rfl, hw'⟩; subst w')
          | (go_at_call_of 19 (Value.int .u64 a); (fail_if_success (have _g := G1)); refine (kind_any a HUA.out _).mono ?_; rw [KA.out]; rintro e w' ⟨rfl, hw'⟩; subst w'; have G1 := hid trivial)
          | (go_at_call_of 19 (Value.int .u64 b); refine (kind_any b HUB.out _).mono ?_; rw [KB.out]; rintro e w' ⟨rfl, hw'⟩; subst w')
          | (go_at_call 20; refine (SetField_two a _ b HUA.out HUB.out (S2.out.bw B7.out) HCP.out).mono ?_; rintro e w8 ⟨f, rfl, hf⟩; rcases hf with hf | hf <;> first | (obtain ⟨h0, rfl, bs8, hs8, hn8⟩ := hf; have HP0 := hid (put_field HUA.out HOK.out h0); have S8 := hid hs8; have BB := hid (hn8.bw (B2.out.trans B7.out) L2.out); clear h0 hs8 hn8) | (obtain ⟨_, hf0, bs8, hs8, hn8⟩ := hf; have hfb : (f == 0) = false := (by simpa using hf0); have S8 := hid hs8; have BB := hid (hn8.bw (B2.out.trans B7.out) L2.out); clear hf0 hs8 hn8))
          | (go_at_call 21; refine (Field_any a _ HUA.out S8.out).mono ?_; rw [HP0.out.1, HP0.out.2, show fF 0 = 0 from rfl, show fV 0 b = b from rfl]; rintro e w9 ⟨rfl, hb9⟩; have S9 := hid (S8.out.bw hb9); have B9 := hid (BB.out.1.trans hb9); have L9 := hid BB.out.2; clear hb9)
          | (go_at_call 22; have _g := S9; clear _g; refine (SetIndex_zero a b HUA.out HUB.out S9.out).mono ?_; rintro e wa ⟨f2, rfl, hf⟩; rcases hf with hf | hf <;> first | (obtain ⟨h0, rfl, bsa, hsa, hna⟩ := hf; have HI0 := hid (set_at HUA.out h0); have SA1 := hid hsa; have BA := hid (hna.bw B9.out L9.out); clear h0 hsa hna) | (obtain ⟨hf0, bsa, hsa, hna⟩ := hf; have hfb2 : (f2 == 0) = false := (by simpa using hf0); have BA := hid (hna.bw B9.out L9.out); clear hf0 hsa hna))
          | (go_at_call 22; (fail_if_success (have _g := S9)); refine (SetIndex_zero a b HUA.out HUB.out S8.out).mono ?_; rintro e wa ⟨f2, rfl, hf⟩; rcases hf with hf | hf <;> first | (obtain ⟨h0, rfl, bsa, hsa, hna⟩ := hf; have HI0 := hid (set_at HUA.out h0); have SA1 := hid hsa; have BA := hid (hna.bw BB.out.1 BB.out.2); clear h0 hsa hna) | (obtain ⟨hf0, bsa, hsa, hna⟩ := hf; have hfb2 : (f2 == 0) = false := (by simpa using hf0); have BA := hid (hna.bw BB.out.1 BB.out.2); clear hf0 hsa hna))
          | (go_at_call 23; refine (index_arr a 0 HUA.out ⟨by decide, by decide⟩ SA1.out HI0.out.2.1 rfl).mono ?_; rw [show nm 0 = 0 from by decide, HI0.out.2.2.1, HI0.out.2.2.2, show iF 0 = 0 from rfl, show iV 0 b = b from rfl]; rintro e wb ⟨rfl, hbb⟩; have BI := hid (BA.out.1.trans hbb); clear hbb)
          | (go_at_call 9; have _g := BI; clear _g; refine (live_any _ (HT.out.bw BI.out)).mono ?_; rintro e wl ⟨rfl, hbl⟩; have BL := hid (BI.out.trans hbl); clear hbl)
          | (go_at_call 9; (fail_if_success (have _g := BI)); refine (live_any _ (HT.out.bw BA.out.1)).mono ?_; rintro e wl ⟨rfl, hbl⟩; have BL := hid (BA.out.1.trans hbl); clear hbl)
          | fail)
        all_goals go_ret
        all_goals exact ⟨rfl, BL.out⟩
      · subst hF e1 e2 e3
        cases ql
        · clear e4
          rw [show bv false = 5 from rfl] at RV1 RV3
          rw [show bv (!false) = 9 from rfl] at RV2
          go_enter Tryz.func4, Tryz.ntmps4
          go_wp2_with (first
            | (go_at_call 8; refine (HMU.out _ (by repeat (first | exact Bw.refl _ | apply Bw.lay | apply Bw.alloc | apply Bw.drewN | apply Bw.drew))).mono ?_; rintro e w1 ⟨rfl, os1, n1, rfl⟩)
            | (go_at_call 10; refine (HMD.out _ (by repeat (first | exact Bw.refl _ | apply Bw.lay | apply Bw.alloc | apply Bw.drewN | apply Bw.drew))).mono ?_; rintro e w2 ⟨b0, bs, ar, cr, rfl, hs2, hb2, hl2⟩; have S2 := hid hs2; have B2 := hid hb2; have L2 := hid hl2; clear hs2 hb2 hl2)
            | (go_at_call_of 11 (Value.pointer none); refine (Bin_nil _ _ _).mono ?_; rintro e w' ⟨rfl, hw'⟩; subst w')
            | (go_at_call_of 11 (Value.int .i64 7); refine (bin_cmps 7 a b (by decide) HUA.out HUB.out (S2.out.bw (by repeat (first | exact Bw.refl _ | apply Bw.alloc | apply Bw.drewN | apply Bw.drew))) H9.out).mono ?_; rw [RV1.out, R1f.out]; rintro e w3 ⟨rfl, hb3⟩; have B3 := hid (Bw.trans (by repeat (first | exact Bw.refl _ | apply Bw.alloc | apply Bw.drewN | apply Bw.drew)) hb3 : Bw w2 w3); clear hb3)
            | (go_at_call_of 11 (Value.int .i64 10); refine (bin_cmps 10 a b (by decide) HUA.out HUB.out (S2.out.bw B3.out) H9.out).mono ?_; rw [RV2.out, R2f.out]; rintro e w4 ⟨rfl, hb4⟩; have B4 := hid (B3.out.trans hb4); clear hb4)
            | (go_at_call_of 11 (Value.int .i64 9); refine (bin_cmps 9 b a (by decide) HUB.out HUA.out (S2.out.bw B4.out) H9.out).mono ?_; rw [RV3.out, R3f.out]; rintro e w5 ⟨rfl, hb5⟩; have B5 := hid (B4.out.trans hb5); clear hb5)
            | (go_at_call_of 11 (Value.int .i64 5); refine (bin_eq a b HUA.out HUB.out (S2.out.bw B5.out)).mono ?_; rw [R4.out]; rintro e w6 ⟨rfl, hb6⟩; have B6 := hid (B5.out.trans hb6); clear hb6)
            | (go_at_call_of 11 (Value.int .i64 6); refine (bin_ne b a HUB.out HUA.out (S2.out.bw B6.out)).mono ?_; rw [R5.out]; rintro e w7 ⟨rfl, hb7⟩; have B7 := hid (B6.out.trans hb7); clear hb7)
            | (go_at_call 16; refine (Not_any _).mono ?_; rw [not_bv]; rintro e w' ⟨rfl, hw'⟩; subst w')
            | (go_at_call_of 19 (Value.int .u64 a); (fail_if_success (have _g := G1)); refine (kind_any a HUA.out _).mono ?_; rw [KA.out]; rintro e w' ⟨rfl, hw'⟩; subst w'; have G1 := hid trivial)
            | (go_at_call_of 19 (Value.int .u64 b); refine (kind_any b HUB.out _).mono ?_; rw [KB.out]; rintro e w' ⟨rfl, hw'⟩; subst w')
            | (go_at_call 20; refine (SetField_two a _ b HUA.out HUB.out (S2.out.bw B7.out) HCP.out).mono ?_; rintro e w8 ⟨f, rfl, hf⟩; rcases hf with hf | hf <;> first | (obtain ⟨h0, rfl, bs8, hs8, hn8⟩ := hf; have HP0 := hid (put_field HUA.out HOK.out h0); have S8 := hid hs8; have BB := hid (hn8.bw (B2.out.trans B7.out) L2.out); clear h0 hs8 hn8) | (obtain ⟨_, hf0, bs8, hs8, hn8⟩ := hf; have hfb : (f == 0) = false := (by simpa using hf0); have S8 := hid hs8; have BB := hid (hn8.bw (B2.out.trans B7.out) L2.out); clear hf0 hs8 hn8))
            | (go_at_call 21; refine (Field_any a _ HUA.out S8.out).mono ?_; rw [HP0.out.1, HP0.out.2, show fF 0 = 0 from rfl, show fV 0 b = b from rfl]; rintro e w9 ⟨rfl, hb9⟩; have S9 := hid (S8.out.bw hb9); have B9 := hid (BB.out.1.trans hb9); have L9 := hid BB.out.2; clear hb9)
            | (go_at_call 22; have _g := S9; clear _g; refine (SetIndex_zero a b HUA.out HUB.out S9.out).mono ?_; rintro e wa ⟨f2, rfl, hf⟩; rcases hf with hf | hf <;> first | (obtain ⟨h0, rfl, bsa, hsa, hna⟩ := hf; have HI0 := hid (set_at HUA.out h0); have SA1 := hid hsa; have BA := hid (hna.bw B9.out L9.out); clear h0 hsa hna) | (obtain ⟨hf0, bsa, hsa, hna⟩ := hf; have hfb2 : (f2 == 0) = false := (by simpa using hf0); have BA := hid (hna.bw B9.out L9.out); clear hf0 hsa hna))
            | (go_at_call 22; (fail_if_success (have _g := S9)); refine (SetIndex_zero a b HUA.out HUB.out S8.out).mono ?_; rintro e wa ⟨f2, rfl, hf⟩; rcases hf with hf | hf <;> first | (obtain ⟨h0, rfl, bsa, hsa, hna⟩ := hf; have HI0 := hid (set_at HUA.out h0); have SA1 := hid hsa; have BA := hid (hna.bw BB.out.1 BB.out.2); clear h0 hsa hna) | (obtain ⟨hf0, bsa, hsa, hna⟩ := hf; have hfb2 : (f2 == 0) = false := (by simpa using hf0); have BA := hid (hna.bw BB.out.1 BB.out.2); clear hf0 hsa hna))
            | (go_at_call 23; refine (index_arr a 0 HUA.out ⟨by decide, by decide⟩ SA1.out HI0.out.2.1 rfl).mono ?_; rw [show nm 0 = 0 from by decide, HI0.out.2.2.1, HI0.out.2.2.2, show iF 0 = 0 from rfl, show iV 0 b = b from rfl]; rintro e wb ⟨rfl, hbb⟩; have BI := hid (BA.out.1.trans hbb); clear hbb)
            | (go_at_call 9; have _g := BI; clear _g; refine (live_any _ (HT.out.bw BI.out)).mono ?_; rintro e wl ⟨rfl, hbl⟩; have BL := hid (BI.out.trans hbl); clear hbl)
            | (go_at_call 9; (fail_if_success (have _g := BI)); refine (live_any _ (HT.out.bw BA.out.1)).mono ?_; rintro e wl ⟨rfl, hbl⟩; have BL := hid (BA.out.1.trans hbl); clear hbl)
            | fail)
          all_goals go_ret
          all_goals exact ⟨rfl, BL.out⟩
        · have bq9 : (bv qe == 9) = false := by rw [show qe = false by simpa using e4]; rfl
          clear e4
          rw [show bv true = 9 from rfl] at RV1 RV3
          rw [show bv (!true) = 5 from rfl] at RV2
          go_enter Tryz.func4, Tryz.ntmps4
          go_wp2_with (first
            | (go_at_call 8; refine (HMU.out _ (by repeat (first | exact Bw.refl _ | apply Bw.lay | apply Bw.alloc | apply Bw.drewN | apply Bw.drew))).mono ?_; rintro e w1 ⟨rfl, os1, n1, rfl⟩)
            | (go_at_call 10; refine (HMD.out _ (by repeat (first | exact Bw.refl _ | apply Bw.lay | apply Bw.alloc | apply Bw.drewN | apply Bw.drew))).mono ?_; rintro e w2 ⟨b0, bs, ar, cr, rfl, hs2, hb2, hl2⟩; have S2 := hid hs2; have B2 := hid hb2; have L2 := hid hl2; clear hs2 hb2 hl2)
            | (go_at_call_of 11 (Value.pointer none); refine (Bin_nil _ _ _).mono ?_; rintro e w' ⟨rfl, hw'⟩; subst w')
            | (go_at_call_of 11 (Value.int .i64 7); refine (bin_cmps 7 a b (by decide) HUA.out HUB.out (S2.out.bw (by repeat (first | exact Bw.refl _ | apply Bw.alloc | apply Bw.drewN | apply Bw.drew))) H9.out).mono ?_; rw [RV1.out, R1f.out]; rintro e w3 ⟨rfl, hb3⟩; have B3 := hid (Bw.trans (by repeat (first | exact Bw.refl _ | apply Bw.alloc | apply Bw.drewN | apply Bw.drew)) hb3 : Bw w2 w3); clear hb3)
            | (go_at_call_of 11 (Value.int .i64 10); refine (bin_cmps 10 a b (by decide) HUA.out HUB.out (S2.out.bw B3.out) H9.out).mono ?_; rw [RV2.out, R2f.out]; rintro e w4 ⟨rfl, hb4⟩; have B4 := hid (B3.out.trans hb4); clear hb4)
            | (go_at_call_of 11 (Value.int .i64 9); refine (bin_cmps 9 b a (by decide) HUB.out HUA.out (S2.out.bw B4.out) H9.out).mono ?_; rw [RV3.out, R3f.out]; rintro e w5 ⟨rfl, hb5⟩; have B5 := hid (B4.out.trans hb5); clear hb5)
            | (go_at_call_of 11 (Value.int .i64 5); refine (bin_eq a b HUA.out HUB.out (S2.out.bw B5.out)).mono ?_; rw [R4.out]; rintro e w6 ⟨rfl, hb6⟩; have B6 := hid (B5.out.trans hb6); clear hb6)
            | (go_at_call_of 11 (Value.int .i64 6); refine (bin_ne b a HUB.out HUA.out (S2.out.bw B6.out)).mono ?_; rw [R5.out]; rintro e w7 ⟨rfl, hb7⟩; have B7 := hid (B6.out.trans hb7); clear hb7)
            | (go_at_call 16; refine (Not_any _).mono ?_; rw [not_bv]; rintro e w' ⟨rfl, hw'⟩; subst w')
            | (go_at_call_of 19 (Value.int .u64 a); (fail_if_success (have _g := G1)); refine (kind_any a HUA.out _).mono ?_; rw [KA.out]; rintro e w' ⟨rfl, hw'⟩; subst w'; have G1 := hid trivial)
            | (go_at_call_of 19 (Value.int .u64 b); refine (kind_any b HUB.out _).mono ?_; rw [KB.out]; rintro e w' ⟨rfl, hw'⟩; subst w')
            | (go_at_call 20; refine (SetField_two a _ b HUA.out HUB.out (S2.out.bw B7.out) HCP.out).mono ?_; rintro e w8 ⟨f, rfl, hf⟩; rcases hf with hf | hf <;> first | (obtain ⟨h0, rfl, bs8, hs8, hn8⟩ := hf; have HP0 := hid (put_field HUA.out HOK.out h0); have S8 := hid hs8; have BB := hid (hn8.bw (B2.out.trans B7.out) L2.out); clear h0 hs8 hn8) | (obtain ⟨_, hf0, bs8, hs8, hn8⟩ := hf; have hfb : (f == 0) = false := (by simpa using hf0); have S8 := hid hs8; have BB := hid (hn8.bw (B2.out.trans B7.out) L2.out); clear hf0 hs8 hn8))
            | (go_at_call 21; refine (Field_any a _ HUA.out S8.out).mono ?_; rw [HP0.out.1, HP0.out.2, show fF 0 = 0 from rfl, show fV 0 b = b from rfl]; rintro e w9 ⟨rfl, hb9⟩; have S9 := hid (S8.out.bw hb9); have B9 := hid (BB.out.1.trans hb9); have L9 := hid BB.out.2; clear hb9)
            | (go_at_call 22; have _g := S9; clear _g; refine (SetIndex_zero a b HUA.out HUB.out S9.out).mono ?_; rintro e wa ⟨f2, rfl, hf⟩; rcases hf with hf | hf <;> first | (obtain ⟨h0, rfl, bsa, hsa, hna⟩ := hf; have HI0 := hid (set_at HUA.out h0); have SA1 := hid hsa; have BA := hid (hna.bw B9.out L9.out); clear h0 hsa hna) | (obtain ⟨hf0, bsa, hsa, hna⟩ := hf; have hfb2 : (f2 == 0) = false := (by simpa using hf0); have BA := hid (hna.bw B9.out L9.out); clear hf0 hsa hna))
            | (go_at_call 22; (fail_if_success (have _g := S9)); refine (SetIndex_zero a b HUA.out HUB.out S8.out).mono ?_; rintro e wa ⟨f2, rfl, hf⟩; rcases hf with hf | hf <;> first | (obtain ⟨h0, rfl, bsa, hsa, hna⟩ := hf; have HI0 := hid (set_at HUA.out h0); have SA1 := hid hsa; have BA := hid (hna.bw BB.out.1 BB.out.2); clear h0 hsa hna) | (obtain ⟨hf0, bsa, hsa, hna⟩ := hf; have hfb2 : (f2 == 0) = false := (by simpa using hf0); have BA := hid (hna.bw BB.out.1 BB.out.2); clear hf0 hsa hna))
            | (go_at_call 23; refine (index_arr a 0 HUA.out ⟨by decide, by decide⟩ SA1.out HI0.out.2.1 rfl).mono ?_; rw [show nm 0 = 0 from by decide, HI0.out.2.2.1, HI0.out.2.2.2, show iF 0 = 0 from rfl, show iV 0 b = b from rfl]; rintro e wb ⟨rfl, hbb⟩; have BI := hid (BA.out.1.trans hbb); clear hbb)
            | (go_at_call 9; have _g := BI; clear _g; refine (live_any _ (HT.out.bw BI.out)).mono ?_; rintro e wl ⟨rfl, hbl⟩; have BL := hid (BI.out.trans hbl); clear hbl)
            | (go_at_call 9; (fail_if_success (have _g := BI)); refine (live_any _ (HT.out.bw BA.out.1)).mono ?_; rintro e wl ⟨rfl, hbl⟩; have BL := hid (BA.out.1.trans hbl); clear hbl)
            | fail)
          all_goals go_ret
          all_goals exact ⟨rfl, BL.out⟩
  · have bx0 : (x == 0) = false := by simpa using hx0
    clear hx hy hx0
    rcases r6 with hF | ⟨hF, ql, e1, e2, e3, e4⟩
    · have bF : (F == 0) = false := by simpa using hF
      clear hF
      go_enter Tryz.func4, Tryz.ntmps4
      go_wp2_with (first
        | (go_at_call 8; refine (HMU.out _ (by repeat (first | exact Bw.refl _ | apply Bw.lay | apply Bw.alloc | apply Bw.drewN | apply Bw.drew))).mono ?_; rintro e w1 ⟨rfl, os1, n1, rfl⟩)
        | (go_at_call 10; refine (HMD.out _ (by repeat (first | exact Bw.refl _ | apply Bw.lay | apply Bw.alloc | apply Bw.drewN | apply Bw.drew))).mono ?_; rintro e w2 ⟨b0, bs, ar, cr, rfl, hs2, hb2, hl2⟩; have S2 := hid hs2; have B2 := hid hb2; have L2 := hid hl2; clear hs2 hb2 hl2)
        | (go_at_call_of 11 (Value.pointer none); refine (Bin_nil _ _ _).mono ?_; rintro e w' ⟨rfl, hw'⟩; subst w')
        | (go_at_call_of 11 (Value.int .i64 7); refine (bin_cmps 7 a b (by decide) HUA.out HUB.out (S2.out.bw (by repeat (first | exact Bw.refl _ | apply Bw.alloc | apply Bw.drewN | apply Bw.drew))) H9.out).mono ?_; rw [RV1.out, R1f.out]; rintro e w3 ⟨rfl, hb3⟩; have B3 := hid (Bw.trans (by repeat (first | exact Bw.refl _ | apply Bw.alloc | apply Bw.drewN | apply Bw.drew)) hb3 : Bw w2 w3); clear hb3)
        | (go_at_call_of 11 (Value.int .i64 10); refine (bin_cmps 10 a b (by decide) HUA.out HUB.out (S2.out.bw B3.out) H9.out).mono ?_; rw [RV2.out, R2f.out]; rintro e w4 ⟨rfl, hb4⟩; have B4 := hid (B3.out.trans hb4); clear hb4)
        | (go_at_call_of 11 (Value.int .i64 9); refine (bin_cmps 9 b a (by decide) HUB.out HUA.out (S2.out.bw B4.out) H9.out).mono ?_; rw [RV3.out, R3f.out]; rintro e w5 ⟨rfl, hb5⟩; have B5 := hid (B4.out.trans hb5); clear hb5)
        | (go_at_call_of 11 (Value.int .i64 5); refine (bin_eq a b HUA.out HUB.out (S2.out.bw B5.out)).mono ?_; rw [R4.out]; rintro e w6 ⟨rfl, hb6⟩; have B6 := hid (B5.out.trans hb6); clear hb6)
        | (go_at_call_of 11 (Value.int .i64 6); refine (bin_ne b a HUB.out HUA.out (S2.out.bw B6.out)).mono ?_; rw [R5.out]; rintro e w7 ⟨rfl, hb7⟩; have B7 := hid (B6.out.trans hb7); clear hb7)
        | (go_at_call 16; refine (Not_any _).mono ?_; rw [not_bv]; rintro e w' ⟨rfl, hw'⟩; subst w')
        | (go_at_call_of 19 (Value.int .u64 a); (fail_if_success (have _g := G1)); refine (kind_any a HUA.out _).mono ?_; rw [KA.out]; rintro e w' ⟨rfl, hw'⟩; subst w'; have G1 := hid trivial)
        | (go_at_call_of 19 (Value.int .u64 b); refine (kind_any b HUB.out _).mono ?_; rw [KB.out]; rintro e w' ⟨rfl, hw'⟩; subst w')
        | (go_at_call 20; refine (SetField_two a _ b HUA.out HUB.out (S2.out.bw B7.out) HCP.out).mono ?_; rintro e w8 ⟨f, rfl, hf⟩; rcases hf with hf | hf <;> first | (obtain ⟨h0, rfl, bs8, hs8, hn8⟩ := hf; have HP0 := hid (put_field HUA.out HOK.out h0); have S8 := hid hs8; have BB := hid (hn8.bw (B2.out.trans B7.out) L2.out); clear h0 hs8 hn8) | (obtain ⟨_, hf0, bs8, hs8, hn8⟩ := hf; have hfb : (f == 0) = false := (by simpa using hf0); have S8 := hid hs8; have BB := hid (hn8.bw (B2.out.trans B7.out) L2.out); clear hf0 hs8 hn8))
        | (go_at_call 21; refine (Field_any a _ HUA.out S8.out).mono ?_; rw [HP0.out.1, HP0.out.2, show fF 0 = 0 from rfl, show fV 0 b = b from rfl]; rintro e w9 ⟨rfl, hb9⟩; have S9 := hid (S8.out.bw hb9); have B9 := hid (BB.out.1.trans hb9); have L9 := hid BB.out.2; clear hb9)
        | (go_at_call 22; have _g := S9; clear _g; refine (SetIndex_zero a b HUA.out HUB.out S9.out).mono ?_; rintro e wa ⟨f2, rfl, hf⟩; rcases hf with hf | hf <;> first | (obtain ⟨h0, rfl, bsa, hsa, hna⟩ := hf; have HI0 := hid (set_at HUA.out h0); have SA1 := hid hsa; have BA := hid (hna.bw B9.out L9.out); clear h0 hsa hna) | (obtain ⟨hf0, bsa, hsa, hna⟩ := hf; have hfb2 : (f2 == 0) = false := (by simpa using hf0); have BA := hid (hna.bw B9.out L9.out); clear hf0 hsa hna))
        | (go_at_call 22; (fail_if_success (have _g := S9)); refine (SetIndex_zero a b HUA.out HUB.out S8.out).mono ?_; rintro e wa ⟨f2, rfl, hf⟩; rcases hf with hf | hf <;> first | (obtain ⟨h0, rfl, bsa, hsa, hna⟩ := hf; have HI0 := hid (set_at HUA.out h0); have SA1 := hid hsa; have BA := hid (hna.bw BB.out.1 BB.out.2); clear h0 hsa hna) | (obtain ⟨hf0, bsa, hsa, hna⟩ := hf; have hfb2 : (f2 == 0) = false := (by simpa using hf0); have BA := hid (hna.bw BB.out.1 BB.out.2); clear hf0 hsa hna))
        | (go_at_call 23; refine (index_arr a 0 HUA.out ⟨by decide, by decide⟩ SA1.out HI0.out.2.1 rfl).mono ?_; rw [show nm 0 = 0 from by decide, HI0.out.2.2.1, HI0.out.2.2.2, show iF 0 = 0 from rfl, show iV 0 b = b from rfl]; rintro e wb ⟨rfl, hbb⟩; have BI := hid (BA.out.1.trans hbb); clear hbb)
        | (go_at_call 9; have _g := BI; clear _g; refine (live_any _ (HT.out.bw BI.out)).mono ?_; rintro e wl ⟨rfl, hbl⟩; have BL := hid (BI.out.trans hbl); clear hbl)
        | (go_at_call 9; (fail_if_success (have _g := BI)); refine (live_any _ (HT.out.bw BA.out.1)).mono ?_; rintro e wl ⟨rfl, hbl⟩; have BL := hid (BA.out.1.trans hbl); clear hbl)
        | fail)
      all_goals go_ret
      all_goals exact ⟨rfl, BL.out⟩
    · subst hF e1 e2 e3
      cases ql
      · clear e4
        rw [show bv false = 5 from rfl] at RV1 RV3
        rw [show bv (!false) = 9 from rfl] at RV2
        go_enter Tryz.func4, Tryz.ntmps4
        go_wp2_with (first
          | (go_at_call 8; refine (HMU.out _ (by repeat (first | exact Bw.refl _ | apply Bw.lay | apply Bw.alloc | apply Bw.drewN | apply Bw.drew))).mono ?_; rintro e w1 ⟨rfl, os1, n1, rfl⟩)
          | (go_at_call 10; refine (HMD.out _ (by repeat (first | exact Bw.refl _ | apply Bw.lay | apply Bw.alloc | apply Bw.drewN | apply Bw.drew))).mono ?_; rintro e w2 ⟨b0, bs, ar, cr, rfl, hs2, hb2, hl2⟩; have S2 := hid hs2; have B2 := hid hb2; have L2 := hid hl2; clear hs2 hb2 hl2)
          | (go_at_call_of 11 (Value.pointer none); refine (Bin_nil _ _ _).mono ?_; rintro e w' ⟨rfl, hw'⟩; subst w')
          | (go_at_call_of 11 (Value.int .i64 7); refine (bin_cmps 7 a b (by decide) HUA.out HUB.out (S2.out.bw (by repeat (first | exact Bw.refl _ | apply Bw.alloc | apply Bw.drewN | apply Bw.drew))) H9.out).mono ?_; rw [RV1.out, R1f.out]; rintro e w3 ⟨rfl, hb3⟩; have B3 := hid (Bw.trans (by repeat (first | exact Bw.refl _ | apply Bw.alloc | apply Bw.drewN | apply Bw.drew)) hb3 : Bw w2 w3); clear hb3)
          | (go_at_call_of 11 (Value.int .i64 10); refine (bin_cmps 10 a b (by decide) HUA.out HUB.out (S2.out.bw B3.out) H9.out).mono ?_; rw [RV2.out, R2f.out]; rintro e w4 ⟨rfl, hb4⟩; have B4 := hid (B3.out.trans hb4); clear hb4)
          | (go_at_call_of 11 (Value.int .i64 9); refine (bin_cmps 9 b a (by decide) HUB.out HUA.out (S2.out.bw B4.out) H9.out).mono ?_; rw [RV3.out, R3f.out]; rintro e w5 ⟨rfl, hb5⟩; have B5 := hid (B4.out.trans hb5); clear hb5)
          | (go_at_call_of 11 (Value.int .i64 5); refine (bin_eq a b HUA.out HUB.out (S2.out.bw B5.out)).mono ?_; rw [R4.out]; rintro e w6 ⟨rfl, hb6⟩; have B6 := hid (B5.out.trans hb6); clear hb6)
          | (go_at_call_of 11 (Value.int .i64 6); refine (bin_ne b a HUB.out HUA.out (S2.out.bw B6.out)).mono ?_; rw [R5.out]; rintro e w7 ⟨rfl, hb7⟩; have B7 := hid (B6.out.trans hb7); clear hb7)
          | (go_at_call 16; refine (Not_any _).mono ?_; rw [not_bv]; rintro e w' ⟨rfl, hw'⟩; subst w')
          | (go_at_call_of 19 (Value.int .u64 a); (fail_if_success (have _g := G1)); refine (kind_any a HUA.out _).mono ?_; rw [KA.out]; rintro e w' ⟨rfl, hw'⟩; subst w'; have G1 := hid trivial)
          | (go_at_call_of 19 (Value.int .u64 b); refine (kind_any b HUB.out _).mono ?_; rw [KB.out]; rintro e w' ⟨rfl, hw'⟩; subst w')
          | (go_at_call 20; refine (SetField_two a _ b HUA.out HUB.out (S2.out.bw B7.out) HCP.out).mono ?_; rintro e w8 ⟨f, rfl, hf⟩; rcases hf with hf | hf <;> first | (obtain ⟨h0, rfl, bs8, hs8, hn8⟩ := hf; have HP0 := hid (put_field HUA.out HOK.out h0); have S8 := hid hs8; have BB := hid (hn8.bw (B2.out.trans B7.out) L2.out); clear h0 hs8 hn8) | (obtain ⟨_, hf0, bs8, hs8, hn8⟩ := hf; have hfb : (f == 0) = false := (by simpa using hf0); have S8 := hid hs8; have BB := hid (hn8.bw (B2.out.trans B7.out) L2.out); clear hf0 hs8 hn8))
          | (go_at_call 21; refine (Field_any a _ HUA.out S8.out).mono ?_; rw [HP0.out.1, HP0.out.2, show fF 0 = 0 from rfl, show fV 0 b = b from rfl]; rintro e w9 ⟨rfl, hb9⟩; have S9 := hid (S8.out.bw hb9); have B9 := hid (BB.out.1.trans hb9); have L9 := hid BB.out.2; clear hb9)
          | (go_at_call 22; have _g := S9; clear _g; refine (SetIndex_zero a b HUA.out HUB.out S9.out).mono ?_; rintro e wa ⟨f2, rfl, hf⟩; rcases hf with hf | hf <;> first | (obtain ⟨h0, rfl, bsa, hsa, hna⟩ := hf; have HI0 := hid (set_at HUA.out h0); have SA1 := hid hsa; have BA := hid (hna.bw B9.out L9.out); clear h0 hsa hna) | (obtain ⟨hf0, bsa, hsa, hna⟩ := hf; have hfb2 : (f2 == 0) = false := (by simpa using hf0); have BA := hid (hna.bw B9.out L9.out); clear hf0 hsa hna))
          | (go_at_call 22; (fail_if_success (have _g := S9)); refine (SetIndex_zero a b HUA.out HUB.out S8.out).mono ?_; rintro e wa ⟨f2, rfl, hf⟩; rcases hf with hf | hf <;> first | (obtain ⟨h0, rfl, bsa, hsa, hna⟩ := hf; have HI0 := hid (set_at HUA.out h0); have SA1 := hid hsa; have BA := hid (hna.bw BB.out.1 BB.out.2); clear h0 hsa hna) | (obtain ⟨hf0, bsa, hsa, hna⟩ := hf; have hfb2 : (f2 == 0) = false := (by simpa using hf0); have BA := hid (hna.bw BB.out.1 BB.out.2); clear hf0 hsa hna))
          | (go_at_call 23; refine (index_arr a 0 HUA.out ⟨by decide, by decide⟩ SA1.out HI0.out.2.1 rfl).mono ?_; rw [show nm 0 = 0 from by decide, HI0.out.2.2.1, HI0.out.2.2.2, show iF 0 = 0 from rfl, show iV 0 b = b from rfl]; rintro e wb ⟨rfl, hbb⟩; have BI := hid (BA.out.1.trans hbb); clear hbb)
          | (go_at_call 9; have _g := BI; clear _g; refine (live_any _ (HT.out.bw BI.out)).mono ?_; rintro e wl ⟨rfl, hbl⟩; have BL := hid (BI.out.trans hbl); clear hbl)
          | (go_at_call 9; (fail_if_success (have _g := BI)); refine (live_any _ (HT.out.bw BA.out.1)).mono ?_; rintro e wl ⟨rfl, hbl⟩; have BL := hid (BA.out.1.trans hbl); clear hbl)
          | fail)
        all_goals go_ret
        all_goals exact ⟨rfl, BL.out⟩
      · have bq9 : (bv qe == 9) = false := by rw [show qe = false by simpa using e4]; rfl
        clear e4
        rw [show bv true = 9 from rfl] at RV1 RV3
        rw [show bv (!true) = 5 from rfl] at RV2
        go_enter Tryz.func4, Tryz.ntmps4
        go_wp2_with (first
          | (go_at_call 8; refine (HMU.out _ (by repeat (first | exact Bw.refl _ | apply Bw.lay | apply Bw.alloc | apply Bw.drewN | apply Bw.drew))).mono ?_; rintro e w1 ⟨rfl, os1, n1, rfl⟩)
          | (go_at_call 10; refine (HMD.out _ (by repeat (first | exact Bw.refl _ | apply Bw.lay | apply Bw.alloc | apply Bw.drewN | apply Bw.drew))).mono ?_; rintro e w2 ⟨b0, bs, ar, cr, rfl, hs2, hb2, hl2⟩; have S2 := hid hs2; have B2 := hid hb2; have L2 := hid hl2; clear hs2 hb2 hl2)
          | (go_at_call_of 11 (Value.pointer none); refine (Bin_nil _ _ _).mono ?_; rintro e w' ⟨rfl, hw'⟩; subst w')
          | (go_at_call_of 11 (Value.int .i64 7); refine (bin_cmps 7 a b (by decide) HUA.out HUB.out (S2.out.bw (by repeat (first | exact Bw.refl _ | apply Bw.alloc | apply Bw.drewN | apply Bw.drew))) H9.out).mono ?_; rw [RV1.out, R1f.out]; rintro e w3 ⟨rfl, hb3⟩; have B3 := hid (Bw.trans (by repeat (first | exact Bw.refl _ | apply Bw.alloc | apply Bw.drewN | apply Bw.drew)) hb3 : Bw w2 w3); clear hb3)
          | (go_at_call_of 11 (Value.int .i64 10); refine (bin_cmps 10 a b (by decide) HUA.out HUB.out (S2.out.bw B3.out) H9.out).mono ?_; rw [RV2.out, R2f.out]; rintro e w4 ⟨rfl, hb4⟩; have B4 := hid (B3.out.trans hb4); clear hb4)
          | (go_at_call_of 11 (Value.int .i64 9); refine (bin_cmps 9 b a (by decide) HUB.out HUA.out (S2.out.bw B4.out) H9.out).mono ?_; rw [RV3.out, R3f.out]; rintro e w5 ⟨rfl, hb5⟩; have B5 := hid (B4.out.trans hb5); clear hb5)
          | (go_at_call_of 11 (Value.int .i64 5); refine (bin_eq a b HUA.out HUB.out (S2.out.bw B5.out)).mono ?_; rw [R4.out]; rintro e w6 ⟨rfl, hb6⟩; have B6 := hid (B5.out.trans hb6); clear hb6)
          | (go_at_call_of 11 (Value.int .i64 6); refine (bin_ne b a HUB.out HUA.out (S2.out.bw B6.out)).mono ?_; rw [R5.out]; rintro e w7 ⟨rfl, hb7⟩; have B7 := hid (B6.out.trans hb7); clear hb7)
          | (go_at_call 16; refine (Not_any _).mono ?_; rw [not_bv]; rintro e w' ⟨rfl, hw'⟩; subst w')
          | (go_at_call_of 19 (Value.int .u64 a); (fail_if_success (have _g := G1)); refine (kind_any a HUA.out _).mono ?_; rw [KA.out]; rintro e w' ⟨rfl, hw'⟩; subst w'; have G1 := hid trivial)
          | (go_at_call_of 19 (Value.int .u64 b); refine (kind_any b HUB.out _).mono ?_; rw [KB.out]; rintro e w' ⟨rfl, hw'⟩; subst w')
          | (go_at_call 20; refine (SetField_two a _ b HUA.out HUB.out (S2.out.bw B7.out) HCP.out).mono ?_; rintro e w8 ⟨f, rfl, hf⟩; rcases hf with hf | hf <;> first | (obtain ⟨h0, rfl, bs8, hs8, hn8⟩ := hf; have HP0 := hid (put_field HUA.out HOK.out h0); have S8 := hid hs8; have BB := hid (hn8.bw (B2.out.trans B7.out) L2.out); clear h0 hs8 hn8) | (obtain ⟨_, hf0, bs8, hs8, hn8⟩ := hf; have hfb : (f == 0) = false := (by simpa using hf0); have S8 := hid hs8; have BB := hid (hn8.bw (B2.out.trans B7.out) L2.out); clear hf0 hs8 hn8))
          | (go_at_call 21; refine (Field_any a _ HUA.out S8.out).mono ?_; rw [HP0.out.1, HP0.out.2, show fF 0 = 0 from rfl, show fV 0 b = b from rfl]; rintro e w9 ⟨rfl, hb9⟩; have S9 := hid (S8.out.bw hb9); have B9 := hid (BB.out.1.trans hb9); have L9 := hid BB.out.2; clear hb9)
          | (go_at_call 22; have _g := S9; clear _g; refine (SetIndex_zero a b HUA.out HUB.out S9.out).mono ?_; rintro e wa ⟨f2, rfl, hf⟩; rcases hf with hf | hf <;> first | (obtain ⟨h0, rfl, bsa, hsa, hna⟩ := hf; have HI0 := hid (set_at HUA.out h0); have SA1 := hid hsa; have BA := hid (hna.bw B9.out L9.out); clear h0 hsa hna) | (obtain ⟨hf0, bsa, hsa, hna⟩ := hf; have hfb2 : (f2 == 0) = false := (by simpa using hf0); have BA := hid (hna.bw B9.out L9.out); clear hf0 hsa hna))
          | (go_at_call 22; (fail_if_success (have _g := S9)); refine (SetIndex_zero a b HUA.out HUB.out S8.out).mono ?_; rintro e wa ⟨f2, rfl, hf⟩; rcases hf with hf | hf <;> first | (obtain ⟨h0, rfl, bsa, hsa, hna⟩ := hf; have HI0 := hid (set_at HUA.out h0); have SA1 := hid hsa; have BA := hid (hna.bw BB.out.1 BB.out.2); clear h0 hsa hna) | (obtain ⟨hf0, bsa, hsa, hna⟩ := hf; have hfb2 : (f2 == 0) = false := (by simpa using hf0); have BA := hid (hna.bw BB.out.1 BB.out.2); clear hf0 hsa hna))
          | (go_at_call 23; refine (index_arr a 0 HUA.out ⟨by decide, by decide⟩ SA1.out HI0.out.2.1 rfl).mono ?_; rw [show nm 0 = 0 from by decide, HI0.out.2.2.1, HI0.out.2.2.2, show iF 0 = 0 from rfl, show iV 0 b = b from rfl]; rintro e wb ⟨rfl, hbb⟩; have BI := hid (BA.out.1.trans hbb); clear hbb)
          | (go_at_call 9; have _g := BI; clear _g; refine (live_any _ (HT.out.bw BI.out)).mono ?_; rintro e wl ⟨rfl, hbl⟩; have BL := hid (BI.out.trans hbl); clear hbl)
          | (go_at_call 9; (fail_if_success (have _g := BI)); refine (live_any _ (HT.out.bw BA.out.1)).mono ?_; rintro e wl ⟨rfl, hbl⟩; have BL := hid (BA.out.1.trans hbl); clear hbl)
          | fail)
        all_goals go_ret
        all_goals exact ⟨rfl, BL.out⟩

theorem walk (ao0 aw0 : Option Addr) (co0 cw0 : Nat) (Os0 : List AObj) (Ws0 : List (Int × Int × Int)) (mo0 : Os0.length ≤ maxLen) (mw0 : Ws0.length ≤ maxLen) (a1 : Int) (w1 : U a1) (a2 : Int) (w2 : U a2) (l3 : List Int) (w3 : (∀ c ∈ l3, 0 ≤ c ∧ c ≤ 255) ∧ l3.length ≤ maxLen) (w : World) (htf : Tf w) (wu0 : WU w ao0 aw0 Os0 Ws0) :
    Calls Tryz.prog 4 #[.agg #[.slice ao0 Os0.length co0, .slice aw0 Ws0.length cw0], .int .u64 a1, .int .u64 a2, .string (strOfNums l3)] w fun e w' => e = .returned (.bool true) ∧ Bw w w' := by
  exact core ao0 aw0 co0 cw0 Os0 Ws0 mo0 mw0 a1 w1 a2 w2 _ w htf wu0

set_option maxRecDepth 100000 in
theorem lifted (os : Os) (started : os.Started) (H : Type) (enc : TypeId × Value → H) :
    ReturnsInHanded {} Tryz.checked os 4 .any (fun w args => (Rows.primRulesSpec.pre enc Tryz.prog Tryz.f4 [] false w args ∧ laidMetH Tryz.prog laidT w) ∧ sizedMet enc Tryz.prog Tryz.f4 (OpenSpec.ofChange Rows.primRulesSpec) false w args)
      (Rows.primRulesSpec.post enc Tryz.prog Tryz.f4 false true false false) := by
  refine returnsInHanded_of_change_and (C := Tryz.checked) (X := fun w _ => laidMetH Tryz.prog laidT w) (fun _ _ _ hh h => h.of_heap hh) ownK started (by kernel_rfl) Tryz.func4
    (ChangeSpec.witness_shaped (enc := enc) (C := Tryz.checked) (os := os) (X := fun w _ => laidMetH Tryz.prog laidT w) false (World.doorLaid Tryz.prog 400 os) #[.agg #[.slice none 0 0, .slice none 0 0], .int .u64 0, .int .u64 0, .string ByteArray.empty] 8 rfl (World.shaped_of_RefB (by kernel_rfl) (by kernel_rfl)) (by kernel_rfl) (by kernel_rfl) (by kernel_rfl) (door_metT os _)) ?_
  intro W base args ds gs before hval0 hW _ _ hL _
  have hval : ∀ (j : Nat) t v, Tryz.f4.params[j]? = some t → args[j]? = some v → Value.okWide Tryz.prog W .any base t v := hval0
  have hW' := hW
  obtain ⟨p, q, hA0, hV, rfl, hfz, hnd⟩ := hW
  have hA : DataW.TrodAll enc Tryz.prog W 0 (fun _ => true) true Tryz.f4.params.toList args.toList ds p := hA0
  rw [Tryz.params4] at hA hval
  obtain ⟨v0, vs0, d0, ds0, p0, q0, hargs, rfl, rfl, h0, r0⟩ := trodAll_cons hA
  obtain ⟨v1, vs1, d1, ds1, p1, q1, rfl, rfl, rfl, h1, r1⟩ := trodAll_cons r0
  obtain ⟨v2, vs2, d2, ds2, p2, q2, rfl, rfl, rfl, h2, r2⟩ := trodAll_cons r1
  obtain ⟨v3, vs3, d3, ds3, p3, q3, rfl, rfl, rfl, h3, r3⟩ := trodAll_cons r2
  obtain ⟨rfl, rfl, rfl⟩ := trodAll_nil r3
  obtain rfl : args = #[v0, v1, v2, v3] := by cases args; simp_all
  obtain ⟨rfl, rfl⟩ := trodVars_none hV
  have k0 := h0
  have lt0 : ∀ x ∈ p0, x.block < W.heap.size := by obtain ⟨m, hm⟩ := k0; exact DataW.trod_lt m _ _ _ hm
  have k1 := h1
  have lt1 : ∀ x ∈ p1, x.block < W.heap.size := by obtain ⟨m, hm⟩ := k1; exact DataW.trod_lt m _ _ _ hm
  have k2 := h2
  have lt2 : ∀ x ∈ p2, x.block < W.heap.size := by obtain ⟨m, hm⟩ := k2; exact DataW.trod_lt m _ _ _ hm
  have k3 := h3
  have lt3 : ∀ x ∈ p3, x.block < W.heap.size := by obtain ⟨m, hm⟩ := k3; exact DataW.trod_lt m _ _ _ hm
  obtain ⟨ao0, aw0, co0, cw0, Os0, Ws0, e0, mo0, mw0, wu0⟩ := open_world (hval 0 25 v0 rfl rfl) h0
  subst e0
  obtain ⟨a1, rfl, rfl, rfl, w10⟩ := open_int Tryz.underlying27 (hval 1 27 v1 rfl rfl) h1
  have w1 : U a1 := by have := bounds_u64 w10; unfold U; omega
  obtain ⟨a2, rfl, rfl, rfl, w20⟩ := open_int Tryz.underlying27 (hval 2 27 v2 rfl rfl) h2
  have w2 : U a2 := by have := bounds_u64 w20; unfold U; omega
  obtain ⟨l3, e3, w3⟩ := open_text (hval 3 9 v3 rfl rfl) h3
  subst e3
  clear hA0 hval0
  refine (walk ao0 aw0 co0 cw0 Os0 Ws0 mo0 mw0 a1 w1 a2 w2 l3 w3 W (tf_of_laidT hL) wu0).mono fun e W' ⟨he, bel⟩ => ?_
  subst he
  exact ⟨_, rfl, _, _, _, [], _, [], hW', trodAll_mk1 (shut_bool Tryz.underlying4 _), (trodAll_cons_mk (Below.trod laidOut (by kernel_rfl) (of_decide_eq_true (by kernel_rfl)) k0 bel lt0) (trodAll_cons_mk (Below.trod laidOut (by kernel_rfl) (of_decide_eq_true (by kernel_rfl)) k1 bel lt1) (trodAll_cons_mk (Below.trod laidOut (by kernel_rfl) (of_decide_eq_true (by kernel_rfl)) k2 bel lt2) (trodAll_cons_mk (Below.trod laidOut (by kernel_rfl) (of_decide_eq_true (by kernel_rfl)) k3 bel lt3) trodAll_mk0)))), rfl, Below.frame bel _, fun h => by cases h⟩

theorem over : Rows.primRulesRow.holds Tryz.pinned (OpenSpec.ofChange Rows.primRulesSpec) :=
  OpenClaim.holds_of_wide 4 Tryz.f4 rfl rfl rfl rfl rfl rfl rfl ⟨rfl, rfl, rfl, rfl, rfl⟩ rfl rfl rfl rfl rfl (by kernel_rfl) Tryz.func4 (by kernel_rfl)
    (of_decide_eq_true (by kernel_rfl)) (by unfold Func.isWrapper; first | (rw [if_pos (by decide +kernel)]; kernel_rfl) | (rw [if_neg (by decide +kernel)]; exact ⟨rfl, rfl⟩))
    (fun os started H enc _ => lifted os started H enc)

theorem card : Rows.PrimRulesCardSaid :=
  Claim7.holds_tied_plain_at .later [] [.data, .data] true (true, "30ba780aa47119653ab3e8081b0a33507b5c2ddb5d70185776cadd84b12b0ea8") false
    over (fun _ h => by cases h) (by kernel_rfl) (fun _ h => by cases h) primRules_row_tie rfl ⟨rfl, rfl⟩ (by kernel_rfl) rfl
    (fun f fn hf hfn => by
      obtain rfl : f = 4 := Option.some.inj ((show Tryz.prog.funcNamed "jacquard/jacquardlaw09.PrimRules" = some 4 by kernel_rfl).symm.trans hf) |>.symm
      obtain rfl : fn = Tryz.f4 := (Option.some.inj (Tryz.func4.symm.trans hfn)).symm
      exact ⟨by kernel_rfl, fun j t ht => by
        rw [Tryz.params4] at ht
        have hm : t ∈ [9, 25, 27] := by have h9 := Array.mem_of_getElem? ht; simp at h9 ⊢; first | exact h9 | (rcases h9 with h9 | h9 <;> simp [h9]; done) | (rcases h9 with h9 | h9 | h9 <;> simp [h9]; done) | (rcases h9 with h9 | h9 | h9 | h9 <;> simp [h9]; done)
        have hall : ([9, 25, 27].all fun u => !Tryz.prog.wantsStandIn u) = true := by kernel_rfl
        exact (show Tryz.prog.wantsStandIn t = false by simpa using List.all_eq_true.1 hall t hm)⟩)
    (by kernel_rfl)
end Go.Proofs.YtajnpdiepiinjaaGreatDoor.primRules
namespace Go.Proofs.YtajnpdiepiinjaaGreatDoor
theorem primRules_holds : Rows.PrimRulesCardSaid := primRules.card
#print axioms primRules_holds
end Go.Proofs.YtajnpdiepiinjaaGreatDoor
