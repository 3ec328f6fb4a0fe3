/- For every number: an image with so many globals alone is told by 7 bytes and the number's own, and comes back (P10.3, P10.4): the statement CodeNumbers returns true. -/
import Derived.Test.YtmhjfkhcpfihfabDoorFg
set_option linter.unusedVariables false
set_option linter.unusedSimpArgs false
namespace Go.Proofs.YtmhjfkhcpfihfabDoor.codeNumbers
open Go.ChangeShapes Go.WideShapes Go.ChangeAt Go.RowKit

theorem walk (a0 : Int) (w0 : -9223372036854775808 ≤ a0 ∧ a0 ≤ 9223372036854775807) (w : World) (hs : Og w) :
    Calls Tryd.prog 3 #[.int .i64 a0] w fun e w' => e = .returned (.bool true) ∧ Bw w w' := by
  have HO := hid hs
  have HB := hid (Bw.refl w)
  have HG := hid (fun w' => rim_gm w' a0 w0)
  clear hs
  by_cases hp : 0 ≤ a0 ∧ a0 ≤ 4611686018427387903
  rotate_left
  · have HOK := hid (show oks (iIm (gm a0)) = false by rw [gm_oks]; exact decide_eq_false hp)
    by_cases h0 : a0 < 0
    · clear hp
      go_enter Tryd.func3, Tryd.ntmps3
      go_wp2_with (first
        | (go_at_call 5; refine (enc_no (HG.out _) (gm_le a0) HOK.out).mono ?_; rintro e wq ⟨hb1, rfl⟩; have hbq1 := (show ∀ {p : World}, Bw w p → Bw p wq → Bw p wq from fun _ k => k) HB.out (Bw.trans (by repeat (first | exact Bw.refl _ | apply Bw.alloc | apply Bw.drewN | apply Bw.drew)) hb1); replace HB := hid (HB.out.trans hbq1); clear hb1 hbq1)
        | (go_at_call 6; refine (num_any _ _).mono ?_; rintro e wn ⟨rfl, hwn⟩; subst wn)
        | (go_at_call 7; refine (live_any (HO.out.bw (HB.out.trans (by repeat (first | exact Bw.refl _ | apply Bw.alloc | apply Bw.drewN | apply Bw.drew))))).mono ?_; rintro e wq ⟨rfl, hb1⟩; have hbq2 := (show ∀ {p : World}, Bw w p → Bw p wq → Bw p wq from fun _ k => k) HB.out (Bw.trans (by repeat (first | exact Bw.refl _ | apply Bw.alloc | apply Bw.drewN | apply Bw.drew)) hb1); replace HB := hid (HB.out.trans hbq2); clear hb1 hbq2)
        | fail)
      all_goals go_ret
      all_goals exact ⟨rfl, HB.out⟩
    · have h1 : decide (4611686018427387903 < a0) = true := decide_eq_true (by omega)
      clear hp
      go_enter Tryd.func3, Tryd.ntmps3
      go_wp2_with (first
        | (go_at_call 5; refine (enc_no (HG.out _) (gm_le a0) HOK.out).mono ?_; rintro e wq ⟨hb1, rfl⟩; have hbq1 := (show ∀ {p : World}, Bw w p → Bw p wq → Bw p wq from fun _ k => k) HB.out (Bw.trans (by repeat (first | exact Bw.refl _ | apply Bw.alloc | apply Bw.drewN | apply Bw.drew)) hb1); replace HB := hid (HB.out.trans hbq1); clear hb1 hbq1)
        | (go_at_call 6; refine (num_any _ _).mono ?_; rintro e wn ⟨rfl, hwn⟩; subst wn)
        | (go_at_call 7; refine (live_any (HO.out.bw (HB.out.trans (by repeat (first | exact Bw.refl _ | apply Bw.alloc | apply Bw.drewN | apply Bw.drew))))).mono ?_; rintro e wq ⟨rfl, hb1⟩; have hbq3 := (show ∀ {p : World}, Bw w p → Bw p wq → Bw p wq from fun _ k => k) HB.out (Bw.trans (by repeat (first | exact Bw.refl _ | apply Bw.alloc | apply Bw.drewN | apply Bw.drew)) hb1); replace HB := hid (HB.out.trans hbq3); clear hb1 hbq3)
        | fail)
      all_goals go_ret
      all_goals exact ⟨rfl, HB.out⟩
  have hpl : pl a0 = true := decide_eq_true hp
  have HOK := hid (show oks (iIm (gm a0)) = true by rw [gm_oks]; exact hpl)
  obtain ⟨B, hB⟩ : ∃ B, byts (iIm (gm a0)) = B := ⟨_, rfl⟩
  have HBB := hid hB
  have HL := hid (show B.length = 7 + (nb a0.toNat).length by rw [← hB, gm_len]; simp [It.b, hpl])
  have HLE := hid (show B.length ≤ 4194304 by rw [← hB]; exact gm_le a0)
  have HN9 := hid (show (nb a0.toNat).length ≤ 9 from nb_le 8 _ (Nat.le_refl _) (pl_lim hpl).2)
  have HD := hid (by have := dec_enc (gm a0) HOK.out; rw [hB] at this; exact this : decS B = (B.length, 0) ∧ decI B = gm a0)
  have h0 : ¬ a0 < 0 := by omega
  have h1 : decide (4611686018427387903 < a0) = false := decide_eq_false (by omega)
  have HP := hid hp
  clear hB hpl hp
  go_enter Tryd.func3, Tryd.ntmps3
  go_wp2_with (first
    | (go_at_call 5; (fail_if_success (have _q := HX)); refine (enc_yes (HG.out _) B HBB.out HLE.out HOK.out).mono ?_; rintro e wq ⟨hb1, ax, cx, rfl, hx, hby⟩; have hbq4 := (show ∀ {p : World}, Bw w p → Bw p wq → Bw p wq from fun _ k => k) HB.out (Bw.trans (by repeat (first | exact Bw.refl _ | apply Bw.alloc | apply Bw.drewN | apply Bw.drew)) hb1); replace HB := hid (HB.out.trans hbq4); clear hb1 hbq4; have HX := hid hx; have HXB := hid hby; clear hx hby)
    | (go_at_call 6; refine (num_any _ _).mono ?_; rintro e wn ⟨rfl, hwn⟩; subst wn)
    | fail)
  go_loopw [5, 6] (fun k m wr => ∃ (k' : Nat) (m' : Int), k = .int .i64 (k' : Nat) ∧ m = .int .i64 m' ∧ (0 ≤ m' ∧ m' ≤ 4611686018427387903) ∧ k' + (nb m'.toNat).length = 1 + (nb a0.toNat).length ∧ wr = wq) (fun _ m _ => (intOf m).toNat)
  case atStart => exact ⟨1, a0, rfl, rfl, HP.out, rfl, rfl⟩
  case round =>
    obtain ⟨k, m, rfl, rfl, hm, hl, hw⟩ := hrel
    subst wr
    have HLL := hid hl
    clear hl
    have hk9 : k ≤ 20 := by have := HLL.out; have := HN9.out; omega
    by_cases hlt : m < 128
    · have hge : ¬ 128 ≤ m := by omega
      have HK := hid (show k = (nb a0.toNat).length by have := HLL.out; rw [nbI_small hm.1 hlt] at this; simp at this; omega)
      have hlen : ((B.length : Int) == 7 + (k : Int)) = true := by rw [beq_iff_eq, HL.out, HK.out]; omega
      go_wp2_with (first
        | (go_at_call 8; refine (dec_w HX.out HXB.out HLE.out (B.length, 0) HD.out.1 (gm a0) HD.out.2).mono ?_; rintro e wq ⟨hb1, xn1, xn2, xn3, xa1, xa2, xa3, xc1, xc2, xc3, rfl, hi1⟩; have hbq5 := (show ∀ {p : World}, Bw w p → Bw p wq → Bw p wq from fun _ k => k) HB.out (Bw.trans (by repeat (first | exact Bw.refl _ | apply Bw.alloc | apply Bw.drewN | apply Bw.drew)) hb1); replace HB := hid (HB.out.trans hbq5); clear hb1 hbq5; unfold ImA gm; clear hi1)
        | (go_at_call 6; refine (num_any _ _).mono ?_; rintro e wn ⟨rfl, hwn⟩; subst wn)
        | (go_at_call 7; refine (live_any (HO.out.bw (HB.out.trans (by repeat (first | exact Bw.refl _ | apply Bw.alloc | apply Bw.drewN | apply Bw.drew))))).mono ?_; rintro e wq ⟨rfl, hb1⟩; have hbq6 := (show ∀ {p : World}, Bw w p → Bw p wq → Bw p wq from fun _ k => k) HB.out (Bw.trans (by repeat (first | exact Bw.refl _ | apply Bw.alloc | apply Bw.drewN | apply Bw.drew)) hb1); replace HB := hid (HB.out.trans hbq6); clear hb1 hbq6)
        | fail)
      all_goals go_ret
      all_goals exact ⟨rfl, HB.out⟩
    · have hge : 128 ≤ m := by omega
      have hq : m.tdiv 128 = m / 128 := Int.tdiv_eq_ediv_of_nonneg hm.1
      have hq2 : -9223372036854775808 ≤ m / 128 ∧ m / 128 ≤ 9223372036854775807 := by omega
      have HS := hid (show (nb m.toNat).length = 1 + (nb (m / 128).toNat).length by rw [nbI_big hge]; simp; omega)
      go_wp2
      go_roundw
      case rel => exact ⟨k + 1, m / 128, by go_num, rfl, by omega, by have := HLL.out; have := HS.out; omega, by first | rfl | trivial⟩
      case measure => simp [intOf]; omega

set_option maxRecDepth 100000 in
theorem lifted (os : Os) (started : os.Started) (H : Type) (enc : TypeId × Value → H) :
    ReturnsInHanded {} Tryd.checked os 3 .any (fun w args => (Rows.codeNumbersSpec.pre enc Tryd.prog Tryd.f3 [] false w args ∧ laidMetH Tryd.prog laidS w) ∧ sizedMet enc Tryd.prog Tryd.f3 (OpenSpec.ofChange Rows.codeNumbersSpec) false w args)
      (Rows.codeNumbersSpec.post enc Tryd.prog Tryd.f3 false true false false) := by
  refine returnsInHanded_of_change_and (C := Tryd.checked) (X := fun w _ => laidMetH Tryd.prog laidS w) (fun _ _ _ hh h => h.of_heap hh) ownK started (by kernel_rfl) Tryd.func3
    (ChangeSpec.witness_shaped (enc := enc) (C := Tryd.checked) (os := os) (X := fun w _ => laidMetH Tryd.prog laidS w) false (World.doorLaid Tryd.prog 400 os) #[.int .i64 0] 8 rfl (World.shaped_of_RefB (by kernel_rfl) (by kernel_rfl)) (by kernel_rfl) (by kernel_rfl) (by kernel_rfl) (door_met os _)) ?_
  intro W base args ds gs before hval0 hW _ _ hL _
  have hval : ∀ (j : Nat) t v, Tryd.f3.params[j]? = some t → args[j]? = some v → Value.okWide Tryd.prog W .any base t v := hval0
  have hW' := hW
  obtain ⟨p, q, hA0, hV, rfl, hfz, hnd⟩ := hW
  have hA : DataW.TrodAll enc Tryd.prog W 0 (fun _ => true) true Tryd.f3.params.toList args.toList ds p := hA0
  rw [Tryd.params3] at hA hval
  obtain ⟨v0, vs0, d0, ds0, p0, q0, hargs, rfl, rfl, h0, r0⟩ := trodAll_cons hA
  obtain ⟨rfl, rfl, rfl⟩ := trodAll_nil r0
  obtain rfl : args = #[v0] := by cases args; simp_all
  obtain ⟨rfl, rfl⟩ := trodVars_none hV
  have k0 := h0
  have lt0 : ∀ x ∈ p0, x.block < W.heap.size := by obtain ⟨m, hm⟩ := k0; exact DataW.trod_lt m _ _ _ hm
  obtain ⟨a0, rfl, rfl, rfl, w00⟩ := open_int Tryd.underlying3 (hval 0 3 v0 rfl rfl) h0
  have w0 := bounds_i64 w00
  have hs := og_of_laid hL
  clear hA0 hval0
  refine (walk a0 w0 W hs).mono fun e W' ⟨he, bel⟩ => ?_
  subst he
  exact ⟨_, rfl, _, _, _, [], _, [], hW', trodAll_mk1 (shut_bool Tryd.underlying4 _), (trodAll_cons_mk (Below.trod laidOut (by kernel_rfl) (of_decide_eq_true (by kernel_rfl)) k0 bel lt0) trodAll_mk0), rfl, Below.frame bel _, fun h => by cases h⟩

theorem over : Rows.codeNumbersRow.holds Tryd.pinned (OpenSpec.ofChange Rows.codeNumbersSpec) :=
  OpenClaim.holds_of_wide 3 Tryd.f3 rfl rfl rfl rfl rfl rfl rfl ⟨rfl, rfl, rfl, rfl, rfl⟩ rfl rfl rfl rfl rfl (by kernel_rfl) Tryd.func3 (by kernel_rfl)
    (of_decide_eq_true (by kernel_rfl)) (by unfold Func.isWrapper; first | (rw [if_pos (by decide +kernel)]; kernel_rfl) | (rw [if_neg (by decide +kernel)]; exact ⟨rfl, rfl⟩))
    (fun os started H enc _ => lifted os started H enc)

theorem card : Rows.CodeNumbersCardSaid :=
  Claim7.holds_tied_plain_at .later [] [.data] true (true, "f41932f1fec4f880ca3a7597c518728bdb9ecdb292deeab48141b47d93060da9") false
    over (fun _ h => by cases h) (by kernel_rfl) (fun _ h => by cases h) codeNumbers_row_tie rfl ⟨rfl, rfl⟩ (by kernel_rfl) rfl
    (fun f fn hf hfn => by
      obtain rfl : f = 3 := Option.some.inj ((show Tryd.prog.funcNamed "jacquard/jacquardlaw10.CodeNumbers" = some 3 by kernel_rfl).symm.trans hf) |>.symm
      obtain rfl : fn = Tryd.f3 := (Option.some.inj (Tryd.func3.symm.trans hfn)).symm
      exact ⟨by kernel_rfl, fun j t ht => by
        rw [Tryd.params3] at ht
        have hm : t ∈ [3] := by have h9 := Array.mem_of_getElem? ht; simp at h9 ⊢; first | exact h9 | (rcases h9 with h9 | h9 <;> simp [h9]; done) | (rcases h9 with h9 | h9 | h9 <;> simp [h9]; done) | (rcases h9 with h9 | h9 | h9 | h9 <;> simp [h9]; done)
        have hall : ([3].all fun u => !Tryd.prog.wantsStandIn u) = true := by kernel_rfl
        exact (show Tryd.prog.wantsStandIn t = false by simpa using List.all_eq_true.1 hall t hm)⟩)
    (by kernel_rfl)
end Go.Proofs.YtmhjfkhcpfihfabDoor.codeNumbers
namespace Go.Proofs.YtmhjfkhcpfihfabDoor
theorem codeNumbers_holds : Rows.CodeNumbersCardSaid := codeNumbers.card
#print axioms codeNumbers_holds
end Go.Proofs.YtmhjfkhcpfihfabDoor
