/- For every two numbers and operand: each instruction has a name, unlike all others', takes 3 values and its operand at most, and puts one at most (P10.1): the statement CodeEffects returns true. -/
import Derived.Test.YtmhjfkhcpfihfabDoorFg
set_option linter.unusedVariables false
set_option linter.unusedSimpArgs false
namespace Go.Proofs.YtmhjfkhcpfihfabDoor.codeEffects
open Go.ChangeShapes Go.WideShapes Go.ChangeAt Go.RowKit

theorem walk (a0 : Int) (w0 : -9223372036854775808 ≤ a0 ∧ a0 ≤ 9223372036854775807) (a1 : Int) (w1 : -9223372036854775808 ≤ a1 ∧ a1 ≤ 9223372036854775807) (a2 : Int) (w2 : 0 ≤ a2 ∧ a2 ≤ 255) (w : World) (hs : Og w) :
    Calls Tryd.prog 4 #[.int .i64 a0, .int .i64 a1, .int .u8 a2] w fun e w' => e = .returned (.bool true) ∧ Bw w w' := by
  have HO := hid hs
  have HB := hid (Bw.refl w)
  clear hs
  cases hq : isOp a0
  · have HNa0 := hid (show strOfNums (nameM a0) = ⟨#[]⟩ by unfold nameM; rw [hq]; rfl)
    have HNa1 := hid (rfl : strOfNums (nameM a1) = strOfNums (nameM a1))
    have HE := hid (show effM [] a0 0 = (0, 0, 8) by unfold effM; rw [hq]; rfl)
    have HSF := hid (show safeM a0 = false by unfold safeM; rw [hq]; rfl)
    have hni : a0 < 0 ∨ 33 ≤ a0 := by unfold isOp at hq; rw [decide_eq_false_iff_not] at hq; omega
    generalize strOfNums (nameM a1) = s1 at HNa1
    clear hq
    by_cases h0 : a0 < 0
    · clear hni
      go_enter Tryd.func4, Tryd.ntmps4
      go_wp2_with (first
        | (go_at_call_of 9 (Value.int .i64 a0); refine (name_any a0 (HO.out.bw (HB.out.trans (by repeat (first | exact Bw.refl _ | apply Bw.alloc | apply Bw.drewN | apply Bw.drew))))).mono ?_; rintro e wn ⟨rfl, hwn⟩; subst wn; rw [HNa0.out])
        | (go_at_call_of 9 (Value.int .i64 a1); refine (name_any a1 (HO.out.bw (HB.out.trans (by repeat (first | exact Bw.refl _ | apply Bw.alloc | apply Bw.drewN | apply Bw.drew))))).mono ?_; rintro e wn ⟨rfl, hwn⟩; subst wn; skip)
        | (go_at_call 10; refine (effect_any 0 0 0 0 0 none none none 0 a0 0 0 [] (fun _ => True) (HO.out.bw (HB.out.trans (by repeat (first | exact Bw.refl _ | apply Bw.alloc | apply Bw.drewN | apply Bw.drew)))) ⟨Sl.nil _ _ _, by simp, by simp, fun _ => rfl⟩ (by unfold I64; omega) (by simp)).mono ?_; rw [List.map_nil, HE.out]; rintro e wq ⟨rfl, hb1⟩; have hbq7 := (show ∀ {p : World}, Bw w p → Bw p wq → Bw p wq from fun _ k => k) HB.out (Bw.trans (by repeat (first | exact Bw.refl _ | apply Bw.alloc | apply Bw.drewN | apply Bw.drew)) hb1); replace HB := hid (HB.out.trans hbq7); clear hb1 hbq7)
        | (go_at_call 11; refine (safe_any a0 (HO.out.bw (HB.out.trans (by repeat (first | exact Bw.refl _ | apply Bw.alloc | apply Bw.drewN | apply Bw.drew))))).mono ?_; rintro e wn ⟨rfl, hwn⟩; subst wn; rw [HSF.out])
        | (go_at_call 6; refine (num_any _ _).mono ?_; rintro e wn ⟨rfl, hwn⟩; subst wn)
        | (go_at_call 7; refine (live_any (HO.out.bw (HB.out.trans (by repeat (first | exact Bw.refl _ | apply Bw.alloc | apply Bw.drewN | apply Bw.drew))))).mono ?_; rintro e wq ⟨rfl, hb1⟩; have hbq8 := (show ∀ {p : World}, Bw w p → Bw p wq → Bw p wq from fun _ k => k) HB.out (Bw.trans (by repeat (first | exact Bw.refl _ | apply Bw.alloc | apply Bw.drewN | apply Bw.drew)) hb1); replace HB := hid (HB.out.trans hbq8); clear hb1 hbq8)
        | fail)
      all_goals go_ret
      all_goals exact ⟨rfl, HB.out⟩
    · have h33 : decide (33 ≤ a0) = true := decide_eq_true (by omega)
      clear hni
      go_enter Tryd.func4, Tryd.ntmps4
      go_wp2_with (first
        | (go_at_call_of 9 (Value.int .i64 a0); refine (name_any a0 (HO.out.bw (HB.out.trans (by repeat (first | exact Bw.refl _ | apply Bw.alloc | apply Bw.drewN | apply Bw.drew))))).mono ?_; rintro e wn ⟨rfl, hwn⟩; subst wn; rw [HNa0.out])
        | (go_at_call_of 9 (Value.int .i64 a1); refine (name_any a1 (HO.out.bw (HB.out.trans (by repeat (first | exact Bw.refl _ | apply Bw.alloc | apply Bw.drewN | apply Bw.drew))))).mono ?_; rintro e wn ⟨rfl, hwn⟩; subst wn; skip)
        | (go_at_call 10; refine (effect_any 0 0 0 0 0 none none none 0 a0 0 0 [] (fun _ => True) (HO.out.bw (HB.out.trans (by repeat (first | exact Bw.refl _ | apply Bw.alloc | apply Bw.drewN | apply Bw.drew)))) ⟨Sl.nil _ _ _, by simp, by simp, fun _ => rfl⟩ (by unfold I64; omega) (by simp)).mono ?_; rw [List.map_nil, HE.out]; rintro e wq ⟨rfl, hb1⟩; have hbq7 := (show ∀ {p : World}, Bw w p → Bw p wq → Bw p wq from fun _ k => k) HB.out (Bw.trans (by repeat (first | exact Bw.refl _ | apply Bw.alloc | apply Bw.drewN | apply Bw.drew)) hb1); replace HB := hid (HB.out.trans hbq7); clear hb1 hbq7)
        | (go_at_call 11; refine (safe_any a0 (HO.out.bw (HB.out.trans (by repeat (first | exact Bw.refl _ | apply Bw.alloc | apply Bw.drewN | apply Bw.drew))))).mono ?_; rintro e wn ⟨rfl, hwn⟩; subst wn; rw [HSF.out])
        | (go_at_call 6; refine (num_any _ _).mono ?_; rintro e wn ⟨rfl, hwn⟩; subst wn)
        | (go_at_call 7; refine (live_any (HO.out.bw (HB.out.trans (by repeat (first | exact Bw.refl _ | apply Bw.alloc | apply Bw.drewN | apply Bw.drew))))).mono ?_; rintro e wq ⟨rfl, hb1⟩; have hbq8 := (show ∀ {p : World}, Bw w p → Bw p wq → Bw p wq from fun _ k => k) HB.out (Bw.trans (by repeat (first | exact Bw.refl _ | apply Bw.alloc | apply Bw.drewN | apply Bw.drew)) hb1); replace HB := hid (HB.out.trans hbq8); clear hb1 hbq8)
        | fail)
      all_goals go_ret
      all_goals exact ⟨rfl, HB.out⟩
  · obtain ⟨n, p, hev, hn, hp⟩ := effk_val (k := 256) (Nat.le_refl _) hq w2
    have HEV := hid hev
    obtain ⟨i1, hi1, hz1, hs1, hy1⟩ := info_parts infoEL
    have I1 := hid (And.intro hi1 (And.intro hz1 (And.intro hs1 hy1)))
    clear hi1 hz1 hs1 hy1 hev
    have hop : 0 ≤ a0 ∧ a0 < 33 := by unfold isOp at hq; rwa [decide_eq_true_eq] at hq
    have h0 : ¬ a0 < 0 := by omega
    have h33 : decide (33 ≤ a0) = false := decide_eq_false (by omega)
    obtain ⟨fi, hff, hfi⟩ := isOp_fin hq
    clear hff
    obtain ⟨s0, hs0⟩ : ∃ s, strOfNums (nameM a0) = s := ⟨_, rfl⟩
    have HNa0 := hid hs0
    have hsz : (0 : Int) < (s0.size : Int) := by
      rw [← hs0, strOfNums_size, hfi]
      have := List.length_pos_iff.2 (name_pos fi)
      omega
    have hn3 : -9223372036854775808 ≤ 3 + a2 ∧ 3 + a2 ≤ 9223372036854775807 := by omega
    have hn1 := hn.1
    have hn2 := hn.2
    have hp1 := hp.1
    have hp2 := hp.2
    by_cases heq : a0 = a1
    · have hcmp : (s0.toList == s0.toList) = true := by simp
      have heq2 : (a1 == a1) = true := by simp
      subst heq
      clear hop hq hfi hs0 hn hp
      go_enter Tryd.func4, Tryd.ntmps4
      go_wp2_with (first
        | (go_at_call_of 9 (Value.int .i64 a0); refine (name_any a0 (HO.out.bw (HB.out.trans (by repeat (first | exact Bw.refl _ | apply Bw.alloc | apply Bw.drewN | apply Bw.drew))))).mono ?_; rw [HNa0.out]; rintro e wn ⟨rfl, hwn⟩; subst wn)
        | (at_make; refine wpList_make_full _ rfl _ _ 28 rfl 0 59 i1 (.slice none 0 0) 1 undLL I1.out.1 I1.out.2.1 I1.out.2.2.1 _ _ _ _ 256 rfl rfl rfl rfl (by rw [I1.out.2.2.2]; decide) (by unfold maxLen; decide) (Nat.zero_le _) ?_; intro wq hown hgr; have hb1 := (show ∀ {p : World}, Bw w p → Bw p wq → Bw p wq from fun _ k => k) HB.out (bw_none hgr); replace HB := hid (HB.out.trans hb1); have HK := hid (rk_made (by unfold maxLen; decide) (madek hown)); clear hown hgr hb1)
        | (go_at_call 10; refine (effk_any (k := 256) _ a0 a2 (HO.out.bw HB.out) HK.out (by unfold I64; omega) n p HEV.out).mono ?_; rintro e wq ⟨rfl, hb1⟩; have hbq9 := (show ∀ {p : World}, Bw w p → Bw p wq → Bw p wq from fun _ k => k) HB.out (Bw.trans (by repeat (first | exact Bw.refl _ | apply Bw.alloc | apply Bw.drewN | apply Bw.drew)) hb1); replace HB := hid (HB.out.trans hbq9); clear hb1 hbq9)
        | (go_at_call 6; refine (num_any _ _).mono ?_; rintro e wn ⟨rfl, hwn⟩; subst wn)
        | (go_at_call 7; refine (live_any (HO.out.bw (HB.out.trans (by repeat (first | exact Bw.refl _ | apply Bw.alloc | apply Bw.drewN | apply Bw.drew))))).mono ?_; rintro e wq ⟨rfl, hb1⟩; have hbq10 := (show ∀ {p : World}, Bw w p → Bw p wq → Bw p wq from fun _ k => k) HB.out (Bw.trans (by repeat (first | exact Bw.refl _ | apply Bw.alloc | apply Bw.drewN | apply Bw.drew)) hb1); replace HB := hid (HB.out.trans hbq10); clear hb1 hbq10)
        | fail)
      all_goals go_ret
      all_goals exact ⟨rfl, HB.out⟩
    · obtain ⟨s1, hs1⟩ : ∃ s, strOfNums (nameM a1) = s := ⟨_, rfl⟩
      have HNa1 := hid hs1
      have hcmp : (s0.toList == s1.toList) = false := by
        rw [beq_eq_false_iff_ne]
        intro e
        have e2 := strOfNums_inj (nameM_byt a0) (nameM_byt a1) (by rw [hs0, hs1]; exact str_inj e)
        exact heq ((nameM_inj hq).1 e2)
      have heq2 : (a0 == a1) = false := by simp [heq]
      clear hop hq hfi hs0 hs1 hn hp heq
      go_enter Tryd.func4, Tryd.ntmps4
      go_wp2_with (first
        | (go_at_call_of 9 (Value.int .i64 a0); refine (name_any a0 (HO.out.bw (HB.out.trans (by repeat (first | exact Bw.refl _ | apply Bw.alloc | apply Bw.drewN | apply Bw.drew))))).mono ?_; rw [HNa0.out]; rintro e wn ⟨rfl, hwn⟩; subst wn)
        | (go_at_call_of 9 (Value.int .i64 a1); refine (name_any a1 (HO.out.bw (HB.out.trans (by repeat (first | exact Bw.refl _ | apply Bw.alloc | apply Bw.drewN | apply Bw.drew))))).mono ?_; rw [HNa1.out]; rintro e wn ⟨rfl, hwn⟩; subst wn)
        | (at_make; refine wpList_make_full _ rfl _ _ 28 rfl 0 59 i1 (.slice none 0 0) 1 undLL I1.out.1 I1.out.2.1 I1.out.2.2.1 _ _ _ _ 256 rfl rfl rfl rfl (by rw [I1.out.2.2.2]; decide) (by unfold maxLen; decide) (Nat.zero_le _) ?_; intro wq hown hgr; have hb1 := (show ∀ {p : World}, Bw w p → Bw p wq → Bw p wq from fun _ k => k) HB.out (bw_none hgr); replace HB := hid (HB.out.trans hb1); have HK := hid (rk_made (by unfold maxLen; decide) (madek hown)); clear hown hgr hb1)
        | (go_at_call 10; refine (effk_any (k := 256) _ a0 a2 (HO.out.bw HB.out) HK.out (by unfold I64; omega) n p HEV.out).mono ?_; rintro e wq ⟨rfl, hb1⟩; have hbq9 := (show ∀ {p : World}, Bw w p → Bw p wq → Bw p wq from fun _ k => k) HB.out (Bw.trans (by repeat (first | exact Bw.refl _ | apply Bw.alloc | apply Bw.drewN | apply Bw.drew)) hb1); replace HB := hid (HB.out.trans hbq9); clear hb1 hbq9)
        | (go_at_call 6; refine (num_any _ _).mono ?_; rintro e wn ⟨rfl, hwn⟩; subst wn)
        | (go_at_call 7; refine (live_any (HO.out.bw (HB.out.trans (by repeat (first | exact Bw.refl _ | apply Bw.alloc | apply Bw.drewN | apply Bw.drew))))).mono ?_; rintro e wq ⟨rfl, hb1⟩; have hbq11 := (show ∀ {p : World}, Bw w p → Bw p wq → Bw p wq from fun _ k => k) HB.out (Bw.trans (by repeat (first | exact Bw.refl _ | apply Bw.alloc | apply Bw.drewN | apply Bw.drew)) hb1); replace HB := hid (HB.out.trans hbq11); clear hb1 hbq11)
        | fail)
      all_goals go_ret
      all_goals exact ⟨rfl, HB.out⟩

set_option maxRecDepth 100000 in
theorem lifted (os : Os) (started : os.Started) (H : Type) (enc : TypeId × Value → H) :
    ReturnsInHanded {} Tryd.checked os 4 .any (fun w args => (Rows.codeEffectsSpec.pre enc Tryd.prog Tryd.f4 [] false w args ∧ laidMetH Tryd.prog laidS w) ∧ sizedMet enc Tryd.prog Tryd.f4 (OpenSpec.ofChange Rows.codeEffectsSpec) false w args)
      (Rows.codeEffectsSpec.post enc Tryd.prog Tryd.f4 false true false false) := by
  refine returnsInHanded_of_change_and (C := Tryd.checked) (X := fun w _ => laidMetH Tryd.prog laidS w) (fun _ _ _ hh h => h.of_heap hh) ownK started (by kernel_rfl) Tryd.func4
    (ChangeSpec.witness_shaped (enc := enc) (C := Tryd.checked) (os := os) (X := fun w _ => laidMetH Tryd.prog laidS w) false (World.doorLaid Tryd.prog 400 os) #[.int .i64 0, .int .i64 0, .int .u8 0] 8 rfl (World.shaped_of_RefB (by kernel_rfl) (by kernel_rfl)) (by kernel_rfl) (by kernel_rfl) (by kernel_rfl) (door_met os _)) ?_
  intro W base args ds gs before hval0 hW _ _ hL _
  have hval : ∀ (j : Nat) t v, Tryd.f4.params[j]? = some t → args[j]? = some v → Value.okWide Tryd.prog W .any base t v := hval0
  have hW' := hW
  obtain ⟨p, q, hA0, hV, rfl, hfz, hnd⟩ := hW
  have hA : DataW.TrodAll enc Tryd.prog W 0 (fun _ => true) true Tryd.f4.params.toList args.toList ds p := hA0
  rw [Tryd.params4] at hA hval
  obtain ⟨v0, vs0, d0, ds0, p0, q0, hargs, rfl, rfl, h0, r0⟩ := trodAll_cons hA
  obtain ⟨v1, vs1, d1, ds1, p1, q1, rfl, rfl, rfl, h1, r1⟩ := trodAll_cons r0
  obtain ⟨v2, vs2, d2, ds2, p2, q2, rfl, rfl, rfl, h2, r2⟩ := trodAll_cons r1
  obtain ⟨rfl, rfl, rfl⟩ := trodAll_nil r2
  obtain rfl : args = #[v0, v1, v2] := by cases args; simp_all
  obtain ⟨rfl, rfl⟩ := trodVars_none hV
  have k0 := h0
  have lt0 : ∀ x ∈ p0, x.block < W.heap.size := by obtain ⟨m, hm⟩ := k0; exact DataW.trod_lt m _ _ _ hm
  have k1 := h1
  have lt1 : ∀ x ∈ p1, x.block < W.heap.size := by obtain ⟨m, hm⟩ := k1; exact DataW.trod_lt m _ _ _ hm
  have k2 := h2
  have lt2 : ∀ x ∈ p2, x.block < W.heap.size := by obtain ⟨m, hm⟩ := k2; exact DataW.trod_lt m _ _ _ hm
  obtain ⟨a0, rfl, rfl, rfl, w00⟩ := open_int Tryd.underlying3 (hval 0 3 v0 rfl rfl) h0
  have w0 := bounds_i64 w00
  obtain ⟨a1, rfl, rfl, rfl, w10⟩ := open_int Tryd.underlying3 (hval 1 3 v1 rfl rfl) h1
  have w1 := bounds_i64 w10
  obtain ⟨a2, rfl, rfl, rfl, w20⟩ := open_int Tryd.underlying5 (hval 2 5 v2 rfl rfl) h2
  have w2 : 0 ≤ a2 ∧ a2 ≤ 255 := by have := bounds_u8 w20; omega
  have hs := og_of_laid hL
  clear hA0 hval0
  refine (walk a0 w0 a1 w1 a2 w2 W hs).mono fun e W' ⟨he, bel⟩ => ?_
  subst he
  exact ⟨_, rfl, _, _, _, [], _, [], hW', trodAll_mk1 (shut_bool Tryd.underlying4 _), (trodAll_cons_mk (Below.trod laidOut (by kernel_rfl) (of_decide_eq_true (by kernel_rfl)) k0 bel lt0) (trodAll_cons_mk (Below.trod laidOut (by kernel_rfl) (of_decide_eq_true (by kernel_rfl)) k1 bel lt1) (trodAll_cons_mk (Below.trod laidOut (by kernel_rfl) (of_decide_eq_true (by kernel_rfl)) k2 bel lt2) trodAll_mk0))), rfl, Below.frame bel _, fun h => by cases h⟩

theorem over : Rows.codeEffectsRow.holds Tryd.pinned (OpenSpec.ofChange Rows.codeEffectsSpec) :=
  OpenClaim.holds_of_wide 4 Tryd.f4 rfl rfl rfl rfl rfl rfl rfl ⟨rfl, rfl, rfl, rfl, rfl⟩ rfl rfl rfl rfl rfl (by kernel_rfl) Tryd.func4 (by kernel_rfl)
    (of_decide_eq_true (by kernel_rfl)) (by unfold Func.isWrapper; first | (rw [if_pos (by decide +kernel)]; kernel_rfl) | (rw [if_neg (by decide +kernel)]; exact ⟨rfl, rfl⟩))
    (fun os started H enc _ => lifted os started H enc)

theorem card : Rows.CodeEffectsCardSaid :=
  Claim7.holds_tied_plain_at .later [] [.data] true (true, "f41932f1fec4f880ca3a7597c518728bdb9ecdb292deeab48141b47d93060da9") false
    over (fun _ h => by cases h) (by kernel_rfl) (fun _ h => by cases h) codeEffects_row_tie rfl ⟨rfl, rfl⟩ (by kernel_rfl) rfl
    (fun f fn hf hfn => by
      obtain rfl : f = 4 := Option.some.inj ((show Tryd.prog.funcNamed "jacquard/jacquardlaw10.CodeEffects" = some 4 by kernel_rfl).symm.trans hf) |>.symm
      obtain rfl : fn = Tryd.f4 := (Option.some.inj (Tryd.func4.symm.trans hfn)).symm
      exact ⟨by kernel_rfl, fun j t ht => by
        rw [Tryd.params4] at ht
        have hm : t ∈ [3, 5] := by have h9 := Array.mem_of_getElem? ht; simp at h9 ⊢; first | exact h9 | (rcases h9 with h9 | h9 <;> simp [h9]; done) | (rcases h9 with h9 | h9 | h9 <;> simp [h9]; done) | (rcases h9 with h9 | h9 | h9 | h9 <;> simp [h9]; done)
        have hall : ([3, 5].all fun u => !Tryd.prog.wantsStandIn u) = true := by kernel_rfl
        exact (show Tryd.prog.wantsStandIn t = false by simpa using List.all_eq_true.1 hall t hm)⟩)
    (by kernel_rfl)
end Go.Proofs.YtmhjfkhcpfihfabDoor.codeEffects
namespace Go.Proofs.YtmhjfkhcpfihfabDoor
theorem codeEffects_holds : Rows.CodeEffectsCardSaid := codeEffects.card
#print axioms codeEffects_holds
end Go.Proofs.YtmhjfkhcpfihfabDoor
