/- For every image: Encode answers the bytes, or the error, that the document tells (P10.3, P10.4): the statement CodeEncodes returns true, and its argument reads as before. -/
import Derived.Test.YtfhnhbpmiodomaaDoorEf
set_option linter.unusedVariables false
set_option linter.unusedSimpArgs false
namespace Go.Proofs.YtfhnhbpmiodomaaDoor.codeEncodes
open Go.ChangeShapes Go.WideShapes Go.ChangeAt Go.RowKit

set_option maxRecDepth 100000 in
set_option maxHeartbeats 1000000 in
theorem walk (vf0 vs0 vk0 : Value) (m0 : AIm) (w : World) (hs : Og w) (w0 : RIm w (fun _ => True) vf0 vs0 vk0 m0) :
    Calls Tryd.prog 3 #[imV vf0 vs0 vk0 m0] w fun e w' => e = .returned (.bool true) ∧ Bw w w' := by
  obtain ⟨in1, ia1, ic1, ie1⟩ := w0.f1
  obtain ⟨in2, ia2, ic2, ie2⟩ := w0.f2
  obtain ⟨in3, ia3, ic3, ie3⟩ := w0.f3
  subst ie1 ie2 ie3
  unfold imV
  have HM := hid w0
  have HO := hid hs
  have HP := hid (Blk.new w #[.slice ia1 in1 ic1, .slice ia2 in2 ic2, .slice ia3 in3 ic3, .int .i64 m0.globals] 26)
  have HW0 := hid (show Bw w (w.alloc (.cells #[.slice ia1 in1 ic1, .slice ia2 in2 ic2, .slice ia3 in3 ic3, .int .i64 m0.globals] 26)) from Bw.alloc (Bw.refl w) _)
  have HB := hid (Bw.refl (w.alloc (.cells #[.slice ia1 in1 ic1, .slice ia2 in2 ic2, .slice ia3 in3 ic3, .int .i64 m0.globals] 26)))
  obtain ⟨B, hB⟩ : ∃ B, byts (iIm m0) = B := ⟨_, rfl⟩
  have HBB := hid hB
  clear w0 hs hB
  cases hok : oks (iIm m0)
  · have HOK := hid hok
    clear hok
    have hcn : ∀ w, (convert 29 9 (.slice none 0 0)).run Tryd.prog w = .ok (.string (strOfNums [])) w := fun w => conv_sl (l := []) (Sl.nil w (fun _ => True) 1)
    go_enter Tryd.func3, Tryd.ntmps3
    go_wp2_with (first
      | (go_at_call 5; refine (big_any _ _ _ m0 (fun _ => True) (HM.out.bw (HW0.out.trans (HB.out.trans (by repeat (first | exact Bw.refl _ | apply Bw.alloc | apply Bw.drewN | apply Bw.drew)))))).mono ?_; rintro e wq ⟨q, rfl, hq, hb1⟩; have hbq1 := (show ∀ {p : World}, Bw (w.alloc (.cells #[.slice ia1 in1 ic1, .slice ia2 in2 ic2, .slice ia3 in3 ic3, .int .i64 m0.globals] 26)) p → Bw p wq → Bw p wq from fun _ k => k) HB.out (Bw.trans (by repeat (first | exact Bw.refl _ | apply Bw.alloc | apply Bw.drewN | apply Bw.drew)) hb1); replace HB := hid (HB.out.trans hbq1); have u1 := (HP.out.bw HB.out).cell; have ul1 := (HP.out.bw HB.out).lt; clear hb1 hbq1; have HQ := hid hq; clear hq; cases q)
      | (go_at_call 6; refine (live_any (HO.out.bw (HW0.out.trans (HB.out.trans (by repeat (first | exact Bw.refl _ | apply Bw.alloc | apply Bw.drewN | apply Bw.drew)))))).mono ?_; rintro e wq ⟨rfl, hb1⟩; have hbq2 := (show ∀ {p : World}, Bw (w.alloc (.cells #[.slice ia1 in1 ic1, .slice ia2 in2 ic2, .slice ia3 in3 ic3, .int .i64 m0.globals] 26)) p → Bw p wq → Bw p wq from fun _ k => k) HB.out (Bw.trans (by repeat (first | exact Bw.refl _ | apply Bw.alloc | apply Bw.drewN | apply Bw.drew)) hb1); replace HB := hid (HB.out.trans hbq2); have u2 := (HP.out.bw HB.out).cell; have ul2 := (HP.out.bw HB.out).lt; clear hb1 hbq2)
      | (go_at_call 9; refine (num_any _ _).mono ?_; rintro e wn ⟨rfl, hwn⟩; subst wn)
      | (go_at_call 7; refine (enc_no (HM.out.bw (HW0.out.trans (HB.out.trans (by repeat (first | exact Bw.refl _ | apply Bw.alloc | apply Bw.drewN | apply Bw.drew))))) (small_len (HQ.out (by simp))) HOK.out).mono ?_; rintro e wq ⟨hb1, rfl⟩; have hbq3 := (show ∀ {p : World}, Bw (w.alloc (.cells #[.slice ia1 in1 ic1, .slice ia2 in2 ic2, .slice ia3 in3 ic3, .int .i64 m0.globals] 26)) p → Bw p wq → Bw p wq from fun _ k => k) HB.out (Bw.trans (by repeat (first | exact Bw.refl _ | apply Bw.alloc | apply Bw.drewN | apply Bw.drew)) hb1); replace HB := hid (HB.out.trans hbq3); have u3 := (HP.out.bw HB.out).cell; have ul3 := (HP.out.bw HB.out).lt; clear hb1 hbq3)
      | (go_at_call 8; refine (rEncode_any _ _ _ m0 (fun _ => True) (HM.out.bw (HW0.out.trans (HB.out.trans (by repeat (first | exact Bw.refl _ | apply Bw.alloc | apply Bw.drewN | apply Bw.drew))))) (HQ.out (by simp)) (small_len2 (HQ.out (by simp)))).mono ?_; rintro e wq ⟨hb1, hr⟩; obtain ⟨hx, _⟩ | ⟨_, rfl⟩ := hr; (rw [HOK.out] at hx; cases hx); have hbq4 := (show ∀ {p : World}, Bw (w.alloc (.cells #[.slice ia1 in1 ic1, .slice ia2 in2 ic2, .slice ia3 in3 ic3, .int .i64 m0.globals] 26)) p → Bw p wq → Bw p wq from fun _ k => k) HB.out (Bw.trans (by repeat (first | exact Bw.refl _ | apply Bw.alloc | apply Bw.drewN | apply Bw.drew)) hb1); replace HB := hid (HB.out.trans hbq4); have u4 := (HP.out.bw HB.out).cell; have ul4 := (HP.out.bw HB.out).lt; clear hb1 hbq4)
      | fail)
    all_goals go_ret
    all_goals exact ⟨rfl, HW0.out.trans HB.out⟩
  · have HOK := hid hok
    clear hok
    go_enter Tryd.func3, Tryd.ntmps3
    go_wp2_with (first
      | (go_at_call 5; refine (big_any _ _ _ m0 (fun _ => True) (HM.out.bw (HW0.out.trans (HB.out.trans (by repeat (first | exact Bw.refl _ | apply Bw.alloc | apply Bw.drewN | apply Bw.drew)))))).mono ?_; rintro e wq ⟨q, rfl, hq, hb1⟩; have hbq5 := (show ∀ {p : World}, Bw (w.alloc (.cells #[.slice ia1 in1 ic1, .slice ia2 in2 ic2, .slice ia3 in3 ic3, .int .i64 m0.globals] 26)) p → Bw p wq → Bw p wq from fun _ k => k) HB.out (Bw.trans (by repeat (first | exact Bw.refl _ | apply Bw.alloc | apply Bw.drewN | apply Bw.drew)) hb1); replace HB := hid (HB.out.trans hbq5); have u5 := (HP.out.bw HB.out).cell; have ul5 := (HP.out.bw HB.out).lt; clear hb1 hbq5; have HQ := hid hq; clear hq; cases q)
      | (go_at_call 6; refine (live_any (HO.out.bw (HW0.out.trans (HB.out.trans (by repeat (first | exact Bw.refl _ | apply Bw.alloc | apply Bw.drewN | apply Bw.drew)))))).mono ?_; rintro e wq ⟨rfl, hb1⟩; have hbq6 := (show ∀ {p : World}, Bw (w.alloc (.cells #[.slice ia1 in1 ic1, .slice ia2 in2 ic2, .slice ia3 in3 ic3, .int .i64 m0.globals] 26)) p → Bw p wq → Bw p wq from fun _ k => k) HB.out (Bw.trans (by repeat (first | exact Bw.refl _ | apply Bw.alloc | apply Bw.drewN | apply Bw.drew)) hb1); replace HB := hid (HB.out.trans hbq6); have u6 := (HP.out.bw HB.out).cell; have ul6 := (HP.out.bw HB.out).lt; clear hb1 hbq6)
      | (go_at_call 9; refine (num_any _ _).mono ?_; rintro e wn ⟨rfl, hwn⟩; subst wn)
      | (go_at_call 7; refine (enc_yes (HM.out.bw (HW0.out.trans (HB.out.trans (by repeat (first | exact Bw.refl _ | apply Bw.alloc | apply Bw.drewN | apply Bw.drew))))) B HBB.out (by rw [← HBB.out]; exact small_len (HQ.out (by simp))) HOK.out).mono ?_; rintro e wq ⟨hb1, az, cz, rfl, hz, _⟩; have hbq7 := (show ∀ {p : World}, Bw (w.alloc (.cells #[.slice ia1 in1 ic1, .slice ia2 in2 ic2, .slice ia3 in3 ic3, .int .i64 m0.globals] 26)) p → Bw p wq → Bw p wq from fun _ k => k) HB.out (Bw.trans (by repeat (first | exact Bw.refl _ | apply Bw.alloc | apply Bw.drewN | apply Bw.drew)) hb1); replace HB := hid (HB.out.trans hbq7); have u7 := (HP.out.bw HB.out).cell; have ul7 := (HP.out.bw HB.out).lt; clear hb1 hbq7; have HZ := hid hz; clear hz)
      | (go_at_call 8; refine (rEncode_any _ _ _ m0 (fun _ => True) (HM.out.bw (HW0.out.trans (HB.out.trans (by repeat (first | exact Bw.refl _ | apply Bw.alloc | apply Bw.drewN | apply Bw.drew))))) (HQ.out (by simp)) (small_len2 (HQ.out (by simp)))).mono ?_; rintro e wq ⟨hb1, hr⟩; obtain ⟨_, vy, rfl, hy⟩ | ⟨hx, _⟩ := hr; rotate_left; (rw [HOK.out] at hx; cases hx); rw [HBB.out] at hy; obtain ⟨ay, cy, ey⟩ := hy.form; subst ey; have hc1 := conv_sl (HZ.out.below (Bw.trans (by repeat (first | exact Bw.refl _ | apply Bw.alloc | apply Bw.drewN | apply Bw.drew)) hb1)); have hc2 := conv_sl hy.sl; have hbq8 := (show ∀ {p : World}, Bw (w.alloc (.cells #[.slice ia1 in1 ic1, .slice ia2 in2 ic2, .slice ia3 in3 ic3, .int .i64 m0.globals] 26)) p → Bw p wq → Bw p wq from fun _ k => k) HB.out (Bw.trans (by repeat (first | exact Bw.refl _ | apply Bw.alloc | apply Bw.drewN | apply Bw.drew)) hb1); replace HB := hid (HB.out.trans hbq8); have u8 := (HP.out.bw HB.out).cell; have ul8 := (HP.out.bw HB.out).lt; clear hb1 hbq8; clear hy)
      | fail)
    all_goals go_ret
    all_goals exact ⟨rfl, HW0.out.trans HB.out⟩

set_option maxRecDepth 100000 in
theorem lifted (os : Os) (started : os.Started) (H : Type) (enc : TypeId × Value → H) :
    ReturnsInHanded {} Tryd.checked os 3 .any (fun w args => (Rows.codeEncodesSpec.pre enc Tryd.prog Tryd.f3 [] false w args ∧ laidMetH Tryd.prog laidS w) ∧ sizedMet enc Tryd.prog Tryd.f3 (OpenSpec.ofChange Rows.codeEncodesSpec) false w args)
      (Rows.codeEncodesSpec.post enc Tryd.prog Tryd.f3 false true false false) := by
  refine returnsInHanded_of_change_and (C := Tryd.checked) (X := fun w _ => laidMetH Tryd.prog laidS w) (fun _ _ _ hh h => h.of_heap hh) ownK started (by kernel_rfl) Tryd.func3
    (ChangeSpec.witness_shaped (enc := enc) (C := Tryd.checked) (os := os) (X := fun w _ => laidMetH Tryd.prog laidS w) false (World.doorLaid Tryd.prog 400 os) #[.agg #[.slice none 0 0, .slice none 0 0, .slice none 0 0, .int .i64 0]] 8 rfl (World.shaped_of_RefB (by kernel_rfl) (by kernel_rfl)) (by kernel_rfl) (by kernel_rfl) (by kernel_rfl) (door_met os _)) ?_
  intro W base args ds gs before hval0 hW _ _ hL _
  have hval : ∀ (j : Nat) t v, Tryd.f3.params[j]? = some t → args[j]? = some v → Value.okWide Tryd.prog W .any base t v := hval0
  have hW' := hW
  obtain ⟨p, q, hA0, hV, rfl, hfz, hnd⟩ := hW
  have hA : DataW.TrodAll enc Tryd.prog W 0 (fun _ => true) true Tryd.f3.params.toList args.toList ds p := hA0
  rw [Tryd.params3] at hA hval
  obtain ⟨v0, vs0, d0, ds0, p0, q0, hargs, rfl, rfl, h0, r0⟩ := trodAll_cons hA
  obtain ⟨rfl, rfl, rfl⟩ := trodAll_nil r0
  obtain rfl : args = #[v0] := by cases args; simp_all
  obtain ⟨rfl, rfl⟩ := trodVars_none hV
  have k0 := h0
  have lt0 : ∀ x ∈ p0, x.block < W.heap.size := by obtain ⟨m, hm⟩ := k0; exact DataW.trod_lt m _ _ _ hm
  obtain ⟨vf0, vs0, vk0, m0, e0, w0⟩ := open_image (hval 0 26 v0 rfl rfl) h0
  subst e0
  have hs := og_of_laid hL
  clear hA0 hval0
  refine (walk vf0 vs0 vk0 m0 W hs w0).mono fun e W' ⟨he, bel⟩ => ?_
  subst he
  exact ⟨_, rfl, _, _, _, [], _, [], hW', trodAll_mk1 (shut_bool Tryd.underlying4 _), (trodAll_cons_mk (Below.trod laidOut (by kernel_rfl) (of_decide_eq_true (by kernel_rfl)) k0 bel lt0) trodAll_mk0), rfl, Below.frame bel _, fun h => by cases h⟩

theorem over : Rows.codeEncodesRow.holds Tryd.pinned (OpenSpec.ofChange Rows.codeEncodesSpec) :=
  OpenClaim.holds_of_wide 3 Tryd.f3 rfl rfl rfl rfl rfl rfl rfl ⟨rfl, rfl, rfl, rfl, rfl⟩ rfl rfl rfl rfl rfl (by kernel_rfl) Tryd.func3 (by kernel_rfl)
    (of_decide_eq_true (by kernel_rfl)) (by unfold Func.isWrapper; first | (rw [if_pos (by decide +kernel)]; kernel_rfl) | (rw [if_neg (by decide +kernel)]; exact ⟨rfl, rfl⟩))
    (fun os started H enc _ => lifted os started H enc)

theorem card : Rows.CodeEncodesCardSaid :=
  Claim7.holds_tied_plain_at .later [] [.data] true (true, "31a22b206c7e94ae76681fbf4a1e21565a94e238afe48ad635936a578692b35b") false
    over (fun _ h => by cases h) (by kernel_rfl) (fun _ h => by cases h) codeEncodes_row_tie rfl ⟨rfl, rfl⟩ (by kernel_rfl) rfl
    (fun f fn hf hfn => by
      obtain rfl : f = 3 := Option.some.inj ((show Tryd.prog.funcNamed "jacquard/jacquardlaw10.CodeEncodes" = some 3 by kernel_rfl).symm.trans hf) |>.symm
      obtain rfl : fn = Tryd.f3 := (Option.some.inj (Tryd.func3.symm.trans hfn)).symm
      exact ⟨by kernel_rfl, fun j t ht => by
        rw [Tryd.params3] at ht
        have hm : t ∈ [26] := by have h9 := Array.mem_of_getElem? ht; simp at h9 ⊢; first | exact h9 | (rcases h9 with h9 | h9 <;> simp [h9]; done) | (rcases h9 with h9 | h9 | h9 <;> simp [h9]; done) | (rcases h9 with h9 | h9 | h9 | h9 <;> simp [h9]; done)
        have hall : ([26].all fun u => !Tryd.prog.wantsStandIn u) = true := by kernel_rfl
        exact (show Tryd.prog.wantsStandIn t = false by simpa using List.all_eq_true.1 hall t hm)⟩)
    (by kernel_rfl)
end Go.Proofs.YtfhnhbpmiodomaaDoor.codeEncodes
namespace Go.Proofs.YtfhnhbpmiodomaaDoor
theorem codeEncodes_holds : Rows.CodeEncodesCardSaid := codeEncodes.card
#print axioms codeEncodes_holds
end Go.Proofs.YtfhnhbpmiodomaaDoor
