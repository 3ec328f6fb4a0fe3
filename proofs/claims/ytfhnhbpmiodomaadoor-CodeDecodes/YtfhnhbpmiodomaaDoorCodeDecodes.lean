/- For all bytes: Decode answers the image, or the first fault and its place, that the document tells, and the bytes stay (P10.3, P10.4): the statement CodeDecodes returns true, and its argument reads as before. -/
import Derived.Test.YtfhnhbpmiodomaaDoorGf
set_option linter.unusedVariables false
set_option linter.unusedSimpArgs false
namespace Go.Proofs.YtfhnhbpmiodomaaDoor.codeDecodes
open Go.ChangeShapes Go.WideShapes Go.ChangeAt Go.RowKit

set_option maxRecDepth 100000 in
set_option maxHeartbeats 1000000 in
theorem walk (w : World) (hs : Og w) (v0 : Value) (l0 : List Int) (w0 : By w v0 l0) :
    Calls Tryd.prog 4 #[v0] w fun e w' => e = .returned (.bool true) ∧ Bw w w' := by
  have HY := hid (show Bs w v0 l0 from w0.1)
  have HYB := hid (show Byt l0 from w0.2.1)
  have HO := hid hs
  obtain ⟨ay, cy, ey⟩ := w0.form
  subst ey
  clear w0 hs
  by_cases h5 : l0.length ≤ 5000
  rotate_left
  · have d5 : decide (5000 < (l0.length : Int)) = true := decide_eq_true (by omega)
    go_enter Tryd.func4, Tryd.ntmps4
    go_wp2_with (first
      | (go_at_call 6; refine (live_any (HO.out.bw (by repeat (first | exact Bw.refl _ | apply Bw.alloc | apply Bw.drewN | apply Bw.drew)))).mono ?_; rintro e wq ⟨rfl, hb1⟩; have HB := hid (show Bw w wq from Bw.trans (by repeat (first | exact Bw.refl _ | apply Bw.alloc | apply Bw.drewN | apply Bw.drew)) hb1); clear hb1)
      | fail)
    all_goals go_ret
    all_goals exact ⟨rfl, HB.out⟩
  have d5 : decide (5000 < (l0.length : Int)) = false := decide_eq_false (by omega)
  have HL := hid h5
  have HLY := hid (show l0.length ≤ 4194304 by omega)
  clear h5
  obtain ⟨⟨p, f⟩, hs1⟩ : ∃ s, decS l0 = s := ⟨_, rfl⟩
  obtain ⟨x1, hx1⟩ : ∃ x, decI l0 = x := ⟨_, rfl⟩
  have HS1 := hid hs1
  have HI1 := hid hx1
  have hee : ((f : Int) == (f : Int)) = true := by simp
  obtain ⟨i1, hi1, hz1, hsz1, hy1⟩ := info_parts infoU8
  have I1 := hid (And.intro hi1 (And.intro hz1 (And.intro hsz1 hy1)))
  clear hs1 hx1 hi1 hz1 hsz1 hy1
  go_enter Tryd.func4, Tryd.ntmps4
  go_wp2_with (first
    | (at_builtin; refine wpList_append_sl _ rfl _ _ 29 rfl w.heap.size 5 i1 (.int .u8 0) 1 1 under22 I1.out.1 I1.out.2.1 I1.out.2.2.1 I1.out.2.2.2 rfl (by decide) (.slice (some ⟨_, 0, none⟩) 0 0) 0 [] rfl (own_empty _ 5 1 w.heap.size _ rfl (Nat.le_refl _)) _ l0.length (l0.map (Value.int .u8)) rfl (HY.out.below (by repeat (first | exact Bw.refl _ | apply Bw.alloc | apply Bw.drewN | apply Bw.drew))) (ints_one _ _) (by have := HL.out; unfold maxLen; omega) (by have := HL.out; omega) (by simp only [World.size_alloc]; omega) ?_; intro va wq hown hgr; rw [Nat.zero_add, List.nil_append] at hown; obtain ⟨aa, ca, ea⟩ := own_form hown; subst ea; have HB := hid (show Bw w wq from bw_grown (base := w.heap.size) (by repeat (first | exact Bw.refl _ | apply Bw.alloc | apply Bw.drewN | apply Bw.drew)) (Nat.le_refl _) (own_empty _ 5 1 w.heap.size _ rfl (Nat.le_refl _)) hgr); have HC := hid (show Bs wq _ l0 from bytes_own hown); have HYq := hid (HY.out.below HB.out); clear hown hgr)
    | (go_at_call 10; refine (dec_w (HC.out.below (by repeat (first | exact Bw.refl _ | apply Bw.alloc | apply Bw.drewN | apply Bw.drew))) HYB.out HLY.out _ HS1.out x1 HI1.out).mono ?_; rintro e wx ⟨hb1, xn1, xn2, xn3, xa1, xa2, xa3, xc1, xc2, xc3, rfl, hi1⟩; have hbx : Bw wq wx := Bw.trans (by repeat (first | exact Bw.refl _ | apply Bw.alloc | apply Bw.drewN | apply Bw.drew)) hb1; have HBX := hid (HB.out.trans hbx); have HCX := hid (HC.out.below hbx); have HYX := hid (HYq.out.below hbx); have HX := hid hi1; have HPX := hid (Blk.new wx #[.slice xa1 xn1 xc1, .slice xa2 xn2 xc2, .slice xa3 xn3 xc3, .int .i64 x1.globals] 26); unfold ImA; clear hb1 hbx hi1)
    | (go_at_call 11; refine (rDecode_any _ l0 (HYX.out.below (by repeat (first | exact Bw.refl _ | apply Bw.alloc | apply Bw.drewN | apply Bw.drew))) HYB.out HL.out).mono ?_; rintro e wy ⟨hb1, vf, vs, vk, he, hi1⟩; rw [HS1.out, HI1.out] at he; rw [HI1.out] at hi1; subst he; obtain ⟨yn1, ya1, yc1, rfl⟩ := hi1.f1; obtain ⟨yn2, ya2, yc2, rfl⟩ := hi1.f2; obtain ⟨yn3, ya3, yc3, rfl⟩ := hi1.f3; have hpy := HPX.out.bw (show Bw _ wy from Bw.trans (by repeat (first | exact Bw.refl _ | apply Bw.alloc | apply Bw.drewN | apply Bw.drew)) hb1); have hbx : Bw wx wy := Bw.trans (by repeat (first | exact Bw.refl _ | apply Bw.alloc | apply Bw.drewN | apply Bw.drew)) hb1; have HBY2 := hid (HBX.out.trans hbx); have HCY := hid (HCX.out.below hbx); have HYY := hid (HYX.out.below hbx); have HXY := hid (HX.out.bw hbx); have HYI := hid hi1; have u1 := hpy.cell; have ul1 := hpy.lt; unfold imV; clear hb1 hbx hi1 hpy)
    | (go_at_call 12; refine (same_any _ _ _ _ _ _ x1 _ _ (HXY.out.bw (by repeat (first | exact Bw.refl _ | apply Bw.alloc | apply Bw.drewN | apply Bw.drew))) (HYI.out.bw (by repeat (first | exact Bw.refl _ | apply Bw.alloc | apply Bw.drewN | apply Bw.drew)))).mono ?_; rintro e wz ⟨rfl, hb1⟩; have hbx : Bw wy wz := Bw.trans (by repeat (first | exact Bw.refl _ | apply Bw.alloc | apply Bw.drewN | apply Bw.drew)) hb1; have HBZ := hid (HBY2.out.trans hbx); have hc1 := conv_sl (HCY.out.below hbx); have hc2 := conv_sl (HYY.out.below hbx); clear hb1 hbx)
    | (go_at_call 9; refine (num_any _ _).mono ?_; rintro e wn ⟨rfl, hwn⟩; subst wn)
    | (go_at_call 6; refine (live_any (HO.out.bw (HBZ.out.trans (by repeat (first | exact Bw.refl _ | apply Bw.alloc | apply Bw.drewN | apply Bw.drew))))).mono ?_; rintro e wl ⟨rfl, hb1⟩; have HBL := hid (HBZ.out.trans (Bw.trans (by repeat (first | exact Bw.refl _ | apply Bw.alloc | apply Bw.drewN | apply Bw.drew)) hb1)); clear hb1)
    | fail)
  all_goals go_ret
  all_goals exact ⟨rfl, HBL.out⟩

set_option maxRecDepth 100000 in
theorem lifted (os : Os) (started : os.Started) (H : Type) (enc : TypeId × Value → H) :
    ReturnsInHanded {} Tryd.checked os 4 .any (fun w args => (Rows.codeDecodesSpec.pre enc Tryd.prog Tryd.f4 [] false w args ∧ laidMetH Tryd.prog laidS w) ∧ sizedMet enc Tryd.prog Tryd.f4 (OpenSpec.ofChange Rows.codeDecodesSpec) false w args)
      (Rows.codeDecodesSpec.post enc Tryd.prog Tryd.f4 false true false false) := by
  refine returnsInHanded_of_change_and (C := Tryd.checked) (X := fun w _ => laidMetH Tryd.prog laidS w) (fun _ _ _ hh h => h.of_heap hh) ownK started (by kernel_rfl) Tryd.func4
    (ChangeSpec.witness_shaped (enc := enc) (C := Tryd.checked) (os := os) (X := fun w _ => laidMetH Tryd.prog laidS w) false (World.doorLaid Tryd.prog 400 os) #[.slice none 0 0] 8 rfl (World.shaped_of_RefB (by kernel_rfl) (by kernel_rfl)) (by kernel_rfl) (by kernel_rfl) (by kernel_rfl) (door_met os _)) ?_
  intro W base args ds gs before hval0 hW _ _ hL _
  have hval : ∀ (j : Nat) t v, Tryd.f4.params[j]? = some t → args[j]? = some v → Value.okWide Tryd.prog W .any base t v := hval0
  have hW' := hW
  obtain ⟨p, q, hA0, hV, rfl, hfz, hnd⟩ := hW
  have hA : DataW.TrodAll enc Tryd.prog W 0 (fun _ => true) true Tryd.f4.params.toList args.toList ds p := hA0
  rw [Tryd.params4] at hA hval
  obtain ⟨v0, vs0, d0, ds0, p0, q0, hargs, rfl, rfl, h0, r0⟩ := trodAll_cons hA
  obtain ⟨rfl, rfl, rfl⟩ := trodAll_nil r0
  obtain rfl : args = #[v0] := by cases args; simp_all
  obtain ⟨rfl, rfl⟩ := trodVars_none hV
  have k0 := h0
  have lt0 : ∀ x ∈ p0, x.block < W.heap.size := by obtain ⟨m, hm⟩ := k0; exact DataW.trod_lt m _ _ _ hm
  obtain ⟨l0, w0⟩ := open_bytes (hval 0 29 v0 rfl rfl) h0
  have hs := og_of_laid hL
  clear hA0 hval0
  refine (walk W hs v0 l0 w0).mono fun e W' ⟨he, bel⟩ => ?_
  subst he
  exact ⟨_, rfl, _, _, _, [], _, [], hW', trodAll_mk1 (shut_bool Tryd.underlying4 _), (trodAll_cons_mk (Below.trod laidOut (by kernel_rfl) (of_decide_eq_true (by kernel_rfl)) k0 bel lt0) trodAll_mk0), rfl, Below.frame bel _, fun h => by cases h⟩

theorem over : Rows.codeDecodesRow.holds Tryd.pinned (OpenSpec.ofChange Rows.codeDecodesSpec) :=
  OpenClaim.holds_of_wide 4 Tryd.f4 rfl rfl rfl rfl rfl rfl rfl ⟨rfl, rfl, rfl, rfl, rfl⟩ rfl rfl rfl rfl rfl (by kernel_rfl) Tryd.func4 (by kernel_rfl)
    (of_decide_eq_true (by kernel_rfl)) (by unfold Func.isWrapper; first | (rw [if_pos (by decide +kernel)]; kernel_rfl) | (rw [if_neg (by decide +kernel)]; exact ⟨rfl, rfl⟩))
    (fun os started H enc _ => lifted os started H enc)

theorem card : Rows.CodeDecodesCardSaid :=
  Claim7.holds_tied_plain_at .later [] [.data] true (true, "31a22b206c7e94ae76681fbf4a1e21565a94e238afe48ad635936a578692b35b") false
    over (fun _ h => by cases h) (by kernel_rfl) (fun _ h => by cases h) codeDecodes_row_tie rfl ⟨rfl, rfl⟩ (by kernel_rfl) rfl
    (fun f fn hf hfn => by
      obtain rfl : f = 4 := Option.some.inj ((show Tryd.prog.funcNamed "jacquard/jacquardlaw10.CodeDecodes" = some 4 by kernel_rfl).symm.trans hf) |>.symm
      obtain rfl : fn = Tryd.f4 := (Option.some.inj (Tryd.func4.symm.trans hfn)).symm
      exact ⟨by kernel_rfl, fun j t ht => by
        rw [Tryd.params4] at ht
        have hm : t ∈ [29] := by have h9 := Array.mem_of_getElem? ht; simp at h9 ⊢; first | exact h9 | (rcases h9 with h9 | h9 <;> simp [h9]; done) | (rcases h9 with h9 | h9 | h9 <;> simp [h9]; done) | (rcases h9 with h9 | h9 | h9 | h9 <;> simp [h9]; done)
        have hall : ([29].all fun u => !Tryd.prog.wantsStandIn u) = true := by kernel_rfl
        exact (show Tryd.prog.wantsStandIn t = false by simpa using List.all_eq_true.1 hall t hm)⟩)
    (by kernel_rfl)
end Go.Proofs.YtfhnhbpmiodomaaDoor.codeDecodes
namespace Go.Proofs.YtfhnhbpmiodomaaDoor
theorem codeDecodes_holds : Rows.CodeDecodesCardSaid := codeDecodes.card
#print axioms codeDecodes_holds
end Go.Proofs.YtfhnhbpmiodomaaDoor
