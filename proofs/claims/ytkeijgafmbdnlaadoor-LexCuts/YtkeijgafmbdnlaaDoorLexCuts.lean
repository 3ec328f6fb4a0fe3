/- For every list of bytes, the statement LexCuts of layer 5 answers true: any text of at most 3000 bytes is cut by the program into the tokens, or the first fault and its place, that the document asks for, and the text stays; no condition beyond the program's own table of signs, which the card ties to its text. -/
import Derived.Test.YtkeijgafmbdnlaaDoorRJ
import Derived.Test.YtkeijgafmbdnlaaDoorRD
import Derived.Test.YtkeijgafmbdnlaaDoorFr
set_option linter.unusedVariables false
set_option linter.unusedSimpArgs false
namespace Go.Proofs.YtkeijgafmbdnlaaDoor.lexCuts
open Go.ChangeShapes Go.WideShapes Go.ChangeAt Go.RowKit

set_option maxRecDepth 100000 in
set_option maxHeartbeats 16000000 in
theorem core (v0 : Value) (l0 : List Int) (R : List ATok × Int × Nat) (w : World) (hs : Sg w) (w0 : By w v0 l0) (h0 : l0.length ≤ 3000) (hR : R = lexA l0) :
    Calls Tryd.prog 3 #[v0] w fun e w' => e = .returned (.bool true) ∧ Bw w w' := by
  have HS := hid hs
  have W0 := hid w0
  obtain ⟨a0, c0, rfl⟩ := w0.form
  obtain ⟨i1, hi1, hz1, hs1, hy1⟩ := info_parts infoU8
  have I1 := hid (And.intro hi1 (And.intro hz1 (And.intro hs1 hy1)))
  have d0 : decide ((3000 : Int) < (l0.length : Int)) = false := decide_eq_false (by omega)
  have hm0 : l0.length ≤ 1000000 := by omega
  have HN := hid h0
  have hrs := lex_res (l0.length + 1) l0 0 [] (by omega)
  have e2 : lexA l0 = lexF (l0.length + 1) l0 0 [] := if_neg (by omega)
  rw [← e2, ← hR] at hrs
  have hRl : R.1.length ≤ 1000000 := by
    by_cases hz : R.2.1 = 0
    · obtain ⟨tk, q1, q2, _⟩ := hrs.2.1 hz
      rw [q1]; simp at q2 ⊢; omega
    · rw [hrs.1 hz]; simp
  have HRL := hid hRl
  have HR := hid hR
  clear hs w0 hi1 hz1 hs1 hy1 h0 hrs e2 hRl hR
  go_enter Tryd.func3, Tryd.ntmps3
  go_wp2_with (first
    | (at_builtin; refine wpList_append_sl (G := fun _ => True) _ rfl _ _ 22 rfl w.heap.size 5 i1 (.int .u8 0) 1 1 under22 I1.out.1 I1.out.2.1 I1.out.2.2.1 I1.out.2.2.2 rfl (by decide) (.slice (some ⟨w.heap.size, 0, none⟩) 0 0) 0 [] rfl ?c0 (.slice a0 l0.length c0) l0.length (l0.map (Value.int .u8)) rfl ?c1 ?c2 ?c3 ?c4 ?c5 ?_)
    | go_in)
  try case c0 => exact own_empty w 5 1 _ _ rfl (Nat.le_refl _)
  try case c1 => exact (W0.out.bw (Bw.alloc (Bw.refl _) _)).1
  try case c2 => first | exact ints_one _ _ | (intro u hu; rfl) | simp
  try case c3 => unfold maxLen; omega
  try case c4 => omega
  try case c5 => first | simp | omega
  intro va wa hown hgr
  have HWA := hid (bw_grown (Bw.alloc (Bw.refl w) _) (Nat.le_refl _) (own_empty w 5 1 _ _ rfl (Nat.le_refl _)) hgr)
  have hown := (show wa.ownsRow w.heap.size 5 1 va l0.length (l0.map (Value.int .u8)) by simpa using hown)
  obtain ⟨aa, ca, e⟩ := own_form hown
  subst e
  have HYA := hid (show By wa (.slice aa l0.length ca) l0 from ⟨own_sl hown (fun _ _ => trivial), W0.out.2.1, by omega⟩)
  clear hgr hown
  go_upto_region 6 with (first
    | (go_at_call 10; refine (xLex_any _ l0 _ HYA.out (HS.out.bw HWA.out) hm0).mono ?_; rw [← HR.out]; rintro e w3 ⟨r1, rfl, ht1, hb1⟩; have HT1 := hid ht1; have HB1 := hid hb1; have HB1w := hid (HWA.out.trans hb1); obtain ⟨ar1, cr1, er1⟩ := ht1.form; subst er1; clear ht1 hb1)
    | (go_at_call 11; refine (rLex_any _ l0 _ (W0.out.bw HB1w.out) HN.out).mono ?_; rw [← HR.out]; rintro e w4 ⟨r2, rfl, ht2, hb2⟩; have HT2 := hid ht2; have HB2 := hid hb2; have HB2w := hid (HB1w.out.trans hb2); obtain ⟨ar2, cr2, er2⟩ := ht2.form; subst er2; clear ht2 hb2))
  have HT1' := hid (HT1.out.tr.bw HB2.out)
  have HT2' := hid HT2.out.tr
  have cv1 := fun n => ((HYA.out.bw (HB1.out.trans HB2.out)).bw (Bw.drewN (Bw.refl _) n)).conv00
  have cv2 := fun n => ((W0.out.bw HB2w.out).bw (Bw.drewN (Bw.refl _) n)).conv00
  clear HT1 HT2
  generalize R.1 = L at *
  generalize R.2.1 = E at *
  generalize R.2.2 = P at *
  go_wp2_with (first
    | (go_at_call 13; refine (num_any _ _).mono ?_; rintro e w' ⟨rfl, hw'⟩; subst w')
    | (go_at_call 12; refine (rSame_any _ _ L _ HT1'.out HT2'.out HRL.out).mono ?_; rintro e w' ⟨rfl, ns, rfl⟩)
    | (go_at_call 9; refine (live_any _ (HS.out.bw (Bw.drewN HB2w.out _))).mono ?_; rintro e wl ⟨rfl, hbl⟩; have BL := hid (Bw.trans (Bw.drewN HB2w.out _) hbl); clear hbl))
  all_goals go_ret
  all_goals exact ⟨rfl, BL.out⟩

set_option maxHeartbeats 4000000 in
theorem coreO (v0 : Value) (l0 : List Int) (w : World) (hs : Sg w) (w0 : By w v0 l0) (h : 3000 < l0.length) :
    Calls Tryd.prog 3 #[v0] w fun e w' => e = .returned (.bool true) ∧ Bw w w' := by
  have HS := hid hs
  obtain ⟨a0, c0, rfl⟩ := w0.form
  have m0 := w0.2.2
  clear hs w0
  have d0 : decide ((3000 : Int) < (l0.length : Int)) = true := decide_eq_true (by omega)
  clear h
  go_enter Tryd.func3, Tryd.ntmps3
  go_wp2_with (first
    | (go_at_call 9; refine (live_any _ HS.out).mono ?_; rintro e wl ⟨rfl, hbl⟩; have BL := hid hbl; clear hbl))
  all_goals go_ret
  all_goals exact ⟨rfl, BL.out⟩

theorem walk (w : World) (hs : Sg w) (v0 : Value) (l0 : List Int) (w0 : By w v0 l0) :
    Calls Tryd.prog 3 #[v0] w fun e w' => e = .returned (.bool true) ∧ Bw w w' := by
  by_cases h : 3000 < l0.length
  · exact coreO v0 l0 w hs w0 h
  · exact core v0 l0 _ w hs w0 (by omega) rfl

set_option maxRecDepth 100000 in
theorem lifted (os : Os) (started : os.Started) (H : Type) (enc : TypeId × Value → H) :
    ReturnsInHanded {} Tryd.checked os 3 .any (fun w args => (Rows.lexCutsSpec.pre enc Tryd.prog Tryd.f3 [] false w args ∧ laidMetH Tryd.prog laidS w) ∧ sizedMet enc Tryd.prog Tryd.f3 (OpenSpec.ofChange Rows.lexCutsSpec) false w args)
      (Rows.lexCutsSpec.post enc Tryd.prog Tryd.f3 false true false false) := by
  refine returnsInHanded_of_change_and (C := Tryd.checked) (X := fun w _ => laidMetH Tryd.prog laidS w) (fun _ _ _ hh h => h.of_heap hh) ownK started (by kernel_rfl) Tryd.func3
    (ChangeSpec.witness_shaped (enc := enc) (C := Tryd.checked) (os := os) (X := fun w _ => laidMetH Tryd.prog laidS w) false (World.doorLaid Tryd.prog 400 os) #[.slice none 0 0] 8 rfl (World.shaped_of_RefB (by kernel_rfl) (by kernel_rfl)) (by kernel_rfl) (by kernel_rfl) (by kernel_rfl) (door_met os _)) ?_
  intro W base args ds gs before hval0 hW _ _ hL _
  have hval : ∀ (j : Nat) t v, Tryd.f3.params[j]? = some t → args[j]? = some v → Value.okWide Tryd.prog W .any base t v := hval0
  have hW' := hW
  obtain ⟨p, q, hA0, hV, rfl, hfz, hnd⟩ := hW
  have hA : DataW.TrodAll enc Tryd.prog W 0 (fun _ => true) true Tryd.f3.params.toList args.toList ds p := hA0
  rw [Tryd.params3] at hA hval
  obtain ⟨v0, vs0, d0, ds0, p0, q0, hargs, rfl, rfl, h0, r0⟩ := trodAll_cons hA
  obtain ⟨rfl, rfl, rfl⟩ := trodAll_nil r0
  obtain rfl : args = #[v0] := by cases args; simp_all
  obtain ⟨rfl, rfl⟩ := trodVars_none hV
  have k0 := h0
  have lt0 : ∀ x ∈ p0, x.block < W.heap.size := by obtain ⟨m, hm⟩ := k0; exact DataW.trod_lt m _ _ _ hm
  obtain ⟨l0, w0⟩ := open_bytes (hval 0 22 v0 rfl rfl) h0
  have hs := sg_of_laid hL
  clear hA0 hval0
  refine (walk W hs v0 l0 w0).mono fun e W' ⟨he, bel⟩ => ?_
  subst he
  exact ⟨_, rfl, _, _, _, [], _, [], hW', trodAll_mk1 (shut_bool Tryd.underlying4 _), (trodAll_cons_mk (Below.trod laidOut (by kernel_rfl) (of_decide_eq_true (by kernel_rfl)) k0 bel lt0) trodAll_mk0), rfl, Below.frame bel _, fun h => by cases h⟩

theorem over : Rows.lexCutsRow.holds Tryd.pinned (OpenSpec.ofChange Rows.lexCutsSpec) :=
  OpenClaim.holds_of_wide 3 Tryd.f3 rfl rfl rfl rfl rfl rfl rfl ⟨rfl, rfl, rfl, rfl, rfl⟩ rfl rfl rfl rfl rfl (by kernel_rfl) Tryd.func3 (by kernel_rfl)
    (of_decide_eq_true (by kernel_rfl)) (by unfold Func.isWrapper; first | (rw [if_pos (by decide +kernel)]; kernel_rfl) | (rw [if_neg (by decide +kernel)]; exact ⟨rfl, rfl⟩))
    (fun os started H enc _ => lifted os started H enc)

theorem card : Rows.LexCutsCardSaid :=
  Claim7.holds_tied_plain_at .later [] [.data] true (true, "f567e925df362bb1c81fa80b70b27c1e22dd2cd5e13d10c4e7a29f1846822db2") false
    over (fun _ h => by cases h) (by kernel_rfl) (fun _ h => by cases h) lexCuts_row_tie rfl ⟨rfl, rfl⟩ (by kernel_rfl) rfl
    (fun f fn hf hfn => by
      obtain rfl : f = 3 := Option.some.inj ((show Tryd.prog.funcNamed "jacquard/jacquardlaw05.LexCuts" = some 3 by kernel_rfl).symm.trans hf) |>.symm
      obtain rfl : fn = Tryd.f3 := (Option.some.inj (Tryd.func3.symm.trans hfn)).symm
      exact ⟨by kernel_rfl, fun j t ht => by
        rw [Tryd.params3] at ht
        have hm : t ∈ [22] := by simpa using Array.mem_of_getElem? ht
        have hall : ([22].all fun u => !Tryd.prog.wantsStandIn u) = true := by kernel_rfl
        exact (show Tryd.prog.wantsStandIn t = false by simpa using List.all_eq_true.1 hall t hm)⟩)
    (by kernel_rfl)
end Go.Proofs.YtkeijgafmbdnlaaDoor.lexCuts
namespace Go.Proofs.YtkeijgafmbdnlaaDoor
theorem lexCuts_holds : Rows.LexCutsCardSaid := lexCuts.card
#print axioms lexCuts_holds
end Go.Proofs.YtkeijgafmbdnlaaDoor
