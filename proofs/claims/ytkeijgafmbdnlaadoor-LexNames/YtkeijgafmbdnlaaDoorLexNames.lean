/- For every text, the statement LexNames of layer 5 answers true: which texts are words and which are names is told by the program as the document tells it; no condition beyond the program's own table of signs, which the card ties to its text. -/
import Derived.Test.YtkeijgafmbdnlaaDoorRA
import Derived.Test.YtkeijgafmbdnlaaDoorFr
set_option linter.unusedVariables false
set_option linter.unusedSimpArgs false
namespace Go.Proofs.YtkeijgafmbdnlaaDoor.lexNames
open Go.ChangeShapes Go.WideShapes Go.ChangeAt Go.RowKit

set_option maxHeartbeats 4000000 in
theorem core (l0 : List Int) (w0 : (∀ c ∈ l0, 0 ≤ c ∧ c ≤ 255) ∧ l0.length ≤ maxLen) (w : World) (hs : Sg w) :
    Calls Tryd.prog 4 #[.string (strOfNums l0)] w fun e w' => e = .returned (.bool true) ∧ Bw w w' := by
  have HS := hid hs
  have W0 := hid w0
  have Z : (strOfNums l0).size = l0.length := strOfNums_size _
  have hm := w0.2
  unfold maxLen at hm
  clear hs w0
  by_cases h : l0.length ≤ 3000
  · have h' : decide ((3000 : Int) < (l0.length : Int)) = false := decide_eq_false (by omega)
    have hl6 : l0.length ≤ 1000000 := by omega
    have A1 := hid (xWord_any l0 W0.out.1)
    have A2 := hid (rWord_any l0 W0.out.1)
    have A3 := hid (xName_any l0 W0.out.1 hl6)
    have A4 := hid (rName_any l0 W0.out.1 hl6)
    clear h
    generalize strOfNums l0 = s at *
    go_enter Tryd.func4, Tryd.ntmps4
    go_wp2_with (first
      | (go_at_call 14; refine (A1.out _).mono ?_; rintro e w' ⟨rfl, hw'⟩; subst w')
      | (go_at_call 15; refine (A2.out _).mono ?_; rintro e w' ⟨rfl, os1, n1, rfl⟩)
      | (go_at_call 16; refine (A3.out _).mono ?_; rintro e w' ⟨rfl, hw'⟩; subst w')
      | (go_at_call 17; refine (A4.out _).mono ?_; rintro e w' ⟨rfl, os2, n2, rfl⟩)
      | (go_at_call 9; refine (live_any _ (HS.out.bw (Ly.bw (by repeat (first | exact Ly.refl _ | apply Ly.lay))))).mono ?_; rintro e wl ⟨rfl, hbl⟩; have BL := hid (Bw.trans (Ly.bw (by repeat (first | exact Ly.refl _ | apply Ly.lay))) hbl : Bw w wl); clear hbl))
    all_goals go_ret
    all_goals exact ⟨rfl, BL.out⟩
  · have h' : decide ((3000 : Int) < (l0.length : Int)) = true := decide_eq_true (by omega)
    clear h
    generalize strOfNums l0 = s at *
    go_enter Tryd.func4, Tryd.ntmps4
    go_wp2_with (first
      | (go_at_call 9; refine (live_any _ HS.out).mono ?_; rintro e wl ⟨rfl, hbl⟩; have BL := hid hbl; clear hbl))
    all_goals go_ret
    all_goals exact ⟨rfl, BL.out⟩

theorem walk (l0 : List Int) (w0 : (∀ c ∈ l0, 0 ≤ c ∧ c ≤ 255) ∧ l0.length ≤ maxLen) (w : World) (hs : Sg w) :
    Calls Tryd.prog 4 #[.string (strOfNums l0)] w fun e w' => e = .returned (.bool true) ∧ Bw w w' := by
  exact core l0 w0 w hs

set_option maxRecDepth 100000 in
theorem lifted (os : Os) (started : os.Started) (H : Type) (enc : TypeId × Value → H) :
    ReturnsInHanded {} Tryd.checked os 4 .any (fun w args => (Rows.lexNamesSpec.pre enc Tryd.prog Tryd.f4 [] false w args ∧ laidMetH Tryd.prog laidS w) ∧ sizedMet enc Tryd.prog Tryd.f4 (OpenSpec.ofChange Rows.lexNamesSpec) false w args)
      (Rows.lexNamesSpec.post enc Tryd.prog Tryd.f4 false true false false) := by
  refine returnsInHanded_of_change_and (C := Tryd.checked) (X := fun w _ => laidMetH Tryd.prog laidS w) (fun _ _ _ hh h => h.of_heap hh) ownK started (by kernel_rfl) Tryd.func4
    (ChangeSpec.witness_shaped (enc := enc) (C := Tryd.checked) (os := os) (X := fun w _ => laidMetH Tryd.prog laidS w) false (World.doorLaid Tryd.prog 400 os) #[.string ByteArray.empty] 8 rfl (World.shaped_of_RefB (by kernel_rfl) (by kernel_rfl)) (by kernel_rfl) (by kernel_rfl) (by kernel_rfl) (door_met os _)) ?_
  intro W base args ds gs before hval0 hW _ _ hL _
  have hval : ∀ (j : Nat) t v, Tryd.f4.params[j]? = some t → args[j]? = some v → Value.okWide Tryd.prog W .any base t v := hval0
  have hW' := hW
  obtain ⟨p, q, hA0, hV, rfl, hfz, hnd⟩ := hW
  have hA : DataW.TrodAll enc Tryd.prog W 0 (fun _ => true) true Tryd.f4.params.toList args.toList ds p := hA0
  rw [Tryd.params4] at hA hval
  obtain ⟨v0, vs0, d0, ds0, p0, q0, hargs, rfl, rfl, h0, r0⟩ := trodAll_cons hA
  obtain ⟨rfl, rfl, rfl⟩ := trodAll_nil r0
  obtain rfl : args = #[v0] := by cases args; simp_all
  obtain ⟨rfl, rfl⟩ := trodVars_none hV
  have k0 := h0
  have lt0 : ∀ x ∈ p0, x.block < W.heap.size := by obtain ⟨m, hm⟩ := k0; exact DataW.trod_lt m _ _ _ hm
  obtain ⟨l0, e0, w0⟩ := open_text (hval 0 9 v0 rfl rfl) h0
  subst e0
  have hs := sg_of_laid hL
  clear hA0 hval0
  refine (walk l0 w0 W hs).mono fun e W' ⟨he, bel⟩ => ?_
  subst he
  exact ⟨_, rfl, _, _, _, [], _, [], hW', trodAll_mk1 (shut_bool Tryd.underlying4 _), (trodAll_cons_mk (Below.trod laidOut (by kernel_rfl) (of_decide_eq_true (by kernel_rfl)) k0 bel lt0) trodAll_mk0), rfl, Below.frame bel _, fun h => by cases h⟩

theorem over : Rows.lexNamesRow.holds Tryd.pinned (OpenSpec.ofChange Rows.lexNamesSpec) :=
  OpenClaim.holds_of_wide 4 Tryd.f4 rfl rfl rfl rfl rfl rfl rfl ⟨rfl, rfl, rfl, rfl, rfl⟩ rfl rfl rfl rfl rfl (by kernel_rfl) Tryd.func4 (by kernel_rfl)
    (of_decide_eq_true (by kernel_rfl)) (by unfold Func.isWrapper; first | (rw [if_pos (by decide +kernel)]; kernel_rfl) | (rw [if_neg (by decide +kernel)]; exact ⟨rfl, rfl⟩))
    (fun os started H enc _ => lifted os started H enc)

theorem card : Rows.LexNamesCardSaid :=
  Claim7.holds_tied_plain_at .later [] [.data] true (true, "f567e925df362bb1c81fa80b70b27c1e22dd2cd5e13d10c4e7a29f1846822db2") false
    over (fun _ h => by cases h) (by kernel_rfl) (fun _ h => by cases h) lexNames_row_tie rfl ⟨rfl, rfl⟩ (by kernel_rfl) rfl
    (fun f fn hf hfn => by
      obtain rfl : f = 4 := Option.some.inj ((show Tryd.prog.funcNamed "jacquard/jacquardlaw05.LexNames" = some 4 by kernel_rfl).symm.trans hf) |>.symm
      obtain rfl : fn = Tryd.f4 := (Option.some.inj (Tryd.func4.symm.trans hfn)).symm
      exact ⟨by kernel_rfl, fun j t ht => by
        rw [Tryd.params4] at ht
        have hm : t ∈ [9] := by simpa using Array.mem_of_getElem? ht
        have hall : ([9].all fun u => !Tryd.prog.wantsStandIn u) = true := by kernel_rfl
        exact (show Tryd.prog.wantsStandIn t = false by simpa using List.all_eq_true.1 hall t hm)⟩)
    (by kernel_rfl)
end Go.Proofs.YtkeijgafmbdnlaaDoor.lexNames
namespace Go.Proofs.YtkeijgafmbdnlaaDoor
theorem lexNames_holds : Rows.LexNamesCardSaid := lexNames.card
#print axioms lexNames_holds
end Go.Proofs.YtkeijgafmbdnlaaDoor
