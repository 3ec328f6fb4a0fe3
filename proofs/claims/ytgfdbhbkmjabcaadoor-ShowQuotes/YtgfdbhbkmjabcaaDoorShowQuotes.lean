/- For every list of bytes, the statement ShowQuotes of layer 4 answers true: of at most 5000 bytes the program's Quote makes what the document's does; the page's examples hold; no condition beyond the library's own tables, which the card ties to its text. -/
import Derived.Test.YtgfdbhbkmjabcaaDoorSR
import Derived.Test.YtgfdbhbkmjabcaaDoorFr4
set_option linter.unusedVariables false
set_option linter.unusedSimpArgs false
namespace Go.Proofs.YtgfdbhbkmjabcaaDoor.showQuotes
open Go.ChangeShapes Go.WideShapes Go.ChangeAt Go.RowKit

set_option maxRecDepth 100000 in
set_option maxHeartbeats 16000000 in
theorem core (v0 : Value) (l0 : List Int) (w : World) (w0 : By w v0 l0) :
    Calls Tryd.prog 3 #[v0] w fun e w' => e = .returned (.bool true) ∧ Bw w w' := by
  have W0 := hid w0
  obtain ⟨a0, c0, rfl⟩ := w0.form
  have hm := w0.2.2
  clear w0
  by_cases h : l0.length ≤ 5000
  · have h' : decide ((5000 : Int) < (l0.length : Int)) = false := decide_eq_false (by omega)
    have HQB := hid (qStr_byte W0.out.2.1)
    have HQL : Hid ((qStr l0).length ≤ 1000000) := by have := qAll_len l0; show (qStr l0).length ≤ 1000000; simp [qStr]; omega
    have HL := hid (show l0.length ≤ 1000000 by omega)
    obtain ⟨q, hq⟩ : ∃ q, q = qStr l0 := ⟨_, rfl⟩
    obtain ⟨z, hz⟩ : ∃ z, z = strOfNums q := ⟨_, rfl⟩
    have HZ := hid hz
    have HP : Hid (∀ w', Bw w w' → Calls Tryd.prog 5 #[.slice a0 l0.length c0] w' fun e w2 => ∃ r, e = .returned r ∧ (∀ w3, Bw w2 w3 → (convert 22 9 r).run Tryd.prog w3 = .ok (.string z) w3) ∧ Bw w' w2) := by
      intro w' hb
      refine (wQuote_any _ l0 w' (W0.out.bw hb) HL.out).mono ?_
      rintro e w2 ⟨r, rfl, ho, hb2⟩
      exact ⟨r, rfl, fun w3 h3 => by rw [hz, hq]; exact conv_own (own_bw ho h3) HQB.out HQL.out, hb2⟩
    have HV : Hid (∀ w', Bw w w' → Calls Tryd.prog 6 #[.slice a0 l0.length c0] w' fun e w2 => ∃ r, e = .returned r ∧ (∀ w3, Bw w2 w3 → (convert 22 9 r).run Tryd.prog w3 = .ok (.string z) w3) ∧ Bw w' w2) := by
      intro w' hb
      refine (vQuote_any _ l0 w' (W0.out.bw hb) HL.out).mono ?_
      rintro e w2 ⟨r, rfl, ho, hb2⟩
      exact ⟨r, rfl, fun w3 h3 => by rw [hz, hq]; exact conv_own (own_bw ho h3) HQB.out HQL.out, hb2⟩
    clear h hm hz hq
    go_enter Tryd.func3, Tryd.ntmps3
    go_upto_region 3 with fail
    go_region_with (first
      | (go_at_call 5; refine (HP.out _ (by first | exact B2.out | (repeat (first | exact Bw.refl _ | exact B2.out | apply Bw.drewN | apply Bw.drew)))).mono ?_; rintro e w1 ⟨r1, rfl, hk1, hb1⟩; have k11 := hk1 _ (Bw.refl _); have K1 := hid hk1; have B1 : Hid (Bw w w1) := hid (Bw.trans (by first | exact B2.out | (repeat (first | exact Bw.refl _ | exact B2.out | apply Bw.drewN | apply Bw.drew))) hb1); try (have k21 := K2.out _ hb1); clear hk1 hb1)
      | (go_at_call 6; refine (HV.out _ (by first | exact B1.out | (repeat (first | exact Bw.refl _ | exact B1.out | apply Bw.drewN | apply Bw.drew)))).mono ?_; rintro e w2 ⟨r2, rfl, hk2, hb2⟩; have k22 := hk2 _ (Bw.refl _); have K2 := hid hk2; have B2 : Hid (Bw w w2) := hid (Bw.trans (by first | exact B1.out | (repeat (first | exact Bw.refl _ | exact B1.out | apply Bw.drewN | apply Bw.drew))) hb2); try (have k12 := K1.out _ hb2); clear hk2 hb2)
      | (go_at_call 4; refine (live4_any _).mono ?_; rintro e wl ⟨rfl, hbl⟩; have BL := hid hbl; clear hbl)
      | fail)
    all_goals go_wp2
    all_goals go_ret
    all_goals exact ⟨rfl, by first | exact Bw.trans B2.out BL.out | exact Bw.trans B1.out BL.out⟩
  · have h' : decide ((5000 : Int) < (l0.length : Int)) = true := decide_eq_true (by omega)
    clear h
    go_enter Tryd.func3, Tryd.ntmps3
    go_wp2_with (first
      | (go_at_call 4; refine (live4_any _).mono ?_; rintro e wl ⟨rfl, hbl⟩; have BL := hid hbl; clear hbl))
    all_goals go_ret
    all_goals exact ⟨rfl, BL.out⟩

theorem walk (w : World) (v0 : Value) (l0 : List Int) (w0 : By w v0 l0) :
    Calls Tryd.prog 3 #[v0] w fun e w' => e = .returned (.bool true) ∧ Bw w w' := by
  exact core v0 l0 w w0

set_option maxRecDepth 100000 in
theorem lifted (os : Os) (started : os.Started) (H : Type) (enc : TypeId × Value → H) :
    ReturnsInHanded {} Tryd.checked os 3 .any (fun w args => (Rows.showQuotesSpec.pre enc Tryd.prog Tryd.f3 [] false w args ∧ laidMetH Tryd.prog laidS w) ∧ sizedMet enc Tryd.prog Tryd.f3 (OpenSpec.ofChange Rows.showQuotesSpec) false w args)
      (Rows.showQuotesSpec.post enc Tryd.prog Tryd.f3 false true false false) := by
  refine returnsInHanded_of_change_and (C := Tryd.checked) (X := fun w _ => laidMetH Tryd.prog laidS w) (fun _ _ _ hh h => h.of_heap hh) ownK started (by kernel_rfl) Tryd.func3
    (ChangeSpec.witness_shaped (enc := enc) (C := Tryd.checked) (os := os) (X := fun w _ => laidMetH Tryd.prog laidS w) false (World.doorLaid Tryd.prog 400 os) #[.slice none 0 0] 8 rfl (World.shaped_of_RefB (by kernel_rfl) (by kernel_rfl)) (by kernel_rfl) (by kernel_rfl) (by kernel_rfl) (door_met os _)) ?_
  intro W base args ds gs before hval0 hW _ _ hL _
  have hval : ∀ (j : Nat) t v, Tryd.f3.params[j]? = some t → args[j]? = some v → Value.okWide Tryd.prog W .any base t v := hval0
  have hW' := hW
  obtain ⟨p, q, hA0, hV, rfl, hfz, hnd⟩ := hW
  have hA : DataW.TrodAll enc Tryd.prog W 0 (fun _ => true) true Tryd.f3.params.toList args.toList ds p := hA0
  rw [Tryd.params3] at hA hval
  obtain ⟨v0, vs0, d0, ds0, p0, q0, hargs, rfl, rfl, h0, r0⟩ := trodAll_cons hA
  obtain ⟨rfl, rfl, rfl⟩ := trodAll_nil r0
  obtain rfl : args = #[v0] := by cases args; simp_all
  obtain ⟨rfl, rfl⟩ := trodVars_none hV
  have k0 := h0
  have lt0 : ∀ x ∈ p0, x.block < W.heap.size := by obtain ⟨m, hm⟩ := k0; exact DataW.trod_lt m _ _ _ hm
  obtain ⟨l0, w0⟩ := open_bytes (hval 0 22 v0 rfl rfl) h0
  clear hA0 hval0
  refine (walk W v0 l0 w0).mono fun e W' ⟨he, bel⟩ => ?_
  subst he
  exact ⟨_, rfl, _, _, _, [], _, [], hW', trodAll_mk1 (shut_bool Tryd.underlying4 _), (trodAll_cons_mk (Below.trod laidOut (by kernel_rfl) (of_decide_eq_true (by kernel_rfl)) k0 bel lt0) trodAll_mk0), rfl, Below.frame bel _, fun h => by cases h⟩

theorem over : Rows.showQuotesRow.holds Tryd.pinned (OpenSpec.ofChange Rows.showQuotesSpec) :=
  OpenClaim.holds_of_wide 3 Tryd.f3 rfl rfl rfl rfl rfl rfl rfl ⟨rfl, rfl, rfl, rfl, rfl⟩ rfl rfl rfl rfl rfl (by kernel_rfl) Tryd.func3 (by kernel_rfl)
    (of_decide_eq_true (by kernel_rfl)) (by unfold Func.isWrapper; first | (rw [if_pos (by decide +kernel)]; kernel_rfl) | (rw [if_neg (by decide +kernel)]; exact ⟨rfl, rfl⟩))
    (fun os started H enc _ => lifted os started H enc)

theorem card : Rows.ShowQuotesCardSaid :=
  Claim7.holds_tied_plain_at .later [] [.data, .data, .data] true (true, "0393c73d4baafa0daa419cbe60739e5fea03ec7d36e3d25c7117e5b70a4b1ec5") false
    over (fun _ h => by cases h) (by kernel_rfl) (fun _ h => by cases h) showQuotes_row_tie rfl ⟨rfl, rfl⟩ (by kernel_rfl) rfl
    (fun f fn hf hfn => by
      obtain rfl : f = 3 := Option.some.inj ((show Tryd.prog.funcNamed "jacquard/jacquardlaw04.ShowQuotes" = some 3 by kernel_rfl).symm.trans hf) |>.symm
      obtain rfl : fn = Tryd.f3 := (Option.some.inj (Tryd.func3.symm.trans hfn)).symm
      exact ⟨by kernel_rfl, fun j t ht => by
        rw [Tryd.params3] at ht
        have hm : t ∈ [22] := by simpa using Array.mem_of_getElem? ht
        have hall : ([22].all fun u => !Tryd.prog.wantsStandIn u) = true := by kernel_rfl
        exact (show Tryd.prog.wantsStandIn t = false by simpa using List.all_eq_true.1 hall t hm)⟩)
    (by kernel_rfl)
end Go.Proofs.YtgfdbhbkmjabcaaDoor.showQuotes
namespace Go.Proofs.YtgfdbhbkmjabcaaDoor
theorem showQuotes_holds : Rows.ShowQuotesCardSaid := showQuotes.card
#print axioms showQuotes_holds
end Go.Proofs.YtgfdbhbkmjabcaaDoor
