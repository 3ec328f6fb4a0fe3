/- For every list of bytes, the statement LexQuotes of layer 5 answers true: what the document's Quote makes of at most 3000 bytes is cut by the program into one string that says them; no condition beyond the program's own table of signs, which the card ties to its text. -/
import Derived.Test.YtkeijgafmbdnlaaDoorRB
import Derived.Test.YtkeijgafmbdnlaaDoorFr
set_option linter.unusedVariables false
set_option linter.unusedSimpArgs false
namespace Go.Proofs.YtkeijgafmbdnlaaDoor.lexQuotes
open Go.ChangeShapes Go.WideShapes Go.ChangeAt Go.RowKit

set_option maxRecDepth 100000 in
set_option maxHeartbeats 16000000 in
theorem core (v0 : Value) (l0 : List Int) (w : World) (hs : Sg w) (w0 : By w v0 l0) :
    Calls Tryd.prog 8 #[v0] w fun e w' => e = .returned (.bool true) ∧ Bw w w' := by
  have HS := hid hs
  have W0 := hid w0
  obtain ⟨a0, c0, rfl⟩ := w0.form
  have hm := w0.2.2
  clear hs w0
  by_cases h : l0.length ≤ 3000
  · have h' : decide ((3000 : Int) < (l0.length : Int)) = false := decide_eq_false (by omega)
    have hl6 : l0.length ≤ 1000000 := by omega
    have HQ := hid (vQuote_any _ l0 w W0.out hl6)
    have HLX := hid (lex_quote l0 W0.out.2.1 h)
    have hql := qAll_len l0
    have HQL := hid (show (qStr l0).length ≤ 13000 by simp [qStr]; omega)
    have HQB := hid (show (qStr l0).length = (qAll l0).length + 2 by simp [qStr])
    have HQR := hid (show ∀ c ∈ qStr l0, 0 ≤ c ∧ c ≤ 255 from qStr_byte W0.out.2.1)
    clear h hql hm
    go_enter Tryd.func8, Tryd.ntmps8
    go_upto_region 5 with (first
      | (go_at_call 18; refine (HQ.out).mono ?_; rintro e w1 ⟨r1, rfl, ho1, hb1⟩; have HO1 := hid ho1; have HB1 := hid hb1; obtain ⟨a1, c1, e1⟩ := own_form ho1; subst e1; clear ho1 hb1)
      | (go_at_call 10; refine (xLex_any _ (qStr l0) _ ⟨own_sl HO1.out (fun _ _ => trivial), HQR.out, by have := HQL.out; omega⟩ (HS.out.bw HB1.out) (by have := HQL.out; omega)).mono ?_; rw [show lexA (qStr l0) = _ from HLX.out]; rintro e w2 ⟨r2, rfl, ht2, hb2⟩; have HB2 := hid (Bw.trans HB1.out hb2); obtain ⟨g2, c2, e2, H2⟩ := tkq ht2; subst e2; clear ht2 hb2))
    have KS : Hid (∀ w', Bw w2 w' → w'.cell? ⟨g2, 0, none⟩ = some (.int .i64 4) ∧ w'.cell? ⟨g2, 1, none⟩ = some (.string (strOfNums l0)) ∧ w'.cell? ⟨g2, 3, none⟩ = some (.int .i64 0) ∧ (convert 22 9 (.slice a0 l0.length c0)).run Tryd.prog w' = .ok (.string (strOfNums l0)) w' ∧ Bw w2 w') := by
      intro w' hb
      exact ⟨(cell_bw hb H2.out.1).trans H2.out.2.1, (cell_bw hb H2.out.1).trans H2.out.2.2.1, (cell_bw hb H2.out.1).trans H2.out.2.2.2, (W0.out.bw (HB2.out.trans hb)).conv0, hb⟩
    rw [HQB.out]
    have hsm : (qAll l0).length ≤ 13000 := by have := HQL.out; rw [HQB.out] at this; omega
    go_region_held3 (fun w' => w'.cell? ⟨g2, 0, none⟩ = some (.int .i64 4) ∧ w'.cell? ⟨g2, 1, none⟩ = some (.string (strOfNums l0)) ∧ w'.cell? ⟨g2, 3, none⟩ = some (.int .i64 0) ∧ (convert 22 9 (.slice a0 l0.length c0)).run Tryd.prog w' = .ok (.string (strOfNums l0)) w' ∧ Bw w2 w') (exact KS.out _ (by first | exact Bw.refl _ | exact BL.out | (repeat (first | exact Bw.refl _ | exact BL.out | apply Bw.drewN | apply Bw.drew))))
      (first
        | (go_at_call 13; refine (num_any _ _).mono ?_; rintro e w' ⟨rfl, hw'⟩; subst w')
        | (go_at_call 9; refine (live_any _ (HS.out.bw (HB2.out.trans (by repeat (first | exact Bw.refl _ | apply Bw.drewN | apply Bw.drew))))).mono ?_; rintro e wl ⟨rfl, hbl⟩; have BL := hid (show Bw w2 wl from Bw.trans (by repeat (first | exact Bw.refl _ | apply Bw.drewN | apply Bw.drew)) hbl); clear hbl))
    go_wp2
    all_goals go_ret
    all_goals exact ⟨rfl, HB2.out.trans BL.out⟩
  · have h' : decide ((3000 : Int) < (l0.length : Int)) = true := decide_eq_true (by omega)
    clear h
    go_enter Tryd.func8, Tryd.ntmps8
    go_wp2_with (first
      | (go_at_call 9; refine (live_any _ HS.out).mono ?_; rintro e wl ⟨rfl, hbl⟩; have BL := hid hbl; clear hbl))
    all_goals go_ret
    all_goals exact ⟨rfl, BL.out⟩

theorem walk (w : World) (hs : Sg w) (v0 : Value) (l0 : List Int) (w0 : By w v0 l0) :
    Calls Tryd.prog 8 #[v0] w fun e w' => e = .returned (.bool true) ∧ Bw w w' := by
  exact core v0 l0 w hs w0

set_option maxRecDepth 100000 in
theorem lifted (os : Os) (started : os.Started) (H : Type) (enc : TypeId × Value → H) :
    ReturnsInHanded {} Tryd.checked os 8 .any (fun w args => (Rows.lexQuotesSpec.pre enc Tryd.prog Tryd.f8 [] false w args ∧ laidMetH Tryd.prog laidS w) ∧ sizedMet enc Tryd.prog Tryd.f8 (OpenSpec.ofChange Rows.lexQuotesSpec) false w args)
      (Rows.lexQuotesSpec.post enc Tryd.prog Tryd.f8 false true false false) := by
  refine returnsInHanded_of_change_and (C := Tryd.checked) (X := fun w _ => laidMetH Tryd.prog laidS w) (fun _ _ _ hh h => h.of_heap hh) ownK started (by kernel_rfl) Tryd.func8
    (ChangeSpec.witness_shaped (enc := enc) (C := Tryd.checked) (os := os) (X := fun w _ => laidMetH Tryd.prog laidS w) false (World.doorLaid Tryd.prog 400 os) #[.slice none 0 0] 8 rfl (World.shaped_of_RefB (by kernel_rfl) (by kernel_rfl)) (by kernel_rfl) (by kernel_rfl) (by kernel_rfl) (door_met os _)) ?_
  intro W base args ds gs before hval0 hW _ _ hL _
  have hval : ∀ (j : Nat) t v, Tryd.f8.params[j]? = some t → args[j]? = some v → Value.okWide Tryd.prog W .any base t v := hval0
  have hW' := hW
  obtain ⟨p, q, hA0, hV, rfl, hfz, hnd⟩ := hW
  have hA : DataW.TrodAll enc Tryd.prog W 0 (fun _ => true) true Tryd.f8.params.toList args.toList ds p := hA0
  rw [Tryd.params8] at hA hval
  obtain ⟨v0, vs0, d0, ds0, p0, q0, hargs, rfl, rfl, h0, r0⟩ := trodAll_cons hA
  obtain ⟨rfl, rfl, rfl⟩ := trodAll_nil r0
  obtain rfl : args = #[v0] := by cases args; simp_all
  obtain ⟨rfl, rfl⟩ := trodVars_none hV
  have k0 := h0
  have lt0 : ∀ x ∈ p0, x.block < W.heap.size := by obtain ⟨m, hm⟩ := k0; exact DataW.trod_lt m _ _ _ hm
  obtain ⟨l0, w0⟩ := open_bytes (hval 0 22 v0 rfl rfl) h0
  have hs := sg_of_laid hL
  clear hA0 hval0
  refine (walk W hs v0 l0 w0).mono fun e W' ⟨he, bel⟩ => ?_
  subst he
  exact ⟨_, rfl, _, _, _, [], _, [], hW', trodAll_mk1 (shut_bool Tryd.underlying4 _), (trodAll_cons_mk (Below.trod laidOut (by kernel_rfl) (of_decide_eq_true (by kernel_rfl)) k0 bel lt0) trodAll_mk0), rfl, Below.frame bel _, fun h => by cases h⟩

theorem over : Rows.lexQuotesRow.holds Tryd.pinned (OpenSpec.ofChange Rows.lexQuotesSpec) :=
  OpenClaim.holds_of_wide 8 Tryd.f8 rfl rfl rfl rfl rfl rfl rfl ⟨rfl, rfl, rfl, rfl, rfl⟩ rfl rfl rfl rfl rfl (by kernel_rfl) Tryd.func8 (by kernel_rfl)
    (of_decide_eq_true (by kernel_rfl)) (by unfold Func.isWrapper; first | (rw [if_pos (by decide +kernel)]; kernel_rfl) | (rw [if_neg (by decide +kernel)]; exact ⟨rfl, rfl⟩))
    (fun os started H enc _ => lifted os started H enc)

theorem card : Rows.LexQuotesCardSaid :=
  Claim7.holds_tied_plain_at .later [] [.data] true (true, "f567e925df362bb1c81fa80b70b27c1e22dd2cd5e13d10c4e7a29f1846822db2") false
    over (fun _ h => by cases h) (by kernel_rfl) (fun _ h => by cases h) lexQuotes_row_tie rfl ⟨rfl, rfl⟩ (by kernel_rfl) rfl
    (fun f fn hf hfn => by
      obtain rfl : f = 8 := Option.some.inj ((show Tryd.prog.funcNamed "jacquard/jacquardlaw05.LexQuotes" = some 8 by kernel_rfl).symm.trans hf) |>.symm
      obtain rfl : fn = Tryd.f8 := (Option.some.inj (Tryd.func8.symm.trans hfn)).symm
      exact ⟨by kernel_rfl, fun j t ht => by
        rw [Tryd.params8] at ht
        have hm : t ∈ [22] := by simpa using Array.mem_of_getElem? ht
        have hall : ([22].all fun u => !Tryd.prog.wantsStandIn u) = true := by kernel_rfl
        exact (show Tryd.prog.wantsStandIn t = false by simpa using List.all_eq_true.1 hall t hm)⟩)
    (by kernel_rfl)
end Go.Proofs.YtkeijgafmbdnlaaDoor.lexQuotes
namespace Go.Proofs.YtkeijgafmbdnlaaDoor
theorem lexQuotes_holds : Rows.LexQuotesCardSaid := lexQuotes.card
#print axioms lexQuotes_holds
end Go.Proofs.YtkeijgafmbdnlaaDoor
