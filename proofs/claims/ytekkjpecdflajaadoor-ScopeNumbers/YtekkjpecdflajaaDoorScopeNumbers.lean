/- ScopeNumbers: a primitive's name has its number, and no number beyond has a name. -/
import Derived.Test.YtekkjpecdflajaaDoorAll
set_option linter.unusedVariables false
set_option linter.unusedSimpArgs false
namespace Go.Proofs.YtekkjpecdflajaaDoor.scopeNumbers
open Go.ChangeShapes Go.WideShapes Go.ChangeAt Go.RowKit

theorem names_back : ((List.range 30).all fun i => primF (prs.getD i ⟨#[]⟩) == some i && decide (0 < (prs.getD i ⟨#[]⟩).size)) = true := by kernel_rfl

set_option maxRecDepth 100000 in
set_option maxHeartbeats 4000000 in
theorem walk (a0 : Int) (w0 : -9223372036854775808 ≤ a0 ∧ a0 ≤ 9223372036854775807) (w : World) (hs : PrM w) (hsh : Sh w) :
    Calls Tryd.prog 4 #[.int .i64 a0] w fun e w' => e = .returned (.bool true) ∧ Bw w w' := by
  have HS := hid hs
  have HSH := hid hsh
  have HPN := hid (primName_any hs a0)
  clear hs hsh
  by_cases h0 : 0 ≤ a0 ∧ a0 < 30
  · obtain ⟨n, rfl⟩ : ∃ n : Nat, a0 = n := ⟨a0.toNat, by omega⟩
    rw [if_pos h0, Int.toNat_natCast] at HPN
    have hb := List.all_eq_true.1 names_back n (List.mem_range.2 (by omega))
    simp only [Bool.and_eq_true, beq_iff_eq, decide_eq_true_eq] at hb
    have HPR := hid (fun (W : World) (hp : PrM W) => (show Calls Tryd.prog 5 #[.string (prs.getD n ⟨#[]⟩)] W fun e w' => e = .returned (.tuple #[.int .i64 (n : Nat), .bool true]) ∧ Bw W w' from by have := prim_any hp (prs.getD n ⟨#[]⟩); rw [hb.1] at this; exact this))
    have hsz : (0 : Int) < ((prs.getD n ⟨#[]⟩).size : Int) := by have := hb.2; omega
    have h1 : ¬ (n : Int) < 0 := by omega
    have h2 : ¬ (30 : Int) ≤ (n : Int) := by omega
    clear hb h0
    generalize prs.getD n ⟨#[]⟩ = u at HPN HPR hsz
    go_enter Tryd.func4, Tryd.ntmps4
    go_wp2_with (first
      | (go_at_call 8; refine HPN.out.mono ?_; rintro e w1 ⟨rfl, hb1⟩; have B1 := hid hb1; clear hb1)
      | (go_at_call 5; refine (HPR.out _ (HS.out.bw B1.out)).mono ?_; rintro e w2 ⟨rfl, hb2⟩; have B2 := hid (B1.out.trans hb2); clear hb2)
      | (go_at_call 9; refine (live_any _ (HSH.out.bw B2.out) (HS.out.bw B2.out)).mono ?_; rintro e wl ⟨rfl, hbl⟩; have BL := hid (B2.out.trans hbl); clear hbl)
      | fail)
    all_goals go_ret
    all_goals exact ⟨rfl, BL.out⟩
  · rw [if_neg h0] at HPN
    have hcase : a0 < 0 ∨ (30 ≤ a0 ∧ ¬ a0 < 0) := by omega
    clear h0
    rcases hcase with h1 | ⟨h1, h2⟩
    all_goals
      go_enter Tryd.func4, Tryd.ntmps4
      go_wp2_with (first
        | (go_at_call 8; refine HPN.out.mono ?_; rintro e w1 ⟨rfl, hb1⟩; have B1 := hid hb1; clear hb1)
        | (go_at_call 9; refine (live_any _ (HSH.out.bw B1.out) (HS.out.bw B1.out)).mono ?_; rintro e wl ⟨rfl, hbl⟩; have BL := hid (B1.out.trans hbl); clear hbl)
        | fail)
      all_goals go_ret
      all_goals exact ⟨rfl, BL.out⟩

set_option maxRecDepth 100000 in
theorem lifted (os : Os) (started : os.Started) (H : Type) (enc : TypeId × Value → H) :
    ReturnsInHanded {} Tryd.checked os 4 .any (fun w args => (Rows.scopeNumbersSpec.pre enc Tryd.prog Tryd.f4 [] false w args ∧ laidMetH Tryd.prog laidS w) ∧ sizedMet enc Tryd.prog Tryd.f4 (OpenSpec.ofChange Rows.scopeNumbersSpec) false w args)
      (Rows.scopeNumbersSpec.post enc Tryd.prog Tryd.f4 false true false false) := by
  refine returnsInHanded_of_change_and (C := Tryd.checked) (X := fun w _ => laidMetH Tryd.prog laidS w) (fun _ _ _ hh h => h.of_heap hh) ownK started (by kernel_rfl) Tryd.func4
    (ChangeSpec.witness_shaped (enc := enc) (C := Tryd.checked) (os := os) (X := fun w _ => laidMetH Tryd.prog laidS w) false (World.doorLaid Tryd.prog 400 os) #[.int .i64 0] 8 rfl (World.shaped_of_RefB (by kernel_rfl) (by kernel_rfl)) (by kernel_rfl) (by kernel_rfl) (by kernel_rfl) (door_met os _)) ?_
  intro W base args ds gs before hval0 hW _ _ hL _
  have hval : ∀ (j : Nat) t v, Tryd.f4.params[j]? = some t → args[j]? = some v → Value.okWide Tryd.prog W .any base t v := hval0
  have hW' := hW
  obtain ⟨p, q, hA0, hV, rfl, hfz, hnd⟩ := hW
  have hA : DataW.TrodAll enc Tryd.prog W 0 (fun _ => true) true Tryd.f4.params.toList args.toList ds p := hA0
  rw [Tryd.params4] at hA hval
  obtain ⟨v0, vs0, d0, ds0, p0, q0, hargs, rfl, rfl, h0, r0⟩ := trodAll_cons hA
  obtain ⟨rfl, rfl, rfl⟩ := trodAll_nil r0
  obtain rfl : args = #[v0] := by cases args; simp_all
  obtain ⟨rfl, rfl⟩ := trodVars_none hV
  have k0 := h0
  have lt0 : ∀ x ∈ p0, x.block < W.heap.size := by obtain ⟨m, hm⟩ := k0; exact DataW.trod_lt m _ _ _ hm
  obtain ⟨a0, rfl, rfl, rfl, w00⟩ := open_int Tryd.underlying3 (hval 0 3 v0 rfl rfl) h0
  have w0 := bounds_i64 w00
  have hs := pr_of_laid hL
  have hsh := sh_of_laid hL
  clear hA0 hval0
  refine (walk a0 w0 W hs hsh).mono fun e W' ⟨he, bel⟩ => ?_
  subst he
  exact ⟨_, rfl, _, _, _, [], _, [], hW', trodAll_mk1 (shut_bool Tryd.underlying4 _), (trodAll_cons_mk (Below.trod laidOut (by kernel_rfl) (of_decide_eq_true (by kernel_rfl)) k0 bel lt0) trodAll_mk0), rfl, Below.frame bel _, fun h => by cases h⟩

theorem over : Rows.scopeNumbersRow.holds Tryd.pinned (OpenSpec.ofChange Rows.scopeNumbersSpec) :=
  OpenClaim.holds_of_wide 4 Tryd.f4 rfl rfl rfl rfl rfl rfl rfl ⟨rfl, rfl, rfl, rfl, rfl⟩ rfl rfl rfl rfl rfl (by kernel_rfl) Tryd.func4 (by kernel_rfl)
    (of_decide_eq_true (by kernel_rfl)) (by unfold Func.isWrapper; first | (rw [if_pos (by decide +kernel)]; kernel_rfl) | (rw [if_neg (by decide +kernel)]; exact ⟨rfl, rfl⟩))
    (fun os started H enc _ => lifted os started H enc)

theorem card : Rows.ScopeNumbersCardSaid :=
  Claim7.holds_tied_plain_at .later [] [.data, .data] true (true, "0dfd061f7d647a7fe0a16d2407df84fcc1cf1336d7c3073b8a2618a8960aea87") false
    over (fun _ h => by cases h) (by kernel_rfl) (fun _ h => by cases h) scopeNumbers_row_tie rfl ⟨rfl, rfl⟩ (by kernel_rfl) rfl
    (fun f fn hf hfn => by
      obtain rfl : f = 4 := Option.some.inj ((show Tryd.prog.funcNamed "jacquard/jacquardlaw08.ScopeNumbers" = some 4 by kernel_rfl).symm.trans hf) |>.symm
      obtain rfl : fn = Tryd.f4 := (Option.some.inj (Tryd.func4.symm.trans hfn)).symm
      exact ⟨by kernel_rfl, fun j t ht => by
        rw [Tryd.params4] at ht
        have hm : t ∈ [3] := by have h9 := Array.mem_of_getElem? ht; simp at h9 ⊢; first | exact h9 | (rcases h9 with h9 | h9 <;> simp [h9]; done) | (rcases h9 with h9 | h9 | h9 <;> simp [h9]; done) | (rcases h9 with h9 | h9 | h9 | h9 <;> simp [h9]; done)
        have hall : ([3].all fun u => !Tryd.prog.wantsStandIn u) = true := by kernel_rfl
        exact (show Tryd.prog.wantsStandIn t = false by simpa using List.all_eq_true.1 hall t hm)⟩)
    (by kernel_rfl)
end Go.Proofs.YtekkjpecdflajaaDoor.scopeNumbers
namespace Go.Proofs.YtekkjpecdflajaaDoor
theorem scopeNumbers_holds : Rows.ScopeNumbersCardSaid := scopeNumbers.card
#print axioms scopeNumbers_holds
end Go.Proofs.YtekkjpecdflajaaDoor
