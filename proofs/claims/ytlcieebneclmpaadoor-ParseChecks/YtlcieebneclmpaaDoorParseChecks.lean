/- For every list of nodes, the statement ParseChecks of layer 6 answers true: which lists are programs, and where the first fault is, is told by the program as the document tells it; no condition beyond the program's own tables, which the card ties to their text. -/
import Derived.Test.YtlcieebneclmpaaDoorC6
set_option linter.unusedVariables false
set_option linter.unusedSimpArgs false
namespace Go.Proofs.YtlcieebneclmpaaDoor.parseChecks
open Go.ChangeShapes Go.WideShapes Go.ChangeAt Go.RowKit

set_option maxRecDepth 100000 in
set_option maxHeartbeats 8000000 in
theorem core (a0 : Option Addr) (c0 : Nat) (l0 : List ANode) (m0 : l0.length ≤ maxLen) (w : World) (hs : Sg w) (hsh : Sh w) (w0 : NA w a0 l0) :
    Calls Tryd.prog 3 #[.slice a0 l0.length c0] w fun e w' => e = .returned (.bool true) ∧ Bw w w' := by
  have HS := hid hs
  clear hs
  by_cases h : l0.length ≤ 500
  · have h' : decide ((500 : Int) < (l0.length : Int)) = false := decide_eq_false (by omega)
    obtain ⟨x, y, hp, hr⟩ := checks_any w0 h hsh c0
    have A1 := hid hp
    have A2 := hid hr
    clear h hp hr w0 m0 hsh
    go_enter Tryd.func3, Tryd.ntmps3
    go_wp2_with (first
      | (go_at_call 10; refine A1.out.mono ?_; rintro e w3 ⟨rfl, hb3⟩; have B3 := hid hb3; clear hb3)
      | (go_at_call 11; refine (A2.out _ B3.out).mono ?_; rintro e w4 ⟨rfl, hb4⟩; have B4 := hid (B3.out.trans hb4); clear hb4)
      | (go_at_call 12; refine (num_any _ _).mono ?_; rintro e w' ⟨rfl, hw'⟩; subst w')
      | (go_at_call 9; refine (live_any _ (HS.out.bw B4.out)).mono ?_; rintro e wl ⟨rfl, hbl⟩; have BL := hid (B4.out.trans hbl); clear hbl)
      | fail)
    all_goals go_ret
    all_goals exact ⟨rfl, BL.out⟩
  · have h' : decide ((500 : Int) < (l0.length : Int)) = true := decide_eq_true (by omega)
    clear h w0 m0 hsh
    go_enter Tryd.func3, Tryd.ntmps3
    go_wp2_with (first
      | (go_at_call 9; refine (live_any _ HS.out).mono ?_; rintro e wl ⟨rfl, hbl⟩; have BL := hid hbl; clear hbl))
    all_goals go_ret
    all_goals exact ⟨rfl, BL.out⟩

theorem walk (a0 : Option Addr) (c0 : Nat) (l0 : List ANode) (m0 : l0.length ≤ maxLen) (w : World) (hs : Sg w) (hsh : Sh w) (w0 : NA w a0 l0) :
    Calls Tryd.prog 3 #[.slice a0 l0.length c0] w fun e w' => e = .returned (.bool true) ∧ Bw w w' := by
  exact core a0 c0 l0 m0 w hs hsh w0

set_option maxRecDepth 100000 in
theorem lifted (os : Os) (started : os.Started) (H : Type) (enc : TypeId × Value → H) :
    ReturnsInHanded {} Tryd.checked os 3 .any (fun w args => (Rows.parseChecksSpec.pre enc Tryd.prog Tryd.f3 [] false w args ∧ laidMetH Tryd.prog laidS w) ∧ sizedMet enc Tryd.prog Tryd.f3 (OpenSpec.ofChange Rows.parseChecksSpec) false w args)
      (Rows.parseChecksSpec.post enc Tryd.prog Tryd.f3 false true false false) := by
  refine returnsInHanded_of_change_and (C := Tryd.checked) (X := fun w _ => laidMetH Tryd.prog laidS w) (fun _ _ _ hh h => h.of_heap hh) ownK started (by kernel_rfl) Tryd.func3
    (ChangeSpec.witness_shaped (enc := enc) (C := Tryd.checked) (os := os) (X := fun w _ => laidMetH Tryd.prog laidS w) false (World.doorLaid Tryd.prog 400 os) #[.slice none 0 0] 8 rfl (World.shaped_of_RefB (by kernel_rfl) (by kernel_rfl)) (by kernel_rfl) (by kernel_rfl) (by kernel_rfl) (door_met os _)) ?_
  intro W base args ds gs before hval0 hW _ _ hL _
  have hval : ∀ (j : Nat) t v, Tryd.f3.params[j]? = some t → args[j]? = some v → Value.okWide Tryd.prog W .any base t v := hval0
  have hW' := hW
  obtain ⟨p, q, hA0, hV, rfl, hfz, hnd⟩ := hW
  have hA : DataW.TrodAll enc Tryd.prog W 0 (fun _ => true) true Tryd.f3.params.toList args.toList ds p := hA0
  rw [Tryd.params3] at hA hval
  obtain ⟨v0, vs0, d0, ds0, p0, q0, hargs, rfl, rfl, h0, r0⟩ := trodAll_cons hA
  obtain ⟨rfl, rfl, rfl⟩ := trodAll_nil r0
  obtain rfl : args = #[v0] := by cases args; simp_all
  obtain ⟨rfl, rfl⟩ := trodVars_none hV
  have k0 := h0
  have lt0 : ∀ x ∈ p0, x.block < W.heap.size := by obtain ⟨m, hm⟩ := k0; exact DataW.trod_lt m _ _ _ hm
  obtain ⟨a0, c0, l0, e0, m0, w0⟩ := open_nodes (hval 0 22 v0 rfl rfl) h0
  subst e0
  have hs := sg_of_laid hL
  have hsh := sh_of_laid hL
  clear hA0 hval0
  refine (walk a0 c0 l0 m0 W hs hsh w0).mono fun e W' ⟨he, bel⟩ => ?_
  subst he
  exact ⟨_, rfl, _, _, _, [], _, [], hW', trodAll_mk1 (shut_bool Tryd.underlying4 _), (trodAll_cons_mk (Below.trod laidOut (by kernel_rfl) (of_decide_eq_true (by kernel_rfl)) k0 bel lt0) trodAll_mk0), rfl, Below.frame bel _, fun h => by cases h⟩

theorem over : Rows.parseChecksRow.holds Tryd.pinned (OpenSpec.ofChange Rows.parseChecksSpec) :=
  OpenClaim.holds_of_wide 3 Tryd.f3 rfl rfl rfl rfl rfl rfl rfl ⟨rfl, rfl, rfl, rfl, rfl⟩ rfl rfl rfl rfl rfl (by kernel_rfl) Tryd.func3 (by kernel_rfl)
    (of_decide_eq_true (by kernel_rfl)) (by unfold Func.isWrapper; first | (rw [if_pos (by decide +kernel)]; kernel_rfl) | (rw [if_neg (by decide +kernel)]; exact ⟨rfl, rfl⟩))
    (fun os started H enc _ => lifted os started H enc)

theorem card : Rows.ParseChecksCardSaid :=
  Claim7.holds_tied_plain_at .later [] [.data, .data] true (true, "1ee87b867a6f7fb388cad427d3238b6067381e6223bad05719f6a30fb194ad88") true
    over (fun _ h => by cases h) (by kernel_rfl) (fun _ h => by cases h) parseChecks_row_tie rfl ⟨rfl, rfl⟩ (by kernel_rfl) rfl
    (fun f fn hf hfn => by
      obtain rfl : f = 3 := Option.some.inj ((show Tryd.prog.funcNamed "jacquard/jacquardlaw06.ParseChecks" = some 3 by kernel_rfl).symm.trans hf) |>.symm
      obtain rfl : fn = Tryd.f3 := (Option.some.inj (Tryd.func3.symm.trans hfn)).symm
      exact ⟨by kernel_rfl, fun j t ht => by
        rw [Tryd.params3] at ht
        have hm : t ∈ [22] := by have h9 := Array.mem_of_getElem? ht; simp at h9 ⊢; first | exact h9 | (rcases h9 with h9 | h9 <;> simp [h9]; done) | (rcases h9 with h9 | h9 | h9 <;> simp [h9]; done) | (rcases h9 with h9 | h9 | h9 | h9 <;> simp [h9]; done)
        have hall : ([22].all fun u => !Tryd.prog.wantsStandIn u) = true := by kernel_rfl
        exact (show Tryd.prog.wantsStandIn t = false by simpa using List.all_eq_true.1 hall t hm)⟩)
    (by kernel_rfl)
end Go.Proofs.YtlcieebneclmpaaDoor.parseChecks
namespace Go.Proofs.YtlcieebneclmpaaDoor
theorem parseChecks_holds : Rows.ParseChecksCardSaid := parseChecks.card
#print axioms parseChecks_holds
end Go.Proofs.YtlcieebneclmpaaDoor
