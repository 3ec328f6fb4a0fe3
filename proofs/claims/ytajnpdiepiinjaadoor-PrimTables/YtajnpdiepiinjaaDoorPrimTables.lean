/- For all texts and numbers that may be handed in, the statement PrimTables of layer 9 answers true: operators by their signs, faults' texts and how many arguments primitives take are the document's; no condition but that the listed tables lie as the program's text lays them. -/
import Derived.Test.YtajnpdiepiinjaaDoorFr9d
set_option linter.unusedVariables false
set_option linter.unusedSimpArgs false
namespace Go.Proofs.YtajnpdiepiinjaaDoor.primTables
open Go.ChangeShapes Go.WideShapes Go.ChangeAt Go.RowKit

set_option maxHeartbeats 4000000 in
set_option maxRecDepth 100000 in
theorem core (w : World) (hsn : Sn w) (ht : Tf w) (har : Ar w) (s : ByteArray) (n : Int) (hn : n ≤ 9223372036854775807) :
    Calls Tryd.prog 3 #[.string s, .int .i64 n] w fun e w' => e = .returned (.bool true) ∧ Bw w w' := by
  have HT := hid ht
  have HA := hid har
  have HO := hid (Op_any s hsn)
  have HR := hid (fun w => rOp_any (w := w) s)
  have HF := hid (fun w h => FaultText_any (w := w) n hn h)
  have HG := hid (fun w => rFaultText_any (w := w) n hn)
  have HC := hid (fun w h => Arity_any (w := w) n h)
  have HD := hid (fun w => rArity_any (w := w) n)
  generalize (opAt s 0 sgn).1 = p at HO HR
  generalize (opAt s 0 sgn).2 = q at HO HR
  generalize strOfNums (ftx n) = t at HF HG
  generalize ary n = k at HC HD
  clear hsn ht har
  go_enter Tryd.func3, Tryd.ntmps3
  go_wp2_with (first
    | (go_at_call 4; refine HO.out.mono ?_; rintro e w' ⟨rfl, hw'⟩; subst w')
    | (go_at_call 5; refine (HR.out _).mono ?_; rintro e w1 ⟨rfl, hb1⟩; have B1 := hid hb1; clear hb1)
    | (go_at_call 6; refine (HF.out _ (HT.out.bw B1.out)).mono ?_; rintro e w' ⟨rfl, hw'⟩; subst w')
    | (go_at_call 7; refine (HG.out _).mono ?_; rintro e w2 ⟨rfl, hb2⟩; have B2 := hid (B1.out.trans hb2); clear hb2)
    | (go_at_call 8; refine (HC.out _ (HA.out.bw B2.out)).mono ?_; rintro e w' ⟨rfl, hw'⟩; subst w')
    | (go_at_call 9; refine (HD.out _).mono ?_; rintro e w3 ⟨rfl, hb3⟩; have B3 := hid (B2.out.trans hb3); clear hb3)
    | (go_at_call 10; refine (live_any _ (HT.out.bw B3.out)).mono ?_; rintro e wl ⟨rfl, hbl⟩; have BL := hid (B3.out.trans hbl); clear hbl)
    | fail)
  all_goals go_ret
  all_goals exact ⟨rfl, BL.out⟩

theorem walk (l0 : List Int) (w0 : (∀ c ∈ l0, 0 ≤ c ∧ c ≤ 255) ∧ l0.length ≤ maxLen) (a1 : Int) (w1 : -9223372036854775808 ≤ a1 ∧ a1 ≤ 9223372036854775807) (w : World) (hsn : Sn w) (htf : Tf w) (har : Ar w) :
    Calls Tryd.prog 3 #[.string (strOfNums l0), .int .i64 a1] w fun e w' => e = .returned (.bool true) ∧ Bw w w' := by
  exact core w hsn htf har _ a1 w1.2

set_option maxRecDepth 100000 in
theorem lifted (os : Os) (started : os.Started) (H : Type) (enc : TypeId × Value → H) :
    ReturnsInHanded {} Tryd.checked os 3 .any (fun w args => (Rows.primTablesSpec.pre enc Tryd.prog Tryd.f3 [] false w args ∧ laidMetH Tryd.prog laidS w) ∧ sizedMet enc Tryd.prog Tryd.f3 (OpenSpec.ofChange Rows.primTablesSpec) false w args)
      (Rows.primTablesSpec.post enc Tryd.prog Tryd.f3 false true false false) := by
  refine returnsInHanded_of_change_and (C := Tryd.checked) (X := fun w _ => laidMetH Tryd.prog laidS w) (fun _ _ _ hh h => h.of_heap hh) ownK started (by kernel_rfl) Tryd.func3
    (ChangeSpec.witness_shaped (enc := enc) (C := Tryd.checked) (os := os) (X := fun w _ => laidMetH Tryd.prog laidS w) false (World.doorLaid Tryd.prog 400 os) #[.string ByteArray.empty, .int .i64 0] 8 rfl (World.shaped_of_RefB (by kernel_rfl) (by kernel_rfl)) (by kernel_rfl) (by kernel_rfl) (by kernel_rfl) (door_met os _)) ?_
  intro W base args ds gs before hval0 hW _ _ hL _
  have hval : ∀ (j : Nat) t v, Tryd.f3.params[j]? = some t → args[j]? = some v → Value.okWide Tryd.prog W .any base t v := hval0
  have hW' := hW
  obtain ⟨p, q, hA0, hV, rfl, hfz, hnd⟩ := hW
  have hA : DataW.TrodAll enc Tryd.prog W 0 (fun _ => true) true Tryd.f3.params.toList args.toList ds p := hA0
  rw [Tryd.params3] at hA hval
  obtain ⟨v0, vs0, d0, ds0, p0, q0, hargs, rfl, rfl, h0, r0⟩ := trodAll_cons hA
  obtain ⟨v1, vs1, d1, ds1, p1, q1, rfl, rfl, rfl, h1, r1⟩ := trodAll_cons r0
  obtain ⟨rfl, rfl, rfl⟩ := trodAll_nil r1
  obtain rfl : args = #[v0, v1] := by cases args; simp_all
  obtain ⟨rfl, rfl⟩ := trodVars_none hV
  have k0 := h0
  have lt0 : ∀ x ∈ p0, x.block < W.heap.size := by obtain ⟨m, hm⟩ := k0; exact DataW.trod_lt m _ _ _ hm
  have k1 := h1
  have lt1 : ∀ x ∈ p1, x.block < W.heap.size := by obtain ⟨m, hm⟩ := k1; exact DataW.trod_lt m _ _ _ hm
  obtain ⟨l0, e0, w0⟩ := open_text (hval 0 9 v0 rfl rfl) h0
  subst e0
  obtain ⟨a1, rfl, rfl, rfl, w10⟩ := open_int Tryd.underlying3 (hval 1 3 v1 rfl rfl) h1
  have w1 := bounds_i64 w10
  clear hA0 hval0
  refine (walk l0 w0 a1 w1 W (sn_of_laid hL) (tf_of_laid hL) (ar_of_laid hL)).mono fun e W' ⟨he, bel⟩ => ?_
  subst he
  exact ⟨_, rfl, _, _, _, [], _, [], hW', trodAll_mk1 (shut_bool Tryd.underlying4 _), (trodAll_cons_mk (Below.trod laidOut (by kernel_rfl) (of_decide_eq_true (by kernel_rfl)) k0 bel lt0) (trodAll_cons_mk (Below.trod laidOut (by kernel_rfl) (of_decide_eq_true (by kernel_rfl)) k1 bel lt1) trodAll_mk0)), rfl, Below.frame bel _, fun h => by cases h⟩

theorem over : Rows.primTablesRow.holds Tryd.pinned (OpenSpec.ofChange Rows.primTablesSpec) :=
  OpenClaim.holds_of_wide 3 Tryd.f3 rfl rfl rfl rfl rfl rfl rfl ⟨rfl, rfl, rfl, rfl, rfl⟩ rfl rfl rfl rfl rfl (by kernel_rfl) Tryd.func3 (by kernel_rfl)
    (of_decide_eq_true (by kernel_rfl)) (by unfold Func.isWrapper; first | (rw [if_pos (by decide +kernel)]; kernel_rfl) | (rw [if_neg (by decide +kernel)]; exact ⟨rfl, rfl⟩))
    (fun os started H enc _ => lifted os started H enc)

theorem card : Rows.PrimTablesCardSaid :=
  Claim7.holds_tied_plain_at .later [] [.data, .data, .data, .data] true (true, "ef4e5b09e5a8914ce277f28de66399fb57ce633a9b14c657b2ba1bc635f1f6dd") false
    over (fun _ h => by cases h) (by kernel_rfl) (fun _ h => by cases h) primTables_row_tie rfl ⟨rfl, rfl⟩ (by kernel_rfl) rfl
    (fun f fn hf hfn => by
      obtain rfl : f = 3 := Option.some.inj ((show Tryd.prog.funcNamed "jacquard/jacquardlaw09.PrimTables" = some 3 by kernel_rfl).symm.trans hf) |>.symm
      obtain rfl : fn = Tryd.f3 := (Option.some.inj (Tryd.func3.symm.trans hfn)).symm
      exact ⟨by kernel_rfl, fun j t ht => by
        rw [Tryd.params3] at ht
        have hm : t ∈ [3, 9] := by have h9 := Array.mem_of_getElem? ht; simp at h9 ⊢; first | exact h9 | (rcases h9 with h9 | h9 <;> simp [h9]; done) | (rcases h9 with h9 | h9 | h9 <;> simp [h9]; done) | (rcases h9 with h9 | h9 | h9 | h9 <;> simp [h9]; done)
        have hall : ([3, 9].all fun u => !Tryd.prog.wantsStandIn u) = true := by kernel_rfl
        exact (show Tryd.prog.wantsStandIn t = false by simpa using List.all_eq_true.1 hall t hm)⟩)
    (by kernel_rfl)
end Go.Proofs.YtajnpdiepiinjaaDoor.primTables
namespace Go.Proofs.YtajnpdiepiinjaaDoor
theorem primTables_holds : Rows.PrimTablesCardSaid := primTables.card
#print axioms primTables_holds
end Go.Proofs.YtajnpdiepiinjaaDoor
