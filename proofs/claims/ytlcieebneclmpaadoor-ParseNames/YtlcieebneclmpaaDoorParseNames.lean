/- For every text, the statement ParseNames of layer 6 answers true: letters, digits and _ may be declared just if they are a name; no condition beyond the program's own tables, which the card ties to their text. -/
import Derived.Test.YtlcieebneclmpaaDoorRAk
import Derived.Test.YtlcieebneclmpaaDoorK12
import Derived.Test.YtlcieebneclmpaaDoorPgnk
import Derived.Test.YtlcieebneclmpaaDoorPgak
set_option linter.unusedVariables false
set_option linter.unusedSimpArgs false
namespace Go.Proofs.YtlcieebneclmpaaDoor.parseNames
open Go.ChangeShapes Go.WideShapes Go.ChangeAt Go.RowKit

theorem names_got {b : List Int} {w : World} {e : Ending} {w' : World} {l : List Int} {at_ : Int} (h : GotA b w e w') (hp : parA b = ([(1, 1, [], 0, 0), (3, 1, l, 0, 0), (14, 0, [], 1, at_)], 0, (b.length : Int))) :
    ∃ g cap, e = .returned (.tuple #[.slice (some ⟨g, 0, none⟩) 3 cap, .int .i64 0, .int .i64 b.length]) ∧ g < w'.heap.size ∧ w'.cell? ⟨g, 5, none⟩ = some (.int .i64 3) ∧ w'.cell? ⟨g, 7, none⟩ = some (.string (strOfNums l)) ∧ Bw w w' := by
  obtain ⟨hb, h⟩ := h
  rw [hp, if_pos rfl] at h
  obtain ⟨r, rfl, hn⟩ := h
  obtain ⟨g, cap, rfl, _, hg, hc⟩ := hn.at (by simp)
  exact ⟨g, cap, rfl, hg, hc 1 (by simp) 0 (by decide), hc 1 (by simp) 2 (by decide), hb⟩

theorem names_bad {b : List Int} {w : World} {e : Ending} {w' : World} {n a : Int} (h : GotA b w e w') (hp : parA b = ([], n, a)) (hn : n = 6 ∨ n = 9) :
    e = .returned (.tuple #[.slice none 0 0, .int .i64 n, .int .i64 a]) ∧ Bw w w' := by
  obtain ⟨hb, h⟩ := h
  rw [hp, if_neg (by dsimp only; omega)] at h
  exact ⟨h.2, hb⟩

theorem varT_bytes {l : List Int} (h : ∀ c ∈ l, 0 ≤ c ∧ c ≤ 255) : ∀ c ∈ varT l, 0 ≤ c ∧ c ≤ 255 := by
  intro c hc
  unfold varT at hc
  rcases List.mem_append.1 hc with hc | hc
  · rcases List.mem_append.1 hc with hc | hc
    · simp at hc; omega
    · exact h c hc
  · simp at hc; omega

theorem nm_of {c : Int} (h : (c == 95 || (decide (48 ≤ c) && decide (c ≤ 57)) || (decide (97 ≤ c) && decide (c ≤ 122)) || (decide (65 ≤ c) && decide (c ≤ 90))) = true) : isNm c = true := by
  simp only [isNm, isLt, isDg, Bool.or_eq_true, Bool.and_eq_true, beq_iff_eq, decide_eq_true_eq] at h ⊢
  omega

set_option maxRecDepth 100000 in
set_option maxHeartbeats 8000000 in
theorem coreS (l0 : List Int) (hb : ∀ c ∈ l0, 0 ≤ c ∧ c ≤ 255) (hm : l0.length ≤ 300) (w : World) (hs : Sg w) :
    Calls Tryd.prog 7 #[.string (strOfNums l0)] w fun e w' => e = .returned (.bool true) ∧ Bw w w' := by
  have HS := hid hs
  have S := strOf_get hb
  have Z : (strOfNums l0).size = l0.length := strOfNums_size _
  have h' : decide ((300 : Int) < (l0.length : Int)) = false := decide_eq_false (by omega)
  have a1 : ∀ w, (Op.stringOp .add ⟨#[118, 97, 114, 32]⟩ (strOfNums l0)).run Tryd.prog w = .ok (.string (strOfNums ([118, 97, 114, 32] ++ l0))) w := fun w => by
    have := run_string_add_sum (P := Tryd.prog) w (strOfNums [118, 97, 114, 32]) (strOfNums l0) (by simp only [strOfNums_size]; simp; omega)
    rw [str_cat] at this; exact this
  have a2 : ∀ w, (Op.stringOp .add (strOfNums ([118, 97, 114, 32] ++ l0)) ⟨#[32, 61, 32, 49, 59]⟩).run Tryd.prog w = .ok (.string (strOfNums (varT l0))) w := fun w => by
    have := run_string_add_sum (P := Tryd.prog) w (strOfNums ([118, 97, 114, 32] ++ l0)) (strOfNums [32, 61, 32, 49, 59]) (by simp only [strOfNums_size]; simp; omega)
    rw [str_cat] at this; exact this
  have hvl : (varT l0).length = l0.length + 9 := by simp [varT]
  obtain ⟨cp, w9, hcv, hby, hb9⟩ := by_str w (varT l0) (varT_bytes hb) (by omega)
  have hpa := parse_any _ (varT l0) w9 hby (hs.bw hb9) (by omega)
  have hvs : (strOfNums (varT l0)).size = (varT l0).length := strOfNums_size _
  have hnm := rName_any l0 hb (by omega)
  have A1 := hid a1
  have A2 := hid a2
  have HPA := hid hpa
  have HCV := hid hcv
  have HB9 := hid hb9
  have HVS := hid hvs
  have HNM := hid hnm
  have HPL := hid (fun h => names_plain l0 h hm)
  have HSTR := hid (fun (l : List Int) (h : l = l0) => congrArg strOfNums h)
  clear a1 a2 hpa hcv hb9 hby hs hb hvl hvs hnm
  obtain ⟨VL, hVL⟩ : ∃ VL, VL = (varT l0).length := ⟨_, rfl⟩
  go_enter Tryd.func7, Tryd.ntmps7
  go_wp2
  go_loopw [3] (fun j wr => ∃ k : Nat, k ≤ l0.length ∧ j = .int .i64 k ∧ (l0.take k).all isNm = true ∧ wr = w) (fun j _ => l0.length - (intOf j).toNat)
  case atStart => exact ⟨0, Nat.zero_le _, rfl, by simp, rfl⟩
  case round =>
    obtain ⟨k, hk, rfl, ha, hwr⟩ := hrel
    subst hwr
    have HA := hid ha
    clear ha
    by_cases hlt : k < l0.length
    · have hlt2 : (k : Int) < (l0.length : Int) := by omega
      clear A1 A2 HPA HCV HPL HSTR HNM HVS
      go_wp2_with (first
        | (go_at_call 9; refine (live_any _ HS.out).mono ?_; rintro e wl ⟨rfl, hbl⟩; have BL := hid hbl; clear hbl))
      all_goals first
        | (go_ret; exact ⟨rfl, BL.out⟩)
        | (have hc : isNm (nth l0 k) = true := by
             simp only [isNm, isLt, isDg, Bool.or_eq_true, Bool.and_eq_true, beq_iff_eq, decide_eq_true_eq]
             simp only [Bool.not_eq_false', Bool.not_eq_true', beq_iff_eq, beq_eq_false_iff_ne, decide_eq_true_eq, decide_eq_false_iff_not] at *
             omega
           refine ⟨⟨k + 1, by omega, by go_num, ?_, trivial⟩, ?_⟩
           · rw [all_take_succ _ _ _ hlt, HA.out]; simp [hc]
           · simp only [intOf]; omega)
    · obtain rfl : k = l0.length := by omega
      have hall : ∀ c ∈ l0, isNm c = true := by
        have := HA.out
        rw [List.take_length] at this
        exact List.all_eq_true.1 this
      have HP := HPL.out hall
      have b1 := A1.out
      have b2 := A2.out
      have hcv := HCV.out
      have hsz := HVS.out
      have hnm := HNM.out
      clear A1 A2 HCV HVS HNM HPL HA HSTR hlt hk hall S
      cases hn : isName l0
      · obtain ⟨er, a, hp, he⟩ := HP.2 hn
        rw [hn] at hnm
        have HN := hid hnm
        have HPB := hid (HPA.out.mono fun e w' h => names_bad h hp he)
        clear HPA
        have he1 : (er == 6 || er == 9) = true := by simpa using he
        clear hnm hp HP hn he
        generalize strOfNums l0 = s at *
        generalize strOfNums ([118, 97, 114, 32] ++ l0) = s1 at *
        generalize strOfNums (varT l0) = s2 at *
        go_wp2_with (first
          | (go_at_call 15; refine HPB.out.mono ?_; rintro e w5 ⟨rfl, hb5⟩; have B5 := hid (HB9.out.trans hb5); clear hb5)
          | (go_at_call 17; refine (HN.out _).mono ?_; rintro e w' ⟨rfl, os, n, rfl⟩)
          | (go_at_call 12; refine (num_any _ _).mono ?_; rintro e w' ⟨rfl, hw'⟩; subst w')
          | (go_at_call 9; refine (live_any _ (HS.out.bw (B5.out.trans (Ly.bw (by repeat (first | exact Ly.refl _ | apply Ly.lay)))))).mono ?_; rintro e wl ⟨rfl, hbl⟩; have BL := hid ((B5.out.trans (Ly.bw (by repeat (first | exact Ly.refl _ | apply Ly.lay)))).trans hbl); clear hbl)
          | fail)
        all_goals go_ret
        all_goals exact ⟨rfl, BL.out⟩
      · have hp := HP.1 hn
        rw [hn] at hnm
        have HN := hid hnm
        have HPB := hid (HPA.out.mono fun e w' h => names_got h hp)
        clear HPA hnm hp HP hn
        generalize strOfNums l0 = s at *
        generalize strOfNums ([118, 97, 114, 32] ++ l0) = s1 at *
        generalize strOfNums (varT l0) = s2 at *
        go_wp2_with (first
          | (go_at_call 15; refine HPB.out.mono ?_; rintro e w5 ⟨g, cap, rfl, hg, c1, c2, hb5⟩; have B5 := hid (HB9.out.trans hb5); clear hb5)
          | (go_at_call 17; refine (HN.out _).mono ?_; rintro e w' ⟨rfl, os, n, rfl⟩)
          | (go_at_call 12; refine (num_any _ _).mono ?_; rintro e w' ⟨rfl, hw'⟩; subst w')
          | (go_at_call 9; refine (live_any _ (HS.out.bw (B5.out.trans (Ly.bw (by repeat (first | exact Ly.refl _ | apply Ly.lay)))))).mono ?_; rintro e wl ⟨rfl, hbl⟩; have BL := hid ((B5.out.trans (Ly.bw (by repeat (first | exact Ly.refl _ | apply Ly.lay)))).trans hbl); clear hbl)
          | fail)
        all_goals go_ret
        all_goals exact ⟨rfl, BL.out⟩

theorem walk (l0 : List Int) (w0 : (∀ c ∈ l0, 0 ≤ c ∧ c ≤ 255) ∧ l0.length ≤ maxLen) (w : World) (hs : Sg w) :
    Calls Tryd.prog 7 #[.string (strOfNums l0)] w fun e w' => e = .returned (.bool true) ∧ Bw w w' := by
  by_cases h : l0.length ≤ 300
  · exact coreS l0 w0.1 h w hs
  · have HS := hid hs
    have Z : (strOfNums l0).size = l0.length := strOfNums_size _
    have h' : decide ((300 : Int) < (l0.length : Int)) = true := decide_eq_true (by omega)
    have hm := w0.2
    unfold maxLen at hm
    clear h hs w0
    generalize strOfNums l0 = s at *
    go_enter Tryd.func7, Tryd.ntmps7
    go_wp2_with (first
      | (go_at_call 9; refine (live_any _ HS.out).mono ?_; rintro e wl ⟨rfl, hbl⟩; have BL := hid hbl; clear hbl))
    all_goals go_ret
    all_goals exact ⟨rfl, BL.out⟩

set_option maxRecDepth 100000 in
theorem lifted (os : Os) (started : os.Started) (H : Type) (enc : TypeId × Value → H) :
    ReturnsInHanded {} Tryd.checked os 7 .any (fun w args => (Rows.parseNamesSpec.pre enc Tryd.prog Tryd.f7 [] false w args ∧ laidMetH Tryd.prog laidS w) ∧ sizedMet enc Tryd.prog Tryd.f7 (OpenSpec.ofChange Rows.parseNamesSpec) false w args)
      (Rows.parseNamesSpec.post enc Tryd.prog Tryd.f7 false true false false) := by
  refine returnsInHanded_of_change_and (C := Tryd.checked) (X := fun w _ => laidMetH Tryd.prog laidS w) (fun _ _ _ hh h => h.of_heap hh) ownK started (by kernel_rfl) Tryd.func7
    (ChangeSpec.witness_shaped (enc := enc) (C := Tryd.checked) (os := os) (X := fun w _ => laidMetH Tryd.prog laidS w) false (World.doorLaid Tryd.prog 400 os) #[.string ByteArray.empty] 8 rfl (World.shaped_of_RefB (by kernel_rfl) (by kernel_rfl)) (by kernel_rfl) (by kernel_rfl) (by kernel_rfl) (door_met os _)) ?_
  intro W base args ds gs before hval0 hW _ _ hL _
  have hval : ∀ (j : Nat) t v, Tryd.f7.params[j]? = some t → args[j]? = some v → Value.okWide Tryd.prog W .any base t v := hval0
  have hW' := hW
  obtain ⟨p, q, hA0, hV, rfl, hfz, hnd⟩ := hW
  have hA : DataW.TrodAll enc Tryd.prog W 0 (fun _ => true) true Tryd.f7.params.toList args.toList ds p := hA0
  rw [Tryd.params7] at hA hval
  obtain ⟨v0, vs0, d0, ds0, p0, q0, hargs, rfl, rfl, h0, r0⟩ := trodAll_cons hA
  obtain ⟨rfl, rfl, rfl⟩ := trodAll_nil r0
  obtain rfl : args = #[v0] := by cases args; simp_all
  obtain ⟨rfl, rfl⟩ := trodVars_none hV
  have k0 := h0
  have lt0 : ∀ x ∈ p0, x.block < W.heap.size := by obtain ⟨m, hm⟩ := k0; exact DataW.trod_lt m _ _ _ hm
  obtain ⟨l0, e0, w0⟩ := open_text (hval 0 9 v0 rfl rfl) h0
  subst e0
  have hs := sg_of_laid hL
  clear hA0 hval0
  refine (walk l0 w0 W hs).mono fun e W' ⟨he, bel⟩ => ?_
  subst he
  exact ⟨_, rfl, _, _, _, [], _, [], hW', trodAll_mk1 (shut_bool Tryd.underlying4 _), (trodAll_cons_mk (Below.trod laidOut (by kernel_rfl) (of_decide_eq_true (by kernel_rfl)) k0 bel lt0) trodAll_mk0), rfl, Below.frame bel _, fun h => by cases h⟩

theorem over : Rows.parseNamesRow.holds Tryd.pinned (OpenSpec.ofChange Rows.parseNamesSpec) :=
  OpenClaim.holds_of_wide 7 Tryd.f7 rfl rfl rfl rfl rfl rfl rfl ⟨rfl, rfl, rfl, rfl, rfl⟩ rfl rfl rfl rfl rfl (by kernel_rfl) Tryd.func7 (by kernel_rfl)
    (of_decide_eq_true (by kernel_rfl)) (by unfold Func.isWrapper; first | (rw [if_pos (by decide +kernel)]; kernel_rfl) | (rw [if_neg (by decide +kernel)]; exact ⟨rfl, rfl⟩))
    (fun os started H enc _ => lifted os started H enc)

theorem card : Rows.ParseNamesCardSaid :=
  Claim7.holds_tied_plain_at .later [] [.data, .data] true (true, "1ee87b867a6f7fb388cad427d3238b6067381e6223bad05719f6a30fb194ad88") true
    over (fun _ h => by cases h) (by kernel_rfl) (fun _ h => by cases h) parseNames_row_tie rfl ⟨rfl, rfl⟩ (by kernel_rfl) rfl
    (fun f fn hf hfn => by
      obtain rfl : f = 7 := Option.some.inj ((show Tryd.prog.funcNamed "jacquard/jacquardlaw06.ParseNames" = some 7 by kernel_rfl).symm.trans hf) |>.symm
      obtain rfl : fn = Tryd.f7 := (Option.some.inj (Tryd.func7.symm.trans hfn)).symm
      exact ⟨by kernel_rfl, fun j t ht => by
        rw [Tryd.params7] at ht
        have hm : t ∈ [9] := by have h9 := Array.mem_of_getElem? ht; simp at h9 ⊢; first | exact h9 | (rcases h9 with h9 | h9 <;> simp [h9]; done) | (rcases h9 with h9 | h9 | h9 <;> simp [h9]; done) | (rcases h9 with h9 | h9 | h9 | h9 <;> simp [h9]; done)
        have hall : ([9].all fun u => !Tryd.prog.wantsStandIn u) = true := by kernel_rfl
        exact (show Tryd.prog.wantsStandIn t = false by simpa using List.all_eq_true.1 hall t hm)⟩)
    (by kernel_rfl)
end Go.Proofs.YtlcieebneclmpaaDoor.parseNames
namespace Go.Proofs.YtlcieebneclmpaaDoor
theorem parseNames_holds : Rows.ParseNamesCardSaid := parseNames.card
#print axioms parseNames_holds
end Go.Proofs.YtlcieebneclmpaaDoor
