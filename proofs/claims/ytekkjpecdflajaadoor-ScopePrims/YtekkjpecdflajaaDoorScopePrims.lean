/- ScopePrims: names of primitives, and their numbers. -/
import Derived.Test.YtekkjpecdflajaaDoorAll
set_option linter.unusedVariables false
set_option linter.unusedSimpArgs false
namespace Go.Proofs.YtekkjpecdflajaaDoor.scopePrims
open Go.ChangeShapes Go.WideShapes Go.ChangeAt Go.RowKit

set_option maxRecDepth 100000 in
set_option maxHeartbeats 4000000 in
theorem walk (l0 : List Int) (w0 : (∀ c ∈ l0, 0 ≤ c ∧ c ≤ 255) ∧ l0.length ≤ maxLen) (a1 : Int) (w1 : -9223372036854775808 ≤ a1 ∧ a1 ≤ 9223372036854775807) (w : World) (hs : PrM w) (hsh : Sh w) :
    Calls Tryd.prog 3 #[.string (strOfNums l0), .int .i64 a1] w fun e w' => e = .returned (.bool true) ∧ Bw w w' := by
  have HS := hid hs
  have HSH := hid hsh
  have HPN := hid (fun (W : World) (hp : PrM W) => primName_any hp a1)
  generalize strOfNums l0 = s
  have hcs : ∃ (n : Int) (b : Bool), (∀ (W : World), PrM W → Calls Tryd.prog 5 #[.string s] W fun e w' => e = .returned (.tuple #[.int .i64 n, .bool b]) ∧ Bw W w') ∧ ((b = true ∧ 0 ≤ n ∧ primN s = n) ∨ (b = false ∧ n = 0 ∧ primN s = -1)) := by
    cases hp : primF s with
    | some k => exact ⟨k, true, fun W h => by have := prim_any h s; rw [hp] at this; exact this, .inl ⟨rfl, by omega, primN_some hp⟩⟩
    | none => exact ⟨0, false, fun W h => by have := prim_any h s; rw [hp] at this; exact this, .inr ⟨rfl, rfl, primN_none hp⟩⟩
  obtain ⟨n, b, hpr, hcs⟩ := hcs
  have HPR := hid hpr
  have HRP := hid (fun (W : World) => rPrim_any W s)
  generalize primN s = k at HRP hcs
  clear hs hsh w0 hpr
  by_cases h0 : 0 ≤ a1 ∧ a1 < 30
  · obtain ⟨m, rfl⟩ : ∃ m : Nat, a1 = m := ⟨a1.toNat, by omega⟩
    rw [if_pos h0, Int.toNat_natCast] at HPN
    obtain ⟨u, hu1, hu2⟩ := pr_get (show m < 30 by omega)
    rw [show prs.getD m ⟨#[]⟩ = u by rw [List.getD_eq_getElem?_getD, hu1]; rfl] at HPN
    have hm1 : (0 : Int) ≤ (m : Int) := by omega
    have hm2 : (m : Int) < 30 := h0.2
    have HU := hid (fun (W : World) => (show (W.alloc (.cells prV 9)).cell? ⟨W.heap.size, m, none⟩ = some (.string u) by rw [World.cell?_alloc_mark]; exact hu2))
    clear h0 hu1 hu2 w1
    rcases hcs with ⟨rfl, hn, rfl⟩ | ⟨rfl, rfl, rfl⟩
    all_goals
      go_enter Tryd.func3, Tryd.ntmps3
      go_wp2_with (first
        | (go_at_call 5; refine (HPR.out _ HS.out).mono ?_; rintro e w1 ⟨rfl, hb1⟩; have B1 := hid hb1; clear hb1)
        | (go_at_call 6; refine (HRP.out _).mono ?_; rintro e w2 ⟨rfl, hb2⟩; have B2 := hid (B1.out.trans hb2); clear hb2)
        | (go_at_call 7; refine (rNames_any _).mono ?_; rintro e w3 ⟨rfl, hw3⟩; have hcu := HU.out w2; rw [← hw3] at hcu; have B3 := hid (show Bw w w3 from hw3 ▸ B2.out.alloc _); have hlt : w2.heap.size < w3.heap.size := (by rw [hw3]; simp); clear hw3)
        | (go_at_call 8; refine (HPN.out _ (HS.out.bw B3.out)).mono ?_; rintro e w4 ⟨rfl, hb4⟩; have B4 := hid (B3.out.trans hb4); clear hb4)
        | (go_at_call 9; refine (live_any _ (HSH.out.bw B4.out) (HS.out.bw B4.out)).mono ?_; rintro e wl ⟨rfl, hbl⟩; have BL := hid (B4.out.trans hbl); clear hbl)
        | fail)
      all_goals go_ret
      all_goals exact ⟨rfl, BL.out⟩
  · rw [if_neg h0] at HPN
    have hcase : (a1 < 0 ∧ ¬ 0 ≤ a1) ∨ (0 ≤ a1 ∧ ¬ a1 < 30) := by omega
    clear h0 w1
    rcases hcs with ⟨rfl, hn, rfl⟩ | ⟨rfl, rfl, rfl⟩
    all_goals
      rcases hcase with ⟨h1, h2⟩ | ⟨h1, h2⟩
      all_goals
        go_enter Tryd.func3, Tryd.ntmps3
        go_wp2_with (first
          | (go_at_call 5; refine (HPR.out _ HS.out).mono ?_; rintro e w1 ⟨rfl, hb1⟩; have B1 := hid hb1; clear hb1)
          | (go_at_call 6; refine (HRP.out _).mono ?_; rintro e w2 ⟨rfl, hb2⟩; have B2 := hid (B1.out.trans hb2); clear hb2)
          | (go_at_call 7; refine (rNames_any _).mono ?_; rintro e w3 ⟨rfl, hw3⟩; have B3 := hid (show Bw w w3 from hw3 ▸ B2.out.alloc _); clear hw3)
          | (go_at_call 8; refine (HPN.out _ (HS.out.bw B3.out)).mono ?_; rintro e w4 ⟨rfl, hb4⟩; have B4 := hid (B3.out.trans hb4); clear hb4)
          | (go_at_call 9; refine (live_any _ (HSH.out.bw B4.out) (HS.out.bw B4.out)).mono ?_; rintro e wl ⟨rfl, hbl⟩; have BL := hid (B4.out.trans hbl); clear hbl)
          | fail)
        all_goals go_ret
        all_goals exact ⟨rfl, BL.out⟩

set_option maxRecDepth 100000 in
theorem lifted (os : Os) (started : os.Started) (H : Type) (enc : TypeId × Value → H) :
    ReturnsInHanded {} Tryd.checked os 3 .any (fun w args => (Rows.scopePrimsSpec.pre enc Tryd.prog Tryd.f3 [] false w args ∧ laidMetH Tryd.prog laidS w) ∧ sizedMet enc Tryd.prog Tryd.f3 (OpenSpec.ofChange Rows.scopePrimsSpec) false w args)
      (Rows.scopePrimsSpec.post enc Tryd.prog Tryd.f3 false true false false) := by
  refine returnsInHanded_of_change_and (C := Tryd.checked) (X := fun w _ => laidMetH Tryd.prog laidS w) (fun _ _ _ hh h => h.of_heap hh) ownK started (by kernel_rfl) Tryd.func3
    (ChangeSpec.witness_shaped (enc := enc) (C := Tryd.checked) (os := os) (X := fun w _ => laidMetH Tryd.prog laidS w) false (World.doorLaid Tryd.prog 400 os) #[.string ByteArray.empty, .int .i64 0] 8 rfl (World.shaped_of_RefB (by kernel_rfl) (by kernel_rfl)) (by kernel_rfl) (by kernel_rfl) (by kernel_rfl) (door_met os _)) ?_
  intro W base args ds gs before hval0 hW _ _ hL _
  have hval : ∀ (j : Nat) t v, Tryd.f3.params[j]? = some t → args[j]? = some v → Value.okWide Tryd.prog W .any base t v := hval0
  have hW' := hW
  obtain ⟨p, q, hA0, hV, rfl, hfz, hnd⟩ := hW
  have hA : DataW.TrodAll enc Tryd.prog W 0 (fun _ => true) true Tryd.f3.params.toList args.toList ds p := hA0
  rw [Tryd.params3] at hA hval
  obtain ⟨v0, vs0, d0, ds0, p0, q0, hargs, rfl, rfl, h0, r0⟩ := trodAll_cons hA
  obtain ⟨v1, vs1, d1, ds1, p1, q1, rfl, rfl, rfl, h1, r1⟩ := trodAll_cons r0
  obtain ⟨rfl, rfl, rfl⟩ := trodAll_nil r1
  obtain rfl : args = #[v0, v1] := by cases args; simp_all
  obtain ⟨rfl, rfl⟩ := trodVars_none hV
  have k0 := h0
  have lt0 : ∀ x ∈ p0, x.block < W.heap.size := by obtain ⟨m, hm⟩ := k0; exact DataW.trod_lt m _ _ _ hm
  have k1 := h1
  have lt1 : ∀ x ∈ p1, x.block < W.heap.size := by obtain ⟨m, hm⟩ := k1; exact DataW.trod_lt m _ _ _ hm
  obtain ⟨l0, e0, w0⟩ := open_text (hval 0 9 v0 rfl rfl) h0
  subst e0
  obtain ⟨a1, rfl, rfl, rfl, w10⟩ := open_int Tryd.underlying3 (hval 1 3 v1 rfl rfl) h1
  have w1 := bounds_i64 w10
  have hs := pr_of_laid hL
  have hsh := sh_of_laid hL
  clear hA0 hval0
  refine (walk l0 w0 a1 w1 W hs hsh).mono fun e W' ⟨he, bel⟩ => ?_
  subst he
  exact ⟨_, rfl, _, _, _, [], _, [], hW', trodAll_mk1 (shut_bool Tryd.underlying4 _), (trodAll_cons_mk (Below.trod laidOut (by kernel_rfl) (of_decide_eq_true (by kernel_rfl)) k0 bel lt0) (trodAll_cons_mk (Below.trod laidOut (by kernel_rfl) (of_decide_eq_true (by kernel_rfl)) k1 bel lt1) trodAll_mk0)), rfl, Below.frame bel _, fun h => by cases h⟩

theorem over : Rows.scopePrimsRow.holds Tryd.pinned (OpenSpec.ofChange Rows.scopePrimsSpec) :=
  OpenClaim.holds_of_wide 3 Tryd.f3 rfl rfl rfl rfl rfl rfl rfl ⟨rfl, rfl, rfl, rfl, rfl⟩ rfl rfl rfl rfl rfl (by kernel_rfl) Tryd.func3 (by kernel_rfl)
    (of_decide_eq_true (by kernel_rfl)) (by unfold Func.isWrapper; first | (rw [if_pos (by decide +kernel)]; kernel_rfl) | (rw [if_neg (by decide +kernel)]; exact ⟨rfl, rfl⟩))
    (fun os started H enc _ => lifted os started H enc)

theorem card : Rows.ScopePrimsCardSaid :=
  Claim7.holds_tied_plain_at .later [] [.data, .data] true (true, "0dfd061f7d647a7fe0a16d2407df84fcc1cf1336d7c3073b8a2618a8960aea87") false
    over (fun _ h => by cases h) (by kernel_rfl) (fun _ h => by cases h) scopePrims_row_tie rfl ⟨rfl, rfl⟩ (by kernel_rfl) rfl
    (fun f fn hf hfn => by
      obtain rfl : f = 3 := Option.some.inj ((show Tryd.prog.funcNamed "jacquard/jacquardlaw08.ScopePrims" = some 3 by kernel_rfl).symm.trans hf) |>.symm
      obtain rfl : fn = Tryd.f3 := (Option.some.inj (Tryd.func3.symm.trans hfn)).symm
      exact ⟨by kernel_rfl, fun j t ht => by
        rw [Tryd.params3] at ht
        have hm : t ∈ [3, 9] := by have h9 := Array.mem_of_getElem? ht; simp at h9 ⊢; first | exact h9 | (rcases h9 with h9 | h9 <;> simp [h9]; done) | (rcases h9 with h9 | h9 | h9 <;> simp [h9]; done) | (rcases h9 with h9 | h9 | h9 | h9 <;> simp [h9]; done)
        have hall : ([3, 9].all fun u => !Tryd.prog.wantsStandIn u) = true := by kernel_rfl
        exact (show Tryd.prog.wantsStandIn t = false by simpa using List.all_eq_true.1 hall t hm)⟩)
    (by kernel_rfl)
end Go.Proofs.YtekkjpecdflajaaDoor.scopePrims
namespace Go.Proofs.YtekkjpecdflajaaDoor
theorem scopePrims_holds : Rows.ScopePrimsCardSaid := scopePrims.card
#print axioms scopePrims_holds
end Go.Proofs.YtekkjpecdflajaaDoor
