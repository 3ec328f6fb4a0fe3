/- For every word, the statement ShowPlain of layer 4 answers true: in a heap without objects the program's Text of it is the document's, and Equal holds of it and itself; the page's examples hold; no condition beyond the library's own tables, which the card ties to its text. -/
import Derived.Test.YtgfdbhbkmjabcabGreatDoorSX
import Derived.Test.YtgfdbhbkmjabcabGreatDoorFp4
set_option linter.unusedVariables false
set_option linter.unusedSimpArgs false
namespace Go.Proofs.YtgfdbhbkmjabcabGreatDoor.showPlain
open Go.ChangeShapes Go.WideShapes Go.ChangeAt Go.RowKit

set_option maxRecDepth 100000 in
set_option maxHeartbeats 16000000 in
theorem core (a0 : Int) (w0 : U a0) (w : World) (hpw : Pw w) :
    Calls Tryz.prog 3 #[.int .u64 a0] w fun e w' => e = .returned (.bool true) ∧ Bw w w' := by
  have HU := hid w0
  have HPW := hid hpw
  have hk : kk (3, []) a0 = 0 := by unfold kk; rw [if_neg (by have := idx_bd a0 w0; simp; intro _; omega)]
  have HLK : Hid (lk (3, []) (fun v => if kk (3, []) v = 0 then some (strOfNums (plL v)) else none) (fun _ => none) 1 [] a0 = some ((plL a0).map (Value.int .u8))) := by
    show lk _ _ _ 1 [] a0 = _
    rw [lk, if_neg (by rw [hk]; decide), if_pos hk, Option.map_some, strCells_nums _ (plL_byte a0)]
  have HPL : Hid (∀ (b0 : Nat) (bs : List Nat) (wa : World), Pw wa → PlOK (Bw wa) b0 (3, []) bs (fun v => if kk (3, []) v = 0 then some (strOfNums (plL v)) else none)) := by
    intro b0 bs wa hpa v s hs hUv w1 hb1 hs1
    replace hs : (if kk (3, []) v = 0 then some (strOfNums (plL v)) else none) = some s := hs
    by_cases h0 : kk (3, []) v = 0
    · rw [if_pos h0] at hs
      cases hs
      exact plain_no v hUv w1 hs1 h0 (hpa.bw hb1)
    · rw [if_neg h0] at hs; cases hs
  have HIT : Hid (∀ wa : World, ItOK (Bw wa) (fun _ => none)) := by
    intro wa n s hs
    cases hs
  have HLN := hid (plL_len a0 w0)
  have HLB := hid (plL_byte a0)
  obtain ⟨z, hz⟩ : ∃ z, z = strOfNums (plL a0) := ⟨_, rfl⟩
  have HZ := hid hz
  clear w0 hpw hk hz
  go_enter Tryz.func3, Tryz.ntmps3
  go_wp2_with (first
    | (go_at_call 4; refine (new_ok 3 _ (by decide) (by decide)).mono ?_; rintro e w1 ⟨rfl, hs1, hb1, hl1⟩; have S1 := hid hs1; have B1 := hid hb1; clear hs1 hb1 hl1)
    | (go_at_call 5; refine (rnew3 _).mono ?_; rintro e w2 ⟨rfl, hl2⟩; have B2 := hid (Bw.trans B1.out hl2.bw); have S2 := hid (S1.out.bw hl2.bw); clear hl2)
    | (go_at_call 6; refine (lnum_any _ _).mono ?_; rintro e w' ⟨rfl, hw'⟩; subst w')
    | (go_at_call 7; refine (text_ok _ (HPL.out _ _ _ (HPW.out.bw (Bw.alloc B2.out _))) (HIT.out _) 1 _ _ HLK.out HU.out (by decide) (by have := HLN.out; rw [List.length_map]; omega) (S2.out.bw (Bw.alloc (Bw.refl _) _))).mono ?_; rintro e w3 ⟨r3, rfl, ho3, hb3⟩; have B3 := hid (Bw.trans (Bw.alloc B2.out _) hb3); have c3 := (Blk.bw (Blk.new w2 #[.int .i64 3, .slice none 0 0] 30) hb3).cell; have O3 := hid ho3; clear ho3 hb3)
    | (go_at_call 8; refine (rText_no _ 3 HU.out _).mono ?_; rintro e w4 ⟨r4, rfl, hy4, hb4⟩; have B4 := hid (Bw.trans B3.out hb4); have q3 : (convert 34 9 r3).run Tryz.prog w4 = .ok (.string z) w4 := (by rw [HZ.out]; exact conv_own (by have := own_bw O3.out hb4; rw [List.length_map] at this; exact this) HLB.out (by have := HLN.out; omega)); have q4 : (convert 34 9 r4).run Tryz.prog w4 = .ok (.string z) w4 := (by rw [HZ.out]; obtain ⟨a4, c4, e4⟩ := hy4.form; subst e4; exact hy4.conv0); clear hy4 hb4)
    | (go_at_call 9; refine (equal_self _ _ _).mono ?_; rintro e w' ⟨rfl, hw'⟩; subst w')
    | (go_at_call 10; refine (live4_any _).mono ?_; rintro e wl ⟨rfl, hbl⟩; have BL := hid (Bw.trans B4.out hbl); clear hbl)
    | fail)
  all_goals go_ret
  all_goals exact ⟨rfl, BL.out⟩

theorem walk (a0 : Int) (w0 : U a0) (w : World) (hpw : Pw w) :
    Calls Tryz.prog 3 #[.int .u64 a0] w fun e w' => e = .returned (.bool true) ∧ Bw w w' := by
  exact core a0 w0 w hpw

set_option maxRecDepth 100000 in
theorem lifted (os : Os) (started : os.Started) (H : Type) (enc : TypeId × Value → H) :
    ReturnsInHanded {} Tryz.checked os 3 .any (fun w args => (Rows.showPlainSpec.pre enc Tryz.prog Tryz.f3 [] false w args ∧ laidMetH Tryz.prog laidS w) ∧ sizedMet enc Tryz.prog Tryz.f3 (OpenSpec.ofChange Rows.showPlainSpec) false w args)
      (Rows.showPlainSpec.post enc Tryz.prog Tryz.f3 false true false false) := by
  refine returnsInHanded_of_change_and (C := Tryz.checked) (X := fun w _ => laidMetH Tryz.prog laidS w) (fun _ _ _ hh h => h.of_heap hh) ownK started (by kernel_rfl) Tryz.func3
    (ChangeSpec.witness_shaped (enc := enc) (C := Tryz.checked) (os := os) (X := fun w _ => laidMetH Tryz.prog laidS w) false (World.doorLaid Tryz.prog 400 os) #[.int .u64 0] 8 rfl (World.shaped_of_RefB (by kernel_rfl) (by kernel_rfl)) (by kernel_rfl) (by kernel_rfl) (by kernel_rfl) (door_met os _)) ?_
  intro W base args ds gs before hval0 hW _ _ hL _
  have hval : ∀ (j : Nat) t v, Tryz.f3.params[j]? = some t → args[j]? = some v → Value.okWide Tryz.prog W .any base t v := hval0
  have hW' := hW
  obtain ⟨p, q, hA0, hV, rfl, hfz, hnd⟩ := hW
  have hA : DataW.TrodAll enc Tryz.prog W 0 (fun _ => true) true Tryz.f3.params.toList args.toList ds p := hA0
  rw [Tryz.params3] at hA hval
  obtain ⟨v0, vs0, d0, ds0, p0, q0, hargs, rfl, rfl, h0, r0⟩ := trodAll_cons hA
  obtain ⟨rfl, rfl, rfl⟩ := trodAll_nil r0
  obtain rfl : args = #[v0] := by cases args; simp_all
  obtain ⟨rfl, rfl⟩ := trodVars_none hV
  have k0 := h0
  have lt0 : ∀ x ∈ p0, x.block < W.heap.size := by obtain ⟨m, hm⟩ := k0; exact DataW.trod_lt m _ _ _ hm
  obtain ⟨a0, rfl, rfl, rfl, w00⟩ := open_int Tryz.underlying23 (hval 0 23 v0 rfl rfl) h0
  have w0 : U a0 := by have := bounds_u64 w00; unfold U; omega
  clear hA0 hval0
  refine (walk a0 w0 W (pw_of_laid hL)).mono fun e W' ⟨he, bel⟩ => ?_
  subst he
  exact ⟨_, rfl, _, _, _, [], _, [], hW', trodAll_mk1 (shut_bool Tryz.underlying4 _), (trodAll_cons_mk (Below.trod laidOut (by kernel_rfl) (of_decide_eq_true (by kernel_rfl)) k0 bel lt0) trodAll_mk0), rfl, Below.frame bel _, fun h => by cases h⟩

theorem over : Rows.showPlainRow.holds Tryz.pinned (OpenSpec.ofChange Rows.showPlainSpec) :=
  OpenClaim.holds_of_wide 3 Tryz.f3 rfl rfl rfl rfl rfl rfl rfl ⟨rfl, rfl, rfl, rfl, rfl⟩ rfl rfl rfl rfl rfl (by kernel_rfl) Tryz.func3 (by kernel_rfl)
    (of_decide_eq_true (by kernel_rfl)) (by unfold Func.isWrapper; first | (rw [if_pos (by decide +kernel)]; kernel_rfl) | (rw [if_neg (by decide +kernel)]; exact ⟨rfl, rfl⟩))
    (fun os started H enc _ => lifted os started H enc)

theorem card : Rows.ShowPlainCardSaid :=
  Claim7.holds_tied_plain_at .later [] [.data, .data, .data] true (true, "5f7251b3c95e3f222ef1e597621ebcbea8b41fb826d9e72f77f18d14684f9846") false
    over (fun _ h => by cases h) (by kernel_rfl) (fun _ h => by cases h) showPlain_row_tie rfl ⟨rfl, rfl⟩ (by kernel_rfl) rfl
    (fun f fn hf hfn => by
      obtain rfl : f = 3 := Option.some.inj ((show Tryz.prog.funcNamed "jacquard/jacquardlaw04.ShowPlain" = some 3 by kernel_rfl).symm.trans hf) |>.symm
      obtain rfl : fn = Tryz.f3 := (Option.some.inj (Tryz.func3.symm.trans hfn)).symm
      exact ⟨by kernel_rfl, fun j t ht => by
        rw [Tryz.params3] at ht
        have hm : t ∈ [23] := by simpa using Array.mem_of_getElem? ht
        have hall : ([23].all fun u => !Tryz.prog.wantsStandIn u) = true := by kernel_rfl
        exact (show Tryz.prog.wantsStandIn t = false by simpa using List.all_eq_true.1 hall t hm)⟩)
    (by kernel_rfl)
end Go.Proofs.YtgfdbhbkmjabcabGreatDoor.showPlain
namespace Go.Proofs.YtgfdbhbkmjabcabGreatDoor
theorem showPlain_holds : Rows.ShowPlainCardSaid := showPlain.card
#print axioms showPlain_holds
end Go.Proofs.YtgfdbhbkmjabcabGreatDoor
