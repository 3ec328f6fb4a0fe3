/- For every world of objects and every two words, the statement ShowSames of layer 4 answers true: the program's Equal and Deep say of the two words in that world what the document's say, and the page's examples hold; no condition beyond the library's own tables, which the card ties to its text. -/
import Derived.Test.YtlhgdknmgdohkaaGreatDoorK18
import Derived.Test.YtlhgdknmgdohkaaGreatDoorK8
import Derived.Test.YtlhgdknmgdohkaaGreatDoorTCk
set_option linter.unusedVariables false
set_option linter.unusedSimpArgs false
namespace Go.Proofs.YtlhgdknmgdohkaaGreatDoor.showSames
open Go.ChangeShapes Go.WideShapes Go.ChangeAt Go.RowKit

set_option maxRecDepth 100000 in
set_option maxHeartbeats 16000000 in
theorem core (ao aw : Option Addr) (co cw : Nat) (Os : List AObj) (Ws : List (Int × Int × Int)) (mo : Os.length ≤ maxLen) (mw : Ws.length ≤ maxLen) (a : Int) (wa : U a) (b : Int) (wb : U b) (w : World) (wu : WU w ao aw Os Ws) :
    Calls Tryz.prog 3 #[.agg #[.slice ao Os.length co, .slice aw Ws.length cw], .int .u64 a, .int .u64 b] w fun e w' => e = .returned (.bool true) ∧ Bw w w' := by
  have HMU := hid (fun w1 (hb : Bw w w1) => much4_any ao aw co cw Os Ws w1 (wu.bw hb) mo mw)
  by_cases hm : muchW Os Ws = true
  · rw [hm] at HMU
    clear wa wb wu mo mw hm
    go_enter Tryz.func3, Tryz.ntmps3
    go_wp2_with (first
      | (go_at_call 7; refine (HMU.out _ (by repeat (first | exact Bw.refl _ | apply Bw.lay | apply Bw.alloc | apply Bw.drewN | apply Bw.drew))).mono ?_; rintro e w1 ⟨rfl, os1, n1, rfl⟩)
      | (go_at_call 8; refine (live4_any _).mono ?_; rintro e wl ⟨rfl, hbl⟩; have BL := hid (Bw.trans (a := w) (by repeat (first | exact Bw.refl _ | apply Bw.lay | apply Bw.alloc | apply Bw.drewN | apply Bw.drew)) hbl); clear hbl)
      | fail)
    all_goals go_ret
    all_goals exact ⟨rfl, BL.out⟩
  · have hm' : muchW Os Ws = false := by simpa using hm
    rw [hm'] at HMU
    obtain ⟨hbr, hn, hmd⟩ := made_all (co := co) (cw := cw) wu hm'
    have HBR := hid hbr
    have HN := hid hn
    have HMD := hid hmd
    have HA := hid wa
    have HB := hid wb
    clear wa wb wu mo mw hm hm' hbr hn hmd
    generalize madeH Os Ws = H at HBR HN HMD
    go_enter Tryz.func3, Tryz.ntmps3
    go_upto_region 8 with (first
      | (go_at_call 7; refine (HMU.out _ (by repeat (first | exact Bw.refl _ | apply Bw.lay | apply Bw.alloc | apply Bw.drewN | apply Bw.drew))).mono ?_; rintro e w1 ⟨rfl, os1, n1, rfl⟩)
      | (go_at_call 9; refine (HMD.out _ (by repeat (first | exact Bw.refl _ | apply Bw.lay | apply Bw.alloc | apply Bw.drewN | apply Bw.drew))).mono ?_; rintro e w2 ⟨b0, bs, ar, cr, rfl, hs2, hr2, hb2, hl2⟩; have B2 := hid (Bw.trans (a := w) (by repeat (first | exact Bw.refl _ | apply Bw.lay | apply Bw.alloc | apply Bw.drewN | apply Bw.drew)) hb2); have S2 := hid hs2; have R2 := hid hr2; have HOK2 := hid hs2.ok; have HL2 : Hid (H.2.length ≤ 1000000) := (by have := hs2.most; show H.2.length ≤ 1000000; omega); clear hb2 hs2 hr2 hl2)
      | (go_at_call 10; refine (deep_any (fun o ho => (HN.out o ho).1) a b HA.out HB.out _ (S2.out.bw (Bw.alloc (Bw.refl _) _))).mono ?_; rintro e w3 ⟨rfl, hb3⟩; have yk := (Blk.new w2 #[.int .i64 H.1, .slice ar H.2.length cr] 32).bw hb3; have y0 : w3.cell? ⟨w2.heap.size, 0, none⟩ = some (.int .i64 H.1) := yk.cell 0; have y1 : w3.cell? ⟨w2.heap.size, 1, none⟩ = some (.slice ar H.2.length cr) := yk.cell 1; have B3 := hid (Bw.trans (a := w2) (Bw.alloc (Bw.refl _) _) hb3); have YK3 := hid yk; clear hb3 yk)
      | (go_at_call 11; refine (rdeep_any HOK2.out HBR.out HN.out HL2.out a b HA.out HB.out _ (R2.out.below B3.out)).mono ?_; rintro e w4 ⟨rfl, hb4⟩; have yk := YK3.out.bw hb4; have z0 : w4.cell? ⟨w2.heap.size, 0, none⟩ = some (.int .i64 H.1) := yk.cell 0; have z1 : w4.cell? ⟨w2.heap.size, 1, none⟩ = some (.slice ar H.2.length cr) := yk.cell 1; have B4 := hid (Bw.trans B3.out hb4); have YK4 := hid yk; clear hb4 yk)
      | fail)
    generalize dp H 65537 [] a b = d
    obtain ⟨d1, d2, d3⟩ := d
    simp only
    generalize (if d3 = true then (3 : Int) else 0) = n
    have HE1 := hid (fun w1 (hb : Bw w4 w1) => equal_any a b HA.out HB.out w1 ((S2.out.bw B4.out).bw hb))
    have HE2 := hid (fun w1 (hb : Bw w4 w1) => requal_any _ H.1 ar cr H a b HA.out HB.out w1 ((R2.out.below B4.out).below hb) HOK2.out HBR.out HL2.out)
    have HSW := hid (fun w1 (hb : Bw w4 w1) => (⟨(YK4.out.bw hb).cell 0, (YK4.out.bw hb).cell 1⟩ : w1.cell? ⟨w2.heap.size, 0, none⟩ = some (.int .i64 H.1) ∧ w1.cell? ⟨w2.heap.size, 1, none⟩ = some (.slice ar H.2.length cr)))
    generalize eqW H a b = q at HE1 HE2
    go_region_held3 (fun w' => w'.cell? ⟨w2.heap.size, 0, none⟩ = some (.int .i64 H.1) ∧ w'.cell? ⟨w2.heap.size, 1, none⟩ = some (.slice ar H.2.length cr)) (first | exact HSW.out _ BL.out | exact HSW.out _ B6.out | exact HSW.out _ B5.out | exact ⟨z0, z1⟩ | (simp [go_sem, *]; done)) (first
      | (go_at_call 12; refine (HE1.out _ (by repeat (first | exact Bw.refl _ | apply Bw.lay | apply Bw.alloc | apply Bw.drewN | apply Bw.drew))).mono ?_; rintro e w5 ⟨rfl, hb5⟩; have B5 := hid (Bw.trans (a := w4) (by repeat (first | exact Bw.refl _ | apply Bw.lay | apply Bw.alloc | apply Bw.drewN | apply Bw.drew)) hb5); clear hb5)
      | (go_at_call 13; refine (HE2.out _ (by repeat (first | exact B5.out | apply Bw.lay | apply Bw.alloc | apply Bw.drewN | apply Bw.drew))).mono ?_; rintro e w6 ⟨rfl, hb6⟩; have B6 := hid (Bw.trans (a := w4) (by repeat (first | exact B5.out | apply Bw.lay | apply Bw.alloc | apply Bw.drewN | apply Bw.drew)) hb6); clear hb6)
      | (go_at_call 14; refine (lnum_any _ _).mono ?_; rintro e w' ⟨rfl, hw'⟩; subst w')
      | (go_at_call 8; refine (live4_any _).mono ?_; rintro e wl ⟨rfl, hbl⟩; have BL := hid (Bw.trans (a := w4) (by repeat (first | exact B6.out | apply Bw.lay | apply Bw.alloc | apply Bw.drewN | apply Bw.drew)) hbl); clear hbl)
      | fail)
    all_goals go_wp2
    all_goals go_ret
    all_goals exact ⟨rfl, B2.out.trans (B4.out.trans BL.out)⟩

theorem walk (ao0 aw0 : Option Addr) (co0 cw0 : Nat) (Os0 : List AObj) (Ws0 : List (Int × Int × Int)) (mo0 : Os0.length ≤ maxLen) (mw0 : Ws0.length ≤ maxLen) (a1 : Int) (w1 : U a1) (a2 : Int) (w2 : U a2) (w : World) (wu0 : WU w ao0 aw0 Os0 Ws0) :
    Calls Tryz.prog 3 #[.agg #[.slice ao0 Os0.length co0, .slice aw0 Ws0.length cw0], .int .u64 a1, .int .u64 a2] w fun e w' => e = .returned (.bool true) ∧ Bw w w' := by
  exact core ao0 aw0 co0 cw0 Os0 Ws0 mo0 mw0 a1 w1 a2 w2 w wu0

set_option maxRecDepth 100000 in
theorem lifted (os : Os) (started : os.Started) (H : Type) (enc : TypeId × Value → H) :
    ReturnsInHanded {} Tryz.checked os 3 .any (fun w args => (Rows.showSamesSpec.pre enc Tryz.prog Tryz.f3 [] false w args ∧ laidMetH Tryz.prog laidS w) ∧ sizedMet enc Tryz.prog Tryz.f3 (OpenSpec.ofChange Rows.showSamesSpec) false w args)
      (Rows.showSamesSpec.post enc Tryz.prog Tryz.f3 false true false false) := by
  refine returnsInHanded_of_change_and (C := Tryz.checked) (X := fun w _ => laidMetH Tryz.prog laidS w) (fun _ _ _ hh h => h.of_heap hh) ownK started (by kernel_rfl) Tryz.func3
    (ChangeSpec.witness_shaped (enc := enc) (C := Tryz.checked) (os := os) (X := fun w _ => laidMetH Tryz.prog laidS w) false (World.doorLaid Tryz.prog 400 os) #[.agg #[.slice none 0 0, .slice none 0 0], .int .u64 0, .int .u64 0] 8 rfl (World.shaped_of_RefB (by kernel_rfl) (by kernel_rfl)) (by kernel_rfl) (by kernel_rfl) (by kernel_rfl) (door_met os _)) ?_
  intro W base args ds gs before hval0 hW _ _ hL _
  have hval : ∀ (j : Nat) t v, Tryz.f3.params[j]? = some t → args[j]? = some v → Value.okWide Tryz.prog W .any base t v := hval0
  have hW' := hW
  obtain ⟨p, q, hA0, hV, rfl, hfz, hnd⟩ := hW
  have hA : DataW.TrodAll enc Tryz.prog W 0 (fun _ => true) true Tryz.f3.params.toList args.toList ds p := hA0
  rw [Tryz.params3] at hA hval
  obtain ⟨v0, vs0, d0, ds0, p0, q0, hargs, rfl, rfl, h0, r0⟩ := trodAll_cons hA
  obtain ⟨v1, vs1, d1, ds1, p1, q1, rfl, rfl, rfl, h1, r1⟩ := trodAll_cons r0
  obtain ⟨v2, vs2, d2, ds2, p2, q2, rfl, rfl, rfl, h2, r2⟩ := trodAll_cons r1
  obtain ⟨rfl, rfl, rfl⟩ := trodAll_nil r2
  obtain rfl : args = #[v0, v1, v2] := by cases args; simp_all
  obtain ⟨rfl, rfl⟩ := trodVars_none hV
  have k0 := h0
  have lt0 : ∀ x ∈ p0, x.block < W.heap.size := by obtain ⟨m, hm⟩ := k0; exact DataW.trod_lt m _ _ _ hm
  have k1 := h1
  have lt1 : ∀ x ∈ p1, x.block < W.heap.size := by obtain ⟨m, hm⟩ := k1; exact DataW.trod_lt m _ _ _ hm
  have k2 := h2
  have lt2 : ∀ x ∈ p2, x.block < W.heap.size := by obtain ⟨m, hm⟩ := k2; exact DataW.trod_lt m _ _ _ hm
  obtain ⟨ao0, aw0, co0, cw0, Os0, Ws0, e0, mo0, mw0, wu0⟩ := open_world (hval 0 25 v0 rfl rfl) h0
  subst e0
  obtain ⟨a1, rfl, rfl, rfl, w10⟩ := open_int Tryz.underlying27 (hval 1 27 v1 rfl rfl) h1
  have w1 : U a1 := by have := bounds_u64 w10; unfold U; omega
  obtain ⟨a2, rfl, rfl, rfl, w20⟩ := open_int Tryz.underlying27 (hval 2 27 v2 rfl rfl) h2
  have w2 : U a2 := by have := bounds_u64 w20; unfold U; omega
  clear hA0 hval0
  refine (walk ao0 aw0 co0 cw0 Os0 Ws0 mo0 mw0 a1 w1 a2 w2 W wu0).mono fun e W' ⟨he, bel⟩ => ?_
  subst he
  exact ⟨_, rfl, _, _, _, [], _, [], hW', trodAll_mk1 (shut_bool Tryz.underlying4 _), (trodAll_cons_mk (Below.trod laidOut (by kernel_rfl) (of_decide_eq_true (by kernel_rfl)) k0 bel lt0) (trodAll_cons_mk (Below.trod laidOut (by kernel_rfl) (of_decide_eq_true (by kernel_rfl)) k1 bel lt1) (trodAll_cons_mk (Below.trod laidOut (by kernel_rfl) (of_decide_eq_true (by kernel_rfl)) k2 bel lt2) trodAll_mk0))), rfl, Below.frame bel _, fun h => by cases h⟩

theorem over : Rows.showSamesRow.holds Tryz.pinned (OpenSpec.ofChange Rows.showSamesSpec) :=
  OpenClaim.holds_of_wide 3 Tryz.f3 rfl rfl rfl rfl rfl rfl rfl ⟨rfl, rfl, rfl, rfl, rfl⟩ rfl rfl rfl rfl rfl (by kernel_rfl) Tryz.func3 (by kernel_rfl)
    (of_decide_eq_true (by kernel_rfl)) (by unfold Func.isWrapper; first | (rw [if_pos (by decide +kernel)]; kernel_rfl) | (rw [if_neg (by decide +kernel)]; exact ⟨rfl, rfl⟩))
    (fun os started H enc _ => lifted os started H enc)

theorem card : Rows.ShowSamesCardSaid :=
  Claim7.holds_tied_plain_at .later [] [.data, .data, .data] true (true, "ad99629892291f8ff1a2b378a74f6f6803da6c1f064a330541666b8246f044ff") false
    over (fun _ h => by cases h) (by kernel_rfl) (fun _ h => by cases h) showSames_row_tie rfl ⟨rfl, rfl⟩ (by kernel_rfl) rfl
    (fun f fn hf hfn => by
      obtain rfl : f = 3 := Option.some.inj ((show Tryz.prog.funcNamed "jacquard/jacquardlaw04.ShowSames" = some 3 by kernel_rfl).symm.trans hf) |>.symm
      obtain rfl : fn = Tryz.f3 := (Option.some.inj (Tryz.func3.symm.trans hfn)).symm
      exact ⟨by kernel_rfl, fun j t ht => by
        rw [Tryz.params3] at ht
        have hm : t ∈ [25, 27] := by simpa using Array.mem_of_getElem? ht
        have hall : ([25, 27].all fun u => !Tryz.prog.wantsStandIn u) = true := by kernel_rfl
        exact (show Tryz.prog.wantsStandIn t = false by simpa using List.all_eq_true.1 hall t hm)⟩)
    (by kernel_rfl)
end Go.Proofs.YtlhgdknmgdohkaaGreatDoor.showSames
namespace Go.Proofs.YtlhgdknmgdohkaaGreatDoor
theorem showSames_holds : Rows.ShowSamesCardSaid := showSames.card
#print axioms showSames_holds
end Go.Proofs.YtlhgdknmgdohkaaGreatDoor

