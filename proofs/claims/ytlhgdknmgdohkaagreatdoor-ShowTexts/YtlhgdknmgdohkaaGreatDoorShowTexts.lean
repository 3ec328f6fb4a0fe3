/- For every world of objects and every word, the statement ShowTexts of layer 4 answers true: where it asks, the program's Text of the word in that world is the document's, and the same error; the page's examples hold; no condition beyond the library's own tables, which the card ties to its text. -/
import Derived.Test.YtlhgdknmgdohkaaGreatDoorK20
import Derived.Test.YtlhgdknmgdohkaaGreatDoorK9
set_option linter.unusedVariables false
set_option linter.unusedSimpArgs false
namespace Go.Proofs.YtlhgdknmgdohkaaGreatDoor.showTexts
open Go.ChangeShapes Go.WideShapes Go.ChangeAt Go.RowKit

set_option maxRecDepth 100000 in
set_option maxHeartbeats 16000000 in
theorem core (ao aw : Option Addr) (co cw : Nat) (Os : List AObj) (Ws : List (Int × Int × Int)) (mo : Os.length ≤ maxLen) (mw : Ws.length ≤ maxLen) (a : Int) (wa : U a) (w : World) (hpd : Pd w) (wu : WU w ao aw Os Ws) :
    Calls Tryz.prog 4 #[.agg #[.slice ao Os.length co, .slice aw Ws.length cw], .int .u64 a] w fun e w' => e = .returned (.bool true) ∧ Bw w w' := by
  have HMU := hid (fun w1 (hb : Bw w w1) => much4_any ao aw co cw Os Ws w1 (wu.bw hb) mo mw)
  by_cases hm : muchW Os Ws = true
  · rw [hm] at HMU
    clear wa wu mo mw hm hpd
    go_enter Tryz.func4, Tryz.ntmps4
    go_wp2_with (first
      | (go_at_call 7; refine (HMU.out _ (by repeat (first | exact Bw.refl _ | apply Bw.lay | apply Bw.alloc | apply Bw.drewN | apply Bw.drew))).mono ?_; rintro e w1 ⟨rfl, os1, n1, rfl⟩)
      | (go_at_call 8; refine (live4_any _).mono ?_; rintro e wl ⟨rfl, hbl⟩; have BL := hid (Bw.trans (a := w) (by repeat (first | exact Bw.refl _ | apply Bw.lay | apply Bw.alloc | apply Bw.drewN | apply Bw.drew)) hbl); clear hbl)
      | fail)
    all_goals go_ret
    all_goals exact ⟨rfl, BL.out⟩
  · have hm' : muchW Os Ws = false := by simpa using hm
    have HWI := hid (fun w1 (hb : Bw w w1) => wide_any ao aw co cw Os Ws w1 (wu.bw hb) hm')
    rw [hm'] at HMU
    obtain ⟨hbr, hn, hmd⟩ := made_all (co := co) (cw := cw) wu hm'
    have hsn := made_sane wu hm'
    have h100 := made_100 Os Ws
    have HN := hid hn
    have HMD := hid hmd
    have HSN := hid hsn
    have H100 := hid h100
    have HA := hid wa
    have HPD := hid hpd
    clear wa wu mo mw hm hm' hbr hn hmd hpd hsn h100
    generalize madeH Os Ws = H at HN HMD HSN H100
    go_enter Tryz.func4, Tryz.ntmps4
    go_upto_region 1 with fail
    go_cut [28] (fun c wc => (∃ q : Bool, c = .bool q) ∧ Bw w wc ∧ Blk wc w.heap.size #[.slice ao Os.length co, .slice aw Ws.length cw] 25)
    case first =>
      have hcs : (decide (12 < (Os.length : Int)) = false) ∨ (decide (12 < (Os.length : Int)) = true ∧ decide (4 < (Ws.length : Int)) = false) ∨ (decide (12 < (Os.length : Int)) = true ∧ decide (4 < (Ws.length : Int)) = true) := by
        cases decide (12 < (Os.length : Int)) <;> cases decide (4 < (Ws.length : Int)) <;> simp
      rcases hcs with c1 | ⟨c1, c2⟩ | ⟨c1, c2⟩
      · go_wp2_with (first
          | (go_at_call 7; refine (HMU.out _ (by repeat (first | exact Bw.refl _ | apply Bw.lay | apply Bw.alloc | apply Bw.drewN | apply Bw.drew))).mono ?_; rintro e w1 ⟨rfl, os1, n1, rfl⟩)
          | (go_at_call 15; refine (HWI.out _ (by repeat (first | exact Bw.refl _ | apply Bw.lay | apply Bw.alloc | apply Bw.drewN | apply Bw.drew))).mono ?_; rintro e w2 ⟨⟨q, rfl⟩, hb2⟩; have B2 := hid (Bw.trans (a := w.alloc (.cells #[.slice ao Os.length co, .slice aw Ws.length cw] 25)) (by repeat (first | exact Bw.refl _ | apply Bw.lay | apply Bw.alloc | apply Bw.drewN | apply Bw.drew)) hb2); clear hb2)
          | fail)
        go_meet
        exact ⟨⟨_, rfl⟩, Bw.trans (Bw.alloc (Bw.refl _) _) B2.out, (Blk.new w _ _).bw B2.out⟩
      · go_wp2_with (first
          | (go_at_call 7; refine (HMU.out _ (by repeat (first | exact Bw.refl _ | apply Bw.lay | apply Bw.alloc | apply Bw.drewN | apply Bw.drew))).mono ?_; rintro e w1 ⟨rfl, os1, n1, rfl⟩)
          | (go_at_call 15; refine (HWI.out _ (by repeat (first | exact Bw.refl _ | apply Bw.lay | apply Bw.alloc | apply Bw.drewN | apply Bw.drew))).mono ?_; rintro e w2 ⟨⟨q, rfl⟩, hb2⟩; have B2 := hid (Bw.trans (a := w.alloc (.cells #[.slice ao Os.length co, .slice aw Ws.length cw] 25)) (by repeat (first | exact Bw.refl _ | apply Bw.lay | apply Bw.alloc | apply Bw.drewN | apply Bw.drew)) hb2); clear hb2)
          | fail)
        go_meet
        exact ⟨⟨_, rfl⟩, Bw.trans (Bw.alloc (Bw.refl _) _) B2.out, (Blk.new w _ _).bw B2.out⟩
      · go_wp2_with (first
          | (go_at_call 7; refine (HMU.out _ (by repeat (first | exact Bw.refl _ | apply Bw.lay | apply Bw.alloc | apply Bw.drewN | apply Bw.drew))).mono ?_; rintro e w1 ⟨rfl, os1, n1, rfl⟩)
          | fail)
        go_meet
        exact ⟨⟨_, rfl⟩, by repeat (first | exact Bw.refl _ | apply Bw.lay | apply Bw.alloc | apply Bw.drewN | apply Bw.drew), by repeat (first | exact Blk.new w _ _ | apply Blk.alloc | apply Blk.layAt | apply Blk.drw)⟩
    case rest =>
      obtain ⟨⟨q, rfl⟩, hb1, hk1⟩ := hcut
      rename World => w1
      have B1 := hid hb1
      have y0 : w1.cell? ⟨w.heap.size, 0, none⟩ = some (.slice ao Os.length co) := hk1.cell 0
      have y1 : w1.cell? ⟨w.heap.size, 1, none⟩ = some (.slice aw Ws.length cw) := hk1.cell 1
      have yl := hk1.lt
      clear hb1 hk1
      cases q
      · go_upto_region 4 with (first
          | (go_at_call 9; refine (HMD.out _ (by repeat (first | exact B1.out | apply Bw.lay | apply Bw.alloc | apply Bw.drewN | apply Bw.drew))).mono ?_; rintro e w2 ⟨b0, bs, ar, cr, rfl, hs2, hr2, hb2, hl2⟩; have B2 := hid (Bw.trans (a := w) (by repeat (first | exact B1.out | apply Bw.lay | apply Bw.alloc | apply Bw.drewN | apply Bw.drew)) hb2); have S2 := hid hs2; have R2 := hid hr2; clear hb2 hs2 hr2 hl2)
          | fail)
        obtain ⟨w3, hw3⟩ : ∃ w3, w3 = w2.alloc (.cells #[.int .i64 H.1, .slice ar H.2.length cr] 32) := ⟨_, rfl⟩
        rw [← hw3]
        have HOK3 := hid S2.out.ok
        have S3 : Hid (HS w3 b0 H bs) := (by rw [hw3]; exact hid (S2.out.bw (Bw.alloc (Bw.refl _) _)))
        have R3 : Hid (RdH w3 (fun b => b ∉ bs) (.agg #[.int .i64 H.1, .slice ar H.2.length cr]) H) := (by rw [hw3]; exact hid (R2.out.below (Bw.alloc (Bw.refl _) _)))
        have K3 : Hid (Blk w3 w2.heap.size #[.int .i64 H.1, .slice ar H.2.length cr] 32) := (by rw [hw3]; exact hid (Blk.new _ _ _))
        have B3 : Hid (Bw w w3) := (by rw [hw3]; exact hid (Bw.alloc B2.out _))
        clear hw3
        have hT := hid (text_str HSN.out a HA.out w3 (HPD.out.bw B3.out) S3.out)
        have hR := hid (fun w1 (hb : Bw w3 w1) => rText_any HOK3.out HN.out HSN.out H100.out a HA.out w1 (R3.out.below hb))
        clear HMD HWI HMU
        generalize (if fits [] (txt H a) = true then (0 : Int) else 2) = n at hT hR
        generalize shownS H a = z at hT hR
        go_wp2_with (first
          | (go_at_call 16; refine hT.out.mono ?_; rintro e w4 ⟨r4, rfl, hc4, hb4⟩; have B4 := hid hb4; have C4 := hid hc4; have k4 := K3.out.bw hb4; have z0 : w4.cell? ⟨w2.heap.size, 0, none⟩ = some (.int .i64 H.1) := k4.cell 0; have z1 : w4.cell? ⟨w2.heap.size, 1, none⟩ = some (.slice ar H.2.length cr) := k4.cell 1; clear hb4 hc4 k4)
          | (go_at_call 17; refine (hR.out _ B4.out).mono ?_; rintro e w5 ⟨r5, rfl, hc5, hb5⟩; have B5 := hid (Bw.trans B4.out hb5); have q4 : (convert 44 9 r4).run Tryz.prog w5 = .ok (.string z) w5 := C4.out _ hb5; have q5 : (convert 44 9 r5).run Tryz.prog w5 = .ok (.string z) w5 := hc5 _ (Bw.refl _); clear hb5 hc5)
          | (go_at_call 14; refine (lnum_any _ _).mono ?_; rintro e w' ⟨rfl, hw'⟩; subst w')
          | (go_at_call 8; refine (live4_any _).mono ?_; rintro e wl ⟨rfl, hbl⟩; have BL := hid (Bw.trans B3.out (Bw.trans B5.out hbl)); clear hbl)
          | fail)
        all_goals go_ret
        all_goals exact ⟨rfl, BL.out⟩
      · clear HMD
        go_wp2_with (first
          | (go_at_call 8; refine (live4_any _).mono ?_; rintro e wl ⟨rfl, hbl⟩; have BL := hid (Bw.trans B1.out hbl); clear hbl)
          | fail)
        all_goals go_ret
        all_goals exact ⟨rfl, BL.out⟩

theorem walk (ao0 aw0 : Option Addr) (co0 cw0 : Nat) (Os0 : List AObj) (Ws0 : List (Int × Int × Int)) (mo0 : Os0.length ≤ maxLen) (mw0 : Ws0.length ≤ maxLen) (a1 : Int) (w1 : U a1) (w : World) (hpd : Pd w) (wu0 : WU w ao0 aw0 Os0 Ws0) :
    Calls Tryz.prog 4 #[.agg #[.slice ao0 Os0.length co0, .slice aw0 Ws0.length cw0], .int .u64 a1] w fun e w' => e = .returned (.bool true) ∧ Bw w w' := by
  exact core ao0 aw0 co0 cw0 Os0 Ws0 mo0 mw0 a1 w1 w hpd wu0

set_option maxRecDepth 100000 in
theorem lifted (os : Os) (started : os.Started) (H : Type) (enc : TypeId × Value → H) :
    ReturnsInHanded {} Tryz.checked os 4 .any (fun w args => (Rows.showTextsSpec.pre enc Tryz.prog Tryz.f4 [] false w args ∧ laidMetH Tryz.prog laidS w) ∧ sizedMet enc Tryz.prog Tryz.f4 (OpenSpec.ofChange Rows.showTextsSpec) false w args)
      (Rows.showTextsSpec.post enc Tryz.prog Tryz.f4 false true false false) := by
  refine returnsInHanded_of_change_and (C := Tryz.checked) (X := fun w _ => laidMetH Tryz.prog laidS w) (fun _ _ _ hh h => h.of_heap hh) ownK started (by kernel_rfl) Tryz.func4
    (ChangeSpec.witness_shaped (enc := enc) (C := Tryz.checked) (os := os) (X := fun w _ => laidMetH Tryz.prog laidS w) false (World.doorLaid Tryz.prog 400 os) #[.agg #[.slice none 0 0, .slice none 0 0], .int .u64 0] 8 rfl (World.shaped_of_RefB (by kernel_rfl) (by kernel_rfl)) (by kernel_rfl) (by kernel_rfl) (by kernel_rfl) (door_met os _)) ?_
  intro W base args ds gs before hval0 hW _ _ hL _
  have hval : ∀ (j : Nat) t v, Tryz.f4.params[j]? = some t → args[j]? = some v → Value.okWide Tryz.prog W .any base t v := hval0
  have hW' := hW
  obtain ⟨p, q, hA0, hV, rfl, hfz, hnd⟩ := hW
  have hA : DataW.TrodAll enc Tryz.prog W 0 (fun _ => true) true Tryz.f4.params.toList args.toList ds p := hA0
  rw [Tryz.params4] at hA hval
  obtain ⟨v0, vs0, d0, ds0, p0, q0, hargs, rfl, rfl, h0, r0⟩ := trodAll_cons hA
  obtain ⟨v1, vs1, d1, ds1, p1, q1, rfl, rfl, rfl, h1, r1⟩ := trodAll_cons r0
  obtain ⟨rfl, rfl, rfl⟩ := trodAll_nil r1
  obtain rfl : args = #[v0, v1] := by cases args; simp_all
  obtain ⟨rfl, rfl⟩ := trodVars_none hV
  have k0 := h0
  have lt0 : ∀ x ∈ p0, x.block < W.heap.size := by obtain ⟨m, hm⟩ := k0; exact DataW.trod_lt m _ _ _ hm
  have k1 := h1
  have lt1 : ∀ x ∈ p1, x.block < W.heap.size := by obtain ⟨m, hm⟩ := k1; exact DataW.trod_lt m _ _ _ hm
  obtain ⟨ao0, aw0, co0, cw0, Os0, Ws0, e0, mo0, mw0, wu0⟩ := open_world (hval 0 25 v0 rfl rfl) h0
  subst e0
  obtain ⟨a1, rfl, rfl, rfl, w10⟩ := open_int Tryz.underlying27 (hval 1 27 v1 rfl rfl) h1
  have w1 : U a1 := by have := bounds_u64 w10; unfold U; omega
  clear hA0 hval0
  refine (walk ao0 aw0 co0 cw0 Os0 Ws0 mo0 mw0 a1 w1 W (pd_of_laid hL) wu0).mono fun e W' ⟨he, bel⟩ => ?_
  subst he
  exact ⟨_, rfl, _, _, _, [], _, [], hW', trodAll_mk1 (shut_bool Tryz.underlying4 _), (trodAll_cons_mk (Below.trod laidOut (by kernel_rfl) (of_decide_eq_true (by kernel_rfl)) k0 bel lt0) (trodAll_cons_mk (Below.trod laidOut (by kernel_rfl) (of_decide_eq_true (by kernel_rfl)) k1 bel lt1) trodAll_mk0)), rfl, Below.frame bel _, fun h => by cases h⟩

theorem over : Rows.showTextsRow.holds Tryz.pinned (OpenSpec.ofChange Rows.showTextsSpec) :=
  OpenClaim.holds_of_wide 4 Tryz.f4 rfl rfl rfl rfl rfl rfl rfl ⟨rfl, rfl, rfl, rfl, rfl⟩ rfl rfl rfl rfl rfl (by kernel_rfl) Tryz.func4 (by kernel_rfl)
    (of_decide_eq_true (by kernel_rfl)) (by unfold Func.isWrapper; first | (rw [if_pos (by decide +kernel)]; kernel_rfl) | (rw [if_neg (by decide +kernel)]; exact ⟨rfl, rfl⟩))
    (fun os started H enc _ => lifted os started H enc)

theorem card : Rows.ShowTextsCardSaid :=
  Claim7.holds_tied_plain_at .later [] [.data, .data, .data] true (true, "ad99629892291f8ff1a2b378a74f6f6803da6c1f064a330541666b8246f044ff") false
    over (fun _ h => by cases h) (by kernel_rfl) (fun _ h => by cases h) showTexts_row_tie rfl ⟨rfl, rfl⟩ (by kernel_rfl) rfl
    (fun f fn hf hfn => by
      obtain rfl : f = 4 := Option.some.inj ((show Tryz.prog.funcNamed "jacquard/jacquardlaw04.ShowTexts" = some 4 by kernel_rfl).symm.trans hf) |>.symm
      obtain rfl : fn = Tryz.f4 := (Option.some.inj (Tryz.func4.symm.trans hfn)).symm
      exact ⟨by kernel_rfl, fun j t ht => by
        rw [Tryz.params4] at ht
        have hm : t ∈ [25, 27] := by simpa using Array.mem_of_getElem? ht
        have hall : ([25, 27].all fun u => !Tryz.prog.wantsStandIn u) = true := by kernel_rfl
        exact (show Tryz.prog.wantsStandIn t = false by simpa using List.all_eq_true.1 hall t hm)⟩)
    (by kernel_rfl)
end Go.Proofs.YtlhgdknmgdohkaaGreatDoor.showTexts
namespace Go.Proofs.YtlhgdknmgdohkaaGreatDoor
theorem showTexts_holds : Rows.ShowTextsCardSaid := showTexts.card
#print axioms showTexts_holds
end Go.Proofs.YtlhgdknmgdohkaaGreatDoor

