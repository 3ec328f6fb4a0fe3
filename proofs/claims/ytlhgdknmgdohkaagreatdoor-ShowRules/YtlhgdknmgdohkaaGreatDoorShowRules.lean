/- For every world of objects and every two words, the statement ShowRules of layer 4 answers true: neither Equal nor Deep asks which stands first, both hold of a word and itself, what is Equal is alike and looks the same; the page's examples hold; no condition beyond the library's own tables, which the card ties to its text. -/
import Derived.Test.YtlhgdknmgdohkaaGreatDoorK19
import Derived.Test.YtlhgdknmgdohkaaGreatDoorK11
import Derived.Test.YtlhgdknmgdohkaaGreatDoorK8
set_option linter.unusedVariables false
set_option linter.unusedSimpArgs false
namespace Go.Proofs.YtlhgdknmgdohkaaGreatDoor.showRules
open Go.ChangeShapes Go.WideShapes Go.ChangeAt Go.RowKit

set_option maxRecDepth 100000 in
set_option maxHeartbeats 16000000 in
theorem core (ao aw : Option Addr) (co cw : Nat) (Os : List AObj) (Ws : List (Int × Int × Int)) (mo : Os.length ≤ maxLen) (mw : Ws.length ≤ maxLen) (a : Int) (wa : U a) (b : Int) (wb : U b) (w : World) (hpd : Pd w) (wu : WU w ao aw Os Ws) :
    Calls Tryz.prog 5 #[.agg #[.slice ao Os.length co, .slice aw Ws.length cw], .int .u64 a, .int .u64 b] w fun e w' => e = .returned (.bool true) ∧ Bw w w' := by
  have HMU := hid (fun w1 (hb : Bw w w1) => much4_any ao aw co cw Os Ws w1 (wu.bw hb) mo mw)
  by_cases hm : muchW Os Ws = true
  · rw [hm] at HMU
    clear wa wb wu mo mw hm hpd
    go_enter Tryz.func5, Tryz.ntmps5
    go_wp2_with (first
      | (go_at_call 7; refine (HMU.out _ (by repeat (first | exact Bw.refl _ | apply Bw.lay | apply Bw.alloc | apply Bw.drewN | apply Bw.drew))).mono ?_; rintro e w1 ⟨rfl, os1, n1, rfl⟩)
      | (go_at_call 8; refine (live4_any _).mono ?_; rintro e wl ⟨rfl, hbl⟩; have BL := hid (Bw.trans (a := w) (by repeat (first | exact Bw.refl _ | apply Bw.lay | apply Bw.alloc | apply Bw.drewN | apply Bw.drew)) hbl); clear hbl)
      | fail)
    all_goals go_ret
    all_goals exact ⟨rfl, BL.out⟩
  · have hm' : muchW Os Ws = false := by simpa using hm
    have HWI := hid (fun w1 (hb : Bw w w1) => wide_any ao aw co cw Os Ws w1 (wu.bw hb) hm')
    rw [hm'] at HMU
    obtain ⟨hbr, hn, hmd⟩ := made_all (co := co) (cw := cw) wu hm'
    have hsn := made_sane wu hm'
    have h100 := made_100 Os Ws
    have HN := hid hn
    have HMD := hid hmd
    have HSN := hid hsn
    have H100 := hid h100
    have HA := hid wa
    have HB := hid wb
    have HPD := hid hpd
    clear wa wb wu mo mw hm hm' hbr hn hmd hpd hsn h100
    generalize madeH Os Ws = H at HN HMD HSN H100
    go_enter Tryz.func5, Tryz.ntmps5
    go_upto_region 1 with fail
    go_cut [24] (fun c wc => (∃ q : Bool, c = .bool q) ∧ Bw w wc ∧ Blk wc w.heap.size #[.slice ao Os.length co, .slice aw Ws.length cw] 25)
    case first =>
      go_wp2_with (first
        | (go_at_call 7; refine (HMU.out _ (by repeat (first | exact Bw.refl _ | apply Bw.lay | apply Bw.alloc | apply Bw.drewN | apply Bw.drew))).mono ?_; rintro e w1 ⟨rfl, os1, n1, rfl⟩)
        | (go_at_call 15; refine (HWI.out _ (by repeat (first | exact Bw.refl _ | apply Bw.lay | apply Bw.alloc | apply Bw.drewN | apply Bw.drew))).mono ?_; rintro e w2 ⟨⟨q, rfl⟩, hb2⟩; have B2 := hid (Bw.trans (a := w.alloc (.cells #[.slice ao Os.length co, .slice aw Ws.length cw] 25)) (by repeat (first | exact Bw.refl _ | apply Bw.lay | apply Bw.alloc | apply Bw.drewN | apply Bw.drew)) hb2); clear hb2)
        | fail)
      go_meet
      exact ⟨⟨_, rfl⟩, Bw.trans (Bw.alloc (Bw.refl _) _) B2.out, (Blk.new w _ _).bw B2.out⟩
    case rest =>
      obtain ⟨⟨q, rfl⟩, hb1, hk1⟩ := hcut
      rename World => w1
      have B1 := hid hb1
      have y0 : w1.cell? ⟨w.heap.size, 0, none⟩ = some (.slice ao Os.length co) := hk1.cell 0
      have y1 : w1.cell? ⟨w.heap.size, 1, none⟩ = some (.slice aw Ws.length cw) := hk1.cell 1
      have yl := hk1.lt
      clear hb1 hk1
      cases q
      · go_upto_region 4 with (first
          | (go_at_call 9; refine (HMD.out _ (by repeat (first | exact B1.out | apply Bw.lay | apply Bw.alloc | apply Bw.drewN | apply Bw.drew))).mono ?_; rintro e w2 ⟨b0, bs, ar, cr, rfl, hs2, hr2, hb2, hl2⟩; have B2 := hid (Bw.trans (a := w) (by repeat (first | exact B1.out | apply Bw.lay | apply Bw.alloc | apply Bw.drewN | apply Bw.drew)) hb2); have S2 := hid hs2; clear hb2 hs2 hr2 hl2)
          | fail)
        obtain ⟨w3, hw3⟩ : ∃ w3, w3 = w2.alloc (.cells #[.int .i64 H.1, .slice ar H.2.length cr] 32) := ⟨_, rfl⟩
        rw [← hw3]
        have HOK3 := hid S2.out.ok
        have S3 : Hid (HS w3 b0 H bs) := (by rw [hw3]; exact hid (S2.out.bw (Bw.alloc (Bw.refl _) _)))
        have B3 : Hid (Bw w w3) := (by rw [hw3]; exact hid (Bw.alloc B2.out _))
        clear hw3
        have hDab : Hid (∀ w1, HS w1 b0 H bs → Calls Tryz.prog 10 #[.pointer (some ⟨b0, 0, none⟩), .int .u64 a, .int .u64 b] w1 fun e w' => e = .returned (.tuple #[.bool (dp H 65537 [] a b).1, .int .i64 0]) ∧ Bw w1 w') := fun w1 h1 => by
          have h2 := deep_any (fun o ho => (HN.out o ho).1) a b HA.out HB.out w1 h1
          rw [dp_few HOK3.out H100.out a b HA.out HB.out] at h2
          exact h2
        have hDba : Hid (∀ w1, HS w1 b0 H bs → Calls Tryz.prog 10 #[.pointer (some ⟨b0, 0, none⟩), .int .u64 b, .int .u64 a] w1 fun e w' => e = .returned (.tuple #[.bool (dp H 65537 [] a b).1, .int .i64 0]) ∧ Bw w1 w') := fun w1 h1 => by
          have h2 := deep_any (fun o ho => (HN.out o ho).1) b a HB.out HA.out w1 h1
          rw [dp_few HOK3.out H100.out b a HB.out HA.out, ← dp_comm HOK3.out HN.out H100.out a b HA.out HB.out] at h2
          exact h2
        have haa : eqW H a a = true := by unfold eqW; simp
        have hDaa : Hid (∀ w1, HS w1 b0 H bs → Calls Tryz.prog 10 #[.pointer (some ⟨b0, 0, none⟩), .int .u64 a, .int .u64 a] w1 fun e w' => e = .returned (.tuple #[.bool true, .int .i64 0]) ∧ Bw w1 w') := fun w1 h1 => by
          have h2 := deep_any (fun o ho => (HN.out o ho).1) a a HA.out HA.out w1 h1
          rw [dp_same haa] at h2
          exact h2
        have hEab : Hid (∀ w1, HS w1 b0 H bs → Calls Tryz.prog 12 #[.pointer (some ⟨b0, 0, none⟩), .int .u64 a, .int .u64 b] w1 fun e w' => e = .returned (.bool (eqW H a b)) ∧ Bw w1 w') := fun w1 h1 => equal_any a b HA.out HB.out w1 h1
        have hEba : Hid (∀ w1, HS w1 b0 H bs → Calls Tryz.prog 12 #[.pointer (some ⟨b0, 0, none⟩), .int .u64 b, .int .u64 a] w1 fun e w' => e = .returned (.bool (eqW H a b)) ∧ Bw w1 w') := fun w1 h1 => by
          have h2 := equal_any b a HB.out HA.out w1 h1
          rw [← eqW_comm H a b] at h2
          exact h2
        have hEaa : Hid (∀ w1, HS w1 b0 H bs → Calls Tryz.prog 12 #[.pointer (some ⟨b0, 0, none⟩), .int .u64 a, .int .u64 a] w1 fun e w' => e = .returned (.bool true) ∧ Bw w1 w') := fun w1 h1 => by
          have h2 := equal_any a a HA.out HA.out w1 h1
          rw [haa] at h2
          exact h2
        have hTa : Hid (∀ w1, Bw w w1 → HS w1 b0 H bs → Calls Tryz.prog 16 #[.pointer (some ⟨b0, 0, none⟩), .int .u64 a] w1 fun e w' => ∃ r, e = .returned (.tuple #[r, .int .i64 (if fits [] (txt H a) = true then 0 else 2)]) ∧ (∀ w2, Bw w' w2 → (convert 44 9 r).run Tryz.prog w2 = .ok (.string (shownS H a)) w2) ∧ Bw w1 w') := fun w1 hb h1 => text_str HSN.out a HA.out w1 (HPD.out.bw hb) h1
        have hTb : Hid (∀ w1, Bw w w1 → HS w1 b0 H bs → Calls Tryz.prog 16 #[.pointer (some ⟨b0, 0, none⟩), .int .u64 b] w1 fun e w' => ∃ r, e = .returned (.tuple #[r, .int .i64 (if fits [] (txt H b) = true then 0 else 2)]) ∧ (∀ w2, Bw w' w2 → (convert 44 9 r).run Tryz.prog w2 = .ok (.string (shownS H b)) w2) ∧ Bw w1 w') := fun w1 hb h1 => text_str HSN.out b HB.out w1 (HPD.out.bw hb) h1
        have hsame : eqW H a b = true → (dp H 65537 [] a b).1 = true ∧ txt H a = txt H b := fun h => ⟨by rw [dp_same h], txt_same h⟩
        clear haa HA HB
        have hDE := hid (fun w1 (hb : Bw w3 w1) => S3.out.bw hb)
        clear HMD HWI HMU
        cases hs : eqW H a b
        · rw [hs] at hEab hEba
          clear hs hsame hTa hTb
          generalize (dp H 65537 [] a b).1 = d at hDab hDba
          go_wp2_with (first
            | (go_at_call 10; (fail_if_success (have _g := B4)); refine (hDab.out _ S3.out).mono ?_; rintro e w4 ⟨rfl, hb4⟩; have B4 := hid hb4; clear hb4)
            | (go_at_call 10; have _g := B4; clear _g; (fail_if_success (have _g := B5)); refine (hDba.out _ (hDE.out _ B4.out)).mono ?_; rintro e w5 ⟨rfl, hb5⟩; have B5 := hid (Bw.trans B4.out hb5); clear hb5)
            | (go_at_call 10; have _g := B5; clear _g; refine (hDaa.out _ (hDE.out _ B5.out)).mono ?_; rintro e w6 ⟨rfl, hb6⟩; have B6 := hid (Bw.trans B5.out hb6); clear hb6)
            | (go_at_call 14; refine (lnum_any _ _).mono ?_; rintro e w' ⟨rfl, hw'⟩; subst w')
            | (go_at_call 12; have _g := B8; clear _g; (fail_if_success (have _g := B9)); refine (hEaa.out _ (hDE.out _ B8.out)).mono ?_; rintro e w9 ⟨rfl, hb9⟩; have B9 := hid (Bw.trans B8.out hb9); clear hb9)
            | (go_at_call 12; have _g := B7; clear _g; (fail_if_success (have _g := B8)); refine (hEba.out _ (hDE.out _ B7.out)).mono ?_; rintro e w8 ⟨rfl, hb8⟩; have B8 := hid (Bw.trans B7.out hb8); clear hb8)
            | (go_at_call 12; (fail_if_success (have _g := B7)); refine (hEab.out _ (hDE.out _ B6.out)).mono ?_; rintro e w7 ⟨rfl, hb7⟩; have B7 := hid (Bw.trans B6.out hb7); clear hb7)
            | (go_at_call 12; have _g := B9; clear _g; refine (hEab.out _ (hDE.out _ B9.out)).mono ?_; rintro e w10 ⟨rfl, hb10⟩; have B10 := hid (Bw.trans B9.out hb10); clear hb10)
            | (go_at_call 8; refine (live4_any _).mono ?_; rintro e wl ⟨rfl, hbl⟩; have BL := hid (Bw.trans B3.out (Bw.trans B10.out hbl)); clear hbl)
            | fail)
          all_goals go_ret
          all_goals exact ⟨rfl, BL.out⟩
        · obtain ⟨hd, ht⟩ := hsame hs
          rw [hs] at hEab hEba
          rw [hd] at hDab hDba
          have hse : shownS H a = shownS H b := by unfold shownS shown; rw [ht]
          rw [ht, hse] at hTa
          clear hs hsame hd ht hse
          generalize (if fits [] (txt H b) = true then (0 : Int) else 2) = n at hTa hTb
          generalize shownS H b = z at hTa hTb
          go_wp2_with (first
            | (go_at_call 10; (fail_if_success (have _g := B4)); refine (hDab.out _ S3.out).mono ?_; rintro e w4 ⟨rfl, hb4⟩; have B4 := hid hb4; clear hb4)
            | (go_at_call 10; have _g := B4; clear _g; (fail_if_success (have _g := B5)); refine (hDba.out _ (hDE.out _ B4.out)).mono ?_; rintro e w5 ⟨rfl, hb5⟩; have B5 := hid (Bw.trans B4.out hb5); clear hb5)
            | (go_at_call 10; have _g := B5; clear _g; refine (hDaa.out _ (hDE.out _ B5.out)).mono ?_; rintro e w6 ⟨rfl, hb6⟩; have B6 := hid (Bw.trans B5.out hb6); clear hb6)
            | (go_at_call 14; refine (lnum_any _ _).mono ?_; rintro e w' ⟨rfl, hw'⟩; subst w')
            | (go_at_call 12; have _g := B8; clear _g; (fail_if_success (have _g := B9)); refine (hEaa.out _ (hDE.out _ B8.out)).mono ?_; rintro e w9 ⟨rfl, hb9⟩; have B9 := hid (Bw.trans B8.out hb9); clear hb9)
            | (go_at_call 12; have _g := B7; clear _g; (fail_if_success (have _g := B8)); refine (hEba.out _ (hDE.out _ B7.out)).mono ?_; rintro e w8 ⟨rfl, hb8⟩; have B8 := hid (Bw.trans B7.out hb8); clear hb8)
            | (go_at_call 12; (fail_if_success (have _g := B7)); refine (hEab.out _ (hDE.out _ B6.out)).mono ?_; rintro e w7 ⟨rfl, hb7⟩; have B7 := hid (Bw.trans B6.out hb7); clear hb7)
            | (go_at_call 12; have _g := B9; clear _g; refine (hEab.out _ (hDE.out _ B9.out)).mono ?_; rintro e w10 ⟨rfl, hb10⟩; have B10 := hid (Bw.trans B9.out hb10); clear hb10)
            | (go_at_call 16; (fail_if_success (have _g := B11)); refine (hTa.out _ (Bw.trans B3.out B10.out) (hDE.out _ B10.out)).mono ?_; rintro e w11 ⟨r11, rfl, hc11, hb11⟩; have B11 := hid (Bw.trans B10.out hb11); have C11 := hid hc11; clear hb11 hc11)
            | (go_at_call 16; have _g := B11; clear _g; refine (hTb.out _ (Bw.trans B3.out B11.out) (hDE.out _ B11.out)).mono ?_; rintro e w12 ⟨r12, rfl, hc12, hb12⟩; have B12 := hid (Bw.trans B11.out hb12); have q11 : (convert 44 9 r11).run Tryz.prog w12 = .ok (.string z) w12 := C11.out _ hb12; have q12 : (convert 44 9 r12).run Tryz.prog w12 = .ok (.string z) w12 := hc12 _ (Bw.refl _); clear hb12 hc12)
            | (go_at_call 8; refine (live4_any _).mono ?_; rintro e wl ⟨rfl, hbl⟩; have BL := hid (Bw.trans B3.out (Bw.trans B12.out hbl)); clear hbl)
            | fail)
          all_goals go_ret
          all_goals exact ⟨rfl, BL.out⟩
      · clear HMD
        go_wp2_with (first
          | (go_at_call 8; refine (live4_any _).mono ?_; rintro e wl ⟨rfl, hbl⟩; have BL := hid (Bw.trans B1.out hbl); clear hbl)
          | fail)
        all_goals go_ret
        all_goals exact ⟨rfl, BL.out⟩

theorem walk (ao0 aw0 : Option Addr) (co0 cw0 : Nat) (Os0 : List AObj) (Ws0 : List (Int × Int × Int)) (mo0 : Os0.length ≤ maxLen) (mw0 : Ws0.length ≤ maxLen) (a1 : Int) (w1 : U a1) (a2 : Int) (w2 : U a2) (w : World) (hpd : Pd w) (wu0 : WU w ao0 aw0 Os0 Ws0) :
    Calls Tryz.prog 5 #[.agg #[.slice ao0 Os0.length co0, .slice aw0 Ws0.length cw0], .int .u64 a1, .int .u64 a2] w fun e w' => e = .returned (.bool true) ∧ Bw w w' := by
  exact core ao0 aw0 co0 cw0 Os0 Ws0 mo0 mw0 a1 w1 a2 w2 w hpd wu0

set_option maxRecDepth 100000 in
theorem lifted (os : Os) (started : os.Started) (H : Type) (enc : TypeId × Value → H) :
    ReturnsInHanded {} Tryz.checked os 5 .any (fun w args => (Rows.showRulesSpec.pre enc Tryz.prog Tryz.f5 [] false w args ∧ laidMetH Tryz.prog laidS w) ∧ sizedMet enc Tryz.prog Tryz.f5 (OpenSpec.ofChange Rows.showRulesSpec) false w args)
      (Rows.showRulesSpec.post enc Tryz.prog Tryz.f5 false true false false) := by
  refine returnsInHanded_of_change_and (C := Tryz.checked) (X := fun w _ => laidMetH Tryz.prog laidS w) (fun _ _ _ hh h => h.of_heap hh) ownK started (by kernel_rfl) Tryz.func5
    (ChangeSpec.witness_shaped (enc := enc) (C := Tryz.checked) (os := os) (X := fun w _ => laidMetH Tryz.prog laidS w) false (World.doorLaid Tryz.prog 400 os) #[.agg #[.slice none 0 0, .slice none 0 0], .int .u64 0, .int .u64 0] 8 rfl (World.shaped_of_RefB (by kernel_rfl) (by kernel_rfl)) (by kernel_rfl) (by kernel_rfl) (by kernel_rfl) (door_met os _)) ?_
  intro W base args ds gs before hval0 hW _ _ hL _
  have hval : ∀ (j : Nat) t v, Tryz.f5.params[j]? = some t → args[j]? = some v → Value.okWide Tryz.prog W .any base t v := hval0
  have hW' := hW
  obtain ⟨p, q, hA0, hV, rfl, hfz, hnd⟩ := hW
  have hA : DataW.TrodAll enc Tryz.prog W 0 (fun _ => true) true Tryz.f5.params.toList args.toList ds p := hA0
  rw [Tryz.params5] at hA hval
  obtain ⟨v0, vs0, d0, ds0, p0, q0, hargs, rfl, rfl, h0, r0⟩ := trodAll_cons hA
  obtain ⟨v1, vs1, d1, ds1, p1, q1, rfl, rfl, rfl, h1, r1⟩ := trodAll_cons r0
  obtain ⟨v2, vs2, d2, ds2, p2, q2, rfl, rfl, rfl, h2, r2⟩ := trodAll_cons r1
  obtain ⟨rfl, rfl, rfl⟩ := trodAll_nil r2
  obtain rfl : args = #[v0, v1, v2] := by cases args; simp_all
  obtain ⟨rfl, rfl⟩ := trodVars_none hV
  have k0 := h0
  have lt0 : ∀ x ∈ p0, x.block < W.heap.size := by obtain ⟨m, hm⟩ := k0; exact DataW.trod_lt m _ _ _ hm
  have k1 := h1
  have lt1 : ∀ x ∈ p1, x.block < W.heap.size := by obtain ⟨m, hm⟩ := k1; exact DataW.trod_lt m _ _ _ hm
  have k2 := h2
  have lt2 : ∀ x ∈ p2, x.block < W.heap.size := by obtain ⟨m, hm⟩ := k2; exact DataW.trod_lt m _ _ _ hm
  obtain ⟨ao0, aw0, co0, cw0, Os0, Ws0, e0, mo0, mw0, wu0⟩ := open_world (hval 0 25 v0 rfl rfl) h0
  subst e0
  obtain ⟨a1, rfl, rfl, rfl, w10⟩ := open_int Tryz.underlying27 (hval 1 27 v1 rfl rfl) h1
  have w1 : U a1 := by have := bounds_u64 w10; unfold U; omega
  obtain ⟨a2, rfl, rfl, rfl, w20⟩ := open_int Tryz.underlying27 (hval 2 27 v2 rfl rfl) h2
  have w2 : U a2 := by have := bounds_u64 w20; unfold U; omega
  clear hA0 hval0
  refine (walk ao0 aw0 co0 cw0 Os0 Ws0 mo0 mw0 a1 w1 a2 w2 W (pd_of_laid hL) wu0).mono fun e W' ⟨he, bel⟩ => ?_
  subst he
  exact ⟨_, rfl, _, _, _, [], _, [], hW', trodAll_mk1 (shut_bool Tryz.underlying4 _), (trodAll_cons_mk (Below.trod laidOut (by kernel_rfl) (of_decide_eq_true (by kernel_rfl)) k0 bel lt0) (trodAll_cons_mk (Below.trod laidOut (by kernel_rfl) (of_decide_eq_true (by kernel_rfl)) k1 bel lt1) (trodAll_cons_mk (Below.trod laidOut (by kernel_rfl) (of_decide_eq_true (by kernel_rfl)) k2 bel lt2) trodAll_mk0))), rfl, Below.frame bel _, fun h => by cases h⟩

theorem over : Rows.showRulesRow.holds Tryz.pinned (OpenSpec.ofChange Rows.showRulesSpec) :=
  OpenClaim.holds_of_wide 5 Tryz.f5 rfl rfl rfl rfl rfl rfl rfl ⟨rfl, rfl, rfl, rfl, rfl⟩ rfl rfl rfl rfl rfl (by kernel_rfl) Tryz.func5 (by kernel_rfl)
    (of_decide_eq_true (by kernel_rfl)) (by unfold Func.isWrapper; first | (rw [if_pos (by decide +kernel)]; kernel_rfl) | (rw [if_neg (by decide +kernel)]; exact ⟨rfl, rfl⟩))
    (fun os started H enc _ => lifted os started H enc)

theorem card : Rows.ShowRulesCardSaid :=
  Claim7.holds_tied_plain_at .later [] [.data, .data, .data] true (true, "ad99629892291f8ff1a2b378a74f6f6803da6c1f064a330541666b8246f044ff") false
    over (fun _ h => by cases h) (by kernel_rfl) (fun _ h => by cases h) showRules_row_tie rfl ⟨rfl, rfl⟩ (by kernel_rfl) rfl
    (fun f fn hf hfn => by
      obtain rfl : f = 5 := Option.some.inj ((show Tryz.prog.funcNamed "jacquard/jacquardlaw04.ShowRules" = some 5 by kernel_rfl).symm.trans hf) |>.symm
      obtain rfl : fn = Tryz.f5 := (Option.some.inj (Tryz.func5.symm.trans hfn)).symm
      exact ⟨by kernel_rfl, fun j t ht => by
        rw [Tryz.params5] at ht
        have hm : t ∈ [25, 27] := by simpa using Array.mem_of_getElem? ht
        have hall : ([25, 27].all fun u => !Tryz.prog.wantsStandIn u) = true := by kernel_rfl
        exact (show Tryz.prog.wantsStandIn t = false by simpa using List.all_eq_true.1 hall t hm)⟩)
    (by kernel_rfl)
end Go.Proofs.YtlhgdknmgdohkaaGreatDoor.showRules
namespace Go.Proofs.YtlhgdknmgdohkaaGreatDoor
theorem showRules_holds : Rows.ShowRulesCardSaid := showRules.card
#print axioms showRules_holds
end Go.Proofs.YtlhgdknmgdohkaaGreatDoor

