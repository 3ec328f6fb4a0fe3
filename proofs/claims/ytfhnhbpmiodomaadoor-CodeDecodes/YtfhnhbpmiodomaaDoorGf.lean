/- The document's Decode: the contract. -/
import Derived.Test.YtfhnhbpmiodomaaDoorGe
set_option linter.unusedSimpArgs false
set_option linter.unusedVariables false
namespace Go.Proofs.YtfhnhbpmiodomaaDoor
open Go Go.RowKit

section
variable {w w' : World}

set_option maxRecDepth 100000 in
set_option maxHeartbeats 40000000 in
theorem rDecode_any (vb : Value) (b : List Int) (hv : Sl w (fun _ => True) vb b.length 1 (b.map (Value.int .u8))) (hby : ∀ c ∈ b, 0 ≤ c ∧ c ≤ 255) (hl : b.length ≤ 5000) :
    Calls Tryd.prog 11 #[vb] w (FDP w b) := by
  have HBY := hid hby
  have HLN := hid hl
  have HV := hid hv
  obtain ⟨av, cap, ev⟩ := hv.form
  subst ev
  have hln : decide (4194304 < (b.length : Int)) = false := decide_eq_false (by omega)
  have hlb : b.length ≤ 9223372036854775807 := by omega
  have HW0 := hid (show Bw w ((w.alloc (.cells #[.slice none 0 0, .slice none 0 0, .slice none 0 0, .int .i64 0] 26)).alloc (.cells #[.int .u8 74, .int .u8 81, .int .u8 48, .int .u8 49] 67)) from Bw.alloc (Bw.alloc (Bw.refl w) _) _)
  have HP := hid (show Blk ((w.alloc (.cells #[.slice none 0 0, .slice none 0 0, .slice none 0 0, .int .i64 0] 26)).alloc (.cells #[.int .u8 74, .int .u8 81, .int .u8 48, .int .u8 49] 67)) w.heap.size #[.slice none 0 0, .slice none 0 0, .slice none 0 0, .int .i64 0] 26 from (Blk.new w #[.slice none 0 0, .slice none 0 0, .slice none 0 0, .int .i64 0] 26).alloc _)
  have HM := hid (show Blk ((w.alloc (.cells #[.slice none 0 0, .slice none 0 0, .slice none 0 0, .int .i64 0] 26)).alloc (.cells #[.int .u8 74, .int .u8 81, .int .u8 48, .int .u8 49] 67)) (w.heap.size + 1) #[.int .u8 74, .int .u8 81, .int .u8 48, .int .u8 49] 67 from by have := Blk.new (w.alloc (.cells #[.slice none 0 0, .slice none 0 0, .slice none 0 0, .int .i64 0] 26)) #[.int .u8 74, .int .u8 81, .int .u8 48, .int .u8 49] 67; simpa only [World.size_alloc] using this)
  have HS0 := hid (show ((w.alloc (.cells #[.slice none 0 0, .slice none 0 0, .slice none 0 0, .int .i64 0] 26)).alloc (.cells #[.int .u8 74, .int .u8 81, .int .u8 48, .int .u8 49] 67)).heap.size = w.heap.size + 2 from by simp only [World.size_alloc])
  clear hv hby hl
  go_enter Tryd.func11, Tryd.ntmps11
  go_wp2
  go_loopw [6] (fun j wr => ∃ i, i ≤ 4 ∧ j = .int .i64 (i : Nat) ∧ (∀ t, t < i → b[t]? = markL[t]?) ∧ Bw ((w.alloc (.cells #[.slice none 0 0, .slice none 0 0, .slice none 0 0, .int .i64 0] 26)).alloc (.cells #[.int .u8 74, .int .u8 81, .int .u8 48, .int .u8 49] 67)) wr) (fun j _ => 4 - (intOf j).toNat)
  case atStart => exact ⟨0, by omega, rfl, fun t ht => by omega, Bw.refl _⟩
  case round =>
    obtain ⟨i, hi, rfl, hmk, hbw⟩ := hrel
    have HMK := hid hmk
    have HB := hid hbw
    have z := (HP.out.bw hbw).cell
    have zf := (HP.out.bw hbw).free
    have zl := (HP.out.bw hbw).lt
    have q := (HM.out.bw hbw).cell
    have ql := (HM.out.bw hbw).lt
    clear hmk
    by_cases hi4 : i < 4
    · have hi4b : (i : Int) < 4 := by omega
      by_cases hlt : i < b.length
      · have hge : decide ((b.length : Int) ≤ (i : Int)) = false := decide_eq_false (by omega)
        have hlt2 : (i : Int) < (b.length : Int) := by omega
        obtain ⟨g, o, e2, hg, _, hcc⟩ := (HV.out.below (HW0.out.trans hbw)).cellAt (by omega)
        subst e2
        have hc := hcc i (by omega)
        have hgx : b[i]? = some b[i] := List.getElem?_eq_getElem hlt
        simp only [List.getElem?_map, hgx, Option.map_some] at hc
        obtain ⟨k, hk⟩ : ∃ k, markL[i]? = some k := ⟨_, List.getElem?_eq_getElem (show i < markL.length by show i < 4; omega)⟩
        have q4 : wr.cell? ⟨w.heap.size + 1, i, none⟩ = some (.int .u8 k) := by
          rw [q i]
          match i, hi4, hk with
          | 0, _, hk => simp [markL] at hk; subst hk; rfl
          | 1, _, hk => simp [markL] at hk; subst hk; rfl
          | 2, _, hk => simp [markL] at hk; subst hk; rfl
          | 3, _, hk => simp [markL] at hk; subst hk; rfl
        generalize b[i] = c at hc hgx
        have HGX := hid hgx
        have HKX := hid hk
        clear hcc hgx hk hbw q
        by_cases hck : c = k
        · have hck2 : (c != k) = false := by simp [hck]
          have HNX := hid (show ∀ t, t < i + 1 → b[t]? = markL[t]? from fun t ht => by
            by_cases h : t < i
            · exact HMK.out t h
            · obtain rfl : t = i := by omega
              rw [HGX.out, HKX.out, hck])
          clear hck
          go_wp2
          go_quiet (fail)
          go_wp2
          go_roundw
          case rel => exact ⟨i + 1, by omega, by go_num, HNX.out, HB.out.trans (by repeat (first | exact Bw.refl _ | apply Bw.alloc | apply Bw.drewN | apply Bw.drew))⟩
          case measure => simp [intOf]; omega
        · have hck2 : (c != k) = true := by simp [hck]
          have HDB := hid (dec_bad (mkM_bad HMK.out hi4 (by rw [HGX.out, HKX.out]; simpa using hck)))
          clear hck
          go_wp2
          go_quiet (fail)
          go_wp2
          all_goals
            have bfc := ((((((HP.out.bw HB.out).set 0 (.slice none 0 0)).set 1 (.slice none 0 0)).set 2 (.slice none 0 0)).set 3 (.int .i64 0))).cell
            refine bodyPost_ret (v := .tuple #[.agg #[.slice none 0 0, .slice none 0 0, .slice none 0 0, .int .i64 0], .int .i64 6, .int .i64 i]) (by simp [results, Tryd.results11, go_sem, bfc]) rfl ?_
            exact FDP.bad (by repeat (first | exact HW0.out.trans HB.out | apply Bw.drewN | apply Bw.drew | (refine Bw.setCell ?_ (show w.heap.size ≤ w.heap.size from Nat.le_refl _) _))) HDB.out.1 HDB.out.2
      · have hge : decide ((b.length : Int) ≤ (i : Int)) = true := decide_eq_true (by omega)
        have HDB := hid (dec_bad (mkM_bad HMK.out hi4 (by rw [List.getElem?_eq_none (by omega), List.getElem?_eq_getElem (show i < markL.length by show i < 4; omega)]; simp)))
        clear hbw
        go_wp2
        go_quiet (fail)
        go_wp2
        all_goals
          have bfc := ((((((HP.out.bw HB.out).set 0 (.slice none 0 0)).set 1 (.slice none 0 0)).set 2 (.slice none 0 0)).set 3 (.int .i64 0))).cell
          refine bodyPost_ret (v := .tuple #[.agg #[.slice none 0 0, .slice none 0 0, .slice none 0 0, .int .i64 0], .int .i64 6, .int .i64 i]) (by simp [results, Tryd.results11, go_sem, bfc]) rfl ?_
          exact FDP.bad (by repeat (first | exact HW0.out.trans HB.out | apply Bw.drewN | apply Bw.drew | (refine Bw.setCell ?_ (show w.heap.size ≤ w.heap.size from Nat.le_refl _) _))) HDB.out.1 HDB.out.2
    · obtain rfl : i = 4 := by omega
      obtain ⟨hmk4, hb4⟩ := mkM_good HMK.out
      obtain ⟨g, o, e2, hg, _, _⟩ := (HV.out.below (HW0.out.trans hbw)).cellAt (by omega)
      subst e2
      have HB4 := hid hb4
      obtain ⟨L3, hx3⟩ : ∃ x, lM b (tM b) ((4, 0) : St) = x := ⟨_, rfl⟩
      obtain ⟨L4, hx4⟩ : ∃ x, lM b (lM b (nM b)) L3.2 = x := ⟨_, rfl⟩
      obtain ⟨⟨x3, s3⟩, hxn⟩ : ∃ x, nM b L4.2 = x := ⟨_, rfl⟩
      obtain ⟨FM, hFM⟩ : ∃ F, fnM b = F := ⟨_, rfl⟩
      have HFM := hid hFM
      have HFO := hid (show Ok b FM from by rw [← hFM]; exact fnM_ok b)
      obtain ⟨L5, hx5⟩ : ∃ x, lM b FM s3 = x := ⟨_, rfl⟩
      have HVS := hid (show decS b = endS b L5.2 by unfold decS; rw [hmk4]; simp only [imM, hx3, hx4, hxn, hFM, hx5])
      have HVI := hid (show (decS b).2 = 0 → decI b = ⟨L5.1, L3.1, L4.1, x3⟩ from fun h0 => by unfold decI; rw [if_pos h0, hmk4]; simp only [imM, hx3, hx4, hxn, hFM, hx5])
      have HVN := hid (show (decS b).2 ≠ 0 → decI b = AIm.none from fun h0 => by unfold decI; rw [if_neg h0])
      have HX3 := hid hx3
      have HX4 := hid hx4
      have HXN := hid hxn
      have HX5 := hid hx5
      have HIX := hid (show I64 x3 by have := nM_bd b HBY.out L4.2; rw [hxn] at this; unfold I64; simp only at this; omega)
      have ZZ5 := hid (fun h0 => zero_of (lM_ok b HFO.out) hx5 h0)
      have ZZN := hid (show s3.2 = 0 → L4.2.2 = 0 from fun h0 => zero_of (nM_ok b) hxn h0)
      have ZZ4 := hid (fun h0 => zero_of (lM_ok b (lM_ok b (nM_ok b))) hx4 h0)
      clear hx3 hx4 hxn hx5 hFM hmk4 hi4 hi q ql HMK
      obtain ⟨wm, hwm⟩ : ∃ x, x = wr := ⟨_, rfl⟩
      subst hwm
      have HC := hid (show CI w.heap.size wm.heap.size (wm.heap.size + 1) w.heap.size (.slice (some ⟨g, o, none⟩) b.length cap) b 26 w ((wm.alloc (.cells #[.slice (some ⟨g, o, none⟩) b.length cap, .int .i64 4, .int .i64 0] 70)).alloc (.cells #[.slice none 0 0, .slice none 0 0, .slice none 0 0, .int .i64 0] 26)) ((4, 0) : St) #[.slice none 0 0, .slice none 0 0, .slice none 0 0, .int .i64 0] #[.slice none 0 0, .slice none 0 0, .slice none 0 0, .int .i64 0] from
        ⟨⟨(Blk.new wm #[.slice (some ⟨g, o, none⟩) b.length cap, .int .i64 4, .int .i64 0] 70).alloc _, (HV.out.keep (G' := fun x => x < w.heap.size) (Nat.le_refl _) (fun _ _ _ => rfl) (fun x hx _ => hx)).keep (Nat.le_trans (HW0.out.trans hbw).size (by simp only [World.size_alloc]; omega)) (fun x hx _ => ((HW0.out.trans hbw).alloc _ |>.alloc _).block x hx) (fun _ _ g => g), HBY.out, by have := HLN.out; omega, hb4, by decide, (HW0.out.trans hbw).size⟩,
          by have := Blk.new (wm.alloc (.cells #[.slice (some ⟨g, o, none⟩) b.length cap, .int .i64 4, .int .i64 0] 70)) #[.slice none 0 0, .slice none 0 0, .slice none 0 0, .int .i64 0] 26; simpa only [World.size_alloc] using this,
          ((HP.out.bw hbw).alloc _).alloc _, Kp.of_bw ((HW0.out.trans hbw).alloc _ |>.alloc _), by omega, by omega, by omega, by have := (HW0.out.trans hbw).size; omega, by have := (HW0.out.trans hbw).size; omega⟩)
      have HRB := hid (show w.heap.size < wm.heap.size from zl)
      obtain ⟨⟨n0, t0⟩, hn⟩ : ∃ x, cM b ((4, 0) : St) = x := ⟨_, rfl⟩
      have HN0 := hid hn
      have HAT0 := hid (show ((4, 0) : St).1 ≤ b.length from hb4)
      clear hn hbw hb4 z zf zl HB HM HP
      go_wp2_with (first
        | (go_at_call 24; refine (fcount_any HC.out.fb).mono ?_; rintro e wc0 ⟨rfl, hr1, hk1⟩; rw [HN0.out] at hr1 ⊢; replace HC := hid (HC.out.kpn hk1 hr1); clear hr1 hk1)
        | fail)
      have hcb := (cM_ok b).1 ((4, 0) : St) HAT0.out
      rw [HN0.out] at hcb
      have HCB := hid (show n0 ≤ b.length by simp only at hcb; omega)
      have hn63 : n0 ≤ 9223372036854775807 := by have := HLN.out; have := HCB.out; omega
      have HJ := hid (show JL L3 (tM b) n0 [] t0 from by rw [← HX3.out]; unfold lM; rw [HN0.out]; exact JL.init (tM_ok b) n0 t0)
      clear hcb
      have HWB := hid HC.out.lt
      go_loopw [9] (fun jj wr => ∃ (k : Nat) (ms : List (List Int)) (s' : St) (l : Value), jj = .int .i64 (k : Nat) ∧ ms.length + k ≤ n0 ∧ LI (μ := List Int) 9 1 (fun s => [.string (strOfNums s)]) (fun _ _ s => (∀ c ∈ s, 0 ≤ c ∧ c ≤ 255) ∧ s.length ≤ maxLen : World → (Nat → Prop) → List Int → Prop) wc0 wr l ms ∧ JL L3 (tM b) k (ms) s' ∧ CI w.heap.size wm.heap.size (wm.heap.size + 1) w.heap.size (.slice (some ⟨g, o, none⟩) b.length cap) b 26 w wr s' #[.slice none 0 0, l, .slice none 0 0, .int .i64 0] #[.slice none 0 0, .slice none 0 0, .slice none 0 0, .int .i64 0] ∧ Ol wm.heap.size (wm.heap.size + 1) wc0 wr) (fun jj _ => (intOf jj).toNat)
      case atStart => exact ⟨n0, [], t0, _, rfl, by simp, LI.nil _ _, HJ.out, HC.out, Ol.refl _ _ _⟩
      case round =>
        clear HC
        obtain ⟨k, ms3, s', l, rfl, hml, hli, he, hc, hol⟩ := hrel
        have HLI := hid hli
        have HE := hid he
        have HC := hid hc
        have HOL := hid hol
        have HML := hid hml
        obtain ⟨a3, c3, el⟩ := hli.form
        subst el
        have y := hc.fb.k.cell
        have yl := hc.fb.k.lt
        clear hli he hc hol hml
        by_cases hkz : k = 0
        · subst hkz
          have hk0 : ¬ (0 : Int) < ((0 : Nat) : Int) := by omega
          have HZ := hid HE.out.zero.1
          have HZV := hid HE.out.zero.2
          have hz := HZ.out
          subst hz
          have E3 := hid (show L3.2.2 = 0 → ms3 = L3.1 from fun h0 => (HZV.out h0).symm)
          have HL3 := hid (RL.up (cb := (wm.heap.size + 1)) (r := wm.heap.size) (HLI.out.rl keepS (by have := HLN.out; have := HCB.out; have := HML.out; unfold maxLen; omega) (fun _ => rfl)) HWB.out.2.1 HWB.out.1)
          clear HLI HE HOL HZ HCB HJ
          clear HZV
          have HAT1 := hid HC.out.fb.at_
          obtain ⟨⟨n1, t1⟩, hn⟩ : ∃ x, cM b L3.2 = x := ⟨_, rfl⟩
          have HN1 := hid hn
          clear hn
          go_wp2_with (first
            | (go_at_call 24; refine (fcount_any HC.out.fb).mono ?_; rintro e wc1 ⟨rfl, hr1, hk1⟩; rw [HN1.out] at hr1 ⊢; replace HL3 := hid (RL.upk HL3.out hk1); replace HC := hid (HC.out.kpn hk1 hr1); clear hr1 hk1)
            | fail)
          have hcb := (cM_ok b).1 L3.2 HAT1.out
          rw [HN1.out] at hcb
          have HCB := hid (show n1 ≤ b.length by simp only at hcb; omega)
          have hn63 : n1 ≤ 9223372036854775807 := by have := HLN.out; have := HCB.out; omega
          have HJ := hid (show JL L4 (lM b (nM b)) n1 [] t1 from by rw [← HX4.out]; unfold lM; rw [HN1.out]; exact JL.init (lM_ok b (nM_ok b)) n1 t1)
          clear hcb
          have HWB := hid HC.out.lt
          go_loopw [11] (fun jj wr => ∃ (k : Nat) (ms : List (List Int × Value)) (s' : St) (l : Value), jj = .int .i64 (k : Nat) ∧ ms.length + k ≤ n1 ∧ LI (μ := List Int × Value) 42 1 (fun m => [m.2]) (fun w G m => RInts w G m.2 m.1 : World → (Nat → Prop) → List Int × Value → Prop) wc1 wr l ms ∧ JL L4 (lM b (nM b)) k (ms.map (·.1)) s' ∧ CI w.heap.size wm.heap.size (wm.heap.size + 1) w.heap.size (.slice (some ⟨g, o, none⟩) b.length cap) b 26 w wr s' #[.slice none 0 0, .slice a3 ms3.length c3, l, .int .i64 0] #[.slice none 0 0, .slice none 0 0, .slice none 0 0, .int .i64 0] ∧ Ol wm.heap.size (wm.heap.size + 1) wc1 wr) (fun jj _ => (intOf jj).toNat)
          case atStart => exact ⟨n1, [], t1, _, rfl, by simp, LI.nil _ _, HJ.out, HC.out, Ol.refl _ _ _⟩
          case round =>
            clear HC
            obtain ⟨k, ms4, s', l, rfl, hml, hli, he, hc, hol⟩ := hrel
            have HLI := hid hli
            have HE := hid he
            have HC := hid hc
            have HOL := hid hol
            have HML := hid hml
            obtain ⟨a4, c4, el⟩ := hli.form
            subst el
            have y := hc.fb.k.cell
            have yl := hc.fb.k.lt
            clear hli he hc hol hml
            by_cases hkz : k = 0
            · subst hkz
              have hk0 : ¬ (0 : Int) < ((0 : Nat) : Int) := by omega
              have HZ := hid HE.out.zero.1
              have HZV := hid HE.out.zero.2
              have hz := HZ.out
              subst hz
              have E4 := hid (show L4.2.2 = 0 → ms4.map (·.1) = L4.1 from fun h0 => (HZV.out h0).symm)
              replace HL3 := hid (RL.ol HL3.out HOL.out)
              have HL4 := hid (RKs.up (cb := (wm.heap.size + 1)) (r := wm.heap.size) (LI.rlK HLI.out (by have := HLN.out; have := HCB.out; have := HML.out; unfold maxLen; omega)) HWB.out.2.1 HWB.out.1)
              clear HLI HE HOL HZ HCB HJ
              clear HZV
              have HATG := hid HC.out.fb.at_
              have HAT2 := hid (show s3.1 ≤ b.length from by have := (nM_ok b).1 L4.2 HC.out.fb.at_; rw [HXN.out] at this; exact this)
              have yc := HC.out.bl.cell
              have ycf := HC.out.bl.free
              have ycl := HC.out.bl.lt
              obtain ⟨⟨n2, t2⟩, hn⟩ : ∃ x, cM b s3 = x := ⟨_, rfl⟩
              have HN2 := hid hn
              clear hn
              go_wp2_with (first
                | (go_at_call 26; refine (fnumber_any HC.out.fb).mono ?_; rintro e wn ⟨rfl, hr1, hk1⟩; rw [HXN.out] at hr1 ⊢; replace HL3 := hid ((RL.upk HL3.out hk1).ups 3 (.int .i64 x3)); replace HL4 := hid (RKs.ups (RKs.upk HL4.out hk1) 3 (.int .i64 x3)); replace HC := hid (HC.out.kpn hk1 hr1); have y1 := HC.out.bl.cell; have yf1 := HC.out.bl.free; have yl1 := HC.out.bl.lt; replace HC := hid (show CI w.heap.size wm.heap.size (wm.heap.size + 1) w.heap.size (.slice (some ⟨g, o, none⟩) b.length cap) b 26 w (wn.setCell ⟨(wm.heap.size + 1), 3, none⟩ (.int .i64 x3)) s3 #[.slice none 0 0, .slice a3 ms3.length c3, .slice a4 ms4.length c4, .int .i64 x3] #[.slice none 0 0, .slice none 0 0, .slice none 0 0, .int .i64 0] from by simpa using HC.out.set 3 (.int .i64 x3)); clear hr1 hk1)
                | (go_at_call 24; refine (fcount_any HC.out.fb).mono ?_; rintro e wc2 ⟨rfl, hr1, hk1⟩; rw [HN2.out] at hr1 ⊢; replace HL3 := hid (RL.upk HL3.out hk1); replace HL4 := hid (RKs.upk HL4.out hk1); replace HC := hid (HC.out.kpn hk1 hr1); clear hr1 hk1)
                | fail)
              have hcb := (cM_ok b).1 s3 HAT2.out
              rw [HN2.out] at hcb
              have HCB := hid (show n2 ≤ b.length by simp only at hcb; omega)
              have hn63 : n2 ≤ 9223372036854775807 := by have := HLN.out; have := HCB.out; omega
              have HJ := hid (show JL L5 FM n2 [] t2 from by rw [← HX5.out]; unfold lM; rw [HN2.out]; exact JL.init HFO.out n2 t2)
              clear hcb
              have HWB := hid HC.out.lt
              go_loopw [12] (fun jj wr => ∃ (k : Nat) (ms : List (MFn)) (s' : St) (l : Value), jj = .int .i64 (k : Nat) ∧ ms.length + k ≤ n2 ∧ LI (μ := MFn) 47 6 fnC (fun w G m => RFn w G m : World → (Nat → Prop) → MFn → Prop) wc2 wr l ms ∧ JL L5 FM k (ms.map (·.f)) s' ∧ CI w.heap.size wm.heap.size (wm.heap.size + 1) w.heap.size (.slice (some ⟨g, o, none⟩) b.length cap) b 26 w wr s' #[l, .slice a3 ms3.length c3, .slice a4 ms4.length c4, .int .i64 x3] #[.slice none 0 0, .slice none 0 0, .slice none 0 0, .int .i64 0] ∧ Ol wm.heap.size (wm.heap.size + 1) wc2 wr) (fun jj _ => (intOf jj).toNat)
              case atStart => exact ⟨n2, [], t2, _, rfl, by simp, LI.nil _ _, HJ.out, HC.out, Ol.refl _ _ _⟩
              case round =>
                clear HC
                obtain ⟨k, ms5, s', l, rfl, hml, hli, he, hc, hol⟩ := hrel
                have HLI := hid hli
                have HE := hid he
                have HC := hid hc
                have HOL := hid hol
                have HML := hid hml
                obtain ⟨a5, c5, el⟩ := hli.form
                subst el
                have y := hc.fb.k.cell
                have yl := hc.fb.k.lt
                clear hli he hc hol hml
                by_cases hkz : k = 0
                · subst hkz
                  have hk0 : ¬ (0 : Int) < ((0 : Nat) : Int) := by omega
                  have HZ := hid HE.out.zero.1
                  have HZV := hid HE.out.zero.2
                  have hz := HZ.out
                  subst hz
                  have E5 := hid (show L5.2.2 = 0 → ms5.map (·.f) = L5.1 from fun h0 => (HZV.out h0).symm)
                  replace HL3 := hid (RL.ol HL3.out HOL.out)
                  replace HL4 := hid (RKs.ol HL4.out HOL.out)
                  have HL5 := hid (RFs.up (cb := (wm.heap.size + 1)) (r := wm.heap.size) (LI.rlF HLI.out (by have := HLN.out; have := HCB.out; have := HML.out; unfold maxLen; omega)) HWB.out.2.1 HWB.out.1)
                  clear HLI HE HOL HZ HCB HJ
                  clear HZV
                  by_cases h0 : L5.2.2 = 0
                  · have h0b : ((L5.2.2 : Int) == 0) = true := by simp [h0]
                    have hatl := HC.out.fb.at_
                    have y := HC.out.fb.k.cell
                    have yl := HC.out.fb.k.lt
                    by_cases hlt : L5.2.1 < b.length
                    · have hlt2 : (L5.2.1 : Int) < (b.length : Int) := by omega
                      have HDS := hid (show decS b = ((L5.2.1, 6) : St) from by rw [HVS.out]; unfold endS; rw [if_pos hlt]; simp [failS, h0])
                      have HF := hid (show failS L5.2 6 L5.2.1 = ((L5.2.1, 6) : St) by simp [failS, h0])
                      have HAL := hid hatl
                      have HBAD := hid (show ((L5.2.1, 6) : St).2 ≠ 0 by simp)
                      clear hatl hlt h0
                      go_upto_region 29 with (first
                        | (go_at_call 28; refine (fbad_any 6 L5.2.1 HC.out.fb (by decide) (fun _ => HAL.out)).mono ?_; rintro e wz ⟨⟨_, rfl⟩, hr1, hk1⟩; rw [HF.out] at hr1; replace HC := hid (HC.out.kpn hk1 hr1); have y2 := HC.out.fb.k.cell; have yl2 := HC.out.fb.k.lt; simp only at y2; clear hr1 hk1)
                        | fail)
                      have hbx : ((((L5.2.1, 6) : St).2 : Int) != 0) = true := by simp [HBAD.out]
                      have hbe : ((((L5.2.1, 6) : St).2 : Int) == 0) = false := by simp [HBAD.out]
                      have HDN := hid (HVN.out (by rw [HDS.out]; exact HBAD.out))
                      have HSS := hid (show ∀ wx, CI w.heap.size wm.heap.size (wm.heap.size + 1) w.heap.size (.slice (some ⟨g, o, none⟩) b.length cap) b 26 w wx ((L5.2.1, 6) : St) #[.slice a5 ms5.length c5, .slice a3 ms3.length c3, .slice a4 ms4.length c4, .int .i64 x3] #[.slice none 0 0, .slice none 0 0, .slice none 0 0, .int .i64 0] → wx.cell? ⟨wm.heap.size, 1, none⟩ = some (.int .i64 ((L5.2.1, 6) : St).1) ∧ wx.cell? ⟨wm.heap.size, 2, none⟩ = some (.int .i64 ((L5.2.1, 6) : St).2) from fun wx hx => ⟨hx.fb.k.cell 1, hx.fb.k.cell 2⟩)
                      have HKF := hid (((((Kp.refl w.heap.size wz).set 0 (.slice none 0 0)).set 1 (.slice none 0 0)).set 2 (.slice none 0 0)).set 3 (.int .i64 0))
                      have HSF := hid (show ∀ m : Nat, (((((wz.setCell ⟨w.heap.size, 0, none⟩ (.slice none 0 0)).setCell ⟨w.heap.size, 1, none⟩ (.slice none 0 0)).setCell ⟨w.heap.size, 2, none⟩ (.slice none 0 0)).setCell ⟨w.heap.size, 3, none⟩ (.int .i64 0)).drewN m).cell? ⟨wm.heap.size, 1, none⟩ = some (.int .i64 ((L5.2.1, 6) : St).1) ∧ (((((wz.setCell ⟨w.heap.size, 0, none⟩ (.slice none 0 0)).setCell ⟨w.heap.size, 1, none⟩ (.slice none 0 0)).setCell ⟨w.heap.size, 2, none⟩ (.slice none 0 0)).setCell ⟨w.heap.size, 3, none⟩ (.int .i64 0)).drewN m).cell? ⟨wm.heap.size, 2, none⟩ = some (.int .i64 ((L5.2.1, 6) : St).2) from fun m => by
                        have hx := (HC.out.fb.kpo HKF.out (Ne.symm HC.out.rr) (Nat.le_refl _)).k
                        exact ⟨(hx.drewN m).cell 1, (hx.drewN m).cell 2⟩)
                      have z := HC.out.rs.cell
                      have zf := HC.out.rs.free
                      have zl := HC.out.rs.lt
                      have bfc := ((((HC.out.rs.set 0 (.slice none 0 0)).set 1 (.slice none 0 0)).set 2 (.slice none 0 0)).set 3 (.int .i64 0)).cell
                      have HBF := hid (show ∀ m : Nat, Bw w (((((wz.setCell ⟨w.heap.size, 0, none⟩ (.slice none 0 0)).setCell ⟨w.heap.size, 1, none⟩ (.slice none 0 0)).setCell ⟨w.heap.size, 2, none⟩ (.slice none 0 0)).setCell ⟨w.heap.size, 3, none⟩ (.int .i64 0)).drewN m) from fun m => ((HC.out.kp.two HKF.out (Nat.le_refl _)).toBw (Nat.le_of_lt HRB.out)).drewN m)
                      simp only at hbx
                      go_upto_region 30 with fail
                      refine wp_region_W (fun w' => w'.cell? ⟨wm.heap.size, 1, none⟩ = some (.int .i64 ((L5.2.1, 6) : St).1) ∧ w'.cell? ⟨wm.heap.size, 2, none⟩ = some (.int .i64 ((L5.2.1, 6) : St).2)) (fun j => if j == 9 then 0 else 1) (by kernel_rfl) ?_
                      refine wpAnyW_take (i := 0) (oi := { dst := some 156, op := Op.build 26 #[], type := 26, pos := "ref.go:301", after := #[], guard := none }) (v := ?_) rfl (by kernel_rfl) (by kernel_rfl) (by kernel_rfl) (by kernel_rfl) (fun _ _ _ h => h) (Or.inl ⟨by rfl, fun w _ => ?_⟩) ?_
                      rotate_left
                      · (go_simp; first | done | with_reducible rfl)
                      try simp only [Act.put, List.setIfInBounds_toArray, List.set_cons_zero, List.set_cons_succ]
                      refine wpAnyW_take (i := 1) (oi := { dst := some 157, op := Op.move (Operand.tmp 7), type := 68, pos := "ref.go:301", after := #[{ on := 9, ground := Ground.gcOnly Departure.lateStores }], guard := none }) (v := ?_) rfl (by kernel_rfl) (by kernel_rfl) (by kernel_rfl) (by kernel_rfl) (fun _ _ _ h => h) (Or.inl ⟨by rfl, fun w _ => ?_⟩) ?_
                      rotate_left
                      · (go_simp; first | done | with_reducible rfl)
                      try simp only [Act.put, List.setIfInBounds_toArray, List.set_cons_zero, List.set_cons_succ]
                      refine wpAnyW_take (i := 2) (oi := { dst := some 158, op := Op.nilCheck (Operand.tmp 157), type := 0, pos := "ref.go:301", after := #[{ on := 1, ground := Ground.data }, { on := 9, ground := Ground.gcOnly Departure.lateStores }], guard := none }) (v := ?_) rfl (by kernel_rfl) (by kernel_rfl) (by kernel_rfl) (by kernel_rfl) (fun _ _ _ h => h) (Or.inl ⟨by rfl, fun w _ => ?_⟩) ?_
                      rotate_left
                      · (go_simp; first | done | with_reducible rfl)
                      try simp only [Act.put, List.setIfInBounds_toArray, List.set_cons_zero, List.set_cons_succ]
                      refine wpAnyW_take (i := 3) (oi := { dst := some 159, op := Op.fieldAddr 70 (Operand.tmp 158) 2, type := 0, pos := "ref.go:301", after := #[{ on := 2, ground := Ground.data }, { on := 9, ground := Ground.gcOnly Departure.lateStores }], guard := none }) (v := ?_) rfl (by kernel_rfl) (by kernel_rfl) (by kernel_rfl) (by kernel_rfl) (fun _ _ _ h => h) (Or.inl ⟨by rfl, fun w _ => ?_⟩) ?_
                      rotate_left
                      · (go_simp; first | done | with_reducible rfl)
                      try simp only [Act.put, List.setIfInBounds_toArray, List.set_cons_zero, List.set_cons_succ]
                      refine wpAnyW_load (i := 4) (oi := { dst := some 160, op := Op.load 3 (Operand.tmp 159), type := 3, pos := "ref.go:301", after := #[{ on := 3, ground := Ground.data }, { on := 9, ground := Ground.gcOnly Departure.lateStores }], guard := none }) (v := ?_) rfl (by kernel_rfl) (by kernel_rfl) (by kernel_rfl) (by kernel_rfl) (by kernel_rfl) (fun _ _ _ h => h) (Or.inl ⟨by rfl, fun w hS => ?_⟩) (HSS.out _ (HC.out.bw (by repeat (first | exact Bw.refl _ | apply Bw.alloc | apply Bw.drewN | apply Bw.drew)))) ?_
                      rotate_left
                      · (obtain ⟨s0, s1⟩ := hS; go_simp; first | done | with_reducible rfl)
                      try simp only [Act.put, List.setIfInBounds_toArray, List.set_cons_zero, List.set_cons_succ]
                      refine wpAnyW_take (i := 5) (oi := { dst := some 161, op := Op.move (Operand.tmp 7), type := 68, pos := "ref.go:301", after := #[{ on := 10, ground := Ground.gcOnly Departure.lateStores }], guard := none }) (v := ?_) rfl (by kernel_rfl) (by kernel_rfl) (by kernel_rfl) (by kernel_rfl) (fun _ _ _ h => h) (Or.inl ⟨by rfl, fun w _ => ?_⟩) ?_
                      rotate_left
                      · (go_simp; first | done | with_reducible rfl)
                      try simp only [Act.put, List.setIfInBounds_toArray, List.set_cons_zero, List.set_cons_succ]
                      refine wpAnyW_take (i := 6) (oi := { dst := some 162, op := Op.nilCheck (Operand.tmp 161), type := 0, pos := "ref.go:301", after := #[{ on := 5, ground := Ground.data }, { on := 10, ground := Ground.gcOnly Departure.lateStores }], guard := none }) (v := ?_) rfl (by kernel_rfl) (by kernel_rfl) (by kernel_rfl) (by kernel_rfl) (fun _ _ _ h => h) (Or.inl ⟨by rfl, fun w _ => ?_⟩) ?_
                      rotate_left
                      · (go_simp; first | done | with_reducible rfl)
                      try simp only [Act.put, List.setIfInBounds_toArray, List.set_cons_zero, List.set_cons_succ]
                      refine wpAnyW_take (i := 7) (oi := { dst := some 163, op := Op.fieldAddr 70 (Operand.tmp 162) 1, type := 0, pos := "ref.go:301", after := #[{ on := 6, ground := Ground.data }, { on := 10, ground := Ground.gcOnly Departure.lateStores }], guard := none }) (v := ?_) rfl (by kernel_rfl) (by kernel_rfl) (by kernel_rfl) (by kernel_rfl) (fun _ _ _ h => h) (Or.inl ⟨by rfl, fun w _ => ?_⟩) ?_
                      rotate_left
                      · (go_simp; first | done | with_reducible rfl)
                      try simp only [Act.put, List.setIfInBounds_toArray, List.set_cons_zero, List.set_cons_succ]
                      refine wpAnyW_load (i := 8) (oi := { dst := some 164, op := Op.load 3 (Operand.tmp 163), type := 3, pos := "ref.go:301", after := #[{ on := 7, ground := Ground.data }, { on := 10, ground := Ground.gcOnly Departure.lateStores }], guard := none }) (v := ?_) rfl (by kernel_rfl) (by kernel_rfl) (by kernel_rfl) (by kernel_rfl) (by kernel_rfl) (fun _ _ _ h => h) (Or.inl ⟨by rfl, fun w hS => ?_⟩) (HSS.out _ (HC.out.bw (by repeat (first | exact Bw.refl _ | apply Bw.alloc | apply Bw.drewN | apply Bw.drew)))) ?_
                      rotate_left
                      · (obtain ⟨s0, s1⟩ := hS; go_simp; first | done | with_reducible rfl)
                      try simp only [Act.put, List.setIfInBounds_toArray, List.set_cons_zero, List.set_cons_succ]
                      refine wpAnyW_ready (rs := [9]) (by kernel_rfl) (by simp) ?_
                      refine (AllReadyW.cons (o := { dst := none, op := Op.store 26 (Operand.tmp 2) (Operand.tmp 156), type := 0, pos := "ref.go:301", after := #[{ on := 0, ground := Ground.data }, { on := 0, ground := Ground.phase }, { on := 1, ground := Ground.textOnly Departure.lateStores }, { on := 2, ground := Ground.textOnly Departure.lateStores }, { on := 3, ground := Ground.textOnly Departure.lateStores }, { on := 4, ground := Ground.textOnly Departure.lateStores }, { on := 5, ground := Ground.textOnly Departure.lateStores }, { on := 6, ground := Ground.textOnly Departure.lateStores }, { on := 7, ground := Ground.textOnly Departure.lateStores }, { on := 8, ground := Ground.textOnly Departure.lateStores }], guard := none }) rfl (fun K hK => ?_) AllReadyW.nil)
                      go_simp
                      refine hK.out _ _ (HSF.out _) ?_
                      clear hK K
                      try simp only [Act.put, List.setIfInBounds_toArray, List.set_cons_zero, List.set_cons_succ]
                      refine wpAnyW_take (i := 10) (oi := { dst := some 3, op := Op.assign (Operand.tmp 160), type := 3, pos := "ref.go:301", after := #[{ on := 4, ground := Ground.data }, { on := 9, ground := Ground.chain }, { on := 0, ground := Ground.phase }, { on := 1, ground := Ground.phase }, { on := 2, ground := Ground.phase }, { on := 3, ground := Ground.phase }, { on := 4, ground := Ground.phase }, { on := 5, ground := Ground.textOnly Departure.lateStores }, { on := 6, ground := Ground.textOnly Departure.lateStores }, { on := 7, ground := Ground.textOnly Departure.lateStores }, { on := 8, ground := Ground.textOnly Departure.lateStores }, { on := 9, ground := Ground.phase }], guard := none }) (v := ?_) rfl (by kernel_rfl) (by kernel_rfl) (by kernel_rfl) (by kernel_rfl) (fun _ _ _ h => h) (Or.inl ⟨by rfl, fun w _ => ?_⟩) ?_
                      rotate_left
                      · (go_simp; first | done | with_reducible rfl)
                      try simp only [Act.put, List.setIfInBounds_toArray, List.set_cons_zero, List.set_cons_succ]
                      refine wpAnyW_take (i := 11) (oi := { dst := some 4, op := Op.assign (Operand.tmp 164), type := 3, pos := "ref.go:301", after := #[{ on := 8, ground := Ground.data }, { on := 10, ground := Ground.chain }, { on := 0, ground := Ground.phase }, { on := 1, ground := Ground.phase }, { on := 2, ground := Ground.phase }, { on := 3, ground := Ground.phase }, { on := 4, ground := Ground.phase }, { on := 5, ground := Ground.phase }, { on := 6, ground := Ground.phase }, { on := 7, ground := Ground.phase }, { on := 8, ground := Ground.phase }, { on := 9, ground := Ground.phase }, { on := 10, ground := Ground.phase }], guard := none }) (v := ?_) rfl (by kernel_rfl) (by kernel_rfl) (by kernel_rfl) (by kernel_rfl) (fun _ _ _ h => h) (Or.inl ⟨by rfl, fun w _ => ?_⟩) ?_
                      rotate_left
                      · (go_simp; first | done | with_reducible rfl)
                      try simp only [Act.put, List.setIfInBounds_toArray, List.set_cons_zero, List.set_cons_succ]
                      refine wpAnyW_done (by kernel_rfl) ?_ _
                      go_wp2
                      all_goals
                        refine bodyPost_ret (v := .tuple #[.agg #[.slice none 0 0, .slice none 0 0, .slice none 0 0, .int .i64 0], .int .i64 ((L5.2.1, 6) : St).2, .int .i64 ((L5.2.1, 6) : St).1]) (by simp [results, Tryd.results11, go_sem, bfc]) rfl ?_
                        exact FDP.bad (HBF.out _) HDS.out HDN.out
                    · have hlt2 : ¬ (L5.2.1 : Int) < (b.length : Int) := by omega
                      have h0c : ((L5.2.2 : Int) != 0) = false := by simp [h0]
                      have HDS := hid (show decS b = L5.2 from by rw [HVS.out]; unfold endS; rw [if_neg hlt])
                      have HDI := hid (HVI.out (by rw [HDS.out]; exact h0))
                      have HE5 := hid h0
                      have HLE := hid (show L5.2.1 = b.length by omega)
                      have yc := HC.out.bl.cell
                      have ycl := HC.out.bl.lt
                      have z := HC.out.rs.cell
                      have zf := HC.out.rs.free
                      have zl := HC.out.rs.lt
                      have HKF := hid (((((Kp.refl w.heap.size wr).set 0 (.slice a5 ms5.length c5)).set 1 (.slice a3 ms3.length c3)).set 2 (.slice a4 ms4.length c4)).set 3 (.int .i64 x3))
                      have bfc := ((((HC.out.rs.set 0 (.slice a5 ms5.length c5)).set 1 (.slice a3 ms3.length c3)).set 2 (.slice a4 ms4.length c4)).set 3 (.int .i64 x3)).cell
                      have HFIN := hid (show FDP w b (.returned (.tuple #[.agg #[.slice a5 ms5.length c5, .slice a3 ms3.length c3, .slice a4 ms4.length c4, .int .i64 x3], .int .i64 0, .int .i64 b.length])) ((((wr.setCell ⟨w.heap.size, 0, none⟩ (.slice a5 ms5.length c5)).setCell ⟨w.heap.size, 1, none⟩ (.slice a3 ms3.length c3)).setCell ⟨w.heap.size, 2, none⟩ (.slice a4 ms4.length c4)).setCell ⟨w.heap.size, 3, none⟩ (.int .i64 x3)) from by
                        have z5 := HE5.out
                        have zn := ZZ5.out z5
                        have z4 := ZZN.out zn
                        have z3 := ZZ4.out z4
                        refine ⟨(HC.out.kp.two HKF.out (Nat.le_refl _)).toBw (Nat.le_of_lt HRB.out), .slice a5 ms5.length c5, .slice a3 ms3.length c3, .slice a4 ms4.length c4, ?_, ?_⟩
                        · rw [HDI.out, HDS.out, HE5.out, HLE.out]; rfl
                        · rw [HDI.out]
                          have hrb := HRB.out
                          exact ⟨⟨ms5, E5.out z5, RFs.fin HL5.out HKF.out (by omega) (by omega)⟩, by rw [← E3.out z3]; exact HL3.out.fin HKF.out (by omega) (by omega), ⟨ms4, E4.out z4, RKs.fin HL4.out HKF.out (by omega) (by omega)⟩, HIX.out⟩)
                      clear hatl hlt h0
                      go_wp2
                      all_goals
                        refine bodyPost_ret (v := .tuple #[.agg #[.slice a5 ms5.length c5, .slice a3 ms3.length c3, .slice a4 ms4.length c4, .int .i64 x3], .int .i64 0, .int .i64 b.length]) (by simp [results, Tryd.results11, go_sem, bfc]) rfl ?_
                        exact HFIN.out
                  · have HBAD := hid h0
                    have HDS := hid (show decS b = L5.2 from by rw [HVS.out]; unfold endS; split <;> simp [failS, h0])
                    have y := HC.out.fb.k.cell
                    have yl := HC.out.fb.k.lt
                    clear h0
                    have hbx : ((L5.2.2 : Int) != 0) = true := by simp [HBAD.out]
                    have hbe : ((L5.2.2 : Int) == 0) = false := by simp [HBAD.out]
                    have HDN := hid (HVN.out (by rw [HDS.out]; exact HBAD.out))
                    have HSS := hid (show ∀ wx, CI w.heap.size wm.heap.size (wm.heap.size + 1) w.heap.size (.slice (some ⟨g, o, none⟩) b.length cap) b 26 w wx L5.2 #[.slice a5 ms5.length c5, .slice a3 ms3.length c3, .slice a4 ms4.length c4, .int .i64 x3] #[.slice none 0 0, .slice none 0 0, .slice none 0 0, .int .i64 0] → wx.cell? ⟨wm.heap.size, 1, none⟩ = some (.int .i64 L5.2.1) ∧ wx.cell? ⟨wm.heap.size, 2, none⟩ = some (.int .i64 L5.2.2) from fun wx hx => ⟨hx.fb.k.cell 1, hx.fb.k.cell 2⟩)
                    have HKF := hid (((((Kp.refl w.heap.size wr).set 0 (.slice none 0 0)).set 1 (.slice none 0 0)).set 2 (.slice none 0 0)).set 3 (.int .i64 0))
                    have HSF := hid (show ∀ m : Nat, (((((wr.setCell ⟨w.heap.size, 0, none⟩ (.slice none 0 0)).setCell ⟨w.heap.size, 1, none⟩ (.slice none 0 0)).setCell ⟨w.heap.size, 2, none⟩ (.slice none 0 0)).setCell ⟨w.heap.size, 3, none⟩ (.int .i64 0)).drewN m).cell? ⟨wm.heap.size, 1, none⟩ = some (.int .i64 L5.2.1) ∧ (((((wr.setCell ⟨w.heap.size, 0, none⟩ (.slice none 0 0)).setCell ⟨w.heap.size, 1, none⟩ (.slice none 0 0)).setCell ⟨w.heap.size, 2, none⟩ (.slice none 0 0)).setCell ⟨w.heap.size, 3, none⟩ (.int .i64 0)).drewN m).cell? ⟨wm.heap.size, 2, none⟩ = some (.int .i64 L5.2.2) from fun m => by
                      have hx := (HC.out.fb.kpo HKF.out (Ne.symm HC.out.rr) (Nat.le_refl _)).k
                      exact ⟨(hx.drewN m).cell 1, (hx.drewN m).cell 2⟩)
                    have z := HC.out.rs.cell
                    have zf := HC.out.rs.free
                    have zl := HC.out.rs.lt
                    have bfc := ((((HC.out.rs.set 0 (.slice none 0 0)).set 1 (.slice none 0 0)).set 2 (.slice none 0 0)).set 3 (.int .i64 0)).cell
                    have HBF := hid (show ∀ m : Nat, Bw w (((((wr.setCell ⟨w.heap.size, 0, none⟩ (.slice none 0 0)).setCell ⟨w.heap.size, 1, none⟩ (.slice none 0 0)).setCell ⟨w.heap.size, 2, none⟩ (.slice none 0 0)).setCell ⟨w.heap.size, 3, none⟩ (.int .i64 0)).drewN m) from fun m => ((HC.out.kp.two HKF.out (Nat.le_refl _)).toBw (Nat.le_of_lt HRB.out)).drewN m)
                    go_upto_region 30 with fail
                    refine wp_region_W (fun w' => w'.cell? ⟨wm.heap.size, 1, none⟩ = some (.int .i64 L5.2.1) ∧ w'.cell? ⟨wm.heap.size, 2, none⟩ = some (.int .i64 L5.2.2)) (fun j => if j == 9 then 0 else 1) (by kernel_rfl) ?_
                    refine wpAnyW_take (i := 0) (oi := { dst := some 156, op := Op.build 26 #[], type := 26, pos := "ref.go:301", after := #[], guard := none }) (v := ?_) rfl (by kernel_rfl) (by kernel_rfl) (by kernel_rfl) (by kernel_rfl) (fun _ _ _ h => h) (Or.inl ⟨by rfl, fun w _ => ?_⟩) ?_
                    rotate_left
                    · (go_simp; first | done | with_reducible rfl)
                    try simp only [Act.put, List.setIfInBounds_toArray, List.set_cons_zero, List.set_cons_succ]
                    refine wpAnyW_take (i := 1) (oi := { dst := some 157, op := Op.move (Operand.tmp 7), type := 68, pos := "ref.go:301", after := #[{ on := 9, ground := Ground.gcOnly Departure.lateStores }], guard := none }) (v := ?_) rfl (by kernel_rfl) (by kernel_rfl) (by kernel_rfl) (by kernel_rfl) (fun _ _ _ h => h) (Or.inl ⟨by rfl, fun w _ => ?_⟩) ?_
                    rotate_left
                    · (go_simp; first | done | with_reducible rfl)
                    try simp only [Act.put, List.setIfInBounds_toArray, List.set_cons_zero, List.set_cons_succ]
                    refine wpAnyW_take (i := 2) (oi := { dst := some 158, op := Op.nilCheck (Operand.tmp 157), type := 0, pos := "ref.go:301", after := #[{ on := 1, ground := Ground.data }, { on := 9, ground := Ground.gcOnly Departure.lateStores }], guard := none }) (v := ?_) rfl (by kernel_rfl) (by kernel_rfl) (by kernel_rfl) (by kernel_rfl) (fun _ _ _ h => h) (Or.inl ⟨by rfl, fun w _ => ?_⟩) ?_
                    rotate_left
                    · (go_simp; first | done | with_reducible rfl)
                    try simp only [Act.put, List.setIfInBounds_toArray, List.set_cons_zero, List.set_cons_succ]
                    refine wpAnyW_take (i := 3) (oi := { dst := some 159, op := Op.fieldAddr 70 (Operand.tmp 158) 2, type := 0, pos := "ref.go:301", after := #[{ on := 2, ground := Ground.data }, { on := 9, ground := Ground.gcOnly Departure.lateStores }], guard := none }) (v := ?_) rfl (by kernel_rfl) (by kernel_rfl) (by kernel_rfl) (by kernel_rfl) (fun _ _ _ h => h) (Or.inl ⟨by rfl, fun w _ => ?_⟩) ?_
                    rotate_left
                    · (go_simp; first | done | with_reducible rfl)
                    try simp only [Act.put, List.setIfInBounds_toArray, List.set_cons_zero, List.set_cons_succ]
                    refine wpAnyW_load (i := 4) (oi := { dst := some 160, op := Op.load 3 (Operand.tmp 159), type := 3, pos := "ref.go:301", after := #[{ on := 3, ground := Ground.data }, { on := 9, ground := Ground.gcOnly Departure.lateStores }], guard := none }) (v := ?_) rfl (by kernel_rfl) (by kernel_rfl) (by kernel_rfl) (by kernel_rfl) (by kernel_rfl) (fun _ _ _ h => h) (Or.inl ⟨by rfl, fun w hS => ?_⟩) (HSS.out _ (HC.out.bw (by repeat (first | exact Bw.refl _ | apply Bw.alloc | apply Bw.drewN | apply Bw.drew)))) ?_
                    rotate_left
                    · (obtain ⟨s0, s1⟩ := hS; go_simp; first | done | with_reducible rfl)
                    try simp only [Act.put, List.setIfInBounds_toArray, List.set_cons_zero, List.set_cons_succ]
                    refine wpAnyW_take (i := 5) (oi := { dst := some 161, op := Op.move (Operand.tmp 7), type := 68, pos := "ref.go:301", after := #[{ on := 10, ground := Ground.gcOnly Departure.lateStores }], guard := none }) (v := ?_) rfl (by kernel_rfl) (by kernel_rfl) (by kernel_rfl) (by kernel_rfl) (fun _ _ _ h => h) (Or.inl ⟨by rfl, fun w _ => ?_⟩) ?_
                    rotate_left
                    · (go_simp; first | done | with_reducible rfl)
                    try simp only [Act.put, List.setIfInBounds_toArray, List.set_cons_zero, List.set_cons_succ]
                    refine wpAnyW_take (i := 6) (oi := { dst := some 162, op := Op.nilCheck (Operand.tmp 161), type := 0, pos := "ref.go:301", after := #[{ on := 5, ground := Ground.data }, { on := 10, ground := Ground.gcOnly Departure.lateStores }], guard := none }) (v := ?_) rfl (by kernel_rfl) (by kernel_rfl) (by kernel_rfl) (by kernel_rfl) (fun _ _ _ h => h) (Or.inl ⟨by rfl, fun w _ => ?_⟩) ?_
                    rotate_left
                    · (go_simp; first | done | with_reducible rfl)
                    try simp only [Act.put, List.setIfInBounds_toArray, List.set_cons_zero, List.set_cons_succ]
                    refine wpAnyW_take (i := 7) (oi := { dst := some 163, op := Op.fieldAddr 70 (Operand.tmp 162) 1, type := 0, pos := "ref.go:301", after := #[{ on := 6, ground := Ground.data }, { on := 10, ground := Ground.gcOnly Departure.lateStores }], guard := none }) (v := ?_) rfl (by kernel_rfl) (by kernel_rfl) (by kernel_rfl) (by kernel_rfl) (fun _ _ _ h => h) (Or.inl ⟨by rfl, fun w _ => ?_⟩) ?_
                    rotate_left
                    · (go_simp; first | done | with_reducible rfl)
                    try simp only [Act.put, List.setIfInBounds_toArray, List.set_cons_zero, List.set_cons_succ]
                    refine wpAnyW_load (i := 8) (oi := { dst := some 164, op := Op.load 3 (Operand.tmp 163), type := 3, pos := "ref.go:301", after := #[{ on := 7, ground := Ground.data }, { on := 10, ground := Ground.gcOnly Departure.lateStores }], guard := none }) (v := ?_) rfl (by kernel_rfl) (by kernel_rfl) (by kernel_rfl) (by kernel_rfl) (by kernel_rfl) (fun _ _ _ h => h) (Or.inl ⟨by rfl, fun w hS => ?_⟩) (HSS.out _ (HC.out.bw (by repeat (first | exact Bw.refl _ | apply Bw.alloc | apply Bw.drewN | apply Bw.drew)))) ?_
                    rotate_left
                    · (obtain ⟨s0, s1⟩ := hS; go_simp; first | done | with_reducible rfl)
                    try simp only [Act.put, List.setIfInBounds_toArray, List.set_cons_zero, List.set_cons_succ]
                    refine wpAnyW_ready (rs := [9]) (by kernel_rfl) (by simp) ?_
                    refine (AllReadyW.cons (o := { dst := none, op := Op.store 26 (Operand.tmp 2) (Operand.tmp 156), type := 0, pos := "ref.go:301", after := #[{ on := 0, ground := Ground.data }, { on := 0, ground := Ground.phase }, { on := 1, ground := Ground.textOnly Departure.lateStores }, { on := 2, ground := Ground.textOnly Departure.lateStores }, { on := 3, ground := Ground.textOnly Departure.lateStores }, { on := 4, ground := Ground.textOnly Departure.lateStores }, { on := 5, ground := Ground.textOnly Departure.lateStores }, { on := 6, ground := Ground.textOnly Departure.lateStores }, { on := 7, ground := Ground.textOnly Departure.lateStores }, { on := 8, ground := Ground.textOnly Departure.lateStores }], guard := none }) rfl (fun K hK => ?_) AllReadyW.nil)
                    go_simp
                    refine hK.out _ _ (HSF.out _) ?_
                    clear hK K
                    try simp only [Act.put, List.setIfInBounds_toArray, List.set_cons_zero, List.set_cons_succ]
                    refine wpAnyW_take (i := 10) (oi := { dst := some 3, op := Op.assign (Operand.tmp 160), type := 3, pos := "ref.go:301", after := #[{ on := 4, ground := Ground.data }, { on := 9, ground := Ground.chain }, { on := 0, ground := Ground.phase }, { on := 1, ground := Ground.phase }, { on := 2, ground := Ground.phase }, { on := 3, ground := Ground.phase }, { on := 4, ground := Ground.phase }, { on := 5, ground := Ground.textOnly Departure.lateStores }, { on := 6, ground := Ground.textOnly Departure.lateStores }, { on := 7, ground := Ground.textOnly Departure.lateStores }, { on := 8, ground := Ground.textOnly Departure.lateStores }, { on := 9, ground := Ground.phase }], guard := none }) (v := ?_) rfl (by kernel_rfl) (by kernel_rfl) (by kernel_rfl) (by kernel_rfl) (fun _ _ _ h => h) (Or.inl ⟨by rfl, fun w _ => ?_⟩) ?_
                    rotate_left
                    · (go_simp; first | done | with_reducible rfl)
                    try simp only [Act.put, List.setIfInBounds_toArray, List.set_cons_zero, List.set_cons_succ]
                    refine wpAnyW_take (i := 11) (oi := { dst := some 4, op := Op.assign (Operand.tmp 164), type := 3, pos := "ref.go:301", after := #[{ on := 8, ground := Ground.data }, { on := 10, ground := Ground.chain }, { on := 0, ground := Ground.phase }, { on := 1, ground := Ground.phase }, { on := 2, ground := Ground.phase }, { on := 3, ground := Ground.phase }, { on := 4, ground := Ground.phase }, { on := 5, ground := Ground.phase }, { on := 6, ground := Ground.phase }, { on := 7, ground := Ground.phase }, { on := 8, ground := Ground.phase }, { on := 9, ground := Ground.phase }, { on := 10, ground := Ground.phase }], guard := none }) (v := ?_) rfl (by kernel_rfl) (by kernel_rfl) (by kernel_rfl) (by kernel_rfl) (fun _ _ _ h => h) (Or.inl ⟨by rfl, fun w _ => ?_⟩) ?_
                    rotate_left
                    · (go_simp; first | done | with_reducible rfl)
                    try simp only [Act.put, List.setIfInBounds_toArray, List.set_cons_zero, List.set_cons_succ]
                    refine wpAnyW_done (by kernel_rfl) ?_ _
                    go_wp2
                    all_goals
                      refine bodyPost_ret (v := .tuple #[.agg #[.slice none 0 0, .slice none 0 0, .slice none 0 0, .int .i64 0], .int .i64 L5.2.2, .int .i64 L5.2.1]) (by simp [results, Tryd.results11, go_sem, bfc]) rfl ?_
                      exact FDP.bad (HBF.out _) HDS.out HDN.out
                · obtain ⟨k, rfl⟩ : ∃ q, k = q + 1 := ⟨k - 1, by omega⟩
                  clear hkz
                  have hk0 : (0 : Int) < ((k + 1 : Nat) : Int) := by omega
                  by_cases hf : s'.2 = 0
                  · have hf2 : ((s'.2 : Int) == 0) = true := by simp [hf]
                    have HF0 := hid hf
                    have hkm : ((k + 1 : Nat) : Int) - 1 = (k : Int) := by omega
                    have hkb : k ≤ 9223372036854775807 := by have := HML.out; omega
                    obtain ⟨i1, hi1, hz1, hs1, hy1⟩ := info_parts infoEF
                    have I1 := hid (And.intro hi1 (And.intro hz1 (And.intro hs1 hy1)))
                    clear hi1 hz1 hs1 hy1 hf
                    have HCL2 := hid (show ∀ wx sx, CI w.heap.size wm.heap.size (wm.heap.size + 1) w.heap.size (.slice (some ⟨g, o, none⟩) b.length cap) b 26 w wx sx #[.slice a5 ms5.length c5, .slice a3 ms3.length c3, .slice a4 ms4.length c4, .int .i64 x3] #[.slice none 0 0, .slice none 0 0, .slice none 0 0, .int .i64 0] → wx.cell? ⟨(wm.heap.size + 1), 0, none⟩ = some (.slice a5 ms5.length c5) from fun wx sx hx => hx.bl.cell 0)
                    go_upto_region 26 with fail
                    refine wp_region_W (fun w' => w'.cell? ⟨(wm.heap.size + 1), 0, none⟩ = some (.slice a5 ms5.length c5)) (fun j => if j == 3 || j == 4 || j == 5 then 0 else if j == 7 then 2 else 1) (by kernel_rfl) ?_
                    refine wpAnyW_take (i := 0) (oi := { dst := some 124, op := Op.fieldAddr 26 (Operand.tmp 8) 0, type := 0, pos := "ref.go:295", after := #[], guard := none }) (v := ?_) rfl (by kernel_rfl) (by kernel_rfl) (by kernel_rfl) (by kernel_rfl) (fun _ _ _ h => h) (Or.inl ⟨by rfl, fun w _ => ?_⟩) ?_
                    rotate_left
                    · (go_simp; first | done | with_reducible rfl)
                    try simp only [Act.put, List.setIfInBounds_toArray, List.set_cons_zero, List.set_cons_succ]
                    refine wpAnyW_load (i := 1) (oi := { dst := some 125, op := Op.load 22 (Operand.tmp 124), type := 22, pos := "ref.go:295", after := #[{ on := 0, ground := Ground.data }], guard := none }) (v := ?_) rfl (by kernel_rfl) (by kernel_rfl) (by kernel_rfl) (by kernel_rfl) (by kernel_rfl) (fun _ _ _ h => h) (Or.inl ⟨by rfl, fun w hS => ?_⟩) (HCL2.out _ _ (HC.out.bw (by repeat (first | exact Bw.refl _ | apply Bw.alloc | apply Bw.drewN | apply Bw.drew)))) ?_
                    rotate_left
                    · (skip; go_simp; first | done | with_reducible rfl)
                    try simp only [Act.put, List.setIfInBounds_toArray, List.set_cons_zero, List.set_cons_succ]
                    refine wpAnyW_take (i := 2) (oi := { dst := some 126, op := Op.move (Operand.tmp 7), type := 68, pos := "ref.go:295", after := #[], guard := none }) (v := ?_) rfl (by kernel_rfl) (by kernel_rfl) (by kernel_rfl) (by kernel_rfl) (fun _ _ _ h => h) (Or.inl ⟨by rfl, fun w _ => ?_⟩) ?_
                    rotate_left
                    · (go_simp; first | done | with_reducible rfl)
                    try simp only [Act.put, List.setIfInBounds_toArray, List.set_cons_zero, List.set_cons_succ]
                    refine wpAnyW_ready (rs := [3]) (by kernel_rfl) (by simp) ?_
                    refine (AllReadyW.cons (o := { dst := some 127, op := Op.call { callee := Callee.value (Operand.func 27), args := #[Operand.tmp 126], argTypes := #[68] }, type := 47, pos := "ref.go:295", after := #[{ on := 2, ground := Ground.data }], guard := none }) rfl (fun K hK => ?_) AllReadyW.nil)
                    go_simp
                    refine (ffun_any (HC.out.bw (by repeat (first | exact Bw.refl _ | apply Bw.alloc | apply Bw.drewN | apply Bw.drew))).fb).mono ?_
                    rintro e wq ⟨me, rfl, hve, hle, hr1, hk1⟩
                    rw [HFM.out] at hve hr1
                    have HJ2 := hid (show JL L5 FM k (ms5.map (·.f) ++ [me.f]) (FM s').2 from HE.out.step HF0.out rfl hve)
                    obtain ⟨mf, mb, mc, mo, mt⟩ := me
                    obtain ⟨b1, k1, eb⟩ := hle.b.form
                    obtain ⟨b2, k2, ec⟩ := hle.c.form
                    obtain ⟨b3, k3, eo⟩ := hle.o.form
                    obtain ⟨b4, k4, et⟩ := hle.t.form
                    simp only at eb ec eo et HJ2 hve
                    subst eb ec eo et
                    have HFR := hid (HLI.out.fresh (w1 := wq) (m := (⟨mf, .slice b1 mf.boxes.length k1, .slice b2 mf.caps.length k2, .slice b3 mf.code.length k3, .slice b4 mf.tries.length k4⟩ : MFn)) keepF (KeepOk.low keepF hle) HOL.out.size)
                    replace HC := hid ((HC.out.bw (by repeat (first | exact Bw.refl _ | apply Bw.alloc | apply Bw.drewN | apply Bw.drew))).kpn hk1 hr1)
                    replace HLI := hid ((HLI.out.bw keepF (by repeat (first | exact Bw.refl _ | apply Bw.alloc | apply Bw.drewN | apply Bw.drew))).kp keepF hk1 HWB.out.1)
                    replace HOL := hid ((HOL.out.bw (by repeat (first | exact Bw.refl _ | apply Bw.alloc | apply Bw.drewN | apply Bw.drew))).kp hk1)
                    clear hr1 hk1 hve hle
                    refine hK.out _ _ (HCL2.out _ _ HC.out) ?_
                    clear hK K
                    try simp only [Act.put, List.setIfInBounds_toArray, List.set_cons_zero, List.set_cons_succ]
                    refine wpAnyW_ready (rs := [4]) (by kernel_rfl) (by simp) ?_
                    refine (AllReadyW.cons (o := { dst := some 128, op := Op.buildSlice 22 1 #[(0, Operand.tmp 127)], type := 22, pos := "ref.go:295", after := #[{ on := 3, ground := Ground.data }], guard := none }) rfl (fun K hK => ?_) AllReadyW.nil)
                    go_simp
                    refine hK.out _ _ (HCL2.out _ _ (HC.out.bw (by repeat (first | exact Bw.refl _ | apply Bw.alloc | apply Bw.drewN | apply Bw.drew)))) ?_
                    clear hK K
                    try simp only [Act.put, List.setIfInBounds_toArray, List.set_cons_zero, List.set_cons_succ]
                    refine wpAnyW_ready (rs := [5]) (by kernel_rfl) (by simp) ?_
                    refine (AllReadyW.cons (o := { dst := some 129, op := Op.call { callee := Callee.builtin Builtin.append, args := #[Operand.tmp 125, Operand.tmp 128], argTypes := #[22, 22] }, type := 22, pos := "ref.go:295", after := #[{ on := 1, ground := Ground.data }, { on := 4, ground := Ground.data }, { on := 3, ground := Ground.chain }], guard := none }) rfl (fun K hK => ?_) AllReadyW.nil)
                    refine step_append_row (by rfl) (.tmp 125) (.tmp 128) 22 (by rfl) 47 i1 (.agg #[.int .i64 0, .int .i64 0, .slice none 0 0, .slice none 0 0, .slice none 0 0, .slice none 0 0]) 6 112 undLF I1.out.1 I1.out.2.1 I1.out.2.2.1 I1.out.2.2.2 (by rfl) (by decide) (.slice a5 ms5.length c5) ms5.length (ms5.flatMap fnC) (by rfl) (HLI.out.bw keepF (by repeat (first | exact Bw.refl _ | apply Bw.alloc | apply Bw.drewN | apply Bw.drew))).own ⟨wq.heap.size, 0, none⟩ 1 1 ((fnC : MFn → List Value) (⟨mf, .slice b1 mf.boxes.length k1, .slice b2 mf.caps.length k2, .slice b3 mf.code.length k3, .slice b4 mf.tries.length k4⟩ : MFn)) (by rfl) (by rfl) ?c1 ?c2 (by have := HLN.out; have := HCB.out; have := HML.out; unfold maxLen; omega) (by have := HLN.out; have := HCB.out; have := HML.out; omega) ?_
                    case c1 =>
                      intro jx u hj
                      have hb0 := (Blk.new wq #[.int .i64 mf.params, .int .i64 mf.slots, .slice b1 mf.boxes.length k1, .slice b2 mf.caps.length k2, .slice b3 mf.code.length k3, .slice b4 mf.tries.length k4] 47).cell jx
                      rw [addr_add, ← hj]
                      exact hb0.trans (by simp [fnC])
                    case c2 => intro u hu; simp [fnC] at hu; rcases hu with rfl | rfl | rfl | rfl | rfl | rfl <;> rfl
                    intro l4 w4 hown hgr hnew
                    obtain ⟨a9, c9, e9⟩ := own_form hown
                    subst e9
                    obtain ⟨p1, p2, p3, p4⟩ := push3 HC.out HLI.out HOL.out keepF HWB.out.1 HWB.out.2.1 HWB.out.2.2.1 HWB.out.2.2.2 HFR.out (by repeat (first | exact Bw.refl _ | apply Bw.alloc | apply Bw.drewN | apply Bw.drew)) hgr hown (by simpa only [World.size_alloc] using hnew) 0
                    have y4 := p1.bl.cell
                    have yf4 := p1.bl.free
                    have yl4 := p1.bl.lt
                    have HC3 := hid (show CI w.heap.size wm.heap.size (wm.heap.size + 1) w.heap.size (.slice (some ⟨g, o, none⟩) b.length cap) b 26 w (w4.setCell ⟨(wm.heap.size + 1), 0, none⟩ (.slice a9 (ms5.length + 1) c9)) (FM s').2 #[.slice a9 (ms5.length + 1) c9, .slice a3 ms3.length c3, .slice a4 ms4.length c4, .int .i64 x3] #[.slice none 0 0, .slice none 0 0, .slice none 0 0, .int .i64 0] from by simpa using p2)
                    have HLI3 := hid p3
                    have HOL3 := hid p4
                    clear hown hgr hnew p1 p2 p3 p4
                    refine hK.out _ _ (y4 0) ?_
                    clear hK K
                    try simp only [Act.put, List.setIfInBounds_toArray, List.set_cons_zero, List.set_cons_succ]
                    refine wpAnyW_take (i := 6) (oi := { dst := some 130, op := Op.fieldAddr 26 (Operand.tmp 8) 0, type := 0, pos := "ref.go:295", after := #[{ on := 0, ground := Ground.phase }, { on := 1, ground := Ground.phase }, { on := 2, ground := Ground.phase }, { on := 3, ground := Ground.phase }, { on := 4, ground := Ground.phase }, { on := 5, ground := Ground.phase }], guard := none }) (v := ?_) rfl (by kernel_rfl) (by kernel_rfl) (by kernel_rfl) (by kernel_rfl) (fun _ _ _ h => h) (Or.inl ⟨by rfl, fun w _ => ?_⟩) ?_
                    rotate_left
                    · (go_simp; first | done | with_reducible rfl)
                    try simp only [Act.put, List.setIfInBounds_toArray, List.set_cons_zero, List.set_cons_succ]
                    refine wpAnyW_ready (rs := [7]) (by kernel_rfl) (by simp) ?_
                    refine (AllReadyW.cons (o := { dst := none, op := Op.store 22 (Operand.tmp 130) (Operand.tmp 129), type := 0, pos := "ref.go:295", after := #[{ on := 6, ground := Ground.data }, { on := 5, ground := Ground.data }, { on := 5, ground := Ground.chain }, { on := 0, ground := Ground.phase }, { on := 1, ground := Ground.phase }, { on := 2, ground := Ground.phase }, { on := 3, ground := Ground.phase }, { on := 4, ground := Ground.phase }, { on := 5, ground := Ground.phase }], guard := none }) rfl (fun K hK => ?_) AllReadyW.nil)
                    go_simp
                    refine hK.out _ _ trivial ?_
                    clear hK K
                    try simp only [Act.put, List.setIfInBounds_toArray, List.set_cons_zero, List.set_cons_succ]
                    refine wpAnyW_done (by kernel_rfl) ?_ _
                    go_wp2
                    go_roundw
                    case rel => exact ⟨k, ms5 ++ [(⟨mf, .slice b1 mf.boxes.length k1, .slice b2 mf.caps.length k2, .slice b3 mf.code.length k3, .slice b4 mf.tries.length k4⟩ : MFn)], _, _, by go_num, by have := HML.out; simp; omega, HLI3.out, by rw [List.map_append]; exact HJ2.out, HC3.out, HOL3.out⟩
                    case measure => simp [intOf]
                  · have hf2 : ((s'.2 : Int) == 0) = false := by simp [hf]
                    have HZ := hid (HE.out.bad hf)
                    have HBAD0 := hid hf
                    clear hf
                    have hz := HZ.out
                    subst hz
                    have E5 := hid (show L5.2.2 = 0 → ms5.map (·.f) = L5.1 from fun h0 => absurd h0 HBAD0.out)
                    replace HL3 := hid (RL.ol HL3.out HOL.out)
                    replace HL4 := hid (RKs.ol HL4.out HOL.out)
                    have HL5 := hid (RFs.up (cb := (wm.heap.size + 1)) (r := wm.heap.size) (LI.rlF HLI.out (by have := HLN.out; have := HCB.out; have := HML.out; unfold maxLen; omega)) HWB.out.2.1 HWB.out.1)
                    clear HLI HE HOL HZ HCB HJ
                    have HBAD := hid (show L5.2.2 ≠ 0 from HBAD0.out)
                    have HDS := hid (show decS b = L5.2 from by rw [HVS.out]; unfold endS; split <;> simp [failS, HBAD.out])
                    have y := HC.out.fb.k.cell
                    have yl := HC.out.fb.k.lt
                    have hbx : ((L5.2.2 : Int) != 0) = true := by simp [HBAD.out]
                    have hbe : ((L5.2.2 : Int) == 0) = false := by simp [HBAD.out]
                    have HDN := hid (HVN.out (by rw [HDS.out]; exact HBAD.out))
                    have HSS := hid (show ∀ wx, CI w.heap.size wm.heap.size (wm.heap.size + 1) w.heap.size (.slice (some ⟨g, o, none⟩) b.length cap) b 26 w wx L5.2 #[.slice a5 ms5.length c5, .slice a3 ms3.length c3, .slice a4 ms4.length c4, .int .i64 x3] #[.slice none 0 0, .slice none 0 0, .slice none 0 0, .int .i64 0] → wx.cell? ⟨wm.heap.size, 1, none⟩ = some (.int .i64 L5.2.1) ∧ wx.cell? ⟨wm.heap.size, 2, none⟩ = some (.int .i64 L5.2.2) from fun wx hx => ⟨hx.fb.k.cell 1, hx.fb.k.cell 2⟩)
                    have HKF := hid (((((Kp.refl w.heap.size wr).set 0 (.slice none 0 0)).set 1 (.slice none 0 0)).set 2 (.slice none 0 0)).set 3 (.int .i64 0))
                    have HSF := hid (show ∀ m : Nat, (((((wr.setCell ⟨w.heap.size, 0, none⟩ (.slice none 0 0)).setCell ⟨w.heap.size, 1, none⟩ (.slice none 0 0)).setCell ⟨w.heap.size, 2, none⟩ (.slice none 0 0)).setCell ⟨w.heap.size, 3, none⟩ (.int .i64 0)).drewN m).cell? ⟨wm.heap.size, 1, none⟩ = some (.int .i64 L5.2.1) ∧ (((((wr.setCell ⟨w.heap.size, 0, none⟩ (.slice none 0 0)).setCell ⟨w.heap.size, 1, none⟩ (.slice none 0 0)).setCell ⟨w.heap.size, 2, none⟩ (.slice none 0 0)).setCell ⟨w.heap.size, 3, none⟩ (.int .i64 0)).drewN m).cell? ⟨wm.heap.size, 2, none⟩ = some (.int .i64 L5.2.2) from fun m => by
                      have hx := (HC.out.fb.kpo HKF.out (Ne.symm HC.out.rr) (Nat.le_refl _)).k
                      exact ⟨(hx.drewN m).cell 1, (hx.drewN m).cell 2⟩)
                    have z := HC.out.rs.cell
                    have zf := HC.out.rs.free
                    have zl := HC.out.rs.lt
                    have bfc := ((((HC.out.rs.set 0 (.slice none 0 0)).set 1 (.slice none 0 0)).set 2 (.slice none 0 0)).set 3 (.int .i64 0)).cell
                    have HBF := hid (show ∀ m : Nat, Bw w (((((wr.setCell ⟨w.heap.size, 0, none⟩ (.slice none 0 0)).setCell ⟨w.heap.size, 1, none⟩ (.slice none 0 0)).setCell ⟨w.heap.size, 2, none⟩ (.slice none 0 0)).setCell ⟨w.heap.size, 3, none⟩ (.int .i64 0)).drewN m) from fun m => ((HC.out.kp.two HKF.out (Nat.le_refl _)).toBw (Nat.le_of_lt HRB.out)).drewN m)
                    go_upto_region 30 with fail
                    refine wp_region_W (fun w' => w'.cell? ⟨wm.heap.size, 1, none⟩ = some (.int .i64 L5.2.1) ∧ w'.cell? ⟨wm.heap.size, 2, none⟩ = some (.int .i64 L5.2.2)) (fun j => if j == 9 then 0 else 1) (by kernel_rfl) ?_
                    refine wpAnyW_take (i := 0) (oi := { dst := some 156, op := Op.build 26 #[], type := 26, pos := "ref.go:301", after := #[], guard := none }) (v := ?_) rfl (by kernel_rfl) (by kernel_rfl) (by kernel_rfl) (by kernel_rfl) (fun _ _ _ h => h) (Or.inl ⟨by rfl, fun w _ => ?_⟩) ?_
                    rotate_left
                    · (go_simp; first | done | with_reducible rfl)
                    try simp only [Act.put, List.setIfInBounds_toArray, List.set_cons_zero, List.set_cons_succ]
                    refine wpAnyW_take (i := 1) (oi := { dst := some 157, op := Op.move (Operand.tmp 7), type := 68, pos := "ref.go:301", after := #[{ on := 9, ground := Ground.gcOnly Departure.lateStores }], guard := none }) (v := ?_) rfl (by kernel_rfl) (by kernel_rfl) (by kernel_rfl) (by kernel_rfl) (fun _ _ _ h => h) (Or.inl ⟨by rfl, fun w _ => ?_⟩) ?_
                    rotate_left
                    · (go_simp; first | done | with_reducible rfl)
                    try simp only [Act.put, List.setIfInBounds_toArray, List.set_cons_zero, List.set_cons_succ]
                    refine wpAnyW_take (i := 2) (oi := { dst := some 158, op := Op.nilCheck (Operand.tmp 157), type := 0, pos := "ref.go:301", after := #[{ on := 1, ground := Ground.data }, { on := 9, ground := Ground.gcOnly Departure.lateStores }], guard := none }) (v := ?_) rfl (by kernel_rfl) (by kernel_rfl) (by kernel_rfl) (by kernel_rfl) (fun _ _ _ h => h) (Or.inl ⟨by rfl, fun w _ => ?_⟩) ?_
                    rotate_left
                    · (go_simp; first | done | with_reducible rfl)
                    try simp only [Act.put, List.setIfInBounds_toArray, List.set_cons_zero, List.set_cons_succ]
                    refine wpAnyW_take (i := 3) (oi := { dst := some 159, op := Op.fieldAddr 70 (Operand.tmp 158) 2, type := 0, pos := "ref.go:301", after := #[{ on := 2, ground := Ground.data }, { on := 9, ground := Ground.gcOnly Departure.lateStores }], guard := none }) (v := ?_) rfl (by kernel_rfl) (by kernel_rfl) (by kernel_rfl) (by kernel_rfl) (fun _ _ _ h => h) (Or.inl ⟨by rfl, fun w _ => ?_⟩) ?_
                    rotate_left
                    · (go_simp; first | done | with_reducible rfl)
                    try simp only [Act.put, List.setIfInBounds_toArray, List.set_cons_zero, List.set_cons_succ]
                    refine wpAnyW_load (i := 4) (oi := { dst := some 160, op := Op.load 3 (Operand.tmp 159), type := 3, pos := "ref.go:301", after := #[{ on := 3, ground := Ground.data }, { on := 9, ground := Ground.gcOnly Departure.lateStores }], guard := none }) (v := ?_) rfl (by kernel_rfl) (by kernel_rfl) (by kernel_rfl) (by kernel_rfl) (by kernel_rfl) (fun _ _ _ h => h) (Or.inl ⟨by rfl, fun w hS => ?_⟩) (HSS.out _ (HC.out.bw (by repeat (first | exact Bw.refl _ | apply Bw.alloc | apply Bw.drewN | apply Bw.drew)))) ?_
                    rotate_left
                    · (obtain ⟨s0, s1⟩ := hS; go_simp; first | done | with_reducible rfl)
                    try simp only [Act.put, List.setIfInBounds_toArray, List.set_cons_zero, List.set_cons_succ]
                    refine wpAnyW_take (i := 5) (oi := { dst := some 161, op := Op.move (Operand.tmp 7), type := 68, pos := "ref.go:301", after := #[{ on := 10, ground := Ground.gcOnly Departure.lateStores }], guard := none }) (v := ?_) rfl (by kernel_rfl) (by kernel_rfl) (by kernel_rfl) (by kernel_rfl) (fun _ _ _ h => h) (Or.inl ⟨by rfl, fun w _ => ?_⟩) ?_
                    rotate_left
                    · (go_simp; first | done | with_reducible rfl)
                    try simp only [Act.put, List.setIfInBounds_toArray, List.set_cons_zero, List.set_cons_succ]
                    refine wpAnyW_take (i := 6) (oi := { dst := some 162, op := Op.nilCheck (Operand.tmp 161), type := 0, pos := "ref.go:301", after := #[{ on := 5, ground := Ground.data }, { on := 10, ground := Ground.gcOnly Departure.lateStores }], guard := none }) (v := ?_) rfl (by kernel_rfl) (by kernel_rfl) (by kernel_rfl) (by kernel_rfl) (fun _ _ _ h => h) (Or.inl ⟨by rfl, fun w _ => ?_⟩) ?_
                    rotate_left
                    · (go_simp; first | done | with_reducible rfl)
                    try simp only [Act.put, List.setIfInBounds_toArray, List.set_cons_zero, List.set_cons_succ]
                    refine wpAnyW_take (i := 7) (oi := { dst := some 163, op := Op.fieldAddr 70 (Operand.tmp 162) 1, type := 0, pos := "ref.go:301", after := #[{ on := 6, ground := Ground.data }, { on := 10, ground := Ground.gcOnly Departure.lateStores }], guard := none }) (v := ?_) rfl (by kernel_rfl) (by kernel_rfl) (by kernel_rfl) (by kernel_rfl) (fun _ _ _ h => h) (Or.inl ⟨by rfl, fun w _ => ?_⟩) ?_
                    rotate_left
                    · (go_simp; first | done | with_reducible rfl)
                    try simp only [Act.put, List.setIfInBounds_toArray, List.set_cons_zero, List.set_cons_succ]
                    refine wpAnyW_load (i := 8) (oi := { dst := some 164, op := Op.load 3 (Operand.tmp 163), type := 3, pos := "ref.go:301", after := #[{ on := 7, ground := Ground.data }, { on := 10, ground := Ground.gcOnly Departure.lateStores }], guard := none }) (v := ?_) rfl (by kernel_rfl) (by kernel_rfl) (by kernel_rfl) (by kernel_rfl) (by kernel_rfl) (fun _ _ _ h => h) (Or.inl ⟨by rfl, fun w hS => ?_⟩) (HSS.out _ (HC.out.bw (by repeat (first | exact Bw.refl _ | apply Bw.alloc | apply Bw.drewN | apply Bw.drew)))) ?_
                    rotate_left
                    · (obtain ⟨s0, s1⟩ := hS; go_simp; first | done | with_reducible rfl)
                    try simp only [Act.put, List.setIfInBounds_toArray, List.set_cons_zero, List.set_cons_succ]
                    refine wpAnyW_ready (rs := [9]) (by kernel_rfl) (by simp) ?_
                    refine (AllReadyW.cons (o := { dst := none, op := Op.store 26 (Operand.tmp 2) (Operand.tmp 156), type := 0, pos := "ref.go:301", after := #[{ on := 0, ground := Ground.data }, { on := 0, ground := Ground.phase }, { on := 1, ground := Ground.textOnly Departure.lateStores }, { on := 2, ground := Ground.textOnly Departure.lateStores }, { on := 3, ground := Ground.textOnly Departure.lateStores }, { on := 4, ground := Ground.textOnly Departure.lateStores }, { on := 5, ground := Ground.textOnly Departure.lateStores }, { on := 6, ground := Ground.textOnly Departure.lateStores }, { on := 7, ground := Ground.textOnly Departure.lateStores }, { on := 8, ground := Ground.textOnly Departure.lateStores }], guard := none }) rfl (fun K hK => ?_) AllReadyW.nil)
                    go_simp
                    refine hK.out _ _ (HSF.out _) ?_
                    clear hK K
                    try simp only [Act.put, List.setIfInBounds_toArray, List.set_cons_zero, List.set_cons_succ]
                    refine wpAnyW_take (i := 10) (oi := { dst := some 3, op := Op.assign (Operand.tmp 160), type := 3, pos := "ref.go:301", after := #[{ on := 4, ground := Ground.data }, { on := 9, ground := Ground.chain }, { on := 0, ground := Ground.phase }, { on := 1, ground := Ground.phase }, { on := 2, ground := Ground.phase }, { on := 3, ground := Ground.phase }, { on := 4, ground := Ground.phase }, { on := 5, ground := Ground.textOnly Departure.lateStores }, { on := 6, ground := Ground.textOnly Departure.lateStores }, { on := 7, ground := Ground.textOnly Departure.lateStores }, { on := 8, ground := Ground.textOnly Departure.lateStores }, { on := 9, ground := Ground.phase }], guard := none }) (v := ?_) rfl (by kernel_rfl) (by kernel_rfl) (by kernel_rfl) (by kernel_rfl) (fun _ _ _ h => h) (Or.inl ⟨by rfl, fun w _ => ?_⟩) ?_
                    rotate_left
                    · (go_simp; first | done | with_reducible rfl)
                    try simp only [Act.put, List.setIfInBounds_toArray, List.set_cons_zero, List.set_cons_succ]
                    refine wpAnyW_take (i := 11) (oi := { dst := some 4, op := Op.assign (Operand.tmp 164), type := 3, pos := "ref.go:301", after := #[{ on := 8, ground := Ground.data }, { on := 10, ground := Ground.chain }, { on := 0, ground := Ground.phase }, { on := 1, ground := Ground.phase }, { on := 2, ground := Ground.phase }, { on := 3, ground := Ground.phase }, { on := 4, ground := Ground.phase }, { on := 5, ground := Ground.phase }, { on := 6, ground := Ground.phase }, { on := 7, ground := Ground.phase }, { on := 8, ground := Ground.phase }, { on := 9, ground := Ground.phase }, { on := 10, ground := Ground.phase }], guard := none }) (v := ?_) rfl (by kernel_rfl) (by kernel_rfl) (by kernel_rfl) (by kernel_rfl) (fun _ _ _ h => h) (Or.inl ⟨by rfl, fun w _ => ?_⟩) ?_
                    rotate_left
                    · (go_simp; first | done | with_reducible rfl)
                    try simp only [Act.put, List.setIfInBounds_toArray, List.set_cons_zero, List.set_cons_succ]
                    refine wpAnyW_done (by kernel_rfl) ?_ _
                    go_wp2
                    all_goals
                      refine bodyPost_ret (v := .tuple #[.agg #[.slice none 0 0, .slice none 0 0, .slice none 0 0, .int .i64 0], .int .i64 L5.2.2, .int .i64 L5.2.1]) (by simp [results, Tryd.results11, go_sem, bfc]) rfl ?_
                      exact FDP.bad (HBF.out _) HDS.out HDN.out
            · obtain ⟨k, rfl⟩ : ∃ q, k = q + 1 := ⟨k - 1, by omega⟩
              clear hkz
              have hk0 : (0 : Int) < ((k + 1 : Nat) : Int) := by omega
              by_cases hf : s'.2 = 0
              · have hf2 : ((s'.2 : Int) == 0) = true := by simp [hf]
                have HF0 := hid hf
                have hkm : ((k + 1 : Nat) : Int) - 1 = (k : Int) := by omega
                have hkb : k ≤ 9223372036854775807 := by have := HML.out; omega
                obtain ⟨i1, hi1, hz1, hs1, hy1⟩ := info_parts infoEL
                have I1 := hid (And.intro hi1 (And.intro hz1 (And.intro hs1 hy1)))
                clear hi1 hz1 hs1 hy1 hf
                have HCL2 := hid (show ∀ wx sx, CI w.heap.size wm.heap.size (wm.heap.size + 1) w.heap.size (.slice (some ⟨g, o, none⟩) b.length cap) b 26 w wx sx #[.slice none 0 0, .slice a3 ms3.length c3, .slice a4 ms4.length c4, .int .i64 0] #[.slice none 0 0, .slice none 0 0, .slice none 0 0, .int .i64 0] → wx.cell? ⟨(wm.heap.size + 1), 2, none⟩ = some (.slice a4 ms4.length c4) from fun wx sx hx => hx.bl.cell 2)
                go_upto_region 21 with fail
                refine wp_region_W (fun w' => w'.cell? ⟨(wm.heap.size + 1), 2, none⟩ = some (.slice a4 ms4.length c4)) (fun j => if j == 3 || j == 4 || j == 5 then 0 else if j == 7 then 2 else 1) (by kernel_rfl) ?_
                refine wpAnyW_take (i := 0) (oi := { dst := some 101, op := Op.fieldAddr 26 (Operand.tmp 8) 2, type := 0, pos := "ref.go:291", after := #[], guard := none }) (v := ?_) rfl (by kernel_rfl) (by kernel_rfl) (by kernel_rfl) (by kernel_rfl) (fun _ _ _ h => h) (Or.inl ⟨by rfl, fun w _ => ?_⟩) ?_
                rotate_left
                · (go_simp; first | done | with_reducible rfl)
                try simp only [Act.put, List.setIfInBounds_toArray, List.set_cons_zero, List.set_cons_succ]
                refine wpAnyW_load (i := 1) (oi := { dst := some 102, op := Op.load 24 (Operand.tmp 101), type := 24, pos := "ref.go:291", after := #[{ on := 0, ground := Ground.data }], guard := none }) (v := ?_) rfl (by kernel_rfl) (by kernel_rfl) (by kernel_rfl) (by kernel_rfl) (by kernel_rfl) (fun _ _ _ h => h) (Or.inl ⟨by rfl, fun w hS => ?_⟩) (HCL2.out _ _ (HC.out.bw (by repeat (first | exact Bw.refl _ | apply Bw.alloc | apply Bw.drewN | apply Bw.drew)))) ?_
                rotate_left
                · (skip; go_simp; first | done | with_reducible rfl)
                try simp only [Act.put, List.setIfInBounds_toArray, List.set_cons_zero, List.set_cons_succ]
                refine wpAnyW_take (i := 2) (oi := { dst := some 103, op := Op.move (Operand.tmp 7), type := 68, pos := "ref.go:291", after := #[], guard := none }) (v := ?_) rfl (by kernel_rfl) (by kernel_rfl) (by kernel_rfl) (by kernel_rfl) (fun _ _ _ h => h) (Or.inl ⟨by rfl, fun w _ => ?_⟩) ?_
                rotate_left
                · (go_simp; first | done | with_reducible rfl)
                try simp only [Act.put, List.setIfInBounds_toArray, List.set_cons_zero, List.set_cons_succ]
                refine wpAnyW_ready (rs := [3]) (by kernel_rfl) (by simp) ?_
                refine (AllReadyW.cons (o := { dst := some 104, op := Op.call { callee := Callee.value (Operand.func 25), args := #[Operand.tmp 103], argTypes := #[68] }, type := 42, pos := "ref.go:291", after := #[{ on := 2, ground := Ground.data }], guard := none }) rfl (fun K hK => ?_) AllReadyW.nil)
                go_simp
                refine (flist_any (HC.out.bw (by repeat (first | exact Bw.refl _ | apply Bw.alloc | apply Bw.drewN | apply Bw.drew))).fb).mono ?_
                rintro e wq ⟨ve, mse, rfl, hve, hle, hr1, hk1⟩
                obtain ⟨ae, ce, ee⟩ := hle.form
                subst ee
                have HJ2 := hid (show JL L4 (lM b (nM b)) k (ms4.map (·.1) ++ [mse]) (lM b (nM b) s').2 from HE.out.step HF0.out rfl hve)
                have HFR := hid (HLI.out.fresh (w1 := wq) (m := ((mse, .slice ae mse.length ce) : List Int × Value)) keepL (KeepOk.low keepL hle) HOL.out.size)
                replace HC := hid ((HC.out.bw (by repeat (first | exact Bw.refl _ | apply Bw.alloc | apply Bw.drewN | apply Bw.drew))).kpn hk1 hr1)
                replace HLI := hid ((HLI.out.bw keepL (by repeat (first | exact Bw.refl _ | apply Bw.alloc | apply Bw.drewN | apply Bw.drew))).kp keepL hk1 HWB.out.1)
                replace HOL := hid ((HOL.out.bw (by repeat (first | exact Bw.refl _ | apply Bw.alloc | apply Bw.drewN | apply Bw.drew))).kp hk1)
                clear hr1 hk1 hve hle
                refine hK.out _ _ (HCL2.out _ _ HC.out) ?_
                clear hK K
                try simp only [Act.put, List.setIfInBounds_toArray, List.set_cons_zero, List.set_cons_succ]
                refine wpAnyW_ready (rs := [4]) (by kernel_rfl) (by simp) ?_
                refine (AllReadyW.cons (o := { dst := some 105, op := Op.buildSlice 24 1 #[(0, Operand.tmp 104)], type := 24, pos := "ref.go:291", after := #[{ on := 3, ground := Ground.data }], guard := none }) rfl (fun K hK => ?_) AllReadyW.nil)
                go_simp
                refine hK.out _ _ (HCL2.out _ _ (HC.out.bw (by repeat (first | exact Bw.refl _ | apply Bw.alloc | apply Bw.drewN | apply Bw.drew)))) ?_
                clear hK K
                try simp only [Act.put, List.setIfInBounds_toArray, List.set_cons_zero, List.set_cons_succ]
                refine wpAnyW_ready (rs := [5]) (by kernel_rfl) (by simp) ?_
                refine (AllReadyW.cons (o := { dst := some 106, op := Op.call { callee := Callee.builtin Builtin.append, args := #[Operand.tmp 102, Operand.tmp 105], argTypes := #[24, 24] }, type := 24, pos := "ref.go:291", after := #[{ on := 1, ground := Ground.data }, { on := 4, ground := Ground.data }, { on := 3, ground := Ground.chain }], guard := none }) rfl (fun K hK => ?_) AllReadyW.nil)
                refine step_append_row (by rfl) (.tmp 102) (.tmp 105) 24 (by rfl) 42 i1 (.slice none 0 0) 1 24 undLL I1.out.1 I1.out.2.1 I1.out.2.2.1 I1.out.2.2.2 (by rfl) (by decide) (.slice a4 ms4.length c4) ms4.length (ms4.flatMap (fun m => [m.2])) (by rfl) (HLI.out.bw keepL (by repeat (first | exact Bw.refl _ | apply Bw.alloc | apply Bw.drewN | apply Bw.drew))).own ⟨wq.heap.size, 0, none⟩ 1 1 (((fun m => [m.2]) : List Int × Value → List Value) ((mse, .slice ae mse.length ce) : List Int × Value)) (by rfl) (by rfl) ?c1 ?c2 (by have := HLN.out; have := HCB.out; have := HML.out; unfold maxLen; omega) (by have := HLN.out; have := HCB.out; have := HML.out; omega) ?_
                case c1 =>
                  intro jx u hj
                  have hb0 := (Blk.new wq #[.slice ae mse.length ce] 42).cell jx
                  rw [addr_add, ← hj]
                  exact hb0.trans (by simp [fnC])
                case c2 => intro u hu; simp [fnC] at hu; subst hu; rfl
                intro l4 w4 hown hgr hnew
                obtain ⟨a9, c9, e9⟩ := own_form hown
                subst e9
                obtain ⟨p1, p2, p3, p4⟩ := push3 HC.out HLI.out HOL.out keepL HWB.out.1 HWB.out.2.1 HWB.out.2.2.1 HWB.out.2.2.2 HFR.out (by repeat (first | exact Bw.refl _ | apply Bw.alloc | apply Bw.drewN | apply Bw.drew)) hgr hown (by simpa only [World.size_alloc] using hnew) 2
                have y4 := p1.bl.cell
                have yf4 := p1.bl.free
                have yl4 := p1.bl.lt
                have HC3 := hid (show CI w.heap.size wm.heap.size (wm.heap.size + 1) w.heap.size (.slice (some ⟨g, o, none⟩) b.length cap) b 26 w (w4.setCell ⟨(wm.heap.size + 1), 2, none⟩ (.slice a9 (ms4.length + 1) c9)) (lM b (nM b) s').2 #[.slice none 0 0, .slice a3 ms3.length c3, .slice a9 (ms4.length + 1) c9, .int .i64 0] #[.slice none 0 0, .slice none 0 0, .slice none 0 0, .int .i64 0] from by simpa using p2)
                have HLI3 := hid p3
                have HOL3 := hid p4
                clear hown hgr hnew p1 p2 p3 p4
                refine hK.out _ _ (y4 2) ?_
                clear hK K
                try simp only [Act.put, List.setIfInBounds_toArray, List.set_cons_zero, List.set_cons_succ]
                refine wpAnyW_take (i := 6) (oi := { dst := some 107, op := Op.fieldAddr 26 (Operand.tmp 8) 2, type := 0, pos := "ref.go:291", after := #[{ on := 0, ground := Ground.phase }, { on := 1, ground := Ground.phase }, { on := 2, ground := Ground.phase }, { on := 3, ground := Ground.phase }, { on := 4, ground := Ground.phase }, { on := 5, ground := Ground.phase }], guard := none }) (v := ?_) rfl (by kernel_rfl) (by kernel_rfl) (by kernel_rfl) (by kernel_rfl) (fun _ _ _ h => h) (Or.inl ⟨by rfl, fun w _ => ?_⟩) ?_
                rotate_left
                · (go_simp; first | done | with_reducible rfl)
                try simp only [Act.put, List.setIfInBounds_toArray, List.set_cons_zero, List.set_cons_succ]
                refine wpAnyW_ready (rs := [7]) (by kernel_rfl) (by simp) ?_
                refine (AllReadyW.cons (o := { dst := none, op := Op.store 24 (Operand.tmp 107) (Operand.tmp 106), type := 0, pos := "ref.go:291", after := #[{ on := 6, ground := Ground.data }, { on := 5, ground := Ground.data }, { on := 5, ground := Ground.chain }, { on := 0, ground := Ground.phase }, { on := 1, ground := Ground.phase }, { on := 2, ground := Ground.phase }, { on := 3, ground := Ground.phase }, { on := 4, ground := Ground.phase }, { on := 5, ground := Ground.phase }], guard := none }) rfl (fun K hK => ?_) AllReadyW.nil)
                go_simp
                refine hK.out _ _ trivial ?_
                clear hK K
                try simp only [Act.put, List.setIfInBounds_toArray, List.set_cons_zero, List.set_cons_succ]
                refine wpAnyW_done (by kernel_rfl) ?_ _
                go_wp2
                go_roundw
                case rel => exact ⟨k, ms4 ++ [((mse, .slice ae mse.length ce) : List Int × Value)], _, _, by go_num, by have := HML.out; simp; omega, HLI3.out, by rw [List.map_append]; exact HJ2.out, HC3.out, HOL3.out⟩
                case measure => simp [intOf]
              · have hf2 : ((s'.2 : Int) == 0) = false := by simp [hf]
                have HZ := hid (HE.out.bad hf)
                have HBAD0 := hid hf
                clear hf
                have hz := HZ.out
                subst hz
                have E4 := hid (show L4.2.2 = 0 → ms4.map (·.1) = L4.1 from fun h0 => absurd h0 HBAD0.out)
                replace HL3 := hid (RL.ol HL3.out HOL.out)
                have HL4 := hid (RKs.up (cb := (wm.heap.size + 1)) (r := wm.heap.size) (LI.rlK HLI.out (by have := HLN.out; have := HCB.out; have := HML.out; unfold maxLen; omega)) HWB.out.2.1 HWB.out.1)
                clear HLI HE HOL HZ HCB HJ
                have HBAD := hid (show L4.2.2 ≠ 0 from HBAD0.out)
                have HATG := hid HC.out.fb.at_
                have HAT2 := hid (show s3.1 ≤ b.length from by have := (nM_ok b).1 L4.2 HC.out.fb.at_; rw [HXN.out] at this; exact this)
                have yc := HC.out.bl.cell
                have ycf := HC.out.bl.free
                have ycl := HC.out.bl.lt
                have hbn := nM_bad b (s := L4.2) HBAD.out
                rw [HXN.out] at hbn
                obtain ⟨hx30, hs30⟩ : x3 = 0 ∧ s3 = L4.2 := ⟨congrArg Prod.fst hbn, congrArg Prod.snd hbn⟩
                replace HBAD := hid (show s3.2 ≠ 0 from by rw [hs30]; exact HBAD.out)
                clear hbn hx30 hs30
                obtain ⟨⟨n2, t2⟩, hn⟩ : ∃ x, cM b s3 = x := ⟨_, rfl⟩
                have HN2 := hid hn
                have hbd := cM_bad b (s := s3) HBAD.out HAT2.out
                rw [hn] at hbd
                obtain ⟨rfl, ht⟩ : n2 = 0 ∧ s3 = t2 := ⟨congrArg Prod.fst hbd, (congrArg Prod.snd hbd).symm⟩
                subst ht
                clear hbd
                clear hn
                go_wp2_with (first
                  | (go_at_call 26; refine (fnumber_any HC.out.fb).mono ?_; rintro e wn ⟨rfl, hr1, hk1⟩; rw [HXN.out] at hr1 ⊢; replace HL3 := hid ((RL.upk HL3.out hk1).ups 3 (.int .i64 x3)); replace HL4 := hid (RKs.ups (RKs.upk HL4.out hk1) 3 (.int .i64 x3)); replace HC := hid (HC.out.kpn hk1 hr1); have y1 := HC.out.bl.cell; have yf1 := HC.out.bl.free; have yl1 := HC.out.bl.lt; replace HC := hid (show CI w.heap.size wm.heap.size (wm.heap.size + 1) w.heap.size (.slice (some ⟨g, o, none⟩) b.length cap) b 26 w (wn.setCell ⟨(wm.heap.size + 1), 3, none⟩ (.int .i64 x3)) s3 #[.slice none 0 0, .slice a3 ms3.length c3, .slice a4 ms4.length c4, .int .i64 x3] #[.slice none 0 0, .slice none 0 0, .slice none 0 0, .int .i64 0] from by simpa using HC.out.set 3 (.int .i64 x3)); clear hr1 hk1)
                  | (go_at_call 24; refine (fcount_any HC.out.fb).mono ?_; rintro e wc2 ⟨rfl, hr1, hk1⟩; rw [HN2.out] at hr1 ⊢; replace HL3 := hid (RL.upk HL3.out hk1); replace HL4 := hid (RKs.upk HL4.out hk1); replace HC := hid (HC.out.kpn hk1 hr1); clear hr1 hk1)
                  | fail)
                have HLZ := hid (show L5.2 = s3 from by rw [← HX5.out]; unfold lM; rw [HN2.out]; rfl)
                go_loopw [12] (fun jj wr => jj = .int .i64 0 ∧ wr = wc2) (fun jj _ => (intOf jj).toNat)
                case atStart => exact ⟨rfl, rfl⟩
                case round =>
                  obtain ⟨rfl, hw⟩ := hrel
                  subst hw
                  have hk0 : ¬ (0 : Int) < (0 : Int) := by omega
                  obtain ⟨ms5, a5, c5, hmn⟩ : ∃ (ms : List (MFn)) (a : Option Addr) (c : Nat), ms = [] ∧ a = none ∧ c = 0 := ⟨[], none, 0, rfl, rfl, rfl⟩
                  have E5 := hid (show L5.2.2 = 0 → ms5.map (·.f) = L5.1 from fun h0 => absurd (by rw [← HLZ.out]; exact h0) HBAD.out)
                  replace HBAD := hid (show L5.2.2 ≠ 0 from by rw [HLZ.out]; exact HBAD.out)
                  replace HC := hid (show CI w.heap.size wm.heap.size (wm.heap.size + 1) w.heap.size (.slice (some ⟨g, o, none⟩) b.length cap) b 26 w wr L5.2 #[.slice a5 ms5.length c5, .slice a3 ms3.length c3, .slice a4 ms4.length c4, .int .i64 x3] #[.slice none 0 0, .slice none 0 0, .slice none 0 0, .int .i64 0] from by obtain ⟨rfl, rfl, rfl⟩ := hmn; rw [HLZ.out]; exact HC.out)
                  have HL5 := hid (show RFs wr (fun x => (wm.heap.size + 1) < x ∧ x ≠ wm.heap.size) (.slice a5 ms5.length c5) ms5 from by obtain ⟨rfl, rfl, rfl⟩ := hmn; exact ⟨Sl.nil _ _ _, by simp, by simp, fun _ => rfl⟩)
                  clear hmn HLZ
                  have HDS := hid (show decS b = L5.2 from by rw [HVS.out]; unfold endS; split <;> simp [failS, HBAD.out])
                  have y := HC.out.fb.k.cell
                  have yl := HC.out.fb.k.lt
                  have hbx : ((L5.2.2 : Int) != 0) = true := by simp [HBAD.out]
                  have hbe : ((L5.2.2 : Int) == 0) = false := by simp [HBAD.out]
                  have HDN := hid (HVN.out (by rw [HDS.out]; exact HBAD.out))
                  have HSS := hid (show ∀ wx, CI w.heap.size wm.heap.size (wm.heap.size + 1) w.heap.size (.slice (some ⟨g, o, none⟩) b.length cap) b 26 w wx L5.2 #[.slice a5 ms5.length c5, .slice a3 ms3.length c3, .slice a4 ms4.length c4, .int .i64 x3] #[.slice none 0 0, .slice none 0 0, .slice none 0 0, .int .i64 0] → wx.cell? ⟨wm.heap.size, 1, none⟩ = some (.int .i64 L5.2.1) ∧ wx.cell? ⟨wm.heap.size, 2, none⟩ = some (.int .i64 L5.2.2) from fun wx hx => ⟨hx.fb.k.cell 1, hx.fb.k.cell 2⟩)
                  have HKF := hid (((((Kp.refl w.heap.size wr).set 0 (.slice none 0 0)).set 1 (.slice none 0 0)).set 2 (.slice none 0 0)).set 3 (.int .i64 0))
                  have HSF := hid (show ∀ m : Nat, (((((wr.setCell ⟨w.heap.size, 0, none⟩ (.slice none 0 0)).setCell ⟨w.heap.size, 1, none⟩ (.slice none 0 0)).setCell ⟨w.heap.size, 2, none⟩ (.slice none 0 0)).setCell ⟨w.heap.size, 3, none⟩ (.int .i64 0)).drewN m).cell? ⟨wm.heap.size, 1, none⟩ = some (.int .i64 L5.2.1) ∧ (((((wr.setCell ⟨w.heap.size, 0, none⟩ (.slice none 0 0)).setCell ⟨w.heap.size, 1, none⟩ (.slice none 0 0)).setCell ⟨w.heap.size, 2, none⟩ (.slice none 0 0)).setCell ⟨w.heap.size, 3, none⟩ (.int .i64 0)).drewN m).cell? ⟨wm.heap.size, 2, none⟩ = some (.int .i64 L5.2.2) from fun m => by
                    have hx := (HC.out.fb.kpo HKF.out (Ne.symm HC.out.rr) (Nat.le_refl _)).k
                    exact ⟨(hx.drewN m).cell 1, (hx.drewN m).cell 2⟩)
                  have z := HC.out.rs.cell
                  have zf := HC.out.rs.free
                  have zl := HC.out.rs.lt
                  have bfc := ((((HC.out.rs.set 0 (.slice none 0 0)).set 1 (.slice none 0 0)).set 2 (.slice none 0 0)).set 3 (.int .i64 0)).cell
                  have HBF := hid (show ∀ m : Nat, Bw w (((((wr.setCell ⟨w.heap.size, 0, none⟩ (.slice none 0 0)).setCell ⟨w.heap.size, 1, none⟩ (.slice none 0 0)).setCell ⟨w.heap.size, 2, none⟩ (.slice none 0 0)).setCell ⟨w.heap.size, 3, none⟩ (.int .i64 0)).drewN m) from fun m => ((HC.out.kp.two HKF.out (Nat.le_refl _)).toBw (Nat.le_of_lt HRB.out)).drewN m)
                  go_upto_region 30 with fail
                  refine wp_region_W (fun w' => w'.cell? ⟨wm.heap.size, 1, none⟩ = some (.int .i64 L5.2.1) ∧ w'.cell? ⟨wm.heap.size, 2, none⟩ = some (.int .i64 L5.2.2)) (fun j => if j == 9 then 0 else 1) (by kernel_rfl) ?_
                  refine wpAnyW_take (i := 0) (oi := { dst := some 156, op := Op.build 26 #[], type := 26, pos := "ref.go:301", after := #[], guard := none }) (v := ?_) rfl (by kernel_rfl) (by kernel_rfl) (by kernel_rfl) (by kernel_rfl) (fun _ _ _ h => h) (Or.inl ⟨by rfl, fun w _ => ?_⟩) ?_
                  rotate_left
                  · (go_simp; first | done | with_reducible rfl)
                  try simp only [Act.put, List.setIfInBounds_toArray, List.set_cons_zero, List.set_cons_succ]
                  refine wpAnyW_take (i := 1) (oi := { dst := some 157, op := Op.move (Operand.tmp 7), type := 68, pos := "ref.go:301", after := #[{ on := 9, ground := Ground.gcOnly Departure.lateStores }], guard := none }) (v := ?_) rfl (by kernel_rfl) (by kernel_rfl) (by kernel_rfl) (by kernel_rfl) (fun _ _ _ h => h) (Or.inl ⟨by rfl, fun w _ => ?_⟩) ?_
                  rotate_left
                  · (go_simp; first | done | with_reducible rfl)
                  try simp only [Act.put, List.setIfInBounds_toArray, List.set_cons_zero, List.set_cons_succ]
                  refine wpAnyW_take (i := 2) (oi := { dst := some 158, op := Op.nilCheck (Operand.tmp 157), type := 0, pos := "ref.go:301", after := #[{ on := 1, ground := Ground.data }, { on := 9, ground := Ground.gcOnly Departure.lateStores }], guard := none }) (v := ?_) rfl (by kernel_rfl) (by kernel_rfl) (by kernel_rfl) (by kernel_rfl) (fun _ _ _ h => h) (Or.inl ⟨by rfl, fun w _ => ?_⟩) ?_
                  rotate_left
                  · (go_simp; first | done | with_reducible rfl)
                  try simp only [Act.put, List.setIfInBounds_toArray, List.set_cons_zero, List.set_cons_succ]
                  refine wpAnyW_take (i := 3) (oi := { dst := some 159, op := Op.fieldAddr 70 (Operand.tmp 158) 2, type := 0, pos := "ref.go:301", after := #[{ on := 2, ground := Ground.data }, { on := 9, ground := Ground.gcOnly Departure.lateStores }], guard := none }) (v := ?_) rfl (by kernel_rfl) (by kernel_rfl) (by kernel_rfl) (by kernel_rfl) (fun _ _ _ h => h) (Or.inl ⟨by rfl, fun w _ => ?_⟩) ?_
                  rotate_left
                  · (go_simp; first | done | with_reducible rfl)
                  try simp only [Act.put, List.setIfInBounds_toArray, List.set_cons_zero, List.set_cons_succ]
                  refine wpAnyW_load (i := 4) (oi := { dst := some 160, op := Op.load 3 (Operand.tmp 159), type := 3, pos := "ref.go:301", after := #[{ on := 3, ground := Ground.data }, { on := 9, ground := Ground.gcOnly Departure.lateStores }], guard := none }) (v := ?_) rfl (by kernel_rfl) (by kernel_rfl) (by kernel_rfl) (by kernel_rfl) (by kernel_rfl) (fun _ _ _ h => h) (Or.inl ⟨by rfl, fun w hS => ?_⟩) (HSS.out _ (HC.out.bw (by repeat (first | exact Bw.refl _ | apply Bw.alloc | apply Bw.drewN | apply Bw.drew)))) ?_
                  rotate_left
                  · (obtain ⟨s0, s1⟩ := hS; go_simp; first | done | with_reducible rfl)
                  try simp only [Act.put, List.setIfInBounds_toArray, List.set_cons_zero, List.set_cons_succ]
                  refine wpAnyW_take (i := 5) (oi := { dst := some 161, op := Op.move (Operand.tmp 7), type := 68, pos := "ref.go:301", after := #[{ on := 10, ground := Ground.gcOnly Departure.lateStores }], guard := none }) (v := ?_) rfl (by kernel_rfl) (by kernel_rfl) (by kernel_rfl) (by kernel_rfl) (fun _ _ _ h => h) (Or.inl ⟨by rfl, fun w _ => ?_⟩) ?_
                  rotate_left
                  · (go_simp; first | done | with_reducible rfl)
                  try simp only [Act.put, List.setIfInBounds_toArray, List.set_cons_zero, List.set_cons_succ]
                  refine wpAnyW_take (i := 6) (oi := { dst := some 162, op := Op.nilCheck (Operand.tmp 161), type := 0, pos := "ref.go:301", after := #[{ on := 5, ground := Ground.data }, { on := 10, ground := Ground.gcOnly Departure.lateStores }], guard := none }) (v := ?_) rfl (by kernel_rfl) (by kernel_rfl) (by kernel_rfl) (by kernel_rfl) (fun _ _ _ h => h) (Or.inl ⟨by rfl, fun w _ => ?_⟩) ?_
                  rotate_left
                  · (go_simp; first | done | with_reducible rfl)
                  try simp only [Act.put, List.setIfInBounds_toArray, List.set_cons_zero, List.set_cons_succ]
                  refine wpAnyW_take (i := 7) (oi := { dst := some 163, op := Op.fieldAddr 70 (Operand.tmp 162) 1, type := 0, pos := "ref.go:301", after := #[{ on := 6, ground := Ground.data }, { on := 10, ground := Ground.gcOnly Departure.lateStores }], guard := none }) (v := ?_) rfl (by kernel_rfl) (by kernel_rfl) (by kernel_rfl) (by kernel_rfl) (fun _ _ _ h => h) (Or.inl ⟨by rfl, fun w _ => ?_⟩) ?_
                  rotate_left
                  · (go_simp; first | done | with_reducible rfl)
                  try simp only [Act.put, List.setIfInBounds_toArray, List.set_cons_zero, List.set_cons_succ]
                  refine wpAnyW_load (i := 8) (oi := { dst := some 164, op := Op.load 3 (Operand.tmp 163), type := 3, pos := "ref.go:301", after := #[{ on := 7, ground := Ground.data }, { on := 10, ground := Ground.gcOnly Departure.lateStores }], guard := none }) (v := ?_) rfl (by kernel_rfl) (by kernel_rfl) (by kernel_rfl) (by kernel_rfl) (by kernel_rfl) (fun _ _ _ h => h) (Or.inl ⟨by rfl, fun w hS => ?_⟩) (HSS.out _ (HC.out.bw (by repeat (first | exact Bw.refl _ | apply Bw.alloc | apply Bw.drewN | apply Bw.drew)))) ?_
                  rotate_left
                  · (obtain ⟨s0, s1⟩ := hS; go_simp; first | done | with_reducible rfl)
                  try simp only [Act.put, List.setIfInBounds_toArray, List.set_cons_zero, List.set_cons_succ]
                  refine wpAnyW_ready (rs := [9]) (by kernel_rfl) (by simp) ?_
                  refine (AllReadyW.cons (o := { dst := none, op := Op.store 26 (Operand.tmp 2) (Operand.tmp 156), type := 0, pos := "ref.go:301", after := #[{ on := 0, ground := Ground.data }, { on := 0, ground := Ground.phase }, { on := 1, ground := Ground.textOnly Departure.lateStores }, { on := 2, ground := Ground.textOnly Departure.lateStores }, { on := 3, ground := Ground.textOnly Departure.lateStores }, { on := 4, ground := Ground.textOnly Departure.lateStores }, { on := 5, ground := Ground.textOnly Departure.lateStores }, { on := 6, ground := Ground.textOnly Departure.lateStores }, { on := 7, ground := Ground.textOnly Departure.lateStores }, { on := 8, ground := Ground.textOnly Departure.lateStores }], guard := none }) rfl (fun K hK => ?_) AllReadyW.nil)
                  go_simp
                  refine hK.out _ _ (HSF.out _) ?_
                  clear hK K
                  try simp only [Act.put, List.setIfInBounds_toArray, List.set_cons_zero, List.set_cons_succ]
                  refine wpAnyW_take (i := 10) (oi := { dst := some 3, op := Op.assign (Operand.tmp 160), type := 3, pos := "ref.go:301", after := #[{ on := 4, ground := Ground.data }, { on := 9, ground := Ground.chain }, { on := 0, ground := Ground.phase }, { on := 1, ground := Ground.phase }, { on := 2, ground := Ground.phase }, { on := 3, ground := Ground.phase }, { on := 4, ground := Ground.phase }, { on := 5, ground := Ground.textOnly Departure.lateStores }, { on := 6, ground := Ground.textOnly Departure.lateStores }, { on := 7, ground := Ground.textOnly Departure.lateStores }, { on := 8, ground := Ground.textOnly Departure.lateStores }, { on := 9, ground := Ground.phase }], guard := none }) (v := ?_) rfl (by kernel_rfl) (by kernel_rfl) (by kernel_rfl) (by kernel_rfl) (fun _ _ _ h => h) (Or.inl ⟨by rfl, fun w _ => ?_⟩) ?_
                  rotate_left
                  · (go_simp; first | done | with_reducible rfl)
                  try simp only [Act.put, List.setIfInBounds_toArray, List.set_cons_zero, List.set_cons_succ]
                  refine wpAnyW_take (i := 11) (oi := { dst := some 4, op := Op.assign (Operand.tmp 164), type := 3, pos := "ref.go:301", after := #[{ on := 8, ground := Ground.data }, { on := 10, ground := Ground.chain }, { on := 0, ground := Ground.phase }, { on := 1, ground := Ground.phase }, { on := 2, ground := Ground.phase }, { on := 3, ground := Ground.phase }, { on := 4, ground := Ground.phase }, { on := 5, ground := Ground.phase }, { on := 6, ground := Ground.phase }, { on := 7, ground := Ground.phase }, { on := 8, ground := Ground.phase }, { on := 9, ground := Ground.phase }, { on := 10, ground := Ground.phase }], guard := none }) (v := ?_) rfl (by kernel_rfl) (by kernel_rfl) (by kernel_rfl) (by kernel_rfl) (fun _ _ _ h => h) (Or.inl ⟨by rfl, fun w _ => ?_⟩) ?_
                  rotate_left
                  · (go_simp; first | done | with_reducible rfl)
                  try simp only [Act.put, List.setIfInBounds_toArray, List.set_cons_zero, List.set_cons_succ]
                  refine wpAnyW_done (by kernel_rfl) ?_ _
                  go_wp2
                  all_goals
                    refine bodyPost_ret (v := .tuple #[.agg #[.slice none 0 0, .slice none 0 0, .slice none 0 0, .int .i64 0], .int .i64 L5.2.2, .int .i64 L5.2.1]) (by simp [results, Tryd.results11, go_sem, bfc]) rfl ?_
                    exact FDP.bad (HBF.out _) HDS.out HDN.out
        · obtain ⟨k, rfl⟩ : ∃ q, k = q + 1 := ⟨k - 1, by omega⟩
          clear hkz
          have hk0 : (0 : Int) < ((k + 1 : Nat) : Int) := by omega
          by_cases hf : s'.2 = 0
          · have hf2 : ((s'.2 : Int) == 0) = true := by simp [hf]
            have HF0 := hid hf
            have hkm : ((k + 1 : Nat) : Int) - 1 = (k : Int) := by omega
            have hkb : k ≤ 9223372036854775807 := by have := HML.out; omega
            obtain ⟨i1, hi1, hz1, hs1, hy1⟩ := info_parts infoES
            have I1 := hid (And.intro hi1 (And.intro hz1 (And.intro hs1 hy1)))
            clear hi1 hz1 hs1 hy1 hf
            have HCL2 := hid (show ∀ wx sx, CI w.heap.size wm.heap.size (wm.heap.size + 1) w.heap.size (.slice (some ⟨g, o, none⟩) b.length cap) b 26 w wx sx #[.slice none 0 0, .slice a3 ms3.length c3, .slice none 0 0, .int .i64 0] #[.slice none 0 0, .slice none 0 0, .slice none 0 0, .int .i64 0] → wx.cell? ⟨(wm.heap.size + 1), 1, none⟩ = some (.slice a3 ms3.length c3) from fun wx sx hx => hx.bl.cell 1)
            obtain ⟨⟨n, p, f⟩, hcm⟩ : ∃ x, cM b s' = x := ⟨_, rfl⟩
            have HCM := hid hcm
            have hpn := (cM_ok b).1 s' HC.out.fb.at_
            rw [hcm] at hpn
            simp only at hpn
            have HT := hid (show tM b s' = ((b.drop p).take n, (p + n, f)) by unfold tM; rw [hcm])
            clear hcm
            by_cases hff : f = 0
            · subst hff
              have h1 : -9223372036854775808 ≤ (p : Int) + (n : Int) ∧ (p : Int) + (n : Int) ≤ 9223372036854775807 := by have := HLN.out; omega
              have h2 : (p : Int) ≤ (p : Int) + (n : Int) := by omega
              have h3 : (p : Int) + (n : Int) ≤ (b.length : Int) := by omega
              have hwp : IntKind.i64.wrap ((p : Int) + (n : Int)) = (p : Int) + (n : Int) := by rw [IntKind.wrap_i64]; omega
              have hwp0 : IntKind.i64.wrap (p : Int) = (p : Int) := by rw [IntKind.wrap_i64]; omega
              have htp : ((p : Int) + (n : Int)).toNat = p + n := by omega
              have hcap := HC.out.fb.form
              have hcap2 : b.length ≤ cap := by obtain ⟨a', c', e', h'⟩ := hcap; cases e'; exact h'
              have hpc : 0 ≤ (p : Int) + (n : Int) ∧ (p : Int) + (n : Int) ≤ (cap : Int) := by omega
              have HPN := hid hpn
              have HJ2 := hid (show JL L3 (tM b) k (ms3 ++ [(b.drop p).take n]) (p + n, 0) from HE.out.step HF0.out (by rw [HT.out]) (fun _ => by rw [HT.out]))
              have HOKS := hid (show (∀ c ∈ (b.drop p).take n, 0 ≤ c ∧ c ≤ 255) ∧ ((b.drop p).take n).length ≤ maxLen from ⟨fun c hc => HBY.out c (List.mem_of_mem_drop (List.mem_of_mem_take hc)), by rw [List.length_take]; have := HLN.out; unfold maxLen; omega⟩)
              obtain ⟨T, hT⟩ : ∃ T, (b.drop p).take n = T := ⟨_, rfl⟩
              rw [hT] at HJ2 HOKS
              have HTT := hid hT
              obtain ⟨ss, hss⟩ : ∃ ss, strOfNums T = ss := ⟨_, rfl⟩
              have HSS := hid hss
              clear hcap hT hss HT
              by_cases hcp : cap = p
              · subst hcp
                have hn0 : n = 0 := by omega
                subst hn0
                have HSX := hid (show ∀ wx, CI w.heap.size wm.heap.size (wm.heap.size + 1) w.heap.size (.slice (some ⟨g, o, none⟩) b.length cap) b 26 w wx ((cap, 0) : St) #[.slice none 0 0, .slice a3 ms3.length c3, .slice none 0 0, .int .i64 0] #[.slice none 0 0, .slice none 0 0, .slice none 0 0, .int .i64 0] → wx.cell? ⟨(wm.heap.size + 1), 1, none⟩ = some (.slice a3 ms3.length c3) ∧ wx.cell? ⟨wm.heap.size, 1, none⟩ = some (.int .i64 cap) ∧ (convert 29 9 (.slice (some ⟨g, o, none⟩) 0 0)).run Tryd.prog wx = .ok (.string ss) wx from fun wx hx => ⟨hx.bl.cell 1, hx.fb.k.cell 1, by rw [← HSS.out, ← HTT.out]; simpa using hx.fb.conv 0 0 0 (by omega)⟩)
                go_upto_region 16 with (first
                  | (go_at_call 24; refine (fcount_any HC.out.fb).mono ?_; rintro e wk ⟨rfl, hr1, hk1⟩; rw [HCM.out] at hr1 ⊢; have HFR := hid (HLI.out.fresh (w1 := wk) (m := (T : List Int)) keepS HOKS.out HOL.out.size); replace HC := hid (HC.out.kpn hk1 hr1); replace HLI := hid (HLI.out.kp keepS hk1 HWB.out.1); replace HOL := hid (HOL.out.kp hk1); have yk := HC.out.fb.k.cell; have ykl := HC.out.fb.k.lt; simp only at yk; clear hr1 hk1)
                  | fail)
                refine wp_region_W (fun w' => w'.cell? ⟨(wm.heap.size + 1), 1, none⟩ = some (.slice a3 ms3.length c3) ∧ w'.cell? ⟨wm.heap.size, 1, none⟩ = some (.int .i64 cap) ∧ (convert 29 9 (.slice (some ⟨g, o, none⟩) 0 0)).run Tryd.prog w' = .ok (.string ss) w') (fun j => if j == 15 || j == 16 then 0 else if j == 18 then 2 else 1) (by kernel_rfl) ?_
                refine wpAnyW_take (i := 0) (oi := { dst := some 61, op := Op.fieldAddr 26 (Operand.tmp 8) 1, type := 0, pos := "ref.go:286", after := #[], guard := none }) (v := ?_) rfl (by kernel_rfl) (by kernel_rfl) (by kernel_rfl) (by kernel_rfl) (fun _ _ _ h => h) (Or.inl ⟨by rfl, fun w _ => ?_⟩) ?_
                rotate_left
                · (go_simp; first | done | with_reducible rfl)
                try simp only [Act.put, List.setIfInBounds_toArray, List.set_cons_zero, List.set_cons_succ]
                refine wpAnyW_load (i := 1) (oi := { dst := some 62, op := Op.load 23 (Operand.tmp 61), type := 23, pos := "ref.go:286", after := #[{ on := 0, ground := Ground.data }], guard := none }) (v := ?_) rfl (by kernel_rfl) (by kernel_rfl) (by kernel_rfl) (by kernel_rfl) (by kernel_rfl) (fun _ _ _ h => h) (Or.inl ⟨by rfl, fun w hS => ?_⟩) (HSX.out _ (HC.out.bw (by repeat (first | exact Bw.refl _ | apply Bw.alloc | apply Bw.drewN | apply Bw.drew)))) ?_
                rotate_left
                · (obtain ⟨q0, q1, q2⟩ := hS; go_simp; first | done | with_reducible rfl)
                try simp only [Act.put, List.setIfInBounds_toArray, List.set_cons_zero, List.set_cons_succ]
                refine wpAnyW_take (i := 2) (oi := { dst := some 63, op := Op.move (Operand.tmp 0), type := 29, pos := "ref.go:286", after := #[], guard := none }) (v := ?_) rfl (by kernel_rfl) (by kernel_rfl) (by kernel_rfl) (by kernel_rfl) (fun _ _ _ h => h) (Or.inl ⟨by rfl, fun w _ => ?_⟩) ?_
                rotate_left
                · (go_simp; first | done | with_reducible rfl)
                try simp only [Act.put, List.setIfInBounds_toArray, List.set_cons_zero, List.set_cons_succ]
                refine wpAnyW_take (i := 3) (oi := { dst := some 64, op := Op.move (Operand.tmp 7), type := 68, pos := "ref.go:286", after := #[], guard := none }) (v := ?_) rfl (by kernel_rfl) (by kernel_rfl) (by kernel_rfl) (by kernel_rfl) (fun _ _ _ h => h) (Or.inl ⟨by rfl, fun w _ => ?_⟩) ?_
                rotate_left
                · (go_simp; first | done | with_reducible rfl)
                try simp only [Act.put, List.setIfInBounds_toArray, List.set_cons_zero, List.set_cons_succ]
                refine wpAnyW_take (i := 4) (oi := { dst := some 65, op := Op.nilCheck (Operand.tmp 64), type := 0, pos := "ref.go:286", after := #[{ on := 3, ground := Ground.data }], guard := none }) (v := ?_) rfl (by kernel_rfl) (by kernel_rfl) (by kernel_rfl) (by kernel_rfl) (fun _ _ _ h => h) (Or.inl ⟨by rfl, fun w _ => ?_⟩) ?_
                rotate_left
                · (go_simp; first | done | with_reducible rfl)
                try simp only [Act.put, List.setIfInBounds_toArray, List.set_cons_zero, List.set_cons_succ]
                refine wpAnyW_take (i := 5) (oi := { dst := some 66, op := Op.fieldAddr 70 (Operand.tmp 65) 1, type := 0, pos := "ref.go:286", after := #[{ on := 4, ground := Ground.data }], guard := none }) (v := ?_) rfl (by kernel_rfl) (by kernel_rfl) (by kernel_rfl) (by kernel_rfl) (fun _ _ _ h => h) (Or.inl ⟨by rfl, fun w _ => ?_⟩) ?_
                rotate_left
                · (go_simp; first | done | with_reducible rfl)
                try simp only [Act.put, List.setIfInBounds_toArray, List.set_cons_zero, List.set_cons_succ]
                refine wpAnyW_load (i := 6) (oi := { dst := some 67, op := Op.load 3 (Operand.tmp 66), type := 3, pos := "ref.go:286", after := #[{ on := 5, ground := Ground.data }], guard := none }) (v := ?_) rfl (by kernel_rfl) (by kernel_rfl) (by kernel_rfl) (by kernel_rfl) (by kernel_rfl) (fun _ _ _ h => h) (Or.inl ⟨by rfl, fun w hS => ?_⟩) (HSX.out _ (HC.out.bw (by repeat (first | exact Bw.refl _ | apply Bw.alloc | apply Bw.drewN | apply Bw.drew)))) ?_
                rotate_left
                · (obtain ⟨q0, q1, q2⟩ := hS; go_simp; first | done | with_reducible rfl)
                try simp only [Act.put, List.setIfInBounds_toArray, List.set_cons_zero, List.set_cons_succ]
                refine wpAnyW_take (i := 7) (oi := { dst := some 68, op := Op.move (Operand.tmp 7), type := 68, pos := "ref.go:286", after := #[], guard := none }) (v := ?_) rfl (by kernel_rfl) (by kernel_rfl) (by kernel_rfl) (by kernel_rfl) (fun _ _ _ h => h) (Or.inl ⟨by rfl, fun w _ => ?_⟩) ?_
                rotate_left
                · (go_simp; first | done | with_reducible rfl)
                try simp only [Act.put, List.setIfInBounds_toArray, List.set_cons_zero, List.set_cons_succ]
                refine wpAnyW_take (i := 8) (oi := { dst := some 69, op := Op.nilCheck (Operand.tmp 68), type := 0, pos := "ref.go:286", after := #[{ on := 7, ground := Ground.data }], guard := none }) (v := ?_) rfl (by kernel_rfl) (by kernel_rfl) (by kernel_rfl) (by kernel_rfl) (fun _ _ _ h => h) (Or.inl ⟨by rfl, fun w _ => ?_⟩) ?_
                rotate_left
                · (go_simp; first | done | with_reducible rfl)
                try simp only [Act.put, List.setIfInBounds_toArray, List.set_cons_zero, List.set_cons_succ]
                refine wpAnyW_take (i := 9) (oi := { dst := some 70, op := Op.fieldAddr 70 (Operand.tmp 69) 1, type := 0, pos := "ref.go:286", after := #[{ on := 8, ground := Ground.data }], guard := none }) (v := ?_) rfl (by kernel_rfl) (by kernel_rfl) (by kernel_rfl) (by kernel_rfl) (fun _ _ _ h => h) (Or.inl ⟨by rfl, fun w _ => ?_⟩) ?_
                rotate_left
                · (go_simp; first | done | with_reducible rfl)
                try simp only [Act.put, List.setIfInBounds_toArray, List.set_cons_zero, List.set_cons_succ]
                refine wpAnyW_load (i := 10) (oi := { dst := some 71, op := Op.load 3 (Operand.tmp 70), type := 3, pos := "ref.go:286", after := #[{ on := 9, ground := Ground.data }], guard := none }) (v := ?_) rfl (by kernel_rfl) (by kernel_rfl) (by kernel_rfl) (by kernel_rfl) (by kernel_rfl) (fun _ _ _ h => h) (Or.inl ⟨by rfl, fun w hS => ?_⟩) (HSX.out _ (HC.out.bw (by repeat (first | exact Bw.refl _ | apply Bw.alloc | apply Bw.drewN | apply Bw.drew)))) ?_
                rotate_left
                · (obtain ⟨q0, q1, q2⟩ := hS; go_simp; first | done | with_reducible rfl)
                try simp only [Act.put, List.setIfInBounds_toArray, List.set_cons_zero, List.set_cons_succ]
                refine wpAnyW_take (i := 11) (oi := { dst := some 72, op := Op.move (Operand.tmp 10), type := 3, pos := "ref.go:286", after := #[], guard := none }) (v := ?_) rfl (by kernel_rfl) (by kernel_rfl) (by kernel_rfl) (by kernel_rfl) (fun _ _ _ h => h) (Or.inl ⟨by rfl, fun w _ => ?_⟩) ?_
                rotate_left
                · (go_simp; first | done | with_reducible rfl)
                try simp only [Act.put, List.setIfInBounds_toArray, List.set_cons_zero, List.set_cons_succ]
                refine wpAnyW_take (i := 12) (oi := { dst := some 73, op := Op.binOp BinOp.add 3 (Operand.tmp 71) (Operand.tmp 72) 3, type := 3, pos := "ref.go:286", after := #[{ on := 10, ground := Ground.data }, { on := 11, ground := Ground.data }], guard := none }) (v := ?_) rfl (by kernel_rfl) (by kernel_rfl) (by kernel_rfl) (by kernel_rfl) (fun _ _ _ h => h) (Or.inl ⟨by rfl, fun w _ => ?_⟩) ?_
                rotate_left
                · (go_simp; first | done | with_reducible rfl)
                try simp only [Act.put, List.setIfInBounds_toArray, List.set_cons_zero, List.set_cons_succ]
                refine wpAnyW_take (i := 13) (oi := { dst := some 74, op := Op.slice 29 (Operand.tmp 63) (some (Operand.tmp 67)) (some (Operand.tmp 73)) none, type := 29, pos := "ref.go:286", after := #[{ on := 2, ground := Ground.data }, { on := 6, ground := Ground.data }, { on := 12, ground := Ground.data }], guard := none }) (v := ?_) rfl (by kernel_rfl) (by kernel_rfl) (by kernel_rfl) (by kernel_rfl) (fun _ _ _ h => h) (Or.inl ⟨by rfl, fun w _ => ?_⟩) ?_
                rotate_left
                · (go_simp; first | done | with_reducible rfl)
                try simp only [Act.put, List.setIfInBounds_toArray, List.set_cons_zero, List.set_cons_succ]
                refine wpAnyW_load (i := 14) (oi := { dst := some 75, op := Op.convert 29 9 (Operand.tmp 74), type := 9, pos := "ref.go:286", after := #[{ on := 13, ground := Ground.data }], guard := none }) (v := ?_) rfl (by kernel_rfl) (by kernel_rfl) (by kernel_rfl) (by kernel_rfl) (by kernel_rfl) (fun _ _ _ h => h) (Or.inl ⟨by rfl, fun w hS => ?_⟩) (HSX.out _ (HC.out.bw (by repeat (first | exact Bw.refl _ | apply Bw.alloc | apply Bw.drewN | apply Bw.drew)))) ?_
                rotate_left
                · (obtain ⟨q0, q1, q2⟩ := hS; go_simp; first | done | with_reducible rfl)
                try simp only [Act.put, List.setIfInBounds_toArray, List.set_cons_zero, List.set_cons_succ]
                refine wpAnyW_ready (rs := [15]) (by kernel_rfl) (by simp) ?_
                refine (AllReadyW.cons (o := { dst := some 76, op := Op.buildSlice 23 1 #[(0, Operand.tmp 75)], type := 23, pos := "ref.go:286", after := #[{ on := 14, ground := Ground.data }], guard := none }) rfl (fun K hK => ?_) AllReadyW.nil)
                go_simp
                refine hK.out _ _ (HSX.out _ (HC.out.bw (by repeat (first | exact Bw.refl _ | apply Bw.alloc | apply Bw.drewN | apply Bw.drew)))) ?_
                clear hK K
                try simp only [Act.put, List.setIfInBounds_toArray, List.set_cons_zero, List.set_cons_succ]
                refine wpAnyW_ready (rs := [16]) (by kernel_rfl) (by simp) ?_
                refine (AllReadyW.cons (o := { dst := some 77, op := Op.call { callee := Callee.builtin Builtin.append, args := #[Operand.tmp 62, Operand.tmp 76], argTypes := #[23, 23] }, type := 23, pos := "ref.go:286", after := #[{ on := 1, ground := Ground.data }, { on := 15, ground := Ground.data }], guard := none }) rfl (fun K hK => ?_) AllReadyW.nil)
                refine step_append_row (by rfl) (.tmp 62) (.tmp 76) 23 (by rfl) 9 i1 (.string ByteArray.empty) 1 16 undLS I1.out.1 I1.out.2.1 I1.out.2.2.1 I1.out.2.2.2 (by rfl) (by decide) (.slice a3 ms3.length c3) ms3.length (ms3.flatMap (fun s => [.string (strOfNums s)])) (by rfl) (HLI.out.bw keepS (by repeat (first | exact Bw.refl _ | apply Bw.alloc | apply Bw.drewN | apply Bw.drew))).own ⟨(wk.drew).heap.size, 0, none⟩ 1 1 (((fun s => [.string (strOfNums s)]) : List Int → List Value) T) (by rfl) (by rfl) ?c1 ?c2 (by have := HLN.out; have := HCB.out; have := HML.out; unfold maxLen; omega) (by have := HLN.out; have := HCB.out; have := HML.out; omega) ?_
                case c1 =>
                  intro jx u hj
                  have hb0 := (Blk.new (wk.drew) #[.string ss] 9).cell jx
                  rw [addr_add, ← hj]
                  exact hb0.trans (by simp [HSS.out])
                case c2 => intro u hu; simp [fnC] at hu; subst hu; rfl
                intro l4 w4 hown hgr hnew
                obtain ⟨a9, c9, e9⟩ := own_form hown
                subst e9
                obtain ⟨p1, p2, p3, p4⟩ := push3 HC.out HLI.out HOL.out keepS HWB.out.1 HWB.out.2.1 HWB.out.2.2.1 HWB.out.2.2.2 HFR.out (by repeat (first | exact Bw.refl _ | apply Bw.alloc | apply Bw.drewN | apply Bw.drew)) hgr hown (by simpa only [World.size_alloc] using hnew) 1
                have y4 := p1.bl.cell
                have yf4 := p1.bl.free
                have yl4 := p1.bl.lt
                have HC3 := hid (show CI w.heap.size wm.heap.size (wm.heap.size + 1) w.heap.size (.slice (some ⟨g, o, none⟩) b.length cap) b 26 w (w4.setCell ⟨(wm.heap.size + 1), 1, none⟩ (.slice a9 (ms3.length + 1) c9)) ((cap, 0) : St) #[.slice none 0 0, .slice a9 (ms3.length + 1) c9, .slice none 0 0, .int .i64 0] #[.slice none 0 0, .slice none 0 0, .slice none 0 0, .int .i64 0] from by simpa using p2)
                have HC3P := hid p1
                have HC3Q := hid (show (convert 29 9 (.slice (some ⟨g, o, none⟩) 0 0)).run Tryd.prog w4 = .ok (.string ss) w4 from (HSX.out _ p1).2.2)
                have HLI3 := hid p3
                have HOL3 := hid p4
                clear hown hgr hnew p1 p2 p3 p4
                refine hK.out _ _ (⟨y4 1, HC3P.out.fb.k.cell 1, HC3Q.out⟩) ?_
                clear hK K
                try simp only [Act.put, List.setIfInBounds_toArray, List.set_cons_zero, List.set_cons_succ]
                refine wpAnyW_take (i := 17) (oi := { dst := some 78, op := Op.fieldAddr 26 (Operand.tmp 8) 1, type := 0, pos := "ref.go:286", after := #[{ on := 0, ground := Ground.phase }, { on := 1, ground := Ground.phase }, { on := 2, ground := Ground.phase }, { on := 3, ground := Ground.phase }, { on := 4, ground := Ground.phase }, { on := 5, ground := Ground.phase }, { on := 6, ground := Ground.phase }, { on := 7, ground := Ground.phase }, { on := 8, ground := Ground.phase }, { on := 9, ground := Ground.phase }, { on := 10, ground := Ground.phase }, { on := 11, ground := Ground.phase }, { on := 12, ground := Ground.phase }, { on := 13, ground := Ground.phase }, { on := 14, ground := Ground.phase }, { on := 15, ground := Ground.phase }, { on := 16, ground := Ground.phase }], guard := none }) (v := ?_) rfl (by kernel_rfl) (by kernel_rfl) (by kernel_rfl) (by kernel_rfl) (fun _ _ _ h => h) (Or.inl ⟨by rfl, fun w _ => ?_⟩) ?_
                rotate_left
                · (go_simp; first | done | with_reducible rfl)
                try simp only [Act.put, List.setIfInBounds_toArray, List.set_cons_zero, List.set_cons_succ]
                refine wpAnyW_ready (rs := [18]) (by kernel_rfl) (by simp) ?_
                refine (AllReadyW.cons (o := { dst := none, op := Op.store 23 (Operand.tmp 78) (Operand.tmp 77), type := 0, pos := "ref.go:286", after := #[{ on := 17, ground := Ground.data }, { on := 16, ground := Ground.data }, { on := 16, ground := Ground.chain }, { on := 0, ground := Ground.phase }, { on := 1, ground := Ground.phase }, { on := 2, ground := Ground.phase }, { on := 3, ground := Ground.phase }, { on := 4, ground := Ground.phase }, { on := 5, ground := Ground.phase }, { on := 6, ground := Ground.phase }, { on := 7, ground := Ground.phase }, { on := 8, ground := Ground.phase }, { on := 9, ground := Ground.phase }, { on := 10, ground := Ground.phase }, { on := 11, ground := Ground.phase }, { on := 12, ground := Ground.phase }, { on := 13, ground := Ground.phase }, { on := 14, ground := Ground.phase }, { on := 15, ground := Ground.phase }, { on := 16, ground := Ground.phase }], guard := none }) rfl (fun K hK => ?_) AllReadyW.nil)
                go_simp
                refine hK.out _ _ trivial ?_
                clear hK K
                try simp only [Act.put, List.setIfInBounds_toArray, List.set_cons_zero, List.set_cons_succ]
                refine wpAnyW_done (by kernel_rfl) ?_ _
                have yy := HC3.out.fb.k.cell
                have yyf := HC3.out.fb.k.free
                have yyl := HC3.out.fb.k.lt
                simp only at yy
                go_wp2
                have HC4 := hid (show CI w.heap.size wm.heap.size (wm.heap.size + 1) w.heap.size (.slice (some ⟨g, o, none⟩) b.length cap) b 26 w ((w4.setCell ⟨(wm.heap.size + 1), 1, none⟩ (.slice a9 (ms3.length + 1) c9)).setCell ⟨wm.heap.size, 1, none⟩ (.int .i64 (cap : Int))) ((cap, 0) : St) #[.slice none 0 0, .slice a9 (ms3.length + 1) c9, .slice none 0 0, .int .i64 0] #[.slice none 0 0, .slice none 0 0, .slice none 0 0, .int .i64 0] from HC3.out.kpn ((Kp.refl _ _).set 1 _) (HC3.out.fb.set (s' := (cap, 0)) HPN.out (by simp) (by simpa using HC3.out.fb.k.set 1 (.int .i64 (cap : Int))) ((Kp.refl _ _).set 1 _)))
                go_roundw
                case rel => first | exact ⟨k, ms3 ++ [T], _, _, by go_num, by have := HML.out; simp; omega, HLI3.out.kp keepS ((Kp.refl _ _).set 1 _) HWB.out.1, HJ2.out, HC4.out, HOL3.out.kp ((Kp.refl _ _).set 1 _)⟩ | ((repeat apply Exists.intro); exact ⟨⟨k, ms3 ++ [T], _, _, by go_num, by have := HML.out; simp; omega, HLI3.out.kp keepS ((Kp.refl _ _).set 1 _) HWB.out.1, HJ2.out, HC4.out, HOL3.out.kp ((Kp.refl _ _).set 1 _)⟩, rfl⟩)
                case measure => simp [intOf]
              · have HSX := hid (show ∀ wx, CI w.heap.size wm.heap.size (wm.heap.size + 1) w.heap.size (.slice (some ⟨g, o, none⟩) b.length cap) b 26 w wx ((p, 0) : St) #[.slice none 0 0, .slice a3 ms3.length c3, .slice none 0 0, .int .i64 0] #[.slice none 0 0, .slice none 0 0, .slice none 0 0, .int .i64 0] → wx.cell? ⟨(wm.heap.size + 1), 1, none⟩ = some (.slice a3 ms3.length c3) ∧ wx.cell? ⟨wm.heap.size, 1, none⟩ = some (.int .i64 p) ∧ (convert 29 9 (.slice (some ⟨g, o + p, none⟩) n (cap - p))).run Tryd.prog wx = .ok (.string ss) wx from fun wx hx => ⟨hx.bl.cell 1, hx.fb.k.cell 1, by rw [← HSS.out, ← HTT.out]; exact hx.fb.conv p n (cap - p) HPN.out⟩)
                go_upto_region 16 with (first
                  | (go_at_call 24; refine (fcount_any HC.out.fb).mono ?_; rintro e wk ⟨rfl, hr1, hk1⟩; rw [HCM.out] at hr1 ⊢; have HFR := hid (HLI.out.fresh (w1 := wk) (m := (T : List Int)) keepS HOKS.out HOL.out.size); replace HC := hid (HC.out.kpn hk1 hr1); replace HLI := hid (HLI.out.kp keepS hk1 HWB.out.1); replace HOL := hid (HOL.out.kp hk1); have yk := HC.out.fb.k.cell; have ykl := HC.out.fb.k.lt; simp only at yk; clear hr1 hk1)
                  | fail)
                refine wp_region_W (fun w' => w'.cell? ⟨(wm.heap.size + 1), 1, none⟩ = some (.slice a3 ms3.length c3) ∧ w'.cell? ⟨wm.heap.size, 1, none⟩ = some (.int .i64 p) ∧ (convert 29 9 (.slice (some ⟨g, o + p, none⟩) n (cap - p))).run Tryd.prog w' = .ok (.string ss) w') (fun j => if j == 15 || j == 16 then 0 else if j == 18 then 2 else 1) (by kernel_rfl) ?_
                refine wpAnyW_take (i := 0) (oi := { dst := some 61, op := Op.fieldAddr 26 (Operand.tmp 8) 1, type := 0, pos := "ref.go:286", after := #[], guard := none }) (v := ?_) rfl (by kernel_rfl) (by kernel_rfl) (by kernel_rfl) (by kernel_rfl) (fun _ _ _ h => h) (Or.inl ⟨by rfl, fun w _ => ?_⟩) ?_
                rotate_left
                · (go_simp; first | done | with_reducible rfl)
                try simp only [Act.put, List.setIfInBounds_toArray, List.set_cons_zero, List.set_cons_succ]
                refine wpAnyW_load (i := 1) (oi := { dst := some 62, op := Op.load 23 (Operand.tmp 61), type := 23, pos := "ref.go:286", after := #[{ on := 0, ground := Ground.data }], guard := none }) (v := ?_) rfl (by kernel_rfl) (by kernel_rfl) (by kernel_rfl) (by kernel_rfl) (by kernel_rfl) (fun _ _ _ h => h) (Or.inl ⟨by rfl, fun w hS => ?_⟩) (HSX.out _ (HC.out.bw (by repeat (first | exact Bw.refl _ | apply Bw.alloc | apply Bw.drewN | apply Bw.drew)))) ?_
                rotate_left
                · (obtain ⟨q0, q1, q2⟩ := hS; go_simp; first | done | with_reducible rfl)
                try simp only [Act.put, List.setIfInBounds_toArray, List.set_cons_zero, List.set_cons_succ]
                refine wpAnyW_take (i := 2) (oi := { dst := some 63, op := Op.move (Operand.tmp 0), type := 29, pos := "ref.go:286", after := #[], guard := none }) (v := ?_) rfl (by kernel_rfl) (by kernel_rfl) (by kernel_rfl) (by kernel_rfl) (fun _ _ _ h => h) (Or.inl ⟨by rfl, fun w _ => ?_⟩) ?_
                rotate_left
                · (go_simp; first | done | with_reducible rfl)
                try simp only [Act.put, List.setIfInBounds_toArray, List.set_cons_zero, List.set_cons_succ]
                refine wpAnyW_take (i := 3) (oi := { dst := some 64, op := Op.move (Operand.tmp 7), type := 68, pos := "ref.go:286", after := #[], guard := none }) (v := ?_) rfl (by kernel_rfl) (by kernel_rfl) (by kernel_rfl) (by kernel_rfl) (fun _ _ _ h => h) (Or.inl ⟨by rfl, fun w _ => ?_⟩) ?_
                rotate_left
                · (go_simp; first | done | with_reducible rfl)
                try simp only [Act.put, List.setIfInBounds_toArray, List.set_cons_zero, List.set_cons_succ]
                refine wpAnyW_take (i := 4) (oi := { dst := some 65, op := Op.nilCheck (Operand.tmp 64), type := 0, pos := "ref.go:286", after := #[{ on := 3, ground := Ground.data }], guard := none }) (v := ?_) rfl (by kernel_rfl) (by kernel_rfl) (by kernel_rfl) (by kernel_rfl) (fun _ _ _ h => h) (Or.inl ⟨by rfl, fun w _ => ?_⟩) ?_
                rotate_left
                · (go_simp; first | done | with_reducible rfl)
                try simp only [Act.put, List.setIfInBounds_toArray, List.set_cons_zero, List.set_cons_succ]
                refine wpAnyW_take (i := 5) (oi := { dst := some 66, op := Op.fieldAddr 70 (Operand.tmp 65) 1, type := 0, pos := "ref.go:286", after := #[{ on := 4, ground := Ground.data }], guard := none }) (v := ?_) rfl (by kernel_rfl) (by kernel_rfl) (by kernel_rfl) (by kernel_rfl) (fun _ _ _ h => h) (Or.inl ⟨by rfl, fun w _ => ?_⟩) ?_
                rotate_left
                · (go_simp; first | done | with_reducible rfl)
                try simp only [Act.put, List.setIfInBounds_toArray, List.set_cons_zero, List.set_cons_succ]
                refine wpAnyW_load (i := 6) (oi := { dst := some 67, op := Op.load 3 (Operand.tmp 66), type := 3, pos := "ref.go:286", after := #[{ on := 5, ground := Ground.data }], guard := none }) (v := ?_) rfl (by kernel_rfl) (by kernel_rfl) (by kernel_rfl) (by kernel_rfl) (by kernel_rfl) (fun _ _ _ h => h) (Or.inl ⟨by rfl, fun w hS => ?_⟩) (HSX.out _ (HC.out.bw (by repeat (first | exact Bw.refl _ | apply Bw.alloc | apply Bw.drewN | apply Bw.drew)))) ?_
                rotate_left
                · (obtain ⟨q0, q1, q2⟩ := hS; go_simp; first | done | with_reducible rfl)
                try simp only [Act.put, List.setIfInBounds_toArray, List.set_cons_zero, List.set_cons_succ]
                refine wpAnyW_take (i := 7) (oi := { dst := some 68, op := Op.move (Operand.tmp 7), type := 68, pos := "ref.go:286", after := #[], guard := none }) (v := ?_) rfl (by kernel_rfl) (by kernel_rfl) (by kernel_rfl) (by kernel_rfl) (fun _ _ _ h => h) (Or.inl ⟨by rfl, fun w _ => ?_⟩) ?_
                rotate_left
                · (go_simp; first | done | with_reducible rfl)
                try simp only [Act.put, List.setIfInBounds_toArray, List.set_cons_zero, List.set_cons_succ]
                refine wpAnyW_take (i := 8) (oi := { dst := some 69, op := Op.nilCheck (Operand.tmp 68), type := 0, pos := "ref.go:286", after := #[{ on := 7, ground := Ground.data }], guard := none }) (v := ?_) rfl (by kernel_rfl) (by kernel_rfl) (by kernel_rfl) (by kernel_rfl) (fun _ _ _ h => h) (Or.inl ⟨by rfl, fun w _ => ?_⟩) ?_
                rotate_left
                · (go_simp; first | done | with_reducible rfl)
                try simp only [Act.put, List.setIfInBounds_toArray, List.set_cons_zero, List.set_cons_succ]
                refine wpAnyW_take (i := 9) (oi := { dst := some 70, op := Op.fieldAddr 70 (Operand.tmp 69) 1, type := 0, pos := "ref.go:286", after := #[{ on := 8, ground := Ground.data }], guard := none }) (v := ?_) rfl (by kernel_rfl) (by kernel_rfl) (by kernel_rfl) (by kernel_rfl) (fun _ _ _ h => h) (Or.inl ⟨by rfl, fun w _ => ?_⟩) ?_
                rotate_left
                · (go_simp; first | done | with_reducible rfl)
                try simp only [Act.put, List.setIfInBounds_toArray, List.set_cons_zero, List.set_cons_succ]
                refine wpAnyW_load (i := 10) (oi := { dst := some 71, op := Op.load 3 (Operand.tmp 70), type := 3, pos := "ref.go:286", after := #[{ on := 9, ground := Ground.data }], guard := none }) (v := ?_) rfl (by kernel_rfl) (by kernel_rfl) (by kernel_rfl) (by kernel_rfl) (by kernel_rfl) (fun _ _ _ h => h) (Or.inl ⟨by rfl, fun w hS => ?_⟩) (HSX.out _ (HC.out.bw (by repeat (first | exact Bw.refl _ | apply Bw.alloc | apply Bw.drewN | apply Bw.drew)))) ?_
                rotate_left
                · (obtain ⟨q0, q1, q2⟩ := hS; go_simp; first | done | with_reducible rfl)
                try simp only [Act.put, List.setIfInBounds_toArray, List.set_cons_zero, List.set_cons_succ]
                refine wpAnyW_take (i := 11) (oi := { dst := some 72, op := Op.move (Operand.tmp 10), type := 3, pos := "ref.go:286", after := #[], guard := none }) (v := ?_) rfl (by kernel_rfl) (by kernel_rfl) (by kernel_rfl) (by kernel_rfl) (fun _ _ _ h => h) (Or.inl ⟨by rfl, fun w _ => ?_⟩) ?_
                rotate_left
                · (go_simp; first | done | with_reducible rfl)
                try simp only [Act.put, List.setIfInBounds_toArray, List.set_cons_zero, List.set_cons_succ]
                refine wpAnyW_take (i := 12) (oi := { dst := some 73, op := Op.binOp BinOp.add 3 (Operand.tmp 71) (Operand.tmp 72) 3, type := 3, pos := "ref.go:286", after := #[{ on := 10, ground := Ground.data }, { on := 11, ground := Ground.data }], guard := none }) (v := ?_) rfl (by kernel_rfl) (by kernel_rfl) (by kernel_rfl) (by kernel_rfl) (fun _ _ _ h => h) (Or.inl ⟨by rfl, fun w _ => ?_⟩) ?_
                rotate_left
                · (go_simp; first | done | with_reducible rfl)
                try simp only [Act.put, List.setIfInBounds_toArray, List.set_cons_zero, List.set_cons_succ]
                refine wpAnyW_take (i := 13) (oi := { dst := some 74, op := Op.slice 29 (Operand.tmp 63) (some (Operand.tmp 67)) (some (Operand.tmp 73)) none, type := 29, pos := "ref.go:286", after := #[{ on := 2, ground := Ground.data }, { on := 6, ground := Ground.data }, { on := 12, ground := Ground.data }], guard := none }) (v := ?_) rfl (by kernel_rfl) (by kernel_rfl) (by kernel_rfl) (by kernel_rfl) (fun _ _ _ h => h) (Or.inl ⟨by rfl, fun w _ => ?_⟩) ?_
                rotate_left
                · (go_simp; first | done | with_reducible rfl)
                try simp only [Act.put, List.setIfInBounds_toArray, List.set_cons_zero, List.set_cons_succ]
                refine wpAnyW_load (i := 14) (oi := { dst := some 75, op := Op.convert 29 9 (Operand.tmp 74), type := 9, pos := "ref.go:286", after := #[{ on := 13, ground := Ground.data }], guard := none }) (v := ?_) rfl (by kernel_rfl) (by kernel_rfl) (by kernel_rfl) (by kernel_rfl) (by kernel_rfl) (fun _ _ _ h => h) (Or.inl ⟨by rfl, fun w hS => ?_⟩) (HSX.out _ (HC.out.bw (by repeat (first | exact Bw.refl _ | apply Bw.alloc | apply Bw.drewN | apply Bw.drew)))) ?_
                rotate_left
                · (obtain ⟨q0, q1, q2⟩ := hS; go_simp; first | done | with_reducible rfl)
                try simp only [Act.put, List.setIfInBounds_toArray, List.set_cons_zero, List.set_cons_succ]
                refine wpAnyW_ready (rs := [15]) (by kernel_rfl) (by simp) ?_
                refine (AllReadyW.cons (o := { dst := some 76, op := Op.buildSlice 23 1 #[(0, Operand.tmp 75)], type := 23, pos := "ref.go:286", after := #[{ on := 14, ground := Ground.data }], guard := none }) rfl (fun K hK => ?_) AllReadyW.nil)
                go_simp
                refine hK.out _ _ (HSX.out _ (HC.out.bw (by repeat (first | exact Bw.refl _ | apply Bw.alloc | apply Bw.drewN | apply Bw.drew)))) ?_
                clear hK K
                try simp only [Act.put, List.setIfInBounds_toArray, List.set_cons_zero, List.set_cons_succ]
                refine wpAnyW_ready (rs := [16]) (by kernel_rfl) (by simp) ?_
                refine (AllReadyW.cons (o := { dst := some 77, op := Op.call { callee := Callee.builtin Builtin.append, args := #[Operand.tmp 62, Operand.tmp 76], argTypes := #[23, 23] }, type := 23, pos := "ref.go:286", after := #[{ on := 1, ground := Ground.data }, { on := 15, ground := Ground.data }], guard := none }) rfl (fun K hK => ?_) AllReadyW.nil)
                refine step_append_row (by rfl) (.tmp 62) (.tmp 76) 23 (by rfl) 9 i1 (.string ByteArray.empty) 1 16 undLS I1.out.1 I1.out.2.1 I1.out.2.2.1 I1.out.2.2.2 (by rfl) (by decide) (.slice a3 ms3.length c3) ms3.length (ms3.flatMap (fun s => [.string (strOfNums s)])) (by rfl) (HLI.out.bw keepS (by repeat (first | exact Bw.refl _ | apply Bw.alloc | apply Bw.drewN | apply Bw.drew))).own ⟨(wk.drew).heap.size, 0, none⟩ 1 1 (((fun s => [.string (strOfNums s)]) : List Int → List Value) T) (by rfl) (by rfl) ?c1 ?c2 (by have := HLN.out; have := HCB.out; have := HML.out; unfold maxLen; omega) (by have := HLN.out; have := HCB.out; have := HML.out; omega) ?_
                case c1 =>
                  intro jx u hj
                  have hb0 := (Blk.new (wk.drew) #[.string ss] 9).cell jx
                  rw [addr_add, ← hj]
                  exact hb0.trans (by simp [HSS.out])
                case c2 => intro u hu; simp [fnC] at hu; subst hu; rfl
                intro l4 w4 hown hgr hnew
                obtain ⟨a9, c9, e9⟩ := own_form hown
                subst e9
                obtain ⟨p1, p2, p3, p4⟩ := push3 HC.out HLI.out HOL.out keepS HWB.out.1 HWB.out.2.1 HWB.out.2.2.1 HWB.out.2.2.2 HFR.out (by repeat (first | exact Bw.refl _ | apply Bw.alloc | apply Bw.drewN | apply Bw.drew)) hgr hown (by simpa only [World.size_alloc] using hnew) 1
                have y4 := p1.bl.cell
                have yf4 := p1.bl.free
                have yl4 := p1.bl.lt
                have HC3 := hid (show CI w.heap.size wm.heap.size (wm.heap.size + 1) w.heap.size (.slice (some ⟨g, o, none⟩) b.length cap) b 26 w (w4.setCell ⟨(wm.heap.size + 1), 1, none⟩ (.slice a9 (ms3.length + 1) c9)) ((p, 0) : St) #[.slice none 0 0, .slice a9 (ms3.length + 1) c9, .slice none 0 0, .int .i64 0] #[.slice none 0 0, .slice none 0 0, .slice none 0 0, .int .i64 0] from by simpa using p2)
                have HC3P := hid p1
                have HC3Q := hid (show (convert 29 9 (.slice (some ⟨g, o + p, none⟩) n (cap - p))).run Tryd.prog w4 = .ok (.string ss) w4 from (HSX.out _ p1).2.2)
                have HLI3 := hid p3
                have HOL3 := hid p4
                clear hown hgr hnew p1 p2 p3 p4
                refine hK.out _ _ (⟨y4 1, HC3P.out.fb.k.cell 1, HC3Q.out⟩) ?_
                clear hK K
                try simp only [Act.put, List.setIfInBounds_toArray, List.set_cons_zero, List.set_cons_succ]
                refine wpAnyW_take (i := 17) (oi := { dst := some 78, op := Op.fieldAddr 26 (Operand.tmp 8) 1, type := 0, pos := "ref.go:286", after := #[{ on := 0, ground := Ground.phase }, { on := 1, ground := Ground.phase }, { on := 2, ground := Ground.phase }, { on := 3, ground := Ground.phase }, { on := 4, ground := Ground.phase }, { on := 5, ground := Ground.phase }, { on := 6, ground := Ground.phase }, { on := 7, ground := Ground.phase }, { on := 8, ground := Ground.phase }, { on := 9, ground := Ground.phase }, { on := 10, ground := Ground.phase }, { on := 11, ground := Ground.phase }, { on := 12, ground := Ground.phase }, { on := 13, ground := Ground.phase }, { on := 14, ground := Ground.phase }, { on := 15, ground := Ground.phase }, { on := 16, ground := Ground.phase }], guard := none }) (v := ?_) rfl (by kernel_rfl) (by kernel_rfl) (by kernel_rfl) (by kernel_rfl) (fun _ _ _ h => h) (Or.inl ⟨by rfl, fun w _ => ?_⟩) ?_
                rotate_left
                · (go_simp; first | done | with_reducible rfl)
                try simp only [Act.put, List.setIfInBounds_toArray, List.set_cons_zero, List.set_cons_succ]
                refine wpAnyW_ready (rs := [18]) (by kernel_rfl) (by simp) ?_
                refine (AllReadyW.cons (o := { dst := none, op := Op.store 23 (Operand.tmp 78) (Operand.tmp 77), type := 0, pos := "ref.go:286", after := #[{ on := 17, ground := Ground.data }, { on := 16, ground := Ground.data }, { on := 16, ground := Ground.chain }, { on := 0, ground := Ground.phase }, { on := 1, ground := Ground.phase }, { on := 2, ground := Ground.phase }, { on := 3, ground := Ground.phase }, { on := 4, ground := Ground.phase }, { on := 5, ground := Ground.phase }, { on := 6, ground := Ground.phase }, { on := 7, ground := Ground.phase }, { on := 8, ground := Ground.phase }, { on := 9, ground := Ground.phase }, { on := 10, ground := Ground.phase }, { on := 11, ground := Ground.phase }, { on := 12, ground := Ground.phase }, { on := 13, ground := Ground.phase }, { on := 14, ground := Ground.phase }, { on := 15, ground := Ground.phase }, { on := 16, ground := Ground.phase }], guard := none }) rfl (fun K hK => ?_) AllReadyW.nil)
                go_simp
                refine hK.out _ _ trivial ?_
                clear hK K
                try simp only [Act.put, List.setIfInBounds_toArray, List.set_cons_zero, List.set_cons_succ]
                refine wpAnyW_done (by kernel_rfl) ?_ _
                have yy := HC3.out.fb.k.cell
                have yyf := HC3.out.fb.k.free
                have yyl := HC3.out.fb.k.lt
                simp only at yy
                go_wp2
                have HC4 := hid (show CI w.heap.size wm.heap.size (wm.heap.size + 1) w.heap.size (.slice (some ⟨g, o, none⟩) b.length cap) b 26 w ((w4.setCell ⟨(wm.heap.size + 1), 1, none⟩ (.slice a9 (ms3.length + 1) c9)).setCell ⟨wm.heap.size, 1, none⟩ (.int .i64 ((p : Int) + (n : Int)))) ((p + n, 0) : St) #[.slice none 0 0, .slice a9 (ms3.length + 1) c9, .slice none 0 0, .int .i64 0] #[.slice none 0 0, .slice none 0 0, .slice none 0 0, .int .i64 0] from HC3.out.kpn ((Kp.refl _ _).set 1 _) (HC3.out.fb.set (s' := (p + n, 0)) HPN.out (by simp) (by simpa using HC3.out.fb.k.set 1 (.int .i64 ((p : Int) + (n : Int)))) ((Kp.refl _ _).set 1 _)))
                go_roundw
                case rel => first | exact ⟨k, ms3 ++ [T], _, _, by go_num, by have := HML.out; simp; omega, HLI3.out.kp keepS ((Kp.refl _ _).set 1 _) HWB.out.1, HJ2.out, HC4.out, HOL3.out.kp ((Kp.refl _ _).set 1 _)⟩ | ((repeat apply Exists.intro); exact ⟨⟨k, ms3 ++ [T], _, _, by go_num, by have := HML.out; simp; omega, HLI3.out.kp keepS ((Kp.refl _ _).set 1 _) HWB.out.1, HJ2.out, HC4.out, HOL3.out.kp ((Kp.refl _ _).set 1 _)⟩, rfl⟩)
                case measure => simp [intOf]
            · have hff2 : ((f : Int) == 0) = false := by simp [hff]
              have HJ2 := hid (show JL L3 (tM b) k ms3 (p, f) from by
                have hn0 : n = 0 := by
                  have := HCM.out
                  unfold cM at this
                  split at this
                  · exact (congrArg Prod.fst this).symm
                  · have h4 := congrArg Prod.fst this
                    have h5 := congrArg Prod.snd this
                    simp only at h4 h5
                    have h6 : (nM b s').1 = 0 := by
                      have h7 : (nM b s').2.2 ≠ 0 := by rw [h5]; exact hff
                      unfold nM at h7 ⊢
                      split at h7
                      · rename_i h0; rw [if_pos h0]
                        split at h7
                        · simp at h7
                        · rfl
                      · rename_i h0; rw [if_neg h0]
                    rw [← h4, h6]; rfl
                have e : (tM b s').2 = (p, f) := by rw [HT.out, hn0]; rfl
                exact HE.out.skip HF0.out e hff)
              clear hff
              go_wp2_with (first
                | (go_at_call 24; refine (fcount_any HC.out.fb).mono ?_; rintro e wk ⟨rfl, hr1, hk1⟩; rw [HCM.out] at hr1 ⊢; replace HC := hid (HC.out.kpn hk1 hr1); replace HLI := hid (HLI.out.kp keepS hk1 HWB.out.1); replace HOL := hid (HOL.out.kp hk1); have yk := HC.out.fb.k.cell; have ykl := HC.out.fb.k.lt; simp only at yk; clear hr1 hk1)
                | fail)
              go_roundw
              case rel => exact ⟨k, ms3, _, _, by go_num, by have := HML.out; omega, HLI.out, HJ2.out, HC.out, HOL.out⟩
              case measure => simp [intOf]
          · have hf2 : ((s'.2 : Int) == 0) = false := by simp [hf]
            have HZ := hid (HE.out.bad hf)
            have HBAD0 := hid hf
            clear hf
            have hz := HZ.out
            subst hz
            have E3 := hid (show L3.2.2 = 0 → ms3 = L3.1 from fun h0 => absurd h0 HBAD0.out)
            have HL3 := hid (RL.up (cb := (wm.heap.size + 1)) (r := wm.heap.size) (HLI.out.rl keepS (by have := HLN.out; have := HCB.out; have := HML.out; unfold maxLen; omega) (fun _ => rfl)) HWB.out.2.1 HWB.out.1)
            clear HLI HE HOL HZ HCB HJ
            have HBAD := hid (show L3.2.2 ≠ 0 from HBAD0.out)
            have HAT1 := hid HC.out.fb.at_
            obtain ⟨⟨n1, t1⟩, hn⟩ : ∃ x, cM b L3.2 = x := ⟨_, rfl⟩
            have HN1 := hid hn
            have hbd := cM_bad b (s := L3.2) HBAD.out HAT1.out
            rw [hn] at hbd
            obtain ⟨rfl, ht⟩ : n1 = 0 ∧ L3.2 = t1 := ⟨congrArg Prod.fst hbd, (congrArg Prod.snd hbd).symm⟩
            subst ht
            clear hbd
            clear hn
            go_wp2_with (first
              | (go_at_call 24; refine (fcount_any HC.out.fb).mono ?_; rintro e wc1 ⟨rfl, hr1, hk1⟩; rw [HN1.out] at hr1 ⊢; replace HL3 := hid (RL.upk HL3.out hk1); replace HC := hid (HC.out.kpn hk1 hr1); clear hr1 hk1)
              | fail)
            have HLZ := hid (show L4.2 = L3.2 from by rw [← HX4.out]; unfold lM; rw [HN1.out]; rfl)
            go_loopw [11] (fun jj wr => jj = .int .i64 0 ∧ wr = wc1) (fun jj _ => (intOf jj).toNat)
            case atStart => exact ⟨rfl, rfl⟩
            case round =>
              obtain ⟨rfl, hw⟩ := hrel
              subst hw
              have hk0 : ¬ (0 : Int) < (0 : Int) := by omega
              obtain ⟨ms4, a4, c4, hmn⟩ : ∃ (ms : List (List Int × Value)) (a : Option Addr) (c : Nat), ms = [] ∧ a = none ∧ c = 0 := ⟨[], none, 0, rfl, rfl, rfl⟩
              have E4 := hid (show L4.2.2 = 0 → ms4.map (·.1) = L4.1 from fun h0 => absurd (by rw [← HLZ.out]; exact h0) HBAD.out)
              replace HBAD := hid (show L4.2.2 ≠ 0 from by rw [HLZ.out]; exact HBAD.out)
              replace HC := hid (show CI w.heap.size wm.heap.size (wm.heap.size + 1) w.heap.size (.slice (some ⟨g, o, none⟩) b.length cap) b 26 w wr L4.2 #[.slice none 0 0, .slice a3 ms3.length c3, .slice a4 ms4.length c4, .int .i64 0] #[.slice none 0 0, .slice none 0 0, .slice none 0 0, .int .i64 0] from by obtain ⟨rfl, rfl, rfl⟩ := hmn; rw [HLZ.out]; exact HC.out)
              have HL4 := hid (show RKs wr (fun x => (wm.heap.size + 1) < x ∧ x ≠ wm.heap.size) (.slice a4 ms4.length c4) ms4 from by obtain ⟨rfl, rfl, rfl⟩ := hmn; exact ⟨Sl.nil _ _ _, by simp, by simp, fun _ => rfl⟩)
              clear hmn HLZ
              have HATG := hid HC.out.fb.at_
              have HAT2 := hid (show s3.1 ≤ b.length from by have := (nM_ok b).1 L4.2 HC.out.fb.at_; rw [HXN.out] at this; exact this)
              have yc := HC.out.bl.cell
              have ycf := HC.out.bl.free
              have ycl := HC.out.bl.lt
              have hbn := nM_bad b (s := L4.2) HBAD.out
              rw [HXN.out] at hbn
              obtain ⟨hx30, hs30⟩ : x3 = 0 ∧ s3 = L4.2 := ⟨congrArg Prod.fst hbn, congrArg Prod.snd hbn⟩
              replace HBAD := hid (show s3.2 ≠ 0 from by rw [hs30]; exact HBAD.out)
              clear hbn hx30 hs30
              obtain ⟨⟨n2, t2⟩, hn⟩ : ∃ x, cM b s3 = x := ⟨_, rfl⟩
              have HN2 := hid hn
              have hbd := cM_bad b (s := s3) HBAD.out HAT2.out
              rw [hn] at hbd
              obtain ⟨rfl, ht⟩ : n2 = 0 ∧ s3 = t2 := ⟨congrArg Prod.fst hbd, (congrArg Prod.snd hbd).symm⟩
              subst ht
              clear hbd
              clear hn
              go_wp2_with (first
                | (go_at_call 26; refine (fnumber_any HC.out.fb).mono ?_; rintro e wn ⟨rfl, hr1, hk1⟩; rw [HXN.out] at hr1 ⊢; replace HL3 := hid ((RL.upk HL3.out hk1).ups 3 (.int .i64 x3)); replace HL4 := hid (RKs.ups (RKs.upk HL4.out hk1) 3 (.int .i64 x3)); replace HC := hid (HC.out.kpn hk1 hr1); have y1 := HC.out.bl.cell; have yf1 := HC.out.bl.free; have yl1 := HC.out.bl.lt; replace HC := hid (show CI w.heap.size wm.heap.size (wm.heap.size + 1) w.heap.size (.slice (some ⟨g, o, none⟩) b.length cap) b 26 w (wn.setCell ⟨(wm.heap.size + 1), 3, none⟩ (.int .i64 x3)) s3 #[.slice none 0 0, .slice a3 ms3.length c3, .slice a4 ms4.length c4, .int .i64 x3] #[.slice none 0 0, .slice none 0 0, .slice none 0 0, .int .i64 0] from by simpa using HC.out.set 3 (.int .i64 x3)); clear hr1 hk1)
                | (go_at_call 24; refine (fcount_any HC.out.fb).mono ?_; rintro e wc2 ⟨rfl, hr1, hk1⟩; rw [HN2.out] at hr1 ⊢; replace HL3 := hid (RL.upk HL3.out hk1); replace HL4 := hid (RKs.upk HL4.out hk1); replace HC := hid (HC.out.kpn hk1 hr1); clear hr1 hk1)
                | fail)
              have HLZ := hid (show L5.2 = s3 from by rw [← HX5.out]; unfold lM; rw [HN2.out]; rfl)
              go_loopw [12] (fun jj wr => jj = .int .i64 0 ∧ wr = wc2) (fun jj _ => (intOf jj).toNat)
              case atStart => exact ⟨rfl, rfl⟩
              case round =>
                obtain ⟨rfl, hw⟩ := hrel
                subst hw
                have hk0 : ¬ (0 : Int) < (0 : Int) := by omega
                obtain ⟨ms5, a5, c5, hmn⟩ : ∃ (ms : List (MFn)) (a : Option Addr) (c : Nat), ms = [] ∧ a = none ∧ c = 0 := ⟨[], none, 0, rfl, rfl, rfl⟩
                have E5 := hid (show L5.2.2 = 0 → ms5.map (·.f) = L5.1 from fun h0 => absurd (by rw [← HLZ.out]; exact h0) HBAD.out)
                replace HBAD := hid (show L5.2.2 ≠ 0 from by rw [HLZ.out]; exact HBAD.out)
                replace HC := hid (show CI w.heap.size wm.heap.size (wm.heap.size + 1) w.heap.size (.slice (some ⟨g, o, none⟩) b.length cap) b 26 w wr L5.2 #[.slice a5 ms5.length c5, .slice a3 ms3.length c3, .slice a4 ms4.length c4, .int .i64 x3] #[.slice none 0 0, .slice none 0 0, .slice none 0 0, .int .i64 0] from by obtain ⟨rfl, rfl, rfl⟩ := hmn; rw [HLZ.out]; exact HC.out)
                have HL5 := hid (show RFs wr (fun x => (wm.heap.size + 1) < x ∧ x ≠ wm.heap.size) (.slice a5 ms5.length c5) ms5 from by obtain ⟨rfl, rfl, rfl⟩ := hmn; exact ⟨Sl.nil _ _ _, by simp, by simp, fun _ => rfl⟩)
                clear hmn HLZ
                have HDS := hid (show decS b = L5.2 from by rw [HVS.out]; unfold endS; split <;> simp [failS, HBAD.out])
                have y := HC.out.fb.k.cell
                have yl := HC.out.fb.k.lt
                have hbx : ((L5.2.2 : Int) != 0) = true := by simp [HBAD.out]
                have hbe : ((L5.2.2 : Int) == 0) = false := by simp [HBAD.out]
                have HDN := hid (HVN.out (by rw [HDS.out]; exact HBAD.out))
                have HSS := hid (show ∀ wx, CI w.heap.size wm.heap.size (wm.heap.size + 1) w.heap.size (.slice (some ⟨g, o, none⟩) b.length cap) b 26 w wx L5.2 #[.slice a5 ms5.length c5, .slice a3 ms3.length c3, .slice a4 ms4.length c4, .int .i64 x3] #[.slice none 0 0, .slice none 0 0, .slice none 0 0, .int .i64 0] → wx.cell? ⟨wm.heap.size, 1, none⟩ = some (.int .i64 L5.2.1) ∧ wx.cell? ⟨wm.heap.size, 2, none⟩ = some (.int .i64 L5.2.2) from fun wx hx => ⟨hx.fb.k.cell 1, hx.fb.k.cell 2⟩)
                have HKF := hid (((((Kp.refl w.heap.size wr).set 0 (.slice none 0 0)).set 1 (.slice none 0 0)).set 2 (.slice none 0 0)).set 3 (.int .i64 0))
                have HSF := hid (show ∀ m : Nat, (((((wr.setCell ⟨w.heap.size, 0, none⟩ (.slice none 0 0)).setCell ⟨w.heap.size, 1, none⟩ (.slice none 0 0)).setCell ⟨w.heap.size, 2, none⟩ (.slice none 0 0)).setCell ⟨w.heap.size, 3, none⟩ (.int .i64 0)).drewN m).cell? ⟨wm.heap.size, 1, none⟩ = some (.int .i64 L5.2.1) ∧ (((((wr.setCell ⟨w.heap.size, 0, none⟩ (.slice none 0 0)).setCell ⟨w.heap.size, 1, none⟩ (.slice none 0 0)).setCell ⟨w.heap.size, 2, none⟩ (.slice none 0 0)).setCell ⟨w.heap.size, 3, none⟩ (.int .i64 0)).drewN m).cell? ⟨wm.heap.size, 2, none⟩ = some (.int .i64 L5.2.2) from fun m => by
                  have hx := (HC.out.fb.kpo HKF.out (Ne.symm HC.out.rr) (Nat.le_refl _)).k
                  exact ⟨(hx.drewN m).cell 1, (hx.drewN m).cell 2⟩)
                have z := HC.out.rs.cell
                have zf := HC.out.rs.free
                have zl := HC.out.rs.lt
                have bfc := ((((HC.out.rs.set 0 (.slice none 0 0)).set 1 (.slice none 0 0)).set 2 (.slice none 0 0)).set 3 (.int .i64 0)).cell
                have HBF := hid (show ∀ m : Nat, Bw w (((((wr.setCell ⟨w.heap.size, 0, none⟩ (.slice none 0 0)).setCell ⟨w.heap.size, 1, none⟩ (.slice none 0 0)).setCell ⟨w.heap.size, 2, none⟩ (.slice none 0 0)).setCell ⟨w.heap.size, 3, none⟩ (.int .i64 0)).drewN m) from fun m => ((HC.out.kp.two HKF.out (Nat.le_refl _)).toBw (Nat.le_of_lt HRB.out)).drewN m)
                go_upto_region 30 with fail
                refine wp_region_W (fun w' => w'.cell? ⟨wm.heap.size, 1, none⟩ = some (.int .i64 L5.2.1) ∧ w'.cell? ⟨wm.heap.size, 2, none⟩ = some (.int .i64 L5.2.2)) (fun j => if j == 9 then 0 else 1) (by kernel_rfl) ?_
                refine wpAnyW_take (i := 0) (oi := { dst := some 156, op := Op.build 26 #[], type := 26, pos := "ref.go:301", after := #[], guard := none }) (v := ?_) rfl (by kernel_rfl) (by kernel_rfl) (by kernel_rfl) (by kernel_rfl) (fun _ _ _ h => h) (Or.inl ⟨by rfl, fun w _ => ?_⟩) ?_
                rotate_left
                · (go_simp; first | done | with_reducible rfl)
                try simp only [Act.put, List.setIfInBounds_toArray, List.set_cons_zero, List.set_cons_succ]
                refine wpAnyW_take (i := 1) (oi := { dst := some 157, op := Op.move (Operand.tmp 7), type := 68, pos := "ref.go:301", after := #[{ on := 9, ground := Ground.gcOnly Departure.lateStores }], guard := none }) (v := ?_) rfl (by kernel_rfl) (by kernel_rfl) (by kernel_rfl) (by kernel_rfl) (fun _ _ _ h => h) (Or.inl ⟨by rfl, fun w _ => ?_⟩) ?_
                rotate_left
                · (go_simp; first | done | with_reducible rfl)
                try simp only [Act.put, List.setIfInBounds_toArray, List.set_cons_zero, List.set_cons_succ]
                refine wpAnyW_take (i := 2) (oi := { dst := some 158, op := Op.nilCheck (Operand.tmp 157), type := 0, pos := "ref.go:301", after := #[{ on := 1, ground := Ground.data }, { on := 9, ground := Ground.gcOnly Departure.lateStores }], guard := none }) (v := ?_) rfl (by kernel_rfl) (by kernel_rfl) (by kernel_rfl) (by kernel_rfl) (fun _ _ _ h => h) (Or.inl ⟨by rfl, fun w _ => ?_⟩) ?_
                rotate_left
                · (go_simp; first | done | with_reducible rfl)
                try simp only [Act.put, List.setIfInBounds_toArray, List.set_cons_zero, List.set_cons_succ]
                refine wpAnyW_take (i := 3) (oi := { dst := some 159, op := Op.fieldAddr 70 (Operand.tmp 158) 2, type := 0, pos := "ref.go:301", after := #[{ on := 2, ground := Ground.data }, { on := 9, ground := Ground.gcOnly Departure.lateStores }], guard := none }) (v := ?_) rfl (by kernel_rfl) (by kernel_rfl) (by kernel_rfl) (by kernel_rfl) (fun _ _ _ h => h) (Or.inl ⟨by rfl, fun w _ => ?_⟩) ?_
                rotate_left
                · (go_simp; first | done | with_reducible rfl)
                try simp only [Act.put, List.setIfInBounds_toArray, List.set_cons_zero, List.set_cons_succ]
                refine wpAnyW_load (i := 4) (oi := { dst := some 160, op := Op.load 3 (Operand.tmp 159), type := 3, pos := "ref.go:301", after := #[{ on := 3, ground := Ground.data }, { on := 9, ground := Ground.gcOnly Departure.lateStores }], guard := none }) (v := ?_) rfl (by kernel_rfl) (by kernel_rfl) (by kernel_rfl) (by kernel_rfl) (by kernel_rfl) (fun _ _ _ h => h) (Or.inl ⟨by rfl, fun w hS => ?_⟩) (HSS.out _ (HC.out.bw (by repeat (first | exact Bw.refl _ | apply Bw.alloc | apply Bw.drewN | apply Bw.drew)))) ?_
                rotate_left
                · (obtain ⟨s0, s1⟩ := hS; go_simp; first | done | with_reducible rfl)
                try simp only [Act.put, List.setIfInBounds_toArray, List.set_cons_zero, List.set_cons_succ]
                refine wpAnyW_take (i := 5) (oi := { dst := some 161, op := Op.move (Operand.tmp 7), type := 68, pos := "ref.go:301", after := #[{ on := 10, ground := Ground.gcOnly Departure.lateStores }], guard := none }) (v := ?_) rfl (by kernel_rfl) (by kernel_rfl) (by kernel_rfl) (by kernel_rfl) (fun _ _ _ h => h) (Or.inl ⟨by rfl, fun w _ => ?_⟩) ?_
                rotate_left
                · (go_simp; first | done | with_reducible rfl)
                try simp only [Act.put, List.setIfInBounds_toArray, List.set_cons_zero, List.set_cons_succ]
                refine wpAnyW_take (i := 6) (oi := { dst := some 162, op := Op.nilCheck (Operand.tmp 161), type := 0, pos := "ref.go:301", after := #[{ on := 5, ground := Ground.data }, { on := 10, ground := Ground.gcOnly Departure.lateStores }], guard := none }) (v := ?_) rfl (by kernel_rfl) (by kernel_rfl) (by kernel_rfl) (by kernel_rfl) (fun _ _ _ h => h) (Or.inl ⟨by rfl, fun w _ => ?_⟩) ?_
                rotate_left
                · (go_simp; first | done | with_reducible rfl)
                try simp only [Act.put, List.setIfInBounds_toArray, List.set_cons_zero, List.set_cons_succ]
                refine wpAnyW_take (i := 7) (oi := { dst := some 163, op := Op.fieldAddr 70 (Operand.tmp 162) 1, type := 0, pos := "ref.go:301", after := #[{ on := 6, ground := Ground.data }, { on := 10, ground := Ground.gcOnly Departure.lateStores }], guard := none }) (v := ?_) rfl (by kernel_rfl) (by kernel_rfl) (by kernel_rfl) (by kernel_rfl) (fun _ _ _ h => h) (Or.inl ⟨by rfl, fun w _ => ?_⟩) ?_
                rotate_left
                · (go_simp; first | done | with_reducible rfl)
                try simp only [Act.put, List.setIfInBounds_toArray, List.set_cons_zero, List.set_cons_succ]
                refine wpAnyW_load (i := 8) (oi := { dst := some 164, op := Op.load 3 (Operand.tmp 163), type := 3, pos := "ref.go:301", after := #[{ on := 7, ground := Ground.data }, { on := 10, ground := Ground.gcOnly Departure.lateStores }], guard := none }) (v := ?_) rfl (by kernel_rfl) (by kernel_rfl) (by kernel_rfl) (by kernel_rfl) (by kernel_rfl) (fun _ _ _ h => h) (Or.inl ⟨by rfl, fun w hS => ?_⟩) (HSS.out _ (HC.out.bw (by repeat (first | exact Bw.refl _ | apply Bw.alloc | apply Bw.drewN | apply Bw.drew)))) ?_
                rotate_left
                · (obtain ⟨s0, s1⟩ := hS; go_simp; first | done | with_reducible rfl)
                try simp only [Act.put, List.setIfInBounds_toArray, List.set_cons_zero, List.set_cons_succ]
                refine wpAnyW_ready (rs := [9]) (by kernel_rfl) (by simp) ?_
                refine (AllReadyW.cons (o := { dst := none, op := Op.store 26 (Operand.tmp 2) (Operand.tmp 156), type := 0, pos := "ref.go:301", after := #[{ on := 0, ground := Ground.data }, { on := 0, ground := Ground.phase }, { on := 1, ground := Ground.textOnly Departure.lateStores }, { on := 2, ground := Ground.textOnly Departure.lateStores }, { on := 3, ground := Ground.textOnly Departure.lateStores }, { on := 4, ground := Ground.textOnly Departure.lateStores }, { on := 5, ground := Ground.textOnly Departure.lateStores }, { on := 6, ground := Ground.textOnly Departure.lateStores }, { on := 7, ground := Ground.textOnly Departure.lateStores }, { on := 8, ground := Ground.textOnly Departure.lateStores }], guard := none }) rfl (fun K hK => ?_) AllReadyW.nil)
                go_simp
                refine hK.out _ _ (HSF.out _) ?_
                clear hK K
                try simp only [Act.put, List.setIfInBounds_toArray, List.set_cons_zero, List.set_cons_succ]
                refine wpAnyW_take (i := 10) (oi := { dst := some 3, op := Op.assign (Operand.tmp 160), type := 3, pos := "ref.go:301", after := #[{ on := 4, ground := Ground.data }, { on := 9, ground := Ground.chain }, { on := 0, ground := Ground.phase }, { on := 1, ground := Ground.phase }, { on := 2, ground := Ground.phase }, { on := 3, ground := Ground.phase }, { on := 4, ground := Ground.phase }, { on := 5, ground := Ground.textOnly Departure.lateStores }, { on := 6, ground := Ground.textOnly Departure.lateStores }, { on := 7, ground := Ground.textOnly Departure.lateStores }, { on := 8, ground := Ground.textOnly Departure.lateStores }, { on := 9, ground := Ground.phase }], guard := none }) (v := ?_) rfl (by kernel_rfl) (by kernel_rfl) (by kernel_rfl) (by kernel_rfl) (fun _ _ _ h => h) (Or.inl ⟨by rfl, fun w _ => ?_⟩) ?_
                rotate_left
                · (go_simp; first | done | with_reducible rfl)
                try simp only [Act.put, List.setIfInBounds_toArray, List.set_cons_zero, List.set_cons_succ]
                refine wpAnyW_take (i := 11) (oi := { dst := some 4, op := Op.assign (Operand.tmp 164), type := 3, pos := "ref.go:301", after := #[{ on := 8, ground := Ground.data }, { on := 10, ground := Ground.chain }, { on := 0, ground := Ground.phase }, { on := 1, ground := Ground.phase }, { on := 2, ground := Ground.phase }, { on := 3, ground := Ground.phase }, { on := 4, ground := Ground.phase }, { on := 5, ground := Ground.phase }, { on := 6, ground := Ground.phase }, { on := 7, ground := Ground.phase }, { on := 8, ground := Ground.phase }, { on := 9, ground := Ground.phase }, { on := 10, ground := Ground.phase }], guard := none }) (v := ?_) rfl (by kernel_rfl) (by kernel_rfl) (by kernel_rfl) (by kernel_rfl) (fun _ _ _ h => h) (Or.inl ⟨by rfl, fun w _ => ?_⟩) ?_
                rotate_left
                · (go_simp; first | done | with_reducible rfl)
                try simp only [Act.put, List.setIfInBounds_toArray, List.set_cons_zero, List.set_cons_succ]
                refine wpAnyW_done (by kernel_rfl) ?_ _
                go_wp2
                all_goals
                  refine bodyPost_ret (v := .tuple #[.agg #[.slice none 0 0, .slice none 0 0, .slice none 0 0, .int .i64 0], .int .i64 L5.2.2, .int .i64 L5.2.1]) (by simp [results, Tryd.results11, go_sem, bfc]) rfl ?_
                  exact FDP.bad (HBF.out _) HDS.out HDN.out

end

end Go.Proofs.YtfhnhbpmiodomaaDoor
