/- For every number of values: a function that puts so many on its stack and takes all but one away is right just if they are not too many, and its heights go up and down (P11.4): the statement VerifyStraight returns true. -/
import Derived.Test.YtjcefklbmioeoaaDoorVw
set_option linter.unusedVariables false
set_option linter.unusedSimpArgs false
namespace Go.Proofs.YtjcefklbmioeoaaDoor.verifyStraight
open Go.ChangeShapes Go.WideShapes Go.ChangeAt Go.RowKit

set_option maxRecDepth 100000 in
set_option maxHeartbeats 1000000 in
theorem walk (a0 : Int) (w0 : -9223372036854775808 ≤ a0 ∧ a0 ≤ 9223372036854775807) (w : World) (hs : Og w) :
    Calls Tryd.prog 7 #[.int .i64 a0] w fun e w' => e = .returned (.bool true) ∧ Bw w w' := by
  have HO := hid hs
  clear hs
  obtain ⟨i1, hi1, hz1, hs1, hy1⟩ := info_parts infoEN
  have I1 := hid (And.intro hi1 (And.intro hz1 (And.intro hs1 hy1)))
  clear hi1 hz1 hs1 hy1
  by_cases hA : a0 < 1
  · have bA : decide (a0 < 1) = true := decide_eq_true hA
    clear hA
    go_enter Tryd.func7, Tryd.ntmps7
    go_wp2_with (first
      | (go_at_call 9; refine (live_any (HO.out.bw ((Bw.refl w).trans (by repeat (first | exact Bw.refl _ | apply Bw.alloc | apply Bw.drewN | apply Bw.drew))))).mono ?_; rintro e wq ⟨rfl, hb1⟩; have HE := hid (((Bw.refl w).trans (by repeat (first | exact Bw.refl _ | apply Bw.alloc | apply Bw.drewN | apply Bw.drew))).trans hb1); clear hb1)
      | fail)
    all_goals go_ret
    all_goals exact ⟨rfl, HE.out⟩
  have bA : decide (a0 < 1) = false := decide_eq_false hA
  by_cases hB : 300 < a0
  · have bB : decide (300 < a0) = true := decide_eq_true hB
    clear hA hB
    go_enter Tryd.func7, Tryd.ntmps7
    go_wp2_with (first
      | (go_at_call 9; refine (live_any (HO.out.bw ((Bw.refl w).trans (by repeat (first | exact Bw.refl _ | apply Bw.alloc | apply Bw.drewN | apply Bw.drew))))).mono ?_; rintro e wq ⟨rfl, hb1⟩; have HE := hid (((Bw.refl w).trans (by repeat (first | exact Bw.refl _ | apply Bw.alloc | apply Bw.drewN | apply Bw.drew))).trans hb1); clear hb1)
      | fail)
    all_goals go_ret
    all_goals exact ⟨rfl, HE.out⟩
  have bB : decide (300 < a0) = false := decide_eq_false hB
  obtain ⟨n, rfl⟩ : ∃ n : Nat, a0 = n := ⟨a0.toNat, by omega⟩
  have HN1 := hid (show 1 ≤ n by omega)
  have HN3 := hid (show n ≤ 300 by omega)
  have hn300 : (n : Int) ≤ 300 := by omega
  clear hA hB w0
  go_enter Tryd.func7, Tryd.ntmps7
  go_wp2
  go_loopw [3, 4] (fun l j wr => ∃ (i : Nat) (ms : List (Int × Int × Int)), i ≤ n ∧ j = .int .i64 (i : Nat) ∧ ms = stI i ∧ OR w wr l ms) (fun _ j _ => n - (intOf j).toNat)
  case atStart => exact ⟨0, [], Nat.zero_le _, rfl, rfl, OR.nil w⟩
  case round =>
    obtain ⟨i, ms, hi, rfl, hms, hor⟩ := hrel
    have HOR := hid hor
    have HMS := hid hms
    have HML := hid (show ms.length = i by rw [hms, stI_len])
    obtain ⟨al, cl, el⟩ := own_form hor.own
    subst el
    clear hor hms
    by_cases hlt : i < n
    · have hlt2 : (i : Int) < (n : Int) := by omega
      have HLE := hid (show i + 1 ≤ n by omega)
      go_wp2_with (first
        | (at_builtin; refine wpList_append_row _ rfl _ _ 43 rfl 52 i1 (.agg #[.int .i64 0, .int .i64 0, .int .i64 0]) 3 24 undLN I1.out.1 I1.out.2.1 I1.out.2.2.1 I1.out.2.2.2 rfl (by decide) (.slice al ms.length cl) ms.length (ms.flatMap insC) rfl (own_bw HOR.out.own (by repeat (first | exact Bw.refl _ | apply Bw.alloc | apply Bw.drewN | apply Bw.drew))) _ 1 1 (insC ((0, (i : Int), 0) : Int × Int × Int)) rfl rfl ?c1 ?c2 ?c3 ?c4 ?_)
        | fail)
      try (case c1 =>
        intro j u hj
        match j, hj with
        | 0, hj => simp [insC] at hj; subst hj; simp [Addr.add, go_sem, *]
        | 1, hj => simp [insC] at hj; subst hj; simp [Addr.add, go_sem, *]
        | 2, hj => simp [insC] at hj; subst hj; simp [Addr.add, go_sem, *]
        | j + 3, hj => simp [insC] at hj)
      case c2 => first | rfl | (simp [go_sem]; done) | (intro u hu; simp [insC] at hu; rcases hu with rfl | rfl | rfl <;> rfl)
      case c3 => have := HML.out; have := HN3.out; unfold maxLen; omega
      case c4 => have := HML.out; have := HN3.out; omega
      intro l' w2 hown hgr hnew
      have HOR2 := hid (HOR.out.push (p := ((0, (i : Int), 0) : Int × Int × Int)) (by repeat (first | exact Bw.refl _ | apply Bw.alloc | apply Bw.drewN | apply Bw.drew)) hgr hown (by simpa only [World.size_alloc] using hnew))
      obtain ⟨al', cl', e⟩ := own_form hown
      subst e
      clear hown hgr hnew
      go_wp2
      go_roundw
      case rel => exact ⟨i + 1, ms ++ [((0, (i : Int), 0) : Int × Int × Int)], by omega, by go_num, by rw [stI_succ, HMS.out], HOR2.out⟩
      case measure => simp [intOf]; omega
    · obtain rfl : i = n := by omega
      clear hlt hi
      go_wp2
      go_loopw [3, 5] (fun l j wr => ∃ (k : Nat) (ms : List (Int × Int × Int)), 1 ≤ k ∧ k ≤ i ∧ j = .int .i64 (k : Nat) ∧ ms = stI i ++ stP (k - 1) ∧ OR w wr l ms) (fun _ j _ => i - (intOf j).toNat)
      case atStart => exact ⟨1, ms, Nat.le_refl _, HN1.out, rfl, by rw [HMS.out]; simp [stP], by have := HOR.out; simpa only [HML.out] using this⟩
      case round =>
        obtain ⟨k, ms, hk1, hk, rfl, hms, hor⟩ := hrel
        clear HOR HMS HML
        have HOR := hid hor
        have HMS := hid hms
        have HML := hid (show ms.length = i + (k - 1) by rw [hms, List.length_append, stI_len, stP_len])
        obtain ⟨al, cl, el⟩ := own_form hor.own
        subst el
        clear hor hms
        by_cases hlt : k < i
        · have hlt2 : (k : Int) < (i : Int) := by omega
          have HKK := hid (And.intro hk1 hk)
          go_wp2_with (first
            | (at_builtin; refine wpList_append_row _ rfl _ _ 43 rfl 52 i1 (.agg #[.int .i64 0, .int .i64 0, .int .i64 0]) 3 24 undLN I1.out.1 I1.out.2.1 I1.out.2.2.1 I1.out.2.2.2 rfl (by decide) (.slice al ms.length cl) ms.length (ms.flatMap insC) rfl (own_bw HOR.out.own (by repeat (first | exact Bw.refl _ | apply Bw.alloc | apply Bw.drewN | apply Bw.drew))) _ 1 1 (insC ((4, 0, 0) : Int × Int × Int)) rfl rfl ?c1 ?c2 ?c3 ?c4 ?_)
            | fail)
          try (case c1 =>
            intro j u hj
            match j, hj with
            | 0, hj => simp [insC] at hj; subst hj; simp [Addr.add, go_sem, *]
            | 1, hj => simp [insC] at hj; subst hj; simp [Addr.add, go_sem, *]
            | 2, hj => simp [insC] at hj; subst hj; simp [Addr.add, go_sem, *]
            | j + 3, hj => simp [insC] at hj)
          case c2 => first | rfl | (simp [go_sem]; done) | (intro u hu; simp [insC] at hu; rcases hu with rfl | rfl | rfl <;> rfl)
          case c3 => have := HML.out; have := HN3.out; have := HKK.out; unfold maxLen; omega
          case c4 => have := HML.out; have := HN3.out; have := HKK.out; omega
          intro l' w2 hown hgr hnew
          have HOR2 := hid (HOR.out.push (p := ((4, 0, 0) : Int × Int × Int)) (by repeat (first | exact Bw.refl _ | apply Bw.alloc | apply Bw.drewN | apply Bw.drew)) hgr hown (by simpa only [World.size_alloc] using hnew))
          obtain ⟨al', cl', e⟩ := own_form hown
          subst e
          clear hown hgr hnew
          go_wp2
          go_roundw
          case rel => exact ⟨k + 1, ms ++ [((4, 0, 0) : Int × Int × Int)], by omega, by omega, by go_num, by rw [HMS.out, show k + 1 - 1 = (k - 1) + 1 by omega, stP_succ, List.append_assoc], HOR2.out⟩
          case measure => simp [intOf]; omega
        · obtain rfl : k = i := by omega
          clear hlt hk hk1
          go_wp2_with (first
            | (at_builtin; refine wpList_append_row _ rfl _ _ 43 rfl 52 i1 (.agg #[.int .i64 0, .int .i64 0, .int .i64 0]) 3 24 undLN I1.out.1 I1.out.2.1 I1.out.2.2.1 I1.out.2.2.2 rfl (by decide) (.slice al ms.length cl) ms.length (ms.flatMap insC) rfl (own_bw HOR.out.own (by repeat (first | exact Bw.refl _ | apply Bw.alloc | apply Bw.drewN | apply Bw.drew))) _ 1 1 (insC ((27, 0, 0) : Int × Int × Int)) rfl rfl ?c1 ?c2 ?c3 ?c4 ?_)
            | fail)
          try (case c1 =>
            intro j u hj
            match j, hj with
            | 0, hj => simp [insC] at hj; subst hj; simp [Addr.add, go_sem, *]
            | 1, hj => simp [insC] at hj; subst hj; simp [Addr.add, go_sem, *]
            | 2, hj => simp [insC] at hj; subst hj; simp [Addr.add, go_sem, *]
            | j + 3, hj => simp [insC] at hj)
          case c2 => first | rfl | (simp [go_sem]; done) | (intro u hu; simp [insC] at hu; rcases hu with rfl | rfl | rfl <;> rfl)
          case c3 => have := HML.out; have := HN3.out; have := HN1.out; unfold maxLen; omega
          case c4 => have := HML.out; have := HN3.out; have := HN1.out; omega
          intro l' w2 hown hgr hnew
          have HOR2 := hid (HOR.out.push (p := ((27, 0, 0) : Int × Int × Int)) (by repeat (first | exact Bw.refl _ | apply Bw.alloc | apply Bw.drewN | apply Bw.drew)) hgr hown (by simpa only [World.size_alloc] using hnew))
          obtain ⟨al', cl', e⟩ := own_form hown
          subst e
          clear hown hgr hnew
          have HRO := hid (show OR w w2 (.slice al' (ms.length + 1) cl') (stC k) from by
            have h := HOR2.out
            have e : ms ++ [((27, 0, 0) : Int × Int × Int)] = stC k := by rw [HMS.out]; rfl
            rw [e] at h
            exact h)
          have HRW := hid (show RIns w2 (fun _ => True) (.slice al' (ms.length + 1) cl') (stC k) from HRO.out.row (st_i64 HN3.out) (by rw [stC_len HN1.out]; have := HN3.out; unfold maxLen; omega))
          have HBW := hid HRO.out.bw
          have HPC := hid (show Blk ((w2.alloc (.cells #[.int .i64 0, .int .i64 0, .slice none 0 0, .slice none 0 0, .slice al' (ms.length + 1) cl', .slice none 0 0] 46)).alloc (.cells #[.slice (some ⟨w2.heap.size, 0, none⟩) 1 1, .slice none 0 0, .slice none 0 0, .int .i64 0] 26)) w2.heap.size #[.int .i64 0, .int .i64 0, .slice none 0 0, .slice none 0 0, .slice al' (ms.length + 1) cl', .slice none 0 0] 46 from (Blk.new w2 _ _).alloc _)
          have HPX := hid (show Blk ((w2.alloc (.cells #[.int .i64 0, .int .i64 0, .slice none 0 0, .slice none 0 0, .slice al' (ms.length + 1) cl', .slice none 0 0] 46)).alloc (.cells #[.slice (some ⟨w2.heap.size, 0, none⟩) 1 1, .slice none 0 0, .slice none 0 0, .int .i64 0] 26)) (w2.heap.size + 1) #[.slice (some ⟨w2.heap.size, 0, none⟩) 1 1, .slice none 0 0, .slice none 0 0, .int .i64 0] 26 from by have := Blk.new (w2.alloc (.cells #[.int .i64 0, .int .i64 0, .slice none 0 0, .slice none 0 0, .slice al' (ms.length + 1) cl', .slice none 0 0] 46)) #[.slice (some ⟨w2.heap.size, 0, none⟩) 1 1, .slice none 0 0, .slice none 0 0, .int .i64 0] 26; simpa only [World.size_alloc] using this)
          clear HOR HOR2 HRO
          by_cases hbig : 256 < k
          · have HNB := hid hbig
            have bC : decide (256 < (k : Int)) = true := decide_eq_true (by omega)
            clear hbig
            go_wp2_with (first
              | (go_at_call 10; refine (chk_stB HNB.out HN3.out (HO.out.bw (HBW.out.trans (by repeat (first | exact Bw.refl _ | apply Bw.alloc | apply Bw.drewN | apply Bw.drew)))) (RL.bw HRW.out (by repeat (first | exact Bw.refl _ | apply Bw.alloc | apply Bw.drewN | apply Bw.drew))) HPC.out).mono ?_; rintro e w3 ⟨hb3, rfl⟩; have HB3 := hid (HBW.out.trans (Bw.trans (by repeat (first | exact Bw.refl _ | apply Bw.alloc | apply Bw.drewN | apply Bw.drew)) hb3)); have HRW3 := hid (RL.bw HRW.out (Bw.trans (by repeat (first | exact Bw.refl _ | apply Bw.alloc | apply Bw.drewN | apply Bw.drew)) hb3)); have HPC3 := hid (HPC.out.bw hb3); have u := (HPX.out.bw hb3).cell; have ul := (HPX.out.bw hb3).lt; clear hb3)
              | (go_at_call 13; refine (hts_stB HNB.out HN3.out (HO.out.bw HB3.out) HRW3.out HPC3.out).mono ?_; rintro e w4 ⟨hb4, rfl⟩; have HB4 := hid (HB3.out.trans hb4); clear hb4)
              | (go_at_call 12; refine (num_any _ _).mono ?_; rintro e wn ⟨rfl, hwn⟩; subst wn)
              | (go_at_call 9; refine (live_any (HO.out.bw (HB4.out.trans (by repeat (first | exact Bw.refl _ | apply Bw.alloc | apply Bw.drewN | apply Bw.drew))))).mono ?_; rintro e wq ⟨rfl, hb1⟩; have HE := hid ((HB4.out.trans (by repeat (first | exact Bw.refl _ | apply Bw.alloc | apply Bw.drewN | apply Bw.drew))).trans hb1); clear hb1)
              | fail)
            all_goals go_ret
            all_goals exact ⟨rfl, HE.out⟩
          · have HNS := hid (show k ≤ 256 by omega)
            have bC : decide (256 < (k : Int)) = false := decide_eq_false (by omega)
            clear hbig
            go_wp2_with (first
              | (go_at_call 10; refine (chk_st HN1.out HNS.out (HO.out.bw (HBW.out.trans (by repeat (first | exact Bw.refl _ | apply Bw.alloc | apply Bw.drewN | apply Bw.drew)))) (RL.bw HRW.out (by repeat (first | exact Bw.refl _ | apply Bw.alloc | apply Bw.drewN | apply Bw.drew))) HPC.out).mono ?_; rintro e w3 ⟨hb3, rfl⟩; have HB3 := hid (HBW.out.trans (Bw.trans (by repeat (first | exact Bw.refl _ | apply Bw.alloc | apply Bw.drewN | apply Bw.drew)) hb3)); have HRW3 := hid (RL.bw HRW.out (Bw.trans (by repeat (first | exact Bw.refl _ | apply Bw.alloc | apply Bw.drewN | apply Bw.drew)) hb3)); have HPC3 := hid (HPC.out.bw hb3); have u := (HPX.out.bw hb3).cell; have ul := (HPX.out.bw hb3).lt; clear hb3)
              | (go_at_call 13; refine (hts_st HN1.out HNS.out (HO.out.bw HB3.out) HRW3.out HPC3.out).mono ?_; rintro e w4 ⟨hb4, b, o, c, L, rfl, hL, hlb, hce⟩; have HB4 := hid (HB3.out.trans hb4); have HCE := hid hce; have HLB := hid hlb; have HL := hid hL; have hL1 : ((L : Int) != 2 * (k : Int)) = false := (by simp; omega); clear hb4 hce hlb hL)
              | (go_at_call 12; refine (num_any _ _).mono ?_; rintro e wn ⟨rfl, hwn⟩; subst wn)
              | fail)
            go_loopw [12] (fun j wr => ∃ q : Nat, q ≤ 2 * k ∧ j = .int .i64 (q : Nat) ∧ Bw w4 wr) (fun j _ => 2 * k - (intOf j).toNat)
            case atStart => exact ⟨0, Nat.zero_le _, rfl, Bw.refl _⟩
            case round =>
              obtain ⟨q, hq, rfl, hbq⟩ := hrel
              have HBQ := hid hbq
              by_cases hlt : q < 2 * k
              · have hlt2 : decide ((q : Int) < 2 * (k : Int)) = true := decide_eq_true (by omega)
                have hlt3 : (q : Int) < (L : Int) := by have := HL.out; omega
                have hlt4 : (q : Int) < 2 * (k : Int) := by omega
                have cq := (World.cell?_of_block (w := w4) (w' := wr) (a := ⟨b, o + q, none⟩) (hbq.block b HLB.out)).trans (HCE.out q hlt)
                clear hbq
                by_cases hup : k < q
                · have bU : decide ((k : Int) < (q : Int)) = true := decide_eq_true (by omega)
                  have eh : hgt k q = 2 * (k : Int) - (q : Int) := by unfold hgt; rw [if_neg (by omega)]
                  rw [eh] at cq
                  clear eh
                  go_wp2
                  go_roundw
                  case rel => exact ⟨q + 1, by omega, by go_num, HBQ.out⟩
                  case measure => simp [intOf]; omega
                · have bU : decide ((k : Int) < (q : Int)) = false := decide_eq_false (by omega)
                  have eh : hgt k q = (q : Int) := by unfold hgt; rw [if_pos (by omega)]
                  rw [eh] at cq
                  clear eh
                  go_wp2
                  go_roundw
                  case rel => exact ⟨q + 1, by omega, by go_num, HBQ.out⟩
                  case measure => simp [intOf]; omega
              · obtain rfl : q = 2 * k := by omega
                have hlt2 : decide (((2 * k : Nat) : Int) < 2 * (k : Int)) = false := decide_eq_false (by omega)
                clear hbq hlt hq
                go_wp2_with (first
                  | (go_at_call 9; refine (live_any (HO.out.bw ((HB4.out.trans HBQ.out).trans (by repeat (first | exact Bw.refl _ | apply Bw.alloc | apply Bw.drewN | apply Bw.drew))))).mono ?_; rintro e wq ⟨rfl, hb1⟩; have HE := hid (((HB4.out.trans HBQ.out).trans (by repeat (first | exact Bw.refl _ | apply Bw.alloc | apply Bw.drewN | apply Bw.drew))).trans hb1); clear hb1)
                  | fail)
                all_goals go_ret
                all_goals exact ⟨rfl, HE.out⟩

set_option maxRecDepth 100000 in
theorem lifted (os : Os) (started : os.Started) (H : Type) (enc : TypeId × Value → H) :
    ReturnsInHanded {} Tryd.checked os 7 .any (fun w args => (Rows.verifyStraightSpec.pre enc Tryd.prog Tryd.f7 [] false w args ∧ laidMetH Tryd.prog laidS w) ∧ sizedMet enc Tryd.prog Tryd.f7 (OpenSpec.ofChange Rows.verifyStraightSpec) false w args)
      (Rows.verifyStraightSpec.post enc Tryd.prog Tryd.f7 false true false false) := by
  refine returnsInHanded_of_change_and (C := Tryd.checked) (X := fun w _ => laidMetH Tryd.prog laidS w) (fun _ _ _ hh h => h.of_heap hh) ownK started (by kernel_rfl) Tryd.func7
    (ChangeSpec.witness_shaped (enc := enc) (C := Tryd.checked) (os := os) (X := fun w _ => laidMetH Tryd.prog laidS w) false (World.doorLaid Tryd.prog 400 os) #[.int .i64 0] 8 rfl (World.shaped_of_RefB (by kernel_rfl) (by kernel_rfl)) (by kernel_rfl) (by kernel_rfl) (by kernel_rfl) (door_met os _)) ?_
  intro W base args ds gs before hval0 hW _ _ hL _
  have hval : ∀ (j : Nat) t v, Tryd.f7.params[j]? = some t → args[j]? = some v → Value.okWide Tryd.prog W .any base t v := hval0
  have hW' := hW
  obtain ⟨p, q, hA0, hV, rfl, hfz, hnd⟩ := hW
  have hA : DataW.TrodAll enc Tryd.prog W 0 (fun _ => true) true Tryd.f7.params.toList args.toList ds p := hA0
  rw [Tryd.params7] at hA hval
  obtain ⟨v0, vs0, d0, ds0, p0, q0, hargs, rfl, rfl, h0, r0⟩ := trodAll_cons hA
  obtain ⟨rfl, rfl, rfl⟩ := trodAll_nil r0
  obtain rfl : args = #[v0] := by cases args; simp_all
  obtain ⟨rfl, rfl⟩ := trodVars_none hV
  have k0 := h0
  have lt0 : ∀ x ∈ p0, x.block < W.heap.size := by obtain ⟨m, hm⟩ := k0; exact DataW.trod_lt m _ _ _ hm
  obtain ⟨a0, rfl, rfl, rfl, w00⟩ := open_int Tryd.underlying3 (hval 0 3 v0 rfl rfl) h0
  have w0 := bounds_i64 w00
  have hs := og_of_laid hL
  clear hA0 hval0
  refine (walk a0 w0 W hs).mono fun e W' ⟨he, bel⟩ => ?_
  subst he
  exact ⟨_, rfl, _, _, _, [], _, [], hW', trodAll_mk1 (shut_bool Tryd.underlying4 _), (trodAll_cons_mk (Below.trod laidOut (by kernel_rfl) (of_decide_eq_true (by kernel_rfl)) k0 bel lt0) trodAll_mk0), rfl, Below.frame bel _, fun h => by cases h⟩

theorem over : Rows.verifyStraightRow.holds Tryd.pinned (OpenSpec.ofChange Rows.verifyStraightSpec) :=
  OpenClaim.holds_of_wide 7 Tryd.f7 rfl rfl rfl rfl rfl rfl rfl ⟨rfl, rfl, rfl, rfl, rfl⟩ rfl rfl rfl rfl rfl (by kernel_rfl) Tryd.func7 (by kernel_rfl)
    (of_decide_eq_true (by kernel_rfl)) (by unfold Func.isWrapper; first | (rw [if_pos (by decide +kernel)]; kernel_rfl) | (rw [if_neg (by decide +kernel)]; exact ⟨rfl, rfl⟩))
    (fun os started H enc _ => lifted os started H enc)

theorem card : Rows.VerifyStraightCardSaid :=
  Claim7.holds_tied_plain_at .later [] [.data] true (true, "bf98603f10869f3e48e6e801a88e22ee42e8af4e5dbb7edcb6791b240bbdc05e") false
    over (fun _ h => by cases h) (by kernel_rfl) (fun _ h => by cases h) verifyStraight_row_tie rfl ⟨rfl, rfl⟩ (by kernel_rfl) rfl
    (fun f fn hf hfn => by
      obtain rfl : f = 7 := Option.some.inj ((show Tryd.prog.funcNamed "jacquard/jacquardlaw11.VerifyStraight" = some 7 by kernel_rfl).symm.trans hf) |>.symm
      obtain rfl : fn = Tryd.f7 := (Option.some.inj (Tryd.func7.symm.trans hfn)).symm
      exact ⟨by kernel_rfl, fun j t ht => by
        rw [Tryd.params7] at ht
        have hm : t ∈ [3] := by have h9 := Array.mem_of_getElem? ht; simp at h9 ⊢; first | exact h9 | (rcases h9 with h9 | h9 <;> simp [h9]; done) | (rcases h9 with h9 | h9 | h9 <;> simp [h9]; done) | (rcases h9 with h9 | h9 | h9 | h9 <;> simp [h9]; done)
        have hall : ([3].all fun u => !Tryd.prog.wantsStandIn u) = true := by kernel_rfl
        exact (show Tryd.prog.wantsStandIn t = false by simpa using List.all_eq_true.1 hall t hm)⟩)
    (by kernel_rfl)
end Go.Proofs.YtjcefklbmioeoaaDoor.verifyStraight
namespace Go.Proofs.YtjcefklbmioeoaaDoor
theorem verifyStraight_holds : Rows.VerifyStraightCardSaid := verifyStraight.card
#print axioms verifyStraight_holds
end Go.Proofs.YtjcefklbmioeoaaDoor
