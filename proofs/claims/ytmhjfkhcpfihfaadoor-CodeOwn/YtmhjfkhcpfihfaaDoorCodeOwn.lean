/- For every image: what is decoded is its own: writing over the bytes or over what was decoded changes nothing (the rules): the statement CodeOwn returns true, and its arguments read as before. -/
import Derived.Test.YtmhjfkhcpfihfaaDoorOf
set_option linter.unusedVariables false
set_option linter.unusedSimpArgs false
namespace Go.Proofs.YtmhjfkhcpfihfaaDoor.codeOwn
open Go.ChangeShapes Go.WideShapes Go.ChangeAt Go.RowKit

set_option maxRecDepth 100000 in
set_option maxHeartbeats 1000000 in
theorem walk (vf0 vs0 vk0 : Value) (m0 : AIm) (w : World) (hs : Og w) (w0 : RIm w (fun _ => True) vf0 vs0 vk0 m0) :
    Calls Tryd.prog 8 #[imV vf0 vs0 vk0 m0] w fun e w' => e = .returned (.bool true) ∧ Bw w w' := by
  obtain ⟨in1, ia1, ic1, ie1⟩ := w0.f1
  obtain ⟨in2, ia2, ic2, ie2⟩ := w0.f2
  obtain ⟨in3, ia3, ic3, ie3⟩ := w0.f3
  subst ie1 ie2 ie3
  unfold imV
  have HM := hid w0
  have HO := hid hs
  have HP := hid (Blk.new w #[.slice ia1 in1 ic1, .slice ia2 in2 ic2, .slice ia3 in3 ic3, .int .i64 m0.globals] 26)
  have HW0 := hid (show Bw w (w.alloc (.cells #[.slice ia1 in1 ic1, .slice ia2 in2 ic2, .slice ia3 in3 ic3, .int .i64 m0.globals] 26)) from Bw.alloc (Bw.refl w) _)
  have HB := hid (Bw.refl (w.alloc (.cells #[.slice ia1 in1 ic1, .slice ia2 in2 ic2, .slice ia3 in3 ic3, .int .i64 m0.globals] 26)))
  obtain ⟨B, hB⟩ : ∃ B, byts (iIm m0) = B := ⟨_, rfl⟩
  have HBB := hid hB
  clear w0 hs hB
  cases hok : oks (iIm m0)
  · have HOK := hid hok
    clear hok
    go_enter Tryd.func8, Tryd.ntmps8
    go_wp2_with (first
      | (go_at_call 9; refine (big_any _ _ _ m0 (fun _ => True) (HM.out.bw (HW0.out.trans (HB.out.trans (by repeat (first | exact Bw.refl _ | apply Bw.alloc | apply Bw.drewN | apply Bw.drew)))))).mono ?_; rintro e wq ⟨q, rfl, hq, hb1⟩; have hbq2 := (show ∀ {p : World}, Bw (w.alloc (.cells #[.slice ia1 in1 ic1, .slice ia2 in2 ic2, .slice ia3 in3 ic3, .int .i64 m0.globals] 26)) p → Bw p wq → Bw p wq from fun _ k => k) HB.out (Bw.trans (by repeat (first | exact Bw.refl _ | apply Bw.alloc | apply Bw.drewN | apply Bw.drew)) hb1); replace HB := hid (HB.out.trans hbq2); have u2 := (HP.out.bw HB.out).cell; have ul2 := (HP.out.bw HB.out).lt; clear hb1 hbq2; have HQ := hid hq; clear hq; cases q)
      | (go_at_call 10; refine (live_any (HO.out.bw (HW0.out.trans (HB.out.trans (by repeat (first | exact Bw.refl _ | apply Bw.alloc | apply Bw.drewN | apply Bw.drew)))))).mono ?_; rintro e wq ⟨rfl, hb1⟩; have hbq3 := (show ∀ {p : World}, Bw (w.alloc (.cells #[.slice ia1 in1 ic1, .slice ia2 in2 ic2, .slice ia3 in3 ic3, .int .i64 m0.globals] 26)) p → Bw p wq → Bw p wq from fun _ k => k) HB.out (Bw.trans (by repeat (first | exact Bw.refl _ | apply Bw.alloc | apply Bw.drewN | apply Bw.drew)) hb1); replace HB := hid (HB.out.trans hbq3); have u3 := (HP.out.bw HB.out).cell; have ul3 := (HP.out.bw HB.out).lt; clear hb1 hbq3)
      | (go_at_call 17; refine (num_any _ _).mono ?_; rintro e wn ⟨rfl, hwn⟩; subst wn)
      | (go_at_call 18; (fail_if_success (have _q := HX)); refine (enc_no (HM.out.bw (HW0.out.trans (HB.out.trans (by repeat (first | exact Bw.refl _ | apply Bw.alloc | apply Bw.drewN | apply Bw.drew))))) (small_len (HQ.out (by simp))) HOK.out).mono ?_; rintro e wq ⟨hb1, rfl⟩; have hbq4 := (show ∀ {p : World}, Bw (w.alloc (.cells #[.slice ia1 in1 ic1, .slice ia2 in2 ic2, .slice ia3 in3 ic3, .int .i64 m0.globals] 26)) p → Bw p wq → Bw p wq from fun _ k => k) HB.out (Bw.trans (by repeat (first | exact Bw.refl _ | apply Bw.alloc | apply Bw.drewN | apply Bw.drew)) hb1); replace HB := hid (HB.out.trans hbq4); have u4 := (HP.out.bw HB.out).cell; have ul4 := (HP.out.bw HB.out).lt; clear hb1 hbq4; have HX := hid trivial)
      | fail)
    all_goals go_ret
    all_goals exact ⟨rfl, HW0.out.trans HB.out⟩
  · have HOK := hid hok
    have HBL := hid (show SmallI m0 → B.length ≤ 4194304 from fun h => HBB.out ▸ small_len h)
    clear hok
    obtain ⟨i1, hi1, hz1, hs1, hy1⟩ := info_parts infoU8
    have I1 := hid (And.intro hi1 (And.intro hz1 (And.intro hs1 hy1)))
    clear hi1 hz1 hs1 hy1
    have HNP := hid (show 4 ≤ B.length by
      have e : B = markL ++ byts (iL iStr m0.strs ++ (iL (iL iN) m0.keys ++ (.N m0.globals :: iL iFn m0.funs))) := by rw [← HBB.out]; simp [iIm, byts, It.b]
      rw [e, List.length_append]
      have : markL.length = 4 := rfl
      omega)
    have HD := hid (by have := dec_enc m0 HOK.out; rw [HBB.out] at this; exact this : decS B = (B.length, 0) ∧ decI B = m0)
    go_enter Tryd.func8, Tryd.ntmps8
    go_wp2_with (first
      | (go_at_call 9; refine (big_any _ _ _ m0 (fun _ => True) (HM.out.bw (HW0.out.trans (HB.out.trans (by repeat (first | exact Bw.refl _ | apply Bw.alloc | apply Bw.drewN | apply Bw.drew)))))).mono ?_; rintro e wq ⟨q, rfl, hq, hb1⟩; have hbq5 := (show ∀ {p : World}, Bw (w.alloc (.cells #[.slice ia1 in1 ic1, .slice ia2 in2 ic2, .slice ia3 in3 ic3, .int .i64 m0.globals] 26)) p → Bw p wq → Bw p wq from fun _ k => k) HB.out (Bw.trans (by repeat (first | exact Bw.refl _ | apply Bw.alloc | apply Bw.drewN | apply Bw.drew)) hb1); replace HB := hid (HB.out.trans hbq5); have u5 := (HP.out.bw HB.out).cell; have ul5 := (HP.out.bw HB.out).lt; clear hb1 hbq5; have HQ := hid hq; clear hq; cases q)
      | (go_at_call 10; refine (live_any (HO.out.bw (HW0.out.trans (HB.out.trans (by repeat (first | exact Bw.refl _ | apply Bw.alloc | apply Bw.drewN | apply Bw.drew)))))).mono ?_; rintro e wq ⟨rfl, hb1⟩; have hbq6 := (show ∀ {p : World}, Bw (w.alloc (.cells #[.slice ia1 in1 ic1, .slice ia2 in2 ic2, .slice ia3 in3 ic3, .int .i64 m0.globals] 26)) p → Bw p wq → Bw p wq from fun _ k => k) HB.out (Bw.trans (by repeat (first | exact Bw.refl _ | apply Bw.alloc | apply Bw.drewN | apply Bw.drew)) hb1); replace HB := hid (HB.out.trans hbq6); have u6 := (HP.out.bw HB.out).cell; have ul6 := (HP.out.bw HB.out).lt; clear hb1 hbq6)
      | (go_at_call 17; refine (num_any _ _).mono ?_; rintro e wn ⟨rfl, hwn⟩; subst wn)
      | (go_at_call 18; (fail_if_success (have _q := HX)); refine (enc_yes (HM.out.bw (HW0.out.trans (HB.out.trans (by repeat (first | exact Bw.refl _ | apply Bw.alloc | apply Bw.drewN | apply Bw.drew))))) B HBB.out (by rw [← HBB.out]; exact (small_len (HQ.out (by simp)))) HOK.out).mono ?_; rintro e wE ⟨hb1, ax, cx, rfl, hx, hby⟩; have hbqE := (show ∀ {p : World}, Bw (w.alloc (.cells #[.slice ia1 in1 ic1, .slice ia2 in2 ic2, .slice ia3 in3 ic3, .int .i64 m0.globals] 26)) p → Bw p wE → Bw p wE from fun _ k => k) HB.out (Bw.trans (by repeat (first | exact Bw.refl _ | apply Bw.alloc | apply Bw.drewN | apply Bw.drew)) hb1); replace HB := hid (HB.out.trans hbqE); have HBE := hid HB.out; have HX := hid hx; have HXB := hid hby; clear hx hby hb1 hbqE; obtain ⟨gx, ox, ex, hgx, hcx⟩ := bs_form HX.out HNP.out; subst ex)
      | (at_builtin; (fail_if_success (have _q := HSA)); refine wpList_append_sl _ rfl _ _ 44 rfl wE.heap.size 5 i1 (.int .u8 0) 1 1 under22 I1.out.1 I1.out.2.1 I1.out.2.2.1 I1.out.2.2.2 rfl (by decide) (.slice (some ⟨_, 0, none⟩) 0 0) 0 [] rfl (own_empty _ 5 1 wE.heap.size _ rfl (Nat.le_refl _)) _ B.length (B.map (Value.int .u8)) rfl (HX.out.below (by repeat (first | exact Bw.refl _ | apply Bw.alloc | apply Bw.drewN | apply Bw.drew))) (ints_one _ _) (by have := HBL.out (HQ.out (by simp)); unfold maxLen; omega) (by have := HBL.out (HQ.out (by simp)); omega) (by simp only [World.size_alloc]; omega) ?_; intro va wA hown hgr; rw [Nat.zero_add, List.nil_append] at hown; have hbA := (show ∀ {p : World}, Bw wE p → Bw wE wA → Bw wE wA from fun _ k => k) (Bw.refl wE) (bw_grown (by repeat (first | exact Bw.refl _ | apply Bw.alloc | apply Bw.drewN | apply Bw.drew)) (Nat.le_refl _) (own_empty _ 5 1 wE.heap.size _ rfl (Nat.le_refl _)) hgr); obtain ⟨ga, ca, cur, ea, hga, hka, hla, hsa⟩ := own_blk hown HNP.out; subst ea; have HSA := hid hsa; have HKA := hid hka; have HLA := hid hla; have HBA := hid hbA; have HGE := hid hga; have HGL := hid hka.lt; clear hown hgr hbA hga hka hla hsa)
      | (go_at_call 20; (have _q := HSA; clear _q); (fail_if_success (have _q := HDY)); refine (dec_o (HSA.out.below (by repeat (first | exact Bw.refl _ | apply Bw.alloc | apply Bw.drewN | apply Bw.drew))) HXB.out (by have := HBL.out (HQ.out (by simp)); omega) (B.length, 0) HD.out.1 m0 HD.out.2).mono ?_; rintro e wD ⟨hb1, yn1, yn2, yn3, ya1, ya2, ya3, yc1, yc2, yc3, rfl, hi1⟩; have hi2 := (show ∀ {p : World}, Bw wA p → Bw p wD → RIo wD (fun y => p.heap.size ≤ y) (.slice ya1 yn1 yc1) (.slice ya2 yn2 yc2) (.slice ya3 yn3 yc3) m0 → (RIo wD (fun y => wA.heap.size ≤ y) (.slice ya1 yn1 yc1) (.slice ya2 yn2 yc2) (.slice ya3 yn3 yc3) m0 ∧ Bw wA wD) from fun k k2 h => ⟨h.low k.size, k.trans k2⟩) (by repeat (first | exact Bw.refl _ | apply Bw.alloc | apply Bw.drewN | apply Bw.drew)) hb1 hi1; have HDY := hid hi2.1; have HBD := hid (HBA.out.trans hi2.2); have HAD := hid hi2.2.size; have HKD := hid (HKA.out.bw hi2.2); have hDlt := hi2.2.size; unfold ImA; clear hb1 hi1 hi2 hDlt)
      | fail)
    rotate_left
    · all_goals go_ret
      all_goals exact ⟨rfl, HW0.out.trans HB.out⟩
    have HQL := hid (show B.length ≤ 4194304 from HBL.out (HQ.out (by simp)))
    go_loopw [9] (fun j wr => ∃ i : Nat, i ≤ B.length ∧ j = .int .i64 (i : Nat) ∧ OS wE wA.heap.size wD.heap.size (.slice ya1 yn1 yc1) (.slice ya2 yn2 yc2) (.slice ya3 yn3 yc3) m0 wr ∧ ∃ cur, Blk wr ga cur 5 ∧ B.length ≤ cur.size) (fun j _ => B.length - (intOf j).toNat)
    case atStart =>
      exact ⟨0, Nat.zero_le _, rfl, OS.start HBD.out HDY.out, cur, HKD.out.alloc _, HLA.out⟩
    case round =>
      obtain ⟨i, hi, rfl, hos, cur', hk, hc⟩ := hrel
      have HOS := hid hos
      have HKA' := hid hk
      have hB9 : B.length ≤ 9223372036854775807 := by have := HQL.out; omega
      by_cases hlt : i < B.length
      · have hlt2 : (i : Int) < (B.length : Int) := by omega
        obtain ⟨q, hq⟩ : ∃ q, wr.cell? ⟨ga, i, none⟩ = some q := ⟨_, by rw [hk.cell, Array.getElem?_eq_getElem (show i < cur'.size by omega)]⟩
        have zf := hk.free
        have zl := hk.lt
        have HC := hid hc
        clear hos hk hc
        go_wp2
        go_roundw
        case rel => exact ⟨i + 1, by omega, by go_num, HOS.out.setB HGE.out HGL.out HAD.out _ _, _, HKA'.out.set _ _, by simpa using HC.out⟩
        case measure => simp [intOf]; omega
      · obtain rfl : i = B.length := by omega
        obtain ⟨ms, hqs⟩ := hos.qs (Nat.le_trans HGE.out (Nat.le_of_lt HGL.out))
        obtain rfl := hqs.form
        have HQS := hid hqs
        have HML := hid hqs.len
        have y := hos.box.cell
        have yl := hos.box.lt
        replace HB := hid (HBE.out.trans hos.bw)
        have u := (HP.out.bw HB.out).cell
        have ul := (HP.out.bw HB.out).lt
        clear hos hk hc hqs
        go_wp2_with (first
          | (go_at_call 17; refine (num_any _ _).mono ?_; rintro e wn ⟨rfl, hwn⟩; subst wn)
          | (go_at_call 22; (fail_if_success (have _q := HSx)); refine (same_any _ _ _ _ _ _ m0 _ _ (HOS.out.im.im.bw (by repeat (first | exact Bw.refl _ | apply Bw.alloc | apply Bw.drewN | apply Bw.drew))) (HM.out.bw (HW0.out.trans (HB.out.trans (by repeat (first | exact Bw.refl _ | apply Bw.alloc | apply Bw.drewN | apply Bw.drew)))))).mono ?_; rintro e wS ⟨rfl, hb1⟩; have hbs := (show ∀ {p : World}, Bw wr p → Bw p wS → Bw wr wS from fun k k2 => k.trans k2) (by repeat (first | exact Bw.refl _ | apply Bw.alloc | apply Bw.drewN | apply Bw.drew)) hb1; have HQ2 := hid (HQS.out.bwr hbs); have HSx := hid trivial; clear hb1 hbs)
          | fail)
        go_loopw [10] (fun j wr => ∃ i : Nat, i ≤ ms.length ∧ j = .int .i64 (i : Nat) ∧ QS wE wD.heap.size (.slice ya1 ms.length yc1) (.slice ya2 yn2 yc2) (.slice ya3 yn3 yc3) m0 ms wr) (fun j _ => ms.length - (intOf j).toNat)
        case atStart => exact ⟨0, Nat.zero_le _, rfl, HQ2.out.bwr (by repeat (first | exact Bw.refl _ | apply Bw.alloc | apply Bw.drewN | apply Bw.drew))⟩
        case round =>
          obtain ⟨i, hi, rfl, hq3⟩ := hrel
          have HQ3 := hid hq3
          have m9 : ms.length ≤ 9223372036854775807 := by have := HML.out; unfold maxLen at this; omega
          have y := hq3.box.cell
          have yl := hq3.box.lt
          by_cases hlt : i < ms.length
          · have hlt2 : (i : Int) < (ms.length : Int) := by omega
            obtain ⟨M, hM⟩ : ∃ M, ms[i]? = some M := ⟨_, List.getElem?_eq_getElem hlt⟩
            have HLT := hid hM
            have HMM := hid (List.mem_of_getElem? hM)
            obtain ⟨n, hn⟩ : ∃ n, M.f.code.length = n := ⟨_, rfl⟩
            have HN := hid hn
            have n9 : n ≤ 9223372036854775807 := by have := hq3.cl M HMM.out; unfold maxLen at this; omega
            clear hq3 hn hM
            go_wp2
            go_loopw [11] (fun j wr => ∃ k : Nat, k ≤ n ∧ j = .int .i64 (k : Nat) ∧ QS wE wD.heap.size (.slice ya1 ms.length yc1) (.slice ya2 yn2 yc2) (.slice ya3 yn3 yc3) m0 ms wr) (fun j _ => n - (intOf j).toNat)
            case atStart => exact ⟨0, Nat.zero_le _, rfl, HQ3.out⟩
            case round =>
              obtain ⟨k, hk, rfl, hq4⟩ := hrel
              have HQ4 := hid hq4
              have y4 := hq4.box.cell
              have yl4 := hq4.box.lt
              obtain ⟨gf, of, ef, hcf, hgf, x4⟩ := hq4.at HLT.out
              have hw4 := hq4.wr M HMM.out
              rw [HN.out] at hw4
              obtain ⟨av, cv, ev⟩ := hw4.form
              rw [ev] at x4 hw4
              have HEF := hid ef
              by_cases hlt3 : k < n
              · have hlt4 : (k : Int) < (n : Int) := by omega
                obtain ⟨gc, cc, cu, ec, hG, hnc, hkc, hsz⟩ := hw4.at hlt3
                cases ec
                subst ef
                obtain ⟨q0, hq0⟩ : ∃ q, wr.cell? ⟨gc, k * 3, none⟩ = some q := ⟨_, by rw [hkc.cell, Array.getElem?_eq_getElem (show k * 3 < cu.size by omega)]⟩
                obtain ⟨q1, hq1⟩ : ∃ q, wr.cell? ⟨gc, k * 3 + 1, none⟩ = some q := ⟨_, by rw [hkc.cell, Array.getElem?_eq_getElem (show k * 3 + 1 < cu.size by omega)]⟩
                obtain ⟨q2, hq2⟩ : ∃ q, wr.cell? ⟨gc, k * 3 + 2, none⟩ = some q := ⟨_, by rw [hkc.cell, Array.getElem?_eq_getElem (show k * 3 + 2 < cu.size by omega)]⟩
                have zf := hkc.free
                have zl := hkc.lt
                have HG := hid hG
                clear hq4 hG
                go_wp2
                go_roundw
                case rel => exact ⟨k + 1, by omega, by go_num, ((HQ4.out.put HG.out _ _).put HG.out _ _).put HG.out _ _⟩
                case measure => simp [intOf]; omega
              · subst ef
                clear hq4 hw4
                go_wp2
                go_roundw
                case rel => exact ⟨i + 1, by omega, by go_num, HQ4.out⟩
                case measure => simp [intOf]; omega
          · obtain rfl : i = ms.length := by omega
            replace HB := hid (HBE.out.trans hq3.bw)
            have u := (HP.out.bw HB.out).cell
            have ul := (HP.out.bw HB.out).lt
            clear hq3
            go_wp2_with (first
              | (go_at_call 20; refine (dec_w (HX.out.below (HQ3.out.bw.trans (by repeat (first | exact Bw.refl _ | apply Bw.alloc | apply Bw.drewN | apply Bw.drew)))) HXB.out (by have := HBL.out (HQ.out (by simp)); omega) (B.length, 0) HD.out.1 m0 HD.out.2).mono ?_; rintro e wq ⟨hb1, zn1, zn2, zn3, za1, za2, za3, zc1, zc2, zc3, rfl, hi1⟩; have hbq1 := (show ∀ {p : World}, Bw (w.alloc (.cells #[.slice ia1 in1 ic1, .slice ia2 in2 ic2, .slice ia3 in3 ic3, .int .i64 m0.globals] 26)) p → Bw p wq → Bw p wq from fun _ k => k) HB.out (Bw.trans (by repeat (first | exact Bw.refl _ | apply Bw.alloc | apply Bw.drewN | apply Bw.drew)) hb1); replace HB := hid (HB.out.trans hbq1); have u1 := (HP.out.bw HB.out).cell; have ul1 := (HP.out.bw HB.out).lt; clear hb1 hbq1; have Hz := hid hi1; unfold ImA; clear hi1)
              | (go_at_call 17; refine (num_any _ _).mono ?_; rintro e wn ⟨rfl, hwn⟩; subst wn)
              | (go_at_call 22; (have _q := Hz; clear _q); (fail_if_success (have _q := HSz)); refine (same_any _ _ _ _ _ _ m0 _ _ (Hz.out.bw (by repeat (first | exact Bw.refl _ | apply Bw.alloc | apply Bw.drewN | apply Bw.drew))) (HM.out.bw (HW0.out.trans (HB.out.trans (by repeat (first | exact Bw.refl _ | apply Bw.alloc | apply Bw.drewN | apply Bw.drew)))))).mono ?_; rintro e wq ⟨rfl, hb1⟩; have hbq7 := (show ∀ {p : World}, Bw (w.alloc (.cells #[.slice ia1 in1 ic1, .slice ia2 in2 ic2, .slice ia3 in3 ic3, .int .i64 m0.globals] 26)) p → Bw p wq → Bw p wq from fun _ k => k) HB.out (Bw.trans (by repeat (first | exact Bw.refl _ | apply Bw.alloc | apply Bw.drewN | apply Bw.drew)) hb1); replace HB := hid (HB.out.trans hbq7); have u7 := (HP.out.bw HB.out).cell; have ul7 := (HP.out.bw HB.out).lt; clear hb1 hbq7; have HSz := hid trivial)
              | (go_at_call 10; refine (live_any (HO.out.bw (HW0.out.trans (HB.out.trans (by repeat (first | exact Bw.refl _ | apply Bw.alloc | apply Bw.drewN | apply Bw.drew)))))).mono ?_; rintro e wq ⟨rfl, hb1⟩; have hbq8 := (show ∀ {p : World}, Bw (w.alloc (.cells #[.slice ia1 in1 ic1, .slice ia2 in2 ic2, .slice ia3 in3 ic3, .int .i64 m0.globals] 26)) p → Bw p wq → Bw p wq from fun _ k => k) HB.out (Bw.trans (by repeat (first | exact Bw.refl _ | apply Bw.alloc | apply Bw.drewN | apply Bw.drew)) hb1); replace HB := hid (HB.out.trans hbq8); have u8 := (HP.out.bw HB.out).cell; have ul8 := (HP.out.bw HB.out).lt; clear hb1 hbq8)
              | fail)
            all_goals go_ret
            all_goals exact ⟨rfl, HW0.out.trans HB.out⟩

set_option maxRecDepth 100000 in
theorem lifted (os : Os) (started : os.Started) (H : Type) (enc : TypeId × Value → H) :
    ReturnsInHanded {} Tryd.checked os 8 .any (fun w args => (Rows.codeOwnSpec.pre enc Tryd.prog Tryd.f8 [] false w args ∧ laidMetH Tryd.prog laidS w) ∧ sizedMet enc Tryd.prog Tryd.f8 (OpenSpec.ofChange Rows.codeOwnSpec) false w args)
      (Rows.codeOwnSpec.post enc Tryd.prog Tryd.f8 false true false false) := by
  refine returnsInHanded_of_change_and (C := Tryd.checked) (X := fun w _ => laidMetH Tryd.prog laidS w) (fun _ _ _ hh h => h.of_heap hh) ownK started (by kernel_rfl) Tryd.func8
    (ChangeSpec.witness_shaped (enc := enc) (C := Tryd.checked) (os := os) (X := fun w _ => laidMetH Tryd.prog laidS w) false (World.doorLaid Tryd.prog 400 os) #[.agg #[.slice none 0 0, .slice none 0 0, .slice none 0 0, .int .i64 0]] 8 rfl (World.shaped_of_RefB (by kernel_rfl) (by kernel_rfl)) (by kernel_rfl) (by kernel_rfl) (by kernel_rfl) (door_met os _)) ?_
  intro W base args ds gs before hval0 hW _ _ hL _
  have hval : ∀ (j : Nat) t v, Tryd.f8.params[j]? = some t → args[j]? = some v → Value.okWide Tryd.prog W .any base t v := hval0
  have hW' := hW
  obtain ⟨p, q, hA0, hV, rfl, hfz, hnd⟩ := hW
  have hA : DataW.TrodAll enc Tryd.prog W 0 (fun _ => true) true Tryd.f8.params.toList args.toList ds p := hA0
  rw [Tryd.params8] at hA hval
  obtain ⟨v0, vs0, d0, ds0, p0, q0, hargs, rfl, rfl, h0, r0⟩ := trodAll_cons hA
  obtain ⟨rfl, rfl, rfl⟩ := trodAll_nil r0
  obtain rfl : args = #[v0] := by cases args; simp_all
  obtain ⟨rfl, rfl⟩ := trodVars_none hV
  have k0 := h0
  have lt0 : ∀ x ∈ p0, x.block < W.heap.size := by obtain ⟨m, hm⟩ := k0; exact DataW.trod_lt m _ _ _ hm
  obtain ⟨vf0, vs0, vk0, m0, e0, w0⟩ := open_image (hval 0 26 v0 rfl rfl) h0
  subst e0
  have hs := og_of_laid hL
  clear hA0 hval0
  refine (walk vf0 vs0 vk0 m0 W hs w0).mono fun e W' ⟨he, bel⟩ => ?_
  subst he
  exact ⟨_, rfl, _, _, _, [], _, [], hW', trodAll_mk1 (shut_bool Tryd.underlying4 _), (trodAll_cons_mk (Below.trod laidOut (by kernel_rfl) (of_decide_eq_true (by kernel_rfl)) k0 bel lt0) trodAll_mk0), rfl, Below.frame bel _, fun h => by cases h⟩

theorem over : Rows.codeOwnRow.holds Tryd.pinned (OpenSpec.ofChange Rows.codeOwnSpec) :=
  OpenClaim.holds_of_wide 8 Tryd.f8 rfl rfl rfl rfl rfl rfl rfl ⟨rfl, rfl, rfl, rfl, rfl⟩ rfl rfl rfl rfl rfl (by kernel_rfl) Tryd.func8 (by kernel_rfl)
    (of_decide_eq_true (by kernel_rfl)) (by unfold Func.isWrapper; first | (rw [if_pos (by decide +kernel)]; kernel_rfl) | (rw [if_neg (by decide +kernel)]; exact ⟨rfl, rfl⟩))
    (fun os started H enc _ => lifted os started H enc)

theorem card : Rows.CodeOwnCardSaid :=
  Claim7.holds_tied_plain_at .later [] [.data] true (true, "cac749f79879078034011fce91b11fca52ecc96e699a6bc9fa88c96545969f9c") false
    over (fun _ h => by cases h) (by kernel_rfl) (fun _ h => by cases h) codeOwn_row_tie rfl ⟨rfl, rfl⟩ (by kernel_rfl) rfl
    (fun f fn hf hfn => by
      obtain rfl : f = 8 := Option.some.inj ((show Tryd.prog.funcNamed "jacquard/jacquardlaw10.CodeOwn" = some 8 by kernel_rfl).symm.trans hf) |>.symm
      obtain rfl : fn = Tryd.f8 := (Option.some.inj (Tryd.func8.symm.trans hfn)).symm
      exact ⟨by kernel_rfl, fun j t ht => by
        rw [Tryd.params8] at ht
        have hm : t ∈ [26] := by have h9 := Array.mem_of_getElem? ht; simp at h9 ⊢; first | exact h9 | (rcases h9 with h9 | h9 <;> simp [h9]; done) | (rcases h9 with h9 | h9 | h9 <;> simp [h9]; done) | (rcases h9 with h9 | h9 | h9 | h9 <;> simp [h9]; done)
        have hall : ([26].all fun u => !Tryd.prog.wantsStandIn u) = true := by kernel_rfl
        exact (show Tryd.prog.wantsStandIn t = false by simpa using List.all_eq_true.1 hall t hm)⟩)
    (by kernel_rfl)
end Go.Proofs.YtmhjfkhcpfihfaaDoor.codeOwn
namespace Go.Proofs.YtmhjfkhcpfihfaaDoor
theorem codeOwn_holds : Rows.CodeOwnCardSaid := codeOwn.card
#print axioms codeOwn_holds
end Go.Proofs.YtmhjfkhcpfihfaaDoor
