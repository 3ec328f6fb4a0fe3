/- For every image and all bytes: what is encoded is decoded as it was, what is decoded is encoded as the same bytes (P10.5): the statement CodeBack returns true, and its arguments read as before. -/
import Derived.Test.YtmhjfkhcpfihfaaDoorFl
set_option linter.unusedVariables false
set_option linter.unusedSimpArgs false
namespace Go.Proofs.YtmhjfkhcpfihfaaDoor.codeBack
open Go.ChangeShapes Go.WideShapes Go.ChangeAt Go.RowKit

theorem walk (vf0 vs0 vk0 : Value) (m0 : AIm) (w : World) (hs : Og w) (w0 : RIm w (fun _ => True) vf0 vs0 vk0 m0) (v1 : Value) (l1 : List Int) (w1 : By w v1 l1) :
    Calls Tryd.prog 6 #[imV vf0 vs0 vk0 m0, v1] w fun e w' => e = .returned (.bool true) ∧ Bw w w' := by
  obtain ⟨n1, a1, c1, e1⟩ := w0.f1
  obtain ⟨n2, a2, c2, e2⟩ := w0.f2
  obtain ⟨n3, a3, c3, e3⟩ := w0.f3
  subst e1 e2 e3
  unfold imV
  have HM := hid w0
  have HO := hid hs
  have HP := hid (Blk.new w #[.slice a1 n1 c1, .slice a2 n2 c2, .slice a3 n3 c3, .int .i64 m0.globals] 26)
  have HW0 := hid (show Bw w (w.alloc (.cells #[.slice a1 n1 c1, .slice a2 n2 c2, .slice a3 n3 c3, .int .i64 m0.globals] 26)) from Bw.alloc (Bw.refl w) _)
  have HB := hid (Bw.refl (w.alloc (.cells #[.slice a1 n1 c1, .slice a2 n2 c2, .slice a3 n3 c3, .int .i64 m0.globals] 26)))
  obtain ⟨B, hB⟩ : ∃ B, byts (iIm m0) = B := ⟨_, rfl⟩
  have HBB := hid hB
  clear w0 hs hB
  have HY := hid (Sl.below w1.1 HW0.out)
  have HYB := hid (show Byt l1 from w1.2.1)
  obtain ⟨ay, cy, ey⟩ := w1.form
  subst ey
  clear w1
  by_cases h5 : l1.length ≤ 5000
  rotate_left
  · have d5 : decide (5000 < (l1.length : Int)) = true := decide_eq_true (by omega)
    go_enter Tryd.func6, Tryd.ntmps6
    go_wp2_with (first
      | (go_at_call 9; refine (big_any _ _ _ m0 (fun _ => True) (HM.out.bw (HW0.out.trans (HB.out.trans (by repeat (first | exact Bw.refl _ | apply Bw.alloc | apply Bw.drewN | apply Bw.drew)))))).mono ?_; rintro e wq ⟨q, rfl, hq, hb1⟩; have hbq1 := (show ∀ {p : World}, Bw (w.alloc (.cells #[.slice a1 n1 c1, .slice a2 n2 c2, .slice a3 n3 c3, .int .i64 m0.globals] 26)) p → Bw p wq → Bw p wq from fun _ k => k) HB.out (Bw.trans (by repeat (first | exact Bw.refl _ | apply Bw.alloc | apply Bw.drewN | apply Bw.drew)) hb1); replace HB := hid (HB.out.trans hbq1); have u1 := (HP.out.bw HB.out).cell; have ul1 := (HP.out.bw HB.out).lt; clear hb1 hbq1; have HQ := hid hq; clear hq; cases q)
      | (go_at_call 10; refine (live_any (HO.out.bw (HW0.out.trans (HB.out.trans (by repeat (first | exact Bw.refl _ | apply Bw.alloc | apply Bw.drewN | apply Bw.drew)))))).mono ?_; rintro e wq ⟨rfl, hb1⟩; have hbq2 := (show ∀ {p : World}, Bw (w.alloc (.cells #[.slice a1 n1 c1, .slice a2 n2 c2, .slice a3 n3 c3, .int .i64 m0.globals] 26)) p → Bw p wq → Bw p wq from fun _ k => k) HB.out (Bw.trans (by repeat (first | exact Bw.refl _ | apply Bw.alloc | apply Bw.drewN | apply Bw.drew)) hb1); replace HB := hid (HB.out.trans hbq2); have u2 := (HP.out.bw HB.out).cell; have ul2 := (HP.out.bw HB.out).lt; clear hb1 hbq2)
      | fail)
    all_goals go_ret
    all_goals exact ⟨rfl, HW0.out.trans HB.out⟩
  have d5 : decide (5000 < (l1.length : Int)) = false := decide_eq_false (by omega)
  have HLY := hid (show l1.length ≤ 4194304 by omega)
  have HDS := hid (decS_le l1)
  clear h5
  cases hok : oks (iIm m0)
  · by_cases hf : (decS l1).2 = 0
    · have HOK := hid hok
      clear hok
      obtain ⟨s1, hs1⟩ : ∃ s, decS l1 = s := ⟨_, rfl⟩
      obtain ⟨x1, hx1⟩ : ∃ x, decI l1 = x := ⟨_, rfl⟩
      have HS1 := hid hs1
      have HI1 := hid hx1
      have hed := enc_dec HYB.out hf
      rw [hx1] at hed
      have HEO := hid hed.1
      have HEB := hid hed.2
      rw [hs1] at HDS hf
      have t1 : ((s1.2 : Int) != 0) = false := by simp [hf]
      clear hf hs1 hx1 hed
      go_enter Tryd.func6, Tryd.ntmps6
      go_wp2_with (first
        | (go_at_call 9; refine (big_any _ _ _ m0 (fun _ => True) (HM.out.bw (HW0.out.trans (HB.out.trans (by repeat (first | exact Bw.refl _ | apply Bw.alloc | apply Bw.drewN | apply Bw.drew)))))).mono ?_; rintro e wq ⟨q, rfl, hq, hb1⟩; have hbq3 := (show ∀ {p : World}, Bw (w.alloc (.cells #[.slice a1 n1 c1, .slice a2 n2 c2, .slice a3 n3 c3, .int .i64 m0.globals] 26)) p → Bw p wq → Bw p wq from fun _ k => k) HB.out (Bw.trans (by repeat (first | exact Bw.refl _ | apply Bw.alloc | apply Bw.drewN | apply Bw.drew)) hb1); replace HB := hid (HB.out.trans hbq3); have u3 := (HP.out.bw HB.out).cell; have ul3 := (HP.out.bw HB.out).lt; replace HY := hid (HY.out.below hbq3); clear hb1 hbq3; have HQ := hid hq; clear hq; cases q)
        | (go_at_call 10; refine (live_any (HO.out.bw (HW0.out.trans (HB.out.trans (by repeat (first | exact Bw.refl _ | apply Bw.alloc | apply Bw.drewN | apply Bw.drew)))))).mono ?_; rintro e wq ⟨rfl, hb1⟩; have hbq4 := (show ∀ {p : World}, Bw (w.alloc (.cells #[.slice a1 n1 c1, .slice a2 n2 c2, .slice a3 n3 c3, .int .i64 m0.globals] 26)) p → Bw p wq → Bw p wq from fun _ k => k) HB.out (Bw.trans (by repeat (first | exact Bw.refl _ | apply Bw.alloc | apply Bw.drewN | apply Bw.drew)) hb1); replace HB := hid (HB.out.trans hbq4); have u4 := (HP.out.bw HB.out).cell; have ul4 := (HP.out.bw HB.out).lt; clear hb1 hbq4)
        | (go_at_call 17; refine (num_any _ _).mono ?_; rintro e wn ⟨rfl, hwn⟩; subst wn)
        | (go_at_call 18; (fail_if_success (have _q := HX)); refine (enc_no (HM.out.bw (HW0.out.trans (HB.out.trans (by repeat (first | exact Bw.refl _ | apply Bw.alloc | apply Bw.drewN | apply Bw.drew))))) (small_len (HQ.out (by simp))) HOK.out).mono ?_; rintro e wq ⟨hb1, rfl⟩; have hbq5 := (show ∀ {p : World}, Bw (w.alloc (.cells #[.slice a1 n1 c1, .slice a2 n2 c2, .slice a3 n3 c3, .int .i64 m0.globals] 26)) p → Bw p wq → Bw p wq from fun _ k => k) HB.out (Bw.trans (by repeat (first | exact Bw.refl _ | apply Bw.alloc | apply Bw.drewN | apply Bw.drew)) hb1); replace HB := hid (HB.out.trans hbq5); have u5 := (HP.out.bw HB.out).cell; have ul5 := (HP.out.bw HB.out).lt; replace HY := hid (HY.out.below hbq5); clear hb1 hbq5; have HX := hid trivial)
        | (go_at_call 20; (have _q := HX; clear _q); (fail_if_success (have _q := Hy)); refine (dec_w (HY.out.below (by repeat (first | exact Bw.refl _ | apply Bw.alloc | apply Bw.drewN | apply Bw.drew))) HYB.out HLY.out s1 HS1.out x1 HI1.out).mono ?_; rintro e wq ⟨hb1, yn1, yn2, yn3, ya1, ya2, ya3, yc1, yc2, yc3, rfl, hi1⟩; have hbq6 := (show ∀ {p : World}, Bw (w.alloc (.cells #[.slice a1 n1 c1, .slice a2 n2 c2, .slice a3 n3 c3, .int .i64 m0.globals] 26)) p → Bw p wq → Bw p wq from fun _ k => k) HB.out (Bw.trans (by repeat (first | exact Bw.refl _ | apply Bw.alloc | apply Bw.drewN | apply Bw.drew)) hb1); replace HB := hid (HB.out.trans hbq6); have u6 := (HP.out.bw HB.out).cell; have ul6 := (HP.out.bw HB.out).lt; replace HY := hid (HY.out.below hbq6); clear hb1 hbq6; have Hy := hid hi1; unfold ImA; clear hi1)
        | (go_at_call 18; (have _q := Hy; clear _q); refine (enc_yes (Hy.out.bw (by repeat (first | exact Bw.refl _ | apply Bw.alloc | apply Bw.drewN | apply Bw.drew))) l1 HEB.out HLY.out HEO.out).mono ?_; rintro e wq ⟨hb1, az, cz, rfl, hz, _⟩; have hbq7 := (show ∀ {p : World}, Bw (w.alloc (.cells #[.slice a1 n1 c1, .slice a2 n2 c2, .slice a3 n3 c3, .int .i64 m0.globals] 26)) p → Bw p wq → Bw p wq from fun _ k => k) HB.out (Bw.trans (by repeat (first | exact Bw.refl _ | apply Bw.alloc | apply Bw.drewN | apply Bw.drew)) hb1); replace HB := hid (HB.out.trans hbq7); have u7 := (HP.out.bw HB.out).cell; have ul7 := (HP.out.bw HB.out).lt; replace HY := hid (HY.out.below hbq7); clear hb1 hbq7; have hc1 := conv_sl hz; have hc2 := conv_sl HY.out; clear hz)
        | fail)
      all_goals go_ret
      all_goals exact ⟨rfl, HW0.out.trans HB.out⟩
    · have HOK := hid hok
      clear hok
      obtain ⟨s1, hs1⟩ : ∃ s, decS l1 = s := ⟨_, rfl⟩
      have HS1 := hid hs1
      have HI1 := hid (show decI l1 = AIm.none by unfold decI; rw [if_neg hf])
      rw [hs1] at HDS hf
      have t1 : ((s1.2 : Int) != 0) = true := by simp [hf]
      have t2 : (s1.1 : Int) ≤ (l1.length : Int) := by have := HDS.out.1; omega
      have t3 : (0 : Int) ≤ (s1.1 : Int) := by omega
      clear hf hs1
      go_enter Tryd.func6, Tryd.ntmps6
      go_wp2_with (first
        | (go_at_call 9; refine (big_any _ _ _ m0 (fun _ => True) (HM.out.bw (HW0.out.trans (HB.out.trans (by repeat (first | exact Bw.refl _ | apply Bw.alloc | apply Bw.drewN | apply Bw.drew)))))).mono ?_; rintro e wq ⟨q, rfl, hq, hb1⟩; have hbq8 := (show ∀ {p : World}, Bw (w.alloc (.cells #[.slice a1 n1 c1, .slice a2 n2 c2, .slice a3 n3 c3, .int .i64 m0.globals] 26)) p → Bw p wq → Bw p wq from fun _ k => k) HB.out (Bw.trans (by repeat (first | exact Bw.refl _ | apply Bw.alloc | apply Bw.drewN | apply Bw.drew)) hb1); replace HB := hid (HB.out.trans hbq8); have u8 := (HP.out.bw HB.out).cell; have ul8 := (HP.out.bw HB.out).lt; replace HY := hid (HY.out.below hbq8); clear hb1 hbq8; have HQ := hid hq; clear hq; cases q)
        | (go_at_call 10; refine (live_any (HO.out.bw (HW0.out.trans (HB.out.trans (by repeat (first | exact Bw.refl _ | apply Bw.alloc | apply Bw.drewN | apply Bw.drew)))))).mono ?_; rintro e wq ⟨rfl, hb1⟩; have hbq9 := (show ∀ {p : World}, Bw (w.alloc (.cells #[.slice a1 n1 c1, .slice a2 n2 c2, .slice a3 n3 c3, .int .i64 m0.globals] 26)) p → Bw p wq → Bw p wq from fun _ k => k) HB.out (Bw.trans (by repeat (first | exact Bw.refl _ | apply Bw.alloc | apply Bw.drewN | apply Bw.drew)) hb1); replace HB := hid (HB.out.trans hbq9); have u9 := (HP.out.bw HB.out).cell; have ul9 := (HP.out.bw HB.out).lt; clear hb1 hbq9)
        | (go_at_call 17; refine (num_any _ _).mono ?_; rintro e wn ⟨rfl, hwn⟩; subst wn)
        | (go_at_call 18; (fail_if_success (have _q := HX)); refine (enc_no (HM.out.bw (HW0.out.trans (HB.out.trans (by repeat (first | exact Bw.refl _ | apply Bw.alloc | apply Bw.drewN | apply Bw.drew))))) (small_len (HQ.out (by simp))) HOK.out).mono ?_; rintro e wq ⟨hb1, rfl⟩; have hbq10 := (show ∀ {p : World}, Bw (w.alloc (.cells #[.slice a1 n1 c1, .slice a2 n2 c2, .slice a3 n3 c3, .int .i64 m0.globals] 26)) p → Bw p wq → Bw p wq from fun _ k => k) HB.out (Bw.trans (by repeat (first | exact Bw.refl _ | apply Bw.alloc | apply Bw.drewN | apply Bw.drew)) hb1); replace HB := hid (HB.out.trans hbq10); have u10 := (HP.out.bw HB.out).cell; have ul10 := (HP.out.bw HB.out).lt; replace HY := hid (HY.out.below hbq10); clear hb1 hbq10; have HX := hid trivial)
        | (go_at_call 20; (have _q := HX; clear _q); (fail_if_success (have _q := Hy)); refine (dec_w (HY.out.below (by repeat (first | exact Bw.refl _ | apply Bw.alloc | apply Bw.drewN | apply Bw.drew))) HYB.out HLY.out s1 HS1.out AIm.none HI1.out).mono ?_; rintro e wq ⟨hb1, yn1, yn2, yn3, ya1, ya2, ya3, yc1, yc2, yc3, rfl, hi1⟩; have hbq11 := (show ∀ {p : World}, Bw (w.alloc (.cells #[.slice a1 n1 c1, .slice a2 n2 c2, .slice a3 n3 c3, .int .i64 m0.globals] 26)) p → Bw p wq → Bw p wq from fun _ k => k) HB.out (Bw.trans (by repeat (first | exact Bw.refl _ | apply Bw.alloc | apply Bw.drewN | apply Bw.drew)) hb1); replace HB := hid (HB.out.trans hbq11); have u11 := (HP.out.bw HB.out).cell; have ul11 := (HP.out.bw HB.out).lt; replace HY := hid (HY.out.below hbq11); clear hb1 hbq11; have Hy := hid hi1; unfold ImA; clear hi1)
        | (go_at_call 22; (have _q := Hy; clear _q); refine (same_any _ _ _ _ _ _ AIm.none _ _ (Hy.out.bw (by repeat (first | exact Bw.refl _ | apply Bw.alloc | apply Bw.drewN | apply Bw.drew))) (RIm.none _ (fun _ => True))).mono ?_; rintro e wq ⟨rfl, hb1⟩; have hbq12 := (show ∀ {p : World}, Bw (w.alloc (.cells #[.slice a1 n1 c1, .slice a2 n2 c2, .slice a3 n3 c3, .int .i64 m0.globals] 26)) p → Bw p wq → Bw p wq from fun _ k => k) HB.out (Bw.trans (by repeat (first | exact Bw.refl _ | apply Bw.alloc | apply Bw.drewN | apply Bw.drew)) hb1); replace HB := hid (HB.out.trans hbq12); have u12 := (HP.out.bw HB.out).cell; have ul12 := (HP.out.bw HB.out).lt; clear hb1 hbq12)
        | fail)
      all_goals go_ret
      all_goals exact ⟨rfl, HW0.out.trans HB.out⟩
  · by_cases hf : (decS l1).2 = 0
    · have HOK := hid hok
      clear hok
      obtain ⟨s1, hs1⟩ : ∃ s, decS l1 = s := ⟨_, rfl⟩
      obtain ⟨x1, hx1⟩ : ∃ x, decI l1 = x := ⟨_, rfl⟩
      have HS1 := hid hs1
      have HI1 := hid hx1
      have hed := enc_dec HYB.out hf
      rw [hx1] at hed
      have HEO := hid hed.1
      have HEB := hid hed.2
      rw [hs1] at HDS hf
      have t1 : ((s1.2 : Int) != 0) = false := by simp [hf]
      clear hf hs1 hx1 hed
      have HD := hid (by have := dec_enc m0 HOK.out; rw [HBB.out] at this; exact this : decS B = (B.length, 0) ∧ decI B = m0)
      have hBl : (B.length : Int) ≤ 9223372036854775807 ∨ True := .inr trivial
      clear hBl
      go_enter Tryd.func6, Tryd.ntmps6
      go_wp2_with (first
        | (go_at_call 9; refine (big_any _ _ _ m0 (fun _ => True) (HM.out.bw (HW0.out.trans (HB.out.trans (by repeat (first | exact Bw.refl _ | apply Bw.alloc | apply Bw.drewN | apply Bw.drew)))))).mono ?_; rintro e wq ⟨q, rfl, hq, hb1⟩; have hbq13 := (show ∀ {p : World}, Bw (w.alloc (.cells #[.slice a1 n1 c1, .slice a2 n2 c2, .slice a3 n3 c3, .int .i64 m0.globals] 26)) p → Bw p wq → Bw p wq from fun _ k => k) HB.out (Bw.trans (by repeat (first | exact Bw.refl _ | apply Bw.alloc | apply Bw.drewN | apply Bw.drew)) hb1); replace HB := hid (HB.out.trans hbq13); have u13 := (HP.out.bw HB.out).cell; have ul13 := (HP.out.bw HB.out).lt; replace HY := hid (HY.out.below hbq13); clear hb1 hbq13; have HQ := hid hq; clear hq; cases q)
        | (go_at_call 10; refine (live_any (HO.out.bw (HW0.out.trans (HB.out.trans (by repeat (first | exact Bw.refl _ | apply Bw.alloc | apply Bw.drewN | apply Bw.drew)))))).mono ?_; rintro e wq ⟨rfl, hb1⟩; have hbq14 := (show ∀ {p : World}, Bw (w.alloc (.cells #[.slice a1 n1 c1, .slice a2 n2 c2, .slice a3 n3 c3, .int .i64 m0.globals] 26)) p → Bw p wq → Bw p wq from fun _ k => k) HB.out (Bw.trans (by repeat (first | exact Bw.refl _ | apply Bw.alloc | apply Bw.drewN | apply Bw.drew)) hb1); replace HB := hid (HB.out.trans hbq14); have u14 := (HP.out.bw HB.out).cell; have ul14 := (HP.out.bw HB.out).lt; clear hb1 hbq14)
        | (go_at_call 17; refine (num_any _ _).mono ?_; rintro e wn ⟨rfl, hwn⟩; subst wn)
        | (go_at_call 18; (fail_if_success (have _q := HX)); refine (enc_yes (HM.out.bw (HW0.out.trans (HB.out.trans (by repeat (first | exact Bw.refl _ | apply Bw.alloc | apply Bw.drewN | apply Bw.drew))))) B HBB.out (by rw [← HBB.out]; exact (small_len (HQ.out (by simp)))) HOK.out).mono ?_; rintro e wq ⟨hb1, ax, cx, rfl, hx, hby⟩; have hbq15 := (show ∀ {p : World}, Bw (w.alloc (.cells #[.slice a1 n1 c1, .slice a2 n2 c2, .slice a3 n3 c3, .int .i64 m0.globals] 26)) p → Bw p wq → Bw p wq from fun _ k => k) HB.out (Bw.trans (by repeat (first | exact Bw.refl _ | apply Bw.alloc | apply Bw.drewN | apply Bw.drew)) hb1); replace HB := hid (HB.out.trans hbq15); have u15 := (HP.out.bw HB.out).cell; have ul15 := (HP.out.bw HB.out).lt; replace HY := hid (HY.out.below hbq15); clear hb1 hbq15; have HX := hid hx; have HXB := hid hby; clear hx hby)
        | (go_at_call 20; (have _q := HX; clear _q); (fail_if_success (have _q := Hx)); refine (dec_w (HX.out.below (by repeat (first | exact Bw.refl _ | apply Bw.alloc | apply Bw.drewN | apply Bw.drew))) HXB.out (by rw [← HBB.out]; exact (small_len (HQ.out (by simp)))) (B.length, 0) HD.out.1 m0 HD.out.2).mono ?_; rintro e wq ⟨hb1, xn1, xn2, xn3, xa1, xa2, xa3, xc1, xc2, xc3, rfl, hi1⟩; have hbq16 := (show ∀ {p : World}, Bw (w.alloc (.cells #[.slice a1 n1 c1, .slice a2 n2 c2, .slice a3 n3 c3, .int .i64 m0.globals] 26)) p → Bw p wq → Bw p wq from fun _ k => k) HB.out (Bw.trans (by repeat (first | exact Bw.refl _ | apply Bw.alloc | apply Bw.drewN | apply Bw.drew)) hb1); replace HB := hid (HB.out.trans hbq16); have u16 := (HP.out.bw HB.out).cell; have ul16 := (HP.out.bw HB.out).lt; replace HY := hid (HY.out.below hbq16); clear hb1 hbq16; have Hx := hid hi1; unfold ImA; clear hi1)
        | (go_at_call 22; (have _q := Hx; clear _q); (fail_if_success (have _q := HSx)); refine (same_any _ _ _ _ _ _ m0 _ _ (Hx.out.bw (by repeat (first | exact Bw.refl _ | apply Bw.alloc | apply Bw.drewN | apply Bw.drew))) (HM.out.bw (HW0.out.trans (HB.out.trans (by repeat (first | exact Bw.refl _ | apply Bw.alloc | apply Bw.drewN | apply Bw.drew)))))).mono ?_; rintro e wq ⟨rfl, hb1⟩; have hbq17 := (show ∀ {p : World}, Bw (w.alloc (.cells #[.slice a1 n1 c1, .slice a2 n2 c2, .slice a3 n3 c3, .int .i64 m0.globals] 26)) p → Bw p wq → Bw p wq from fun _ k => k) HB.out (Bw.trans (by repeat (first | exact Bw.refl _ | apply Bw.alloc | apply Bw.drewN | apply Bw.drew)) hb1); replace HB := hid (HB.out.trans hbq17); have u17 := (HP.out.bw HB.out).cell; have ul17 := (HP.out.bw HB.out).lt; replace HY := hid (HY.out.below hbq17); clear hb1 hbq17; have HSx := hid trivial)
        | (go_at_call 20; (have _q := HSx; clear _q); (have _q := HX; clear _q); (fail_if_success (have _q := Hy)); refine (dec_w (HY.out.below (by repeat (first | exact Bw.refl _ | apply Bw.alloc | apply Bw.drewN | apply Bw.drew))) HYB.out HLY.out s1 HS1.out x1 HI1.out).mono ?_; rintro e wq ⟨hb1, yn1, yn2, yn3, ya1, ya2, ya3, yc1, yc2, yc3, rfl, hi1⟩; have hbq18 := (show ∀ {p : World}, Bw (w.alloc (.cells #[.slice a1 n1 c1, .slice a2 n2 c2, .slice a3 n3 c3, .int .i64 m0.globals] 26)) p → Bw p wq → Bw p wq from fun _ k => k) HB.out (Bw.trans (by repeat (first | exact Bw.refl _ | apply Bw.alloc | apply Bw.drewN | apply Bw.drew)) hb1); replace HB := hid (HB.out.trans hbq18); have u18 := (HP.out.bw HB.out).cell; have ul18 := (HP.out.bw HB.out).lt; replace HY := hid (HY.out.below hbq18); clear hb1 hbq18; have Hy := hid hi1; unfold ImA; clear hi1)
        | (go_at_call 18; (have _q := Hy; clear _q); refine (enc_yes (Hy.out.bw (by repeat (first | exact Bw.refl _ | apply Bw.alloc | apply Bw.drewN | apply Bw.drew))) l1 HEB.out HLY.out HEO.out).mono ?_; rintro e wq ⟨hb1, az, cz, rfl, hz, _⟩; have hbq19 := (show ∀ {p : World}, Bw (w.alloc (.cells #[.slice a1 n1 c1, .slice a2 n2 c2, .slice a3 n3 c3, .int .i64 m0.globals] 26)) p → Bw p wq → Bw p wq from fun _ k => k) HB.out (Bw.trans (by repeat (first | exact Bw.refl _ | apply Bw.alloc | apply Bw.drewN | apply Bw.drew)) hb1); replace HB := hid (HB.out.trans hbq19); have u19 := (HP.out.bw HB.out).cell; have ul19 := (HP.out.bw HB.out).lt; replace HY := hid (HY.out.below hbq19); clear hb1 hbq19; have hc1 := conv_sl hz; have hc2 := conv_sl HY.out; clear hz)
        | fail)
      all_goals go_ret
      all_goals exact ⟨rfl, HW0.out.trans HB.out⟩
    · have HOK := hid hok
      clear hok
      obtain ⟨s1, hs1⟩ : ∃ s, decS l1 = s := ⟨_, rfl⟩
      have HS1 := hid hs1
      have HI1 := hid (show decI l1 = AIm.none by unfold decI; rw [if_neg hf])
      rw [hs1] at HDS hf
      have t1 : ((s1.2 : Int) != 0) = true := by simp [hf]
      have t2 : (s1.1 : Int) ≤ (l1.length : Int) := by have := HDS.out.1; omega
      have t3 : (0 : Int) ≤ (s1.1 : Int) := by omega
      clear hf hs1
      have HD := hid (by have := dec_enc m0 HOK.out; rw [HBB.out] at this; exact this : decS B = (B.length, 0) ∧ decI B = m0)
      have hBl : (B.length : Int) ≤ 9223372036854775807 ∨ True := .inr trivial
      clear hBl
      go_enter Tryd.func6, Tryd.ntmps6
      go_wp2_with (first
        | (go_at_call 9; refine (big_any _ _ _ m0 (fun _ => True) (HM.out.bw (HW0.out.trans (HB.out.trans (by repeat (first | exact Bw.refl _ | apply Bw.alloc | apply Bw.drewN | apply Bw.drew)))))).mono ?_; rintro e wq ⟨q, rfl, hq, hb1⟩; have hbq20 := (show ∀ {p : World}, Bw (w.alloc (.cells #[.slice a1 n1 c1, .slice a2 n2 c2, .slice a3 n3 c3, .int .i64 m0.globals] 26)) p → Bw p wq → Bw p wq from fun _ k => k) HB.out (Bw.trans (by repeat (first | exact Bw.refl _ | apply Bw.alloc | apply Bw.drewN | apply Bw.drew)) hb1); replace HB := hid (HB.out.trans hbq20); have u20 := (HP.out.bw HB.out).cell; have ul20 := (HP.out.bw HB.out).lt; replace HY := hid (HY.out.below hbq20); clear hb1 hbq20; have HQ := hid hq; clear hq; cases q)
        | (go_at_call 10; refine (live_any (HO.out.bw (HW0.out.trans (HB.out.trans (by repeat (first | exact Bw.refl _ | apply Bw.alloc | apply Bw.drewN | apply Bw.drew)))))).mono ?_; rintro e wq ⟨rfl, hb1⟩; have hbq21 := (show ∀ {p : World}, Bw (w.alloc (.cells #[.slice a1 n1 c1, .slice a2 n2 c2, .slice a3 n3 c3, .int .i64 m0.globals] 26)) p → Bw p wq → Bw p wq from fun _ k => k) HB.out (Bw.trans (by repeat (first | exact Bw.refl _ | apply Bw.alloc | apply Bw.drewN | apply Bw.drew)) hb1); replace HB := hid (HB.out.trans hbq21); have u21 := (HP.out.bw HB.out).cell; have ul21 := (HP.out.bw HB.out).lt; clear hb1 hbq21)
        | (go_at_call 17; refine (num_any _ _).mono ?_; rintro e wn ⟨rfl, hwn⟩; subst wn)
        | (go_at_call 18; (fail_if_success (have _q := HX)); refine (enc_yes (HM.out.bw (HW0.out.trans (HB.out.trans (by repeat (first | exact Bw.refl _ | apply Bw.alloc | apply Bw.drewN | apply Bw.drew))))) B HBB.out (by rw [← HBB.out]; exact (small_len (HQ.out (by simp)))) HOK.out).mono ?_; rintro e wq ⟨hb1, ax, cx, rfl, hx, hby⟩; have hbq22 := (show ∀ {p : World}, Bw (w.alloc (.cells #[.slice a1 n1 c1, .slice a2 n2 c2, .slice a3 n3 c3, .int .i64 m0.globals] 26)) p → Bw p wq → Bw p wq from fun _ k => k) HB.out (Bw.trans (by repeat (first | exact Bw.refl _ | apply Bw.alloc | apply Bw.drewN | apply Bw.drew)) hb1); replace HB := hid (HB.out.trans hbq22); have u22 := (HP.out.bw HB.out).cell; have ul22 := (HP.out.bw HB.out).lt; replace HY := hid (HY.out.below hbq22); clear hb1 hbq22; have HX := hid hx; have HXB := hid hby; clear hx hby)
        | (go_at_call 20; (have _q := HX; clear _q); (fail_if_success (have _q := Hx)); refine (dec_w (HX.out.below (by repeat (first | exact Bw.refl _ | apply Bw.alloc | apply Bw.drewN | apply Bw.drew))) HXB.out (by rw [← HBB.out]; exact (small_len (HQ.out (by simp)))) (B.length, 0) HD.out.1 m0 HD.out.2).mono ?_; rintro e wq ⟨hb1, xn1, xn2, xn3, xa1, xa2, xa3, xc1, xc2, xc3, rfl, hi1⟩; have hbq23 := (show ∀ {p : World}, Bw (w.alloc (.cells #[.slice a1 n1 c1, .slice a2 n2 c2, .slice a3 n3 c3, .int .i64 m0.globals] 26)) p → Bw p wq → Bw p wq from fun _ k => k) HB.out (Bw.trans (by repeat (first | exact Bw.refl _ | apply Bw.alloc | apply Bw.drewN | apply Bw.drew)) hb1); replace HB := hid (HB.out.trans hbq23); have u23 := (HP.out.bw HB.out).cell; have ul23 := (HP.out.bw HB.out).lt; replace HY := hid (HY.out.below hbq23); clear hb1 hbq23; have Hx := hid hi1; unfold ImA; clear hi1)
        | (go_at_call 22; (have _q := Hx; clear _q); (fail_if_success (have _q := HSx)); refine (same_any _ _ _ _ _ _ m0 _ _ (Hx.out.bw (by repeat (first | exact Bw.refl _ | apply Bw.alloc | apply Bw.drewN | apply Bw.drew))) (HM.out.bw (HW0.out.trans (HB.out.trans (by repeat (first | exact Bw.refl _ | apply Bw.alloc | apply Bw.drewN | apply Bw.drew)))))).mono ?_; rintro e wq ⟨rfl, hb1⟩; have hbq24 := (show ∀ {p : World}, Bw (w.alloc (.cells #[.slice a1 n1 c1, .slice a2 n2 c2, .slice a3 n3 c3, .int .i64 m0.globals] 26)) p → Bw p wq → Bw p wq from fun _ k => k) HB.out (Bw.trans (by repeat (first | exact Bw.refl _ | apply Bw.alloc | apply Bw.drewN | apply Bw.drew)) hb1); replace HB := hid (HB.out.trans hbq24); have u24 := (HP.out.bw HB.out).cell; have ul24 := (HP.out.bw HB.out).lt; replace HY := hid (HY.out.below hbq24); clear hb1 hbq24; have HSx := hid trivial)
        | (go_at_call 20; (have _q := HSx; clear _q); (have _q := HX; clear _q); (fail_if_success (have _q := Hy)); refine (dec_w (HY.out.below (by repeat (first | exact Bw.refl _ | apply Bw.alloc | apply Bw.drewN | apply Bw.drew))) HYB.out HLY.out s1 HS1.out AIm.none HI1.out).mono ?_; rintro e wq ⟨hb1, yn1, yn2, yn3, ya1, ya2, ya3, yc1, yc2, yc3, rfl, hi1⟩; have hbq25 := (show ∀ {p : World}, Bw (w.alloc (.cells #[.slice a1 n1 c1, .slice a2 n2 c2, .slice a3 n3 c3, .int .i64 m0.globals] 26)) p → Bw p wq → Bw p wq from fun _ k => k) HB.out (Bw.trans (by repeat (first | exact Bw.refl _ | apply Bw.alloc | apply Bw.drewN | apply Bw.drew)) hb1); replace HB := hid (HB.out.trans hbq25); have u25 := (HP.out.bw HB.out).cell; have ul25 := (HP.out.bw HB.out).lt; replace HY := hid (HY.out.below hbq25); clear hb1 hbq25; have Hy := hid hi1; unfold ImA; clear hi1)
        | (go_at_call 22; (have _q := HSx; clear _q); (have _q := Hy; clear _q); refine (same_any _ _ _ _ _ _ AIm.none _ _ (Hy.out.bw (by repeat (first | exact Bw.refl _ | apply Bw.alloc | apply Bw.drewN | apply Bw.drew))) (RIm.none _ (fun _ => True))).mono ?_; rintro e wq ⟨rfl, hb1⟩; have hbq26 := (show ∀ {p : World}, Bw (w.alloc (.cells #[.slice a1 n1 c1, .slice a2 n2 c2, .slice a3 n3 c3, .int .i64 m0.globals] 26)) p → Bw p wq → Bw p wq from fun _ k => k) HB.out (Bw.trans (by repeat (first | exact Bw.refl _ | apply Bw.alloc | apply Bw.drewN | apply Bw.drew)) hb1); replace HB := hid (HB.out.trans hbq26); have u26 := (HP.out.bw HB.out).cell; have ul26 := (HP.out.bw HB.out).lt; clear hb1 hbq26)
        | fail)
      all_goals go_ret
      all_goals exact ⟨rfl, HW0.out.trans HB.out⟩

set_option maxRecDepth 100000 in
theorem lifted (os : Os) (started : os.Started) (H : Type) (enc : TypeId × Value → H) :
    ReturnsInHanded {} Tryd.checked os 6 .any (fun w args => (Rows.codeBackSpec.pre enc Tryd.prog Tryd.f6 [] false w args ∧ laidMetH Tryd.prog laidS w) ∧ sizedMet enc Tryd.prog Tryd.f6 (OpenSpec.ofChange Rows.codeBackSpec) false w args)
      (Rows.codeBackSpec.post enc Tryd.prog Tryd.f6 false true false false) := by
  refine returnsInHanded_of_change_and (C := Tryd.checked) (X := fun w _ => laidMetH Tryd.prog laidS w) (fun _ _ _ hh h => h.of_heap hh) ownK started (by kernel_rfl) Tryd.func6
    (ChangeSpec.witness_shaped (enc := enc) (C := Tryd.checked) (os := os) (X := fun w _ => laidMetH Tryd.prog laidS w) false (World.doorLaid Tryd.prog 400 os) #[.agg #[.slice none 0 0, .slice none 0 0, .slice none 0 0, .int .i64 0], .slice none 0 0] 8 rfl (World.shaped_of_RefB (by kernel_rfl) (by kernel_rfl)) (by kernel_rfl) (by kernel_rfl) (by kernel_rfl) (door_met os _)) ?_
  intro W base args ds gs before hval0 hW _ _ hL _
  have hval : ∀ (j : Nat) t v, Tryd.f6.params[j]? = some t → args[j]? = some v → Value.okWide Tryd.prog W .any base t v := hval0
  have hW' := hW
  obtain ⟨p, q, hA0, hV, rfl, hfz, hnd⟩ := hW
  have hA : DataW.TrodAll enc Tryd.prog W 0 (fun _ => true) true Tryd.f6.params.toList args.toList ds p := hA0
  rw [Tryd.params6] at hA hval
  obtain ⟨v0, vs0, d0, ds0, p0, q0, hargs, rfl, rfl, h0, r0⟩ := trodAll_cons hA
  obtain ⟨v1, vs1, d1, ds1, p1, q1, rfl, rfl, rfl, h1, r1⟩ := trodAll_cons r0
  obtain ⟨rfl, rfl, rfl⟩ := trodAll_nil r1
  obtain rfl : args = #[v0, v1] := by cases args; simp_all
  obtain ⟨rfl, rfl⟩ := trodVars_none hV
  have k0 := h0
  have lt0 : ∀ x ∈ p0, x.block < W.heap.size := by obtain ⟨m, hm⟩ := k0; exact DataW.trod_lt m _ _ _ hm
  have k1 := h1
  have lt1 : ∀ x ∈ p1, x.block < W.heap.size := by obtain ⟨m, hm⟩ := k1; exact DataW.trod_lt m _ _ _ hm
  obtain ⟨vf0, vs0, vk0, m0, e0, w0⟩ := open_image (hval 0 26 v0 rfl rfl) h0
  subst e0
  obtain ⟨l1, w1⟩ := open_bytes (hval 1 44 v1 rfl rfl) h1
  have hs := og_of_laid hL
  clear hA0 hval0
  refine (walk vf0 vs0 vk0 m0 W hs w0 v1 l1 w1).mono fun e W' ⟨he, bel⟩ => ?_
  subst he
  exact ⟨_, rfl, _, _, _, [], _, [], hW', trodAll_mk1 (shut_bool Tryd.underlying4 _), (trodAll_cons_mk (Below.trod laidOut (by kernel_rfl) (of_decide_eq_true (by kernel_rfl)) k0 bel lt0) (trodAll_cons_mk (Below.trod laidOut (by kernel_rfl) (of_decide_eq_true (by kernel_rfl)) k1 bel lt1) trodAll_mk0)), rfl, Below.frame bel _, fun h => by cases h⟩

theorem over : Rows.codeBackRow.holds Tryd.pinned (OpenSpec.ofChange Rows.codeBackSpec) :=
  OpenClaim.holds_of_wide 6 Tryd.f6 rfl rfl rfl rfl rfl rfl rfl ⟨rfl, rfl, rfl, rfl, rfl⟩ rfl rfl rfl rfl rfl (by kernel_rfl) Tryd.func6 (by kernel_rfl)
    (of_decide_eq_true (by kernel_rfl)) (by unfold Func.isWrapper; first | (rw [if_pos (by decide +kernel)]; kernel_rfl) | (rw [if_neg (by decide +kernel)]; exact ⟨rfl, rfl⟩))
    (fun os started H enc _ => lifted os started H enc)

theorem card : Rows.CodeBackCardSaid :=
  Claim7.holds_tied_plain_at .later [] [.data] true (true, "cac749f79879078034011fce91b11fca52ecc96e699a6bc9fa88c96545969f9c") false
    over (fun _ h => by cases h) (by kernel_rfl) (fun _ h => by cases h) codeBack_row_tie rfl ⟨rfl, rfl⟩ (by kernel_rfl) rfl
    (fun f fn hf hfn => by
      obtain rfl : f = 6 := Option.some.inj ((show Tryd.prog.funcNamed "jacquard/jacquardlaw10.CodeBack" = some 6 by kernel_rfl).symm.trans hf) |>.symm
      obtain rfl : fn = Tryd.f6 := (Option.some.inj (Tryd.func6.symm.trans hfn)).symm
      exact ⟨by kernel_rfl, fun j t ht => by
        rw [Tryd.params6] at ht
        have hm : t ∈ [26, 44] := by have h9 := Array.mem_of_getElem? ht; simp at h9 ⊢; first | exact h9 | (rcases h9 with h9 | h9 <;> simp [h9]; done) | (rcases h9 with h9 | h9 | h9 <;> simp [h9]; done) | (rcases h9 with h9 | h9 | h9 | h9 <;> simp [h9]; done)
        have hall : ([26, 44].all fun u => !Tryd.prog.wantsStandIn u) = true := by kernel_rfl
        exact (show Tryd.prog.wantsStandIn t = false by simpa using List.all_eq_true.1 hall t hm)⟩)
    (by kernel_rfl)
end Go.Proofs.YtmhjfkhcpfihfaaDoor.codeBack
namespace Go.Proofs.YtmhjfkhcpfihfaaDoor
theorem codeBack_holds : Rows.CodeBackCardSaid := codeBack.card
#print axioms codeBack_holds
end Go.Proofs.YtmhjfkhcpfihfaaDoor
