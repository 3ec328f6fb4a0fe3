/- For every image, cut and byte: an image's bytes cut short are none, with one more behind they are none, at that one (P10.4): the statement CodeCuts returns true, and its arguments read as before. -/
import Derived.Test.YtmhjfkhcpfihfaaDoorFl
set_option linter.unusedVariables false
set_option linter.unusedSimpArgs false
namespace Go.Proofs.YtmhjfkhcpfihfaaDoor.codeCuts
open Go.ChangeShapes Go.WideShapes Go.ChangeAt Go.RowKit

theorem walk (vf0 vs0 vk0 : Value) (m0 : AIm) (a1 : Int) (w1 : 0 ≤ a1 ∧ a1 ≤ 65535) (a2 : Int) (w2 : 0 ≤ a2 ∧ a2 ≤ 255) (w : World) (hs : Og w) (w0 : RIm w (fun _ => True) vf0 vs0 vk0 m0) :
    Calls Tryd.prog 7 #[imV vf0 vs0 vk0 m0, .int .u16 a1, .int .u8 a2] w fun e w' => e = .returned (.bool true) ∧ Bw w w' := by
  obtain ⟨in1, ia1, ic1, ie1⟩ := w0.f1
  obtain ⟨in2, ia2, ic2, ie2⟩ := w0.f2
  obtain ⟨in3, ia3, ic3, ie3⟩ := w0.f3
  subst ie1 ie2 ie3
  unfold imV
  have HM := hid w0
  have HO := hid hs
  have HP := hid (Blk.new w #[.slice ia1 in1 ic1, .slice ia2 in2 ic2, .slice ia3 in3 ic3, .int .i64 m0.globals] 26)
  have HW0 := hid (show Bw w (w.alloc (.cells #[.slice ia1 in1 ic1, .slice ia2 in2 ic2, .slice ia3 in3 ic3, .int .i64 m0.globals] 26)) from Bw.alloc (Bw.refl w) _)
  have HB := hid (Bw.refl (w.alloc (.cells #[.slice ia1 in1 ic1, .slice ia2 in2 ic2, .slice ia3 in3 ic3, .int .i64 m0.globals] 26)))
  obtain ⟨B, hB⟩ : ∃ B, byts (iIm m0) = B := ⟨_, rfl⟩
  have HBB := hid hB
  have HBY := hid (show Byt B from hB ▸ im_byt w0)
  clear w0 hs hB
  cases hok : oks (iIm m0)
  · have HOK := hid hok
    clear hok
    go_enter Tryd.func7, Tryd.ntmps7
    go_wp2_with (first
      | (go_at_call 9; refine (big_any _ _ _ m0 (fun _ => True) (HM.out.bw (HW0.out.trans (HB.out.trans (by repeat (first | exact Bw.refl _ | apply Bw.alloc | apply Bw.drewN | apply Bw.drew)))))).mono ?_; rintro e wq ⟨q, rfl, hq, hb1⟩; have hbq27 := (show ∀ {p : World}, Bw (w.alloc (.cells #[.slice ia1 in1 ic1, .slice ia2 in2 ic2, .slice ia3 in3 ic3, .int .i64 m0.globals] 26)) p → Bw p wq → Bw p wq from fun _ k => k) HB.out (Bw.trans (by repeat (first | exact Bw.refl _ | apply Bw.alloc | apply Bw.drewN | apply Bw.drew)) hb1); replace HB := hid (HB.out.trans hbq27); have u27 := (HP.out.bw HB.out).cell; have ul27 := (HP.out.bw HB.out).lt; clear hb1 hbq27; have HQ := hid hq; clear hq; cases q)
      | (go_at_call 10; refine (live_any (HO.out.bw (HW0.out.trans (HB.out.trans (by repeat (first | exact Bw.refl _ | apply Bw.alloc | apply Bw.drewN | apply Bw.drew)))))).mono ?_; rintro e wq ⟨rfl, hb1⟩; have hbq28 := (show ∀ {p : World}, Bw (w.alloc (.cells #[.slice ia1 in1 ic1, .slice ia2 in2 ic2, .slice ia3 in3 ic3, .int .i64 m0.globals] 26)) p → Bw p wq → Bw p wq from fun _ k => k) HB.out (Bw.trans (by repeat (first | exact Bw.refl _ | apply Bw.alloc | apply Bw.drewN | apply Bw.drew)) hb1); replace HB := hid (HB.out.trans hbq28); have u28 := (HP.out.bw HB.out).cell; have ul28 := (HP.out.bw HB.out).lt; clear hb1 hbq28)
      | (go_at_call 17; refine (num_any _ _).mono ?_; rintro e wn ⟨rfl, hwn⟩; subst wn)
      | (go_at_call 18; (fail_if_success (have _q := HX)); refine (enc_no (HM.out.bw (HW0.out.trans (HB.out.trans (by repeat (first | exact Bw.refl _ | apply Bw.alloc | apply Bw.drewN | apply Bw.drew))))) (small_len (HQ.out (by simp))) HOK.out).mono ?_; rintro e wq ⟨hb1, rfl⟩; have hbq29 := (show ∀ {p : World}, Bw (w.alloc (.cells #[.slice ia1 in1 ic1, .slice ia2 in2 ic2, .slice ia3 in3 ic3, .int .i64 m0.globals] 26)) p → Bw p wq → Bw p wq from fun _ k => k) HB.out (Bw.trans (by repeat (first | exact Bw.refl _ | apply Bw.alloc | apply Bw.drewN | apply Bw.drew)) hb1); replace HB := hid (HB.out.trans hbq29); have u29 := (HP.out.bw HB.out).cell; have ul29 := (HP.out.bw HB.out).lt; clear hb1 hbq29; have HX := hid trivial)
      | fail)
    all_goals go_ret
    all_goals exact ⟨rfl, HW0.out.trans HB.out⟩
  · have HOK := hid hok
    have HBL := hid (show SmallI m0 → B.length ≤ 4194304 from fun h => HBB.out ▸ small_len h)
    have HBL2 := hid (show SmallI m0 → B.length ≤ 4000000 from fun h => HBB.out ▸ small_len2 h)
    clear hok
    obtain ⟨i1, hi1, hz1, hs1, hy1⟩ := info_parts infoU8
    have I1 := hid (And.intro hi1 (And.intro hz1 (And.intro hs1 hy1)))
    clear hi1 hz1 hs1 hy1
    have HNP := hid (show 4 ≤ B.length by
      have e : B = markL ++ byts (iL iStr m0.strs ++ (iL (iL iN) m0.keys ++ (.N m0.globals :: iL iFn m0.funs))) := by rw [← HBB.out]; simp [iIm, byts, It.b]
      rw [e, List.length_append]
      have : markL.length = 4 := rfl
      omega)
    obtain ⟨k, hk⟩ : ∃ k : Nat, a1.tmod (B.length : Int) = k := ⟨(a1.tmod (B.length : Int)).toNat, by rw [Int.tmod_eq_emod_of_nonneg w1.1]; have := HNP.out; have := Int.emod_nonneg a1 (show (B.length : Int) ≠ 0 by omega); omega⟩
    have hkl : (k : Int) < (B.length : Int) := by have := HNP.out; rw [← hk, Int.tmod_eq_emod_of_nonneg w1.1]; exact Int.emod_lt_of_pos _ (by omega)
    have HKL := hid (show k < B.length by omega)
    have hkl2 : (k : Int) ≤ (B.length : Int) := by omega
    have hN0 : ((B.length : Int) == 0) = false := by have := HNP.out; rw [beq_eq_false_iff_ne]; omega
    have hN0' : ¬ (B.length : Int) = 0 := by have := HNP.out; omega
    obtain ⟨⟨p1, f1⟩, hs1⟩ : ∃ s, decS (B.take k) = s := ⟨_, rfl⟩
    have HS1 := hid hs1
    have hcut : f1 ≠ 0 := by
      have := dec_cut m0 HOK.out
      rw [HBB.out] at this
      have h2 := this HBY.out HKL.out
      rw [hs1] at h2
      exact h2
    have hle := decS_le (B.take k)
    rw [hs1] at hle
    simp only [List.length_take] at hle
    have hp1 : ¬ (k : Int) < (p1 : Int) := by omega
    have hp1b : ¬ k < p1 := by omega
    have hf1 : f1 = 3 ∨ f1 = 6 := by omega
    have HI1 := hid (show decI (B.take k) = AIm.none by unfold decI; rw [if_neg (by rw [hs1]; exact hcut)])
    have HD2 := hid (by have := dec_more m0 HOK.out a2 []; rw [HBB.out] at this; exact this : decS (B ++ [a2]) = (B.length, 6))
    have HI2 := hid (show decI (B ++ [a2]) = AIm.none by unfold decI; rw [HD2.out]; rfl)
    have HYB := hid (show Byt (B ++ [a2]) from fun c hc => by rcases List.mem_append.1 hc with h | h; exact HBY.out c h; simp at h; rw [h]; exact w2)
    have HTB := hid (show Byt (B.take k) from fun c hc => HBY.out c (List.mem_of_mem_take hc))
    have HTL := hid (show (B.take k).length = k by have := HKL.out; rw [List.length_take]; omega)
    have ha1 : -9223372036854775808 ≤ a1 ∧ a1 ≤ 9223372036854775807 := by omega
    have ha1w : wrap64 a1 = a1 := by unfold wrap64; omega
    clear hcut hle hs1 w1 w2
    rcases hf1 with rfl | rfl
    · go_enter Tryd.func7, Tryd.ntmps7
      go_wp2_with (first
        | (go_at_call 9; refine (big_any _ _ _ m0 (fun _ => True) (HM.out.bw (HW0.out.trans (HB.out.trans (by repeat (first | exact Bw.refl _ | apply Bw.alloc | apply Bw.drewN | apply Bw.drew)))))).mono ?_; rintro e wq ⟨q, rfl, hq, hb1⟩; have hbq30 := (show ∀ {p : World}, Bw (w.alloc (.cells #[.slice ia1 in1 ic1, .slice ia2 in2 ic2, .slice ia3 in3 ic3, .int .i64 m0.globals] 26)) p → Bw p wq → Bw p wq from fun _ k => k) HB.out (Bw.trans (by repeat (first | exact Bw.refl _ | apply Bw.alloc | apply Bw.drewN | apply Bw.drew)) hb1); replace HB := hid (HB.out.trans hbq30); have u30 := (HP.out.bw HB.out).cell; have ul30 := (HP.out.bw HB.out).lt; clear hb1 hbq30; have HQ := hid hq; clear hq; cases q)
        | (go_at_call 10; refine (live_any (HO.out.bw (HW0.out.trans (HB.out.trans (by repeat (first | exact Bw.refl _ | apply Bw.alloc | apply Bw.drewN | apply Bw.drew)))))).mono ?_; rintro e wq ⟨rfl, hb1⟩; have hbq31 := (show ∀ {p : World}, Bw (w.alloc (.cells #[.slice ia1 in1 ic1, .slice ia2 in2 ic2, .slice ia3 in3 ic3, .int .i64 m0.globals] 26)) p → Bw p wq → Bw p wq from fun _ k => k) HB.out (Bw.trans (by repeat (first | exact Bw.refl _ | apply Bw.alloc | apply Bw.drewN | apply Bw.drew)) hb1); replace HB := hid (HB.out.trans hbq31); have u31 := (HP.out.bw HB.out).cell; have ul31 := (HP.out.bw HB.out).lt; clear hb1 hbq31)
        | (go_at_call 17; refine (num_any _ _).mono ?_; rintro e wn ⟨rfl, hwn⟩; subst wn)
        | (go_at_call 18; (fail_if_success (have _q := HX)); refine (enc_yes (HM.out.bw (HW0.out.trans (HB.out.trans (by repeat (first | exact Bw.refl _ | apply Bw.alloc | apply Bw.drewN | apply Bw.drew))))) B HBB.out (by rw [← HBB.out]; exact (small_len (HQ.out (by simp)))) HOK.out).mono ?_; rintro e wq ⟨hb1, ax, cx, rfl, hx, hby⟩; have hbq32 := (show ∀ {p : World}, Bw (w.alloc (.cells #[.slice ia1 in1 ic1, .slice ia2 in2 ic2, .slice ia3 in3 ic3, .int .i64 m0.globals] 26)) p → Bw p wq → Bw p wq from fun _ k => k) HB.out (Bw.trans (by repeat (first | exact Bw.refl _ | apply Bw.alloc | apply Bw.drewN | apply Bw.drew)) hb1); replace HB := hid (HB.out.trans hbq32); have u32 := (HP.out.bw HB.out).cell; have ul32 := (HP.out.bw HB.out).lt; clear hb1 hbq32; have HX := hid hx; have HXB := hid hby; clear hx hby; obtain ⟨gx, ox, ex, hgx, hcx⟩ := bs_form HX.out HNP.out; subst ex)
        | (go_at_call 20; (fail_if_success (have _q := Hx)); refine (dec_w ((bs_take HX.out (Nat.le_of_lt HKL.out)).below (by repeat (first | exact Bw.refl _ | apply Bw.alloc | apply Bw.drewN | apply Bw.drew))) HTB.out (by rw [HTL.out]; have := HKL.out; have := HBL.out (HQ.out (by simp)); omega) (p1, 3) HS1.out AIm.none HI1.out).mono ?_; rintro e wq ⟨hb1, xn1, xn2, xn3, xa1, xa2, xa3, xc1, xc2, xc3, rfl, hi1⟩; have hbq33 := (show ∀ {p : World}, Bw (w.alloc (.cells #[.slice ia1 in1 ic1, .slice ia2 in2 ic2, .slice ia3 in3 ic3, .int .i64 m0.globals] 26)) p → Bw p wq → Bw p wq from fun _ k => k) HB.out (Bw.trans (by repeat (first | exact Bw.refl _ | apply Bw.alloc | apply Bw.drewN | apply Bw.drew)) hb1); replace HB := hid (HB.out.trans hbq33); have u33 := (HP.out.bw HB.out).cell; have ul33 := (HP.out.bw HB.out).lt; replace HX := hid (HX.out.below hbq33); clear hb1 hbq33; have Hx := hid hi1; unfold ImA; clear hi1)
        | (go_at_call 22; (have _q := Hx; clear _q); (fail_if_success (have _q := HSx)); refine (same_any _ _ _ _ _ _ AIm.none _ _ (Hx.out.bw (by repeat (first | exact Bw.refl _ | apply Bw.alloc | apply Bw.drewN | apply Bw.drew))) (RIm.none _ (fun _ => True))).mono ?_; rintro e wq ⟨rfl, hb1⟩; have hbq34 := (show ∀ {p : World}, Bw (w.alloc (.cells #[.slice ia1 in1 ic1, .slice ia2 in2 ic2, .slice ia3 in3 ic3, .int .i64 m0.globals] 26)) p → Bw p wq → Bw p wq from fun _ k => k) HB.out (Bw.trans (by repeat (first | exact Bw.refl _ | apply Bw.alloc | apply Bw.drewN | apply Bw.drew)) hb1); replace HB := hid (HB.out.trans hbq34); have u34 := (HP.out.bw HB.out).cell; have ul34 := (HP.out.bw HB.out).lt; replace HX := hid (HX.out.below hbq34); clear hb1 hbq34; have HSx := hid trivial)
        | (at_builtin; (fail_if_success (have _q := HA1)); refine wpList_append_sl _ rfl _ _ 44 rfl (w.heap.size + 1) 5 i1 (.int .u8 0) 1 1 under22 I1.out.1 I1.out.2.1 I1.out.2.2.1 I1.out.2.2.2 rfl (by decide) (.slice (some ⟨_, 0, none⟩) 0 0) 0 [] rfl (own_empty _ 5 1 (w.heap.size + 1) _ rfl (by have := HB.out.size; simp only [World.size_alloc] at this ⊢; omega)) _ B.length (B.map (Value.int .u8)) rfl (HX.out.below (by repeat (first | exact Bw.refl _ | apply Bw.alloc | apply Bw.drewN | apply Bw.drew))) (ints_one _ _) (by have := HBL.out (HQ.out (by simp)); unfold maxLen; omega) (by have := HBL.out (HQ.out (by simp)); omega) (by have := HB.out.size; simp only [World.size_alloc] at this ⊢; omega) ?_; intro va wq hown hgr; rw [Nat.zero_add, List.nil_append] at hown; obtain ⟨aa, ca, ea⟩ := own_form hown; subst ea; have hbq35 := (show ∀ {p q : World}, Bw (w.alloc (.cells #[.slice ia1 in1 ic1, .slice ia2 in2 ic2, .slice ia3 in3 ic3, .int .i64 m0.globals] 26)) p → Bw p q → Bw (w.alloc (.cells #[.slice ia1 in1 ic1, .slice ia2 in2 ic2, .slice ia3 in3 ic3, .int .i64 m0.globals] 26)) wq → Bw (w.alloc (.cells #[.slice ia1 in1 ic1, .slice ia2 in2 ic2, .slice ia3 in3 ic3, .int .i64 m0.globals] 26)) wq from fun _ _ k => k) HB.out (by repeat (first | exact Bw.refl _ | apply Bw.alloc | apply Bw.drewN | apply Bw.drew)) (bw_grown (HB.out.trans (by repeat (first | exact Bw.refl _ | apply Bw.alloc | apply Bw.drewN | apply Bw.drew))) (by simp) (own_empty _ 5 1 (w.heap.size + 1) _ rfl (by have := HB.out.size; simp only [World.size_alloc] at this ⊢; omega)) hgr); replace HB := hid hbq35; have u35 := (HP.out.bw HB.out).cell; have ul35 := (HP.out.bw HB.out).lt; have HA1 := hid hown; clear hbq35 hown hgr)
        | (at_builtin; (have _q := HA1; clear _q); refine wpList_append_own _ rfl _ _ 44 rfl (w.heap.size + 1) 5 i1 (.int .u8 0) 1 1 under22 I1.out.1 I1.out.2.1 I1.out.2.2.1 I1.out.2.2.2 rfl (by decide) (.slice aa B.length ca) B.length (B.map (Value.int .u8)) rfl (HA1.out.alloc _) ⟨wq.heap.size, 0, none⟩ 1 1 [.int .u8 a2] rfl rfl (new_cell wq a2) (by intro u hu; simp at hu; subst hu; rfl) (by have := HBL.out (HQ.out (by simp)); unfold maxLen; omega) (by have := HBL.out (HQ.out (by simp)); omega) (by have := HB.out.size; simp only [World.size_alloc] at this ⊢; omega) ?_; intro va wr hown hgr _; obtain ⟨ab, cb, eb⟩ := own_form hown; subst eb; have hbq36 := bw_grown (HB.out.alloc _) (by simp) (HA1.out.alloc _) hgr; replace HB := hid hbq36; have u36 := (HP.out.bw HB.out).cell; have ul36 := (HP.out.bw HB.out).lt; have HZ := hid (bs_snoc hown); clear hbq36 hown hgr)
        | (go_at_call 20; (have _q := HZ; clear _q); (fail_if_success (have _q := Hz)); refine (dec_w (HZ.out.below (by repeat (first | exact Bw.refl _ | apply Bw.alloc | apply Bw.drewN | apply Bw.drew))) HYB.out (by have := HBL.out (HQ.out (by simp)); have := HBL2.out (HQ.out (by simp)); simp; omega) (B.length, 6) HD2.out AIm.none HI2.out).mono ?_; rintro e wq ⟨hb1, zn1, zn2, zn3, za1, za2, za3, zc1, zc2, zc3, rfl, hi1⟩; have hbq37 := (show ∀ {p : World}, Bw (w.alloc (.cells #[.slice ia1 in1 ic1, .slice ia2 in2 ic2, .slice ia3 in3 ic3, .int .i64 m0.globals] 26)) p → Bw p wq → Bw p wq from fun _ k => k) HB.out (Bw.trans (by repeat (first | exact Bw.refl _ | apply Bw.alloc | apply Bw.drewN | apply Bw.drew)) hb1); replace HB := hid (HB.out.trans hbq37); have u37 := (HP.out.bw HB.out).cell; have ul37 := (HP.out.bw HB.out).lt; clear hb1 hbq37; have Hz := hid hi1; unfold ImA; clear hi1)
        | (go_at_call 22; (have _q := Hz; clear _q); refine (same_any _ _ _ _ _ _ AIm.none _ _ (Hz.out.bw (by repeat (first | exact Bw.refl _ | apply Bw.alloc | apply Bw.drewN | apply Bw.drew))) (RIm.none _ (fun _ => True))).mono ?_; rintro e wq ⟨rfl, hb1⟩; have hbq38 := (show ∀ {p : World}, Bw (w.alloc (.cells #[.slice ia1 in1 ic1, .slice ia2 in2 ic2, .slice ia3 in3 ic3, .int .i64 m0.globals] 26)) p → Bw p wq → Bw p wq from fun _ k => k) HB.out (Bw.trans (by repeat (first | exact Bw.refl _ | apply Bw.alloc | apply Bw.drewN | apply Bw.drew)) hb1); replace HB := hid (HB.out.trans hbq38); have u38 := (HP.out.bw HB.out).cell; have ul38 := (HP.out.bw HB.out).lt; clear hb1 hbq38)
        | fail)
      all_goals go_ret
      all_goals exact ⟨rfl, HW0.out.trans HB.out⟩
    · go_enter Tryd.func7, Tryd.ntmps7
      go_wp2_with (first
        | (go_at_call 9; refine (big_any _ _ _ m0 (fun _ => True) (HM.out.bw (HW0.out.trans (HB.out.trans (by repeat (first | exact Bw.refl _ | apply Bw.alloc | apply Bw.drewN | apply Bw.drew)))))).mono ?_; rintro e wq ⟨q, rfl, hq, hb1⟩; have hbq39 := (show ∀ {p : World}, Bw (w.alloc (.cells #[.slice ia1 in1 ic1, .slice ia2 in2 ic2, .slice ia3 in3 ic3, .int .i64 m0.globals] 26)) p → Bw p wq → Bw p wq from fun _ k => k) HB.out (Bw.trans (by repeat (first | exact Bw.refl _ | apply Bw.alloc | apply Bw.drewN | apply Bw.drew)) hb1); replace HB := hid (HB.out.trans hbq39); have u39 := (HP.out.bw HB.out).cell; have ul39 := (HP.out.bw HB.out).lt; clear hb1 hbq39; have HQ := hid hq; clear hq; cases q)
        | (go_at_call 10; refine (live_any (HO.out.bw (HW0.out.trans (HB.out.trans (by repeat (first | exact Bw.refl _ | apply Bw.alloc | apply Bw.drewN | apply Bw.drew)))))).mono ?_; rintro e wq ⟨rfl, hb1⟩; have hbq40 := (show ∀ {p : World}, Bw (w.alloc (.cells #[.slice ia1 in1 ic1, .slice ia2 in2 ic2, .slice ia3 in3 ic3, .int .i64 m0.globals] 26)) p → Bw p wq → Bw p wq from fun _ k => k) HB.out (Bw.trans (by repeat (first | exact Bw.refl _ | apply Bw.alloc | apply Bw.drewN | apply Bw.drew)) hb1); replace HB := hid (HB.out.trans hbq40); have u40 := (HP.out.bw HB.out).cell; have ul40 := (HP.out.bw HB.out).lt; clear hb1 hbq40)
        | (go_at_call 17; refine (num_any _ _).mono ?_; rintro e wn ⟨rfl, hwn⟩; subst wn)
        | (go_at_call 18; (fail_if_success (have _q := HX)); refine (enc_yes (HM.out.bw (HW0.out.trans (HB.out.trans (by repeat (first | exact Bw.refl _ | apply Bw.alloc | apply Bw.drewN | apply Bw.drew))))) B HBB.out (by rw [← HBB.out]; exact (small_len (HQ.out (by simp)))) HOK.out).mono ?_; rintro e wq ⟨hb1, ax, cx, rfl, hx, hby⟩; have hbq41 := (show ∀ {p : World}, Bw (w.alloc (.cells #[.slice ia1 in1 ic1, .slice ia2 in2 ic2, .slice ia3 in3 ic3, .int .i64 m0.globals] 26)) p → Bw p wq → Bw p wq from fun _ k => k) HB.out (Bw.trans (by repeat (first | exact Bw.refl _ | apply Bw.alloc | apply Bw.drewN | apply Bw.drew)) hb1); replace HB := hid (HB.out.trans hbq41); have u41 := (HP.out.bw HB.out).cell; have ul41 := (HP.out.bw HB.out).lt; clear hb1 hbq41; have HX := hid hx; have HXB := hid hby; clear hx hby; obtain ⟨gx, ox, ex, hgx, hcx⟩ := bs_form HX.out HNP.out; subst ex)
        | (go_at_call 20; (fail_if_success (have _q := Hx)); refine (dec_w ((bs_take HX.out (Nat.le_of_lt HKL.out)).below (by repeat (first | exact Bw.refl _ | apply Bw.alloc | apply Bw.drewN | apply Bw.drew))) HTB.out (by rw [HTL.out]; have := HKL.out; have := HBL.out (HQ.out (by simp)); omega) (p1, 6) HS1.out AIm.none HI1.out).mono ?_; rintro e wq ⟨hb1, xn1, xn2, xn3, xa1, xa2, xa3, xc1, xc2, xc3, rfl, hi1⟩; have hbq42 := (show ∀ {p : World}, Bw (w.alloc (.cells #[.slice ia1 in1 ic1, .slice ia2 in2 ic2, .slice ia3 in3 ic3, .int .i64 m0.globals] 26)) p → Bw p wq → Bw p wq from fun _ k => k) HB.out (Bw.trans (by repeat (first | exact Bw.refl _ | apply Bw.alloc | apply Bw.drewN | apply Bw.drew)) hb1); replace HB := hid (HB.out.trans hbq42); have u42 := (HP.out.bw HB.out).cell; have ul42 := (HP.out.bw HB.out).lt; replace HX := hid (HX.out.below hbq42); clear hb1 hbq42; have Hx := hid hi1; unfold ImA; clear hi1)
        | (go_at_call 22; (have _q := Hx; clear _q); (fail_if_success (have _q := HSx)); refine (same_any _ _ _ _ _ _ AIm.none _ _ (Hx.out.bw (by repeat (first | exact Bw.refl _ | apply Bw.alloc | apply Bw.drewN | apply Bw.drew))) (RIm.none _ (fun _ => True))).mono ?_; rintro e wq ⟨rfl, hb1⟩; have hbq43 := (show ∀ {p : World}, Bw (w.alloc (.cells #[.slice ia1 in1 ic1, .slice ia2 in2 ic2, .slice ia3 in3 ic3, .int .i64 m0.globals] 26)) p → Bw p wq → Bw p wq from fun _ k => k) HB.out (Bw.trans (by repeat (first | exact Bw.refl _ | apply Bw.alloc | apply Bw.drewN | apply Bw.drew)) hb1); replace HB := hid (HB.out.trans hbq43); have u43 := (HP.out.bw HB.out).cell; have ul43 := (HP.out.bw HB.out).lt; replace HX := hid (HX.out.below hbq43); clear hb1 hbq43; have HSx := hid trivial)
        | (at_builtin; (fail_if_success (have _q := HA1)); refine wpList_append_sl _ rfl _ _ 44 rfl (w.heap.size + 1) 5 i1 (.int .u8 0) 1 1 under22 I1.out.1 I1.out.2.1 I1.out.2.2.1 I1.out.2.2.2 rfl (by decide) (.slice (some ⟨_, 0, none⟩) 0 0) 0 [] rfl (own_empty _ 5 1 (w.heap.size + 1) _ rfl (by have := HB.out.size; simp only [World.size_alloc] at this ⊢; omega)) _ B.length (B.map (Value.int .u8)) rfl (HX.out.below (by repeat (first | exact Bw.refl _ | apply Bw.alloc | apply Bw.drewN | apply Bw.drew))) (ints_one _ _) (by have := HBL.out (HQ.out (by simp)); unfold maxLen; omega) (by have := HBL.out (HQ.out (by simp)); omega) (by have := HB.out.size; simp only [World.size_alloc] at this ⊢; omega) ?_; intro va wq hown hgr; rw [Nat.zero_add, List.nil_append] at hown; obtain ⟨aa, ca, ea⟩ := own_form hown; subst ea; have hbq44 := (show ∀ {p q : World}, Bw (w.alloc (.cells #[.slice ia1 in1 ic1, .slice ia2 in2 ic2, .slice ia3 in3 ic3, .int .i64 m0.globals] 26)) p → Bw p q → Bw (w.alloc (.cells #[.slice ia1 in1 ic1, .slice ia2 in2 ic2, .slice ia3 in3 ic3, .int .i64 m0.globals] 26)) wq → Bw (w.alloc (.cells #[.slice ia1 in1 ic1, .slice ia2 in2 ic2, .slice ia3 in3 ic3, .int .i64 m0.globals] 26)) wq from fun _ _ k => k) HB.out (by repeat (first | exact Bw.refl _ | apply Bw.alloc | apply Bw.drewN | apply Bw.drew)) (bw_grown (HB.out.trans (by repeat (first | exact Bw.refl _ | apply Bw.alloc | apply Bw.drewN | apply Bw.drew))) (by simp) (own_empty _ 5 1 (w.heap.size + 1) _ rfl (by have := HB.out.size; simp only [World.size_alloc] at this ⊢; omega)) hgr); replace HB := hid hbq44; have u44 := (HP.out.bw HB.out).cell; have ul44 := (HP.out.bw HB.out).lt; have HA1 := hid hown; clear hbq44 hown hgr)
        | (at_builtin; (have _q := HA1; clear _q); refine wpList_append_own _ rfl _ _ 44 rfl (w.heap.size + 1) 5 i1 (.int .u8 0) 1 1 under22 I1.out.1 I1.out.2.1 I1.out.2.2.1 I1.out.2.2.2 rfl (by decide) (.slice aa B.length ca) B.length (B.map (Value.int .u8)) rfl (HA1.out.alloc _) ⟨wq.heap.size, 0, none⟩ 1 1 [.int .u8 a2] rfl rfl (new_cell wq a2) (by intro u hu; simp at hu; subst hu; rfl) (by have := HBL.out (HQ.out (by simp)); unfold maxLen; omega) (by have := HBL.out (HQ.out (by simp)); omega) (by have := HB.out.size; simp only [World.size_alloc] at this ⊢; omega) ?_; intro va wr hown hgr _; obtain ⟨ab, cb, eb⟩ := own_form hown; subst eb; have hbq45 := bw_grown (HB.out.alloc _) (by simp) (HA1.out.alloc _) hgr; replace HB := hid hbq45; have u45 := (HP.out.bw HB.out).cell; have ul45 := (HP.out.bw HB.out).lt; have HZ := hid (bs_snoc hown); clear hbq45 hown hgr)
        | (go_at_call 20; (have _q := HZ; clear _q); (fail_if_success (have _q := Hz)); refine (dec_w (HZ.out.below (by repeat (first | exact Bw.refl _ | apply Bw.alloc | apply Bw.drewN | apply Bw.drew))) HYB.out (by have := HBL.out (HQ.out (by simp)); have := HBL2.out (HQ.out (by simp)); simp; omega) (B.length, 6) HD2.out AIm.none HI2.out).mono ?_; rintro e wq ⟨hb1, zn1, zn2, zn3, za1, za2, za3, zc1, zc2, zc3, rfl, hi1⟩; have hbq46 := (show ∀ {p : World}, Bw (w.alloc (.cells #[.slice ia1 in1 ic1, .slice ia2 in2 ic2, .slice ia3 in3 ic3, .int .i64 m0.globals] 26)) p → Bw p wq → Bw p wq from fun _ k => k) HB.out (Bw.trans (by repeat (first | exact Bw.refl _ | apply Bw.alloc | apply Bw.drewN | apply Bw.drew)) hb1); replace HB := hid (HB.out.trans hbq46); have u46 := (HP.out.bw HB.out).cell; have ul46 := (HP.out.bw HB.out).lt; clear hb1 hbq46; have Hz := hid hi1; unfold ImA; clear hi1)
        | (go_at_call 22; (have _q := Hz; clear _q); refine (same_any _ _ _ _ _ _ AIm.none _ _ (Hz.out.bw (by repeat (first | exact Bw.refl _ | apply Bw.alloc | apply Bw.drewN | apply Bw.drew))) (RIm.none _ (fun _ => True))).mono ?_; rintro e wq ⟨rfl, hb1⟩; have hbq47 := (show ∀ {p : World}, Bw (w.alloc (.cells #[.slice ia1 in1 ic1, .slice ia2 in2 ic2, .slice ia3 in3 ic3, .int .i64 m0.globals] 26)) p → Bw p wq → Bw p wq from fun _ k => k) HB.out (Bw.trans (by repeat (first | exact Bw.refl _ | apply Bw.alloc | apply Bw.drewN | apply Bw.drew)) hb1); replace HB := hid (HB.out.trans hbq47); have u47 := (HP.out.bw HB.out).cell; have ul47 := (HP.out.bw HB.out).lt; clear hb1 hbq47)
        | fail)
      all_goals go_ret
      all_goals exact ⟨rfl, HW0.out.trans HB.out⟩

set_option maxRecDepth 100000 in
theorem lifted (os : Os) (started : os.Started) (H : Type) (enc : TypeId × Value → H) :
    ReturnsInHanded {} Tryd.checked os 7 .any (fun w args => (Rows.codeCutsSpec.pre enc Tryd.prog Tryd.f7 [] false w args ∧ laidMetH Tryd.prog laidS w) ∧ sizedMet enc Tryd.prog Tryd.f7 (OpenSpec.ofChange Rows.codeCutsSpec) false w args)
      (Rows.codeCutsSpec.post enc Tryd.prog Tryd.f7 false true false false) := by
  refine returnsInHanded_of_change_and (C := Tryd.checked) (X := fun w _ => laidMetH Tryd.prog laidS w) (fun _ _ _ hh h => h.of_heap hh) ownK started (by kernel_rfl) Tryd.func7
    (ChangeSpec.witness_shaped (enc := enc) (C := Tryd.checked) (os := os) (X := fun w _ => laidMetH Tryd.prog laidS w) false (World.doorLaid Tryd.prog 400 os) #[.agg #[.slice none 0 0, .slice none 0 0, .slice none 0 0, .int .i64 0], .int .u16 0, .int .u8 0] 8 rfl (World.shaped_of_RefB (by kernel_rfl) (by kernel_rfl)) (by kernel_rfl) (by kernel_rfl) (by kernel_rfl) (door_met os _)) ?_
  intro W base args ds gs before hval0 hW _ _ hL _
  have hval : ∀ (j : Nat) t v, Tryd.f7.params[j]? = some t → args[j]? = some v → Value.okWide Tryd.prog W .any base t v := hval0
  have hW' := hW
  obtain ⟨p, q, hA0, hV, rfl, hfz, hnd⟩ := hW
  have hA : DataW.TrodAll enc Tryd.prog W 0 (fun _ => true) true Tryd.f7.params.toList args.toList ds p := hA0
  rw [Tryd.params7] at hA hval
  obtain ⟨v0, vs0, d0, ds0, p0, q0, hargs, rfl, rfl, h0, r0⟩ := trodAll_cons hA
  obtain ⟨v1, vs1, d1, ds1, p1, q1, rfl, rfl, rfl, h1, r1⟩ := trodAll_cons r0
  obtain ⟨v2, vs2, d2, ds2, p2, q2, rfl, rfl, rfl, h2, r2⟩ := trodAll_cons r1
  obtain ⟨rfl, rfl, rfl⟩ := trodAll_nil r2
  obtain rfl : args = #[v0, v1, v2] := by cases args; simp_all
  obtain ⟨rfl, rfl⟩ := trodVars_none hV
  have k0 := h0
  have lt0 : ∀ x ∈ p0, x.block < W.heap.size := by obtain ⟨m, hm⟩ := k0; exact DataW.trod_lt m _ _ _ hm
  have k1 := h1
  have lt1 : ∀ x ∈ p1, x.block < W.heap.size := by obtain ⟨m, hm⟩ := k1; exact DataW.trod_lt m _ _ _ hm
  have k2 := h2
  have lt2 : ∀ x ∈ p2, x.block < W.heap.size := by obtain ⟨m, hm⟩ := k2; exact DataW.trod_lt m _ _ _ hm
  obtain ⟨vf0, vs0, vk0, m0, e0, w0⟩ := open_image (hval 0 26 v0 rfl rfl) h0
  subst e0
  obtain ⟨a1, rfl, rfl, rfl, w10⟩ := open_int Tryd.underlying56 (hval 1 56 v1 rfl rfl) h1
  have w1 : 0 ≤ a1 ∧ a1 ≤ 65535 := by have := bounds_u16 w10; omega
  obtain ⟨a2, rfl, rfl, rfl, w20⟩ := open_int Tryd.underlying5 (hval 2 5 v2 rfl rfl) h2
  have w2 : 0 ≤ a2 ∧ a2 ≤ 255 := by have := bounds_u8 w20; omega
  have hs := og_of_laid hL
  clear hA0 hval0
  refine (walk vf0 vs0 vk0 m0 a1 w1 a2 w2 W hs w0).mono fun e W' ⟨he, bel⟩ => ?_
  subst he
  exact ⟨_, rfl, _, _, _, [], _, [], hW', trodAll_mk1 (shut_bool Tryd.underlying4 _), (trodAll_cons_mk (Below.trod laidOut (by kernel_rfl) (of_decide_eq_true (by kernel_rfl)) k0 bel lt0) (trodAll_cons_mk (Below.trod laidOut (by kernel_rfl) (of_decide_eq_true (by kernel_rfl)) k1 bel lt1) (trodAll_cons_mk (Below.trod laidOut (by kernel_rfl) (of_decide_eq_true (by kernel_rfl)) k2 bel lt2) trodAll_mk0))), rfl, Below.frame bel _, fun h => by cases h⟩

theorem over : Rows.codeCutsRow.holds Tryd.pinned (OpenSpec.ofChange Rows.codeCutsSpec) :=
  OpenClaim.holds_of_wide 7 Tryd.f7 rfl rfl rfl rfl rfl rfl rfl ⟨rfl, rfl, rfl, rfl, rfl⟩ rfl rfl rfl rfl rfl (by kernel_rfl) Tryd.func7 (by kernel_rfl)
    (of_decide_eq_true (by kernel_rfl)) (by unfold Func.isWrapper; first | (rw [if_pos (by decide +kernel)]; kernel_rfl) | (rw [if_neg (by decide +kernel)]; exact ⟨rfl, rfl⟩))
    (fun os started H enc _ => lifted os started H enc)

theorem card : Rows.CodeCutsCardSaid :=
  Claim7.holds_tied_plain_at .later [] [.data] true (true, "cac749f79879078034011fce91b11fca52ecc96e699a6bc9fa88c96545969f9c") false
    over (fun _ h => by cases h) (by kernel_rfl) (fun _ h => by cases h) codeCuts_row_tie rfl ⟨rfl, rfl⟩ (by kernel_rfl) rfl
    (fun f fn hf hfn => by
      obtain rfl : f = 7 := Option.some.inj ((show Tryd.prog.funcNamed "jacquard/jacquardlaw10.CodeCuts" = some 7 by kernel_rfl).symm.trans hf) |>.symm
      obtain rfl : fn = Tryd.f7 := (Option.some.inj (Tryd.func7.symm.trans hfn)).symm
      exact ⟨by kernel_rfl, fun j t ht => by
        rw [Tryd.params7] at ht
        have hm : t ∈ [5, 26, 56] := by have h9 := Array.mem_of_getElem? ht; simp at h9 ⊢; first | exact h9 | (rcases h9 with h9 | h9 <;> simp [h9]; done) | (rcases h9 with h9 | h9 | h9 <;> simp [h9]; done) | (rcases h9 with h9 | h9 | h9 | h9 <;> simp [h9]; done)
        have hall : ([5, 26, 56].all fun u => !Tryd.prog.wantsStandIn u) = true := by kernel_rfl
        exact (show Tryd.prog.wantsStandIn t = false by simpa using List.all_eq_true.1 hall t hm)⟩)
    (by kernel_rfl)
end Go.Proofs.YtmhjfkhcpfihfaaDoor.codeCuts
namespace Go.Proofs.YtmhjfkhcpfihfaaDoor
theorem codeCuts_holds : Rows.CodeCutsCardSaid := codeCuts.card
#print axioms codeCuts_holds
end Go.Proofs.YtmhjfkhcpfihfaaDoor
