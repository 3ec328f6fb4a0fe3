/- The reader: images; Decode: contracts. -/
import Derived.Test.YtfhnhbpmiodomaaDoorQi
set_option linter.unusedSimpArgs false
set_option linter.unusedVariables false
namespace Go.Proofs.YtfhnhbpmiodomaaDoor
open Go Go.RowKit

theorem RKs.kpn {N r : Nat} {w w' : World} {v : Value} {l : List (List Int × Value)} (h : RKs w (fun x => N ≤ x) v l) (hk : Kp r w w') (hr : r < N) : RKs w' (fun x => N ≤ x) v l :=
  RKs.keep h hk.size (fun b hb hG => hk.block b hb (by omega)) (fun _ _ g => g)
theorem RKs.setn {N : Nat} {w : World} {v : Value} {l : List (List Int × Value)} (h : RKs w (fun x => N ≤ x) v l) {g : Nat} (hg : g < N) (j : Nat) (u : Value) : RKs (w.setCell ⟨g, j, none⟩ u) (fun x => N ≤ x) v l :=
  RKs.keep h (by simp [World.setCell]) (fun b hb hG => Below.heap_setCell w ⟨g, j, none⟩ u b (show b ≠ g by omega)) (fun _ _ g => g)
theorem RKs.low {N M : Nat} {w : World} {v : Value} {l : List (List Int × Value)} (h : RKs w (fun x => M ≤ x) v l) (hl : N ≤ M) : RKs w (fun x => N ≤ x) v l :=
  RKs.keep h (Nat.le_refl _) (fun _ _ _ => rfl) (fun b _ hb => Nat.le_trans hl hb)
theorem RFs.kpn {N r : Nat} {w w' : World} {v : Value} {l : List MFn} (h : RFs w (fun x => N ≤ x) v l) (hk : Kp r w w') (hr : r < N) : RFs w' (fun x => N ≤ x) v l :=
  RFs.keep h hk.size (fun b hb hG => hk.block b hb (by omega)) (fun _ _ g => g)
theorem RFs.setn {N : Nat} {w : World} {v : Value} {l : List MFn} (h : RFs w (fun x => N ≤ x) v l) {g : Nat} (hg : g < N) (j : Nat) (u : Value) : RFs (w.setCell ⟨g, j, none⟩ u) (fun x => N ≤ x) v l :=
  RFs.keep h (by simp [World.setCell]) (fun b hb hG => Below.heap_setCell w ⟨g, j, none⟩ u b (show b ≠ g by omega)) (fun _ _ g => g)
theorem RFs.low {N M : Nat} {w : World} {v : Value} {l : List MFn} (h : RFs w (fun x => M ≤ x) v l) (hl : N ≤ M) : RFs w (fun x => N ≤ x) v l :=
  RFs.keep h (Nat.le_refl _) (fun _ _ _ => rfl) (fun b _ hb => Nat.le_trans hl hb)

section
variable {base r : Nat} {w w' : World} {vb : Value} {b : List Int} {s : St}

set_option maxRecDepth 100000 in
set_option maxHeartbeats 8000000 in
theorem qimage_any (h : RB base w r vb b (0, 0)) :
    Calls Tryd.prog 22 #[.pointer (some ⟨r, 0, none⟩)] w fun e w' => ∃ vf vs vk, e = .returned (imV vf vs vk (imM b (mkM b)).1) ∧ RIm w' (fun x => w.heap.size ≤ x) vf vs vk (imM b (mkM b)).1 ∧ RB base w' r vb b (imM b (mkM b)).2 ∧ Kp r w w' := by
  have HBY := hid h.bytes
  have hrl := h.k.lt
  have hba := h.base
  have HW0 := hid (show Bw w ((w.alloc (.cells #[.pointer (some ⟨r, 0, none⟩)] 63)).alloc (.cells #[.slice none 0 0, .slice none 0 0, .slice none 0 0, .int .i64 0] 26)) from Bw.alloc (Bw.alloc (Bw.refl w) _) _)
  have HRa := hid (h.bw HW0.out)
  have HPa := hid (show Blk ((w.alloc (.cells #[.pointer (some ⟨r, 0, none⟩)] 63)).alloc (.cells #[.slice none 0 0, .slice none 0 0, .slice none 0 0, .int .i64 0] 26)) w.heap.size #[.pointer (some ⟨r, 0, none⟩)] 63 from (Blk.new w #[.pointer (some ⟨r, 0, none⟩)] 63).alloc _)
  have HZa := hid (show Blk ((w.alloc (.cells #[.pointer (some ⟨r, 0, none⟩)] 63)).alloc (.cells #[.slice none 0 0, .slice none 0 0, .slice none 0 0, .int .i64 0] 26)) (w.heap.size + 1) #[.slice none 0 0, .slice none 0 0, .slice none 0 0, .int .i64 0] 26 from by have := Blk.new (w.alloc (.cells #[.pointer (some ⟨r, 0, none⟩)] 63)) #[.slice none 0 0, .slice none 0 0, .slice none 0 0, .int .i64 0] 26; simpa only [World.size_alloc] using this)
  have HKa := hid (Kp.of_bw (r := r) HW0.out)
  have HSa := hid (show w.heap.size + 2 ≤ ((w.alloc (.cells #[.pointer (some ⟨r, 0, none⟩)] 63)).alloc (.cells #[.slice none 0 0, .slice none 0 0, .slice none 0 0, .int .i64 0] 26)).heap.size by simp only [World.size_alloc]; omega)
  have HN1 := hid (show w.heap.size ≠ r by omega)
  have HN2 := hid (show w.heap.size + 1 ≠ r by omega)
  have HB2 := hid (show base ≤ w.heap.size + 1 by omega)
  clear h
  obtain ⟨⟨x0, s1⟩, hx0⟩ : ∃ x, lM b (tM b) (mkM b) = x := ⟨_, rfl⟩
  obtain ⟨⟨x1, s2⟩, hx1⟩ : ∃ x, lM b (lM b (nM b)) s1 = x := ⟨_, rfl⟩
  obtain ⟨⟨x2, s3⟩, hx2⟩ : ∃ x, nM b s2 = x := ⟨_, rfl⟩
  obtain ⟨⟨x3, s4⟩, hx3⟩ : ∃ x, lM b (fnM b) s3 = x := ⟨_, rfl⟩
  have HV := hid (show imM b (mkM b) = (⟨x3, x0, x1, x2⟩, s4) by simp only [imM, hx0, hx1, hx2, hx3])
  have HX0 := hid hx0
  have HX1 := hid hx1
  have HX2 := hid hx2
  have HI2 := hid (show I64 x2 by have := nM_bd b HBY.out s2; rw [hx2] at this; unfold I64; omega)
  have HX3 := hid hx3
  clear hx0 hx1 hx2 hx3
  rw [HV.out]
  go_enter Tryd.func22, Tryd.ntmps22
  go_wp2_with (first
    | (go_at_call 45; refine (qmark_any HRa.out).mono ?_; rintro e wm ⟨⟨_, rfl⟩, hr1, hk1⟩; have hsm : w.heap.size + 2 ≤ wm.heap.size := Nat.le_trans HSa.out hk1.size; have hWm : Bw wm (wm.alloc (.cells #[.slice none 0 0, .slice none 0 0, .slice none 0 0, .int .i64 0] 26)) := Bw.alloc (Bw.refl _) _; have HR0 := hid (hr1.bw hWm); have HK0 := hid (show Kp r w (wm.alloc (.cells #[.slice none 0 0, .slice none 0 0, .slice none 0 0, .int .i64 0] 26)) from (HKa.out.trans hk1).bw hWm); have HP0 := hid ((HPa.out.kp hk1 HN1.out).bw hWm); have HZ0 := hid ((HZa.out.kp hk1 HN2.out).bw hWm); have HC0 := hid (Blk.new wm #[.slice none 0 0, .slice none 0 0, .slice none 0 0, .int .i64 0] 26); have HS0 := hid (show wm.heap.size + 1 ≤ (wm.alloc (.cells #[.slice none 0 0, .slice none 0 0, .slice none 0 0, .int .i64 0] 26)).heap.size by simp only [World.size_alloc]; omega); have HN3 := hid (show wm.heap.size ≠ r by omega); have HB3 := hid (show base ≤ wm.heap.size by omega); have HRN := hid (show r < wm.heap.size + 1 by omega); have za := (HPa.out.kp hk1 HN1.out).cell 0; have zla := (HPa.out.kp hk1 HN1.out).lt; clear hr1 hk1 hWm)
    | (go_at_call 46; have _q := HR0; clear _q; (fail_if_success (have _q := HR1)); refine (rlS_any _ HR0.out HP0.out).mono ?_; rintro e w1 ⟨v0, ms0, rfl, hm1, hl1, hr1, hk1⟩; rw [HX0.out] at hr1 hm1; have HM0 := hid hm1; obtain ⟨a0, c0, e0⟩ := hl1.form; subst e0; have HL0 := hid (RL.low hl1 HS0.out); have HR1 := hid hr1; have HK1 := hid (show Kp r w w1 from HK0.out.trans hk1); have HP1 := hid (HP0.out.kp hk1 HN1.out); have HZ1 := hid (HZ0.out.kp hk1 HN2.out); have HC1 := hid (HC0.out.kp hk1 HN3.out); have HS1 := hid (Nat.le_trans HS0.out hk1.size); have z1 := HP1.out.cell 0; have zl1 := HP1.out.lt; have y1 := HC1.out.cell; have yf1 := HC1.out.free; have yl1 := HC1.out.lt; clear hr1 hk1 hl1 hm1)
    | (go_at_call 49; have _q := HR1; clear _q; (fail_if_success (have _q := HR2)); refine (rlL_any _ (HR1.out.other HN3.out HB3.out 1 _) (HP1.out.other (p := ⟨wm.heap.size, 1, none⟩) (by simp only; omega) _)).mono ?_; rintro e w2 ⟨v1, ms1, rfl, hm1, hl1, hr1, hk1⟩; rw [HX1.out] at hr1 hm1; have HM1 := hid hm1; obtain ⟨a1, c1, e1⟩ := hl1.form; subst e1; have HL1 := hid (RKs.low hl1 (show wm.heap.size + 1 ≤ (World.setCell _ _ _).heap.size by rw [World.size_setCell]; exact HS1.out)); have HR2 := hid hr1; have HK2 := hid (show Kp r w w2 from (HK1.out.setNew (by omega) 1 _).trans hk1); have HP2 := hid ((HP1.out.other (p := ⟨wm.heap.size, 1, none⟩) (by simp only; omega) _).kp hk1 HN1.out); have HZ2 := hid ((HZ1.out.other (p := ⟨wm.heap.size, 1, none⟩) (by simp only; omega) _).kp hk1 HN2.out); have HC2 := hid ((HC1.out.set 1 _).kp hk1 HN3.out); have HS2 := hid (Nat.le_trans (show wm.heap.size + 1 ≤ (World.setCell _ _ _).heap.size by rw [World.size_setCell]; exact HS1.out) hk1.size); have HL0 := hid (RL.kpn (RL.setn HL0.out (g := wm.heap.size) (by omega) 1 _) hk1 HRN.out); have z2 := HP2.out.cell 0; have zl2 := HP2.out.lt; have y2 := HC2.out.cell; have yf2 := HC2.out.free; have yl2 := HC2.out.lt; clear hr1 hk1 hl1 hm1)
    | (go_at_call 52; have _q := HR2; clear _q; (fail_if_success (have _q := HR3)); refine (qnumber_any (HR2.out.other HN3.out HB3.out 2 _)).mono ?_; rintro e w3 ⟨rfl, hr1, hk1⟩; rw [HX2.out] at hr1 ⊢; have HR3 := hid hr1; have HK3 := hid (show Kp r w w3 from (HK2.out.setNew (by omega) 2 _).trans hk1); have HP3 := hid ((HP2.out.other (p := ⟨wm.heap.size, 2, none⟩) (by simp only; omega) _).kp hk1 HN1.out); have HZ3 := hid ((HZ2.out.other (p := ⟨wm.heap.size, 2, none⟩) (by simp only; omega) _).kp hk1 HN2.out); have HC3 := hid ((HC2.out.set 2 _).kp hk1 HN3.out); have HS3 := hid (Nat.le_trans (show wm.heap.size + 1 ≤ (World.setCell _ _ _).heap.size by rw [World.size_setCell]; exact HS2.out) hk1.size); have HL0 := hid (RL.kpn (RL.setn HL0.out (g := wm.heap.size) (by omega) 2 _) hk1 HRN.out); have HL1 := hid (RKs.kpn (RKs.setn HL1.out (g := wm.heap.size) (by omega) 2 _) hk1 HRN.out); have z3 := HP3.out.cell 0; have zl3 := HP3.out.lt; have y3 := HC3.out.cell; have yf3 := HC3.out.free; have yl3 := HC3.out.lt; clear hr1 hk1)
    | (go_at_call 53; have _q := HR3; clear _q; (fail_if_success (have _q := HR4)); refine (rlF_any _ (HR3.out.other HN3.out HB3.out 3 _) (HP3.out.other (p := ⟨wm.heap.size, 3, none⟩) (by simp only; omega) _)).mono ?_; rintro e w4 ⟨v3, ms3, rfl, hm1, hl1, hr1, hk1⟩; rw [HX3.out] at hr1 hm1; have HM3 := hid hm1; obtain ⟨a3, c3, e3⟩ := hl1.form; subst e3; have HL3 := hid (RFs.low hl1 (show wm.heap.size + 1 ≤ (World.setCell _ _ _).heap.size by rw [World.size_setCell]; exact HS3.out)); have HR4 := hid hr1; have HK4 := hid (show Kp r w w4 from (HK3.out.setNew (by omega) 3 _).trans hk1); have HP4 := hid ((HP3.out.other (p := ⟨wm.heap.size, 3, none⟩) (by simp only; omega) _).kp hk1 HN1.out); have HZ4 := hid ((HZ3.out.other (p := ⟨wm.heap.size, 3, none⟩) (by simp only; omega) _).kp hk1 HN2.out); have HC4 := hid ((HC3.out.set 3 _).kp hk1 HN3.out); have HS4 := hid (Nat.le_trans (show wm.heap.size + 1 ≤ (World.setCell _ _ _).heap.size by rw [World.size_setCell]; exact HS3.out) hk1.size); have HL0 := hid (RL.kpn (RL.setn HL0.out (g := wm.heap.size) (by omega) 3 _) hk1 HRN.out); have HL1 := hid (RKs.kpn (RKs.setn HL1.out (g := wm.heap.size) (by omega) 3 _) hk1 HRN.out); have z4 := HP4.out.cell 0; have zl4 := HP4.out.lt; have y4 := HC4.out.cell; have yf4 := HC4.out.free; have yl4 := HC4.out.lt; have u := HZ4.out.cell; have uf := HZ4.out.free; have ul := HZ4.out.lt; clear hr1 hk1 hl1 hm1)
    | fail)
  all_goals
    have bf := (((((HZ4.out.other (p := ⟨wm.heap.size, 0, none⟩) (by simp only; omega) (.slice a3 ms3.length c3)).set 0 (.slice a3 ms3.length c3)).set 1 (.slice a0 ms0.length c0)).set 2 (.slice a1 ms1.length c1)).set 3 (.int .i64 x2))
    have bfc := bf.cell
    have e0 : ms0 = x0 := by simpa using HM0.out
    subst e0
    refine bodyPost_ret (v := .agg #[.slice a3 ms3.length c3, .slice a0 ms0.length c0, .slice a1 ms1.length c1, .int .i64 x2]) (by simp [results, Tryd.results22, go_sem, bfc]) rfl ?_
    exact ⟨.slice a3 ms3.length c3, .slice a0 ms0.length c0, .slice a1 ms1.length c1, rfl, ⟨⟨ms3, HM3.out, RFs.low (RFs.setn (RFs.setn (RFs.setn (RFs.setn (RFs.setn HL3.out (g := wm.heap.size) (by omega) 0 _) (g := w.heap.size + 1) (by omega) 0 _) (g := w.heap.size + 1) (by omega) 1 _) (g := w.heap.size + 1) (by omega) 2 _) (g := w.heap.size + 1) (by omega) 3 _) (by omega)⟩, RL.low (RL.setn (RL.setn (RL.setn (RL.setn (RL.setn HL0.out (g := wm.heap.size) (by omega) 0 _) (g := w.heap.size + 1) (by omega) 0 _) (g := w.heap.size + 1) (by omega) 1 _) (g := w.heap.size + 1) (by omega) 2 _) (g := w.heap.size + 1) (by omega) 3 _) (by omega), ⟨ms1, HM1.out, RKs.low (RKs.setn (RKs.setn (RKs.setn (RKs.setn (RKs.setn HL1.out (g := wm.heap.size) (by omega) 0 _) (g := w.heap.size + 1) (by omega) 0 _) (g := w.heap.size + 1) (by omega) 1 _) (g := w.heap.size + 1) (by omega) 2 _) (g := w.heap.size + 1) (by omega) 3 _) (by omega)⟩, HI2.out⟩, (((((HR4.out.other HN3.out HB3.out 0 _).other HN2.out HB2.out 0 _).other HN2.out HB2.out 1 _).other HN2.out HB2.out 2 _).other HN2.out HB2.out 3 _), (((((HK4.out.setNew (by omega) 0 _).setNew (by omega) 0 _).setNew (by omega) 1 _).setNew (by omega) 2 _).setNew (by omega) 3 _)⟩

end

end Go.Proofs.YtfhnhbpmiodomaaDoor
