/- The reader: functions: contracts. -/
import Derived.Test.YtfhnhbpmiodomaaDoorQh
set_option linter.unusedSimpArgs false
set_option linter.unusedVariables false
namespace Go.Proofs.YtfhnhbpmiodomaaDoor
open Go Go.RowKit

theorem RFn.setn {N : Nat} {w : World} {x : MFn} (h : RFn w (fun x => N ≤ x) x) {g : Nat} (hg : g < N) (j : Nat) (u : Value) : RFn (w.setCell ⟨g, j, none⟩ u) (fun x => N ≤ x) x :=
  h.keep (by simp [World.setCell]) (fun b hb hG => Below.heap_setCell w ⟨g, j, none⟩ u b (show b ≠ g by omega)) (fun _ _ g => g)
theorem RFn.low {N M : Nat} {w : World} {x : MFn} (h : RFn w (fun x => M ≤ x) x) (hl : N ≤ M) : RFn w (fun x => N ≤ x) x :=
  h.keep (Nat.le_refl _) (fun _ _ _ => rfl) (fun b _ hb => Nat.le_trans hl hb)

section
variable {base r : Nat} {w w' : World} {vb : Value} {b : List Int} {s : St}

set_option maxRecDepth 100000 in
set_option maxHeartbeats 8000000 in
theorem qfun_any (h : RB base w r vb b s) :
    Calls Tryd.prog 55 #[.pointer (some ⟨r, 0, none⟩)] w fun e w' => ∃ m : MFn, e = .returned (.agg #[.int .i64 m.f.params, .int .i64 m.f.slots, m.vb, m.vc, m.vo, m.vt]) ∧ m.f = (fnM b s).1 ∧ RFn w' (fun x => w.heap.size ≤ x) m ∧ RB base w' r vb b (fnM b s).2 ∧ Kp r w w' := by
  have HBY := hid h.bytes
  have hrl := h.k.lt
  have hba := h.base
  have HW0 := hid (show Bw w (((w.alloc (.cells #[.pointer (some ⟨r, 0, none⟩)] 63)).alloc (.cells #[.int .i64 0, .int .i64 0, .slice none 0 0, .slice none 0 0, .slice none 0 0, .slice none 0 0] 47)).alloc (.cells #[.int .i64 0, .int .i64 0, .slice none 0 0, .slice none 0 0, .slice none 0 0, .slice none 0 0] 47)) from Bw.alloc (Bw.alloc (Bw.alloc (Bw.refl w) _) _) _)
  have HR0 := hid (h.bw HW0.out)
  have HP0 := hid (show Blk (((w.alloc (.cells #[.pointer (some ⟨r, 0, none⟩)] 63)).alloc (.cells #[.int .i64 0, .int .i64 0, .slice none 0 0, .slice none 0 0, .slice none 0 0, .slice none 0 0] 47)).alloc (.cells #[.int .i64 0, .int .i64 0, .slice none 0 0, .slice none 0 0, .slice none 0 0, .slice none 0 0] 47)) w.heap.size #[.pointer (some ⟨r, 0, none⟩)] 63 from ((Blk.new w #[.pointer (some ⟨r, 0, none⟩)] 63).alloc _).alloc _)
  have HZ0 := hid (show Blk (((w.alloc (.cells #[.pointer (some ⟨r, 0, none⟩)] 63)).alloc (.cells #[.int .i64 0, .int .i64 0, .slice none 0 0, .slice none 0 0, .slice none 0 0, .slice none 0 0] 47)).alloc (.cells #[.int .i64 0, .int .i64 0, .slice none 0 0, .slice none 0 0, .slice none 0 0, .slice none 0 0] 47)) (w.heap.size + 1) #[.int .i64 0, .int .i64 0, .slice none 0 0, .slice none 0 0, .slice none 0 0, .slice none 0 0] 47 from by have := (Blk.new (w.alloc (.cells #[.pointer (some ⟨r, 0, none⟩)] 63)) #[.int .i64 0, .int .i64 0, .slice none 0 0, .slice none 0 0, .slice none 0 0, .slice none 0 0] 47).alloc (.cells #[.int .i64 0, .int .i64 0, .slice none 0 0, .slice none 0 0, .slice none 0 0, .slice none 0 0] 47); simpa only [World.size_alloc] using this)
  have HC0 := hid (show Blk (((w.alloc (.cells #[.pointer (some ⟨r, 0, none⟩)] 63)).alloc (.cells #[.int .i64 0, .int .i64 0, .slice none 0 0, .slice none 0 0, .slice none 0 0, .slice none 0 0] 47)).alloc (.cells #[.int .i64 0, .int .i64 0, .slice none 0 0, .slice none 0 0, .slice none 0 0, .slice none 0 0] 47)) (w.heap.size + 1 + 1) #[.int .i64 0, .int .i64 0, .slice none 0 0, .slice none 0 0, .slice none 0 0, .slice none 0 0] 47 from by have := Blk.new ((w.alloc (.cells #[.pointer (some ⟨r, 0, none⟩)] 63)).alloc (.cells #[.int .i64 0, .int .i64 0, .slice none 0 0, .slice none 0 0, .slice none 0 0, .slice none 0 0] 47)) #[.int .i64 0, .int .i64 0, .slice none 0 0, .slice none 0 0, .slice none 0 0, .slice none 0 0] 47; simpa only [World.size_alloc] using this)
  have HK0 := hid (Kp.of_bw (r := r) HW0.out)
  have HS0 := hid (show w.heap.size + 3 ≤ (((w.alloc (.cells #[.pointer (some ⟨r, 0, none⟩)] 63)).alloc (.cells #[.int .i64 0, .int .i64 0, .slice none 0 0, .slice none 0 0, .slice none 0 0, .slice none 0 0] 47)).alloc (.cells #[.int .i64 0, .int .i64 0, .slice none 0 0, .slice none 0 0, .slice none 0 0, .slice none 0 0] 47)).heap.size by simp only [World.size_alloc]; omega)
  have HN1 := hid (show w.heap.size ≠ r by omega)
  have HN2 := hid (show w.heap.size + 1 ≠ r by omega)
  have HN3 := hid (show w.heap.size + 1 + 1 ≠ r by omega)
  have HB3 := hid (show base ≤ w.heap.size + 1 + 1 by omega)
  have HB2 := hid (show base ≤ w.heap.size + 1 by omega)
  have HRN := hid (show r < w.heap.size + 3 by omega)
  clear h
  obtain ⟨⟨x0, s1⟩, hx0⟩ : ∃ x, nM b s = x := ⟨_, rfl⟩
  obtain ⟨⟨x1, s2⟩, hx1⟩ : ∃ x, nM b s1 = x := ⟨_, rfl⟩
  obtain ⟨⟨x2, s3⟩, hx2⟩ : ∃ x, lM b (nM b) s2 = x := ⟨_, rfl⟩
  obtain ⟨⟨x3, s4⟩, hx3⟩ : ∃ x, lM b (capM b) s3 = x := ⟨_, rfl⟩
  obtain ⟨⟨x4, s5⟩, hx4⟩ : ∃ x, lM b (insM b) s4 = x := ⟨_, rfl⟩
  obtain ⟨⟨x5, s6⟩, hx5⟩ : ∃ x, lM b (tryM b) s5 = x := ⟨_, rfl⟩
  have HV := hid (show fnM b s = (⟨x0, x1, x2, x3, x4, x5⟩, s6) by simp only [fnM, hx0, hx1, hx2, hx3, hx4, hx5])
  have HX0 := hid hx0
  have HI0 := hid (show I64 x0 by have := nM_bd b HBY.out s; rw [hx0] at this; unfold I64; omega)
  have HX1 := hid hx1
  have HI1 := hid (show I64 x1 by have := nM_bd b HBY.out s1; rw [hx1] at this; unfold I64; omega)
  have HX2 := hid hx2
  have HX3 := hid hx3
  have HX4 := hid hx4
  have HX5 := hid hx5
  clear hx0 hx1 hx2 hx3 hx4 hx5
  rw [HV.out]
  go_enter Tryd.func55, Tryd.ntmps55
  go_wp2_with (first
    | (go_at_call 52; (fail_if_success (have _q := HR1)); refine (qnumber_any HR0.out).mono ?_; rintro e w1 ⟨rfl, hr1, hk1⟩; rw [HX0.out] at hr1 ⊢; have HR1 := hid hr1; have HK1 := hid (show Kp r w w1 from HK0.out.trans hk1); have HP1 := hid (HP0.out.kp hk1 HN1.out); have HZ1 := hid (HZ0.out.kp hk1 HN2.out); have HC1 := hid (HC0.out.kp hk1 HN3.out); have HS1 := hid (Nat.le_trans HS0.out hk1.size); have z1 := HP1.out.cell 0; have zl1 := HP1.out.lt; have y1 := HC1.out.cell; have yf1 := HC1.out.free; have yl1 := HC1.out.lt; clear hr1 hk1)
    | (go_at_call 52; have _q := HR1; clear _q; (fail_if_success (have _q := HR2)); refine (qnumber_any (HR1.out.other HN3.out HB3.out 0 _)).mono ?_; rintro e w2 ⟨rfl, hr1, hk1⟩; rw [HX1.out] at hr1 ⊢; have HR2 := hid hr1; have HK2 := hid (show Kp r w w2 from (HK1.out.setNew (by omega) 0 _).trans hk1); have HP2 := hid ((HP1.out.other (p := ⟨w.heap.size + 1 + 1, 0, none⟩) (by simp only; omega) _).kp hk1 HN1.out); have HZ2 := hid ((HZ1.out.other (p := ⟨w.heap.size + 1 + 1, 0, none⟩) (by simp only; omega) _).kp hk1 HN2.out); have HC2 := hid ((HC1.out.set 0 _).kp hk1 HN3.out); have HS2 := hid (Nat.le_trans (show w.heap.size + 3 ≤ (World.setCell _ _ _).heap.size by rw [World.size_setCell]; exact HS1.out) hk1.size); have z2 := HP2.out.cell 0; have zl2 := HP2.out.lt; have y2 := HC2.out.cell; have yf2 := HC2.out.free; have yl2 := HC2.out.lt; clear hr1 hk1)
    | (go_at_call 51; have _q := HR2; clear _q; (fail_if_success (have _q := HR3)); refine (qnumbers_any (HR2.out.other HN3.out HB3.out 1 _)).mono ?_; rintro e w3 ⟨v2, rfl, hl1, hr1, hk1⟩; rw [HX2.out] at hr1 hl1; obtain ⟨a2, c2, e2⟩ := hl1.form; subst e2; have HL2 := hid (hl1.low (show w.heap.size + 3 ≤ (World.setCell _ _ _).heap.size by rw [World.size_setCell]; exact HS2.out)); have HR3 := hid hr1; have HK3 := hid (show Kp r w w3 from (HK2.out.setNew (by omega) 1 _).trans hk1); have HP3 := hid ((HP2.out.other (p := ⟨w.heap.size + 1 + 1, 1, none⟩) (by simp only; omega) _).kp hk1 HN1.out); have HZ3 := hid ((HZ2.out.other (p := ⟨w.heap.size + 1 + 1, 1, none⟩) (by simp only; omega) _).kp hk1 HN2.out); have HC3 := hid ((HC2.out.set 1 _).kp hk1 HN3.out); have HS3 := hid (Nat.le_trans (show w.heap.size + 3 ≤ (World.setCell _ _ _).heap.size by rw [World.size_setCell]; exact HS2.out) hk1.size); have z3 := HP3.out.cell 0; have zl3 := HP3.out.lt; have y3 := HC3.out.cell; have yf3 := HC3.out.free; have yl3 := HC3.out.lt; clear hr1 hk1 hl1)
    | (go_at_call 72; have _q := HR3; clear _q; (fail_if_success (have _q := HR4)); refine (rlC_any _ (HR3.out.other HN3.out HB3.out 2 _) (HP3.out.other (p := ⟨w.heap.size + 1 + 1, 2, none⟩) (by simp only; omega) _)).mono ?_; rintro e w4 ⟨v3, ms3, rfl, hm1, hl1, hr1, hk1⟩; rw [HX3.out] at hr1 hm1; obtain rfl : ms3 = x3 := (by simpa using hm1); obtain ⟨a3, c3, e3⟩ := hl1.form; subst e3; have HL3 := hid (hl1.low (show w.heap.size + 3 ≤ (World.setCell _ _ _).heap.size by rw [World.size_setCell]; exact HS3.out)); have HR4 := hid hr1; have HK4 := hid (show Kp r w w4 from (HK3.out.setNew (by omega) 2 _).trans hk1); have HP4 := hid ((HP3.out.other (p := ⟨w.heap.size + 1 + 1, 2, none⟩) (by simp only; omega) _).kp hk1 HN1.out); have HZ4 := hid ((HZ3.out.other (p := ⟨w.heap.size + 1 + 1, 2, none⟩) (by simp only; omega) _).kp hk1 HN2.out); have HC4 := hid ((HC3.out.set 2 _).kp hk1 HN3.out); have HS4 := hid (Nat.le_trans (show w.heap.size + 3 ≤ (World.setCell _ _ _).heap.size by rw [World.size_setCell]; exact HS3.out) hk1.size); have HL2 := hid ((HL2.out.setn (g := w.heap.size + 1 + 1) (by omega) 2 _).kpn hk1 HRN.out); have z4 := HP4.out.cell 0; have zl4 := HP4.out.lt; have y4 := HC4.out.cell; have yf4 := HC4.out.free; have yl4 := HC4.out.lt; clear hr1 hk1 hl1 hm1)
    | (go_at_call 74; have _q := HR4; clear _q; (fail_if_success (have _q := HR5)); refine (rlN_any _ (HR4.out.other HN3.out HB3.out 3 _) (HP4.out.other (p := ⟨w.heap.size + 1 + 1, 3, none⟩) (by simp only; omega) _)).mono ?_; rintro e w5 ⟨v4, ms4, rfl, hm1, hl1, hr1, hk1⟩; rw [HX4.out] at hr1 hm1; obtain rfl : ms4 = x4 := (by simpa using hm1); obtain ⟨a4, c4, e4⟩ := hl1.form; subst e4; have HL4 := hid (hl1.low (show w.heap.size + 3 ≤ (World.setCell _ _ _).heap.size by rw [World.size_setCell]; exact HS4.out)); have HR5 := hid hr1; have HK5 := hid (show Kp r w w5 from (HK4.out.setNew (by omega) 3 _).trans hk1); have HP5 := hid ((HP4.out.other (p := ⟨w.heap.size + 1 + 1, 3, none⟩) (by simp only; omega) _).kp hk1 HN1.out); have HZ5 := hid ((HZ4.out.other (p := ⟨w.heap.size + 1 + 1, 3, none⟩) (by simp only; omega) _).kp hk1 HN2.out); have HC5 := hid ((HC4.out.set 3 _).kp hk1 HN3.out); have HS5 := hid (Nat.le_trans (show w.heap.size + 3 ≤ (World.setCell _ _ _).heap.size by rw [World.size_setCell]; exact HS4.out) hk1.size); have HL2 := hid ((HL2.out.setn (g := w.heap.size + 1 + 1) (by omega) 3 _).kpn hk1 HRN.out); have HL3 := hid ((HL3.out.setn (g := w.heap.size + 1 + 1) (by omega) 3 _).kpn hk1 HRN.out); have z5 := HP5.out.cell 0; have zl5 := HP5.out.lt; have y5 := HC5.out.cell; have yf5 := HC5.out.free; have yl5 := HC5.out.lt; clear hr1 hk1 hl1 hm1)
    | (go_at_call 77; have _q := HR5; clear _q; (fail_if_success (have _q := HR6)); refine (rlT_any _ (HR5.out.other HN3.out HB3.out 4 _) (HP5.out.other (p := ⟨w.heap.size + 1 + 1, 4, none⟩) (by simp only; omega) _)).mono ?_; rintro e w6 ⟨v5, ms5, rfl, hm1, hl1, hr1, hk1⟩; rw [HX5.out] at hr1 hm1; obtain rfl : ms5 = x5 := (by simpa using hm1); obtain ⟨a5, c5, e5⟩ := hl1.form; subst e5; have HL5 := hid (hl1.low (show w.heap.size + 3 ≤ (World.setCell _ _ _).heap.size by rw [World.size_setCell]; exact HS5.out)); have HR6 := hid hr1; have HK6 := hid (show Kp r w w6 from (HK5.out.setNew (by omega) 4 _).trans hk1); have HP6 := hid ((HP5.out.other (p := ⟨w.heap.size + 1 + 1, 4, none⟩) (by simp only; omega) _).kp hk1 HN1.out); have HZ6 := hid ((HZ5.out.other (p := ⟨w.heap.size + 1 + 1, 4, none⟩) (by simp only; omega) _).kp hk1 HN2.out); have HC6 := hid ((HC5.out.set 4 _).kp hk1 HN3.out); have HS6 := hid (Nat.le_trans (show w.heap.size + 3 ≤ (World.setCell _ _ _).heap.size by rw [World.size_setCell]; exact HS5.out) hk1.size); have HL2 := hid ((HL2.out.setn (g := w.heap.size + 1 + 1) (by omega) 4 _).kpn hk1 HRN.out); have HL3 := hid ((HL3.out.setn (g := w.heap.size + 1 + 1) (by omega) 4 _).kpn hk1 HRN.out); have HL4 := hid ((HL4.out.setn (g := w.heap.size + 1 + 1) (by omega) 4 _).kpn hk1 HRN.out); have z6 := HP6.out.cell 0; have zl6 := HP6.out.lt; have y6 := HC6.out.cell; have yf6 := HC6.out.free; have yl6 := HC6.out.lt; have u := HZ6.out.cell; have uf := HZ6.out.free; have ul := HZ6.out.lt; clear hr1 hk1 hl1 hm1)
    | fail)
  all_goals
    have bf := (((((((HZ6.out.other (p := ⟨w.heap.size + 1 + 1, 5, none⟩) (by simp only; omega) (.slice a5 ms5.length c5)).set 0 (.int .i64 x0)).set 1 (.int .i64 x1)).set 2 (.slice a2 x2.length c2)).set 3 (.slice a3 ms3.length c3)).set 4 (.slice a4 ms4.length c4)).set 5 (.slice a5 ms5.length c5))
    have bfc := bf.cell
    refine bodyPost_ret (v := .agg #[.int .i64 x0, .int .i64 x1, .slice a2 x2.length c2, .slice a3 ms3.length c3, .slice a4 ms4.length c4, .slice a5 ms5.length c5]) (by simp [results, Tryd.results55, go_sem, bfc]) rfl ?_
    exact ⟨⟨⟨x0, x1, x2, ms3, ms4, ms5⟩, .slice a2 x2.length c2, .slice a3 ms3.length c3, .slice a4 ms4.length c4, .slice a5 ms5.length c5⟩, rfl, rfl, ⟨HI0.out, HI1.out, (((((((HL2.out.setn (g := w.heap.size + 1 + 1) (by omega) 5 _).setn (g := w.heap.size + 1) (by omega) 0 _).setn (g := w.heap.size + 1) (by omega) 1 _).setn (g := w.heap.size + 1) (by omega) 2 _).setn (g := w.heap.size + 1) (by omega) 3 _).setn (g := w.heap.size + 1) (by omega) 4 _).setn (g := w.heap.size + 1) (by omega) 5 _).low (by omega), (((((((HL3.out.setn (g := w.heap.size + 1 + 1) (by omega) 5 _).setn (g := w.heap.size + 1) (by omega) 0 _).setn (g := w.heap.size + 1) (by omega) 1 _).setn (g := w.heap.size + 1) (by omega) 2 _).setn (g := w.heap.size + 1) (by omega) 3 _).setn (g := w.heap.size + 1) (by omega) 4 _).setn (g := w.heap.size + 1) (by omega) 5 _).low (by omega), (((((((HL4.out.setn (g := w.heap.size + 1 + 1) (by omega) 5 _).setn (g := w.heap.size + 1) (by omega) 0 _).setn (g := w.heap.size + 1) (by omega) 1 _).setn (g := w.heap.size + 1) (by omega) 2 _).setn (g := w.heap.size + 1) (by omega) 3 _).setn (g := w.heap.size + 1) (by omega) 4 _).setn (g := w.heap.size + 1) (by omega) 5 _).low (by omega), (((((((HL5.out.setn (g := w.heap.size + 1 + 1) (by omega) 5 _).setn (g := w.heap.size + 1) (by omega) 0 _).setn (g := w.heap.size + 1) (by omega) 1 _).setn (g := w.heap.size + 1) (by omega) 2 _).setn (g := w.heap.size + 1) (by omega) 3 _).setn (g := w.heap.size + 1) (by omega) 4 _).setn (g := w.heap.size + 1) (by omega) 5 _).low (by omega)⟩, (((((((HR6.out.other HN3.out HB3.out 5 _).other HN2.out HB2.out 0 _).other HN2.out HB2.out 1 _).other HN2.out HB2.out 2 _).other HN2.out HB2.out 3 _).other HN2.out HB2.out 4 _).other HN2.out HB2.out 5 _), (((((((HK6.out.setNew (by omega) 5 _).setNew (by omega) 0 _).setNew (by omega) 1 _).setNew (by omega) 2 _).setNew (by omega) 3 _).setNew (by omega) 4 _).setNew (by omega) 5 _)⟩

set_option maxRecDepth 100000 in
set_option maxHeartbeats 8000000 in
theorem qim3_any (pb : Nat) (h : RB base w r vb b s) (hp : Blk w pb #[.pointer (some ⟨r, 0, none⟩)] 63) :
    Calls Tryd.prog 54 #[.pointer (some ⟨pb, 0, none⟩)] w fun e w' => ∃ m : MFn, e = .returned (.agg #[.int .i64 m.f.params, .int .i64 m.f.slots, m.vb, m.vc, m.vo, m.vt]) ∧ m.f = (fnM b s).1 ∧ (fun w G m => RFn w G m : World → (Nat → Prop) → MFn → Prop) w' (fun x => w.heap.size ≤ x) m ∧ RB base w' r vb b (fnM b s).2 ∧ Kp r w w' := by
  have hrl := h.k.lt
  have hba := h.base
  have HW0 := hid (show Bw w (w.alloc (.cells #[.int .i64 0, .int .i64 0, .slice none 0 0, .slice none 0 0, .slice none 0 0, .slice none 0 0] 47)) from Bw.alloc (Bw.refl w) _)
  have HR := hid (h.bw HW0.out)
  have HC := hid (Blk.new w #[.int .i64 0, .int .i64 0, .slice none 0 0, .slice none 0 0, .slice none 0 0, .slice none 0 0] 47)
  have HNC := hid (show w.heap.size ≠ r by omega)
  have HBC := hid (show base ≤ w.heap.size by omega)
  have z := hp.cell 0
  have zl := hp.lt
  clear h hp
  go_enter Tryd.func54, Tryd.ntmps54
  go_wp2_with (first
    | (go_at_call 55; refine (qfun_any HR.out).mono ?_; rintro e w1 ⟨⟨mf, v1, v2, v3, v4⟩, rfl, hm1, hm2, hr1, hk1⟩; obtain ⟨a1, c1, e1⟩ := hm2.b.form; obtain ⟨a2, c2, e2⟩ := hm2.c.form; obtain ⟨a3, c3, e3⟩ := hm2.o.form; obtain ⟨a4, c4, e4⟩ := hm2.t.form; simp only at e1 e2 e3 e4 hm1; subst e1 e2 e3 e4; have HM1 := hid hm1; have HM2 := hid hm2; have HR1 := hid hr1; have HK1 := hid (Kp.trans (Kp.of_bw HW0.out) hk1); have HC1 := hid (HC.out.kp hk1 HNC.out); have y := HC1.out.cell; have yf := HC1.out.free; have yl := HC1.out.lt; clear hm1 hm2 hr1 hk1)
    | fail)
  all_goals
    have bf := ((((((HC1.out.set 0 (.int .i64 mf.params)).set 1 (.int .i64 mf.slots)).set 2 (.slice a1 mf.boxes.length c1)).set 3 (.slice a2 mf.caps.length c2)).set 4 (.slice a3 mf.code.length c3)).set 5 (.slice a4 mf.tries.length c4))
    have bfc := bf.cell
    refine bodyPost_ret (v := .agg #[.int .i64 mf.params, .int .i64 mf.slots, .slice a1 mf.boxes.length c1, .slice a2 mf.caps.length c2, .slice a3 mf.code.length c3, .slice a4 mf.tries.length c4]) (by simp [results, Tryd.results54, go_sem, bfc]) rfl ?_
    exact ⟨⟨mf, .slice a1 mf.boxes.length c1, .slice a2 mf.caps.length c2, .slice a3 mf.code.length c3, .slice a4 mf.tries.length c4⟩, rfl, HM1.out, ((((((HM2.out.setn (g := w.heap.size) (by simp only [World.size_alloc]; omega) 0 _).setn (g := w.heap.size) (by simp only [World.size_alloc]; omega) 1 _).setn (g := w.heap.size) (by simp only [World.size_alloc]; omega) 2 _).setn (g := w.heap.size) (by simp only [World.size_alloc]; omega) 3 _).setn (g := w.heap.size) (by simp only [World.size_alloc]; omega) 4 _).setn (g := w.heap.size) (by simp only [World.size_alloc]; omega) 5 _).low (by simp only [World.size_alloc]; omega), ((((((HR1.out.other HNC.out HBC.out 0 _).other HNC.out HBC.out 1 _).other HNC.out HBC.out 2 _).other HNC.out HBC.out 3 _).other HNC.out HBC.out 4 _).other HNC.out HBC.out 5 _), ((((((HK1.out.setNew (Nat.le_refl _) 0 _).setNew (Nat.le_refl _) 1 _).setNew (Nat.le_refl _) 2 _).setNew (Nat.le_refl _) 3 _).setNew (Nat.le_refl _) 4 _).setNew (Nat.le_refl _) 5 _)⟩

theorem infoEF : (Tryd.prog.info? 47).map (fun i => (i.zero, i.size, i.bytes)) = some (some (.agg #[.int .i64 0, .int .i64 0, .slice none 0 0, .slice none 0 0, .slice none 0 0, .slice none 0 0]), 6, 112) := by kernel_rfl
theorem undLF : Tryd.prog.underlying 22 = some (.slice 47) := by kernel_rfl
theorem keepF : KeepOk (μ := MFn) (fun w G m => RFn w G m : World → (Nat → Prop) → MFn → Prop) := fun _ _ _ _ _ h hs hb hG => RFn.keep h hs hb hG
set_option maxRecDepth 100000 in
set_option maxHeartbeats 8000000 in
theorem rlF_any (pb : Nat) (h : RB base w r vb b s) (hp : Blk w pb #[.pointer (some ⟨r, 0, none⟩)] 63) :
    Calls Tryd.prog 53 #[.pointer (some ⟨r, 0, none⟩), .func (.func 54) #[] #[.pointer (some ⟨pb, 0, none⟩)]] w fun e w' => ∃ (v : Value) (ms : List (MFn)), e = .returned v ∧ ms.map (fun m => m.f) = (lM b (fnM b) s).1 ∧ RL w' (fun x => w.heap.size ≤ x) v 6 (fnC) (fun m => (fun w G m => RFn w G m : World → (Nat → Prop) → MFn → Prop) w' (fun x => w.heap.size ≤ x) m) ms ∧ RB base w' r vb b (lM b (fnM b) s).2 ∧ Kp r w w' := by
  have HR := hid h
  have HP := hid hp
  have HRL := hid h.k.lt
  have HNE := hid (blk_ne hp h.k (by decide))
  have HLN := hid h.len
  obtain ⟨i1, hi1, hz1, hs1, hy1⟩ := info_parts infoEF
  have I1 := hid (And.intro hi1 (And.intro hz1 (And.intro hs1 hy1)))
  have hcb := (cM_ok b).1 s h.at_
  have HBA := hid h.base
  obtain ⟨⟨n, s0⟩, hn⟩ : ∃ x, cM b s = x := ⟨_, rfl⟩
  rw [hn] at hcb
  have HN := hid hn
  have HCB := hid (show n ≤ b.length by simp only at hcb; omega)
  have hn63 : n ≤ 9223372036854775807 := by have := h.len; have := HCB.out; omega
  have HLM := hid (show lM b (fnM b) s = rep (fnM b) n [] s0 by unfold lM; rw [hn])
  clear h hp hn hi1 hz1 hs1 hy1 hcb
  go_enter Tryd.func53, Tryd.ntmps53
  go_wp2_with (first
    | (go_at_call 69; refine (qcount_any HR.out).mono ?_; rintro e w1 ⟨rfl, hr1, hk1⟩; rw [HN.out] at hr1 ⊢; have HR1 := hid hr1; have HK1 := hid hk1; clear hr1 hk1)
    | fail)
  go_loopw [5, 9] (fun l j wr => ∃ (i : Nat) (ms : List (MFn)) (s' : St), i ≤ n ∧ j = .int .i64 (i : Nat) ∧ ms.length = i ∧ LI (μ := MFn) 47 6 (fnC) (fun w G m => RFn w G m : World → (Nat → Prop) → MFn → Prop) w wr l ms ∧ lM b (fnM b) s = rep (fnM b) (n - i) (ms.map fun m => m.f) s' ∧ RB base wr r vb b s' ∧ Kp r w wr) (fun _ j _ => n - (intOf j).toNat)
  case atStart => exact ⟨0, [], s0, Nat.zero_le _, rfl, rfl, LI.nil _ _, HLM.out, HR1.out, HK1.out⟩
  case round =>
    obtain ⟨i, ms, s', hi, rfl, hml, hli, he, hr, hk⟩ := hrel
    have HLI := hid hli
    have HE := hid he
    have HR2 := hid hr
    have HK2 := hid hk
    have HML := hid hml
    obtain ⟨al, cl, el⟩ := hli.form
    subst el
    clear hli he hr hk hml
    by_cases hlt : i < n
    · have hlt2 : (i : Int) < (n : Int) := by omega
      have HB := hid (HP.out.kp HK2.out HNE.out)
      obtain ⟨⟨x, s2⟩, hx⟩ : ∃ x, (fnM b) s' = x := ⟨_, rfl⟩
      have HX := hid hx
      have HNI := hid (show n - i = (n - (i + 1)) + 1 by omega)
      have HNB := hid (show 0 < b.length by have := HCB.out; omega)
      clear hx
      by_cases hf : s2.2 = 0
      · have hf2 : ((s2.2 : Int) != 0) = false := by simp [hf]
        have HE2 := hid (show lM b (fnM b) s = rep (fnM b) (n - (i + 1)) (ms.map (fun m => m.f) ++ [x]) s2 by rw [HE.out, HNI.out, rep_ok HX.out hf])
        clear hf
        go_wp2_with (first
          | (go_at_call 54; refine (qim3_any _ HR2.out HB.out).mono ?_; rintro e w1 ⟨⟨mf, v1, v2, v3, v4⟩, rfl, hm1, hm2, hr1, hk1⟩; obtain ⟨a1, c1, e1⟩ := (show RFn _ _ _ from hm2).b.form; obtain ⟨a2, c2, e2⟩ := (show RFn _ _ _ from hm2).c.form; obtain ⟨a3, c3, e3⟩ := (show RFn _ _ _ from hm2).o.form; obtain ⟨a4, c4, e4⟩ := (show RFn _ _ _ from hm2).t.form; simp only at e1 e2 e3 e4 hm1; subst e1 e2 e3 e4; rw [HX.out] at hm1 hr1; have HM1 := hid hm1; have HLI1 := hid (HLI.out.kp keepF hk1 HRL.out); have HM2 := hid (HLI.out.fresh (w1 := w1) (m := ⟨mf, .slice a1 mf.boxes.length c1, .slice a2 mf.caps.length c2, .slice a3 mf.code.length c3, .slice a4 mf.tries.length c4⟩) keepF hm2 HK2.out.size); have HR1 := hid hr1; have HK1 := hid (HK2.out.trans hk1); have y := hr1.k.cell; have yl := hr1.k.lt; clear hm1 hm2 hr1 hk1)
          | (at_builtin; refine wpList_append_row _ rfl _ _ 22 rfl 47 i1 (.agg #[.int .i64 0, .int .i64 0, .slice none 0 0, .slice none 0 0, .slice none 0 0, .slice none 0 0]) 6 112 undLF I1.out.1 I1.out.2.1 I1.out.2.2.1 I1.out.2.2.2 rfl (by decide) (.slice al ms.length cl) ms.length (ms.flatMap (fnC)) rfl (HLI1.out.bw keepF (by repeat (first | exact Bw.refl _ | apply Bw.alloc | apply Bw.drewN | apply Bw.drew))).own _ 1 1 ((fnC : MFn → List Value) ⟨mf, .slice a1 mf.boxes.length c1, .slice a2 mf.caps.length c2, .slice a3 mf.code.length c3, .slice a4 mf.tries.length c4⟩) rfl rfl ?c1 ?c2 ?c3 ?c4 ?_)
          | fail)
        try (case c1 =>
          intro j u hj
          match j, hj with
          | 0, hj => simp [fnC] at hj; subst hj; simp [Addr.add, go_sem, *]
          | 1, hj => simp [fnC] at hj; subst hj; simp [Addr.add, go_sem, *]
          | 2, hj => simp [fnC] at hj; subst hj; simp [Addr.add, go_sem, *]
          | 3, hj => simp [fnC] at hj; subst hj; simp [Addr.add, go_sem, *]
          | 4, hj => simp [fnC] at hj; subst hj; simp [Addr.add, go_sem, *]
          | 5, hj => simp [fnC] at hj; subst hj; simp [Addr.add, go_sem, *]
          | j + 6, hj => simp [fnC] at hj)
        case c2 => first | rfl | (simp [go_sem]; done) | (intro u hu; simp [fnC] at hu; rcases hu with rfl | rfl | rfl | rfl | rfl | rfl <;> rfl)
        case c3 => have := HLN.out; have := HCB.out; have := HML.out; unfold maxLen; omega
        case c4 => have := HLN.out; have := HCB.out; have := HML.out; omega
        intro l' w2 hown hgr hnew
        obtain ⟨al', cl', e⟩ := own_form hown
        subst e
        have HLI2 := hid (HLI1.out.pushB (m := ⟨mf, .slice a1 mf.boxes.length c1, .slice a2 mf.caps.length c2, .slice a3 mf.code.length c3, .slice a4 mf.tries.length c4⟩) keepF HK1.out.size HM2.out (by repeat (first | exact Bw.refl _ | apply Bw.alloc | apply Bw.drewN | apply Bw.drew)) hgr hown (by simpa only [World.size_alloc] using hnew))
        have HR3 := hid ((HR1.out.bw (by repeat (first | exact Bw.refl _ | apply Bw.alloc | apply Bw.drewN | apply Bw.drew))).grown hgr HLI1.out.ob HRL.out HBA.out)
        have HK3 := hid ((HK1.out.bw (by repeat (first | exact Bw.refl _ | apply Bw.alloc | apply Bw.drewN | apply Bw.drew))).grown hgr HLI1.out.ob)
        clear hown hgr hnew
        go_wp2
        go_roundw
        case rel => exact ⟨i + 1, ms ++ [_], s2, by omega, by go_num, by simp [HML.out], HLI2.out, by rw [HE2.out, ← HM1.out]; simp, HR3.out, HK3.out⟩
        case measure => simp [intOf]; omega
      · have hf2 : ((s2.2 : Int) != 0) = true := by simp [hf]
        have HE2 := hid (show lM b (fnM b) s = ([], s2) by rw [HE.out, HNI.out, rep_bad HX.out hf])
        clear hf
        go_wp2_with (first
          | (go_at_call 54; refine (qim3_any _ HR2.out HB.out).mono ?_; rintro e w1 ⟨⟨mf, v1, v2, v3, v4⟩, rfl, hm1, hm2, hr1, hk1⟩; obtain ⟨a1, c1, e1⟩ := (show RFn _ _ _ from hm2).b.form; obtain ⟨a2, c2, e2⟩ := (show RFn _ _ _ from hm2).c.form; obtain ⟨a3, c3, e3⟩ := (show RFn _ _ _ from hm2).o.form; obtain ⟨a4, c4, e4⟩ := (show RFn _ _ _ from hm2).t.form; simp only at e1 e2 e3 e4 hm1; subst e1 e2 e3 e4; rw [HX.out] at hm1 hr1; have HR1 := hid hr1; have HK1 := hid (HK2.out.trans hk1); have y := hr1.k.cell; have yl := hr1.k.lt; clear hm1 hm2 hr1 hk1)
          | fail)
        all_goals go_ret
        all_goals refine ⟨_, [], rfl, by rw [HE2.out]; rfl, (LI.nil (k := 6) (c := fnC) (okm := (fun w G m => RFn w G m : World → (Nat → Prop) → MFn → Prop)) (T := 47) w _).rl keepF (by simp) (fun _ => rfl), by rw [HE2.out]; exact HR1.out.bw (by repeat (first | exact Bw.refl _ | apply Bw.alloc | apply Bw.drewN | apply Bw.drew)), HK1.out.bw (by repeat (first | exact Bw.refl _ | apply Bw.alloc | apply Bw.drewN | apply Bw.drew))⟩
    · obtain rfl : i = n := by omega
      go_wp2
      all_goals go_ret
      have HE3 := hid (show lM b (fnM b) s = (ms.map (fun m => m.f), s') by rw [HE.out, Nat.sub_self, rep_zero])
      exact ⟨_, ms, rfl, by rw [HE3.out], HLI.out.rl keepF (by have := HLN.out; have := HCB.out; have := HML.out; unfold maxLen; omega) (fun _ => rfl), by rw [HE3.out]; exact HR2.out, HK2.out⟩

end

end Go.Proofs.YtfhnhbpmiodomaaDoor
