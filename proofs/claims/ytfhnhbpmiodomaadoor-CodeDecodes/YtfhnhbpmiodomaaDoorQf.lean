/- The reader: caps, instructions, tries: contracts. -/
import Derived.Test.YtfhnhbpmiodomaaDoorQe
set_option linter.unusedSimpArgs false
set_option linter.unusedVariables false
namespace Go.Proofs.YtfhnhbpmiodomaaDoor
open Go Go.RowKit

section
variable {base r : Nat} {w w' : World} {vb : Value} {b : List Int} {s : St}

set_option maxRecDepth 100000 in
set_option maxHeartbeats 8000000 in
theorem qfu1_any (pb : Nat) (h : RB base w r vb b s) (hp : Blk w pb #[.pointer (some ⟨r, 0, none⟩)] 63) :
    Calls Tryd.prog 73 #[.pointer (some ⟨pb, 0, none⟩)] w fun e w' => ∃ m : Int × Int, e = .returned (.agg #[.int .i64 m.1, .int .i64 m.2]) ∧ m = (capM b s).1 ∧ (fun _ _ p => I64 p.1 ∧ I64 p.2 : World → (Nat → Prop) → Int × Int → Prop) w' (fun x => w.heap.size ≤ x) m ∧ RB base w' r vb b (capM b s).2 ∧ Kp r w w' := by
  have HBY := hid h.bytes
  have HNE := hid (blk_ne hp h.k (by decide))
  have hrl := h.k.lt
  have hpl := hp.lt
  have HRL := hid hrl
  have HPL := hid hpl
  have HC := hid (Blk.new w #[.int .i64 0, .int .i64 0] 90)
  have HW0 := hid (show Bw w (w.alloc (.cells #[.int .i64 0, .int .i64 0] 90)) from Bw.alloc (Bw.refl w) _)
  have HR := hid (h.bw HW0.out)
  have HP := hid (hp.bw HW0.out)
  have HK := hid (Kp.of_bw (r := r) HW0.out)
  have z := hp.cell 0
  have HNC := hid (show w.heap.size ≠ r by omega)
  have HBG := hid (show base ≤ w.heap.size by have := h.base; omega)
  clear h hp
  obtain ⟨⟨n0, s1⟩, hx0⟩ : ∃ x, nM b s = x := ⟨_, rfl⟩
  obtain ⟨⟨n1, s2⟩, hx1⟩ : ∃ x, nM b s1 = x := ⟨_, rfl⟩
  have HV := hid (show capM b s = ((n0, n1), s2) by simp only [capM, hx0, hx1])
  have HX0 := hid hx0
  have HI0 := hid (show I64 n0 by have := nM_bd b HBY.out s; rw [hx0] at this; unfold I64; omega)
  have HX1 := hid hx1
  have HI1 := hid (show I64 n1 by have := nM_bd b HBY.out s1; rw [hx1] at this; unfold I64; omega)
  clear hx0 hx1
  rw [HV.out]
  go_enter Tryd.func73, Tryd.ntmps73
  go_wp2
  go_region_held3 (fun w' => w'.cell? ⟨pb, 0, none⟩ = some (.pointer (some ⟨r, 0, none⟩))) (first | (simp [go_sem, *]; done) | exact z2 | exact z1) (first
    | (go_at_call 52; (fail_if_success (have _q := HR1)); refine (qnumber_any (HR.out.bw (by repeat (first | exact Bw.refl _ | apply Bw.alloc | apply Bw.drewN | apply Bw.drew)))).mono ?_; rintro e w1 ⟨rfl, hr1, hk1⟩; rw [HX0.out] at hr1 ⊢; have HR1 := hid hr1; have HK1 := hid (show Kp r w w1 from (HK.out.bw (by repeat (first | exact Bw.refl _ | apply Bw.alloc | apply Bw.drewN | apply Bw.drew))).trans hk1); have HP1 := hid ((HP.out.bw (by repeat (first | exact Bw.refl _ | apply Bw.alloc | apply Bw.drewN | apply Bw.drew))).kp hk1 HNE.out); have HC1 := hid ((HC.out.bw (by repeat (first | exact Bw.refl _ | apply Bw.alloc | apply Bw.drewN | apply Bw.drew))).kp hk1 HNC.out); have z1 := HP1.out.cell 0; have y1 := HC1.out.cell; have yf1 := HC1.out.free; have yl1 := HC1.out.lt; clear hr1 hk1)
    | (go_at_call 52; have _q := HR1; clear _q; (fail_if_success (have _q := HR2)); refine (qnumber_any (HR1.out.bw (by repeat (first | exact Bw.refl _ | apply Bw.alloc | apply Bw.drewN | apply Bw.drew)))).mono ?_; rintro e w2 ⟨rfl, hr1, hk1⟩; rw [HX1.out] at hr1 ⊢; have HR2 := hid hr1; have HK2 := hid (show Kp r w w2 from (HK1.out.bw (by repeat (first | exact Bw.refl _ | apply Bw.alloc | apply Bw.drewN | apply Bw.drew))).trans hk1); have HP2 := hid ((HP1.out.bw (by repeat (first | exact Bw.refl _ | apply Bw.alloc | apply Bw.drewN | apply Bw.drew))).kp hk1 HNE.out); have HC2 := hid ((HC1.out.bw (by repeat (first | exact Bw.refl _ | apply Bw.alloc | apply Bw.drewN | apply Bw.drew))).kp hk1 HNC.out); have z2 := HP2.out.cell 0; have y2 := HC2.out.cell; have yf2 := HC2.out.free; have yl2 := HC2.out.lt; clear hr1 hk1)
    | fail)
  go_wp2
  all_goals
    have bf := ((HC2.out.set 0 (.int .i64 n0)).set 1 (.int .i64 n1))
    have bfc := bf.cell
    refine bodyPost_ret (v := .agg #[.int .i64 n0, .int .i64 n1]) (by simp [results, Tryd.results73, go_sem, bfc]) rfl ?_
    exact ⟨(n0, n1), rfl, rfl, ⟨HI0.out, HI1.out⟩, ((HR2.out.other HNC.out HBG.out 0 _).other HNC.out HBG.out 1 _), ((HK2.out.setNew (Nat.le_refl _) 0 _).setNew (Nat.le_refl _) 1 _)⟩

set_option maxRecDepth 100000 in
set_option maxHeartbeats 8000000 in
theorem qfu2_any (pb : Nat) (h : RB base w r vb b s) (hp : Blk w pb #[.pointer (some ⟨r, 0, none⟩)] 63) :
    Calls Tryd.prog 75 #[.pointer (some ⟨pb, 0, none⟩)] w fun e w' => ∃ m : Int × Int × Int, e = .returned (.agg #[.int .i64 m.1, .int .i64 m.2.1, .int .i64 m.2.2]) ∧ m = (insM b s).1 ∧ (fun _ _ p => I64 p.1 ∧ I64 p.2.1 ∧ I64 p.2.2 : World → (Nat → Prop) → Int × Int × Int → Prop) w' (fun x => w.heap.size ≤ x) m ∧ RB base w' r vb b (insM b s).2 ∧ Kp r w w' := by
  have HBY := hid h.bytes
  have HNE := hid (blk_ne hp h.k (by decide))
  have hrl := h.k.lt
  have hpl := hp.lt
  have HRL := hid hrl
  have HPL := hid hpl
  have HC := hid (Blk.new w #[.int .i64 0, .int .i64 0, .int .i64 0] 51)
  have HW0 := hid (show Bw w (w.alloc (.cells #[.int .i64 0, .int .i64 0, .int .i64 0] 51)) from Bw.alloc (Bw.refl w) _)
  have HR := hid (h.bw HW0.out)
  have HP := hid (hp.bw HW0.out)
  have HK := hid (Kp.of_bw (r := r) HW0.out)
  have z := hp.cell 0
  have HNC := hid (show w.heap.size ≠ r by omega)
  have HBG := hid (show base ≤ w.heap.size by have := h.base; omega)
  clear h hp
  obtain ⟨⟨n0, s1⟩, hx0⟩ : ∃ x, nM b s = x := ⟨_, rfl⟩
  obtain ⟨⟨n1, s2⟩, hx1⟩ : ∃ x, zM b s1 = x := ⟨_, rfl⟩
  obtain ⟨⟨n2, s3⟩, hx2⟩ : ∃ x, zM b s2 = x := ⟨_, rfl⟩
  have HV := hid (show insM b s = ((n0, n1, n2), s3) by simp only [insM, hx0, hx1, hx2])
  have HX0 := hid hx0
  have HI0 := hid (show I64 n0 by have := nM_bd b HBY.out s; rw [hx0] at this; unfold I64; omega)
  have HX1 := hid hx1
  have HI1 := hid (show I64 n1 by have := sz_bd (nM_bd b HBY.out s1); change _ ≤ (zM b s1).1 ∧ (zM b s1).1 ≤ _ at this; rw [hx1] at this; unfold I64; omega)
  have HX2 := hid hx2
  have HI2 := hid (show I64 n2 by have := sz_bd (nM_bd b HBY.out s2); change _ ≤ (zM b s2).1 ∧ (zM b s2).1 ≤ _ at this; rw [hx2] at this; unfold I64; omega)
  clear hx0 hx1 hx2
  rw [HV.out]
  go_enter Tryd.func75, Tryd.ntmps75
  go_wp2
  go_region_held3 (fun w' => w'.cell? ⟨pb, 0, none⟩ = some (.pointer (some ⟨r, 0, none⟩))) (first | (simp [go_sem, *]; done) | exact z3 | exact z2 | exact z1) (first
    | (go_at_call 52; (fail_if_success (have _q := HR1)); refine (qnumber_any (HR.out.bw (by repeat (first | exact Bw.refl _ | apply Bw.alloc | apply Bw.drewN | apply Bw.drew)))).mono ?_; rintro e w1 ⟨rfl, hr1, hk1⟩; rw [HX0.out] at hr1 ⊢; have HR1 := hid hr1; have HK1 := hid (show Kp r w w1 from (HK.out.bw (by repeat (first | exact Bw.refl _ | apply Bw.alloc | apply Bw.drewN | apply Bw.drew))).trans hk1); have HP1 := hid ((HP.out.bw (by repeat (first | exact Bw.refl _ | apply Bw.alloc | apply Bw.drewN | apply Bw.drew))).kp hk1 HNE.out); have HC1 := hid ((HC.out.bw (by repeat (first | exact Bw.refl _ | apply Bw.alloc | apply Bw.drewN | apply Bw.drew))).kp hk1 HNC.out); have z1 := HP1.out.cell 0; have y1 := HC1.out.cell; have yf1 := HC1.out.free; have yl1 := HC1.out.lt; clear hr1 hk1)
    | (go_at_call 76; have _q := HR1; clear _q; (fail_if_success (have _q := HR2)); refine (qsigned_any (HR1.out.bw (by repeat (first | exact Bw.refl _ | apply Bw.alloc | apply Bw.drewN | apply Bw.drew)))).mono ?_; rintro e w2 ⟨rfl, hr1, hk1⟩; rw [HX1.out] at hr1 ⊢; have HR2 := hid hr1; have HK2 := hid (show Kp r w w2 from (HK1.out.bw (by repeat (first | exact Bw.refl _ | apply Bw.alloc | apply Bw.drewN | apply Bw.drew))).trans hk1); have HP2 := hid ((HP1.out.bw (by repeat (first | exact Bw.refl _ | apply Bw.alloc | apply Bw.drewN | apply Bw.drew))).kp hk1 HNE.out); have HC2 := hid ((HC1.out.bw (by repeat (first | exact Bw.refl _ | apply Bw.alloc | apply Bw.drewN | apply Bw.drew))).kp hk1 HNC.out); have z2 := HP2.out.cell 0; have y2 := HC2.out.cell; have yf2 := HC2.out.free; have yl2 := HC2.out.lt; clear hr1 hk1)
    | (go_at_call 76; have _q := HR2; clear _q; (fail_if_success (have _q := HR3)); refine (qsigned_any (HR2.out.bw (by repeat (first | exact Bw.refl _ | apply Bw.alloc | apply Bw.drewN | apply Bw.drew)))).mono ?_; rintro e w3 ⟨rfl, hr1, hk1⟩; rw [HX2.out] at hr1 ⊢; have HR3 := hid hr1; have HK3 := hid (show Kp r w w3 from (HK2.out.bw (by repeat (first | exact Bw.refl _ | apply Bw.alloc | apply Bw.drewN | apply Bw.drew))).trans hk1); have HP3 := hid ((HP2.out.bw (by repeat (first | exact Bw.refl _ | apply Bw.alloc | apply Bw.drewN | apply Bw.drew))).kp hk1 HNE.out); have HC3 := hid ((HC2.out.bw (by repeat (first | exact Bw.refl _ | apply Bw.alloc | apply Bw.drewN | apply Bw.drew))).kp hk1 HNC.out); have z3 := HP3.out.cell 0; have y3 := HC3.out.cell; have yf3 := HC3.out.free; have yl3 := HC3.out.lt; clear hr1 hk1)
    | fail)
  go_wp2
  all_goals
    have bf := (((HC3.out.set 0 (.int .i64 n0)).set 1 (.int .i64 n1)).set 2 (.int .i64 n2))
    have bfc := bf.cell
    refine bodyPost_ret (v := .agg #[.int .i64 n0, .int .i64 n1, .int .i64 n2]) (by simp [results, Tryd.results75, go_sem, bfc]) rfl ?_
    exact ⟨(n0, n1, n2), rfl, rfl, ⟨HI0.out, HI1.out, HI2.out⟩, (((HR3.out.other HNC.out HBG.out 0 _).other HNC.out HBG.out 1 _).other HNC.out HBG.out 2 _), (((HK3.out.setNew (Nat.le_refl _) 0 _).setNew (Nat.le_refl _) 1 _).setNew (Nat.le_refl _) 2 _)⟩

set_option maxRecDepth 100000 in
set_option maxHeartbeats 8000000 in
theorem qfu3_any (pb : Nat) (h : RB base w r vb b s) (hp : Blk w pb #[.pointer (some ⟨r, 0, none⟩)] 63) :
    Calls Tryd.prog 78 #[.pointer (some ⟨pb, 0, none⟩)] w fun e w' => ∃ m : Int × Int × Int × Int, e = .returned (.agg #[.int .i64 m.1, .int .i64 m.2.1, .int .i64 m.2.2.1, .int .i64 m.2.2.2]) ∧ m = (tryM b s).1 ∧ (fun _ _ p => I64 p.1 ∧ I64 p.2.1 ∧ I64 p.2.2.1 ∧ I64 p.2.2.2 : World → (Nat → Prop) → Int × Int × Int × Int → Prop) w' (fun x => w.heap.size ≤ x) m ∧ RB base w' r vb b (tryM b s).2 ∧ Kp r w w' := by
  have HBY := hid h.bytes
  have HNE := hid (blk_ne hp h.k (by decide))
  have hrl := h.k.lt
  have hpl := hp.lt
  have HRL := hid hrl
  have HPL := hid hpl
  have HC := hid (Blk.new w #[.int .i64 0, .int .i64 0, .int .i64 0, .int .i64 0] 92)
  have HW0 := hid (show Bw w (w.alloc (.cells #[.int .i64 0, .int .i64 0, .int .i64 0, .int .i64 0] 92)) from Bw.alloc (Bw.refl w) _)
  have HR := hid (h.bw HW0.out)
  have HP := hid (hp.bw HW0.out)
  have HK := hid (Kp.of_bw (r := r) HW0.out)
  have z := hp.cell 0
  have HNC := hid (show w.heap.size ≠ r by omega)
  have HBG := hid (show base ≤ w.heap.size by have := h.base; omega)
  clear h hp
  obtain ⟨⟨n0, s1⟩, hx0⟩ : ∃ x, nM b s = x := ⟨_, rfl⟩
  obtain ⟨⟨n1, s2⟩, hx1⟩ : ∃ x, nM b s1 = x := ⟨_, rfl⟩
  obtain ⟨⟨n2, s3⟩, hx2⟩ : ∃ x, nM b s2 = x := ⟨_, rfl⟩
  obtain ⟨⟨n3, s4⟩, hx3⟩ : ∃ x, nM b s3 = x := ⟨_, rfl⟩
  have HV := hid (show tryM b s = ((n0, n1, n2, n3), s4) by simp only [tryM, hx0, hx1, hx2, hx3])
  have HX0 := hid hx0
  have HI0 := hid (show I64 n0 by have := nM_bd b HBY.out s; rw [hx0] at this; unfold I64; omega)
  have HX1 := hid hx1
  have HI1 := hid (show I64 n1 by have := nM_bd b HBY.out s1; rw [hx1] at this; unfold I64; omega)
  have HX2 := hid hx2
  have HI2 := hid (show I64 n2 by have := nM_bd b HBY.out s2; rw [hx2] at this; unfold I64; omega)
  have HX3 := hid hx3
  have HI3 := hid (show I64 n3 by have := nM_bd b HBY.out s3; rw [hx3] at this; unfold I64; omega)
  clear hx0 hx1 hx2 hx3
  rw [HV.out]
  go_enter Tryd.func78, Tryd.ntmps78
  go_wp2
  go_region_held3 (fun w' => w'.cell? ⟨pb, 0, none⟩ = some (.pointer (some ⟨r, 0, none⟩))) (first | (simp [go_sem, *]; done) | exact z4 | exact z3 | exact z2 | exact z1) (first
    | (go_at_call 52; (fail_if_success (have _q := HR1)); refine (qnumber_any (HR.out.bw (by repeat (first | exact Bw.refl _ | apply Bw.alloc | apply Bw.drewN | apply Bw.drew)))).mono ?_; rintro e w1 ⟨rfl, hr1, hk1⟩; rw [HX0.out] at hr1 ⊢; have HR1 := hid hr1; have HK1 := hid (show Kp r w w1 from (HK.out.bw (by repeat (first | exact Bw.refl _ | apply Bw.alloc | apply Bw.drewN | apply Bw.drew))).trans hk1); have HP1 := hid ((HP.out.bw (by repeat (first | exact Bw.refl _ | apply Bw.alloc | apply Bw.drewN | apply Bw.drew))).kp hk1 HNE.out); have HC1 := hid ((HC.out.bw (by repeat (first | exact Bw.refl _ | apply Bw.alloc | apply Bw.drewN | apply Bw.drew))).kp hk1 HNC.out); have z1 := HP1.out.cell 0; have y1 := HC1.out.cell; have yf1 := HC1.out.free; have yl1 := HC1.out.lt; clear hr1 hk1)
    | (go_at_call 52; have _q := HR1; clear _q; (fail_if_success (have _q := HR2)); refine (qnumber_any (HR1.out.bw (by repeat (first | exact Bw.refl _ | apply Bw.alloc | apply Bw.drewN | apply Bw.drew)))).mono ?_; rintro e w2 ⟨rfl, hr1, hk1⟩; rw [HX1.out] at hr1 ⊢; have HR2 := hid hr1; have HK2 := hid (show Kp r w w2 from (HK1.out.bw (by repeat (first | exact Bw.refl _ | apply Bw.alloc | apply Bw.drewN | apply Bw.drew))).trans hk1); have HP2 := hid ((HP1.out.bw (by repeat (first | exact Bw.refl _ | apply Bw.alloc | apply Bw.drewN | apply Bw.drew))).kp hk1 HNE.out); have HC2 := hid ((HC1.out.bw (by repeat (first | exact Bw.refl _ | apply Bw.alloc | apply Bw.drewN | apply Bw.drew))).kp hk1 HNC.out); have z2 := HP2.out.cell 0; have y2 := HC2.out.cell; have yf2 := HC2.out.free; have yl2 := HC2.out.lt; clear hr1 hk1)
    | (go_at_call 52; have _q := HR2; clear _q; (fail_if_success (have _q := HR3)); refine (qnumber_any (HR2.out.bw (by repeat (first | exact Bw.refl _ | apply Bw.alloc | apply Bw.drewN | apply Bw.drew)))).mono ?_; rintro e w3 ⟨rfl, hr1, hk1⟩; rw [HX2.out] at hr1 ⊢; have HR3 := hid hr1; have HK3 := hid (show Kp r w w3 from (HK2.out.bw (by repeat (first | exact Bw.refl _ | apply Bw.alloc | apply Bw.drewN | apply Bw.drew))).trans hk1); have HP3 := hid ((HP2.out.bw (by repeat (first | exact Bw.refl _ | apply Bw.alloc | apply Bw.drewN | apply Bw.drew))).kp hk1 HNE.out); have HC3 := hid ((HC2.out.bw (by repeat (first | exact Bw.refl _ | apply Bw.alloc | apply Bw.drewN | apply Bw.drew))).kp hk1 HNC.out); have z3 := HP3.out.cell 0; have y3 := HC3.out.cell; have yf3 := HC3.out.free; have yl3 := HC3.out.lt; clear hr1 hk1)
    | (go_at_call 52; have _q := HR3; clear _q; (fail_if_success (have _q := HR4)); refine (qnumber_any (HR3.out.bw (by repeat (first | exact Bw.refl _ | apply Bw.alloc | apply Bw.drewN | apply Bw.drew)))).mono ?_; rintro e w4 ⟨rfl, hr1, hk1⟩; rw [HX3.out] at hr1 ⊢; have HR4 := hid hr1; have HK4 := hid (show Kp r w w4 from (HK3.out.bw (by repeat (first | exact Bw.refl _ | apply Bw.alloc | apply Bw.drewN | apply Bw.drew))).trans hk1); have HP4 := hid ((HP3.out.bw (by repeat (first | exact Bw.refl _ | apply Bw.alloc | apply Bw.drewN | apply Bw.drew))).kp hk1 HNE.out); have HC4 := hid ((HC3.out.bw (by repeat (first | exact Bw.refl _ | apply Bw.alloc | apply Bw.drewN | apply Bw.drew))).kp hk1 HNC.out); have z4 := HP4.out.cell 0; have y4 := HC4.out.cell; have yf4 := HC4.out.free; have yl4 := HC4.out.lt; clear hr1 hk1)
    | fail)
  go_wp2
  all_goals
    have bf := ((((HC4.out.set 0 (.int .i64 n0)).set 1 (.int .i64 n1)).set 2 (.int .i64 n2)).set 3 (.int .i64 n3))
    have bfc := bf.cell
    refine bodyPost_ret (v := .agg #[.int .i64 n0, .int .i64 n1, .int .i64 n2, .int .i64 n3]) (by simp [results, Tryd.results78, go_sem, bfc]) rfl ?_
    exact ⟨(n0, n1, n2, n3), rfl, rfl, ⟨HI0.out, HI1.out, HI2.out, HI3.out⟩, ((((HR4.out.other HNC.out HBG.out 0 _).other HNC.out HBG.out 1 _).other HNC.out HBG.out 2 _).other HNC.out HBG.out 3 _), ((((HK4.out.setNew (Nat.le_refl _) 0 _).setNew (Nat.le_refl _) 1 _).setNew (Nat.le_refl _) 2 _).setNew (Nat.le_refl _) 3 _)⟩

end

end Go.Proofs.YtfhnhbpmiodomaaDoor
