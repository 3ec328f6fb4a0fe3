/- instrFault: the contract. -/
import Derived.Test.YtcljlmjcjfmppaaDoorVc
import Derived.Test.YtcljlmjcjfmppaaDoorWA
set_option linter.unusedSimpArgs false
set_option linter.unusedVariables false
namespace Go.Proofs.YtcljlmjcjfmppaaDoor
open Go Go.RowKit

theorem name_not {op : Int} (h : isOp op = true) : nameM op ≠ [] := by
  unfold nameM
  rw [if_pos h]
  obtain ⟨k, _, _, hg⟩ := opAt_get h
  have : ∀ x ∈ opsL, x.1 ≠ [] := by decide
  exact this _ (List.mem_of_getElem? hg)
theorem str_not {l : List Int} (h : l ≠ []) : (strOfNums l).toList ≠ [] := by
  cases l with
  | nil => exact absurd rfl h
  | cons a t => rw [ByteArray.toList_eq]; simp [strOfNums]

section
variable {w w' : World}

set_option maxRecDepth 100000 in
set_option maxHeartbeats 2000000 in
theorem instrFault_any (m : AIm) (G : Nat → Prop) (vf vs vk : Value) (x : MFn) (k : Nat) (ho : Og w) (hm : RIm w G vf vs vk m) (ha : RFn w G x) (hk : k < x.f.code.length) (op a bb : Int) (hop : x.f.code[k] = (op, a, bb)) (hk2 : x.f.code.length ≤ 65536) :
    Calls Tryd.prog 18 #[imV vf vs vk m, .agg #[.int .i64 x.f.params, .int .i64 x.f.slots, x.vb, x.vc, x.vo, x.vt], .int .i64 k] w fun e w' => e = .returned (.int .i64 (inF m x.f k (op, a, bb))) ∧ Bw w w' := by
  obtain ⟨af, kf, az, ks, ak, kk, e1, e2, e3⟩ := hm.forms
  subst e1 e2 e3
  unfold imV
  obtain ⟨f, xb, xc, xo, xt⟩ := x
  obtain ⟨a1, c1, e1⟩ := ha.b.form
  obtain ⟨a2, c2, e2⟩ := ha.c.form
  obtain ⟨a3, c3, e3⟩ := ha.o.form
  obtain ⟨a4, c4, e4⟩ := ha.t.form
  simp only at e1 e2 e3 e4 hk hk2 hop ⊢
  subst e1 e2 e3 e4
  have HM := hid hm
  have HA := hid ha
  have HK := hid hk
  have HK2 := hid hk2
  have HOG := hid ho
  obtain ⟨g1, o1, d1, e1, _, hg1, _, y⟩ := ha.o.parts hk (by decide)
  simp only at e1 y
  cases e1
  have y0 := y 0 (by decide)
  have y1 := y 1 (by decide)
  have y2 := y 2 (by decide)
  simp only [Nat.add_zero, ← Nat.add_assoc, insC, List.getElem?_cons_zero, List.getElem?_cons_succ, hop] at y0 y1 y2
  have HOP := hid hop
  have hk3 : (k : Int) < (f.code.length : Int) := by omega
  obtain ⟨W1, hW1⟩ : ∃ W1, (((w.alloc (.cells #[.slice af m.funs.length kf, .slice az m.strs.length ks, .slice ak m.keys.length kk, .int .i64 m.globals] 26)).alloc (.cells #[.int .i64 f.params, .int .i64 f.slots, .slice a1 f.boxes.length c1, .slice a2 f.caps.length c2, .slice (some ⟨g1, o1, none⟩) f.code.length c3, .slice a4 f.tries.length c4] 38)).alloc (.cells #[.int .i64 op, .int .i64 a, .int .i64 bb] 40)) = W1 := ⟨_, rfl⟩
  have HWE := hid hW1
  have HW1 := hid (show Bw w W1 from by rw [← hW1]; exact Bw.alloc (Bw.alloc (Bw.alloc (Bw.refl w) _) _) _)
  have HPI := hid (show Blk W1 w.heap.size #[.slice af m.funs.length kf, .slice az m.strs.length ks, .slice ak m.keys.length kk, .int .i64 m.globals] 26 from by rw [← hW1]; exact ((Blk.new w _ 26).alloc _).alloc _)
  have HPC := hid (show Blk W1 (w.heap.size + 1) #[.int .i64 f.params, .int .i64 f.slots, .slice a1 f.boxes.length c1, .slice a2 f.caps.length c2, .slice (some ⟨g1, o1, none⟩) f.code.length c3, .slice a4 f.tries.length c4] 38 from by rw [← hW1]; have := (Blk.new (w.alloc (.cells #[.slice af m.funs.length kf, .slice az m.strs.length ks, .slice ak m.keys.length kk, .int .i64 m.globals] 26)) #[.int .i64 f.params, .int .i64 f.slots, .slice a1 f.boxes.length c1, .slice a2 f.caps.length c2, .slice (some ⟨g1, o1, none⟩) f.code.length c3, .slice a4 f.tries.length c4] 38).alloc (.cells #[.int .i64 op, .int .i64 a, .int .i64 bb] 40); simpa only [World.size_alloc] using this)
  have HPN := hid (show Blk W1 (w.heap.size + 1 + 1) #[.int .i64 op, .int .i64 a, .int .i64 bb] 40 from by rw [← hW1]; have := Blk.new ((w.alloc (.cells #[.slice af m.funs.length kf, .slice az m.strs.length ks, .slice ak m.keys.length kk, .int .i64 m.globals] 26)).alloc (.cells #[.int .i64 f.params, .int .i64 f.slots, .slice a1 f.boxes.length c1, .slice a2 f.caps.length c2, .slice (some ⟨g1, o1, none⟩) f.code.length c3, .slice a4 f.tries.length c4] 38)) #[.int .i64 op, .int .i64 a, .int .i64 bb] 40; simpa only [World.size_alloc] using this)
  have HIF := hid (show inF m f k (op, a, bb) = if isOp op = false then 8 else if a < (rngM m f k op).1 ∨ (rngM m f k op).2 ≤ a then 9 else if op = 16 ∧ capF f (m.funs.getD a.toNat AFn.none).caps = false then 9 else if bb ≠ 0 then 9 else 0 from rfl)
  obtain ⟨⟨lo, hi⟩, hrg⟩ : ∃ z, rngM m f k op = z := ⟨_, rfl⟩
  rw [hrg] at HIF
  have HRG := hid hrg
  obtain ⟨ss, hss⟩ : ∃ ss, strOfNums (nameM op) = ss := ⟨_, rfl⟩
  have HNM := hid hss
  clear hm ha ho hop hW1 hk2 y
  simp only at HIF
  cases hq : isOp op
  · have HR := hid (show inF m f k (op, a, bb) = 8 by rw [HIF.out, hq]; rfl)
    have hsn : ss = ⟨#[]⟩ := by rw [← hss]; unfold nameM; rw [hq]; rfl
    subst hsn
    clear hss hrg hq
    go_enter Tryd.func18, Tryd.ntmps18
    go_wp2_with (first
      | (go_at_call 26; refine (rangeOf_any m G _ _ _ _ _ _ ⟨f, .slice a1 f.boxes.length c1, .slice a2 f.caps.length c2, .slice (some ⟨g1, o1, none⟩) f.code.length c3, .slice a4 f.tries.length c4⟩ k op _ bb (HA.out.bw (HW1.out.trans (by rw [← HWE.out]; repeat (first | exact Bw.refl _ | apply Bw.alloc | apply Bw.drewN | apply Bw.drew)))) HK.out HOP.out HK2.out).mono ?_; rintro e w2 ⟨rfl, hb2⟩; have HB2 := hid (show Bw W1 w2 from Bw.trans (by rw [← HWE.out]; repeat (first | exact Bw.refl _ | apply Bw.alloc | apply Bw.drewN | apply Bw.drew)) hb2); rw [HRG.out]; have u := (HPN.out.bw HB2.out).cell; have ul := (HPN.out.bw HB2.out).lt; clear hb2)
      | (go_at_call 27; refine (name_any op (HOG.out.bw (HW1.out.trans HB2.out))).mono ?_; rintro e w3 ⟨rfl, hw3⟩; subst w3; rw [HNM.out])
      | fail)
    all_goals go_ret
    all_goals exact ⟨by rw [HR.out]; rfl, HW1.out.trans (HB2.out.trans (by repeat (first | exact Bw.refl _ | apply Bw.alloc | apply Bw.drewN | apply Bw.drew)))⟩
  have hsn := str_not (name_not hq)
  rw [hss] at hsn
  have hs1 : (ss.toList == []) = false := by simpa using hsn
  have hs2 : ss.toList.isEmpty = false := by simpa using hsn
  clear hss hrg hsn
  by_cases h1 : a < lo
  · have HR := hid (show inF m f k (op, a, bb) = 9 by rw [HIF.out, hq, if_neg (by decide), if_pos (.inl h1)])
    have hb1 : decide (a < lo) = true := decide_eq_true h1
    clear h1 hq
    go_enter Tryd.func18, Tryd.ntmps18
    go_wp2_with (first
      | (go_at_call 26; refine (rangeOf_any m G _ _ _ _ _ _ ⟨f, .slice a1 f.boxes.length c1, .slice a2 f.caps.length c2, .slice (some ⟨g1, o1, none⟩) f.code.length c3, .slice a4 f.tries.length c4⟩ k op _ bb (HA.out.bw (HW1.out.trans (by rw [← HWE.out]; repeat (first | exact Bw.refl _ | apply Bw.alloc | apply Bw.drewN | apply Bw.drew)))) HK.out HOP.out HK2.out).mono ?_; rintro e w2 ⟨rfl, hb2⟩; have HB2 := hid (show Bw W1 w2 from Bw.trans (by rw [← HWE.out]; repeat (first | exact Bw.refl _ | apply Bw.alloc | apply Bw.drewN | apply Bw.drew)) hb2); rw [HRG.out]; have u := (HPN.out.bw HB2.out).cell; have ul := (HPN.out.bw HB2.out).lt; clear hb2)
      | (go_at_call 27; refine (name_any op (HOG.out.bw (HW1.out.trans HB2.out))).mono ?_; rintro e w3 ⟨rfl, hw3⟩; subst w3; rw [HNM.out])
      | fail)
    all_goals go_ret
    all_goals exact ⟨by rw [HR.out]; rfl, HW1.out.trans (HB2.out.trans (by repeat (first | exact Bw.refl _ | apply Bw.alloc | apply Bw.drewN | apply Bw.drew)))⟩
  have hb1 : decide (a < lo) = false := decide_eq_false h1
  by_cases h2 : hi ≤ a
  · have HR := hid (show inF m f k (op, a, bb) = 9 by rw [HIF.out, hq, if_neg (by decide), if_pos (.inr h2)])
    have hb2 : decide (hi ≤ a) = true := decide_eq_true h2
    clear h1 h2 hq
    go_enter Tryd.func18, Tryd.ntmps18
    go_wp2_with (first
      | (go_at_call 26; refine (rangeOf_any m G _ _ _ _ _ _ ⟨f, .slice a1 f.boxes.length c1, .slice a2 f.caps.length c2, .slice (some ⟨g1, o1, none⟩) f.code.length c3, .slice a4 f.tries.length c4⟩ k op _ bb (HA.out.bw (HW1.out.trans (by rw [← HWE.out]; repeat (first | exact Bw.refl _ | apply Bw.alloc | apply Bw.drewN | apply Bw.drew)))) HK.out HOP.out HK2.out).mono ?_; rintro e w2 ⟨rfl, hb2⟩; have HB2 := hid (show Bw W1 w2 from Bw.trans (by rw [← HWE.out]; repeat (first | exact Bw.refl _ | apply Bw.alloc | apply Bw.drewN | apply Bw.drew)) hb2); rw [HRG.out]; have u := (HPN.out.bw HB2.out).cell; have ul := (HPN.out.bw HB2.out).lt; clear hb2)
      | (go_at_call 27; refine (name_any op (HOG.out.bw (HW1.out.trans HB2.out))).mono ?_; rintro e w3 ⟨rfl, hw3⟩; subst w3; rw [HNM.out])
      | fail)
    all_goals go_ret
    all_goals exact ⟨by rw [HR.out]; rfl, HW1.out.trans (HB2.out.trans (by repeat (first | exact Bw.refl _ | apply Bw.alloc | apply Bw.drewN | apply Bw.drew)))⟩
  have hb2 : decide (hi ≤ a) = false := decide_eq_false h2
  have HIF2 := hid (show inF m f k (op, a, bb) = if op = 16 ∧ capF f (m.funs.getD a.toNat AFn.none).caps = false then 9 else if bb ≠ 0 then 9 else 0 by rw [HIF.out, hq, if_neg (by decide), if_neg (by omega)])
  have HB3 := hid (show bb = 0 ∨ bb ≠ 0 by omega)
  clear hq
  by_cases h16 : op = 16
  · have h16b : (op == 16) = true := by simp [h16]
    have hrn : lo = 1 ∧ hi = m.funs.length := by
      have := HRG.out
      rw [h16] at this
      simp only [rngM] at this
      simpa using this.symm
    obtain ⟨ka, hka⟩ : ∃ ka : Nat, a = ka := ⟨a.toNat, by omega⟩
    have hkl : ka < m.funs.length := by omega
    obtain ⟨⟨ms, em, hf⟩, _, _, _⟩ := HM.out
    have hlm : ms.length = m.funs.length := by rw [← em, List.length_map]
    have hkm : ka < ms.length := by omega
    obtain ⟨gf, of, df, ef, _, hgf, _, z⟩ := hf.parts hkm (by decide)
    have hEX := hf.2.1 _ (List.getElem_mem hkm)
    have z3 := z 3 (by decide)
    simp only [Nat.add_zero, ← Nat.add_assoc, fnC, List.getElem?_cons_zero, List.getElem?_cons_succ] at z3
    have hcf : (m.funs.getD a.toNat AFn.none).caps = ms[ka].f.caps := by
      rw [hka, Int.toNat_natCast, ← em]
      simp [List.getD_eq_getElem?_getD, hkm]
    rw [hcf] at HIF2
    generalize ms[ka] = xx at z3 hEX HIF2
    obtain ⟨ff, x1, xcv, x3, x4⟩ := xx
    obtain ⟨ac, cc, ec⟩ := hEX.c.form
    simp only at ec z3 HIF2
    subst ec
    have HXC := hid hEX.c
    rw [hlm] at ef
    cases ef
    subst hka
    have hkf : (ka : Int) < (m.funs.length : Int) := by omega
    have HW0 := hid (show ∀ b j, b < w.heap.size → W1.cell? ⟨b, j, none⟩ = w.cell? ⟨b, j, none⟩ from fun b j hb => World.cell?_of_block (w := w) (w' := W1) (a := ⟨b, j, none⟩) (HW1.out.block b hb))
    have FS := hid (show ∀ w', Bw W1 w' → w'.cell? ⟨w.heap.size + 1 + 1, 0, none⟩ = some (.int .i64 op) ∧ w'.cell? ⟨w.heap.size + 1 + 1, 1, none⟩ = some (.int .i64 ka) ∧ w'.cell? ⟨w.heap.size, 0, none⟩ = some (.slice (some ⟨gf, of, none⟩) m.funs.length kf) ∧ w'.cell? ⟨gf, of + ka * 6 + 3, none⟩ = some (.slice ac ff.caps.length cc) ∧ ∀ j, w'.cell? ⟨w.heap.size + 1, j, none⟩ = (#[.int .i64 f.params, .int .i64 f.slots, .slice a1 f.boxes.length c1, .slice a2 f.caps.length c2, .slice (some ⟨g1, o1, none⟩) f.code.length c3, .slice a4 f.tries.length c4] : Array Value)[j]? from fun w' hb => ⟨(HPN.out.bw hb).cell 0, (HPN.out.bw hb).cell 1, (HPI.out.bw hb).cell 0, by rw [← z3, World.cell?_of_block (w := w) (w' := w') (a := ⟨gf, _, none⟩) ((HW1.out.trans hb).block gf hgf)], (HPC.out.bw hb).cell⟩)
    clear z hf hEX em hcf h16 hrn z3
    cases hcp : capF f ff.caps
    · have HCP := hid hcp
      have HR := hid (show inF m f k (op, ka, bb) = 9 by rw [HIF2.out, if_pos ⟨by simpa using h16b, hcp⟩])
      clear hcp
      go_enter Tryd.func18, Tryd.ntmps18
      go_upto_region 5 with (first
        | (go_at_call 26; refine (rangeOf_any m G _ _ _ _ _ _ ⟨f, .slice a1 f.boxes.length c1, .slice a2 f.caps.length c2, .slice (some ⟨g1, o1, none⟩) f.code.length c3, .slice a4 f.tries.length c4⟩ k op _ bb (HA.out.bw (HW1.out.trans (by rw [← HWE.out]; repeat (first | exact Bw.refl _ | apply Bw.alloc | apply Bw.drewN | apply Bw.drew)))) HK.out HOP.out HK2.out).mono ?_; rintro e w2 ⟨rfl, hb2⟩; have HB2 := hid (show Bw W1 w2 from Bw.trans (by rw [← HWE.out]; repeat (first | exact Bw.refl _ | apply Bw.alloc | apply Bw.drewN | apply Bw.drew)) hb2); rw [HRG.out]; have u := (HPN.out.bw HB2.out).cell; have ul := (HPN.out.bw HB2.out).lt; clear hb2)
        | (go_at_call 27; refine (name_any op (HOG.out.bw (HW1.out.trans HB2.out))).mono ?_; rintro e w3 ⟨rfl, hw3⟩; subst w3; rw [HNM.out])
        | fail)
      refine wp_region_W (fun w' => w'.cell? ⟨w.heap.size + 1 + 1, 0, none⟩ = some (.int .i64 op) ∧ w'.cell? ⟨w.heap.size + 1 + 1, 1, none⟩ = some (.int .i64 ka) ∧ w'.cell? ⟨w.heap.size, 0, none⟩ = some (.slice (some ⟨gf, of, none⟩) m.funs.length kf) ∧ w'.cell? ⟨gf, of + ka * 6 + 3, none⟩ = some (.slice ac ff.caps.length cc) ∧ ∀ j, w'.cell? ⟨w.heap.size + 1, j, none⟩ = (#[.int .i64 f.params, .int .i64 f.slots, .slice a1 f.boxes.length c1, .slice a2 f.caps.length c2, .slice (some ⟨g1, o1, none⟩) f.code.length c3, .slice a4 f.tries.length c4] : Array Value)[j]?) (fun j => if j == 12 then 0 else 1) (by kernel_rfl) ?_
      refine wpAnyW_take (i := 0) (oi := { dst := some 39, op := Op.fieldAddr 40 (Operand.tmp 7) 0, type := 0, pos := "instr.go:34", after := #[], guard := none }) (v := ?_) rfl (by kernel_rfl) (by kernel_rfl) (by kernel_rfl) (by kernel_rfl) (fun _ _ _ h => h) (Or.inl ⟨by rfl, fun w _ => ?_⟩) ?_
      rotate_left
      · (go_simp; first | done | with_reducible rfl)
      try simp only [Act.put, List.setIfInBounds_toArray, List.set_cons_zero, List.set_cons_succ]
      refine wpAnyW_load (i := 1) (oi := { dst := some 40, op := Op.load 3 (Operand.tmp 39), type := 3, pos := "instr.go:34", after := #[{ on := 0, ground := Ground.data }], guard := none }) (v := ?_) rfl (by kernel_rfl) (by kernel_rfl) (by kernel_rfl) (by kernel_rfl) (by kernel_rfl) (fun _ _ _ h => h) (Or.inl ⟨by rfl, fun w hS => ?_⟩) (FS.out _ (HB2.out.trans (by repeat (first | exact Bw.refl _ | apply Bw.alloc | apply Bw.drewN | apply Bw.drew)))) ?_
      rotate_left
      · (obtain ⟨q0, q1, q2, q3, q4⟩ := hS; go_simp; first | done | with_reducible rfl)
      try simp only [Act.put, List.setIfInBounds_toArray, List.set_cons_zero, List.set_cons_succ]
      refine wpAnyW_take (i := 2) (oi := { dst := some 41, op := Op.binOp BinOp.eql 3 (Operand.tmp 40) (Operand.const (Value.int IntKind.i64 16)) 3, type := 4, pos := "instr.go:34", after := #[{ on := 1, ground := Ground.data }], guard := none }) (v := ?_) rfl (by kernel_rfl) (by kernel_rfl) (by kernel_rfl) (by kernel_rfl) (fun _ _ _ h => h) (Or.inl ⟨by rfl, fun w _ => ?_⟩) ?_
      rotate_left
      · (go_simp; first | done | with_reducible rfl)
      try simp only [Act.put, List.setIfInBounds_toArray, List.set_cons_zero, List.set_cons_succ]
      refine wpAnyW_take (i := 3) (oi := { dst := some 42, op := Op.move (Operand.tmp 41), type := 4, pos := "instr.go:34", after := #[{ on := 2, ground := Ground.data }], guard := none }) (v := ?_) rfl (by kernel_rfl) (by kernel_rfl) (by kernel_rfl) (by kernel_rfl) (fun _ _ _ h => h) (Or.inl ⟨by rfl, fun w _ => ?_⟩) ?_
      rotate_left
      · (go_simp; first | done | with_reducible rfl)
      try simp only [Act.put, List.setIfInBounds_toArray, List.set_cons_zero, List.set_cons_succ]
      refine wpAnyW_take (i := 4) (oi := { dst := some 43, op := Op.fieldAddr 26 (Operand.tmp 3) 0, type := 0, pos := "instr.go:34", after := #[{ on := 3, ground := Ground.guard }], guard := some (3, true) }) (v := ?_) rfl (by kernel_rfl) (by kernel_rfl) (by kernel_rfl) (by kernel_rfl) (fun _ _ _ h => h) (Or.inl ⟨by rfl, fun w _ => ?_⟩) ?_
      rotate_left
      · (go_simp; first | done | with_reducible rfl)
      try simp only [Act.put, List.setIfInBounds_toArray, List.set_cons_zero, List.set_cons_succ]
      refine wpAnyW_load (i := 5) (oi := { dst := some 44, op := Op.load 22 (Operand.tmp 43), type := 22, pos := "instr.go:34", after := #[{ on := 4, ground := Ground.data }, { on := 3, ground := Ground.guard }], guard := some (3, true) }) (v := ?_) rfl (by kernel_rfl) (by kernel_rfl) (by kernel_rfl) (by kernel_rfl) (by kernel_rfl) (fun _ _ _ h => h) (Or.inl ⟨by rfl, fun w hS => ?_⟩) (FS.out _ (HB2.out.trans (by repeat (first | exact Bw.refl _ | apply Bw.alloc | apply Bw.drewN | apply Bw.drew)))) ?_
      rotate_left
      · (obtain ⟨q0, q1, q2, q3, q4⟩ := hS; go_simp; first | done | with_reducible rfl)
      try simp only [Act.put, List.setIfInBounds_toArray, List.set_cons_zero, List.set_cons_succ]
      refine wpAnyW_take (i := 6) (oi := { dst := some 45, op := Op.fieldAddr 40 (Operand.tmp 7) 1, type := 0, pos := "instr.go:34", after := #[{ on := 3, ground := Ground.guard }], guard := some (3, true) }) (v := ?_) rfl (by kernel_rfl) (by kernel_rfl) (by kernel_rfl) (by kernel_rfl) (fun _ _ _ h => h) (Or.inl ⟨by rfl, fun w _ => ?_⟩) ?_
      rotate_left
      · (go_simp; first | done | with_reducible rfl)
      try simp only [Act.put, List.setIfInBounds_toArray, List.set_cons_zero, List.set_cons_succ]
      refine wpAnyW_load (i := 7) (oi := { dst := some 46, op := Op.load 3 (Operand.tmp 45), type := 3, pos := "instr.go:34", after := #[{ on := 6, ground := Ground.data }, { on := 3, ground := Ground.guard }], guard := some (3, true) }) (v := ?_) rfl (by kernel_rfl) (by kernel_rfl) (by kernel_rfl) (by kernel_rfl) (by kernel_rfl) (fun _ _ _ h => h) (Or.inl ⟨by rfl, fun w hS => ?_⟩) (FS.out _ (HB2.out.trans (by repeat (first | exact Bw.refl _ | apply Bw.alloc | apply Bw.drewN | apply Bw.drew)))) ?_
      rotate_left
      · (obtain ⟨q0, q1, q2, q3, q4⟩ := hS; go_simp; first | done | with_reducible rfl)
      try simp only [Act.put, List.setIfInBounds_toArray, List.set_cons_zero, List.set_cons_succ]
      refine wpAnyW_take (i := 8) (oi := { dst := some 47, op := Op.indexAddr 22 (Operand.tmp 44) (Operand.tmp 46), type := 0, pos := "instr.go:34", after := #[{ on := 5, ground := Ground.data }, { on := 7, ground := Ground.data }, { on := 3, ground := Ground.guard }], guard := some (3, true) }) (v := ?_) rfl (by kernel_rfl) (by kernel_rfl) (by kernel_rfl) (by kernel_rfl) (fun _ _ _ h => h) (Or.inl ⟨by rfl, fun w _ => ?_⟩) ?_
      rotate_left
      · (go_simp; first | done | with_reducible rfl)
      try simp only [Act.put, List.setIfInBounds_toArray, List.set_cons_zero, List.set_cons_succ]
      refine wpAnyW_take (i := 9) (oi := { dst := some 48, op := Op.fieldAddr 38 (Operand.tmp 47) 3, type := 0, pos := "instr.go:34", after := #[{ on := 8, ground := Ground.data }, { on := 3, ground := Ground.guard }], guard := some (3, true) }) (v := ?_) rfl (by kernel_rfl) (by kernel_rfl) (by kernel_rfl) (by kernel_rfl) (fun _ _ _ h => h) (Or.inl ⟨by rfl, fun w _ => ?_⟩) ?_
      rotate_left
      · (go_simp; first | done | with_reducible rfl)
      try simp only [Act.put, List.setIfInBounds_toArray, List.set_cons_zero, List.set_cons_succ]
      refine wpAnyW_load (i := 10) (oi := { dst := some 49, op := Op.load 34 (Operand.tmp 48), type := 34, pos := "instr.go:34", after := #[{ on := 9, ground := Ground.data }, { on := 3, ground := Ground.guard }], guard := some (3, true) }) (v := ?_) rfl (by kernel_rfl) (by kernel_rfl) (by kernel_rfl) (by kernel_rfl) (by kernel_rfl) (fun _ _ _ h => h) (Or.inl ⟨by rfl, fun w hS => ?_⟩) (FS.out _ (HB2.out.trans (by repeat (first | exact Bw.refl _ | apply Bw.alloc | apply Bw.drewN | apply Bw.drew)))) ?_
      rotate_left
      · (obtain ⟨q0, q1, q2, q3, q4⟩ := hS; go_simp; first | done | with_reducible rfl)
      try simp only [Act.put, List.setIfInBounds_toArray, List.set_cons_zero, List.set_cons_succ]
      refine wpAnyW_load (i := 11) (oi := { dst := some 50, op := Op.load 38 (Operand.tmp 4), type := 38, pos := "instr.go:34", after := #[{ on := 3, ground := Ground.guard }], guard := some (3, true) }) (v := ?_) rfl (by kernel_rfl) (by kernel_rfl) (by kernel_rfl) (by kernel_rfl) (by kernel_rfl) (fun _ _ _ h => h) (Or.inl ⟨by rfl, fun w hS => ?_⟩) (FS.out _ (HB2.out.trans (by repeat (first | exact Bw.refl _ | apply Bw.alloc | apply Bw.drewN | apply Bw.drew)))) ?_
      rotate_left
      · (obtain ⟨q0, q1, q2, q3, q4⟩ := hS; go_simp; first | done | with_reducible rfl)
      try simp only [Act.put, List.setIfInBounds_toArray, List.set_cons_zero, List.set_cons_succ]
      refine wpAnyW_ready (rs := [12]) (by kernel_rfl) (by simp) ?_
      refine (AllReadyW.cons (o := { dst := some 51, op := Op.call { callee := Callee.value (Operand.func 28), args := #[Operand.tmp 49, Operand.tmp 50], argTypes := #[34, 38] }, type := 4, pos := "instr.go:34", after := #[{ on := 10, ground := Ground.data }, { on := 11, ground := Ground.data }, { on := 3, ground := Ground.chain }, { on := 3, ground := Ground.guard }], guard := some (3, true) }) rfl (fun K hK => ?_) AllReadyW.nil)
      go_simp
      refine (capsFit_any _ ff.caps G G ⟨f, .slice a1 f.boxes.length c1, .slice a2 f.caps.length c2, .slice (some ⟨g1, o1, none⟩) f.code.length c3, .slice a4 f.tries.length c4⟩ (HA.out.bw (HW1.out.trans (HB2.out.trans (by repeat (first | exact Bw.refl _ | apply Bw.alloc | apply Bw.drewN | apply Bw.drew))))) (RL.bw HXC.out (HW1.out.trans (HB2.out.trans (by repeat (first | exact Bw.refl _ | apply Bw.alloc | apply Bw.drewN | apply Bw.drew)))))).mono ?_
      rw [HCP.out]
      rintro e w5 ⟨rfl, hb5⟩
      replace HB2 := hid (HB2.out.trans (Bw.trans (by repeat (first | exact Bw.refl _ | apply Bw.alloc | apply Bw.drewN | apply Bw.drew)) hb5))
      have u5 := (HPN.out.bw HB2.out).cell
      have ul5 := (HPN.out.bw HB2.out).lt
      clear hb5
      refine hK.out _ _ (FS.out _ HB2.out) ?_
      clear hK K
      try simp only [Act.put, List.setIfInBounds_toArray, List.set_cons_zero, List.set_cons_succ]
      refine wpAnyW_take (i := 13) (oi := { dst := some 52, op := Op.unOp UnOp.not 4 (Operand.tmp 51), type := 4, pos := "instr.go:34", after := #[{ on := 12, ground := Ground.data }, { on := 3, ground := Ground.guard }], guard := some (3, true) }) (v := ?_) rfl (by kernel_rfl) (by kernel_rfl) (by kernel_rfl) (by kernel_rfl) (fun _ _ _ h => h) (Or.inl ⟨by rfl, fun w _ => ?_⟩) ?_
      rotate_left
      · (go_simp; first | done | with_reducible rfl)
      try simp only [Act.put, List.setIfInBounds_toArray, List.set_cons_zero, List.set_cons_succ]
      refine wpAnyW_take (i := 14) (oi := { dst := some 53, op := Op.pick (Operand.tmp 42) (Operand.tmp 52) (Operand.const (Value.bool false)), type := 4, pos := "instr.go:34", after := #[{ on := 3, ground := Ground.data }, { on := 13, ground := Ground.data }], guard := none }) (v := ?_) rfl (by kernel_rfl) (by kernel_rfl) (by kernel_rfl) (by kernel_rfl) (fun _ _ _ h => h) (Or.inl ⟨by rfl, fun w _ => ?_⟩) ?_
      rotate_left
      · (go_simp; first | done | with_reducible rfl)
      try simp only [Act.put, List.setIfInBounds_toArray, List.set_cons_zero, List.set_cons_succ]
      refine wpAnyW_take (i := 15) (oi := { dst := some 38, op := Op.assign (Operand.tmp 53), type := 4, pos := "instr.go:34", after := #[{ on := 14, ground := Ground.data }, { on := 12, ground := Ground.chain }], guard := none }) (v := ?_) rfl (by kernel_rfl) (by kernel_rfl) (by kernel_rfl) (by kernel_rfl) (fun _ _ _ h => h) (Or.inl ⟨by rfl, fun w _ => ?_⟩) ?_
      rotate_left
      · (go_simp; first | done | with_reducible rfl)
      try simp only [Act.put, List.setIfInBounds_toArray, List.set_cons_zero, List.set_cons_succ]
      refine wpAnyW_done (by kernel_rfl) ?_ _
      go_wp2
      all_goals go_ret
      all_goals exact ⟨by rw [HR.out]; rfl, HW1.out.trans (HB2.out.trans (by repeat (first | exact Bw.refl _ | apply Bw.alloc | apply Bw.drewN | apply Bw.drew)))⟩
    · have HCP := hid hcp
      clear hcp
      go_enter Tryd.func18, Tryd.ntmps18
      go_upto_region 5 with (first
        | (go_at_call 26; refine (rangeOf_any m G _ _ _ _ _ _ ⟨f, .slice a1 f.boxes.length c1, .slice a2 f.caps.length c2, .slice (some ⟨g1, o1, none⟩) f.code.length c3, .slice a4 f.tries.length c4⟩ k op _ bb (HA.out.bw (HW1.out.trans (by rw [← HWE.out]; repeat (first | exact Bw.refl _ | apply Bw.alloc | apply Bw.drewN | apply Bw.drew)))) HK.out HOP.out HK2.out).mono ?_; rintro e w2 ⟨rfl, hb2⟩; have HB2 := hid (show Bw W1 w2 from Bw.trans (by rw [← HWE.out]; repeat (first | exact Bw.refl _ | apply Bw.alloc | apply Bw.drewN | apply Bw.drew)) hb2); rw [HRG.out]; have u := (HPN.out.bw HB2.out).cell; have ul := (HPN.out.bw HB2.out).lt; clear hb2)
        | (go_at_call 27; refine (name_any op (HOG.out.bw (HW1.out.trans HB2.out))).mono ?_; rintro e w3 ⟨rfl, hw3⟩; subst w3; rw [HNM.out])
        | fail)
      refine wp_region_W (fun w' => w'.cell? ⟨w.heap.size + 1 + 1, 0, none⟩ = some (.int .i64 op) ∧ w'.cell? ⟨w.heap.size + 1 + 1, 1, none⟩ = some (.int .i64 ka) ∧ w'.cell? ⟨w.heap.size, 0, none⟩ = some (.slice (some ⟨gf, of, none⟩) m.funs.length kf) ∧ w'.cell? ⟨gf, of + ka * 6 + 3, none⟩ = some (.slice ac ff.caps.length cc) ∧ ∀ j, w'.cell? ⟨w.heap.size + 1, j, none⟩ = (#[.int .i64 f.params, .int .i64 f.slots, .slice a1 f.boxes.length c1, .slice a2 f.caps.length c2, .slice (some ⟨g1, o1, none⟩) f.code.length c3, .slice a4 f.tries.length c4] : Array Value)[j]?) (fun j => if j == 12 then 0 else 1) (by kernel_rfl) ?_
      refine wpAnyW_take (i := 0) (oi := { dst := some 39, op := Op.fieldAddr 40 (Operand.tmp 7) 0, type := 0, pos := "instr.go:34", after := #[], guard := none }) (v := ?_) rfl (by kernel_rfl) (by kernel_rfl) (by kernel_rfl) (by kernel_rfl) (fun _ _ _ h => h) (Or.inl ⟨by rfl, fun w _ => ?_⟩) ?_
      rotate_left
      · (go_simp; first | done | with_reducible rfl)
      try simp only [Act.put, List.setIfInBounds_toArray, List.set_cons_zero, List.set_cons_succ]
      refine wpAnyW_load (i := 1) (oi := { dst := some 40, op := Op.load 3 (Operand.tmp 39), type := 3, pos := "instr.go:34", after := #[{ on := 0, ground := Ground.data }], guard := none }) (v := ?_) rfl (by kernel_rfl) (by kernel_rfl) (by kernel_rfl) (by kernel_rfl) (by kernel_rfl) (fun _ _ _ h => h) (Or.inl ⟨by rfl, fun w hS => ?_⟩) (FS.out _ (HB2.out.trans (by repeat (first | exact Bw.refl _ | apply Bw.alloc | apply Bw.drewN | apply Bw.drew)))) ?_
      rotate_left
      · (obtain ⟨q0, q1, q2, q3, q4⟩ := hS; go_simp; first | done | with_reducible rfl)
      try simp only [Act.put, List.setIfInBounds_toArray, List.set_cons_zero, List.set_cons_succ]
      refine wpAnyW_take (i := 2) (oi := { dst := some 41, op := Op.binOp BinOp.eql 3 (Operand.tmp 40) (Operand.const (Value.int IntKind.i64 16)) 3, type := 4, pos := "instr.go:34", after := #[{ on := 1, ground := Ground.data }], guard := none }) (v := ?_) rfl (by kernel_rfl) (by kernel_rfl) (by kernel_rfl) (by kernel_rfl) (fun _ _ _ h => h) (Or.inl ⟨by rfl, fun w _ => ?_⟩) ?_
      rotate_left
      · (go_simp; first | done | with_reducible rfl)
      try simp only [Act.put, List.setIfInBounds_toArray, List.set_cons_zero, List.set_cons_succ]
      refine wpAnyW_take (i := 3) (oi := { dst := some 42, op := Op.move (Operand.tmp 41), type := 4, pos := "instr.go:34", after := #[{ on := 2, ground := Ground.data }], guard := none }) (v := ?_) rfl (by kernel_rfl) (by kernel_rfl) (by kernel_rfl) (by kernel_rfl) (fun _ _ _ h => h) (Or.inl ⟨by rfl, fun w _ => ?_⟩) ?_
      rotate_left
      · (go_simp; first | done | with_reducible rfl)
      try simp only [Act.put, List.setIfInBounds_toArray, List.set_cons_zero, List.set_cons_succ]
      refine wpAnyW_take (i := 4) (oi := { dst := some 43, op := Op.fieldAddr 26 (Operand.tmp 3) 0, type := 0, pos := "instr.go:34", after := #[{ on := 3, ground := Ground.guard }], guard := some (3, true) }) (v := ?_) rfl (by kernel_rfl) (by kernel_rfl) (by kernel_rfl) (by kernel_rfl) (fun _ _ _ h => h) (Or.inl ⟨by rfl, fun w _ => ?_⟩) ?_
      rotate_left
      · (go_simp; first | done | with_reducible rfl)
      try simp only [Act.put, List.setIfInBounds_toArray, List.set_cons_zero, List.set_cons_succ]
      refine wpAnyW_load (i := 5) (oi := { dst := some 44, op := Op.load 22 (Operand.tmp 43), type := 22, pos := "instr.go:34", after := #[{ on := 4, ground := Ground.data }, { on := 3, ground := Ground.guard }], guard := some (3, true) }) (v := ?_) rfl (by kernel_rfl) (by kernel_rfl) (by kernel_rfl) (by kernel_rfl) (by kernel_rfl) (fun _ _ _ h => h) (Or.inl ⟨by rfl, fun w hS => ?_⟩) (FS.out _ (HB2.out.trans (by repeat (first | exact Bw.refl _ | apply Bw.alloc | apply Bw.drewN | apply Bw.drew)))) ?_
      rotate_left
      · (obtain ⟨q0, q1, q2, q3, q4⟩ := hS; go_simp; first | done | with_reducible rfl)
      try simp only [Act.put, List.setIfInBounds_toArray, List.set_cons_zero, List.set_cons_succ]
      refine wpAnyW_take (i := 6) (oi := { dst := some 45, op := Op.fieldAddr 40 (Operand.tmp 7) 1, type := 0, pos := "instr.go:34", after := #[{ on := 3, ground := Ground.guard }], guard := some (3, true) }) (v := ?_) rfl (by kernel_rfl) (by kernel_rfl) (by kernel_rfl) (by kernel_rfl) (fun _ _ _ h => h) (Or.inl ⟨by rfl, fun w _ => ?_⟩) ?_
      rotate_left
      · (go_simp; first | done | with_reducible rfl)
      try simp only [Act.put, List.setIfInBounds_toArray, List.set_cons_zero, List.set_cons_succ]
      refine wpAnyW_load (i := 7) (oi := { dst := some 46, op := Op.load 3 (Operand.tmp 45), type := 3, pos := "instr.go:34", after := #[{ on := 6, ground := Ground.data }, { on := 3, ground := Ground.guard }], guard := some (3, true) }) (v := ?_) rfl (by kernel_rfl) (by kernel_rfl) (by kernel_rfl) (by kernel_rfl) (by kernel_rfl) (fun _ _ _ h => h) (Or.inl ⟨by rfl, fun w hS => ?_⟩) (FS.out _ (HB2.out.trans (by repeat (first | exact Bw.refl _ | apply Bw.alloc | apply Bw.drewN | apply Bw.drew)))) ?_
      rotate_left
      · (obtain ⟨q0, q1, q2, q3, q4⟩ := hS; go_simp; first | done | with_reducible rfl)
      try simp only [Act.put, List.setIfInBounds_toArray, List.set_cons_zero, List.set_cons_succ]
      refine wpAnyW_take (i := 8) (oi := { dst := some 47, op := Op.indexAddr 22 (Operand.tmp 44) (Operand.tmp 46), type := 0, pos := "instr.go:34", after := #[{ on := 5, ground := Ground.data }, { on := 7, ground := Ground.data }, { on := 3, ground := Ground.guard }], guard := some (3, true) }) (v := ?_) rfl (by kernel_rfl) (by kernel_rfl) (by kernel_rfl) (by kernel_rfl) (fun _ _ _ h => h) (Or.inl ⟨by rfl, fun w _ => ?_⟩) ?_
      rotate_left
      · (go_simp; first | done | with_reducible rfl)
      try simp only [Act.put, List.setIfInBounds_toArray, List.set_cons_zero, List.set_cons_succ]
      refine wpAnyW_take (i := 9) (oi := { dst := some 48, op := Op.fieldAddr 38 (Operand.tmp 47) 3, type := 0, pos := "instr.go:34", after := #[{ on := 8, ground := Ground.data }, { on := 3, ground := Ground.guard }], guard := some (3, true) }) (v := ?_) rfl (by kernel_rfl) (by kernel_rfl) (by kernel_rfl) (by kernel_rfl) (fun _ _ _ h => h) (Or.inl ⟨by rfl, fun w _ => ?_⟩) ?_
      rotate_left
      · (go_simp; first | done | with_reducible rfl)
      try simp only [Act.put, List.setIfInBounds_toArray, List.set_cons_zero, List.set_cons_succ]
      refine wpAnyW_load (i := 10) (oi := { dst := some 49, op := Op.load 34 (Operand.tmp 48), type := 34, pos := "instr.go:34", after := #[{ on := 9, ground := Ground.data }, { on := 3, ground := Ground.guard }], guard := some (3, true) }) (v := ?_) rfl (by kernel_rfl) (by kernel_rfl) (by kernel_rfl) (by kernel_rfl) (by kernel_rfl) (fun _ _ _ h => h) (Or.inl ⟨by rfl, fun w hS => ?_⟩) (FS.out _ (HB2.out.trans (by repeat (first | exact Bw.refl _ | apply Bw.alloc | apply Bw.drewN | apply Bw.drew)))) ?_
      rotate_left
      · (obtain ⟨q0, q1, q2, q3, q4⟩ := hS; go_simp; first | done | with_reducible rfl)
      try simp only [Act.put, List.setIfInBounds_toArray, List.set_cons_zero, List.set_cons_succ]
      refine wpAnyW_load (i := 11) (oi := { dst := some 50, op := Op.load 38 (Operand.tmp 4), type := 38, pos := "instr.go:34", after := #[{ on := 3, ground := Ground.guard }], guard := some (3, true) }) (v := ?_) rfl (by kernel_rfl) (by kernel_rfl) (by kernel_rfl) (by kernel_rfl) (by kernel_rfl) (fun _ _ _ h => h) (Or.inl ⟨by rfl, fun w hS => ?_⟩) (FS.out _ (HB2.out.trans (by repeat (first | exact Bw.refl _ | apply Bw.alloc | apply Bw.drewN | apply Bw.drew)))) ?_
      rotate_left
      · (obtain ⟨q0, q1, q2, q3, q4⟩ := hS; go_simp; first | done | with_reducible rfl)
      try simp only [Act.put, List.setIfInBounds_toArray, List.set_cons_zero, List.set_cons_succ]
      refine wpAnyW_ready (rs := [12]) (by kernel_rfl) (by simp) ?_
      refine (AllReadyW.cons (o := { dst := some 51, op := Op.call { callee := Callee.value (Operand.func 28), args := #[Operand.tmp 49, Operand.tmp 50], argTypes := #[34, 38] }, type := 4, pos := "instr.go:34", after := #[{ on := 10, ground := Ground.data }, { on := 11, ground := Ground.data }, { on := 3, ground := Ground.chain }, { on := 3, ground := Ground.guard }], guard := some (3, true) }) rfl (fun K hK => ?_) AllReadyW.nil)
      go_simp
      refine (capsFit_any _ ff.caps G G ⟨f, .slice a1 f.boxes.length c1, .slice a2 f.caps.length c2, .slice (some ⟨g1, o1, none⟩) f.code.length c3, .slice a4 f.tries.length c4⟩ (HA.out.bw (HW1.out.trans (HB2.out.trans (by repeat (first | exact Bw.refl _ | apply Bw.alloc | apply Bw.drewN | apply Bw.drew))))) (RL.bw HXC.out (HW1.out.trans (HB2.out.trans (by repeat (first | exact Bw.refl _ | apply Bw.alloc | apply Bw.drewN | apply Bw.drew)))))).mono ?_
      rw [HCP.out]
      rintro e w5 ⟨rfl, hb5⟩
      replace HB2 := hid (HB2.out.trans (Bw.trans (by repeat (first | exact Bw.refl _ | apply Bw.alloc | apply Bw.drewN | apply Bw.drew)) hb5))
      have u5 := (HPN.out.bw HB2.out).cell
      have ul5 := (HPN.out.bw HB2.out).lt
      clear hb5
      refine hK.out _ _ (FS.out _ HB2.out) ?_
      clear hK K
      try simp only [Act.put, List.setIfInBounds_toArray, List.set_cons_zero, List.set_cons_succ]
      refine wpAnyW_take (i := 13) (oi := { dst := some 52, op := Op.unOp UnOp.not 4 (Operand.tmp 51), type := 4, pos := "instr.go:34", after := #[{ on := 12, ground := Ground.data }, { on := 3, ground := Ground.guard }], guard := some (3, true) }) (v := ?_) rfl (by kernel_rfl) (by kernel_rfl) (by kernel_rfl) (by kernel_rfl) (fun _ _ _ h => h) (Or.inl ⟨by rfl, fun w _ => ?_⟩) ?_
      rotate_left
      · (go_simp; first | done | with_reducible rfl)
      try simp only [Act.put, List.setIfInBounds_toArray, List.set_cons_zero, List.set_cons_succ]
      refine wpAnyW_take (i := 14) (oi := { dst := some 53, op := Op.pick (Operand.tmp 42) (Operand.tmp 52) (Operand.const (Value.bool false)), type := 4, pos := "instr.go:34", after := #[{ on := 3, ground := Ground.data }, { on := 13, ground := Ground.data }], guard := none }) (v := ?_) rfl (by kernel_rfl) (by kernel_rfl) (by kernel_rfl) (by kernel_rfl) (fun _ _ _ h => h) (Or.inl ⟨by rfl, fun w _ => ?_⟩) ?_
      rotate_left
      · (go_simp; first | done | with_reducible rfl)
      try simp only [Act.put, List.setIfInBounds_toArray, List.set_cons_zero, List.set_cons_succ]
      refine wpAnyW_take (i := 15) (oi := { dst := some 38, op := Op.assign (Operand.tmp 53), type := 4, pos := "instr.go:34", after := #[{ on := 14, ground := Ground.data }, { on := 12, ground := Ground.chain }], guard := none }) (v := ?_) rfl (by kernel_rfl) (by kernel_rfl) (by kernel_rfl) (by kernel_rfl) (fun _ _ _ h => h) (Or.inl ⟨by rfl, fun w _ => ?_⟩) ?_
      rotate_left
      · (go_simp; first | done | with_reducible rfl)
      try simp only [Act.put, List.setIfInBounds_toArray, List.set_cons_zero, List.set_cons_succ]
      refine wpAnyW_done (by kernel_rfl) ?_ _
      by_cases hbb : bb = 0
      · have hbz : (bb != 0) = false := by simp [hbb]
        have HR := hid (show inF m f k (op, ka, bb) = 0 by rw [HIF2.out, if_neg (by rw [HCP.out]; simp), if_neg (by simp [hbb])])
        clear hbb
        go_wp2
        all_goals go_ret
        all_goals exact ⟨by rw [HR.out]; rfl, HW1.out.trans (HB2.out.trans (by repeat (first | exact Bw.refl _ | apply Bw.alloc | apply Bw.drewN | apply Bw.drew)))⟩
      · have hbz : (bb != 0) = true := by simp [hbb]
        have HR := hid (show inF m f k (op, ka, bb) = 9 by rw [HIF2.out, if_neg (by rw [HCP.out]; simp), if_pos (by simpa using hbb)])
        clear hbb
        go_wp2
        all_goals go_ret
        all_goals exact ⟨by rw [HR.out]; rfl, HW1.out.trans (HB2.out.trans (by repeat (first | exact Bw.refl _ | apply Bw.alloc | apply Bw.drewN | apply Bw.drew)))⟩
  · have h16b : (op == 16) = false := by simp [h16]
    have H16 := hid h16
    have FS := hid (show ∀ w', Bw W1 w' → w'.cell? ⟨w.heap.size + 1 + 1, 0, none⟩ = some (.int .i64 op) from fun w' hb => (HPN.out.bw hb).cell 0)
    clear h16
    go_enter Tryd.func18, Tryd.ntmps18
    go_upto_region 5 with (first
      | (go_at_call 26; refine (rangeOf_any m G _ _ _ _ _ _ ⟨f, .slice a1 f.boxes.length c1, .slice a2 f.caps.length c2, .slice (some ⟨g1, o1, none⟩) f.code.length c3, .slice a4 f.tries.length c4⟩ k op _ bb (HA.out.bw (HW1.out.trans (by rw [← HWE.out]; repeat (first | exact Bw.refl _ | apply Bw.alloc | apply Bw.drewN | apply Bw.drew)))) HK.out HOP.out HK2.out).mono ?_; rintro e w2 ⟨rfl, hb2⟩; have HB2 := hid (show Bw W1 w2 from Bw.trans (by rw [← HWE.out]; repeat (first | exact Bw.refl _ | apply Bw.alloc | apply Bw.drewN | apply Bw.drew)) hb2); rw [HRG.out]; have u := (HPN.out.bw HB2.out).cell; have ul := (HPN.out.bw HB2.out).lt; clear hb2)
      | (go_at_call 27; refine (name_any op (HOG.out.bw (HW1.out.trans HB2.out))).mono ?_; rintro e w3 ⟨rfl, hw3⟩; subst w3; rw [HNM.out])
      | fail)
    refine wp_region_W (fun w' => w'.cell? ⟨w.heap.size + 1 + 1, 0, none⟩ = some (.int .i64 op)) (fun j => 1) (by kernel_rfl) ?_
    refine wpAnyW_take (i := 0) (oi := { dst := some 39, op := Op.fieldAddr 40 (Operand.tmp 7) 0, type := 0, pos := "instr.go:34", after := #[], guard := none }) (v := ?_) rfl (by kernel_rfl) (by kernel_rfl) (by kernel_rfl) (by kernel_rfl) (fun _ _ _ h => h) (Or.inl ⟨by rfl, fun w _ => ?_⟩) ?_
    rotate_left
    · (go_simp; first | done | with_reducible rfl)
    try simp only [Act.put, List.setIfInBounds_toArray, List.set_cons_zero, List.set_cons_succ]
    refine wpAnyW_load (i := 1) (oi := { dst := some 40, op := Op.load 3 (Operand.tmp 39), type := 3, pos := "instr.go:34", after := #[{ on := 0, ground := Ground.data }], guard := none }) (v := ?_) rfl (by kernel_rfl) (by kernel_rfl) (by kernel_rfl) (by kernel_rfl) (by kernel_rfl) (fun _ _ _ h => h) (Or.inl ⟨by rfl, fun w hS => ?_⟩) (FS.out _ (HB2.out.trans (by repeat (first | exact Bw.refl _ | apply Bw.alloc | apply Bw.drewN | apply Bw.drew)))) ?_
    rotate_left
    · (skip; go_simp; first | done | with_reducible rfl)
    try simp only [Act.put, List.setIfInBounds_toArray, List.set_cons_zero, List.set_cons_succ]
    refine wpAnyW_take (i := 2) (oi := { dst := some 41, op := Op.binOp BinOp.eql 3 (Operand.tmp 40) (Operand.const (Value.int IntKind.i64 16)) 3, type := 4, pos := "instr.go:34", after := #[{ on := 1, ground := Ground.data }], guard := none }) (v := ?_) rfl (by kernel_rfl) (by kernel_rfl) (by kernel_rfl) (by kernel_rfl) (fun _ _ _ h => h) (Or.inl ⟨by rfl, fun w _ => ?_⟩) ?_
    rotate_left
    · (go_simp; first | done | with_reducible rfl)
    try simp only [Act.put, List.setIfInBounds_toArray, List.set_cons_zero, List.set_cons_succ]
    refine wpAnyW_take (i := 3) (oi := { dst := some 42, op := Op.move (Operand.tmp 41), type := 4, pos := "instr.go:34", after := #[{ on := 2, ground := Ground.data }], guard := none }) (v := ?_) rfl (by kernel_rfl) (by kernel_rfl) (by kernel_rfl) (by kernel_rfl) (fun _ _ _ h => h) (Or.inl ⟨by rfl, fun w _ => ?_⟩) ?_
    rotate_left
    · (go_simp; first | done | with_reducible rfl)
    try simp only [Act.put, List.setIfInBounds_toArray, List.set_cons_zero, List.set_cons_succ]
    refine wpAnyW_take (i := 4) (oi := { dst := some 43, op := Op.fieldAddr 26 (Operand.tmp 3) 0, type := 0, pos := "instr.go:34", after := #[{ on := 3, ground := Ground.guard }], guard := some (3, true) }) (v := undef) rfl (by kernel_rfl) (by kernel_rfl) (by kernel_rfl) (by kernel_rfl) (fun _ _ _ h => h) (Or.inr ⟨by rfl, rfl⟩) ?_
    try simp only [Act.put, List.setIfInBounds_toArray, List.set_cons_zero, List.set_cons_succ]
    refine wpAnyW_take (i := 5) (oi := { dst := some 44, op := Op.load 22 (Operand.tmp 43), type := 22, pos := "instr.go:34", after := #[{ on := 4, ground := Ground.data }, { on := 3, ground := Ground.guard }], guard := some (3, true) }) (v := undef) rfl (by kernel_rfl) (by kernel_rfl) (by kernel_rfl) (by kernel_rfl) (fun _ _ _ h => h) (Or.inr ⟨by rfl, rfl⟩) ?_
    try simp only [Act.put, List.setIfInBounds_toArray, List.set_cons_zero, List.set_cons_succ]
    refine wpAnyW_take (i := 6) (oi := { dst := some 45, op := Op.fieldAddr 40 (Operand.tmp 7) 1, type := 0, pos := "instr.go:34", after := #[{ on := 3, ground := Ground.guard }], guard := some (3, true) }) (v := undef) rfl (by kernel_rfl) (by kernel_rfl) (by kernel_rfl) (by kernel_rfl) (fun _ _ _ h => h) (Or.inr ⟨by rfl, rfl⟩) ?_
    try simp only [Act.put, List.setIfInBounds_toArray, List.set_cons_zero, List.set_cons_succ]
    refine wpAnyW_take (i := 7) (oi := { dst := some 46, op := Op.load 3 (Operand.tmp 45), type := 3, pos := "instr.go:34", after := #[{ on := 6, ground := Ground.data }, { on := 3, ground := Ground.guard }], guard := some (3, true) }) (v := undef) rfl (by kernel_rfl) (by kernel_rfl) (by kernel_rfl) (by kernel_rfl) (fun _ _ _ h => h) (Or.inr ⟨by rfl, rfl⟩) ?_
    try simp only [Act.put, List.setIfInBounds_toArray, List.set_cons_zero, List.set_cons_succ]
    refine wpAnyW_take (i := 8) (oi := { dst := some 47, op := Op.indexAddr 22 (Operand.tmp 44) (Operand.tmp 46), type := 0, pos := "instr.go:34", after := #[{ on := 5, ground := Ground.data }, { on := 7, ground := Ground.data }, { on := 3, ground := Ground.guard }], guard := some (3, true) }) (v := undef) rfl (by kernel_rfl) (by kernel_rfl) (by kernel_rfl) (by kernel_rfl) (fun _ _ _ h => h) (Or.inr ⟨by rfl, rfl⟩) ?_
    try simp only [Act.put, List.setIfInBounds_toArray, List.set_cons_zero, List.set_cons_succ]
    refine wpAnyW_take (i := 9) (oi := { dst := some 48, op := Op.fieldAddr 38 (Operand.tmp 47) 3, type := 0, pos := "instr.go:34", after := #[{ on := 8, ground := Ground.data }, { on := 3, ground := Ground.guard }], guard := some (3, true) }) (v := undef) rfl (by kernel_rfl) (by kernel_rfl) (by kernel_rfl) (by kernel_rfl) (fun _ _ _ h => h) (Or.inr ⟨by rfl, rfl⟩) ?_
    try simp only [Act.put, List.setIfInBounds_toArray, List.set_cons_zero, List.set_cons_succ]
    refine wpAnyW_take (i := 10) (oi := { dst := some 49, op := Op.load 34 (Operand.tmp 48), type := 34, pos := "instr.go:34", after := #[{ on := 9, ground := Ground.data }, { on := 3, ground := Ground.guard }], guard := some (3, true) }) (v := undef) rfl (by kernel_rfl) (by kernel_rfl) (by kernel_rfl) (by kernel_rfl) (fun _ _ _ h => h) (Or.inr ⟨by rfl, rfl⟩) ?_
    try simp only [Act.put, List.setIfInBounds_toArray, List.set_cons_zero, List.set_cons_succ]
    refine wpAnyW_take (i := 11) (oi := { dst := some 50, op := Op.load 38 (Operand.tmp 4), type := 38, pos := "instr.go:34", after := #[{ on := 3, ground := Ground.guard }], guard := some (3, true) }) (v := undef) rfl (by kernel_rfl) (by kernel_rfl) (by kernel_rfl) (by kernel_rfl) (fun _ _ _ h => h) (Or.inr ⟨by rfl, rfl⟩) ?_
    try simp only [Act.put, List.setIfInBounds_toArray, List.set_cons_zero, List.set_cons_succ]
    refine wpAnyW_take (i := 12) (oi := { dst := some 51, op := Op.call { callee := Callee.value (Operand.func 28), args := #[Operand.tmp 49, Operand.tmp 50], argTypes := #[34, 38] }, type := 4, pos := "instr.go:34", after := #[{ on := 10, ground := Ground.data }, { on := 11, ground := Ground.data }, { on := 3, ground := Ground.chain }, { on := 3, ground := Ground.guard }], guard := some (3, true) }) (v := undef) rfl (by kernel_rfl) (by kernel_rfl) (by kernel_rfl) (by kernel_rfl) (fun _ _ _ h => h) (Or.inr ⟨by rfl, rfl⟩) ?_
    try simp only [Act.put, List.setIfInBounds_toArray, List.set_cons_zero, List.set_cons_succ]
    refine wpAnyW_take (i := 13) (oi := { dst := some 52, op := Op.unOp UnOp.not 4 (Operand.tmp 51), type := 4, pos := "instr.go:34", after := #[{ on := 12, ground := Ground.data }, { on := 3, ground := Ground.guard }], guard := some (3, true) }) (v := undef) rfl (by kernel_rfl) (by kernel_rfl) (by kernel_rfl) (by kernel_rfl) (fun _ _ _ h => h) (Or.inr ⟨by rfl, rfl⟩) ?_
    try simp only [Act.put, List.setIfInBounds_toArray, List.set_cons_zero, List.set_cons_succ]
    refine wpAnyW_take (i := 14) (oi := { dst := some 53, op := Op.pick (Operand.tmp 42) (Operand.tmp 52) (Operand.const (Value.bool false)), type := 4, pos := "instr.go:34", after := #[{ on := 3, ground := Ground.data }, { on := 13, ground := Ground.data }], guard := none }) (v := ?_) rfl (by kernel_rfl) (by kernel_rfl) (by kernel_rfl) (by kernel_rfl) (fun _ _ _ h => h) (Or.inl ⟨by rfl, fun w _ => ?_⟩) ?_
    rotate_left
    · (go_simp; first | done | with_reducible rfl)
    try simp only [Act.put, List.setIfInBounds_toArray, List.set_cons_zero, List.set_cons_succ]
    refine wpAnyW_take (i := 15) (oi := { dst := some 38, op := Op.assign (Operand.tmp 53), type := 4, pos := "instr.go:34", after := #[{ on := 14, ground := Ground.data }, { on := 12, ground := Ground.chain }], guard := none }) (v := ?_) rfl (by kernel_rfl) (by kernel_rfl) (by kernel_rfl) (by kernel_rfl) (fun _ _ _ h => h) (Or.inl ⟨by rfl, fun w _ => ?_⟩) ?_
    rotate_left
    · (go_simp; first | done | with_reducible rfl)
    try simp only [Act.put, List.setIfInBounds_toArray, List.set_cons_zero, List.set_cons_succ]
    refine wpAnyW_done (by kernel_rfl) ?_ _
    by_cases hbb : bb = 0
    · have hbz : (bb != 0) = false := by simp [hbb]
      have HR := hid (show inF m f k (op, a, bb) = 0 by rw [HIF2.out, if_neg (fun h => H16.out h.1), if_neg (by simp [hbb])])
      clear hbb
      go_wp2
      all_goals go_ret
      all_goals exact ⟨by rw [HR.out]; rfl, HW1.out.trans (HB2.out.trans (by repeat (first | exact Bw.refl _ | apply Bw.alloc | apply Bw.drewN | apply Bw.drew)))⟩
    · have hbz : (bb != 0) = true := by simp [hbb]
      have HR := hid (show inF m f k (op, a, bb) = 9 by rw [HIF2.out, if_neg (fun h => H16.out h.1), if_pos (by simpa using hbb)])
      clear hbb
      go_wp2
      all_goals go_ret
      all_goals exact ⟨by rw [HR.out]; rfl, HW1.out.trans (HB2.out.trans (by repeat (first | exact Bw.refl _ | apply Bw.alloc | apply Bw.drewN | apply Bw.drew)))⟩

end

end Go.Proofs.YtcljlmjcjfmppaaDoor
