/- verify.Heights where the frames and the codes are right: a contract. -/
import Derived.Test.YtcljlmjcjfmppaaDoorVr
set_option linter.unusedSimpArgs false
set_option linter.unusedVariables false
namespace Go.Proofs.YtcljlmjcjfmppaaDoor
open Go Go.RowKit

def HgP (w : World) (n : Nat) (F : Nat → HSt) (i : Nat) (e : Ending) (w' : World) : Prop := Bw w w' ∧ (((∀ j, j < n → (F j).f = -1) ∧ ∃ a c, e = .returned (.tuple #[.slice a (F i).h.length c, .int .i64 0]) ∧ Sl w' (fun _ => True) (.slice a (F i).h.length c) (F i).h.length 1 ((F i).h.map (Value.int .i64))) ∨ (¬ (∀ j, j < n → (F j).f = -1) ∧ e = .returned (.tuple #[.slice none 0 0, .int .i64 6])))

section
variable {w w' : World}

set_option maxRecDepth 100000 in
set_option maxHeartbeats 2000000 in
theorem heights_fine (m : AIm) (G : Nat → Prop) (vf vs vk : Value) (N : Nat) (F : Nat → HSt) (i : Nat) (hi : i < m.funs.length) (ho : Og w) (hm : RIm w G vf vs vk m)
    (hif : ∀ w1, Bw w w1 → Calls Tryd.prog 10 #[imV vf vs vk m] w1 fun e w' => e = .returned (.int .i64 0) ∧ Bw w1 w')
    (hfr : ∀ i (h : i < m.funs.length), frF m.funs[i] (i == 0) = 0) (hcd : ∀ f ∈ m.funs, CdOk m f) (hn1 : ∀ f ∈ m.funs, 1 ≤ f.code.length) (hn2 : ∀ f ∈ m.funs, f.code.length ≤ 65536) (hy : ∀ l ∈ m.keys, l.length ≤ 1000000) (hN : ∀ f ∈ m.funs, f.code.length < N) (hF : ∀ i (h : i < m.funs.length), flow m m.funs[i] N 0 (flow0 m.funs[i]) = F i) :
    Calls Tryd.prog 9 #[imV vf vs vk m, .int .i64 i] w (HgP w m.funs.length F i) := by
  obtain ⟨af, kf, az, ks, ak, kk, e1, e2, e3⟩ := hm.forms
  subst e1 e2 e3
  have HM := hid hm
  obtain ⟨⟨ms, em, hf⟩, _, _, _⟩ := hm
  have hlm : ms.length = m.funs.length := by rw [← em, List.length_map]
  have him : i < ms.length := by omega
  obtain ⟨gf, of, df, ef, _, hgf, _, z⟩ := hf.parts him (by decide)
  have hX := hf.2.1 _ (List.getElem_mem him)
  have hfe : m.funs[i] = ms[i].f := by simp only [← em, List.getElem_map]
  have HCX := hid (show CdOk m ms[i].f from by rw [← hfe]; exact hcd _ (List.getElem_mem hi))
  have HNX := hid (show ms[i].f.code.length ≤ 65536 from by rw [← hfe]; exact hn2 _ (List.getElem_mem hi))
  have HOX := hid (show 1 ≤ ms[i].f.code.length from by rw [← hfe]; exact hn1 _ (List.getElem_mem hi))
  have HNN := hid (show ms[i].f.code.length < N from by rw [← hfe]; exact hN _ (List.getElem_mem hi))
  have HFX := hid (show flow m ms[i].f N 0 (flow0 ms[i].f) = F i from by rw [← hfe]; exact hF i hi)
  rw [hlm] at ef
  cases ef
  have HIF := hid hif
  unfold imV
  have z0 := z 0 (by decide)
  have z1 := z 1 (by decide)
  have z2 := z 2 (by decide)
  have z3 := z 3 (by decide)
  have z4 := z 4 (by decide)
  have z5 := z 5 (by decide)
  simp only [Nat.add_zero, ← Nat.add_assoc, fnC, List.getElem?_cons_zero, List.getElem?_cons_succ] at z0 z1 z2 z3 z4 z5
  clear z hfe
  generalize ms[i] = x at z0 z1 z2 z3 z4 z5 hX HCX HNX HOX HNN HFX
  obtain ⟨f, xb, xc, xo, xt⟩ := x
  obtain ⟨a1, c1, e1⟩ := hX.b.form
  obtain ⟨a2, c2, e2⟩ := hX.c.form
  obtain ⟨a3, c3, e3⟩ := hX.o.form
  obtain ⟨a4, c4, e4⟩ := hX.t.form
  simp only at e1 e2 e3 e4 z0 z1 z2 z3 z4 z5 HCX HNX HOX HNN HFX
  subst e1 e2 e3 e4
  have HX := hid hX
  have hi2 : (i : Int) < (m.funs.length : Int) := by omega
  have HPL := hid (show isPl (i : Int) (m.funs.length : Int) = true from by unfold isPl; simp; omega)
  have HOG := hid ho
  have HFR := hid hfr
  have HCD := hid hcd
  have HN1 := hid hn1
  have HN2 := hid hn2
  have HY := hid hy
  have HN := hid hN
  have HF := hid hF
  obtain ⟨W1, hW1⟩ : ∃ W1, (w.alloc (.cells #[.slice (some ⟨gf, of, none⟩) m.funs.length kf, .slice az m.strs.length ks, .slice ak m.keys.length kk, .int .i64 m.globals] 26)) = W1 := ⟨_, rfl⟩
  have HWE := hid hW1
  have HW1 := hid (show Bw w W1 from by rw [← hW1]; exact Bw.alloc (Bw.refl w) _)
  have HPI := hid (show Blk W1 w.heap.size #[.slice (some ⟨gf, of, none⟩) m.funs.length kf, .slice az m.strs.length ks, .slice ak m.keys.length kk, .int .i64 m.globals] 26 from by rw [← hW1]; exact Blk.new w _ 26)
  have FS := hid (show ∀ w', Bw W1 w' → (∀ j, w'.cell? ⟨w.heap.size, j, none⟩ = (#[.slice (some ⟨gf, of, none⟩) m.funs.length kf, .slice az m.strs.length ks, .slice ak m.keys.length kk, .int .i64 m.globals] : Array Value)[j]?) ∧ w'.cell? ⟨gf, of + i * 6, none⟩ = some (.int .i64 f.params) ∧ w'.cell? ⟨gf, of + i * 6 + 1, none⟩ = some (.int .i64 f.slots) ∧ w'.cell? ⟨gf, of + i * 6 + 2, none⟩ = some (.slice a1 f.boxes.length c1) ∧ w'.cell? ⟨gf, of + i * 6 + 3, none⟩ = some (.slice a2 f.caps.length c2) ∧ w'.cell? ⟨gf, of + i * 6 + 4, none⟩ = some (.slice a3 f.code.length c3) ∧ w'.cell? ⟨gf, of + i * 6 + 5, none⟩ = some (.slice a4 f.tries.length c4) from fun w' hb => ⟨(HPI.out.bw hb).cell, by rw [← z0, World.cell?_of_block (w := w) (w' := w') (a := ⟨gf, _, none⟩) ((HW1.out.trans hb).block gf hgf)], by rw [← z1, World.cell?_of_block (w := w) (w' := w') (a := ⟨gf, _, none⟩) ((HW1.out.trans hb).block gf hgf)], by rw [← z2, World.cell?_of_block (w := w) (w' := w') (a := ⟨gf, _, none⟩) ((HW1.out.trans hb).block gf hgf)], by rw [← z3, World.cell?_of_block (w := w) (w' := w') (a := ⟨gf, _, none⟩) ((HW1.out.trans hb).block gf hgf)], by rw [← z4, World.cell?_of_block (w := w) (w' := w') (a := ⟨gf, _, none⟩) ((HW1.out.trans hb).block gf hgf)], by rw [← z5, World.cell?_of_block (w := w) (w' := w') (a := ⟨gf, _, none⟩) ((HW1.out.trans hb).block gf hgf)]⟩)
  clear hf em hlm ho hif hfr hcd hn1 hn2 hy hN hF hW1 hX z0 z1 z2 z3 z4 z5 him
  by_cases hall : ∀ j, j < m.funs.length → (F j).f = -1
  · have HALL := hid hall
    clear hall
    go_enter Tryd.func9, Tryd.ntmps9
    go_upto_region 6 with (first
      | (go_at_call 6; rw [HWE.out]; refine (check_fine m G _ _ _ N F (HOG.out.bw HW1.out) (HM.out.bw HW1.out) (fun w1 hb => HIF.out w1 (HW1.out.trans hb)) HFR.out HCD.out HN1.out HN2.out HY.out HN.out HF.out).mono ?_; rintro e w2 ⟨hb2, hc⟩; obtain rfl := (hc.elim (fun h => absurd (HALL.out _ h.choose_spec.1) h.choose_spec.2.2.1) (fun h => h.2)); clear hc; replace HB := hid (show Bw W1 w2 from hb2); have u := (HPI.out.bw HB.out).cell; have ul := (HPI.out.bw HB.out).lt; clear hb2)
      | (go_at_call 14; refine (isPlace_any _ _ _).mono ?_; rw [HPL.out]; rintro e w3 ⟨rfl, hw3⟩; subst w3)
      | fail)
    refine wp_region_W (fun w' => (∀ j, w'.cell? ⟨w.heap.size, j, none⟩ = (#[.slice (some ⟨gf, of, none⟩) m.funs.length kf, .slice az m.strs.length ks, .slice ak m.keys.length kk, .int .i64 m.globals] : Array Value)[j]?) ∧ w'.cell? ⟨gf, of + i * 6, none⟩ = some (.int .i64 f.params) ∧ w'.cell? ⟨gf, of + i * 6 + 1, none⟩ = some (.int .i64 f.slots) ∧ w'.cell? ⟨gf, of + i * 6 + 2, none⟩ = some (.slice a1 f.boxes.length c1) ∧ w'.cell? ⟨gf, of + i * 6 + 3, none⟩ = some (.slice a2 f.caps.length c2) ∧ w'.cell? ⟨gf, of + i * 6 + 4, none⟩ = some (.slice a3 f.code.length c3) ∧ w'.cell? ⟨gf, of + i * 6 + 5, none⟩ = some (.slice a4 f.tries.length c4)) (fun j => if j == 6 then 0 else 1) (by kernel_rfl) ?_
    refine wpAnyW_load (i := 0) (oi := { dst := some 27, op := Op.load 26 (Operand.tmp 2), type := 26, pos := "verify.go:37", after := #[], guard := none }) (v := ?_) rfl (by kernel_rfl) (by kernel_rfl) (by kernel_rfl) (by kernel_rfl) (by kernel_rfl) (fun _ _ _ h => h) (Or.inl ⟨by rfl, fun w hS => ?_⟩) (FS.out _ (HB.out.trans (by repeat (first | exact Bw.refl _ | apply Bw.alloc | apply Bw.drewN | apply Bw.drew)))) ?_
    rotate_left
    · (obtain ⟨q, q0, q1, q2, q3, q4, q5⟩ := hS; go_simp; first | done | with_reducible rfl)
    try simp only [Act.put, List.setIfInBounds_toArray, List.set_cons_zero, List.set_cons_succ]
    refine wpAnyW_take (i := 1) (oi := { dst := some 28, op := Op.fieldAddr 26 (Operand.tmp 2) 0, type := 0, pos := "verify.go:37", after := #[], guard := none }) (v := ?_) rfl (by kernel_rfl) (by kernel_rfl) (by kernel_rfl) (by kernel_rfl) (fun _ _ _ h => h) (Or.inl ⟨by rfl, fun w _ => ?_⟩) ?_
    rotate_left
    · (go_simp; first | done | with_reducible rfl)
    try simp only [Act.put, List.setIfInBounds_toArray, List.set_cons_zero, List.set_cons_succ]
    refine wpAnyW_load (i := 2) (oi := { dst := some 29, op := Op.load 22 (Operand.tmp 28), type := 22, pos := "verify.go:37", after := #[{ on := 1, ground := Ground.data }], guard := none }) (v := ?_) rfl (by kernel_rfl) (by kernel_rfl) (by kernel_rfl) (by kernel_rfl) (by kernel_rfl) (fun _ _ _ h => h) (Or.inl ⟨by rfl, fun w hS => ?_⟩) (FS.out _ (HB.out.trans (by repeat (first | exact Bw.refl _ | apply Bw.alloc | apply Bw.drewN | apply Bw.drew)))) ?_
    rotate_left
    · (obtain ⟨q, q0, q1, q2, q3, q4, q5⟩ := hS; go_simp; first | done | with_reducible rfl)
    try simp only [Act.put, List.setIfInBounds_toArray, List.set_cons_zero, List.set_cons_succ]
    refine wpAnyW_take (i := 3) (oi := { dst := some 30, op := Op.move (Operand.tmp 1), type := 3, pos := "verify.go:37", after := #[], guard := none }) (v := ?_) rfl (by kernel_rfl) (by kernel_rfl) (by kernel_rfl) (by kernel_rfl) (fun _ _ _ h => h) (Or.inl ⟨by rfl, fun w _ => ?_⟩) ?_
    rotate_left
    · (go_simp; first | done | with_reducible rfl)
    try simp only [Act.put, List.setIfInBounds_toArray, List.set_cons_zero, List.set_cons_succ]
    refine wpAnyW_take (i := 4) (oi := { dst := some 31, op := Op.indexAddr 22 (Operand.tmp 29) (Operand.tmp 30), type := 0, pos := "verify.go:37", after := #[{ on := 2, ground := Ground.data }, { on := 3, ground := Ground.data }], guard := none }) (v := ?_) rfl (by kernel_rfl) (by kernel_rfl) (by kernel_rfl) (by kernel_rfl) (fun _ _ _ h => h) (Or.inl ⟨by rfl, fun w _ => ?_⟩) ?_
    rotate_left
    · (go_simp; first | done | with_reducible rfl)
    try simp only [Act.put, List.setIfInBounds_toArray, List.set_cons_zero, List.set_cons_succ]
    refine wpAnyW_load (i := 5) (oi := { dst := some 32, op := Op.load 38 (Operand.tmp 31), type := 38, pos := "verify.go:37", after := #[{ on := 4, ground := Ground.data }], guard := none }) (v := ?_) rfl (by kernel_rfl) (by kernel_rfl) (by kernel_rfl) (by kernel_rfl) (by kernel_rfl) (fun _ _ _ h => h) (Or.inl ⟨by rfl, fun w hS => ?_⟩) (FS.out _ (HB.out.trans (by repeat (first | exact Bw.refl _ | apply Bw.alloc | apply Bw.drewN | apply Bw.drew)))) ?_
    rotate_left
    · (obtain ⟨q, q0, q1, q2, q3, q4, q5⟩ := hS; go_simp; first | done | with_reducible rfl)
    try simp only [Act.put, List.setIfInBounds_toArray, List.set_cons_zero, List.set_cons_succ]
    refine wpAnyW_ready (rs := [6]) (by kernel_rfl) (by simp) ?_
    refine (AllReadyW.cons (o := { dst := some 33, op := Op.call { callee := Callee.value (Operand.func 13), args := #[Operand.tmp 27, Operand.tmp 32], argTypes := #[26, 38] }, type := 48, pos := "verify.go:37", after := #[{ on := 0, ground := Ground.data }, { on := 5, ground := Ground.data }], guard := none }) rfl (fun K hK => ?_) AllReadyW.nil)
    go_simp
    refine (heightsOf_any m G _ _ _ ⟨f, .slice a1 f.boxes.length c1, .slice a2 f.caps.length c2, .slice a3 f.code.length c3, .slice a4 f.tries.length c4⟩ N (F i) (HOG.out.bw (HW1.out.trans (HB.out.trans (by repeat (first | exact Bw.refl _ | apply Bw.alloc | apply Bw.drewN | apply Bw.drew))))) (HM.out.bw (HW1.out.trans (HB.out.trans (by repeat (first | exact Bw.refl _ | apply Bw.alloc | apply Bw.drewN | apply Bw.drew))))) (HX.out.bw (HW1.out.trans (HB.out.trans (by repeat (first | exact Bw.refl _ | apply Bw.alloc | apply Bw.drewN | apply Bw.drew))))) HCX.out HOX.out HNX.out HY.out HNN.out HFX.out).mono ?_
    rintro e w5 ⟨hb5, ra, rc, rfl, hsl⟩
    have HSL := hid hsl
    replace HB := hid (HB.out.trans (Bw.trans (by repeat (first | exact Bw.refl _ | apply Bw.alloc | apply Bw.drewN | apply Bw.drew)) hb5))
    clear hb5 hsl
    refine hK.out _ _ (FS.out _ HB.out) ?_
    clear hK K
    try simp only [Act.put, List.setIfInBounds_toArray, List.set_cons_zero, List.set_cons_succ]
    refine wpAnyW_take (i := 7) (oi := { dst := some 26, op := Op.move (Operand.tmp 33), type := 48, pos := "verify.go:37", after := #[{ on := 6, ground := Ground.data }], guard := none }) (v := ?_) rfl (by kernel_rfl) (by kernel_rfl) (by kernel_rfl) (by kernel_rfl) (fun _ _ _ h => h) (Or.inl ⟨by rfl, fun w _ => ?_⟩) ?_
    rotate_left
    · (go_simp; first | done | with_reducible rfl)
    try simp only [Act.put, List.setIfInBounds_toArray, List.set_cons_zero, List.set_cons_succ]
    refine wpAnyW_take (i := 8) (oi := { dst := some 34, op := Op.extract (Operand.tmp 26) 0, type := 33, pos := "verify.go:37", after := #[{ on := 7, ground := Ground.data }], guard := none }) (v := ?_) rfl (by kernel_rfl) (by kernel_rfl) (by kernel_rfl) (by kernel_rfl) (fun _ _ _ h => h) (Or.inl ⟨by rfl, fun w _ => ?_⟩) ?_
    rotate_left
    · (go_simp; first | done | with_reducible rfl)
    try simp only [Act.put, List.setIfInBounds_toArray, List.set_cons_zero, List.set_cons_succ]
    refine wpAnyW_take (i := 9) (oi := { dst := some 35, op := Op.extract (Operand.tmp 26) 1, type := 3, pos := "verify.go:37", after := #[{ on := 7, ground := Ground.data }, { on := 10, ground := Ground.gcOnly Departure.lateStores }], guard := none }) (v := ?_) rfl (by kernel_rfl) (by kernel_rfl) (by kernel_rfl) (by kernel_rfl) (fun _ _ _ h => h) (Or.inl ⟨by rfl, fun w _ => ?_⟩) ?_
    rotate_left
    · (go_simp; first | done | with_reducible rfl)
    try simp only [Act.put, List.setIfInBounds_toArray, List.set_cons_zero, List.set_cons_succ]
    refine wpAnyW_take (i := 10) (oi := { dst := some 9, op := Op.assign (Operand.tmp 34), type := 33, pos := "verify.go:37", after := #[{ on := 8, ground := Ground.data }, { on := 6, ground := Ground.chain }, { on := 0, ground := Ground.phase }, { on := 1, ground := Ground.phase }, { on := 2, ground := Ground.phase }, { on := 3, ground := Ground.phase }, { on := 4, ground := Ground.phase }, { on := 5, ground := Ground.phase }, { on := 6, ground := Ground.phase }, { on := 7, ground := Ground.phase }, { on := 8, ground := Ground.phase }, { on := 9, ground := Ground.textOnly Departure.lateStores }], guard := none }) (v := ?_) rfl (by kernel_rfl) (by kernel_rfl) (by kernel_rfl) (by kernel_rfl) (fun _ _ _ h => h) (Or.inl ⟨by rfl, fun w _ => ?_⟩) ?_
    rotate_left
    · (go_simp; first | done | with_reducible rfl)
    try simp only [Act.put, List.setIfInBounds_toArray, List.set_cons_zero, List.set_cons_succ]
    refine wpAnyW_take (i := 11) (oi := { dst := some 10, op := Op.assign (Operand.tmp 35), type := 3, pos := "verify.go:37", after := #[{ on := 9, ground := Ground.data }, { on := 10, ground := Ground.chain }, { on := 0, ground := Ground.phase }, { on := 1, ground := Ground.phase }, { on := 2, ground := Ground.phase }, { on := 3, ground := Ground.phase }, { on := 4, ground := Ground.phase }, { on := 5, ground := Ground.phase }, { on := 6, ground := Ground.phase }, { on := 7, ground := Ground.phase }, { on := 8, ground := Ground.phase }, { on := 9, ground := Ground.phase }, { on := 10, ground := Ground.phase }], guard := none }) (v := ?_) rfl (by kernel_rfl) (by kernel_rfl) (by kernel_rfl) (by kernel_rfl) (fun _ _ _ h => h) (Or.inl ⟨by rfl, fun w _ => ?_⟩) ?_
    rotate_left
    · (go_simp; first | done | with_reducible rfl)
    try simp only [Act.put, List.setIfInBounds_toArray, List.set_cons_zero, List.set_cons_succ]
    refine wpAnyW_done (by kernel_rfl) ?_ _
    go_wp2
    all_goals go_ret2
    all_goals exact ⟨HW1.out.trans HB.out, .inl ⟨HALL.out, _, _, rfl, HSL.out⟩⟩
  · have HALL := hid hall
    clear hall
    go_enter Tryd.func9, Tryd.ntmps9
    go_wp2_with (first
      | (go_at_call 6; rw [HWE.out]; refine (check_fine m G _ _ _ N F (HOG.out.bw HW1.out) (HM.out.bw HW1.out) (fun w1 hb => HIF.out w1 (HW1.out.trans hb)) HFR.out HCD.out HN1.out HN2.out HY.out HN.out HF.out).mono ?_; rintro e w2 ⟨hb2, hc⟩; obtain ⟨j, hj, _, _, rfl⟩ := hc.elim id (fun h => absurd h.1 HALL.out); have HB := hid (show Bw W1 w2 from hb2); clear hb2)
      | fail)
    all_goals go_ret2
    all_goals exact ⟨HW1.out.trans HB.out, .inr ⟨HALL.out, rfl⟩⟩

end

end Go.Proofs.YtcljlmjcjfmppaaDoor
