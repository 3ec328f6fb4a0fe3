/- The document's function: the contract. -/
import Derived.Test.YtfhnhbpmiodomaaDoorEw
set_option linter.unusedVariables false
set_option linter.unusedSimpArgs false
namespace Go.Proofs.YtfhnhbpmiodomaaDoor
open Go Go.RowKit

theorem pl_b {n : Int} (h : pl n = true) : 0 ≤ n ∧ n ≤ 4611686018427387903 := of_decide_eq_true h
theorem sg_b {n : Int} (h : sg n = true) : -2305843009213693952 ≤ n ∧ n ≤ 2305843009213693951 := of_decide_eq_true h
theorem zz_b {n : Int} (h : sg n = true) : 0 ≤ zz n ∧ zz n ≤ 4611686018427387903 := by
  have := sg_b h
  unfold zz
  split <;> omega
theorem nbl {n : Int} (h : 0 ≤ n ∧ n ≤ 4611686018427387903) : (nb n.toNat).length ≤ 9 := nb9 h.1 h.2

theorem nblN {n : Nat} (h : 0 ≤ (n : Int) ∧ (n : Int) ≤ 4611686018427387903) : (nb n).length ≤ 9 := by have := nbl h; rwa [Int.toNat_natCast] at this

section
variable {w : World}

set_option maxRecDepth 100000 in
set_option maxHeartbeats 2000000 in
theorem rfun_any (x : MFn) (G : Nat → Prop) (ha : RFn w G x) (hp : oks (iFn x.f) = true) (hl : (byts (iFn x.f)).length ≤ 4194304) :
    Calls Tryd.prog 21 #[.agg #[.int .i64 x.f.params, .int .i64 x.f.slots, x.vb, x.vc, x.vo, x.vt]] w (BytP w (byts (iFn x.f))) := by
  obtain ⟨f, xb, xc, xo, xt⟩ := x
  obtain ⟨a1, c1, e1⟩ := ha.b.form
  obtain ⟨a2, c2, e2⟩ := ha.c.form
  obtain ⟨a3, c3, e3⟩ := ha.o.form
  obtain ⟨a4, c4, e4⟩ := ha.t.form
  simp only at e1 e2 e3 e4 hp hl ⊢
  subst e1 e2 e3 e4
  have HA := hid ha
  have HL := hid (fp_len hp hl)
  have HE := hid (fp_end hp)
  obtain ⟨o1, o2, o3, o4, o5, o6⟩ := oks_fn hp
  have HN1 := hid (pl_b o1)
  have HN2 := hid (pl_b o2)
  have HO3 := hid o3
  obtain ⟨bx, hbx⟩ : ∃ bx, byts (iL iN f.boxes) = bx := ⟨_, rfl⟩
  have HBX := hid hbx
  have HBL := hid (show bx.length ≤ 4194304 from by rw [← hbx]; exact HL.out.lb)
  clear hbx
  have HN4 := hid (pl_b (ok_iL o4).1)
  have HO4 := hid (ok_iL o4).2
  have HN5 := hid (pl_b (ok_iL o5).1)
  have HO5 := hid (ok_iL o5).2
  have HN6 := hid (pl_b (ok_iL o6).1)
  have HO6 := hid (ok_iL o6).2
  obtain ⟨W0, hW0⟩ : ∃ W0, W0 = (w.alloc (.cells #[.int .i64 f.params, .int .i64 f.slots, .slice a1 f.boxes.length c1, .slice a2 f.caps.length c2, .slice a3 f.code.length c3, .slice a4 f.tries.length c4] 47)) := ⟨_, rfl⟩
  have HWE := hid hW0
  have HSZ := hid (show W0.heap.size = (w.heap.size + 1) from by rw [hW0]; exact World.size_alloc _ _)
  have HW0 := hid (show Bw w W0 from by rw [hW0]; exact Bw.alloc (Bw.refl w) _)
  have HP := hid (show Blk W0 w.heap.size #[.int .i64 f.params, .int .i64 f.slots, .slice a1 f.boxes.length c1, .slice a2 f.caps.length c2, .slice a3 f.code.length c3, .slice a4 f.tries.length c4] 47 from by rw [hW0]; exact Blk.new w #[.int .i64 f.params, .int .i64 f.slots, .slice a1 f.boxes.length c1, .slice a2 f.caps.length c2, .slice a3 f.code.length c3, .slice a4 f.tries.length c4] 47)
  clear hW0
  have l2 : f.caps.length ≤ 9223372036854775807 := by have := ha.c.2.2.1; unfold maxLen at this; simp only at this; omega
  have l3 : f.code.length ≤ 9223372036854775807 := by have := ha.o.2.2.1; unfold maxLen at this; simp only at this; omega
  have l4 : f.tries.length ≤ 9223372036854775807 := by have := ha.t.2.2.1; unfold maxLen at this; simp only at this; omega
  have FS := hid (show ∀ w', Bw W0 w' → w'.cell? ⟨w.heap.size, 0, none⟩ = some (.int .i64 f.params) ∧ w'.cell? ⟨w.heap.size, 1, none⟩ = some (.int .i64 f.slots) from fun w' hb => ⟨(HP.out.bw hb).cell 0, (HP.out.bw hb).cell 1⟩)
  have HBS := hid (show ∀ w', Bw W0 w' → (w.heap.size + 1) ≤ w'.heap.size from fun w' hb => by have := hb.size; rw [HSZ.out] at this; exact this)
  clear ha hp hl o1 o2 o3 o4 o5 o6
  go_enter Tryd.func21, Tryd.ntmps21
  go_upto_region 1 with fail
  refine wp_region_W (fun w' => w'.cell? ⟨w.heap.size, 0, none⟩ = some (.int .i64 f.params) ∧ w'.cell? ⟨w.heap.size, 1, none⟩ = some (.int .i64 f.slots)) (fun j => if j == 2 || j == 5 || j == 6 then 0 else 1) (by kernel_rfl) ?_
  refine wpAnyW_take (i := 0) (oi := { dst := some 9, op := Op.fieldAddr 47 (Operand.tmp 1) 0, type := 0, pos := "ref.go:121", after := #[], guard := none }) (v := ?_) rfl (by kernel_rfl) (by kernel_rfl) (by kernel_rfl) (by kernel_rfl) (fun _ _ _ h => h) (Or.inl ⟨by rfl, fun w _ => ?_⟩) ?_
  rotate_left
  · (go_simp; first | done | with_reducible rfl)
  try simp only [Act.put, List.setIfInBounds_toArray, List.set_cons_zero, List.set_cons_succ]
  refine wpAnyW_load (i := 1) (oi := { dst := some 10, op := Op.load 3 (Operand.tmp 9), type := 3, pos := "ref.go:121", after := #[{ on := 0, ground := Ground.data }], guard := none }) (v := ?_) rfl (by kernel_rfl) (by kernel_rfl) (by kernel_rfl) (by kernel_rfl) (by kernel_rfl) (fun _ _ _ h => h) (Or.inl ⟨by rfl, fun w hS => ?_⟩) (FS.out _ (by rw [HWE.out]; repeat (first | exact Bw.refl _ | apply Bw.alloc | apply Bw.drewN | apply Bw.drew))) ?_
  rotate_left
  · (obtain ⟨s0, s1⟩ := hS; go_simp; first | done | with_reducible rfl)
  try simp only [Act.put, List.setIfInBounds_toArray, List.set_cons_zero, List.set_cons_succ]
  refine wpAnyW_take (i := 3) (oi := { dst := some 12, op := Op.fieldAddr 47 (Operand.tmp 1) 1, type := 0, pos := "ref.go:121", after := #[], guard := none }) (v := ?_) rfl (by kernel_rfl) (by kernel_rfl) (by kernel_rfl) (by kernel_rfl) (fun _ _ _ h => h) (Or.inl ⟨by rfl, fun w _ => ?_⟩) ?_
  rotate_left
  · (go_simp; first | done | with_reducible rfl)
  try simp only [Act.put, List.setIfInBounds_toArray, List.set_cons_zero, List.set_cons_succ]
  refine wpAnyW_load (i := 4) (oi := { dst := some 13, op := Op.load 3 (Operand.tmp 12), type := 3, pos := "ref.go:121", after := #[{ on := 3, ground := Ground.data }], guard := none }) (v := ?_) rfl (by kernel_rfl) (by kernel_rfl) (by kernel_rfl) (by kernel_rfl) (by kernel_rfl) (fun _ _ _ h => h) (Or.inl ⟨by rfl, fun w hS => ?_⟩) (FS.out _ (by rw [HWE.out]; repeat (first | exact Bw.refl _ | apply Bw.alloc | apply Bw.drewN | apply Bw.drew))) ?_
  rotate_left
  · (obtain ⟨s0, s1⟩ := hS; go_simp; first | done | with_reducible rfl)
  try simp only [Act.put, List.setIfInBounds_toArray, List.set_cons_zero, List.set_cons_succ]
  refine wpAnyW_ready (rs := [2]) (by kernel_rfl) (by simp) ?_
  refine (AllReadyW.cons (o := { dst := some 11, op := Op.call { callee := Callee.value (Operand.func 19), args := #[Operand.tmp 10], argTypes := #[3] }, type := 29, pos := "ref.go:121", after := #[{ on := 1, ground := Ground.data }], guard := none }) rfl (fun K hK => ?_) AllReadyW.nil)
  go_simp
  refine (rnumber_any _ f.params _ (Nat.le_refl _) HN1.out.1 HN1.out.2).mono ?_
  rintro e w1 ⟨v1, rfl, ho1, hb1⟩
  have HB1 := hid (show Bw W0 w1 from Bw.trans (by rw [HWE.out]; repeat (first | exact Bw.refl _ | apply Bw.alloc | apply Bw.drewN | apply Bw.drew)) hb1)
  have HR1 := hid (OwnB.low (show OwnB w1 _ v1 (nb f.params.toNat) from ho1) (HBS.out _ (by rw [HWE.out]; repeat (first | exact Bw.refl _ | apply Bw.alloc | apply Bw.drewN | apply Bw.drew))))
  obtain ⟨av1, cv1, ev⟩ := HR1.out.form
  subst ev
  clear ho1 hb1
  refine hK.out _ _ (FS.out _ HB1.out) ?_
  clear hK K
  try simp only [Act.put, List.setIfInBounds_toArray, List.set_cons_zero, List.set_cons_succ]
  refine wpAnyW_ready (rs := [5]) (by kernel_rfl) (by simp) ?_
  refine (AllReadyW.cons (o := { dst := some 14, op := Op.call { callee := Callee.value (Operand.func 19), args := #[Operand.tmp 13], argTypes := #[3] }, type := 29, pos := "ref.go:121", after := #[{ on := 4, ground := Ground.data }, { on := 2, ground := Ground.chain }], guard := none }) rfl (fun K hK => ?_) AllReadyW.nil)
  go_simp
  refine (rnumber_any _ f.slots _ (Nat.le_refl _) HN2.out.1 HN2.out.2).mono ?_
  rintro e w2 ⟨v2, rfl, ho2, hb2⟩
  have HB2 := hid (show Bw W0 w2 from HB1.out.trans hb2)
  have HR2 := hid (HR1.out.bw hb2)
  have HQ2 := hid (show OwnB w2 _ v2 (nb f.slots.toNat) from ho2)
  obtain ⟨av2, cv2, ev⟩ := HQ2.out.form
  subst ev
  clear ho2 hb2
  refine hK.out _ _ (FS.out _ HB2.out) ?_
  clear hK K
  try simp only [Act.put, List.setIfInBounds_toArray, List.set_cons_zero, List.set_cons_succ]
  refine wpAnyW_ready (rs := [6]) (by kernel_rfl) (by simp) ?_
  refine (AllReadyW.cons (o := { dst := some 15, op := Op.call { callee := Callee.builtin Builtin.append, args := #[Operand.tmp 11, Operand.tmp 14], argTypes := #[29, 29] }, type := 29, pos := "ref.go:121", after := #[{ on := 2, ground := Ground.data }, { on := 5, ground := Ground.data }, { on := 5, ground := Ground.chain }], guard := none }) rfl (fun K hK => ?_) AllReadyW.nil)
  refine step_appB (by rfl) (.tmp 11) (.tmp 14) (by rfl) (w.heap.size + 1) (.slice av1 (nb f.params.toNat).length cv1) (nb f.params.toNat) (by rfl) HR2.out (.slice av2 (nb f.slots.toNat).length cv2) (nb f.slots.toNat) (by rfl) HQ2.out.sl (by have := nbl HN1.out; have := nbl HN2.out; omega) (HBS.out _ HB2.out) ?_
  intro v3 w3 ho3 hg3
  have HB3 := hid (HR2.out.grown HB2.out (by rw [HSZ.out]; exact Nat.le_refl _) hg3)
  have HR3 := hid (show OwnB w3 _ v3 (fp0 f) from ho3)
  obtain ⟨av3, cv3, ev⟩ := HR3.out.form
  subst ev
  clear ho3 hg3
  refine hK.out _ _ (FS.out _ HB3.out) ?_
  clear hK K
  try simp only [Act.put, List.setIfInBounds_toArray, List.set_cons_zero, List.set_cons_succ]
  refine wpAnyW_take (i := 7) (oi := { dst := some 3, op := Op.assign (Operand.tmp 15), type := 29, pos := "ref.go:121", after := #[{ on := 6, ground := Ground.data }, { on := 6, ground := Ground.chain }, { on := 0, ground := Ground.phase }, { on := 1, ground := Ground.phase }, { on := 2, ground := Ground.phase }, { on := 3, ground := Ground.phase }, { on := 4, ground := Ground.phase }, { on := 5, ground := Ground.phase }, { on := 6, ground := Ground.phase }], guard := none }) (v := ?_) rfl (by kernel_rfl) (by kernel_rfl) (by kernel_rfl) (by kernel_rfl) (fun _ _ _ h => h) (Or.inl ⟨by rfl, fun w _ => ?_⟩) ?_
  rotate_left
  · (go_simp; first | done | with_reducible rfl)
  try simp only [Act.put, List.setIfInBounds_toArray, List.set_cons_zero, List.set_cons_succ]
  refine wpAnyW_done (by kernel_rfl) ?_ _
  clear HR1 HR2 HQ2 HB1 HB2 FS
  have u := (HP.out.bw HB3.out).cell
  have ul := (HP.out.bw HB3.out).lt
  go_wp2_with (first
    | (go_at_call 20; refine (rlist_any _ f.boxes G (HA.out.b.bw (HW0.out.trans (HB3.out.trans (by repeat (first | exact Bw.refl _ | apply Bw.alloc | apply Bw.drewN | apply Bw.drew))))) HO3.out HL.out.lb).mono ?_; rintro e w4 ⟨v4, rfl, ho, hb⟩; rw [HBX.out] at ho; have HB4 := hid (show Bw W0 w4 from HB3.out.trans (Bw.trans (by repeat (first | exact Bw.refl _ | apply Bw.alloc | apply Bw.drewN | apply Bw.drew)) hb)); have HQ4 := hid (show OwnB w4 _ v4 bx from ho); obtain ⟨av4, cv4, ev⟩ := HQ4.out.form; subst ev; have HR4 := hid (HR3.out.bw (Bw.trans (by repeat (first | exact Bw.refl _ | apply Bw.alloc | apply Bw.drewN | apply Bw.drew)) hb)); clear ho hb)
    | (at_builtin; (fail_if_success (have _q := HR5)); refine wpList_appB rfl _ _ rfl (w.heap.size + 1) (.slice av3 (fp0 f).length cv3) ((fp0 f)) rfl HR4.out (.slice av4 (bx).length cv4) (bx) rfl HQ4.out.sl (by have := HL.out.l0; have := HBL.out; omega) (HBS.out _ HB4.out) ?_; intro v5 w5 ho hg; have HB5 := hid (HR4.out.grown HB4.out (by rw [HSZ.out]; exact Nat.le_refl _) hg); have HR5 := hid (show OwnB w5 _ v5 (fp1 f) from by unfold fp1; rw [HBX.out]; exact ho); obtain ⟨av5, cv5, ev⟩ := HR5.out.form; subst ev; have u := (HP.out.bw HB5.out).cell; have ul := (HP.out.bw HB5.out).lt; clear ho hg)
    | (go_at_call_of 19 (Value.int .i64 (f.caps.length : Nat)); refine (rnumber_any _ (f.caps.length : Nat) _ (Nat.le_refl _) HN4.out.1 HN4.out.2).mono ?_; rintro e w6 ⟨v6, rfl, ho, hb⟩; have HB6 := hid (show Bw W0 w6 from HB5.out.trans (Bw.trans (by repeat (first | exact Bw.refl _ | apply Bw.alloc | apply Bw.drewN | apply Bw.drew)) hb)); have HQ6 := hid (show OwnB w6 _ v6 (nb f.caps.length) from by rw [Int.toNat_natCast] at ho; exact ho); obtain ⟨av6, cv6, ev⟩ := HQ6.out.form; subst ev; have HR6 := hid (HR5.out.bw (Bw.trans (by repeat (first | exact Bw.refl _ | apply Bw.alloc | apply Bw.drewN | apply Bw.drew)) hb)); clear ho hb)
    | (at_builtin; refine wpList_appB rfl _ _ rfl (w.heap.size + 1) (.slice av5 (fp1 f).length cv5) ((fp1 f)) rfl HR6.out (.slice av6 (nb f.caps.length).length cv6) (nb f.caps.length) rfl HQ6.out.sl (by have := HL.out.l1; have := nblN HN4.out; omega) (HBS.out _ HB6.out) ?_; intro v7 w7 ho hg; have HB7 := hid (HR6.out.grown HB6.out (by rw [HSZ.out]; exact Nat.le_refl _) hg); have HR7 := hid (show OwnB w7 _ v7 (fp2 f) from ho); obtain ⟨av7, cv7, ev⟩ := HR7.out.form; subst ev; have u := (HP.out.bw HB7.out).cell; have ul := (HP.out.bw HB7.out).lt; clear ho hg)
    | fail)
  go_loopw [3, 4] (fun b j wr => ∃ i, i ≤ f.caps.length ∧ j = .int .i64 (i : Nat) ∧ OwnB wr (w.heap.size + 1) b (fp3 f i) ∧ Bw W0 wr) (fun _ j _ => f.caps.length - (intOf j).toNat)
  case atStart => exact ⟨0, Nat.zero_le _, rfl, HR7.out.of (by unfold fp3; simp), HB7.out⟩
  case round =>
    obtain ⟨i, hi, rfl, ho, hbw⟩ := hrel
    have HB20 := hid hbw
    have HR20 := hid ho
    obtain ⟨av20, cv20, ev⟩ := HR20.out.form
    subst ev
    have u := (HP.out.bw hbw).cell
    have ul := (HP.out.bw hbw).lt
    clear ho
    by_cases hlt : i < f.caps.length
    · obtain ⟨g1, o1, d1, e1, _, hg1, _, x⟩ := (HA.out.c.bw HW0.out).parts hlt (by decide)
      cases e1
      have x0 := x 0 (by decide)
      have x1 := x 1 (by decide)
      simp only [Nat.add_zero, ← Nat.add_assoc, capC, List.getElem?_cons_zero, List.getElem?_cons_succ] at x0 x1
      have hlt2 : (i : Int) < (f.caps.length : Int) := by omega
      have HOK := hid (HO4.out _ (List.getElem_mem hlt))
      have HST := hid (fun (a b1 : Int) (h1 : f.caps[i] = (a, b1)) (h2 : oks (iCap (a, b1)) = true) => fp3_step hlt h1 h2)
      generalize f.caps[i] = p at x0 x1 HOK HST
      obtain ⟨n0, n1⟩ := p
      simp only at x0 x1
      have HS2 := hid (HST.out _ _ rfl HOK.out)
      clear HST HOK
      have HM0 := hid (pl_b HS2.out.1.1)
      have HK0 := hid (nbl (pl_b HS2.out.1.1))
      have HM1 := hid (pl_b HS2.out.1.2)
      have HK1 := hid (nbl (pl_b HS2.out.1.2))
      have FS := hid (show ∀ w', Bw W0 w' → w'.cell? ⟨w.heap.size, 3, none⟩ = some (.slice (some ⟨g1, o1, none⟩) f.caps.length c2) ∧ w'.cell? ⟨g1, o1 + i * 2, none⟩ = some (.int .i64 n0) ∧ w'.cell? ⟨g1, o1 + i * 2 + 1, none⟩ = some (.int .i64 n1) from fun w' hb => ⟨(HP.out.bw hb).cell 3, by rw [← x0]; exact World.cell?_of_block (w := W0) (w' := w') (hb.block g1 hg1), by rw [← x1]; exact World.cell?_of_block (w := W0) (w' := w') (hb.block g1 hg1)⟩)
      clear x hbw x0 x1
      go_upto_region 7 with fail
      refine wp_region_W (fun w' => w'.cell? ⟨w.heap.size, 3, none⟩ = some (.slice (some ⟨g1, o1, none⟩) f.caps.length c2) ∧ w'.cell? ⟨g1, o1 + i * 2, none⟩ = some (.int .i64 n0) ∧ w'.cell? ⟨g1, o1 + i * 2 + 1, none⟩ = some (.int .i64 n1)) (fun j => if j == 7 || j == 8 || j == 15 || j == 16 then 0 else 1) (by kernel_rfl) ?_
      refine wpAnyW_take (i := 0) (oi := { dst := some 34, op := Op.move (Operand.tmp 3), type := 29, pos := "ref.go:125", after := #[], guard := none }) (v := ?_) rfl (by kernel_rfl) (by kernel_rfl) (by kernel_rfl) (by kernel_rfl) (fun _ _ _ h => h) (Or.inl ⟨by rfl, fun w _ => ?_⟩) ?_
      rotate_left
      · (go_simp; first | done | with_reducible rfl)
      try simp only [Act.put, List.setIfInBounds_toArray, List.set_cons_zero, List.set_cons_succ]
      refine wpAnyW_take (i := 1) (oi := { dst := some 35, op := Op.fieldAddr 47 (Operand.tmp 1) 3, type := 0, pos := "ref.go:125", after := #[], guard := none }) (v := ?_) rfl (by kernel_rfl) (by kernel_rfl) (by kernel_rfl) (by kernel_rfl) (fun _ _ _ h => h) (Or.inl ⟨by rfl, fun w _ => ?_⟩) ?_
      rotate_left
      · (go_simp; first | done | with_reducible rfl)
      try simp only [Act.put, List.setIfInBounds_toArray, List.set_cons_zero, List.set_cons_succ]
      refine wpAnyW_load (i := 2) (oi := { dst := some 36, op := Op.load 43 (Operand.tmp 35), type := 43, pos := "ref.go:125", after := #[{ on := 1, ground := Ground.data }], guard := none }) (v := ?_) rfl (by kernel_rfl) (by kernel_rfl) (by kernel_rfl) (by kernel_rfl) (by kernel_rfl) (fun _ _ _ h => h) (Or.inl ⟨by rfl, fun w hS => ?_⟩) (FS.out _ (HB20.out.trans (by repeat (first | exact Bw.refl _ | apply Bw.alloc | apply Bw.drewN | apply Bw.drew)))) ?_
      rotate_left
      · (obtain ⟨s0, s1, s2⟩ := hS; go_simp; first | done | with_reducible rfl)
      try simp only [Act.put, List.setIfInBounds_toArray, List.set_cons_zero, List.set_cons_succ]
      refine wpAnyW_take (i := 3) (oi := { dst := some 37, op := Op.move (Operand.tmp 4), type := 3, pos := "ref.go:125", after := #[], guard := none }) (v := ?_) rfl (by kernel_rfl) (by kernel_rfl) (by kernel_rfl) (by kernel_rfl) (fun _ _ _ h => h) (Or.inl ⟨by rfl, fun w _ => ?_⟩) ?_
      rotate_left
      · (go_simp; first | done | with_reducible rfl)
      try simp only [Act.put, List.setIfInBounds_toArray, List.set_cons_zero, List.set_cons_succ]
      refine wpAnyW_take (i := 4) (oi := { dst := some 38, op := Op.indexAddr 43 (Operand.tmp 36) (Operand.tmp 37), type := 0, pos := "ref.go:125", after := #[{ on := 2, ground := Ground.data }, { on := 3, ground := Ground.data }], guard := none }) (v := ?_) rfl (by kernel_rfl) (by kernel_rfl) (by kernel_rfl) (by kernel_rfl) (fun _ _ _ h => h) (Or.inl ⟨by rfl, fun w _ => ?_⟩) ?_
      rotate_left
      · (go_simp; first | done | with_reducible rfl)
      try simp only [Act.put, List.setIfInBounds_toArray, List.set_cons_zero, List.set_cons_succ]
      refine wpAnyW_take (i := 5) (oi := { dst := some 39, op := Op.fieldAddr 90 (Operand.tmp 38) 0, type := 0, pos := "ref.go:125", after := #[{ on := 4, ground := Ground.data }], guard := none }) (v := ?_) rfl (by kernel_rfl) (by kernel_rfl) (by kernel_rfl) (by kernel_rfl) (fun _ _ _ h => h) (Or.inl ⟨by rfl, fun w _ => ?_⟩) ?_
      rotate_left
      · (go_simp; first | done | with_reducible rfl)
      try simp only [Act.put, List.setIfInBounds_toArray, List.set_cons_zero, List.set_cons_succ]
      refine wpAnyW_load (i := 6) (oi := { dst := some 40, op := Op.load 3 (Operand.tmp 39), type := 3, pos := "ref.go:125", after := #[{ on := 5, ground := Ground.data }], guard := none }) (v := ?_) rfl (by kernel_rfl) (by kernel_rfl) (by kernel_rfl) (by kernel_rfl) (by kernel_rfl) (fun _ _ _ h => h) (Or.inl ⟨by rfl, fun w hS => ?_⟩) (FS.out _ (HB20.out.trans (by repeat (first | exact Bw.refl _ | apply Bw.alloc | apply Bw.drewN | apply Bw.drew)))) ?_
      rotate_left
      · (obtain ⟨s0, s1, s2⟩ := hS; go_simp; first | done | with_reducible rfl)
      try simp only [Act.put, List.setIfInBounds_toArray, List.set_cons_zero, List.set_cons_succ]
      refine wpAnyW_take (i := 9) (oi := { dst := some 43, op := Op.fieldAddr 47 (Operand.tmp 1) 3, type := 0, pos := "ref.go:125", after := #[], guard := none }) (v := ?_) rfl (by kernel_rfl) (by kernel_rfl) (by kernel_rfl) (by kernel_rfl) (fun _ _ _ h => h) (Or.inl ⟨by rfl, fun w _ => ?_⟩) ?_
      rotate_left
      · (go_simp; first | done | with_reducible rfl)
      try simp only [Act.put, List.setIfInBounds_toArray, List.set_cons_zero, List.set_cons_succ]
      refine wpAnyW_load (i := 10) (oi := { dst := some 44, op := Op.load 43 (Operand.tmp 43), type := 43, pos := "ref.go:125", after := #[{ on := 9, ground := Ground.data }], guard := none }) (v := ?_) rfl (by kernel_rfl) (by kernel_rfl) (by kernel_rfl) (by kernel_rfl) (by kernel_rfl) (fun _ _ _ h => h) (Or.inl ⟨by rfl, fun w hS => ?_⟩) (FS.out _ (HB20.out.trans (by repeat (first | exact Bw.refl _ | apply Bw.alloc | apply Bw.drewN | apply Bw.drew)))) ?_
      rotate_left
      · (obtain ⟨s0, s1, s2⟩ := hS; go_simp; first | done | with_reducible rfl)
      try simp only [Act.put, List.setIfInBounds_toArray, List.set_cons_zero, List.set_cons_succ]
      refine wpAnyW_take (i := 11) (oi := { dst := some 45, op := Op.move (Operand.tmp 4), type := 3, pos := "ref.go:125", after := #[], guard := none }) (v := ?_) rfl (by kernel_rfl) (by kernel_rfl) (by kernel_rfl) (by kernel_rfl) (fun _ _ _ h => h) (Or.inl ⟨by rfl, fun w _ => ?_⟩) ?_
      rotate_left
      · (go_simp; first | done | with_reducible rfl)
      try simp only [Act.put, List.setIfInBounds_toArray, List.set_cons_zero, List.set_cons_succ]
      refine wpAnyW_take (i := 12) (oi := { dst := some 46, op := Op.indexAddr 43 (Operand.tmp 44) (Operand.tmp 45), type := 0, pos := "ref.go:125", after := #[{ on := 10, ground := Ground.data }, { on := 11, ground := Ground.data }], guard := none }) (v := ?_) rfl (by kernel_rfl) (by kernel_rfl) (by kernel_rfl) (by kernel_rfl) (fun _ _ _ h => h) (Or.inl ⟨by rfl, fun w _ => ?_⟩) ?_
      rotate_left
      · (go_simp; first | done | with_reducible rfl)
      try simp only [Act.put, List.setIfInBounds_toArray, List.set_cons_zero, List.set_cons_succ]
      refine wpAnyW_take (i := 13) (oi := { dst := some 47, op := Op.fieldAddr 90 (Operand.tmp 46) 1, type := 0, pos := "ref.go:125", after := #[{ on := 12, ground := Ground.data }], guard := none }) (v := ?_) rfl (by kernel_rfl) (by kernel_rfl) (by kernel_rfl) (by kernel_rfl) (fun _ _ _ h => h) (Or.inl ⟨by rfl, fun w _ => ?_⟩) ?_
      rotate_left
      · (go_simp; first | done | with_reducible rfl)
      try simp only [Act.put, List.setIfInBounds_toArray, List.set_cons_zero, List.set_cons_succ]
      refine wpAnyW_load (i := 14) (oi := { dst := some 48, op := Op.load 3 (Operand.tmp 47), type := 3, pos := "ref.go:125", after := #[{ on := 13, ground := Ground.data }], guard := none }) (v := ?_) rfl (by kernel_rfl) (by kernel_rfl) (by kernel_rfl) (by kernel_rfl) (by kernel_rfl) (fun _ _ _ h => h) (Or.inl ⟨by rfl, fun w hS => ?_⟩) (FS.out _ (HB20.out.trans (by repeat (first | exact Bw.refl _ | apply Bw.alloc | apply Bw.drewN | apply Bw.drew)))) ?_
      rotate_left
      · (obtain ⟨s0, s1, s2⟩ := hS; go_simp; first | done | with_reducible rfl)
      try simp only [Act.put, List.setIfInBounds_toArray, List.set_cons_zero, List.set_cons_succ]
      refine wpAnyW_ready (rs := [7]) (by kernel_rfl) (by simp) ?_
      refine (AllReadyW.cons (o := { dst := some 41, op := Op.call { callee := Callee.value (Operand.func 19), args := #[Operand.tmp 40], argTypes := #[3] }, type := 29, pos := "ref.go:125", after := #[{ on := 6, ground := Ground.data }], guard := none }) rfl (fun K hK => ?_) AllReadyW.nil)
      go_simp
      refine (rnumber_any _ n0 _ (Nat.le_refl _) HM0.out.1 HM0.out.2).mono ?_
      rintro e w21 ⟨v21, rfl, ho, hb⟩
      have HB21 := hid (show Bw W0 w21 from (HB20.out.trans (Bw.trans (by repeat (first | exact Bw.refl _ | apply Bw.alloc | apply Bw.drewN | apply Bw.drew)) hb)))
      have HR21 := hid (HR20.out.bw (show Bw wr w21 from Bw.trans (by repeat (first | exact Bw.refl _ | apply Bw.alloc | apply Bw.drewN | apply Bw.drew)) hb))
      have HQ21 := hid (show OwnB w21 _ v21 (nb n0.toNat) from ho)
      obtain ⟨av21, cv21, ev⟩ := HQ21.out.form
      subst ev
      clear ho hb
      refine hK.out _ _ (FS.out _ HB21.out) ?_
      clear hK K
      try simp only [Act.put, List.setIfInBounds_toArray, List.set_cons_zero, List.set_cons_succ]
      refine wpAnyW_ready (rs := [8]) (by kernel_rfl) (by simp) ?_
      refine (AllReadyW.cons (o := { dst := some 42, op := Op.call { callee := Callee.builtin Builtin.append, args := #[Operand.tmp 34, Operand.tmp 41], argTypes := #[29, 29] }, type := 29, pos := "ref.go:125", after := #[{ on := 0, ground := Ground.data }, { on := 7, ground := Ground.data }, { on := 7, ground := Ground.chain }], guard := none }) rfl (fun K hK => ?_) AllReadyW.nil)
      refine step_appB (by rfl) (.tmp 34) (.tmp 41) (by rfl) (w.heap.size + 1) (.slice av20 (fp3 f i).length cv20) (fp3 f i) (by rfl) HR21.out (.slice av21 (nb n0.toNat).length cv21) (nb n0.toNat) (by rfl) HQ21.out.sl (by have := HL.out.l3 i; have := HK0.out; omega) (HBS.out _ HB21.out) ?_
      intro v22 w22 ho hg
      have HB22 := hid (HR21.out.grown HB21.out (by rw [HSZ.out]; exact Nat.le_refl _) hg)
      obtain ⟨R22, hr⟩ : ∃ R, (fp3 f i ++ nb n0.toNat) = R := ⟨_, rfl⟩
      rw [hr] at ho
      have HX22 := hid hr
      have HXL22 := hid (show R22.length ≤ 4194304 + 9 from by rw [← hr, List.length_append]; have := HK0.out; have := HL.out.l3 i; omega)
      clear hr
      have HR22 := hid (show OwnB w22 _ v22 R22 from ho)
      obtain ⟨av22, cv22, ev⟩ := HR22.out.form
      subst ev
      clear ho hg
      refine hK.out _ _ (FS.out _ HB22.out) ?_
      clear hK K
      try simp only [Act.put, List.setIfInBounds_toArray, List.set_cons_zero, List.set_cons_succ]
      refine wpAnyW_ready (rs := [15]) (by kernel_rfl) (by simp) ?_
      refine (AllReadyW.cons (o := { dst := some 49, op := Op.call { callee := Callee.value (Operand.func 19), args := #[Operand.tmp 48], argTypes := #[3] }, type := 29, pos := "ref.go:125", after := #[{ on := 14, ground := Ground.data }, { on := 8, ground := Ground.chain }], guard := none }) rfl (fun K hK => ?_) AllReadyW.nil)
      go_simp
      refine (rnumber_any _ n1 _ (Nat.le_refl _) HM1.out.1 HM1.out.2).mono ?_
      rintro e w23 ⟨v23, rfl, ho, hb⟩
      have HB23 := hid (show Bw W0 w23 from (HB22.out.trans (Bw.trans (by repeat (first | exact Bw.refl _ | apply Bw.alloc | apply Bw.drewN | apply Bw.drew)) hb)))
      have HR23 := hid (HR22.out.bw (show Bw w22 w23 from Bw.trans (by repeat (first | exact Bw.refl _ | apply Bw.alloc | apply Bw.drewN | apply Bw.drew)) hb))
      have HQ23 := hid (show OwnB w23 _ v23 (nb n1.toNat) from ho)
      obtain ⟨av23, cv23, ev⟩ := HQ23.out.form
      subst ev
      clear ho hb
      refine hK.out _ _ (FS.out _ HB23.out) ?_
      clear hK K
      try simp only [Act.put, List.setIfInBounds_toArray, List.set_cons_zero, List.set_cons_succ]
      refine wpAnyW_ready (rs := [16]) (by kernel_rfl) (by simp) ?_
      refine (AllReadyW.cons (o := { dst := some 50, op := Op.call { callee := Callee.builtin Builtin.append, args := #[Operand.tmp 42, Operand.tmp 49], argTypes := #[29, 29] }, type := 29, pos := "ref.go:125", after := #[{ on := 8, ground := Ground.data }, { on := 15, ground := Ground.data }, { on := 15, ground := Ground.chain }], guard := none }) rfl (fun K hK => ?_) AllReadyW.nil)
      refine step_appB (by rfl) (.tmp 42) (.tmp 49) (by rfl) (w.heap.size + 1) (.slice av22 (R22).length cv22) (R22) (by rfl) HR23.out (.slice av23 (nb n1.toNat).length cv23) (nb n1.toNat) (by rfl) HQ23.out.sl (by have := HXL22.out; have := HK1.out; omega) (HBS.out _ HB23.out) ?_
      intro v24 w24 ho hg
      have HB24 := hid (HR23.out.grown HB23.out (by rw [HSZ.out]; exact Nat.le_refl _) hg)
      obtain ⟨R24, hr⟩ : ∃ R, (R22 ++ nb n1.toNat) = R := ⟨_, rfl⟩
      rw [hr] at ho
      have HX24 := hid hr
      have HXL24 := hid (show R24.length ≤ 4194304 + 18 from by rw [← hr, List.length_append]; have := HK1.out; have := HXL22.out; omega)
      clear hr
      have HR24 := hid (show OwnB w24 _ v24 R24 from ho)
      obtain ⟨av24, cv24, ev⟩ := HR24.out.form
      subst ev
      clear ho hg
      refine hK.out _ _ (FS.out _ HB24.out) ?_
      clear hK K
      try simp only [Act.put, List.setIfInBounds_toArray, List.set_cons_zero, List.set_cons_succ]
      refine wpAnyW_take (i := 17) (oi := { dst := some 3, op := Op.assign (Operand.tmp 50), type := 29, pos := "ref.go:125", after := #[{ on := 16, ground := Ground.data }, { on := 16, ground := Ground.chain }, { on := 0, ground := Ground.phase }, { on := 1, ground := Ground.phase }, { on := 2, ground := Ground.phase }, { on := 3, ground := Ground.phase }, { on := 4, ground := Ground.phase }, { on := 5, ground := Ground.phase }, { on := 6, ground := Ground.phase }, { on := 7, ground := Ground.phase }, { on := 8, ground := Ground.phase }, { on := 9, ground := Ground.phase }, { on := 10, ground := Ground.phase }, { on := 11, ground := Ground.phase }, { on := 12, ground := Ground.phase }, { on := 13, ground := Ground.phase }, { on := 14, ground := Ground.phase }, { on := 15, ground := Ground.phase }, { on := 16, ground := Ground.phase }], guard := none }) (v := ?_) rfl (by kernel_rfl) (by kernel_rfl) (by kernel_rfl) (by kernel_rfl) (fun _ _ _ h => h) (Or.inl ⟨by rfl, fun w _ => ?_⟩) ?_
      rotate_left
      · (go_simp; first | done | with_reducible rfl)
      try simp only [Act.put, List.setIfInBounds_toArray, List.set_cons_zero, List.set_cons_succ]
      refine wpAnyW_done (by kernel_rfl) ?_ _
      go_wp2
      go_roundw
      case rel => exact ⟨i + 1, by omega, by go_num, HR24.out.of (by rw [← HX24.out, ← HX22.out]; exact HS2.out.2), HB24.out⟩
      case measure => simp [intOf]; omega
    · obtain rfl : i = f.caps.length := by omega
      clear hbw
      go_wp2_with (first
        | (go_at_call_of 19 (Value.int .i64 (f.code.length : Nat)); refine (rnumber_any _ (f.code.length : Nat) _ (Nat.le_refl _) HN5.out.1 HN5.out.2).mono ?_; rintro e w26 ⟨v26, rfl, ho, hb⟩; have HB26 := hid (show Bw W0 w26 from HB20.out.trans (Bw.trans (by repeat (first | exact Bw.refl _ | apply Bw.alloc | apply Bw.drewN | apply Bw.drew)) hb)); have HQ26 := hid (show OwnB w26 _ v26 (nb f.code.length) from by rw [Int.toNat_natCast] at ho; exact ho); obtain ⟨av26, cv26, ev⟩ := HQ26.out.form; subst ev; have HR26 := hid (HR20.out.bw (Bw.trans (by repeat (first | exact Bw.refl _ | apply Bw.alloc | apply Bw.drewN | apply Bw.drew)) hb)); clear ho hb)
        | (at_builtin; refine wpList_appB rfl _ _ rfl (w.heap.size + 1) (.slice av20 (fp3 f f.caps.length).length cv20) ((fp3 f f.caps.length)) rfl HR26.out (.slice av26 (nb f.code.length).length cv26) (nb f.code.length) rfl HQ26.out.sl (by have := HL.out.l3 f.caps.length; have := nblN HN5.out; omega) (HBS.out _ HB26.out) ?_; intro v27 w27 ho hg; have HB27 := hid (HR26.out.grown HB26.out (by rw [HSZ.out]; exact Nat.le_refl _) hg); have HR27 := hid (show OwnB w27 _ v27 (fp4 f) from ho); obtain ⟨av27, cv27, ev⟩ := HR27.out.form; subst ev; have u := (HP.out.bw HB27.out).cell; have ul := (HP.out.bw HB27.out).lt; clear ho hg)
        | fail)
      go_loopw [3, 5] (fun b j wr => ∃ i, i ≤ f.code.length ∧ j = .int .i64 (i : Nat) ∧ OwnB wr (w.heap.size + 1) b (fp5 f i) ∧ Bw W0 wr) (fun _ j _ => f.code.length - (intOf j).toNat)
      case atStart => exact ⟨0, Nat.zero_le _, rfl, HR27.out.of (by unfold fp5; simp), HB27.out⟩
      case round =>
        obtain ⟨i, hi, rfl, ho, hbw⟩ := hrel
        have HB20 := hid hbw
        have HR20 := hid ho
        obtain ⟨av20, cv20, ev⟩ := HR20.out.form
        subst ev
        have u := (HP.out.bw hbw).cell
        have ul := (HP.out.bw hbw).lt
        clear ho
        by_cases hlt : i < f.code.length
        · obtain ⟨g1, o1, d1, e1, _, hg1, _, x⟩ := (HA.out.o.bw HW0.out).parts hlt (by decide)
          cases e1
          have x0 := x 0 (by decide)
          have x1 := x 1 (by decide)
          have x2 := x 2 (by decide)
          simp only [Nat.add_zero, ← Nat.add_assoc, insC, List.getElem?_cons_zero, List.getElem?_cons_succ] at x0 x1 x2
          have hlt2 : (i : Int) < (f.code.length : Int) := by omega
          have HOK := hid (HO5.out _ (List.getElem_mem hlt))
          have HST := hid (fun (a b1 b2 : Int) (h1 : f.code[i] = (a, b1, b2)) (h2 : oks (iIns (a, b1, b2)) = true) => fp5_step hlt h1 h2)
          generalize f.code[i] = p at x0 x1 x2 HOK HST
          obtain ⟨n0, n1, n2⟩ := p
          simp only at x0 x1 x2
          have HS2 := hid (HST.out _ _ _ rfl HOK.out)
          clear HST HOK
          have HM0 := hid (pl_b HS2.out.1.1)
          have HK0 := hid (nbl (pl_b HS2.out.1.1))
          have HM1 := hid (sg_b HS2.out.1.2.1)
          have HK1 := hid (nbl (zz_b HS2.out.1.2.1))
          have HM2 := hid (sg_b HS2.out.1.2.2)
          have HK2 := hid (nbl (zz_b HS2.out.1.2.2))
          replace x0 := (World.cell?_of_block (w := W0) (w' := wr) (a := ⟨g1, o1 + i * 3, none⟩) (hbw.block g1 hg1)).trans x0
          replace x1 := (World.cell?_of_block (w := W0) (w' := wr) (a := ⟨g1, o1 + i * 3 + 1, none⟩) (hbw.block g1 hg1)).trans x1
          replace x2 := (World.cell?_of_block (w := W0) (w' := wr) (a := ⟨g1, o1 + i * 3 + 2, none⟩) (hbw.block g1 hg1)).trans x2
          replace hg1 := Nat.lt_of_lt_of_le hg1 hbw.size
          have HKB := hid (Blk.new wr #[.int .i64 n0, .int .i64 n1, .int .i64 n2] 51)
          clear x hbw
          go_upto_region 13 with fail
          have FS := hid (show ∀ w', Blk w' wr.heap.size #[.int .i64 n0, .int .i64 n1, .int .i64 n2] 51 → w'.cell? ⟨wr.heap.size, 0, none⟩ = some (.int .i64 n0) ∧ w'.cell? ⟨wr.heap.size, 1, none⟩ = some (.int .i64 n1) ∧ w'.cell? ⟨wr.heap.size, 2, none⟩ = some (.int .i64 n2) from fun w' hb => ⟨hb.cell 0, hb.cell 1, hb.cell 2⟩)
          refine wp_region_W (fun w' => w'.cell? ⟨wr.heap.size, 0, none⟩ = some (.int .i64 n0) ∧ w'.cell? ⟨wr.heap.size, 1, none⟩ = some (.int .i64 n1) ∧ w'.cell? ⟨wr.heap.size, 2, none⟩ = some (.int .i64 n2)) (fun j => if j == 3 || j == 4 || j == 7 || j == 8 || j == 11 || j == 12 then 0 else 1) (by kernel_rfl) ?_
          refine wpAnyW_take (i := 0) (oi := { dst := some 69, op := Op.move (Operand.tmp 3), type := 29, pos := "ref.go:130", after := #[], guard := none }) (v := ?_) rfl (by kernel_rfl) (by kernel_rfl) (by kernel_rfl) (by kernel_rfl) (fun _ _ _ h => h) (Or.inl ⟨by rfl, fun w _ => ?_⟩) ?_
          rotate_left
          · (go_simp; first | done | with_reducible rfl)
          try simp only [Act.put, List.setIfInBounds_toArray, List.set_cons_zero, List.set_cons_succ]
          refine wpAnyW_take (i := 1) (oi := { dst := some 70, op := Op.fieldAddr 51 (Operand.tmp 6) 0, type := 0, pos := "ref.go:130", after := #[], guard := none }) (v := ?_) rfl (by kernel_rfl) (by kernel_rfl) (by kernel_rfl) (by kernel_rfl) (fun _ _ _ h => h) (Or.inl ⟨by rfl, fun w _ => ?_⟩) ?_
          rotate_left
          · (go_simp; first | done | with_reducible rfl)
          try simp only [Act.put, List.setIfInBounds_toArray, List.set_cons_zero, List.set_cons_succ]
          refine wpAnyW_load (i := 2) (oi := { dst := some 71, op := Op.load 3 (Operand.tmp 70), type := 3, pos := "ref.go:130", after := #[{ on := 1, ground := Ground.data }], guard := none }) (v := ?_) rfl (by kernel_rfl) (by kernel_rfl) (by kernel_rfl) (by kernel_rfl) (by kernel_rfl) (fun _ _ _ h => h) (Or.inl ⟨by rfl, fun w hS => ?_⟩) (FS.out _ (HKB.out.bw (by repeat (first | exact Bw.refl _ | apply Bw.alloc | apply Bw.drewN | apply Bw.drew)))) ?_
          rotate_left
          · (obtain ⟨s0, s1, s2⟩ := hS; go_simp; first | done | with_reducible rfl)
          try simp only [Act.put, List.setIfInBounds_toArray, List.set_cons_zero, List.set_cons_succ]
          refine wpAnyW_take (i := 5) (oi := { dst := some 74, op := Op.fieldAddr 51 (Operand.tmp 6) 1, type := 0, pos := "ref.go:130", after := #[], guard := none }) (v := ?_) rfl (by kernel_rfl) (by kernel_rfl) (by kernel_rfl) (by kernel_rfl) (fun _ _ _ h => h) (Or.inl ⟨by rfl, fun w _ => ?_⟩) ?_
          rotate_left
          · (go_simp; first | done | with_reducible rfl)
          try simp only [Act.put, List.setIfInBounds_toArray, List.set_cons_zero, List.set_cons_succ]
          refine wpAnyW_load (i := 6) (oi := { dst := some 75, op := Op.load 3 (Operand.tmp 74), type := 3, pos := "ref.go:130", after := #[{ on := 5, ground := Ground.data }], guard := none }) (v := ?_) rfl (by kernel_rfl) (by kernel_rfl) (by kernel_rfl) (by kernel_rfl) (by kernel_rfl) (fun _ _ _ h => h) (Or.inl ⟨by rfl, fun w hS => ?_⟩) (FS.out _ (HKB.out.bw (by repeat (first | exact Bw.refl _ | apply Bw.alloc | apply Bw.drewN | apply Bw.drew)))) ?_
          rotate_left
          · (obtain ⟨s0, s1, s2⟩ := hS; go_simp; first | done | with_reducible rfl)
          try simp only [Act.put, List.setIfInBounds_toArray, List.set_cons_zero, List.set_cons_succ]
          refine wpAnyW_take (i := 9) (oi := { dst := some 78, op := Op.fieldAddr 51 (Operand.tmp 6) 2, type := 0, pos := "ref.go:130", after := #[], guard := none }) (v := ?_) rfl (by kernel_rfl) (by kernel_rfl) (by kernel_rfl) (by kernel_rfl) (fun _ _ _ h => h) (Or.inl ⟨by rfl, fun w _ => ?_⟩) ?_
          rotate_left
          · (go_simp; first | done | with_reducible rfl)
          try simp only [Act.put, List.setIfInBounds_toArray, List.set_cons_zero, List.set_cons_succ]
          refine wpAnyW_load (i := 10) (oi := { dst := some 79, op := Op.load 3 (Operand.tmp 78), type := 3, pos := "ref.go:130", after := #[{ on := 9, ground := Ground.data }], guard := none }) (v := ?_) rfl (by kernel_rfl) (by kernel_rfl) (by kernel_rfl) (by kernel_rfl) (by kernel_rfl) (fun _ _ _ h => h) (Or.inl ⟨by rfl, fun w hS => ?_⟩) (FS.out _ (HKB.out.bw (by repeat (first | exact Bw.refl _ | apply Bw.alloc | apply Bw.drewN | apply Bw.drew)))) ?_
          rotate_left
          · (obtain ⟨s0, s1, s2⟩ := hS; go_simp; first | done | with_reducible rfl)
          try simp only [Act.put, List.setIfInBounds_toArray, List.set_cons_zero, List.set_cons_succ]
          refine wpAnyW_ready (rs := [3]) (by kernel_rfl) (by simp) ?_
          refine (AllReadyW.cons (o := { dst := some 72, op := Op.call { callee := Callee.value (Operand.func 19), args := #[Operand.tmp 71], argTypes := #[3] }, type := 29, pos := "ref.go:130", after := #[{ on := 2, ground := Ground.data }], guard := none }) rfl (fun K hK => ?_) AllReadyW.nil)
          go_simp
          refine (rnumber_any _ n0 _ (Nat.le_refl _) HM0.out.1 HM0.out.2).mono ?_
          rintro e w21 ⟨v21, rfl, ho, hb⟩
          have HB21 := hid (show Bw W0 w21 from (HB20.out.trans (Bw.trans (by repeat (first | exact Bw.refl _ | apply Bw.alloc | apply Bw.drewN | apply Bw.drew)) hb)))
          have HR21 := hid (HR20.out.bw (show Bw wr w21 from Bw.trans (by repeat (first | exact Bw.refl _ | apply Bw.alloc | apply Bw.drewN | apply Bw.drew)) hb))
          have HQ21 := hid (show OwnB w21 _ v21 (nb n0.toNat) from ho)
          obtain ⟨av21, cv21, ev⟩ := HQ21.out.form
          subst ev
          have HKB21 := hid (HKB.out.bw (Bw.trans (by repeat (first | exact Bw.refl _ | apply Bw.alloc | apply Bw.drewN | apply Bw.drew)) hb))
          clear ho hb
          refine hK.out _ _ (FS.out _ HKB21.out) ?_
          clear hK K
          try simp only [Act.put, List.setIfInBounds_toArray, List.set_cons_zero, List.set_cons_succ]
          refine wpAnyW_ready (rs := [4]) (by kernel_rfl) (by simp) ?_
          refine (AllReadyW.cons (o := { dst := some 73, op := Op.call { callee := Callee.builtin Builtin.append, args := #[Operand.tmp 69, Operand.tmp 72], argTypes := #[29, 29] }, type := 29, pos := "ref.go:130", after := #[{ on := 0, ground := Ground.data }, { on := 3, ground := Ground.data }, { on := 3, ground := Ground.chain }], guard := none }) rfl (fun K hK => ?_) AllReadyW.nil)
          refine step_appB (by rfl) (.tmp 69) (.tmp 72) (by rfl) (w.heap.size + 1) (.slice av20 (fp5 f i).length cv20) (fp5 f i) (by rfl) HR21.out (.slice av21 (nb n0.toNat).length cv21) (nb n0.toNat) (by rfl) HQ21.out.sl (by have := HL.out.l5 i; have := HK0.out; omega) (HBS.out _ HB21.out) ?_
          intro v22 w22 ho hg
          have HB22 := hid (HR21.out.grown HB21.out (by rw [HSZ.out]; exact Nat.le_refl _) hg)
          have HKB22 := hid (HR21.out.blk HKB21.out (by decide) hg)
          obtain ⟨R22, hr⟩ : ∃ R, (fp5 f i ++ nb n0.toNat) = R := ⟨_, rfl⟩
          rw [hr] at ho
          have HX22 := hid hr
          have HXL22 := hid (show R22.length ≤ 4194304 + 9 from by rw [← hr, List.length_append]; have := HK0.out; have := HL.out.l5 i; omega)
          clear hr
          have HR22 := hid (show OwnB w22 _ v22 R22 from ho)
          obtain ⟨av22, cv22, ev⟩ := HR22.out.form
          subst ev
          clear ho hg
          refine hK.out _ _ (FS.out _ HKB22.out) ?_
          clear hK K
          try simp only [Act.put, List.setIfInBounds_toArray, List.set_cons_zero, List.set_cons_succ]
          refine wpAnyW_ready (rs := [7]) (by kernel_rfl) (by simp) ?_
          refine (AllReadyW.cons (o := { dst := some 76, op := Op.call { callee := Callee.value (Operand.func 44), args := #[Operand.tmp 75], argTypes := #[3] }, type := 29, pos := "ref.go:130", after := #[{ on := 6, ground := Ground.data }, { on := 4, ground := Ground.chain }], guard := none }) rfl (fun K hK => ?_) AllReadyW.nil)
          go_simp
          refine (rSigned_any n1 _ HM1.out).mono ?_
          rintro e w23 ⟨v23, rfl, ho, hb⟩
          have HB23 := hid (show Bw W0 w23 from (HB22.out.trans (Bw.trans (by repeat (first | exact Bw.refl _ | apply Bw.alloc | apply Bw.drewN | apply Bw.drew)) hb)))
          have HR23 := hid (HR22.out.bw (show Bw w22 w23 from Bw.trans (by repeat (first | exact Bw.refl _ | apply Bw.alloc | apply Bw.drewN | apply Bw.drew)) hb))
          have HQ23 := hid (show OwnB w23 _ v23 (nb (zz n1).toNat) from ho)
          obtain ⟨av23, cv23, ev⟩ := HQ23.out.form
          subst ev
          have HKB23 := hid (HKB22.out.bw (Bw.trans (by repeat (first | exact Bw.refl _ | apply Bw.alloc | apply Bw.drewN | apply Bw.drew)) hb))
          clear ho hb
          refine hK.out _ _ (FS.out _ HKB23.out) ?_
          clear hK K
          try simp only [Act.put, List.setIfInBounds_toArray, List.set_cons_zero, List.set_cons_succ]
          refine wpAnyW_ready (rs := [8]) (by kernel_rfl) (by simp) ?_
          refine (AllReadyW.cons (o := { dst := some 77, op := Op.call { callee := Callee.builtin Builtin.append, args := #[Operand.tmp 73, Operand.tmp 76], argTypes := #[29, 29] }, type := 29, pos := "ref.go:130", after := #[{ on := 4, ground := Ground.data }, { on := 7, ground := Ground.data }, { on := 7, ground := Ground.chain }], guard := none }) rfl (fun K hK => ?_) AllReadyW.nil)
          refine step_appB (by rfl) (.tmp 73) (.tmp 76) (by rfl) (w.heap.size + 1) (.slice av22 (R22).length cv22) (R22) (by rfl) HR23.out (.slice av23 (nb (zz n1).toNat).length cv23) (nb (zz n1).toNat) (by rfl) HQ23.out.sl (by have := HXL22.out; have := HK1.out; omega) (HBS.out _ HB23.out) ?_
          intro v24 w24 ho hg
          have HB24 := hid (HR23.out.grown HB23.out (by rw [HSZ.out]; exact Nat.le_refl _) hg)
          have HKB24 := hid (HR23.out.blk HKB23.out (by decide) hg)
          obtain ⟨R24, hr⟩ : ∃ R, (R22 ++ nb (zz n1).toNat) = R := ⟨_, rfl⟩
          rw [hr] at ho
          have HX24 := hid hr
          have HXL24 := hid (show R24.length ≤ 4194304 + 18 from by rw [← hr, List.length_append]; have := HK1.out; have := HXL22.out; omega)
          clear hr
          have HR24 := hid (show OwnB w24 _ v24 R24 from ho)
          obtain ⟨av24, cv24, ev⟩ := HR24.out.form
          subst ev
          clear ho hg
          refine hK.out _ _ (FS.out _ HKB24.out) ?_
          clear hK K
          try simp only [Act.put, List.setIfInBounds_toArray, List.set_cons_zero, List.set_cons_succ]
          refine wpAnyW_ready (rs := [11]) (by kernel_rfl) (by simp) ?_
          refine (AllReadyW.cons (o := { dst := some 80, op := Op.call { callee := Callee.value (Operand.func 44), args := #[Operand.tmp 79], argTypes := #[3] }, type := 29, pos := "ref.go:130", after := #[{ on := 10, ground := Ground.data }, { on := 8, ground := Ground.chain }], guard := none }) rfl (fun K hK => ?_) AllReadyW.nil)
          go_simp
          refine (rSigned_any n2 _ HM2.out).mono ?_
          rintro e w25 ⟨v25, rfl, ho, hb⟩
          have HB25 := hid (show Bw W0 w25 from (HB24.out.trans (Bw.trans (by repeat (first | exact Bw.refl _ | apply Bw.alloc | apply Bw.drewN | apply Bw.drew)) hb)))
          have HR25 := hid (HR24.out.bw (show Bw w24 w25 from Bw.trans (by repeat (first | exact Bw.refl _ | apply Bw.alloc | apply Bw.drewN | apply Bw.drew)) hb))
          have HQ25 := hid (show OwnB w25 _ v25 (nb (zz n2).toNat) from ho)
          obtain ⟨av25, cv25, ev⟩ := HQ25.out.form
          subst ev
          have HKB25 := hid (HKB24.out.bw (Bw.trans (by repeat (first | exact Bw.refl _ | apply Bw.alloc | apply Bw.drewN | apply Bw.drew)) hb))
          clear ho hb
          refine hK.out _ _ (FS.out _ HKB25.out) ?_
          clear hK K
          try simp only [Act.put, List.setIfInBounds_toArray, List.set_cons_zero, List.set_cons_succ]
          refine wpAnyW_ready (rs := [12]) (by kernel_rfl) (by simp) ?_
          refine (AllReadyW.cons (o := { dst := some 81, op := Op.call { callee := Callee.builtin Builtin.append, args := #[Operand.tmp 77, Operand.tmp 80], argTypes := #[29, 29] }, type := 29, pos := "ref.go:130", after := #[{ on := 8, ground := Ground.data }, { on := 11, ground := Ground.data }, { on := 11, ground := Ground.chain }], guard := none }) rfl (fun K hK => ?_) AllReadyW.nil)
          refine step_appB (by rfl) (.tmp 77) (.tmp 80) (by rfl) (w.heap.size + 1) (.slice av24 (R24).length cv24) (R24) (by rfl) HR25.out (.slice av25 (nb (zz n2).toNat).length cv25) (nb (zz n2).toNat) (by rfl) HQ25.out.sl (by have := HXL24.out; have := HK2.out; omega) (HBS.out _ HB25.out) ?_
          intro v26 w26 ho hg
          have HB26 := hid (HR25.out.grown HB25.out (by rw [HSZ.out]; exact Nat.le_refl _) hg)
          have HKB26 := hid (HR25.out.blk HKB25.out (by decide) hg)
          obtain ⟨R26, hr⟩ : ∃ R, (R24 ++ nb (zz n2).toNat) = R := ⟨_, rfl⟩
          rw [hr] at ho
          have HX26 := hid hr
          have HXL26 := hid (show R26.length ≤ 4194304 + 27 from by rw [← hr, List.length_append]; have := HK2.out; have := HXL24.out; omega)
          clear hr
          have HR26 := hid (show OwnB w26 _ v26 R26 from ho)
          obtain ⟨av26, cv26, ev⟩ := HR26.out.form
          subst ev
          clear ho hg
          refine hK.out _ _ (FS.out _ HKB26.out) ?_
          clear hK K
          try simp only [Act.put, List.setIfInBounds_toArray, List.set_cons_zero, List.set_cons_succ]
          refine wpAnyW_take (i := 13) (oi := { dst := some 3, op := Op.assign (Operand.tmp 81), type := 29, pos := "ref.go:130", after := #[{ on := 12, ground := Ground.data }, { on := 12, ground := Ground.chain }, { on := 0, ground := Ground.phase }, { on := 1, ground := Ground.phase }, { on := 2, ground := Ground.phase }, { on := 3, ground := Ground.phase }, { on := 4, ground := Ground.phase }, { on := 5, ground := Ground.phase }, { on := 6, ground := Ground.phase }, { on := 7, ground := Ground.phase }, { on := 8, ground := Ground.phase }, { on := 9, ground := Ground.phase }, { on := 10, ground := Ground.phase }, { on := 11, ground := Ground.phase }, { on := 12, ground := Ground.phase }], guard := none }) (v := ?_) rfl (by kernel_rfl) (by kernel_rfl) (by kernel_rfl) (by kernel_rfl) (fun _ _ _ h => h) (Or.inl ⟨by rfl, fun w _ => ?_⟩) ?_
          rotate_left
          · (go_simp; first | done | with_reducible rfl)
          try simp only [Act.put, List.setIfInBounds_toArray, List.set_cons_zero, List.set_cons_succ]
          refine wpAnyW_done (by kernel_rfl) ?_ _
          go_wp2
          go_roundw
          case rel => exact ⟨i + 1, by omega, by go_num, HR26.out.of (by rw [← HX26.out, ← HX24.out, ← HX22.out]; exact HS2.out.2), HB26.out⟩
          case measure => simp [intOf]; omega
        · obtain rfl : i = f.code.length := by omega
          clear hbw
          go_wp2_with (first
            | (go_at_call_of 19 (Value.int .i64 (f.tries.length : Nat)); refine (rnumber_any _ (f.tries.length : Nat) _ (Nat.le_refl _) HN6.out.1 HN6.out.2).mono ?_; rintro e w26 ⟨v26, rfl, ho, hb⟩; have HB26 := hid (show Bw W0 w26 from HB20.out.trans (Bw.trans (by repeat (first | exact Bw.refl _ | apply Bw.alloc | apply Bw.drewN | apply Bw.drew)) hb)); have HQ26 := hid (show OwnB w26 _ v26 (nb f.tries.length) from by rw [Int.toNat_natCast] at ho; exact ho); obtain ⟨av26, cv26, ev⟩ := HQ26.out.form; subst ev; have HR26 := hid (HR20.out.bw (Bw.trans (by repeat (first | exact Bw.refl _ | apply Bw.alloc | apply Bw.drewN | apply Bw.drew)) hb)); clear ho hb)
            | (at_builtin; refine wpList_appB rfl _ _ rfl (w.heap.size + 1) (.slice av20 (fp5 f f.code.length).length cv20) ((fp5 f f.code.length)) rfl HR26.out (.slice av26 (nb f.tries.length).length cv26) (nb f.tries.length) rfl HQ26.out.sl (by have := HL.out.l5 f.code.length; have := nblN HN6.out; omega) (HBS.out _ HB26.out) ?_; intro v27 w27 ho hg; have HB27 := hid (HR26.out.grown HB26.out (by rw [HSZ.out]; exact Nat.le_refl _) hg); have HR27 := hid (show OwnB w27 _ v27 (fp6 f) from ho); obtain ⟨av27, cv27, ev⟩ := HR27.out.form; subst ev; have u := (HP.out.bw HB27.out).cell; have ul := (HP.out.bw HB27.out).lt; clear ho hg)
            | fail)
          go_loopw [3, 7] (fun b j wr => ∃ i, i ≤ f.tries.length ∧ j = .int .i64 (i : Nat) ∧ OwnB wr (w.heap.size + 1) b (fp7 f i) ∧ Bw W0 wr) (fun _ j _ => f.tries.length - (intOf j).toNat)
          case atStart => exact ⟨0, Nat.zero_le _, rfl, HR27.out.of (by unfold fp7; simp), HB27.out⟩
          case round =>
            obtain ⟨i, hi, rfl, ho, hbw⟩ := hrel
            have HB20 := hid hbw
            have HR20 := hid ho
            obtain ⟨av20, cv20, ev⟩ := HR20.out.form
            subst ev
            have u := (HP.out.bw hbw).cell
            have ul := (HP.out.bw hbw).lt
            clear ho
            by_cases hlt : i < f.tries.length
            · obtain ⟨g1, o1, d1, e1, _, hg1, _, x⟩ := (HA.out.t.bw HW0.out).parts hlt (by decide)
              cases e1
              have x0 := x 0 (by decide)
              have x1 := x 1 (by decide)
              have x2 := x 2 (by decide)
              have x3 := x 3 (by decide)
              simp only [Nat.add_zero, ← Nat.add_assoc, tryC, List.getElem?_cons_zero, List.getElem?_cons_succ] at x0 x1 x2 x3
              have hlt2 : (i : Int) < (f.tries.length : Int) := by omega
              have HOK := hid (HO6.out _ (List.getElem_mem hlt))
              have HST := hid (fun (a b1 b2 b3 : Int) (h1 : f.tries[i] = (a, b1, b2, b3)) (h2 : oks (iTry (a, b1, b2, b3)) = true) => fp7_step hlt h1 h2)
              generalize f.tries[i] = p at x0 x1 x2 x3 HOK HST
              obtain ⟨n0, n1, n2, n3⟩ := p
              simp only at x0 x1 x2 x3
              have HS2 := hid (HST.out _ _ _ _ rfl HOK.out)
              clear HST HOK
              have HM0 := hid (pl_b HS2.out.1.1)
              have HK0 := hid (nbl (pl_b HS2.out.1.1))
              have HM1 := hid (pl_b HS2.out.1.2.1)
              have HK1 := hid (nbl (pl_b HS2.out.1.2.1))
              have HM2 := hid (pl_b HS2.out.1.2.2.1)
              have HK2 := hid (nbl (pl_b HS2.out.1.2.2.1))
              have HM3 := hid (pl_b HS2.out.1.2.2.2)
              have HK3 := hid (nbl (pl_b HS2.out.1.2.2.2))
              replace x0 := (World.cell?_of_block (w := W0) (w' := wr) (a := ⟨g1, o1 + i * 4, none⟩) (hbw.block g1 hg1)).trans x0
              replace x1 := (World.cell?_of_block (w := W0) (w' := wr) (a := ⟨g1, o1 + i * 4 + 1, none⟩) (hbw.block g1 hg1)).trans x1
              replace x2 := (World.cell?_of_block (w := W0) (w' := wr) (a := ⟨g1, o1 + i * 4 + 2, none⟩) (hbw.block g1 hg1)).trans x2
              replace x3 := (World.cell?_of_block (w := W0) (w' := wr) (a := ⟨g1, o1 + i * 4 + 3, none⟩) (hbw.block g1 hg1)).trans x3
              replace hg1 := Nat.lt_of_lt_of_le hg1 hbw.size
              have HKB := hid (Blk.new wr #[.int .i64 n0, .int .i64 n1, .int .i64 n2, .int .i64 n3] 92)
              clear x hbw
              go_upto_region 19 with fail
              have FS := hid (show ∀ w', Blk w' wr.heap.size #[.int .i64 n0, .int .i64 n1, .int .i64 n2, .int .i64 n3] 92 → w'.cell? ⟨wr.heap.size, 0, none⟩ = some (.int .i64 n0) ∧ w'.cell? ⟨wr.heap.size, 1, none⟩ = some (.int .i64 n1) ∧ w'.cell? ⟨wr.heap.size, 2, none⟩ = some (.int .i64 n2) ∧ w'.cell? ⟨wr.heap.size, 3, none⟩ = some (.int .i64 n3) from fun w' hb => ⟨hb.cell 0, hb.cell 1, hb.cell 2, hb.cell 3⟩)
              refine wp_region_W (fun w' => w'.cell? ⟨wr.heap.size, 0, none⟩ = some (.int .i64 n0) ∧ w'.cell? ⟨wr.heap.size, 1, none⟩ = some (.int .i64 n1) ∧ w'.cell? ⟨wr.heap.size, 2, none⟩ = some (.int .i64 n2) ∧ w'.cell? ⟨wr.heap.size, 3, none⟩ = some (.int .i64 n3)) (fun j => if j == 3 || j == 4 || j == 7 || j == 8 || j == 11 || j == 12 || j == 15 || j == 16 then 0 else 1) (by kernel_rfl) ?_
              refine wpAnyW_take (i := 0) (oi := { dst := some 100, op := Op.move (Operand.tmp 3), type := 29, pos := "ref.go:135", after := #[], guard := none }) (v := ?_) rfl (by kernel_rfl) (by kernel_rfl) (by kernel_rfl) (by kernel_rfl) (fun _ _ _ h => h) (Or.inl ⟨by rfl, fun w _ => ?_⟩) ?_
              rotate_left
              · (go_simp; first | done | with_reducible rfl)
              try simp only [Act.put, List.setIfInBounds_toArray, List.set_cons_zero, List.set_cons_succ]
              refine wpAnyW_take (i := 1) (oi := { dst := some 101, op := Op.fieldAddr 92 (Operand.tmp 8) 0, type := 0, pos := "ref.go:135", after := #[], guard := none }) (v := ?_) rfl (by kernel_rfl) (by kernel_rfl) (by kernel_rfl) (by kernel_rfl) (fun _ _ _ h => h) (Or.inl ⟨by rfl, fun w _ => ?_⟩) ?_
              rotate_left
              · (go_simp; first | done | with_reducible rfl)
              try simp only [Act.put, List.setIfInBounds_toArray, List.set_cons_zero, List.set_cons_succ]
              refine wpAnyW_load (i := 2) (oi := { dst := some 102, op := Op.load 3 (Operand.tmp 101), type := 3, pos := "ref.go:135", after := #[{ on := 1, ground := Ground.data }], guard := none }) (v := ?_) rfl (by kernel_rfl) (by kernel_rfl) (by kernel_rfl) (by kernel_rfl) (by kernel_rfl) (fun _ _ _ h => h) (Or.inl ⟨by rfl, fun w hS => ?_⟩) (FS.out _ (HKB.out.bw (by repeat (first | exact Bw.refl _ | apply Bw.alloc | apply Bw.drewN | apply Bw.drew)))) ?_
              rotate_left
              · (obtain ⟨s0, s1, s2, s3⟩ := hS; go_simp; first | done | with_reducible rfl)
              try simp only [Act.put, List.setIfInBounds_toArray, List.set_cons_zero, List.set_cons_succ]
              refine wpAnyW_take (i := 5) (oi := { dst := some 105, op := Op.fieldAddr 92 (Operand.tmp 8) 1, type := 0, pos := "ref.go:135", after := #[], guard := none }) (v := ?_) rfl (by kernel_rfl) (by kernel_rfl) (by kernel_rfl) (by kernel_rfl) (fun _ _ _ h => h) (Or.inl ⟨by rfl, fun w _ => ?_⟩) ?_
              rotate_left
              · (go_simp; first | done | with_reducible rfl)
              try simp only [Act.put, List.setIfInBounds_toArray, List.set_cons_zero, List.set_cons_succ]
              refine wpAnyW_load (i := 6) (oi := { dst := some 106, op := Op.load 3 (Operand.tmp 105), type := 3, pos := "ref.go:135", after := #[{ on := 5, ground := Ground.data }], guard := none }) (v := ?_) rfl (by kernel_rfl) (by kernel_rfl) (by kernel_rfl) (by kernel_rfl) (by kernel_rfl) (fun _ _ _ h => h) (Or.inl ⟨by rfl, fun w hS => ?_⟩) (FS.out _ (HKB.out.bw (by repeat (first | exact Bw.refl _ | apply Bw.alloc | apply Bw.drewN | apply Bw.drew)))) ?_
              rotate_left
              · (obtain ⟨s0, s1, s2, s3⟩ := hS; go_simp; first | done | with_reducible rfl)
              try simp only [Act.put, List.setIfInBounds_toArray, List.set_cons_zero, List.set_cons_succ]
              refine wpAnyW_take (i := 9) (oi := { dst := some 109, op := Op.fieldAddr 92 (Operand.tmp 8) 2, type := 0, pos := "ref.go:135", after := #[], guard := none }) (v := ?_) rfl (by kernel_rfl) (by kernel_rfl) (by kernel_rfl) (by kernel_rfl) (fun _ _ _ h => h) (Or.inl ⟨by rfl, fun w _ => ?_⟩) ?_
              rotate_left
              · (go_simp; first | done | with_reducible rfl)
              try simp only [Act.put, List.setIfInBounds_toArray, List.set_cons_zero, List.set_cons_succ]
              refine wpAnyW_load (i := 10) (oi := { dst := some 110, op := Op.load 3 (Operand.tmp 109), type := 3, pos := "ref.go:135", after := #[{ on := 9, ground := Ground.data }], guard := none }) (v := ?_) rfl (by kernel_rfl) (by kernel_rfl) (by kernel_rfl) (by kernel_rfl) (by kernel_rfl) (fun _ _ _ h => h) (Or.inl ⟨by rfl, fun w hS => ?_⟩) (FS.out _ (HKB.out.bw (by repeat (first | exact Bw.refl _ | apply Bw.alloc | apply Bw.drewN | apply Bw.drew)))) ?_
              rotate_left
              · (obtain ⟨s0, s1, s2, s3⟩ := hS; go_simp; first | done | with_reducible rfl)
              try simp only [Act.put, List.setIfInBounds_toArray, List.set_cons_zero, List.set_cons_succ]
              refine wpAnyW_take (i := 13) (oi := { dst := some 113, op := Op.fieldAddr 92 (Operand.tmp 8) 3, type := 0, pos := "ref.go:135", after := #[], guard := none }) (v := ?_) rfl (by kernel_rfl) (by kernel_rfl) (by kernel_rfl) (by kernel_rfl) (fun _ _ _ h => h) (Or.inl ⟨by rfl, fun w _ => ?_⟩) ?_
              rotate_left
              · (go_simp; first | done | with_reducible rfl)
              try simp only [Act.put, List.setIfInBounds_toArray, List.set_cons_zero, List.set_cons_succ]
              refine wpAnyW_load (i := 14) (oi := { dst := some 114, op := Op.load 3 (Operand.tmp 113), type := 3, pos := "ref.go:135", after := #[{ on := 13, ground := Ground.data }], guard := none }) (v := ?_) rfl (by kernel_rfl) (by kernel_rfl) (by kernel_rfl) (by kernel_rfl) (by kernel_rfl) (fun _ _ _ h => h) (Or.inl ⟨by rfl, fun w hS => ?_⟩) (FS.out _ (HKB.out.bw (by repeat (first | exact Bw.refl _ | apply Bw.alloc | apply Bw.drewN | apply Bw.drew)))) ?_
              rotate_left
              · (obtain ⟨s0, s1, s2, s3⟩ := hS; go_simp; first | done | with_reducible rfl)
              try simp only [Act.put, List.setIfInBounds_toArray, List.set_cons_zero, List.set_cons_succ]
              refine wpAnyW_ready (rs := [3]) (by kernel_rfl) (by simp) ?_
              refine (AllReadyW.cons (o := { dst := some 103, op := Op.call { callee := Callee.value (Operand.func 19), args := #[Operand.tmp 102], argTypes := #[3] }, type := 29, pos := "ref.go:135", after := #[{ on := 2, ground := Ground.data }], guard := none }) rfl (fun K hK => ?_) AllReadyW.nil)
              go_simp
              refine (rnumber_any _ n0 _ (Nat.le_refl _) HM0.out.1 HM0.out.2).mono ?_
              rintro e w21 ⟨v21, rfl, ho, hb⟩
              have HB21 := hid (show Bw W0 w21 from (HB20.out.trans (Bw.trans (by repeat (first | exact Bw.refl _ | apply Bw.alloc | apply Bw.drewN | apply Bw.drew)) hb)))
              have HR21 := hid (HR20.out.bw (show Bw wr w21 from Bw.trans (by repeat (first | exact Bw.refl _ | apply Bw.alloc | apply Bw.drewN | apply Bw.drew)) hb))
              have HQ21 := hid (show OwnB w21 _ v21 (nb n0.toNat) from ho)
              obtain ⟨av21, cv21, ev⟩ := HQ21.out.form
              subst ev
              have HKB21 := hid (HKB.out.bw (Bw.trans (by repeat (first | exact Bw.refl _ | apply Bw.alloc | apply Bw.drewN | apply Bw.drew)) hb))
              clear ho hb
              refine hK.out _ _ (FS.out _ HKB21.out) ?_
              clear hK K
              try simp only [Act.put, List.setIfInBounds_toArray, List.set_cons_zero, List.set_cons_succ]
              refine wpAnyW_ready (rs := [4]) (by kernel_rfl) (by simp) ?_
              refine (AllReadyW.cons (o := { dst := some 104, op := Op.call { callee := Callee.builtin Builtin.append, args := #[Operand.tmp 100, Operand.tmp 103], argTypes := #[29, 29] }, type := 29, pos := "ref.go:135", after := #[{ on := 0, ground := Ground.data }, { on := 3, ground := Ground.data }, { on := 3, ground := Ground.chain }], guard := none }) rfl (fun K hK => ?_) AllReadyW.nil)
              refine step_appB (by rfl) (.tmp 100) (.tmp 103) (by rfl) (w.heap.size + 1) (.slice av20 (fp7 f i).length cv20) (fp7 f i) (by rfl) HR21.out (.slice av21 (nb n0.toNat).length cv21) (nb n0.toNat) (by rfl) HQ21.out.sl (by have := HL.out.l7 i; have := HK0.out; omega) (HBS.out _ HB21.out) ?_
              intro v22 w22 ho hg
              have HB22 := hid (HR21.out.grown HB21.out (by rw [HSZ.out]; exact Nat.le_refl _) hg)
              have HKB22 := hid (HR21.out.blk HKB21.out (by decide) hg)
              obtain ⟨R22, hr⟩ : ∃ R, (fp7 f i ++ nb n0.toNat) = R := ⟨_, rfl⟩
              rw [hr] at ho
              have HX22 := hid hr
              have HXL22 := hid (show R22.length ≤ 4194304 + 9 from by rw [← hr, List.length_append]; have := HK0.out; have := HL.out.l7 i; omega)
              clear hr
              have HR22 := hid (show OwnB w22 _ v22 R22 from ho)
              obtain ⟨av22, cv22, ev⟩ := HR22.out.form
              subst ev
              clear ho hg
              refine hK.out _ _ (FS.out _ HKB22.out) ?_
              clear hK K
              try simp only [Act.put, List.setIfInBounds_toArray, List.set_cons_zero, List.set_cons_succ]
              refine wpAnyW_ready (rs := [7]) (by kernel_rfl) (by simp) ?_
              refine (AllReadyW.cons (o := { dst := some 107, op := Op.call { callee := Callee.value (Operand.func 19), args := #[Operand.tmp 106], argTypes := #[3] }, type := 29, pos := "ref.go:135", after := #[{ on := 6, ground := Ground.data }, { on := 4, ground := Ground.chain }], guard := none }) rfl (fun K hK => ?_) AllReadyW.nil)
              go_simp
              refine (rnumber_any _ n1 _ (Nat.le_refl _) HM1.out.1 HM1.out.2).mono ?_
              rintro e w23 ⟨v23, rfl, ho, hb⟩
              have HB23 := hid (show Bw W0 w23 from (HB22.out.trans (Bw.trans (by repeat (first | exact Bw.refl _ | apply Bw.alloc | apply Bw.drewN | apply Bw.drew)) hb)))
              have HR23 := hid (HR22.out.bw (show Bw w22 w23 from Bw.trans (by repeat (first | exact Bw.refl _ | apply Bw.alloc | apply Bw.drewN | apply Bw.drew)) hb))
              have HQ23 := hid (show OwnB w23 _ v23 (nb n1.toNat) from ho)
              obtain ⟨av23, cv23, ev⟩ := HQ23.out.form
              subst ev
              have HKB23 := hid (HKB22.out.bw (Bw.trans (by repeat (first | exact Bw.refl _ | apply Bw.alloc | apply Bw.drewN | apply Bw.drew)) hb))
              clear ho hb
              refine hK.out _ _ (FS.out _ HKB23.out) ?_
              clear hK K
              try simp only [Act.put, List.setIfInBounds_toArray, List.set_cons_zero, List.set_cons_succ]
              refine wpAnyW_ready (rs := [8]) (by kernel_rfl) (by simp) ?_
              refine (AllReadyW.cons (o := { dst := some 108, op := Op.call { callee := Callee.builtin Builtin.append, args := #[Operand.tmp 104, Operand.tmp 107], argTypes := #[29, 29] }, type := 29, pos := "ref.go:135", after := #[{ on := 4, ground := Ground.data }, { on := 7, ground := Ground.data }, { on := 7, ground := Ground.chain }], guard := none }) rfl (fun K hK => ?_) AllReadyW.nil)
              refine step_appB (by rfl) (.tmp 104) (.tmp 107) (by rfl) (w.heap.size + 1) (.slice av22 (R22).length cv22) (R22) (by rfl) HR23.out (.slice av23 (nb n1.toNat).length cv23) (nb n1.toNat) (by rfl) HQ23.out.sl (by have := HXL22.out; have := HK1.out; omega) (HBS.out _ HB23.out) ?_
              intro v24 w24 ho hg
              have HB24 := hid (HR23.out.grown HB23.out (by rw [HSZ.out]; exact Nat.le_refl _) hg)
              have HKB24 := hid (HR23.out.blk HKB23.out (by decide) hg)
              obtain ⟨R24, hr⟩ : ∃ R, (R22 ++ nb n1.toNat) = R := ⟨_, rfl⟩
              rw [hr] at ho
              have HX24 := hid hr
              have HXL24 := hid (show R24.length ≤ 4194304 + 18 from by rw [← hr, List.length_append]; have := HK1.out; have := HXL22.out; omega)
              clear hr
              have HR24 := hid (show OwnB w24 _ v24 R24 from ho)
              obtain ⟨av24, cv24, ev⟩ := HR24.out.form
              subst ev
              clear ho hg
              refine hK.out _ _ (FS.out _ HKB24.out) ?_
              clear hK K
              try simp only [Act.put, List.setIfInBounds_toArray, List.set_cons_zero, List.set_cons_succ]
              refine wpAnyW_ready (rs := [11]) (by kernel_rfl) (by simp) ?_
              refine (AllReadyW.cons (o := { dst := some 111, op := Op.call { callee := Callee.value (Operand.func 19), args := #[Operand.tmp 110], argTypes := #[3] }, type := 29, pos := "ref.go:135", after := #[{ on := 10, ground := Ground.data }, { on := 8, ground := Ground.chain }], guard := none }) rfl (fun K hK => ?_) AllReadyW.nil)
              go_simp
              refine (rnumber_any _ n2 _ (Nat.le_refl _) HM2.out.1 HM2.out.2).mono ?_
              rintro e w25 ⟨v25, rfl, ho, hb⟩
              have HB25 := hid (show Bw W0 w25 from (HB24.out.trans (Bw.trans (by repeat (first | exact Bw.refl _ | apply Bw.alloc | apply Bw.drewN | apply Bw.drew)) hb)))
              have HR25 := hid (HR24.out.bw (show Bw w24 w25 from Bw.trans (by repeat (first | exact Bw.refl _ | apply Bw.alloc | apply Bw.drewN | apply Bw.drew)) hb))
              have HQ25 := hid (show OwnB w25 _ v25 (nb n2.toNat) from ho)
              obtain ⟨av25, cv25, ev⟩ := HQ25.out.form
              subst ev
              have HKB25 := hid (HKB24.out.bw (Bw.trans (by repeat (first | exact Bw.refl _ | apply Bw.alloc | apply Bw.drewN | apply Bw.drew)) hb))
              clear ho hb
              refine hK.out _ _ (FS.out _ HKB25.out) ?_
              clear hK K
              try simp only [Act.put, List.setIfInBounds_toArray, List.set_cons_zero, List.set_cons_succ]
              refine wpAnyW_ready (rs := [12]) (by kernel_rfl) (by simp) ?_
              refine (AllReadyW.cons (o := { dst := some 112, op := Op.call { callee := Callee.builtin Builtin.append, args := #[Operand.tmp 108, Operand.tmp 111], argTypes := #[29, 29] }, type := 29, pos := "ref.go:135", after := #[{ on := 8, ground := Ground.data }, { on := 11, ground := Ground.data }, { on := 11, ground := Ground.chain }], guard := none }) rfl (fun K hK => ?_) AllReadyW.nil)
              refine step_appB (by rfl) (.tmp 108) (.tmp 111) (by rfl) (w.heap.size + 1) (.slice av24 (R24).length cv24) (R24) (by rfl) HR25.out (.slice av25 (nb n2.toNat).length cv25) (nb n2.toNat) (by rfl) HQ25.out.sl (by have := HXL24.out; have := HK2.out; omega) (HBS.out _ HB25.out) ?_
              intro v26 w26 ho hg
              have HB26 := hid (HR25.out.grown HB25.out (by rw [HSZ.out]; exact Nat.le_refl _) hg)
              have HKB26 := hid (HR25.out.blk HKB25.out (by decide) hg)
              obtain ⟨R26, hr⟩ : ∃ R, (R24 ++ nb n2.toNat) = R := ⟨_, rfl⟩
              rw [hr] at ho
              have HX26 := hid hr
              have HXL26 := hid (show R26.length ≤ 4194304 + 27 from by rw [← hr, List.length_append]; have := HK2.out; have := HXL24.out; omega)
              clear hr
              have HR26 := hid (show OwnB w26 _ v26 R26 from ho)
              obtain ⟨av26, cv26, ev⟩ := HR26.out.form
              subst ev
              clear ho hg
              refine hK.out _ _ (FS.out _ HKB26.out) ?_
              clear hK K
              try simp only [Act.put, List.setIfInBounds_toArray, List.set_cons_zero, List.set_cons_succ]
              refine wpAnyW_ready (rs := [15]) (by kernel_rfl) (by simp) ?_
              refine (AllReadyW.cons (o := { dst := some 115, op := Op.call { callee := Callee.value (Operand.func 19), args := #[Operand.tmp 114], argTypes := #[3] }, type := 29, pos := "ref.go:135", after := #[{ on := 14, ground := Ground.data }, { on := 12, ground := Ground.chain }], guard := none }) rfl (fun K hK => ?_) AllReadyW.nil)
              go_simp
              refine (rnumber_any _ n3 _ (Nat.le_refl _) HM3.out.1 HM3.out.2).mono ?_
              rintro e w27 ⟨v27, rfl, ho, hb⟩
              have HB27 := hid (show Bw W0 w27 from (HB26.out.trans (Bw.trans (by repeat (first | exact Bw.refl _ | apply Bw.alloc | apply Bw.drewN | apply Bw.drew)) hb)))
              have HR27 := hid (HR26.out.bw (show Bw w26 w27 from Bw.trans (by repeat (first | exact Bw.refl _ | apply Bw.alloc | apply Bw.drewN | apply Bw.drew)) hb))
              have HQ27 := hid (show OwnB w27 _ v27 (nb n3.toNat) from ho)
              obtain ⟨av27, cv27, ev⟩ := HQ27.out.form
              subst ev
              have HKB27 := hid (HKB26.out.bw (Bw.trans (by repeat (first | exact Bw.refl _ | apply Bw.alloc | apply Bw.drewN | apply Bw.drew)) hb))
              clear ho hb
              refine hK.out _ _ (FS.out _ HKB27.out) ?_
              clear hK K
              try simp only [Act.put, List.setIfInBounds_toArray, List.set_cons_zero, List.set_cons_succ]
              refine wpAnyW_ready (rs := [16]) (by kernel_rfl) (by simp) ?_
              refine (AllReadyW.cons (o := { dst := some 116, op := Op.call { callee := Callee.builtin Builtin.append, args := #[Operand.tmp 112, Operand.tmp 115], argTypes := #[29, 29] }, type := 29, pos := "ref.go:135", after := #[{ on := 12, ground := Ground.data }, { on := 15, ground := Ground.data }, { on := 15, ground := Ground.chain }], guard := none }) rfl (fun K hK => ?_) AllReadyW.nil)
              refine step_appB (by rfl) (.tmp 112) (.tmp 115) (by rfl) (w.heap.size + 1) (.slice av26 (R26).length cv26) (R26) (by rfl) HR27.out (.slice av27 (nb n3.toNat).length cv27) (nb n3.toNat) (by rfl) HQ27.out.sl (by have := HXL26.out; have := HK3.out; omega) (HBS.out _ HB27.out) ?_
              intro v28 w28 ho hg
              have HB28 := hid (HR27.out.grown HB27.out (by rw [HSZ.out]; exact Nat.le_refl _) hg)
              have HKB28 := hid (HR27.out.blk HKB27.out (by decide) hg)
              obtain ⟨R28, hr⟩ : ∃ R, (R26 ++ nb n3.toNat) = R := ⟨_, rfl⟩
              rw [hr] at ho
              have HX28 := hid hr
              have HXL28 := hid (show R28.length ≤ 4194304 + 36 from by rw [← hr, List.length_append]; have := HK3.out; have := HXL26.out; omega)
              clear hr
              have HR28 := hid (show OwnB w28 _ v28 R28 from ho)
              obtain ⟨av28, cv28, ev⟩ := HR28.out.form
              subst ev
              clear ho hg
              refine hK.out _ _ (FS.out _ HKB28.out) ?_
              clear hK K
              try simp only [Act.put, List.setIfInBounds_toArray, List.set_cons_zero, List.set_cons_succ]
              refine wpAnyW_take (i := 17) (oi := { dst := some 3, op := Op.assign (Operand.tmp 116), type := 29, pos := "ref.go:135", after := #[{ on := 16, ground := Ground.data }, { on := 16, ground := Ground.chain }, { on := 0, ground := Ground.phase }, { on := 1, ground := Ground.phase }, { on := 2, ground := Ground.phase }, { on := 3, ground := Ground.phase }, { on := 4, ground := Ground.phase }, { on := 5, ground := Ground.phase }, { on := 6, ground := Ground.phase }, { on := 7, ground := Ground.phase }, { on := 8, ground := Ground.phase }, { on := 9, ground := Ground.phase }, { on := 10, ground := Ground.phase }, { on := 11, ground := Ground.phase }, { on := 12, ground := Ground.phase }, { on := 13, ground := Ground.phase }, { on := 14, ground := Ground.phase }, { on := 15, ground := Ground.phase }, { on := 16, ground := Ground.phase }], guard := none }) (v := ?_) rfl (by kernel_rfl) (by kernel_rfl) (by kernel_rfl) (by kernel_rfl) (fun _ _ _ h => h) (Or.inl ⟨by rfl, fun w _ => ?_⟩) ?_
              rotate_left
              · (go_simp; first | done | with_reducible rfl)
              try simp only [Act.put, List.setIfInBounds_toArray, List.set_cons_zero, List.set_cons_succ]
              refine wpAnyW_done (by kernel_rfl) ?_ _
              go_wp2
              go_roundw
              case rel => exact ⟨i + 1, by omega, by go_num, HR28.out.of (by rw [← HX28.out, ← HX26.out, ← HX24.out, ← HX22.out]; exact HS2.out.2), HB28.out⟩
              case measure => simp [intOf]; omega
            · obtain rfl : i = f.tries.length := by omega
              clear hbw
              go_wp2
              all_goals go_ret
              all_goals exact ⟨_, rfl, (HR20.out.of HE.out).low (Nat.le_succ _), HW0.out.trans HB20.out⟩

end

end Go.Proofs.YtfhnhbpmiodomaaDoor
