/- The resolver: declareSlot. -/
import Derived.Test.YtekkjpecdflajaaDoorM11
import Derived.Test.YtekkjpecdflajaaDoorM10
set_option linter.unusedSimpArgs false
set_option linter.unusedVariables false
namespace Go.Proofs.YtekkjpecdflajaaDoor
open Go Go.RowKit
section
variable {w : World} {X : ZX} {z : ZS} {B : ZB}

/-- What a map from texts to numbers answers. -/
theorem MS.look {w : World} {b n : Nat} {M : ByteArray → Option Int} (h : MS w b M n) {t : ByteArray} (ht : t.size ≤ maxLen) : (Instr.lookup 65 (.map (some b)) (.string t) true).run Tryd.prog w = .ok (.tuple #[.int .i64 ((M t).getD 0), .bool (M t).isSome]) w := by
  obtain ⟨D, h1, h2⟩ := h
  obtain ⟨v, ps, hr, hv⟩ := h1.look_ok key9 underMs (zero3 _) (plainElem_int (H := Unit) int3 (by decide)) (key_lit ht)
  obtain ⟨c, rfl, hc, hwc⟩ := plainElem_int_inv int3 hv
  rw [hr, h2.has]
  have hat : D.atKey (.string t.data.toList) (.lit (.int .i64 0)) = .lit (.int .i64 c) := congrArg Prod.fst hc
  have := ahead_get h2 hat
  rw [this]

set_option maxRecDepth 100000 in
set_option maxHeartbeats 4000000 in
theorem declareSlot_any (h : RS w X z B) (i : Nat) (hi : i < X.L.length) (m : ByteArray → Option Int) (hnm : z.names = some m) (z' : ZS) (hz : zslot X.L z m i = some z') : Calls Tryd.prog 76 #[.pointer (some ⟨X.r, 0, none⟩), .int .i64 i] w fun e' w' => e' = .returned (.tuple #[]) ∧ Zp w X B z' w' := by
  unfold zslot at hz
  cases hfn : z.funs[z.fn]? with
  | none => rw [hfn] at hz; cases hz
  | some f =>
  rw [hfn] at hz
  simp only at hz
  obtain ⟨ub, uc, u, hu1, hue, c6, u0, u1, hul, huf, huρ, hune⟩ := h.us hi
  obtain ⟨ct, htm⟩ := h.x.nc.1.text hi
  obtain ⟨fb, fc, k, hfm, hkf⟩ := h.fu hfn
  have cn : w.cell? ⟨X.r, 3, none⟩ = some (.slice (some ⟨X.g, X.o, none⟩) X.L.length X.cap) := h.blk.cell 3
  have c1 : w.cell? ⟨X.r, 1, none⟩ = some (.int .i64 z.fn) := h.blk.cell 1
  have c0 : w.cell? ⟨X.r, 0, none⟩ = some (.map (some B.nb)) := by
    have := h.blk.cell 0
    rw [this]
    show some (Value.map (nmO z.names B.nb)) = _
    rw [hnm]; rfl
  have c5 := hfm.c5
  have s2 : w.cell? ⟨fb, z.fn * 6 + 2, none⟩ = some (.int .i64 f.slots) := by rw [hfm.c 2 (by decide), ← hkf]; rfl
  have hfl := hfm.lt
  have hff := hfm.fz
  have hf1 : (z.fn : Int) < (B.K.length : Int) := by have := hfm.gl; omega
  have hf := h.blk.free
  have hl := h.blk.lt
  have gl := h.x.nc.1.lt
  have hi2 : (i : Int) < (X.L.length : Int) := by omega
  have lk := fun (q : Nat) => MS.look (w := w.drewN q) (((h.x.nams (by decide) m hnm).1).keep rfl) htm
  have lk1 := MS.look (w := w.drew) (((h.x.nams (by decide) m hnm).1).keep rfl) htm
  have lk2 := MS.look (w := w.drew.drew) (((h.x.nams (by decide) m hnm).1).keep rfl) htm
  have H := hid h
  have HUE := hid hue
  have HI := hid hi
  have HFM := hid hfm
  have HKF := hid hkf
  have HFN := hid hfn
  have hbnd := h.x.bf f (List.mem_of_getElem? hfn)
  have HBND := hid hbnd
  have W2 := hid (fun (y : Nat) => h.bw (bw_drewN w y))
  generalize zT X.L i = t at ct lk lk1 lk2 hz
  generalize hmt : m t = mt at lk lk1 lk2 hz
  clear h hu1 hue htm huρ hi hfm hkf hfn hnm hmt hbnd
  cases mt with
  | some x =>
    simp only [Option.isSome_some, if_true] at hz
    cases hz
    simp only [Option.isSome_some, Option.getD_some] at lk lk1 lk2
    go_enter Tryd.func76, Tryd.ntmps76
    go_upto_region 0 with fail
    go_region
    go_upto_region 1 with fail
    go_region
    all_goals go_wp2_with (first
      | (go_at_call 71; refine (fail_any (H.out.bw (by repeat (first | exact Bw.refl _ | apply Bw.alloc | apply Bw.drewN | apply Bw.drew))) i 80).mono ?_; rintro e w1 ⟨rfl, hr, hn⟩; have R := hid hr; have N := hid (show NX B.ρ w w1 B.ρ from (NX.of_bw B.ρ (by repeat (first | exact Bw.refl _ | apply Bw.alloc | apply Bw.drewN | apply Bw.drew))).trans hn); clear hr hn)
      | fail)
    all_goals go_end0
    all_goals exact ⟨rfl, Zp.self R.out N.out⟩
  | none =>
    simp only [Option.isSome_none, Bool.false_eq_true, if_false] at hz
    simp only [Option.isSome_none, Option.getD_none] at lk lk1 lk2
    by_cases h256 : f.slots = 256
    · rw [if_pos h256] at hz
      cases hz
      have e1 : (f.slots == 256) = true := by simpa using h256
      clear h256
      go_enter Tryd.func76, Tryd.ntmps76
      go_upto_region 0 with fail
      go_region
      go_upto_region 1 with fail
      go_region
      all_goals go_wp2_with (first
        | (go_at_call 71; refine (fail_any (H.out.bw (by repeat (first | exact Bw.refl _ | apply Bw.alloc | apply Bw.drewN | apply Bw.drew))) i 3).mono ?_; rintro e w1 ⟨rfl, hr, hn⟩; have R := hid hr; have N := hid (show NX B.ρ w w1 B.ρ from (NX.of_bw B.ρ (by repeat (first | exact Bw.refl _ | apply Bw.alloc | apply Bw.drewN | apply Bw.drew))).trans hn); clear hr hn)
        | fail)
      all_goals go_end0
      all_goals exact ⟨rfl, Zp.self R.out N.out⟩
    · rw [if_neg h256] at hz
      by_cases hdl : z.declared.length < 100000
      case neg => rw [if_neg hdl] at hz; cases hz
      rw [if_pos hdl] at hz
      cases hz
      have e1 : (f.slots == 256) = false := by simpa using h256
      obtain ⟨da, dc, hdv⟩ := own_form (H.out.x.decl (by decide)).1
      have c9 : w.cell? ⟨X.r, 9, none⟩ = some (.slice da z.declared.length dc) := by
        have := H.out.blk.cell 9
        rw [this]
        exact congrArg some hdv
      have HS2 := hid (show f.slots + 1 ≤ 256 ∧ 0 ≤ f.slots by have := HBND.out; omega)
      obtain ⟨n, hn⟩ : ∃ n, z.declared.length = n := ⟨_, rfl⟩
      have HN := hid hn
      rw [hn] at c9 hdv hdl
      have HDV := hid hdv
      have HDL := hid hdl
      have HR := hid (H.out.use HI.out HUE.out 1 n)
      clear h256 hdl hdv hn
      go_enter Tryd.func76, Tryd.ntmps76
      go_upto_region 0 with fail
      go_region
      go_upto_region 1 with fail
      go_region
      all_goals go_upto_region 2 with fail
      all_goals go_region
      go_upto_region 3 with fail
      have R2 := hid (HR.out.1.bw (w' := ((w.setCell ⟨ub, i * 2, none⟩ (.int .i64 1)).setCell ⟨ub, i * 2 + 1, none⟩ (.int .i64 n)).drew.drew.drew) (Bw.drew (Bw.drew (Bw.drew (Bw.refl _)))))
      have N2 := hid (HR.out.2.bw (c := ((w.setCell ⟨ub, i * 2, none⟩ (.int .i64 1)).setCell ⟨ub, i * 2 + 1, none⟩ (.int .i64 n)).drew.drew.drew) (Bw.drew (Bw.drew (Bw.drew (Bw.refl _)))))
      clear HR
      generalize hw2 : World.drew (World.drew (World.drew ((w.setCell ⟨ub, i * 2, none⟩ (.int .i64 1)).setCell ⟨ub, i * 2 + 1, none⟩ (.int .i64 n)))) = w2 at R2 N2 ⊢
      clear hw2
      obtain ⟨i1, I1⟩ := info_parts8 infoDe
      have I1 := hid I1
      have HS := hid (fun (W' : World) (hb : Bw w2 W') => (⟨(by have := (R2.out.bw hb).blk.cell 9; rw [this]; exact congrArg some HDV.out), (R2.out.bw hb).blk.cell 1, (by have := ((R2.out.bw hb).fu2 HFM.out.kk HFM.out.fv).c 2 (by decide); rw [this, ← HKF.out]; rfl)⟩ : W'.cell? ⟨X.r, 9, none⟩ = some (.slice da n dc) ∧ W'.cell? ⟨X.r, 1, none⟩ = some (.int .i64 z.fn) ∧ W'.cell? ⟨fb, z.fn * 6 + 2, none⟩ = some (.int .i64 f.slots)))
      have OW := hid (fun (W' : World) (hb : Bw w2 W') => (show W'.ownsRow 0 99 3 (.slice da n dc) n (rowD z.declared) from by have := ((R2.out.bw hb).x.decl (by decide)).1; rw [HDV.out] at this; rw [show (zuse z i (1, (n : Int))).declared.length = n from HN.out] at this; exact this))
      clear c0 c1 c5 c6 c9 cn ct s2 u0 u1 hul huf hune hfl hff hf hl gl lk lk1 lk2
      refine wp_region_W (fun w' => w'.cell? ⟨X.r, 9, none⟩ = some (.slice da n dc) ∧ w'.cell? ⟨X.r, 1, none⟩ = some (.int .i64 z.fn) ∧ w'.cell? ⟨fb, z.fn * 6 + 2, none⟩ = some (.int .i64 f.slots)) (fun j => if j == 16 || j == 17 then 0 else if j == 20 then 2 else 1) (by kernel_rfl) ?_
      refine wpAnyW_take (i := 0) (oi := _) (v := ?_) rfl (by kernel_rfl) (by kernel_rfl) (by kernel_rfl) (by kernel_rfl) (fun _ _ _ h => h) (Or.inl ⟨by rfl, fun w _ => ?_⟩) ?_
      rotate_left
      · (go_simp; first | done | with_reducible rfl)
      try simp only [Act.put, List.setIfInBounds_toArray, List.set_cons_zero, List.set_cons_succ]
      refine wpAnyW_take (i := 1) (oi := _) (v := ?_) rfl (by kernel_rfl) (by kernel_rfl) (by kernel_rfl) (by kernel_rfl) (fun _ _ _ h => h) (Or.inl ⟨by rfl, fun w _ => ?_⟩) ?_
      rotate_left
      · (go_simp; first | done | with_reducible rfl)
      try simp only [Act.put, List.setIfInBounds_toArray, List.set_cons_zero, List.set_cons_succ]
      refine wpAnyW_take (i := 2) (oi := _) (v := ?_) rfl (by kernel_rfl) (by kernel_rfl) (by kernel_rfl) (by kernel_rfl) (fun _ _ _ h => h) (Or.inl ⟨by rfl, fun w _ => ?_⟩) ?_
      rotate_left
      · (go_simp; first | done | with_reducible rfl)
      try simp only [Act.put, List.setIfInBounds_toArray, List.set_cons_zero, List.set_cons_succ]
      refine wpAnyW_take (i := 3) (oi := _) (v := ?_) rfl (by kernel_rfl) (by kernel_rfl) (by kernel_rfl) (by kernel_rfl) (fun _ _ _ h => h) (Or.inl ⟨by rfl, fun w _ => ?_⟩) ?_
      rotate_left
      · (go_simp; first | done | with_reducible rfl)
      try simp only [Act.put, List.setIfInBounds_toArray, List.set_cons_zero, List.set_cons_succ]
      refine wpAnyW_load (i := 4) (oi := _) (v := ?_) rfl (by kernel_rfl) (by kernel_rfl) (by kernel_rfl) (by kernel_rfl) (by kernel_rfl) (fun _ _ _ h => h) (Or.inl ⟨by rfl, fun w hS => ?_⟩) (HS.out _ (Bw.drew (Bw.refl _))) ?_
      rotate_left
      · (obtain ⟨s1, s2, s3⟩ := hS; go_simp; first | done | with_reducible rfl)
      try simp only [Act.put, List.setIfInBounds_toArray, List.set_cons_zero, List.set_cons_succ]
      refine wpAnyW_take (i := 5) (oi := _) (v := ?_) rfl (by kernel_rfl) (by kernel_rfl) (by kernel_rfl) (by kernel_rfl) (fun _ _ _ h => h) (Or.inl ⟨by rfl, fun w _ => ?_⟩) ?_
      rotate_left
      · (go_simp; first | done | with_reducible rfl)
      try simp only [Act.put, List.setIfInBounds_toArray, List.set_cons_zero, List.set_cons_succ]
      refine wpAnyW_take (i := 6) (oi := _) (v := ?_) rfl (by kernel_rfl) (by kernel_rfl) (by kernel_rfl) (by kernel_rfl) (fun _ _ _ h => h) (Or.inl ⟨by rfl, fun w _ => ?_⟩) ?_
      rotate_left
      · (go_simp; first | done | with_reducible rfl)
      try simp only [Act.put, List.setIfInBounds_toArray, List.set_cons_zero, List.set_cons_succ]
      refine wpAnyW_take (i := 7) (oi := _) (v := ?_) rfl (by kernel_rfl) (by kernel_rfl) (by kernel_rfl) (by kernel_rfl) (fun _ _ _ h => h) (Or.inl ⟨by rfl, fun w _ => ?_⟩) ?_
      rotate_left
      · (go_simp; first | done | with_reducible rfl)
      try simp only [Act.put, List.setIfInBounds_toArray, List.set_cons_zero, List.set_cons_succ]
      refine wpAnyW_take (i := 8) (oi := _) (v := ?_) rfl (by kernel_rfl) (by kernel_rfl) (by kernel_rfl) (by kernel_rfl) (fun _ _ _ h => h) (Or.inl ⟨by rfl, fun w _ => ?_⟩) ?_
      rotate_left
      · (go_simp; first | done | with_reducible rfl)
      try simp only [Act.put, List.setIfInBounds_toArray, List.set_cons_zero, List.set_cons_succ]
      refine wpAnyW_load (i := 9) (oi := _) (v := ?_) rfl (by kernel_rfl) (by kernel_rfl) (by kernel_rfl) (by kernel_rfl) (by kernel_rfl) (fun _ _ _ h => h) (Or.inl ⟨by rfl, fun w hS => ?_⟩) (HS.out _ (Bw.drew (Bw.refl _))) ?_
      rotate_left
      · (obtain ⟨s1, s2, s3⟩ := hS; go_simp; first | done | with_reducible rfl)
      try simp only [Act.put, List.setIfInBounds_toArray, List.set_cons_zero, List.set_cons_succ]
      refine wpAnyW_take (i := 10) (oi := _) (v := ?_) rfl (by kernel_rfl) (by kernel_rfl) (by kernel_rfl) (by kernel_rfl) (fun _ _ _ h => h) (Or.inl ⟨by rfl, fun w _ => ?_⟩) ?_
      rotate_left
      · (go_simp; first | done | with_reducible rfl)
      try simp only [Act.put, List.setIfInBounds_toArray, List.set_cons_zero, List.set_cons_succ]
      refine wpAnyW_take (i := 11) (oi := _) (v := ?_) rfl (by kernel_rfl) (by kernel_rfl) (by kernel_rfl) (by kernel_rfl) (fun _ _ _ h => h) (Or.inl ⟨by rfl, fun w _ => ?_⟩) ?_
      rotate_left
      · (go_simp; first | done | with_reducible rfl)
      try simp only [Act.put, List.setIfInBounds_toArray, List.set_cons_zero, List.set_cons_succ]
      refine wpAnyW_take (i := 12) (oi := _) (v := ?_) rfl (by kernel_rfl) (by kernel_rfl) (by kernel_rfl) (by kernel_rfl) (fun _ _ _ h => h) (Or.inl ⟨by rfl, fun w _ => ?_⟩) ?_
      rotate_left
      · (go_simp; first | done | with_reducible rfl)
      try simp only [Act.put, List.setIfInBounds_toArray, List.set_cons_zero, List.set_cons_succ]
      refine wpAnyW_take (i := 13) (oi := _) (v := ?_) rfl (by kernel_rfl) (by kernel_rfl) (by kernel_rfl) (by kernel_rfl) (fun _ _ _ h => h) (Or.inl ⟨by rfl, fun w _ => ?_⟩) ?_
      rotate_left
      · (go_simp; first | done | with_reducible rfl)
      try simp only [Act.put, List.setIfInBounds_toArray, List.set_cons_zero, List.set_cons_succ]
      refine wpAnyW_load (i := 14) (oi := _) (v := ?_) rfl (by kernel_rfl) (by kernel_rfl) (by kernel_rfl) (by kernel_rfl) (by kernel_rfl) (fun _ _ _ h => h) (Or.inl ⟨by rfl, fun w hS => ?_⟩) (HS.out _ (Bw.drew (Bw.refl _))) ?_
      rotate_left
      · (obtain ⟨s1, s2, s3⟩ := hS; go_simp; first | done | with_reducible rfl)
      try simp only [Act.put, List.setIfInBounds_toArray, List.set_cons_zero, List.set_cons_succ]
      refine wpAnyW_take (i := 15) (oi := _) (v := ?_) rfl (by kernel_rfl) (by kernel_rfl) (by kernel_rfl) (by kernel_rfl) (fun _ _ _ h => h) (Or.inl ⟨by rfl, fun w _ => ?_⟩) ?_
      rotate_left
      · (go_simp; first | done | with_reducible rfl)
      try simp only [Act.put, List.setIfInBounds_toArray, List.set_cons_zero, List.set_cons_succ]
      refine wpAnyW_ready (rs := [16]) (by kernel_rfl) (by simp) ?_
      refine (AllReadyW.cons (o := _) rfl (fun K hK => ?_) AllReadyW.nil)
      go_simp
      refine hK.out _ _ (HS.out _ (Bw.alloc (Bw.drew (Bw.refl _)) _)) ?_
      clear hK K
      try simp only [Act.put, List.setIfInBounds_toArray, List.set_cons_zero, List.set_cons_succ]
      refine wpAnyW_ready (rs := [17]) (by kernel_rfl) (by simp) ?_
      refine (AllReadyW.cons (o := _) rfl (fun K hK => ?_) AllReadyW.nil)
      refine step_append_row rfl _ _ 69 rfl 99 i1 _ 3 24 undD8 I1.out.1 I1.out.2.1 I1.out.2.2.1 I1.out.2.2.2 rfl (by decide) (.slice da n dc) n (rowD z.declared) rfl (OW.out _ (Bw.alloc (Bw.drew (Bw.refl _)) _)) ⟨w2.heap.size, 0, none⟩ 1 1 [.int .i64 z.fn, .int .i64 f.slots, .bool false] rfl rfl (new_news w2.drew [.int .i64 z.fn, .int .i64 f.slots, .bool false] 99) (by intro u hu; simp at hu; rcases hu with rfl | rfl | rfl <;> rfl) (by have := HDL.out; unfold maxLen; omega) (by have := HDL.out; omega) ?_
      intro v1 w3 ho1 hg1 hvb1
      have S3 := hid (show w3.cell? ⟨X.r, 9, none⟩ = some (.slice da n dc) ∧ w3.cell? ⟨X.r, 1, none⟩ = some (.int .i64 z.fn) ∧ w3.cell? ⟨fb, z.fn * 6 + 2, none⟩ = some (.int .i64 f.slots) from by have RA := R2.out.bw (w' := (w2.drew.alloc (.cells #[.int .i64 z.fn, .int .i64 f.slots, .bool false] 99))) (Bw.alloc (Bw.drew (Bw.refl _)) _); have sA := HS.out (w2.drew.alloc (.cells #[.int .i64 z.fn, .int .i64 f.slots, .bool false] 99)) (Bw.alloc (Bw.drew (Bw.refl _)) _); have hρ5 := (RA.x.decl (by decide)).2; rw [HDV.out] at hρ5; have FA := RA.fu2 HFM.out.kk HFM.out.fv; have k1 : w3.heap[X.r]? = ((w2.drew.alloc (.cells #[.int .i64 z.fn, .int .i64 f.slots, .bool false] 99))).heap[X.r]? := hg1.block _ RA.blk.lt (fun e => by have h5 := hρ5 X.r e.symm; rw [RA.x.rr] at h5; cases h5); have k2 : w3.heap[fb]? = ((w2.drew.alloc (.cells #[.int .i64 z.fn, .int .i64 f.slots, .bool false] 99))).heap[fb]? := hg1.block _ FA.lt (fun e => by have h5 := hρ5 fb e.symm; rw [FA.ρ] at h5; cases h5); exact ⟨(World.cell?_of_block k1).trans sA.1, (World.cell?_of_block k1).trans sA.2.1, (World.cell?_of_block k2).trans sA.2.2⟩)
      obtain ⟨ρ1, hr1, hn1, q9, q1, qf⟩ := (R2.out.bw (w' := (w2.drew.alloc (.cells #[.int .i64 z.fn, .int .i64 f.slots, .bool false] 99))) (Bw.alloc (Bw.drew (Bw.refl _)) _)).dec HDV.out HN.out ⟨z.fn, f.slots, false⟩ HDL.out ho1 hg1 hvb1
      have R3 := hid hr1
      have N3 := hid (show NX B.ρ w _ ρ1 from (N2.out.bw (c := (w2.drew.alloc (.cells #[.int .i64 z.fn, .int .i64 f.slots, .bool false] 99))) (Bw.alloc (Bw.drew (Bw.refl _)) _)).trans hn1)
      obtain ⟨a1, cc1, e1⟩ := own_form ho1
      subst e1
      clear ho1 hg1 hvb1 hr1 hn1
      refine hK.out _ _ S3.out ?_
      clear hK K
      try simp only [Act.put, List.setIfInBounds_toArray, List.set_cons_zero, List.set_cons_succ]
      refine wpAnyW_take (i := 18) (oi := _) (v := ?_) rfl (by kernel_rfl) (by kernel_rfl) (by kernel_rfl) (by kernel_rfl) (fun _ _ _ h => h) (Or.inl ⟨by rfl, fun w _ => ?_⟩) ?_
      rotate_left
      · (go_simp; first | done | with_reducible rfl)
      try simp only [Act.put, List.setIfInBounds_toArray, List.set_cons_zero, List.set_cons_succ]
      refine wpAnyW_take (i := 19) (oi := _) (v := ?_) rfl (by kernel_rfl) (by kernel_rfl) (by kernel_rfl) (by kernel_rfl) (fun _ _ _ h => h) (Or.inl ⟨by rfl, fun w _ => ?_⟩) ?_
      rotate_left
      · (go_simp; first | done | with_reducible rfl)
      try simp only [Act.put, List.setIfInBounds_toArray, List.set_cons_zero, List.set_cons_succ]
      refine wpAnyW_ready (rs := [20]) (by kernel_rfl) (by simp) ?_
      refine (AllReadyW.cons (o := _) rfl (fun K hK => ?_) AllReadyW.nil)
      go_simp
      refine hK.out _ _ trivial ?_
      clear hK K
      try simp only [Act.put, List.setIfInBounds_toArray, List.set_cons_zero, List.set_cons_succ]
      refine wpAnyW_done (by kernel_rfl) ?_ _
      generalize World.setCell w3 ⟨X.r, 9, none⟩ (.slice a1 (n + 1) cc1) = w4 at R3 N3 ⊢
      have F4 := R3.out.fu2 HFM.out.kk HFM.out.fv
      have y2 : w4.cell? ⟨fb, z.fn * 6 + 2, none⟩ = some (.int .i64 f.slots) := by have := F4.c 2 (by decide); rw [this, ← HKF.out]; rfl
      have yl := F4.lt
      have yf := F4.fz
      have E := hid (R3.out.setF F4 (j := 2) (by decide) (f' := { k.f with slots := f.slots + 1 }) (v := .int .i64 (f.slots + 1)) rfl rfl rfl (by have := HS2.out; simp only; omega))
      have hwr : IntKind.i64.wrap (f.slots + 1) = f.slots + 1 := by have := HS2.out; rw [IntKind.wrap_i64]; omega
      clear F4 q9 q1 qf
      go_wp2
      all_goals go_end0
      all_goals try rw [hwr]
      all_goals have HNF := hid (N3.out.trans E.out.2)
      all_goals have e := E.out.1
      all_goals try rw [HKF.out] at e
      all_goals rw [HN.out]
      all_goals exact ⟨rfl, _, e, HNF.out⟩
end
end Go.Proofs.YtekkjpecdflajaaDoor

