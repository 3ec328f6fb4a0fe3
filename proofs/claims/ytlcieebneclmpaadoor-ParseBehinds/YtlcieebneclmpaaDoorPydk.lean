/- A block: contract. -/
import Derived.Test.YtlcieebneclmpaaDoorK5
import Derived.Test.YtlcieebneclmpaaDoorK6
set_option linter.unusedSimpArgs false
set_option linter.unusedVariables false
namespace Go.Proofs.YtlcieebneclmpaaDoor
open Go Go.RowKit

section
variable {B : World} {r g cap : Nat} {T : List ATok} {ex : Nat → Value}

set_option maxRecDepth 100000 in
set_option maxHeartbeats 8000000 in
theorem block_any (f : Nat) (hst : ∀ f', f' ≤ f → RdP B r g cap T ex f' 45 #[.pointer (some ⟨r, 0, none⟩)] .stmt) : RdP B r g cap T ex (f + 1) 59 #[.pointer (some ⟨r, 0, none⟩)] .block := by
  intro w i o h ho hne
  have e : pP T (f + 1) .block i o = entr T ⟨#[123]⟩ i o fun j o => pP T f (.stmts (tk T i).2.2.2 []) j o := by
    simp only [pP]
  rw [e] at hne ⊢
  have HS := hid (SI.begin h)
  have HC := hid hst
  have HR0 := hid h.k.lt
  have HBB := hid h.kb.size
  have HLL := hid h.len
  obtain ⟨i1, hi1, hz1, hs1, hy1⟩ := info_parts infoPp
  have I1 := hid (And.intro hi1 (And.intro hz1 (And.intro hs1 hy1)))
  clear hi1 hz1 hs1 hy1
  have zz := HS.out.ri.k.cell; have zf := HS.out.ri.k.free; have zl := HS.out.ri.k.lt
  clear h hst e
  unfold entr at hne ⊢
  cases hb : isT T i ⟨#[123]⟩
  · rw [if_neg (by decide)]
    have HI := hid hb
    have HO := hid ho
    unfold here
    clear hne hb
    go_enter Tryd.func59, Tryd.ntmps59
    go_wp2_with (first
      | (go_at_call 77; refine (enter_no _ (HS.out.ri.bw (by repeat (first | exact Bw.refl _ | apply Bw.alloc | apply Bw.drewN | apply Bw.drew))) HI.out HO.out).mono ?_; rintro e w1 ⟨rfl, hk1⟩; have HK := hid ((HS.out.kp.bw (by repeat (first | exact Bw.refl _ | apply Bw.alloc | apply Bw.drewN | apply Bw.drew))).trans hk1); clear hk1)
      | fail)
    all_goals exact ⟨rfl, rfl, HK.out⟩
  · rw [hb, if_pos rfl] at hne
    rw [if_pos rfl]
    have HI := hid hb
    clear hb
    by_cases h64 : o = 64
    · rw [if_pos h64]
      have H64 := hid h64
      unfold here
      clear hne h64
      go_enter Tryd.func59, Tryd.ntmps59
      go_wp2_with (first
        | (go_at_call 77; refine (enter_many _ (HS.out.ri.bw (by repeat (first | exact Bw.refl _ | apply Bw.alloc | apply Bw.drewN | apply Bw.drew))) HI.out H64.out).mono ?_; rintro e w1 ⟨rfl, hk1⟩; have HK := hid ((HS.out.kp.bw (by repeat (first | exact Bw.refl _ | apply Bw.alloc | apply Bw.drewN | apply Bw.drew))).trans hk1); clear hk1)
        | fail)
      all_goals exact ⟨rfl, rfl, HK.out⟩
    · rw [if_neg h64] at hne ⊢
      dsimp only at hne ⊢
      have H64 := hid (show o < 64 by omega)
      have H65 := hid (show o + 1 ≤ 64 by omega)
      clear h64
      generalize hr : pP T f (.stmts (tk T i).2.2.2 []) (i + 1) (o + 1) = R9 at hne ⊢
      have HR := hid hr
      have HNR := hid hne
      clear hr hne
      go_enter Tryd.func59, Tryd.ntmps59
      go_wp2_with (first
        | (go_at_call 77; refine (enter_yes _ (HS.out.ri.bw (by repeat (first | exact Bw.refl _ | apply Bw.alloc | apply Bw.drewN | apply Bw.drew))) HI.out H64.out).mono ?_; rintro e w1 ⟨rfl, hr1, hk1⟩; have HS := hid ((HS.out.bw (by repeat (first | exact Bw.refl _ | apply Bw.alloc | apply Bw.drewN | apply Bw.drew))).go hr1 hk1); have zz := HS.out.ri.k.cell; have zf := HS.out.ri.k.free; have zl := HS.out.ri.k.lt; clear hr1 hk1)
        | (go_at_call 43; refine (made_any _ _ _ [] [] _ _ (HS.out.bw (by repeat (first | exact Bw.refl _ | apply Bw.alloc | apply Bw.drewN | apply Bw.drew))).row0.1 (HS.out.bw (by repeat (first | exact Bw.refl _ | apply Bw.alloc | apply Bw.drewN | apply Bw.drew))).row0.2).mono ?_; rintro e w3 ⟨b3, rfl, hp3, hb3, hn3, hc3⟩; have HX := hid (XI.new (w := w) hc3 (Nat.le_trans (HS.out.bw (by repeat (first | exact Bw.refl _ | apply Bw.alloc | apply Bw.drewN | apply Bw.drew))).kp.size hn3)); have HS := hid ((HS.out.bw (by repeat (first | exact Bw.refl _ | apply Bw.alloc | apply Bw.drewN | apply Bw.drew))).put hb3 hp3).drop; have zz := HS.out.ri.k.cell; have zf := HS.out.ri.k.free; have zl := HS.out.ri.k.lt; clear hp3 hb3)
        | fail)
      go_loopw [9] (fun _ wr => ∃ f' acc av cv i', f' ≤ f ∧ pP T f' (.stmts (tk T i).2.2.2 acc) i' (o + 1) = R9 ∧ SI B w No wr r g cap T ex i' (o + 1) [] ∧ XI w wr b3 2 [] 0 (tk T i).2.2.2 (.slice av acc.length cv) acc ∧ acc.length ≤ i') (fun _ wr => T.length - nxt wr r)
      case atStart => exact ⟨f, [], none, 0, (i + 1), Nat.le_refl _, HR.out, HS.out, HX.out, by simp⟩
      case round =>
        clear HS HR HX zz zf zl
        obtain ⟨f', acc, av, cv, i', hf, hr, hs, hx, hla⟩ := hrel
        rename World => wr
        have HS := hid hs
        have HX := hid hx
        have x5 := HX.out.2.1.cell 5
        have xl := HX.out.2.1.lt
        have hll := HLL.out
        have zz := HS.out.ri.k.cell; have zf := HS.out.ri.k.free; have zl := HS.out.ri.k.lt
        cases f' with
        | zero => exact absurd hr.symm HNR.out
        | succ f' =>
        have hnx : nxt wr r = i' := hs.ri.nx
        have hil := hs.ri.lt
        rw [hnx]
        clear hs hx
        simp only [pP] at hr
        cases ho1 : isT T i' ⟨#[125]⟩
        · rw [ho1, if_neg (by decide)] at hr
          have HNE := hid (show pP T f' .stmt i' (o + 1) ≠ .out from fun q => HNR.out (by rw [← hr, q]; rfl))
          generalize hq : pP T f' .stmt i' (o + 1) = R1 at hr
          have HQ := hid hq
          clear hq
          cases R1 with
          | out => exact absurd HQ.out HNE.out
          | bad n m =>
            simp only [Res.bind] at hr
            subst hr
            go_upto_region 3 with (first
              | (go_at_call 58; refine (is_any _ (HS.out.ri.bw (by repeat (first | exact Bw.refl _ | apply Bw.alloc | apply Bw.drewN | apply Bw.drew)))).mono ?_; rintro e w1 ⟨rfl, hb1⟩; have HX := hid (HX.out.bw (Bw.trans (by repeat (first | exact Bw.refl _ | apply Bw.alloc | apply Bw.drewN | apply Bw.drew)) hb1)); have x5 := HX.out.2.1.cell 5; have xl := HX.out.2.1.lt; have HS := hid (HS.out.bw (Bw.trans (by repeat (first | exact Bw.refl _ | apply Bw.alloc | apply Bw.drewN | apply Bw.drew)) hb1)); have zz := HS.out.ri.k.cell; have zf := HS.out.ri.k.free; have zl := HS.out.ri.k.lt; clear hb1)
              | fail)
            refine wp_region_W (fun w' => w'.cell? ⟨b3, 5, none⟩ = some (.slice av acc.length cv)) (fun j => if j == 6 then 0 else 1) (by kernel_rfl) ?_
            refine wpAnyW_take (i := 0) (oi := { dst := some 10, op := Op.move (Operand.tmp 3), type := 57, pos := "statement.go:16", after := #[], guard := none }) (v := ?_) rfl (by kernel_rfl) (by kernel_rfl) (by kernel_rfl) (by kernel_rfl) (fun _ _ _ h => h) (Or.inl ⟨by rfl, fun w _ => ?_⟩) ?_
            rotate_left
            · (go_simp; first | done | with_reducible rfl)
            try simp only [Act.put, List.setIfInBounds_toArray, List.set_cons_zero, List.set_cons_succ]
            refine wpAnyW_take (i := 1) (oi := { dst := some 11, op := Op.move (Operand.tmp 3), type := 57, pos := "statement.go:16", after := #[], guard := none }) (v := ?_) rfl (by kernel_rfl) (by kernel_rfl) (by kernel_rfl) (by kernel_rfl) (fun _ _ _ h => h) (Or.inl ⟨by rfl, fun w _ => ?_⟩) ?_
            rotate_left
            · (go_simp; first | done | with_reducible rfl)
            try simp only [Act.put, List.setIfInBounds_toArray, List.set_cons_zero, List.set_cons_succ]
            refine wpAnyW_take (i := 2) (oi := { dst := some 12, op := Op.nilCheck (Operand.tmp 11), type := 0, pos := "statement.go:16", after := #[{ on := 1, ground := Ground.data }], guard := none }) (v := ?_) rfl (by kernel_rfl) (by kernel_rfl) (by kernel_rfl) (by kernel_rfl) (fun _ _ _ h => h) (Or.inl ⟨by rfl, fun w _ => ?_⟩) ?_
            rotate_left
            · (go_simp; first | done | with_reducible rfl)
            try simp only [Act.put, List.setIfInBounds_toArray, List.set_cons_zero, List.set_cons_succ]
            refine wpAnyW_take (i := 3) (oi := { dst := some 13, op := Op.fieldAddr 83 (Operand.tmp 12) 1, type := 0, pos := "statement.go:16", after := #[{ on := 2, ground := Ground.data }], guard := none }) (v := ?_) rfl (by kernel_rfl) (by kernel_rfl) (by kernel_rfl) (by kernel_rfl) (fun _ _ _ h => h) (Or.inl ⟨by rfl, fun w _ => ?_⟩) ?_
            rotate_left
            · (go_simp; first | done | with_reducible rfl)
            try simp only [Act.put, List.setIfInBounds_toArray, List.set_cons_zero, List.set_cons_succ]
            refine wpAnyW_load (i := 4) (oi := { dst := some 14, op := Op.load 81 (Operand.tmp 13), type := 81, pos := "statement.go:16", after := #[{ on := 3, ground := Ground.data }], guard := none }) (v := ?_) rfl (by kernel_rfl) (by kernel_rfl) (by kernel_rfl) (by kernel_rfl) (by kernel_rfl) (fun _ _ _ h => h) (Or.inl ⟨by rfl, fun w hS => ?_⟩) (by first | exact x5 | (simp [go_sem]; done) | (simp [go_sem, *]; done)) ?_
            rotate_left
            · (skip; go_simp; first | done | with_reducible rfl)
            try simp only [Act.put, List.setIfInBounds_toArray, List.set_cons_zero, List.set_cons_succ]
            refine wpAnyW_take (i := 5) (oi := { dst := some 15, op := Op.move (Operand.tmp 0), type := 58, pos := "statement.go:16", after := #[], guard := none }) (v := ?_) rfl (by kernel_rfl) (by kernel_rfl) (by kernel_rfl) (by kernel_rfl) (fun _ _ _ h => h) (Or.inl ⟨by rfl, fun w _ => ?_⟩) ?_
            rotate_left
            · (go_simp; first | done | with_reducible rfl)
            try simp only [Act.put, List.setIfInBounds_toArray, List.set_cons_zero, List.set_cons_succ]
            refine wpAnyW_ready (rs := [6]) (by kernel_rfl) (by simp) ?_
            refine (AllReadyW.cons (o := { dst := some 16, op := Op.call { callee := Callee.value (Operand.func 45), args := #[Operand.tmp 15], argTypes := #[58] }, type := 57, pos := "statement.go:16", after := #[{ on := 5, ground := Ground.data }], guard := none }) rfl (fun K hK => ?_) AllReadyW.nil)
            go_simp
            refine (HC.out f' (by omega) _ _ _ (HS.out.ri.bw (by repeat (first | exact Bw.refl _ | apply Bw.alloc | apply Bw.drewN | apply Bw.drew))) H65.out HNE.out).mono ?_
            intro e w2 h2
            rw [HQ.out] at h2
            obtain ⟨he2, hk2⟩ := h2
            subst he2
            exact ⟨rfl, rfl, (HS.out.kp.bw (by repeat (first | exact Bw.refl _ | apply Bw.alloc | apply Bw.drewN | apply Bw.drew))).trans hk2⟩
          | ok y c1 j1 =>
            simp only [Res.bind] at hr
            have HR := hid hr
            have hj := stmt_lt HQ.out
            clear hr
            go_upto_region 3 with (first
              | (go_at_call 58; refine (is_any _ (HS.out.ri.bw (by repeat (first | exact Bw.refl _ | apply Bw.alloc | apply Bw.drewN | apply Bw.drew)))).mono ?_; rintro e w1 ⟨rfl, hb1⟩; have HX := hid (HX.out.bw (Bw.trans (by repeat (first | exact Bw.refl _ | apply Bw.alloc | apply Bw.drewN | apply Bw.drew)) hb1)); have x5 := HX.out.2.1.cell 5; have xl := HX.out.2.1.lt; have HS := hid (HS.out.bw (Bw.trans (by repeat (first | exact Bw.refl _ | apply Bw.alloc | apply Bw.drewN | apply Bw.drew)) hb1)); have zz := HS.out.ri.k.cell; have zf := HS.out.ri.k.free; have zl := HS.out.ri.k.lt; clear hb1)
              | fail)
            refine wp_region_W (fun w' => w'.cell? ⟨b3, 5, none⟩ = some (.slice av acc.length cv)) (fun j => if j == 6 || j == 7 then 0 else if j == 8 || j == 11 then 2 else 1) (by kernel_rfl) ?_
            refine wpAnyW_take (i := 0) (oi := { dst := some 10, op := Op.move (Operand.tmp 3), type := 57, pos := "statement.go:16", after := #[], guard := none }) (v := ?_) rfl (by kernel_rfl) (by kernel_rfl) (by kernel_rfl) (by kernel_rfl) (fun _ _ _ h => h) (Or.inl ⟨by rfl, fun w _ => ?_⟩) ?_
            rotate_left
            · (go_simp; first | done | with_reducible rfl)
            try simp only [Act.put, List.setIfInBounds_toArray, List.set_cons_zero, List.set_cons_succ]
            refine wpAnyW_take (i := 1) (oi := { dst := some 11, op := Op.move (Operand.tmp 3), type := 57, pos := "statement.go:16", after := #[], guard := none }) (v := ?_) rfl (by kernel_rfl) (by kernel_rfl) (by kernel_rfl) (by kernel_rfl) (fun _ _ _ h => h) (Or.inl ⟨by rfl, fun w _ => ?_⟩) ?_
            rotate_left
            · (go_simp; first | done | with_reducible rfl)
            try simp only [Act.put, List.setIfInBounds_toArray, List.set_cons_zero, List.set_cons_succ]
            refine wpAnyW_take (i := 2) (oi := { dst := some 12, op := Op.nilCheck (Operand.tmp 11), type := 0, pos := "statement.go:16", after := #[{ on := 1, ground := Ground.data }], guard := none }) (v := ?_) rfl (by kernel_rfl) (by kernel_rfl) (by kernel_rfl) (by kernel_rfl) (fun _ _ _ h => h) (Or.inl ⟨by rfl, fun w _ => ?_⟩) ?_
            rotate_left
            · (go_simp; first | done | with_reducible rfl)
            try simp only [Act.put, List.setIfInBounds_toArray, List.set_cons_zero, List.set_cons_succ]
            refine wpAnyW_take (i := 3) (oi := { dst := some 13, op := Op.fieldAddr 83 (Operand.tmp 12) 1, type := 0, pos := "statement.go:16", after := #[{ on := 2, ground := Ground.data }], guard := none }) (v := ?_) rfl (by kernel_rfl) (by kernel_rfl) (by kernel_rfl) (by kernel_rfl) (fun _ _ _ h => h) (Or.inl ⟨by rfl, fun w _ => ?_⟩) ?_
            rotate_left
            · (go_simp; first | done | with_reducible rfl)
            try simp only [Act.put, List.setIfInBounds_toArray, List.set_cons_zero, List.set_cons_succ]
            refine wpAnyW_load (i := 4) (oi := { dst := some 14, op := Op.load 81 (Operand.tmp 13), type := 81, pos := "statement.go:16", after := #[{ on := 3, ground := Ground.data }], guard := none }) (v := ?_) rfl (by kernel_rfl) (by kernel_rfl) (by kernel_rfl) (by kernel_rfl) (by kernel_rfl) (fun _ _ _ h => h) (Or.inl ⟨by rfl, fun w hS => ?_⟩) (by first | exact x5 | (simp [go_sem]; done) | (simp [go_sem, *]; done)) ?_
            rotate_left
            · (skip; go_simp; first | done | with_reducible rfl)
            try simp only [Act.put, List.setIfInBounds_toArray, List.set_cons_zero, List.set_cons_succ]
            refine wpAnyW_take (i := 5) (oi := { dst := some 15, op := Op.move (Operand.tmp 0), type := 58, pos := "statement.go:16", after := #[], guard := none }) (v := ?_) rfl (by kernel_rfl) (by kernel_rfl) (by kernel_rfl) (by kernel_rfl) (fun _ _ _ h => h) (Or.inl ⟨by rfl, fun w _ => ?_⟩) ?_
            rotate_left
            · (go_simp; first | done | with_reducible rfl)
            try simp only [Act.put, List.setIfInBounds_toArray, List.set_cons_zero, List.set_cons_succ]
            refine wpAnyW_ready (rs := [6]) (by kernel_rfl) (by simp) ?_
            refine (AllReadyW.cons (o := { dst := some 16, op := Op.call { callee := Callee.value (Operand.func 45), args := #[Operand.tmp 15], argTypes := #[58] }, type := 57, pos := "statement.go:16", after := #[{ on := 5, ground := Ground.data }], guard := none }) rfl (fun K hK => ?_) AllReadyW.nil)
            go_simp
            refine (HC.out f' (by omega) _ _ _ (HS.out.ri.bw (by repeat (first | exact Bw.refl _ | apply Bw.alloc | apply Bw.drewN | apply Bw.drew))) H65.out HNE.out).mono ?_
            intro e w2 h2
            rw [HQ.out] at h2
            obtain ⟨b2, he2, hp2, hr2, hk2⟩ := h2
            subst he2
            obtain ⟨bs, ho2, hbk, hpush⟩ := (HX.out.bw (by repeat (first | exact Bw.refl _ | apply Bw.alloc | apply Bw.drewN | apply Bw.drew))).app (HS.out.kp.bw (by repeat (first | exact Bw.refl _ | apply Bw.alloc | apply Bw.drewN | apply Bw.drew))).size hk2 HR0.out hp2
            have HO2 := hid ho2
            have HPU := hid hpush
            have HBK := hid hbk
            have HX2 := hid ((HX.out.bw (by repeat (first | exact Bw.refl _ | apply Bw.alloc | apply Bw.drewN | apply Bw.drew))).kp hk2 HR0.out)
            have HS := hid ((HS.out.bw (by repeat (first | exact Bw.refl _ | apply Bw.alloc | apply Bw.drewN | apply Bw.drew))).go hr2 hk2)
            clear hp2 hr2 hk2 ho2 hpush hbk
            refine hK.out _ _ (HX2.out.2.1.cell 5) ?_
            clear hK K
            try simp only [Act.put, List.setIfInBounds_toArray, List.set_cons_zero, List.set_cons_succ]
            refine wpAnyW_ready (rs := [7]) (by kernel_rfl) (by simp) ?_
            refine (AllReadyW.cons (o := { dst := some 17, op := Op.buildSlice 81 1 #[(0, Operand.tmp 16)], type := 81, pos := "statement.go:16", after := #[{ on := 6, ground := Ground.data }], guard := none }) rfl (fun K hK => ?_) AllReadyW.nil)
            go_simp
            refine hK.out _ _ ((HX2.out.bw (Bw.alloc (Bw.refl _) _)).2.1.cell 5) ?_
            clear hK K
            try simp only [Act.put, List.setIfInBounds_toArray, List.set_cons_zero, List.set_cons_succ]
            refine wpAnyW_ready (rs := [8]) (by kernel_rfl) (by simp) ?_
            refine (AllReadyW.cons (o := { dst := some 18, op := Op.call { callee := Callee.builtin Builtin.append, args := #[Operand.tmp 14, Operand.tmp 17], argTypes := #[81, 81] }, type := 81, pos := "statement.go:16", after := #[{ on := 4, ground := Ground.data }, { on := 7, ground := Ground.data }, { on := 6, ground := Ground.chain }], guard := none }) rfl (fun K hK => ?_) AllReadyW.nil)
            refine step_append_row (by rfl) (.tmp 14) (.tmp 17) 81 (by rfl) 57 i1 _ 1 8 underPps I1.out.1 I1.out.2.1 I1.out.2.2.1 I1.out.2.2.2 (by rfl) (by decide) (.slice av acc.length cv) acc.length _ (by rfl) HO2.out ⟨w2.heap.size, 0, none⟩ 1 1 [.pointer (some ⟨b2, 0, none⟩)] (by rfl) (by rfl) (one_new w2 _ _) (by intro u hu; rw [List.mem_singleton] at hu; subst hu; rfl) (by unfold maxLen; omega) (by omega) ?_
            intro v4 w4 ho4 hg4 hv4
            obtain ⟨a4, c4, e4⟩ := own_form ho4
            subst e4
            obtain ⟨e1, hx4⟩ := HPU.out _ _ ho4 hg4 hv4
            have HX := hid hx4
            have y5 := e1.cell
            have yf := e1.free
            have yl := e1.lt
            have HS := hid ((HS.out.bw (Bw.alloc (Bw.refl w2) _)).grown HBB.out hg4 (fun k e => (HBK.out k e).1))
            have z3 := HS.out.ri.k.cell 3
            have HS := hid (HS.out.setNew (j := 5) HBB.out HX2.out.1 (.slice a4 (acc.length + 1) c4))
            clear ho4 hg4 hv4 e1 hx4
            refine hK.out _ _ trivial ?_
            clear hK K
            try simp only [Act.put, List.setIfInBounds_toArray, List.set_cons_zero, List.set_cons_succ]
            refine wpAnyW_take (i := 9) (oi := { dst := some 19, op := Op.nilCheck (Operand.tmp 10), type := 0, pos := "statement.go:16", after := #[{ on := 0, ground := Ground.data }, { on := 0, ground := Ground.phase }, { on := 1, ground := Ground.phase }, { on := 2, ground := Ground.phase }, { on := 3, ground := Ground.phase }, { on := 4, ground := Ground.phase }, { on := 5, ground := Ground.phase }, { on := 6, ground := Ground.phase }, { on := 7, ground := Ground.phase }, { on := 8, ground := Ground.phase }], guard := none }) (v := ?_) rfl (by kernel_rfl) (by kernel_rfl) (by kernel_rfl) (by kernel_rfl) (fun _ _ _ h => h) (Or.inl ⟨by rfl, fun w _ => ?_⟩) ?_
            rotate_left
            · (go_simp; first | done | with_reducible rfl)
            try simp only [Act.put, List.setIfInBounds_toArray, List.set_cons_zero, List.set_cons_succ]
            refine wpAnyW_take (i := 10) (oi := { dst := some 20, op := Op.fieldAddr 83 (Operand.tmp 19) 1, type := 0, pos := "statement.go:16", after := #[{ on := 9, ground := Ground.data }, { on := 0, ground := Ground.phase }, { on := 1, ground := Ground.phase }, { on := 2, ground := Ground.phase }, { on := 3, ground := Ground.phase }, { on := 4, ground := Ground.phase }, { on := 5, ground := Ground.phase }, { on := 6, ground := Ground.phase }, { on := 7, ground := Ground.phase }, { on := 8, ground := Ground.phase }], guard := none }) (v := ?_) rfl (by kernel_rfl) (by kernel_rfl) (by kernel_rfl) (by kernel_rfl) (fun _ _ _ h => h) (Or.inl ⟨by rfl, fun w _ => ?_⟩) ?_
            rotate_left
            · (go_simp; first | done | with_reducible rfl)
            try simp only [Act.put, List.setIfInBounds_toArray, List.set_cons_zero, List.set_cons_succ]
            refine wpAnyW_ready (rs := [11]) (by kernel_rfl) (by simp) ?_
            refine (AllReadyW.cons (o := { dst := none, op := Op.store 81 (Operand.tmp 20) (Operand.tmp 18), type := 0, pos := "statement.go:16", after := #[{ on := 10, ground := Ground.data }, { on := 8, ground := Ground.data }, { on := 8, ground := Ground.chain }, { on := 0, ground := Ground.phase }, { on := 1, ground := Ground.phase }, { on := 2, ground := Ground.phase }, { on := 3, ground := Ground.phase }, { on := 4, ground := Ground.phase }, { on := 5, ground := Ground.phase }, { on := 6, ground := Ground.phase }, { on := 7, ground := Ground.phase }, { on := 8, ground := Ground.phase }], guard := none }) rfl (fun K hK => ?_) AllReadyW.nil)
            go_simp
            refine hK.out _ _ trivial ?_
            clear hK K
            try simp only [Act.put, List.setIfInBounds_toArray, List.set_cons_zero, List.set_cons_succ]
            refine wpAnyW_done (by kernel_rfl) ?_ _
            go_wp2
            go_roundw
            case rel => exact ⟨f', acc ++ [y], a4, c4, j1, by omega, HR.out, HS.out, by simpa using HX.out, by simp; omega⟩
            case measure =>
              have h1 := HS.out.ri.nx
              have h2 := HS.out.ri.lt
              rw [h1]
              omega
        · rw [ho1, if_pos rfl] at hr
          subst hr
          have HL := hid ho1
          go_wp2_with (first
            | (go_at_call 58; refine (is_any _ (HS.out.ri.bw (by repeat (first | exact Bw.refl _ | apply Bw.alloc | apply Bw.drewN | apply Bw.drew)))).mono ?_; rintro e w1 ⟨rfl, hb1⟩; have HX := hid (HX.out.bw (Bw.trans (by repeat (first | exact Bw.refl _ | apply Bw.alloc | apply Bw.drewN | apply Bw.drew)) hb1)); have x5 := HX.out.2.1.cell 5; have xl := HX.out.2.1.lt; have HS := hid (HS.out.bw (Bw.trans (by repeat (first | exact Bw.refl _ | apply Bw.alloc | apply Bw.drewN | apply Bw.drew)) hb1)); have zz := HS.out.ri.k.cell; have zf := HS.out.ri.k.free; have zl := HS.out.ri.k.lt; clear hb1)
            | (go_at_call 78; refine (leave_yes _ (HS.out.ri.bw (by repeat (first | exact Bw.refl _ | apply Bw.alloc | apply Bw.drewN | apply Bw.drew))) HL.out).mono ?_; rintro e w1 ⟨rfl, hr1, hk1⟩; have HX := hid ((HX.out.bw (by repeat (first | exact Bw.refl _ | apply Bw.alloc | apply Bw.drewN | apply Bw.drew))).kp hk1 HR0.out); have HS := hid ((HS.out.bw (by repeat (first | exact Bw.refl _ | apply Bw.alloc | apply Bw.drewN | apply Bw.drew))).go hr1 hk1); have zz := HS.out.ri.k.cell; have zf := HS.out.ri.k.free; have zl := HS.out.ri.k.lt; clear hr1 hk1)
            | fail)
          all_goals go_ret
          all_goals exact ⟨_, rfl, HX.out.part, HS.out.ri, HS.out.kp⟩

end

end Go.Proofs.YtlcieebneclmpaaDoor

