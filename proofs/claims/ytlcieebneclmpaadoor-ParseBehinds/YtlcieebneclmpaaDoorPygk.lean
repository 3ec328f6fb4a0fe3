/- Functions: contracts. -/
import Derived.Test.YtlcieebneclmpaaDoorK5
import Derived.Test.YtlcieebneclmpaaDoorK6
set_option linter.unusedSimpArgs false
set_option linter.unusedVariables false
namespace Go.Proofs.YtlcieebneclmpaaDoor
open Go Go.RowKit

section
variable {B : World} {r g cap : Nat} {T : List ATok} {ex : Nat → Value}

set_option maxRecDepth 100000 in
set_option maxHeartbeats 8000000 in
theorem withBody_any (f : Nat) (hrr : RdR B r g cap T ex f 90 .par) (hbk : RdP B r g cap T ex f 59 #[.pointer (some ⟨r, 0, none⟩)] .block) (w0 w : World) (i o b : Nat) (kind : Int) (text : List Int) (at_ : Int)
    (h : SI B w0 No w r g cap T ex i o []) (hx : Blk w b (prtC kind text 0 at_ (.slice none 0 0)) 83) (h0 : w0.heap.size ≤ b) (hB : B.heap.size ≤ w0.heap.size) (ho : o ≤ 64) (hne : pP T (f + 1) (.body kind text at_) i o ≠ .out) :
    Calls Tryd.prog 83 #[.pointer (some ⟨r, 0, none⟩), .pointer (some ⟨b, 0, none⟩)] w (Got B r g cap T ex o No w0 (pP T (f + 1) (.body kind text at_) i o)) := by
  have e : pP T (f + 1) (.body kind text at_) i o = (pP T f (.row .par ⟨#[40]⟩ ⟨#[41]⟩) i o).bind fun r _ i => (pP T f .block i o).bind fun b _ i => .ok (.mk kind text r.kids.length at_ (r.kids ++ [b])) false i := by
    simp only [pP]
  rw [e] at hne ⊢
  have HS := hid h
  have HRR := hid hrr
  have HBK := hid hbk
  have HX0 := hid hx
  have HB0 := hid h0
  have HBB := hid hB
  have HR0 := hid h.r0
  have HBR := hid (show b ≠ r by have := h.r0; omega)
  have HBL := hid hx.lt
  have HLL := hid h.ri.len
  have hmf : ∀ (fn : Fn) (first cap : Array Value) (w : World), (Instr.makeFunc fn first cap).run Tryd.prog w = .ok (.func fn first cap) w := fun _ _ _ _ => rfl
  obtain ⟨i1, hi1, hz1, hs1, hy1⟩ := info_parts infoPp
  have I1 := hid (And.intro hi1 (And.intro hz1 (And.intro hs1 hy1)))
  clear hi1 hz1 hs1 hy1
  have zl := h.ri.k.lt
  have bl := hx.lt
  clear h hrr hbk hx h0 hB e
  have HNE1 := hid (show pP T f (.row .par ⟨#[40]⟩ ⟨#[41]⟩) i o ≠ .out from fun q => hne (by rw [q]; rfl))
  generalize hq1 : pP T f (.row .par ⟨#[40]⟩ ⟨#[41]⟩) i o = R1 at hne ⊢
  have HQ1 := hid hq1
  clear hq1
  cases R1 with
  | out => exact absurd HQ1.out HNE1.out
  | bad n1 m1 =>
    simp only [Res.bind]
    clear hne
    go_enter Tryd.func83, Tryd.ntmps83
    go_wp2_with (first
      | (go_at_call 88; refine (HRR.out _ _ _ _ _ (HS.out.ri.bw (by repeat (first | exact Bw.refl _ | apply Bw.alloc | apply Bw.drewN | apply Bw.drew))) ho HNE1.out).mono ?_; intro e w2 h2; rw [HQ1.out] at h2; obtain ⟨rfl, hk2⟩ := h2; have HK := hid ((HS.out.kp.bw (by repeat (first | exact Bw.refl _ | apply Bw.alloc | apply Bw.drewN | apply Bw.drew))).trans hk2); clear hk2)
      | fail)
    all_goals exact ⟨rfl, rfl, HK.out⟩
  | ok x1 c1 j1 =>
    simp only [Res.bind] at hne ⊢
    have HNE2 := hid (show pP T f .block j1 o ≠ .out from fun q => hne (by rw [q]))
    have HLEN := hid (row_len HQ1.out)
    clear hne
    generalize hq2 : pP T f .block j1 o = R2
    have HQ2 := hid hq2
    clear hq2
    cases R2 with
    | out => exact absurd HQ2.out HNE2.out
    | bad n2 m2 =>
      go_enter Tryd.func83, Tryd.ntmps83
      go_upto_region 3 with (first
        | (go_at_call 88; refine (HRR.out _ _ _ _ _ HS.out.ri ho HNE1.out).mono ?_; intro e w2 h2; rw [HQ1.out] at h2; obtain ⟨v2, rfl, hrw, hr2, hk2⟩ := h2; obtain ⟨av, cv, ev⟩ : ∃ av cv, v2 = .slice av x1.kids.length cv := (by obtain ⟨bs9, ho9, _⟩ := hrw; exact own_form ho9); subst ev; have hxb := HX0.out.kp hk2 HBR.out; have y5 := hxb.cell; have yf := hxb.free; have yl := hxb.lt; have HX := hid (XI.body (w0 := w0) (x1.kids.length : Int) hrw hxb HB0.out HBL.out HS.out.kp.size); have hll : x1.kids.length ≤ 20000 := (by have a1 := HLEN.out; have a2 := hr2.lt; have a3 := HLL.out; omega); have HS := hid (((HS.out.go hr2 hk2).setNew (j := 5) HBB.out HB0.out (.slice av x1.kids.length cv)).setNew (j := 3) HBB.out HB0.out (.int .i64 (x1.kids.length : Int))); clear hrw hr2 hk2 hxb)
        | fail)
      have x5 := HX.out.2.1.cell 5
      have xl := HX.out.2.1.lt
      refine wp_region_W (fun w' => w'.cell? ⟨b, 5, none⟩ = some (.slice av x1.kids.length cv)) (fun j => if j == 6 then 0 else 1) (by kernel_rfl) ?_
      refine wpAnyW_take (i := 0) (oi := { dst := some 21, op := Op.move (Operand.tmp 1), type := 57, pos := "reader.go:103", after := #[], guard := none }) (v := ?_) rfl (by kernel_rfl) (by kernel_rfl) (by kernel_rfl) (by kernel_rfl) (fun _ _ _ h => h) (Or.inl ⟨by rfl, fun w _ => ?_⟩) ?_
      rotate_left
      · (go_simp; first | done | with_reducible rfl)
      try simp only [Act.put, List.setIfInBounds_toArray, List.set_cons_zero, List.set_cons_succ]
      refine wpAnyW_take (i := 1) (oi := { dst := some 22, op := Op.move (Operand.tmp 1), type := 57, pos := "reader.go:103", after := #[], guard := none }) (v := ?_) rfl (by kernel_rfl) (by kernel_rfl) (by kernel_rfl) (by kernel_rfl) (fun _ _ _ h => h) (Or.inl ⟨by rfl, fun w _ => ?_⟩) ?_
      rotate_left
      · (go_simp; first | done | with_reducible rfl)
      try simp only [Act.put, List.setIfInBounds_toArray, List.set_cons_zero, List.set_cons_succ]
      refine wpAnyW_take (i := 2) (oi := { dst := some 23, op := Op.nilCheck (Operand.tmp 22), type := 0, pos := "reader.go:103", after := #[{ on := 1, ground := Ground.data }], guard := none }) (v := ?_) rfl (by kernel_rfl) (by kernel_rfl) (by kernel_rfl) (by kernel_rfl) (fun _ _ _ h => h) (Or.inl ⟨by rfl, fun w _ => ?_⟩) ?_
      rotate_left
      · (go_simp; first | done | with_reducible rfl)
      try simp only [Act.put, List.setIfInBounds_toArray, List.set_cons_zero, List.set_cons_succ]
      refine wpAnyW_take (i := 3) (oi := { dst := some 24, op := Op.fieldAddr 83 (Operand.tmp 23) 1, type := 0, pos := "reader.go:103", after := #[{ on := 2, ground := Ground.data }], guard := none }) (v := ?_) rfl (by kernel_rfl) (by kernel_rfl) (by kernel_rfl) (by kernel_rfl) (fun _ _ _ h => h) (Or.inl ⟨by rfl, fun w _ => ?_⟩) ?_
      rotate_left
      · (go_simp; first | done | with_reducible rfl)
      try simp only [Act.put, List.setIfInBounds_toArray, List.set_cons_zero, List.set_cons_succ]
      refine wpAnyW_load (i := 4) (oi := { dst := some 25, op := Op.load 81 (Operand.tmp 24), type := 81, pos := "reader.go:103", after := #[{ on := 3, ground := Ground.data }], guard := none }) (v := ?_) rfl (by kernel_rfl) (by kernel_rfl) (by kernel_rfl) (by kernel_rfl) (by kernel_rfl) (fun _ _ _ h => h) (Or.inl ⟨by rfl, fun w hS => ?_⟩) (by first | exact x5 | (simp [go_sem]; done) | (simp [go_sem, *]; done)) ?_
      rotate_left
      · (skip; go_simp; first | done | with_reducible rfl)
      try simp only [Act.put, List.setIfInBounds_toArray, List.set_cons_zero, List.set_cons_succ]
      refine wpAnyW_take (i := 5) (oi := { dst := some 26, op := Op.move (Operand.tmp 0), type := 58, pos := "reader.go:103", after := #[], guard := none }) (v := ?_) rfl (by kernel_rfl) (by kernel_rfl) (by kernel_rfl) (by kernel_rfl) (fun _ _ _ h => h) (Or.inl ⟨by rfl, fun w _ => ?_⟩) ?_
      rotate_left
      · (go_simp; first | done | with_reducible rfl)
      try simp only [Act.put, List.setIfInBounds_toArray, List.set_cons_zero, List.set_cons_succ]
      refine wpAnyW_ready (rs := [6]) (by kernel_rfl) (by simp) ?_
      refine (AllReadyW.cons (o := { dst := some 27, op := Op.call { callee := Callee.value (Operand.func 59), args := #[Operand.tmp 26], argTypes := #[58] }, type := 57, pos := "reader.go:103", after := #[{ on := 5, ground := Ground.data }], guard := none }) rfl (fun K hK => ?_) AllReadyW.nil)
      go_simp
      refine (HBK.out _ _ _ (HS.out.ri.bw (by repeat (first | exact Bw.refl _ | apply Bw.alloc | apply Bw.drewN | apply Bw.drew))) ho HNE2.out).mono ?_
      intro e w2 h2
      rw [HQ2.out] at h2
      obtain ⟨he2, hk2⟩ := h2
      subst he2
      exact ⟨rfl, rfl, (HS.out.kp.bw (by repeat (first | exact Bw.refl _ | apply Bw.alloc | apply Bw.drewN | apply Bw.drew))).trans hk2⟩
    | ok x2 c2 j2 =>
      go_enter Tryd.func83, Tryd.ntmps83
      go_upto_region 3 with (first
        | (go_at_call 88; refine (HRR.out _ _ _ _ _ HS.out.ri ho HNE1.out).mono ?_; intro e w2 h2; rw [HQ1.out] at h2; obtain ⟨v2, rfl, hrw, hr2, hk2⟩ := h2; obtain ⟨av, cv, ev⟩ : ∃ av cv, v2 = .slice av x1.kids.length cv := (by obtain ⟨bs9, ho9, _⟩ := hrw; exact own_form ho9); subst ev; have hxb := HX0.out.kp hk2 HBR.out; have y5 := hxb.cell; have yf := hxb.free; have yl := hxb.lt; have HX := hid (XI.body (w0 := w0) (x1.kids.length : Int) hrw hxb HB0.out HBL.out HS.out.kp.size); have hll : x1.kids.length ≤ 20000 := (by have a1 := HLEN.out; have a2 := hr2.lt; have a3 := HLL.out; omega); have HS := hid (((HS.out.go hr2 hk2).setNew (j := 5) HBB.out HB0.out (.slice av x1.kids.length cv)).setNew (j := 3) HBB.out HB0.out (.int .i64 (x1.kids.length : Int))); clear hrw hr2 hk2 hxb)
        | fail)
      have x5 := HX.out.2.1.cell 5
      have xl := HX.out.2.1.lt
      refine wp_region_W (fun w' => w'.cell? ⟨b, 5, none⟩ = some (.slice av x1.kids.length cv)) (fun j => if j == 6 || j == 7 then 0 else if j == 8 || j == 11 then 2 else 1) (by kernel_rfl) ?_
      refine wpAnyW_take (i := 0) (oi := { dst := some 21, op := Op.move (Operand.tmp 1), type := 57, pos := "reader.go:103", after := #[], guard := none }) (v := ?_) rfl (by kernel_rfl) (by kernel_rfl) (by kernel_rfl) (by kernel_rfl) (fun _ _ _ h => h) (Or.inl ⟨by rfl, fun w _ => ?_⟩) ?_
      rotate_left
      · (go_simp; first | done | with_reducible rfl)
      try simp only [Act.put, List.setIfInBounds_toArray, List.set_cons_zero, List.set_cons_succ]
      refine wpAnyW_take (i := 1) (oi := { dst := some 22, op := Op.move (Operand.tmp 1), type := 57, pos := "reader.go:103", after := #[], guard := none }) (v := ?_) rfl (by kernel_rfl) (by kernel_rfl) (by kernel_rfl) (by kernel_rfl) (fun _ _ _ h => h) (Or.inl ⟨by rfl, fun w _ => ?_⟩) ?_
      rotate_left
      · (go_simp; first | done | with_reducible rfl)
      try simp only [Act.put, List.setIfInBounds_toArray, List.set_cons_zero, List.set_cons_succ]
      refine wpAnyW_take (i := 2) (oi := { dst := some 23, op := Op.nilCheck (Operand.tmp 22), type := 0, pos := "reader.go:103", after := #[{ on := 1, ground := Ground.data }], guard := none }) (v := ?_) rfl (by kernel_rfl) (by kernel_rfl) (by kernel_rfl) (by kernel_rfl) (fun _ _ _ h => h) (Or.inl ⟨by rfl, fun w _ => ?_⟩) ?_
      rotate_left
      · (go_simp; first | done | with_reducible rfl)
      try simp only [Act.put, List.setIfInBounds_toArray, List.set_cons_zero, List.set_cons_succ]
      refine wpAnyW_take (i := 3) (oi := { dst := some 24, op := Op.fieldAddr 83 (Operand.tmp 23) 1, type := 0, pos := "reader.go:103", after := #[{ on := 2, ground := Ground.data }], guard := none }) (v := ?_) rfl (by kernel_rfl) (by kernel_rfl) (by kernel_rfl) (by kernel_rfl) (fun _ _ _ h => h) (Or.inl ⟨by rfl, fun w _ => ?_⟩) ?_
      rotate_left
      · (go_simp; first | done | with_reducible rfl)
      try simp only [Act.put, List.setIfInBounds_toArray, List.set_cons_zero, List.set_cons_succ]
      refine wpAnyW_load (i := 4) (oi := { dst := some 25, op := Op.load 81 (Operand.tmp 24), type := 81, pos := "reader.go:103", after := #[{ on := 3, ground := Ground.data }], guard := none }) (v := ?_) rfl (by kernel_rfl) (by kernel_rfl) (by kernel_rfl) (by kernel_rfl) (by kernel_rfl) (fun _ _ _ h => h) (Or.inl ⟨by rfl, fun w hS => ?_⟩) (by first | exact x5 | (simp [go_sem]; done) | (simp [go_sem, *]; done)) ?_
      rotate_left
      · (skip; go_simp; first | done | with_reducible rfl)
      try simp only [Act.put, List.setIfInBounds_toArray, List.set_cons_zero, List.set_cons_succ]
      refine wpAnyW_take (i := 5) (oi := { dst := some 26, op := Op.move (Operand.tmp 0), type := 58, pos := "reader.go:103", after := #[], guard := none }) (v := ?_) rfl (by kernel_rfl) (by kernel_rfl) (by kernel_rfl) (by kernel_rfl) (fun _ _ _ h => h) (Or.inl ⟨by rfl, fun w _ => ?_⟩) ?_
      rotate_left
      · (go_simp; first | done | with_reducible rfl)
      try simp only [Act.put, List.setIfInBounds_toArray, List.set_cons_zero, List.set_cons_succ]
      refine wpAnyW_ready (rs := [6]) (by kernel_rfl) (by simp) ?_
      refine (AllReadyW.cons (o := { dst := some 27, op := Op.call { callee := Callee.value (Operand.func 59), args := #[Operand.tmp 26], argTypes := #[58] }, type := 57, pos := "reader.go:103", after := #[{ on := 5, ground := Ground.data }], guard := none }) rfl (fun K hK => ?_) AllReadyW.nil)
      go_simp
      refine (HBK.out _ _ _ (HS.out.ri.bw (by repeat (first | exact Bw.refl _ | apply Bw.alloc | apply Bw.drewN | apply Bw.drew))) ho HNE2.out).mono ?_
      intro e w2 h2
      rw [HQ2.out] at h2
      obtain ⟨b2, he2, hp2, hr2, hk2⟩ := h2
      subst he2
      obtain ⟨bs, ho2, hbk, hpush⟩ := (HX.out.bw (by repeat (first | exact Bw.refl _ | apply Bw.alloc | apply Bw.drewN | apply Bw.drew))).app (HS.out.kp.bw (by repeat (first | exact Bw.refl _ | apply Bw.alloc | apply Bw.drewN | apply Bw.drew))).size hk2 HR0.out hp2
      have HO2 := hid ho2
      have HPU := hid hpush
      have HBK := hid hbk
      have HX2 := hid ((HX.out.bw (by repeat (first | exact Bw.refl _ | apply Bw.alloc | apply Bw.drewN | apply Bw.drew))).kp hk2 HR0.out)
      have HS := hid ((HS.out.bw (by repeat (first | exact Bw.refl _ | apply Bw.alloc | apply Bw.drewN | apply Bw.drew))).go hr2 hk2)
      clear hp2 hr2 hk2 ho2 hpush hbk
      refine hK.out _ _ (HX2.out.2.1.cell 5) ?_
      clear hK K
      try simp only [Act.put, List.setIfInBounds_toArray, List.set_cons_zero, List.set_cons_succ]
      refine wpAnyW_ready (rs := [7]) (by kernel_rfl) (by simp) ?_
      refine (AllReadyW.cons (o := { dst := some 28, op := Op.buildSlice 81 1 #[(0, Operand.tmp 27)], type := 81, pos := "reader.go:103", after := #[{ on := 6, ground := Ground.data }], guard := none }) rfl (fun K hK => ?_) AllReadyW.nil)
      go_simp
      refine hK.out _ _ ((HX2.out.bw (Bw.alloc (Bw.refl _) _)).2.1.cell 5) ?_
      clear hK K
      try simp only [Act.put, List.setIfInBounds_toArray, List.set_cons_zero, List.set_cons_succ]
      refine wpAnyW_ready (rs := [8]) (by kernel_rfl) (by simp) ?_
      refine (AllReadyW.cons (o := { dst := some 29, op := Op.call { callee := Callee.builtin Builtin.append, args := #[Operand.tmp 25, Operand.tmp 28], argTypes := #[81, 81] }, type := 81, pos := "reader.go:103", after := #[{ on := 4, ground := Ground.data }, { on := 7, ground := Ground.data }, { on := 6, ground := Ground.chain }], guard := none }) rfl (fun K hK => ?_) AllReadyW.nil)
      refine step_append_row (by rfl) (.tmp 25) (.tmp 28) 81 (by rfl) 57 i1 _ 1 8 underPps I1.out.1 I1.out.2.1 I1.out.2.2.1 I1.out.2.2.2 (by rfl) (by decide) (.slice av x1.kids.length cv) x1.kids.length _ (by rfl) HO2.out ⟨w2.heap.size, 0, none⟩ 1 1 [.pointer (some ⟨b2, 0, none⟩)] (by rfl) (by rfl) (one_new w2 _ _) (by intro u hu; rw [List.mem_singleton] at hu; subst hu; rfl) (by unfold maxLen; omega) (by omega) ?_
      intro v4 w4 ho4 hg4 hv4
      obtain ⟨a4, c4, e4⟩ := own_form ho4
      subst e4
      obtain ⟨e1, hx4⟩ := HPU.out _ _ ho4 hg4 hv4
      have HX := hid hx4
      have y5 := e1.cell
      have yf := e1.free
      have yl := e1.lt
      have HS := hid ((HS.out.bw (Bw.alloc (Bw.refl w2) _)).grown HBB.out hg4 (fun k e => (HBK.out k e).1))
      have z3 := HS.out.ri.k.cell 3
      have HS := hid (HS.out.setNew (j := 5) HBB.out HX2.out.1 (.slice a4 (x1.kids.length + 1) c4))
      clear ho4 hg4 hv4 e1 hx4
      refine hK.out _ _ trivial ?_
      clear hK K
      try simp only [Act.put, List.setIfInBounds_toArray, List.set_cons_zero, List.set_cons_succ]
      refine wpAnyW_take (i := 9) (oi := { dst := some 30, op := Op.nilCheck (Operand.tmp 21), type := 0, pos := "reader.go:103", after := #[{ on := 0, ground := Ground.data }, { on := 0, ground := Ground.phase }, { on := 1, ground := Ground.phase }, { on := 2, ground := Ground.phase }, { on := 3, ground := Ground.phase }, { on := 4, ground := Ground.phase }, { on := 5, ground := Ground.phase }, { on := 6, ground := Ground.phase }, { on := 7, ground := Ground.phase }, { on := 8, ground := Ground.phase }], guard := none }) (v := ?_) rfl (by kernel_rfl) (by kernel_rfl) (by kernel_rfl) (by kernel_rfl) (fun _ _ _ h => h) (Or.inl ⟨by rfl, fun w _ => ?_⟩) ?_
      rotate_left
      · (go_simp; first | done | with_reducible rfl)
      try simp only [Act.put, List.setIfInBounds_toArray, List.set_cons_zero, List.set_cons_succ]
      refine wpAnyW_take (i := 10) (oi := { dst := some 31, op := Op.fieldAddr 83 (Operand.tmp 30) 1, type := 0, pos := "reader.go:103", after := #[{ on := 9, ground := Ground.data }, { on := 0, ground := Ground.phase }, { on := 1, ground := Ground.phase }, { on := 2, ground := Ground.phase }, { on := 3, ground := Ground.phase }, { on := 4, ground := Ground.phase }, { on := 5, ground := Ground.phase }, { on := 6, ground := Ground.phase }, { on := 7, ground := Ground.phase }, { on := 8, ground := Ground.phase }], guard := none }) (v := ?_) rfl (by kernel_rfl) (by kernel_rfl) (by kernel_rfl) (by kernel_rfl) (fun _ _ _ h => h) (Or.inl ⟨by rfl, fun w _ => ?_⟩) ?_
      rotate_left
      · (go_simp; first | done | with_reducible rfl)
      try simp only [Act.put, List.setIfInBounds_toArray, List.set_cons_zero, List.set_cons_succ]
      refine wpAnyW_ready (rs := [11]) (by kernel_rfl) (by simp) ?_
      refine (AllReadyW.cons (o := { dst := none, op := Op.store 81 (Operand.tmp 31) (Operand.tmp 29), type := 0, pos := "reader.go:103", after := #[{ on := 10, ground := Ground.data }, { on := 8, ground := Ground.data }, { on := 8, ground := Ground.chain }, { on := 0, ground := Ground.phase }, { on := 1, ground := Ground.phase }, { on := 2, ground := Ground.phase }, { on := 3, ground := Ground.phase }, { on := 4, ground := Ground.phase }, { on := 5, ground := Ground.phase }, { on := 6, ground := Ground.phase }, { on := 7, ground := Ground.phase }, { on := 8, ground := Ground.phase }], guard := none }) rfl (fun K hK => ?_) AllReadyW.nil)
      go_simp
      refine hK.out _ _ trivial ?_
      clear hK K
      try simp only [Act.put, List.setIfInBounds_toArray, List.set_cons_zero, List.set_cons_succ]
      refine wpAnyW_done (by kernel_rfl) ?_ _
      go_wp2
      all_goals go_ret
      all_goals exact ⟨_, rfl, HX.out.part, HS.out.ri, HS.out.kp⟩

set_option maxRecDepth 100000 in
set_option maxHeartbeats 8000000 in
theorem function_any (f : Nat) (hbd : RdB B r g cap T ex f) (w : World) (i o : Nat) (h : RI B w r g cap T ex i o) (ho : o ≤ 64) (hs : isT T i ⟨#[102, 110]⟩ = true) (hn : (tk T (i + 1)).1 = 1) (hne : (pP T f (.body 12 (tk T (i + 1)).2.1 (tk T i).2.2.2) (i + 2) o) ≠ .out) :
    Calls Tryd.prog 66 #[.pointer (some ⟨r, 0, none⟩)] w (Got B r g cap T ex o No w (pP T f (.body 12 (tk T (i + 1)).2.1 (tk T i).2.2.2) (i + 2) o)) := by
  have HS := hid (SI.begin h)
  have HBD := hid hbd
  have HV := hid hs
  have HN := hid hn
  have HBB := hid h.kb.size
  have HNE := hid hne
  have zz := HS.out.ri.k.cell; have zf := HS.out.ri.k.free; have zl := HS.out.ri.k.lt
  clear h hbd hs hn hne
  generalize hq : (pP T f (.body 12 (tk T (i + 1)).2.1 (tk T i).2.2.2) (i + 2) o) = R
  have HQ := hid hq
  clear hq
  cases R with
  | out => exact absurd HQ.out HNE.out
  | bad n m =>
    go_enter Tryd.func66, Tryd.ntmps66
    go_wp2_with (first
      | (go_at_call 62; refine (want_yes _ (HS.out.ri.bw (by repeat (first | exact Bw.refl _ | apply Bw.alloc | apply Bw.drewN | apply Bw.drew))) HV.out).mono ?_; rintro e w1 ⟨rfl, hr1, hk1⟩; have HS := hid ((HS.out.bw (by repeat (first | exact Bw.refl _ | apply Bw.alloc | apply Bw.drewN | apply Bw.drew))).go hr1 hk1); have zz := HS.out.ri.k.cell; have zf := HS.out.ri.k.free; have zl := HS.out.ri.k.lt; clear hr1 hk1)
      | (go_at_call 79; refine (wantName_yes (HS.out.ri.bw (by repeat (first | exact Bw.refl _ | apply Bw.alloc | apply Bw.drewN | apply Bw.drew))) HN.out).mono ?_; unfold tokV; rintro e w1 ⟨rfl, hr1, hk1⟩; have HS := hid ((HS.out.bw (by repeat (first | exact Bw.refl _ | apply Bw.alloc | apply Bw.drewN | apply Bw.drew))).go hr1 hk1); have zz := HS.out.ri.k.cell; have zf := HS.out.ri.k.free; have zl := HS.out.ri.k.lt; clear hr1 hk1)
      | (go_at_call 80; refine (madeNamed_any _ _ _ _ [] [] _ _ (HS.out.bw (by repeat (first | exact Bw.refl _ | apply Bw.alloc | apply Bw.drewN | apply Bw.drew))).row0.1 (HS.out.bw (by repeat (first | exact Bw.refl _ | apply Bw.alloc | apply Bw.drewN | apply Bw.drew))).row0.2).mono ?_; rintro e w3 ⟨b3, rfl, hp3, hb3, hn3, hc3⟩; have HC3 := hid hc3; have HN3 := hid (Nat.le_trans (HS.out.bw (by repeat (first | exact Bw.refl _ | apply Bw.alloc | apply Bw.drewN | apply Bw.drew))).kp.size hn3); have HS := hid ((HS.out.bw (by repeat (first | exact Bw.refl _ | apply Bw.alloc | apply Bw.drewN | apply Bw.drew))).put hb3 hp3).drop; have zz := HS.out.ri.k.cell; have zf := HS.out.ri.k.free; have zl := HS.out.ri.k.lt; clear hp3 hb3)
      | (go_at_call 83; refine (HBD.out w _ _ _ _ _ _ _ (HS.out.bw (by repeat (first | exact Bw.refl _ | apply Bw.alloc | apply Bw.drewN | apply Bw.drew))) (HC3.out.bw (by repeat (first | exact Bw.refl _ | apply Bw.alloc | apply Bw.drewN | apply Bw.drew))) HN3.out HBB.out ho HNE.out).mono ?_; intro e w5 h5; rw [HQ.out] at h5; obtain ⟨rfl, hk5⟩ := h5; have HK := hid hk5; clear hk5)
      | fail)
    all_goals exact ⟨rfl, rfl, HK.out⟩
  | ok x c j =>
    go_enter Tryd.func66, Tryd.ntmps66
    go_wp2_with (first
      | (go_at_call 62; refine (want_yes _ (HS.out.ri.bw (by repeat (first | exact Bw.refl _ | apply Bw.alloc | apply Bw.drewN | apply Bw.drew))) HV.out).mono ?_; rintro e w1 ⟨rfl, hr1, hk1⟩; have HS := hid ((HS.out.bw (by repeat (first | exact Bw.refl _ | apply Bw.alloc | apply Bw.drewN | apply Bw.drew))).go hr1 hk1); have zz := HS.out.ri.k.cell; have zf := HS.out.ri.k.free; have zl := HS.out.ri.k.lt; clear hr1 hk1)
      | (go_at_call 79; refine (wantName_yes (HS.out.ri.bw (by repeat (first | exact Bw.refl _ | apply Bw.alloc | apply Bw.drewN | apply Bw.drew))) HN.out).mono ?_; unfold tokV; rintro e w1 ⟨rfl, hr1, hk1⟩; have HS := hid ((HS.out.bw (by repeat (first | exact Bw.refl _ | apply Bw.alloc | apply Bw.drewN | apply Bw.drew))).go hr1 hk1); have zz := HS.out.ri.k.cell; have zf := HS.out.ri.k.free; have zl := HS.out.ri.k.lt; clear hr1 hk1)
      | (go_at_call 80; refine (madeNamed_any _ _ _ _ [] [] _ _ (HS.out.bw (by repeat (first | exact Bw.refl _ | apply Bw.alloc | apply Bw.drewN | apply Bw.drew))).row0.1 (HS.out.bw (by repeat (first | exact Bw.refl _ | apply Bw.alloc | apply Bw.drewN | apply Bw.drew))).row0.2).mono ?_; rintro e w3 ⟨b3, rfl, hp3, hb3, hn3, hc3⟩; have HC3 := hid hc3; have HN3 := hid (Nat.le_trans (HS.out.bw (by repeat (first | exact Bw.refl _ | apply Bw.alloc | apply Bw.drewN | apply Bw.drew))).kp.size hn3); have HS := hid ((HS.out.bw (by repeat (first | exact Bw.refl _ | apply Bw.alloc | apply Bw.drewN | apply Bw.drew))).put hb3 hp3).drop; have zz := HS.out.ri.k.cell; have zf := HS.out.ri.k.free; have zl := HS.out.ri.k.lt; clear hp3 hb3)
      | (go_at_call 83; refine (HBD.out w _ _ _ _ _ _ _ (HS.out.bw (by repeat (first | exact Bw.refl _ | apply Bw.alloc | apply Bw.drewN | apply Bw.drew))) (HC3.out.bw (by repeat (first | exact Bw.refl _ | apply Bw.alloc | apply Bw.drewN | apply Bw.drew))) HN3.out HBB.out ho HNE.out).mono ?_; intro e w5 h5; rw [HQ.out] at h5; obtain ⟨b5, rfl, hp5, hr5, hk5⟩ := h5; have HF := hid (And.intro hp5 (And.intro hr5 hk5)); clear hp5 hr5 hk5)
      | fail)
    all_goals go_ret
    all_goals exact ⟨_, rfl, HF.out⟩

end

end Go.Proofs.YtlcieebneclmpaaDoor

