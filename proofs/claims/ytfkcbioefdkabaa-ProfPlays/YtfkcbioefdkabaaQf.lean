/- The document's Tell, of what may be told: the contract. -/
import Derived.Test.YtfkcbioefdkabaaQe
set_option linter.unusedSimpArgs false
set_option linter.unusedVariables false
namespace Go.Proofs.Ytfkcbioefdkabaa
open Go Go.RowKit

theorem tell_fin {w W0 w6 : World} {L : List AA} {x : AA} {v : Value} (hz : W0.heap.size = w.heap.size + 3) (h0 : Bw w W0) (hb : Bw W0 w6) (hr : Rw W0 w6 36 6 v (L.length + 1) (actsC L ++ actC x)) (hok : ∀ y ∈ L, AOK y) (hx : AOK x) (hL : L.length < 1000) (u0 u1 u2 u3 : Value) :
    Bw w ((((w6.setCell ⟨w.heap.size, 2, none⟩ u0).setCell ⟨w.heap.size + 1 + 1, 0, none⟩ u1).setCell ⟨w.heap.size + 1 + 1, 1, none⟩ u2).setCell ⟨w.heap.size + 1 + 1, 2, none⟩ u3) ∧
    RLs ((((w6.setCell ⟨w.heap.size, 2, none⟩ u0).setCell ⟨w.heap.size + 1 + 1, 0, none⟩ u1).setCell ⟨w.heap.size + 1 + 1, 1, none⟩ u2).setCell ⟨w.heap.size + 1 + 1, 2, none⟩ u3) (fun b => w.heap.size ≤ b) v (L ++ [x]) := by
  refine ⟨Bw.setCell (Bw.setCell (Bw.setCell (Bw.setCell (h0.trans hb) (Nat.le_refl _) _) (by show w.heap.size ≤ w.heap.size + 1 + 1; omega) _) (by show w.heap.size ≤ w.heap.size + 1 + 1; omega) _) (by show w.heap.size ≤ w.heap.size + 1 + 1; omega) _, ?_, by simp; omega, ?_⟩
  · have hk := hr.keep (w' := (((w6.setCell ⟨w.heap.size, 2, none⟩ u0).setCell ⟨w.heap.size + 1 + 1, 0, none⟩ u1).setCell ⟨w.heap.size + 1 + 1, 1, none⟩ u2).setCell ⟨w.heap.size + 1 + 1, 2, none⟩ u3) (fun b hb => by
      have := hr.2 b hb
      rw [Below.heap_setCell _ _ _ _ (by show b ≠ w.heap.size + 1 + 1; omega), Below.heap_setCell _ _ _ _ (by show b ≠ w.heap.size + 1 + 1; omega), Below.heap_setCell _ _ _ _ (by show b ≠ w.heap.size + 1 + 1; omega), Below.heap_setCell _ _ _ _ (by show b ≠ w.heap.size; omega)])
    have hs := hk.sl
    rw [← actsC_snoc] at hs
    rw [List.length_append]
    exact hs.keep (Nat.le_refl _) (fun _ _ _ => rfl) (fun b _ hG => by omega)
  · intro y hy
    rcases List.mem_append.1 hy with hy | hy
    · exact hok y hy
    · rw [List.mem_singleton.1 hy]
      exact hx

set_option maxRecDepth 100000 in
set_option maxHeartbeats 2000000 in
theorem rTell_2 {w : World} {Gd : Nat → Prop} {F G : Nat} {av : Option Addr} {cv : Nat} {L : List AA} (x : AA) (hx : AOK x) (h : RLs w Gd (.slice av L.length cv) L) (hL : L.length < 1000)
    (hc : (x.d = 2 ∧ ¬ x.f < 0 ∧ ¬ (F : Int) ≤ x.f ∧ ¬ x.t < 0 ∧ ¬ 65536 ≤ x.t ∧ ¬ x.a < 0 ∧ ¬ 3 < x.a ∧ ¬ x.b < 0 ∧ ¬ 3 < x.b)) : Calls Try.prog 13 #[rpV F G (.slice av L.length cv), actV x] w fun e w' => ∃ vL', e = .returned (.tuple #[rpV F G vL', .int .i64 0]) ∧ Bw w w' ∧ RLs w' (fun b => w.heap.size ≤ b) vL' (L ++ [x]) := by
  unfold actV
  have HL := hid h
  obtain ⟨i2, hi2, hz2, hs2, hy2⟩ := info_parts infoAc
  have I2 := hid (And.intro hi2 (And.intro hz2 (And.intro hs2 hy2)))
  clear h hi2 hz2 hs2 hy2
  obtain ⟨hd, n1, n2, n3, n4, n5, n6, n7, n8⟩ := hc
  have q2 : (x.d == 2) = true := by simp [hd]
  have d1 : decide (x.f < 0) = false := decide_eq_false n1
  have d2 : decide ((F : Int) ≤ x.f) = false := decide_eq_false n2
  have d3 : decide (x.t < 0) = false := decide_eq_false n3
  have d4 : decide (65536 ≤ x.t) = false := decide_eq_false n4
  have d5 : decide (x.a < 0) = false := decide_eq_false n5
  have d6 : decide (3 < x.a) = false := decide_eq_false n6
  have d7 : decide (x.b < 0) = false := decide_eq_false n7
  have d8 : decide (3 < x.b) = false := decide_eq_false n8
  clear hd
  go_enter Try.func13, Try.ntmps13
  go_wp2
  refine wp_region_W (fun w' => w'.cell? ⟨w.heap.size, 2, none⟩ = some (.slice av L.length cv) ∧ w'.cell? ⟨w.heap.size + 1, 0, none⟩ = some (.int .i64 x.d) ∧ w'.cell? ⟨w.heap.size + 1, 1, none⟩ = some (.int .i64 x.f) ∧ w'.cell? ⟨w.heap.size + 1, 2, none⟩ = some (.int .i64 x.t) ∧ w'.cell? ⟨w.heap.size + 1, 3, none⟩ = some (.int .i64 x.a) ∧ w'.cell? ⟨w.heap.size + 1, 4, none⟩ = some (.int .i64 x.b) ∧ w'.cell? ⟨w.heap.size + 1, 5, none⟩ = some (.int .u64 x.v)) (fun j => if j == 0 || j == 3 || j == 5 || j == 6 then 0 else if j == 8 then 2 else 1) (by kernel_rfl) ?_
  generalize hW0 : (((w.alloc (.cells #[.int .i64 F, .int .i64 G, .slice av L.length cv] 29)).alloc (.cells #[.int .i64 x.d, .int .i64 x.f, .int .i64 x.t, .int .i64 x.a, .int .i64 x.b, .int .u64 x.v] 36)).alloc (.cells #[.int .i64 0, .int .i64 0, .slice none 0 0] 29)).drew = W0
  have hB0 : Bw w W0 := by rw [← hW0]; exact Bw.drew (Bw.alloc (Bw.alloc (Bw.alloc (Bw.refl _) _) _) _)
  have bP : Blk W0 w.heap.size #[.int .i64 F, .int .i64 G, .slice av L.length cv] 29 := by rw [← hW0]; exact Blk.drewd (((Blk.new w _ _).alloc _).alloc _)
  have bA : Blk W0 (w.heap.size + 1) #[.int .i64 x.d, .int .i64 x.f, .int .i64 x.t, .int .i64 x.a, .int .i64 x.b, .int .u64 x.v] 36 := by
    rw [← hW0]
    refine Blk.drewd ?_
    apply Blk.alloc
    exact Blk.newAt _ _ _ _ (by simp only [World.size_alloc])
  have bR : Blk W0 (w.heap.size + 1 + 1) #[.int .i64 0, .int .i64 0, .slice none 0 0] 29 := by
    rw [← hW0]
    refine Blk.drewd ?_
    exact Blk.newAt _ _ _ _ (by simp only [World.size_alloc])
  have HZ0 := hid (show W0.heap.size = w.heap.size + 3 by rw [← hW0]; simp)
  have hLs := hid (HL.out.1.below hB0)
  have hS := hid (show ∀ W', Bw W0 W' → (fun w' => w'.cell? ⟨w.heap.size, 2, none⟩ = some (.slice av L.length cv) ∧ w'.cell? ⟨w.heap.size + 1, 0, none⟩ = some (.int .i64 x.d) ∧ w'.cell? ⟨w.heap.size + 1, 1, none⟩ = some (.int .i64 x.f) ∧ w'.cell? ⟨w.heap.size + 1, 2, none⟩ = some (.int .i64 x.t) ∧ w'.cell? ⟨w.heap.size + 1, 3, none⟩ = some (.int .i64 x.a) ∧ w'.cell? ⟨w.heap.size + 1, 4, none⟩ = some (.int .i64 x.b) ∧ w'.cell? ⟨w.heap.size + 1, 5, none⟩ = some (.int .u64 x.v)) W' from fun W' hb => ⟨(bP.bw hb).cell 2, (bA.bw hb).cell 0, (bA.bw hb).cell 1, (bA.bw hb).cell 2, (bA.bw hb).cell 3, (bA.bw hb).cell 4, (bA.bw hb).cell 5⟩)
  have BP := hid bP
  have BR := hid bR
  have HB0 := hid hB0
  clear hW0 bP bA bR hB0
  refine wpAnyW_take (i := 1) (oi := { dst := some 67, op := Op.fieldAddr 29 (Operand.tmp 2) 2, type := 0, pos := "ref.go:49", after := #[], guard := none }) (v := ?_) rfl (by kernel_rfl) (by kernel_rfl) (by kernel_rfl) (by kernel_rfl) (fun _ _ _ h => h) (Or.inl ⟨by rfl, fun w _ => ?_⟩) ?_
  rotate_left
  · (go_simp; first | done | with_reducible rfl)
  try simp only [Act.put, List.setIfInBounds_toArray, List.set_cons_zero, List.set_cons_succ]
  refine wpAnyW_load (i := 2) (oi := { dst := some 68, op := Op.load 22 (Operand.tmp 67), type := 22, pos := "ref.go:49", after := #[{ on := 1, ground := Ground.data }], guard := none }) (v := ?_) rfl (by kernel_rfl) (by kernel_rfl) (by kernel_rfl) (by kernel_rfl) (by kernel_rfl) (fun _ _ _ h => h) (Or.inl ⟨by rfl, fun w hS => ?_⟩) (hS.out W0 (Bw.refl _)) ?_
  rotate_left
  · (obtain ⟨s1, s2, s3, s4, s5, s6, s7⟩ := hS; go_simp; first | done | with_reducible rfl)
  try simp only [Act.put, List.setIfInBounds_toArray, List.set_cons_zero, List.set_cons_succ]
  refine wpAnyW_load (i := 4) (oi := { dst := some 70, op := Op.load 36 (Operand.tmp 3), type := 36, pos := "ref.go:49", after := #[], guard := none }) (v := ?_) rfl (by kernel_rfl) (by kernel_rfl) (by kernel_rfl) (by kernel_rfl) (by kernel_rfl) (fun _ _ _ h => h) (Or.inl ⟨by rfl, fun w hS => ?_⟩) (hS.out W0 (Bw.refl _)) ?_
  rotate_left
  · (obtain ⟨s1, s2, s3, s4, s5, s6, s7⟩ := hS; go_simp; first | done | with_reducible rfl)
  try simp only [Act.put, List.setIfInBounds_toArray, List.set_cons_zero, List.set_cons_succ]
  refine wpAnyW_ready (rs := [0, 5]) (by kernel_rfl) (by simp) ?_
  refine (AllReadyW.cons (o := { dst := some 66, op := Op.buildSlice 22 0 #[], type := 22, pos := "ref.go:49", after := #[], guard := none }) rfl (fun K hK => ?_) (AllReadyW.cons (o := { dst := some 71, op := Op.buildSlice 22 1 #[(0, Operand.tmp 70)], type := 22, pos := "ref.go:49", after := #[{ on := 4, ground := Ground.data }], guard := none }) rfl (fun K hK => ?_) AllReadyW.nil))
  · go_simp
    have R0 := hid (show Rw W0 (W0.alloc (.cells #[] 36)) 36 6 (.slice (some ⟨W0.heap.size, 0, none⟩) 0 0) 0 [] from by have := Rw.empty W0 W0 (Bw.refl W0) 36 6; simpa only [World.size_alloc] using this)
    refine hK.out _ _ (hS.out _ (Bw.alloc (Bw.refl W0) _)) ?_
    clear hK K
    try simp only [Act.put, List.setIfInBounds_toArray, List.set_cons_zero, List.set_cons_succ]
    refine wpAnyW_ready (rs := [3, 5]) (by kernel_rfl) (by simp) ?_
    refine (AllReadyW.cons (o := { dst := some 69, op := Op.call { callee := Callee.builtin Builtin.append, args := #[Operand.tmp 66, Operand.tmp 68], argTypes := #[22, 22] }, type := 22, pos := "ref.go:49", after := #[{ on := 0, ground := Ground.data }, { on := 2, ground := Ground.data }], guard := none }) rfl (fun K hK => ?_) (AllReadyW.cons (o := { dst := some 71, op := Op.buildSlice 22 1 #[(0, Operand.tmp 70)], type := 22, pos := "ref.go:49", after := #[{ on := 4, ground := Ground.data }], guard := none }) rfl (fun K hK => ?_) AllReadyW.nil))
    · refine step_append_any (G := Gd) rfl _ _ 22 rfl 36 i2 _ 6 48 Try.underlying22 I2.out.1 I2.out.2.1 I2.out.2.2.1 I2.out.2.2.2 rfl (by decide) (.slice (some ⟨W0.heap.size, 0, none⟩) 0 0) 0 [] rfl R0.out.1 (.slice av L.length cv) L.length (actsC L) rfl (hLs.out.below (Bw.alloc (Bw.refl W0) _)) (actsC_one L) (by unfold maxLen; omega) (by omega) ?_
      intro v3 w3 ho hg hvb
      have HBw3 : Bw W0 w3 := R0.out.bwGrown (Bw.alloc (Bw.refl W0) _) hg
      have RRw3 : Rw W0 w3 36 6 v3 (0 + L.length) ([] ++ actsC L) := R0.out.grown (Bw.alloc (Bw.refl W0) _) ho hvb
      refine hK.out _ _ (hS.out _ HBw3) ?_
      clear hK K
      try simp only [Act.put, List.setIfInBounds_toArray, List.set_cons_zero, List.set_cons_succ]
      refine wpAnyW_ready (rs := [5]) (by kernel_rfl) (by simp) ?_
      refine (AllReadyW.cons (o := { dst := some 71, op := Op.buildSlice 22 1 #[(0, Operand.tmp 70)], type := 22, pos := "ref.go:49", after := #[{ on := 4, ground := Ground.data }], guard := none }) rfl (fun K hK => ?_) AllReadyW.nil)
      go_simp
      have N5 := hid (show Sl (w3.alloc (.cells (actC x).toArray 36)) (fun b => b = w3.heap.size) (.slice (some ⟨w3.heap.size, 0, none⟩) 1 1) 1 6 (actC x) from by have := sl_new w3 (fun b => b = w3.heap.size) (actC x) 36 1 6 rfl rfl; simpa only [World.size_alloc] using this)
      refine hK.out _ _ (hS.out _ (Bw.alloc HBw3 _)) ?_
      clear hK K
      try simp only [Act.put, List.setIfInBounds_toArray, List.set_cons_zero, List.set_cons_succ]
      refine wpAnyW_ready (rs := [6]) (by kernel_rfl) (by simp) ?_
      refine (AllReadyW.cons (o := { dst := some 72, op := Op.call { callee := Callee.builtin Builtin.append, args := #[Operand.tmp 69, Operand.tmp 71], argTypes := #[22, 22] }, type := 22, pos := "ref.go:49", after := #[{ on := 3, ground := Ground.data }, { on := 5, ground := Ground.data }, { on := 3, ground := Ground.chain }], guard := none }) rfl (fun K hK => ?_) AllReadyW.nil)
      refine step_append_any rfl _ _ 22 rfl 36 i2 _ 6 48 Try.underlying22 I2.out.1 I2.out.2.1 I2.out.2.2.1 I2.out.2.2.2 rfl (by decide) v3 (0 + L.length) ([] ++ actsC L) rfl (RRw3.bw (Bw.alloc (Bw.refl _) _)).1 (.slice (some ⟨w3.heap.size, 0, none⟩) 1 1) 1 (actC x) rfl N5.out (actC_one x) (by unfold maxLen; omega) (by omega) ?_
      intro v6 w6 ho6 hg6 hvb6
      have HB6 : Bw W0 w6 := (RRw3.bw (Bw.alloc (Bw.refl _) _)).bwGrown (Bw.alloc HBw3 _) hg6
      have RR6 : Rw W0 w6 36 6 v6 (0 + L.length + 1) ([] ++ actsC L ++ actC x) := (RRw3.bw (Bw.alloc (Bw.refl _) _)).grown (Bw.alloc HBw3 _) ho6 hvb6
      refine hK.out _ _ (hS.out _ HB6) ?_
      clear hK K
      try simp only [Act.put, List.setIfInBounds_toArray, List.set_cons_zero, List.set_cons_succ]
      refine wpAnyW_take (i := 7) (oi := { dst := some 73, op := Op.fieldAddr 29 (Operand.tmp 2) 2, type := 0, pos := "ref.go:49", after := #[{ on := 0, ground := Ground.phase }, { on := 1, ground := Ground.phase }, { on := 2, ground := Ground.phase }, { on := 3, ground := Ground.phase }, { on := 4, ground := Ground.phase }, { on := 5, ground := Ground.phase }, { on := 6, ground := Ground.phase }], guard := none }) (v := ?_) rfl (by kernel_rfl) (by kernel_rfl) (by kernel_rfl) (by kernel_rfl) (fun _ _ _ h => h) (Or.inl ⟨by rfl, fun w _ => ?_⟩) ?_
      rotate_left
      · (go_simp; first | done | with_reducible rfl)
      try simp only [Act.put, List.setIfInBounds_toArray, List.set_cons_zero, List.set_cons_succ]
      obtain ⟨a6, c6, e6⟩ := own_form RR6.1
      subst e6
      have BP6 := BP.out.bw HB6
      have BR6 := BR.out.bw HB6
      have p0 := BP6.cell 0
      have p1 := BP6.cell 1
      have p2 := BP6.cell 2
      have pf := BP6.free
      have pl := BP6.lt
      have r0 := BR6.cell 0
      have r1 := BR6.cell 1
      have r2 := BR6.cell 2
      have rf := BR6.free
      have rl := BR6.lt
      simp only [List.getElem?_toArray, List.getElem?_cons_zero, List.getElem?_cons_succ] at p0 p1 p2 r0 r1 r2
      refine wpAnyW_ready (rs := [8]) (by kernel_rfl) (by simp) ?_
      refine (AllReadyW.cons (o := { dst := none, op := Op.store 22 (Operand.tmp 73) (Operand.tmp 72), type := 0, pos := "ref.go:49", after := #[{ on := 7, ground := Ground.data }, { on := 6, ground := Ground.data }, { on := 6, ground := Ground.chain }, { on := 0, ground := Ground.phase }, { on := 1, ground := Ground.phase }, { on := 2, ground := Ground.phase }, { on := 3, ground := Ground.phase }, { on := 4, ground := Ground.phase }, { on := 5, ground := Ground.phase }, { on := 6, ground := Ground.phase }], guard := none }) rfl (fun K hK => ?_) AllReadyW.nil)
      go_simp
      refine hK.out _ _ trivial ?_
      clear hK K
      try simp only [Act.put, List.setIfInBounds_toArray, List.set_cons_zero, List.set_cons_succ]
      refine wpAnyW_done (by kernel_rfl) ?_ _
      go_wp2
      simp only [Nat.zero_add, List.nil_append] at RR6
      obtain ⟨fb, fr⟩ := tell_fin HZ0.out HB0.out HB6 RR6 HL.out.2.2 hx hL (.slice a6 (L.length + 1) c6) (.int .i64 F) (.int .i64 G) (.slice a6 (L.length + 1) c6)
      exact bodyPost_ret (v := .tuple #[rpV F G (.slice a6 (L.length + 1) c6), .int .i64 0]) (by simp [results, Try.results13, go_sem, *]) rfl ⟨_, rfl, fb, fr⟩
    · go_simp
      have N5 := hid (show Sl ((W0.alloc (.cells #[] 36)).alloc (.cells (actC x).toArray 36)) (fun b => b = W0.heap.size + 1) (.slice (some ⟨W0.heap.size + 1, 0, none⟩) 1 1) 1 6 (actC x) from by have := sl_new (W0.alloc (.cells #[] 36)) (fun b => b = (W0.alloc (.cells #[] 36)).heap.size) (actC x) 36 1 6 rfl rfl; simpa only [World.size_alloc] using this)
      refine hK.out _ _ (hS.out _ (Bw.alloc (Bw.alloc (Bw.refl W0) _) _)) ?_
      clear hK K
      try simp only [Act.put, List.setIfInBounds_toArray, List.set_cons_zero, List.set_cons_succ]
      refine wpAnyW_ready (rs := [3]) (by kernel_rfl) (by simp) ?_
      refine (AllReadyW.cons (o := { dst := some 69, op := Op.call { callee := Callee.builtin Builtin.append, args := #[Operand.tmp 66, Operand.tmp 68], argTypes := #[22, 22] }, type := 22, pos := "ref.go:49", after := #[{ on := 0, ground := Ground.data }, { on := 2, ground := Ground.data }], guard := none }) rfl (fun K hK => ?_) AllReadyW.nil)
      refine step_append_any (G := Gd) rfl _ _ 22 rfl 36 i2 _ 6 48 Try.underlying22 I2.out.1 I2.out.2.1 I2.out.2.2.1 I2.out.2.2.2 rfl (by decide) (.slice (some ⟨W0.heap.size, 0, none⟩) 0 0) 0 [] rfl (R0.out.bw (Bw.alloc (Bw.refl _) _)).1 (.slice av L.length cv) L.length (actsC L) rfl (hLs.out.below (Bw.alloc (Bw.alloc (Bw.refl W0) _) _)) (actsC_one L) (by unfold maxLen; omega) (by omega) ?_
      intro v3 w3 ho hg hvb
      have HBw3 : Bw W0 w3 := (R0.out.bw (Bw.alloc (Bw.refl _) _)).bwGrown (Bw.alloc (Bw.alloc (Bw.refl W0) _) _) hg
      have RRw3 : Rw W0 w3 36 6 v3 (0 + L.length) ([] ++ actsC L) := (R0.out.bw (Bw.alloc (Bw.refl _) _)).grown (Bw.alloc (Bw.alloc (Bw.refl W0) _) _) ho hvb
      have N6 := hid (N5.out.grown hg (fun b hb e => by simp only [Value.ownBlock, Option.some.injEq] at e; subst hb; omega))
      refine hK.out _ _ (hS.out _ HBw3) ?_
      clear hK K
      try simp only [Act.put, List.setIfInBounds_toArray, List.set_cons_zero, List.set_cons_succ]
      refine wpAnyW_ready (rs := [6]) (by kernel_rfl) (by simp) ?_
      refine (AllReadyW.cons (o := { dst := some 72, op := Op.call { callee := Callee.builtin Builtin.append, args := #[Operand.tmp 69, Operand.tmp 71], argTypes := #[22, 22] }, type := 22, pos := "ref.go:49", after := #[{ on := 3, ground := Ground.data }, { on := 5, ground := Ground.data }, { on := 3, ground := Ground.chain }], guard := none }) rfl (fun K hK => ?_) AllReadyW.nil)
      refine step_append_any rfl _ _ 22 rfl 36 i2 _ 6 48 Try.underlying22 I2.out.1 I2.out.2.1 I2.out.2.2.1 I2.out.2.2.2 rfl (by decide) v3 (0 + L.length) ([] ++ actsC L) rfl RRw3.1 (.slice (some ⟨W0.heap.size + 1, 0, none⟩) 1 1) 1 (actC x) rfl N6.out (actC_one x) (by unfold maxLen; omega) (by omega) ?_
      intro v6 w6 ho6 hg6 hvb6
      have HB6 : Bw W0 w6 := RRw3.bwGrown HBw3 hg6
      have RR6 : Rw W0 w6 36 6 v6 (0 + L.length + 1) ([] ++ actsC L ++ actC x) := RRw3.grown HBw3 ho6 hvb6
      refine hK.out _ _ (hS.out _ HB6) ?_
      clear hK K
      try simp only [Act.put, List.setIfInBounds_toArray, List.set_cons_zero, List.set_cons_succ]
      refine wpAnyW_take (i := 7) (oi := { dst := some 73, op := Op.fieldAddr 29 (Operand.tmp 2) 2, type := 0, pos := "ref.go:49", after := #[{ on := 0, ground := Ground.phase }, { on := 1, ground := Ground.phase }, { on := 2, ground := Ground.phase }, { on := 3, ground := Ground.phase }, { on := 4, ground := Ground.phase }, { on := 5, ground := Ground.phase }, { on := 6, ground := Ground.phase }], guard := none }) (v := ?_) rfl (by kernel_rfl) (by kernel_rfl) (by kernel_rfl) (by kernel_rfl) (fun _ _ _ h => h) (Or.inl ⟨by rfl, fun w _ => ?_⟩) ?_
      rotate_left
      · (go_simp; first | done | with_reducible rfl)
      try simp only [Act.put, List.setIfInBounds_toArray, List.set_cons_zero, List.set_cons_succ]
      obtain ⟨a6, c6, e6⟩ := own_form RR6.1
      subst e6
      have BP6 := BP.out.bw HB6
      have BR6 := BR.out.bw HB6
      have p0 := BP6.cell 0
      have p1 := BP6.cell 1
      have p2 := BP6.cell 2
      have pf := BP6.free
      have pl := BP6.lt
      have r0 := BR6.cell 0
      have r1 := BR6.cell 1
      have r2 := BR6.cell 2
      have rf := BR6.free
      have rl := BR6.lt
      simp only [List.getElem?_toArray, List.getElem?_cons_zero, List.getElem?_cons_succ] at p0 p1 p2 r0 r1 r2
      refine wpAnyW_ready (rs := [8]) (by kernel_rfl) (by simp) ?_
      refine (AllReadyW.cons (o := { dst := none, op := Op.store 22 (Operand.tmp 73) (Operand.tmp 72), type := 0, pos := "ref.go:49", after := #[{ on := 7, ground := Ground.data }, { on := 6, ground := Ground.data }, { on := 6, ground := Ground.chain }, { on := 0, ground := Ground.phase }, { on := 1, ground := Ground.phase }, { on := 2, ground := Ground.phase }, { on := 3, ground := Ground.phase }, { on := 4, ground := Ground.phase }, { on := 5, ground := Ground.phase }, { on := 6, ground := Ground.phase }], guard := none }) rfl (fun K hK => ?_) AllReadyW.nil)
      go_simp
      refine hK.out _ _ trivial ?_
      clear hK K
      try simp only [Act.put, List.setIfInBounds_toArray, List.set_cons_zero, List.set_cons_succ]
      refine wpAnyW_done (by kernel_rfl) ?_ _
      go_wp2
      simp only [Nat.zero_add, List.nil_append] at RR6
      obtain ⟨fb, fr⟩ := tell_fin HZ0.out HB0.out HB6 RR6 HL.out.2.2 hx hL (.slice a6 (L.length + 1) c6) (.int .i64 F) (.int .i64 G) (.slice a6 (L.length + 1) c6)
      exact bodyPost_ret (v := .tuple #[rpV F G (.slice a6 (L.length + 1) c6), .int .i64 0]) (by simp [results, Try.results13, go_sem, *]) rfl ⟨_, rfl, fb, fr⟩
  · go_simp
    have N5 := hid (show Sl (W0.alloc (.cells (actC x).toArray 36)) (fun b => b = W0.heap.size) (.slice (some ⟨W0.heap.size, 0, none⟩) 1 1) 1 6 (actC x) from by have := sl_new W0 (fun b => b = W0.heap.size) (actC x) 36 1 6 rfl rfl; simpa only [World.size_alloc] using this)
    refine hK.out _ _ (hS.out _ (Bw.alloc (Bw.refl W0) _)) ?_
    clear hK K
    try simp only [Act.put, List.setIfInBounds_toArray, List.set_cons_zero, List.set_cons_succ]
    refine wpAnyW_ready (rs := [0]) (by kernel_rfl) (by simp) ?_
    refine (AllReadyW.cons (o := { dst := some 66, op := Op.buildSlice 22 0 #[], type := 22, pos := "ref.go:49", after := #[], guard := none }) rfl (fun K hK => ?_) AllReadyW.nil)
    go_simp
    have R0 := hid (show Rw W0 ((W0.alloc (.cells (actC x).toArray 36)).alloc (.cells #[] 36)) 36 6 (.slice (some ⟨W0.heap.size + 1, 0, none⟩) 0 0) 0 [] from by have := Rw.empty W0 (W0.alloc (.cells (actC x).toArray 36)) (Bw.alloc (Bw.refl W0) _) 36 6; simpa only [World.size_alloc] using this)
    refine hK.out _ _ (hS.out _ (Bw.alloc (Bw.alloc (Bw.refl W0) _) _)) ?_
    clear hK K
    try simp only [Act.put, List.setIfInBounds_toArray, List.set_cons_zero, List.set_cons_succ]
    refine wpAnyW_ready (rs := [3]) (by kernel_rfl) (by simp) ?_
    refine (AllReadyW.cons (o := { dst := some 69, op := Op.call { callee := Callee.builtin Builtin.append, args := #[Operand.tmp 66, Operand.tmp 68], argTypes := #[22, 22] }, type := 22, pos := "ref.go:49", after := #[{ on := 0, ground := Ground.data }, { on := 2, ground := Ground.data }], guard := none }) rfl (fun K hK => ?_) AllReadyW.nil)
    refine step_append_any (G := Gd) rfl _ _ 22 rfl 36 i2 _ 6 48 Try.underlying22 I2.out.1 I2.out.2.1 I2.out.2.2.1 I2.out.2.2.2 rfl (by decide) (.slice (some ⟨W0.heap.size + 1, 0, none⟩) 0 0) 0 [] rfl R0.out.1 (.slice av L.length cv) L.length (actsC L) rfl (hLs.out.below (Bw.alloc (Bw.alloc (Bw.refl W0) _) _)) (actsC_one L) (by unfold maxLen; omega) (by omega) ?_
    intro v3 w3 ho hg hvb
    have HBw3 : Bw W0 w3 := R0.out.bwGrown (Bw.alloc (Bw.alloc (Bw.refl W0) _) _) hg
    have RRw3 : Rw W0 w3 36 6 v3 (0 + L.length) ([] ++ actsC L) := R0.out.grown (Bw.alloc (Bw.alloc (Bw.refl W0) _) _) ho hvb
    have N6 := hid ((N5.out.below (Bw.alloc (Bw.refl _) (.cells #[] 36))).grown hg (fun b hb e => by simp only [Value.ownBlock, Option.some.injEq] at e; subst hb; omega))
    refine hK.out _ _ (hS.out _ HBw3) ?_
    clear hK K
    try simp only [Act.put, List.setIfInBounds_toArray, List.set_cons_zero, List.set_cons_succ]
    refine wpAnyW_ready (rs := [6]) (by kernel_rfl) (by simp) ?_
    refine (AllReadyW.cons (o := { dst := some 72, op := Op.call { callee := Callee.builtin Builtin.append, args := #[Operand.tmp 69, Operand.tmp 71], argTypes := #[22, 22] }, type := 22, pos := "ref.go:49", after := #[{ on := 3, ground := Ground.data }, { on := 5, ground := Ground.data }, { on := 3, ground := Ground.chain }], guard := none }) rfl (fun K hK => ?_) AllReadyW.nil)
    refine step_append_any rfl _ _ 22 rfl 36 i2 _ 6 48 Try.underlying22 I2.out.1 I2.out.2.1 I2.out.2.2.1 I2.out.2.2.2 rfl (by decide) v3 (0 + L.length) ([] ++ actsC L) rfl RRw3.1 (.slice (some ⟨W0.heap.size, 0, none⟩) 1 1) 1 (actC x) rfl N6.out (actC_one x) (by unfold maxLen; omega) (by omega) ?_
    intro v6 w6 ho6 hg6 hvb6
    have HB6 : Bw W0 w6 := RRw3.bwGrown HBw3 hg6
    have RR6 : Rw W0 w6 36 6 v6 (0 + L.length + 1) ([] ++ actsC L ++ actC x) := RRw3.grown HBw3 ho6 hvb6
    refine hK.out _ _ (hS.out _ HB6) ?_
    clear hK K
    try simp only [Act.put, List.setIfInBounds_toArray, List.set_cons_zero, List.set_cons_succ]
    refine wpAnyW_take (i := 7) (oi := { dst := some 73, op := Op.fieldAddr 29 (Operand.tmp 2) 2, type := 0, pos := "ref.go:49", after := #[{ on := 0, ground := Ground.phase }, { on := 1, ground := Ground.phase }, { on := 2, ground := Ground.phase }, { on := 3, ground := Ground.phase }, { on := 4, ground := Ground.phase }, { on := 5, ground := Ground.phase }, { on := 6, ground := Ground.phase }], guard := none }) (v := ?_) rfl (by kernel_rfl) (by kernel_rfl) (by kernel_rfl) (by kernel_rfl) (fun _ _ _ h => h) (Or.inl ⟨by rfl, fun w _ => ?_⟩) ?_
    rotate_left
    · (go_simp; first | done | with_reducible rfl)
    try simp only [Act.put, List.setIfInBounds_toArray, List.set_cons_zero, List.set_cons_succ]
    obtain ⟨a6, c6, e6⟩ := own_form RR6.1
    subst e6
    have BP6 := BP.out.bw HB6
    have BR6 := BR.out.bw HB6
    have p0 := BP6.cell 0
    have p1 := BP6.cell 1
    have p2 := BP6.cell 2
    have pf := BP6.free
    have pl := BP6.lt
    have r0 := BR6.cell 0
    have r1 := BR6.cell 1
    have r2 := BR6.cell 2
    have rf := BR6.free
    have rl := BR6.lt
    simp only [List.getElem?_toArray, List.getElem?_cons_zero, List.getElem?_cons_succ] at p0 p1 p2 r0 r1 r2
    refine wpAnyW_ready (rs := [8]) (by kernel_rfl) (by simp) ?_
    refine (AllReadyW.cons (o := { dst := none, op := Op.store 22 (Operand.tmp 73) (Operand.tmp 72), type := 0, pos := "ref.go:49", after := #[{ on := 7, ground := Ground.data }, { on := 6, ground := Ground.data }, { on := 6, ground := Ground.chain }, { on := 0, ground := Ground.phase }, { on := 1, ground := Ground.phase }, { on := 2, ground := Ground.phase }, { on := 3, ground := Ground.phase }, { on := 4, ground := Ground.phase }, { on := 5, ground := Ground.phase }, { on := 6, ground := Ground.phase }], guard := none }) rfl (fun K hK => ?_) AllReadyW.nil)
    go_simp
    refine hK.out _ _ trivial ?_
    clear hK K
    try simp only [Act.put, List.setIfInBounds_toArray, List.set_cons_zero, List.set_cons_succ]
    refine wpAnyW_done (by kernel_rfl) ?_ _
    go_wp2
    simp only [Nat.zero_add, List.nil_append] at RR6
    obtain ⟨fb, fr⟩ := tell_fin HZ0.out HB0.out HB6 RR6 HL.out.2.2 hx hL (.slice a6 (L.length + 1) c6) (.int .i64 F) (.int .i64 G) (.slice a6 (L.length + 1) c6)
    exact bodyPost_ret (v := .tuple #[rpV F G (.slice a6 (L.length + 1) c6), .int .i64 0]) (by simp [results, Try.results13, go_sem, *]) rfl ⟨_, rfl, fb, fr⟩

set_option maxRecDepth 100000 in
set_option maxHeartbeats 2000000 in
theorem rTell_3 {w : World} {Gd : Nat → Prop} {F G : Nat} {av : Option Addr} {cv : Nat} {L : List AA} (x : AA) (hx : AOK x) (h : RLs w Gd (.slice av L.length cv) L) (hL : L.length < 1000) (hd : x.d = 3) (n1 : ¬ x.f < 0) (n2 : ¬ (G : Int) ≤ x.f) (z : decide ((F : Int) ≤ x.f) = true ∨ decide ((F : Int) ≤ x.f) = false) : Calls Try.prog 13 #[rpV F G (.slice av L.length cv), actV x] w fun e w' => ∃ vL', e = .returned (.tuple #[rpV F G vL', .int .i64 0]) ∧ Bw w w' ∧ RLs w' (fun b => w.heap.size ≤ b) vL' (L ++ [x]) := by
  unfold actV
  have HL := hid h
  obtain ⟨i2, hi2, hz2, hs2, hy2⟩ := info_parts infoAc
  have I2 := hid (And.intro hi2 (And.intro hz2 (And.intro hs2 hy2)))
  clear h hi2 hz2 hs2 hy2
  have q2 : (x.d == 2) = false := by simp [hd]
  have q3 : (x.d == 3) = true := by simp [hd]
  have d1 : decide (x.f < 0) = false := decide_eq_false n1
  have d2 : decide ((G : Int) ≤ x.f) = false := decide_eq_false n2
  clear hd
  go_enter Try.func13, Try.ntmps13
  rcases z with z | z
  all_goals go_wp2
  all_goals skip
  · refine wp_region_W (fun w' => w'.cell? ⟨w.heap.size, 2, none⟩ = some (.slice av L.length cv) ∧ w'.cell? ⟨w.heap.size + 1, 0, none⟩ = some (.int .i64 x.d) ∧ w'.cell? ⟨w.heap.size + 1, 1, none⟩ = some (.int .i64 x.f) ∧ w'.cell? ⟨w.heap.size + 1, 2, none⟩ = some (.int .i64 x.t) ∧ w'.cell? ⟨w.heap.size + 1, 3, none⟩ = some (.int .i64 x.a) ∧ w'.cell? ⟨w.heap.size + 1, 4, none⟩ = some (.int .i64 x.b) ∧ w'.cell? ⟨w.heap.size + 1, 5, none⟩ = some (.int .u64 x.v)) (fun j => if j == 0 || j == 3 || j == 5 || j == 6 then 0 else if j == 8 then 2 else 1) (by kernel_rfl) ?_
    generalize hW0 : (((w.alloc (.cells #[.int .i64 F, .int .i64 G, .slice av L.length cv] 29)).alloc (.cells #[.int .i64 x.d, .int .i64 x.f, .int .i64 x.t, .int .i64 x.a, .int .i64 x.b, .int .u64 x.v] 36)).alloc (.cells #[.int .i64 0, .int .i64 0, .slice none 0 0] 29)).drew = W0
    have hB0 : Bw w W0 := by rw [← hW0]; exact Bw.drew (Bw.alloc (Bw.alloc (Bw.alloc (Bw.refl _) _) _) _)
    have bP : Blk W0 w.heap.size #[.int .i64 F, .int .i64 G, .slice av L.length cv] 29 := by rw [← hW0]; exact Blk.drewd (((Blk.new w _ _).alloc _).alloc _)
    have bA : Blk W0 (w.heap.size + 1) #[.int .i64 x.d, .int .i64 x.f, .int .i64 x.t, .int .i64 x.a, .int .i64 x.b, .int .u64 x.v] 36 := by
      rw [← hW0]
      refine Blk.drewd ?_
      apply Blk.alloc
      exact Blk.newAt _ _ _ _ (by simp only [World.size_alloc])
    have bR : Blk W0 (w.heap.size + 1 + 1) #[.int .i64 0, .int .i64 0, .slice none 0 0] 29 := by
      rw [← hW0]
      refine Blk.drewd ?_
      exact Blk.newAt _ _ _ _ (by simp only [World.size_alloc])
    have HZ0 := hid (show W0.heap.size = w.heap.size + 3 by rw [← hW0]; simp)
    have hLs := hid (HL.out.1.below hB0)
    have hS := hid (show ∀ W', Bw W0 W' → (fun w' => w'.cell? ⟨w.heap.size, 2, none⟩ = some (.slice av L.length cv) ∧ w'.cell? ⟨w.heap.size + 1, 0, none⟩ = some (.int .i64 x.d) ∧ w'.cell? ⟨w.heap.size + 1, 1, none⟩ = some (.int .i64 x.f) ∧ w'.cell? ⟨w.heap.size + 1, 2, none⟩ = some (.int .i64 x.t) ∧ w'.cell? ⟨w.heap.size + 1, 3, none⟩ = some (.int .i64 x.a) ∧ w'.cell? ⟨w.heap.size + 1, 4, none⟩ = some (.int .i64 x.b) ∧ w'.cell? ⟨w.heap.size + 1, 5, none⟩ = some (.int .u64 x.v)) W' from fun W' hb => ⟨(bP.bw hb).cell 2, (bA.bw hb).cell 0, (bA.bw hb).cell 1, (bA.bw hb).cell 2, (bA.bw hb).cell 3, (bA.bw hb).cell 4, (bA.bw hb).cell 5⟩)
    have BP := hid bP
    have BR := hid bR
    have HB0 := hid hB0
    clear hW0 bP bA bR hB0
    refine wpAnyW_take (i := 1) (oi := { dst := some 67, op := Op.fieldAddr 29 (Operand.tmp 2) 2, type := 0, pos := "ref.go:49", after := #[], guard := none }) (v := ?_) rfl (by kernel_rfl) (by kernel_rfl) (by kernel_rfl) (by kernel_rfl) (fun _ _ _ h => h) (Or.inl ⟨by rfl, fun w _ => ?_⟩) ?_
    rotate_left
    · (go_simp; first | done | with_reducible rfl)
    try simp only [Act.put, List.setIfInBounds_toArray, List.set_cons_zero, List.set_cons_succ]
    refine wpAnyW_load (i := 2) (oi := { dst := some 68, op := Op.load 22 (Operand.tmp 67), type := 22, pos := "ref.go:49", after := #[{ on := 1, ground := Ground.data }], guard := none }) (v := ?_) rfl (by kernel_rfl) (by kernel_rfl) (by kernel_rfl) (by kernel_rfl) (by kernel_rfl) (fun _ _ _ h => h) (Or.inl ⟨by rfl, fun w hS => ?_⟩) (hS.out W0 (Bw.refl _)) ?_
    rotate_left
    · (obtain ⟨s1, s2, s3, s4, s5, s6, s7⟩ := hS; go_simp; first | done | with_reducible rfl)
    try simp only [Act.put, List.setIfInBounds_toArray, List.set_cons_zero, List.set_cons_succ]
    refine wpAnyW_load (i := 4) (oi := { dst := some 70, op := Op.load 36 (Operand.tmp 3), type := 36, pos := "ref.go:49", after := #[], guard := none }) (v := ?_) rfl (by kernel_rfl) (by kernel_rfl) (by kernel_rfl) (by kernel_rfl) (by kernel_rfl) (fun _ _ _ h => h) (Or.inl ⟨by rfl, fun w hS => ?_⟩) (hS.out W0 (Bw.refl _)) ?_
    rotate_left
    · (obtain ⟨s1, s2, s3, s4, s5, s6, s7⟩ := hS; go_simp; first | done | with_reducible rfl)
    try simp only [Act.put, List.setIfInBounds_toArray, List.set_cons_zero, List.set_cons_succ]
    refine wpAnyW_ready (rs := [0, 5]) (by kernel_rfl) (by simp) ?_
    refine (AllReadyW.cons (o := { dst := some 66, op := Op.buildSlice 22 0 #[], type := 22, pos := "ref.go:49", after := #[], guard := none }) rfl (fun K hK => ?_) (AllReadyW.cons (o := { dst := some 71, op := Op.buildSlice 22 1 #[(0, Operand.tmp 70)], type := 22, pos := "ref.go:49", after := #[{ on := 4, ground := Ground.data }], guard := none }) rfl (fun K hK => ?_) AllReadyW.nil))
    · go_simp
      have R0 := hid (show Rw W0 (W0.alloc (.cells #[] 36)) 36 6 (.slice (some ⟨W0.heap.size, 0, none⟩) 0 0) 0 [] from by have := Rw.empty W0 W0 (Bw.refl W0) 36 6; simpa only [World.size_alloc] using this)
      refine hK.out _ _ (hS.out _ (Bw.alloc (Bw.refl W0) _)) ?_
      clear hK K
      try simp only [Act.put, List.setIfInBounds_toArray, List.set_cons_zero, List.set_cons_succ]
      refine wpAnyW_ready (rs := [3, 5]) (by kernel_rfl) (by simp) ?_
      refine (AllReadyW.cons (o := { dst := some 69, op := Op.call { callee := Callee.builtin Builtin.append, args := #[Operand.tmp 66, Operand.tmp 68], argTypes := #[22, 22] }, type := 22, pos := "ref.go:49", after := #[{ on := 0, ground := Ground.data }, { on := 2, ground := Ground.data }], guard := none }) rfl (fun K hK => ?_) (AllReadyW.cons (o := { dst := some 71, op := Op.buildSlice 22 1 #[(0, Operand.tmp 70)], type := 22, pos := "ref.go:49", after := #[{ on := 4, ground := Ground.data }], guard := none }) rfl (fun K hK => ?_) AllReadyW.nil))
      · refine step_append_any (G := Gd) rfl _ _ 22 rfl 36 i2 _ 6 48 Try.underlying22 I2.out.1 I2.out.2.1 I2.out.2.2.1 I2.out.2.2.2 rfl (by decide) (.slice (some ⟨W0.heap.size, 0, none⟩) 0 0) 0 [] rfl R0.out.1 (.slice av L.length cv) L.length (actsC L) rfl (hLs.out.below (Bw.alloc (Bw.refl W0) _)) (actsC_one L) (by unfold maxLen; omega) (by omega) ?_
        intro v3 w3 ho hg hvb
        have HBw3 : Bw W0 w3 := R0.out.bwGrown (Bw.alloc (Bw.refl W0) _) hg
        have RRw3 : Rw W0 w3 36 6 v3 (0 + L.length) ([] ++ actsC L) := R0.out.grown (Bw.alloc (Bw.refl W0) _) ho hvb
        refine hK.out _ _ (hS.out _ HBw3) ?_
        clear hK K
        try simp only [Act.put, List.setIfInBounds_toArray, List.set_cons_zero, List.set_cons_succ]
        refine wpAnyW_ready (rs := [5]) (by kernel_rfl) (by simp) ?_
        refine (AllReadyW.cons (o := { dst := some 71, op := Op.buildSlice 22 1 #[(0, Operand.tmp 70)], type := 22, pos := "ref.go:49", after := #[{ on := 4, ground := Ground.data }], guard := none }) rfl (fun K hK => ?_) AllReadyW.nil)
        go_simp
        have N5 := hid (show Sl (w3.alloc (.cells (actC x).toArray 36)) (fun b => b = w3.heap.size) (.slice (some ⟨w3.heap.size, 0, none⟩) 1 1) 1 6 (actC x) from by have := sl_new w3 (fun b => b = w3.heap.size) (actC x) 36 1 6 rfl rfl; simpa only [World.size_alloc] using this)
        refine hK.out _ _ (hS.out _ (Bw.alloc HBw3 _)) ?_
        clear hK K
        try simp only [Act.put, List.setIfInBounds_toArray, List.set_cons_zero, List.set_cons_succ]
        refine wpAnyW_ready (rs := [6]) (by kernel_rfl) (by simp) ?_
        refine (AllReadyW.cons (o := { dst := some 72, op := Op.call { callee := Callee.builtin Builtin.append, args := #[Operand.tmp 69, Operand.tmp 71], argTypes := #[22, 22] }, type := 22, pos := "ref.go:49", after := #[{ on := 3, ground := Ground.data }, { on := 5, ground := Ground.data }, { on := 3, ground := Ground.chain }], guard := none }) rfl (fun K hK => ?_) AllReadyW.nil)
        refine step_append_any rfl _ _ 22 rfl 36 i2 _ 6 48 Try.underlying22 I2.out.1 I2.out.2.1 I2.out.2.2.1 I2.out.2.2.2 rfl (by decide) v3 (0 + L.length) ([] ++ actsC L) rfl (RRw3.bw (Bw.alloc (Bw.refl _) _)).1 (.slice (some ⟨w3.heap.size, 0, none⟩) 1 1) 1 (actC x) rfl N5.out (actC_one x) (by unfold maxLen; omega) (by omega) ?_
        intro v6 w6 ho6 hg6 hvb6
        have HB6 : Bw W0 w6 := (RRw3.bw (Bw.alloc (Bw.refl _) _)).bwGrown (Bw.alloc HBw3 _) hg6
        have RR6 : Rw W0 w6 36 6 v6 (0 + L.length + 1) ([] ++ actsC L ++ actC x) := (RRw3.bw (Bw.alloc (Bw.refl _) _)).grown (Bw.alloc HBw3 _) ho6 hvb6
        refine hK.out _ _ (hS.out _ HB6) ?_
        clear hK K
        try simp only [Act.put, List.setIfInBounds_toArray, List.set_cons_zero, List.set_cons_succ]
        refine wpAnyW_take (i := 7) (oi := { dst := some 73, op := Op.fieldAddr 29 (Operand.tmp 2) 2, type := 0, pos := "ref.go:49", after := #[{ on := 0, ground := Ground.phase }, { on := 1, ground := Ground.phase }, { on := 2, ground := Ground.phase }, { on := 3, ground := Ground.phase }, { on := 4, ground := Ground.phase }, { on := 5, ground := Ground.phase }, { on := 6, ground := Ground.phase }], guard := none }) (v := ?_) rfl (by kernel_rfl) (by kernel_rfl) (by kernel_rfl) (by kernel_rfl) (fun _ _ _ h => h) (Or.inl ⟨by rfl, fun w _ => ?_⟩) ?_
        rotate_left
        · (go_simp; first | done | with_reducible rfl)
        try simp only [Act.put, List.setIfInBounds_toArray, List.set_cons_zero, List.set_cons_succ]
        obtain ⟨a6, c6, e6⟩ := own_form RR6.1
        subst e6
        have BP6 := BP.out.bw HB6
        have BR6 := BR.out.bw HB6
        have p0 := BP6.cell 0
        have p1 := BP6.cell 1
        have p2 := BP6.cell 2
        have pf := BP6.free
        have pl := BP6.lt
        have r0 := BR6.cell 0
        have r1 := BR6.cell 1
        have r2 := BR6.cell 2
        have rf := BR6.free
        have rl := BR6.lt
        simp only [List.getElem?_toArray, List.getElem?_cons_zero, List.getElem?_cons_succ] at p0 p1 p2 r0 r1 r2
        refine wpAnyW_ready (rs := [8]) (by kernel_rfl) (by simp) ?_
        refine (AllReadyW.cons (o := { dst := none, op := Op.store 22 (Operand.tmp 73) (Operand.tmp 72), type := 0, pos := "ref.go:49", after := #[{ on := 7, ground := Ground.data }, { on := 6, ground := Ground.data }, { on := 6, ground := Ground.chain }, { on := 0, ground := Ground.phase }, { on := 1, ground := Ground.phase }, { on := 2, ground := Ground.phase }, { on := 3, ground := Ground.phase }, { on := 4, ground := Ground.phase }, { on := 5, ground := Ground.phase }, { on := 6, ground := Ground.phase }], guard := none }) rfl (fun K hK => ?_) AllReadyW.nil)
        go_simp
        refine hK.out _ _ trivial ?_
        clear hK K
        try simp only [Act.put, List.setIfInBounds_toArray, List.set_cons_zero, List.set_cons_succ]
        refine wpAnyW_done (by kernel_rfl) ?_ _
        go_wp2
        simp only [Nat.zero_add, List.nil_append] at RR6
        obtain ⟨fb, fr⟩ := tell_fin HZ0.out HB0.out HB6 RR6 HL.out.2.2 hx hL (.slice a6 (L.length + 1) c6) (.int .i64 F) (.int .i64 G) (.slice a6 (L.length + 1) c6)
        exact bodyPost_ret (v := .tuple #[rpV F G (.slice a6 (L.length + 1) c6), .int .i64 0]) (by simp [results, Try.results13, go_sem, *]) rfl ⟨_, rfl, fb, fr⟩
      · go_simp
        have N5 := hid (show Sl ((W0.alloc (.cells #[] 36)).alloc (.cells (actC x).toArray 36)) (fun b => b = W0.heap.size + 1) (.slice (some ⟨W0.heap.size + 1, 0, none⟩) 1 1) 1 6 (actC x) from by have := sl_new (W0.alloc (.cells #[] 36)) (fun b => b = (W0.alloc (.cells #[] 36)).heap.size) (actC x) 36 1 6 rfl rfl; simpa only [World.size_alloc] using this)
        refine hK.out _ _ (hS.out _ (Bw.alloc (Bw.alloc (Bw.refl W0) _) _)) ?_
        clear hK K
        try simp only [Act.put, List.setIfInBounds_toArray, List.set_cons_zero, List.set_cons_succ]
        refine wpAnyW_ready (rs := [3]) (by kernel_rfl) (by simp) ?_
        refine (AllReadyW.cons (o := { dst := some 69, op := Op.call { callee := Callee.builtin Builtin.append, args := #[Operand.tmp 66, Operand.tmp 68], argTypes := #[22, 22] }, type := 22, pos := "ref.go:49", after := #[{ on := 0, ground := Ground.data }, { on := 2, ground := Ground.data }], guard := none }) rfl (fun K hK => ?_) AllReadyW.nil)
        refine step_append_any (G := Gd) rfl _ _ 22 rfl 36 i2 _ 6 48 Try.underlying22 I2.out.1 I2.out.2.1 I2.out.2.2.1 I2.out.2.2.2 rfl (by decide) (.slice (some ⟨W0.heap.size, 0, none⟩) 0 0) 0 [] rfl (R0.out.bw (Bw.alloc (Bw.refl _) _)).1 (.slice av L.length cv) L.length (actsC L) rfl (hLs.out.below (Bw.alloc (Bw.alloc (Bw.refl W0) _) _)) (actsC_one L) (by unfold maxLen; omega) (by omega) ?_
        intro v3 w3 ho hg hvb
        have HBw3 : Bw W0 w3 := (R0.out.bw (Bw.alloc (Bw.refl _) _)).bwGrown (Bw.alloc (Bw.alloc (Bw.refl W0) _) _) hg
        have RRw3 : Rw W0 w3 36 6 v3 (0 + L.length) ([] ++ actsC L) := (R0.out.bw (Bw.alloc (Bw.refl _) _)).grown (Bw.alloc (Bw.alloc (Bw.refl W0) _) _) ho hvb
        have N6 := hid (N5.out.grown hg (fun b hb e => by simp only [Value.ownBlock, Option.some.injEq] at e; subst hb; omega))
        refine hK.out _ _ (hS.out _ HBw3) ?_
        clear hK K
        try simp only [Act.put, List.setIfInBounds_toArray, List.set_cons_zero, List.set_cons_succ]
        refine wpAnyW_ready (rs := [6]) (by kernel_rfl) (by simp) ?_
        refine (AllReadyW.cons (o := { dst := some 72, op := Op.call { callee := Callee.builtin Builtin.append, args := #[Operand.tmp 69, Operand.tmp 71], argTypes := #[22, 22] }, type := 22, pos := "ref.go:49", after := #[{ on := 3, ground := Ground.data }, { on := 5, ground := Ground.data }, { on := 3, ground := Ground.chain }], guard := none }) rfl (fun K hK => ?_) AllReadyW.nil)
        refine step_append_any rfl _ _ 22 rfl 36 i2 _ 6 48 Try.underlying22 I2.out.1 I2.out.2.1 I2.out.2.2.1 I2.out.2.2.2 rfl (by decide) v3 (0 + L.length) ([] ++ actsC L) rfl RRw3.1 (.slice (some ⟨W0.heap.size + 1, 0, none⟩) 1 1) 1 (actC x) rfl N6.out (actC_one x) (by unfold maxLen; omega) (by omega) ?_
        intro v6 w6 ho6 hg6 hvb6
        have HB6 : Bw W0 w6 := RRw3.bwGrown HBw3 hg6
        have RR6 : Rw W0 w6 36 6 v6 (0 + L.length + 1) ([] ++ actsC L ++ actC x) := RRw3.grown HBw3 ho6 hvb6
        refine hK.out _ _ (hS.out _ HB6) ?_
        clear hK K
        try simp only [Act.put, List.setIfInBounds_toArray, List.set_cons_zero, List.set_cons_succ]
        refine wpAnyW_take (i := 7) (oi := { dst := some 73, op := Op.fieldAddr 29 (Operand.tmp 2) 2, type := 0, pos := "ref.go:49", after := #[{ on := 0, ground := Ground.phase }, { on := 1, ground := Ground.phase }, { on := 2, ground := Ground.phase }, { on := 3, ground := Ground.phase }, { on := 4, ground := Ground.phase }, { on := 5, ground := Ground.phase }, { on := 6, ground := Ground.phase }], guard := none }) (v := ?_) rfl (by kernel_rfl) (by kernel_rfl) (by kernel_rfl) (by kernel_rfl) (fun _ _ _ h => h) (Or.inl ⟨by rfl, fun w _ => ?_⟩) ?_
        rotate_left
        · (go_simp; first | done | with_reducible rfl)
        try simp only [Act.put, List.setIfInBounds_toArray, List.set_cons_zero, List.set_cons_succ]
        obtain ⟨a6, c6, e6⟩ := own_form RR6.1
        subst e6
        have BP6 := BP.out.bw HB6
        have BR6 := BR.out.bw HB6
        have p0 := BP6.cell 0
        have p1 := BP6.cell 1
        have p2 := BP6.cell 2
        have pf := BP6.free
        have pl := BP6.lt
        have r0 := BR6.cell 0
        have r1 := BR6.cell 1
        have r2 := BR6.cell 2
        have rf := BR6.free
        have rl := BR6.lt
        simp only [List.getElem?_toArray, List.getElem?_cons_zero, List.getElem?_cons_succ] at p0 p1 p2 r0 r1 r2
        refine wpAnyW_ready (rs := [8]) (by kernel_rfl) (by simp) ?_
        refine (AllReadyW.cons (o := { dst := none, op := Op.store 22 (Operand.tmp 73) (Operand.tmp 72), type := 0, pos := "ref.go:49", after := #[{ on := 7, ground := Ground.data }, { on := 6, ground := Ground.data }, { on := 6, ground := Ground.chain }, { on := 0, ground := Ground.phase }, { on := 1, ground := Ground.phase }, { on := 2, ground := Ground.phase }, { on := 3, ground := Ground.phase }, { on := 4, ground := Ground.phase }, { on := 5, ground := Ground.phase }, { on := 6, ground := Ground.phase }], guard := none }) rfl (fun K hK => ?_) AllReadyW.nil)
        go_simp
        refine hK.out _ _ trivial ?_
        clear hK K
        try simp only [Act.put, List.setIfInBounds_toArray, List.set_cons_zero, List.set_cons_succ]
        refine wpAnyW_done (by kernel_rfl) ?_ _
        go_wp2
        simp only [Nat.zero_add, List.nil_append] at RR6
        obtain ⟨fb, fr⟩ := tell_fin HZ0.out HB0.out HB6 RR6 HL.out.2.2 hx hL (.slice a6 (L.length + 1) c6) (.int .i64 F) (.int .i64 G) (.slice a6 (L.length + 1) c6)
        exact bodyPost_ret (v := .tuple #[rpV F G (.slice a6 (L.length + 1) c6), .int .i64 0]) (by simp [results, Try.results13, go_sem, *]) rfl ⟨_, rfl, fb, fr⟩
    · go_simp
      have N5 := hid (show Sl (W0.alloc (.cells (actC x).toArray 36)) (fun b => b = W0.heap.size) (.slice (some ⟨W0.heap.size, 0, none⟩) 1 1) 1 6 (actC x) from by have := sl_new W0 (fun b => b = W0.heap.size) (actC x) 36 1 6 rfl rfl; simpa only [World.size_alloc] using this)
      refine hK.out _ _ (hS.out _ (Bw.alloc (Bw.refl W0) _)) ?_
      clear hK K
      try simp only [Act.put, List.setIfInBounds_toArray, List.set_cons_zero, List.set_cons_succ]
      refine wpAnyW_ready (rs := [0]) (by kernel_rfl) (by simp) ?_
      refine (AllReadyW.cons (o := { dst := some 66, op := Op.buildSlice 22 0 #[], type := 22, pos := "ref.go:49", after := #[], guard := none }) rfl (fun K hK => ?_) AllReadyW.nil)
      go_simp
      have R0 := hid (show Rw W0 ((W0.alloc (.cells (actC x).toArray 36)).alloc (.cells #[] 36)) 36 6 (.slice (some ⟨W0.heap.size + 1, 0, none⟩) 0 0) 0 [] from by have := Rw.empty W0 (W0.alloc (.cells (actC x).toArray 36)) (Bw.alloc (Bw.refl W0) _) 36 6; simpa only [World.size_alloc] using this)
      refine hK.out _ _ (hS.out _ (Bw.alloc (Bw.alloc (Bw.refl W0) _) _)) ?_
      clear hK K
      try simp only [Act.put, List.setIfInBounds_toArray, List.set_cons_zero, List.set_cons_succ]
      refine wpAnyW_ready (rs := [3]) (by kernel_rfl) (by simp) ?_
      refine (AllReadyW.cons (o := { dst := some 69, op := Op.call { callee := Callee.builtin Builtin.append, args := #[Operand.tmp 66, Operand.tmp 68], argTypes := #[22, 22] }, type := 22, pos := "ref.go:49", after := #[{ on := 0, ground := Ground.data }, { on := 2, ground := Ground.data }], guard := none }) rfl (fun K hK => ?_) AllReadyW.nil)
      refine step_append_any (G := Gd) rfl _ _ 22 rfl 36 i2 _ 6 48 Try.underlying22 I2.out.1 I2.out.2.1 I2.out.2.2.1 I2.out.2.2.2 rfl (by decide) (.slice (some ⟨W0.heap.size + 1, 0, none⟩) 0 0) 0 [] rfl R0.out.1 (.slice av L.length cv) L.length (actsC L) rfl (hLs.out.below (Bw.alloc (Bw.alloc (Bw.refl W0) _) _)) (actsC_one L) (by unfold maxLen; omega) (by omega) ?_
      intro v3 w3 ho hg hvb
      have HBw3 : Bw W0 w3 := R0.out.bwGrown (Bw.alloc (Bw.alloc (Bw.refl W0) _) _) hg
      have RRw3 : Rw W0 w3 36 6 v3 (0 + L.length) ([] ++ actsC L) := R0.out.grown (Bw.alloc (Bw.alloc (Bw.refl W0) _) _) ho hvb
      have N6 := hid ((N5.out.below (Bw.alloc (Bw.refl _) (.cells #[] 36))).grown hg (fun b hb e => by simp only [Value.ownBlock, Option.some.injEq] at e; subst hb; omega))
      refine hK.out _ _ (hS.out _ HBw3) ?_
      clear hK K
      try simp only [Act.put, List.setIfInBounds_toArray, List.set_cons_zero, List.set_cons_succ]
      refine wpAnyW_ready (rs := [6]) (by kernel_rfl) (by simp) ?_
      refine (AllReadyW.cons (o := { dst := some 72, op := Op.call { callee := Callee.builtin Builtin.append, args := #[Operand.tmp 69, Operand.tmp 71], argTypes := #[22, 22] }, type := 22, pos := "ref.go:49", after := #[{ on := 3, ground := Ground.data }, { on := 5, ground := Ground.data }, { on := 3, ground := Ground.chain }], guard := none }) rfl (fun K hK => ?_) AllReadyW.nil)
      refine step_append_any rfl _ _ 22 rfl 36 i2 _ 6 48 Try.underlying22 I2.out.1 I2.out.2.1 I2.out.2.2.1 I2.out.2.2.2 rfl (by decide) v3 (0 + L.length) ([] ++ actsC L) rfl RRw3.1 (.slice (some ⟨W0.heap.size, 0, none⟩) 1 1) 1 (actC x) rfl N6.out (actC_one x) (by unfold maxLen; omega) (by omega) ?_
      intro v6 w6 ho6 hg6 hvb6
      have HB6 : Bw W0 w6 := RRw3.bwGrown HBw3 hg6
      have RR6 : Rw W0 w6 36 6 v6 (0 + L.length + 1) ([] ++ actsC L ++ actC x) := RRw3.grown HBw3 ho6 hvb6
      refine hK.out _ _ (hS.out _ HB6) ?_
      clear hK K
      try simp only [Act.put, List.setIfInBounds_toArray, List.set_cons_zero, List.set_cons_succ]
      refine wpAnyW_take (i := 7) (oi := { dst := some 73, op := Op.fieldAddr 29 (Operand.tmp 2) 2, type := 0, pos := "ref.go:49", after := #[{ on := 0, ground := Ground.phase }, { on := 1, ground := Ground.phase }, { on := 2, ground := Ground.phase }, { on := 3, ground := Ground.phase }, { on := 4, ground := Ground.phase }, { on := 5, ground := Ground.phase }, { on := 6, ground := Ground.phase }], guard := none }) (v := ?_) rfl (by kernel_rfl) (by kernel_rfl) (by kernel_rfl) (by kernel_rfl) (fun _ _ _ h => h) (Or.inl ⟨by rfl, fun w _ => ?_⟩) ?_
      rotate_left
      · (go_simp; first | done | with_reducible rfl)
      try simp only [Act.put, List.setIfInBounds_toArray, List.set_cons_zero, List.set_cons_succ]
      obtain ⟨a6, c6, e6⟩ := own_form RR6.1
      subst e6
      have BP6 := BP.out.bw HB6
      have BR6 := BR.out.bw HB6
      have p0 := BP6.cell 0
      have p1 := BP6.cell 1
      have p2 := BP6.cell 2
      have pf := BP6.free
      have pl := BP6.lt
      have r0 := BR6.cell 0
      have r1 := BR6.cell 1
      have r2 := BR6.cell 2
      have rf := BR6.free
      have rl := BR6.lt
      simp only [List.getElem?_toArray, List.getElem?_cons_zero, List.getElem?_cons_succ] at p0 p1 p2 r0 r1 r2
      refine wpAnyW_ready (rs := [8]) (by kernel_rfl) (by simp) ?_
      refine (AllReadyW.cons (o := { dst := none, op := Op.store 22 (Operand.tmp 73) (Operand.tmp 72), type := 0, pos := "ref.go:49", after := #[{ on := 7, ground := Ground.data }, { on := 6, ground := Ground.data }, { on := 6, ground := Ground.chain }, { on := 0, ground := Ground.phase }, { on := 1, ground := Ground.phase }, { on := 2, ground := Ground.phase }, { on := 3, ground := Ground.phase }, { on := 4, ground := Ground.phase }, { on := 5, ground := Ground.phase }, { on := 6, ground := Ground.phase }], guard := none }) rfl (fun K hK => ?_) AllReadyW.nil)
      go_simp
      refine hK.out _ _ trivial ?_
      clear hK K
      try simp only [Act.put, List.setIfInBounds_toArray, List.set_cons_zero, List.set_cons_succ]
      refine wpAnyW_done (by kernel_rfl) ?_ _
      go_wp2
      simp only [Nat.zero_add, List.nil_append] at RR6
      obtain ⟨fb, fr⟩ := tell_fin HZ0.out HB0.out HB6 RR6 HL.out.2.2 hx hL (.slice a6 (L.length + 1) c6) (.int .i64 F) (.int .i64 G) (.slice a6 (L.length + 1) c6)
      exact bodyPost_ret (v := .tuple #[rpV F G (.slice a6 (L.length + 1) c6), .int .i64 0]) (by simp [results, Try.results13, go_sem, *]) rfl ⟨_, rfl, fb, fr⟩

  · refine wp_region_W (fun w' => w'.cell? ⟨w.heap.size, 2, none⟩ = some (.slice av L.length cv) ∧ w'.cell? ⟨w.heap.size + 1, 0, none⟩ = some (.int .i64 x.d) ∧ w'.cell? ⟨w.heap.size + 1, 1, none⟩ = some (.int .i64 x.f) ∧ w'.cell? ⟨w.heap.size + 1, 2, none⟩ = some (.int .i64 x.t) ∧ w'.cell? ⟨w.heap.size + 1, 3, none⟩ = some (.int .i64 x.a) ∧ w'.cell? ⟨w.heap.size + 1, 4, none⟩ = some (.int .i64 x.b) ∧ w'.cell? ⟨w.heap.size + 1, 5, none⟩ = some (.int .u64 x.v)) (fun j => if j == 0 || j == 3 || j == 5 || j == 6 then 0 else if j == 8 then 2 else 1) (by kernel_rfl) ?_
    generalize hW0 : (((w.alloc (.cells #[.int .i64 F, .int .i64 G, .slice av L.length cv] 29)).alloc (.cells #[.int .i64 x.d, .int .i64 x.f, .int .i64 x.t, .int .i64 x.a, .int .i64 x.b, .int .u64 x.v] 36)).alloc (.cells #[.int .i64 0, .int .i64 0, .slice none 0 0] 29)).drew = W0
    have hB0 : Bw w W0 := by rw [← hW0]; exact Bw.drew (Bw.alloc (Bw.alloc (Bw.alloc (Bw.refl _) _) _) _)
    have bP : Blk W0 w.heap.size #[.int .i64 F, .int .i64 G, .slice av L.length cv] 29 := by rw [← hW0]; exact Blk.drewd (((Blk.new w _ _).alloc _).alloc _)
    have bA : Blk W0 (w.heap.size + 1) #[.int .i64 x.d, .int .i64 x.f, .int .i64 x.t, .int .i64 x.a, .int .i64 x.b, .int .u64 x.v] 36 := by
      rw [← hW0]
      refine Blk.drewd ?_
      apply Blk.alloc
      exact Blk.newAt _ _ _ _ (by simp only [World.size_alloc])
    have bR : Blk W0 (w.heap.size + 1 + 1) #[.int .i64 0, .int .i64 0, .slice none 0 0] 29 := by
      rw [← hW0]
      refine Blk.drewd ?_
      exact Blk.newAt _ _ _ _ (by simp only [World.size_alloc])
    have HZ0 := hid (show W0.heap.size = w.heap.size + 3 by rw [← hW0]; simp)
    have hLs := hid (HL.out.1.below hB0)
    have hS := hid (show ∀ W', Bw W0 W' → (fun w' => w'.cell? ⟨w.heap.size, 2, none⟩ = some (.slice av L.length cv) ∧ w'.cell? ⟨w.heap.size + 1, 0, none⟩ = some (.int .i64 x.d) ∧ w'.cell? ⟨w.heap.size + 1, 1, none⟩ = some (.int .i64 x.f) ∧ w'.cell? ⟨w.heap.size + 1, 2, none⟩ = some (.int .i64 x.t) ∧ w'.cell? ⟨w.heap.size + 1, 3, none⟩ = some (.int .i64 x.a) ∧ w'.cell? ⟨w.heap.size + 1, 4, none⟩ = some (.int .i64 x.b) ∧ w'.cell? ⟨w.heap.size + 1, 5, none⟩ = some (.int .u64 x.v)) W' from fun W' hb => ⟨(bP.bw hb).cell 2, (bA.bw hb).cell 0, (bA.bw hb).cell 1, (bA.bw hb).cell 2, (bA.bw hb).cell 3, (bA.bw hb).cell 4, (bA.bw hb).cell 5⟩)
    have BP := hid bP
    have BR := hid bR
    have HB0 := hid hB0
    clear hW0 bP bA bR hB0
    refine wpAnyW_take (i := 1) (oi := { dst := some 67, op := Op.fieldAddr 29 (Operand.tmp 2) 2, type := 0, pos := "ref.go:49", after := #[], guard := none }) (v := ?_) rfl (by kernel_rfl) (by kernel_rfl) (by kernel_rfl) (by kernel_rfl) (fun _ _ _ h => h) (Or.inl ⟨by rfl, fun w _ => ?_⟩) ?_
    rotate_left
    · (go_simp; first | done | with_reducible rfl)
    try simp only [Act.put, List.setIfInBounds_toArray, List.set_cons_zero, List.set_cons_succ]
    refine wpAnyW_load (i := 2) (oi := { dst := some 68, op := Op.load 22 (Operand.tmp 67), type := 22, pos := "ref.go:49", after := #[{ on := 1, ground := Ground.data }], guard := none }) (v := ?_) rfl (by kernel_rfl) (by kernel_rfl) (by kernel_rfl) (by kernel_rfl) (by kernel_rfl) (fun _ _ _ h => h) (Or.inl ⟨by rfl, fun w hS => ?_⟩) (hS.out W0 (Bw.refl _)) ?_
    rotate_left
    · (obtain ⟨s1, s2, s3, s4, s5, s6, s7⟩ := hS; go_simp; first | done | with_reducible rfl)
    try simp only [Act.put, List.setIfInBounds_toArray, List.set_cons_zero, List.set_cons_succ]
    refine wpAnyW_load (i := 4) (oi := { dst := some 70, op := Op.load 36 (Operand.tmp 3), type := 36, pos := "ref.go:49", after := #[], guard := none }) (v := ?_) rfl (by kernel_rfl) (by kernel_rfl) (by kernel_rfl) (by kernel_rfl) (by kernel_rfl) (fun _ _ _ h => h) (Or.inl ⟨by rfl, fun w hS => ?_⟩) (hS.out W0 (Bw.refl _)) ?_
    rotate_left
    · (obtain ⟨s1, s2, s3, s4, s5, s6, s7⟩ := hS; go_simp; first | done | with_reducible rfl)
    try simp only [Act.put, List.setIfInBounds_toArray, List.set_cons_zero, List.set_cons_succ]
    refine wpAnyW_ready (rs := [0, 5]) (by kernel_rfl) (by simp) ?_
    refine (AllReadyW.cons (o := { dst := some 66, op := Op.buildSlice 22 0 #[], type := 22, pos := "ref.go:49", after := #[], guard := none }) rfl (fun K hK => ?_) (AllReadyW.cons (o := { dst := some 71, op := Op.buildSlice 22 1 #[(0, Operand.tmp 70)], type := 22, pos := "ref.go:49", after := #[{ on := 4, ground := Ground.data }], guard := none }) rfl (fun K hK => ?_) AllReadyW.nil))
    · go_simp
      have R0 := hid (show Rw W0 (W0.alloc (.cells #[] 36)) 36 6 (.slice (some ⟨W0.heap.size, 0, none⟩) 0 0) 0 [] from by have := Rw.empty W0 W0 (Bw.refl W0) 36 6; simpa only [World.size_alloc] using this)
      refine hK.out _ _ (hS.out _ (Bw.alloc (Bw.refl W0) _)) ?_
      clear hK K
      try simp only [Act.put, List.setIfInBounds_toArray, List.set_cons_zero, List.set_cons_succ]
      refine wpAnyW_ready (rs := [3, 5]) (by kernel_rfl) (by simp) ?_
      refine (AllReadyW.cons (o := { dst := some 69, op := Op.call { callee := Callee.builtin Builtin.append, args := #[Operand.tmp 66, Operand.tmp 68], argTypes := #[22, 22] }, type := 22, pos := "ref.go:49", after := #[{ on := 0, ground := Ground.data }, { on := 2, ground := Ground.data }], guard := none }) rfl (fun K hK => ?_) (AllReadyW.cons (o := { dst := some 71, op := Op.buildSlice 22 1 #[(0, Operand.tmp 70)], type := 22, pos := "ref.go:49", after := #[{ on := 4, ground := Ground.data }], guard := none }) rfl (fun K hK => ?_) AllReadyW.nil))
      · refine step_append_any (G := Gd) rfl _ _ 22 rfl 36 i2 _ 6 48 Try.underlying22 I2.out.1 I2.out.2.1 I2.out.2.2.1 I2.out.2.2.2 rfl (by decide) (.slice (some ⟨W0.heap.size, 0, none⟩) 0 0) 0 [] rfl R0.out.1 (.slice av L.length cv) L.length (actsC L) rfl (hLs.out.below (Bw.alloc (Bw.refl W0) _)) (actsC_one L) (by unfold maxLen; omega) (by omega) ?_
        intro v3 w3 ho hg hvb
        have HBw3 : Bw W0 w3 := R0.out.bwGrown (Bw.alloc (Bw.refl W0) _) hg
        have RRw3 : Rw W0 w3 36 6 v3 (0 + L.length) ([] ++ actsC L) := R0.out.grown (Bw.alloc (Bw.refl W0) _) ho hvb
        refine hK.out _ _ (hS.out _ HBw3) ?_
        clear hK K
        try simp only [Act.put, List.setIfInBounds_toArray, List.set_cons_zero, List.set_cons_succ]
        refine wpAnyW_ready (rs := [5]) (by kernel_rfl) (by simp) ?_
        refine (AllReadyW.cons (o := { dst := some 71, op := Op.buildSlice 22 1 #[(0, Operand.tmp 70)], type := 22, pos := "ref.go:49", after := #[{ on := 4, ground := Ground.data }], guard := none }) rfl (fun K hK => ?_) AllReadyW.nil)
        go_simp
        have N5 := hid (show Sl (w3.alloc (.cells (actC x).toArray 36)) (fun b => b = w3.heap.size) (.slice (some ⟨w3.heap.size, 0, none⟩) 1 1) 1 6 (actC x) from by have := sl_new w3 (fun b => b = w3.heap.size) (actC x) 36 1 6 rfl rfl; simpa only [World.size_alloc] using this)
        refine hK.out _ _ (hS.out _ (Bw.alloc HBw3 _)) ?_
        clear hK K
        try simp only [Act.put, List.setIfInBounds_toArray, List.set_cons_zero, List.set_cons_succ]
        refine wpAnyW_ready (rs := [6]) (by kernel_rfl) (by simp) ?_
        refine (AllReadyW.cons (o := { dst := some 72, op := Op.call { callee := Callee.builtin Builtin.append, args := #[Operand.tmp 69, Operand.tmp 71], argTypes := #[22, 22] }, type := 22, pos := "ref.go:49", after := #[{ on := 3, ground := Ground.data }, { on := 5, ground := Ground.data }, { on := 3, ground := Ground.chain }], guard := none }) rfl (fun K hK => ?_) AllReadyW.nil)
        refine step_append_any rfl _ _ 22 rfl 36 i2 _ 6 48 Try.underlying22 I2.out.1 I2.out.2.1 I2.out.2.2.1 I2.out.2.2.2 rfl (by decide) v3 (0 + L.length) ([] ++ actsC L) rfl (RRw3.bw (Bw.alloc (Bw.refl _) _)).1 (.slice (some ⟨w3.heap.size, 0, none⟩) 1 1) 1 (actC x) rfl N5.out (actC_one x) (by unfold maxLen; omega) (by omega) ?_
        intro v6 w6 ho6 hg6 hvb6
        have HB6 : Bw W0 w6 := (RRw3.bw (Bw.alloc (Bw.refl _) _)).bwGrown (Bw.alloc HBw3 _) hg6
        have RR6 : Rw W0 w6 36 6 v6 (0 + L.length + 1) ([] ++ actsC L ++ actC x) := (RRw3.bw (Bw.alloc (Bw.refl _) _)).grown (Bw.alloc HBw3 _) ho6 hvb6
        refine hK.out _ _ (hS.out _ HB6) ?_
        clear hK K
        try simp only [Act.put, List.setIfInBounds_toArray, List.set_cons_zero, List.set_cons_succ]
        refine wpAnyW_take (i := 7) (oi := { dst := some 73, op := Op.fieldAddr 29 (Operand.tmp 2) 2, type := 0, pos := "ref.go:49", after := #[{ on := 0, ground := Ground.phase }, { on := 1, ground := Ground.phase }, { on := 2, ground := Ground.phase }, { on := 3, ground := Ground.phase }, { on := 4, ground := Ground.phase }, { on := 5, ground := Ground.phase }, { on := 6, ground := Ground.phase }], guard := none }) (v := ?_) rfl (by kernel_rfl) (by kernel_rfl) (by kernel_rfl) (by kernel_rfl) (fun _ _ _ h => h) (Or.inl ⟨by rfl, fun w _ => ?_⟩) ?_
        rotate_left
        · (go_simp; first | done | with_reducible rfl)
        try simp only [Act.put, List.setIfInBounds_toArray, List.set_cons_zero, List.set_cons_succ]
        obtain ⟨a6, c6, e6⟩ := own_form RR6.1
        subst e6
        have BP6 := BP.out.bw HB6
        have BR6 := BR.out.bw HB6
        have p0 := BP6.cell 0
        have p1 := BP6.cell 1
        have p2 := BP6.cell 2
        have pf := BP6.free
        have pl := BP6.lt
        have r0 := BR6.cell 0
        have r1 := BR6.cell 1
        have r2 := BR6.cell 2
        have rf := BR6.free
        have rl := BR6.lt
        simp only [List.getElem?_toArray, List.getElem?_cons_zero, List.getElem?_cons_succ] at p0 p1 p2 r0 r1 r2
        refine wpAnyW_ready (rs := [8]) (by kernel_rfl) (by simp) ?_
        refine (AllReadyW.cons (o := { dst := none, op := Op.store 22 (Operand.tmp 73) (Operand.tmp 72), type := 0, pos := "ref.go:49", after := #[{ on := 7, ground := Ground.data }, { on := 6, ground := Ground.data }, { on := 6, ground := Ground.chain }, { on := 0, ground := Ground.phase }, { on := 1, ground := Ground.phase }, { on := 2, ground := Ground.phase }, { on := 3, ground := Ground.phase }, { on := 4, ground := Ground.phase }, { on := 5, ground := Ground.phase }, { on := 6, ground := Ground.phase }], guard := none }) rfl (fun K hK => ?_) AllReadyW.nil)
        go_simp
        refine hK.out _ _ trivial ?_
        clear hK K
        try simp only [Act.put, List.setIfInBounds_toArray, List.set_cons_zero, List.set_cons_succ]
        refine wpAnyW_done (by kernel_rfl) ?_ _
        go_wp2
        simp only [Nat.zero_add, List.nil_append] at RR6
        obtain ⟨fb, fr⟩ := tell_fin HZ0.out HB0.out HB6 RR6 HL.out.2.2 hx hL (.slice a6 (L.length + 1) c6) (.int .i64 F) (.int .i64 G) (.slice a6 (L.length + 1) c6)
        exact bodyPost_ret (v := .tuple #[rpV F G (.slice a6 (L.length + 1) c6), .int .i64 0]) (by simp [results, Try.results13, go_sem, *]) rfl ⟨_, rfl, fb, fr⟩
      · go_simp
        have N5 := hid (show Sl ((W0.alloc (.cells #[] 36)).alloc (.cells (actC x).toArray 36)) (fun b => b = W0.heap.size + 1) (.slice (some ⟨W0.heap.size + 1, 0, none⟩) 1 1) 1 6 (actC x) from by have := sl_new (W0.alloc (.cells #[] 36)) (fun b => b = (W0.alloc (.cells #[] 36)).heap.size) (actC x) 36 1 6 rfl rfl; simpa only [World.size_alloc] using this)
        refine hK.out _ _ (hS.out _ (Bw.alloc (Bw.alloc (Bw.refl W0) _) _)) ?_
        clear hK K
        try simp only [Act.put, List.setIfInBounds_toArray, List.set_cons_zero, List.set_cons_succ]
        refine wpAnyW_ready (rs := [3]) (by kernel_rfl) (by simp) ?_
        refine (AllReadyW.cons (o := { dst := some 69, op := Op.call { callee := Callee.builtin Builtin.append, args := #[Operand.tmp 66, Operand.tmp 68], argTypes := #[22, 22] }, type := 22, pos := "ref.go:49", after := #[{ on := 0, ground := Ground.data }, { on := 2, ground := Ground.data }], guard := none }) rfl (fun K hK => ?_) AllReadyW.nil)
        refine step_append_any (G := Gd) rfl _ _ 22 rfl 36 i2 _ 6 48 Try.underlying22 I2.out.1 I2.out.2.1 I2.out.2.2.1 I2.out.2.2.2 rfl (by decide) (.slice (some ⟨W0.heap.size, 0, none⟩) 0 0) 0 [] rfl (R0.out.bw (Bw.alloc (Bw.refl _) _)).1 (.slice av L.length cv) L.length (actsC L) rfl (hLs.out.below (Bw.alloc (Bw.alloc (Bw.refl W0) _) _)) (actsC_one L) (by unfold maxLen; omega) (by omega) ?_
        intro v3 w3 ho hg hvb
        have HBw3 : Bw W0 w3 := (R0.out.bw (Bw.alloc (Bw.refl _) _)).bwGrown (Bw.alloc (Bw.alloc (Bw.refl W0) _) _) hg
        have RRw3 : Rw W0 w3 36 6 v3 (0 + L.length) ([] ++ actsC L) := (R0.out.bw (Bw.alloc (Bw.refl _) _)).grown (Bw.alloc (Bw.alloc (Bw.refl W0) _) _) ho hvb
        have N6 := hid (N5.out.grown hg (fun b hb e => by simp only [Value.ownBlock, Option.some.injEq] at e; subst hb; omega))
        refine hK.out _ _ (hS.out _ HBw3) ?_
        clear hK K
        try simp only [Act.put, List.setIfInBounds_toArray, List.set_cons_zero, List.set_cons_succ]
        refine wpAnyW_ready (rs := [6]) (by kernel_rfl) (by simp) ?_
        refine (AllReadyW.cons (o := { dst := some 72, op := Op.call { callee := Callee.builtin Builtin.append, args := #[Operand.tmp 69, Operand.tmp 71], argTypes := #[22, 22] }, type := 22, pos := "ref.go:49", after := #[{ on := 3, ground := Ground.data }, { on := 5, ground := Ground.data }, { on := 3, ground := Ground.chain }], guard := none }) rfl (fun K hK => ?_) AllReadyW.nil)
        refine step_append_any rfl _ _ 22 rfl 36 i2 _ 6 48 Try.underlying22 I2.out.1 I2.out.2.1 I2.out.2.2.1 I2.out.2.2.2 rfl (by decide) v3 (0 + L.length) ([] ++ actsC L) rfl RRw3.1 (.slice (some ⟨W0.heap.size + 1, 0, none⟩) 1 1) 1 (actC x) rfl N6.out (actC_one x) (by unfold maxLen; omega) (by omega) ?_
        intro v6 w6 ho6 hg6 hvb6
        have HB6 : Bw W0 w6 := RRw3.bwGrown HBw3 hg6
        have RR6 : Rw W0 w6 36 6 v6 (0 + L.length + 1) ([] ++ actsC L ++ actC x) := RRw3.grown HBw3 ho6 hvb6
        refine hK.out _ _ (hS.out _ HB6) ?_
        clear hK K
        try simp only [Act.put, List.setIfInBounds_toArray, List.set_cons_zero, List.set_cons_succ]
        refine wpAnyW_take (i := 7) (oi := { dst := some 73, op := Op.fieldAddr 29 (Operand.tmp 2) 2, type := 0, pos := "ref.go:49", after := #[{ on := 0, ground := Ground.phase }, { on := 1, ground := Ground.phase }, { on := 2, ground := Ground.phase }, { on := 3, ground := Ground.phase }, { on := 4, ground := Ground.phase }, { on := 5, ground := Ground.phase }, { on := 6, ground := Ground.phase }], guard := none }) (v := ?_) rfl (by kernel_rfl) (by kernel_rfl) (by kernel_rfl) (by kernel_rfl) (fun _ _ _ h => h) (Or.inl ⟨by rfl, fun w _ => ?_⟩) ?_
        rotate_left
        · (go_simp; first | done | with_reducible rfl)
        try simp only [Act.put, List.setIfInBounds_toArray, List.set_cons_zero, List.set_cons_succ]
        obtain ⟨a6, c6, e6⟩ := own_form RR6.1
        subst e6
        have BP6 := BP.out.bw HB6
        have BR6 := BR.out.bw HB6
        have p0 := BP6.cell 0
        have p1 := BP6.cell 1
        have p2 := BP6.cell 2
        have pf := BP6.free
        have pl := BP6.lt
        have r0 := BR6.cell 0
        have r1 := BR6.cell 1
        have r2 := BR6.cell 2
        have rf := BR6.free
        have rl := BR6.lt
        simp only [List.getElem?_toArray, List.getElem?_cons_zero, List.getElem?_cons_succ] at p0 p1 p2 r0 r1 r2
        refine wpAnyW_ready (rs := [8]) (by kernel_rfl) (by simp) ?_
        refine (AllReadyW.cons (o := { dst := none, op := Op.store 22 (Operand.tmp 73) (Operand.tmp 72), type := 0, pos := "ref.go:49", after := #[{ on := 7, ground := Ground.data }, { on := 6, ground := Ground.data }, { on := 6, ground := Ground.chain }, { on := 0, ground := Ground.phase }, { on := 1, ground := Ground.phase }, { on := 2, ground := Ground.phase }, { on := 3, ground := Ground.phase }, { on := 4, ground := Ground.phase }, { on := 5, ground := Ground.phase }, { on := 6, ground := Ground.phase }], guard := none }) rfl (fun K hK => ?_) AllReadyW.nil)
        go_simp
        refine hK.out _ _ trivial ?_
        clear hK K
        try simp only [Act.put, List.setIfInBounds_toArray, List.set_cons_zero, List.set_cons_succ]
        refine wpAnyW_done (by kernel_rfl) ?_ _
        go_wp2
        simp only [Nat.zero_add, List.nil_append] at RR6
        obtain ⟨fb, fr⟩ := tell_fin HZ0.out HB0.out HB6 RR6 HL.out.2.2 hx hL (.slice a6 (L.length + 1) c6) (.int .i64 F) (.int .i64 G) (.slice a6 (L.length + 1) c6)
        exact bodyPost_ret (v := .tuple #[rpV F G (.slice a6 (L.length + 1) c6), .int .i64 0]) (by simp [results, Try.results13, go_sem, *]) rfl ⟨_, rfl, fb, fr⟩
    · go_simp
      have N5 := hid (show Sl (W0.alloc (.cells (actC x).toArray 36)) (fun b => b = W0.heap.size) (.slice (some ⟨W0.heap.size, 0, none⟩) 1 1) 1 6 (actC x) from by have := sl_new W0 (fun b => b = W0.heap.size) (actC x) 36 1 6 rfl rfl; simpa only [World.size_alloc] using this)
      refine hK.out _ _ (hS.out _ (Bw.alloc (Bw.refl W0) _)) ?_
      clear hK K
      try simp only [Act.put, List.setIfInBounds_toArray, List.set_cons_zero, List.set_cons_succ]
      refine wpAnyW_ready (rs := [0]) (by kernel_rfl) (by simp) ?_
      refine (AllReadyW.cons (o := { dst := some 66, op := Op.buildSlice 22 0 #[], type := 22, pos := "ref.go:49", after := #[], guard := none }) rfl (fun K hK => ?_) AllReadyW.nil)
      go_simp
      have R0 := hid (show Rw W0 ((W0.alloc (.cells (actC x).toArray 36)).alloc (.cells #[] 36)) 36 6 (.slice (some ⟨W0.heap.size + 1, 0, none⟩) 0 0) 0 [] from by have := Rw.empty W0 (W0.alloc (.cells (actC x).toArray 36)) (Bw.alloc (Bw.refl W0) _) 36 6; simpa only [World.size_alloc] using this)
      refine hK.out _ _ (hS.out _ (Bw.alloc (Bw.alloc (Bw.refl W0) _) _)) ?_
      clear hK K
      try simp only [Act.put, List.setIfInBounds_toArray, List.set_cons_zero, List.set_cons_succ]
      refine wpAnyW_ready (rs := [3]) (by kernel_rfl) (by simp) ?_
      refine (AllReadyW.cons (o := { dst := some 69, op := Op.call { callee := Callee.builtin Builtin.append, args := #[Operand.tmp 66, Operand.tmp 68], argTypes := #[22, 22] }, type := 22, pos := "ref.go:49", after := #[{ on := 0, ground := Ground.data }, { on := 2, ground := Ground.data }], guard := none }) rfl (fun K hK => ?_) AllReadyW.nil)
      refine step_append_any (G := Gd) rfl _ _ 22 rfl 36 i2 _ 6 48 Try.underlying22 I2.out.1 I2.out.2.1 I2.out.2.2.1 I2.out.2.2.2 rfl (by decide) (.slice (some ⟨W0.heap.size + 1, 0, none⟩) 0 0) 0 [] rfl R0.out.1 (.slice av L.length cv) L.length (actsC L) rfl (hLs.out.below (Bw.alloc (Bw.alloc (Bw.refl W0) _) _)) (actsC_one L) (by unfold maxLen; omega) (by omega) ?_
      intro v3 w3 ho hg hvb
      have HBw3 : Bw W0 w3 := R0.out.bwGrown (Bw.alloc (Bw.alloc (Bw.refl W0) _) _) hg
      have RRw3 : Rw W0 w3 36 6 v3 (0 + L.length) ([] ++ actsC L) := R0.out.grown (Bw.alloc (Bw.alloc (Bw.refl W0) _) _) ho hvb
      have N6 := hid ((N5.out.below (Bw.alloc (Bw.refl _) (.cells #[] 36))).grown hg (fun b hb e => by simp only [Value.ownBlock, Option.some.injEq] at e; subst hb; omega))
      refine hK.out _ _ (hS.out _ HBw3) ?_
      clear hK K
      try simp only [Act.put, List.setIfInBounds_toArray, List.set_cons_zero, List.set_cons_succ]
      refine wpAnyW_ready (rs := [6]) (by kernel_rfl) (by simp) ?_
      refine (AllReadyW.cons (o := { dst := some 72, op := Op.call { callee := Callee.builtin Builtin.append, args := #[Operand.tmp 69, Operand.tmp 71], argTypes := #[22, 22] }, type := 22, pos := "ref.go:49", after := #[{ on := 3, ground := Ground.data }, { on := 5, ground := Ground.data }, { on := 3, ground := Ground.chain }], guard := none }) rfl (fun K hK => ?_) AllReadyW.nil)
      refine step_append_any rfl _ _ 22 rfl 36 i2 _ 6 48 Try.underlying22 I2.out.1 I2.out.2.1 I2.out.2.2.1 I2.out.2.2.2 rfl (by decide) v3 (0 + L.length) ([] ++ actsC L) rfl RRw3.1 (.slice (some ⟨W0.heap.size, 0, none⟩) 1 1) 1 (actC x) rfl N6.out (actC_one x) (by unfold maxLen; omega) (by omega) ?_
      intro v6 w6 ho6 hg6 hvb6
      have HB6 : Bw W0 w6 := RRw3.bwGrown HBw3 hg6
      have RR6 : Rw W0 w6 36 6 v6 (0 + L.length + 1) ([] ++ actsC L ++ actC x) := RRw3.grown HBw3 ho6 hvb6
      refine hK.out _ _ (hS.out _ HB6) ?_
      clear hK K
      try simp only [Act.put, List.setIfInBounds_toArray, List.set_cons_zero, List.set_cons_succ]
      refine wpAnyW_take (i := 7) (oi := { dst := some 73, op := Op.fieldAddr 29 (Operand.tmp 2) 2, type := 0, pos := "ref.go:49", after := #[{ on := 0, ground := Ground.phase }, { on := 1, ground := Ground.phase }, { on := 2, ground := Ground.phase }, { on := 3, ground := Ground.phase }, { on := 4, ground := Ground.phase }, { on := 5, ground := Ground.phase }, { on := 6, ground := Ground.phase }], guard := none }) (v := ?_) rfl (by kernel_rfl) (by kernel_rfl) (by kernel_rfl) (by kernel_rfl) (fun _ _ _ h => h) (Or.inl ⟨by rfl, fun w _ => ?_⟩) ?_
      rotate_left
      · (go_simp; first | done | with_reducible rfl)
      try simp only [Act.put, List.setIfInBounds_toArray, List.set_cons_zero, List.set_cons_succ]
      obtain ⟨a6, c6, e6⟩ := own_form RR6.1
      subst e6
      have BP6 := BP.out.bw HB6
      have BR6 := BR.out.bw HB6
      have p0 := BP6.cell 0
      have p1 := BP6.cell 1
      have p2 := BP6.cell 2
      have pf := BP6.free
      have pl := BP6.lt
      have r0 := BR6.cell 0
      have r1 := BR6.cell 1
      have r2 := BR6.cell 2
      have rf := BR6.free
      have rl := BR6.lt
      simp only [List.getElem?_toArray, List.getElem?_cons_zero, List.getElem?_cons_succ] at p0 p1 p2 r0 r1 r2
      refine wpAnyW_ready (rs := [8]) (by kernel_rfl) (by simp) ?_
      refine (AllReadyW.cons (o := { dst := none, op := Op.store 22 (Operand.tmp 73) (Operand.tmp 72), type := 0, pos := "ref.go:49", after := #[{ on := 7, ground := Ground.data }, { on := 6, ground := Ground.data }, { on := 6, ground := Ground.chain }, { on := 0, ground := Ground.phase }, { on := 1, ground := Ground.phase }, { on := 2, ground := Ground.phase }, { on := 3, ground := Ground.phase }, { on := 4, ground := Ground.phase }, { on := 5, ground := Ground.phase }, { on := 6, ground := Ground.phase }], guard := none }) rfl (fun K hK => ?_) AllReadyW.nil)
      go_simp
      refine hK.out _ _ trivial ?_
      clear hK K
      try simp only [Act.put, List.setIfInBounds_toArray, List.set_cons_zero, List.set_cons_succ]
      refine wpAnyW_done (by kernel_rfl) ?_ _
      go_wp2
      simp only [Nat.zero_add, List.nil_append] at RR6
      obtain ⟨fb, fr⟩ := tell_fin HZ0.out HB0.out HB6 RR6 HL.out.2.2 hx hL (.slice a6 (L.length + 1) c6) (.int .i64 F) (.int .i64 G) (.slice a6 (L.length + 1) c6)
      exact bodyPost_ret (v := .tuple #[rpV F G (.slice a6 (L.length + 1) c6), .int .i64 0]) (by simp [results, Try.results13, go_sem, *]) rfl ⟨_, rfl, fb, fr⟩

set_option maxRecDepth 100000 in
set_option maxHeartbeats 2000000 in
theorem rTell_4 {w : World} {Gd : Nat → Prop} {F G : Nat} {av : Option Addr} {cv : Nat} {L : List AA} (x : AA) (hx : AOK x) (h : RLs w Gd (.slice av L.length cv) L) (hL : L.length < 1000) (hd2 : ¬ x.d = 2) (hd3 : ¬ x.d = 3) (n1 : ¬ x.f < 0) (n2 : ¬ (F : Int) ≤ x.f) : Calls Try.prog 13 #[rpV F G (.slice av L.length cv), actV x] w fun e w' => ∃ vL', e = .returned (.tuple #[rpV F G vL', .int .i64 0]) ∧ Bw w w' ∧ RLs w' (fun b => w.heap.size ≤ b) vL' (L ++ [x]) := by
  unfold actV
  have HL := hid h
  obtain ⟨i2, hi2, hz2, hs2, hy2⟩ := info_parts infoAc
  have I2 := hid (And.intro hi2 (And.intro hz2 (And.intro hs2 hy2)))
  clear h hi2 hz2 hs2 hy2
  have q2 : (x.d == 2) = false := by simp [hd2]
  have q3 : (x.d == 3) = false := by simp [hd3]
  have d1 : decide (x.f < 0) = false := decide_eq_false n1
  have d2 : decide ((F : Int) ≤ x.f) = false := decide_eq_false n2
  clear hd2 hd3
  go_enter Try.func13, Try.ntmps13
  go_wp2
  refine wp_region_W (fun w' => w'.cell? ⟨w.heap.size, 2, none⟩ = some (.slice av L.length cv) ∧ w'.cell? ⟨w.heap.size + 1, 0, none⟩ = some (.int .i64 x.d) ∧ w'.cell? ⟨w.heap.size + 1, 1, none⟩ = some (.int .i64 x.f) ∧ w'.cell? ⟨w.heap.size + 1, 2, none⟩ = some (.int .i64 x.t) ∧ w'.cell? ⟨w.heap.size + 1, 3, none⟩ = some (.int .i64 x.a) ∧ w'.cell? ⟨w.heap.size + 1, 4, none⟩ = some (.int .i64 x.b) ∧ w'.cell? ⟨w.heap.size + 1, 5, none⟩ = some (.int .u64 x.v)) (fun j => if j == 0 || j == 3 || j == 5 || j == 6 then 0 else if j == 8 then 2 else 1) (by kernel_rfl) ?_
  generalize hW0 : (((w.alloc (.cells #[.int .i64 F, .int .i64 G, .slice av L.length cv] 29)).alloc (.cells #[.int .i64 x.d, .int .i64 x.f, .int .i64 x.t, .int .i64 x.a, .int .i64 x.b, .int .u64 x.v] 36)).alloc (.cells #[.int .i64 0, .int .i64 0, .slice none 0 0] 29)).drew = W0
  have hB0 : Bw w W0 := by rw [← hW0]; exact Bw.drew (Bw.alloc (Bw.alloc (Bw.alloc (Bw.refl _) _) _) _)
  have bP : Blk W0 w.heap.size #[.int .i64 F, .int .i64 G, .slice av L.length cv] 29 := by rw [← hW0]; exact Blk.drewd (((Blk.new w _ _).alloc _).alloc _)
  have bA : Blk W0 (w.heap.size + 1) #[.int .i64 x.d, .int .i64 x.f, .int .i64 x.t, .int .i64 x.a, .int .i64 x.b, .int .u64 x.v] 36 := by
    rw [← hW0]
    refine Blk.drewd ?_
    apply Blk.alloc
    exact Blk.newAt _ _ _ _ (by simp only [World.size_alloc])
  have bR : Blk W0 (w.heap.size + 1 + 1) #[.int .i64 0, .int .i64 0, .slice none 0 0] 29 := by
    rw [← hW0]
    refine Blk.drewd ?_
    exact Blk.newAt _ _ _ _ (by simp only [World.size_alloc])
  have HZ0 := hid (show W0.heap.size = w.heap.size + 3 by rw [← hW0]; simp)
  have hLs := hid (HL.out.1.below hB0)
  have hS := hid (show ∀ W', Bw W0 W' → (fun w' => w'.cell? ⟨w.heap.size, 2, none⟩ = some (.slice av L.length cv) ∧ w'.cell? ⟨w.heap.size + 1, 0, none⟩ = some (.int .i64 x.d) ∧ w'.cell? ⟨w.heap.size + 1, 1, none⟩ = some (.int .i64 x.f) ∧ w'.cell? ⟨w.heap.size + 1, 2, none⟩ = some (.int .i64 x.t) ∧ w'.cell? ⟨w.heap.size + 1, 3, none⟩ = some (.int .i64 x.a) ∧ w'.cell? ⟨w.heap.size + 1, 4, none⟩ = some (.int .i64 x.b) ∧ w'.cell? ⟨w.heap.size + 1, 5, none⟩ = some (.int .u64 x.v)) W' from fun W' hb => ⟨(bP.bw hb).cell 2, (bA.bw hb).cell 0, (bA.bw hb).cell 1, (bA.bw hb).cell 2, (bA.bw hb).cell 3, (bA.bw hb).cell 4, (bA.bw hb).cell 5⟩)
  have BP := hid bP
  have BR := hid bR
  have HB0 := hid hB0
  clear hW0 bP bA bR hB0
  refine wpAnyW_take (i := 1) (oi := { dst := some 67, op := Op.fieldAddr 29 (Operand.tmp 2) 2, type := 0, pos := "ref.go:49", after := #[], guard := none }) (v := ?_) rfl (by kernel_rfl) (by kernel_rfl) (by kernel_rfl) (by kernel_rfl) (fun _ _ _ h => h) (Or.inl ⟨by rfl, fun w _ => ?_⟩) ?_
  rotate_left
  · (go_simp; first | done | with_reducible rfl)
  try simp only [Act.put, List.setIfInBounds_toArray, List.set_cons_zero, List.set_cons_succ]
  refine wpAnyW_load (i := 2) (oi := { dst := some 68, op := Op.load 22 (Operand.tmp 67), type := 22, pos := "ref.go:49", after := #[{ on := 1, ground := Ground.data }], guard := none }) (v := ?_) rfl (by kernel_rfl) (by kernel_rfl) (by kernel_rfl) (by kernel_rfl) (by kernel_rfl) (fun _ _ _ h => h) (Or.inl ⟨by rfl, fun w hS => ?_⟩) (hS.out W0 (Bw.refl _)) ?_
  rotate_left
  · (obtain ⟨s1, s2, s3, s4, s5, s6, s7⟩ := hS; go_simp; first | done | with_reducible rfl)
  try simp only [Act.put, List.setIfInBounds_toArray, List.set_cons_zero, List.set_cons_succ]
  refine wpAnyW_load (i := 4) (oi := { dst := some 70, op := Op.load 36 (Operand.tmp 3), type := 36, pos := "ref.go:49", after := #[], guard := none }) (v := ?_) rfl (by kernel_rfl) (by kernel_rfl) (by kernel_rfl) (by kernel_rfl) (by kernel_rfl) (fun _ _ _ h => h) (Or.inl ⟨by rfl, fun w hS => ?_⟩) (hS.out W0 (Bw.refl _)) ?_
  rotate_left
  · (obtain ⟨s1, s2, s3, s4, s5, s6, s7⟩ := hS; go_simp; first | done | with_reducible rfl)
  try simp only [Act.put, List.setIfInBounds_toArray, List.set_cons_zero, List.set_cons_succ]
  refine wpAnyW_ready (rs := [0, 5]) (by kernel_rfl) (by simp) ?_
  refine (AllReadyW.cons (o := { dst := some 66, op := Op.buildSlice 22 0 #[], type := 22, pos := "ref.go:49", after := #[], guard := none }) rfl (fun K hK => ?_) (AllReadyW.cons (o := { dst := some 71, op := Op.buildSlice 22 1 #[(0, Operand.tmp 70)], type := 22, pos := "ref.go:49", after := #[{ on := 4, ground := Ground.data }], guard := none }) rfl (fun K hK => ?_) AllReadyW.nil))
  · go_simp
    have R0 := hid (show Rw W0 (W0.alloc (.cells #[] 36)) 36 6 (.slice (some ⟨W0.heap.size, 0, none⟩) 0 0) 0 [] from by have := Rw.empty W0 W0 (Bw.refl W0) 36 6; simpa only [World.size_alloc] using this)
    refine hK.out _ _ (hS.out _ (Bw.alloc (Bw.refl W0) _)) ?_
    clear hK K
    try simp only [Act.put, List.setIfInBounds_toArray, List.set_cons_zero, List.set_cons_succ]
    refine wpAnyW_ready (rs := [3, 5]) (by kernel_rfl) (by simp) ?_
    refine (AllReadyW.cons (o := { dst := some 69, op := Op.call { callee := Callee.builtin Builtin.append, args := #[Operand.tmp 66, Operand.tmp 68], argTypes := #[22, 22] }, type := 22, pos := "ref.go:49", after := #[{ on := 0, ground := Ground.data }, { on := 2, ground := Ground.data }], guard := none }) rfl (fun K hK => ?_) (AllReadyW.cons (o := { dst := some 71, op := Op.buildSlice 22 1 #[(0, Operand.tmp 70)], type := 22, pos := "ref.go:49", after := #[{ on := 4, ground := Ground.data }], guard := none }) rfl (fun K hK => ?_) AllReadyW.nil))
    · refine step_append_any (G := Gd) rfl _ _ 22 rfl 36 i2 _ 6 48 Try.underlying22 I2.out.1 I2.out.2.1 I2.out.2.2.1 I2.out.2.2.2 rfl (by decide) (.slice (some ⟨W0.heap.size, 0, none⟩) 0 0) 0 [] rfl R0.out.1 (.slice av L.length cv) L.length (actsC L) rfl (hLs.out.below (Bw.alloc (Bw.refl W0) _)) (actsC_one L) (by unfold maxLen; omega) (by omega) ?_
      intro v3 w3 ho hg hvb
      have HBw3 : Bw W0 w3 := R0.out.bwGrown (Bw.alloc (Bw.refl W0) _) hg
      have RRw3 : Rw W0 w3 36 6 v3 (0 + L.length) ([] ++ actsC L) := R0.out.grown (Bw.alloc (Bw.refl W0) _) ho hvb
      refine hK.out _ _ (hS.out _ HBw3) ?_
      clear hK K
      try simp only [Act.put, List.setIfInBounds_toArray, List.set_cons_zero, List.set_cons_succ]
      refine wpAnyW_ready (rs := [5]) (by kernel_rfl) (by simp) ?_
      refine (AllReadyW.cons (o := { dst := some 71, op := Op.buildSlice 22 1 #[(0, Operand.tmp 70)], type := 22, pos := "ref.go:49", after := #[{ on := 4, ground := Ground.data }], guard := none }) rfl (fun K hK => ?_) AllReadyW.nil)
      go_simp
      have N5 := hid (show Sl (w3.alloc (.cells (actC x).toArray 36)) (fun b => b = w3.heap.size) (.slice (some ⟨w3.heap.size, 0, none⟩) 1 1) 1 6 (actC x) from by have := sl_new w3 (fun b => b = w3.heap.size) (actC x) 36 1 6 rfl rfl; simpa only [World.size_alloc] using this)
      refine hK.out _ _ (hS.out _ (Bw.alloc HBw3 _)) ?_
      clear hK K
      try simp only [Act.put, List.setIfInBounds_toArray, List.set_cons_zero, List.set_cons_succ]
      refine wpAnyW_ready (rs := [6]) (by kernel_rfl) (by simp) ?_
      refine (AllReadyW.cons (o := { dst := some 72, op := Op.call { callee := Callee.builtin Builtin.append, args := #[Operand.tmp 69, Operand.tmp 71], argTypes := #[22, 22] }, type := 22, pos := "ref.go:49", after := #[{ on := 3, ground := Ground.data }, { on := 5, ground := Ground.data }, { on := 3, ground := Ground.chain }], guard := none }) rfl (fun K hK => ?_) AllReadyW.nil)
      refine step_append_any rfl _ _ 22 rfl 36 i2 _ 6 48 Try.underlying22 I2.out.1 I2.out.2.1 I2.out.2.2.1 I2.out.2.2.2 rfl (by decide) v3 (0 + L.length) ([] ++ actsC L) rfl (RRw3.bw (Bw.alloc (Bw.refl _) _)).1 (.slice (some ⟨w3.heap.size, 0, none⟩) 1 1) 1 (actC x) rfl N5.out (actC_one x) (by unfold maxLen; omega) (by omega) ?_
      intro v6 w6 ho6 hg6 hvb6
      have HB6 : Bw W0 w6 := (RRw3.bw (Bw.alloc (Bw.refl _) _)).bwGrown (Bw.alloc HBw3 _) hg6
      have RR6 : Rw W0 w6 36 6 v6 (0 + L.length + 1) ([] ++ actsC L ++ actC x) := (RRw3.bw (Bw.alloc (Bw.refl _) _)).grown (Bw.alloc HBw3 _) ho6 hvb6
      refine hK.out _ _ (hS.out _ HB6) ?_
      clear hK K
      try simp only [Act.put, List.setIfInBounds_toArray, List.set_cons_zero, List.set_cons_succ]
      refine wpAnyW_take (i := 7) (oi := { dst := some 73, op := Op.fieldAddr 29 (Operand.tmp 2) 2, type := 0, pos := "ref.go:49", after := #[{ on := 0, ground := Ground.phase }, { on := 1, ground := Ground.phase }, { on := 2, ground := Ground.phase }, { on := 3, ground := Ground.phase }, { on := 4, ground := Ground.phase }, { on := 5, ground := Ground.phase }, { on := 6, ground := Ground.phase }], guard := none }) (v := ?_) rfl (by kernel_rfl) (by kernel_rfl) (by kernel_rfl) (by kernel_rfl) (fun _ _ _ h => h) (Or.inl ⟨by rfl, fun w _ => ?_⟩) ?_
      rotate_left
      · (go_simp; first | done | with_reducible rfl)
      try simp only [Act.put, List.setIfInBounds_toArray, List.set_cons_zero, List.set_cons_succ]
      obtain ⟨a6, c6, e6⟩ := own_form RR6.1
      subst e6
      have BP6 := BP.out.bw HB6
      have BR6 := BR.out.bw HB6
      have p0 := BP6.cell 0
      have p1 := BP6.cell 1
      have p2 := BP6.cell 2
      have pf := BP6.free
      have pl := BP6.lt
      have r0 := BR6.cell 0
      have r1 := BR6.cell 1
      have r2 := BR6.cell 2
      have rf := BR6.free
      have rl := BR6.lt
      simp only [List.getElem?_toArray, List.getElem?_cons_zero, List.getElem?_cons_succ] at p0 p1 p2 r0 r1 r2
      refine wpAnyW_ready (rs := [8]) (by kernel_rfl) (by simp) ?_
      refine (AllReadyW.cons (o := { dst := none, op := Op.store 22 (Operand.tmp 73) (Operand.tmp 72), type := 0, pos := "ref.go:49", after := #[{ on := 7, ground := Ground.data }, { on := 6, ground := Ground.data }, { on := 6, ground := Ground.chain }, { on := 0, ground := Ground.phase }, { on := 1, ground := Ground.phase }, { on := 2, ground := Ground.phase }, { on := 3, ground := Ground.phase }, { on := 4, ground := Ground.phase }, { on := 5, ground := Ground.phase }, { on := 6, ground := Ground.phase }], guard := none }) rfl (fun K hK => ?_) AllReadyW.nil)
      go_simp
      refine hK.out _ _ trivial ?_
      clear hK K
      try simp only [Act.put, List.setIfInBounds_toArray, List.set_cons_zero, List.set_cons_succ]
      refine wpAnyW_done (by kernel_rfl) ?_ _
      go_wp2
      simp only [Nat.zero_add, List.nil_append] at RR6
      obtain ⟨fb, fr⟩ := tell_fin HZ0.out HB0.out HB6 RR6 HL.out.2.2 hx hL (.slice a6 (L.length + 1) c6) (.int .i64 F) (.int .i64 G) (.slice a6 (L.length + 1) c6)
      exact bodyPost_ret (v := .tuple #[rpV F G (.slice a6 (L.length + 1) c6), .int .i64 0]) (by simp [results, Try.results13, go_sem, *]) rfl ⟨_, rfl, fb, fr⟩
    · go_simp
      have N5 := hid (show Sl ((W0.alloc (.cells #[] 36)).alloc (.cells (actC x).toArray 36)) (fun b => b = W0.heap.size + 1) (.slice (some ⟨W0.heap.size + 1, 0, none⟩) 1 1) 1 6 (actC x) from by have := sl_new (W0.alloc (.cells #[] 36)) (fun b => b = (W0.alloc (.cells #[] 36)).heap.size) (actC x) 36 1 6 rfl rfl; simpa only [World.size_alloc] using this)
      refine hK.out _ _ (hS.out _ (Bw.alloc (Bw.alloc (Bw.refl W0) _) _)) ?_
      clear hK K
      try simp only [Act.put, List.setIfInBounds_toArray, List.set_cons_zero, List.set_cons_succ]
      refine wpAnyW_ready (rs := [3]) (by kernel_rfl) (by simp) ?_
      refine (AllReadyW.cons (o := { dst := some 69, op := Op.call { callee := Callee.builtin Builtin.append, args := #[Operand.tmp 66, Operand.tmp 68], argTypes := #[22, 22] }, type := 22, pos := "ref.go:49", after := #[{ on := 0, ground := Ground.data }, { on := 2, ground := Ground.data }], guard := none }) rfl (fun K hK => ?_) AllReadyW.nil)
      refine step_append_any (G := Gd) rfl _ _ 22 rfl 36 i2 _ 6 48 Try.underlying22 I2.out.1 I2.out.2.1 I2.out.2.2.1 I2.out.2.2.2 rfl (by decide) (.slice (some ⟨W0.heap.size, 0, none⟩) 0 0) 0 [] rfl (R0.out.bw (Bw.alloc (Bw.refl _) _)).1 (.slice av L.length cv) L.length (actsC L) rfl (hLs.out.below (Bw.alloc (Bw.alloc (Bw.refl W0) _) _)) (actsC_one L) (by unfold maxLen; omega) (by omega) ?_
      intro v3 w3 ho hg hvb
      have HBw3 : Bw W0 w3 := (R0.out.bw (Bw.alloc (Bw.refl _) _)).bwGrown (Bw.alloc (Bw.alloc (Bw.refl W0) _) _) hg
      have RRw3 : Rw W0 w3 36 6 v3 (0 + L.length) ([] ++ actsC L) := (R0.out.bw (Bw.alloc (Bw.refl _) _)).grown (Bw.alloc (Bw.alloc (Bw.refl W0) _) _) ho hvb
      have N6 := hid (N5.out.grown hg (fun b hb e => by simp only [Value.ownBlock, Option.some.injEq] at e; subst hb; omega))
      refine hK.out _ _ (hS.out _ HBw3) ?_
      clear hK K
      try simp only [Act.put, List.setIfInBounds_toArray, List.set_cons_zero, List.set_cons_succ]
      refine wpAnyW_ready (rs := [6]) (by kernel_rfl) (by simp) ?_
      refine (AllReadyW.cons (o := { dst := some 72, op := Op.call { callee := Callee.builtin Builtin.append, args := #[Operand.tmp 69, Operand.tmp 71], argTypes := #[22, 22] }, type := 22, pos := "ref.go:49", after := #[{ on := 3, ground := Ground.data }, { on := 5, ground := Ground.data }, { on := 3, ground := Ground.chain }], guard := none }) rfl (fun K hK => ?_) AllReadyW.nil)
      refine step_append_any rfl _ _ 22 rfl 36 i2 _ 6 48 Try.underlying22 I2.out.1 I2.out.2.1 I2.out.2.2.1 I2.out.2.2.2 rfl (by decide) v3 (0 + L.length) ([] ++ actsC L) rfl RRw3.1 (.slice (some ⟨W0.heap.size + 1, 0, none⟩) 1 1) 1 (actC x) rfl N6.out (actC_one x) (by unfold maxLen; omega) (by omega) ?_
      intro v6 w6 ho6 hg6 hvb6
      have HB6 : Bw W0 w6 := RRw3.bwGrown HBw3 hg6
      have RR6 : Rw W0 w6 36 6 v6 (0 + L.length + 1) ([] ++ actsC L ++ actC x) := RRw3.grown HBw3 ho6 hvb6
      refine hK.out _ _ (hS.out _ HB6) ?_
      clear hK K
      try simp only [Act.put, List.setIfInBounds_toArray, List.set_cons_zero, List.set_cons_succ]
      refine wpAnyW_take (i := 7) (oi := { dst := some 73, op := Op.fieldAddr 29 (Operand.tmp 2) 2, type := 0, pos := "ref.go:49", after := #[{ on := 0, ground := Ground.phase }, { on := 1, ground := Ground.phase }, { on := 2, ground := Ground.phase }, { on := 3, ground := Ground.phase }, { on := 4, ground := Ground.phase }, { on := 5, ground := Ground.phase }, { on := 6, ground := Ground.phase }], guard := none }) (v := ?_) rfl (by kernel_rfl) (by kernel_rfl) (by kernel_rfl) (by kernel_rfl) (fun _ _ _ h => h) (Or.inl ⟨by rfl, fun w _ => ?_⟩) ?_
      rotate_left
      · (go_simp; first | done | with_reducible rfl)
      try simp only [Act.put, List.setIfInBounds_toArray, List.set_cons_zero, List.set_cons_succ]
      obtain ⟨a6, c6, e6⟩ := own_form RR6.1
      subst e6
      have BP6 := BP.out.bw HB6
      have BR6 := BR.out.bw HB6
      have p0 := BP6.cell 0
      have p1 := BP6.cell 1
      have p2 := BP6.cell 2
      have pf := BP6.free
      have pl := BP6.lt
      have r0 := BR6.cell 0
      have r1 := BR6.cell 1
      have r2 := BR6.cell 2
      have rf := BR6.free
      have rl := BR6.lt
      simp only [List.getElem?_toArray, List.getElem?_cons_zero, List.getElem?_cons_succ] at p0 p1 p2 r0 r1 r2
      refine wpAnyW_ready (rs := [8]) (by kernel_rfl) (by simp) ?_
      refine (AllReadyW.cons (o := { dst := none, op := Op.store 22 (Operand.tmp 73) (Operand.tmp 72), type := 0, pos := "ref.go:49", after := #[{ on := 7, ground := Ground.data }, { on := 6, ground := Ground.data }, { on := 6, ground := Ground.chain }, { on := 0, ground := Ground.phase }, { on := 1, ground := Ground.phase }, { on := 2, ground := Ground.phase }, { on := 3, ground := Ground.phase }, { on := 4, ground := Ground.phase }, { on := 5, ground := Ground.phase }, { on := 6, ground := Ground.phase }], guard := none }) rfl (fun K hK => ?_) AllReadyW.nil)
      go_simp
      refine hK.out _ _ trivial ?_
      clear hK K
      try simp only [Act.put, List.setIfInBounds_toArray, List.set_cons_zero, List.set_cons_succ]
      refine wpAnyW_done (by kernel_rfl) ?_ _
      go_wp2
      simp only [Nat.zero_add, List.nil_append] at RR6
      obtain ⟨fb, fr⟩ := tell_fin HZ0.out HB0.out HB6 RR6 HL.out.2.2 hx hL (.slice a6 (L.length + 1) c6) (.int .i64 F) (.int .i64 G) (.slice a6 (L.length + 1) c6)
      exact bodyPost_ret (v := .tuple #[rpV F G (.slice a6 (L.length + 1) c6), .int .i64 0]) (by simp [results, Try.results13, go_sem, *]) rfl ⟨_, rfl, fb, fr⟩
  · go_simp
    have N5 := hid (show Sl (W0.alloc (.cells (actC x).toArray 36)) (fun b => b = W0.heap.size) (.slice (some ⟨W0.heap.size, 0, none⟩) 1 1) 1 6 (actC x) from by have := sl_new W0 (fun b => b = W0.heap.size) (actC x) 36 1 6 rfl rfl; simpa only [World.size_alloc] using this)
    refine hK.out _ _ (hS.out _ (Bw.alloc (Bw.refl W0) _)) ?_
    clear hK K
    try simp only [Act.put, List.setIfInBounds_toArray, List.set_cons_zero, List.set_cons_succ]
    refine wpAnyW_ready (rs := [0]) (by kernel_rfl) (by simp) ?_
    refine (AllReadyW.cons (o := { dst := some 66, op := Op.buildSlice 22 0 #[], type := 22, pos := "ref.go:49", after := #[], guard := none }) rfl (fun K hK => ?_) AllReadyW.nil)
    go_simp
    have R0 := hid (show Rw W0 ((W0.alloc (.cells (actC x).toArray 36)).alloc (.cells #[] 36)) 36 6 (.slice (some ⟨W0.heap.size + 1, 0, none⟩) 0 0) 0 [] from by have := Rw.empty W0 (W0.alloc (.cells (actC x).toArray 36)) (Bw.alloc (Bw.refl W0) _) 36 6; simpa only [World.size_alloc] using this)
    refine hK.out _ _ (hS.out _ (Bw.alloc (Bw.alloc (Bw.refl W0) _) _)) ?_
    clear hK K
    try simp only [Act.put, List.setIfInBounds_toArray, List.set_cons_zero, List.set_cons_succ]
    refine wpAnyW_ready (rs := [3]) (by kernel_rfl) (by simp) ?_
    refine (AllReadyW.cons (o := { dst := some 69, op := Op.call { callee := Callee.builtin Builtin.append, args := #[Operand.tmp 66, Operand.tmp 68], argTypes := #[22, 22] }, type := 22, pos := "ref.go:49", after := #[{ on := 0, ground := Ground.data }, { on := 2, ground := Ground.data }], guard := none }) rfl (fun K hK => ?_) AllReadyW.nil)
    refine step_append_any (G := Gd) rfl _ _ 22 rfl 36 i2 _ 6 48 Try.underlying22 I2.out.1 I2.out.2.1 I2.out.2.2.1 I2.out.2.2.2 rfl (by decide) (.slice (some ⟨W0.heap.size + 1, 0, none⟩) 0 0) 0 [] rfl R0.out.1 (.slice av L.length cv) L.length (actsC L) rfl (hLs.out.below (Bw.alloc (Bw.alloc (Bw.refl W0) _) _)) (actsC_one L) (by unfold maxLen; omega) (by omega) ?_
    intro v3 w3 ho hg hvb
    have HBw3 : Bw W0 w3 := R0.out.bwGrown (Bw.alloc (Bw.alloc (Bw.refl W0) _) _) hg
    have RRw3 : Rw W0 w3 36 6 v3 (0 + L.length) ([] ++ actsC L) := R0.out.grown (Bw.alloc (Bw.alloc (Bw.refl W0) _) _) ho hvb
    have N6 := hid ((N5.out.below (Bw.alloc (Bw.refl _) (.cells #[] 36))).grown hg (fun b hb e => by simp only [Value.ownBlock, Option.some.injEq] at e; subst hb; omega))
    refine hK.out _ _ (hS.out _ HBw3) ?_
    clear hK K
    try simp only [Act.put, List.setIfInBounds_toArray, List.set_cons_zero, List.set_cons_succ]
    refine wpAnyW_ready (rs := [6]) (by kernel_rfl) (by simp) ?_
    refine (AllReadyW.cons (o := { dst := some 72, op := Op.call { callee := Callee.builtin Builtin.append, args := #[Operand.tmp 69, Operand.tmp 71], argTypes := #[22, 22] }, type := 22, pos := "ref.go:49", after := #[{ on := 3, ground := Ground.data }, { on := 5, ground := Ground.data }, { on := 3, ground := Ground.chain }], guard := none }) rfl (fun K hK => ?_) AllReadyW.nil)
    refine step_append_any rfl _ _ 22 rfl 36 i2 _ 6 48 Try.underlying22 I2.out.1 I2.out.2.1 I2.out.2.2.1 I2.out.2.2.2 rfl (by decide) v3 (0 + L.length) ([] ++ actsC L) rfl RRw3.1 (.slice (some ⟨W0.heap.size, 0, none⟩) 1 1) 1 (actC x) rfl N6.out (actC_one x) (by unfold maxLen; omega) (by omega) ?_
    intro v6 w6 ho6 hg6 hvb6
    have HB6 : Bw W0 w6 := RRw3.bwGrown HBw3 hg6
    have RR6 : Rw W0 w6 36 6 v6 (0 + L.length + 1) ([] ++ actsC L ++ actC x) := RRw3.grown HBw3 ho6 hvb6
    refine hK.out _ _ (hS.out _ HB6) ?_
    clear hK K
    try simp only [Act.put, List.setIfInBounds_toArray, List.set_cons_zero, List.set_cons_succ]
    refine wpAnyW_take (i := 7) (oi := { dst := some 73, op := Op.fieldAddr 29 (Operand.tmp 2) 2, type := 0, pos := "ref.go:49", after := #[{ on := 0, ground := Ground.phase }, { on := 1, ground := Ground.phase }, { on := 2, ground := Ground.phase }, { on := 3, ground := Ground.phase }, { on := 4, ground := Ground.phase }, { on := 5, ground := Ground.phase }, { on := 6, ground := Ground.phase }], guard := none }) (v := ?_) rfl (by kernel_rfl) (by kernel_rfl) (by kernel_rfl) (by kernel_rfl) (fun _ _ _ h => h) (Or.inl ⟨by rfl, fun w _ => ?_⟩) ?_
    rotate_left
    · (go_simp; first | done | with_reducible rfl)
    try simp only [Act.put, List.setIfInBounds_toArray, List.set_cons_zero, List.set_cons_succ]
    obtain ⟨a6, c6, e6⟩ := own_form RR6.1
    subst e6
    have BP6 := BP.out.bw HB6
    have BR6 := BR.out.bw HB6
    have p0 := BP6.cell 0
    have p1 := BP6.cell 1
    have p2 := BP6.cell 2
    have pf := BP6.free
    have pl := BP6.lt
    have r0 := BR6.cell 0
    have r1 := BR6.cell 1
    have r2 := BR6.cell 2
    have rf := BR6.free
    have rl := BR6.lt
    simp only [List.getElem?_toArray, List.getElem?_cons_zero, List.getElem?_cons_succ] at p0 p1 p2 r0 r1 r2
    refine wpAnyW_ready (rs := [8]) (by kernel_rfl) (by simp) ?_
    refine (AllReadyW.cons (o := { dst := none, op := Op.store 22 (Operand.tmp 73) (Operand.tmp 72), type := 0, pos := "ref.go:49", after := #[{ on := 7, ground := Ground.data }, { on := 6, ground := Ground.data }, { on := 6, ground := Ground.chain }, { on := 0, ground := Ground.phase }, { on := 1, ground := Ground.phase }, { on := 2, ground := Ground.phase }, { on := 3, ground := Ground.phase }, { on := 4, ground := Ground.phase }, { on := 5, ground := Ground.phase }, { on := 6, ground := Ground.phase }], guard := none }) rfl (fun K hK => ?_) AllReadyW.nil)
    go_simp
    refine hK.out _ _ trivial ?_
    clear hK K
    try simp only [Act.put, List.setIfInBounds_toArray, List.set_cons_zero, List.set_cons_succ]
    refine wpAnyW_done (by kernel_rfl) ?_ _
    go_wp2
    simp only [Nat.zero_add, List.nil_append] at RR6
    obtain ⟨fb, fr⟩ := tell_fin HZ0.out HB0.out HB6 RR6 HL.out.2.2 hx hL (.slice a6 (L.length + 1) c6) (.int .i64 F) (.int .i64 G) (.slice a6 (L.length + 1) c6)
    exact bodyPost_ret (v := .tuple #[rpV F G (.slice a6 (L.length + 1) c6), .int .i64 0]) (by simp [results, Try.results13, go_sem, *]) rfl ⟨_, rfl, fb, fr⟩

/-- What the document tells. -/
theorem rTell_any {w : World} {Gd : Nat → Prop} {F G : Nat} {vL : Value} {L : List AA} (x : AA) (hx : AOK x) (h : RLs w Gd vL L) (hL : L.length < 1000) : Calls Try.prog 13 #[rpV F G vL, actV x] w fun e w' => ∃ vL', e = .returned (.tuple #[rpV F G vL', .int .i64 (if okT F G x then 0 else 1)]) ∧ Bw w w' ∧ RLs w' (fun b => Gd b ∨ w.heap.size ≤ b) vL' (tellL F G L x) := by
  obtain ⟨av, cv, rfl⟩ := h.form
  unfold tellL
  cases hk : okT F G x
  · exact (rTell_no x hk).mono fun e w' ⟨he, hb⟩ => ⟨_, he, hb, (h.bw hb).imp (fun b _ hG => .inl hG)⟩
  · have hc : Calls Try.prog 13 #[rpV F G (.slice av L.length cv), actV x] w fun e w' => ∃ vL', e = .returned (.tuple #[rpV F G vL', .int .i64 0]) ∧ Bw w w' ∧ RLs w' (fun b => w.heap.size ≤ b) vL' (L ++ [x]) := by
      unfold okT at hk
      by_cases h2 : x.d = 2
      · rw [if_pos h2] at hk
        have hk := of_decide_eq_true hk
        exact rTell_2 x hx h hL ⟨h2, by omega, by omega, by omega, by omega, by omega, by omega, by omega, by omega⟩
      · rw [if_neg h2] at hk
        by_cases h3 : x.d = 3
        · rw [if_pos h3] at hk
          have hk := of_decide_eq_true hk
          exact rTell_3 x hx h hL h3 (by omega) (by omega) (by cases decide ((F : Int) ≤ x.f) <;> simp)
        · rw [if_neg h3] at hk
          have hk := of_decide_eq_true hk
          exact rTell_4 x hx h hL h2 h3 (by omega) (by omega)
    exact hc.mono fun e w' ⟨v, he, hb, hr⟩ => ⟨v, he, hb, hr.imp (fun b _ hG => .inr hG)⟩

end Go.Proofs.Ytfkcbioefdkabaa
