/- VerifyGrows' region 6. Written by mkgi11.py. -/
import Derived.Test.YtcljlmjcjfmppaaDoorGh
set_option linter.unusedSimpArgs false
set_option linter.unusedVariables false
namespace Go.Proofs.YtcljlmjcjfmppaaDoor
open Go Go.RowKit

/-- The values of region 6. -/
structure V6 (g : Nat) (vf vs vk : Value) (gl : Int) (D : Nat → Bool) (x36 x37 x38 x40 x41 x44 x45 x46 x47 x48 x49 x50 : Value) : Prop where
  v36 : D 1 = true → x36 = .pointer (some ⟨g, 0, none⟩)
  v37 : D 2 = true → x37 = vf
  v40 : D 5 = true → x40 = .pointer (some ⟨g, 1, none⟩)
  v41 : D 6 = true → x41 = vs
  v45 : D 10 = true → x45 = .pointer (some ⟨g, 2, none⟩)
  v46 : D 11 = true → x46 = vk
  v47 : D 12 = true → x47 = .pointer (some ⟨g, 3, none⟩)
  v48 : D 13 = true → x48 = .int .i64 gl
  v49 : D 14 = true → x49 = .int .i64 (gl + 1)
  v50 : D 15 = true → x50 = .agg #[x38, x44, vk, .int .i64 (gl + 1)]
  c15 : D 15 = true → D 3 = true ∧ D 9 = true

section
variable {g : Nat} {vf vs vk : Value} {gl : Int} {D : Nat → Bool} {x36 x37 x38 x40 x41 x44 x45 x46 x47 x48 x49 x50 : Value}

theorem V6.start : V6 g vf vs vk gl (fun _ => false) x36 x37 x38 x40 x41 x44 x45 x46 x47 x48 x49 x50 := by
  constructor <;> (intro h; cases h)

theorem V6.s1 (V : V6 g vf vs vk gl D x36 x37 x38 x40 x41 x44 x45 x46 x47 x48 x49 x50) : V6 g vf vs vk gl (updD D 1) (.pointer (some ⟨g, 0, none⟩)) x37 x38 x40 x41 x44 x45 x46 x47 x48 x49 x50 where
  v36 := fun _ => rfl
  v37 := V.v37
  v40 := V.v40
  v41 := V.v41
  v45 := V.v45
  v46 := V.v46
  v47 := V.v47
  v48 := V.v48
  v49 := V.v49
  v50 := V.v50
  c15 := V.c15

theorem V6.s2 (V : V6 g vf vs vk gl D x36 x37 x38 x40 x41 x44 x45 x46 x47 x48 x49 x50) : V6 g vf vs vk gl (updD D 2) x36 (vf) x38 x40 x41 x44 x45 x46 x47 x48 x49 x50 where
  v36 := V.v36
  v37 := fun _ => rfl
  v40 := V.v40
  v41 := V.v41
  v45 := V.v45
  v46 := V.v46
  v47 := V.v47
  v48 := V.v48
  v49 := V.v49
  v50 := V.v50
  c15 := V.c15

theorem V6.s5 (V : V6 g vf vs vk gl D x36 x37 x38 x40 x41 x44 x45 x46 x47 x48 x49 x50) : V6 g vf vs vk gl (updD D 5) x36 x37 x38 (.pointer (some ⟨g, 1, none⟩)) x41 x44 x45 x46 x47 x48 x49 x50 where
  v36 := V.v36
  v37 := V.v37
  v40 := fun _ => rfl
  v41 := V.v41
  v45 := V.v45
  v46 := V.v46
  v47 := V.v47
  v48 := V.v48
  v49 := V.v49
  v50 := V.v50
  c15 := V.c15

theorem V6.s6 (V : V6 g vf vs vk gl D x36 x37 x38 x40 x41 x44 x45 x46 x47 x48 x49 x50) : V6 g vf vs vk gl (updD D 6) x36 x37 x38 x40 (vs) x44 x45 x46 x47 x48 x49 x50 where
  v36 := V.v36
  v37 := V.v37
  v40 := V.v40
  v41 := fun _ => rfl
  v45 := V.v45
  v46 := V.v46
  v47 := V.v47
  v48 := V.v48
  v49 := V.v49
  v50 := V.v50
  c15 := V.c15

theorem V6.s10 (V : V6 g vf vs vk gl D x36 x37 x38 x40 x41 x44 x45 x46 x47 x48 x49 x50) : V6 g vf vs vk gl (updD D 10) x36 x37 x38 x40 x41 x44 (.pointer (some ⟨g, 2, none⟩)) x46 x47 x48 x49 x50 where
  v36 := V.v36
  v37 := V.v37
  v40 := V.v40
  v41 := V.v41
  v45 := fun _ => rfl
  v46 := V.v46
  v47 := V.v47
  v48 := V.v48
  v49 := V.v49
  v50 := V.v50
  c15 := V.c15

theorem V6.s11 (V : V6 g vf vs vk gl D x36 x37 x38 x40 x41 x44 x45 x46 x47 x48 x49 x50) : V6 g vf vs vk gl (updD D 11) x36 x37 x38 x40 x41 x44 x45 (vk) x47 x48 x49 x50 where
  v36 := V.v36
  v37 := V.v37
  v40 := V.v40
  v41 := V.v41
  v45 := V.v45
  v46 := fun _ => rfl
  v47 := V.v47
  v48 := V.v48
  v49 := V.v49
  v50 := V.v50
  c15 := V.c15

theorem V6.s12 (V : V6 g vf vs vk gl D x36 x37 x38 x40 x41 x44 x45 x46 x47 x48 x49 x50) : V6 g vf vs vk gl (updD D 12) x36 x37 x38 x40 x41 x44 x45 x46 (.pointer (some ⟨g, 3, none⟩)) x48 x49 x50 where
  v36 := V.v36
  v37 := V.v37
  v40 := V.v40
  v41 := V.v41
  v45 := V.v45
  v46 := V.v46
  v47 := fun _ => rfl
  v48 := V.v48
  v49 := V.v49
  v50 := V.v50
  c15 := V.c15

theorem V6.s13 (V : V6 g vf vs vk gl D x36 x37 x38 x40 x41 x44 x45 x46 x47 x48 x49 x50) : V6 g vf vs vk gl (updD D 13) x36 x37 x38 x40 x41 x44 x45 x46 x47 (.int .i64 gl) x49 x50 where
  v36 := V.v36
  v37 := V.v37
  v40 := V.v40
  v41 := V.v41
  v45 := V.v45
  v46 := V.v46
  v47 := V.v47
  v48 := fun _ => rfl
  v49 := V.v49
  v50 := V.v50
  c15 := V.c15

theorem V6.s14 (V : V6 g vf vs vk gl D x36 x37 x38 x40 x41 x44 x45 x46 x47 x48 x49 x50) : V6 g vf vs vk gl (updD D 14) x36 x37 x38 x40 x41 x44 x45 x46 x47 x48 (.int .i64 (gl + 1)) x50 where
  v36 := V.v36
  v37 := V.v37
  v40 := V.v40
  v41 := V.v41
  v45 := V.v45
  v46 := V.v46
  v47 := V.v47
  v48 := V.v48
  v49 := fun _ => rfl
  v50 := V.v50
  c15 := V.c15

theorem V6.s15 (V : V6 g vf vs vk gl D x36 x37 x38 x40 x41 x44 x45 x46 x47 x48 x49 x50) (h3 : D 3 = true) (h9 : D 9 = true) : V6 g vf vs vk gl (updD D 15) x36 x37 x38 x40 x41 x44 x45 x46 x47 x48 x49 (.agg #[x38, x44, vk, .int .i64 (gl + 1)]) where
  v36 := V.v36
  v37 := V.v37
  v40 := V.v40
  v41 := V.v41
  v45 := V.v45
  v46 := V.v46
  v47 := V.v47
  v48 := V.v48
  v49 := V.v49
  v50 := fun _ => rfl
  c15 := fun _ => ⟨h3, h9⟩

theorem V6.s0 (V : V6 g vf vs vk gl D x36 x37 x38 x40 x41 x44 x45 x46 x47 x48 x49 x50) : V6 g vf vs vk gl (updD D 0) x36 x37 x38 x40 x41 x44 x45 x46 x47 x48 x49 x50 where
  v36 := V.v36
  v37 := V.v37
  v40 := V.v40
  v41 := V.v41
  v45 := V.v45
  v46 := V.v46
  v47 := V.v47
  v48 := V.v48
  v49 := V.v49
  v50 := V.v50
  c15 := V.c15

theorem V6.s4 (V : V6 g vf vs vk gl D x36 x37 x38 x40 x41 x44 x45 x46 x47 x48 x49 x50) : V6 g vf vs vk gl (updD D 4) x36 x37 x38 x40 x41 x44 x45 x46 x47 x48 x49 x50 where
  v36 := V.v36
  v37 := V.v37
  v40 := V.v40
  v41 := V.v41
  v45 := V.v45
  v46 := V.v46
  v47 := V.v47
  v48 := V.v48
  v49 := V.v49
  v50 := V.v50
  c15 := V.c15

theorem V6.s7 (V : V6 g vf vs vk gl D x36 x37 x38 x40 x41 x44 x45 x46 x47 x48 x49 x50) : V6 g vf vs vk gl (updD D 7) x36 x37 x38 x40 x41 x44 x45 x46 x47 x48 x49 x50 where
  v36 := V.v36
  v37 := V.v37
  v40 := V.v40
  v41 := V.v41
  v45 := V.v45
  v46 := V.v46
  v47 := V.v47
  v48 := V.v48
  v49 := V.v49
  v50 := V.v50
  c15 := V.c15

theorem V6.s8 (V : V6 g vf vs vk gl D x36 x37 x38 x40 x41 x44 x45 x46 x47 x48 x49 x50) : V6 g vf vs vk gl (updD D 8) x36 x37 x38 x40 x41 x44 x45 x46 x47 x48 x49 x50 where
  v36 := V.v36
  v37 := V.v37
  v40 := V.v40
  v41 := V.v41
  v45 := V.v45
  v46 := V.v46
  v47 := V.v47
  v48 := V.v48
  v49 := V.v49
  v50 := V.v50
  c15 := V.c15

theorem V6.s16 (V : V6 g vf vs vk gl D x36 x37 x38 x40 x41 x44 x45 x46 x47 x48 x49 x50) : V6 g vf vs vk gl (updD D 16) x36 x37 x38 x40 x41 x44 x45 x46 x47 x48 x49 x50 where
  v36 := V.v36
  v37 := V.v37
  v40 := V.v40
  v41 := V.v41
  v45 := V.v45
  v46 := V.v46
  v47 := V.v47
  v48 := V.v48
  v49 := V.v49
  v50 := V.v50
  c15 := V.c15

theorem V6.s17 (V : V6 g vf vs vk gl D x36 x37 x38 x40 x41 x44 x45 x46 x47 x48 x49 x50) : V6 g vf vs vk gl (updD D 17) x36 x37 x38 x40 x41 x44 x45 x46 x47 x48 x49 x50 where
  v36 := V.v36
  v37 := V.v37
  v40 := V.v40
  v41 := V.v41
  v45 := V.v45
  v46 := V.v46
  v47 := V.v47
  v48 := V.v48
  v49 := V.v49
  v50 := V.v50
  c15 := V.c15

theorem V6.s3 (V : V6 g vf vs vk gl D x36 x37 x38 x40 x41 x44 x45 x46 x47 x48 x49 x50) (hD : D 3 = false) (y : Value) : V6 g vf vs vk gl (updD D 3) x36 x37 y x40 x41 x44 x45 x46 x47 x48 x49 x50 where
  v36 := V.v36
  v37 := V.v37
  v40 := V.v40
  v41 := V.v41
  v45 := V.v45
  v46 := V.v46
  v47 := V.v47
  v48 := V.v48
  v49 := V.v49
  v50 := fun h => absurd (V.c15 h).1 (by rw [hD]; decide)
  c15 := fun h => absurd (V.c15 h).1 (by rw [hD]; decide)

theorem V6.s9 (V : V6 g vf vs vk gl D x36 x37 x38 x40 x41 x44 x45 x46 x47 x48 x49 x50) (hD : D 9 = false) (y : Value) : V6 g vf vs vk gl (updD D 9) x36 x37 x38 x40 x41 y x45 x46 x47 x48 x49 x50 where
  v36 := V.v36
  v37 := V.v37
  v40 := V.v40
  v41 := V.v41
  v45 := V.v45
  v46 := V.v46
  v47 := V.v47
  v48 := V.v48
  v49 := V.v49
  v50 := fun h => absurd (V.c15 h).2 (by rw [hD]; decide)
  c15 := fun h => absurd (V.c15 h).2 (by rw [hD]; decide)

end

def I6 (g : Nat) (vf vs vk : Value) (gl : Int) (w0 : World) (fs ss : List Value) (n k : Nat) (t0 t2 t3 t4 t5 t7 t8 t9 t10 t11 t12 t13 t14 t15 t16 t17 t18 t19 t20 t21 t22 t23 t24 t25 t26 t27 t28 t29 t30 t31 t32 t33 t34 t51 t52 t53 t54 t55 t56 t57 t58 t59 t60 t61 t62 t63 t64 t65 t66 t67 t68 t69 t70 t71 t72 t73 t74 t75 t76 t77 t78 t79 t80 t81 t82 t83 t84 t85 t86 t87 t88 t89 t90 t91 t92 t93 t94 t95 t96 t97 t98 t99 t100 t101 t102 t103 : Value) (D : Nat → Bool) (a : Act) (w : World) : Prop :=
  ∃ x6 x35 x36 x37 x38 x39 x40 x41 x42 x43 x44 x45 x46 x47 x48 x49 x50 : Value, a = ({ tmps := #[t0, (.pointer (some ⟨g, 0, none⟩)), t2, t3, t4, t5, x6, t7, t8, t9, t10, t11, t12, t13, t14, t15, t16, t17, t18, t19, t20, t21, t22, t23, t24, t25, t26, t27, t28, t29, t30, t31, t32, t33, t34, x35, x36, x37, x38, x39, x40, x41, x42, x43, x44, x45, x46, x47, x48, x49, x50, t51, t52, t53, t54, t55, t56, t57, t58, t59, t60, t61, t62, t63, t64, t65, t66, t67, t68, t69, t70, t71, t72, t73, t74, t75, t76, t77, t78, t79, t80, t81, t82, t83, t84, t85, t86, t87, t88, t89, t90, t91, t92, t93, t94, t95, t96, t97, t98, t99, t100, t101, t102, t103], defers := [] } : Act) ∧ J6 38 9 26 w0 fs ss n k (.string { data := #[109, 111, 114, 101] }) vk (.int .i64 (gl + 1)) D x35 x38 x39 x42 x43 x44 x6 w ∧ V6 g vf vs vk gl D x36 x37 x38 x40 x41 x44 x45 x46 x47 x48 x49 x50

theorem Rw.form {W0 w : World} {e : TypeId} {size : Nat} {v : Value} {n : Nat} {xs : List Value} (h : Rw W0 w e size v n xs) : ∃ a c, v = .slice a n c := by
  rcases h.1.2 with h1 | ⟨g, cap, cur, e1, _⟩
  · exact ⟨none, 0, by rw [h1.1, h1.2]⟩
  · exact ⟨_, _, e1⟩

theorem Rw.sl {W0 w : World} {e : TypeId} {size : Nat} {v : Value} {n : Nat} {xs : List Value} (h : Rw W0 w e size v n xs) : Sl w (fun _ => True) v n size xs := by
  have h0 := h.1
  rcases h.1.2 with ⟨rfl, rfl⟩ | ⟨g, cap, cur, rfl, _, hg, hc, _⟩
  · exact ⟨h0.1, none, 0, rfl, ⟨Nat.le_refl _, fun _ => rfl⟩, .inl rfl⟩
  · refine ⟨h0.1, _, cap, rfl, ⟨hc, fun k => by cases k⟩, .inr ⟨g, 0, rfl, (h0.lt g rfl).2, trivial, fun i hi => ?_⟩⟩
    rw [Nat.zero_add]
    exact h0.cellAt i hi

theorem setCell_ne (w : World) (j : Nat) (v : Value) {b q : Nat} (h : b ≠ q) : (w.setCell ⟨q, j, none⟩ v).heap[b]? = w.heap[b]? := Below.heap_setCell w _ v b h

theorem arr4 (cur : Array Value) (h : cur.size = 4) : ∃ a b c d, cur = #[a, b, c, d] := by
  obtain ⟨l⟩ := cur
  match l, h with
  | [a, b, c, d], _ => exact ⟨a, b, c, d, rfl⟩

theorem infoCo : (Tryd.prog.info? 38).map (fun i => (i.zero, i.size, i.bytes)) = some (some (.agg #[.int .i64 0, .int .i64 0, .slice none 0 0, .slice none 0 0, .slice none 0 0, .slice none 0 0]), 6, 112) := by kernel_rfl
theorem infoSt : (Tryd.prog.info? 9).map (fun i => (i.zero, i.size, i.bytes)) = some (some (.string { data := #[] }), 1, 16) := by kernel_rfl

section
variable {g : Nat} {vf vs vk : Value} {gl : Int} {w0 w : World} {fs ss : List Value} {n k : Nat} {t0 t2 t3 t4 t5 t7 t8 t9 t10 t11 t12 t13 t14 t15 t16 t17 t18 t19 t20 t21 t22 t23 t24 t25 t26 t27 t28 t29 t30 t31 t32 t33 t34 t51 t52 t53 t54 t55 t56 t57 t58 t59 t60 t61 t62 t63 t64 t65 t66 t67 t68 t69 t70 t71 t72 t73 t74 t75 t76 t77 t78 t79 t80 t81 t82 t83 t84 t85 t86 t87 t88 t89 t90 t91 t92 t93 t94 t95 t96 t97 t98 t99 t100 t101 t102 t103 : Value} {D : Nat → Bool} {x6 x35 x36 x37 x38 x39 x40 x41 x42 x43 x44 x45 x46 x47 x48 x49 x50 : Value} {ops : Array Oper} {K : Act → World → Prop} {Q : Exit → Act → World → Prop} {E : Prop}

set_option maxRecDepth 100000 in
theorem r6_0 (J : J6 38 9 26 w0 fs ss n k (.string { data := #[109, 111, 114, 101] }) vk (.int .i64 (gl + 1)) D x35 x38 x39 x42 x43 x44 x6 w) (V : V6 g vf vs vk gl D x36 x37 x38 x40 x41 x44 x45 x46 x47 x48 x49 x50) (hK : Shut (∀ a' w', I6 g vf vs vk gl w0 fs ss n k t0 t2 t3 t4 t5 t7 t8 t9 t10 t11 t12 t13 t14 t15 t16 t17 t18 t19 t20 t21 t22 t23 t24 t25 t26 t27 t28 t29 t30 t31 t32 t33 t34 t51 t52 t53 t54 t55 t56 t57 t58 t59 t60 t61 t62 t63 t64 t65 t66 t67 t68 t69 t70 t71 t72 t73 t74 t75 t76 t77 t78 t79 t80 t81 t82 t83 t84 t85 t86 t87 t88 t89 t90 t91 t92 t93 t94 t95 t96 t97 t98 t99 t100 t101 t102 t103 (updD D 0) a' w' → K a' w')) :
    if Region.wanted { dst := some 35, op := Op.buildSlice 22 0 #[], type := 22, pos := "law.go:99", after := #[], guard := none } (yielded ops ({ tmps := #[t0, (.pointer (some ⟨g, 0, none⟩)), t2, t3, t4, t5, x6, t7, t8, t9, t10, t11, t12, t13, t14, t15, t16, t17, t18, t19, t20, t21, t22, t23, t24, t25, t26, t27, t28, t29, t30, t31, t32, t33, t34, x35, x36, x37, x38, x39, x40, x41, x42, x43, x44, x45, x46, x47, x48, x49, x50, t51, t52, t53, t54, t55, t56, t57, t58, t59, t60, t61, t62, t63, t64, t65, t66, t67, t68, t69, t70, t71, t72, t73, t74, t75, t76, t77, t78, t79, t80, t81, t82, t83, t84, t85, t86, t87, t88, t89, t90, t91, t92, t93, t94, t95, t96, t97, t98, t99, t100, t101, t102, t103], defers := [] } : Act).tmps) = true then Oper.wp Tryd.prog { dst := some 35, op := Op.buildSlice 22 0 #[], type := 22, pos := "law.go:99", after := #[], guard := none } ({ tmps := #[t0, (.pointer (some ⟨g, 0, none⟩)), t2, t3, t4, t5, x6, t7, t8, t9, t10, t11, t12, t13, t14, t15, t16, t17, t18, t19, t20, t21, t22, t23, t24, t25, t26, t27, t28, t29, t30, t31, t32, t33, t34, x35, x36, x37, x38, x39, x40, x41, x42, x43, x44, x45, x46, x47, x48, x49, x50, t51, t52, t53, t54, t55, t56, t57, t58, t59, t60, t61, t62, t63, t64, t65, t66, t67, t68, t69, t70, t71, t72, t73, t74, t75, t76, t77, t78, t79, t80, t81, t82, t83, t84, t85, t86, t87, t88, t89, t90, t91, t92, t93, t94, t95, t96, t97, t98, t99, t100, t101, t102, t103], defers := [] } : Act) w K Q else E := by
  go_simp
  exact hK.out _ _ ⟨_, _, _, _, _, _, _, _, _, _, _, _, _, _, _, _, _, rfl, J.s0, V.s0⟩

set_option maxRecDepth 100000 in
theorem r6_1 (J : J6 38 9 26 w0 fs ss n k (.string { data := #[109, 111, 114, 101] }) vk (.int .i64 (gl + 1)) D x35 x38 x39 x42 x43 x44 x6 w) (V : V6 g vf vs vk gl D x36 x37 x38 x40 x41 x44 x45 x46 x47 x48 x49 x50) (hK : Shut (∀ a' w', I6 g vf vs vk gl w0 fs ss n k t0 t2 t3 t4 t5 t7 t8 t9 t10 t11 t12 t13 t14 t15 t16 t17 t18 t19 t20 t21 t22 t23 t24 t25 t26 t27 t28 t29 t30 t31 t32 t33 t34 t51 t52 t53 t54 t55 t56 t57 t58 t59 t60 t61 t62 t63 t64 t65 t66 t67 t68 t69 t70 t71 t72 t73 t74 t75 t76 t77 t78 t79 t80 t81 t82 t83 t84 t85 t86 t87 t88 t89 t90 t91 t92 t93 t94 t95 t96 t97 t98 t99 t100 t101 t102 t103 (updD D 1) a' w' → K a' w')) :
    if Region.wanted { dst := some 36, op := Op.fieldAddr 26 (Operand.tmp 1) 0, type := 0, pos := "law.go:99", after := #[], guard := none } (yielded ops ({ tmps := #[t0, (.pointer (some ⟨g, 0, none⟩)), t2, t3, t4, t5, x6, t7, t8, t9, t10, t11, t12, t13, t14, t15, t16, t17, t18, t19, t20, t21, t22, t23, t24, t25, t26, t27, t28, t29, t30, t31, t32, t33, t34, x35, x36, x37, x38, x39, x40, x41, x42, x43, x44, x45, x46, x47, x48, x49, x50, t51, t52, t53, t54, t55, t56, t57, t58, t59, t60, t61, t62, t63, t64, t65, t66, t67, t68, t69, t70, t71, t72, t73, t74, t75, t76, t77, t78, t79, t80, t81, t82, t83, t84, t85, t86, t87, t88, t89, t90, t91, t92, t93, t94, t95, t96, t97, t98, t99, t100, t101, t102, t103], defers := [] } : Act).tmps) = true then Oper.wp Tryd.prog { dst := some 36, op := Op.fieldAddr 26 (Operand.tmp 1) 0, type := 0, pos := "law.go:99", after := #[], guard := none } ({ tmps := #[t0, (.pointer (some ⟨g, 0, none⟩)), t2, t3, t4, t5, x6, t7, t8, t9, t10, t11, t12, t13, t14, t15, t16, t17, t18, t19, t20, t21, t22, t23, t24, t25, t26, t27, t28, t29, t30, t31, t32, t33, t34, x35, x36, x37, x38, x39, x40, x41, x42, x43, x44, x45, x46, x47, x48, x49, x50, t51, t52, t53, t54, t55, t56, t57, t58, t59, t60, t61, t62, t63, t64, t65, t66, t67, t68, t69, t70, t71, t72, t73, t74, t75, t76, t77, t78, t79, t80, t81, t82, t83, t84, t85, t86, t87, t88, t89, t90, t91, t92, t93, t94, t95, t96, t97, t98, t99, t100, t101, t102, t103], defers := [] } : Act) w K Q else E := by
  go_simp
  exact hK.out _ _ ⟨_, _, _, _, _, _, _, _, _, _, _, _, _, _, _, _, _, rfl, (J.pure 1 (by decide) (by decide) (by decide) (by decide) (by decide) (by decide) (by decide) (by decide)), V.s1⟩

set_option maxRecDepth 100000 in
theorem r6_2 (J : J6 38 9 26 w0 fs ss n k (.string { data := #[109, 111, 114, 101] }) vk (.int .i64 (gl + 1)) D x35 x38 x39 x42 x43 x44 x6 w) (V : V6 g vf vs vk gl D x36 x37 x38 x40 x41 x44 x45 x46 x47 x48 x49 x50) (d1 : D 1 = true) (hc : Blk w g #[vf, vs, vk, .int .i64 gl] 26) (hK : Shut (∀ a' w', I6 g vf vs vk gl w0 fs ss n k t0 t2 t3 t4 t5 t7 t8 t9 t10 t11 t12 t13 t14 t15 t16 t17 t18 t19 t20 t21 t22 t23 t24 t25 t26 t27 t28 t29 t30 t31 t32 t33 t34 t51 t52 t53 t54 t55 t56 t57 t58 t59 t60 t61 t62 t63 t64 t65 t66 t67 t68 t69 t70 t71 t72 t73 t74 t75 t76 t77 t78 t79 t80 t81 t82 t83 t84 t85 t86 t87 t88 t89 t90 t91 t92 t93 t94 t95 t96 t97 t98 t99 t100 t101 t102 t103 (updD D 2) a' w' → K a' w')) :
    if Region.wanted { dst := some 37, op := Op.load 22 (Operand.tmp 36), type := 22, pos := "law.go:99", after := #[{ on := 1, ground := Ground.data }], guard := none } (yielded ops ({ tmps := #[t0, (.pointer (some ⟨g, 0, none⟩)), t2, t3, t4, t5, x6, t7, t8, t9, t10, t11, t12, t13, t14, t15, t16, t17, t18, t19, t20, t21, t22, t23, t24, t25, t26, t27, t28, t29, t30, t31, t32, t33, t34, x35, x36, x37, x38, x39, x40, x41, x42, x43, x44, x45, x46, x47, x48, x49, x50, t51, t52, t53, t54, t55, t56, t57, t58, t59, t60, t61, t62, t63, t64, t65, t66, t67, t68, t69, t70, t71, t72, t73, t74, t75, t76, t77, t78, t79, t80, t81, t82, t83, t84, t85, t86, t87, t88, t89, t90, t91, t92, t93, t94, t95, t96, t97, t98, t99, t100, t101, t102, t103], defers := [] } : Act).tmps) = true then Oper.wp Tryd.prog { dst := some 37, op := Op.load 22 (Operand.tmp 36), type := 22, pos := "law.go:99", after := #[{ on := 1, ground := Ground.data }], guard := none } ({ tmps := #[t0, (.pointer (some ⟨g, 0, none⟩)), t2, t3, t4, t5, x6, t7, t8, t9, t10, t11, t12, t13, t14, t15, t16, t17, t18, t19, t20, t21, t22, t23, t24, t25, t26, t27, t28, t29, t30, t31, t32, t33, t34, x35, x36, x37, x38, x39, x40, x41, x42, x43, x44, x45, x46, x47, x48, x49, x50, t51, t52, t53, t54, t55, t56, t57, t58, t59, t60, t61, t62, t63, t64, t65, t66, t67, t68, t69, t70, t71, t72, t73, t74, t75, t76, t77, t78, t79, t80, t81, t82, t83, t84, t85, t86, t87, t88, t89, t90, t91, t92, t93, t94, t95, t96, t97, t98, t99, t100, t101, t102, t103], defers := [] } : Act) w K Q else E := by
  have e1 := V.v36 d1
  subst e1
  have zu := hc.cell
  go_simp
  exact hK.out _ _ ⟨_, _, _, _, _, _, _, _, _, _, _, _, _, _, _, _, _, rfl, (J.pure 2 (by decide) (by decide) (by decide) (by decide) (by decide) (by decide) (by decide) (by decide)), V.s2⟩

set_option maxRecDepth 100000 in
theorem r6_3 (J : J6 38 9 26 w0 fs ss n k (.string { data := #[109, 111, 114, 101] }) vk (.int .i64 (gl + 1)) D x35 x38 x39 x42 x43 x44 x6 w) (V : V6 g vf vs vk gl D x36 x37 x38 x40 x41 x44 x45 x46 x47 x48 x49 x50) (d0 : D 0 = true) (d2 : D 2 = true) (hsl : Sl w (fun _ => True) vf n 6 fs) (h1 : ∀ u ∈ fs, u.oneCell' = true) (hn : n ≤ 1000000) (hD : D 3 = false) (hK : Shut (∀ a' w', I6 g vf vs vk gl w0 fs ss n k t0 t2 t3 t4 t5 t7 t8 t9 t10 t11 t12 t13 t14 t15 t16 t17 t18 t19 t20 t21 t22 t23 t24 t25 t26 t27 t28 t29 t30 t31 t32 t33 t34 t51 t52 t53 t54 t55 t56 t57 t58 t59 t60 t61 t62 t63 t64 t65 t66 t67 t68 t69 t70 t71 t72 t73 t74 t75 t76 t77 t78 t79 t80 t81 t82 t83 t84 t85 t86 t87 t88 t89 t90 t91 t92 t93 t94 t95 t96 t97 t98 t99 t100 t101 t102 t103 (updD D 3) a' w' → K a' w')) :
    if Region.wanted { dst := some 38, op := Op.call { callee := Callee.builtin Builtin.append, args := #[Operand.tmp 35, Operand.tmp 37], argTypes := #[22, 22] }, type := 22, pos := "law.go:99", after := #[{ on := 0, ground := Ground.data }, { on := 2, ground := Ground.data }], guard := none } (yielded ops ({ tmps := #[t0, (.pointer (some ⟨g, 0, none⟩)), t2, t3, t4, t5, x6, t7, t8, t9, t10, t11, t12, t13, t14, t15, t16, t17, t18, t19, t20, t21, t22, t23, t24, t25, t26, t27, t28, t29, t30, t31, t32, t33, t34, x35, x36, x37, x38, x39, x40, x41, x42, x43, x44, x45, x46, x47, x48, x49, x50, t51, t52, t53, t54, t55, t56, t57, t58, t59, t60, t61, t62, t63, t64, t65, t66, t67, t68, t69, t70, t71, t72, t73, t74, t75, t76, t77, t78, t79, t80, t81, t82, t83, t84, t85, t86, t87, t88, t89, t90, t91, t92, t93, t94, t95, t96, t97, t98, t99, t100, t101, t102, t103], defers := [] } : Act).tmps) = true then Oper.wp Tryd.prog { dst := some 38, op := Op.call { callee := Callee.builtin Builtin.append, args := #[Operand.tmp 35, Operand.tmp 37], argTypes := #[22, 22] }, type := 22, pos := "law.go:99", after := #[{ on := 0, ground := Ground.data }, { on := 2, ground := Ground.data }], guard := none } ({ tmps := #[t0, (.pointer (some ⟨g, 0, none⟩)), t2, t3, t4, t5, x6, t7, t8, t9, t10, t11, t12, t13, t14, t15, t16, t17, t18, t19, t20, t21, t22, t23, t24, t25, t26, t27, t28, t29, t30, t31, t32, t33, t34, x35, x36, x37, x38, x39, x40, x41, x42, x43, x44, x45, x46, x47, x48, x49, x50, t51, t52, t53, t54, t55, t56, t57, t58, t59, t60, t61, t62, t63, t64, t65, t66, t67, t68, t69, t70, t71, t72, t73, t74, t75, t76, t77, t78, t79, t80, t81, t82, t83, t84, t85, t86, t87, t88, t89, t90, t91, t92, t93, t94, t95, t96, t97, t98, t99, t100, t101, t102, t103], defers := [] } : Act) w K Q else E := by
  have e2 := V.v37 d2
  subst e2
  obtain ⟨i1, hi1, hz1, hs1, hy1⟩ := info_parts2 infoCo
  refine step_append_any (by rfl) (.tmp 35) (.tmp 37) 22 (by rfl) 38 i1 (.agg #[.int .i64 0, .int .i64 0, .slice none 0 0, .slice none 0 0, .slice none 0 0, .slice none 0 0]) 6 112 (by kernel_rfl) hi1 hz1 hs1 hy1 rfl (by decide) x35 0 [] (by rfl) (J.r35 d0 hD).1 x37 n fs (by rfl) hsl h1 (by unfold maxLen; omega) (by omega) ?_
  intro v' w' a1 a2 a3
  refine hK.out _ _ ?_
  try simp only [Act.put, List.setIfInBounds_toArray, List.set_cons_zero, List.set_cons_succ]
  exact ⟨x6, x35, x36, x37, v', x39, x40, x41, x42, x43, x44, x45, x46, x47, x48, x49, x50, rfl, J.s3 d0 hD (by decide) (by decide) (by simpa using a1) a2 a3, V.s3 hD _⟩

set_option maxRecDepth 100000 in
theorem r6_4 (J : J6 38 9 26 w0 fs ss n k (.string { data := #[109, 111, 114, 101] }) vk (.int .i64 (gl + 1)) D x35 x38 x39 x42 x43 x44 x6 w) (V : V6 g vf vs vk gl D x36 x37 x38 x40 x41 x44 x45 x46 x47 x48 x49 x50) (hK : Shut (∀ a' w', I6 g vf vs vk gl w0 fs ss n k t0 t2 t3 t4 t5 t7 t8 t9 t10 t11 t12 t13 t14 t15 t16 t17 t18 t19 t20 t21 t22 t23 t24 t25 t26 t27 t28 t29 t30 t31 t32 t33 t34 t51 t52 t53 t54 t55 t56 t57 t58 t59 t60 t61 t62 t63 t64 t65 t66 t67 t68 t69 t70 t71 t72 t73 t74 t75 t76 t77 t78 t79 t80 t81 t82 t83 t84 t85 t86 t87 t88 t89 t90 t91 t92 t93 t94 t95 t96 t97 t98 t99 t100 t101 t102 t103 (updD D 4) a' w' → K a' w')) :
    if Region.wanted { dst := some 39, op := Op.buildSlice 23 0 #[], type := 23, pos := "law.go:99", after := #[], guard := none } (yielded ops ({ tmps := #[t0, (.pointer (some ⟨g, 0, none⟩)), t2, t3, t4, t5, x6, t7, t8, t9, t10, t11, t12, t13, t14, t15, t16, t17, t18, t19, t20, t21, t22, t23, t24, t25, t26, t27, t28, t29, t30, t31, t32, t33, t34, x35, x36, x37, x38, x39, x40, x41, x42, x43, x44, x45, x46, x47, x48, x49, x50, t51, t52, t53, t54, t55, t56, t57, t58, t59, t60, t61, t62, t63, t64, t65, t66, t67, t68, t69, t70, t71, t72, t73, t74, t75, t76, t77, t78, t79, t80, t81, t82, t83, t84, t85, t86, t87, t88, t89, t90, t91, t92, t93, t94, t95, t96, t97, t98, t99, t100, t101, t102, t103], defers := [] } : Act).tmps) = true then Oper.wp Tryd.prog { dst := some 39, op := Op.buildSlice 23 0 #[], type := 23, pos := "law.go:99", after := #[], guard := none } ({ tmps := #[t0, (.pointer (some ⟨g, 0, none⟩)), t2, t3, t4, t5, x6, t7, t8, t9, t10, t11, t12, t13, t14, t15, t16, t17, t18, t19, t20, t21, t22, t23, t24, t25, t26, t27, t28, t29, t30, t31, t32, t33, t34, x35, x36, x37, x38, x39, x40, x41, x42, x43, x44, x45, x46, x47, x48, x49, x50, t51, t52, t53, t54, t55, t56, t57, t58, t59, t60, t61, t62, t63, t64, t65, t66, t67, t68, t69, t70, t71, t72, t73, t74, t75, t76, t77, t78, t79, t80, t81, t82, t83, t84, t85, t86, t87, t88, t89, t90, t91, t92, t93, t94, t95, t96, t97, t98, t99, t100, t101, t102, t103], defers := [] } : Act) w K Q else E := by
  go_simp
  exact hK.out _ _ ⟨_, _, _, _, _, _, _, _, _, _, _, _, _, _, _, _, _, rfl, J.s4, V.s4⟩

set_option maxRecDepth 100000 in
theorem r6_5 (J : J6 38 9 26 w0 fs ss n k (.string { data := #[109, 111, 114, 101] }) vk (.int .i64 (gl + 1)) D x35 x38 x39 x42 x43 x44 x6 w) (V : V6 g vf vs vk gl D x36 x37 x38 x40 x41 x44 x45 x46 x47 x48 x49 x50) (hK : Shut (∀ a' w', I6 g vf vs vk gl w0 fs ss n k t0 t2 t3 t4 t5 t7 t8 t9 t10 t11 t12 t13 t14 t15 t16 t17 t18 t19 t20 t21 t22 t23 t24 t25 t26 t27 t28 t29 t30 t31 t32 t33 t34 t51 t52 t53 t54 t55 t56 t57 t58 t59 t60 t61 t62 t63 t64 t65 t66 t67 t68 t69 t70 t71 t72 t73 t74 t75 t76 t77 t78 t79 t80 t81 t82 t83 t84 t85 t86 t87 t88 t89 t90 t91 t92 t93 t94 t95 t96 t97 t98 t99 t100 t101 t102 t103 (updD D 5) a' w' → K a' w')) :
    if Region.wanted { dst := some 40, op := Op.fieldAddr 26 (Operand.tmp 1) 1, type := 0, pos := "law.go:99", after := #[], guard := none } (yielded ops ({ tmps := #[t0, (.pointer (some ⟨g, 0, none⟩)), t2, t3, t4, t5, x6, t7, t8, t9, t10, t11, t12, t13, t14, t15, t16, t17, t18, t19, t20, t21, t22, t23, t24, t25, t26, t27, t28, t29, t30, t31, t32, t33, t34, x35, x36, x37, x38, x39, x40, x41, x42, x43, x44, x45, x46, x47, x48, x49, x50, t51, t52, t53, t54, t55, t56, t57, t58, t59, t60, t61, t62, t63, t64, t65, t66, t67, t68, t69, t70, t71, t72, t73, t74, t75, t76, t77, t78, t79, t80, t81, t82, t83, t84, t85, t86, t87, t88, t89, t90, t91, t92, t93, t94, t95, t96, t97, t98, t99, t100, t101, t102, t103], defers := [] } : Act).tmps) = true then Oper.wp Tryd.prog { dst := some 40, op := Op.fieldAddr 26 (Operand.tmp 1) 1, type := 0, pos := "law.go:99", after := #[], guard := none } ({ tmps := #[t0, (.pointer (some ⟨g, 0, none⟩)), t2, t3, t4, t5, x6, t7, t8, t9, t10, t11, t12, t13, t14, t15, t16, t17, t18, t19, t20, t21, t22, t23, t24, t25, t26, t27, t28, t29, t30, t31, t32, t33, t34, x35, x36, x37, x38, x39, x40, x41, x42, x43, x44, x45, x46, x47, x48, x49, x50, t51, t52, t53, t54, t55, t56, t57, t58, t59, t60, t61, t62, t63, t64, t65, t66, t67, t68, t69, t70, t71, t72, t73, t74, t75, t76, t77, t78, t79, t80, t81, t82, t83, t84, t85, t86, t87, t88, t89, t90, t91, t92, t93, t94, t95, t96, t97, t98, t99, t100, t101, t102, t103], defers := [] } : Act) w K Q else E := by
  go_simp
  exact hK.out _ _ ⟨_, _, _, _, _, _, _, _, _, _, _, _, _, _, _, _, _, rfl, (J.pure 5 (by decide) (by decide) (by decide) (by decide) (by decide) (by decide) (by decide) (by decide)), V.s5⟩

set_option maxRecDepth 100000 in
theorem r6_6 (J : J6 38 9 26 w0 fs ss n k (.string { data := #[109, 111, 114, 101] }) vk (.int .i64 (gl + 1)) D x35 x38 x39 x42 x43 x44 x6 w) (V : V6 g vf vs vk gl D x36 x37 x38 x40 x41 x44 x45 x46 x47 x48 x49 x50) (d5 : D 5 = true) (hc : Blk w g #[vf, vs, vk, .int .i64 gl] 26) (hK : Shut (∀ a' w', I6 g vf vs vk gl w0 fs ss n k t0 t2 t3 t4 t5 t7 t8 t9 t10 t11 t12 t13 t14 t15 t16 t17 t18 t19 t20 t21 t22 t23 t24 t25 t26 t27 t28 t29 t30 t31 t32 t33 t34 t51 t52 t53 t54 t55 t56 t57 t58 t59 t60 t61 t62 t63 t64 t65 t66 t67 t68 t69 t70 t71 t72 t73 t74 t75 t76 t77 t78 t79 t80 t81 t82 t83 t84 t85 t86 t87 t88 t89 t90 t91 t92 t93 t94 t95 t96 t97 t98 t99 t100 t101 t102 t103 (updD D 6) a' w' → K a' w')) :
    if Region.wanted { dst := some 41, op := Op.load 23 (Operand.tmp 40), type := 23, pos := "law.go:99", after := #[{ on := 5, ground := Ground.data }], guard := none } (yielded ops ({ tmps := #[t0, (.pointer (some ⟨g, 0, none⟩)), t2, t3, t4, t5, x6, t7, t8, t9, t10, t11, t12, t13, t14, t15, t16, t17, t18, t19, t20, t21, t22, t23, t24, t25, t26, t27, t28, t29, t30, t31, t32, t33, t34, x35, x36, x37, x38, x39, x40, x41, x42, x43, x44, x45, x46, x47, x48, x49, x50, t51, t52, t53, t54, t55, t56, t57, t58, t59, t60, t61, t62, t63, t64, t65, t66, t67, t68, t69, t70, t71, t72, t73, t74, t75, t76, t77, t78, t79, t80, t81, t82, t83, t84, t85, t86, t87, t88, t89, t90, t91, t92, t93, t94, t95, t96, t97, t98, t99, t100, t101, t102, t103], defers := [] } : Act).tmps) = true then Oper.wp Tryd.prog { dst := some 41, op := Op.load 23 (Operand.tmp 40), type := 23, pos := "law.go:99", after := #[{ on := 5, ground := Ground.data }], guard := none } ({ tmps := #[t0, (.pointer (some ⟨g, 0, none⟩)), t2, t3, t4, t5, x6, t7, t8, t9, t10, t11, t12, t13, t14, t15, t16, t17, t18, t19, t20, t21, t22, t23, t24, t25, t26, t27, t28, t29, t30, t31, t32, t33, t34, x35, x36, x37, x38, x39, x40, x41, x42, x43, x44, x45, x46, x47, x48, x49, x50, t51, t52, t53, t54, t55, t56, t57, t58, t59, t60, t61, t62, t63, t64, t65, t66, t67, t68, t69, t70, t71, t72, t73, t74, t75, t76, t77, t78, t79, t80, t81, t82, t83, t84, t85, t86, t87, t88, t89, t90, t91, t92, t93, t94, t95, t96, t97, t98, t99, t100, t101, t102, t103], defers := [] } : Act) w K Q else E := by
  have e5 := V.v40 d5
  subst e5
  have zu := hc.cell
  go_simp
  exact hK.out _ _ ⟨_, _, _, _, _, _, _, _, _, _, _, _, _, _, _, _, _, rfl, (J.pure 6 (by decide) (by decide) (by decide) (by decide) (by decide) (by decide) (by decide) (by decide)), V.s6⟩

set_option maxRecDepth 100000 in
theorem r6_7 (J : J6 38 9 26 w0 fs ss n k (.string { data := #[109, 111, 114, 101] }) vk (.int .i64 (gl + 1)) D x35 x38 x39 x42 x43 x44 x6 w) (V : V6 g vf vs vk gl D x36 x37 x38 x40 x41 x44 x45 x46 x47 x48 x49 x50) (d4 : D 4 = true) (d6 : D 6 = true) (hsl : Sl w (fun _ => True) vs k 1 ss) (h1 : ∀ u ∈ ss, u.oneCell' = true) (hk : k ≤ 1000000) (hD : D 7 = false) (hK : Shut (∀ a' w', I6 g vf vs vk gl w0 fs ss n k t0 t2 t3 t4 t5 t7 t8 t9 t10 t11 t12 t13 t14 t15 t16 t17 t18 t19 t20 t21 t22 t23 t24 t25 t26 t27 t28 t29 t30 t31 t32 t33 t34 t51 t52 t53 t54 t55 t56 t57 t58 t59 t60 t61 t62 t63 t64 t65 t66 t67 t68 t69 t70 t71 t72 t73 t74 t75 t76 t77 t78 t79 t80 t81 t82 t83 t84 t85 t86 t87 t88 t89 t90 t91 t92 t93 t94 t95 t96 t97 t98 t99 t100 t101 t102 t103 (updD D 7) a' w' → K a' w')) :
    if Region.wanted { dst := some 42, op := Op.call { callee := Callee.builtin Builtin.append, args := #[Operand.tmp 39, Operand.tmp 41], argTypes := #[23, 23] }, type := 23, pos := "law.go:99", after := #[{ on := 4, ground := Ground.data }, { on := 6, ground := Ground.data }, { on := 3, ground := Ground.chain }], guard := none } (yielded ops ({ tmps := #[t0, (.pointer (some ⟨g, 0, none⟩)), t2, t3, t4, t5, x6, t7, t8, t9, t10, t11, t12, t13, t14, t15, t16, t17, t18, t19, t20, t21, t22, t23, t24, t25, t26, t27, t28, t29, t30, t31, t32, t33, t34, x35, x36, x37, x38, x39, x40, x41, x42, x43, x44, x45, x46, x47, x48, x49, x50, t51, t52, t53, t54, t55, t56, t57, t58, t59, t60, t61, t62, t63, t64, t65, t66, t67, t68, t69, t70, t71, t72, t73, t74, t75, t76, t77, t78, t79, t80, t81, t82, t83, t84, t85, t86, t87, t88, t89, t90, t91, t92, t93, t94, t95, t96, t97, t98, t99, t100, t101, t102, t103], defers := [] } : Act).tmps) = true then Oper.wp Tryd.prog { dst := some 42, op := Op.call { callee := Callee.builtin Builtin.append, args := #[Operand.tmp 39, Operand.tmp 41], argTypes := #[23, 23] }, type := 23, pos := "law.go:99", after := #[{ on := 4, ground := Ground.data }, { on := 6, ground := Ground.data }, { on := 3, ground := Ground.chain }], guard := none } ({ tmps := #[t0, (.pointer (some ⟨g, 0, none⟩)), t2, t3, t4, t5, x6, t7, t8, t9, t10, t11, t12, t13, t14, t15, t16, t17, t18, t19, t20, t21, t22, t23, t24, t25, t26, t27, t28, t29, t30, t31, t32, t33, t34, x35, x36, x37, x38, x39, x40, x41, x42, x43, x44, x45, x46, x47, x48, x49, x50, t51, t52, t53, t54, t55, t56, t57, t58, t59, t60, t61, t62, t63, t64, t65, t66, t67, t68, t69, t70, t71, t72, t73, t74, t75, t76, t77, t78, t79, t80, t81, t82, t83, t84, t85, t86, t87, t88, t89, t90, t91, t92, t93, t94, t95, t96, t97, t98, t99, t100, t101, t102, t103], defers := [] } : Act) w K Q else E := by
  have e6 := V.v41 d6
  subst e6
  obtain ⟨i1, hi1, hz1, hs1, hy1⟩ := info_parts2 infoSt
  refine step_append_any (by rfl) (.tmp 39) (.tmp 41) 23 (by rfl) 9 i1 (.string { data := #[] }) 1 16 (by kernel_rfl) hi1 hz1 hs1 hy1 rfl (by decide) x39 0 [] (by rfl) (J.r39 d4 hD).1 x41 k ss (by rfl) hsl h1 (by unfold maxLen; omega) (by omega) ?_
  intro v' w' a1 a2 a3
  refine hK.out _ _ ?_
  try simp only [Act.put, List.setIfInBounds_toArray, List.set_cons_zero, List.set_cons_succ]
  exact ⟨x6, x35, x36, x37, x38, x39, x40, x41, v', x43, x44, x45, x46, x47, x48, x49, x50, rfl, J.s7 d4 hD (by decide) (by decide) (by simpa using a1) a2 a3, V.s7⟩

set_option maxRecDepth 100000 in
theorem r6_8 (J : J6 38 9 26 w0 fs ss n k (.string { data := #[109, 111, 114, 101] }) vk (.int .i64 (gl + 1)) D x35 x38 x39 x42 x43 x44 x6 w) (V : V6 g vf vs vk gl D x36 x37 x38 x40 x41 x44 x45 x46 x47 x48 x49 x50) (hK : Shut (∀ a' w', I6 g vf vs vk gl w0 fs ss n k t0 t2 t3 t4 t5 t7 t8 t9 t10 t11 t12 t13 t14 t15 t16 t17 t18 t19 t20 t21 t22 t23 t24 t25 t26 t27 t28 t29 t30 t31 t32 t33 t34 t51 t52 t53 t54 t55 t56 t57 t58 t59 t60 t61 t62 t63 t64 t65 t66 t67 t68 t69 t70 t71 t72 t73 t74 t75 t76 t77 t78 t79 t80 t81 t82 t83 t84 t85 t86 t87 t88 t89 t90 t91 t92 t93 t94 t95 t96 t97 t98 t99 t100 t101 t102 t103 (updD D 8) a' w' → K a' w')) :
    if Region.wanted { dst := some 43, op := Op.buildSlice 23 1 #[(0, Operand.const (Value.string { data := #[109, 111, 114, 101] }))], type := 23, pos := "law.go:99", after := #[], guard := none } (yielded ops ({ tmps := #[t0, (.pointer (some ⟨g, 0, none⟩)), t2, t3, t4, t5, x6, t7, t8, t9, t10, t11, t12, t13, t14, t15, t16, t17, t18, t19, t20, t21, t22, t23, t24, t25, t26, t27, t28, t29, t30, t31, t32, t33, t34, x35, x36, x37, x38, x39, x40, x41, x42, x43, x44, x45, x46, x47, x48, x49, x50, t51, t52, t53, t54, t55, t56, t57, t58, t59, t60, t61, t62, t63, t64, t65, t66, t67, t68, t69, t70, t71, t72, t73, t74, t75, t76, t77, t78, t79, t80, t81, t82, t83, t84, t85, t86, t87, t88, t89, t90, t91, t92, t93, t94, t95, t96, t97, t98, t99, t100, t101, t102, t103], defers := [] } : Act).tmps) = true then Oper.wp Tryd.prog { dst := some 43, op := Op.buildSlice 23 1 #[(0, Operand.const (Value.string { data := #[109, 111, 114, 101] }))], type := 23, pos := "law.go:99", after := #[], guard := none } ({ tmps := #[t0, (.pointer (some ⟨g, 0, none⟩)), t2, t3, t4, t5, x6, t7, t8, t9, t10, t11, t12, t13, t14, t15, t16, t17, t18, t19, t20, t21, t22, t23, t24, t25, t26, t27, t28, t29, t30, t31, t32, t33, t34, x35, x36, x37, x38, x39, x40, x41, x42, x43, x44, x45, x46, x47, x48, x49, x50, t51, t52, t53, t54, t55, t56, t57, t58, t59, t60, t61, t62, t63, t64, t65, t66, t67, t68, t69, t70, t71, t72, t73, t74, t75, t76, t77, t78, t79, t80, t81, t82, t83, t84, t85, t86, t87, t88, t89, t90, t91, t92, t93, t94, t95, t96, t97, t98, t99, t100, t101, t102, t103], defers := [] } : Act) w K Q else E := by
  go_simp
  exact hK.out _ _ ⟨_, _, _, _, _, _, _, _, _, _, _, _, _, _, _, _, _, rfl, J.s8, V.s8⟩

set_option maxRecDepth 100000 in
theorem r6_9 (J : J6 38 9 26 w0 fs ss n k (.string { data := #[109, 111, 114, 101] }) vk (.int .i64 (gl + 1)) D x35 x38 x39 x42 x43 x44 x6 w) (V : V6 g vf vs vk gl D x36 x37 x38 x40 x41 x44 x45 x46 x47 x48 x49 x50) (d7 : D 7 = true) (d8 : D 8 = true) (hk : k ≤ 1000000) (hD : D 9 = false) (hK : Shut (∀ a' w', I6 g vf vs vk gl w0 fs ss n k t0 t2 t3 t4 t5 t7 t8 t9 t10 t11 t12 t13 t14 t15 t16 t17 t18 t19 t20 t21 t22 t23 t24 t25 t26 t27 t28 t29 t30 t31 t32 t33 t34 t51 t52 t53 t54 t55 t56 t57 t58 t59 t60 t61 t62 t63 t64 t65 t66 t67 t68 t69 t70 t71 t72 t73 t74 t75 t76 t77 t78 t79 t80 t81 t82 t83 t84 t85 t86 t87 t88 t89 t90 t91 t92 t93 t94 t95 t96 t97 t98 t99 t100 t101 t102 t103 (updD D 9) a' w' → K a' w')) :
    if Region.wanted { dst := some 44, op := Op.call { callee := Callee.builtin Builtin.append, args := #[Operand.tmp 42, Operand.tmp 43], argTypes := #[23, 23] }, type := 23, pos := "law.go:99", after := #[{ on := 7, ground := Ground.data }, { on := 8, ground := Ground.data }, { on := 7, ground := Ground.chain }], guard := none } (yielded ops ({ tmps := #[t0, (.pointer (some ⟨g, 0, none⟩)), t2, t3, t4, t5, x6, t7, t8, t9, t10, t11, t12, t13, t14, t15, t16, t17, t18, t19, t20, t21, t22, t23, t24, t25, t26, t27, t28, t29, t30, t31, t32, t33, t34, x35, x36, x37, x38, x39, x40, x41, x42, x43, x44, x45, x46, x47, x48, x49, x50, t51, t52, t53, t54, t55, t56, t57, t58, t59, t60, t61, t62, t63, t64, t65, t66, t67, t68, t69, t70, t71, t72, t73, t74, t75, t76, t77, t78, t79, t80, t81, t82, t83, t84, t85, t86, t87, t88, t89, t90, t91, t92, t93, t94, t95, t96, t97, t98, t99, t100, t101, t102, t103], defers := [] } : Act).tmps) = true then Oper.wp Tryd.prog { dst := some 44, op := Op.call { callee := Callee.builtin Builtin.append, args := #[Operand.tmp 42, Operand.tmp 43], argTypes := #[23, 23] }, type := 23, pos := "law.go:99", after := #[{ on := 7, ground := Ground.data }, { on := 8, ground := Ground.data }, { on := 7, ground := Ground.chain }], guard := none } ({ tmps := #[t0, (.pointer (some ⟨g, 0, none⟩)), t2, t3, t4, t5, x6, t7, t8, t9, t10, t11, t12, t13, t14, t15, t16, t17, t18, t19, t20, t21, t22, t23, t24, t25, t26, t27, t28, t29, t30, t31, t32, t33, t34, x35, x36, x37, x38, x39, x40, x41, x42, x43, x44, x45, x46, x47, x48, x49, x50, t51, t52, t53, t54, t55, t56, t57, t58, t59, t60, t61, t62, t63, t64, t65, t66, t67, t68, t69, t70, t71, t72, t73, t74, t75, t76, t77, t78, t79, t80, t81, t82, t83, t84, t85, t86, t87, t88, t89, t90, t91, t92, t93, t94, t95, t96, t97, t98, t99, t100, t101, t102, t103], defers := [] } : Act) w K Q else E := by
  obtain ⟨i1, hi1, hz1, hs1, hy1⟩ := info_parts2 infoSt
  refine step_append_any (by rfl) (.tmp 42) (.tmp 43) 23 (by rfl) 9 i1 (.string { data := #[] }) 1 16 (by kernel_rfl) hi1 hz1 hs1 hy1 rfl (by decide) x42 k ss (by rfl) (J.r42 d7 hD).1 x43 1 [(.string { data := #[109, 111, 114, 101] })] (by rfl) (J.r43 d8 hD).sl (fun u hu => by rw [List.mem_singleton.1 hu]; rfl) (by unfold maxLen; omega) (by omega) ?_
  intro v' w' a1 a2 a3
  refine hK.out _ _ ?_
  try simp only [Act.put, List.setIfInBounds_toArray, List.set_cons_zero, List.set_cons_succ]
  exact ⟨x6, x35, x36, x37, x38, x39, x40, x41, x42, x43, v', x45, x46, x47, x48, x49, x50, rfl, J.s9 d7 hD (by decide) (by decide) (by simpa using a1) a2 a3, V.s9 hD _⟩

set_option maxRecDepth 100000 in
theorem r6_10 (J : J6 38 9 26 w0 fs ss n k (.string { data := #[109, 111, 114, 101] }) vk (.int .i64 (gl + 1)) D x35 x38 x39 x42 x43 x44 x6 w) (V : V6 g vf vs vk gl D x36 x37 x38 x40 x41 x44 x45 x46 x47 x48 x49 x50) (hK : Shut (∀ a' w', I6 g vf vs vk gl w0 fs ss n k t0 t2 t3 t4 t5 t7 t8 t9 t10 t11 t12 t13 t14 t15 t16 t17 t18 t19 t20 t21 t22 t23 t24 t25 t26 t27 t28 t29 t30 t31 t32 t33 t34 t51 t52 t53 t54 t55 t56 t57 t58 t59 t60 t61 t62 t63 t64 t65 t66 t67 t68 t69 t70 t71 t72 t73 t74 t75 t76 t77 t78 t79 t80 t81 t82 t83 t84 t85 t86 t87 t88 t89 t90 t91 t92 t93 t94 t95 t96 t97 t98 t99 t100 t101 t102 t103 (updD D 10) a' w' → K a' w')) :
    if Region.wanted { dst := some 45, op := Op.fieldAddr 26 (Operand.tmp 1) 2, type := 0, pos := "law.go:99", after := #[], guard := none } (yielded ops ({ tmps := #[t0, (.pointer (some ⟨g, 0, none⟩)), t2, t3, t4, t5, x6, t7, t8, t9, t10, t11, t12, t13, t14, t15, t16, t17, t18, t19, t20, t21, t22, t23, t24, t25, t26, t27, t28, t29, t30, t31, t32, t33, t34, x35, x36, x37, x38, x39, x40, x41, x42, x43, x44, x45, x46, x47, x48, x49, x50, t51, t52, t53, t54, t55, t56, t57, t58, t59, t60, t61, t62, t63, t64, t65, t66, t67, t68, t69, t70, t71, t72, t73, t74, t75, t76, t77, t78, t79, t80, t81, t82, t83, t84, t85, t86, t87, t88, t89, t90, t91, t92, t93, t94, t95, t96, t97, t98, t99, t100, t101, t102, t103], defers := [] } : Act).tmps) = true then Oper.wp Tryd.prog { dst := some 45, op := Op.fieldAddr 26 (Operand.tmp 1) 2, type := 0, pos := "law.go:99", after := #[], guard := none } ({ tmps := #[t0, (.pointer (some ⟨g, 0, none⟩)), t2, t3, t4, t5, x6, t7, t8, t9, t10, t11, t12, t13, t14, t15, t16, t17, t18, t19, t20, t21, t22, t23, t24, t25, t26, t27, t28, t29, t30, t31, t32, t33, t34, x35, x36, x37, x38, x39, x40, x41, x42, x43, x44, x45, x46, x47, x48, x49, x50, t51, t52, t53, t54, t55, t56, t57, t58, t59, t60, t61, t62, t63, t64, t65, t66, t67, t68, t69, t70, t71, t72, t73, t74, t75, t76, t77, t78, t79, t80, t81, t82, t83, t84, t85, t86, t87, t88, t89, t90, t91, t92, t93, t94, t95, t96, t97, t98, t99, t100, t101, t102, t103], defers := [] } : Act) w K Q else E := by
  go_simp
  exact hK.out _ _ ⟨_, _, _, _, _, _, _, _, _, _, _, _, _, _, _, _, _, rfl, (J.pure 10 (by decide) (by decide) (by decide) (by decide) (by decide) (by decide) (by decide) (by decide)), V.s10⟩

set_option maxRecDepth 100000 in
theorem r6_11 (J : J6 38 9 26 w0 fs ss n k (.string { data := #[109, 111, 114, 101] }) vk (.int .i64 (gl + 1)) D x35 x38 x39 x42 x43 x44 x6 w) (V : V6 g vf vs vk gl D x36 x37 x38 x40 x41 x44 x45 x46 x47 x48 x49 x50) (d10 : D 10 = true) (hc : Blk w g #[vf, vs, vk, .int .i64 gl] 26) (hK : Shut (∀ a' w', I6 g vf vs vk gl w0 fs ss n k t0 t2 t3 t4 t5 t7 t8 t9 t10 t11 t12 t13 t14 t15 t16 t17 t18 t19 t20 t21 t22 t23 t24 t25 t26 t27 t28 t29 t30 t31 t32 t33 t34 t51 t52 t53 t54 t55 t56 t57 t58 t59 t60 t61 t62 t63 t64 t65 t66 t67 t68 t69 t70 t71 t72 t73 t74 t75 t76 t77 t78 t79 t80 t81 t82 t83 t84 t85 t86 t87 t88 t89 t90 t91 t92 t93 t94 t95 t96 t97 t98 t99 t100 t101 t102 t103 (updD D 11) a' w' → K a' w')) :
    if Region.wanted { dst := some 46, op := Op.load 24 (Operand.tmp 45), type := 24, pos := "law.go:99", after := #[{ on := 10, ground := Ground.data }], guard := none } (yielded ops ({ tmps := #[t0, (.pointer (some ⟨g, 0, none⟩)), t2, t3, t4, t5, x6, t7, t8, t9, t10, t11, t12, t13, t14, t15, t16, t17, t18, t19, t20, t21, t22, t23, t24, t25, t26, t27, t28, t29, t30, t31, t32, t33, t34, x35, x36, x37, x38, x39, x40, x41, x42, x43, x44, x45, x46, x47, x48, x49, x50, t51, t52, t53, t54, t55, t56, t57, t58, t59, t60, t61, t62, t63, t64, t65, t66, t67, t68, t69, t70, t71, t72, t73, t74, t75, t76, t77, t78, t79, t80, t81, t82, t83, t84, t85, t86, t87, t88, t89, t90, t91, t92, t93, t94, t95, t96, t97, t98, t99, t100, t101, t102, t103], defers := [] } : Act).tmps) = true then Oper.wp Tryd.prog { dst := some 46, op := Op.load 24 (Operand.tmp 45), type := 24, pos := "law.go:99", after := #[{ on := 10, ground := Ground.data }], guard := none } ({ tmps := #[t0, (.pointer (some ⟨g, 0, none⟩)), t2, t3, t4, t5, x6, t7, t8, t9, t10, t11, t12, t13, t14, t15, t16, t17, t18, t19, t20, t21, t22, t23, t24, t25, t26, t27, t28, t29, t30, t31, t32, t33, t34, x35, x36, x37, x38, x39, x40, x41, x42, x43, x44, x45, x46, x47, x48, x49, x50, t51, t52, t53, t54, t55, t56, t57, t58, t59, t60, t61, t62, t63, t64, t65, t66, t67, t68, t69, t70, t71, t72, t73, t74, t75, t76, t77, t78, t79, t80, t81, t82, t83, t84, t85, t86, t87, t88, t89, t90, t91, t92, t93, t94, t95, t96, t97, t98, t99, t100, t101, t102, t103], defers := [] } : Act) w K Q else E := by
  have e10 := V.v45 d10
  subst e10
  have zu := hc.cell
  go_simp
  exact hK.out _ _ ⟨_, _, _, _, _, _, _, _, _, _, _, _, _, _, _, _, _, rfl, (J.pure 11 (by decide) (by decide) (by decide) (by decide) (by decide) (by decide) (by decide) (by decide)), V.s11⟩

set_option maxRecDepth 100000 in
theorem r6_12 (J : J6 38 9 26 w0 fs ss n k (.string { data := #[109, 111, 114, 101] }) vk (.int .i64 (gl + 1)) D x35 x38 x39 x42 x43 x44 x6 w) (V : V6 g vf vs vk gl D x36 x37 x38 x40 x41 x44 x45 x46 x47 x48 x49 x50) (hK : Shut (∀ a' w', I6 g vf vs vk gl w0 fs ss n k t0 t2 t3 t4 t5 t7 t8 t9 t10 t11 t12 t13 t14 t15 t16 t17 t18 t19 t20 t21 t22 t23 t24 t25 t26 t27 t28 t29 t30 t31 t32 t33 t34 t51 t52 t53 t54 t55 t56 t57 t58 t59 t60 t61 t62 t63 t64 t65 t66 t67 t68 t69 t70 t71 t72 t73 t74 t75 t76 t77 t78 t79 t80 t81 t82 t83 t84 t85 t86 t87 t88 t89 t90 t91 t92 t93 t94 t95 t96 t97 t98 t99 t100 t101 t102 t103 (updD D 12) a' w' → K a' w')) :
    if Region.wanted { dst := some 47, op := Op.fieldAddr 26 (Operand.tmp 1) 3, type := 0, pos := "law.go:99", after := #[], guard := none } (yielded ops ({ tmps := #[t0, (.pointer (some ⟨g, 0, none⟩)), t2, t3, t4, t5, x6, t7, t8, t9, t10, t11, t12, t13, t14, t15, t16, t17, t18, t19, t20, t21, t22, t23, t24, t25, t26, t27, t28, t29, t30, t31, t32, t33, t34, x35, x36, x37, x38, x39, x40, x41, x42, x43, x44, x45, x46, x47, x48, x49, x50, t51, t52, t53, t54, t55, t56, t57, t58, t59, t60, t61, t62, t63, t64, t65, t66, t67, t68, t69, t70, t71, t72, t73, t74, t75, t76, t77, t78, t79, t80, t81, t82, t83, t84, t85, t86, t87, t88, t89, t90, t91, t92, t93, t94, t95, t96, t97, t98, t99, t100, t101, t102, t103], defers := [] } : Act).tmps) = true then Oper.wp Tryd.prog { dst := some 47, op := Op.fieldAddr 26 (Operand.tmp 1) 3, type := 0, pos := "law.go:99", after := #[], guard := none } ({ tmps := #[t0, (.pointer (some ⟨g, 0, none⟩)), t2, t3, t4, t5, x6, t7, t8, t9, t10, t11, t12, t13, t14, t15, t16, t17, t18, t19, t20, t21, t22, t23, t24, t25, t26, t27, t28, t29, t30, t31, t32, t33, t34, x35, x36, x37, x38, x39, x40, x41, x42, x43, x44, x45, x46, x47, x48, x49, x50, t51, t52, t53, t54, t55, t56, t57, t58, t59, t60, t61, t62, t63, t64, t65, t66, t67, t68, t69, t70, t71, t72, t73, t74, t75, t76, t77, t78, t79, t80, t81, t82, t83, t84, t85, t86, t87, t88, t89, t90, t91, t92, t93, t94, t95, t96, t97, t98, t99, t100, t101, t102, t103], defers := [] } : Act) w K Q else E := by
  go_simp
  exact hK.out _ _ ⟨_, _, _, _, _, _, _, _, _, _, _, _, _, _, _, _, _, rfl, (J.pure 12 (by decide) (by decide) (by decide) (by decide) (by decide) (by decide) (by decide) (by decide)), V.s12⟩

set_option maxRecDepth 100000 in
theorem r6_13 (J : J6 38 9 26 w0 fs ss n k (.string { data := #[109, 111, 114, 101] }) vk (.int .i64 (gl + 1)) D x35 x38 x39 x42 x43 x44 x6 w) (V : V6 g vf vs vk gl D x36 x37 x38 x40 x41 x44 x45 x46 x47 x48 x49 x50) (d12 : D 12 = true) (hc : Blk w g #[vf, vs, vk, .int .i64 gl] 26) (hK : Shut (∀ a' w', I6 g vf vs vk gl w0 fs ss n k t0 t2 t3 t4 t5 t7 t8 t9 t10 t11 t12 t13 t14 t15 t16 t17 t18 t19 t20 t21 t22 t23 t24 t25 t26 t27 t28 t29 t30 t31 t32 t33 t34 t51 t52 t53 t54 t55 t56 t57 t58 t59 t60 t61 t62 t63 t64 t65 t66 t67 t68 t69 t70 t71 t72 t73 t74 t75 t76 t77 t78 t79 t80 t81 t82 t83 t84 t85 t86 t87 t88 t89 t90 t91 t92 t93 t94 t95 t96 t97 t98 t99 t100 t101 t102 t103 (updD D 13) a' w' → K a' w')) :
    if Region.wanted { dst := some 48, op := Op.load 3 (Operand.tmp 47), type := 3, pos := "law.go:99", after := #[{ on := 12, ground := Ground.data }], guard := none } (yielded ops ({ tmps := #[t0, (.pointer (some ⟨g, 0, none⟩)), t2, t3, t4, t5, x6, t7, t8, t9, t10, t11, t12, t13, t14, t15, t16, t17, t18, t19, t20, t21, t22, t23, t24, t25, t26, t27, t28, t29, t30, t31, t32, t33, t34, x35, x36, x37, x38, x39, x40, x41, x42, x43, x44, x45, x46, x47, x48, x49, x50, t51, t52, t53, t54, t55, t56, t57, t58, t59, t60, t61, t62, t63, t64, t65, t66, t67, t68, t69, t70, t71, t72, t73, t74, t75, t76, t77, t78, t79, t80, t81, t82, t83, t84, t85, t86, t87, t88, t89, t90, t91, t92, t93, t94, t95, t96, t97, t98, t99, t100, t101, t102, t103], defers := [] } : Act).tmps) = true then Oper.wp Tryd.prog { dst := some 48, op := Op.load 3 (Operand.tmp 47), type := 3, pos := "law.go:99", after := #[{ on := 12, ground := Ground.data }], guard := none } ({ tmps := #[t0, (.pointer (some ⟨g, 0, none⟩)), t2, t3, t4, t5, x6, t7, t8, t9, t10, t11, t12, t13, t14, t15, t16, t17, t18, t19, t20, t21, t22, t23, t24, t25, t26, t27, t28, t29, t30, t31, t32, t33, t34, x35, x36, x37, x38, x39, x40, x41, x42, x43, x44, x45, x46, x47, x48, x49, x50, t51, t52, t53, t54, t55, t56, t57, t58, t59, t60, t61, t62, t63, t64, t65, t66, t67, t68, t69, t70, t71, t72, t73, t74, t75, t76, t77, t78, t79, t80, t81, t82, t83, t84, t85, t86, t87, t88, t89, t90, t91, t92, t93, t94, t95, t96, t97, t98, t99, t100, t101, t102, t103], defers := [] } : Act) w K Q else E := by
  have e12 := V.v47 d12
  subst e12
  have zu := hc.cell
  go_simp
  exact hK.out _ _ ⟨_, _, _, _, _, _, _, _, _, _, _, _, _, _, _, _, _, rfl, (J.pure 13 (by decide) (by decide) (by decide) (by decide) (by decide) (by decide) (by decide) (by decide)), V.s13⟩

set_option maxRecDepth 100000 in
theorem r6_14 (J : J6 38 9 26 w0 fs ss n k (.string { data := #[109, 111, 114, 101] }) vk (.int .i64 (gl + 1)) D x35 x38 x39 x42 x43 x44 x6 w) (V : V6 g vf vs vk gl D x36 x37 x38 x40 x41 x44 x45 x46 x47 x48 x49 x50) (d13 : D 13 = true) (hgl : -9223372036854775808 ≤ gl ∧ gl ≤ 1000) (hK : Shut (∀ a' w', I6 g vf vs vk gl w0 fs ss n k t0 t2 t3 t4 t5 t7 t8 t9 t10 t11 t12 t13 t14 t15 t16 t17 t18 t19 t20 t21 t22 t23 t24 t25 t26 t27 t28 t29 t30 t31 t32 t33 t34 t51 t52 t53 t54 t55 t56 t57 t58 t59 t60 t61 t62 t63 t64 t65 t66 t67 t68 t69 t70 t71 t72 t73 t74 t75 t76 t77 t78 t79 t80 t81 t82 t83 t84 t85 t86 t87 t88 t89 t90 t91 t92 t93 t94 t95 t96 t97 t98 t99 t100 t101 t102 t103 (updD D 14) a' w' → K a' w')) :
    if Region.wanted { dst := some 49, op := Op.binOp BinOp.add 3 (Operand.tmp 48) (Operand.const (Value.int IntKind.i64 1)) 3, type := 3, pos := "law.go:99", after := #[{ on := 13, ground := Ground.data }], guard := none } (yielded ops ({ tmps := #[t0, (.pointer (some ⟨g, 0, none⟩)), t2, t3, t4, t5, x6, t7, t8, t9, t10, t11, t12, t13, t14, t15, t16, t17, t18, t19, t20, t21, t22, t23, t24, t25, t26, t27, t28, t29, t30, t31, t32, t33, t34, x35, x36, x37, x38, x39, x40, x41, x42, x43, x44, x45, x46, x47, x48, x49, x50, t51, t52, t53, t54, t55, t56, t57, t58, t59, t60, t61, t62, t63, t64, t65, t66, t67, t68, t69, t70, t71, t72, t73, t74, t75, t76, t77, t78, t79, t80, t81, t82, t83, t84, t85, t86, t87, t88, t89, t90, t91, t92, t93, t94, t95, t96, t97, t98, t99, t100, t101, t102, t103], defers := [] } : Act).tmps) = true then Oper.wp Tryd.prog { dst := some 49, op := Op.binOp BinOp.add 3 (Operand.tmp 48) (Operand.const (Value.int IntKind.i64 1)) 3, type := 3, pos := "law.go:99", after := #[{ on := 13, ground := Ground.data }], guard := none } ({ tmps := #[t0, (.pointer (some ⟨g, 0, none⟩)), t2, t3, t4, t5, x6, t7, t8, t9, t10, t11, t12, t13, t14, t15, t16, t17, t18, t19, t20, t21, t22, t23, t24, t25, t26, t27, t28, t29, t30, t31, t32, t33, t34, x35, x36, x37, x38, x39, x40, x41, x42, x43, x44, x45, x46, x47, x48, x49, x50, t51, t52, t53, t54, t55, t56, t57, t58, t59, t60, t61, t62, t63, t64, t65, t66, t67, t68, t69, t70, t71, t72, t73, t74, t75, t76, t77, t78, t79, t80, t81, t82, t83, t84, t85, t86, t87, t88, t89, t90, t91, t92, t93, t94, t95, t96, t97, t98, t99, t100, t101, t102, t103], defers := [] } : Act) w K Q else E := by
  have e13 := V.v48 d13
  subst e13
  go_simp
  try rw [show IntKind.i64.wrap (gl + 1) = gl + 1 from IntWalk.i64_in _ (by omega)]
  exact hK.out _ _ ⟨_, _, _, _, _, _, _, _, _, _, _, _, _, _, _, _, _, rfl, (J.pure 14 (by decide) (by decide) (by decide) (by decide) (by decide) (by decide) (by decide) (by decide)), V.s14⟩

set_option maxRecDepth 100000 in
theorem r6_15 (J : J6 38 9 26 w0 fs ss n k (.string { data := #[109, 111, 114, 101] }) vk (.int .i64 (gl + 1)) D x35 x38 x39 x42 x43 x44 x6 w) (V : V6 g vf vs vk gl D x36 x37 x38 x40 x41 x44 x45 x46 x47 x48 x49 x50) (d3 : D 3 = true) (d9 : D 9 = true) (d11 : D 11 = true) (d14 : D 14 = true) (hvk : ∃ a b c, vk = .slice a b c) (hK : Shut (∀ a' w', I6 g vf vs vk gl w0 fs ss n k t0 t2 t3 t4 t5 t7 t8 t9 t10 t11 t12 t13 t14 t15 t16 t17 t18 t19 t20 t21 t22 t23 t24 t25 t26 t27 t28 t29 t30 t31 t32 t33 t34 t51 t52 t53 t54 t55 t56 t57 t58 t59 t60 t61 t62 t63 t64 t65 t66 t67 t68 t69 t70 t71 t72 t73 t74 t75 t76 t77 t78 t79 t80 t81 t82 t83 t84 t85 t86 t87 t88 t89 t90 t91 t92 t93 t94 t95 t96 t97 t98 t99 t100 t101 t102 t103 (updD D 15) a' w' → K a' w')) :
    if Region.wanted { dst := some 50, op := Op.build 26 #[(0, Operand.tmp 38), (1, Operand.tmp 44), (2, Operand.tmp 46), (3, Operand.tmp 49)], type := 26, pos := "law.go:99", after := #[{ on := 3, ground := Ground.data }, { on := 9, ground := Ground.data }, { on := 11, ground := Ground.data }, { on := 14, ground := Ground.data }], guard := none } (yielded ops ({ tmps := #[t0, (.pointer (some ⟨g, 0, none⟩)), t2, t3, t4, t5, x6, t7, t8, t9, t10, t11, t12, t13, t14, t15, t16, t17, t18, t19, t20, t21, t22, t23, t24, t25, t26, t27, t28, t29, t30, t31, t32, t33, t34, x35, x36, x37, x38, x39, x40, x41, x42, x43, x44, x45, x46, x47, x48, x49, x50, t51, t52, t53, t54, t55, t56, t57, t58, t59, t60, t61, t62, t63, t64, t65, t66, t67, t68, t69, t70, t71, t72, t73, t74, t75, t76, t77, t78, t79, t80, t81, t82, t83, t84, t85, t86, t87, t88, t89, t90, t91, t92, t93, t94, t95, t96, t97, t98, t99, t100, t101, t102, t103], defers := [] } : Act).tmps) = true then Oper.wp Tryd.prog { dst := some 50, op := Op.build 26 #[(0, Operand.tmp 38), (1, Operand.tmp 44), (2, Operand.tmp 46), (3, Operand.tmp 49)], type := 26, pos := "law.go:99", after := #[{ on := 3, ground := Ground.data }, { on := 9, ground := Ground.data }, { on := 11, ground := Ground.data }, { on := 14, ground := Ground.data }], guard := none } ({ tmps := #[t0, (.pointer (some ⟨g, 0, none⟩)), t2, t3, t4, t5, x6, t7, t8, t9, t10, t11, t12, t13, t14, t15, t16, t17, t18, t19, t20, t21, t22, t23, t24, t25, t26, t27, t28, t29, t30, t31, t32, t33, t34, x35, x36, x37, x38, x39, x40, x41, x42, x43, x44, x45, x46, x47, x48, x49, x50, t51, t52, t53, t54, t55, t56, t57, t58, t59, t60, t61, t62, t63, t64, t65, t66, t67, t68, t69, t70, t71, t72, t73, t74, t75, t76, t77, t78, t79, t80, t81, t82, t83, t84, t85, t86, t87, t88, t89, t90, t91, t92, t93, t94, t95, t96, t97, t98, t99, t100, t101, t102, t103], defers := [] } : Act) w K Q else E := by
  obtain ⟨ka, kb, kc, rfl⟩ := hvk
  obtain ⟨fa, fc, e38⟩ := (J.r38 d3).form
  obtain ⟨sa, sc, e44⟩ := (J.r44 d9).form
  subst e38 e44
  have e11 := V.v46 d11
  subst e11
  have e14 := V.v49 d14
  subst e14
  go_simp
  exact hK.out _ _ ⟨_, _, _, _, _, _, _, _, _, _, _, _, _, _, _, _, _, rfl, (J.pure 15 (by decide) (by decide) (by decide) (by decide) (by decide) (by decide) (by decide) (by decide)), (V.s15 d3 d9)⟩

set_option maxRecDepth 100000 in
theorem r6_16 (J : J6 38 9 26 w0 fs ss n k (.string { data := #[109, 111, 114, 101] }) vk (.int .i64 (gl + 1)) D x35 x38 x39 x42 x43 x44 x6 w) (V : V6 g vf vs vk gl D x36 x37 x38 x40 x41 x44 x45 x46 x47 x48 x49 x50) (hD : D 16 = false) (hK : Shut (∀ a' w', I6 g vf vs vk gl w0 fs ss n k t0 t2 t3 t4 t5 t7 t8 t9 t10 t11 t12 t13 t14 t15 t16 t17 t18 t19 t20 t21 t22 t23 t24 t25 t26 t27 t28 t29 t30 t31 t32 t33 t34 t51 t52 t53 t54 t55 t56 t57 t58 t59 t60 t61 t62 t63 t64 t65 t66 t67 t68 t69 t70 t71 t72 t73 t74 t75 t76 t77 t78 t79 t80 t81 t82 t83 t84 t85 t86 t87 t88 t89 t90 t91 t92 t93 t94 t95 t96 t97 t98 t99 t100 t101 t102 t103 (updD D 16) a' w' → K a' w')) :
    if Region.wanted { dst := some 6, op := Op.alloc 26, type := 0, pos := "law.go:99", after := #[], guard := none } (yielded ops ({ tmps := #[t0, (.pointer (some ⟨g, 0, none⟩)), t2, t3, t4, t5, x6, t7, t8, t9, t10, t11, t12, t13, t14, t15, t16, t17, t18, t19, t20, t21, t22, t23, t24, t25, t26, t27, t28, t29, t30, t31, t32, t33, t34, x35, x36, x37, x38, x39, x40, x41, x42, x43, x44, x45, x46, x47, x48, x49, x50, t51, t52, t53, t54, t55, t56, t57, t58, t59, t60, t61, t62, t63, t64, t65, t66, t67, t68, t69, t70, t71, t72, t73, t74, t75, t76, t77, t78, t79, t80, t81, t82, t83, t84, t85, t86, t87, t88, t89, t90, t91, t92, t93, t94, t95, t96, t97, t98, t99, t100, t101, t102, t103], defers := [] } : Act).tmps) = true then Oper.wp Tryd.prog { dst := some 6, op := Op.alloc 26, type := 0, pos := "law.go:99", after := #[], guard := none } ({ tmps := #[t0, (.pointer (some ⟨g, 0, none⟩)), t2, t3, t4, t5, x6, t7, t8, t9, t10, t11, t12, t13, t14, t15, t16, t17, t18, t19, t20, t21, t22, t23, t24, t25, t26, t27, t28, t29, t30, t31, t32, t33, t34, x35, x36, x37, x38, x39, x40, x41, x42, x43, x44, x45, x46, x47, x48, x49, x50, t51, t52, t53, t54, t55, t56, t57, t58, t59, t60, t61, t62, t63, t64, t65, t66, t67, t68, t69, t70, t71, t72, t73, t74, t75, t76, t77, t78, t79, t80, t81, t82, t83, t84, t85, t86, t87, t88, t89, t90, t91, t92, t93, t94, t95, t96, t97, t98, t99, t100, t101, t102, t103], defers := [] } : Act) w K Q else E := by
  go_simp
  exact hK.out _ _ ⟨_, _, _, _, _, _, _, _, _, _, _, _, _, _, _, _, _, rfl, J.s16 hD _ rfl, V.s16⟩

set_option maxRecDepth 100000 in
theorem r6_17 (J : J6 38 9 26 w0 fs ss n k (.string { data := #[109, 111, 114, 101] }) vk (.int .i64 (gl + 1)) D x35 x38 x39 x42 x43 x44 x6 w) (V : V6 g vf vs vk gl D x36 x37 x38 x40 x41 x44 x45 x46 x47 x48 x49 x50) (d3 : D 3 = true) (d9 : D 9 = true) (d15 : D 15 = true) (d16 : D 16 = true) (d17 : D 17 = false) (hvk : ∃ a b c, vk = .slice a b c) (hK : Shut (∀ a' w', I6 g vf vs vk gl w0 fs ss n k t0 t2 t3 t4 t5 t7 t8 t9 t10 t11 t12 t13 t14 t15 t16 t17 t18 t19 t20 t21 t22 t23 t24 t25 t26 t27 t28 t29 t30 t31 t32 t33 t34 t51 t52 t53 t54 t55 t56 t57 t58 t59 t60 t61 t62 t63 t64 t65 t66 t67 t68 t69 t70 t71 t72 t73 t74 t75 t76 t77 t78 t79 t80 t81 t82 t83 t84 t85 t86 t87 t88 t89 t90 t91 t92 t93 t94 t95 t96 t97 t98 t99 t100 t101 t102 t103 (updD D 17) a' w' → K a' w')) :
    if Region.wanted { dst := none, op := Op.store 26 (Operand.tmp 6) (Operand.tmp 50), type := 0, pos := "law.go:99", after := #[{ on := 16, ground := Ground.data }, { on := 15, ground := Ground.data }, { on := 9, ground := Ground.chain }, { on := 0, ground := Ground.phase }, { on := 1, ground := Ground.phase }, { on := 2, ground := Ground.phase }, { on := 3, ground := Ground.phase }, { on := 4, ground := Ground.phase }, { on := 5, ground := Ground.phase }, { on := 6, ground := Ground.phase }, { on := 7, ground := Ground.phase }, { on := 8, ground := Ground.phase }, { on := 9, ground := Ground.phase }, { on := 10, ground := Ground.phase }, { on := 11, ground := Ground.phase }, { on := 12, ground := Ground.phase }, { on := 13, ground := Ground.phase }, { on := 14, ground := Ground.phase }, { on := 15, ground := Ground.phase }, { on := 16, ground := Ground.phase }], guard := none } (yielded ops ({ tmps := #[t0, (.pointer (some ⟨g, 0, none⟩)), t2, t3, t4, t5, x6, t7, t8, t9, t10, t11, t12, t13, t14, t15, t16, t17, t18, t19, t20, t21, t22, t23, t24, t25, t26, t27, t28, t29, t30, t31, t32, t33, t34, x35, x36, x37, x38, x39, x40, x41, x42, x43, x44, x45, x46, x47, x48, x49, x50, t51, t52, t53, t54, t55, t56, t57, t58, t59, t60, t61, t62, t63, t64, t65, t66, t67, t68, t69, t70, t71, t72, t73, t74, t75, t76, t77, t78, t79, t80, t81, t82, t83, t84, t85, t86, t87, t88, t89, t90, t91, t92, t93, t94, t95, t96, t97, t98, t99, t100, t101, t102, t103], defers := [] } : Act).tmps) = true then Oper.wp Tryd.prog { dst := none, op := Op.store 26 (Operand.tmp 6) (Operand.tmp 50), type := 0, pos := "law.go:99", after := #[{ on := 16, ground := Ground.data }, { on := 15, ground := Ground.data }, { on := 9, ground := Ground.chain }, { on := 0, ground := Ground.phase }, { on := 1, ground := Ground.phase }, { on := 2, ground := Ground.phase }, { on := 3, ground := Ground.phase }, { on := 4, ground := Ground.phase }, { on := 5, ground := Ground.phase }, { on := 6, ground := Ground.phase }, { on := 7, ground := Ground.phase }, { on := 8, ground := Ground.phase }, { on := 9, ground := Ground.phase }, { on := 10, ground := Ground.phase }, { on := 11, ground := Ground.phase }, { on := 12, ground := Ground.phase }, { on := 13, ground := Ground.phase }, { on := 14, ground := Ground.phase }, { on := 15, ground := Ground.phase }, { on := 16, ground := Ground.phase }], guard := none } ({ tmps := #[t0, (.pointer (some ⟨g, 0, none⟩)), t2, t3, t4, t5, x6, t7, t8, t9, t10, t11, t12, t13, t14, t15, t16, t17, t18, t19, t20, t21, t22, t23, t24, t25, t26, t27, t28, t29, t30, t31, t32, t33, t34, x35, x36, x37, x38, x39, x40, x41, x42, x43, x44, x45, x46, x47, x48, x49, x50, t51, t52, t53, t54, t55, t56, t57, t58, t59, t60, t61, t62, t63, t64, t65, t66, t67, t68, t69, t70, t71, t72, t73, t74, t75, t76, t77, t78, t79, t80, t81, t82, t83, t84, t85, t86, t87, t88, t89, t90, t91, t92, t93, t94, t95, t96, t97, t98, t99, t100, t101, t102, t103], defers := [] } : Act) w K Q else E := by
  obtain ⟨ka, kb, kc, rfl⟩ := hvk
  obtain ⟨fa, fc, e38⟩ := (J.r38 d3).form
  obtain ⟨sa, sc, e44⟩ := (J.r44 d9).form
  subst e38 e44
  have e15 := V.v50 d15
  subst e15
  obtain ⟨q, cur, e6, hq, hb, hz, _⟩ := J.r6 d16
  subst e6
  obtain ⟨c0, c1, c2, c3, rfl⟩ := arr4 cur hz
  have zu := hb.cell
  have zf := hb.free
  go_simp
  refine hK.out _ _ ⟨_, _, _, _, _, _, _, _, _, _, _, _, _, _, _, _, _, rfl, J.s17 d3 d9 d16 (by decide) (by decide) rfl hq hb ?_ ?_ ?_, V.s17⟩
  · exact (((J.b.setCell (p := ⟨q, 0, none⟩) hq _).setCell (p := ⟨q, 1, none⟩) hq _).setCell (p := ⟨q, 2, none⟩) hq _).setCell (p := ⟨q, 3, none⟩) hq _
  · intro b hne
    rw [setCell_ne _ _ _ hne, setCell_ne _ _ _ hne, setCell_ne _ _ _ hne, setCell_ne _ _ _ hne]
  · exact (((hb.set 0 _).set 1 _).set 2 _).set 3 _

set_option maxRecDepth 100000 in
theorem reg6 (hf : Sl w (fun _ => True) vf n 6 fs) (hf1 : ∀ u ∈ fs, u.oneCell' = true) (hn : n ≤ 1000000) (hs : Sl w (fun _ => True) vs k 1 ss) (hs1 : ∀ u ∈ ss, u.oneCell' = true) (hk : k ≤ 1000000) (hvk : ∃ a b c, vk = .slice a b c) (hgl : -9223372036854775808 ≤ gl ∧ gl ≤ 1000) (hc : Blk w g #[vf, vs, vk, .int .i64 gl] 26)
    (h : ∀ D a w', I6 g vf vs vk gl w fs ss n k t0 t2 t3 t4 t5 t7 t8 t9 t10 t11 t12 t13 t14 t15 t16 t17 t18 t19 t20 t21 t22 t23 t24 t25 t26 t27 t28 t29 t30 t31 t32 t33 t34 t51 t52 t53 t54 t55 t56 t57 t58 t59 t60 t61 t62 t63 t64 t65 t66 t67 t68 t69 t70 t71 t72 t73 t74 t75 t76 t77 t78 t79 t80 t81 t82 t83 t84 t85 t86 t87 t88 t89 t90 t91 t92 t93 t94 t95 t96 t97 t98 t99 t100 t101 t102 t103 D a w' → (∀ i, i < 18 → D i = true) → Q .normal a w') :
    (Code.region 6 #[{ dst := some 35, op := Op.buildSlice 22 0 #[], type := 22, pos := "law.go:99", after := #[], guard := none }, { dst := some 36, op := Op.fieldAddr 26 (Operand.tmp 1) 0, type := 0, pos := "law.go:99", after := #[], guard := none }, { dst := some 37, op := Op.load 22 (Operand.tmp 36), type := 22, pos := "law.go:99", after := #[{ on := 1, ground := Ground.data }], guard := none }, { dst := some 38, op := Op.call { callee := Callee.builtin Builtin.append, args := #[Operand.tmp 35, Operand.tmp 37], argTypes := #[22, 22] }, type := 22, pos := "law.go:99", after := #[{ on := 0, ground := Ground.data }, { on := 2, ground := Ground.data }], guard := none }, { dst := some 39, op := Op.buildSlice 23 0 #[], type := 23, pos := "law.go:99", after := #[], guard := none }, { dst := some 40, op := Op.fieldAddr 26 (Operand.tmp 1) 1, type := 0, pos := "law.go:99", after := #[], guard := none }, { dst := some 41, op := Op.load 23 (Operand.tmp 40), type := 23, pos := "law.go:99", after := #[{ on := 5, ground := Ground.data }], guard := none }, { dst := some 42, op := Op.call { callee := Callee.builtin Builtin.append, args := #[Operand.tmp 39, Operand.tmp 41], argTypes := #[23, 23] }, type := 23, pos := "law.go:99", after := #[{ on := 4, ground := Ground.data }, { on := 6, ground := Ground.data }, { on := 3, ground := Ground.chain }], guard := none }, { dst := some 43, op := Op.buildSlice 23 1 #[(0, Operand.const (Value.string { data := #[109, 111, 114, 101] }))], type := 23, pos := "law.go:99", after := #[], guard := none }, { dst := some 44, op := Op.call { callee := Callee.builtin Builtin.append, args := #[Operand.tmp 42, Operand.tmp 43], argTypes := #[23, 23] }, type := 23, pos := "law.go:99", after := #[{ on := 7, ground := Ground.data }, { on := 8, ground := Ground.data }, { on := 7, ground := Ground.chain }], guard := none }, { dst := some 45, op := Op.fieldAddr 26 (Operand.tmp 1) 2, type := 0, pos := "law.go:99", after := #[], guard := none }, { dst := some 46, op := Op.load 24 (Operand.tmp 45), type := 24, pos := "law.go:99", after := #[{ on := 10, ground := Ground.data }], guard := none }, { dst := some 47, op := Op.fieldAddr 26 (Operand.tmp 1) 3, type := 0, pos := "law.go:99", after := #[], guard := none }, { dst := some 48, op := Op.load 3 (Operand.tmp 47), type := 3, pos := "law.go:99", after := #[{ on := 12, ground := Ground.data }], guard := none }, { dst := some 49, op := Op.binOp BinOp.add 3 (Operand.tmp 48) (Operand.const (Value.int IntKind.i64 1)) 3, type := 3, pos := "law.go:99", after := #[{ on := 13, ground := Ground.data }], guard := none }, { dst := some 50, op := Op.build 26 #[(0, Operand.tmp 38), (1, Operand.tmp 44), (2, Operand.tmp 46), (3, Operand.tmp 49)], type := 26, pos := "law.go:99", after := #[{ on := 3, ground := Ground.data }, { on := 9, ground := Ground.data }, { on := 11, ground := Ground.data }, { on := 14, ground := Ground.data }], guard := none }, { dst := some 6, op := Op.alloc 26, type := 0, pos := "law.go:99", after := #[], guard := none }, { dst := none, op := Op.store 26 (Operand.tmp 6) (Operand.tmp 50), type := 0, pos := "law.go:99", after := #[{ on := 16, ground := Ground.data }, { on := 15, ground := Ground.data }, { on := 9, ground := Ground.chain }, { on := 0, ground := Ground.phase }, { on := 1, ground := Ground.phase }, { on := 2, ground := Ground.phase }, { on := 3, ground := Ground.phase }, { on := 4, ground := Ground.phase }, { on := 5, ground := Ground.phase }, { on := 6, ground := Ground.phase }, { on := 7, ground := Ground.phase }, { on := 8, ground := Ground.phase }, { on := 9, ground := Ground.phase }, { on := 10, ground := Ground.phase }, { on := 11, ground := Ground.phase }, { on := 12, ground := Ground.phase }, { on := 13, ground := Ground.phase }, { on := 14, ground := Ground.phase }, { on := 15, ground := Ground.phase }, { on := 16, ground := Ground.phase }], guard := none }] true).wp Tryd.prog Q ({ tmps := #[t0, (.pointer (some ⟨g, 0, none⟩)), t2, t3, t4, t5, x6, t7, t8, t9, t10, t11, t12, t13, t14, t15, t16, t17, t18, t19, t20, t21, t22, t23, t24, t25, t26, t27, t28, t29, t30, t31, t32, t33, t34, x35, x36, x37, x38, x39, x40, x41, x42, x43, x44, x45, x46, x47, x48, x49, x50, t51, t52, t53, t54, t55, t56, t57, t58, t59, t60, t61, t62, t63, t64, t65, t66, t67, t68, t69, t70, t71, t72, t73, t74, t75, t76, t77, t78, t79, t80, t81, t82, t83, t84, t85, t86, t87, t88, t89, t90, t91, t92, t93, t94, t95, t96, t97, t98, t99, t100, t101, t102, t103], defers := [] } : Act) w := by
  refine wp_region_I (by kernel_rfl) (by kernel_rfl) (I6 g vf vs vk gl w fs ss n k t0 t2 t3 t4 t5 t7 t8 t9 t10 t11 t12 t13 t14 t15 t16 t17 t18 t19 t20 t21 t22 t23 t24 t25 t26 t27 t28 t29 t30 t31 t32 t33 t34 t51 t52 t53 t54 t55 t56 t57 t58 t59 t60 t61 t62 t63 t64 t65 t66 t67 t68 t69 t70 t71 t72 t73 t74 t75 t76 t77 t78 t79 t80 t81 t82 t83 t84 t85 t86 t87 t88 t89 t90 t91 t92 t93 t94 t95 t96 t97 t98 t99 t100 t101 t102 t103) ?_ (fun D a w' hI hall => h D a w' hI hall) ⟨_, _, _, _, _, _, _, _, _, _, _, _, _, _, _, _, _, rfl, J6.start ((Bw.refl w).drew), V6.start⟩
  intro i o D a w' ho hI hD hd K' hK
  obtain ⟨y6, y35, y36, y37, y38, y39, y40, y41, y42, y43, y44, y45, y46, y47, y48, y49, y50, rfl, J, V⟩ := hI
  have hc' := Blk.bw hc J.b
  have hf' := hf.keep J.b.size (fun b hlt _ => J.b.block b hlt) (fun _ _ g => g)
  have hs' := hs.keep J.b.size (fun b hlt _ => J.b.block b hlt) (fun _ _ g => g)
  rcases i with _ | _ | _ | _ | _ | _ | _ | _ | _ | _ | _ | _ | _ | _ | _ | _ | _ | _ | i
  · obtain rfl : { dst := some 35, op := Op.buildSlice 22 0 #[], type := 22, pos := "law.go:99", after := #[], guard := none } = o := Option.some.inj (show some _ = some o from ho)
    exact r6_0 J V  hK
  · obtain rfl : { dst := some 36, op := Op.fieldAddr 26 (Operand.tmp 1) 0, type := 0, pos := "law.go:99", after := #[], guard := none } = o := Option.some.inj (show some _ = some o from ho)
    exact r6_1 J V  hK
  · obtain rfl : { dst := some 37, op := Op.load 22 (Operand.tmp 36), type := 22, pos := "law.go:99", after := #[{ on := 1, ground := Ground.data }], guard := none } = o := Option.some.inj (show some _ = some o from ho)
    exact r6_2 J V (hd ⟨1, .data⟩ (by simp) rfl) hc' hK
  · obtain rfl : { dst := some 38, op := Op.call { callee := Callee.builtin Builtin.append, args := #[Operand.tmp 35, Operand.tmp 37], argTypes := #[22, 22] }, type := 22, pos := "law.go:99", after := #[{ on := 0, ground := Ground.data }, { on := 2, ground := Ground.data }], guard := none } = o := Option.some.inj (show some _ = some o from ho)
    exact r6_3 J V (hd ⟨0, .data⟩ (by simp) rfl) (hd ⟨2, .data⟩ (by simp) rfl) hf' hf1 hn hD hK
  · obtain rfl : { dst := some 39, op := Op.buildSlice 23 0 #[], type := 23, pos := "law.go:99", after := #[], guard := none } = o := Option.some.inj (show some _ = some o from ho)
    exact r6_4 J V  hK
  · obtain rfl : { dst := some 40, op := Op.fieldAddr 26 (Operand.tmp 1) 1, type := 0, pos := "law.go:99", after := #[], guard := none } = o := Option.some.inj (show some _ = some o from ho)
    exact r6_5 J V  hK
  · obtain rfl : { dst := some 41, op := Op.load 23 (Operand.tmp 40), type := 23, pos := "law.go:99", after := #[{ on := 5, ground := Ground.data }], guard := none } = o := Option.some.inj (show some _ = some o from ho)
    exact r6_6 J V (hd ⟨5, .data⟩ (by simp) rfl) hc' hK
  · obtain rfl : { dst := some 42, op := Op.call { callee := Callee.builtin Builtin.append, args := #[Operand.tmp 39, Operand.tmp 41], argTypes := #[23, 23] }, type := 23, pos := "law.go:99", after := #[{ on := 4, ground := Ground.data }, { on := 6, ground := Ground.data }, { on := 3, ground := Ground.chain }], guard := none } = o := Option.some.inj (show some _ = some o from ho)
    exact r6_7 J V (hd ⟨4, .data⟩ (by simp) rfl) (hd ⟨6, .data⟩ (by simp) rfl) hs' hs1 hk hD hK
  · obtain rfl : { dst := some 43, op := Op.buildSlice 23 1 #[(0, Operand.const (Value.string { data := #[109, 111, 114, 101] }))], type := 23, pos := "law.go:99", after := #[], guard := none } = o := Option.some.inj (show some _ = some o from ho)
    exact r6_8 J V  hK
  · obtain rfl : { dst := some 44, op := Op.call { callee := Callee.builtin Builtin.append, args := #[Operand.tmp 42, Operand.tmp 43], argTypes := #[23, 23] }, type := 23, pos := "law.go:99", after := #[{ on := 7, ground := Ground.data }, { on := 8, ground := Ground.data }, { on := 7, ground := Ground.chain }], guard := none } = o := Option.some.inj (show some _ = some o from ho)
    exact r6_9 J V (hd ⟨7, .data⟩ (by simp) rfl) (hd ⟨8, .data⟩ (by simp) rfl) hk hD hK
  · obtain rfl : { dst := some 45, op := Op.fieldAddr 26 (Operand.tmp 1) 2, type := 0, pos := "law.go:99", after := #[], guard := none } = o := Option.some.inj (show some _ = some o from ho)
    exact r6_10 J V  hK
  · obtain rfl : { dst := some 46, op := Op.load 24 (Operand.tmp 45), type := 24, pos := "law.go:99", after := #[{ on := 10, ground := Ground.data }], guard := none } = o := Option.some.inj (show some _ = some o from ho)
    exact r6_11 J V (hd ⟨10, .data⟩ (by simp) rfl) hc' hK
  · obtain rfl : { dst := some 47, op := Op.fieldAddr 26 (Operand.tmp 1) 3, type := 0, pos := "law.go:99", after := #[], guard := none } = o := Option.some.inj (show some _ = some o from ho)
    exact r6_12 J V  hK
  · obtain rfl : { dst := some 48, op := Op.load 3 (Operand.tmp 47), type := 3, pos := "law.go:99", after := #[{ on := 12, ground := Ground.data }], guard := none } = o := Option.some.inj (show some _ = some o from ho)
    exact r6_13 J V (hd ⟨12, .data⟩ (by simp) rfl) hc' hK
  · obtain rfl : { dst := some 49, op := Op.binOp BinOp.add 3 (Operand.tmp 48) (Operand.const (Value.int IntKind.i64 1)) 3, type := 3, pos := "law.go:99", after := #[{ on := 13, ground := Ground.data }], guard := none } = o := Option.some.inj (show some _ = some o from ho)
    exact r6_14 J V (hd ⟨13, .data⟩ (by simp) rfl) hgl hK
  · obtain rfl : { dst := some 50, op := Op.build 26 #[(0, Operand.tmp 38), (1, Operand.tmp 44), (2, Operand.tmp 46), (3, Operand.tmp 49)], type := 26, pos := "law.go:99", after := #[{ on := 3, ground := Ground.data }, { on := 9, ground := Ground.data }, { on := 11, ground := Ground.data }, { on := 14, ground := Ground.data }], guard := none } = o := Option.some.inj (show some _ = some o from ho)
    exact r6_15 J V (hd ⟨3, .data⟩ (by simp) rfl) (hd ⟨9, .data⟩ (by simp) rfl) (hd ⟨11, .data⟩ (by simp) rfl) (hd ⟨14, .data⟩ (by simp) rfl) hvk hK
  · obtain rfl : { dst := some 6, op := Op.alloc 26, type := 0, pos := "law.go:99", after := #[], guard := none } = o := Option.some.inj (show some _ = some o from ho)
    exact r6_16 J V hD hK
  · obtain rfl : { dst := none, op := Op.store 26 (Operand.tmp 6) (Operand.tmp 50), type := 0, pos := "law.go:99", after := #[{ on := 16, ground := Ground.data }, { on := 15, ground := Ground.data }, { on := 9, ground := Ground.chain }, { on := 0, ground := Ground.phase }, { on := 1, ground := Ground.phase }, { on := 2, ground := Ground.phase }, { on := 3, ground := Ground.phase }, { on := 4, ground := Ground.phase }, { on := 5, ground := Ground.phase }, { on := 6, ground := Ground.phase }, { on := 7, ground := Ground.phase }, { on := 8, ground := Ground.phase }, { on := 9, ground := Ground.phase }, { on := 10, ground := Ground.phase }, { on := 11, ground := Ground.phase }, { on := 12, ground := Ground.phase }, { on := 13, ground := Ground.phase }, { on := 14, ground := Ground.phase }, { on := 15, ground := Ground.phase }, { on := 16, ground := Ground.phase }], guard := none } = o := Option.some.inj (show some _ = some o from ho)
    exact r6_17 J V (V.c15 (hd ⟨15, .data⟩ (by simp) rfl)).1 (V.c15 (hd ⟨15, .data⟩ (by simp) rfl)).2 (hd ⟨15, .data⟩ (by simp) rfl) (hd ⟨16, .data⟩ (by simp) rfl) hD hvk hK
  · exact absurd ho (by simp)

end

end Go.Proofs.YtcljlmjcjfmppaaDoor
