/- VerifyGrows' region 12. Written by mkgk11.py. -/
import Derived.Test.YtcljlmjcjfmppaaDoorGj
import Derived.Test.YtcljlmjcjfmppaaDoorVw
set_option linter.unusedSimpArgs false
set_option linter.unusedVariables false
namespace Go.Proofs.YtcljlmjcjfmppaaDoor
open Go Go.RowKit

/-- The values of region 12. -/
structure V12 (gi r n cF i : Nat) (vo : Value) (D : Nat → Bool) (x67 x68 x69 x71 x72 x73 x74 x75 x76 x78 x81 x82 : Value) : Prop where
  v67 : D 0 = true → x67 = .pointer (some ⟨gi, 0, none⟩)
  v68 : D 1 = true → x68 = .slice (some ⟨r, 0, none⟩) n cF
  v69 : D 2 = true → x69 = .int .i64 (i : Int)
  v71 : D 4 = true → x71 = .pointer (some ⟨gi, 0, none⟩)
  v72 : D 5 = true → x72 = .slice (some ⟨r, 0, none⟩) n cF
  v73 : D 6 = true → x73 = .int .i64 (i : Int)
  v74 : D 7 = true → x74 = .pointer (some ⟨r, i * 6, none⟩)
  v75 : D 8 = true → x75 = .pointer (some ⟨r, i * 6 + 4, none⟩)
  v76 : D 9 = true → x76 = vo
  v78 : D 11 = true → x78 = .agg #[.int .i64 27, .int .i64 0, .int .i64 0]
  v81 : D 14 = true → x81 = .pointer (some ⟨r, i * 6, none⟩)
  v82 : D 15 = true → x82 = .pointer (some ⟨r, i * 6 + 4, none⟩)

section
variable {gi r n cF i : Nat} {vo : Value} {D : Nat → Bool} {x67 x68 x69 x71 x72 x73 x74 x75 x76 x78 x81 x82 : Value}

theorem V12.start : V12 gi r n cF i vo (fun _ => false) x67 x68 x69 x71 x72 x73 x74 x75 x76 x78 x81 x82 := by
  constructor <;> (intro h; cases h)

theorem V12.s0 (V : V12 gi r n cF i vo D x67 x68 x69 x71 x72 x73 x74 x75 x76 x78 x81 x82) : V12 gi r n cF i vo (updD D 0) (.pointer (some ⟨gi, 0, none⟩)) x68 x69 x71 x72 x73 x74 x75 x76 x78 x81 x82 where
  v67 := fun _ => rfl
  v68 := V.v68
  v69 := V.v69
  v71 := V.v71
  v72 := V.v72
  v73 := V.v73
  v74 := V.v74
  v75 := V.v75
  v76 := V.v76
  v78 := V.v78
  v81 := V.v81
  v82 := V.v82

theorem V12.s1 (V : V12 gi r n cF i vo D x67 x68 x69 x71 x72 x73 x74 x75 x76 x78 x81 x82) : V12 gi r n cF i vo (updD D 1) x67 (.slice (some ⟨r, 0, none⟩) n cF) x69 x71 x72 x73 x74 x75 x76 x78 x81 x82 where
  v67 := V.v67
  v68 := fun _ => rfl
  v69 := V.v69
  v71 := V.v71
  v72 := V.v72
  v73 := V.v73
  v74 := V.v74
  v75 := V.v75
  v76 := V.v76
  v78 := V.v78
  v81 := V.v81
  v82 := V.v82

theorem V12.s2 (V : V12 gi r n cF i vo D x67 x68 x69 x71 x72 x73 x74 x75 x76 x78 x81 x82) : V12 gi r n cF i vo (updD D 2) x67 x68 (.int .i64 (i : Int)) x71 x72 x73 x74 x75 x76 x78 x81 x82 where
  v67 := V.v67
  v68 := V.v68
  v69 := fun _ => rfl
  v71 := V.v71
  v72 := V.v72
  v73 := V.v73
  v74 := V.v74
  v75 := V.v75
  v76 := V.v76
  v78 := V.v78
  v81 := V.v81
  v82 := V.v82

theorem V12.s4 (V : V12 gi r n cF i vo D x67 x68 x69 x71 x72 x73 x74 x75 x76 x78 x81 x82) : V12 gi r n cF i vo (updD D 4) x67 x68 x69 (.pointer (some ⟨gi, 0, none⟩)) x72 x73 x74 x75 x76 x78 x81 x82 where
  v67 := V.v67
  v68 := V.v68
  v69 := V.v69
  v71 := fun _ => rfl
  v72 := V.v72
  v73 := V.v73
  v74 := V.v74
  v75 := V.v75
  v76 := V.v76
  v78 := V.v78
  v81 := V.v81
  v82 := V.v82

theorem V12.s5 (V : V12 gi r n cF i vo D x67 x68 x69 x71 x72 x73 x74 x75 x76 x78 x81 x82) : V12 gi r n cF i vo (updD D 5) x67 x68 x69 x71 (.slice (some ⟨r, 0, none⟩) n cF) x73 x74 x75 x76 x78 x81 x82 where
  v67 := V.v67
  v68 := V.v68
  v69 := V.v69
  v71 := V.v71
  v72 := fun _ => rfl
  v73 := V.v73
  v74 := V.v74
  v75 := V.v75
  v76 := V.v76
  v78 := V.v78
  v81 := V.v81
  v82 := V.v82

theorem V12.s6 (V : V12 gi r n cF i vo D x67 x68 x69 x71 x72 x73 x74 x75 x76 x78 x81 x82) : V12 gi r n cF i vo (updD D 6) x67 x68 x69 x71 x72 (.int .i64 (i : Int)) x74 x75 x76 x78 x81 x82 where
  v67 := V.v67
  v68 := V.v68
  v69 := V.v69
  v71 := V.v71
  v72 := V.v72
  v73 := fun _ => rfl
  v74 := V.v74
  v75 := V.v75
  v76 := V.v76
  v78 := V.v78
  v81 := V.v81
  v82 := V.v82

theorem V12.s7 (V : V12 gi r n cF i vo D x67 x68 x69 x71 x72 x73 x74 x75 x76 x78 x81 x82) : V12 gi r n cF i vo (updD D 7) x67 x68 x69 x71 x72 x73 (.pointer (some ⟨r, i * 6, none⟩)) x75 x76 x78 x81 x82 where
  v67 := V.v67
  v68 := V.v68
  v69 := V.v69
  v71 := V.v71
  v72 := V.v72
  v73 := V.v73
  v74 := fun _ => rfl
  v75 := V.v75
  v76 := V.v76
  v78 := V.v78
  v81 := V.v81
  v82 := V.v82

theorem V12.s8 (V : V12 gi r n cF i vo D x67 x68 x69 x71 x72 x73 x74 x75 x76 x78 x81 x82) : V12 gi r n cF i vo (updD D 8) x67 x68 x69 x71 x72 x73 x74 (.pointer (some ⟨r, i * 6 + 4, none⟩)) x76 x78 x81 x82 where
  v67 := V.v67
  v68 := V.v68
  v69 := V.v69
  v71 := V.v71
  v72 := V.v72
  v73 := V.v73
  v74 := V.v74
  v75 := fun _ => rfl
  v76 := V.v76
  v78 := V.v78
  v81 := V.v81
  v82 := V.v82

theorem V12.s9 (V : V12 gi r n cF i vo D x67 x68 x69 x71 x72 x73 x74 x75 x76 x78 x81 x82) : V12 gi r n cF i vo (updD D 9) x67 x68 x69 x71 x72 x73 x74 x75 (vo) x78 x81 x82 where
  v67 := V.v67
  v68 := V.v68
  v69 := V.v69
  v71 := V.v71
  v72 := V.v72
  v73 := V.v73
  v74 := V.v74
  v75 := V.v75
  v76 := fun _ => rfl
  v78 := V.v78
  v81 := V.v81
  v82 := V.v82

theorem V12.s11 (V : V12 gi r n cF i vo D x67 x68 x69 x71 x72 x73 x74 x75 x76 x78 x81 x82) : V12 gi r n cF i vo (updD D 11) x67 x68 x69 x71 x72 x73 x74 x75 x76 (.agg #[.int .i64 27, .int .i64 0, .int .i64 0]) x81 x82 where
  v67 := V.v67
  v68 := V.v68
  v69 := V.v69
  v71 := V.v71
  v72 := V.v72
  v73 := V.v73
  v74 := V.v74
  v75 := V.v75
  v76 := V.v76
  v78 := fun _ => rfl
  v81 := V.v81
  v82 := V.v82

theorem V12.s14 (V : V12 gi r n cF i vo D x67 x68 x69 x71 x72 x73 x74 x75 x76 x78 x81 x82) : V12 gi r n cF i vo (updD D 14) x67 x68 x69 x71 x72 x73 x74 x75 x76 x78 (.pointer (some ⟨r, i * 6, none⟩)) x82 where
  v67 := V.v67
  v68 := V.v68
  v69 := V.v69
  v71 := V.v71
  v72 := V.v72
  v73 := V.v73
  v74 := V.v74
  v75 := V.v75
  v76 := V.v76
  v78 := V.v78
  v81 := fun _ => rfl
  v82 := V.v82

theorem V12.s15 (V : V12 gi r n cF i vo D x67 x68 x69 x71 x72 x73 x74 x75 x76 x78 x81 x82) : V12 gi r n cF i vo (updD D 15) x67 x68 x69 x71 x72 x73 x74 x75 x76 x78 x81 (.pointer (some ⟨r, i * 6 + 4, none⟩)) where
  v67 := V.v67
  v68 := V.v68
  v69 := V.v69
  v71 := V.v71
  v72 := V.v72
  v73 := V.v73
  v74 := V.v74
  v75 := V.v75
  v76 := V.v76
  v78 := V.v78
  v81 := V.v81
  v82 := fun _ => rfl

theorem V12.s3 (V : V12 gi r n cF i vo D x67 x68 x69 x71 x72 x73 x74 x75 x76 x78 x81 x82) : V12 gi r n cF i vo (updD D 3) x67 x68 x69 x71 x72 x73 x74 x75 x76 x78 x81 x82 where
  v67 := V.v67
  v68 := V.v68
  v69 := V.v69
  v71 := V.v71
  v72 := V.v72
  v73 := V.v73
  v74 := V.v74
  v75 := V.v75
  v76 := V.v76
  v78 := V.v78
  v81 := V.v81
  v82 := V.v82

theorem V12.s10 (V : V12 gi r n cF i vo D x67 x68 x69 x71 x72 x73 x74 x75 x76 x78 x81 x82) : V12 gi r n cF i vo (updD D 10) x67 x68 x69 x71 x72 x73 x74 x75 x76 x78 x81 x82 where
  v67 := V.v67
  v68 := V.v68
  v69 := V.v69
  v71 := V.v71
  v72 := V.v72
  v73 := V.v73
  v74 := V.v74
  v75 := V.v75
  v76 := V.v76
  v78 := V.v78
  v81 := V.v81
  v82 := V.v82

theorem V12.s12 (V : V12 gi r n cF i vo D x67 x68 x69 x71 x72 x73 x74 x75 x76 x78 x81 x82) : V12 gi r n cF i vo (updD D 12) x67 x68 x69 x71 x72 x73 x74 x75 x76 x78 x81 x82 where
  v67 := V.v67
  v68 := V.v68
  v69 := V.v69
  v71 := V.v71
  v72 := V.v72
  v73 := V.v73
  v74 := V.v74
  v75 := V.v75
  v76 := V.v76
  v78 := V.v78
  v81 := V.v81
  v82 := V.v82

theorem V12.s13 (V : V12 gi r n cF i vo D x67 x68 x69 x71 x72 x73 x74 x75 x76 x78 x81 x82) : V12 gi r n cF i vo (updD D 13) x67 x68 x69 x71 x72 x73 x74 x75 x76 x78 x81 x82 where
  v67 := V.v67
  v68 := V.v68
  v69 := V.v69
  v71 := V.v71
  v72 := V.v72
  v73 := V.v73
  v74 := V.v74
  v75 := V.v75
  v76 := V.v76
  v78 := V.v78
  v81 := V.v81
  v82 := V.v82

theorem V12.s16 (V : V12 gi r n cF i vo D x67 x68 x69 x71 x72 x73 x74 x75 x76 x78 x81 x82) : V12 gi r n cF i vo (updD D 16) x67 x68 x69 x71 x72 x73 x74 x75 x76 x78 x81 x82 where
  v67 := V.v67
  v68 := V.v68
  v69 := V.v69
  v71 := V.v71
  v72 := V.v72
  v73 := V.v73
  v74 := V.v74
  v75 := V.v75
  v76 := V.v76
  v78 := V.v78
  v81 := V.v81
  v82 := V.v82

end

def I12 (gi r n cF i : Nat) (vo : Value) (w0 : World) (cs : List Value) (k : Nat) (t0 t1 t2 t3 t4 t5 t8 t9 t10 t11 t12 t13 t14 t15 t16 t17 t18 t19 t20 t21 t22 t23 t24 t25 t26 t27 t28 t29 t30 t31 t32 t33 t34 t35 t36 t37 t38 t39 t40 t41 t42 t43 t44 t45 t46 t47 t48 t49 t50 t51 t52 t53 t54 t55 t56 t57 t58 t59 t60 t61 t62 t63 t64 t65 t66 t83 t84 t85 t86 t87 t88 t89 t90 t91 t92 t93 t94 t95 t96 t97 t98 t99 t100 t101 t102 t103 : Value) (D : Nat → Bool) (a : Act) (w : World) : Prop :=
  ∃ (x67 x68 x69 x70 x71 x72 x73 x74 x75 x76 x77 x78 x79 x80 x81 x82 : Value) (w1 : World), a = ({ tmps := #[t0, t1, t2, t3, t4, t5, (.pointer (some ⟨gi, 0, none⟩)), (.int .i64 (i : Int)), t8, t9, t10, t11, t12, t13, t14, t15, t16, t17, t18, t19, t20, t21, t22, t23, t24, t25, t26, t27, t28, t29, t30, t31, t32, t33, t34, t35, t36, t37, t38, t39, t40, t41, t42, t43, t44, t45, t46, t47, t48, t49, t50, t51, t52, t53, t54, t55, t56, t57, t58, t59, t60, t61, t62, t63, t64, t65, t66, x67, x68, x69, x70, x71, x72, x73, x74, x75, x76, x77, x78, x79, x80, x81, x82, t83, t84, t85, t86, t87, t88, t89, t90, t91, t92, t93, t94, t95, t96, t97, t98, t99, t100, t101, t102, t103], defers := [] } : Act) ∧ J12 40 3 w0 cs [.int .i64 27, .int .i64 0, .int .i64 0] k ⟨r, i * 6 + 4, none⟩ D x70 x77 x79 x80 w1 w ∧ V12 gi r n cF i vo D x67 x68 x69 x71 x72 x73 x74 x75 x76 x78 x81 x82

section
variable {gi r n cF i : Nat} {vo : Value} {D : Nat → Bool} {w0 w w1 : World} {cs : List Value} {k : Nat} {t0 t1 t2 t3 t4 t5 t8 t9 t10 t11 t12 t13 t14 t15 t16 t17 t18 t19 t20 t21 t22 t23 t24 t25 t26 t27 t28 t29 t30 t31 t32 t33 t34 t35 t36 t37 t38 t39 t40 t41 t42 t43 t44 t45 t46 t47 t48 t49 t50 t51 t52 t53 t54 t55 t56 t57 t58 t59 t60 t61 t62 t63 t64 t65 t66 t83 t84 t85 t86 t87 t88 t89 t90 t91 t92 t93 t94 t95 t96 t97 t98 t99 t100 t101 t102 t103 : Value} {x67 x68 x69 x70 x71 x72 x73 x74 x75 x76 x77 x78 x79 x80 x81 x82 : Value} {ops : Array Oper} {K : Act → World → Prop} {Q : Exit → Act → World → Prop} {E : Prop}

set_option maxRecDepth 100000 in
theorem r12_0 (J : J12 40 3 w0 cs [.int .i64 27, .int .i64 0, .int .i64 0] k ⟨r, i * 6 + 4, none⟩ D x70 x77 x79 x80 w1 w) (V : V12 gi r n cF i vo D x67 x68 x69 x71 x72 x73 x74 x75 x76 x78 x81 x82) (hK : Shut (∀ a' w', I12 gi r n cF i vo w0 cs k t0 t1 t2 t3 t4 t5 t8 t9 t10 t11 t12 t13 t14 t15 t16 t17 t18 t19 t20 t21 t22 t23 t24 t25 t26 t27 t28 t29 t30 t31 t32 t33 t34 t35 t36 t37 t38 t39 t40 t41 t42 t43 t44 t45 t46 t47 t48 t49 t50 t51 t52 t53 t54 t55 t56 t57 t58 t59 t60 t61 t62 t63 t64 t65 t66 t83 t84 t85 t86 t87 t88 t89 t90 t91 t92 t93 t94 t95 t96 t97 t98 t99 t100 t101 t102 t103 (updD D 0) a' w' → K a' w')) :
    if Region.wanted { dst := some 67, op := Op.fieldAddr 26 (Operand.tmp 6) 0, type := 0, pos := "law.go:104", after := #[], guard := none } (yielded ops ({ tmps := #[t0, t1, t2, t3, t4, t5, (.pointer (some ⟨gi, 0, none⟩)), (.int .i64 (i : Int)), t8, t9, t10, t11, t12, t13, t14, t15, t16, t17, t18, t19, t20, t21, t22, t23, t24, t25, t26, t27, t28, t29, t30, t31, t32, t33, t34, t35, t36, t37, t38, t39, t40, t41, t42, t43, t44, t45, t46, t47, t48, t49, t50, t51, t52, t53, t54, t55, t56, t57, t58, t59, t60, t61, t62, t63, t64, t65, t66, x67, x68, x69, x70, x71, x72, x73, x74, x75, x76, x77, x78, x79, x80, x81, x82, t83, t84, t85, t86, t87, t88, t89, t90, t91, t92, t93, t94, t95, t96, t97, t98, t99, t100, t101, t102, t103], defers := [] } : Act).tmps) = true then Oper.wp Tryd.prog { dst := some 67, op := Op.fieldAddr 26 (Operand.tmp 6) 0, type := 0, pos := "law.go:104", after := #[], guard := none } ({ tmps := #[t0, t1, t2, t3, t4, t5, (.pointer (some ⟨gi, 0, none⟩)), (.int .i64 (i : Int)), t8, t9, t10, t11, t12, t13, t14, t15, t16, t17, t18, t19, t20, t21, t22, t23, t24, t25, t26, t27, t28, t29, t30, t31, t32, t33, t34, t35, t36, t37, t38, t39, t40, t41, t42, t43, t44, t45, t46, t47, t48, t49, t50, t51, t52, t53, t54, t55, t56, t57, t58, t59, t60, t61, t62, t63, t64, t65, t66, x67, x68, x69, x70, x71, x72, x73, x74, x75, x76, x77, x78, x79, x80, x81, x82, t83, t84, t85, t86, t87, t88, t89, t90, t91, t92, t93, t94, t95, t96, t97, t98, t99, t100, t101, t102, t103], defers := [] } : Act) w K Q else E := by
  go_simp
  exact hK.out _ _ ⟨_, _, _, _, _, _, _, _, _, _, _, _, _, _, _, _, _, rfl, (J.pure 0 (by decide) (by decide) (by decide) (by decide) (by decide)), V.s0⟩

set_option maxRecDepth 100000 in
theorem r12_1 (J : J12 40 3 w0 cs [.int .i64 27, .int .i64 0, .int .i64 0] k ⟨r, i * 6 + 4, none⟩ D x70 x77 x79 x80 w1 w) (V : V12 gi r n cF i vo D x67 x68 x69 x71 x72 x73 x74 x75 x76 x78 x81 x82) (d0 : D 0 = true) (hc : w.cell? ⟨gi, 0, none⟩ = some (.slice (some ⟨r, 0, none⟩) n cF)) (hK : Shut (∀ a' w', I12 gi r n cF i vo w0 cs k t0 t1 t2 t3 t4 t5 t8 t9 t10 t11 t12 t13 t14 t15 t16 t17 t18 t19 t20 t21 t22 t23 t24 t25 t26 t27 t28 t29 t30 t31 t32 t33 t34 t35 t36 t37 t38 t39 t40 t41 t42 t43 t44 t45 t46 t47 t48 t49 t50 t51 t52 t53 t54 t55 t56 t57 t58 t59 t60 t61 t62 t63 t64 t65 t66 t83 t84 t85 t86 t87 t88 t89 t90 t91 t92 t93 t94 t95 t96 t97 t98 t99 t100 t101 t102 t103 (updD D 1) a' w' → K a' w')) :
    if Region.wanted { dst := some 68, op := Op.load 22 (Operand.tmp 67), type := 22, pos := "law.go:104", after := #[{ on := 0, ground := Ground.data }], guard := none } (yielded ops ({ tmps := #[t0, t1, t2, t3, t4, t5, (.pointer (some ⟨gi, 0, none⟩)), (.int .i64 (i : Int)), t8, t9, t10, t11, t12, t13, t14, t15, t16, t17, t18, t19, t20, t21, t22, t23, t24, t25, t26, t27, t28, t29, t30, t31, t32, t33, t34, t35, t36, t37, t38, t39, t40, t41, t42, t43, t44, t45, t46, t47, t48, t49, t50, t51, t52, t53, t54, t55, t56, t57, t58, t59, t60, t61, t62, t63, t64, t65, t66, x67, x68, x69, x70, x71, x72, x73, x74, x75, x76, x77, x78, x79, x80, x81, x82, t83, t84, t85, t86, t87, t88, t89, t90, t91, t92, t93, t94, t95, t96, t97, t98, t99, t100, t101, t102, t103], defers := [] } : Act).tmps) = true then Oper.wp Tryd.prog { dst := some 68, op := Op.load 22 (Operand.tmp 67), type := 22, pos := "law.go:104", after := #[{ on := 0, ground := Ground.data }], guard := none } ({ tmps := #[t0, t1, t2, t3, t4, t5, (.pointer (some ⟨gi, 0, none⟩)), (.int .i64 (i : Int)), t8, t9, t10, t11, t12, t13, t14, t15, t16, t17, t18, t19, t20, t21, t22, t23, t24, t25, t26, t27, t28, t29, t30, t31, t32, t33, t34, t35, t36, t37, t38, t39, t40, t41, t42, t43, t44, t45, t46, t47, t48, t49, t50, t51, t52, t53, t54, t55, t56, t57, t58, t59, t60, t61, t62, t63, t64, t65, t66, x67, x68, x69, x70, x71, x72, x73, x74, x75, x76, x77, x78, x79, x80, x81, x82, t83, t84, t85, t86, t87, t88, t89, t90, t91, t92, t93, t94, t95, t96, t97, t98, t99, t100, t101, t102, t103], defers := [] } : Act) w K Q else E := by
  have e0 := V.v67 d0
  subst e0
  go_simp
  exact hK.out _ _ ⟨_, _, _, _, _, _, _, _, _, _, _, _, _, _, _, _, _, rfl, (J.pure 1 (by decide) (by decide) (by decide) (by decide) (by decide)), V.s1⟩

set_option maxRecDepth 100000 in
theorem r12_2 (J : J12 40 3 w0 cs [.int .i64 27, .int .i64 0, .int .i64 0] k ⟨r, i * 6 + 4, none⟩ D x70 x77 x79 x80 w1 w) (V : V12 gi r n cF i vo D x67 x68 x69 x71 x72 x73 x74 x75 x76 x78 x81 x82) (hK : Shut (∀ a' w', I12 gi r n cF i vo w0 cs k t0 t1 t2 t3 t4 t5 t8 t9 t10 t11 t12 t13 t14 t15 t16 t17 t18 t19 t20 t21 t22 t23 t24 t25 t26 t27 t28 t29 t30 t31 t32 t33 t34 t35 t36 t37 t38 t39 t40 t41 t42 t43 t44 t45 t46 t47 t48 t49 t50 t51 t52 t53 t54 t55 t56 t57 t58 t59 t60 t61 t62 t63 t64 t65 t66 t83 t84 t85 t86 t87 t88 t89 t90 t91 t92 t93 t94 t95 t96 t97 t98 t99 t100 t101 t102 t103 (updD D 2) a' w' → K a' w')) :
    if Region.wanted { dst := some 69, op := Op.move (Operand.tmp 7), type := 3, pos := "law.go:104", after := #[], guard := none } (yielded ops ({ tmps := #[t0, t1, t2, t3, t4, t5, (.pointer (some ⟨gi, 0, none⟩)), (.int .i64 (i : Int)), t8, t9, t10, t11, t12, t13, t14, t15, t16, t17, t18, t19, t20, t21, t22, t23, t24, t25, t26, t27, t28, t29, t30, t31, t32, t33, t34, t35, t36, t37, t38, t39, t40, t41, t42, t43, t44, t45, t46, t47, t48, t49, t50, t51, t52, t53, t54, t55, t56, t57, t58, t59, t60, t61, t62, t63, t64, t65, t66, x67, x68, x69, x70, x71, x72, x73, x74, x75, x76, x77, x78, x79, x80, x81, x82, t83, t84, t85, t86, t87, t88, t89, t90, t91, t92, t93, t94, t95, t96, t97, t98, t99, t100, t101, t102, t103], defers := [] } : Act).tmps) = true then Oper.wp Tryd.prog { dst := some 69, op := Op.move (Operand.tmp 7), type := 3, pos := "law.go:104", after := #[], guard := none } ({ tmps := #[t0, t1, t2, t3, t4, t5, (.pointer (some ⟨gi, 0, none⟩)), (.int .i64 (i : Int)), t8, t9, t10, t11, t12, t13, t14, t15, t16, t17, t18, t19, t20, t21, t22, t23, t24, t25, t26, t27, t28, t29, t30, t31, t32, t33, t34, t35, t36, t37, t38, t39, t40, t41, t42, t43, t44, t45, t46, t47, t48, t49, t50, t51, t52, t53, t54, t55, t56, t57, t58, t59, t60, t61, t62, t63, t64, t65, t66, x67, x68, x69, x70, x71, x72, x73, x74, x75, x76, x77, x78, x79, x80, x81, x82, t83, t84, t85, t86, t87, t88, t89, t90, t91, t92, t93, t94, t95, t96, t97, t98, t99, t100, t101, t102, t103], defers := [] } : Act) w K Q else E := by
  go_simp
  exact hK.out _ _ ⟨_, _, _, _, _, _, _, _, _, _, _, _, _, _, _, _, _, rfl, (J.pure 2 (by decide) (by decide) (by decide) (by decide) (by decide)), V.s2⟩

set_option maxRecDepth 100000 in
theorem r12_3 (J : J12 40 3 w0 cs [.int .i64 27, .int .i64 0, .int .i64 0] k ⟨r, i * 6 + 4, none⟩ D x70 x77 x79 x80 w1 w) (V : V12 gi r n cF i vo D x67 x68 x69 x71 x72 x73 x74 x75 x76 x78 x81 x82) (hD : D 3 = false) (hK : Shut (∀ a' w', I12 gi r n cF i vo w0 cs k t0 t1 t2 t3 t4 t5 t8 t9 t10 t11 t12 t13 t14 t15 t16 t17 t18 t19 t20 t21 t22 t23 t24 t25 t26 t27 t28 t29 t30 t31 t32 t33 t34 t35 t36 t37 t38 t39 t40 t41 t42 t43 t44 t45 t46 t47 t48 t49 t50 t51 t52 t53 t54 t55 t56 t57 t58 t59 t60 t61 t62 t63 t64 t65 t66 t83 t84 t85 t86 t87 t88 t89 t90 t91 t92 t93 t94 t95 t96 t97 t98 t99 t100 t101 t102 t103 (updD D 3) a' w' → K a' w')) :
    if Region.wanted { dst := some 70, op := Op.buildSlice 35 0 #[], type := 35, pos := "law.go:104", after := #[], guard := none } (yielded ops ({ tmps := #[t0, t1, t2, t3, t4, t5, (.pointer (some ⟨gi, 0, none⟩)), (.int .i64 (i : Int)), t8, t9, t10, t11, t12, t13, t14, t15, t16, t17, t18, t19, t20, t21, t22, t23, t24, t25, t26, t27, t28, t29, t30, t31, t32, t33, t34, t35, t36, t37, t38, t39, t40, t41, t42, t43, t44, t45, t46, t47, t48, t49, t50, t51, t52, t53, t54, t55, t56, t57, t58, t59, t60, t61, t62, t63, t64, t65, t66, x67, x68, x69, x70, x71, x72, x73, x74, x75, x76, x77, x78, x79, x80, x81, x82, t83, t84, t85, t86, t87, t88, t89, t90, t91, t92, t93, t94, t95, t96, t97, t98, t99, t100, t101, t102, t103], defers := [] } : Act).tmps) = true then Oper.wp Tryd.prog { dst := some 70, op := Op.buildSlice 35 0 #[], type := 35, pos := "law.go:104", after := #[], guard := none } ({ tmps := #[t0, t1, t2, t3, t4, t5, (.pointer (some ⟨gi, 0, none⟩)), (.int .i64 (i : Int)), t8, t9, t10, t11, t12, t13, t14, t15, t16, t17, t18, t19, t20, t21, t22, t23, t24, t25, t26, t27, t28, t29, t30, t31, t32, t33, t34, t35, t36, t37, t38, t39, t40, t41, t42, t43, t44, t45, t46, t47, t48, t49, t50, t51, t52, t53, t54, t55, t56, t57, t58, t59, t60, t61, t62, t63, t64, t65, t66, x67, x68, x69, x70, x71, x72, x73, x74, x75, x76, x77, x78, x79, x80, x81, x82, t83, t84, t85, t86, t87, t88, t89, t90, t91, t92, t93, t94, t95, t96, t97, t98, t99, t100, t101, t102, t103], defers := [] } : Act) w K Q else E := by
  go_simp
  exact hK.out _ _ ⟨_, _, _, _, _, _, _, _, _, _, _, _, _, _, _, _, _, rfl, J.s3 hD, V.s3⟩

set_option maxRecDepth 100000 in
theorem r12_4 (J : J12 40 3 w0 cs [.int .i64 27, .int .i64 0, .int .i64 0] k ⟨r, i * 6 + 4, none⟩ D x70 x77 x79 x80 w1 w) (V : V12 gi r n cF i vo D x67 x68 x69 x71 x72 x73 x74 x75 x76 x78 x81 x82) (hK : Shut (∀ a' w', I12 gi r n cF i vo w0 cs k t0 t1 t2 t3 t4 t5 t8 t9 t10 t11 t12 t13 t14 t15 t16 t17 t18 t19 t20 t21 t22 t23 t24 t25 t26 t27 t28 t29 t30 t31 t32 t33 t34 t35 t36 t37 t38 t39 t40 t41 t42 t43 t44 t45 t46 t47 t48 t49 t50 t51 t52 t53 t54 t55 t56 t57 t58 t59 t60 t61 t62 t63 t64 t65 t66 t83 t84 t85 t86 t87 t88 t89 t90 t91 t92 t93 t94 t95 t96 t97 t98 t99 t100 t101 t102 t103 (updD D 4) a' w' → K a' w')) :
    if Region.wanted { dst := some 71, op := Op.fieldAddr 26 (Operand.tmp 6) 0, type := 0, pos := "law.go:104", after := #[], guard := none } (yielded ops ({ tmps := #[t0, t1, t2, t3, t4, t5, (.pointer (some ⟨gi, 0, none⟩)), (.int .i64 (i : Int)), t8, t9, t10, t11, t12, t13, t14, t15, t16, t17, t18, t19, t20, t21, t22, t23, t24, t25, t26, t27, t28, t29, t30, t31, t32, t33, t34, t35, t36, t37, t38, t39, t40, t41, t42, t43, t44, t45, t46, t47, t48, t49, t50, t51, t52, t53, t54, t55, t56, t57, t58, t59, t60, t61, t62, t63, t64, t65, t66, x67, x68, x69, x70, x71, x72, x73, x74, x75, x76, x77, x78, x79, x80, x81, x82, t83, t84, t85, t86, t87, t88, t89, t90, t91, t92, t93, t94, t95, t96, t97, t98, t99, t100, t101, t102, t103], defers := [] } : Act).tmps) = true then Oper.wp Tryd.prog { dst := some 71, op := Op.fieldAddr 26 (Operand.tmp 6) 0, type := 0, pos := "law.go:104", after := #[], guard := none } ({ tmps := #[t0, t1, t2, t3, t4, t5, (.pointer (some ⟨gi, 0, none⟩)), (.int .i64 (i : Int)), t8, t9, t10, t11, t12, t13, t14, t15, t16, t17, t18, t19, t20, t21, t22, t23, t24, t25, t26, t27, t28, t29, t30, t31, t32, t33, t34, t35, t36, t37, t38, t39, t40, t41, t42, t43, t44, t45, t46, t47, t48, t49, t50, t51, t52, t53, t54, t55, t56, t57, t58, t59, t60, t61, t62, t63, t64, t65, t66, x67, x68, x69, x70, x71, x72, x73, x74, x75, x76, x77, x78, x79, x80, x81, x82, t83, t84, t85, t86, t87, t88, t89, t90, t91, t92, t93, t94, t95, t96, t97, t98, t99, t100, t101, t102, t103], defers := [] } : Act) w K Q else E := by
  go_simp
  exact hK.out _ _ ⟨_, _, _, _, _, _, _, _, _, _, _, _, _, _, _, _, _, rfl, (J.pure 4 (by decide) (by decide) (by decide) (by decide) (by decide)), V.s4⟩

set_option maxRecDepth 100000 in
theorem r12_5 (J : J12 40 3 w0 cs [.int .i64 27, .int .i64 0, .int .i64 0] k ⟨r, i * 6 + 4, none⟩ D x70 x77 x79 x80 w1 w) (V : V12 gi r n cF i vo D x67 x68 x69 x71 x72 x73 x74 x75 x76 x78 x81 x82) (d4 : D 4 = true) (hc : w.cell? ⟨gi, 0, none⟩ = some (.slice (some ⟨r, 0, none⟩) n cF)) (hK : Shut (∀ a' w', I12 gi r n cF i vo w0 cs k t0 t1 t2 t3 t4 t5 t8 t9 t10 t11 t12 t13 t14 t15 t16 t17 t18 t19 t20 t21 t22 t23 t24 t25 t26 t27 t28 t29 t30 t31 t32 t33 t34 t35 t36 t37 t38 t39 t40 t41 t42 t43 t44 t45 t46 t47 t48 t49 t50 t51 t52 t53 t54 t55 t56 t57 t58 t59 t60 t61 t62 t63 t64 t65 t66 t83 t84 t85 t86 t87 t88 t89 t90 t91 t92 t93 t94 t95 t96 t97 t98 t99 t100 t101 t102 t103 (updD D 5) a' w' → K a' w')) :
    if Region.wanted { dst := some 72, op := Op.load 22 (Operand.tmp 71), type := 22, pos := "law.go:104", after := #[{ on := 4, ground := Ground.data }], guard := none } (yielded ops ({ tmps := #[t0, t1, t2, t3, t4, t5, (.pointer (some ⟨gi, 0, none⟩)), (.int .i64 (i : Int)), t8, t9, t10, t11, t12, t13, t14, t15, t16, t17, t18, t19, t20, t21, t22, t23, t24, t25, t26, t27, t28, t29, t30, t31, t32, t33, t34, t35, t36, t37, t38, t39, t40, t41, t42, t43, t44, t45, t46, t47, t48, t49, t50, t51, t52, t53, t54, t55, t56, t57, t58, t59, t60, t61, t62, t63, t64, t65, t66, x67, x68, x69, x70, x71, x72, x73, x74, x75, x76, x77, x78, x79, x80, x81, x82, t83, t84, t85, t86, t87, t88, t89, t90, t91, t92, t93, t94, t95, t96, t97, t98, t99, t100, t101, t102, t103], defers := [] } : Act).tmps) = true then Oper.wp Tryd.prog { dst := some 72, op := Op.load 22 (Operand.tmp 71), type := 22, pos := "law.go:104", after := #[{ on := 4, ground := Ground.data }], guard := none } ({ tmps := #[t0, t1, t2, t3, t4, t5, (.pointer (some ⟨gi, 0, none⟩)), (.int .i64 (i : Int)), t8, t9, t10, t11, t12, t13, t14, t15, t16, t17, t18, t19, t20, t21, t22, t23, t24, t25, t26, t27, t28, t29, t30, t31, t32, t33, t34, t35, t36, t37, t38, t39, t40, t41, t42, t43, t44, t45, t46, t47, t48, t49, t50, t51, t52, t53, t54, t55, t56, t57, t58, t59, t60, t61, t62, t63, t64, t65, t66, x67, x68, x69, x70, x71, x72, x73, x74, x75, x76, x77, x78, x79, x80, x81, x82, t83, t84, t85, t86, t87, t88, t89, t90, t91, t92, t93, t94, t95, t96, t97, t98, t99, t100, t101, t102, t103], defers := [] } : Act) w K Q else E := by
  have e4 := V.v71 d4
  subst e4
  go_simp
  exact hK.out _ _ ⟨_, _, _, _, _, _, _, _, _, _, _, _, _, _, _, _, _, rfl, (J.pure 5 (by decide) (by decide) (by decide) (by decide) (by decide)), V.s5⟩

set_option maxRecDepth 100000 in
theorem r12_6 (J : J12 40 3 w0 cs [.int .i64 27, .int .i64 0, .int .i64 0] k ⟨r, i * 6 + 4, none⟩ D x70 x77 x79 x80 w1 w) (V : V12 gi r n cF i vo D x67 x68 x69 x71 x72 x73 x74 x75 x76 x78 x81 x82) (hK : Shut (∀ a' w', I12 gi r n cF i vo w0 cs k t0 t1 t2 t3 t4 t5 t8 t9 t10 t11 t12 t13 t14 t15 t16 t17 t18 t19 t20 t21 t22 t23 t24 t25 t26 t27 t28 t29 t30 t31 t32 t33 t34 t35 t36 t37 t38 t39 t40 t41 t42 t43 t44 t45 t46 t47 t48 t49 t50 t51 t52 t53 t54 t55 t56 t57 t58 t59 t60 t61 t62 t63 t64 t65 t66 t83 t84 t85 t86 t87 t88 t89 t90 t91 t92 t93 t94 t95 t96 t97 t98 t99 t100 t101 t102 t103 (updD D 6) a' w' → K a' w')) :
    if Region.wanted { dst := some 73, op := Op.move (Operand.tmp 7), type := 3, pos := "law.go:104", after := #[], guard := none } (yielded ops ({ tmps := #[t0, t1, t2, t3, t4, t5, (.pointer (some ⟨gi, 0, none⟩)), (.int .i64 (i : Int)), t8, t9, t10, t11, t12, t13, t14, t15, t16, t17, t18, t19, t20, t21, t22, t23, t24, t25, t26, t27, t28, t29, t30, t31, t32, t33, t34, t35, t36, t37, t38, t39, t40, t41, t42, t43, t44, t45, t46, t47, t48, t49, t50, t51, t52, t53, t54, t55, t56, t57, t58, t59, t60, t61, t62, t63, t64, t65, t66, x67, x68, x69, x70, x71, x72, x73, x74, x75, x76, x77, x78, x79, x80, x81, x82, t83, t84, t85, t86, t87, t88, t89, t90, t91, t92, t93, t94, t95, t96, t97, t98, t99, t100, t101, t102, t103], defers := [] } : Act).tmps) = true then Oper.wp Tryd.prog { dst := some 73, op := Op.move (Operand.tmp 7), type := 3, pos := "law.go:104", after := #[], guard := none } ({ tmps := #[t0, t1, t2, t3, t4, t5, (.pointer (some ⟨gi, 0, none⟩)), (.int .i64 (i : Int)), t8, t9, t10, t11, t12, t13, t14, t15, t16, t17, t18, t19, t20, t21, t22, t23, t24, t25, t26, t27, t28, t29, t30, t31, t32, t33, t34, t35, t36, t37, t38, t39, t40, t41, t42, t43, t44, t45, t46, t47, t48, t49, t50, t51, t52, t53, t54, t55, t56, t57, t58, t59, t60, t61, t62, t63, t64, t65, t66, x67, x68, x69, x70, x71, x72, x73, x74, x75, x76, x77, x78, x79, x80, x81, x82, t83, t84, t85, t86, t87, t88, t89, t90, t91, t92, t93, t94, t95, t96, t97, t98, t99, t100, t101, t102, t103], defers := [] } : Act) w K Q else E := by
  go_simp
  exact hK.out _ _ ⟨_, _, _, _, _, _, _, _, _, _, _, _, _, _, _, _, _, rfl, (J.pure 6 (by decide) (by decide) (by decide) (by decide) (by decide)), V.s6⟩

set_option maxRecDepth 100000 in
theorem r12_7 (J : J12 40 3 w0 cs [.int .i64 27, .int .i64 0, .int .i64 0] k ⟨r, i * 6 + 4, none⟩ D x70 x77 x79 x80 w1 w) (V : V12 gi r n cF i vo D x67 x68 x69 x71 x72 x73 x74 x75 x76 x78 x81 x82) (d5 : D 5 = true) (d6 : D 6 = true) (hi : i < n) (hK : Shut (∀ a' w', I12 gi r n cF i vo w0 cs k t0 t1 t2 t3 t4 t5 t8 t9 t10 t11 t12 t13 t14 t15 t16 t17 t18 t19 t20 t21 t22 t23 t24 t25 t26 t27 t28 t29 t30 t31 t32 t33 t34 t35 t36 t37 t38 t39 t40 t41 t42 t43 t44 t45 t46 t47 t48 t49 t50 t51 t52 t53 t54 t55 t56 t57 t58 t59 t60 t61 t62 t63 t64 t65 t66 t83 t84 t85 t86 t87 t88 t89 t90 t91 t92 t93 t94 t95 t96 t97 t98 t99 t100 t101 t102 t103 (updD D 7) a' w' → K a' w')) :
    if Region.wanted { dst := some 74, op := Op.indexAddr 22 (Operand.tmp 72) (Operand.tmp 73), type := 0, pos := "law.go:104", after := #[{ on := 5, ground := Ground.data }, { on := 6, ground := Ground.data }], guard := none } (yielded ops ({ tmps := #[t0, t1, t2, t3, t4, t5, (.pointer (some ⟨gi, 0, none⟩)), (.int .i64 (i : Int)), t8, t9, t10, t11, t12, t13, t14, t15, t16, t17, t18, t19, t20, t21, t22, t23, t24, t25, t26, t27, t28, t29, t30, t31, t32, t33, t34, t35, t36, t37, t38, t39, t40, t41, t42, t43, t44, t45, t46, t47, t48, t49, t50, t51, t52, t53, t54, t55, t56, t57, t58, t59, t60, t61, t62, t63, t64, t65, t66, x67, x68, x69, x70, x71, x72, x73, x74, x75, x76, x77, x78, x79, x80, x81, x82, t83, t84, t85, t86, t87, t88, t89, t90, t91, t92, t93, t94, t95, t96, t97, t98, t99, t100, t101, t102, t103], defers := [] } : Act).tmps) = true then Oper.wp Tryd.prog { dst := some 74, op := Op.indexAddr 22 (Operand.tmp 72) (Operand.tmp 73), type := 0, pos := "law.go:104", after := #[{ on := 5, ground := Ground.data }, { on := 6, ground := Ground.data }], guard := none } ({ tmps := #[t0, t1, t2, t3, t4, t5, (.pointer (some ⟨gi, 0, none⟩)), (.int .i64 (i : Int)), t8, t9, t10, t11, t12, t13, t14, t15, t16, t17, t18, t19, t20, t21, t22, t23, t24, t25, t26, t27, t28, t29, t30, t31, t32, t33, t34, t35, t36, t37, t38, t39, t40, t41, t42, t43, t44, t45, t46, t47, t48, t49, t50, t51, t52, t53, t54, t55, t56, t57, t58, t59, t60, t61, t62, t63, t64, t65, t66, x67, x68, x69, x70, x71, x72, x73, x74, x75, x76, x77, x78, x79, x80, x81, x82, t83, t84, t85, t86, t87, t88, t89, t90, t91, t92, t93, t94, t95, t96, t97, t98, t99, t100, t101, t102, t103], defers := [] } : Act) w K Q else E := by
  have e5 := V.v72 d5
  subst e5
  have e6 := V.v73 d6
  subst e6
  have hi2 : (i : Int) < (n : Int) := by omega
  go_simp
  exact hK.out _ _ ⟨_, _, _, _, _, _, _, _, _, _, _, _, _, _, _, _, _, rfl, (J.pure 7 (by decide) (by decide) (by decide) (by decide) (by decide)), V.s7⟩

set_option maxRecDepth 100000 in
theorem r12_8 (J : J12 40 3 w0 cs [.int .i64 27, .int .i64 0, .int .i64 0] k ⟨r, i * 6 + 4, none⟩ D x70 x77 x79 x80 w1 w) (V : V12 gi r n cF i vo D x67 x68 x69 x71 x72 x73 x74 x75 x76 x78 x81 x82) (d7 : D 7 = true) (hK : Shut (∀ a' w', I12 gi r n cF i vo w0 cs k t0 t1 t2 t3 t4 t5 t8 t9 t10 t11 t12 t13 t14 t15 t16 t17 t18 t19 t20 t21 t22 t23 t24 t25 t26 t27 t28 t29 t30 t31 t32 t33 t34 t35 t36 t37 t38 t39 t40 t41 t42 t43 t44 t45 t46 t47 t48 t49 t50 t51 t52 t53 t54 t55 t56 t57 t58 t59 t60 t61 t62 t63 t64 t65 t66 t83 t84 t85 t86 t87 t88 t89 t90 t91 t92 t93 t94 t95 t96 t97 t98 t99 t100 t101 t102 t103 (updD D 8) a' w' → K a' w')) :
    if Region.wanted { dst := some 75, op := Op.fieldAddr 38 (Operand.tmp 74) 4, type := 0, pos := "law.go:104", after := #[{ on := 7, ground := Ground.data }], guard := none } (yielded ops ({ tmps := #[t0, t1, t2, t3, t4, t5, (.pointer (some ⟨gi, 0, none⟩)), (.int .i64 (i : Int)), t8, t9, t10, t11, t12, t13, t14, t15, t16, t17, t18, t19, t20, t21, t22, t23, t24, t25, t26, t27, t28, t29, t30, t31, t32, t33, t34, t35, t36, t37, t38, t39, t40, t41, t42, t43, t44, t45, t46, t47, t48, t49, t50, t51, t52, t53, t54, t55, t56, t57, t58, t59, t60, t61, t62, t63, t64, t65, t66, x67, x68, x69, x70, x71, x72, x73, x74, x75, x76, x77, x78, x79, x80, x81, x82, t83, t84, t85, t86, t87, t88, t89, t90, t91, t92, t93, t94, t95, t96, t97, t98, t99, t100, t101, t102, t103], defers := [] } : Act).tmps) = true then Oper.wp Tryd.prog { dst := some 75, op := Op.fieldAddr 38 (Operand.tmp 74) 4, type := 0, pos := "law.go:104", after := #[{ on := 7, ground := Ground.data }], guard := none } ({ tmps := #[t0, t1, t2, t3, t4, t5, (.pointer (some ⟨gi, 0, none⟩)), (.int .i64 (i : Int)), t8, t9, t10, t11, t12, t13, t14, t15, t16, t17, t18, t19, t20, t21, t22, t23, t24, t25, t26, t27, t28, t29, t30, t31, t32, t33, t34, t35, t36, t37, t38, t39, t40, t41, t42, t43, t44, t45, t46, t47, t48, t49, t50, t51, t52, t53, t54, t55, t56, t57, t58, t59, t60, t61, t62, t63, t64, t65, t66, x67, x68, x69, x70, x71, x72, x73, x74, x75, x76, x77, x78, x79, x80, x81, x82, t83, t84, t85, t86, t87, t88, t89, t90, t91, t92, t93, t94, t95, t96, t97, t98, t99, t100, t101, t102, t103], defers := [] } : Act) w K Q else E := by
  have e7 := V.v74 d7
  subst e7
  go_simp
  exact hK.out _ _ ⟨_, _, _, _, _, _, _, _, _, _, _, _, _, _, _, _, _, rfl, (J.pure 8 (by decide) (by decide) (by decide) (by decide) (by decide)), V.s8⟩

set_option maxRecDepth 100000 in
theorem r12_9 (J : J12 40 3 w0 cs [.int .i64 27, .int .i64 0, .int .i64 0] k ⟨r, i * 6 + 4, none⟩ D x70 x77 x79 x80 w1 w) (V : V12 gi r n cF i vo D x67 x68 x69 x71 x72 x73 x74 x75 x76 x78 x81 x82) (d8 : D 8 = true) {oa : Option Addr} {oc : Nat} (hc : w.cell? ⟨r, i * 6 + 4, none⟩ = some (.slice oa k oc)) (hvo : vo = .slice oa k oc) (hK : Shut (∀ a' w', I12 gi r n cF i vo w0 cs k t0 t1 t2 t3 t4 t5 t8 t9 t10 t11 t12 t13 t14 t15 t16 t17 t18 t19 t20 t21 t22 t23 t24 t25 t26 t27 t28 t29 t30 t31 t32 t33 t34 t35 t36 t37 t38 t39 t40 t41 t42 t43 t44 t45 t46 t47 t48 t49 t50 t51 t52 t53 t54 t55 t56 t57 t58 t59 t60 t61 t62 t63 t64 t65 t66 t83 t84 t85 t86 t87 t88 t89 t90 t91 t92 t93 t94 t95 t96 t97 t98 t99 t100 t101 t102 t103 (updD D 9) a' w' → K a' w')) :
    if Region.wanted { dst := some 76, op := Op.load 35 (Operand.tmp 75), type := 35, pos := "law.go:104", after := #[{ on := 8, ground := Ground.data }], guard := none } (yielded ops ({ tmps := #[t0, t1, t2, t3, t4, t5, (.pointer (some ⟨gi, 0, none⟩)), (.int .i64 (i : Int)), t8, t9, t10, t11, t12, t13, t14, t15, t16, t17, t18, t19, t20, t21, t22, t23, t24, t25, t26, t27, t28, t29, t30, t31, t32, t33, t34, t35, t36, t37, t38, t39, t40, t41, t42, t43, t44, t45, t46, t47, t48, t49, t50, t51, t52, t53, t54, t55, t56, t57, t58, t59, t60, t61, t62, t63, t64, t65, t66, x67, x68, x69, x70, x71, x72, x73, x74, x75, x76, x77, x78, x79, x80, x81, x82, t83, t84, t85, t86, t87, t88, t89, t90, t91, t92, t93, t94, t95, t96, t97, t98, t99, t100, t101, t102, t103], defers := [] } : Act).tmps) = true then Oper.wp Tryd.prog { dst := some 76, op := Op.load 35 (Operand.tmp 75), type := 35, pos := "law.go:104", after := #[{ on := 8, ground := Ground.data }], guard := none } ({ tmps := #[t0, t1, t2, t3, t4, t5, (.pointer (some ⟨gi, 0, none⟩)), (.int .i64 (i : Int)), t8, t9, t10, t11, t12, t13, t14, t15, t16, t17, t18, t19, t20, t21, t22, t23, t24, t25, t26, t27, t28, t29, t30, t31, t32, t33, t34, t35, t36, t37, t38, t39, t40, t41, t42, t43, t44, t45, t46, t47, t48, t49, t50, t51, t52, t53, t54, t55, t56, t57, t58, t59, t60, t61, t62, t63, t64, t65, t66, x67, x68, x69, x70, x71, x72, x73, x74, x75, x76, x77, x78, x79, x80, x81, x82, t83, t84, t85, t86, t87, t88, t89, t90, t91, t92, t93, t94, t95, t96, t97, t98, t99, t100, t101, t102, t103], defers := [] } : Act) w K Q else E := by
  have e8 := V.v75 d8
  subst e8
  subst hvo
  go_simp
  exact hK.out _ _ ⟨_, _, _, _, _, _, _, _, _, _, _, _, _, _, _, _, _, rfl, (J.pure 9 (by decide) (by decide) (by decide) (by decide) (by decide)), V.s9⟩

set_option maxRecDepth 100000 in
theorem r12_10 (J : J12 40 3 w0 cs [.int .i64 27, .int .i64 0, .int .i64 0] k ⟨r, i * 6 + 4, none⟩ D x70 x77 x79 x80 w1 w) (V : V12 gi r n cF i vo D x67 x68 x69 x71 x72 x73 x74 x75 x76 x78 x81 x82) (d3 : D 3 = true) (d9 : D 9 = true) (h1 : ∀ u ∈ cs, u.oneCell' = true) (hk : k ≤ 1000000) (hsl : Sl w (fun _ => True) vo k 3 cs) (hD : D 10 = false) (hK : Shut (∀ a' w', I12 gi r n cF i vo w0 cs k t0 t1 t2 t3 t4 t5 t8 t9 t10 t11 t12 t13 t14 t15 t16 t17 t18 t19 t20 t21 t22 t23 t24 t25 t26 t27 t28 t29 t30 t31 t32 t33 t34 t35 t36 t37 t38 t39 t40 t41 t42 t43 t44 t45 t46 t47 t48 t49 t50 t51 t52 t53 t54 t55 t56 t57 t58 t59 t60 t61 t62 t63 t64 t65 t66 t83 t84 t85 t86 t87 t88 t89 t90 t91 t92 t93 t94 t95 t96 t97 t98 t99 t100 t101 t102 t103 (updD D 10) a' w' → K a' w')) :
    if Region.wanted { dst := some 77, op := Op.call { callee := Callee.builtin Builtin.append, args := #[Operand.tmp 70, Operand.tmp 76], argTypes := #[35, 35] }, type := 35, pos := "law.go:104", after := #[{ on := 3, ground := Ground.data }, { on := 9, ground := Ground.data }], guard := none } (yielded ops ({ tmps := #[t0, t1, t2, t3, t4, t5, (.pointer (some ⟨gi, 0, none⟩)), (.int .i64 (i : Int)), t8, t9, t10, t11, t12, t13, t14, t15, t16, t17, t18, t19, t20, t21, t22, t23, t24, t25, t26, t27, t28, t29, t30, t31, t32, t33, t34, t35, t36, t37, t38, t39, t40, t41, t42, t43, t44, t45, t46, t47, t48, t49, t50, t51, t52, t53, t54, t55, t56, t57, t58, t59, t60, t61, t62, t63, t64, t65, t66, x67, x68, x69, x70, x71, x72, x73, x74, x75, x76, x77, x78, x79, x80, x81, x82, t83, t84, t85, t86, t87, t88, t89, t90, t91, t92, t93, t94, t95, t96, t97, t98, t99, t100, t101, t102, t103], defers := [] } : Act).tmps) = true then Oper.wp Tryd.prog { dst := some 77, op := Op.call { callee := Callee.builtin Builtin.append, args := #[Operand.tmp 70, Operand.tmp 76], argTypes := #[35, 35] }, type := 35, pos := "law.go:104", after := #[{ on := 3, ground := Ground.data }, { on := 9, ground := Ground.data }], guard := none } ({ tmps := #[t0, t1, t2, t3, t4, t5, (.pointer (some ⟨gi, 0, none⟩)), (.int .i64 (i : Int)), t8, t9, t10, t11, t12, t13, t14, t15, t16, t17, t18, t19, t20, t21, t22, t23, t24, t25, t26, t27, t28, t29, t30, t31, t32, t33, t34, t35, t36, t37, t38, t39, t40, t41, t42, t43, t44, t45, t46, t47, t48, t49, t50, t51, t52, t53, t54, t55, t56, t57, t58, t59, t60, t61, t62, t63, t64, t65, t66, x67, x68, x69, x70, x71, x72, x73, x74, x75, x76, x77, x78, x79, x80, x81, x82, t83, t84, t85, t86, t87, t88, t89, t90, t91, t92, t93, t94, t95, t96, t97, t98, t99, t100, t101, t102, t103], defers := [] } : Act) w K Q else E := by
  have e9 := V.v76 d9
  subst e9
  obtain rfl := J.e0 (J.no16 (.inr (.inl hD)))
  obtain ⟨i1, hi1, hz1, hs1, hy1⟩ := info_parts2 infoEN
  refine step_append_any (by rfl) (.tmp 70) (.tmp 76) 35 (by rfl) 40 i1 (.agg #[.int .i64 0, .int .i64 0, .int .i64 0]) 3 24 (by kernel_rfl) hi1 hz1 hs1 hy1 rfl (by decide) x70 0 [] (by rfl) (J.r70 d3 hD).1 x76 k cs (by rfl) hsl h1 (by unfold maxLen; omega) (by omega) ?_
  intro v' w' a1 a2 a3
  refine hK.out _ _ ?_
  try simp only [Act.put, List.setIfInBounds_toArray, List.set_cons_zero, List.set_cons_succ]
  exact ⟨x67, x68, x69, x70, x71, x72, x73, x74, x75, x76, v', x78, x79, x80, x81, x82, w', rfl, J.s10 d3 hD (by simpa using a1) a2 a3, V.s10⟩

set_option maxRecDepth 100000 in
theorem r12_11 (J : J12 40 3 w0 cs [.int .i64 27, .int .i64 0, .int .i64 0] k ⟨r, i * 6 + 4, none⟩ D x70 x77 x79 x80 w1 w) (V : V12 gi r n cF i vo D x67 x68 x69 x71 x72 x73 x74 x75 x76 x78 x81 x82) (hK : Shut (∀ a' w', I12 gi r n cF i vo w0 cs k t0 t1 t2 t3 t4 t5 t8 t9 t10 t11 t12 t13 t14 t15 t16 t17 t18 t19 t20 t21 t22 t23 t24 t25 t26 t27 t28 t29 t30 t31 t32 t33 t34 t35 t36 t37 t38 t39 t40 t41 t42 t43 t44 t45 t46 t47 t48 t49 t50 t51 t52 t53 t54 t55 t56 t57 t58 t59 t60 t61 t62 t63 t64 t65 t66 t83 t84 t85 t86 t87 t88 t89 t90 t91 t92 t93 t94 t95 t96 t97 t98 t99 t100 t101 t102 t103 (updD D 11) a' w' → K a' w')) :
    if Region.wanted { dst := some 78, op := Op.build 40 #[(0, Operand.const (Value.int IntKind.i64 27))], type := 40, pos := "law.go:104", after := #[], guard := none } (yielded ops ({ tmps := #[t0, t1, t2, t3, t4, t5, (.pointer (some ⟨gi, 0, none⟩)), (.int .i64 (i : Int)), t8, t9, t10, t11, t12, t13, t14, t15, t16, t17, t18, t19, t20, t21, t22, t23, t24, t25, t26, t27, t28, t29, t30, t31, t32, t33, t34, t35, t36, t37, t38, t39, t40, t41, t42, t43, t44, t45, t46, t47, t48, t49, t50, t51, t52, t53, t54, t55, t56, t57, t58, t59, t60, t61, t62, t63, t64, t65, t66, x67, x68, x69, x70, x71, x72, x73, x74, x75, x76, x77, x78, x79, x80, x81, x82, t83, t84, t85, t86, t87, t88, t89, t90, t91, t92, t93, t94, t95, t96, t97, t98, t99, t100, t101, t102, t103], defers := [] } : Act).tmps) = true then Oper.wp Tryd.prog { dst := some 78, op := Op.build 40 #[(0, Operand.const (Value.int IntKind.i64 27))], type := 40, pos := "law.go:104", after := #[], guard := none } ({ tmps := #[t0, t1, t2, t3, t4, t5, (.pointer (some ⟨gi, 0, none⟩)), (.int .i64 (i : Int)), t8, t9, t10, t11, t12, t13, t14, t15, t16, t17, t18, t19, t20, t21, t22, t23, t24, t25, t26, t27, t28, t29, t30, t31, t32, t33, t34, t35, t36, t37, t38, t39, t40, t41, t42, t43, t44, t45, t46, t47, t48, t49, t50, t51, t52, t53, t54, t55, t56, t57, t58, t59, t60, t61, t62, t63, t64, t65, t66, x67, x68, x69, x70, x71, x72, x73, x74, x75, x76, x77, x78, x79, x80, x81, x82, t83, t84, t85, t86, t87, t88, t89, t90, t91, t92, t93, t94, t95, t96, t97, t98, t99, t100, t101, t102, t103], defers := [] } : Act) w K Q else E := by
  go_simp
  exact hK.out _ _ ⟨_, _, _, _, _, _, _, _, _, _, _, _, _, _, _, _, _, rfl, (J.pure 11 (by decide) (by decide) (by decide) (by decide) (by decide)), V.s11⟩

set_option maxRecDepth 100000 in
theorem r12_12 (J : J12 40 3 w0 cs [.int .i64 27, .int .i64 0, .int .i64 0] k ⟨r, i * 6 + 4, none⟩ D x70 x77 x79 x80 w1 w) (V : V12 gi r n cF i vo D x67 x68 x69 x71 x72 x73 x74 x75 x76 x78 x81 x82) (d11 : D 11 = true) (hD : D 12 = false) (hK : Shut (∀ a' w', I12 gi r n cF i vo w0 cs k t0 t1 t2 t3 t4 t5 t8 t9 t10 t11 t12 t13 t14 t15 t16 t17 t18 t19 t20 t21 t22 t23 t24 t25 t26 t27 t28 t29 t30 t31 t32 t33 t34 t35 t36 t37 t38 t39 t40 t41 t42 t43 t44 t45 t46 t47 t48 t49 t50 t51 t52 t53 t54 t55 t56 t57 t58 t59 t60 t61 t62 t63 t64 t65 t66 t83 t84 t85 t86 t87 t88 t89 t90 t91 t92 t93 t94 t95 t96 t97 t98 t99 t100 t101 t102 t103 (updD D 12) a' w' → K a' w')) :
    if Region.wanted { dst := some 79, op := Op.buildSlice 35 1 #[(0, Operand.tmp 78)], type := 35, pos := "law.go:104", after := #[{ on := 11, ground := Ground.data }], guard := none } (yielded ops ({ tmps := #[t0, t1, t2, t3, t4, t5, (.pointer (some ⟨gi, 0, none⟩)), (.int .i64 (i : Int)), t8, t9, t10, t11, t12, t13, t14, t15, t16, t17, t18, t19, t20, t21, t22, t23, t24, t25, t26, t27, t28, t29, t30, t31, t32, t33, t34, t35, t36, t37, t38, t39, t40, t41, t42, t43, t44, t45, t46, t47, t48, t49, t50, t51, t52, t53, t54, t55, t56, t57, t58, t59, t60, t61, t62, t63, t64, t65, t66, x67, x68, x69, x70, x71, x72, x73, x74, x75, x76, x77, x78, x79, x80, x81, x82, t83, t84, t85, t86, t87, t88, t89, t90, t91, t92, t93, t94, t95, t96, t97, t98, t99, t100, t101, t102, t103], defers := [] } : Act).tmps) = true then Oper.wp Tryd.prog { dst := some 79, op := Op.buildSlice 35 1 #[(0, Operand.tmp 78)], type := 35, pos := "law.go:104", after := #[{ on := 11, ground := Ground.data }], guard := none } ({ tmps := #[t0, t1, t2, t3, t4, t5, (.pointer (some ⟨gi, 0, none⟩)), (.int .i64 (i : Int)), t8, t9, t10, t11, t12, t13, t14, t15, t16, t17, t18, t19, t20, t21, t22, t23, t24, t25, t26, t27, t28, t29, t30, t31, t32, t33, t34, t35, t36, t37, t38, t39, t40, t41, t42, t43, t44, t45, t46, t47, t48, t49, t50, t51, t52, t53, t54, t55, t56, t57, t58, t59, t60, t61, t62, t63, t64, t65, t66, x67, x68, x69, x70, x71, x72, x73, x74, x75, x76, x77, x78, x79, x80, x81, x82, t83, t84, t85, t86, t87, t88, t89, t90, t91, t92, t93, t94, t95, t96, t97, t98, t99, t100, t101, t102, t103], defers := [] } : Act) w K Q else E := by
  have e11 := V.v78 d11
  subst e11
  go_simp
  exact hK.out _ _ ⟨_, _, _, _, _, _, _, _, _, _, _, _, _, _, _, _, _, rfl, J.s12 hD rfl, V.s12⟩

set_option maxRecDepth 100000 in
theorem r12_13 (J : J12 40 3 w0 cs [.int .i64 27, .int .i64 0, .int .i64 0] k ⟨r, i * 6 + 4, none⟩ D x70 x77 x79 x80 w1 w) (V : V12 gi r n cF i vo D x67 x68 x69 x71 x72 x73 x74 x75 x76 x78 x81 x82) (d10 : D 10 = true) (d12 : D 12 = true) (hk : k ≤ 1000000) (hD : D 13 = false) (hK : Shut (∀ a' w', I12 gi r n cF i vo w0 cs k t0 t1 t2 t3 t4 t5 t8 t9 t10 t11 t12 t13 t14 t15 t16 t17 t18 t19 t20 t21 t22 t23 t24 t25 t26 t27 t28 t29 t30 t31 t32 t33 t34 t35 t36 t37 t38 t39 t40 t41 t42 t43 t44 t45 t46 t47 t48 t49 t50 t51 t52 t53 t54 t55 t56 t57 t58 t59 t60 t61 t62 t63 t64 t65 t66 t83 t84 t85 t86 t87 t88 t89 t90 t91 t92 t93 t94 t95 t96 t97 t98 t99 t100 t101 t102 t103 (updD D 13) a' w' → K a' w')) :
    if Region.wanted { dst := some 80, op := Op.call { callee := Callee.builtin Builtin.append, args := #[Operand.tmp 77, Operand.tmp 79], argTypes := #[35, 35] }, type := 35, pos := "law.go:104", after := #[{ on := 10, ground := Ground.data }, { on := 12, ground := Ground.data }, { on := 10, ground := Ground.chain }], guard := none } (yielded ops ({ tmps := #[t0, t1, t2, t3, t4, t5, (.pointer (some ⟨gi, 0, none⟩)), (.int .i64 (i : Int)), t8, t9, t10, t11, t12, t13, t14, t15, t16, t17, t18, t19, t20, t21, t22, t23, t24, t25, t26, t27, t28, t29, t30, t31, t32, t33, t34, t35, t36, t37, t38, t39, t40, t41, t42, t43, t44, t45, t46, t47, t48, t49, t50, t51, t52, t53, t54, t55, t56, t57, t58, t59, t60, t61, t62, t63, t64, t65, t66, x67, x68, x69, x70, x71, x72, x73, x74, x75, x76, x77, x78, x79, x80, x81, x82, t83, t84, t85, t86, t87, t88, t89, t90, t91, t92, t93, t94, t95, t96, t97, t98, t99, t100, t101, t102, t103], defers := [] } : Act).tmps) = true then Oper.wp Tryd.prog { dst := some 80, op := Op.call { callee := Callee.builtin Builtin.append, args := #[Operand.tmp 77, Operand.tmp 79], argTypes := #[35, 35] }, type := 35, pos := "law.go:104", after := #[{ on := 10, ground := Ground.data }, { on := 12, ground := Ground.data }, { on := 10, ground := Ground.chain }], guard := none } ({ tmps := #[t0, t1, t2, t3, t4, t5, (.pointer (some ⟨gi, 0, none⟩)), (.int .i64 (i : Int)), t8, t9, t10, t11, t12, t13, t14, t15, t16, t17, t18, t19, t20, t21, t22, t23, t24, t25, t26, t27, t28, t29, t30, t31, t32, t33, t34, t35, t36, t37, t38, t39, t40, t41, t42, t43, t44, t45, t46, t47, t48, t49, t50, t51, t52, t53, t54, t55, t56, t57, t58, t59, t60, t61, t62, t63, t64, t65, t66, x67, x68, x69, x70, x71, x72, x73, x74, x75, x76, x77, x78, x79, x80, x81, x82, t83, t84, t85, t86, t87, t88, t89, t90, t91, t92, t93, t94, t95, t96, t97, t98, t99, t100, t101, t102, t103], defers := [] } : Act) w K Q else E := by
  obtain rfl := J.e0 (J.no16 (.inr (.inr (.inr hD))))
  obtain ⟨i1, hi1, hz1, hs1, hy1⟩ := info_parts2 infoEN
  refine step_append_any (by rfl) (.tmp 77) (.tmp 79) 35 (by rfl) 40 i1 (.agg #[.int .i64 0, .int .i64 0, .int .i64 0]) 3 24 (by kernel_rfl) hi1 hz1 hs1 hy1 rfl (by decide) x77 k cs (by rfl) (J.r77 d10 hD).1 x79 1 [.int .i64 27, .int .i64 0, .int .i64 0] (by rfl) (J.r79 d12 hD).sl (fun u hu => by simp only [List.mem_cons, List.not_mem_nil, or_false] at hu; rcases hu with rfl | rfl | rfl <;> rfl) (by unfold maxLen; omega) (by omega) ?_
  intro v' w' a1 a2 a3
  refine hK.out _ _ ?_
  try simp only [Act.put, List.setIfInBounds_toArray, List.set_cons_zero, List.set_cons_succ]
  exact ⟨x67, x68, x69, x70, x71, x72, x73, x74, x75, x76, x77, x78, x79, v', x81, x82, w', rfl, J.s13 d10 hD (by simpa using a1) a2 a3, V.s13⟩

set_option maxRecDepth 100000 in
theorem r12_14 (J : J12 40 3 w0 cs [.int .i64 27, .int .i64 0, .int .i64 0] k ⟨r, i * 6 + 4, none⟩ D x70 x77 x79 x80 w1 w) (V : V12 gi r n cF i vo D x67 x68 x69 x71 x72 x73 x74 x75 x76 x78 x81 x82) (d1 : D 1 = true) (d2 : D 2 = true) (hi : i < n) (hK : Shut (∀ a' w', I12 gi r n cF i vo w0 cs k t0 t1 t2 t3 t4 t5 t8 t9 t10 t11 t12 t13 t14 t15 t16 t17 t18 t19 t20 t21 t22 t23 t24 t25 t26 t27 t28 t29 t30 t31 t32 t33 t34 t35 t36 t37 t38 t39 t40 t41 t42 t43 t44 t45 t46 t47 t48 t49 t50 t51 t52 t53 t54 t55 t56 t57 t58 t59 t60 t61 t62 t63 t64 t65 t66 t83 t84 t85 t86 t87 t88 t89 t90 t91 t92 t93 t94 t95 t96 t97 t98 t99 t100 t101 t102 t103 (updD D 14) a' w' → K a' w')) :
    if Region.wanted { dst := some 81, op := Op.indexAddr 22 (Operand.tmp 68) (Operand.tmp 69), type := 0, pos := "law.go:104", after := #[{ on := 1, ground := Ground.data }, { on := 2, ground := Ground.data }, { on := 0, ground := Ground.phase }, { on := 1, ground := Ground.phase }, { on := 2, ground := Ground.phase }, { on := 3, ground := Ground.phase }, { on := 4, ground := Ground.phase }, { on := 5, ground := Ground.phase }, { on := 6, ground := Ground.phase }, { on := 7, ground := Ground.phase }, { on := 8, ground := Ground.phase }, { on := 9, ground := Ground.phase }, { on := 10, ground := Ground.phase }, { on := 11, ground := Ground.phase }, { on := 12, ground := Ground.phase }, { on := 13, ground := Ground.phase }], guard := none } (yielded ops ({ tmps := #[t0, t1, t2, t3, t4, t5, (.pointer (some ⟨gi, 0, none⟩)), (.int .i64 (i : Int)), t8, t9, t10, t11, t12, t13, t14, t15, t16, t17, t18, t19, t20, t21, t22, t23, t24, t25, t26, t27, t28, t29, t30, t31, t32, t33, t34, t35, t36, t37, t38, t39, t40, t41, t42, t43, t44, t45, t46, t47, t48, t49, t50, t51, t52, t53, t54, t55, t56, t57, t58, t59, t60, t61, t62, t63, t64, t65, t66, x67, x68, x69, x70, x71, x72, x73, x74, x75, x76, x77, x78, x79, x80, x81, x82, t83, t84, t85, t86, t87, t88, t89, t90, t91, t92, t93, t94, t95, t96, t97, t98, t99, t100, t101, t102, t103], defers := [] } : Act).tmps) = true then Oper.wp Tryd.prog { dst := some 81, op := Op.indexAddr 22 (Operand.tmp 68) (Operand.tmp 69), type := 0, pos := "law.go:104", after := #[{ on := 1, ground := Ground.data }, { on := 2, ground := Ground.data }, { on := 0, ground := Ground.phase }, { on := 1, ground := Ground.phase }, { on := 2, ground := Ground.phase }, { on := 3, ground := Ground.phase }, { on := 4, ground := Ground.phase }, { on := 5, ground := Ground.phase }, { on := 6, ground := Ground.phase }, { on := 7, ground := Ground.phase }, { on := 8, ground := Ground.phase }, { on := 9, ground := Ground.phase }, { on := 10, ground := Ground.phase }, { on := 11, ground := Ground.phase }, { on := 12, ground := Ground.phase }, { on := 13, ground := Ground.phase }], guard := none } ({ tmps := #[t0, t1, t2, t3, t4, t5, (.pointer (some ⟨gi, 0, none⟩)), (.int .i64 (i : Int)), t8, t9, t10, t11, t12, t13, t14, t15, t16, t17, t18, t19, t20, t21, t22, t23, t24, t25, t26, t27, t28, t29, t30, t31, t32, t33, t34, t35, t36, t37, t38, t39, t40, t41, t42, t43, t44, t45, t46, t47, t48, t49, t50, t51, t52, t53, t54, t55, t56, t57, t58, t59, t60, t61, t62, t63, t64, t65, t66, x67, x68, x69, x70, x71, x72, x73, x74, x75, x76, x77, x78, x79, x80, x81, x82, t83, t84, t85, t86, t87, t88, t89, t90, t91, t92, t93, t94, t95, t96, t97, t98, t99, t100, t101, t102, t103], defers := [] } : Act) w K Q else E := by
  have e1 := V.v68 d1
  subst e1
  have e2 := V.v69 d2
  subst e2
  have hi2 : (i : Int) < (n : Int) := by omega
  go_simp
  exact hK.out _ _ ⟨_, _, _, _, _, _, _, _, _, _, _, _, _, _, _, _, _, rfl, (J.pure 14 (by decide) (by decide) (by decide) (by decide) (by decide)), V.s14⟩

set_option maxRecDepth 100000 in
theorem r12_15 (J : J12 40 3 w0 cs [.int .i64 27, .int .i64 0, .int .i64 0] k ⟨r, i * 6 + 4, none⟩ D x70 x77 x79 x80 w1 w) (V : V12 gi r n cF i vo D x67 x68 x69 x71 x72 x73 x74 x75 x76 x78 x81 x82) (d14 : D 14 = true) (hK : Shut (∀ a' w', I12 gi r n cF i vo w0 cs k t0 t1 t2 t3 t4 t5 t8 t9 t10 t11 t12 t13 t14 t15 t16 t17 t18 t19 t20 t21 t22 t23 t24 t25 t26 t27 t28 t29 t30 t31 t32 t33 t34 t35 t36 t37 t38 t39 t40 t41 t42 t43 t44 t45 t46 t47 t48 t49 t50 t51 t52 t53 t54 t55 t56 t57 t58 t59 t60 t61 t62 t63 t64 t65 t66 t83 t84 t85 t86 t87 t88 t89 t90 t91 t92 t93 t94 t95 t96 t97 t98 t99 t100 t101 t102 t103 (updD D 15) a' w' → K a' w')) :
    if Region.wanted { dst := some 82, op := Op.fieldAddr 38 (Operand.tmp 81) 4, type := 0, pos := "law.go:104", after := #[{ on := 14, ground := Ground.data }, { on := 0, ground := Ground.phase }, { on := 1, ground := Ground.phase }, { on := 2, ground := Ground.phase }, { on := 3, ground := Ground.phase }, { on := 4, ground := Ground.phase }, { on := 5, ground := Ground.phase }, { on := 6, ground := Ground.phase }, { on := 7, ground := Ground.phase }, { on := 8, ground := Ground.phase }, { on := 9, ground := Ground.phase }, { on := 10, ground := Ground.phase }, { on := 11, ground := Ground.phase }, { on := 12, ground := Ground.phase }, { on := 13, ground := Ground.phase }], guard := none } (yielded ops ({ tmps := #[t0, t1, t2, t3, t4, t5, (.pointer (some ⟨gi, 0, none⟩)), (.int .i64 (i : Int)), t8, t9, t10, t11, t12, t13, t14, t15, t16, t17, t18, t19, t20, t21, t22, t23, t24, t25, t26, t27, t28, t29, t30, t31, t32, t33, t34, t35, t36, t37, t38, t39, t40, t41, t42, t43, t44, t45, t46, t47, t48, t49, t50, t51, t52, t53, t54, t55, t56, t57, t58, t59, t60, t61, t62, t63, t64, t65, t66, x67, x68, x69, x70, x71, x72, x73, x74, x75, x76, x77, x78, x79, x80, x81, x82, t83, t84, t85, t86, t87, t88, t89, t90, t91, t92, t93, t94, t95, t96, t97, t98, t99, t100, t101, t102, t103], defers := [] } : Act).tmps) = true then Oper.wp Tryd.prog { dst := some 82, op := Op.fieldAddr 38 (Operand.tmp 81) 4, type := 0, pos := "law.go:104", after := #[{ on := 14, ground := Ground.data }, { on := 0, ground := Ground.phase }, { on := 1, ground := Ground.phase }, { on := 2, ground := Ground.phase }, { on := 3, ground := Ground.phase }, { on := 4, ground := Ground.phase }, { on := 5, ground := Ground.phase }, { on := 6, ground := Ground.phase }, { on := 7, ground := Ground.phase }, { on := 8, ground := Ground.phase }, { on := 9, ground := Ground.phase }, { on := 10, ground := Ground.phase }, { on := 11, ground := Ground.phase }, { on := 12, ground := Ground.phase }, { on := 13, ground := Ground.phase }], guard := none } ({ tmps := #[t0, t1, t2, t3, t4, t5, (.pointer (some ⟨gi, 0, none⟩)), (.int .i64 (i : Int)), t8, t9, t10, t11, t12, t13, t14, t15, t16, t17, t18, t19, t20, t21, t22, t23, t24, t25, t26, t27, t28, t29, t30, t31, t32, t33, t34, t35, t36, t37, t38, t39, t40, t41, t42, t43, t44, t45, t46, t47, t48, t49, t50, t51, t52, t53, t54, t55, t56, t57, t58, t59, t60, t61, t62, t63, t64, t65, t66, x67, x68, x69, x70, x71, x72, x73, x74, x75, x76, x77, x78, x79, x80, x81, x82, t83, t84, t85, t86, t87, t88, t89, t90, t91, t92, t93, t94, t95, t96, t97, t98, t99, t100, t101, t102, t103], defers := [] } : Act) w K Q else E := by
  have e14 := V.v81 d14
  subst e14
  go_simp
  exact hK.out _ _ ⟨_, _, _, _, _, _, _, _, _, _, _, _, _, _, _, _, _, rfl, (J.pure 15 (by decide) (by decide) (by decide) (by decide) (by decide)), V.s15⟩

set_option maxRecDepth 100000 in
theorem r12_16 (J : J12 40 3 w0 cs [.int .i64 27, .int .i64 0, .int .i64 0] k ⟨r, i * 6 + 4, none⟩ D x70 x77 x79 x80 w1 w) (V : V12 gi r n cF i vo D x67 x68 x69 x71 x72 x73 x74 x75 x76 x78 x81 x82) (d3 : D 3 = true) (d10 : D 10 = true) (d12 : D 12 = true) (d13 : D 13 = true) (d15 : D 15 = true) (hD : D 16 = false) {c0 : Value} (zc : w.cell? ⟨r, i * 6 + 4, none⟩ = some c0) (zf : w.frozen? ⟨r, i * 6 + 4, none⟩ = false) (hK : Shut (∀ a' w', I12 gi r n cF i vo w0 cs k t0 t1 t2 t3 t4 t5 t8 t9 t10 t11 t12 t13 t14 t15 t16 t17 t18 t19 t20 t21 t22 t23 t24 t25 t26 t27 t28 t29 t30 t31 t32 t33 t34 t35 t36 t37 t38 t39 t40 t41 t42 t43 t44 t45 t46 t47 t48 t49 t50 t51 t52 t53 t54 t55 t56 t57 t58 t59 t60 t61 t62 t63 t64 t65 t66 t83 t84 t85 t86 t87 t88 t89 t90 t91 t92 t93 t94 t95 t96 t97 t98 t99 t100 t101 t102 t103 (updD D 16) a' w' → K a' w')) :
    if Region.wanted { dst := none, op := Op.store 35 (Operand.tmp 82) (Operand.tmp 80), type := 0, pos := "law.go:104", after := #[{ on := 15, ground := Ground.data }, { on := 13, ground := Ground.data }, { on := 13, ground := Ground.chain }, { on := 0, ground := Ground.phase }, { on := 1, ground := Ground.phase }, { on := 2, ground := Ground.phase }, { on := 3, ground := Ground.phase }, { on := 4, ground := Ground.phase }, { on := 5, ground := Ground.phase }, { on := 6, ground := Ground.phase }, { on := 7, ground := Ground.phase }, { on := 8, ground := Ground.phase }, { on := 9, ground := Ground.phase }, { on := 10, ground := Ground.phase }, { on := 11, ground := Ground.phase }, { on := 12, ground := Ground.phase }, { on := 13, ground := Ground.phase }], guard := none } (yielded ops ({ tmps := #[t0, t1, t2, t3, t4, t5, (.pointer (some ⟨gi, 0, none⟩)), (.int .i64 (i : Int)), t8, t9, t10, t11, t12, t13, t14, t15, t16, t17, t18, t19, t20, t21, t22, t23, t24, t25, t26, t27, t28, t29, t30, t31, t32, t33, t34, t35, t36, t37, t38, t39, t40, t41, t42, t43, t44, t45, t46, t47, t48, t49, t50, t51, t52, t53, t54, t55, t56, t57, t58, t59, t60, t61, t62, t63, t64, t65, t66, x67, x68, x69, x70, x71, x72, x73, x74, x75, x76, x77, x78, x79, x80, x81, x82, t83, t84, t85, t86, t87, t88, t89, t90, t91, t92, t93, t94, t95, t96, t97, t98, t99, t100, t101, t102, t103], defers := [] } : Act).tmps) = true then Oper.wp Tryd.prog { dst := none, op := Op.store 35 (Operand.tmp 82) (Operand.tmp 80), type := 0, pos := "law.go:104", after := #[{ on := 15, ground := Ground.data }, { on := 13, ground := Ground.data }, { on := 13, ground := Ground.chain }, { on := 0, ground := Ground.phase }, { on := 1, ground := Ground.phase }, { on := 2, ground := Ground.phase }, { on := 3, ground := Ground.phase }, { on := 4, ground := Ground.phase }, { on := 5, ground := Ground.phase }, { on := 6, ground := Ground.phase }, { on := 7, ground := Ground.phase }, { on := 8, ground := Ground.phase }, { on := 9, ground := Ground.phase }, { on := 10, ground := Ground.phase }, { on := 11, ground := Ground.phase }, { on := 12, ground := Ground.phase }, { on := 13, ground := Ground.phase }], guard := none } ({ tmps := #[t0, t1, t2, t3, t4, t5, (.pointer (some ⟨gi, 0, none⟩)), (.int .i64 (i : Int)), t8, t9, t10, t11, t12, t13, t14, t15, t16, t17, t18, t19, t20, t21, t22, t23, t24, t25, t26, t27, t28, t29, t30, t31, t32, t33, t34, t35, t36, t37, t38, t39, t40, t41, t42, t43, t44, t45, t46, t47, t48, t49, t50, t51, t52, t53, t54, t55, t56, t57, t58, t59, t60, t61, t62, t63, t64, t65, t66, x67, x68, x69, x70, x71, x72, x73, x74, x75, x76, x77, x78, x79, x80, x81, x82, t83, t84, t85, t86, t87, t88, t89, t90, t91, t92, t93, t94, t95, t96, t97, t98, t99, t100, t101, t102, t103], defers := [] } : Act) w K Q else E := by
  have e15 := V.v82 d15
  subst e15
  obtain ⟨sa, sc, e80⟩ := (J.r80 d13).form
  subst e80
  go_simp
  exact hK.out _ _ ⟨_, _, _, _, _, _, _, _, _, _, _, _, _, _, _, _, _, rfl, J.s16 d3 d10 d12 d13 hD, V.s16⟩

set_option maxRecDepth 100000 in
theorem reg12 {oa : Option Addr} {oc : Nat} (hi : i < n) (hcg : w.cell? ⟨gi, 0, none⟩ = some (.slice (some ⟨r, 0, none⟩) n cF)) (hgi : gi < w.heap.size) (hr : r < w.heap.size) (hvo : vo = .slice oa k oc) (hcp : w.cell? ⟨r, i * 6 + 4, none⟩ = some (.slice oa k oc)) (hfz : w.frozen? ⟨r, i * 6 + 4, none⟩ = false)
    (hsl : Sl w (fun _ => True) vo k 3 cs) (h1 : ∀ u ∈ cs, u.oneCell' = true) (hk : k ≤ 1000000)
    (h : ∀ D a w', I12 gi r n cF i vo w cs k t0 t1 t2 t3 t4 t5 t8 t9 t10 t11 t12 t13 t14 t15 t16 t17 t18 t19 t20 t21 t22 t23 t24 t25 t26 t27 t28 t29 t30 t31 t32 t33 t34 t35 t36 t37 t38 t39 t40 t41 t42 t43 t44 t45 t46 t47 t48 t49 t50 t51 t52 t53 t54 t55 t56 t57 t58 t59 t60 t61 t62 t63 t64 t65 t66 t83 t84 t85 t86 t87 t88 t89 t90 t91 t92 t93 t94 t95 t96 t97 t98 t99 t100 t101 t102 t103 D a w' → (∀ i, i < 17 → D i = true) → Q .normal a w') :
    (Code.region 12 #[{ dst := some 67, op := Op.fieldAddr 26 (Operand.tmp 6) 0, type := 0, pos := "law.go:104", after := #[], guard := none }, { dst := some 68, op := Op.load 22 (Operand.tmp 67), type := 22, pos := "law.go:104", after := #[{ on := 0, ground := Ground.data }], guard := none }, { dst := some 69, op := Op.move (Operand.tmp 7), type := 3, pos := "law.go:104", after := #[], guard := none }, { dst := some 70, op := Op.buildSlice 35 0 #[], type := 35, pos := "law.go:104", after := #[], guard := none }, { dst := some 71, op := Op.fieldAddr 26 (Operand.tmp 6) 0, type := 0, pos := "law.go:104", after := #[], guard := none }, { dst := some 72, op := Op.load 22 (Operand.tmp 71), type := 22, pos := "law.go:104", after := #[{ on := 4, ground := Ground.data }], guard := none }, { dst := some 73, op := Op.move (Operand.tmp 7), type := 3, pos := "law.go:104", after := #[], guard := none }, { dst := some 74, op := Op.indexAddr 22 (Operand.tmp 72) (Operand.tmp 73), type := 0, pos := "law.go:104", after := #[{ on := 5, ground := Ground.data }, { on := 6, ground := Ground.data }], guard := none }, { dst := some 75, op := Op.fieldAddr 38 (Operand.tmp 74) 4, type := 0, pos := "law.go:104", after := #[{ on := 7, ground := Ground.data }], guard := none }, { dst := some 76, op := Op.load 35 (Operand.tmp 75), type := 35, pos := "law.go:104", after := #[{ on := 8, ground := Ground.data }], guard := none }, { dst := some 77, op := Op.call { callee := Callee.builtin Builtin.append, args := #[Operand.tmp 70, Operand.tmp 76], argTypes := #[35, 35] }, type := 35, pos := "law.go:104", after := #[{ on := 3, ground := Ground.data }, { on := 9, ground := Ground.data }], guard := none }, { dst := some 78, op := Op.build 40 #[(0, Operand.const (Value.int IntKind.i64 27))], type := 40, pos := "law.go:104", after := #[], guard := none }, { dst := some 79, op := Op.buildSlice 35 1 #[(0, Operand.tmp 78)], type := 35, pos := "law.go:104", after := #[{ on := 11, ground := Ground.data }], guard := none }, { dst := some 80, op := Op.call { callee := Callee.builtin Builtin.append, args := #[Operand.tmp 77, Operand.tmp 79], argTypes := #[35, 35] }, type := 35, pos := "law.go:104", after := #[{ on := 10, ground := Ground.data }, { on := 12, ground := Ground.data }, { on := 10, ground := Ground.chain }], guard := none }, { dst := some 81, op := Op.indexAddr 22 (Operand.tmp 68) (Operand.tmp 69), type := 0, pos := "law.go:104", after := #[{ on := 1, ground := Ground.data }, { on := 2, ground := Ground.data }, { on := 0, ground := Ground.phase }, { on := 1, ground := Ground.phase }, { on := 2, ground := Ground.phase }, { on := 3, ground := Ground.phase }, { on := 4, ground := Ground.phase }, { on := 5, ground := Ground.phase }, { on := 6, ground := Ground.phase }, { on := 7, ground := Ground.phase }, { on := 8, ground := Ground.phase }, { on := 9, ground := Ground.phase }, { on := 10, ground := Ground.phase }, { on := 11, ground := Ground.phase }, { on := 12, ground := Ground.phase }, { on := 13, ground := Ground.phase }], guard := none }, { dst := some 82, op := Op.fieldAddr 38 (Operand.tmp 81) 4, type := 0, pos := "law.go:104", after := #[{ on := 14, ground := Ground.data }, { on := 0, ground := Ground.phase }, { on := 1, ground := Ground.phase }, { on := 2, ground := Ground.phase }, { on := 3, ground := Ground.phase }, { on := 4, ground := Ground.phase }, { on := 5, ground := Ground.phase }, { on := 6, ground := Ground.phase }, { on := 7, ground := Ground.phase }, { on := 8, ground := Ground.phase }, { on := 9, ground := Ground.phase }, { on := 10, ground := Ground.phase }, { on := 11, ground := Ground.phase }, { on := 12, ground := Ground.phase }, { on := 13, ground := Ground.phase }], guard := none }, { dst := none, op := Op.store 35 (Operand.tmp 82) (Operand.tmp 80), type := 0, pos := "law.go:104", after := #[{ on := 15, ground := Ground.data }, { on := 13, ground := Ground.data }, { on := 13, ground := Ground.chain }, { on := 0, ground := Ground.phase }, { on := 1, ground := Ground.phase }, { on := 2, ground := Ground.phase }, { on := 3, ground := Ground.phase }, { on := 4, ground := Ground.phase }, { on := 5, ground := Ground.phase }, { on := 6, ground := Ground.phase }, { on := 7, ground := Ground.phase }, { on := 8, ground := Ground.phase }, { on := 9, ground := Ground.phase }, { on := 10, ground := Ground.phase }, { on := 11, ground := Ground.phase }, { on := 12, ground := Ground.phase }, { on := 13, ground := Ground.phase }], guard := none }] true).wp Tryd.prog Q ({ tmps := #[t0, t1, t2, t3, t4, t5, (.pointer (some ⟨gi, 0, none⟩)), (.int .i64 (i : Int)), t8, t9, t10, t11, t12, t13, t14, t15, t16, t17, t18, t19, t20, t21, t22, t23, t24, t25, t26, t27, t28, t29, t30, t31, t32, t33, t34, t35, t36, t37, t38, t39, t40, t41, t42, t43, t44, t45, t46, t47, t48, t49, t50, t51, t52, t53, t54, t55, t56, t57, t58, t59, t60, t61, t62, t63, t64, t65, t66, x67, x68, x69, x70, x71, x72, x73, x74, x75, x76, x77, x78, x79, x80, x81, x82, t83, t84, t85, t86, t87, t88, t89, t90, t91, t92, t93, t94, t95, t96, t97, t98, t99, t100, t101, t102, t103], defers := [] } : Act) w := by
  refine wp_region_I (by kernel_rfl) (by kernel_rfl) (fun D a w' => I12 gi r n cF i vo w cs k t0 t1 t2 t3 t4 t5 t8 t9 t10 t11 t12 t13 t14 t15 t16 t17 t18 t19 t20 t21 t22 t23 t24 t25 t26 t27 t28 t29 t30 t31 t32 t33 t34 t35 t36 t37 t38 t39 t40 t41 t42 t43 t44 t45 t46 t47 t48 t49 t50 t51 t52 t53 t54 t55 t56 t57 t58 t59 t60 t61 t62 t63 t64 t65 t66 t83 t84 t85 t86 t87 t88 t89 t90 t91 t92 t93 t94 t95 t96 t97 t98 t99 t100 t101 t102 t103 D a w' ∧ (D 16 = true → ∀ j, j < 14 → D j = true)) ?_ (fun D a w' hI hall => h D a w' hI.1 hall) ⟨⟨_, _, _, _, _, _, _, _, _, _, _, _, _, _, _, _, _, rfl, J12.start ((Bw.refl w).drew), V12.start⟩, fun h => by cases h⟩
  intro o' o D a w' ho hI hD hd K' hK
  obtain ⟨⟨y67, y68, y69, y70, y71, y72, y73, y74, y75, y76, y77, y78, y79, y80, y81, y82, w1, rfl, J, V⟩, hC⟩ := hI
  have H0 : D 16 = false → w'.cell? ⟨gi, 0, none⟩ = some (.slice (some ⟨r, 0, none⟩) n cF) := fun e => by rw [J.e0 e]; exact (World.cell?_of_block (w := w) (w' := w1) (a := ⟨gi, 0, none⟩) (J.b.block gi hgi)).trans hcg
  have H1 : D 16 = false → w'.cell? ⟨r, i * 6 + 4, none⟩ = some (.slice oa k oc) := fun e => by rw [J.e0 e]; exact (World.cell?_of_block (w := w) (w' := w1) (a := ⟨r, i * 6 + 4, none⟩) (J.b.block r hr)).trans hcp
  have H2 : D 16 = false → w'.frozen? ⟨r, i * 6 + 4, none⟩ = false := fun e => by rw [J.e0 e, ← hfz]; simp only [World.frozen?, J.b.block r hr]
  have H3 : D 16 = false → Sl w' (fun _ => True) vo k 3 cs := fun e => by rw [J.e0 e]; exact hsl.keep J.b.size (fun b hlt _ => J.b.block b hlt) (fun _ _ g => g)
  have HC : ∀ j, j < 14 → D j = false → D 16 = false := fun j hj hDj => by
    cases h : D 16 with
    | false => rfl
    | true => rw [hC h j hj] at hDj; cases hDj
  rcases o' with _ | _ | _ | _ | _ | _ | _ | _ | _ | _ | _ | _ | _ | _ | _ | _ | _ | o'
  · obtain rfl : { dst := some 67, op := Op.fieldAddr 26 (Operand.tmp 6) 0, type := 0, pos := "law.go:104", after := #[], guard := none } = o := Option.some.inj (show some _ = some o from ho)
    have d16 := HC 0 (by decide) hD
    exact r12_0 J V  (fun a' w' h' => hK.out a' w' ⟨h', fun h => by rw [show updD D 0 16 = D 16 from rfl, d16] at h; cases h⟩)
  · obtain rfl : { dst := some 68, op := Op.load 22 (Operand.tmp 67), type := 22, pos := "law.go:104", after := #[{ on := 0, ground := Ground.data }], guard := none } = o := Option.some.inj (show some _ = some o from ho)
    have d16 := HC 1 (by decide) hD
    exact r12_1 J V (hd ⟨0, .data⟩ (by simp) rfl) (H0 d16) (fun a' w' h' => hK.out a' w' ⟨h', fun h => by rw [show updD D 1 16 = D 16 from rfl, d16] at h; cases h⟩)
  · obtain rfl : { dst := some 69, op := Op.move (Operand.tmp 7), type := 3, pos := "law.go:104", after := #[], guard := none } = o := Option.some.inj (show some _ = some o from ho)
    have d16 := HC 2 (by decide) hD
    exact r12_2 J V  (fun a' w' h' => hK.out a' w' ⟨h', fun h => by rw [show updD D 2 16 = D 16 from rfl, d16] at h; cases h⟩)
  · obtain rfl : { dst := some 70, op := Op.buildSlice 35 0 #[], type := 35, pos := "law.go:104", after := #[], guard := none } = o := Option.some.inj (show some _ = some o from ho)
    have d16 := HC 3 (by decide) hD
    exact r12_3 J V hD (fun a' w' h' => hK.out a' w' ⟨h', fun h => by rw [show updD D 3 16 = D 16 from rfl, d16] at h; cases h⟩)
  · obtain rfl : { dst := some 71, op := Op.fieldAddr 26 (Operand.tmp 6) 0, type := 0, pos := "law.go:104", after := #[], guard := none } = o := Option.some.inj (show some _ = some o from ho)
    have d16 := HC 4 (by decide) hD
    exact r12_4 J V  (fun a' w' h' => hK.out a' w' ⟨h', fun h => by rw [show updD D 4 16 = D 16 from rfl, d16] at h; cases h⟩)
  · obtain rfl : { dst := some 72, op := Op.load 22 (Operand.tmp 71), type := 22, pos := "law.go:104", after := #[{ on := 4, ground := Ground.data }], guard := none } = o := Option.some.inj (show some _ = some o from ho)
    have d16 := HC 5 (by decide) hD
    exact r12_5 J V (hd ⟨4, .data⟩ (by simp) rfl) (H0 d16) (fun a' w' h' => hK.out a' w' ⟨h', fun h => by rw [show updD D 5 16 = D 16 from rfl, d16] at h; cases h⟩)
  · obtain rfl : { dst := some 73, op := Op.move (Operand.tmp 7), type := 3, pos := "law.go:104", after := #[], guard := none } = o := Option.some.inj (show some _ = some o from ho)
    have d16 := HC 6 (by decide) hD
    exact r12_6 J V  (fun a' w' h' => hK.out a' w' ⟨h', fun h => by rw [show updD D 6 16 = D 16 from rfl, d16] at h; cases h⟩)
  · obtain rfl : { dst := some 74, op := Op.indexAddr 22 (Operand.tmp 72) (Operand.tmp 73), type := 0, pos := "law.go:104", after := #[{ on := 5, ground := Ground.data }, { on := 6, ground := Ground.data }], guard := none } = o := Option.some.inj (show some _ = some o from ho)
    have d16 := HC 7 (by decide) hD
    exact r12_7 J V (hd ⟨5, .data⟩ (by simp) rfl) (hd ⟨6, .data⟩ (by simp) rfl) hi (fun a' w' h' => hK.out a' w' ⟨h', fun h => by rw [show updD D 7 16 = D 16 from rfl, d16] at h; cases h⟩)
  · obtain rfl : { dst := some 75, op := Op.fieldAddr 38 (Operand.tmp 74) 4, type := 0, pos := "law.go:104", after := #[{ on := 7, ground := Ground.data }], guard := none } = o := Option.some.inj (show some _ = some o from ho)
    have d16 := HC 8 (by decide) hD
    exact r12_8 J V (hd ⟨7, .data⟩ (by simp) rfl) (fun a' w' h' => hK.out a' w' ⟨h', fun h => by rw [show updD D 8 16 = D 16 from rfl, d16] at h; cases h⟩)
  · obtain rfl : { dst := some 76, op := Op.load 35 (Operand.tmp 75), type := 35, pos := "law.go:104", after := #[{ on := 8, ground := Ground.data }], guard := none } = o := Option.some.inj (show some _ = some o from ho)
    have d16 := HC 9 (by decide) hD
    exact r12_9 J V (hd ⟨8, .data⟩ (by simp) rfl) (H1 d16) hvo (fun a' w' h' => hK.out a' w' ⟨h', fun h => by rw [show updD D 9 16 = D 16 from rfl, d16] at h; cases h⟩)
  · obtain rfl : { dst := some 77, op := Op.call { callee := Callee.builtin Builtin.append, args := #[Operand.tmp 70, Operand.tmp 76], argTypes := #[35, 35] }, type := 35, pos := "law.go:104", after := #[{ on := 3, ground := Ground.data }, { on := 9, ground := Ground.data }], guard := none } = o := Option.some.inj (show some _ = some o from ho)
    have d16 := HC 10 (by decide) hD
    exact r12_10 J V (hd ⟨3, .data⟩ (by simp) rfl) (hd ⟨9, .data⟩ (by simp) rfl) h1 hk (H3 d16) hD (fun a' w' h' => hK.out a' w' ⟨h', fun h => by rw [show updD D 10 16 = D 16 from rfl, d16] at h; cases h⟩)
  · obtain rfl : { dst := some 78, op := Op.build 40 #[(0, Operand.const (Value.int IntKind.i64 27))], type := 40, pos := "law.go:104", after := #[], guard := none } = o := Option.some.inj (show some _ = some o from ho)
    have d16 := HC 11 (by decide) hD
    exact r12_11 J V  (fun a' w' h' => hK.out a' w' ⟨h', fun h => by rw [show updD D 11 16 = D 16 from rfl, d16] at h; cases h⟩)
  · obtain rfl : { dst := some 79, op := Op.buildSlice 35 1 #[(0, Operand.tmp 78)], type := 35, pos := "law.go:104", after := #[{ on := 11, ground := Ground.data }], guard := none } = o := Option.some.inj (show some _ = some o from ho)
    have d16 := HC 12 (by decide) hD
    exact r12_12 J V (hd ⟨11, .data⟩ (by simp) rfl) hD (fun a' w' h' => hK.out a' w' ⟨h', fun h => by rw [show updD D 12 16 = D 16 from rfl, d16] at h; cases h⟩)
  · obtain rfl : { dst := some 80, op := Op.call { callee := Callee.builtin Builtin.append, args := #[Operand.tmp 77, Operand.tmp 79], argTypes := #[35, 35] }, type := 35, pos := "law.go:104", after := #[{ on := 10, ground := Ground.data }, { on := 12, ground := Ground.data }, { on := 10, ground := Ground.chain }], guard := none } = o := Option.some.inj (show some _ = some o from ho)
    have d16 := HC 13 (by decide) hD
    exact r12_13 J V (hd ⟨10, .data⟩ (by simp) rfl) (hd ⟨12, .data⟩ (by simp) rfl) hk hD (fun a' w' h' => hK.out a' w' ⟨h', fun h => by rw [show updD D 13 16 = D 16 from rfl, d16] at h; cases h⟩)
  · obtain rfl : { dst := some 81, op := Op.indexAddr 22 (Operand.tmp 68) (Operand.tmp 69), type := 0, pos := "law.go:104", after := #[{ on := 1, ground := Ground.data }, { on := 2, ground := Ground.data }, { on := 0, ground := Ground.phase }, { on := 1, ground := Ground.phase }, { on := 2, ground := Ground.phase }, { on := 3, ground := Ground.phase }, { on := 4, ground := Ground.phase }, { on := 5, ground := Ground.phase }, { on := 6, ground := Ground.phase }, { on := 7, ground := Ground.phase }, { on := 8, ground := Ground.phase }, { on := 9, ground := Ground.phase }, { on := 10, ground := Ground.phase }, { on := 11, ground := Ground.phase }, { on := 12, ground := Ground.phase }, { on := 13, ground := Ground.phase }], guard := none } = o := Option.some.inj (show some _ = some o from ho)
    exact r12_14 J V (hd ⟨1, .data⟩ (by simp) rfl) (hd ⟨2, .data⟩ (by simp) rfl) hi (fun a' w' h' => hK.out a' w' ⟨h', fun h j hj => by rw [show updD D 14 j = D j from if_neg (by omega)]; exact hC h j hj⟩)
  · obtain rfl : { dst := some 82, op := Op.fieldAddr 38 (Operand.tmp 81) 4, type := 0, pos := "law.go:104", after := #[{ on := 14, ground := Ground.data }, { on := 0, ground := Ground.phase }, { on := 1, ground := Ground.phase }, { on := 2, ground := Ground.phase }, { on := 3, ground := Ground.phase }, { on := 4, ground := Ground.phase }, { on := 5, ground := Ground.phase }, { on := 6, ground := Ground.phase }, { on := 7, ground := Ground.phase }, { on := 8, ground := Ground.phase }, { on := 9, ground := Ground.phase }, { on := 10, ground := Ground.phase }, { on := 11, ground := Ground.phase }, { on := 12, ground := Ground.phase }, { on := 13, ground := Ground.phase }], guard := none } = o := Option.some.inj (show some _ = some o from ho)
    exact r12_15 J V (hd ⟨14, .data⟩ (by simp) rfl) (fun a' w' h' => hK.out a' w' ⟨h', fun h j hj => by rw [show updD D 15 j = D j from if_neg (by omega)]; exact hC h j hj⟩)
  · obtain rfl : { dst := none, op := Op.store 35 (Operand.tmp 82) (Operand.tmp 80), type := 0, pos := "law.go:104", after := #[{ on := 15, ground := Ground.data }, { on := 13, ground := Ground.data }, { on := 13, ground := Ground.chain }, { on := 0, ground := Ground.phase }, { on := 1, ground := Ground.phase }, { on := 2, ground := Ground.phase }, { on := 3, ground := Ground.phase }, { on := 4, ground := Ground.phase }, { on := 5, ground := Ground.phase }, { on := 6, ground := Ground.phase }, { on := 7, ground := Ground.phase }, { on := 8, ground := Ground.phase }, { on := 9, ground := Ground.phase }, { on := 10, ground := Ground.phase }, { on := 11, ground := Ground.phase }, { on := 12, ground := Ground.phase }, { on := 13, ground := Ground.phase }], guard := none } = o := Option.some.inj (show some _ = some o from ho)
    exact r12_16 J V (hd ⟨3, .phase⟩ (by simp) rfl) (hd ⟨10, .phase⟩ (by simp) rfl) (hd ⟨12, .phase⟩ (by simp) rfl) (hd ⟨13, .data⟩ (by simp) rfl) (hd ⟨15, .data⟩ (by simp) rfl) hD (H1 hD) (H2 hD) (fun a' w' h' => hK.out a' w' ⟨h', fun h j hj => by
      rw [show updD D 16 j = D j from if_neg (by omega)]
      rcases j with _ | _ | _ | _ | _ | _ | _ | _ | _ | _ | _ | _ | _ | _ | j
      · exact hd ⟨0, .phase⟩ (by simp) rfl
      · exact hd ⟨1, .phase⟩ (by simp) rfl
      · exact hd ⟨2, .phase⟩ (by simp) rfl
      · exact hd ⟨3, .phase⟩ (by simp) rfl
      · exact hd ⟨4, .phase⟩ (by simp) rfl
      · exact hd ⟨5, .phase⟩ (by simp) rfl
      · exact hd ⟨6, .phase⟩ (by simp) rfl
      · exact hd ⟨7, .phase⟩ (by simp) rfl
      · exact hd ⟨8, .phase⟩ (by simp) rfl
      · exact hd ⟨9, .phase⟩ (by simp) rfl
      · exact hd ⟨10, .phase⟩ (by simp) rfl
      · exact hd ⟨11, .phase⟩ (by simp) rfl
      · exact hd ⟨12, .phase⟩ (by simp) rfl
      · exact hd ⟨13, .phase⟩ (by simp) rfl
      · omega⟩)
  · exact absurd ho (by simp)

end

end Go.Proofs.YtcljlmjcjfmppaaDoor
