/- What Parse defers: contracts. -/
import Derived.Test.YtlcieebneclmpaaDoorK7
import Derived.Recover
import Derived.Defers
set_option linter.unusedSimpArgs false
set_option linter.unusedVariables false
namespace Go.Proofs.YtlcieebneclmpaaDoor
open Go Go.RowKit

theorem wp_named {P : Program} {c : Code} {Q : Exit → Act → World → Prop} {a : Act} {w : World} (h : ∀ Q', Hid (Q' = Q) → c.wp P Q' a w) : c.wp P Q a w := h Q (hid rfl)

set_option maxRecDepth 100000 in
set_option maxHeartbeats 4000000 in
theorem catch_idle (p2 p3 p4 : Addr) (w : World) :
    CallsD Tryd.prog 25 #[.pointer (some p2), .pointer (some p3), .pointer (some p4)] .returning w fun e u' w' => e = .returned (.tuple #[]) ∧ u' = .returning ∧ w' = w := by
  refine callsD_of_wpS Tryd.func25 rfl fun c₀ cs hu => ?_
  apply wpS_seq
  apply wpS_region
  simp [wpOpsS, go_sem, recoverD, hu, Tryd.ntmps25, Exit.thenS]
  apply wpS_seq
  apply wpS_region
  simp [wpOpsS, go_sem, Exit.thenS]
  refine wpS_cond (t := false) (by simp [Act.eval]) ?_
  simp only [Bool.false_eq_true, if_false]
  refine wpS_of_wp (wp_skip ?_)
  cases c₀
  simp_all [bodyPostS, results, Tryd.results25]

theorem run_assert_fault (e a : Int) (w : World) : (Instr.typeAssert (.iface 55 (.agg #[.int .i64 e, .int .i64 a])) 20 55 true).run Tryd.prog w = .ok (.tuple #[.agg #[.int .i64 e, .int .i64 a], .bool true]) w := by kernel_rfl

set_option maxRecDepth 100000 in
set_option maxHeartbeats 4000000 in
theorem catch_fault (n m : Int) (a : Nat) (v2 v3 v4 : Value) (older : List PanicEntry) (w : World) (h2 : Blk w a #[v2] 22) (h3 : Blk w (a + 1) #[v3] 24) (h4 : Blk w (a + 1 + 1) #[v4] 3) :
    CallsD Tryd.prog 25 #[.pointer (some ⟨a, 0, none⟩), .pointer (some ⟨a + 1, 0, none⟩), .pointer (some ⟨a + 1 + 1, 0, none⟩)] (.panicking ({ v := .iface 55 (.agg #[.int .i64 n, .int .i64 m]), recovered := false } :: older)) w fun e u' w' =>
      e = .returned (.tuple #[]) ∧ u' = .panicking ({ v := .iface 55 (.agg #[.int .i64 n, .int .i64 m]), recovered := true } :: older) ∧ w'.cell? ⟨a, 0, none⟩ = some (.slice none 0 0) ∧ w'.cell? ⟨a + 1, 0, none⟩ = some (.int .i64 n) ∧ w'.cell? ⟨a + 1 + 1, 0, none⟩ = some (.int .i64 m) ∧ Below a w w' := by
  have c2 := h2.cell
  have c3 := h3.cell
  have c4 := h4.cell
  have f2 := h2.free
  have f3 := h3.free
  have f4 := h4.free
  have l4 := h4.lt
  have l2 := h2.lt
  have l3 := h3.lt
  have hra := run_assert_fault n m
  refine callsD_of_wpS Tryd.func25 rfl fun c₀ cs hu => ?_
  apply wpS_seq
  apply wpS_region
  simp [wpOpsS, go_sem, recoverD, hu, Tryd.ntmps25, Exit.thenS]
  apply wpS_seq
  apply wpS_region
  simp [wpOpsS, go_sem, Exit.thenS]
  refine wpS_cond (t := true) (by simp [Act.eval]) ?_
  simp only [if_true]
  refine wpS_of_wp (wp_named fun Q HQ => ?_)
  change Code.wp _ _ _ { tmps := #[.pointer (some ⟨a, 0, none⟩), .pointer (some ⟨a + 1, 0, none⟩), .pointer (some ⟨a + 1 + 1, 0, none⟩), Value.iface 55 (.agg #[.int .i64 n, .int .i64 m]), undef, undef, Value.iface 55 (.agg #[.int .i64 n, .int .i64 m]), Value.iface 55 (.agg #[.int .i64 n, .int .i64 m]), .bool true, undef, undef, undef, undef, undef, undef, undef, undef, undef, undef, undef, undef], defers := [] } _
  have HU := hid hu
  have H2 := hid h2
  have H3 := hid h3
  have H4 := hid h4
  clear hu h2 h3 h4
  go_upto_region 5 with fail
  go_region
  all_goals
    rw [HQ.out]
    refine ⟨rfl, _, rfl, .tuple #[], by simp [results, Tryd.results25, go_sem], rfl, rfl, ?_, ?_, ?_, ?_⟩
    · simp [go_sem, *]
    · simp [go_sem, *]
    · simp [go_sem, *]
    · repeat (first | exact Below.refl _ _ | apply Below.drew | (refine Below.setCell ?_ (by first | exact Nat.le_refl _ | (dsimp only; omega)) _) | (refine Below.alloc ?_ (by first | omega | (simp [World.setCell]; omega)) _))

end Go.Proofs.YtlcieebneclmpaaDoor

