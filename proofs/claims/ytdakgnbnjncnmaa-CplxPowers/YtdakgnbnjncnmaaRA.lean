/- The document's answers, function by function, and the statements' own helpers: their contracts; what was there stays as it was. -/
import Derived.Test.YtdakgnbnjncnmaaW1
set_option linter.unusedSimpArgs false
set_option linter.unusedVariables false
namespace Go.Proofs.Ytdakgnbnjncnmaa
open Go Go.RowKit

/-- A struct of two floats, of two words. -/
abbrev zf (a b : Nat) : Value := .agg #[.float .f64 a, .float .f64 b]
abbrev zu (a b : Int) : Value := .agg #[.int .u64 a, .int .u64 b]

theorem told_any (x : Nat) (w : World) : Calls Try.prog 14 #[.float .f64 x] w fun e w' => e = .returned (.int .u64 (cn x : Nat)) ∧ w' = w := by
  have hb := call_bits
  have ho := order_self x
  by_cases h : isn x = true
  · have hc : cn x = nn := by simp [cn, h]
    rw [hc]
    go_enter Try.func14, Try.ntmps14
    go_wp2
    all_goals go_ret
    all_goals exact ⟨rfl, rfl⟩
  · have h : isn x = false := by simpa using h
    rw [cn_of x h]
    go_enter Try.func14, Try.ntmps14
    go_wp2
    all_goals go_ret
    all_goals exact ⟨rfl, rfl⟩

/-- A result that is a struct of two floats, out of its own cells. -/
theorem ret_z {fn : Func} {p : Tmp} (hres : fn.results = #[.cell p 33]) {R : Ending → World → Prop} {act : Act} {w : World} {b r i : Nat} (hd : act.defers = [])
    (hp : act.tmps[p]? = some (.pointer (some ⟨b, 0, none⟩))) (h0 : w.cell? ⟨b, 0, none⟩ = some (.float .f64 r)) (h1 : w.cell? ⟨b, 1, none⟩ = some (.float .f64 i))
    (hR : R (.returned (zf r i)) w) : bodyPost Try.prog fn R .ret act w := by
  refine bodyPost_ret (v := zf r i) ?_ hd hR
  simp [results, hres, hp, h0, h1, go_sem]

theorem of_any (a b : Int) (w : World) : Calls Try.prog 11 #[zu a b] w fun e w' => e = .returned (.complex .f64 (cn a.toNat) (cn b.toNat)) ∧ Ly w w' := by
  go_enter Try.func11, Try.ntmps11
  go_wp2_with (go_at_call 38; refine (made_any _ _ _).mono ?_; rintro e w1 ⟨rfl, rfl⟩)
  go_ret
  exact ⟨rfl, (Ly.refl _).alloc _⟩

theorem num_any (n : Int) (h : 0 ≤ n ∧ n ≤ 1000) (w : World) : Calls Try.prog 31 #[.int .i64 n] w fun e w' => e = .returned (.int .i64 n) ∧ w' = w := by
  go_enter Try.func31, Try.ntmps31
  go_wp2
  go_ret
  exact ⟨rfl, rfl⟩

theorem like_any (a b c d : Nat) (w : World) : Calls Try.prog 12 #[.complex .f64 a b, zf c d] w fun e w' => e = .returned (.bool (sm a b c d)) ∧ Ly w w' := by
  go_enter Try.func12, Try.ntmps12
  go_wp2_with (first | (go_at_call 10; refine (bits_any _ _ _).mono ?_; rintro e w1 ⟨rfl, rfl⟩) | (go_at_call 14; refine (told_any _ _).mono ?_; rintro e w1 ⟨rfl, rfl⟩))
  · rename_i h
    go_ret
    refine ⟨?_, (Ly.refl _).alloc _⟩
    show Ending.returned (.bool (((cn b : Nat) : Int) == ((cn d : Nat) : Int))) = _
    rw [beq_cast, sm, decide_eq_true (show cn a = cn c by omega)]; rfl
  · rename_i h
    go_ret
    refine ⟨?_, (Ly.refl _).alloc _⟩
    show Ending.returned (.bool false) = _
    rw [sm, decide_eq_false (show ¬ cn a = cn c by omega)]; rfl

end Go.Proofs.Ytdakgnbnjncnmaa
