/- The document's lists compared: contracts. -/
import Derived.Test.YtaeifhfhahcoiaaPe
import Derived.BigQuiet
set_option linter.unusedSimpArgs false
set_option linter.unusedVariables false
namespace Go.Proofs.Ytaeifhfhahcoiaa
open Go Go.RowKit

theorem Sl.two {w : World} {G : Nat → Prop} {a : Option Addr} {cap n : Nat} {cs : List Value} (h : Sl w G (.slice a n cap) n 2 cs) {i : Nat} (hi : i < n) :
    ∃ b o, a = some ⟨b, o, none⟩ ∧ b < w.heap.size ∧ w.cell? ⟨b, o + i * 2, none⟩ = cs[i * 2]? ∧ w.cell? ⟨b, o + i * 2 + 1, none⟩ = cs[i * 2 + 1]? := by
  obtain ⟨b, o, e, hlt, _, hc⟩ := h.cellAt (by omega)
  exact ⟨b, o, e, hlt, hc _ (by omega), by rw [Nat.add_assoc]; exact hc _ (by omega)⟩

set_option maxRecDepth 100000 in
set_option maxHeartbeats 1000000 in
theorem sameInts_any {w : World} {G G' : Nat → Prop} (va vb : Value) (l : List Int) (ha : Sl w G va l.length 1 (l.map (Value.int .i64))) (hb : Sl w G' vb l.length 1 (l.map (Value.int .i64))) (hm : l.length ≤ 1000000) :
    Calls Try.prog 23 #[va, vb] w fun e w' => e = .returned (.bool true) ∧ Dn w w' := by
  have HA := hid ha
  have HB := hid hb
  obtain ⟨aa, ca, rfl⟩ := ha.form
  obtain ⟨ab, cb, rfl⟩ := hb.form
  clear ha hb
  go_enter Try.func23, Try.ntmps23
  go_wp2
  go_loopw [5] (fun j wr => ∃ (i : Nat) (m : Nat), i ≤ l.length ∧ j = .int .i64 (i : Nat) ∧ wr = w.drewN m) (fun j _ => l.length - (intOf j).toNat)
  case atStart => exact ⟨0, 0, Nat.zero_le _, rfl, rfl⟩
  case round =>
    obtain ⟨i, m, hi, rfl, rfl⟩ := hrel
    by_cases hlt : i < l.length
    · obtain ⟨g1, o1, rfl, _, x0⟩ := HA.out.at hlt
      obtain ⟨g2, o2, rfl, _, y0⟩ := HB.out.at hlt
      have x0 : w.cell? ⟨g1, o1 + i, none⟩ = some (.int .i64 l[i]) := by rw [x0]; simp [hlt]
      have y0 : w.cell? ⟨g2, o2 + i, none⟩ = some (.int .i64 l[i]) := by rw [y0]; simp [hlt]
      have hlt2 : (i : Int) < (l.length : Int) := by omega
      generalize l[i] = n at x0 y0
      have e1 : (n != n) = false := by simp
      go_wp2
      go_quiet (fail)
      go_wp2
      go_roundw
      case rel => first | exact ⟨i + 1, _, by omega, by go_num, rfl⟩ | exact ⟨i + 1, m + 1, by omega, by go_num, by simp⟩
      case measure => simp [intOf]; omega
    · have hlt2 : ¬ (i : Int) < (l.length : Int) := by omega
      go_wp2
      all_goals go_ret
      all_goals exact ⟨rfl, m, rfl⟩

set_option maxRecDepth 100000 in
set_option maxHeartbeats 1000000 in
theorem sameDeps_any {w : World} {G G' : Nat → Prop} (va vb : Value) (l : List (Int × Int)) (ha : Sl w G va l.length 2 (depC l)) (hb : Sl w G' vb l.length 2 (depC l)) (hm : l.length ≤ 1000000) :
    Calls Try.prog 22 #[va, vb] w fun e w' => e = .returned (.bool true) ∧ Dn w w' := by
  have HA := hid ha
  have HB := hid hb
  obtain ⟨aa, ca, rfl⟩ := ha.form
  obtain ⟨ab, cb, rfl⟩ := hb.form
  clear ha hb
  go_enter Try.func22, Try.ntmps22
  go_wp2
  go_loopw [5] (fun j wr => ∃ (i : Nat) (m : Nat), i ≤ l.length ∧ j = .int .i64 (i : Nat) ∧ wr = w.drewN m) (fun j _ => l.length - (intOf j).toNat)
  case atStart => exact ⟨0, 0, Nat.zero_le _, rfl, rfl⟩
  case round =>
    obtain ⟨i, m, hi, rfl, rfl⟩ := hrel
    by_cases hlt : i < l.length
    · obtain ⟨g1, o1, rfl, _, x0, x1⟩ := HA.out.two hlt
      obtain ⟨g2, o2, rfl, _, y0, y1⟩ := HB.out.two hlt
      obtain ⟨q0, q1⟩ := depC_get l i hlt
      rw [q0] at x0 y0
      rw [q1] at x1 y1
      have hlt2 : (i : Int) < (l.length : Int) := by omega
      generalize l[i].1 = n at x0 y0
      generalize l[i].2 = v at x1 y1
      have e1 : (n != n) = false := by simp
      have e2 : (n == n) = true := by simp
      have e3 : (v != v) = false := by simp
      have e4 : (v == v) = true := by simp
      clear q0 q1
      go_wp2
      go_quiet (fail)
      go_wp2
      go_roundw
      case rel => first | exact ⟨i + 1, _, by omega, by go_num, rfl⟩ | exact ⟨i + 1, m + 1, by omega, by go_num, by simp⟩ | exact ⟨i + 1, m + 2, by omega, by go_num, by simp⟩
      case measure => simp [intOf]; omega
    · have hlt2 : ¬ (i : Int) < (l.length : Int) := by omega
      go_wp2
      all_goals go_ret
      all_goals exact ⟨rfl, m, rfl⟩

end Go.Proofs.Ytaeifhfhahcoiaa
