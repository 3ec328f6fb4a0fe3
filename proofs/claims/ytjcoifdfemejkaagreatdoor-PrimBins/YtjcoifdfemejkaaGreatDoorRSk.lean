/- The document's lists compared: the contract. -/
import Derived.Test.YtjcoifdfemejkaaGreatDoorM1
set_option linter.unusedSimpArgs false
set_option linter.unusedVariables false
namespace Go.Proofs.YtjcoifdfemejkaaGreatDoor
open Go Go.RowKit

/-- Are two lists the same from place i on? -/
def smFrom (x y : List Int) (i : Nat) : Bool := decide (x.drop i = y.drop i)

theorem drop_step (x y : List Int) (i : Nat) (hx : i < x.length) (hy : i < y.length) : (x.drop i = y.drop i) ↔ (x[i] = y[i] ∧ x.drop (i + 1) = y.drop (i + 1)) := by
  rw [List.drop_eq_getElem_cons hx, List.drop_eq_getElem_cons hy, List.cons.injEq]

set_option maxHeartbeats 2000000 in
theorem rsameL_any (G : Nat → Prop) (va vb : Value) (x y : List Int) (w : World) (hx : Sl w G va x.length 1 (x.map (Value.int .u64))) (hy : Sl w G vb y.length 1 (y.map (Value.int .u64)))
    (hm : x.length ≤ 9223372036854775807) (hm' : y.length ≤ 9223372036854775807) :
    Calls Tryz.prog 103 #[va, vb] w fun e w' => e = .returned (.bool (decide (x = y))) ∧ Ly w w' := by
  obtain ⟨a, ca, rfl⟩ := hx.form
  obtain ⟨b, cb, rfl⟩ := hy.form
  have HX := hid hx
  have HY := hid hy
  clear hx hy
  by_cases hl : x.length = y.length
  · have hlb : ((x.length : Int) != (y.length : Int)) = false := by simp [hl]
    have HL := hid hl
    clear hl
    go_enter Tryz.func103, Tryz.ntmps103
    go_wp2
    go_loopw [5] (fun j wr => ∃ k m, k ≤ x.length ∧ j = .int .i64 k ∧ wr = w.drewN m ∧ (decide (x = y) = decide (x.drop k = y.drop k))) (fun j _ => x.length - (intOf j).toNat)
    case atStart => exact ⟨0, 0, Nat.zero_le _, rfl, rfl, by simp⟩
    case round =>
      obtain ⟨k, m, hk, rfl, rfl, hd⟩ := hrel
      have HD := hid hd
      clear hd
      by_cases hlt : k < x.length
      · obtain ⟨ba, oa, rfl, _, ca1⟩ := HX.out.at hlt
        have hky : k < y.length := by have := HL.out; omega
        obtain ⟨bb, ob, rfl, _, cb1⟩ := HY.out.at hky
        have c1 : w.cell? ⟨ba, oa + k, none⟩ = some (.int .u64 x[k]) := by rw [ca1]; simp [hlt]
        have c2 : w.cell? ⟨bb, ob + k, none⟩ = some (.int .u64 y[k]) := by rw [cb1]; simp [hky]
        have hb1 : (0 : Int) ≤ (k : Int) := by omega
        have hb2 : (k : Int) < (x.length : Int) := by omega
        have hb3 : (k : Int) < (y.length : Int) := by omega
        have st := drop_step x y k hlt hky
        have ST := hid st
        clear ca1 cb1 st
        generalize x[k] = p at c1 ST
        generalize y[k] = q at c2 ST
        by_cases hpq : p = q
        · have hd2 : decide (x = y) = decide (x.drop (k + 1) = y.drop (k + 1)) := HD.out.trans (by rw [decide_eq_decide, ST.out]; simp [hpq])
          have HD2 := hid hd2
          clear hd2
          subst hpq
          go_wp2
          go_region
          all_goals go_wp2
          all_goals
            go_roundw
            case rel => first | exact ⟨k + 1, _, by omega, by go_num, rfl, HD2.out⟩ | ((repeat apply Exists.intro); exact ⟨⟨k + 1, _, by omega, by go_num, rfl, HD2.out⟩, rfl⟩)
            case measure => simp [intOf]; omega
        · have hd2 : decide (x = y) = false := HD.out.trans (by rw [decide_eq_false_iff_not, ST.out]; exact fun h => hpq h.1)
          have hne : (p != q) = true := by simpa using hpq
          have HD2 := hid hd2
          clear hd2
          go_wp2
          go_region
          all_goals go_wp2
          all_goals go_ret
          all_goals exact ⟨ret_bool HD2.out.symm, by repeat (first | exact Ly.refl _ | apply Ly.lay | apply Ly.alloc | apply Ly.drewN | apply Ly.drew)⟩
      · have hd2 : decide (x = y) = true := HD.out.trans (by rw [decide_eq_true_iff, List.drop_eq_nil_of_le (by omega), List.drop_eq_nil_of_le (by have := HL.out; omega)])
        have HD2 := hid hd2
        clear hd2
        go_wp2
        all_goals go_ret
        all_goals exact ⟨ret_bool HD2.out.symm, by repeat (first | exact Ly.refl _ | apply Ly.lay | apply Ly.alloc | apply Ly.drewN | apply Ly.drew)⟩
  · have hlb : ((x.length : Int) != (y.length : Int)) = true := by simp; omega
    have hd2 : decide (x = y) = false := decide_eq_false (fun h => hl (by rw [h]))
    rw [hd2]
    clear hd2
    go_enter Tryz.func103, Tryz.ntmps103
    go_wp2
    all_goals go_ret
    all_goals exact ⟨rfl, by repeat (first | exact Ly.refl _ | apply Ly.lay | apply Ly.alloc | apply Ly.drewN | apply Ly.drew)⟩

end Go.Proofs.YtjcoifdfemejkaaGreatDoor

