/- The document's Heat, Writes: contracts. -/
import Derived.Test.YtfkcbioefdkabaaPp
set_option linter.unusedVariables false
set_option linter.unusedSimpArgs false
namespace Go.Proofs.Ytfkcbioefdkabaa
open Go Go.RowKit

theorem bw_none {w w' : World} (h : Bw w w') : w.grownBy w' none := ⟨h.os, h.tape, h.output, h.size, fun k hk _ => h.block k hk⟩
theorem own_bw {w w' : World} {base : Nat} {e : TypeId} {size : Nat} {v : Value} {n : Nat} {xs : List Value} (h : w.ownsRow base e size v n xs) (hb : Bw w w') : w'.ownsRow base e size v n xs :=
  h.kept (row := none) (bw_none hb) (by cases v.ownBlock <;> simp)

/-- The document's profile as a value. -/
abbrev rpV (F G : Nat) (vL : Value) : Value := .agg #[.int .i64 F, .int .i64 G, vL]

theorem heat_take (L : List AA) {k : Nat} (h : k < L.length) (f : Int) : heatOf (L.take (k + 1)) f = heat1 f (heatOf (L.take k) f) L[k] := by
  rw [List.take_add_one, List.getElem?_eq_getElem h]
  exact heat_snoc _ _ _
theorem write_take (L : List AA) {k : Nat} (h : k < L.length) (g : Int) : writeOf (L.take (k + 1)) g = write1 g (writeOf (L.take k) g) L[k] := by
  rw [List.take_add_one, List.getElem?_eq_getElem h]
  exact write_snoc _ _ _
theorem kind_take (L : List AA) {k : Nat} (h : k < L.length) (f t : Int) : kindOf (L.take (k + 1)) f t = kind1 f t (kindOf (L.take k) f t) L[k] := by
  rw [List.take_add_one, List.getElem?_eq_getElem h]
  exact kind_snoc _ _ _ _

set_option maxRecDepth 100000 in
set_option maxHeartbeats 1000000 in
theorem rHeat_any {w : World} {Gd : Nat → Prop} {F G : Nat} {vL : Value} {L : List AA} (h : Acts w Gd vL L) (hL : L.length ≤ 1000) (f : Int) : Calls Try.prog 29 #[rpV F G vL, .int .i64 f] w fun e w' => e = .returned (.int .i64 (heatOf L f)) ∧ Bw w w' := by
  obtain ⟨av, cv, rfl⟩ := h.form
  have HA := hid h
  clear h
  go_enter Try.func29, Try.ntmps29
  go_wp2
  go_loopw [5, 6] (fun n j wr => ∃ (k : Nat), k ≤ L.length ∧ n = .int .i64 (heatOf (L.take k) f : Nat) ∧ j = .int .i64 k ∧ wr = w.alloc (.cells #[.int .i64 F, .int .i64 G, .slice av L.length cv] 29)) (fun n j _ => L.length - (intOf j).toNat)
  case atStart => exact ⟨0, by omega, rfl, rfl, rfl⟩
  case round =>
    obtain ⟨k, hk, rfl, rfl, rfl⟩ := hrel
    by_cases hlt : k < L.length
    · obtain ⟨g, o, rfl, hg, x0, x1, x2, x3, x4, x5, ok1⟩ := HA.out.at hlt
      have hlt2 : (k : Int) < (L.length : Int) := by omega
      have hst := heat_take L hlt f
      have hle : heatOf (L.take k) f ≤ 1000 := Nat.le_trans (heatOf_le _ _) (by simp; omega)
      clear ok1 x2 x3 x4 x5
      generalize hxx : L[k] = x at hst x0 x1
      have e1 : heat1 f (heatOf (L.take k) f) x = if x.f = f then (if x.d = 0 ∨ x.d = 1 then heatOf (L.take k) f + 1 else if x.d = 4 then 0 else heatOf (L.take k) f) else heatOf (L.take k) f := rfl
      rw [e1] at hst
      clear e1 hxx
      generalize heatOf (L.take k) f = n at hst hle ⊢
      by_cases hf : x.f = f
      · rw [if_pos hf] at hst
        have hf' : (x.f != f) = false := by simp [hf]
        by_cases h0 : x.d = 0
        · rw [if_pos (.inl h0)] at hst
          have HST := hid hst
          have q0 : (x.d == 0) = true := by simp [h0]
          have q4 : (x.d == 4) = false := by simp [h0]
          clear hst h0
          go_wp2
          go_roundw
          case rel => exact ⟨k + 1, by omega, by rw [HST.out]; go_num, by go_num, (by first | rfl | trivial)⟩
          case measure => simp [intOf]; omega
        · by_cases h1 : x.d = 1
          · rw [if_pos (.inr h1)] at hst
            have HST := hid hst
            have q0 : (x.d == 0) = false := by simp [h1]
            have q1 : (x.d == 1) = true := by simp [h1]
            have q4 : (x.d == 4) = false := by simp [h1]
            clear hst h0 h1
            go_wp2
            go_roundw
            case rel => exact ⟨k + 1, by omega, by rw [HST.out]; go_num, by go_num, (by first | rfl | trivial)⟩
            case measure => simp [intOf]; omega
          · rw [if_neg (by omega)] at hst
            have q0 : (x.d == 0) = false := by simp [h0]
            have q1 : (x.d == 1) = false := by simp [h1]
            by_cases h4 : x.d = 4
            · rw [if_pos h4] at hst
              have HST := hid hst
              have q4 : (x.d == 4) = true := by simp [h4]
              clear hst h0 h1 h4
              go_wp2
              go_roundw
              case rel => exact ⟨k + 1, by omega, by rw [HST.out]; rfl, by go_num, (by first | rfl | trivial)⟩
              case measure => simp [intOf]; omega
            · rw [if_neg h4] at hst
              have HST := hid hst
              have q4 : (x.d == 4) = false := by simp [h4]
              clear hst h0 h1 h4
              go_wp2
              go_roundw
              case rel => exact ⟨k + 1, by omega, by rw [HST.out], by go_num, (by first | rfl | trivial)⟩
              case measure => simp [intOf]; omega
      · rw [if_neg hf] at hst
        have HST := hid hst
        have hf' : (x.f != f) = true := by simp [hf]
        clear hst hf
        go_wp2
        go_roundw
        case rel => exact ⟨k + 1, by omega, by rw [HST.out], by go_num, (by first | rfl | trivial)⟩
        case measure => simp [intOf]; omega
    · have hlt2 : ¬ (k : Int) < (L.length : Int) := by omega
      obtain rfl : k = L.length := by omega
      rw [List.take_length]
      go_wp2
      all_goals go_ret
      all_goals exact ⟨rfl, Bw.alloc (Bw.refl _) _⟩

set_option maxRecDepth 100000 in
set_option maxHeartbeats 1000000 in
theorem rWrites_any {w : World} {Gd : Nat → Prop} {F G : Nat} {vL : Value} {L : List AA} (h : Acts w Gd vL L) (hL : L.length ≤ 1000) (f : Int) : Calls Try.prog 31 #[rpV F G vL, .int .i64 f] w fun e w' => e = .returned (.tuple #[.int .i64 (writeOf L f).1, .int .u64 (writeOf L f).2]) ∧ Bw w w' := by
  obtain ⟨av, cv, rfl⟩ := h.form
  have HA := hid h
  clear h
  go_enter Try.func31, Try.ntmps31
  go_wp2
  go_loopw [6, 7, 8] (fun n v j wr => ∃ (k : Nat), k ≤ L.length ∧ n = .int .i64 ((writeOf (L.take k) f).1 : Nat) ∧ v = .int .u64 (writeOf (L.take k) f).2 ∧ j = .int .i64 k ∧ wr = w.alloc (.cells #[.int .i64 F, .int .i64 G, .slice av L.length cv] 29)) (fun n v j _ => L.length - (intOf j).toNat)
  case atStart => exact ⟨0, by omega, rfl, rfl, rfl, rfl⟩
  case round =>
    obtain ⟨k, hk, rfl, rfl, rfl, rfl⟩ := hrel
    by_cases hlt : k < L.length
    · obtain ⟨g, o, rfl, hg, x0, x1, x2, x3, x4, x5, ok1⟩ := HA.out.at hlt
      have hlt2 : (k : Int) < (L.length : Int) := by omega
      have hst := write_take L hlt f
      have hle : (writeOf (L.take k) f).1 ≤ 1000 := Nat.le_trans (writeOf_le _ _) (by simp; omega)
      clear ok1 x2 x3 x4
      generalize hxx : L[k] = x at hst x0 x1 x5
      have e1 : write1 f (writeOf (L.take k) f) x = if x.d = 3 ∧ x.f = f then ((writeOf (L.take k) f).1 + 1, x.v) else writeOf (L.take k) f := rfl
      rw [e1] at hst
      clear e1 hxx
      generalize writeOf (L.take k) f = n at hst hle ⊢
      by_cases hd : x.d = 3
      · by_cases hf : x.f = f
        · rw [if_pos ⟨hd, hf⟩] at hst
          have HST := hid hst
          have q0 : (x.d == 3) = true := by simp [hd]
          have q1 : (x.f == f) = true := by simp [hf]
          clear hst hd hf
          go_wp2
          go_roundw
          case rel => exact ⟨k + 1, by omega, by rw [HST.out]; go_num, by rw [HST.out], by go_num, (by first | rfl | trivial)⟩
          case measure => simp [intOf]; omega
        · rw [if_neg (fun h => hf h.2)] at hst
          have HST := hid hst
          have q0 : (x.d == 3) = true := by simp [hd]
          have q1 : (x.f == f) = false := by simp [hf]
          clear hst hd hf
          go_wp2
          go_roundw
          case rel => exact ⟨k + 1, by omega, by rw [HST.out], by rw [HST.out], by go_num, (by first | rfl | trivial)⟩
          case measure => simp [intOf]; omega
      · rw [if_neg (fun h => hd h.1)] at hst
        have HST := hid hst
        have q0 : (x.d == 3) = false := by simp [hd]
        clear hst hd
        go_wp2
        go_roundw
        case rel => exact ⟨k + 1, by omega, by rw [HST.out], by rw [HST.out], by go_num, (by first | rfl | trivial)⟩
        case measure => simp [intOf]; omega
    · have hlt2 : ¬ (k : Int) < (L.length : Int) := by omega
      obtain rfl : k = L.length := by omega
      rw [List.take_length]
      go_wp2
      all_goals go_ret2
      all_goals exact ⟨rfl, Bw.alloc (Bw.refl _) _⟩

end Go.Proofs.Ytfkcbioefdkabaa
