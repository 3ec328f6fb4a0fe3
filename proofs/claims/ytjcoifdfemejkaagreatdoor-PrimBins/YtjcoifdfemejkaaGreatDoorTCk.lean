/- Is a world more than is asked: the statements' Much. -/
import Derived.Test.YtjcoifdfemejkaaGreatDoorM19
import Derived.Test.YtjcoifdfemejkaaGreatDoorTBk
import Derived.Deep.Light
set_option linter.unusedSimpArgs false
set_option linter.unusedVariables false
namespace Go.Proofs.YtjcoifdfemejkaaGreatDoor
open Go Go.RowKit

/-- Is an object more than is asked? -/
def bigO (o : AObj) : Bool := decide (100 < (o.bytes.length : Int)) || decide (12 < (o.vals.length : Int)) || decide (12 < (o.keys.length : Int)) || o.keys.any (fun s => decide (50 < (s.size : Int)))

/-- Is a world? -/
def muchW (Os : List AObj) (Ws : List (Int × Int × Int)) : Bool := decide (30 < (Os.length : Int)) || decide (30 < (Ws.length : Int)) || Os.any bigO

set_option maxRecDepth 100000 in
set_option maxHeartbeats 16000000 in
theorem much4_any (ao aw : Option Addr) (co cw : Nat) (Os : List AObj) (Ws : List (Int × Int × Int)) (w : World) (hw : WU w ao aw Os Ws) (hlo : Os.length ≤ maxLen) (hlw : Ws.length ≤ maxLen) :
    Calls Tryz.prog 4 #[.agg #[.slice ao Os.length co, .slice aw Ws.length cw]] w fun e w' => e = .returned (.bool (muchW Os Ws)) ∧ Ly w w' := by
  have HW := hid hw
  unfold maxLen at hlo hlw
  clear hw
  unfold muchW
  cases h1 : decide (30 < (Os.length : Int))
  · cases h2 : decide (30 < (Ws.length : Int))
    · have hO : Os.length ≤ 30 := by have := of_decide_eq_false h1; omega
      go_enter Tryz.func4, Tryz.ntmps4
      go_wp2
      go_loopw [3] (fun j wr => ∃ k : Nat, k ≤ Os.length ∧ j = .int .i64 k ∧ wr = w.alloc (.cells #[.slice ao Os.length co, .slice aw Ws.length cw] 25) ∧ (Os.take k).any bigO = false) (fun j _ => Os.length - (intOf j).toNat)
      case atStart => exact ⟨0, Nat.zero_le _, rfl, rfl, rfl⟩
      case round =>
        obtain ⟨k, hk, rfl, rfl, hd⟩ := hrel
        have HD := hid hd
        clear hd
        by_cases hlt : k < Os.length
        · have hb1 : (0 : Int) ≤ (k : Int) := by omega
          have hb2 : (k : Int) < (Os.length : Int) := by omega
          obtain ⟨b, off, ⟨xb, xv, xk⟩, rfl, hb, hc, how⟩ := HW.out.1 k hlt
          have HN : Hid (bigO Os[k] = false → (Os.take (k + 1)).any bigO = false) := fun he => by
            show (Os.take (k + 1)).any bigO = false
            rw [List.take_add_one, List.getElem?_eq_getElem hlt, Option.toList_some, List.any_append, HD.out]
            simpa using he
          have HY : Hid (bigO Os[k] = true → Os.any bigO = true) := fun he => List.any_eq_true.2 ⟨_, List.getElem_mem hlt, he⟩
          generalize Os[k] = o at hc how HN HY
          obtain ⟨ab, cb, eb⟩ := how.ol.1.form
          obtain ⟨av, cv, ev⟩ := how.ol.2.1.form
          obtain ⟨ak, ck, ek⟩ := how.ol.2.2.form
          subst eb ev ek
          have q1 : w.cell? ⟨b, off + k * 7 + 1, none⟩ = some (.slice ab o.bytes.length cb) := hc 1 (by omega)
          have q2 : w.cell? ⟨b, off + k * 7 + 2, none⟩ = some (.slice av o.vals.length cv) := hc 2 (by omega)
          have q3 : w.cell? ⟨b, off + k * 7 + 3, none⟩ = some (.slice ak o.keys.length ck) := hc 3 (by omega)
          have HO := hid how
          clear hc how
          have hcase : (decide (100 < (o.bytes.length : Int)) = true) ∨ (decide (100 < (o.bytes.length : Int)) = false ∧ decide (12 < (o.vals.length : Int)) = true) ∨ (decide (100 < (o.bytes.length : Int)) = false ∧ decide (12 < (o.vals.length : Int)) = false ∧ decide (12 < (o.keys.length : Int)) = true) ∨ (decide (100 < (o.bytes.length : Int)) = false ∧ decide (12 < (o.vals.length : Int)) = false ∧ decide (12 < (o.keys.length : Int)) = false) := by
            cases decide (100 < (o.bytes.length : Int)) <;> cases decide (12 < (o.vals.length : Int)) <;> cases decide (12 < (o.keys.length : Int)) <;> simp
          rcases hcase with c1 | ⟨c1, c2⟩ | ⟨c1, c2, c3⟩ | ⟨c1, c2, c3⟩
          · have HB := hid (HY.out (by unfold bigO; rw [c1]; rfl))
            go_wp2
            all_goals go_ret
            all_goals exact ⟨ret_bool (by rw [HB.out] <;> rfl), Ly.alloc (Ly.refl _) _⟩
          · have HB := hid (HY.out (by unfold bigO; rw [c1, c2]; rfl))
            go_wp2
            all_goals go_ret
            all_goals exact ⟨ret_bool (by rw [HB.out] <;> rfl), Ly.alloc (Ly.refl _) _⟩
          · have HB := hid (HY.out (by unfold bigO; rw [c1, c2, c3]; rfl))
            go_wp2
            all_goals go_ret
            all_goals exact ⟨ret_bool (by rw [HB.out] <;> rfl), Ly.alloc (Ly.refl _) _⟩
          · have HE : Hid (∀ t, bigO o = t ↔ o.keys.any (fun s => decide (50 < (s.size : Int))) = t) := fun t => by unfold bigO; rw [c1, c2, c3]; simp
            have hK : o.keys.length ≤ 12 := by have := of_decide_eq_false c3; omega
            go_wp2
            go_loopw [4] (fun j wr => ∃ i : Nat, i ≤ o.keys.length ∧ j = .int .i64 i ∧ wr = w.alloc (.cells #[.slice (some ⟨b, off, none⟩) Os.length co, .slice aw Ws.length cw] 25) ∧ (o.keys.take i).any (fun s => decide (50 < (s.size : Int))) = false) (fun j _ => o.keys.length - (intOf j).toNat)
            case atStart => exact ⟨0, Nat.zero_le _, rfl, rfl, rfl⟩
            case round =>
              obtain ⟨i, hi, rfl, rfl, he⟩ := hrel
              have HI := hid he
              clear he
              by_cases hlt2 : i < o.keys.length
              · have hi1 : (0 : Int) ≤ (i : Int) := by omega
                have hi2 : (i : Int) < (o.keys.length : Int) := by omega
                obtain ⟨bk, ok, rfl, hbk, hck⟩ := HO.out.ol.2.2.at hlt2
                have hck1 : w.cell? ⟨bk, ok + i, none⟩ = some (.string o.keys[i]) := by rw [hck]; simp [hlt2]
                have HN2 : Hid (decide (50 < (o.keys[i].size : Int)) = false → (o.keys.take (i + 1)).any (fun s => decide (50 < (s.size : Int))) = false) := fun h5 => by
                  show (o.keys.take (i + 1)).any _ = false
                  rw [List.take_add_one, List.getElem?_eq_getElem hlt2, Option.toList_some, List.any_append, HI.out]
                  simpa using h5
                have HY2 : Hid (decide (50 < (o.keys[i].size : Int)) = true → Os.any bigO = true) := fun h5 => HY.out ((HE.out true).2 (List.any_eq_true.2 ⟨_, List.getElem_mem hlt2, h5⟩))
                clear hck
                generalize o.keys[i] = s at hck1 HN2 HY2
                cases h5 : decide (50 < (s.size : Int))
                · have HN3 := hid (HN2.out h5)
                  go_wp2
                  go_roundw
                  case rel => exact ⟨i + 1, by omega, by go_num, trivial, HN3.out⟩
                  case measure => simp [intOf]; omega
                · have HB := hid (HY2.out h5)
                  go_wp2
                  all_goals go_ret
                  all_goals exact ⟨ret_bool (by rw [HB.out] <;> rfl), Ly.alloc (Ly.refl _) _⟩
              · have hi0 : i = o.keys.length := by omega
                have HB := hid (HN.out ((HE.out false).2 (by have := HI.out; rw [hi0, List.take_length] at this; exact this)))
                clear HI
                have hi3 : (o.keys.length : Int) ≤ (i : Int) := by omega
                go_wp2
                go_roundw
                case rel => exact ⟨k + 1, by omega, by go_num, trivial, HB.out⟩
                case measure => simp [intOf]; omega
        · have hk0 : k = Os.length := by omega
          have HB : Hid (Os.any bigO = false) := by have := HD.out; rw [hk0, List.take_length] at this; exact this
          clear HD
          go_wp2
          all_goals go_ret
          all_goals exact ⟨ret_bool (by rw [HB.out] <;> rfl), Ly.alloc (Ly.refl _) _⟩
    · go_enter Tryz.func4, Tryz.ntmps4
      go_wp2
      all_goals go_ret
      all_goals exact ⟨rfl, Ly.alloc (Ly.refl _) _⟩
  · go_enter Tryz.func4, Tryz.ntmps4
    go_wp2
    all_goals go_ret
    all_goals exact ⟨rfl, Ly.alloc (Ly.refl _) _⟩

end Go.Proofs.YtjcoifdfemejkaaGreatDoor

