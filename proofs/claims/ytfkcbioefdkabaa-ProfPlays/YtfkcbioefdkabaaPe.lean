/- Stable: the contract. -/
import Derived.Test.YtfkcbioefdkabaaPd
import Derived.Test.YtfkcbioefdkabaaAp
set_option linter.unusedSimpArgs false
set_option linter.unusedVariables false
namespace Go.Proofs.Ytfkcbioefdkabaa
open Go Go.RowKit

theorem info_parts {P : Program} {t : TypeId} {z : Value} {n b : Nat} (h : (P.info? t).map (fun i => (i.zero, i.size, i.bytes)) = some (some z, n, b)) : ∃ i, P.info? t = some i ∧ i.zero = some z ∧ i.size = n ∧ i.bytes = b := by
  obtain ⟨i, hi, e⟩ := Option.map_eq_some_iff.1 h
  simp only [Prod.mk.injEq] at e
  exact ⟨i, hi, e.1, e.2.1, e.2.2⟩

theorem infoDp : (Try.prog.info? 54).map (fun i => (i.zero, i.size, i.bytes)) = some (some (.agg #[.int .i64 0, .int .u64 0]), 2, 16) := by kernel_rfl
theorem infoHe : (Try.prog.info? 88).map (fun i => (i.zero, i.size, i.bytes)) = some (some (.agg #[.int .i64 0, .int .i64 0]), 2, 16) := by kernel_rfl
theorem infoI : (Try.prog.info? 3).map (fun i => (i.zero, i.size, i.bytes)) = some (some (.int .i64 0), 1, 8) := by kernel_rfl

/-- Pairs as cells. -/
def depC (l : List (Int × Int)) : List Value := l.flatMap (fun p => [.int .i64 p.1, .int .u64 p.2])
def heC (l : List (Int × Int)) : List Value := l.flatMap (fun p => [.int .i64 p.1, .int .i64 p.2])
theorem depC_snoc (l : List (Int × Int)) (p : Int × Int) : depC (l ++ [p]) = depC l ++ [.int .i64 p.1, .int .u64 p.2] := by simp [depC]
theorem heC_snoc (l : List (Int × Int)) (p : Int × Int) : heC (l ++ [p]) = heC l ++ [.int .i64 p.1, .int .i64 p.2] := by simp [heC]

/-- The globals' numbers. -/
def wsOf (L : List AA) (i : Nat) : Int × Int := (((writeOf L i).1 : Int), (writeOf L i).2)
def hsOf (L : List AA) (i : Nat) : Int := (heatOf L i : Int)

/-- What Stable tells. -/
def stableL (G : Nat) (L : List AA) : List (Int × Int) := stab (wsOf L) G

section
variable {w w' : World} {p hb wb mb F G : Nat} {L : List AA}

set_option maxRecDepth 100000 in
set_option maxHeartbeats 1000000 in
theorem Stable_any (h : PS w p hb wb mb F G L) (hG : G ≤ 1024) : Calls Try.prog 19 #[.pointer (some ⟨p, 0, none⟩)] w fun e w' => ∃ r, e = .returned r ∧ w'.ownsRow w.heap.size 54 2 r (stableL G L).length (depC (stableL G L)) ∧ Bw w w' := by
  have HP := hid h
  have c0 := h.blk.cell 0
  have c1 := h.blk.cell 1
  have c2 := h.blk.cell 2
  simp only [List.getElem?_toArray, List.getElem?_cons_zero, List.getElem?_cons_succ] at c0 c1 c2
  have hlp := h.lts.1
  obtain ⟨i2, hi2, hz2, hs2, hy2⟩ := info_parts infoDp
  have I2 := hid (And.intro hi2 (And.intro hz2 (And.intro hs2 hy2)))
  clear h hi2 hz2 hs2 hy2
  go_enter Try.func19, Try.ntmps19
  go_wp2
  go_loopw [3, 13] (fun o j wr => ∃ (k : Nat), k ≤ G ∧ j = .int .i64 k ∧ wr.ownsRow w.heap.size 54 2 o (stab (wsOf L) k).length (depC (stab (wsOf L) k)) ∧ Bw w wr) (fun o j _ => G - (intOf j).toNat)
  case atStart => exact ⟨0, by omega, rfl, World.ownsRow_nil w _ _ _, Bw.refl w⟩
  case round =>
    obtain ⟨k, hk, rfl, hown, hbw⟩ := hrel
    obtain ⟨ao, co, e⟩ := own_form hown
    subst e
    have HO := hid hown
    have HB := hid hbw
    have hsz := hbw.size
    have hsl := stab_len (wsOf L) k
    by_cases h4 : k < G
    · have h4' : (k : Int) < (G : Int) := by omega
      have hp1 := HP.out.bw hbw
      obtain ⟨cur, a1, a2, a3⟩ := hp1.ws
      have d0 := (a1.cell (k * 2)).trans (a3 k h4).1
      have d1 := (a1.cell (k * 2 + 1)).trans (a3 k h4).2
      have hlw := a1.lt
      have hst := stab_succ (wsOf L) k
      have e1 : (wsOf L k).1 = ((writeOf L (k : Int)).1 : Int) := rfl
      have e2 : (wsOf L k).2 = (writeOf L (k : Int)).2 := rfl
      rw [← e1] at d0
      rw [← e2] at d1
      generalize (wsOf L k).1 = x at d0 hst
      generalize (wsOf L k).2 = y at d1 hst
      clear hown hbw hp1 a1 a2 a3 e1 e2
      by_cases hx : x = 1
      · rw [if_pos hx] at hst
        subst hx
        have HST := hid hst
        clear hst
        go_wp2_with (first
          | (at_builtin; refine wpList_append_own _ rfl _ _ 48 rfl w.heap.size 54 i2 _ 2 16 Try.underlying48 I2.out.1 I2.out.2.1 I2.out.2.2.1 I2.out.2.2.2 rfl (by decide) (.slice ao (stab (wsOf L) k).length co) (stab (wsOf L) k).length (depC (stab (wsOf L) k)) rfl ((HO.out.alloc _).alloc _) ⟨wr.heap.size + 1, 0, none⟩ 1 1 [.int .i64 (k : Nat), .int .u64 y] rfl rfl ?c1 ?c2 ?c3 ?c4 ?c5 ?_)
          | go_in)
        case c1 =>
          intro j u hj
          match j, hj with
          | 0, hj => simp at hj; subst hj; simp [Addr.add, go_sem]
          | 1, hj => simp at hj; subst hj; simp [Addr.add, go_sem]
        case c2 => intro u hu; simp at hu; rcases hu with rfl | rfl <;> rfl
        case c3 => unfold maxLen; omega
        case c4 => omega
        case c5 => simp only [World.size_alloc]; omega
        intro v' w1 hown hgr _
        obtain ⟨av', cv', e⟩ := own_form hown
        subst e
        have HW1 := hid (bw_grown (Bw.alloc (Bw.alloc HB.out _) _) (Nat.le_refl _) ((HO.out.alloc _).alloc _) hgr)
        have hown2 : w1.ownsRow w.heap.size 54 2 (.slice av' ((stab (wsOf L) k).length + 1) cv') (stab (wsOf L) (k + 1)).length (depC (stab (wsOf L) (k + 1))) := by
          rw [HST.out, depC_snoc, List.length_append]
          exact hown
        have HO1 := hid hown2
        clear hgr hown hown2
        go_wp2
        go_roundw
        case rel => exact ⟨k + 1, by omega, by go_num, HO1.out, HW1.out⟩
        case measure => simp [intOf]; omega
      · have hx' : (x == 1) = false := by simpa using hx
        rw [if_neg hx, List.append_nil] at hst
        have HS2 := hid hst
        clear hx hst
        go_wp2
        go_roundw
        case rel => exact ⟨k + 1, by omega, by go_num, by rw [HS2.out]; exact HO.out.alloc _, Bw.alloc HB.out _⟩
        case measure => simp [intOf]; omega
    · have h4' : ¬ (k : Int) < (G : Int) := by omega
      obtain rfl : k = G := by omega
      clear hown hbw
      go_wp2
      all_goals go_ret
      all_goals exact ⟨_, rfl, HO.out, HB.out⟩

end

end Go.Proofs.Ytfkcbioefdkabaa
