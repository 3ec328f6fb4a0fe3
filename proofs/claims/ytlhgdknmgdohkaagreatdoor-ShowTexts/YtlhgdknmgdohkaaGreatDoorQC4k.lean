/- The document's Quote: the contract. -/
import Derived.Test.YtlhgdknmgdohkaaGreatDoorK1
set_option linter.unusedSimpArgs false
set_option linter.unusedVariables false
namespace Go.Proofs.YtlhgdknmgdohkaaGreatDoor
open Go Go.RowKit

set_option maxHeartbeats 4000000 in
theorem vdigit_any (n : Int) (h0 : 0 ≤ n) (h1 : n < 16) (w : World) :
    Calls Tryz.prog 89 #[.int .i64 n] w fun e w' => e = .returned (.int .u8 (hexD n)) ∧ w' = w := by
  have hn : n = 0 ∨ n = 1 ∨ n = 2 ∨ n = 3 ∨ n = 4 ∨ n = 5 ∨ n = 6 ∨ n = 7 ∨ n = 8 ∨ n = 9 ∨ n = 10 ∨ n = 11 ∨ n = 12 ∨ n = 13 ∨ n = 14 ∨ n = 15 := by omega
  rcases hn with rfl | rfl | rfl | rfl | rfl | rfl | rfl | rfl | rfl | rfl | rfl | rfl | rfl | rfl | rfl | rfl
  all_goals
    go_enter Tryz.func89, Tryz.ntmps89
    go_wp2
    all_goals go_ret
    all_goals exact ⟨rfl, rfl⟩

theorem qAll_take_succ {b : List Int} {k : Nat} (h : k < b.length) : qAll (b.take (k + 1)) = qAll (b.take k) ++ qOne b[k] := by
  unfold qAll
  rw [List.take_succ_eq_append_getElem h, List.flatMap_append]
  simp

/-- Bytes as a string's text. -/
def qStr (b : List Int) : List Int := 34 :: (qAll b ++ [34])

theorem own_new (w : World) (l : List Int) (hl : l.length ≤ maxLen) : (w.alloc (.cells (l.map (Value.int .u8)).toArray 5)).ownsRow w.heap.size 5 1 (.slice (some ⟨w.heap.size, 0, none⟩) l.length l.length) l.length (l.map (Value.int .u8)) := by
  refine ⟨by simp, .inr ⟨w.heap.size, l.length, _, rfl, Nat.le_refl _, heap_alloc_new w _, Nat.le_refl _, hl, by simp, ?_⟩⟩
  rw [List.take_of_length_le (by simp)]

theorem qAll_take_len (b : List Int) (k : Nat) : (qAll (b.take k)).length ≤ 4 * b.length := by
  have := qAll_len (b.take k)
  have := List.length_take_le k b
  have := List.length_take_le' k b
  omega

set_option maxHeartbeats 8000000 in
theorem vQuote_any (v : Value) (b : List Int) (w : World) (h : By w v b) (hm : b.length ≤ 1000000) :
    Calls Tryz.prog 69 #[v] w fun e w' => ∃ r, e = .returned r ∧ w'.ownsRow w.heap.size 5 1 r (qStr b).length ((qStr b).map (Value.int .u8)) ∧ Bw w w' := by
  have HB := hid h
  obtain ⟨a, cap, rfl⟩ := h.form
  obtain ⟨i1, hi1, hz1, hs1, hy1⟩ := info_parts infoU8
  have I1 := hid (And.intro hi1 (And.intro hz1 (And.intro hs1 hy1)))
  clear h hi1 hz1 hs1 hy1
  go_enter Tryz.func69, Tryz.ntmps69
  go_wp2
  go_loopw [3, 4] (fun s j wr => ∃ k, k ≤ b.length ∧ j = .int .i64 (k : Nat) ∧ wr.ownsRow w.heap.size 5 1 s (34 :: qAll (b.take k)).length ((34 :: qAll (b.take k)).map (Value.int .u8)) ∧ Bw w wr) (fun _ j _ => b.length - (intOf j).toNat)
  case atStart => exact ⟨0, Nat.zero_le _, rfl, own_new w [34] (by decide), Bw.alloc (Bw.refl _) _⟩
  case round =>
    obtain ⟨k, hk, rfl, hown, hbw⟩ := hrel
    have hsz : w.heap.size ≤ wr.heap.size := hbw.size
    have hql : (34 :: qAll (b.take k)).length ≤ 4 * b.length + 1 := by have := qAll_take_len b k; simp; omega
    by_cases hlt : k < b.length
    · obtain ⟨g, o, cap', e, hcap, hg, hcs⟩ := (HB.out.bw hbw).parts hlt
      cases e
      have hc := hcs k hlt
      have hkl : (k : Int) < (b.length : Int) := by omega
      have hqs : ∀ l, qOne b[k] = l → 34 :: qAll (b.take (k + 1)) = (34 :: qAll (b.take k)) ++ l := by
        intro l hl
        rw [qAll_take_succ hlt, hl]; rfl
      have hbd := HB.out.2.1 _ (List.getElem_mem hlt)
      generalize (34 :: qAll (b.take k)) = Q at hown hqs hql
      have HQS := hid hqs
      generalize b[k] = c at hc HQS hbd
      obtain ⟨ax, cax, e⟩ := own_form hown
      subst e
      have HO := hid hown
      have HW := hid hbw
      have HQL := hid hql
      clear hown hbw hcs hqs hql
      by_cases h10 : c = 10
      · have t10 : (c == 10) = true := by simpa using h10
        subst h10
        go_wp2_with (first
          | (go_at_call 89; refine (vdigit_any _ (by omega) (by omega) _).mono ?_; rintro e w' ⟨rfl, hw'⟩; subst w')
          | (at_builtin; refine wpList_append_own _ rfl _ _ 44 rfl w.heap.size 5 i1 (.int .u8 0) 1 1 under22 I1.out.1 I1.out.2.1 I1.out.2.2.1 I1.out.2.2.2 rfl (by decide) (.slice ax Q.length cax) Q.length (Q.map (Value.int .u8)) rfl (HO.out.alloc _) ⟨wr.heap.size, 0, none⟩ 2 2 [.int .u8 92, .int .u8 110] rfl rfl ?c1 ?c2 ?c3 ?c4 ?c5 ?_)
          | go_in)
        case c1 =>
          intro j u hj
          match j, hj with
            | 0, hj => simp at hj; subst hj; simp [Addr.add, go_sem]
            | 1, hj => simp at hj; subst hj; simp [Addr.add, go_sem]
        case c2 => intro u hu; simp at hu; rcases hu with rfl | rfl <;> rfl
        case c3 => have := HQL.out; unfold maxLen; omega
        case c4 => have := HQL.out; omega
        case c5 => simp only [World.size_alloc]; omega
        intro v' w1 hown hgr _
        obtain ⟨av', cv', e⟩ := own_form hown
        subst e
        have HW1 := hid (bw_grown (Bw.alloc HW.out _) (Nat.le_refl _) (HO.out.alloc _) hgr)
        have hown2 : w1.ownsRow w.heap.size 5 1 (.slice av' (Q.length + 2) cv') (Q ++ [92, 110]).length ((Q ++ [92, 110]).map (Value.int .u8)) := by simpa using hown
        have HO1 := hid hown2
        clear hgr hown hown2
        go_wp2
        go_roundw
        case rel => exact ⟨k + 1, by omega, by go_num, by rw [HQS.out [92, 110] (by simp [qOne, *])]; exact HO1.out, HW1.out⟩
        case measure => simp [intOf]; omega
      have t10 : (c == 10) = false := by simpa using h10
      by_cases h9 : c = 9
      · have t9 : (c == 9) = true := by simpa using h9
        subst h9
        go_wp2_with (first
          | (go_at_call 89; refine (vdigit_any _ (by omega) (by omega) _).mono ?_; rintro e w' ⟨rfl, hw'⟩; subst w')
          | (at_builtin; refine wpList_append_own _ rfl _ _ 44 rfl w.heap.size 5 i1 (.int .u8 0) 1 1 under22 I1.out.1 I1.out.2.1 I1.out.2.2.1 I1.out.2.2.2 rfl (by decide) (.slice ax Q.length cax) Q.length (Q.map (Value.int .u8)) rfl (HO.out.alloc _) ⟨wr.heap.size, 0, none⟩ 2 2 [.int .u8 92, .int .u8 116] rfl rfl ?c1 ?c2 ?c3 ?c4 ?c5 ?_)
          | go_in)
        case c1 =>
          intro j u hj
          match j, hj with
            | 0, hj => simp at hj; subst hj; simp [Addr.add, go_sem]
            | 1, hj => simp at hj; subst hj; simp [Addr.add, go_sem]
        case c2 => intro u hu; simp at hu; rcases hu with rfl | rfl <;> rfl
        case c3 => have := HQL.out; unfold maxLen; omega
        case c4 => have := HQL.out; omega
        case c5 => simp only [World.size_alloc]; omega
        intro v' w1 hown hgr _
        obtain ⟨av', cv', e⟩ := own_form hown
        subst e
        have HW1 := hid (bw_grown (Bw.alloc HW.out _) (Nat.le_refl _) (HO.out.alloc _) hgr)
        have hown2 : w1.ownsRow w.heap.size 5 1 (.slice av' (Q.length + 2) cv') (Q ++ [92, 116]).length ((Q ++ [92, 116]).map (Value.int .u8)) := by simpa using hown
        have HO1 := hid hown2
        clear hgr hown hown2
        go_wp2
        go_roundw
        case rel => exact ⟨k + 1, by omega, by go_num, by rw [HQS.out [92, 116] (by simp [qOne, *])]; exact HO1.out, HW1.out⟩
        case measure => simp [intOf]; omega
      have t9 : (c == 9) = false := by simpa using h9
      by_cases h34 : c = 34
      · have t34 : (c == 34) = true := by simpa using h34
        have HQ1 := hid (show qOne c = [92, c] by simp [qOne, h34])
        clear h34 h9 h10
        go_wp2_with (first
          | (go_at_call 89; refine (vdigit_any _ (by omega) (by omega) _).mono ?_; rintro e w' ⟨rfl, hw'⟩; subst w')
          | (at_builtin; refine wpList_append_own _ rfl _ _ 44 rfl w.heap.size 5 i1 (.int .u8 0) 1 1 under22 I1.out.1 I1.out.2.1 I1.out.2.2.1 I1.out.2.2.2 rfl (by decide) (.slice ax Q.length cax) Q.length (Q.map (Value.int .u8)) rfl (HO.out.alloc _) ⟨wr.heap.size, 0, none⟩ 2 2 [.int .u8 92, .int .u8 c] rfl rfl ?c1 ?c2 ?c3 ?c4 ?c5 ?_)
          | go_in)
        case c1 =>
          intro j u hj
          match j, hj with
            | 0, hj => simp at hj; subst hj; simp [Addr.add, go_sem]
            | 1, hj => simp at hj; subst hj; simp [Addr.add, go_sem]
        case c2 => intro u hu; simp at hu; rcases hu with rfl | rfl <;> rfl
        case c3 => have := HQL.out; unfold maxLen; omega
        case c4 => have := HQL.out; omega
        case c5 => simp only [World.size_alloc]; omega
        intro v' w1 hown hgr _
        obtain ⟨av', cv', e⟩ := own_form hown
        subst e
        have HW1 := hid (bw_grown (Bw.alloc HW.out _) (Nat.le_refl _) (HO.out.alloc _) hgr)
        have hown2 : w1.ownsRow w.heap.size 5 1 (.slice av' (Q.length + 2) cv') (Q ++ [92, c]).length ((Q ++ [92, c]).map (Value.int .u8)) := by simpa using hown
        have HO1 := hid hown2
        clear hgr hown hown2
        go_wp2
        go_roundw
        case rel => exact ⟨k + 1, by omega, by go_num, by rw [HQS.out [92, c] HQ1.out]; exact HO1.out, HW1.out⟩
        case measure => simp [intOf]; omega
      have t34 : (c == 34) = false := by simpa using h34
      by_cases h92 : c = 92
      · have t92 : (c == 92) = true := by simpa using h92
        have HQ1 := hid (show qOne c = [92, c] by simp [qOne, h92])
        clear h92 h34 h9 h10
        go_wp2_with (first
          | (go_at_call 89; refine (vdigit_any _ (by omega) (by omega) _).mono ?_; rintro e w' ⟨rfl, hw'⟩; subst w')
          | (at_builtin; refine wpList_append_own _ rfl _ _ 44 rfl w.heap.size 5 i1 (.int .u8 0) 1 1 under22 I1.out.1 I1.out.2.1 I1.out.2.2.1 I1.out.2.2.2 rfl (by decide) (.slice ax Q.length cax) Q.length (Q.map (Value.int .u8)) rfl (HO.out.alloc _) ⟨wr.heap.size, 0, none⟩ 2 2 [.int .u8 92, .int .u8 c] rfl rfl ?c1 ?c2 ?c3 ?c4 ?c5 ?_)
          | go_in)
        case c1 =>
          intro j u hj
          match j, hj with
            | 0, hj => simp at hj; subst hj; simp [Addr.add, go_sem]
            | 1, hj => simp at hj; subst hj; simp [Addr.add, go_sem]
        case c2 => intro u hu; simp at hu; rcases hu with rfl | rfl <;> rfl
        case c3 => have := HQL.out; unfold maxLen; omega
        case c4 => have := HQL.out; omega
        case c5 => simp only [World.size_alloc]; omega
        intro v' w1 hown hgr _
        obtain ⟨av', cv', e⟩ := own_form hown
        subst e
        have HW1 := hid (bw_grown (Bw.alloc HW.out _) (Nat.le_refl _) (HO.out.alloc _) hgr)
        have hown2 : w1.ownsRow w.heap.size 5 1 (.slice av' (Q.length + 2) cv') (Q ++ [92, c]).length ((Q ++ [92, c]).map (Value.int .u8)) := by simpa using hown
        have HO1 := hid hown2
        clear hgr hown hown2
        go_wp2
        go_roundw
        case rel => exact ⟨k + 1, by omega, by go_num, by rw [HQS.out [92, c] HQ1.out]; exact HO1.out, HW1.out⟩
        case measure => simp [intOf]; omega
      have t92 : (c == 92) = false := by simpa using h92
      by_cases hx : c < 32 ∨ c > 126
      · have HQ1 := hid (show qOne c = [92, 120, hexD (c / 16), hexD (c % 16)] by simp only [qOne, if_neg h10, if_neg h9, if_neg (show ¬ (c = 34 ∨ c = 92) by omega), if_pos hx])
        have hdq : c.tdiv 16 = c / 16 := Int.tdiv_eq_ediv_of_nonneg hbd.1
        have hdr : c.tmod 16 = c % 16 := Int.tmod_eq_emod_of_nonneg hbd.1
        clear h92 h34 h9 h10
        rcases hx with hx | hx
        · have t32 : decide (c < 32) = true := decide_eq_true hx
          go_wp2_with (first
            | (go_at_call 89; refine (vdigit_any _ (by omega) (by omega) _).mono ?_; rintro e w' ⟨rfl, hw'⟩; subst w')
            | (at_builtin; refine wpList_append_own _ rfl _ _ 44 rfl w.heap.size 5 i1 (.int .u8 0) 1 1 under22 I1.out.1 I1.out.2.1 I1.out.2.2.1 I1.out.2.2.2 rfl (by decide) (.slice ax Q.length cax) Q.length (Q.map (Value.int .u8)) rfl (HO.out.alloc _) ⟨wr.heap.size, 0, none⟩ 4 4 [.int .u8 92, .int .u8 120, .int .u8 (hexD (c / 16)), .int .u8 (hexD (c % 16))] rfl rfl ?c1 ?c2 ?c3 ?c4 ?c5 ?_)
            | go_in)
          case c1 =>
            intro j u hj
            match j, hj with
              | 0, hj => simp at hj; subst hj; simp [Addr.add, go_sem]
              | 1, hj => simp at hj; subst hj; simp [Addr.add, go_sem]
              | 2, hj => simp at hj; subst hj; simp [Addr.add, go_sem]
              | 3, hj => simp at hj; subst hj; simp [Addr.add, go_sem]
          case c2 => intro u hu; simp at hu; rcases hu with rfl | rfl | rfl | rfl <;> rfl
          case c3 => have := HQL.out; unfold maxLen; omega
          case c4 => have := HQL.out; omega
          case c5 => simp only [World.size_alloc]; omega
          intro v' w1 hown hgr _
          obtain ⟨av', cv', e⟩ := own_form hown
          subst e
          have HW1 := hid (bw_grown (Bw.alloc HW.out _) (Nat.le_refl _) (HO.out.alloc _) hgr)
          have hown2 : w1.ownsRow w.heap.size 5 1 (.slice av' (Q.length + 4) cv') (Q ++ [92, 120, hexD (c / 16), hexD (c % 16)]).length ((Q ++ [92, 120, hexD (c / 16), hexD (c % 16)]).map (Value.int .u8)) := by simpa using hown
          have HO1 := hid hown2
          clear hgr hown hown2
          go_wp2
          go_roundw
          case rel => exact ⟨k + 1, by omega, by go_num, by rw [HQS.out _ HQ1.out]; exact HO1.out, HW1.out⟩
          case measure => simp [intOf]; omega
        · have t32 : decide (c < 32) = false := decide_eq_false (by omega)
          have t126 : decide (126 < c) = true := decide_eq_true hx
          go_wp2_with (first
            | (go_at_call 89; refine (vdigit_any _ (by omega) (by omega) _).mono ?_; rintro e w' ⟨rfl, hw'⟩; subst w')
            | (at_builtin; refine wpList_append_own _ rfl _ _ 44 rfl w.heap.size 5 i1 (.int .u8 0) 1 1 under22 I1.out.1 I1.out.2.1 I1.out.2.2.1 I1.out.2.2.2 rfl (by decide) (.slice ax Q.length cax) Q.length (Q.map (Value.int .u8)) rfl (HO.out.alloc _) ⟨wr.heap.size, 0, none⟩ 4 4 [.int .u8 92, .int .u8 120, .int .u8 (hexD (c / 16)), .int .u8 (hexD (c % 16))] rfl rfl ?c1 ?c2 ?c3 ?c4 ?c5 ?_)
            | go_in)
          case c1 =>
            intro j u hj
            match j, hj with
              | 0, hj => simp at hj; subst hj; simp [Addr.add, go_sem]
              | 1, hj => simp at hj; subst hj; simp [Addr.add, go_sem]
              | 2, hj => simp at hj; subst hj; simp [Addr.add, go_sem]
              | 3, hj => simp at hj; subst hj; simp [Addr.add, go_sem]
          case c2 => intro u hu; simp at hu; rcases hu with rfl | rfl | rfl | rfl <;> rfl
          case c3 => have := HQL.out; unfold maxLen; omega
          case c4 => have := HQL.out; omega
          case c5 => simp only [World.size_alloc]; omega
          intro v' w1 hown hgr _
          obtain ⟨av', cv', e⟩ := own_form hown
          subst e
          have HW1 := hid (bw_grown (Bw.alloc HW.out _) (Nat.le_refl _) (HO.out.alloc _) hgr)
          have hown2 : w1.ownsRow w.heap.size 5 1 (.slice av' (Q.length + 4) cv') (Q ++ [92, 120, hexD (c / 16), hexD (c % 16)]).length ((Q ++ [92, 120, hexD (c / 16), hexD (c % 16)]).map (Value.int .u8)) := by simpa using hown
          have HO1 := hid hown2
          clear hgr hown hown2
          go_wp2
          go_roundw
          case rel => exact ⟨k + 1, by omega, by go_num, by rw [HQS.out _ HQ1.out]; exact HO1.out, HW1.out⟩
          case measure => simp [intOf]; omega
      · have HQ1 := hid (show qOne c = [c] by simp only [qOne, if_neg h10, if_neg h9, if_neg (show ¬ (c = 34 ∨ c = 92) by omega), if_neg hx])
        have t32 : decide (c < 32) = false := decide_eq_false (by omega)
        have t126 : decide (126 < c) = false := decide_eq_false (by omega)
        clear h92 h34 h9 h10 hx
        go_wp2_with (first
          | (go_at_call 89; refine (vdigit_any _ (by omega) (by omega) _).mono ?_; rintro e w' ⟨rfl, hw'⟩; subst w')
          | (at_builtin; refine wpList_append_own _ rfl _ _ 44 rfl w.heap.size 5 i1 (.int .u8 0) 1 1 under22 I1.out.1 I1.out.2.1 I1.out.2.2.1 I1.out.2.2.2 rfl (by decide) (.slice ax Q.length cax) Q.length (Q.map (Value.int .u8)) rfl (HO.out.alloc _) ⟨wr.heap.size, 0, none⟩ 1 1 [.int .u8 c] rfl rfl ?c1 ?c2 ?c3 ?c4 ?c5 ?_)
          | go_in)
        case c1 =>
          intro j u hj
          match j, hj with
            | 0, hj => simp at hj; subst hj; simp [Addr.add, go_sem]
        case c2 => intro u hu; simp at hu; subst hu; rfl
        case c3 => have := HQL.out; unfold maxLen; omega
        case c4 => have := HQL.out; omega
        case c5 => simp only [World.size_alloc]; omega
        intro v' w1 hown hgr _
        obtain ⟨av', cv', e⟩ := own_form hown
        subst e
        have HW1 := hid (bw_grown (Bw.alloc HW.out _) (Nat.le_refl _) (HO.out.alloc _) hgr)
        have hown2 : w1.ownsRow w.heap.size 5 1 (.slice av' (Q.length + 1) cv') (Q ++ [c]).length ((Q ++ [c]).map (Value.int .u8)) := by simpa using hown
        have HO1 := hid hown2
        clear hgr hown hown2
        go_wp2
        go_roundw
        case rel => exact ⟨k + 1, by omega, by go_num, by rw [HQS.out [c] HQ1.out]; exact HO1.out, HW1.out⟩
        case measure => simp [intOf]; omega
    · have hkb : b.take k = b := List.take_of_length_le (by omega)
      rw [hkb] at hown hql
      have heq : qStr b = (34 :: qAll b) ++ [34] := rfl
      have HEQ := hid heq
      clear heq hkb
      generalize (34 :: qAll b) = Q at hown hql HEQ
      obtain ⟨ax, cax, e⟩ := own_form hown
      subst e
      have HO := hid hown
      have HW := hid hbw
      have HQL := hid hql
      clear hown hbw hql
      go_wp2_with (first
        | (go_at_call 89; refine (vdigit_any _ (by omega) (by omega) _).mono ?_; rintro e w' ⟨rfl, hw'⟩; subst w')
        | (at_builtin; refine wpList_append_own _ rfl _ _ 44 rfl w.heap.size 5 i1 (.int .u8 0) 1 1 under22 I1.out.1 I1.out.2.1 I1.out.2.2.1 I1.out.2.2.2 rfl (by decide) (.slice ax Q.length cax) Q.length (Q.map (Value.int .u8)) rfl (HO.out.alloc _) ⟨wr.heap.size, 0, none⟩ 1 1 [.int .u8 34] rfl rfl ?c1 ?c2 ?c3 ?c4 ?c5 ?_)
        | go_in)
      case c1 =>
        intro j u hj
        match j, hj with
          | 0, hj => simp at hj; subst hj; simp [Addr.add, go_sem]
      case c2 => intro u hu; simp at hu; subst hu; rfl
      case c3 => have := HQL.out; unfold maxLen; omega
      case c4 => have := HQL.out; omega
      case c5 => simp only [World.size_alloc]; omega
      intro v' w1 hown hgr _
      obtain ⟨av', cv', e⟩ := own_form hown
      subst e
      have HW1 := hid (bw_grown (Bw.alloc HW.out _) (Nat.le_refl _) (HO.out.alloc _) hgr)
      have hown2 : w1.ownsRow w.heap.size 5 1 (.slice av' (Q.length + 1) cv') (Q ++ [34]).length ((Q ++ [34]).map (Value.int .u8)) := by simpa using hown
      have HO1 := hid hown2
      clear hgr hown hown2
      go_wp2
      all_goals go_ret
      all_goals exact ⟨_, rfl, by rw [HEQ.out]; exact HO1.out, HW1.out⟩

theorem By.conv0 {w : World} {a : Option Addr} {cap : Nat} {b : List Int} (h : By w (.slice a b.length cap) b) :
    (convert 44 9 (.slice a b.length cap)).run Tryz.prog w = .ok (.string (strOfNums b)) w := by
  by_cases h0 : 0 < b.length
  · obtain ⟨g, o, cap', e, _, _, _⟩ := h.parts h0
    cases e
    have := h.conv 0 b.length cap (by omega)
    simpa using this
  · have hb : b = [] := List.eq_nil_of_length_eq_zero (by omega)
    subst hb
    cases a with
    | none => exact run_convert_bytes_nil w 44 5 under22 under5 _ _ 9 under9
    | some ad =>
      rw [run_convert_bytes_string w 44 9 5 _ _ _ under22 under5 under9]
      have hl := run_loadCells_list (P := Tryz.prog) w ad [] (fun j v hj => by simp at hj)
      exact run_bytesToString w ad 0 cap [] hl

theorem hexD_byte {n : Int} (h0 : 0 ≤ n) (h1 : n < 16) : 0 ≤ hexD n ∧ hexD n ≤ 255 := by
  unfold hexD; split <;> omega

theorem qStr_byte {b : List Int} (h : ∀ c ∈ b, 0 ≤ c ∧ c ≤ 255) : ∀ c ∈ qStr b, 0 ≤ c ∧ c ≤ 255 := by
  intro c hc
  simp only [qStr, List.mem_cons, List.mem_append, List.not_mem_nil, or_false, qAll, List.mem_flatMap] at hc
  rcases hc with rfl | ⟨d, hd, hc⟩ | rfl
  · decide
  · have hb := h d hd
    unfold qOne at hc
    split at hc
    · simp at hc; omega
    · split at hc
      · simp at hc; omega
      · split at hc
        · simp at hc; omega
        · split at hc
          · have h1 := hexD_byte (n := d / 16) (by omega) (by omega)
            have h2 := hexD_byte (n := d % 16) (by omega) (by omega)
            simp at hc; omega
          · simp at hc; omega
  · decide

end Go.Proofs.YtlhgdknmgdohkaaGreatDoor

