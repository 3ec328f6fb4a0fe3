/- The document's New, Stable: contracts. -/
import Derived.Test.YtfkcbioefdkabaaQa
set_option linter.unusedVariables false
set_option linter.unusedSimpArgs false
namespace Go.Proofs.Ytfkcbioefdkabaa
open Go Go.RowKit

set_option maxRecDepth 100000 in
set_option maxHeartbeats 1000000 in
theorem rNew_yes (F G : Nat) (w : World) (h1 : 1 ≤ F) (h2 : F ≤ 1024) (h3 : G ≤ 1024) : Calls Try.prog 10 #[.int .i64 F, .int .i64 G] w fun e w' => e = .returned (.tuple #[rpV F G (.slice none 0 0), .int .i64 0]) ∧ Bw w w' := by
  have b1 : ¬ (F : Int) < 1 := by omega
  have b2 : ¬ (1024 : Int) < F := by omega
  have b3 : ¬ (G : Int) < 0 := by omega
  have b4 : ¬ (1024 : Int) < G := by omega
  go_enter Try.func10, Try.ntmps10
  go_wp2
  all_goals refine bodyPost_ret (v := .tuple #[rpV F G (.slice none 0 0), .int .i64 0]) (by simp [results, Try.results10, go_sem, *]) rfl ⟨rfl, ?_⟩
  all_goals repeat (first | exact Bw.refl _ | apply Bw.alloc | apply Bw.drewN | apply Bw.drew)

set_option maxRecDepth 100000 in
set_option maxHeartbeats 1000000 in
theorem rNew_no (f g : Int) (w : World) (h : ¬ (1 ≤ f ∧ f ≤ 1024 ∧ 0 ≤ g ∧ g ≤ 1024)) : Calls Try.prog 10 #[.int .i64 f, .int .i64 g] w fun e w' => e = .returned (.tuple #[.agg #[.int .i64 0, .int .i64 0, .slice none 0 0], .int .i64 1]) ∧ Bw w w' := by
  by_cases h1 : f < 1
  · clear h
    go_enter Try.func10, Try.ntmps10
    go_wp2
    all_goals refine bodyPost_ret (v := .tuple #[.agg #[.int .i64 0, .int .i64 0, .slice none 0 0], .int .i64 1]) (by simp [results, Try.results10, go_sem, *]) rfl ⟨rfl, ?_⟩
    all_goals repeat (first | exact Bw.refl _ | apply Bw.alloc | apply Bw.drewN | apply Bw.drew)
  by_cases h2 : 1024 < f
  · clear h
    have b1 : decide (f < 1) = false := decide_eq_false h1
    go_enter Try.func10, Try.ntmps10
    go_wp2
    all_goals refine bodyPost_ret (v := .tuple #[.agg #[.int .i64 0, .int .i64 0, .slice none 0 0], .int .i64 1]) (by simp [results, Try.results10, go_sem, *]) rfl ⟨rfl, ?_⟩
    all_goals repeat (first | exact Bw.refl _ | apply Bw.alloc | apply Bw.drewN | apply Bw.drew)
  by_cases h3 : g < 0
  · clear h
    have b1 : decide (f < 1) = false := decide_eq_false h1
    have b2 : decide (1024 < f) = false := decide_eq_false h2
    go_enter Try.func10, Try.ntmps10
    go_wp2
    all_goals refine bodyPost_ret (v := .tuple #[.agg #[.int .i64 0, .int .i64 0, .slice none 0 0], .int .i64 1]) (by simp [results, Try.results10, go_sem, *]) rfl ⟨rfl, ?_⟩
    all_goals repeat (first | exact Bw.refl _ | apply Bw.alloc | apply Bw.drewN | apply Bw.drew)
  · have h4 : 1024 < g := by omega
    clear h
    have b1 : decide (f < 1) = false := decide_eq_false h1
    have b2 : decide (1024 < f) = false := decide_eq_false h2
    have b3 : decide (g < 0) = false := decide_eq_false h3
    go_enter Try.func10, Try.ntmps10
    go_wp2
    all_goals refine bodyPost_ret (v := .tuple #[.agg #[.int .i64 0, .int .i64 0, .slice none 0 0], .int .i64 1]) (by simp [results, Try.results10, go_sem, *]) rfl ⟨rfl, ?_⟩
    all_goals repeat (first | exact Bw.refl _ | apply Bw.alloc | apply Bw.drewN | apply Bw.drew)

set_option maxRecDepth 100000 in
set_option maxHeartbeats 1000000 in
theorem rStable_any {w : World} {Gd : Nat → Prop} {F G : Nat} {vL : Value} {L : List AA} (h : Acts w Gd vL L) (hL : L.length ≤ 1000) (hG : G ≤ 1024) : Calls Try.prog 23 #[rpV F G vL] w fun e w' => ∃ r, e = .returned r ∧ w'.ownsRow w.heap.size 54 2 r (stableL G L).length (depC (stableL G L)) ∧ Bw w w' := by
  obtain ⟨av, cv, rfl⟩ := h.form
  have HA := hid h
  obtain ⟨i2, hi2, hz2, hs2, hy2⟩ := info_parts infoDp
  have I2 := hid (And.intro hi2 (And.intro hz2 (And.intro hs2 hy2)))
  clear h hi2 hz2 hs2 hy2
  go_enter Try.func23, Try.ntmps23
  go_wp2
  go_loopw [3, 4] (fun o j wr => ∃ (k : Nat), k ≤ G ∧ j = .int .i64 k ∧ wr.ownsRow w.heap.size 54 2 o (stab (wsOf L) k).length (depC (stab (wsOf L) k)) ∧ Bw w wr ∧ Blk wr w.heap.size #[.int .i64 F, .int .i64 G, .slice av L.length cv] 29) (fun o j _ => G - (intOf j).toNat)
  case atStart => exact ⟨0, by omega, rfl, World.ownsRow_nil _ _ _ _, Bw.alloc (Bw.refl w) _, Blk.new w _ _⟩
  case round =>
    obtain ⟨k, hk, rfl, hown, hbw, hblk⟩ := hrel
    obtain ⟨ao, co, e⟩ := own_form hown
    subst e
    have HO := hid hown
    have HB := hid hbw
    have HK := hid hblk
    have hsz := hbw.size
    have hsl := stab_len (wsOf L) k
    have c0 := hblk.cell 0
    have c1 := hblk.cell 1
    have c2 := hblk.cell 2
    simp only [List.getElem?_toArray, List.getElem?_cons_zero, List.getElem?_cons_succ] at c0 c1 c2
    have hlk := hblk.lt
    clear hown hbw hblk
    by_cases h4 : k < G
    · have h4' : (k : Int) < (G : Int) := by omega
      have HW := hid (rWrites_any (F := F) (G := G) (HA.out.bw HB.out) hL (k : Int))
      have hst := stab_succ (wsOf L) k
      have e1 : (wsOf L k).1 = ((writeOf L (k : Int)).1 : Int) := rfl
      have e2 : (wsOf L k).2 = (writeOf L (k : Int)).2 := rfl
      rw [← e1, ← e2] at HW
      generalize (wsOf L k).1 = x at HW hst
      generalize (wsOf L k).2 = y at HW hst
      clear e1 e2
      by_cases hx : x = 1
      · rw [if_pos hx] at hst
        subst hx
        have HST := hid hst
        clear hst
        go_wp2_with (first
          | (go_at_call 31; refine (HW.out).mono ?_; rintro e w3 ⟨rfl, hb3⟩; have HO3 := hid (own_bw HO.out hb3); have HB3 := hid (HB.out.trans hb3); have HK3 := hid (HK.out.bw hb3); have hsz3 := HB3.out.size; clear hb3)
          | (at_builtin; refine wpList_append_own _ rfl _ _ 48 rfl w.heap.size 54 i2 _ 2 16 Try.underlying48 I2.out.1 I2.out.2.1 I2.out.2.2.1 I2.out.2.2.2 rfl (by decide) (.slice ao (stab (wsOf L) k).length co) (stab (wsOf L) k).length (depC (stab (wsOf L) k)) rfl (HO3.out.alloc _) ⟨w3.heap.size, 0, none⟩ 1 1 [.int .i64 (k : Nat), .int .u64 y] rfl rfl ?c1 ?c2 ?c3 ?c4 ?c5 ?_)
          | go_in)
        case c1 =>
          intro j u hj
          match j, hj with
          | 0, hj => simp at hj; subst hj; simp [Addr.add, go_sem]
          | 1, hj => simp at hj; subst hj; simp [Addr.add, go_sem]
        case c2 => intro u hu; simp at hu; rcases hu with rfl | rfl <;> rfl
        case c3 => unfold maxLen; omega
        case c4 => omega
        case c5 => simp only [World.size_alloc]; omega
        intro v' w1 hown hgr _
        obtain ⟨av', cv', e⟩ := own_form hown
        subst e
        have HW1 := hid (bw_grown (Bw.alloc HB3.out _) (Nat.le_refl _) (HO3.out.alloc _) hgr)
        have HK1 := hid ((HK3.out.alloc _).grownOwn (HO3.out.alloc _) (by decide) hgr)
        have hown2 : w1.ownsRow w.heap.size 54 2 (.slice av' ((stab (wsOf L) k).length + 1) cv') (stab (wsOf L) (k + 1)).length (depC (stab (wsOf L) (k + 1))) := by
          rw [HST.out, depC_snoc, List.length_append]
          exact hown
        have HO1 := hid hown2
        clear hgr hown hown2
        go_wp2
        go_roundw
        case rel => exact ⟨k + 1, by omega, by go_num, HO1.out, HW1.out, HK1.out⟩
        case measure => simp [intOf]; omega
      · have hx' : (x == 1) = false := by simpa using hx
        rw [if_neg hx, List.append_nil] at hst
        have HS2 := hid hst
        clear hx hst
        go_wp2_with (first
          | (go_at_call 31; refine (HW.out).mono ?_; rintro e w3 ⟨rfl, hb3⟩; have HO3 := hid (own_bw HO.out hb3); have HB3 := hid (HB.out.trans hb3); have HK3 := hid (HK.out.bw hb3); clear hb3)
          | fail)
        go_roundw
        case rel => exact ⟨k + 1, by omega, by go_num, by rw [HS2.out]; exact HO3.out, HB3.out, HK3.out⟩
        case measure => simp [intOf]; omega
    · have h4' : ¬ (k : Int) < (G : Int) := by omega
      obtain rfl : k = G := by omega
      go_wp2
      all_goals go_ret
      all_goals exact ⟨_, rfl, HO.out, HB.out⟩

end Go.Proofs.Ytfkcbioefdkabaa
