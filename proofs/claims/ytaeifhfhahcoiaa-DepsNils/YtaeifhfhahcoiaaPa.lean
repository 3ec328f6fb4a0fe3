/- The program's small functions: contracts. -/
import Derived.Test.YtaeifhfhahcoiaaPs
import Derived.BigQuiet
set_option linter.unusedSimpArgs false
set_option linter.unusedVariables false
namespace Go.Proofs.Ytaeifhfhahcoiaa
open Go Go.RowKit

set_option maxRecDepth 100000 in
set_option maxHeartbeats 1000000 in
theorem one_any (i n : Int) (w : World) : Calls Try.prog 28 #[.int .i64 i, .int .i64 n] w fun e w' => e = .returned (.bool (oneOf i n)) ∧ w' = w := by
  go_enter Try.func28, Try.ntmps28
  by_cases h1 : 0 ≤ i
  · by_cases h2 : i < n
    · rw [oneOf_yes h1 h2]
      go_wp2
      all_goals go_ret
      all_goals exact ⟨rfl, rfl⟩
    · rw [oneOf_no (fun h => h2 h.2)]
      go_wp2
      all_goals go_ret
      all_goals exact ⟨rfl, rfl⟩
  · rw [oneOf_no (fun h => h1 h.1)]
    go_wp2
    all_goals go_ret
    all_goals exact ⟨rfl, rfl⟩

set_option maxRecDepth 100000 in
set_option maxHeartbeats 1000000 in
theorem num_any (k : Int) (w : World) : Calls Try.prog 12 #[.int .i64 k] w fun e w' => e = .returned (.int .i64 k) ∧ w' = w := by
  go_enter Try.func12, Try.ntmps12
  go_wp2
  all_goals go_ret
  all_goals exact ⟨rfl, rfl⟩

set_option maxRecDepth 100000 in
set_option maxHeartbeats 1000000 in
theorem aof_any (f : Int) (q : VV × Value) (w : World) : Calls Try.prog 49 #[.int .i64 f, .agg #[.int .i64 q.1.f, q.2, .bool q.1.ok]] w fun e w' => e = .returned (.bool (aof f q.1)) ∧ Bw w w' := by
  obtain ⟨⟨xf, on, ok⟩, xv⟩ := q
  unfold aof
  simp only
  go_enter Try.func49, Try.ntmps49
  go_wp2
  all_goals go_ret
  all_goals exact ⟨rfl, Bw.alloc (Bw.refl _) _⟩

set_option maxRecDepth 100000 in
set_option maxHeartbeats 1000000 in
theorem vof_any (f : Int) (q : VV × Value) (w : World) : Calls Try.prog 48 #[.int .i64 f, .agg #[.int .i64 q.1.f, q.2, .bool q.1.ok]] w fun e w' => e = .returned (.bool (vof f q.1)) ∧ Bw w w' := by
  obtain ⟨⟨xf, on, ok⟩, xv⟩ := q
  unfold vof
  simp only
  go_enter Try.func48, Try.ntmps48
  cases ok
  · simp only [Bool.false_and]
    go_wp2
    all_goals go_ret
    all_goals exact ⟨rfl, Bw.alloc (Bw.refl _) _⟩
  · simp only [Bool.true_and]
    go_wp2
    all_goals go_ret
    all_goals exact ⟨rfl, Bw.alloc (Bw.refl _) _⟩

set_option maxRecDepth 100000 in
set_option maxHeartbeats 1000000 in
theorem wr_any {G : Nat} {GG : Nat → Prop} (g v : Int) (q : VV × Value) (w : World) (hs : Sl w GG q.2 q.1.on.length 2 (depC q.1.on)) (hn : nmsP G q.1.on q.1.on.length) (hm : q.1.on.length ≤ 1000) :
    Calls Try.prog 50 #[.agg #[.int .i64 g, .int .u64 v], .agg #[.int .i64 q.1.f, q.2, .bool q.1.ok]] w fun e w' => e = .returned (.bool (hit g v q.1)) ∧ Bw w w' := by
  obtain ⟨⟨xf, l, ok⟩, xv⟩ := q
  unfold hit
  simp only at hs hn hm ⊢
  obtain ⟨a, c, rfl⟩ := hs.form
  have HS := hid hs
  have HN := hid hn
  clear hs hn
  go_enter Try.func50, Try.ntmps50
  cases ok
  · simp only [Bool.false_and]
    go_wp2
    all_goals go_ret
    all_goals exact ⟨rfl, Bw.alloc (Bw.alloc (Bw.refl _) _) _⟩
  · simp only [Bool.true_and]
    go_wp2
    go_loopw [13] (fun j wr => ∃ (k : Nat), k ≤ l.length ∧ j = .int .i64 k ∧ Bw ((w.alloc (.cells #[.int .i64 g, .int .u64 v] 85)).alloc (.cells #[.int .i64 xf, .slice a l.length c, .bool true] 78)) wr ∧ ∀ i (hi : i < l.length), i < k → l[i].1 ≠ g) (fun j _ => l.length - (intOf j).toNat)
    case atStart => exact ⟨0, Nat.zero_le _, rfl, Bw.refl _, fun i _ h => absurd h (Nat.not_lt_zero i)⟩
    case round =>
      obtain ⟨k, hk, rfl, hbw, hno⟩ := hrel
      have HB := hid hbw
      have HO := hid hno
      have hb1 := hid ((Blk.alloc (Blk.new w #[.int .i64 g, .int .u64 v] 85) (.cells #[.int .i64 xf, .slice a l.length c, .bool true] 78)).bw hbw)
      have c0 := hb1.out.cell 0
      have c1 := hb1.out.cell 1
      simp only [List.getElem?_toArray, List.getElem?_cons_zero, List.getElem?_cons_succ] at c0 c1
      have hlt := hb1.out.lt
      by_cases h4 : k < l.length
      · have h4' : (k : Int) < (l.length : Int) := by omega
        have hsl := HS.out.below ((Bw.alloc (Bw.alloc (Bw.refl _) _) _).trans hbw)
        obtain ⟨b, o, e, hlb, _, hc⟩ := hsl.cellAt (by omega)
        subst e
        obtain ⟨q0, q1⟩ := depC_get l k h4
        have x0 := (hc (k * 2) (by omega)).trans q0
        have x1 := (hc (k * 2 + 1) (by omega)).trans q1
        rw [← Nat.add_assoc] at x1
        have HF := hid (fun e => any_first HN.out h4 g v e)
        have HN2 := hid (fun (e : l[k].1 ≠ g) i hi (hik : i < k + 1) => if e2 : i = k then (by subst e2; exact e) else HO.out i hi (by omega))
        obtain ⟨y1, hy1⟩ : ∃ y1, l[k].1 = y1 := ⟨_, rfl⟩
        obtain ⟨y2, hy2⟩ : ∃ y2, l[k].2 = y2 := ⟨_, rfl⟩
        rw [hy1] at x0 HF HN2
        rw [hy2] at x1 HF
        clear hc q0 q1 hy1 hy2 hbw hno hsl
        by_cases hg : y1 = g
        · have hr := hid (HF.out hg)
          have hg2 : (y1 == g) = true := by simp [hg]
          clear hg
          go_wp2
          all_goals go_ret
          all_goals exact ⟨by rw [hr.out]; rfl, Bw.alloc ((Bw.alloc (Bw.alloc (Bw.refl _) _) _).trans HB.out) _⟩
        · have hr := hid (HN2.out hg)
          have hg2 : (y1 == g) = false := by simp [hg]
          clear hg
          go_wp2
          go_roundw
          case rel => exact ⟨k + 1, by omega, by go_num, Bw.alloc HB.out _, hr.out⟩
          case measure => simp [intOf]; omega
      · have h4' : ¬ (k : Int) < (l.length : Int) := by omega
        obtain rfl : k = l.length := by omega
        clear hbw hno
        go_wp2
        all_goals go_ret
        all_goals exact ⟨by rw [any_none (fun i hi => HO.out i hi hi)]; rfl, (Bw.alloc (Bw.alloc (Bw.refl _) _) _).trans HB.out⟩

end Go.Proofs.Ytaeifhfhahcoiaa
