/- The program's tests (functions that are handed on), where a thread stands first: contracts. -/
import Derived.Test.YteeeijbjokkomaaPa
import Derived.Shelf.Abstract
set_option linter.unusedSimpArgs false
set_option linter.unusedVariables false
namespace Go.Proofs.Yteeeijbjokkomaa
open Go Go.RowKit

def wV (x : WW) : Value := .agg #[.int .i64 x.t, .int .i64 x.n, .int .i64 x.m, .int .i64 x.u]
def kV (x : KK) : Value := .agg #[.int .i64 x.1.t, .int .i64 x.1.n, .int .i64 x.1.m, .int .i64 x.1.u, .bool x.2]

section
variable (w : World) (b : Nat) (t : Int) (hc : w.cell? ⟨b, 0, none⟩ = some (.int .i64 t))
include hc

set_option maxRecDepth 100000 in
set_option maxHeartbeats 1000000 in
theorem waits1_any (x : WW) : Calls Try.prog 68 #[wV x, .pointer (some ⟨b, 0, none⟩)] w fun e w' => e = .returned (.bool (ofR x.t x.n t)) ∧ Bw w w' := by
  obtain ⟨a1, a2, a3, a4⟩ := x
  unfold wV
  have hlt := World.block_lt_of_cell? w _ hc
  simp only at hlt ⊢
  have hn := fun w => isOf_any a1 a2 t w
  go_enter Try.func68, Try.ntmps68
  go_wp2_with (first
    | (go_at_call 38; refine (hn _).mono ?_; rintro e w1 ⟨rfl, os, k, rfl⟩)
    | fail)
  all_goals go_ret
  all_goals exact ⟨rfl, Bw.lay (Bw.alloc (Bw.refl _) _) _ _⟩

set_option maxRecDepth 100000 in
set_option maxHeartbeats 1000000 in
theorem woken1_any (x : KK) : Calls Try.prog 61 #[kV x, .pointer (some ⟨b, 0, none⟩)] w fun e w' => e = .returned (.bool (ofR x.1.t x.1.n t)) ∧ Bw w w' := by
  obtain ⟨⟨a1, a2, a3, a4⟩, a5⟩ := x
  unfold kV
  have hlt := World.block_lt_of_cell? w _ hc
  simp only at hlt ⊢
  have hn := fun w => isOf_any a1 a2 t w
  go_enter Try.func61, Try.ntmps61
  go_wp2_with (first
    | (go_at_call 38; refine (hn _).mono ?_; rintro e w1 ⟨rfl, os, k, rfl⟩)
    | fail)
  all_goals go_ret
  all_goals exact ⟨rfl, Bw.lay (Bw.alloc (Bw.refl _) _) _ _⟩

set_option maxRecDepth 100000 in
set_option maxHeartbeats 1000000 in
theorem notify1_any (x : WW) : Calls Try.prog 40 #[wV x, .pointer (some ⟨b, 0, none⟩)] w fun e w' => e = .returned (.bool (x.m == t)) ∧ Bw w w' := by
  obtain ⟨a1, a2, a3, a4⟩ := x
  unfold wV
  have hlt := World.block_lt_of_cell? w _ hc
  simp only at hlt ⊢
  go_enter Try.func40, Try.ntmps40
  go_wp2
  all_goals go_ret
  all_goals exact ⟨rfl, Bw.alloc (Bw.refl _) _⟩

set_option maxRecDepth 100000 in
set_option maxHeartbeats 1000000 in
theorem expire1_any (x : WW) : Calls Try.prog 50 #[wV x, .pointer (some ⟨b, 0, none⟩)] w fun e w' => e = .returned (.bool (dueP t x)) ∧ Bw w w' := by
  obtain ⟨a1, a2, a3, a4⟩ := x
  unfold wV dueP
  have hlt := World.block_lt_of_cell? w _ hc
  simp only at hlt ⊢
  have hn := fun w => timed_any ⟨a1, a2, a3, a4⟩ w
  simp only at hn
  cases h : (a4 != -1)
  · rw [h] at hn
    go_enter Try.func50, Try.ntmps50
    go_wp2_with (first
      | (go_at_call 45; refine (hn _).mono ?_; rintro e w1 ⟨rfl, os, k, rfl⟩)
      | fail)
    all_goals go_ret
    all_goals exact ⟨rfl, Bw.lay (Bw.alloc (Bw.refl _) _) _ _⟩
  · rw [h] at hn
    go_enter Try.func50, Try.ntmps50
    go_wp2_with (first
      | (go_at_call 45; refine (hn _).mono ?_; rintro e w1 ⟨rfl, os, k, rfl⟩)
      | fail)
    all_goals go_ret
    all_goals exact ⟨rfl, Bw.lay (Bw.alloc (Bw.refl _) _) _ _⟩

set_option maxRecDepth 100000 in
set_option maxHeartbeats 1000000 in
theorem wio1W_any (x : WW) : Calls Try.prog 63 #[wV x, .pointer (some ⟨b, 0, none⟩)] w fun e w' => e = .returned (.bool (ofR x.t x.n t)) ∧ Bw w w' := by
  obtain ⟨a1, a2, a3, a4⟩ := x
  unfold wV
  have hlt := World.block_lt_of_cell? w _ hc
  simp only at hlt ⊢
  have hn := fun w => isOf_any a1 a2 t w
  have hme : ∀ w, (method 237 89 (.agg #[.int .i64 a1, .int .i64 a2, .int .i64 a3, .int .i64 a4]) "jacquard/lock.isOf").run Try.prog w = .ok (38, .agg #[.int .i64 a1, .int .i64 a2]) w := fun _ => by kernel_rfl
  go_enter Try.func63, Try.ntmps63
  go_wp2_with (first
    | (go_at_call 38; refine (hn _).mono ?_; rintro e w1 ⟨rfl, os, k, rfl⟩)
    | fail)
  all_goals go_ret
  all_goals exact ⟨rfl, Bw.lay (Bw.alloc (Bw.refl _) _) _ _⟩

set_option maxRecDepth 100000 in
set_option maxHeartbeats 1000000 in
theorem wio1K_any (x : KK) : Calls Try.prog 65 #[kV x, .pointer (some ⟨b, 0, none⟩)] w fun e w' => e = .returned (.bool (ofR x.1.t x.1.n t)) ∧ Bw w w' := by
  obtain ⟨⟨a1, a2, a3, a4⟩, a5⟩ := x
  unfold kV
  have hlt := World.block_lt_of_cell? w _ hc
  simp only at hlt ⊢
  have hn := fun w => isOf_any a1 a2 t w
  have hme : ∀ w, (method 237 94 (.agg #[.int .i64 a1, .int .i64 a2, .int .i64 a3, .int .i64 a4, .bool a5]) "jacquard/lock.isOf").run Try.prog w = .ok (38, .agg #[.int .i64 a1, .int .i64 a2]) w := fun _ => by kernel_rfl
  go_enter Try.func65, Try.ntmps65
  go_wp2_with (first
    | (go_at_call 38; refine (hn _).mono ?_; rintro e w1 ⟨rfl, os, k, rfl⟩)
    | fail)
  all_goals go_ret
  all_goals exact ⟨rfl, Bw.lay (Bw.alloc (Bw.refl _) _) _ _⟩
end

/-! ## the first one -/

theorem fst_next {α : Type} (P : α → Bool) : ∀ (l : List α) (i : Nat) (k : Nat) (hk : k < l.length), (∀ j (hj : j < k), P (l[j]'(by omega)) = false) → P l[k] = true → fst P l i = ((i + k : Nat) : Int)
  | x :: l, i, 0, _, _, h => by simp at h; simp [fst, h]
  | x :: l, i, k + 1, hk, hno, h => by
    have h0 : P x = false := hno 0 (by omega)
    have ih := fst_next P l (i + 1) k (by simpa using hk) (fun j hj => hno (j + 1) (by omega)) (by simpa using h)
    simp only [fst, h0, if_neg Bool.false_ne_true]
    rw [ih]
    congr 1
    omega
theorem fst_none {α : Type} (P : α → Bool) : ∀ (l : List α) (i : Nat), (∀ j (hj : j < l.length), P l[j] = false) → fst P l i = -1
  | [], _, _ => rfl
  | x :: l, i, h => by
    have h0 : P x = false := h 0 (by simp)
    simp only [fst, h0, if_neg Bool.false_ne_true]
    exact fst_none P l (i + 1) (fun j hj => h (j + 1) (by simpa using hj))
theorem fst_cases {α : Type} (P : α → Bool) (l : List α) : (fst P l 0 = -1 ∧ ∀ x ∈ l, P x = false) ∨ ∃ k, ∃ hk : k < l.length, fst P l 0 = (k : Int) ∧ P l[k] = true := by
  by_cases h : ∃ k, ∃ hk : k < l.length, P l[k] = true ∧ ∀ j (hj : j < k), P (l[j]'(by omega)) = false
  · obtain ⟨k, hk, h1, h2⟩ := h
    exact .inr ⟨k, hk, by rw [fst_next P l 0 k hk h2 h1]; simp, h1⟩
  · have key : ∀ n, n ≤ l.length → ∀ j (hj : j < n) (hl : j < l.length), P l[j] = false := by
      intro n
      induction n with
      | zero => intro _ j hj; omega
      | succ n ih =>
        intro hn j hj hl
        by_cases e : j = n
        · subst e
          cases hp : P l[j]
          · rfl
          · exact absurd ⟨j, hl, hp, fun i hi => ih (by omega) i hi (by omega)⟩ h
        · exact ih (by omega) j (by omega) hl
    have key2 := key l.length (Nat.le_refl _)
    refine .inl ⟨fst_none P l 0 (fun j hj => key2 j hj hj), fun x hx => ?_⟩
    obtain ⟨i, hi, rfl⟩ := List.getElem_of_mem hx
    exact key2 i hi hi

set_option maxRecDepth 100000 in
set_option maxHeartbeats 1000000 in
theorem ixW_any {G : Nat → Prop} {w : World} (g : Nat) (lb : Array Value) (P : WW → Bool) (eg : ∀ args w, (callFunc g args).run Try.prog w = .ok (.enter g args) w) (v : Value) (l : List WW) (hs : Sl w G v l.length 4 (l.flatMap wC)) (hm : l.length ≤ 1000)
    (hp : ∀ x ∈ l, ∀ W, Bw w W → Calls Try.prog g (#[wV x] ++ lb) W fun e w' => e = .returned (.bool (P x)) ∧ Bw W w') :
    Calls Try.prog 72 #[v, .func (.func g) #[] lb] w fun e w' => e = .returned (.int .i64 (fst P l 0)) ∧ Bw w w' := by
  obtain ⟨a, c, rfl⟩ := hs.form
  have HS := hid hs
  have HP := hid hp
  clear hs hp
  go_enter Try.func72, Try.ntmps72
  go_wp2
  go_loopw [5, 8] (fun q j wr => ∃ (k : Nat), k ≤ l.length ∧ j = .int .i64 k ∧ Bw w wr ∧ ∀ i (hi : i < l.length), i < k → P l[i] = false) (fun q j _ => l.length - (intOf j).toNat)
  case atStart => exact ⟨0, by omega, rfl, Bw.refl w, fun i _ h => absurd h (Nat.not_lt_zero i)⟩
  case round =>
    obtain ⟨k, hk, rfl, hbw, hno⟩ := hrel
    have HB := hid hbw
    have HO := hid hno
    by_cases h4 : k < l.length
    · have h4' : (k : Int) < (l.length : Int) := by omega
      obtain ⟨b, o, e, hlb, hc⟩ := sl_elem wC_len (by decide) (HS.out.below hbw) h4
      subst e
      have x0 := hc 0 (by decide)
      have x1 := hc 1 (by decide)
      have x2 := hc 2 (by decide)
      have x3 := hc 3 (by decide)
      simp only [wC, Nat.add_zero, List.getElem?_cons_zero, List.getElem?_cons_succ] at x0 x1 x2 x3
      have HY := hid (fun h => fst_next P l 0 k h4 (fun j hj => HO.out j (by omega) hj) h)
      have HN := hid (fun (e : P l[k] = false) i hi (hik : i < k + 1) => if e2 : i = k then (by subst e2; exact e) else HO.out i hi (by omega))
      have hcall := HP.out l[k] (List.getElem_mem h4) _ HB.out
      clear hc hbw hno
      obtain ⟨y, hy⟩ : ∃ y, l[k] = y := ⟨_, rfl⟩
      rw [hy] at x0 x1 x2 x3 HY HN hcall
      clear hy
      obtain ⟨y1, y2, y3, y4⟩ := y
      simp only [wV] at x0 x1 x2 x3 hcall
      cases hq : P ⟨y1, y2, y3, y4⟩
      · have HR := hid (HN.out hq)
        rw [hq] at hcall
        clear hq
        go_wp2_with (go_at_fn g; refine hcall.mono ?_; rintro e w' ⟨rfl, hb'⟩; have HB1 := hid (HB.out.trans hb'); clear hb')
        go_roundw
        case rel => exact ⟨k + 1, by omega, by go_num, HB1.out, HR.out⟩
        case measure => simp [intOf]; omega
      · have HR := hid (HY.out hq)
        rw [hq] at hcall
        clear hq
        go_wp2_with (go_at_fn g; refine hcall.mono ?_; rintro e w' ⟨rfl, hb'⟩; have HB1 := hid (HB.out.trans hb'); clear hb')
        all_goals go_ret
        all_goals exact ⟨by rw [HR.out, Nat.zero_add]; rfl, HB1.out⟩
    · have h4' : ¬ (k : Int) < (l.length : Int) := by omega
      obtain rfl : k = l.length := by omega
      have HR := hid (fst_none P l 0 (fun j hj => HO.out j hj hj))
      clear hbw hno
      go_wp2
      all_goals go_ret
      all_goals exact ⟨by rw [HR.out]; rfl, HB.out⟩

set_option maxRecDepth 100000 in
set_option maxHeartbeats 1000000 in
theorem ixK_any {G : Nat → Prop} {w : World} (g : Nat) (lb : Array Value) (P : KK → Bool) (eg : ∀ args w, (callFunc g args).run Try.prog w = .ok (.enter g args) w) (v : Value) (l : List KK) (hs : Sl w G v l.length 5 (l.flatMap kC)) (hm : l.length ≤ 1000)
    (hp : ∀ x ∈ l, ∀ W, Bw w W → Calls Try.prog g (#[kV x] ++ lb) W fun e w' => e = .returned (.bool (P x)) ∧ Bw W w') :
    Calls Try.prog 60 #[v, .func (.func g) #[] lb] w fun e w' => e = .returned (.int .i64 (fst P l 0)) ∧ Bw w w' := by
  obtain ⟨a, c, rfl⟩ := hs.form
  have HS := hid hs
  have HP := hid hp
  clear hs hp
  go_enter Try.func60, Try.ntmps60
  go_wp2
  go_loopw [5, 8] (fun q j wr => ∃ (k : Nat), k ≤ l.length ∧ j = .int .i64 k ∧ Bw w wr ∧ ∀ i (hi : i < l.length), i < k → P l[i] = false) (fun q j _ => l.length - (intOf j).toNat)
  case atStart => exact ⟨0, by omega, rfl, Bw.refl w, fun i _ h => absurd h (Nat.not_lt_zero i)⟩
  case round =>
    obtain ⟨k, hk, rfl, hbw, hno⟩ := hrel
    have HB := hid hbw
    have HO := hid hno
    by_cases h4 : k < l.length
    · have h4' : (k : Int) < (l.length : Int) := by omega
      obtain ⟨b, o, e, hlb, hc⟩ := sl_elem kC_len (by decide) (HS.out.below hbw) h4
      subst e
      have x0 := hc 0 (by decide)
      have x1 := hc 1 (by decide)
      have x2 := hc 2 (by decide)
      have x3 := hc 3 (by decide)
      have x4 := hc 4 (by decide)
      simp only [kC, Nat.add_zero, List.getElem?_cons_zero, List.getElem?_cons_succ] at x0 x1 x2 x3 x4
      have HY := hid (fun h => fst_next P l 0 k h4 (fun j hj => HO.out j (by omega) hj) h)
      have HN := hid (fun (e : P l[k] = false) i hi (hik : i < k + 1) => if e2 : i = k then (by subst e2; exact e) else HO.out i hi (by omega))
      have hcall := HP.out l[k] (List.getElem_mem h4) _ HB.out
      clear hc hbw hno
      obtain ⟨y, hy⟩ : ∃ y, l[k] = y := ⟨_, rfl⟩
      rw [hy] at x0 x1 x2 x3 x4 HY HN hcall
      clear hy
      obtain ⟨⟨y1, y2, y3, y4⟩, y5⟩ := y
      simp only [kV] at x0 x1 x2 x3 x4 hcall
      cases hq : P ⟨⟨y1, y2, y3, y4⟩, y5⟩
      · have HR := hid (HN.out hq)
        rw [hq] at hcall
        clear hq
        go_wp2_with (go_at_fn g; refine hcall.mono ?_; rintro e w' ⟨rfl, hb'⟩; have HB1 := hid (HB.out.trans hb'); clear hb')
        go_roundw
        case rel => exact ⟨k + 1, by omega, by go_num, HB1.out, HR.out⟩
        case measure => simp [intOf]; omega
      · have HR := hid (HY.out hq)
        rw [hq] at hcall
        clear hq
        go_wp2_with (go_at_fn g; refine hcall.mono ?_; rintro e w' ⟨rfl, hb'⟩; have HB1 := hid (HB.out.trans hb'); clear hb')
        all_goals go_ret
        all_goals exact ⟨by rw [HR.out, Nat.zero_add]; rfl, HB1.out⟩
    · have h4' : ¬ (k : Int) < (l.length : Int) := by omega
      obtain rfl : k = l.length := by omega
      have HR := hid (fst_none P l 0 (fun j hj => HO.out j hj hj))
      clear hbw hno
      go_wp2
      all_goals go_ret
      all_goals exact ⟨by rw [HR.out]; rfl, HB.out⟩

end Go.Proofs.Yteeeijbjokkomaa
