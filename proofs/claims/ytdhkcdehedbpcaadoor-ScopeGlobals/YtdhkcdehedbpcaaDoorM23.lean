/- wellMade, step: contracts. · withoutFinished: the contract; rows of unfinished nodes. -/
import Derived.Test.YtdhkcdehedbpcaaDoorM22
import Derived.Test.YtdhkcdehedbpcaaDoorM16
import Derived.Test.YtdhkcdehedbpcaaDoorM5
import Derived.Deep.QuietTactic
import Derived.BigQuiet
set_option linter.unusedSimpArgs false
set_option linter.unusedVariables false
namespace Go.Proofs.YtdhkcdehedbpcaaDoor
open Go Go.RowKit

set_option maxRecDepth 100000 in
set_option maxHeartbeats 8000000 in
theorem wellMade_any (n : Nat) (h1 : 0 < n) (h2 : n < 33) (N num at_ : Int) (t : List Int) (ht : (∀ c ∈ t, 0 ≤ c ∧ c ≤ 255) ∧ t.length ≤ 9223372036854775807) (hN : -9223372036854775808 ≤ N ∧ N ≤ 9223372036854775807) (w : World) (hh : Sh w) :
    Calls Tryd.prog 53 #[.agg #[.int .i64 (n : Int), .int .i64 N, .string (strOfNums t), .int .i64 num, .int .i64 at_]] w fun e w' => e = .returned (.bool (wmP ((n : Int), N, t, num, at_))) ∧ Bw w w' := by
  have c0 := hh.c0 n h2
  have c1 := hh.c1 n h2
  have c2 := hh.c2 n h2
  have c3 := hh.c3 n h2
  have gl := hh.lt
  have i1 : (0 : Int) ≤ (n : Int) := by omega
  have i2 : (n : Int) < 33 := by omega
  have XN := hid (xNameB_any t ht.1 ht.2)
  have XB := hid (isBinary_any t)
  have hs1 : 0 ≤ (shpA n).2.1 := by
    unfold shpA
    have : ∀ i, i < 33 → 0 ≤ (shpT.getD i (0, 0, 0, 0)).2.1 := by decide
    exact this _ (by omega)
  have hs12 : ((n : Int) = 12 ∨ (n : Int) = 31) → 1 ≤ (shpA n).2.1 := by
    rintro (h | h)
    · rw [h]; decide
    · rw [h]; decide
  unfold wmP
  dsimp only
  generalize (shpA n).1 = s0 at *
  generalize (shpA n).2.1 = s1 at *
  generalize (shpA n).2.2.1 = s2 at *
  generalize (shpA n).2.2.2 = s3 at *
  have HS12 := hid hs12
  clear hh ht hs12
  by_cases b1 : N < s1
  · rw [if_pos (.inl b1)]
    generalize strOfNums t = s at *
    go_enter Tryd.func53, Tryd.ntmps53
    go_wp2
    all_goals go_ret
    all_goals exact ⟨rfl, bq⟩
  by_cases b2 : s2 < N
  · rw [if_pos (.inr (.inl b2))]
    generalize strOfNums t = s at *
    go_enter Tryd.func53, Tryd.ntmps53
    go_wp2
    all_goals go_ret
    all_goals exact ⟨rfl, bq⟩
  have d1 : decide (N < s1) = false := decide_eq_false b1
  have d2 : decide (s2 < N) = false := decide_eq_false b2
  by_cases b3 : s3 = 1 ∧ isName t = false
  · rw [if_pos (.inr (.inr b3))]
    obtain ⟨rfl, b3⟩ := b3
    rw [b3] at XN
    generalize strOfNums t = s at *
    go_enter Tryd.func53, Tryd.ntmps53
    go_wp2_with (first
      | (go_at_call 73; refine (XN.out _).mono ?_; rintro e w' ⟨rfl, hw'⟩; subst w')
      | fail)
    all_goals go_ret
    all_goals exact ⟨rfl, bq⟩
  · rw [if_neg (by rintro (h | h | h); exact b1 h; exact b2 h; exact b3 h)]
    have b4 : (s3 = 1 ∧ isName t = true) ∨ (s3 == 1) = false := by
      by_cases h : s3 = 1
      · refine .inl ⟨h, ?_⟩
        cases hq : isName t with
        | true => rfl
        | false => exact absurd ⟨h, hq⟩ b3
      · exact .inr (by simpa using h)
    rcases b4 with ⟨rfl, b4⟩ | b4
    · rw [b4] at XN
      by_cases k14 : n = 14
      · subst k14
        rw [if_pos (show ((14 : Nat) : Int) = 14 from rfl)]
        generalize strOfNums t = s at *
        go_enter Tryd.func53, Tryd.ntmps53
        go_wp2_with (first
          | (go_at_call 73; refine (XN.out _).mono ?_; rintro e w' ⟨rfl, hw'⟩; subst w')
          | (go_at_call 74; refine (XB.out _).mono ?_; rintro e w' ⟨rfl, hw'⟩; subst w')
          | fail)
        all_goals go_ret
        all_goals exact ⟨by first | rfl | (simp [*]; done) | (simp; omega), bq⟩
      by_cases k23 : n = 23
      · subst k23
        rw [if_neg (by decide), if_pos (show ((23 : Nat) : Int) = 23 from rfl)]
        generalize binP t = bb at *
        generalize strOfNums t = s at *
        go_enter Tryd.func53, Tryd.ntmps53
        go_wp2_with (first
          | (go_at_call 73; refine (XN.out _).mono ?_; rintro e w' ⟨rfl, hw'⟩; subst w')
          | (go_at_call 74; refine (XB.out _).mono ?_; rintro e w' ⟨rfl, hw'⟩; subst w')
          | fail)
        all_goals go_ret
        all_goals exact ⟨by first | rfl | (simp [*]; done) | (simp; omega), bq⟩
      by_cases k12 : n = 12
      · subst k12
        rw [if_neg (by decide), if_neg (by decide), if_pos (.inl rfl)]
        have hs9 := HS12.out (.inl rfl)
        have hN1 : 1 ≤ N := by omega
        generalize strOfNums t = s at *
        go_enter Tryd.func53, Tryd.ntmps53
        go_wp2_with (first
          | (go_at_call 73; refine (XN.out _).mono ?_; rintro e w' ⟨rfl, hw'⟩; subst w')
          | (go_at_call 74; refine (XB.out _).mono ?_; rintro e w' ⟨rfl, hw'⟩; subst w')
          | fail)
        all_goals go_ret
        all_goals exact ⟨by first | rfl | (simp [*]; done) | (simp; omega), bq⟩
      by_cases k31 : n = 31
      · subst k31
        rw [if_neg (by decide), if_neg (by decide), if_pos (.inr rfl)]
        have hs9 := HS12.out (.inr rfl)
        have hN1 : 1 ≤ N := by omega
        generalize strOfNums t = s at *
        go_enter Tryd.func53, Tryd.ntmps53
        go_wp2_with (first
          | (go_at_call 73; refine (XN.out _).mono ?_; rintro e w' ⟨rfl, hw'⟩; subst w')
          | (go_at_call 74; refine (XB.out _).mono ?_; rintro e w' ⟨rfl, hw'⟩; subst w')
          | fail)
        all_goals go_ret
        all_goals exact ⟨by first | rfl | (simp [*]; done) | (simp; omega), bq⟩
      rw [if_neg (by omega), if_neg (by omega), if_neg (by omega)]
      generalize strOfNums t = s at *
      go_enter Tryd.func53, Tryd.ntmps53
      go_wp2_with (first
        | (go_at_call 73; refine (XN.out _).mono ?_; rintro e w' ⟨rfl, hw'⟩; subst w')
        | (go_at_call 74; refine (XB.out _).mono ?_; rintro e w' ⟨rfl, hw'⟩; subst w')
        | fail)
      all_goals go_ret
      all_goals exact ⟨by first | rfl | (simp [*]; done) | (simp; omega), bq⟩
    · skip
      by_cases k14 : n = 14
      · subst k14
        rw [if_pos (show ((14 : Nat) : Int) = 14 from rfl)]
        generalize strOfNums t = s at *
        go_enter Tryd.func53, Tryd.ntmps53
        go_wp2_with (first
          | (go_at_call 73; refine (XN.out _).mono ?_; rintro e w' ⟨rfl, hw'⟩; subst w')
          | (go_at_call 74; refine (XB.out _).mono ?_; rintro e w' ⟨rfl, hw'⟩; subst w')
          | fail)
        all_goals go_ret
        all_goals exact ⟨by first | rfl | (simp [*]; done) | (simp; omega), bq⟩
      by_cases k23 : n = 23
      · subst k23
        rw [if_neg (by decide), if_pos (show ((23 : Nat) : Int) = 23 from rfl)]
        generalize binP t = bb at *
        generalize strOfNums t = s at *
        go_enter Tryd.func53, Tryd.ntmps53
        go_wp2_with (first
          | (go_at_call 73; refine (XN.out _).mono ?_; rintro e w' ⟨rfl, hw'⟩; subst w')
          | (go_at_call 74; refine (XB.out _).mono ?_; rintro e w' ⟨rfl, hw'⟩; subst w')
          | fail)
        all_goals go_ret
        all_goals exact ⟨by first | rfl | (simp [*]; done) | (simp; omega), bq⟩
      by_cases k12 : n = 12
      · subst k12
        rw [if_neg (by decide), if_neg (by decide), if_pos (.inl rfl)]
        have hs9 := HS12.out (.inl rfl)
        have hN1 : 1 ≤ N := by omega
        generalize strOfNums t = s at *
        go_enter Tryd.func53, Tryd.ntmps53
        go_wp2_with (first
          | (go_at_call 73; refine (XN.out _).mono ?_; rintro e w' ⟨rfl, hw'⟩; subst w')
          | (go_at_call 74; refine (XB.out _).mono ?_; rintro e w' ⟨rfl, hw'⟩; subst w')
          | fail)
        all_goals go_ret
        all_goals exact ⟨by first | rfl | (simp [*]; done) | (simp; omega), bq⟩
      by_cases k31 : n = 31
      · subst k31
        rw [if_neg (by decide), if_neg (by decide), if_pos (.inr rfl)]
        have hs9 := HS12.out (.inr rfl)
        have hN1 : 1 ≤ N := by omega
        generalize strOfNums t = s at *
        go_enter Tryd.func53, Tryd.ntmps53
        go_wp2_with (first
          | (go_at_call 73; refine (XN.out _).mono ?_; rintro e w' ⟨rfl, hw'⟩; subst w')
          | (go_at_call 74; refine (XB.out _).mono ?_; rintro e w' ⟨rfl, hw'⟩; subst w')
          | fail)
        all_goals go_ret
        all_goals exact ⟨by first | rfl | (simp [*]; done) | (simp; omega), bq⟩
      rw [if_neg (by omega), if_neg (by omega), if_neg (by omega)]
      generalize strOfNums t = s at *
      go_enter Tryd.func53, Tryd.ntmps53
      go_wp2_with (first
        | (go_at_call 73; refine (XN.out _).mono ?_; rintro e w' ⟨rfl, hw'⟩; subst w')
        | (go_at_call 74; refine (XB.out _).mono ?_; rintro e w' ⟨rfl, hw'⟩; subst w')
        | fail)
      all_goals go_ret
      all_goals exact ⟨by first | rfl | (simp [*]; done) | (simp; omega), bq⟩

/-- A node with how many of its parts came, in memory. -/
def unV (u : ANode × Int) : List Value := [.int .i64 u.1.1, .int .i64 u.1.2.1, .string (strOfNums u.1.2.2.1), .int .i64 u.1.2.2.2.1, .int .i64 u.1.2.2.2.2, .int .i64 u.2]

set_option maxRecDepth 100000 in
set_option maxHeartbeats 8000000 in
theorem step_any (n : ANode) (c : Nat) (g o : Nat) (w : World) (hc : (c : Int) < n.2.1) (hc2 : c ≤ 100000) (h4 : n.1 = 4 → n.2.1 ≤ 2) (h5 : n.1 = 5 ∨ n.1 = 6 → n.2.1 ≤ 3) (hg : g < w.heap.size)
    (c0 : w.cell? ⟨g, o, none⟩ = some (.int .i64 n.1)) (c3 : w.cell? ⟨g, o + 3, none⟩ = some (.int .i64 n.2.2.2.1)) (c5 : w.cell? ⟨g, o + 5, none⟩ = some (.int .i64 (c : Int))) (f5 : w.frozen? ⟨g, o + 5, none⟩ = false) :
    Calls Tryd.prog 56 #[.pointer (some ⟨g, o, none⟩)] w fun e w' => e = .returned (.int .i64 (stP n (c : Int))) ∧ w' = w.setCell ⟨g, o + 5, none⟩ (.int .i64 ((c : Int) + 1)) := by
  have x20 : ∀ w, (Instr.index 134 (.agg #[.int .i64 8, .int .i64 3]) (.int .i64 0)).run Tryd.prog w = .ok (.int .i64 8) w := fun _ => rfl
  have x21 : ∀ w, (Instr.index 134 (.agg #[.int .i64 8, .int .i64 3]) (.int .i64 1)).run Tryd.prog w = .ok (.int .i64 3) w := fun _ => rfl
  have x30 : ∀ w, (Instr.index 135 (.agg #[.int .i64 3, .int .i64 6, .int .i64 7]) (.int .i64 0)).run Tryd.prog w = .ok (.int .i64 3) w := fun _ => rfl
  have x31 : ∀ w, (Instr.index 135 (.agg #[.int .i64 3, .int .i64 6, .int .i64 7]) (.int .i64 1)).run Tryd.prog w = .ok (.int .i64 6) w := fun _ => rfl
  have x32 : ∀ w, (Instr.index 135 (.agg #[.int .i64 3, .int .i64 6, .int .i64 7]) (.int .i64 2)).run Tryd.prog w = .ok (.int .i64 7) w := fun _ => rfl
  unfold stP
  generalize n.2.1 = N at *
  generalize n.2.2.2.1 = num at *
  generalize n.1 = k at *
  by_cases k1 : k = 1
  · subst k1
    rw [if_pos (.inl rfl)]
    go_enter Tryd.func56, Tryd.ntmps56
    go_wp2
    all_goals go_ret
    all_goals exact ⟨rfl, rfl⟩
  by_cases k2 : k = 2
  · subst k2
    rw [if_pos (.inr rfl)]
    go_enter Tryd.func56, Tryd.ntmps56
    go_wp2
    all_goals go_ret
    all_goals exact ⟨rfl, rfl⟩
  by_cases k11 : k = 11
  · subst k11
    rw [if_neg (by decide), if_pos rfl]
    go_enter Tryd.func56, Tryd.ntmps56
    go_wp2
    all_goals go_ret
    all_goals exact ⟨rfl, rfl⟩
  by_cases k21 : k = 21
  · subst k21
    rw [if_neg (by decide), if_neg (by decide), if_pos rfl]
    go_enter Tryd.func56, Tryd.ntmps56
    go_wp2
    all_goals go_ret
    all_goals exact ⟨rfl, rfl⟩
  by_cases k4 : k = 4
  · subst k4
    rw [if_neg (by decide), if_neg (by decide), if_neg (by decide), if_pos rfl]
    have hc9 : c = 0 ∨ c = 1 := by have := h4 rfl; omega
    clear h4 h5 hc hc2
    rcases hc9 with rfl | rfl
    · rw [if_pos (show ((0 : Nat) : Int) = 0 from rfl)]
      go_enter Tryd.func56, Tryd.ntmps56
      go_wp2
      all_goals go_ret
      all_goals exact ⟨rfl, rfl⟩
    · rw [if_neg (by decide)]
      go_enter Tryd.func56, Tryd.ntmps56
      go_wp2
      all_goals go_ret
      all_goals exact ⟨rfl, rfl⟩
  by_cases k5 : k = 5
  · subst k5
    rw [if_neg (by decide), if_neg (by decide), if_neg (by decide), if_neg (by decide), if_pos (.inl rfl)]
    have hc9 : c = 0 ∨ c = 1 ∨ c = 2 := by have := h5 (.inl rfl); omega
    clear h4 h5 hc hc2
    rcases hc9 with rfl | rfl | rfl
    · rw [if_pos (show ((0 : Nat) : Int) = 0 from rfl)]
      go_enter Tryd.func56, Tryd.ntmps56
      go_wp2
      all_goals go_ret
      all_goals exact ⟨rfl, rfl⟩
    · rw [if_neg (by decide), if_pos (show ((1 : Nat) : Int) = 1 from rfl)]
      go_enter Tryd.func56, Tryd.ntmps56
      go_wp2
      all_goals go_ret
      all_goals exact ⟨rfl, rfl⟩
    · rw [if_neg (by decide), if_neg (by decide)]
      go_enter Tryd.func56, Tryd.ntmps56
      go_wp2
      all_goals go_ret
      all_goals exact ⟨rfl, rfl⟩
  by_cases k6 : k = 6
  · subst k6
    rw [if_neg (by decide), if_neg (by decide), if_neg (by decide), if_neg (by decide), if_pos (.inr rfl)]
    have hc9 : c = 0 ∨ c = 1 ∨ c = 2 := by have := h5 (.inr rfl); omega
    clear h4 h5 hc hc2
    rcases hc9 with rfl | rfl | rfl
    · rw [if_pos (show ((0 : Nat) : Int) = 0 from rfl)]
      go_enter Tryd.func56, Tryd.ntmps56
      go_wp2
      all_goals go_ret
      all_goals exact ⟨rfl, rfl⟩
    · rw [if_neg (by decide), if_pos (show ((1 : Nat) : Int) = 1 from rfl)]
      go_enter Tryd.func56, Tryd.ntmps56
      go_wp2
      all_goals go_ret
      all_goals exact ⟨rfl, rfl⟩
    · rw [if_neg (by decide), if_neg (by decide)]
      go_enter Tryd.func56, Tryd.ntmps56
      go_wp2
      all_goals go_ret
      all_goals exact ⟨rfl, rfl⟩
  by_cases k12 : k = 12
  · subst k12
    rw [if_neg (by decide), if_neg (by decide), if_neg (by decide), if_neg (by decide), if_neg (by decide), if_pos (.inl rfl)]
    clear h4 h5
    by_cases hcn : (c : Int) < num
    · rw [if_pos hcn]
      go_enter Tryd.func56, Tryd.ntmps56
      go_wp2
      all_goals go_ret
      all_goals exact ⟨rfl, rfl⟩
    · rw [if_neg hcn]
      go_enter Tryd.func56, Tryd.ntmps56
      go_wp2
      all_goals go_ret
      all_goals exact ⟨rfl, rfl⟩
  by_cases k31 : k = 31
  · subst k31
    rw [if_neg (by decide), if_neg (by decide), if_neg (by decide), if_neg (by decide), if_neg (by decide), if_pos (.inr rfl)]
    clear h4 h5
    by_cases hcn : (c : Int) < num
    · rw [if_pos hcn]
      go_enter Tryd.func56, Tryd.ntmps56
      go_wp2
      all_goals go_ret
      all_goals exact ⟨rfl, rfl⟩
    · rw [if_neg hcn]
      go_enter Tryd.func56, Tryd.ntmps56
      go_wp2
      all_goals go_ret
      all_goals exact ⟨rfl, rfl⟩
  rw [if_neg (by omega), if_neg (by omega), if_neg (by omega), if_neg (by omega), if_neg (by omega), if_neg (by omega)]
  clear h4 h5
  go_enter Tryd.func56, Tryd.ntmps56
  go_wp2
  all_goals go_ret
  all_goals exact ⟨rfl, rfl⟩

end Go.Proofs.YtdhkcdehedbpcaaDoor

set_option linter.unusedSimpArgs false
set_option linter.unusedVariables false
namespace Go.Proofs.YtdhkcdehedbpcaaDoor
open Go Go.RowKit

/-- Unfinished nodes in a row that is owned, the outermost first. -/
def Un (w : World) (base : Nat) (v : Value) (S : List (ANode × Int)) : Prop := w.ownsRow base 114 6 v S.length (S.flatMap unV)

theorem un_len : ∀ S : List (ANode × Int), (S.flatMap unV).length = S.length * 6
  | [] => rfl
  | u :: S => by rw [List.flatMap_cons, List.length_append, un_len S, List.length_cons]; simp [unV]; omega

theorem un_get : ∀ (l : List (ANode × Int)) (i : Nat) (hi : i < l.length) (j : Nat) (hj : j < 6), (l.flatMap unV)[i * 6 + j]? = (unV l[i])[j]?
  | [], i, hi, _, _ => by simp at hi
  | t :: u, 0, _, j, hj => by
    rw [List.flatMap_cons, Nat.zero_mul, Nat.zero_add, List.getElem?_append_left (by simp [unV]; omega)]
    rfl
  | t :: u, i + 1, hi, j, hj => by
    have hi' : i < u.length := by simpa using hi
    rw [List.flatMap_cons, List.getElem?_append_right (by simp [unV]; omega)]
    have e : (i + 1) * 6 + j - (unV t).length = i * 6 + j := by simp [unV]; omega
    rw [e, un_get u i hi' j hj]
    simp

theorem Un.at {w : World} {base : Nat} {v : Value} {l : List (ANode × Int)} (h : Un w base v l) (hl : 0 < l.length) :
    ∃ g cap, v = .slice (some ⟨g, 0, none⟩) l.length cap ∧ base ≤ g ∧ g < w.heap.size ∧ l.length ≤ cap ∧ (∀ i (hi : i < l.length) j, j < 6 → w.cell? ⟨g, i * 6 + j, none⟩ = (unV l[i])[j]?) ∧ ∀ j, w.frozen? ⟨g, j, none⟩ = false := by
  rcases h.2 with ⟨_, h0⟩ | ⟨g, cap, cur, rfl, hb, hg, hnc, hmx, hsz, htake⟩
  · omega
  · refine ⟨g, cap, rfl, hb, (Array.getElem?_eq_some_iff.1 hg).1, hnc, fun i hi j hj => ?_, fun j => by simp [World.frozen?, hg]⟩
    rw [cell_of_row w g (i * 6 + j) cur _ (0, 0) hg, ← un_get l i hi j hj, ← htake, List.getElem?_take, if_pos (by omega)]
    simp

/-- The last ones left out. -/
theorem Un.take {w : World} {base : Nat} {a : Option Addr} {cap : Nat} {l : List (ANode × Int)} (h : Un w base (.slice a l.length cap) l) (hl : 0 < l.length) (k : Nat) (hk : k ≤ l.length) : Un w base (.slice a k cap) (l.take k) := by
  have hlen : (l.take k).length = k := by simp; omega
  refine ⟨by rw [un_len], ?_⟩
  rcases h.2 with ⟨_, h0⟩ | ⟨g, cap', cur, e, hb, hg, hnc, hmx, hsz, htake⟩
  · omega
  · injection e with e1 e2 e3
    subst e1 e3
    refine .inr ⟨g, cap, cur, by rw [hlen], hb, hg, by omega, hmx, hsz, ?_⟩
    rw [hlen]
    have : (l.take k).flatMap unV = (l.flatMap unV).take (k * 6) := by
      have e := List.take_append_drop k l
      have e2 : (l.flatMap unV) = (l.take k).flatMap unV ++ (l.drop k).flatMap unV := by rw [← List.flatMap_append, e]
      rw [e2, List.take_left' (by rw [un_len, hlen])]
    rw [this, ← htake, List.take_take]
    congr 1
    omega

theorem wof_snoc (P : List (ANode × Int)) (n : ANode) (c : Int) : wof (P ++ [(n, c)]).reverse = if c = n.2.1 then wof P.reverse else (P ++ [(n, c)]).reverse := by
  rw [List.reverse_append]
  simp only [List.reverse_cons, List.reverse_nil, List.nil_append, List.singleton_append]
  rw [wof]

set_option maxRecDepth 100000 in
set_option maxHeartbeats 8000000 in
theorem without_any (base g cap : Nat) (S : List (ANode × Int)) (hS : 0 < S.length) (hm : S.length ≤ 100000) (w : World) (h : Un w base (.slice (some ⟨g, 0, none⟩) S.length cap) S) :
    Calls Tryd.prog 54 #[.slice (some ⟨g, 0, none⟩) S.length cap] w fun e w' => ∃ k, k ≤ S.length ∧ (S.take k).reverse = wof S.reverse ∧ e = .returned (.slice (some ⟨g, 0, none⟩) k cap) ∧ Bw w w' := by
  obtain ⟨g', cap', e, hb, hg, hnc, hcs, hfz⟩ := h.at hS
  injection e with e1 e2 e3
  injection e1 with e1
  injection e1 with e1
  subst e1 e3
  have HCS := hid hcs
  clear h hcs hfz
  go_enter Tryd.func54, Tryd.ntmps54
  go_wp2
  go_loopw [0] (fun v wr => ∃ k : Nat, k ≤ S.length ∧ v = .slice (some ⟨g, 0, none⟩) k cap ∧ wof (S.take k).reverse = wof S.reverse ∧ Bw w wr) (fun v _ => (match v with | .slice _ k _ => k | _ => 0))
  case atStart => exact ⟨S.length, Nat.le_refl _, rfl, by simp, Bw.refl _⟩
  case round =>
    obtain ⟨k, hk, rfl, hw, hbw⟩ := hrel
    have HW := hid hw
    have HB := hid hbw
    have hgr : g < wr.heap.size := Nat.lt_of_lt_of_le hg hbw.size
    have HCR := hid (fun j => World.cell?_of_block (w := w) (w' := wr) (a := ⟨g, j, none⟩) (hbw.block g hg))
    clear hw hbw
    cases k with
    | zero =>
      have d : ¬ (0 : Int) < ((0 : Nat) : Int) := by omega
      go_wp2
      go_quiet (fail)
      go_wp2
      all_goals go_ret
      all_goals exact ⟨0, Nat.zero_le _, by rw [← HW.out]; simp [wof], rfl, by repeat (first | exact HB.out | apply Bw.drewN | apply Bw.drew)⟩
    | succ k =>
      have hkl : k < S.length := by omega
      have x1 := HCS.out k hkl 1 (by decide)
      have x5 := HCS.out k hkl 5 (by decide)
      have hsn : S.take (k + 1) = S.take k ++ [(S[k].1, S[k].2)] := by rw [List.take_succ_eq_append_getElem hkl]
      have HWS := HW.out
      rw [hsn, wof_snoc] at HWS
      have HWS := hid HWS
      have x1' : wr.cell? ⟨g, k * 6 + 1, none⟩ = some (.int .i64 S[k].1.2.1) := (HCR.out _).trans x1
      have x5' : wr.cell? ⟨g, k * 6 + 5, none⟩ = some (.int .i64 S[k].2) := (HCR.out _).trans x5
      have HSN := hid hsn
      clear x1 x5 hsn HW HCS HCR
      generalize S[k].1 = nn at *
      generalize S[k].2 = cc at *
      have b0 : (0 : Int) < ((k : Int) + 1) := by omega
      have b1 : (0 : Int) ≤ (k : Int) := by omega
      have b2 : (k : Int) < (k : Int) + 1 := by omega
      by_cases hcc : cc = nn.2.1
      · have hq : (cc == nn.2.1) = true := by simpa using hcc
        have HK := hid (show wof (S.take k).reverse = wof S.reverse by have := HWS.out; rw [if_pos hcc] at this; exact this)
        clear HWS HSN
        generalize nn.2.1 = N at *
        clear hcc
        go_wp2
        go_quiet (fail)
        go_wp2
        go_roundw
        case rel => exact ⟨k, by omega, rfl, HK.out, by repeat (first | exact HB.out | apply Bw.drewN | apply Bw.drew)⟩
        case measure => show k < k + 1; omega
      · have hq : (cc == nn.2.1) = false := by simpa using hcc
        have HK := hid (show (S.take (k + 1)).reverse = wof S.reverse by have := HWS.out; rw [if_neg hcc] at this; rw [← this, HSN.out])
        clear HWS HSN
        generalize nn.2.1 = N at *
        clear hcc
        go_wp2
        go_quiet (fail)
        go_wp2
        all_goals go_ret
        all_goals exact ⟨k + 1, hk, HK.out, rfl, by repeat (first | exact HB.out | apply Bw.drewN | apply Bw.drew)⟩

end Go.Proofs.YtdhkcdehedbpcaaDoor

