/- prim.Bin: any two words compared; sums, differences, negatives of numbers: contracts. -/
import Derived.Test.YtjcoifdfemejkaaGreatDoorM1
import Derived.Test.YtjcoifdfemejkaaGreatDoorM13
set_option linter.unusedSimpArgs false
set_option linter.unusedVariables false
namespace Go.Proofs.YtjcoifdfemejkaaGreatDoor
open Go Go.RowKit

theorem kd_num {v : Int} (h : N v) : kd v = 0 := by unfold N at h; simp [kd, h]

section
variable {w w' : World}

set_option maxRecDepth 100000 in
set_option maxHeartbeats 1000000 in
theorem complexOf_any {b0 : Nat} {H : AHeap} {bs : List Nat} (v : Int) (hU : U v) (hp : HS w b0 H bs) (hk : N v ∨ kk H v = 6) :
    Calls Tryz.prog 31 #[.pointer (some ⟨b0, 0, none⟩), .int .u64 v] w fun e w' => (∃ x y, e = .returned (.complex .f64 x y)) ∧ Bw w w' := by
  by_cases hn : N v
  · have HN := hid (tnum_yes v hU hn w)
    generalize nm v = n at HN
    clear hp hk hn
    go_enter Tryz.func31, Tryz.ntmps31
    go_wp2_with (first
      | (go_at_call 59; refine HN.out.mono ?_; rintro e w' ⟨rfl, hw'⟩; subst w')
      | (go_at_call 87; refine (cmake_any _ _ _).mono ?_; rintro e w' ⟨rfl, hw'⟩; subst w')
      | fail)
    all_goals go_ret
    all_goals exact ⟨⟨_, _, rfl⟩, Bw.refl _⟩
  · have HN := hid (tnum_no v hU hn w)
    have HC := hid (cplxOf_yes v hU w hp (hk.elim (fun h => absurd h hn) id))
    clear hp hk hn
    go_enter Tryz.func31, Tryz.ntmps31
    go_wp2_with (first
      | (go_at_call 59; refine HN.out.mono ?_; rintro e w' ⟨rfl, hw'⟩; subst w')
      | (go_at_call 88; refine HC.out.mono ?_; rintro e w1 ⟨rfl, hl1⟩; have B1 := hid hl1.bw; clear hl1)
      | (go_at_call 89; refine (cmade_any _ _ _).mono ?_; rintro e w' ⟨rfl, hw'⟩; subst w')
      | fail)
    all_goals go_ret
    all_goals exact ⟨⟨_, _, rfl⟩, B1.out⟩

set_option maxRecDepth 100000 in
set_option maxHeartbeats 1000000 in
theorem binComplex_cmp (b0 : Nat) (op : Int) (h4 : 4 ≤ op) (a b c d : Nat) :
    Calls Tryz.prog 30 #[.pointer (some ⟨b0, 0, none⟩), .int .i64 op, .complex .f64 a b, .complex .f64 c d] w fun e w' => e = .returned (.tuple #[.int .u64 0, .int .i64 1]) ∧ w' = w := by
  have n0 : (op == 0) = false := by simp; omega
  have n1 : (op == 1) = false := by simp; omega
  have n2 : (op == 2) = false := by simp; omega
  have n3 : (op == 3) = false := by simp; omega
  clear h4
  go_enter Tryz.func30, Tryz.ntmps30
  go_wp2
  all_goals go_ret2
  all_goals exact ⟨rfl, rfl⟩

set_option maxRecDepth 100000 in
set_option maxHeartbeats 1000000 in
theorem binNumbers_cmp (op a b : Int) (h5 : 5 ≤ op) (ha : U a) (hb : U b) (na : N a) (nb : N b) :
    Calls Tryz.prog 29 #[.int .i64 op, .int .u64 a, .int .u64 b] w fun e w' => e = .returned (.tuple #[.int .u64 (cpV op (ltB a b) (ltB b a)), .int .i64 (cpF op)]) ∧ w' = w := by
  have n0 : (op == 0) = false := by simp; omega
  have n1 : (op == 1) = false := by simp; omega
  have n2 : (op == 2) = false := by simp; omega
  have n3 : (op == 3) = false := by simp; omega
  have n4 : (op == 4) = false := by simp; omega
  have HA := hid (tless_yes a b ha hb na nb w)
  have HB := hid (tless_yes b a hb ha nb na w)
  have HC := hid (compared_any (w := w) op (ltB a b) (ltB b a))
  generalize ltB a b = p at HA HC ⊢
  generalize ltB b a = q at HB HC ⊢
  generalize cpV op p q = V at HC ⊢
  generalize cpF op = F at HC ⊢
  clear h5
  go_enter Tryz.func29, Tryz.ntmps29
  go_wp2_with (first
    | (go_at_call 82; (fail_if_success (have _g := G1)); refine HA.out.mono ?_; rintro e w' ⟨rfl, hw'⟩; subst w'; have G1 := hid trivial)
    | (go_at_call 82; refine HB.out.mono ?_; rintro e w' ⟨rfl, hw'⟩; subst w')
    | (go_at_call 83; refine HC.out.mono ?_; rintro e w' ⟨rfl, hw'⟩; subst w')
    | fail)
  all_goals go_ret2
  all_goals exact ⟨rfl, rfl⟩

set_option maxRecDepth 100000 in
set_option maxHeartbeats 1000000 in
theorem binNumbers_add (a b : Int) (ha : U a) (hb : U b) (na : N a) (nb : N b) :
    Calls Tryz.prog 29 #[.int .i64 0, .int .u64 a, .int .u64 b] w fun e w' => e = .returned (.tuple #[.int .u64 (mk (nm a + nm b)), .int .i64 0]) ∧ w' = w := by
  have HA := hid (tadd_yes a b ha hb na nb w)
  generalize mk (nm a + nm b) = V at HA ⊢
  go_enter Tryz.func29, Tryz.ntmps29
  go_wp2_with (first
    | (go_at_call 77; refine HA.out.mono ?_; rintro e w' ⟨rfl, hw'⟩; subst w')
    | fail)
  all_goals go_ret2
  all_goals exact ⟨rfl, rfl⟩

set_option maxRecDepth 100000 in
set_option maxHeartbeats 1000000 in
theorem bin_add {b0 : Nat} {H : AHeap} {bs : List Nat} (a b : Int) (ha : U a) (hb : U b) (hp : HS w b0 H bs) (na : N a) (nb : N b) :
    Calls Tryz.prog 7 #[.pointer (some ⟨b0, 0, none⟩), .int .i64 0, .int .u64 a, .int .u64 b] w fun e w' => e = .returned (.tuple #[.int .u64 (mk (nm a + nm b)), .int .i64 0]) ∧ w' = w := by
  have HC := hid (binNumbers_add (w := w) a b ha hb na nb)
  have K1 := hid (show Calls Tryz.prog 28 #[.pointer (some ⟨b0, 0, none⟩), .int .u64 a] w fun e w' => e = .returned (.int .i64 10) ∧ w' = w by have := kindOf_any a ha hp; rwa [kof_num (kd_num na)] at this)
  have K2 := hid (show Calls Tryz.prog 28 #[.pointer (some ⟨b0, 0, none⟩), .int .u64 b] w fun e w' => e = .returned (.int .i64 10) ∧ w' = w by have := kindOf_any b hb hp; rwa [kof_num (kd_num nb)] at this)
  generalize mk (nm a + nm b) = V at HC ⊢
  clear hp
  go_enter Tryz.func7, Tryz.ntmps7
  go_wp2_with (first
    | (go_at_call_of 28 (Value.int .u64 a); refine K1.out.mono ?_; rintro e w' ⟨rfl, hw'⟩; subst w')
    | (go_at_call_of 28 (Value.int .u64 b); refine K2.out.mono ?_; rintro e w' ⟨rfl, hw'⟩; subst w')
    | (go_at_call 29; refine HC.out.mono ?_; rintro e w' ⟨rfl, hw'⟩; subst w')
    | fail)
  all_goals go_ret2
  all_goals exact ⟨rfl, rfl⟩

set_option maxRecDepth 100000 in
set_option maxHeartbeats 1000000 in
theorem binNumbers_sub (a b : Int) (ha : U a) (hb : U b) (na : N a) (nb : N b) :
    Calls Tryz.prog 29 #[.int .i64 1, .int .u64 a, .int .u64 b] w fun e w' => e = .returned (.tuple #[.int .u64 (mk (nm a - nm b)), .int .i64 0]) ∧ w' = w := by
  have HA := hid (tsub_yes a b ha hb na nb w)
  generalize mk (nm a - nm b) = V at HA ⊢
  go_enter Tryz.func29, Tryz.ntmps29
  go_wp2_with (first
    | (go_at_call 78; refine HA.out.mono ?_; rintro e w' ⟨rfl, hw'⟩; subst w')
    | fail)
  all_goals go_ret2
  all_goals exact ⟨rfl, rfl⟩

set_option maxRecDepth 100000 in
set_option maxHeartbeats 1000000 in
theorem bin_sub {b0 : Nat} {H : AHeap} {bs : List Nat} (a b : Int) (ha : U a) (hb : U b) (hp : HS w b0 H bs) (na : N a) (nb : N b) :
    Calls Tryz.prog 7 #[.pointer (some ⟨b0, 0, none⟩), .int .i64 1, .int .u64 a, .int .u64 b] w fun e w' => e = .returned (.tuple #[.int .u64 (mk (nm a - nm b)), .int .i64 0]) ∧ w' = w := by
  have HC := hid (binNumbers_sub (w := w) a b ha hb na nb)
  have K1 := hid (show Calls Tryz.prog 28 #[.pointer (some ⟨b0, 0, none⟩), .int .u64 a] w fun e w' => e = .returned (.int .i64 10) ∧ w' = w by have := kindOf_any a ha hp; rwa [kof_num (kd_num na)] at this)
  have K2 := hid (show Calls Tryz.prog 28 #[.pointer (some ⟨b0, 0, none⟩), .int .u64 b] w fun e w' => e = .returned (.int .i64 10) ∧ w' = w by have := kindOf_any b hb hp; rwa [kof_num (kd_num nb)] at this)
  generalize mk (nm a - nm b) = V at HC ⊢
  clear hp
  go_enter Tryz.func7, Tryz.ntmps7
  go_wp2_with (first
    | (go_at_call_of 28 (Value.int .u64 a); refine K1.out.mono ?_; rintro e w' ⟨rfl, hw'⟩; subst w')
    | (go_at_call_of 28 (Value.int .u64 b); refine K2.out.mono ?_; rintro e w' ⟨rfl, hw'⟩; subst w')
    | (go_at_call 29; refine HC.out.mono ?_; rintro e w' ⟨rfl, hw'⟩; subst w')
    | fail)
  all_goals go_ret2
  all_goals exact ⟨rfl, rfl⟩

set_option maxRecDepth 100000 in
set_option maxHeartbeats 1000000 in
theorem Neg_num {b0 : Nat} {H : AHeap} {bs : List Nat} (a : Int) (ha : U a) (hp : HS w b0 H bs) (na : N a) :
    Calls Tryz.prog 10 #[.pointer (some ⟨b0, 0, none⟩), .int .u64 a] w fun e w' => e = .returned (.tuple #[.int .u64 (mk (- nm a)), .int .i64 0]) ∧ w' = w := by
  have HC := hid (tneg_yes a ha na w)
  have K1 := hid (show Calls Tryz.prog 28 #[.pointer (some ⟨b0, 0, none⟩), .int .u64 a] w fun e w' => e = .returned (.int .i64 10) ∧ w' = w by have := kindOf_any a ha hp; rwa [kof_num (kd_num na)] at this)
  generalize mk (- nm a) = V at HC ⊢
  clear hp
  go_enter Tryz.func10, Tryz.ntmps10
  go_wp2_with (first
    | (go_at_call 28; refine K1.out.mono ?_; rintro e w' ⟨rfl, hw'⟩; subst w')
    | (go_at_call 53; refine HC.out.mono ?_; rintro e w' ⟨rfl, hw'⟩; subst w')
    | fail)
  all_goals go_ret2
  all_goals exact ⟨rfl, rfl⟩

/-- What is answered where two words are compared, and the fault. -/
def bcV (H : AHeap) (op a b : Int) : Int := if kof H a = 10 ∧ kof H b = 10 then cpV op (ltB a b) (ltB b a) else if kof H a = 1 ∧ kof H b = 1 then cpV op (decide (cmpB (ob H a).bytes (ob H b).bytes < 0)) (decide (0 < cmpB (ob H a).bytes (ob H b).bytes)) else 0
def bcF (H : AHeap) (op a b : Int) : Int := if kof H a = 10 ∧ kof H b = 10 ∨ kof H a = 1 ∧ kof H b = 1 then cpF op else 1

theorem kof_10 {H : AHeap} {v : Int} (hU : U v) (hk : HOK H) (h : kof H v = 10) (hb : ∀ o ∈ H.2, o.kind ≤ 9) : N v := by
  unfold kof at h
  split at h
  · rename_i h0; unfold kd at h0; unfold N; revert h0; repeat' split
    all_goals omega
  · split at h
    · split at h <;> omega
    · split at h
      · omega
      · exfalso
        by_cases h0 : kk H v = 0
        · omega
        · obtain ⟨_, hl, e⟩ := kk_ref h0
          have hm : ob H v ∈ H.2 := List.mem_of_getElem? (ob_get hU hl).1
          have := hb _ hm
          rw [e] at h
          unfold AObj.kind at h this
          omega
theorem kof_kk6 {H : AHeap} {v : Int} {k : Int} (hk : k = 1 ∨ k = 6) (h : kof H v = k) : kk H v = k := by
  unfold kof at h
  split at h
  · omega
  · split at h
    · split at h <;> omega
    · split at h
      · omega
      · exact h

set_option maxRecDepth 100000 in
set_option maxHeartbeats 4000000 in
theorem bin_cmps {b0 : Nat} {H : AHeap} {bs : List Nat} (op a b : Int) (h7 : 7 ≤ op) (ha : U a) (hb : U b) (hp : HS w b0 H bs) (h9 : ∀ o ∈ H.2, o.kind ≤ 9) :
    Calls Tryz.prog 7 #[.pointer (some ⟨b0, 0, none⟩), .int .i64 op, .int .u64 a, .int .u64 b] w fun e w' => e = .returned (.tuple #[.int .u64 (bcV H op a b), .int .i64 (bcF H op a b)]) ∧ Bw w w' := by
  have n5 : (op == 5) = false := by simp; omega
  have n6 : (op == 6) = false := by simp; omega
  have h4 : 4 ≤ op := by omega
  have h5 : 5 ≤ op := by omega
  have hn0 : op ≠ 0 := by omega
  have K1 := hid (kindOf_any a ha hp)
  have K2 := hid (kindOf_any b hb hp)
  have HP := hid hp
  clear h7
  unfold bcV bcF
  obtain ⟨x, hx⟩ : ∃ x, kof H a = x := ⟨_, rfl⟩
  obtain ⟨y, hy⟩ : ∃ y, kof H b = y := ⟨_, rfl⟩
  rw [hx] at K1 ⊢
  rw [hy] at K2 ⊢
  have HX := hid hx
  have HY := hid hy
  clear hx hy
  by_cases hx10 : x = 10
  · subst hx10
    by_cases hy10 : y = 10
    · subst hy10
      have na := kof_10 ha HP.out.ok HX.out h9
      have nb := kof_10 hb HP.out.ok HY.out h9
      rw [if_pos ⟨rfl, rfl⟩, if_pos (Or.inl ⟨rfl, rfl⟩)]
      have HC := hid (binNumbers_cmp (w := w) op a b h5 ha hb na nb)
      generalize cpV op (ltB a b) (ltB b a) = V at HC ⊢
      generalize cpF op = F at HC ⊢
      clear hp h9
      go_enter Tryz.func7, Tryz.ntmps7
      go_wp2_with (first
        | (go_at_call_of 28 (Value.int .u64 a); (fail_if_success (have _g := G1)); refine K1.out.mono ?_; rintro e w' ⟨rfl, hw'⟩; subst w'; have G1 := hid trivial)
        | (go_at_call_of 28 (Value.int .u64 b); have _g := G1; clear _g; refine K2.out.mono ?_; rintro e w' ⟨rfl, hw'⟩; subst w')
        | (go_at_call 29; refine HC.out.mono ?_; rintro e w' ⟨rfl, hw'⟩; subst w')
        | fail)
      all_goals go_ret2
      all_goals exact ⟨rfl, Bw.refl _⟩
    by_cases hy6 : y = 6
    · subst hy6
      rw [if_neg (by decide), if_neg (by decide), if_neg (by decide)]
      have C1 := hid (complexOf_any a ha hp (Or.inl (kof_10 ha HP.out.ok HX.out h9)))
      have C2 := hid (fun (w1 : World) (hw : Bw w w1) => complexOf_any (w := w1) b hb (hp.bw hw) (Or.inr (kof_kk6 (.inr rfl) HY.out)))
      clear hp h9
      go_enter Tryz.func7, Tryz.ntmps7
      go_wp2_with (first
        | (go_at_call_of 28 (Value.int .u64 a); (fail_if_success (have _g := G1)); refine K1.out.mono ?_; rintro e w' ⟨rfl, hw'⟩; subst w'; have G1 := hid trivial)
        | (go_at_call_of 28 (Value.int .u64 b); have _g := G1; clear _g; refine K2.out.mono ?_; rintro e w' ⟨rfl, hw'⟩; subst w')
        | (go_at_call_of 31 (Value.int .u64 a); (fail_if_success (have _g := B1)); refine C1.out.mono ?_; rintro e w1 ⟨⟨x1, y1, rfl⟩, hb1⟩; have B1 := hid hb1; clear hb1)
        | (go_at_call_of 31 (Value.int .u64 b); have _g := B1; clear _g; refine (C2.out _ B1.out).mono ?_; rintro e w2 ⟨⟨x2, y2, rfl⟩, hb2⟩; have B2 := hid (B1.out.trans hb2); clear hb2)
        | (go_at_call 30; refine (binComplex_cmp b0 op h4 _ _ _ _).mono ?_; rintro e w' ⟨rfl, hw'⟩; subst w')
        | fail)
      all_goals go_ret2
      all_goals exact ⟨rfl, B2.out⟩
    by_cases hy1 : y = 1
    · subst hy1
      rw [if_neg (by omega), if_neg (by omega), if_neg (by omega)]
      clear hp h9
      go_enter Tryz.func7, Tryz.ntmps7
      go_wp2_with (first
        | (go_at_call_of 28 (Value.int .u64 a); (fail_if_success (have _g := G1)); refine K1.out.mono ?_; rintro e w' ⟨rfl, hw'⟩; subst w'; have G1 := hid trivial)
        | (go_at_call_of 28 (Value.int .u64 b); have _g := G1; clear _g; refine K2.out.mono ?_; rintro e w' ⟨rfl, hw'⟩; subst w')
        | fail)
      all_goals go_ret2
      all_goals exact ⟨rfl, Bw.refl _⟩
    have by10 : (y == 10) = false := by simpa using hy10
    have by6 : (y == 6) = false := by simpa using hy6
    have by1 : (y == 1) = false := by simpa using hy1
    rw [if_neg (by omega), if_neg (by omega), if_neg (by omega)]
    clear hp h9
    clear hy10 hy6 hy1
    go_enter Tryz.func7, Tryz.ntmps7
    go_wp2_with (first
      | (go_at_call_of 28 (Value.int .u64 a); (fail_if_success (have _g := G1)); refine K1.out.mono ?_; rintro e w' ⟨rfl, hw'⟩; subst w'; have G1 := hid trivial)
      | (go_at_call_of 28 (Value.int .u64 b); have _g := G1; clear _g; refine K2.out.mono ?_; rintro e w' ⟨rfl, hw'⟩; subst w')
      | fail)
    all_goals go_ret2
    all_goals exact ⟨rfl, Bw.refl _⟩
  by_cases hx6 : x = 6
  · subst hx6
    by_cases hy10 : y = 10
    · subst hy10
      rw [if_neg (by decide), if_neg (by decide), if_neg (by decide)]
      have C1 := hid (complexOf_any a ha hp (Or.inr (kof_kk6 (.inr rfl) HX.out)))
      have C2 := hid (fun (w1 : World) (hw : Bw w w1) => complexOf_any (w := w1) b hb (hp.bw hw) (Or.inl (kof_10 hb HP.out.ok HY.out h9)))
      clear hp h9
      go_enter Tryz.func7, Tryz.ntmps7
      go_wp2_with (first
        | (go_at_call_of 28 (Value.int .u64 a); (fail_if_success (have _g := G1)); refine K1.out.mono ?_; rintro e w' ⟨rfl, hw'⟩; subst w'; have G1 := hid trivial)
        | (go_at_call_of 28 (Value.int .u64 b); have _g := G1; clear _g; refine K2.out.mono ?_; rintro e w' ⟨rfl, hw'⟩; subst w')
        | (go_at_call_of 31 (Value.int .u64 a); (fail_if_success (have _g := B1)); refine C1.out.mono ?_; rintro e w1 ⟨⟨x1, y1, rfl⟩, hb1⟩; have B1 := hid hb1; clear hb1)
        | (go_at_call_of 31 (Value.int .u64 b); have _g := B1; clear _g; refine (C2.out _ B1.out).mono ?_; rintro e w2 ⟨⟨x2, y2, rfl⟩, hb2⟩; have B2 := hid (B1.out.trans hb2); clear hb2)
        | (go_at_call 30; refine (binComplex_cmp b0 op h4 _ _ _ _).mono ?_; rintro e w' ⟨rfl, hw'⟩; subst w')
        | fail)
      all_goals go_ret2
      all_goals exact ⟨rfl, B2.out⟩
    by_cases hy6 : y = 6
    · subst hy6
      rw [if_neg (by decide), if_neg (by decide), if_neg (by decide)]
      have C1 := hid (complexOf_any a ha hp (Or.inr (kof_kk6 (.inr rfl) HX.out)))
      have C2 := hid (fun (w1 : World) (hw : Bw w w1) => complexOf_any (w := w1) b hb (hp.bw hw) (Or.inr (kof_kk6 (.inr rfl) HY.out)))
      clear hp h9
      go_enter Tryz.func7, Tryz.ntmps7
      go_wp2_with (first
        | (go_at_call_of 28 (Value.int .u64 a); (fail_if_success (have _g := G1)); refine K1.out.mono ?_; rintro e w' ⟨rfl, hw'⟩; subst w'; have G1 := hid trivial)
        | (go_at_call_of 28 (Value.int .u64 b); have _g := G1; clear _g; refine K2.out.mono ?_; rintro e w' ⟨rfl, hw'⟩; subst w')
        | (go_at_call_of 31 (Value.int .u64 a); (fail_if_success (have _g := B1)); refine C1.out.mono ?_; rintro e w1 ⟨⟨x1, y1, rfl⟩, hb1⟩; have B1 := hid hb1; clear hb1)
        | (go_at_call_of 31 (Value.int .u64 b); have _g := B1; clear _g; refine (C2.out _ B1.out).mono ?_; rintro e w2 ⟨⟨x2, y2, rfl⟩, hb2⟩; have B2 := hid (B1.out.trans hb2); clear hb2)
        | (go_at_call 30; refine (binComplex_cmp b0 op h4 _ _ _ _).mono ?_; rintro e w' ⟨rfl, hw'⟩; subst w')
        | fail)
      all_goals go_ret2
      all_goals exact ⟨rfl, B2.out⟩
    by_cases hy1 : y = 1
    · subst hy1
      rw [if_neg (by omega), if_neg (by omega), if_neg (by omega)]
      clear hp h9
      go_enter Tryz.func7, Tryz.ntmps7
      go_wp2_with (first
        | (go_at_call_of 28 (Value.int .u64 a); (fail_if_success (have _g := G1)); refine K1.out.mono ?_; rintro e w' ⟨rfl, hw'⟩; subst w'; have G1 := hid trivial)
        | (go_at_call_of 28 (Value.int .u64 b); have _g := G1; clear _g; refine K2.out.mono ?_; rintro e w' ⟨rfl, hw'⟩; subst w')
        | fail)
      all_goals go_ret2
      all_goals exact ⟨rfl, Bw.refl _⟩
    have by10 : (y == 10) = false := by simpa using hy10
    have by6 : (y == 6) = false := by simpa using hy6
    have by1 : (y == 1) = false := by simpa using hy1
    rw [if_neg (by omega), if_neg (by omega), if_neg (by omega)]
    clear hp h9
    clear hy10 hy6 hy1
    go_enter Tryz.func7, Tryz.ntmps7
    go_wp2_with (first
      | (go_at_call_of 28 (Value.int .u64 a); (fail_if_success (have _g := G1)); refine K1.out.mono ?_; rintro e w' ⟨rfl, hw'⟩; subst w'; have G1 := hid trivial)
      | (go_at_call_of 28 (Value.int .u64 b); have _g := G1; clear _g; refine K2.out.mono ?_; rintro e w' ⟨rfl, hw'⟩; subst w')
      | fail)
    all_goals go_ret2
    all_goals exact ⟨rfl, Bw.refl _⟩
  by_cases hx1 : x = 1
  · subst hx1
    by_cases hy10 : y = 10
    · subst hy10
      rw [if_neg (by omega), if_neg (by omega), if_neg (by omega)]
      clear hp h9
      go_enter Tryz.func7, Tryz.ntmps7
      go_wp2_with (first
        | (go_at_call_of 28 (Value.int .u64 a); (fail_if_success (have _g := G1)); refine K1.out.mono ?_; rintro e w' ⟨rfl, hw'⟩; subst w'; have G1 := hid trivial)
        | (go_at_call_of 28 (Value.int .u64 b); have _g := G1; clear _g; refine K2.out.mono ?_; rintro e w' ⟨rfl, hw'⟩; subst w')
        | fail)
      all_goals go_ret2
      all_goals exact ⟨rfl, Bw.refl _⟩
    by_cases hy6 : y = 6
    · subst hy6
      rw [if_neg (by omega), if_neg (by omega), if_neg (by omega)]
      clear hp h9
      go_enter Tryz.func7, Tryz.ntmps7
      go_wp2_with (first
        | (go_at_call_of 28 (Value.int .u64 a); (fail_if_success (have _g := G1)); refine K1.out.mono ?_; rintro e w' ⟨rfl, hw'⟩; subst w'; have G1 := hid trivial)
        | (go_at_call_of 28 (Value.int .u64 b); have _g := G1; clear _g; refine K2.out.mono ?_; rintro e w' ⟨rfl, hw'⟩; subst w')
        | fail)
      all_goals go_ret2
      all_goals exact ⟨rfl, Bw.refl _⟩
    by_cases hy1 : y = 1
    · subst hy1
      rw [if_neg (by decide), if_pos ⟨rfl, rfl⟩, if_pos (Or.inr ⟨rfl, rfl⟩)]
      have HC := hid (binStrings_cmp op a b hn0 ha hb hp (kof_kk6 (.inl rfl) HX.out) (kof_kk6 (.inl rfl) HY.out))
      generalize cpV op (decide (cmpB (ob H a).bytes (ob H b).bytes < 0)) (decide (0 < cmpB (ob H a).bytes (ob H b).bytes)) = V at HC ⊢
      generalize cpF op = F at HC ⊢
      clear hp h9
      go_enter Tryz.func7, Tryz.ntmps7
      go_wp2_with (first
        | (go_at_call_of 28 (Value.int .u64 a); (fail_if_success (have _g := G1)); refine K1.out.mono ?_; rintro e w' ⟨rfl, hw'⟩; subst w'; have G1 := hid trivial)
        | (go_at_call_of 28 (Value.int .u64 b); have _g := G1; clear _g; refine K2.out.mono ?_; rintro e w' ⟨rfl, hw'⟩; subst w')
        | (go_at_call 32; refine HC.out.mono ?_; rintro e w1 ⟨rfl, hb1⟩; have B1 := hid hb1; clear hb1)
        | fail)
      all_goals go_ret2
      all_goals exact ⟨rfl, B1.out⟩
    have by10 : (y == 10) = false := by simpa using hy10
    have by6 : (y == 6) = false := by simpa using hy6
    have by1 : (y == 1) = false := by simpa using hy1
    rw [if_neg (by omega), if_neg (by omega), if_neg (by omega)]
    clear hp h9
    clear hy10 hy6 hy1
    go_enter Tryz.func7, Tryz.ntmps7
    go_wp2_with (first
      | (go_at_call_of 28 (Value.int .u64 a); (fail_if_success (have _g := G1)); refine K1.out.mono ?_; rintro e w' ⟨rfl, hw'⟩; subst w'; have G1 := hid trivial)
      | (go_at_call_of 28 (Value.int .u64 b); have _g := G1; clear _g; refine K2.out.mono ?_; rintro e w' ⟨rfl, hw'⟩; subst w')
      | fail)
    all_goals go_ret2
    all_goals exact ⟨rfl, Bw.refl _⟩
  have bx10 : (x == 10) = false := by simpa using hx10
  have bx6 : (x == 6) = false := by simpa using hx6
  have bx1 : (x == 1) = false := by simpa using hx1
  by_cases hy10 : y = 10
  · subst hy10
    rw [if_neg (by omega), if_neg (by omega), if_neg (by omega)]
    clear hp h9
    clear hx10 hx6 hx1
    go_enter Tryz.func7, Tryz.ntmps7
    go_wp2_with (first
      | (go_at_call_of 28 (Value.int .u64 a); (fail_if_success (have _g := G1)); refine K1.out.mono ?_; rintro e w' ⟨rfl, hw'⟩; subst w'; have G1 := hid trivial)
      | (go_at_call_of 28 (Value.int .u64 b); have _g := G1; clear _g; refine K2.out.mono ?_; rintro e w' ⟨rfl, hw'⟩; subst w')
      | fail)
    all_goals go_ret2
    all_goals exact ⟨rfl, Bw.refl _⟩
  by_cases hy6 : y = 6
  · subst hy6
    rw [if_neg (by omega), if_neg (by omega), if_neg (by omega)]
    clear hp h9
    clear hx10 hx6 hx1
    go_enter Tryz.func7, Tryz.ntmps7
    go_wp2_with (first
      | (go_at_call_of 28 (Value.int .u64 a); (fail_if_success (have _g := G1)); refine K1.out.mono ?_; rintro e w' ⟨rfl, hw'⟩; subst w'; have G1 := hid trivial)
      | (go_at_call_of 28 (Value.int .u64 b); have _g := G1; clear _g; refine K2.out.mono ?_; rintro e w' ⟨rfl, hw'⟩; subst w')
      | fail)
    all_goals go_ret2
    all_goals exact ⟨rfl, Bw.refl _⟩
  by_cases hy1 : y = 1
  · subst hy1
    rw [if_neg (by omega), if_neg (by omega), if_neg (by omega)]
    clear hp h9
    clear hx10 hx6 hx1
    go_enter Tryz.func7, Tryz.ntmps7
    go_wp2_with (first
      | (go_at_call_of 28 (Value.int .u64 a); (fail_if_success (have _g := G1)); refine K1.out.mono ?_; rintro e w' ⟨rfl, hw'⟩; subst w'; have G1 := hid trivial)
      | (go_at_call_of 28 (Value.int .u64 b); have _g := G1; clear _g; refine K2.out.mono ?_; rintro e w' ⟨rfl, hw'⟩; subst w')
      | fail)
    all_goals go_ret2
    all_goals exact ⟨rfl, Bw.refl _⟩
  have by10 : (y == 10) = false := by simpa using hy10
  have by6 : (y == 6) = false := by simpa using hy6
  have by1 : (y == 1) = false := by simpa using hy1
  rw [if_neg (by omega), if_neg (by omega), if_neg (by omega)]
  clear hp h9
  clear hx10 hx6 hx1 hy10 hy6 hy1
  go_enter Tryz.func7, Tryz.ntmps7
  go_wp2_with (first
    | (go_at_call_of 28 (Value.int .u64 a); (fail_if_success (have _g := G1)); refine K1.out.mono ?_; rintro e w' ⟨rfl, hw'⟩; subst w'; have G1 := hid trivial)
    | (go_at_call_of 28 (Value.int .u64 b); have _g := G1; clear _g; refine K2.out.mono ?_; rintro e w' ⟨rfl, hw'⟩; subst w')
    | fail)
  all_goals go_ret2
  all_goals exact ⟨rfl, Bw.refl _⟩

end

end Go.Proofs.YtjcoifdfemejkaaGreatDoor

