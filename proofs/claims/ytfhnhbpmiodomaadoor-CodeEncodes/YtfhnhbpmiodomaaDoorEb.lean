/- The document's numbers of any size, lists of them: contracts. -/
import Derived.Test.YtfhnhbpmiodomaaDoorEa
set_option linter.unusedVariables false
set_option linter.unusedSimpArgs false
namespace Go.Proofs.YtfhnhbpmiodomaaDoor
open Go Go.RowKit

theorem own_bw {w w' : World} {base : Nat} {e : TypeId} {size : Nat} {v : Value} {n : Nat} {xs : List Value} (h : w.ownsRow base e size v n xs) (hb : Bw w w') : w'.ownsRow base e size v n xs :=
  h.kept (row := none) ⟨hb.os, hb.tape, hb.output, hb.size, fun n hn _ => hb.block n hn⟩ (by cases v.ownBlock <;> simp)

theorem nb9 {n : Int} (h0 : 0 ≤ n) (h : n ≤ 4611686018427387903) : (nb n.toNat).length ≤ 9 := nb_le 8 _ (Nat.le_refl _) (pl_lim (decide_eq_true ⟨h0, h⟩)).2

set_option maxRecDepth 100000 in
set_option maxHeartbeats 1000000 in
theorem rnumber_any : ∀ (k : Nat) (n : Int) (w : World), n.toNat ≤ k → 0 ≤ n → n ≤ 4611686018427387903 → Calls Tryd.prog 19 #[.int .i64 n] w (NumP w n)
  | 0, n, w, hk, h0, h1 => rnumber_small n w h0 (by omega)
  | k + 1, n, w, hk, h0, h1 => by
    by_cases h : n < 128
    · exact rnumber_small n w h0 h
    have HI := hid (rnumber_any k (n / 128))
    have HN := hid (nbI_big (show 128 ≤ n by omega))
    have hq : n.tdiv 128 = n / 128 := Int.tdiv_eq_ediv_of_nonneg h0
    have ht : n.tmod 128 = n % 128 := Int.tmod_eq_emod_of_nonneg h0
    have hm : (n % 128 + 128) % 256 = n % 128 + 128 := by omega
    have hb2 : -9223372036854775808 ≤ n / 128 ∧ n / 128 ≤ 9223372036854775807 := by omega
    have hb3 : -9223372036854775808 ≤ n % 128 + 128 ∧ n % 128 + 128 ≤ 9223372036854775807 := by omega
    have HA := hid (show (n / 128).toNat ≤ k ∧ 0 ≤ n / 128 ∧ n / 128 ≤ 4611686018427387903 by omega)
    have HL := hid (nb9 HA.out.2.1 HA.out.2.2)
    obtain ⟨i1, hi1, hz1, hs1, hy1⟩ := info_parts infoU8
    have I1 := hid (And.intro hi1 (And.intro hz1 (And.intro hs1 hy1)))
    obtain ⟨L, hL⟩ : ∃ L, nb (n / 128).toNat = L := ⟨_, rfl⟩
    have HLL := hid hL
    rw [hL] at HL
    clear hi1 hz1 hs1 hy1 hk hL
    go_enter Tryd.func19, Tryd.ntmps19
    go_wp2_with (first
      | (go_at_call 19; refine (HI.out _ HA.out.1 HA.out.2.1 HA.out.2.2).mono ?_; rintro e w1 ⟨v, rfl, ho, hb⟩; rw [HLL.out] at ho; obtain ⟨av, cv, ev⟩ := own_form ho; subst ev; have HO := hid ho; have HB := hid (show Bw (w.alloc (.cells #[.int .u8 (n % 128 + 128)] 5)) w1 from hb); clear ho hb)
      | (at_builtin; refine wpList_append_sl (G := fun _ => True) _ rfl _ _ 29 rfl w.heap.size 5 i1 (.int .u8 0) 1 1 under22 I1.out.1 I1.out.2.1 I1.out.2.2.1 I1.out.2.2.2 rfl (by decide) (.slice (some ⟨w.heap.size, 0, none⟩) 1 1) 1 [.int .u8 (n % 128 + 128)] rfl (own_bw (own_one w _) HB.out) _ L.length (L.map (Value.int .u8)) rfl (own_sl HO.out (fun _ _ => trivial)) (ints_one _ _) (by have := HL.out; unfold maxLen; omega) (by have := HL.out; omega) (by have := HB.out.size; simp only [World.size_alloc] at this; omega) ?_; intro va w2 hown hgr; have HV := hid hown; have HB2 := hid (bw_grown (Bw.trans (Bw.alloc (Bw.refl w) _) HB.out) (Nat.le_refl _) (own_bw (own_one w (.int .u8 (n % 128 + 128))) HB.out) hgr); clear hown hgr)
      | fail)
    all_goals go_ret
    all_goals
      refine ⟨_, rfl, ?_, HB2.out⟩
      rw [HN.out, HLL.out]
      have := HV.out
      rw [Nat.add_comm] at this
      exact this

set_option maxRecDepth 100000 in
set_option maxHeartbeats 1000000 in
theorem rSigned_any (z : Int) (w : World) (h : -2305843009213693952 ≤ z ∧ z ≤ 2305843009213693951) : Calls Tryd.prog 44 #[.int .i64 z] w (NumP w (zz z)) := by
  by_cases h0 : z < 0
  · have HZ := hid (show zz z = -2 * z - 1 by unfold zz; rw [if_pos h0])
    rw [HZ.out]
    have hb1 : -9223372036854775808 ≤ -2 * z ∧ -2 * z ≤ 9223372036854775807 := by omega
    have hb2 : -9223372036854775808 ≤ -2 * z - 1 ∧ -2 * z - 1 ≤ 9223372036854775807 := by omega
    have HA := hid (show 0 ≤ -2 * z - 1 ∧ -2 * z - 1 ≤ 4611686018427387903 by omega)
    go_enter Tryd.func44, Tryd.ntmps44
    go_wp2_with (first
      | (go_at_call 19; refine (rnumber_any _ (-2 * z - 1) _ (Nat.le_refl _) HA.out.1 HA.out.2).mono ?_; rintro e w1 ⟨v, rfl, ho, hb⟩; have HO := hid ho; have HB := hid hb; clear ho hb)
      | fail)
    all_goals go_ret
    all_goals exact ⟨_, rfl, HO.out, HB.out⟩
  · have HZ := hid (show zz z = 2 * z by unfold zz; rw [if_neg h0])
    rw [HZ.out]
    have hb2 : -9223372036854775808 ≤ 2 * z ∧ 2 * z ≤ 9223372036854775807 := by omega
    have HA := hid (show 0 ≤ 2 * z ∧ 2 * z ≤ 4611686018427387903 by omega)
    go_enter Tryd.func44, Tryd.ntmps44
    go_wp2_with (first
      | (go_at_call 19; refine (rnumber_any _ (2 * z) _ (Nat.le_refl _) HA.out.1 HA.out.2).mono ?_; rintro e w1 ⟨v, rfl, ho, hb⟩; have HO := hid ho; have HB := hid hb; clear ho hb)
      | fail)
    all_goals go_ret
    all_goals exact ⟨_, rfl, HO.out, HB.out⟩

end Go.Proofs.YtfhnhbpmiodomaaDoor
