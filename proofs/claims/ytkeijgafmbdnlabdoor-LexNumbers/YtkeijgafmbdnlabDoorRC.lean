/- The document's digits of a number: the contract. -/
import Derived.Test.YtkeijgafmbdnlabDoorXL
import Derived.Laws.Concat
import Derived.BigRegion
set_option linter.unusedSimpArgs false
set_option linter.unusedVariables false
namespace Go.Proofs.YtkeijgafmbdnlabDoor
open Go Go.RowKit

theorem conv1 (W : World) (b : Nat) (c : Int) (hb : b < W.heap.size) (h : W.cell? ⟨b, 0, none⟩ = some (.int .u8 c)) : (convert 23 9 (.slice (some ⟨b, 0, none⟩) 1 1)).run Tryd.prog W = .ok (.string (strOfNums [c])) W :=
  run_convert_bytes_arg W 23 5 under22 under5 b 0 1 1 [c] rfl (fun i hi => by
    obtain rfl : i = 0 := by omega
    simpa using h) 9 under9

theorem strOf_app (a b : List Int) : strOfNums a ++ strOfNums b = strOfNums (a ++ b) := by
  apply str_inj
  rw [strOf_toList, List.map_append, ← strOf_toList, ← strOf_toList]
  simp [ByteArray.toList_eq]

theorem decL_len : ∀ (k f n : Nat), n < 10 ^ (k + 1) → (decL f n).length ≤ k + 1
  | k, 0, n, _ => by simp [decL]
  | 0, f + 1, n, h => by
    have : n < 10 := by simpa using h
    simp [decL, this]
  | k + 1, f + 1, n, h => by
    unfold decL
    split
    · simp
    · have := decL_len k f (n / 10) (by rw [Nat.pow_succ] at h; omega)
      simp; omega

set_option maxHeartbeats 4000000 in
theorem vDec_any : ∀ (f n : Nat) (hn : n < f) (hm : (n : Int) ≤ 9223372036854775807) (w : World),
    Calls Tryd.prog 5 #[.int .i64 (n : Nat)] w fun e w' => e = .returned (.string (strOfNums (decL f n))) ∧ Ly w w'
  | 0, n, hn, _, _ => by omega
  | f + 1, n, hn, hm, w => by
    by_cases h : n < 10
    · have e : decL (f + 1) n = [48 + (n : Int)] := by simp [decL, h]
      rw [e]
      have hw : (48 + (n : Int)) % 256 = 48 + (n : Int) := by omega
      have hc := conv1 (w.alloc (.cells #[.int .u8 (48 + (n : Int))] 5)) w.heap.size (48 + (n : Int)) (by simp) (by rw [World.cell?_alloc_mark]; rfl)
      go_enter Tryd.func5, Tryd.ntmps5
      go_wp2
      all_goals go_ret
      all_goals exact ⟨rfl, Ly.alloc (Ly.refl _) _⟩
    · have e : decL (f + 1) n = decL f (n / 10) ++ [48 + ((n % 10 : Nat) : Int)] := by simp [decL, h]
      have ih0 : ∀ w : World, Calls Tryd.prog 5 #[.int .i64 ((n : Int) / 10)] w fun e w' => e = .returned (.string (strOfNums (decL f (n / 10)))) ∧ Ly w w' := by
        intro w
        have h1 := vDec_any f (n / 10) (by omega) (by omega) w
        rw [show ((n / 10 : Nat) : Int) = (n : Int) / 10 by omega] at h1
        exact h1
      have ih := hid ih0
      rw [e, ← strOf_app]
      have hx : ((n % 10 : Nat) : Int) = (n : Int) % 10 := by omega
      rw [hx]
      obtain ⟨q, hq0⟩ : ∃ q : Int, q = (n : Int) / 10 := ⟨_, rfl⟩
      obtain ⟨r, hr0⟩ : ∃ r : Int, r = (n : Int) % 10 := ⟨_, rfl⟩
      have hq : (n : Int).tdiv 10 = q := (Int.tdiv_eq_ediv_of_nonneg (by omega)).trans hq0.symm
      have hr : (n : Int).tmod 10 = r := (Int.tmod_eq_emod_of_nonneg (by omega)).trans hr0.symm
      have hqb : 0 ≤ q ∧ q ≤ 1000000000000000000 := by omega
      have hrb : 0 ≤ r ∧ r ≤ 9 := by omega
      have hn10 : (10 : Int) ≤ (n : Int) := by omega
      rw [← hq0] at ih
      rw [← hr0]
      have hsl : (strOfNums (decL f (n / 10))).size ≤ 20 := by
        rw [strOfNums_size]
        have := decL_len 19 f (n / 10) (by omega)
        omega
      generalize strOfNums (decL f (n / 10)) = s at ih hsl
      obtain ⟨N, hN⟩ : ∃ N : Int, N = (n : Int) := ⟨_, rfl⟩
      have hq2 : (n : Int) / 10 = q := hq0.symm
      have hr2 : (n : Int) % 10 = r := hr0.symm
      rw [← hN] at hq hr hq2 hr2 hn10 ⊢
      clear e hx ih0 hq0 hr0 hN hn hm h
      have hcv := fun (W : World) (b : Nat) => conv1 W b (48 + r)
      have hdl : (strOfNums [48 + r]).size = 1 := strOfNums_size _
      generalize strOfNums [48 + r] = d at hcv hdl
      have hsz : (s.size + d.size > 9223372036854775807) = False := eq_false (by omega)
      clear hsl hdl
      have hw : (48 + r) % 256 = 48 + r := by omega
      have hwq : IntKind.i64.wrap q = q := by rw [IntKind.wrap_i64]; omega
      have hwr : IntKind.i64.wrap r = r := by rw [IntKind.wrap_i64]; omega
      have hws : IntKind.i64.wrap (48 + r) = 48 + r := by rw [IntKind.wrap_i64]; omega
      have hwu : IntKind.u8.wrap (48 + r) = 48 + r := by rw [IntKind.wrap_u8']; omega
      go_enter Tryd.func5, Tryd.ntmps5
      go_wp2
      go_region_with (first
        | (go_at_call_of 5 (Value.int .i64 q); refine (ih.out _).mono ?_; rintro e w' ⟨rfl, os, m, rfl⟩))
      all_goals go_wp2
      all_goals go_ret
      all_goals exact ⟨rfl, by repeat (first | exact Ly.refl _ | apply Ly.lay | apply Ly.alloc | apply Ly.drewN | apply Ly.drew)⟩

end Go.Proofs.YtkeijgafmbdnlabDoor
