/- The document's powers and polynomials: their contracts; what was there stays as it was. -/
import Derived.Test.YtdakgnbnjncnmaaRC
import Derived.Test.YtdakgnbnjncnmaaW3
import Derived.LoopTactic
set_option linter.unusedSimpArgs false
set_option linter.unusedVariables false
namespace Go.Proofs.Ytdakgnbnjncnmaa
open Go Go.RowKit

theorem mre_l (p q a b : Nat) : mre (cn p) (cn q) a b = mre p q a b := by simp only [mre, fo_cn_left]
theorem mim_l (p q a b : Nat) : mim (cn p) (cn q) a b = mim p q a b := by simp only [mim, fo_cn_left]

theorem one_cn : cn 4607182418800017408 = 4607182418800017408 := by kernel_rfl
theorem nought_cn : cn 0 = 0 := by kernel_rfl

set_option maxHeartbeats 2000000 in
theorem rpower_in (a b : Nat) (n : Nat) (hn : n ≤ 64) (w : World) :
    Calls Try.prog 33 #[zf a b, .int .i64 n] w fun e w' => ∃ r i, e = .returned (.tuple #[zf r i, .int .i64 0]) ∧ cn r = (pw a b n).1 ∧ cn i = (pw a b n).2 ∧ Ly w w' := by
  have h0 : ¬ (n : Int) < 0 := by omega
  have h1 : ¬ (64 : Int) < (n : Int) := by omega
  go_enter Try.func33, Try.ntmps33
  go_wp2
  go_loopw [7] (fun i wr => ∃ (k x y m : Nat) (os : List Obj), k ≤ n ∧ i = .int .i64 k ∧ cn x = (pw a b k).1 ∧ cn y = (pw a b k).2 ∧ wr = lay (((w.alloc (.cells #[.float .f64 a, .float .f64 b] 33)).alloc (.cells #[.float .f64 0, .float .f64 0] 33)).alloc (.cells #[.float .f64 x, .float .f64 y] 33)) os m) (fun i _ => n - (intOf i).toNat)
  case atStart => exact ⟨0, _, _, 0, [], Nat.zero_le _, rfl, one_cn, nought_cn, rfl⟩
  case round =>
    obtain ⟨k, x, y, m, os, hk, rfl, hx, hy, rfl⟩ := hrel
    have HX : Hid (cn x = (pw a b k).1) := hx
    have HY : Hid (cn y = (pw a b k).2) := hy
    clear hx hy
    go_wp2_with (go_at_call 23; refine (rmul_any _ _ _ _ _).mono ?_; rintro e w' ⟨r, i, rfl, hr, hi, os', m', rfl⟩)
    · have hlt : k < n := by omega
      go_roundw
      case rel => exact ⟨k + 1, _, _, _, _, by omega, by go_num, by rw [hr, ← mre_l, HX.out, HY.out]; rfl, by rw [hi, ← mim_l, HX.out, HY.out]; rfl, rfl⟩
      case measure => simp [intOf]; omega
    · have : k = n := by omega
      subst this
      refine ret_z2 rfl rfl rfl rfl (by go_simp <;> rfl) (by go_simp <;> rfl) ?_
      exact ⟨_, _, rfl, HX.out, HY.out, by repeat (first | exact Ly.refl _ | apply Ly.lay | apply Ly.alloc | apply Ly.drewN | apply Ly.drew)⟩

theorem rpower_out (a b : Nat) (n : Int) (hn : ¬ (0 ≤ n ∧ n ≤ 64)) (w : World) :
    Calls Try.prog 33 #[zf a b, .int .i64 n] w fun e w' => ∃ r i, e = .returned (.tuple #[zf r i, .int .i64 1]) ∧ cn r = 0 ∧ cn i = 0 ∧ Ly w w' := by
  by_cases h : n < 0
  · clear hn
    go_enter Try.func33, Try.ntmps33
    go_wp2
    refine ret_z2 rfl rfl rfl rfl (by go_simp <;> rfl) (by go_simp <;> rfl) ?_
    exact ⟨_, _, rfl, nought_cn, nought_cn, by repeat (first | exact Ly.refl _ | apply Ly.lay | apply Ly.alloc | apply Ly.drewN | apply Ly.drew)⟩
  · have h1 : 64 < n := by omega
    clear hn
    go_enter Try.func33, Try.ntmps33
    go_wp2
    refine ret_z2 rfl rfl rfl rfl (by go_simp <;> rfl) (by go_simp <;> rfl) ?_
    exact ⟨_, _, rfl, nought_cn, nought_cn, by repeat (first | exact Ly.refl _ | apply Ly.lay | apply Ly.alloc | apply Ly.drewN | apply Ly.drew)⟩

theorem rpower_any (a b : Nat) (n : Int) (w : World) :
    Calls Try.prog 33 #[zf a b, .int .i64 n] w fun e w' => ∃ r i, e = .returned (.tuple #[zf r i, .int .i64 (pwe n)]) ∧ cn r = pwr a b n ∧ cn i = pwi a b n ∧ Ly w w' := by
  by_cases h : 0 ≤ n ∧ n ≤ 64
  · obtain ⟨k, rfl⟩ : ∃ k : Nat, n = k := ⟨n.toNat, by omega⟩
    rw [pwr, pwi, pwe, if_pos h, if_pos h, if_pos h]
    exact rpower_in a b k (by omega) w
  · rw [pwr, pwi, pwe, if_neg h, if_neg h, if_neg h]
    exact rpower_out a b n h w

theorem step_re {x y p q r r' P Q z : Nat} (hx : cn x = P) (hy : cn y = Q) (hr : cn r = mre x y p q) (hr' : cn r' = fo .add r z) : cn r' = fo .add (mre P Q p q) z := by
  rw [hr', ← hx, ← hy, mre_l, ← hr, fo_cn_left]
theorem step_im {x y p q r r' P Q z : Nat} (hx : cn x = P) (hy : cn y = Q) (hr : cn r = mim x y p q) (hr' : cn r' = fo .add r z) : cn r' = fo .add (mim P Q p q) z := by
  rw [hr', ← hx, ← hy, mim_l, ← hr, fo_cn_left]

set_option maxHeartbeats 4000000 in
theorem rfold_row (b off cap : Nat) (zs : List (Nat × Nat)) (p q : Nat) (w : World) (hm : zs.length ≤ 9223372036854775807) (hbs : b < w.heap.size)
    (hc : ∀ i, i < zs.length → w.cell? ⟨b, off + i * 2, none⟩ = some (.float .f64 (zs.getD i (0, 0)).1) ∧ w.cell? ⟨b, off + i * 2 + 1, none⟩ = some (.float .f64 (zs.getD i (0, 0)).2)) :
    Calls Try.prog 35 #[.slice (some ⟨b, off, none⟩) zs.length cap, zf p q] w fun e w' => ∃ r i, e = .returned (zf r i) ∧ cn r = (pol p q zs).1 ∧ cn i = (pol p q zs).2 ∧ Ly w w' := by
  go_enter Try.func35, Try.ntmps35
  go_wp2
  go_loopw [6] (fun i wr => ∃ (k x y m : Nat) (os : List Obj), k ≤ zs.length ∧ i = .int .i64 ((k : Int) - 1) ∧ cn x = (pol p q (zs.drop k)).1 ∧ cn y = (pol p q (zs.drop k)).2 ∧ wr = lay (((w.alloc (.cells #[.float .f64 p, .float .f64 q] 33)).alloc (.cells #[.float .f64 0, .float .f64 0] 33)).alloc (.cells #[.float .f64 x, .float .f64 y] 33)) os m) (fun i _ => (intOf i + 1).toNat)
  case atStart => exact ⟨zs.length, _, _, 0, [], Nat.le_refl _, rfl, by rw [List.drop_length]; exact nought_cn, by rw [List.drop_length]; exact nought_cn, rfl⟩
  case round =>
    obtain ⟨k, x, y, m, os, hk, rfl, hx, hy, rfl⟩ := hrel
    have HX : Hid (cn x = (pol p q (zs.drop k)).1) := hx
    have HY : Hid (cn y = (pol p q (zs.drop k)).2) := hy
    clear hx hy
    by_cases h0 : k = 0
    · subst h0
      clear hc
      go_wp2
      refine ret_z rfl rfl rfl (by go_simp <;> rfl) (by go_simp <;> rfl) ?_
      exact ⟨_, _, rfl, HX.out, HY.out, by repeat (first | exact Ly.refl _ | apply Ly.lay | apply Ly.alloc | apply Ly.drewN | apply Ly.drew)⟩
    · obtain ⟨j, rfl⟩ : ∃ j, k = j + 1 := ⟨k - 1, by omega⟩
      obtain ⟨hc1, hc2⟩ := hc j (by omega)
      have hd := pol_drop p q zs j (by omega)
      have e1 : ((j + 1 : Nat) : Int) - 1 = (j : Int) := by omega
      rw [e1]
      have hb1 : (0 : Int) ≤ (j : Int) := by omega
      have hb2 : (j : Int) < (zs.length : Int) := by omega
      have HDD : Hid (pol p q (zs.drop j) = _) := hd
      clear hc hd
      generalize zs.getD j (0, 0) = z at hc1 hc2 HDD
      go_wp2
      go_region_with (first
          | (go_at_call 23; refine (rmul_any _ _ _ _ _).mono ?_; rintro e w' ⟨r, i, rfl, hr, hi, os', m', rfl⟩)
          | (go_at_call 19; refine (radd_any _ _ _ _ _).mono ?_; rintro e w' ⟨r', i', rfl, hr', hi', os', m', rfl⟩))
      all_goals go_wp2
      all_goals
        go_roundw
        case rel => exact ⟨j, _, _, _, _, by omega, by simp, by rw [HDD.out]; exact step_re HX.out HY.out hr hr', by rw [HDD.out]; exact step_im HX.out HY.out hi hi', rfl⟩
        case measure => simp [intOf]

theorem rfold_nil (a : Option Addr) (cap : Nat) (p q : Nat) (w : World) :
    Calls Try.prog 35 #[.slice a 0 cap, zf p q] w fun e w' => ∃ r i, e = .returned (zf r i) ∧ cn r = 0 ∧ cn i = 0 ∧ Ly w w' := by
  go_enter Try.func35, Try.ntmps35
  go_wp2
  go_loopw [6] (fun i wr => i = .int .i64 (-1) ∧ wr = ((w.alloc (.cells #[.float .f64 p, .float .f64 q] 33)).alloc (.cells #[.float .f64 0, .float .f64 0] 33)).alloc (.cells #[.float .f64 0, .float .f64 0] 33)) (fun i _ => 0)
  case atStart => exact ⟨rfl, rfl⟩
  case round =>
    obtain ⟨rfl, rfl⟩ := hrel
    go_wp2
    refine ret_z rfl rfl rfl (by go_simp <;> rfl) (by go_simp <;> rfl) ?_
    exact ⟨_, _, rfl, nought_cn, nought_cn, by repeat (first | exact Ly.refl _ | apply Ly.lay | apply Ly.alloc | apply Ly.drewN | apply Ly.drew)⟩

end Go.Proofs.Ytdakgnbnjncnmaa
