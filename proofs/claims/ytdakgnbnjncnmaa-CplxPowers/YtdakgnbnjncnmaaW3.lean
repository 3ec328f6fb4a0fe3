/- The program's polynomials: its contract, of any list of complex numbers; the world is as it was but for draws. -/
import Derived.Test.YtdakgnbnjncnmaaW2
import Derived.ScopeJumps
import Derived.WalkMore
set_option linter.unusedSimpArgs false
set_option linter.unusedVariables false
namespace Go.Proofs.Ytdakgnbnjncnmaa
open Go Go.RowKit

/-- A polynomial's value, from the last one to the first. -/
def pol (p q : Nat) : List (Nat × Nat) → Nat × Nat
  | [] => (0, 0)
  | z :: r => (fo .add (mre (pol p q r).1 (pol p q r).2 p q) z.1, fo .add (mim (pol p q r).1 (pol p q r).2 p q) z.2)

theorem pol_drop (p q : Nat) (zs : List (Nat × Nat)) (j : Nat) (h : j < zs.length) :
    pol p q (zs.drop j) = (fo .add (mre (pol p q (zs.drop (j + 1))).1 (pol p q (zs.drop (j + 1))).2 p q) (zs.getD j (0, 0)).1, fo .add (mim (pol p q (zs.drop (j + 1))).1 (pol p q (zs.drop (j + 1))).2 p q) (zs.getD j (0, 0)).2) := by
  rw [List.drop_eq_getElem_cons h, pol]
  simp [List.getD, h]

set_option maxRecDepth 100000 in
set_option maxHeartbeats 800000 in
theorem fold_row (b off cap : Nat) (zs : List (Nat × Nat)) (p q : Nat) (w : World) (hm : zs.length ≤ 9223372036854775807)
    (hc : ∀ i, i < zs.length → w.cell? ⟨b, off + i, none⟩ = some (.complex .f64 (zs.getD i (0, 0)).1 (zs.getD i (0, 0)).2)) :
    Calls Try.prog 34 #[.slice (some ⟨b, off, none⟩) zs.length cap, .complex .f64 p q] w fun e w' => e = .returned (.complex .f64 (pol p q zs).1 (pol p q zs).2) ∧ Dn w w' := by
  go_enter Try.func34, Try.ntmps34
  go_wp2
  refine wp_scope_jumps 0 (fun a' w' => ∃ (k : Nat) (u7 u8 u9 u10 u11 u12 u13 u14 u15 u16 u17 u18 u19 u20 u21 : Value), a' = { tmps := #[.slice (some ⟨b, off, none⟩) zs.length cap, .complex .f64 p q, undef, undef, .complex .f64 0 0, .complex .f64 (pol p q (zs.drop k)).1 (pol p q (zs.drop k)).2, .int .i64 k, u7, u8, u9, u10, u11, u12, u13, u14, u15, u16, u17, u18, u19, u20, u21], defers := [] } ∧ k ≤ zs.length ∧ Dn w w') (fun a' _ => (intOf (a'.tmps.getD 6 undef)).toNat) rfl ?_ ?_
  · by_cases h0 : zs.length = 0
    · have hz : zs = [] := List.length_eq_zero_iff.1 h0
      subst hz
      clear hc
      go_wp2
      go_step3
      go_wp2
      simp only [Exit.jump]
      go_ret
      exact ⟨rfl, Dn.refl _⟩
    · obtain ⟨j, hj⟩ : ∃ j, zs.length = j + 1 := ⟨zs.length - 1, by omega⟩
      have hcell := hc j (by omega)
      have hd := pol_drop p q zs j (by omega)
      rw [show zs.drop (j + 1) = [] by simp; omega] at hd
      clear hc
      have hb1 : (0 : Int) ≤ (j : Int) := by omega
      have hb2 : (j : Int) < (j : Int) + 1 := by omega
      rw [hj]
      generalize zs.getD j (0, 0) = z at hcell hd
      go_wp2
      go_step3
      go_wp2
      go_quiet (first | (go_at_call 22; refine Calls.quiet_of (mul_any _ _ _ _ _)) | (go_at_call 18; refine Calls.quiet_of (add_any _ _ _ _ _)))
      go_wp2
      go_step3
      exact ⟨rfl, j, _, _, _, _, _, _, _, _, _, _, _, _, _, _, _, by rw [hd]; rfl, by omega, nq, rfl⟩
  · rintro a' w1 ⟨k, u7, u8, u9, u10, u11, u12, u13, u14, u15, u16, u17, u18, u19, u20, u21, rfl, hk, hw⟩
    by_cases h0 : k = 0
    · subst h0
      clear hc
      go_wp2
      simp only [Exit.jump]
      go_ret
      exact ⟨rfl, hw⟩
    · obtain ⟨j, rfl⟩ : ∃ j, k = j + 1 := ⟨k - 1, by omega⟩
      have hcell : w1.cell? ⟨b, off + j, none⟩ = some (.complex .f64 (zs.getD j (0, 0)).1 (zs.getD j (0, 0)).2) := by
        obtain ⟨m, rfl⟩ := hw
        exact hc j (by omega)
      have hd := pol_drop p q zs j (by omega)
      have HW : Hid (Dn w w1) := hw
      clear hc hw
      have hb1 : (0 : Int) ≤ (j : Int) := by omega
      have hb2 : (j : Int) < (zs.length : Int) := by omega
      generalize zs.getD j (0, 0) = z at hcell hd
      go_wp2
      go_quiet (first | (go_at_call 22; refine Calls.quiet_of (mul_any _ _ _ _ _)) | (go_at_call 18; refine Calls.quiet_of (add_any _ _ _ _ _)))
      go_wp2
      go_step3
      refine ⟨rfl, ⟨j, _, _, _, _, _, _, _, _, _, _, _, _, _, _, _, by rw [hd], by omega, HW.out.trans ⟨nq, rfl⟩⟩, ?_⟩
      simp [intOf]

theorem fold_nil (p q : Nat) (w : World) :
    Calls Try.prog 34 #[.slice none 0 0, .complex .f64 p q] w fun e w' => e = .returned (.complex .f64 0 0) ∧ Dn w w' := by
  go_enter Try.func34, Try.ntmps34
  go_wp2
  go_step3
  go_wp2
  go_step3
  go_wp2
  rw [Exit.noGoto_ret]
  go_ret
  exact ⟨rfl, Dn.refl _⟩

end Go.Proofs.Ytdakgnbnjncnmaa
