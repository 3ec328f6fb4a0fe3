/- fits, goOn: contracts. -/
import Derived.Test.YtcljlmjcjfmppaaDoorVj
set_option linter.unusedSimpArgs false
set_option linter.unusedVariables false
namespace Go.Proofs.YtcljlmjcjfmppaaDoor
open Go Go.RowKit

section
variable {w w' : World}

theorem reach_anyI {bh bf hb br : Nat} {s : HSt} (p n : Int) (h : HI w bh bf hb br s) (hp : 0 ≤ p ∧ p < (s.h.length : Int)) (hl : s.row.length ≤ 1000000) (hl2 : s.h.length ≤ 1000000) :
    Calls Tryd.prog 20 #[.int .i64 p, .int .i64 n, .pointer (some ⟨bh, 0, none⟩), .pointer (some ⟨br, 0, none⟩), .pointer (some ⟨bf, 0, none⟩)] w fun e w' => e = .returned (.bool ((reachM s p n).f == -1)) ∧ HI w' bh bf hb br (reachM s p n) ∧ Wh bf w w' := by
  obtain ⟨k, rfl⟩ : ∃ k : Nat, p = k := ⟨p.toNat, by omega⟩
  exact reach_any k n h (by omega) hl hl2

set_option maxRecDepth 100000 in
set_option maxHeartbeats 2000000 in
theorem fits_any (x : MFn) (G : Nat → Prop) (ha : RFn w G x) (op a bb h kept after : Int) (k : Nat) (hk : (k : Int) < 9223372036854775807) :
    Calls Tryd.prog 22 #[.agg #[.int .i64 x.f.params, .int .i64 x.f.slots, x.vb, x.vc, x.vo, x.vt], stpV op a bb k h kept after] w fun e w' => e = .returned (.bool (fitM x.f op k kept after)) ∧ Bw w w' := by
  unfold stpV
  obtain ⟨f, xb, xc, xo, xt⟩ := x
  obtain ⟨a1, c1, e1⟩ := ha.b.form
  obtain ⟨a2, c2, e2⟩ := ha.c.form
  obtain ⟨a3, c3, e3⟩ := ha.o.form
  obtain ⟨a4, c4, e4⟩ := ha.t.form
  simp only at e1 e2 e3 e4 ⊢
  subst e1 e2 e3 e4
  clear ha
  have hk1 : (k : Int) + 1 ≤ 9223372036854775807 := by omega
  obtain ⟨nb, hnb⟩ : ∃ nb, nxt op = nb := ⟨_, rfl⟩
  have HNX := hid hnb
  by_cases h1 : kept < 0
  · have hb1 : decide (kept < 0) = true := decide_eq_true h1
    have HR := hid (show fitM f op k kept after = false by unfold fitM; rw [decide_eq_false (show ¬ 0 ≤ kept by omega)]; rfl)
    clear h1 hnb
    go_enter Tryd.func22, Tryd.ntmps22
    go_wp2_with (first
      | (go_at_call 30; refine (hasNext_any op _).mono ?_; rintro e w1 ⟨rfl, hw1⟩; subst w1; rw [HNX.out])
      | fail)
    all_goals go_ret
    all_goals exact ⟨by rw [HR.out]; rfl, (by repeat (first | exact Bw.refl _ | apply Bw.alloc | apply Bw.drewN | apply Bw.drew))⟩
  have hb1 : decide (kept < 0) = false := decide_eq_false h1
  by_cases h2 : 256 < after
  · have hb2 : decide (256 < after) = true := decide_eq_true h2
    have HR := hid (show fitM f op k kept after = false by unfold fitM; rw [decide_eq_false (show ¬ after ≤ 256 by omega)]; simp)
    clear h1 h2 hnb
    go_enter Tryd.func22, Tryd.ntmps22
    go_wp2_with (first
      | (go_at_call 30; refine (hasNext_any op _).mono ?_; rintro e w1 ⟨rfl, hw1⟩; subst w1; rw [HNX.out])
      | fail)
    all_goals go_ret
    all_goals exact ⟨by rw [HR.out]; rfl, (by repeat (first | exact Bw.refl _ | apply Bw.alloc | apply Bw.drewN | apply Bw.drew))⟩
  have hb2 : decide (256 < after) = false := decide_eq_false h2
  have HF := hid (show fitM f op k kept after = !(nb && (((k : Int) + 1) == (f.code.length : Int))) by unfold fitM; rw [hnb, decide_eq_true (show 0 ≤ kept by omega), decide_eq_true (show after ≤ 256 by omega)]; simp)
  clear h1 h2 hnb
  cases nb
  · have HR := hid (show fitM f op k kept after = true by rw [HF.out]; rfl)
    go_enter Tryd.func22, Tryd.ntmps22
    go_wp2_with (first
      | (go_at_call 30; refine (hasNext_any op _).mono ?_; rintro e w1 ⟨rfl, hw1⟩; subst w1; rw [HNX.out])
      | fail)
    all_goals go_ret
    all_goals exact ⟨by rw [HR.out]; rfl, (by repeat (first | exact Bw.refl _ | apply Bw.alloc | apply Bw.drewN | apply Bw.drew))⟩
  · by_cases h3 : (k : Int) + 1 = (f.code.length : Int)
    · have hb3 : (((k : Int) + 1) == (f.code.length : Int)) = true := by simp [h3]
      have HR := hid (show fitM f op k kept after = false by rw [HF.out, hb3]; rfl)
      clear h3
      go_enter Tryd.func22, Tryd.ntmps22
      go_wp2_with (first
        | (go_at_call 30; refine (hasNext_any op _).mono ?_; rintro e w1 ⟨rfl, hw1⟩; subst w1; rw [HNX.out])
        | fail)
      all_goals go_ret
      all_goals exact ⟨by rw [HR.out]; rfl, (by repeat (first | exact Bw.refl _ | apply Bw.alloc | apply Bw.drewN | apply Bw.drew))⟩
    · have hb3 : (((k : Int) + 1) == (f.code.length : Int)) = false := by simpa using h3
      have HR := hid (show fitM f op k kept after = true by rw [HF.out, hb3]; rfl)
      clear h3
      go_enter Tryd.func22, Tryd.ntmps22
      go_wp2_with (first
        | (go_at_call 30; refine (hasNext_any op _).mono ?_; rintro e w1 ⟨rfl, hw1⟩; subst w1; rw [HNX.out])
        | fail)
      all_goals go_ret
      all_goals exact ⟨by rw [HR.out]; rfl, (by repeat (first | exact Bw.refl _ | apply Bw.alloc | apply Bw.drewN | apply Bw.drew))⟩

end

end Go.Proofs.YtcljlmjcjfmppaaDoor
