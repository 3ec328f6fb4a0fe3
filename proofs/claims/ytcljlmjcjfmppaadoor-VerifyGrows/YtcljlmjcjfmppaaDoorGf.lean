/- A region that draws, by what holds whatever was done so far, behind steps taken ahead. Nothing of the program is in it. -/
import Derived.Test.YtcljlmjcjfmppaaDoorWB
import Derived.Test.YtcljlmjcjfmppaaDoorWA
set_option linter.unusedSimpArgs false
set_option linter.unusedVariables false
namespace Go.Proofs.YtcljlmjcjfmppaaDoor
open Go Go.RowKit

section
variable {P : Program} {ops : Array Oper} {Q : Exit → Act → World → Prop} {md : Region.Mode}

theorem wpAnyW_inv (hah : aheadB md ops = true) (S : World → Prop) (W : Nat → Nat) (I : (Nat → Bool) → Act → World → Prop)
    (hstep : ∀ i o D a w, ops[i]? = some o → I D a w → D i = false → (∀ e ∈ o.after, Region.binds md e = true → D e.on = true) →
      ∀ K' : Act → World → Prop, Shut (∀ a' w', askW S (W i) w w' → I (updD D i) a' w' → K' a' w') → if Region.wanted o (yielded ops a.tmps) = true then Oper.wp P o a w K' Q else K' (a.put o.dst undef) w)
    (hend : ∀ D a w, I D a w → (∀ i, i < ops.size → D i = true) → Q .normal a w) :
    ∀ (fuel : Nat) (listed : Array Bool) (a : Act) (w : World), listed.size = ops.size → leftD (fun j => listed.getD j false) ops.size = fuel → I (fun j => listed.getD j false) a w → wpAnyW P md ops Q S W fuel listed a w
  | 0, listed, a, w, hs, hl, hI => by
    have hall := left_zero _ _ hl
    refine ⟨?_, hend _ a w hI hall⟩
    cases hr : Region.ready md ops listed with
    | nil => rfl
    | cons i t =>
      have hin : i ∈ Region.ready md ops listed := by rw [hr]; simp
      obtain ⟨h1, o, ho, _⟩ := mem_ready.1 hin
      have hi : i < ops.size := (Array.getElem?_eq_some_iff.1 ho).1
      have h2 := hall i hi
      simp [hs, hi] at h1 h2
      rw [h1] at h2
      cases h2
  | fuel + 1, listed, a, w, hs, hl, hI => by
    refine ⟨fun hr => hend _ a w hI (ahead_all hah hs hr), fun i hin => ?_⟩
    obtain ⟨h1, o, ho, hall⟩ := mem_ready.1 hin
    have hi : i < ops.size := (Array.getElem?_eq_some_iff.1 ho).1
    have hil : i < listed.size := by omega
    have hD : listed.getD i false = false := by simp [hil] at h1 ⊢; exact h1
    have e : (fun j => (listed.setIfInBounds i true).getD j false) = updD (fun j => listed.getD j false) i := by
      funext j
      simp only [updD]
      by_cases hj : j = i
      · subst hj; simp [hil]
      · rw [if_neg hj]
        simp [Array.getElem?_setIfInBounds, Ne.symm hj]
    refine wpOp_step ho (fun K' hK => ?_)
    refine hstep i o _ a w ho hI hD hall K' (fun a' w' hk h' => hK a' w' ⟨hk, ?_⟩)
    refine wpAnyW_inv hah S W I hstep hend fuel _ a' w' (by simpa using hs) ?_ (by rw [e]; exact h')
    rw [e]
    have := left_upd (fun j => listed.getD j false) i hD ops.size hi
    omega

end

end Go.Proofs.YtcljlmjcjfmppaaDoor
