/- A region that draws its order, by what holds whatever was done so far: one step for each operation, in whatever order. Nothing of the program is in it. -/
import Derived.WalkKit
import Derived.Deep.RegionHeld3
set_option linter.unusedSimpArgs false
set_option linter.unusedVariables false
namespace Go.Proofs.YtcljlmjcjfmppaaDoor
open Go Go.RowKit

/-- One more is done. -/
def updD (D : Nat → Bool) (i : Nat) : Nat → Bool := fun j => if j = i then true else D j
/-- How many of the first n are left. -/
def leftD (D : Nat → Bool) : Nat → Nat
  | 0 => 0
  | n + 1 => leftD D n + (if D n = true then 0 else 1)

theorem left_upd_ge (D : Nat → Bool) (i : Nat) : ∀ n, n ≤ i → leftD (updD D i) n = leftD D n
  | 0, _ => rfl
  | n + 1, h => by
    have : n ≠ i := by omega
    simp only [leftD, left_upd_ge D i n (by omega), updD, if_neg this]
theorem left_upd (D : Nat → Bool) (i : Nat) (hD : D i = false) : ∀ n, i < n → leftD (updD D i) n + 1 = leftD D n
  | 0, h => by omega
  | n + 1, h => by
    by_cases hi : n = i
    · subst hi
      simp only [leftD, left_upd_ge D n n (Nat.le_refl _), updD, hD]
      simp
    · have := left_upd D i hD n (by omega)
      have e : updD D i n = D n := by simp only [updD, if_neg hi]
      simp only [leftD, e]
      omega
theorem left_zero (D : Nat → Bool) : ∀ n, leftD D n = 0 → ∀ i, i < n → D i = true
  | 0, _, i, h => by omega
  | n + 1, h, i, hi => by
    simp only [leftD] at h
    by_cases hn : i = n
    · subst hn
      by_cases hd : D i = true
      · exact hd
      · rw [if_neg hd] at h; omega
    · exact left_zero D n (by omega) i (by omega)
theorem left_none : ∀ n, leftD (fun _ => false) n = n
  | 0 => rfl
  | n + 1 => by simp [leftD, left_none n]

section
variable {P : Program} {ops : Array Oper} {Q : Exit → Act → World → Prop} {md : Region.Mode}

/-- All that an operation waits for stands ahead of it. -/
def aheadB (md : Region.Mode) (ops : Array Oper) : Bool :=
  (List.range ops.size).all fun i => match ops[i]? with
    | some o => o.after.all fun e => !Region.binds md e || decide (e.on < i)
    | none => true

theorem ahead_all (hah : aheadB md ops = true) {listed : Array Bool} (hs : listed.size = ops.size) (hr : Region.ready md ops listed = []) : ∀ i, i < ops.size → listed.getD i false = true := by
  intro i
  induction i using Nat.strongRecOn with
  | ind i ih =>
    intro hi
    cases h : listed.getD i false with
    | true => rfl
    | false =>
      exfalso
      have hin : i ∈ Region.ready md ops listed := by
        refine mem_ready.2 ⟨?_, ops[i], Array.getElem?_eq_getElem hi, fun e he hb => ?_⟩
        · simp [hs, hi] at h ⊢
          exact h
        · have h1 := List.all_eq_true.1 hah i (List.mem_range.2 hi)
          rw [Array.getElem?_eq_getElem hi] at h1
          have h2 := Array.all_eq_true_iff_forall_mem.1 h1 e he
          rw [hb] at h2
          have h3 : e.on < i := by simpa using h2
          exact ih e.on h3 (by omega)
      rw [hr] at hin
      cases hin

theorem wpAny_inv (hah : aheadB md ops = true) (I : (Nat → Bool) → Act → World → Prop)
    (hstep : ∀ i o D a w, ops[i]? = some o → I D a w → D i = false → (∀ e ∈ o.after, Region.binds md e = true → D e.on = true) →
      ∀ K' : Act → World → Prop, Shut (∀ a' w', I (updD D i) a' w' → K' a' w') → if Region.wanted o (yielded ops a.tmps) = true then Oper.wp P o a w K' Q else K' (a.put o.dst undef) w)
    (hend : ∀ D a w, I D a w → (∀ i, i < ops.size → D i = true) → Q .normal a w) :
    ∀ (fuel : Nat) (listed : Array Bool) (a : Act) (w : World), listed.size = ops.size → leftD (fun j => listed.getD j false) ops.size = fuel → I (fun j => listed.getD j false) a w → wpAny P md ops Q fuel listed a w
  | 0, listed, a, w, hs, hl, hI => by
    have hall := left_zero _ _ hl
    refine ⟨?_, hend _ a w hI hall⟩
    cases hr : Region.ready md ops listed with
    | nil => rfl
    | cons i t =>
      have hin : i ∈ Region.ready md ops listed := by rw [hr]; simp
      obtain ⟨h1, o, ho, _⟩ := mem_ready.1 hin
      have hi : i < ops.size := (Array.getElem?_eq_some_iff.1 ho).1
      have h2 := hall i hi
      simp [hs, hi] at h1 h2
      rw [h1] at h2
      cases h2
  | fuel + 1, listed, a, w, hs, hl, hI => by
    refine ⟨fun hr => hend _ a w hI (ahead_all hah hs hr), fun i hin => ?_⟩
    obtain ⟨h1, o, ho, hall⟩ := mem_ready.1 hin
    have hi : i < ops.size := (Array.getElem?_eq_some_iff.1 ho).1
    have hil : i < listed.size := by omega
    have hD : listed.getD i false = false := by simp [hil] at h1 ⊢; exact h1
    have e : (fun j => (listed.setIfInBounds i true).getD j false) = updD (fun j => listed.getD j false) i := by
      funext j
      simp only [updD]
      by_cases hj : j = i
      · subst hj; simp [hil]
      · rw [if_neg hj]
        simp [Array.getElem?_setIfInBounds, Ne.symm hj]
    refine wpOp_step ho (fun K' hK => ?_)
    refine hstep i o _ a w ho hI hD hall K' (fun a' w' h' => hK a' w' ?_)
    refine wpAny_inv hah I hstep hend fuel _ a' w' (by simpa using hs) ?_ (by rw [e]; exact h')
    rw [e]
    have := left_upd (fun j => listed.getD j false) i hD ops.size hi
    omega

/-- The beginning. -/
theorem wp_region_I {id : Nat} {a : Act} {w : World} (hm : P.follows .mixedOrders = true) (hah : aheadB .any ops = true) (I : (Nat → Bool) → Act → World → Prop)
    (hstep : ∀ i o D a w, ops[i]? = some o → I D a w → D i = false → (∀ e ∈ o.after, Region.binds .any e = true → D e.on = true) →
      ∀ K' : Act → World → Prop, Shut (∀ a' w', I (updD D i) a' w' → K' a' w') → if Region.wanted o (yielded ops a.tmps) = true then Oper.wp P o a w K' Q else K' (a.put o.dst undef) w)
    (hend : ∀ D a w, I D a w → (∀ i, i < ops.size → D i = true) → Q .normal a w) (h0 : I (fun _ => false) a w.drew) : (Code.region id ops true).wp P Q a w := by
  refine wp_region_any hm ?_
  have e : (fun j => (Array.replicate ops.size false).getD j false) = fun _ => false := by
    funext j
    simp only [Array.getD_eq_getD_getElem?, Array.getElem?_replicate]
    split <;> rfl
  refine wpAny_inv hah I hstep hend ops.size _ a _ (by simp) ?_ ?_
  · rw [e]; exact left_none _
  · rw [e]; exact h0

end

end Go.Proofs.YtcljlmjcjfmppaaDoor
