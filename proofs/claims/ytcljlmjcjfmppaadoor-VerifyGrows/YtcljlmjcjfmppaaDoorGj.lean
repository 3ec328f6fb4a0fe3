/- What VerifyGrows' region 12 carries, whatever was done so far (J12), and what each of its operations makes of it. Nothing of the program is in it. -/
import Derived.Test.YtcljlmjcjfmppaaDoorGi
set_option linter.unusedSimpArgs false
set_option linter.unusedVariables false
namespace Go.Proofs.YtcljlmjcjfmppaaDoor
open Go Go.RowKit

/-- D: what is done. x70, x77, x80: the code's row, empty, as it was, with one instruction more; x79: the one more. The store (16) is the last. -/
structure J12 (e : TypeId) (sz : Nat) (W0 : World) (cs mo : List Value) (k : Nat) (p : Addr) (D : Nat → Bool) (x70 x77 x79 x80 : Value) (w1 w : World) : Prop where
  b : Bw W0 w1
  c13 : D 13 = true → D 10 = true
  c16 : D 16 = true → D 3 = true ∧ D 10 = true ∧ D 12 = true ∧ D 13 = true
  e0 : D 16 = false → w = w1
  e1 : D 16 = true → w = w1.setCell p x80
  r70 : D 3 = true → D 10 = false → Rw W0 w1 e sz x70 0 []
  r77 : D 10 = true → D 13 = false → Rw W0 w1 e sz x77 k cs
  r79 : D 12 = true → D 13 = false → Rw W0 w1 e sz x79 1 mo
  r80 : D 13 = true → Rw W0 w1 e sz x80 (k + 1) (cs ++ mo)
  a70 : D 3 = true → D 10 = false → D 12 = true → D 13 = false → ∀ b, x70.ownBlock = some b → x79.ownBlock ≠ some b
  a77 : D 10 = true → D 12 = true → D 13 = false → ∀ b, x77.ownBlock = some b → x79.ownBlock ≠ some b

section
variable {e : TypeId} {sz : Nat} {W0 : World} {cs mo : List Value} {k : Nat} {p : Addr} {D : Nat → Bool} {x70 x77 x79 x80 : Value} {w1 w w' : World}

theorem J12.start (hb : Bw W0 w) : J12 e sz W0 cs mo k p (fun _ => false) x70 x77 x79 x80 w w := by
  refine ⟨hb, ?_, ?_, fun _ => rfl, ?_, ?_, ?_, ?_, ?_, ?_, ?_⟩ <;> (intro h; cases h)

theorem J12.pure (J : J12 e sz W0 cs mo k p D x70 x77 x79 x80 w1 w) (i : Nat) (h3 : i ≠ 3) (h10 : i ≠ 10) (h12 : i ≠ 12) (h13 : i ≠ 13) (h16 : i ≠ 16) :
    J12 e sz W0 cs mo k p (updD D i) x70 x77 x79 x80 w1 w := by
  have e : ∀ j, i ≠ j → updD D i j = D j := fun j h => if_neg (fun k => h k.symm)
  obtain ⟨b, c13, c16, e0, e1, r70, r77, r79, r80, a70, a77⟩ := J
  constructor <;> (try simp only [e 3 h3, e 10 h10, e 12 h12, e 13 h13, e 16 h16]) <;> assumption

theorem J12.no16 (J : J12 e sz W0 cs mo k p D x70 x77 x79 x80 w1 w) (h : D 3 = false ∨ D 10 = false ∨ D 12 = false ∨ D 13 = false) : D 16 = false := by
  cases hh : D 16 with
  | false => rfl
  | true =>
    obtain ⟨a, b, c, d⟩ := J.c16 hh
    rw [a, b, c, d] at h
    rcases h with h | h | h | h <;> cases h

theorem J12.s3 (J : J12 e sz W0 cs mo k p D x70 x77 x79 x80 w1 w) (hD : D 3 = false) :
    J12 e sz W0 cs mo k p (updD D 3) (.slice (some ⟨w.heap.size, 0, none⟩) 0 0) x77 x79 x80 (w.alloc (.cells #[] e)) (w.alloc (.cells #[] e)) := by
  have h16 := J.no16 (.inl hD)
  obtain rfl := J.e0 h16
  have hb : Bw w (w.alloc (.cells #[] e)) := (Bw.refl w).alloc _
  exact {
    b := J.b.trans hb
    c13 := J.c13
    c16 := fun h => by rw [show updD D 3 16 = D 16 from rfl, h16] at h; cases h
    e0 := fun _ => rfl
    e1 := fun h => by rw [show updD D 3 16 = D 16 from rfl, h16] at h; cases h
    r70 := fun _ _ => Rw.empty W0 w J.b e sz
    r77 := fun a b => (J.r77 a b).bw hb
    r79 := fun a b => (J.r79 a b).bw hb
    r80 := fun a => (J.r80 a).bw hb
    a70 := fun _ _ a b c h1 h2 => by cases h1; exact Nat.lt_irrefl _ ((J.r79 a b).lt h2)
    a77 := J.a77 }

theorem J12.s12 {mv : List Value} (J : J12 e sz W0 cs mv k p D x70 x77 x79 x80 w1 w) (hD : D 12 = false) (hm : mv.length = 1 * sz) :
    J12 e sz W0 cs mv k p (updD D 12) x70 x77 (.slice (some ⟨w.heap.size, 0, none⟩) 1 1) x80 (w.alloc (.cells mv.toArray e)) (w.alloc (.cells mv.toArray e)) := by
  have h16 := J.no16 (.inr (.inr (.inl hD)))
  obtain rfl := J.e0 h16
  have hb : Bw w (w.alloc (.cells mv.toArray e)) := (Bw.refl w).alloc _
  exact {
    b := J.b.trans hb
    c13 := J.c13
    c16 := fun h => by rw [show updD D 12 16 = D 16 from rfl, h16] at h; cases h
    e0 := fun _ => rfl
    e1 := fun h => by rw [show updD D 12 16 = D 16 from rfl, h16] at h; cases h
    r70 := fun a b => (J.r70 a b).bw hb
    r77 := fun a b => (J.r77 a b).bw hb
    r79 := fun _ _ => ⟨by simpa using World.ownsRow_lit (e := e) w mv.toArray 1 (Nat.zero_le _) (by decide) (by simpa using hm), fun b e => by cases e; exact J.b.size⟩
    r80 := fun a => (J.r80 a).bw hb
    a70 := fun a b _ _ c h1 h2 => by cases h2; exact Nat.lt_irrefl _ ((J.r70 a b).lt h1)
    a77 := fun a _ b c h1 h2 => by cases h2; exact Nat.lt_irrefl _ ((J.r77 a b).lt h1) }

theorem J12.s10 (J : J12 e sz W0 cs mo k p D x70 x77 x79 x80 w1 w) (h3 : D 3 = true) (hD : D 10 = false) {v' : Value} (how : w'.ownsRow 0 e sz v' k cs) (hg : w.grownBy w' x70.ownBlock)
    (hvb : v'.ownBlock = x70.ownBlock ∨ ∀ k, v'.ownBlock = some k → w.heap.size ≤ k) :
    J12 e sz W0 cs mo k p (updD D 10) x70 v' x79 x80 w' w' := by
  have h16 := J.no16 (.inr (.inl hD))
  obtain rfl := J.e0 h16
  have R := J.r70 h3 hD
  have h13 : D 13 = false := by
    cases h : D 13 with
    | false => rfl
    | true => have := J.c13 h; rw [hD] at this; cases this
  exact {
    b := R.bwGrown J.b hg
    c13 := fun _ => rfl
    c16 := fun h => by rw [show updD D 10 16 = D 16 from rfl, h16] at h; cases h
    e0 := fun _ => rfl
    e1 := fun h => by rw [show updD D 10 16 = D 16 from rfl, h16] at h; cases h
    r70 := fun _ h => Bool.noConfusion (show true = false from h)
    r77 := fun _ _ => R.grown J.b how hvb
    r79 := fun a b => (J.r79 a b).beside hg (fun c h1 h2 => J.a70 h3 hD a b c h2 h1)
    r80 := fun a => by rw [show updD D 10 13 = D 13 from rfl, h13] at a; cases a
    a70 := fun _ h => Bool.noConfusion (show true = false from h)
    a77 := fun _ a b c h1 h2 => by
      rcases hvb with h | h
      · exact J.a70 h3 hD a b c (h ▸ h1) h2
      · exact Nat.lt_irrefl _ (Nat.lt_of_lt_of_le ((J.r79 a b).lt h2) (h c h1)) }

theorem J12.s13 (J : J12 e sz W0 cs mo k p D x70 x77 x79 x80 w1 w) (h10 : D 10 = true) (hD : D 13 = false) {v' : Value} (how : w'.ownsRow 0 e sz v' (k + 1) (cs ++ mo)) (hg : w.grownBy w' x77.ownBlock)
    (hvb : v'.ownBlock = x77.ownBlock ∨ ∀ k, v'.ownBlock = some k → w.heap.size ≤ k) :
    J12 e sz W0 cs mo k p (updD D 13) x70 x77 x79 v' w' w' := by
  have h16 := J.no16 (.inr (.inr (.inr hD)))
  obtain rfl := J.e0 h16
  have R := J.r77 h10 hD
  exact {
    b := R.bwGrown J.b hg
    c13 := fun _ => h10
    c16 := fun h => by rw [show updD D 13 16 = D 16 from rfl, h16] at h; cases h
    e0 := fun _ => rfl
    e1 := fun h => by rw [show updD D 13 16 = D 16 from rfl, h16] at h; cases h
    r70 := fun _ h => by rw [show updD D 13 10 = D 10 from rfl, h10] at h; cases h
    r77 := fun _ h => Bool.noConfusion (show true = false from h)
    r79 := fun _ h => Bool.noConfusion (show true = false from h)
    r80 := fun _ => R.grown J.b how hvb
    a70 := fun _ _ _ h => Bool.noConfusion (show true = false from h)
    a77 := fun _ _ h => Bool.noConfusion (show true = false from h) }

/-- The store. -/
theorem J12.s16 (J : J12 e sz W0 cs mo k p D x70 x77 x79 x80 w1 w) (h3 : D 3 = true) (h10 : D 10 = true) (h12 : D 12 = true) (h13 : D 13 = true) (hD : D 16 = false) :
    J12 e sz W0 cs mo k p (updD D 16) x70 x77 x79 x80 w1 (w.setCell p x80) := by
  obtain rfl := J.e0 hD
  exact {
    b := J.b
    c13 := J.c13
    c16 := fun _ => ⟨h3, h10, h12, h13⟩
    e0 := fun h => Bool.noConfusion (show true = false from h)
    e1 := fun _ => rfl
    r70 := J.r70
    r77 := J.r77
    r79 := J.r79
    r80 := J.r80
    a70 := J.a70
    a77 := J.a77 }

end

end Go.Proofs.YtcljlmjcjfmppaaDoor
