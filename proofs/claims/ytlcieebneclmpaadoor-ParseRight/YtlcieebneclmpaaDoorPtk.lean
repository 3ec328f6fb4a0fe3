/- Reading goes forth: plain data. -/
import Derived.Test.YtlcieebneclmpaaDoorK6
set_option linter.unusedSimpArgs false
set_option linter.unusedVariables false
namespace Go.Proofs.YtlcieebneclmpaaDoor
open Go Go.RowKit

/-- The next token is not ahead of i. -/
def Res.ge (r : Res) (i : Nat) : Prop := match r with | .ok _ _ j => i ≤ j | _ => True

theorem ge_mono {r : Res} {i j : Nat} (h : r.ge j) (hij : i ≤ j) : r.ge i := by
  cases r <;> simp only [Res.ge] at * <;> omega

theorem ge_bind {r : Res} {k : Prt → Bool → Nat → Res} {i : Nat} (h : r.ge i) (hk : ∀ x c j, i ≤ j → (k x c j).ge i) : (r.bind k).ge i := by
  cases r with
  | ok x c j => exact hk x c j h
  | bad _ _ => trivial
  | out => trivial

theorem ge_bind2 {r : Res} {k : Prt → Bool → Nat → Res} {i m : Nat} (h : r.ge i) (hk : ∀ x c j, i ≤ j → (k x c j).ge m) : (r.bind k).ge m := by
  cases r with
  | ok x c j => exact hk x c j h
  | bad _ _ => trivial
  | out => trivial

theorem ge_want {T : List ATok} {s : ByteArray} {i m : Nat} {k : Nat → Res} (h : (k (i + 1)).ge m) : (want T s i k).ge m := by
  unfold want
  split
  · exact h
  · trivial

theorem ge_wantN {T : List ATok} {i m : Nat} {k : Nat → Res} (h : (k (i + 1)).ge m) : (wantN T i k).ge m := by
  unfold wantN
  split
  · exact h
  · trivial

theorem ge_entr {T : List ATok} {s : ByteArray} {i o m : Nat} {k : Nat → Nat → Res} (h : (k (i + 1) (o + 1)).ge m) : (entr T s i o k).ge m := by
  unfold entr
  split
  · split
    · trivial
    · exact h
  · trivial

theorem ge_ite {p : Prop} [Decidable p] {a b : Res} {m : Nat} (h1 : a.ge m) (h2 : b.ge m) : (if p then a else b).ge m := by
  split
  · exact h1
  · exact h2

theorem ge_here {T : List ATok} {e : Int} {i m : Nat} : (here T e i).ge m := trivial

theorem ge_semi {T : List ATok} {i m : Nat} {x : Prt} (h : m ≤ i) : (semi T i x).ge m := ge_want (show m ≤ i + 1 by omega)

set_option maxHeartbeats 1000000 in
theorem pP_ge (T : List ATok) : ∀ (f : Nat) (nt : Nt) (i o : Nat), (pP T f nt i o).ge i
  | 0, nt, i, o => by cases nt <;> trivial
  | f + 1, nt, i, o => by
    have IH := fun (nt : Nt) (j o m : Nat) (h : m ≤ j) => ge_mono (pP_ge T f nt j o) h
    cases nt with
    | read r n => cases r <;> (simp only [pP]; repeat (first | apply ge_ite | apply ge_here | apply ge_want | apply ge_wantN | apply ge_entr | (apply IH; omega) | (refine ge_bind (IH _ _ _ _ (by omega)) fun x c j hj => ?_) | (apply ge_semi; omega) | (show _ ≤ _; omega)))
    | _ => (simp only [pP]; repeat (first | apply ge_ite | apply ge_here | apply ge_want | apply ge_wantN | apply ge_entr | (apply IH; omega) | (refine ge_bind (IH _ _ _ _ (by omega)) fun x c j hj => ?_) | (apply ge_semi; omega) | (show _ ≤ _; omega)))

theorem pP_le {T : List ATok} {f : Nat} {nt : Nt} {i o j : Nat} {x : Prt} {c : Bool} (h : pP T f nt i o = .ok x c j) : i ≤ j := by
  have := pP_ge T f nt i o
  rw [h] at this
  exact this

theorem rows_len {T : List ATok} : ∀ (f : Nat) {rd : Rd} {e : ByteArray} {acc : List Prt} {i o : Nat} {x : Prt} {c : Bool} {j : Nat}, pP T f (.rows rd e acc) i o = .ok x c j → acc.length ≤ i → x.kids.length ≤ j
  | 0, rd, e, acc, i, o, x, c, j, h, _ => by simp [pP] at h
  | f + 1, rd, e, acc, i, o, x, c, j, h, hl => by
    simp only [pP] at h
    split at h
    · cases hq : pP T f (.read rd acc.length) (i + 1) o with
      | ok y d m =>
        rw [hq] at h
        exact rows_len f h (by have := pP_le hq; simp; omega)
      | bad _ _ => rw [hq] at h; cases h
      | out => rw [hq] at h; cases h
    · unfold want here at h
      split at h
      · injection h with h1 h2 h3
        subst h1 h3
        show acc.length ≤ i + 1
        omega
      · cases h

theorem row_len {T : List ATok} {f : Nat} {rd : Rd} {b e : ByteArray} {i o : Nat} {x : Prt} {c : Bool} {j : Nat} (h : pP T f (.row rd b e) i o = .ok x c j) : x.kids.length ≤ j := by
  cases f with
  | zero => simp [pP] at h
  | succ f =>
    simp only [pP] at h
    unfold entr here at h
    split at h
    · split at h
      · cases h
      · dsimp only at h
        split at h
        · injection h with h1 h2 h3
          subst h1
          exact Nat.zero_le _
        · cases hq : pP T f (.read rd 0) (i + 1) (o + 1) with
          | ok y d m =>
            rw [hq] at h
            exact rows_len f h (by have := pP_le hq; simp; omega)
          | bad _ _ => rw [hq] at h; cases h
          | out => rw [hq] at h; cases h
    · cases h

theorem ge_lt {r : Res} {x : Prt} {c : Bool} {i j : Nat} (h : r.ge (i + 1)) (e : r = .ok x c j) : i < j := by
  rw [e] at h
  exact h

theorem row_lt {T : List ATok} {f : Nat} {rd : Rd} {b e : ByteArray} {i o : Nat} {x : Prt} {c : Bool} {j : Nat} (h : pP T f (.row rd b e) i o = .ok x c j) : i < j := by
  cases f with
  | zero => simp [pP] at h
  | succ f =>
    simp only [pP] at h
    refine ge_lt (ge_entr ?_) h
    refine ge_ite (show i + 1 ≤ i + 1 + 1 by omega) (ge_bind (pP_ge T f _ _ _) fun x c j hj => ge_mono (pP_ge T f _ _ _) hj)

theorem block_lt {T : List ATok} {f : Nat} {i o : Nat} {x : Prt} {c : Bool} {j : Nat} (h : pP T f .block i o = .ok x c j) : i < j := by
  cases f with
  | zero => simp [pP] at h
  | succ f =>
    simp only [pP] at h
    exact ge_lt (ge_entr (pP_ge T f _ _ _)) h

theorem choice_lt {T : List ATok} {f : Nat} {i o : Nat} {x : Prt} {c : Bool} {j : Nat} (h : pP T f .choice i o = .ok x c j) : i < j := by
  cases f with
  | zero => simp [pP] at h
  | succ f =>
    simp only [pP] at h
    have IH := fun (nt : Nt) (j o m : Nat) (h : m ≤ j) => ge_mono (pP_ge T f nt j o) h
    refine ge_lt ?_ h
    repeat (first | apply ge_ite | apply ge_here | apply ge_want | apply ge_wantN | apply ge_entr | (apply IH; omega) | (refine ge_bind (IH _ _ _ _ (by omega)) fun x c j hj => ?_) | (apply ge_semi; omega) | (show _ ≤ _; omega))

theorem stmt_lt {T : List ATok} {f : Nat} {i o : Nat} {x : Prt} {c : Bool} {j : Nat} (h : pP T f .stmt i o = .ok x c j) : i < j := by
  cases f with
  | zero => simp [pP] at h
  | succ f =>
    simp only [pP] at h
    have IH := fun (nt : Nt) (j o m : Nat) (h : m ≤ j) => ge_mono (pP_ge T f nt j o) h
    have B : (pP T f .block i o).ge (i + 1) := by
      cases q : pP T f .block i o with
      | ok x c j => exact block_lt q
      | bad _ _ => trivial
      | out => trivial
    have C : (pP T f .choice i o).ge (i + 1) := by
      cases q : pP T f .choice i o with
      | ok x c j => exact choice_lt q
      | bad _ _ => trivial
      | out => trivial
    have S : ∀ {k : Nat} {x : Prt}, i ≤ k → (semi T k x).ge (i + 1) := fun {k x} h => ge_want (show i + 1 ≤ k + 1 by omega)
    refine ge_lt ?_ h
    repeat (first | exact B | exact C | apply ge_ite | apply ge_here | (apply S; omega) | apply ge_want | apply ge_wantN | apply ge_entr | (apply IH; omega) | (refine ge_bind (IH _ _ _ _ (by omega)) fun x c j hj => ?_) | (refine ge_bind2 (pP_ge T f (.lev 0) i o) fun x c j hj => ?_) | (show _ ≤ _; omega))

end Go.Proofs.YtlcieebneclmpaaDoor

