/- Lists that a call owns: of complex numbers, of the document's numbers; polynomials over them. -/
import Derived.Test.YtdakgnbnjncnmaaRD
import Derived.Laws.AppendOwn
import Derived.OwnWalk
set_option linter.unusedSimpArgs false
set_option linter.unusedVariables false
namespace Go.Proofs.Ytdakgnbnjncnmaa
open Go Go.RowKit

theorem infoX : (Try.prog.info? 25).map (fun i => (i.zero, i.size, i.bytes)) = some (some (.complex .f64 0 0), 1, 16) := by kernel_rfl
theorem infoY : (Try.prog.info? 33).map (fun i => (i.zero, i.size, i.bytes)) = some (some (.agg #[.float .f64 0, .float .f64 0]), 2, 16) := by kernel_rfl

theorem grown_lay (w : World) (os : List Obj) (n : Nat) (row : Option Nat) : w.grownBy (lay w os n) row :=
  ⟨(foldl_rest os w).1, (foldl_rest os w).2.1, (foldl_rest os w).2.2, by rw [lay_size]; omega, fun k hk _ => (foldl_heap os w).2 k hk⟩

theorem own_lay {w : World} {base : Nat} {e : TypeId} {size : Nat} {v : Value} {n : Nat} {xs : List Value} (h : w.ownsRow base e size v n xs) (os : List Obj) (m : Nat) : (lay w os m).ownsRow base e size v n xs :=
  h.kept (grown_lay w os m none) (by cases v.ownBlock <;> simp)

theorem own_apart {w : World} {base : Nat} {e e' : TypeId} {size size' : Nat} {v v' : Value} {n n' : Nat} {xs xs' : List Value}
    (h : w.ownsRow base e size v n xs) (h' : w.ownsRow base e' size' v' n' xs') (hne : e ≠ e') : v'.ownBlock = none ∨ v'.ownBlock ≠ v.ownBlock := by
  rcases h'.2 with ⟨rfl, _⟩ | ⟨g', cap', cur', rfl, _, hg', _⟩
  · exact .inl rfl
  · right
    rcases h.2 with ⟨rfl, _⟩ | ⟨g, cap, cur, rfl, _, hg, _⟩
    · simp [Value.ownBlock]
    · simp only [Value.ownBlock, ne_eq, Option.some.injEq]
      rintro rfl
      rw [hg] at hg'
      simp only [Option.some.injEq, Obj.cells.injEq] at hg'
      exact hne hg'.2.1

theorem bw_grown {a w w' : World} {e : TypeId} {size : Nat} {v : Value} {n : Nat} {xs : List Value} (h : Bw a w) (hown : w.ownsRow a.heap.size e size v n xs) (hg : w.grownBy w' v.ownBlock) : Bw a w' :=
  Below.grown h hg h.size (fun k hk => (hown.lt k hk).1)

/-- The cells of both lists, the first k numbers made. -/
def cx (zs : List (Nat × Nat)) (k : Nat) : List Value := (zs.take k).map fun z => .complex .f64 (cn z.1) (cn z.2)
def cy (zs : List (Nat × Nat)) (k : Nat) : List Value := (zs.take k).flatMap fun z => [.float .f64 z.1, .float .f64 z.2]

theorem take_next (zs : List (Nat × Nat)) (k : Nat) (h : k < zs.length) : zs.take (k + 1) = zs.take k ++ [zs.getD k (0, 0)] := by
  rw [List.take_add_one, List.getD_eq_getElem?_getD, List.getElem?_eq_getElem h]; rfl
theorem cx_succ (zs : List (Nat × Nat)) (k : Nat) (h : k < zs.length) : cx zs (k + 1) = cx zs k ++ [.complex .f64 (cn (zs.getD k (0, 0)).1) (cn (zs.getD k (0, 0)).2)] := by
  rw [cx, take_next zs k h, List.map_append]; rfl
theorem cy_succ (zs : List (Nat × Nat)) (k : Nat) (h : k < zs.length) : cy zs (k + 1) = cy zs k ++ [.float .f64 (zs.getD k (0, 0)).1, .float .f64 (zs.getD k (0, 0)).2] := by
  rw [cy, take_next zs k h, List.flatMap_append]; rfl
theorem add_at (g j : Nat) : (⟨g, 0, none⟩ : Addr).add j = ⟨g, 0 + j, none⟩ := by
  unfold Addr.add
  split
  · rename_i h; subst h; rfl
  · rfl

theorem pol_cn (p q : Nat) (zs : List (Nat × Nat)) : pol (cn p) (cn q) (zs.map fun z => (cn z.1, cn z.2)) = pol p q zs := by
  induction zs with
  | nil => rfl
  | cons z r ih => simp only [List.map_cons, pol, ih, mre, mim, fo_cn_right, fo_cn_left]

theorem cn_pol (p q : Nat) (zs : List (Nat × Nat)) : cn (pol p q zs).1 = (pol p q zs).1 ∧ cn (pol p q zs).2 = (pol p q zs).2 := by
  cases zs with
  | nil => exact ⟨nought_cn, nought_cn⟩
  | cons z r => exact ⟨cn_fo .., cn_fo ..⟩

theorem pw_cn (a b : Nat) : ∀ k, pw (cn a) (cn b) k = pw a b k := by
  intro k
  induction k with
  | zero => rfl
  | succ k ih => simp only [pw, ih, mre, mim, fo_cn_right]
theorem pwr_cn (a b : Nat) (n : Int) : pwr (cn a) (cn b) n = pwr a b n := by simp only [pwr, pw_cn]
theorem pwi_cn (a b : Nat) (n : Int) : pwi (cn a) (cn b) n = pwi a b n := by simp only [pwi, pw_cn]
theorem cn_pw (a b : Nat) (k : Nat) : cn (pw a b k).1 = (pw a b k).1 ∧ cn (pw a b k).2 = (pw a b k).2 := by
  cases k with
  | zero => exact ⟨one_cn, nought_cn⟩
  | succ k => exact ⟨cn_fo .., cn_fo ..⟩
theorem cn_pwr (a b : Nat) (n : Int) : cn (pwr a b n) = pwr a b n := by
  unfold pwr; split
  · exact (cn_pw a b _).1
  · exact nought_cn
theorem cn_pwi (a b : Nat) (n : Int) : cn (pwi a b n) = pwi a b n := by
  unfold pwi; split
  · exact (cn_pw a b _).2
  · exact nought_cn

theorem fold_own {w : World} {base : Nat} {x : Value} (zs : List (Nat × Nat)) (hl : zs.length ≤ 100) (p q : Nat) (h : w.ownsRow base 25 1 x zs.length (cx zs zs.length)) :
    Calls Try.prog 34 #[x, .complex .f64 (cn p) (cn q)] w fun e w' => e = .returned (.complex .f64 (pol p q zs).1 (pol p q zs).2) ∧ Dn w w' := by
  rcases h.2 with ⟨rfl, h0⟩ | ⟨g, cap, cur, rfl, _, _, _⟩
  · have hz : zs = [] := List.length_eq_zero_iff.1 h0
    subst hz
    exact fold_nil _ _ w
  · have hc := h.cells (g := g) rfl
    have := fold_row g 0 cap (zs.map fun z => (cn z.1, cn z.2)) (cn p) (cn q) w (by simp; omega) (by
      intro i hi
      have hi' : i < zs.length := by simpa using hi
      have := hc i (.complex .f64 (cn (zs.getD i (0, 0)).1) (cn (zs.getD i (0, 0)).2)) (by simp [cx, hi'])
      rw [add_at] at this
      simpa [hi'] using this)
    rw [pol_cn, List.length_map] at this
    exact this

theorem flat2 (zs : List (Nat × Nat)) : ∀ i, i < zs.length → (zs.flatMap fun z => [Value.float .f64 z.1, .float .f64 z.2])[i * 2]? = some (.float .f64 (zs.getD i (0, 0)).1) ∧ (zs.flatMap fun z => [Value.float .f64 z.1, .float .f64 z.2])[i * 2 + 1]? = some (.float .f64 (zs.getD i (0, 0)).2) := by
  induction zs with
  | nil => intro i hi; simp at hi
  | cons z r ih =>
    intro i hi
    cases i with
    | zero => simp
    | succ i =>
      have := ih i (by simpa using hi)
      have e1 : (i + 1) * 2 = i * 2 + 1 + 1 := by omega
      have e2 : (i + 1) * 2 + 1 = (i * 2 + 1) + 1 + 1 := by omega
      rw [e1, List.flatMap_cons]
      simpa using this

theorem rfold_own {w : World} {base : Nat} {y : Value} (zs : List (Nat × Nat)) (hl : zs.length ≤ 100) (p q : Nat) (h : w.ownsRow base 33 2 y zs.length (cy zs zs.length)) :
    Calls Try.prog 35 #[y, zf p q] w fun e w' => ∃ r i, e = .returned (zf r i) ∧ cn r = (pol p q zs).1 ∧ cn i = (pol p q zs).2 ∧ Ly w w' := by
  rcases h.2 with ⟨rfl, h0⟩ | ⟨g, cap, cur, rfl, _, hg, _⟩
  · have hz : zs = [] := List.length_eq_zero_iff.1 h0
    subst hz
    exact rfold_nil none 0 p q w
  · have hc := h.cells (g := g) rfl
    have hlt : g < w.heap.size := (h.lt g rfl).2
    refine rfold_row g 0 cap zs p q w (by omega) hlt ?_
    intro i hi
    have hf := flat2 zs i hi
    have h1 := hc (i * 2) _ (by rw [cy, List.take_length]; exact hf.1)
    have h2 := hc (i * 2 + 1) _ (by rw [cy, List.take_length]; exact hf.2)
    rw [add_at] at h1 h2
    exact ⟨h1, h2⟩

end Go.Proofs.Ytdakgnbnjncnmaa
