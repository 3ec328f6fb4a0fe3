/- The document's choice of the hottest, again and again, as plain data. -/
import Derived.Test.YtfkcbioefdkabaaQf
set_option linter.unusedSimpArgs false
set_option linter.unusedVariables false
namespace Go.Proofs.Ytfkcbioefdkabaa
open Go Go.RowKit

def upd (h : Nat → Int) (i : Nat) (n : Int) : Nat → Int := fun j => if j = i then n else h j

def bestOf (h : Nat → Int) (least : Int) : Nat → Int
  | 0 => -1
  | k + 1 => if 0 < h k ∧ least ≤ h k ∧ (bestOf h least k < 0 ∨ h (bestOf h least k).toNat < h k) then (k : Int) else bestOf h least k

/-- The best one ahead of k. -/
def BestIs (h : Nat → Int) (least : Int) (k : Nat) (b : Int) : Prop :=
  (b = -1 ∧ ∀ j, j < k → ¬ (0 < h j ∧ least ≤ h j)) ∨
  ∃ q : Nat, q < k ∧ b = q ∧ 0 < h q ∧ least ≤ h q ∧ ∀ j, j < k → 0 < h j → least ≤ h j → j ≠ q → ahd ((q : Int), h q) ((j : Int), h j) = true

theorem best_is (h : Nat → Int) (least : Int) : ∀ k, BestIs h least k (bestOf h least k)
  | 0 => .inl ⟨rfl, fun j hj => by omega⟩
  | k + 1 => by
    have ih := best_is h least k
    have e : bestOf h least (k + 1) = if 0 < h k ∧ least ≤ h k ∧ (bestOf h least k < 0 ∨ h (bestOf h least k).toNat < h k) then (k : Int) else bestOf h least k := rfl
    rw [e]
    generalize bestOf h least k = b at ih
    clear e
    by_cases hc : 0 < h k ∧ least ≤ h k
    · rcases ih with ⟨rfl, hn⟩ | ⟨q, hq, rfl, h1, h2, h3⟩
      · rw [if_pos ⟨hc.1, hc.2, .inl (by omega)⟩]
        refine .inr ⟨k, by omega, rfl, hc.1, hc.2, fun j hj h4 h5 hne => ?_⟩
        exact absurd ⟨h4, h5⟩ (hn j (by omega))
      · by_cases hh : h q < h k
        · rw [if_pos ⟨hc.1, hc.2, .inr (by simpa using hh)⟩]
          refine .inr ⟨k, by omega, rfl, hc.1, hc.2, fun j hj h4 h5 hne => ?_⟩
          by_cases hjq : j = q
          · subst hjq
            simp [ahd, hh]
          · have := h3 j (by omega) h4 h5 hjq
            unfold ahd at *
            simp at *
            omega
        · rw [if_neg (fun hx => by rcases hx.2.2 with hx | hx; omega; exact hh (by simpa using hx))]
          refine .inr ⟨q, by omega, rfl, h1, h2, fun j hj h4 h5 hne => ?_⟩
          by_cases hjk : j = k
          · subst hjk
            unfold ahd
            simp
            omega
          · exact h3 j (by omega) h4 h5 hne
    · rw [if_neg (fun hx => hc ⟨hx.1, hx.2.1⟩)]
      rcases ih with ⟨rfl, hn⟩ | ⟨q, hq, rfl, h1, h2, h3⟩
      · refine .inl ⟨rfl, fun j hj => ?_⟩
        by_cases hjk : j = k
        · subst hjk; exact hc
        · exact hn j (by omega)
      · refine .inr ⟨q, by omega, rfl, h1, h2, fun j hj h4 h5 hne => ?_⟩
        by_cases hjk : j = k
        · subst hjk; exact absurd ⟨h4, h5⟩ hc
        · exact h3 j (by omega) h4 h5 hne

theorem hots_none {h : Nat → Int} {least : Int} {F : Nat} (hn : ∀ j, j < F → ¬ (0 < h j ∧ least ≤ h j)) : hotL h least F = [] := by
  have : hots h least F = [] := by
    apply List.eq_nil_iff_forall_not_mem.2
    intro p hp
    obtain ⟨i, hi, _, h1, h2⟩ := mem_hots.1 hp
    exact hn i hi ⟨h1, h2⟩
  unfold hotL
  rw [this]
  rfl

theorem hots_best {h : Nat → Int} {least : Int} {F q : Nat} (hq : q < F) (h1 : 0 < h q) (h2 : least ≤ h q) (h3 : ∀ j, j < F → 0 < h j → least ≤ h j → j ≠ q → ahd ((q : Int), h q) ((j : Int), h j) = true) :
    hotL h least F = (q : Int) :: hotL (upd h q 0) least F := by
  have hmem : ∀ p, p ∈ hots (upd h q 0) least F ↔ p ∈ hots h least F ∧ p ≠ ((q : Int), h q) := by
    intro p
    rw [mem_hots, mem_hots]
    constructor
    · rintro ⟨i, hi, rfl, k1, k2⟩
      by_cases hiq : i = q
      · subst hiq
        simp [upd] at k1
      · simp only [upd, if_neg hiq] at *
        exact ⟨⟨i, hi, rfl, k1, k2⟩, fun e => hiq (by simp only [Prod.mk.injEq] at e; omega)⟩
    · rintro ⟨⟨i, hi, rfl, k1, k2⟩, hne⟩
      have hiq : i ≠ q := fun e => hne (by rw [e])
      exact ⟨i, hi, by simp [upd, hiq], by simpa [upd, hiq] using k1, by simpa [upd, hiq] using k2⟩
  have hqm : ((q : Int), h q) ∈ hots h least F := mem_hots.2 ⟨q, hq, rfl, h1, h2⟩
  have hperm : (hots h least F).Perm (((q : Int), h q) :: hots (upd h q 0) least F) := by
    refine (List.perm_ext_iff_of_nodup (hots_nodup _ _ _) (List.nodup_cons.2 ⟨fun hm => ((hmem _).1 hm).2 rfl, hots_nodup _ _ _⟩)).2 fun p => ?_
    rw [List.mem_cons, hmem]
    constructor
    · intro hp
      by_cases e : p = ((q : Int), h q)
      · exact .inl e
      · exact .inr ⟨hp, e⟩
    · rintro (rfl | hp)
      · exact hqm
      · exact hp.1
  have hord : Ord (((q : Int), h q) :: sortH (hots (upd h q 0) least F)) := by
    unfold Ord
    rw [List.pairwise_cons]
    refine ⟨fun p hp => ?_, sortH_ord _⟩
    have hp := (sortH_perm _).mem_iff.1 hp
    obtain ⟨hp1, hp2⟩ := (hmem p).1 hp
    obtain ⟨i, hi, rfl, k1, k2⟩ := mem_hots.1 hp1
    exact ahd_asymm (h3 i hi k1 k2 (fun e => hp2 (by rw [e])))
  have := ord_unique _ _ (sortH_ord (hots h least F)) hord ((sortH_perm _).trans (hperm.trans ((sortH_perm _).symm.cons _)))
  unfold hotL
  rw [this]
  rfl

theorem hotL_congr {h h' : Nat → Int} (least : Int) (F : Nat) (e : ∀ i, i < F → h i = h' i) : hotL h least F = hotL h' least F := by
  have : hots h least F = hots h' least F := by
    unfold hots
    congr 1
    apply List.map_congr_left
    intro i hi
    rw [e i (List.mem_range.1 hi)]
  unfold hotL
  rw [this]

/-- A row of heats. -/
def HRow (w : World) (b F : Nat) (h : Nat → Int) : Prop := ∃ cur, Blk w b cur 3 ∧ cur.size = F ∧ ∀ i : Nat, i < F → cur[i]? = some (.int .i64 (h i))

theorem HRow.lt {w : World} {b F : Nat} {h : Nat → Int} (k : HRow w b F h) : b < w.heap.size := by obtain ⟨c, h1, _⟩ := k; exact h1.lt
theorem HRow.keep {w w' : World} {b F : Nat} {h : Nat → Int} (k : HRow w b F h) (hb : w'.heap[b]? = w.heap[b]?) : HRow w' b F h := by obtain ⟨c, h1, h2⟩ := k; exact ⟨c, h1.keep hb, h2⟩
theorem HRow.bw {w w' : World} {b F : Nat} {h : Nat → Int} (k : HRow w b F h) (hb : Bw w w') : HRow w' b F h := k.keep (hb.block b k.lt)
theorem HRow.cell {w : World} {b F : Nat} {h : Nat → Int} (k : HRow w b F h) {i : Nat} (hi : i < F) : w.cell? ⟨b, i, none⟩ = some (.int .i64 (h i)) := by obtain ⟨c, h1, _, h3⟩ := k; exact (h1.cell i).trans (h3 i hi)
theorem HRow.free {w : World} {b F : Nat} {h : Nat → Int} (k : HRow w b F h) (i : Nat) : w.frozen? ⟨b, i, none⟩ = false := by obtain ⟨c, h1, _⟩ := k; exact h1.free i
theorem HRow.set {w : World} {b F : Nat} {h : Nat → Int} (k : HRow w b F h) {i : Nat} (hi : i < F) (n : Int) : HRow (w.setCell ⟨b, i, none⟩ (.int .i64 n)) b F (upd h i n) := by
  obtain ⟨c, h1, h2, h3⟩ := k
  refine ⟨_, h1.set i _, by simpa using h2, fun j hj => ?_⟩
  by_cases e : i = j
  · subst e
    rw [get_set_same _ (by omega)]
    simp [upd]
  · rw [get_set_other _ e, h3 j hj]
    simp [upd, Ne.symm e]
theorem HRow.congr {w : World} {b F : Nat} {h h' : Nat → Int} (k : HRow w b F h) (e : ∀ i, i < F → h i = h' i) : HRow w b F h' := by
  obtain ⟨c, h1, h2, h3⟩ := k
  exact ⟨c, h1, h2, fun i hi => by rw [← e i hi]; exact h3 i hi⟩

def lenOf : Value → Nat
  | .slice _ n _ => n
  | _ => 0

theorem underIs : Try.prog.underlying 46 = some (.slice 3) := by kernel_rfl
theorem made_i (n : Nat) (h : n ≤ 1024) : ∃ cur : Array Value, (∀ w : World, (Instr.makeSlice 46 (.int .i64 n) (.int .i64 n)).run Try.prog w = .ok (.slice (some ⟨w.heap.size, 0, none⟩) n n) (w.alloc (.cells cur 3))) ∧ cur.size = n ∧ ∀ i : Nat, i < n → cur[i]? = some (.int .i64 0) := by
  obtain ⟨i, hi, e⟩ := Option.map_eq_some_iff.1 infoI
  simp only [Prod.mk.injEq] at e
  refine ⟨madeCells #[.int .i64 0] n, fun w => ?_, size_madeCells _ _, fun j hj => ?_⟩
  · have := run_makeSlice (P := Try.prog) (w := w) 46 3 i _ underIs hi e.1 .i64 .i64 (n : Int) (n : Int) (by omega) (by omega) (by rw [e.2.1]; omega) (by rw [e.2.2]; omega) (by omega)
    rw [this, e.2.1]
    simp [Value.cells]
  · simp [madeCells, hj, Nat.mod_one]

end Go.Proofs.Ytfkcbioefdkabaa
