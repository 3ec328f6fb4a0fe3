/- What the hot ones are: each hot enough, in order. -/
import Derived.Test.YtfkcbioefdkabaaFr
set_option linter.unusedVariables false
set_option linter.unusedSimpArgs false
namespace Go.Proofs.Ytfkcbioefdkabaa
open Go Go.RowKit

theorem cell_bw {w w' : World} {b i : Nat} {v : Value} (h : Bw w w') (hb : b < w.heap.size) (hc : w.cell? ⟨b, i, none⟩ = some v) : w'.cell? ⟨b, i, none⟩ = some v :=
  (World.cell?_of_block (w := w) (w' := w') (a := ⟨b, i, none⟩) (h.block b hb)).trans hc

theorem tellL_len (F G : Nat) (L : List AA) (x : AA) : (tellL F G L x).length ≤ L.length + 1 := by
  unfold tellL
  split
  · simp
  · omega

theorem hots_nodup (hs : Nat → Int) (least : Int) (F : Nat) : (hots hs least F).Nodup := by
  unfold hots
  refine List.Pairwise.filter _ ?_
  refine List.Pairwise.map _ ?_ (List.nodup_range (n := F))
  intro a b h e
  simp only [Prod.mk.injEq] at e
  exact h (by omega)

theorem sort_nodup (hs : Nat → Int) (least : Int) (F : Nat) : (sortH (hots hs least F)).Nodup := (sortH_perm _).nodup_iff.2 (hots_nodup hs least F)

/-- The hot one at a place. -/
theorem hot_at (hs : Nat → Int) (least : Int) (F : Nat) {k : Nat} (hk : k < (hotL hs least F).length) :
    ∃ i : Nat, i < F ∧ (hotL hs least F)[k] = i ∧ 0 < hs i ∧ least ≤ hs i ∧ (sortH (hots hs least F))[k]? = some ((i : Int), hs i) := by
  have hk2 : k < (sortH (hots hs least F)).length := by simpa [hotL] using hk
  have hm : (sortH (hots hs least F))[k] ∈ hots hs least F := (sortH_perm _).mem_iff.1 (List.getElem_mem hk2)
  obtain ⟨i, hi, e, h1, h2⟩ := mem_hots.1 hm
  refine ⟨i, hi, ?_, h1, h2, ?_⟩
  · simp only [hotL, List.getElem_map]
    rw [e]
  · rw [List.getElem?_eq_getElem hk2, e]

theorem hot_pair (hs : Nat → Int) (least : Int) (F : Nat) {k i j : Nat} (h1 : (sortH (hots hs least F))[k]? = some ((i : Int), hs i)) (h2 : (sortH (hots hs least F))[k + 1]? = some ((j : Int), hs j)) : hs j ≤ hs i ∧ (hs i = hs j → i < j) := by
  obtain ⟨l1, e1⟩ := List.getElem?_eq_some_iff.1 h1
  obtain ⟨l2, e2⟩ := List.getElem?_eq_some_iff.1 h2
  have ho := List.pairwise_iff_getElem.1 (sortH_ord (hots hs least F)) k (k + 1) l1 l2 (by omega)
  rw [e1, e2] at ho
  have hn := List.pairwise_iff_getElem.1 (sort_nodup hs least F) k (k + 1) l1 l2 (by omega)
  rw [e1, e2] at hn
  unfold ahd at ho
  simp at ho
  refine ⟨by omega, fun he => ?_⟩
  have hij : i ≠ j := fun e => hn (by rw [e])
  have := ho.2 he.symm
  omega

end Go.Proofs.Ytfkcbioefdkabaa
