/- What follows for a world that is no more than is asked: its bounds; its heap's objects. · What follows for a made heap's objects: keys stand once, in records alone; a cell has one entry. -/
import Derived.Test.YtlhgdknmgdohkaaGreatDoorTCk
import Derived.Test.YtlhgdknmgdohkaaGreatDoorTEk
set_option linter.unusedSimpArgs false
set_option linter.unusedVariables false
namespace Go.Proofs.YtlhgdknmgdohkaaGreatDoor
open Go Go.RowKit

theorem big_no {o : AObj} (h : bigO o = false) : o.bytes.length ≤ 100 ∧ o.vals.length ≤ 12 ∧ o.keys.length ≤ 12 ∧ ∀ s ∈ o.keys, s.size ≤ 50 := by
  unfold bigO at h
  simp only [Bool.or_eq_false_iff, decide_eq_false_iff_not, List.any_eq_false] at h
  obtain ⟨⟨⟨h1, h2⟩, h3⟩, h4⟩ := h
  exact ⟨by omega, by omega, by omega, fun s hs => by have := h4 s hs; simp at this; omega⟩

theorem much_no4 {Os : List AObj} {Ws : List (Int × Int × Int)} (h : muchW Os Ws = false) : Os.length ≤ 30 ∧ Ws.length ≤ 30 ∧ ∀ o ∈ Os, bigO o = false := by
  unfold muchW at h
  simp only [Bool.or_eq_false_iff, decide_eq_false_iff_not, List.any_eq_false] at h
  obtain ⟨⟨h1, h2⟩, h3⟩ := h
  exact ⟨by omega, by omega, fun o ho => by have := h3 o ho; simpa using this⟩

theorem WU.wr {w : World} {ao aw : Option Addr} {Os : List AObj} {Ws : List (Int × Int × Int)} (h : WU w ao aw Os Ws) (hm : muchW Os Ws = false) : WR w ao aw Os Ws := by
  refine ⟨fun i hi => ?_, h.2⟩
  obtain ⟨b, off, x, e, hb, hc, ho⟩ := h.1 i hi
  have hg := big_no ((much_no4 hm).2.2 _ (List.getElem_mem hi))
  exact ⟨b, off, x, e, hb, hc, ho.ol, ho.u, ho.b, by omega, by omega, by omega⟩

theorem Bare.mk {H : AHeap} (h : Bare H) (o : AObj) : Bare (mkH H o) := by
  unfold mkH
  split
  · unfold aMakeH
    split
    · intro x hx hk
      rcases List.mem_append.1 hx with hx | hx
      · exact h x hx hk
      · rw [List.mem_singleton] at hx
        subst hx
        revert hk
        unfold plO
        repeat' split
        all_goals first | (intro _; exact ⟨rfl, rfl⟩) | (intro hk; exact absurd rfl hk)
    · exact h
  · exact h

theorem Bare.wr {H : AHeap} (h : Bare H) (x : Int × Int × Int) (hU : U x.1) : Bare (wrH H x) := by
  unfold wrH aSetH
  split
  · rename_i hc
    intro o ho hk
    rcases List.mem_or_eq_of_mem_set ho with ho | ho
    · exact h o ho hk
    · subst ho
      have hm := (ob_mem (H := H) hU (by omega)).1
      exact h (ob H x.1) hm hk
  · exact h

theorem foldl_bare : ∀ (Os : List AObj) (H : AHeap), Bare H → Bare (Os.foldl mkH H)
  | [], H, h => h
  | o :: r, H, h => foldl_bare r _ (h.mk o)

theorem foldl_bareW : ∀ (Ws : List (Int × Int × Int)) (H : AHeap), (∀ x ∈ Ws, U x.1) → Bare H → Bare (Ws.foldl wrH H)
  | [], H, _, h => h
  | x :: r, H, hu, h => foldl_bareW r _ (fun y hy => hu y (List.mem_cons_of_mem _ hy)) (h.wr x (hu x (List.mem_cons_self ..)))

theorem made_bare {Os : List AObj} {Ws : List (Int × Int × Int)} (hu : ∀ x ∈ Ws, U x.1) : Bare (madeH Os Ws) :=
  foldl_bareW Ws _ hu (foldl_bare Os _ (fun o ho => by simp at ho))

end Go.Proofs.YtlhgdknmgdohkaaGreatDoor

set_option linter.unusedSimpArgs false
set_option linter.unusedVariables false
namespace Go.Proofs.YtlhgdknmgdohkaaGreatDoor
open Go Go.RowKit

/-- Keys stand once, in records alone; a cell has one entry. -/
def Neat (H : AHeap) : Prop := ∀ o ∈ H.2, o.keys.Nodup ∧ (o.kind ≠ 3 → o.keys = []) ∧ (o.kind = 4 → o.vals.length = 1)

theorem plO_neat {n : Nat} {o : AObj} (h : mkOK o = true) (hs : pSound n (plO o) ≠ false) : (plO o).keys.Nodup ∧ ((plO o).kind ≠ 3 → (plO o).keys = []) ∧ ((plO o).kind = 4 → (plO o).vals.length = 1) := by
  have h4 : o.kind = 4 → o.vals.length = 1 := by
    intro e
    unfold mkOK at h
    rw [e] at h
    simpa using h
  have hk9 : o.kind ≤ 9 := by unfold mkOK at h; simp at h; omega
  revert hs
  unfold plO
  split
  · intro _; exact ⟨List.nodup_nil, fun _ => rfl, fun e => absurd e (by show ¬ (1 : Int) = 4; decide)⟩
  split
  · intro _; exact ⟨List.nodup_nil, fun _ => rfl, fun e => absurd e (by show ¬ (2 : Int) = 4; decide)⟩
  split
  · intro hs
    refine ⟨?_, fun e => absurd rfl e, fun e => absurd e (by show ¬ (3 : Int) = 4; decide)⟩
    have hs' : pSound n (oRec o.keys o.vals) = true := by simpa using hs
    simp only [pSound, oRec, AObj.kind, AObj.keys, AObj.vals, if_pos, Bool.and_eq_true, decide_eq_true_eq] at hs'
    exact of_decide_eq_true hs'.1.2
  split
  · rename_i e
    intro _; exact ⟨List.nodup_nil, fun _ => rfl, fun _ => h4 e⟩
  split
  · intro _; exact ⟨List.nodup_nil, fun _ => rfl, fun e => absurd e (by show ¬ (5 : Int) = 4; decide)⟩
  split
  · intro _; exact ⟨List.nodup_nil, fun _ => rfl, fun e => absurd e (by show ¬ (6 : Int) = 4; decide)⟩
  · rename_i n4 _ _
    intro _; exact ⟨List.nodup_nil, fun _ => rfl, fun e => absurd e n4⟩

theorem Neat.mk {H : AHeap} (h : Neat H) (o : AObj) : Neat (mkH H o) := by
  unfold mkH
  split
  · rename_i hok
    unfold aMakeH
    split
    · rename_i he
      intro x hx
      rcases List.mem_append.1 hx with hx | hx
      · exact h x hx
      · rw [List.mem_singleton] at hx
        subst hx
        refine plO_neat (n := H.2.length) hok (fun hs => ?_)
        unfold aMakeE at he
        rw [if_pos hs] at he
        split at he <;> simp at he
    · exact h
  · exact h

theorem Neat.wr {H : AHeap} (h : Neat H) (x : Int × Int × Int) (hU : U x.1) : Neat (wrH H x) := by
  unfold wrH aSetH
  split
  · rename_i hc
    intro o ho
    rcases List.mem_or_eq_of_mem_set ho with ho | ho
    · exact h o ho
    · subst ho
      have hm := (ob_mem (H := H) hU (by omega)).1
      obtain ⟨h1, h2, h3⟩ := h (ob H x.1) hm
      refine ⟨h1, h2, fun e => ?_⟩
      have := h3 e
      show ((ob H x.1).vals.set x.2.1.toNat x.2.2).length = 1
      simpa using this
  · exact h

theorem foldl_neat : ∀ (Os : List AObj) (H : AHeap), Neat H → Neat (Os.foldl mkH H)
  | [], H, h => h
  | o :: r, H, h => foldl_neat r _ (h.mk o)

theorem foldl_neatW : ∀ (Ws : List (Int × Int × Int)) (H : AHeap), (∀ x ∈ Ws, U x.1) → Neat H → Neat (Ws.foldl wrH H)
  | [], H, _, h => h
  | x :: r, H, hu, h => foldl_neatW r _ (fun y hy => hu y (List.mem_cons_of_mem _ hy)) (h.wr x (hu x (List.mem_cons_self ..)))

theorem made_neat {Os : List AObj} {Ws : List (Int × Int × Int)} (hu : ∀ x ∈ Ws, U x.1) : Neat (madeH Os Ws) :=
  foldl_neatW Ws _ hu (foldl_neat Os _ (fun o ho => by simp at ho))

end Go.Proofs.YtlhgdknmgdohkaaGreatDoor

