/- What follows for a made heap's objects: keys stand once, in records alone; a cell has one entry. · Both heaps of a world, and what holds of them. -/
import Derived.Test.YtimidonagbfjcaaGreatDoorK14
import Derived.Test.YtimidonagbfjcaaGreatDoorTCk
import Derived.Test.YtimidonagbfjcaaGreatDoorK13
import Derived.Test.YtimidonagbfjcaaGreatDoorK15
set_option linter.unusedSimpArgs false
set_option linter.unusedVariables false
namespace Go.Proofs.YtimidonagbfjcaaGreatDoor
open Go Go.RowKit

/-- Keys stand once, in records alone; a cell has one entry. -/
def Neat (H : AHeap) : Prop := ∀ o ∈ H.2, o.keys.Nodup ∧ (o.kind ≠ 3 → o.keys = []) ∧ (o.kind = 4 → o.vals.length = 1)

theorem plO_neat {n : Nat} {o : AObj} (h : mkOK o = true) (hs : pSound n (plO o) ≠ false) : (plO o).keys.Nodup ∧ ((plO o).kind ≠ 3 → (plO o).keys = []) ∧ ((plO o).kind = 4 → (plO o).vals.length = 1) := by
  have h4 : o.kind = 4 → o.vals.length = 1 := by
    intro e
    unfold mkOK at h
    rw [e] at h
    simpa using h
  have hk9 : o.kind ≤ 9 := by unfold mkOK at h; simp at h; omega
  revert hs
  unfold plO
  split
  · intro _; exact ⟨List.nodup_nil, fun _ => rfl, fun e => absurd e (by show ¬ (1 : Int) = 4; decide)⟩
  split
  · intro _; exact ⟨List.nodup_nil, fun _ => rfl, fun e => absurd e (by show ¬ (2 : Int) = 4; decide)⟩
  split
  · intro hs
    refine ⟨?_, fun e => absurd rfl e, fun e => absurd e (by show ¬ (3 : Int) = 4; decide)⟩
    have hs' : pSound n (oRec o.keys o.vals) = true := by simpa using hs
    simp only [pSound, oRec, AObj.kind, AObj.keys, AObj.vals, if_pos, Bool.and_eq_true, decide_eq_true_eq] at hs'
    exact of_decide_eq_true hs'.1.2
  split
  · rename_i e
    intro _; exact ⟨List.nodup_nil, fun _ => rfl, fun _ => h4 e⟩
  split
  · intro _; exact ⟨List.nodup_nil, fun _ => rfl, fun e => absurd e (by show ¬ (5 : Int) = 4; decide)⟩
  split
  · intro _; exact ⟨List.nodup_nil, fun _ => rfl, fun e => absurd e (by show ¬ (6 : Int) = 4; decide)⟩
  · rename_i n4 _ _
    intro _; exact ⟨List.nodup_nil, fun _ => rfl, fun e => absurd e n4⟩

theorem Neat.mk {H : AHeap} (h : Neat H) (o : AObj) : Neat (mkH H o) := by
  unfold mkH
  split
  · rename_i hok
    unfold aMakeH
    split
    · rename_i he
      intro x hx
      rcases List.mem_append.1 hx with hx | hx
      · exact h x hx
      · rw [List.mem_singleton] at hx
        subst hx
        refine plO_neat (n := H.2.length) hok (fun hs => ?_)
        unfold aMakeE at he
        rw [if_pos hs] at he
        split at he <;> simp at he
    · exact h
  · exact h

theorem Neat.wr {H : AHeap} (h : Neat H) (x : Int × Int × Int) (hU : U x.1) : Neat (wrH H x) := by
  unfold wrH aSetH
  split
  · rename_i hc
    intro o ho
    rcases List.mem_or_eq_of_mem_set ho with ho | ho
    · exact h o ho
    · subst ho
      have hm := (ob_mem (H := H) hU (by omega)).1
      obtain ⟨h1, h2, h3⟩ := h (ob H x.1) hm
      refine ⟨h1, h2, fun e => ?_⟩
      have := h3 e
      show ((ob H x.1).vals.set x.2.1.toNat x.2.2).length = 1
      simpa using this
  · exact h

theorem foldl_neat : ∀ (Os : List AObj) (H : AHeap), Neat H → Neat (Os.foldl mkH H)
  | [], H, h => h
  | o :: r, H, h => foldl_neat r _ (h.mk o)

theorem foldl_neatW : ∀ (Ws : List (Int × Int × Int)) (H : AHeap), (∀ x ∈ Ws, U x.1) → Neat H → Neat (Ws.foldl wrH H)
  | [], H, _, h => h
  | x :: r, H, hu, h => foldl_neatW r _ (fun y hy => hu y (List.mem_cons_of_mem _ hy)) (h.wr x (hu x (List.mem_cons_self ..)))

theorem made_neat {Os : List AObj} {Ws : List (Int × Int × Int)} (hu : ∀ x ∈ Ws, U x.1) : Neat (madeH Os Ws) :=
  foldl_neatW Ws _ hu (foldl_neat Os _ (fun o ho => by simp at ho))

end Go.Proofs.YtimidonagbfjcaaGreatDoor

set_option linter.unusedSimpArgs false
set_option linter.unusedVariables false
namespace Go.Proofs.YtimidonagbfjcaaGreatDoor
open Go Go.RowKit

theorem OU.bw {w w' : World} {o : AObj} {vb vv vk : Value} (h : OU w o vb vv vk) (hb : Bw w w') : OU w' o vb vv vk :=
  ⟨h.ol.below hb, h.u, h.b, h.m1, h.m2, h.m3, h.ks, h.nn, h.nr, h.ni⟩

theorem WU.bw {w w' : World} {ao aw : Option Addr} {Os : List AObj} {Ws : List (Int × Int × Int)} (h : WU w ao aw Os Ws) (hb : Bw w w') : WU w' ao aw Os Ws := by
  refine ⟨fun i hi => ?_, fun i hi => ?_⟩
  · obtain ⟨b, off, x, e, hlt, hc, ho⟩ := h.1 i hi
    exact ⟨b, off, x, e, Nat.lt_of_lt_of_le hlt hb.size, fun j hj => (cell_bw4 hb hlt).trans (hc j hj), ho.bw hb⟩
  · obtain ⟨b, off, e, hlt, c0, c1, c2, hu⟩ := h.2 i hi
    exact ⟨b, off, e, Nat.lt_of_lt_of_le hlt hb.size, (cell_bw4 hb hlt).trans c0, (cell_bw4 hb hlt).trans c1, (cell_bw4 hb hlt).trans c2, hu⟩

theorem WU.us {w : World} {ao aw : Option Addr} {Os : List AObj} {Ws : List (Int × Int × Int)} (h : WU w ao aw Os Ws) : ∀ x ∈ Ws, U x.1 := by
  intro x hx
  obtain ⟨i, hi, rfl⟩ := List.getElem_of_mem hx
  obtain ⟨b, off, e, hlt, c0, c1, c2, hu⟩ := h.2 i hi
  exact hu.1

/-- Both heaps of a world that is not too much, and what holds of them. -/
theorem made_all {ao aw : Option Addr} {co cw : Nat} {Os : List AObj} {Ws : List (Int × Int × Int)} {w : World} (hw : WU w ao aw Os Ws) (hm : muchW Os Ws = false) :
    Bare (madeH Os Ws) ∧ Neat (madeH Os Ws) ∧ ∀ w1, Bw w w1 → Calls Tryz.prog 9 #[.agg #[.slice ao Os.length co, .slice aw Ws.length cw]] w1 fun e w' => ∃ b0 bs ar cr, e = .returned (.tuple #[.pointer (some ⟨b0, 0, none⟩), .agg #[.int .i64 (madeH Os Ws).1, .slice ar (madeH Os Ws).2.length cr]]) ∧ HS w' b0 (madeH Os Ws) bs ∧ RdH w' (fun b => b ∉ bs) (.agg #[.int .i64 (madeH Os Ws).1, .slice ar (madeH Os Ws).2.length cr]) (madeH Os Ws) ∧ Bw w1 w' ∧ ∀ b ∈ bs, w1.heap.size ≤ b := by
  have h30 := much_no4 hm
  have hwr : ∀ w1, Bw w w1 → WR w1 ao aw Os Ws := fun w1 hb => (hw.bw hb).wr hm
  refine ⟨made_bare hw.us, made_neat hw.us, fun w1 hb => ?_⟩
  · refine (made_any ao aw co cw Os Ws w1 (hwr w1 hb) (by omega) (by omega)).mono fun e w' ⟨b0, bs, va, he, hs, hr, hb', hl⟩ => ?_
    obtain ⟨ar, cr, ev⟩ := hr.parts
    have ev' : va = .slice ar (madeH Os Ws).2.length cr := by simpa using ev
    subst ev'
    exact ⟨b0, bs, ar, cr, he, hs, hr, hb', hl⟩

/-- The numbers and the keys of all objects are such. -/
def Sane (H : AHeap) : Prop := ∀ o ∈ H.2, N3 o ∧ ∀ s ∈ o.keys, s.size ≤ 1000000000

theorem plO_sane {o : AObj} (hk : mkOK o = true) (hn : -9223372036854775808 ≤ o.num ∧ o.num ≤ 9223372036854775807) (hr : U o.re) (hi : U o.im) (hs : ∀ s ∈ o.keys, s.size ≤ 1000000000) : N3 (plO o) ∧ ∀ s ∈ (plO o).keys, s.size ≤ 1000000000 := by
  have hk9 : 1 ≤ o.kind ∧ o.kind ≤ 9 := by unfold mkOK at hk; simp at hk; omega
  have u0 : U 0 := ⟨by decide, by decide⟩
  have n0 : (-9223372036854775808 : Int) ≤ 0 ∧ (0 : Int) ≤ 9223372036854775807 := by decide
  refine ⟨⟨?_, ?_, ?_, ?_⟩, ?_⟩
  · unfold plO; repeat' split
    all_goals first | exact n0 | exact hn
  · unfold plO; repeat' split
    all_goals first | exact u0 | exact hr
  · unfold plO; repeat' split
    all_goals first | exact u0 | exact hi
  · rw [plO_kind]; exact hk9
  · unfold plO; repeat' split
    all_goals first | exact hs | (intro s h; simp [oStr, oArr, oFun, oCplx, oItem, AObj.keys] at h)

theorem Sane.mk {H : AHeap} (h : Sane H) (o : AObj) (hn : -9223372036854775808 ≤ o.num ∧ o.num ≤ 9223372036854775807) (hr : U o.re) (hi : U o.im) (hs : ∀ s ∈ o.keys, s.size ≤ 1000000000) : Sane (mkH H o) := by
  unfold mkH
  split
  · rename_i hk
    unfold aMakeH
    split
    · intro x hx
      rcases List.mem_append.1 hx with hx | hx
      · exact h x hx
      · rw [List.mem_singleton] at hx; subst hx; exact plO_sane hk hn hr hi hs
    · exact h
  · exact h

theorem Sane.wr {H : AHeap} (h : Sane H) (x : Int × Int × Int) (hU : U x.1) : Sane (wrH H x) := by
  unfold wrH aSetH
  split
  · rename_i hc
    intro o ho
    rcases List.mem_or_eq_of_mem_set ho with ho | ho
    · exact h o ho
    · subst ho
      have hm := (ob_mem (H := H) hU (by omega)).1
      exact h (ob H x.1) hm
  · exact h

theorem foldl_sane : ∀ (Os : List AObj) (H : AHeap), (∀ o ∈ Os, (-9223372036854775808 ≤ o.num ∧ o.num ≤ 9223372036854775807) ∧ U o.re ∧ U o.im ∧ ∀ s ∈ o.keys, s.size ≤ 1000000000) → Sane H → Sane (Os.foldl mkH H)
  | [], H, _, h => h
  | o :: r, H, hu, h => foldl_sane r _ (fun y hy => hu y (List.mem_cons_of_mem _ hy)) (by obtain ⟨h1, h2, h3, h4⟩ := hu o (List.mem_cons_self ..); exact h.mk o h1 h2 h3 h4)

theorem foldl_saneW : ∀ (Ws : List (Int × Int × Int)) (H : AHeap), (∀ x ∈ Ws, U x.1) → Sane H → Sane (Ws.foldl wrH H)
  | [], H, _, h => h
  | x :: r, H, hu, h => foldl_saneW r _ (fun y hy => hu y (List.mem_cons_of_mem _ hy)) (h.wr x (hu x (List.mem_cons_self ..)))

theorem made_sane {w : World} {ao aw : Option Addr} {Os : List AObj} {Ws : List (Int × Int × Int)} (hw : WU w ao aw Os Ws) (hm : muchW Os Ws = false) : Sane (madeH Os Ws) := by
  refine foldl_saneW Ws _ hw.us (foldl_sane Os _ (fun o ho => ?_) (fun o ho => by simp at ho))
  have hg := big_no ((much_no4 hm).2.2 _ ho)
  obtain ⟨i, hi, rfl⟩ := List.getElem_of_mem ho
  obtain ⟨b, off, x, e, hlt, hc, hou⟩ := hw.1 i hi
  exact ⟨hou.nn, hou.nr, hou.ni, fun s hs => by have := hg.2.2.2 s hs; omega⟩

theorem mkH_cap (H : AHeap) (o : AObj) (h : H.1 = 100 ∧ (H.2.length : Int) ≤ 100) : (mkH H o).1 = 100 ∧ ((mkH H o).2.length : Int) ≤ 100 := by
  unfold mkH
  split
  · unfold aMakeH aMakeE
    repeat' split
    all_goals first
      | exact h
      | (refine ⟨h.1, ?_⟩; simp only [List.length_append, List.length_singleton]; omega)
      | (rename_i h1 h2; exact absurd h2 (by decide))
      | skip
  · exact h

end Go.Proofs.YtimidonagbfjcaaGreatDoor

