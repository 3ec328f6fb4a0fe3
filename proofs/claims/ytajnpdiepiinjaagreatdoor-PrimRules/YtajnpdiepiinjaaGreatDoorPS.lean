/- The program's heap as one thing, and its blocks; from one world to the next. Nothing of the program's calls is in it. -/
import Derived.Test.YtajnpdiepiinjaaGreatDoorPF
set_option linter.unusedSimpArgs false
set_option linter.unusedVariables false
namespace Go.Proofs.YtajnpdiepiinjaaGreatDoor
open Go Go.RowKit

/-- The block b0 is a heap of the program that reads as H, in the blocks bs. -/
def HS (w : World) (b0 : Nat) (H : AHeap) (bs : List Nat) : Prop := ∃ vo t, PH w b0 H vo t ∧ bs = hbs b0 vo t
/-- From one world to the next: only these blocks may turn; the heap's blocks then are of them, or new. -/
def Nx (bs : List Nat) (w w' : World) (bs' : List Nat) : Prop := Fr bs w w' ∧ ∀ b ∈ bs', b ∈ bs ∨ w.heap.size ≤ b

theorem Nx.trans {a b c : World} {bs bs1 bs2 : List Nat} (h : Nx bs a b bs1) (k : Nx bs1 b c bs2) : Nx bs a c bs2 :=
  ⟨h.1.trans k.1 h.2, fun x hx => (k.2 x hx).elim (fun hm => h.2 x hm) (fun hh => .inr (Nat.le_trans h.1.size hh))⟩
theorem Bw.nx {a b : World} (h : Bw a b) (bs : List Nat) : Nx bs a b bs := ⟨h.fr bs, fun x hx => .inl hx⟩
theorem Ly.nx {a b : World} (h : Ly a b) (bs : List Nat) : Nx bs a b bs := h.bw.nx bs
theorem Bw.nxBefore {a b c : World} {bs bs' : List Nat} (h : Bw a b) (k : Nx bs b c bs') : Nx bs a c bs' := (h.nx bs).trans k
theorem HS.bw {w w' : World} {b0 : Nat} {H : AHeap} {bs : List Nat} (h : HS w b0 H bs) (hb : Bw w w') : HS w' b0 H bs := by
  obtain ⟨vo, t, h, rfl⟩ := h
  exact ⟨vo, t, h.bw hb, rfl⟩
theorem HS.ly {w w' : World} {b0 : Nat} {H : AHeap} {bs : List Nat} (h : HS w b0 H bs) (hb : Ly w w') : HS w' b0 H bs := h.bw hb.bw
theorem HS.lt {w : World} {b0 : Nat} {H : AHeap} {bs : List Nat} (h : HS w b0 H bs) {k : Nat} (hk : k ∈ bs) : k < w.heap.size := by
  obtain ⟨vo, t, h, rfl⟩ := h
  exact h.lt hk
theorem HS.ok {w : World} {b0 : Nat} {H : AHeap} {bs : List Nat} (h : HS w b0 H bs) : HOK H := by
  obtain ⟨vo, t, h, rfl⟩ := h
  exact h.ok
theorem HS.most {w : World} {b0 : Nat} {H : AHeap} {bs : List Nat} (h : HS w b0 H bs) : (H.2.length : Int) ≤ H.1 ∧ H.1 ≤ 65536 := by
  obtain ⟨vo, t, h, rfl⟩ := h
  exact ⟨h.most, h.top⟩
theorem HS.fr {w w' : World} {b0 : Nat} {H : AHeap} {bs bs' : List Nat} (h : HS w b0 H bs) (hb : Fr bs' w w') (hd : ∀ k ∈ bs, k ∉ bs') : HS w' b0 H bs := by
  obtain ⟨vo, t, h, rfl⟩ := h
  exact ⟨vo, t, h.fr hb hd, rfl⟩

/-- The object of a word, where it lies. -/
theorem PH.obj {w : World} {b0 : Nat} {H : AHeap} {vo : Value} {t : List (Value × Value × Value)} (h : PH w b0 H vo t) {v : Int} (hU : U v) (hk : kk H v ≠ 0) :
    ∃ g cap xb xk xl, vo = .slice (some ⟨g, 0, none⟩) H.2.length cap ∧ t[(idxV v).toNat]? = some (xb, xk, xl) ∧ PL w (ob H v) (xb, xk, xl) ∧ g < w.heap.size ∧ (idxV v).toNat < H.2.length ∧
      w.cell? ⟨g, (idxV v).toNat * 7, none⟩ = some (.int .i64 (kk H v)) ∧ w.cell? ⟨g, (idxV v).toNat * 7 + 1, none⟩ = some xb ∧ w.cell? ⟨g, (idxV v).toNat * 7 + 2, none⟩ = some xk ∧ w.cell? ⟨g, (idxV v).toNat * 7 + 3, none⟩ = some xl ∧
      w.cell? ⟨g, (idxV v).toNat * 7 + 4, none⟩ = some (.int .i64 (ob H v).num) ∧ w.cell? ⟨g, (idxV v).toNat * 7 + 5, none⟩ = some (.int .u64 (ob H v).re) ∧ w.cell? ⟨g, (idxV v).toNat * 7 + 6, none⟩ = some (.int .u64 (ob H v).im) ∧
      (∀ j, w.frozen? ⟨g, j, none⟩ = false) := by
  have hkr := kk_ref hk
  obtain ⟨hg, _⟩ := ob_get (H := H) hU hkr.2.1
  have hl : (idxV v).toNat < H.2.length := (List.getElem?_eq_some_iff.1 hg).1
  obtain ⟨g, cap, ⟨xb, xk, xl⟩, e, hx, hgs, hc, hf⟩ := h.at hl
  have ho : H.2[(idxV v).toNat] = ob H v := by
    have := List.getElem?_eq_getElem hl
    rw [hg] at this
    exact (Option.some.inj this).symm
  rw [ho] at hc
  rw [hkr.2.2]
  exact ⟨g, cap, xb, xk, xl, e, hx, h.ls _ _ _ hg hx, hgs, hl, hc 0 (by omega), hc 1 (by omega), hc 2 (by omega), hc 3 (by omega), hc 4 (by omega), hc 5 (by omega), hc 6 (by omega), hf⟩

/-- A list of ints that was just laid. -/
theorem sl_new (w : World) (l : List Value) (e : TypeId) (n : Nat) (hn : l.length = n) : Sl (w.alloc (.cells l.toArray e)) (fun _ => True) (.slice (some ⟨w.heap.size, 0, none⟩) n n) n 1 l := by
  refine ⟨by omega, _, n, rfl, ⟨Nat.le_refl _, fun h => by cases h⟩, .inr ⟨_, 0, rfl, by simp, trivial, fun i hi => ?_⟩⟩
  have h := heap_alloc_new w (.cells l.toArray e)
  rw [cell_of_row _ _ _ _ _ _ h]
  simp

end Go.Proofs.YtajnpdiepiinjaaGreatDoor
