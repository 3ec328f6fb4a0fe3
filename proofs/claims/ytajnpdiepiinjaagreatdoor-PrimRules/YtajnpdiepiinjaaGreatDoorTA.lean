/- Worlds as plain data: objects that are made one by one, entries that are written behind; both heaps while they are made. -/
import Derived.Test.YtajnpdiepiinjaaGreatDoorSZ
import Derived.Test.YtajnpdiepiinjaaGreatDoorR3M
import Derived.Test.YtajnpdiepiinjaaGreatDoorPQ
set_option linter.unusedSimpArgs false
set_option linter.unusedVariables false
namespace Go.Proofs.YtajnpdiepiinjaaGreatDoor
open Go Go.RowKit

theorem plO_kind (o : AObj) : (plO o).kind = o.kind := by
  unfold plO
  repeat' split
  all_goals first | rfl | (rename_i h; exact h.symm) | (rename_i h _; exact h.symm)

theorem plO_long (o : AObj) (h : mkOK o = true) : aLong (plO o) = pLong (plO o) := by
  have hk : 1 ≤ o.kind ∧ o.kind ≤ 9 := by unfold mkOK at h; simp at h; omega
  unfold plO
  split
  · simp [aLong, pLong, oStr, AObj.kind, AObj.bytes, AObj.vals, AObj.keys]
  split
  · simp [aLong, pLong, oArr, AObj.kind, AObj.bytes, AObj.vals, AObj.keys]
  split
  · simp [aLong, pLong, oRec, AObj.kind, AObj.bytes, AObj.vals, AObj.keys]
  split
  · simp [aLong, pLong, AObj.kind, AObj.bytes, AObj.vals, AObj.keys]
  split
  · simp [aLong, pLong, oFun, AObj.kind, AObj.bytes, AObj.vals, AObj.keys]
  split
  · simp [aLong, pLong, oCplx, AObj.kind, AObj.bytes, AObj.vals, AObj.keys]
  · have hk3 : o.kind = 7 ∨ o.kind = 8 ∨ o.kind = 9 := by omega
    rcases hk3 with e | e | e <;> rw [e] <;> simp [aLong, pLong, oItem, AObj.kind, AObj.bytes, AObj.vals, AObj.keys]

theorem plO_right (n : Nat) (o : AObj) (h : mkOK o = true) : aRight n (plO o) = pSound n (plO o) := by
  have hk : 1 ≤ o.kind ∧ o.kind ≤ 9 := by unfold mkOK at h; simp at h; omega
  unfold plO
  split
  · simp [aRight, pSound, oStr, AObj.kind, AObj.bytes, AObj.vals, AObj.keys, AObj.num]
  split
  · simp [aRight, pSound, oArr, AObj.kind, AObj.bytes, AObj.vals, AObj.keys, AObj.num]
  split
  · simp only [aRight, pSound, oRec, AObj.kind, AObj.bytes, AObj.vals, AObj.keys, AObj.num]
    by_cases hl : o.2.2.2.1.length = o.2.2.1.length
    · simp [hl, Bool.and_comm]
    · have : (o.2.2.2.1.length : Int) ≠ (o.2.2.1.length : Int) := by omega
      simp [hl, this]
  split
  · simp [aRight, pSound, AObj.kind, AObj.bytes, AObj.vals, AObj.keys, AObj.num]
  split
  · simp [aRight, pSound, oFun, AObj.kind, AObj.bytes, AObj.vals, AObj.keys, AObj.num]
  split
  · simp [aRight, pSound, oCplx, AObj.kind, AObj.bytes, AObj.vals, AObj.keys, AObj.num]
  · have hk3 : o.kind = 7 ∨ o.kind = 8 ∨ o.kind = 9 := by omega
    rcases hk3 with e | e | e <;> rw [e] <;> simp [aRight, pSound, oItem, AObj.kind, AObj.bytes, AObj.vals, AObj.keys, AObj.num]

/-- The document makes of it what the program makes. -/
theorem mkH_doc (H : AHeap) (o : AObj) (h : mkOK o = true) : dMakeH H (plO o) = mkH H o := by
  unfold mkH dMakeH aMakeH dMakeE aMakeE
  rw [if_pos h, plO_long o h, plO_right _ o h]

theorem mkH_no (H : AHeap) (o : AObj) (h : mkOK o = false) : mkH H o = H := by unfold mkH; rw [if_neg (by simp [h])]

/-- What an entry that is written behind makes of a heap. -/
def wrH (H : AHeap) (x : Int × Int × Int) : AHeap := aSetH H x.1 x.2.1 x.2.2

/-- The heap of a world. -/
def madeH (Os : List AObj) (Ws : List (Int × Int × Int)) : AHeap := Ws.foldl wrH (Os.foldl mkH (100, []))

/-- A world as a value: lists of objects and of entries, in blocks of which G holds. -/
def WR (w : World) (ao aw : Option Addr) (Os : List AObj) (Ws : List (Int × Int × Int)) : Prop :=
  (∀ i (hi : i < Os.length), ∃ (b off : Nat) (x : Value × Value × Value), ao = some ⟨b, off, none⟩ ∧ b < w.heap.size ∧ (∀ j, j < 7 → w.cell? ⟨b, off + (i * 7 + j), none⟩ = (ocells Os[i] x.1 x.2.1 x.2.2)[j]?) ∧ OW w (fun _ => True) Os[i] x.1 x.2.1 x.2.2) ∧
  (∀ i (hi : i < Ws.length), ∃ b off, aw = some ⟨b, off, none⟩ ∧ b < w.heap.size ∧ w.cell? ⟨b, off + i * 3, none⟩ = some (.int .u64 Ws[i].1) ∧ w.cell? ⟨b, off + i * 3 + 1, none⟩ = some (.int .i64 Ws[i].2.1) ∧ w.cell? ⟨b, off + i * 3 + 2, none⟩ = some (.int .u64 Ws[i].2.2) ∧ U Ws[i].1 ∧ U Ws[i].2.2)

theorem OW.since {w w' : World} {o : AObj} {vb vv vk : Value} {N : Nat} (h : OW w (fun b => b < N) o vb vv vk) (hb : Bw w w') : OW w' (fun b => b < N) o vb vv vk := h.below hb

/-- While both heaps are made: the program's (Hp, at b0, its blocks bs), the document's (Hr, in the variable b6), the world's own box b1, the result's variable b3. -/
structure MI (w wr : World) (b0 b1 b3 b6 : Nat) (vo vw : Value) (Hp Hr : AHeap) (bs : List Nat) (va : Value) : Prop where
  hs : HS wr b0 Hp bs
  bw : Bw w wr
  lo : ∀ b ∈ bs, w.heap.size ≤ b
  n1 : b1 ∉ bs ∧ b3 ∉ bs ∧ b6 ∉ bs
  d : b1 ≠ b3 ∧ b1 ≠ b6 ∧ b3 ≠ b6
  g : w.heap.size ≤ b1 ∧ w.heap.size ≤ b3 ∧ w.heap.size ≤ b6
  k1 : Blk wr b1 #[vo, vw] 25
  k3 : Blk wr b3 #[.int .i64 0, .slice none 0 0] 32
  k6 : Blk wr b6 #[.int .i64 Hr.1, va] 32
  rd : RdH wr (fun b => b ∉ bs ∧ b ≠ b6 ∧ b ≠ b3) (.agg #[.int .i64 Hr.1, va]) Hr
  ok : HOK Hr
  le : Hr.2.length ≤ 65536

theorem MI.prog {w wr w' : World} {b0 b1 b3 b6 : Nat} {vo vw : Value} {Hp Hp' Hr : AHeap} {bs bs' : List Nat} {va : Value} (h : MI w wr b0 b1 b3 b6 vo vw Hp Hr bs va) (hs : HS w' b0 Hp' bs') (hn : Nx bs wr w' bs') : MI w w' b0 b1 b3 b6 vo vw Hp' Hr bs' va where
  hs := hs
  bw := hn.1.below h.bw h.bw.size h.lo
  lo := fun b hb => (hn.2 b hb).elim (h.lo b) (fun hh => Nat.le_trans h.bw.size hh)
  n1 := ⟨fun hm => (hn.2 _ hm).elim h.n1.1 (fun hh => by have := h.k1.lt; omega), fun hm => (hn.2 _ hm).elim h.n1.2.1 (fun hh => by have := h.k3.lt; omega), fun hm => (hn.2 _ hm).elim h.n1.2.2 (fun hh => by have := h.k6.lt; omega)⟩
  d := h.d
  g := h.g
  k1 := h.k1.keep (hn.1.block _ h.k1.lt h.n1.1)
  k3 := h.k3.keep (hn.1.block _ h.k3.lt h.n1.2.1)
  k6 := h.k6.keep (hn.1.block _ h.k6.lt h.n1.2.2)
  rd := h.rd.keep hn.1.size (fun b hb hg => hn.1.block b hb hg.1) (fun b hb hg => ⟨fun hm => (hn.2 b hm).elim hg.1 (fun hh => by omega), hg.2⟩)
  ok := h.ok
  le := h.le

theorem MI.below {w wr w' : World} {b0 b1 b3 b6 : Nat} {vo vw : Value} {Hp Hr : AHeap} {bs : List Nat} {va : Value} (h : MI w wr b0 b1 b3 b6 vo vw Hp Hr bs va) (hb : Bw wr w') : MI w w' b0 b1 b3 b6 vo vw Hp Hr bs va :=
  h.prog (h.hs.bw hb) (hb.nx bs)

theorem MI.ref {w wr w' : World} {b0 b1 b3 b6 : Nat} {vo vw : Value} {Hp Hr Hr' : AHeap} {bs : List Nat} {va va' : Value} (h : MI w wr b0 b1 b3 b6 vo vw Hp Hr bs va) (hb : Bw wr w') (hr : RdH w' (fun b => b ∉ bs ∧ b ≠ b6 ∧ b ≠ b3) (.agg #[.int .i64 Hr'.1, va']) Hr') (hok : HOK Hr') (hle : Hr'.2.length ≤ 65536) :
    MI w ((w'.setCell ⟨b6, 0, none⟩ (.int .i64 Hr'.1)).setCell ⟨b6, 1, none⟩ va') b0 b1 b3 b6 vo vw Hp Hr' bs va' := by
  have h1 := h.below hb
  have hk : ∀ b, b ≠ b6 → ((w'.setCell ⟨b6, 0, none⟩ (.int .i64 Hr'.1)).setCell ⟨b6, 1, none⟩ va').heap[b]? = w'.heap[b]? := fun b hne =>
    (Below.heap_setCell _ ⟨b6, 1, none⟩ va' b hne).trans (Below.heap_setCell w' ⟨b6, 0, none⟩ _ b hne)
  have hz : w'.heap.size ≤ ((w'.setCell ⟨b6, 0, none⟩ (.int .i64 Hr'.1)).setCell ⟨b6, 1, none⟩ va').heap.size := by simp [World.setCell]
  refine ⟨?_, (h1.bw.setCell (p := ⟨b6, 0, none⟩) h.g.2.2 _).setCell (p := ⟨b6, 1, none⟩) h.g.2.2 _, h.lo, h.n1, h.d, h.g, h1.k1.keep (hk b1 h.d.2.1), h1.k3.keep (hk b3 h.d.2.2), (h1.k6.set 0 _).set 1 _, hr.keep hz (fun b hb hg => hk b hg.2.1) (fun b hb hg => hg), hok, hle⟩
  obtain ⟨vo', t, hp, e⟩ := h1.hs
  exact ⟨vo', t, hp.same (fun k hk' => hk k (fun e' => h.n1.2.2 (by rw [e, ← e']; exact hk'))), e⟩

end Go.Proofs.YtajnpdiepiinjaaGreatDoor
