/- Worlds as plain data: objects that are made one by one, entries that are written behind; both heaps while they are made. · How a world, as the statements draw them, is opened: for their frames. -/
import Derived.Test.YtjcoifdfemejkaaGreatDoorSZk
import Derived.Test.YtjcoifdfemejkaaGreatDoorR3Mk
import Derived.Test.YtjcoifdfemejkaaGreatDoorPQk
import Derived.Test.YtjcoifdfemejkaaGreatDoorM11
set_option linter.unusedSimpArgs false
set_option linter.unusedVariables false
namespace Go.Proofs.YtjcoifdfemejkaaGreatDoor
open Go Go.RowKit

theorem plO_kind (o : AObj) : (plO o).kind = o.kind := by
  unfold plO
  repeat' split
  all_goals first | rfl | (rename_i h; exact h.symm) | (rename_i h _; exact h.symm)

theorem plO_long (o : AObj) (h : mkOK o = true) : aLong (plO o) = pLong (plO o) := by
  have hk : 1 ≤ o.kind ∧ o.kind ≤ 9 := by unfold mkOK at h; simp at h; omega
  unfold plO
  split
  · simp [aLong, pLong, oStr, AObj.kind, AObj.bytes, AObj.vals, AObj.keys]
  split
  · simp [aLong, pLong, oArr, AObj.kind, AObj.bytes, AObj.vals, AObj.keys]
  split
  · simp [aLong, pLong, oRec, AObj.kind, AObj.bytes, AObj.vals, AObj.keys]
  split
  · simp [aLong, pLong, AObj.kind, AObj.bytes, AObj.vals, AObj.keys]
  split
  · simp [aLong, pLong, oFun, AObj.kind, AObj.bytes, AObj.vals, AObj.keys]
  split
  · simp [aLong, pLong, oCplx, AObj.kind, AObj.bytes, AObj.vals, AObj.keys]
  · have hk3 : o.kind = 7 ∨ o.kind = 8 ∨ o.kind = 9 := by omega
    rcases hk3 with e | e | e <;> rw [e] <;> simp [aLong, pLong, oItem, AObj.kind, AObj.bytes, AObj.vals, AObj.keys]

theorem plO_right (n : Nat) (o : AObj) (h : mkOK o = true) : aRight n (plO o) = pSound n (plO o) := by
  have hk : 1 ≤ o.kind ∧ o.kind ≤ 9 := by unfold mkOK at h; simp at h; omega
  unfold plO
  split
  · simp [aRight, pSound, oStr, AObj.kind, AObj.bytes, AObj.vals, AObj.keys, AObj.num]
  split
  · simp [aRight, pSound, oArr, AObj.kind, AObj.bytes, AObj.vals, AObj.keys, AObj.num]
  split
  · simp only [aRight, pSound, oRec, AObj.kind, AObj.bytes, AObj.vals, AObj.keys, AObj.num]
    by_cases hl : o.2.2.2.1.length = o.2.2.1.length
    · simp [hl, Bool.and_comm]
    · have : (o.2.2.2.1.length : Int) ≠ (o.2.2.1.length : Int) := by omega
      simp [hl, this]
  split
  · simp [aRight, pSound, AObj.kind, AObj.bytes, AObj.vals, AObj.keys, AObj.num]
  split
  · simp [aRight, pSound, oFun, AObj.kind, AObj.bytes, AObj.vals, AObj.keys, AObj.num]
  split
  · simp [aRight, pSound, oCplx, AObj.kind, AObj.bytes, AObj.vals, AObj.keys, AObj.num]
  · have hk3 : o.kind = 7 ∨ o.kind = 8 ∨ o.kind = 9 := by omega
    rcases hk3 with e | e | e <;> rw [e] <;> simp [aRight, pSound, oItem, AObj.kind, AObj.bytes, AObj.vals, AObj.keys, AObj.num]

/-- The document makes of it what the program makes. -/
theorem mkH_doc (H : AHeap) (o : AObj) (h : mkOK o = true) : dMakeH H (plO o) = mkH H o := by
  unfold mkH dMakeH aMakeH dMakeE aMakeE
  rw [if_pos h, plO_long o h, plO_right _ o h]

theorem mkH_no (H : AHeap) (o : AObj) (h : mkOK o = false) : mkH H o = H := by unfold mkH; rw [if_neg (by simp [h])]

/-- What an entry that is written behind makes of a heap. -/
def wrH (H : AHeap) (x : Int × Int × Int) : AHeap := aSetH H x.1 x.2.1 x.2.2

/-- The heap of a world. -/
def madeH (Os : List AObj) (Ws : List (Int × Int × Int)) : AHeap := Ws.foldl wrH (Os.foldl mkH (100, []))

/-- A world as a value: lists of objects and of entries, in blocks of which G holds. -/
def WR (w : World) (ao aw : Option Addr) (Os : List AObj) (Ws : List (Int × Int × Int)) : Prop :=
  (∀ i (hi : i < Os.length), ∃ (b off : Nat) (x : Value × Value × Value), ao = some ⟨b, off, none⟩ ∧ b < w.heap.size ∧ (∀ j, j < 7 → w.cell? ⟨b, off + (i * 7 + j), none⟩ = (ocells Os[i] x.1 x.2.1 x.2.2)[j]?) ∧ OW w (fun _ => True) Os[i] x.1 x.2.1 x.2.2) ∧
  (∀ i (hi : i < Ws.length), ∃ b off, aw = some ⟨b, off, none⟩ ∧ b < w.heap.size ∧ w.cell? ⟨b, off + i * 3, none⟩ = some (.int .u64 Ws[i].1) ∧ w.cell? ⟨b, off + i * 3 + 1, none⟩ = some (.int .i64 Ws[i].2.1) ∧ w.cell? ⟨b, off + i * 3 + 2, none⟩ = some (.int .u64 Ws[i].2.2) ∧ U Ws[i].1 ∧ U Ws[i].2.2)

theorem OW.since {w w' : World} {o : AObj} {vb vv vk : Value} {N : Nat} (h : OW w (fun b => b < N) o vb vv vk) (hb : Bw w w') : OW w' (fun b => b < N) o vb vv vk := h.below hb

/-- While both heaps are made: the program's (Hp, at b0, its blocks bs), the document's (Hr, in the variable b6), the world's own box b1, the result's variable b3. -/
structure MI (w wr : World) (b0 b1 b3 b6 : Nat) (vo vw : Value) (Hp Hr : AHeap) (bs : List Nat) (va : Value) : Prop where
  hs : HS wr b0 Hp bs
  bw : Bw w wr
  lo : ∀ b ∈ bs, w.heap.size ≤ b
  n1 : b1 ∉ bs ∧ b3 ∉ bs ∧ b6 ∉ bs
  d : b1 ≠ b3 ∧ b1 ≠ b6 ∧ b3 ≠ b6
  g : w.heap.size ≤ b1 ∧ w.heap.size ≤ b3 ∧ w.heap.size ≤ b6
  k1 : Blk wr b1 #[vo, vw] 25
  k3 : Blk wr b3 #[.int .i64 0, .slice none 0 0] 32
  k6 : Blk wr b6 #[.int .i64 Hr.1, va] 32
  rd : RdH wr (fun b => b ∉ bs ∧ b ≠ b6 ∧ b ≠ b3) (.agg #[.int .i64 Hr.1, va]) Hr
  ok : HOK Hr
  le : Hr.2.length ≤ 65536

theorem MI.prog {w wr w' : World} {b0 b1 b3 b6 : Nat} {vo vw : Value} {Hp Hp' Hr : AHeap} {bs bs' : List Nat} {va : Value} (h : MI w wr b0 b1 b3 b6 vo vw Hp Hr bs va) (hs : HS w' b0 Hp' bs') (hn : Nx bs wr w' bs') : MI w w' b0 b1 b3 b6 vo vw Hp' Hr bs' va where
  hs := hs
  bw := hn.1.below h.bw h.bw.size h.lo
  lo := fun b hb => (hn.2 b hb).elim (h.lo b) (fun hh => Nat.le_trans h.bw.size hh)
  n1 := ⟨fun hm => (hn.2 _ hm).elim h.n1.1 (fun hh => by have := h.k1.lt; omega), fun hm => (hn.2 _ hm).elim h.n1.2.1 (fun hh => by have := h.k3.lt; omega), fun hm => (hn.2 _ hm).elim h.n1.2.2 (fun hh => by have := h.k6.lt; omega)⟩
  d := h.d
  g := h.g
  k1 := h.k1.keep (hn.1.block _ h.k1.lt h.n1.1)
  k3 := h.k3.keep (hn.1.block _ h.k3.lt h.n1.2.1)
  k6 := h.k6.keep (hn.1.block _ h.k6.lt h.n1.2.2)
  rd := h.rd.keep hn.1.size (fun b hb hg => hn.1.block b hb hg.1) (fun b hb hg => ⟨fun hm => (hn.2 b hm).elim hg.1 (fun hh => by omega), hg.2⟩)
  ok := h.ok
  le := h.le

theorem MI.below {w wr w' : World} {b0 b1 b3 b6 : Nat} {vo vw : Value} {Hp Hr : AHeap} {bs : List Nat} {va : Value} (h : MI w wr b0 b1 b3 b6 vo vw Hp Hr bs va) (hb : Bw wr w') : MI w w' b0 b1 b3 b6 vo vw Hp Hr bs va :=
  h.prog (h.hs.bw hb) (hb.nx bs)

theorem MI.ref {w wr w' : World} {b0 b1 b3 b6 : Nat} {vo vw : Value} {Hp Hr Hr' : AHeap} {bs : List Nat} {va va' : Value} (h : MI w wr b0 b1 b3 b6 vo vw Hp Hr bs va) (hb : Bw wr w') (hr : RdH w' (fun b => b ∉ bs ∧ b ≠ b6 ∧ b ≠ b3) (.agg #[.int .i64 Hr'.1, va']) Hr') (hok : HOK Hr') (hle : Hr'.2.length ≤ 65536) :
    MI w ((w'.setCell ⟨b6, 0, none⟩ (.int .i64 Hr'.1)).setCell ⟨b6, 1, none⟩ va') b0 b1 b3 b6 vo vw Hp Hr' bs va' := by
  have h1 := h.below hb
  have hk : ∀ b, b ≠ b6 → ((w'.setCell ⟨b6, 0, none⟩ (.int .i64 Hr'.1)).setCell ⟨b6, 1, none⟩ va').heap[b]? = w'.heap[b]? := fun b hne =>
    (Below.heap_setCell _ ⟨b6, 1, none⟩ va' b hne).trans (Below.heap_setCell w' ⟨b6, 0, none⟩ _ b hne)
  have hz : w'.heap.size ≤ ((w'.setCell ⟨b6, 0, none⟩ (.int .i64 Hr'.1)).setCell ⟨b6, 1, none⟩ va').heap.size := by simp [World.setCell]
  refine ⟨?_, (h1.bw.setCell (p := ⟨b6, 0, none⟩) h.g.2.2 _).setCell (p := ⟨b6, 1, none⟩) h.g.2.2 _, h.lo, h.n1, h.d, h.g, h1.k1.keep (hk b1 h.d.2.1), h1.k3.keep (hk b3 h.d.2.2), (h1.k6.set 0 _).set 1 _, hr.keep hz (fun b hb hg => hk b hg.2.1) (fun b hb hg => hg), hok, hle⟩
  obtain ⟨vo', t, hp, e⟩ := h1.hs
  exact ⟨vo', t, hp.same (fun k hk' => hk k (fun e' => h.n1.2.2 (by rw [e, ← e']; exact hk'))), e⟩

end Go.Proofs.YtjcoifdfemejkaaGreatDoor

set_option linter.unusedVariables false
set_option linter.unusedSimpArgs false
namespace Go.Proofs.YtjcoifdfemejkaaGreatDoor
open Go.ChangeShapes Go.WideShapes Go.ChangeAt Go.RowKit

theorem c4B : Tryz.prog.cellsOf 5 = 1 := by kernel_rfl
theorem c4S : Tryz.prog.cellsOf 9 = 1 := by kernel_rfl
theorem c4V : Tryz.prog.cellsOf 27 = 1 := by kernel_rfl
theorem c4I : Tryz.prog.cellsOf 3 = 1 := by kernel_rfl
theorem c4U : Tryz.prog.cellsOf 26 = 1 := by kernel_rfl
theorem c4Bs : Tryz.prog.cellsOf 46 = 1 := by kernel_rfl
theorem c4Vs : Tryz.prog.cellsOf 47 = 1 := by kernel_rfl
theorem c4Ss : Tryz.prog.cellsOf 48 = 1 := by kernel_rfl
theorem c4O : Tryz.prog.cellsOf 50 = 7 := by kernel_rfl
theorem c4W : Tryz.prog.cellsOf 68 = 3 := by kernel_rfl
theorem c4Os : Tryz.prog.cellsOf 22 = 1 := by kernel_rfl
theorem c4Ws : Tryz.prog.cellsOf 23 = 1 := by kernel_rfl
theorem c4T : Tryz.prog.cellsOf 25 = 2 := by kernel_rfl
theorem u4I : Tryz.prog.underlying 3 = some (.int .i64) := by kernel_rfl
theorem u4U : Tryz.prog.underlying 26 = some (.int .u64) := by kernel_rfl
theorem u4V : Tryz.prog.underlying 27 = some (.int .u64) := by kernel_rfl
theorem u4B : Tryz.prog.underlying 5 = some (.int .u8) := by kernel_rfl
theorem u4S : Tryz.prog.underlying 9 = some .string := by kernel_rfl

theorem trod_bytes4 {H : Type} {enc : TypeId × Value → H} {w : World} {fuel : Nat} {cs : List Value} {x : DataW H × List MemPlace} (h : DataW.trod enc Tryz.prog w 0 (fun _ => true) true fuel 46 cs = some x) :
    ∃ (v : Value) (l : List Int), cs = [v] ∧ Sl w (fun _ => True) v l.length 1 (l.map (Value.int .u8)) ∧ (∀ a ∈ l, 0 ≤ a ∧ a ≤ 255) ∧ l.length ≤ maxLen :=
  trod_list (Value.int .u8) (fun a => 0 ≤ a ∧ a ≤ 255) Tryz.underlying46 c4B (fun n cs x h => by
    obtain ⟨a, rfl, _, wa⟩ := DataW.trod_int u4B h
    exact ⟨a, rfl, bounds_u8 wa⟩) h
theorem trod_strs4 {H : Type} {enc : TypeId × Value → H} {w : World} {fuel : Nat} {cs : List Value} {x : DataW H × List MemPlace} (h : DataW.trod enc Tryz.prog w 0 (fun _ => true) true fuel 48 cs = some x) :
    ∃ (v : Value) (l : List ByteArray), cs = [v] ∧ Sl w (fun _ => True) v l.length 1 (l.map Value.string) ∧ (∀ a ∈ l, a.size ≤ maxLen) ∧ l.length ≤ maxLen :=
  trod_list Value.string (fun a => a.size ≤ maxLen) Tryz.underlying48 c4S (fun n cs x h => by
    obtain ⟨a, rfl, _, wa⟩ := DataW.trod_string u4S h
    exact ⟨a, rfl, wa⟩) h
theorem trod_vals4 {H : Type} {enc : TypeId × Value → H} {w : World} {fuel : Nat} {cs : List Value} {x : DataW H × List MemPlace} (h : DataW.trod enc Tryz.prog w 0 (fun _ => true) true fuel 47 cs = some x) :
    ∃ (v : Value) (l : List Int), cs = [v] ∧ Sl w (fun _ => True) v l.length 1 (l.map (Value.int .u64)) ∧ (∀ a ∈ l, U a) ∧ l.length ≤ maxLen :=
  trod_list (Value.int .u64) (fun a => U a) Tryz.underlying47 c4V (fun n cs x h => by
    obtain ⟨a, rfl, _, wa⟩ := DataW.trod_int u4V h
    exact ⟨a, rfl, by have := bounds_u64 wa; unfold U; omega⟩) h

/-- An object's lists as they were drawn. -/
structure OU (w : World) (o : AObj) (vb vv vk : Value) : Prop where
  ol : OL w (fun _ => True) o vb vv vk
  u : ∀ x ∈ o.vals, U x
  b : ∀ x ∈ o.bytes, 0 ≤ x ∧ x ≤ 255
  m1 : o.bytes.length ≤ maxLen
  m2 : o.vals.length ≤ maxLen
  m3 : o.keys.length ≤ maxLen
  ks : ∀ s ∈ o.keys, s.size ≤ maxLen
  nn : -9223372036854775808 ≤ o.num ∧ o.num ≤ 9223372036854775807
  nr : U o.re
  ni : U o.im

set_option maxRecDepth 100000 in
theorem trod_obj {H : Type} {enc : TypeId × Value → H} {w : World} {fuel : Nat} {cs : List Value} {y : DataW H × List MemPlace} (h : DataW.trod enc Tryz.prog w 0 (fun _ => true) true fuel 50 cs = some y) :
    ∃ (o : AObj) (x : Value × Value × Value), cs = ocells o x.1 x.2.1 x.2.2 ∧ OU w o x.1 x.2.1 x.2.2 := by
  obtain ⟨xs, n, _, _, hl, hlen, hf⟩ := DataW.trod_struct Tryz.underlying50 h
  rw [c4O] at hl
  match cs, hl with
  | [c0, c1, c2, c3, c4, c5, c6], _ =>
  have hl7 : xs.length = 7 := hlen
  match xs, hl7 with
  | [y0, y1, y2, y3, y4, y5, y6], _ =>
  obtain ⟨a0, e0, _, w0⟩ := DataW.trod_int u4I (hf 0 _ rfl)
  obtain ⟨v1, l1, e1, s1, b1, m1⟩ := trod_bytes4 (hf 1 _ rfl)
  obtain ⟨v2, l2, e2, s2, b2, m2⟩ := trod_vals4 (hf 2 _ rfl)
  obtain ⟨v3, l3, e3, s3, b3, m3⟩ := trod_strs4 (hf 3 _ rfl)
  obtain ⟨a4, e4, _, w4⟩ := DataW.trod_int u4I (hf 4 _ rfl)
  obtain ⟨a5, e5, _, w5⟩ := DataW.trod_int u4U (hf 5 _ rfl)
  obtain ⟨a6, e6, _, w6⟩ := DataW.trod_int u4U (hf 6 _ rfl)
  simp [c4I, c4U, c4S, c4Bs, c4Vs, c4Ss] at e0 e1 e2 e3 e4 e5 e6
  subst e0 e1 e2 e3 e4 e5 e6
  exact ⟨(a0, l1, l2, l3, a4, a5, a6), (c1, c2, c3), rfl, ⟨s1, s2, s3⟩, b2, b1, m1, m2, m3, b3, bounds_i64 w4, by have := bounds_u64 w5; show U a5; unfold U; omega, by have := bounds_u64 w6; show U a6; unfold U; omega⟩

set_option maxRecDepth 100000 in
theorem trod_write {H : Type} {enc : TypeId × Value → H} {w : World} {fuel : Nat} {cs : List Value} {y : DataW H × List MemPlace} (h : DataW.trod enc Tryz.prog w 0 (fun _ => true) true fuel 68 cs = some y) :
    ∃ x : Int × Int × Int, cs = [.int .u64 x.1, .int .i64 x.2.1, .int .u64 x.2.2] ∧ U x.1 ∧ U x.2.2 := by
  obtain ⟨xs, n, _, _, hl, hlen, hf⟩ := DataW.trod_struct Tryz.underlying68 h
  rw [c4W] at hl
  match cs, hl with
  | [c0, c1, c2], _ =>
  have hl3 : xs.length = 3 := hlen
  match xs, hl3 with
  | [y0, y1, y2], _ =>
  obtain ⟨a0, e0, _, w0⟩ := DataW.trod_int u4V (hf 0 _ rfl)
  obtain ⟨a1, e1, _, w1⟩ := DataW.trod_int u4I (hf 1 _ rfl)
  obtain ⟨a2, e2, _, w2⟩ := DataW.trod_int u4V (hf 2 _ rfl)
  simp [c4I, c4V] at e0 e1 e2
  subst e0 e1 e2
  have u0 : U a0 := by have := bounds_u64 w0; unfold U; omega
  have u2 : U a2 := by have := bounds_u64 w2; unfold U; omega
  exact ⟨(a0, a1, a2), rfl, u0, u2⟩

/-- A list of structs of 'size' cells each. -/
theorem trod_rows {α H : Type} {enc : TypeId × Value → H} {w : World} {T E : TypeId} {fuel size : Nat} {cs : List Value} {x : DataW H × List MemPlace} (mk : α → List Value) (ok : α → Prop) (hpos : 0 < size)
    (ht : Tryz.prog.underlying T = some (.slice E)) (hc : Tryz.prog.cellsOf E = size) (hmk : ∀ a, (mk a).length = size)
    (hel : ∀ n cs x, DataW.trod enc Tryz.prog w 0 (fun _ => true) true n E cs = some x → ∃ a, cs = mk a ∧ ok a)
    (h : DataW.trod enc Tryz.prog w 0 (fun _ => true) true fuel T cs = some x) :
    ∃ (a : Option Addr) (cap : Nat) (l : List α), cs = [.slice a l.length cap] ∧ l.length ≤ maxLen ∧ ∀ i (hi : i < l.length), ∃ b off, a = some ⟨b, off, none⟩ ∧ b < w.heap.size ∧ (∀ j, j < size → w.cell? ⟨b, off + (i * size + j), none⟩ = (mk l[i])[j]?) ∧ ok l[i] := by
  rcases DataW.trod_slice ht h with ⟨rfl, _⟩ | ⟨ad, len, cap, elems, rest, n, _, rfl, _, _, hl, hm, hlen, he, _, _⟩
  · exact ⟨none, 0, [], rfl, Nat.zero_le _, fun i hi => by simp at hi⟩
  · rw [hc] at he
    have key : ∀ i, i < len → ∃ q : α, (∀ j, j < size → w.cell? ((ad.add (i * size)).add j) = (mk q)[j]?) ∧ ok q := by
      intro i hi
      have h1 := he i hi
      obtain ⟨y, hy⟩ : ∃ y, elems[i]? = some y := ⟨_, List.getElem?_eq_getElem (by omega)⟩
      rw [hy, Option.bind_eq_some_iff] at h1
      obtain ⟨cs', hcs, htr⟩ := h1
      obtain ⟨a, rfl, hok⟩ := hel _ _ _ htr
      exact ⟨a, (World.cells?_some hcs).2.2, hok⟩
    obtain ⟨qs, hql, hq⟩ := list_of _ len key
    refine ⟨some ad, cap, qs, by rw [hql], by omega, fun i hi => ?_⟩
    obtain ⟨hc1, hok⟩ := hq i hi
    have hc0 := (hq 0 (by omega)).1 0 hpos
    obtain ⟨b, off, spot⟩ := ad
    obtain ⟨v0, hv0⟩ : ∃ v0, (mk (qs[0]'(by omega)))[0]? = some v0 := ⟨(mk (qs[0]'(by omega)))[0]'(by rw [hmk]; exact hpos), List.getElem?_eq_getElem _⟩
    have hsome : w.cell? ⟨b, off, spot⟩ = some v0 := by
      rw [hv0] at hc0
      simpa [Addr.add] using hc0
    have hspot : spot = none := World.cell?_spot hsome
    subst hspot
    have hlt : b < w.heap.size := World.block_lt_of_cell? w _ hsome
    have e1 : ∀ k j, ((⟨b, off, none⟩ : Addr).add k).add j = ⟨b, off + (k + j), none⟩ := by
      intro k j
      simp [Addr.add]
      split <;> split <;> simp_all <;> omega
    exact ⟨b, off, rfl, hlt, fun j hj => by rw [← e1, hc1 j hj], hok⟩

/-- A world as it was drawn. -/
def WU (w : World) (ao aw : Option Addr) (Os : List AObj) (Ws : List (Int × Int × Int)) : Prop :=
  (∀ i (hi : i < Os.length), ∃ (b off : Nat) (x : Value × Value × Value), ao = some ⟨b, off, none⟩ ∧ b < w.heap.size ∧ (∀ j, j < 7 → w.cell? ⟨b, off + (i * 7 + j), none⟩ = (ocells Os[i] x.1 x.2.1 x.2.2)[j]?) ∧ OU w Os[i] x.1 x.2.1 x.2.2) ∧
  (∀ i (hi : i < Ws.length), ∃ b off, aw = some ⟨b, off, none⟩ ∧ b < w.heap.size ∧ w.cell? ⟨b, off + i * 3, none⟩ = some (.int .u64 Ws[i].1) ∧ w.cell? ⟨b, off + i * 3 + 1, none⟩ = some (.int .i64 Ws[i].2.1) ∧ w.cell? ⟨b, off + i * 3 + 2, none⟩ = some (.int .u64 Ws[i].2.2) ∧ U Ws[i].1 ∧ U Ws[i].2.2)

set_option maxRecDepth 100000 in
theorem open_world {H : Type} {enc : TypeId × Value → H} {W : World} {base : Nat} {v : Value} {d : DataW H} {ps : List MemPlace}
    (hval : Value.okWide Tryz.prog W .any base 25 v) (h : DataW.Trod enc Tryz.prog W 0 (fun _ => true) true 25 v d ps) :
    ∃ ao aw co cw Os Ws, v = .agg #[.slice ao (Os : List AObj).length co, .slice aw (Ws : List (Int × Int × Int)).length cw] ∧ Os.length ≤ maxLen ∧ Ws.length ≤ maxLen ∧ WU W ao aw Os Ws := by
  obtain ⟨cs, rfl, hsz⟩ := okWide_struct Tryz.underlying25 hval
  obtain ⟨fuel, hf⟩ := h
  obtain ⟨xs, n, _, _, hl, hlen, hfl⟩ := DataW.trod_struct Tryz.underlying25 hf
  rw [c4T] at hl
  have hl2 : xs.length = 2 := hlen
  match xs, hl2 with
  | [y0, y1], _ =>
  obtain ⟨l⟩ := cs
  have hcs : (Value.agg l.toArray).cells.toList = l := by simp [Value.cells]
  simp only [hcs] at hl hfl
  match l, hl with
  | [k0, k1], _ =>
  obtain ⟨a0, c0, q0, e0, m0, h0⟩ := trod_rows (size := 7) (fun (q : AObj × (Value × Value × Value)) => ocells q.1 q.2.1 q.2.2.1 q.2.2.2) (fun q => OU W q.1 q.2.1 q.2.2.1 q.2.2.2) (by decide) Tryz.underlying22 c4O (fun q => rfl) (fun n cs x h => by
    obtain ⟨o, x, e, ho⟩ := trod_obj h
    exact ⟨(o, x), e, ho⟩) (hfl 0 _ rfl)
  obtain ⟨a1, c1, q1, e1, m1, h1⟩ := trod_rows (size := 3) (fun (x : Int × Int × Int) => [.int .u64 x.1, .int .i64 x.2.1, .int .u64 x.2.2]) (fun x => U x.1 ∧ U x.2.2) (by decide) Tryz.underlying23 c4W (fun q => rfl) (fun n cs x h => trod_write h) (hfl 1 _ rfl)
  simp [c4Os, c4Ws] at e0 e1
  subst e0 e1
  refine ⟨a0, a1, c0, c1, q0.map Prod.fst, q1, by simp, by simpa using m0, m1, fun i hi => ?_, fun i hi => ?_⟩
  · have hi' : i < q0.length := by simpa using hi
    obtain ⟨b, off, ea, hb, hc, hok⟩ := h0 i hi'
    exact ⟨b, off, q0[i].2, ea, hb, fun j hj => by rw [hc j hj]; simp, by simpa using hok⟩
  · obtain ⟨b, off, ea, hb, hc, hu⟩ := h1 i hi
    exact ⟨b, off, ea, hb, hc 0 (by decide), hc 1 (by decide), hc 2 (by decide), hu⟩

end Go.Proofs.YtjcoifdfemejkaaGreatDoor

