/- While a value is shown: the heap, the shower, its map, the text, each in blocks of its own; from one world to the next. -/
import Derived.Test.YtgfdbhbkmjabcabGreatDoorSG
import Derived.Test.YtgfdbhbkmjabcabGreatDoorSM
set_option linter.unusedSimpArgs false
set_option linter.unusedVariables false
namespace Go.Proofs.YtgfdbhbkmjabcabGreatDoor
open Go Go.RowKit

/-- What one is within in memory: the map. -/
abbrev Wi (w : World) (mb : Nat) (W : List Int) : Prop := MW Tryz.prog 23 3 w mb W

/-- The text in memory: the closure's variable, a row of the call's own. -/
def Tx (w : World) (bt base : Nat) (xs : List Value) : Prop := ∃ t, Blk w bt #[t] 34 ∧ w.ownsRow base 5 1 t xs.length xs

/-- The heap H at b0 (its blocks bs), the shower at sb, its map at mb, the text's variable at bt; all below base but what the text's row is. -/
structure SI (w : World) (b0 : Nat) (H : AHeap) (bs : List Nat) (sb mb bt base : Nat) (W : List Int) (xs : List Value) : Prop where
  hs : HS w b0 H bs
  lo : ∀ k ∈ bs, k < base ∧ k ≠ mb ∧ k ≠ bt
  sbn : sb < base ∧ sb ≠ mb ∧ sb ≠ bt
  mbn : mb < base ∧ mb ≠ bt
  btn : bt < base
  top : base ≤ w.heap.size
  sh : Blk w sb (shv b0 mb bt) 48
  mp : Wi w mb W
  tx : Tx w bt base xs

/-- From one world to the next while something is shown. -/
structure St (mb bt base : Nat) (w w' : World) : Prop where
  os : w'.os = w.os
  tape : w'.tape = w.tape
  output : w'.output = w.output
  size : w.heap.size ≤ w'.heap.size
  block : ∀ b, b < base → b ≠ mb → b ≠ bt → w'.heap[b]? = w.heap[b]?

theorem St.refl (mb bt base : Nat) (w : World) : St mb bt base w w := ⟨rfl, rfl, rfl, Nat.le_refl _, fun _ _ _ _ => rfl⟩
theorem St.trans {mb bt base : Nat} {a b c : World} (h : St mb bt base a b) (k : St mb bt base b c) : St mb bt base a c :=
  ⟨k.os.trans h.os, k.tape.trans h.tape, k.output.trans h.output, Nat.le_trans h.size k.size, fun x h1 h2 h3 => (k.block x h1 h2 h3).trans (h.block x h1 h2 h3)⟩
theorem St.bw {mb bt base : Nat} {w w' : World} (h : Bw w w') (hb : base ≤ w.heap.size) : St mb bt base w w' :=
  ⟨h.os, h.tape, h.output, h.size, fun x h1 _ _ => h.block x (by omega)⟩

theorem SI.next {w w' : World} {b0 : Nat} {H : AHeap} {bs : List Nat} {sb mb bt base : Nat} {W W' : List Int} {xs xs' : List Value} (h : SI w b0 H bs sb mb bt base W xs)
    (hst : St mb bt base w w') (hm : Wi w' mb W') (ht : Tx w' bt base xs') : SI w' b0 H bs sb mb bt base W' xs' where
  hs := by
    obtain ⟨vo, t, hp, e⟩ := h.hs
    exact ⟨vo, t, hp.same (fun k hk => by have := h.lo k (by rw [e]; exact hk); exact hst.block k this.1 this.2.1 this.2.2), e⟩
  lo := h.lo
  sbn := h.sbn
  mbn := h.mbn
  btn := h.btn
  top := Nat.le_trans h.top hst.size
  sh := h.sh.keep (hst.block sb h.sbn.1 h.sbn.2.1 h.sbn.2.2)
  mp := hm
  tx := ht

theorem SI.bw {w w' : World} {b0 : Nat} {H : AHeap} {bs : List Nat} {sb mb bt base : Nat} {W : List Int} {xs : List Value} (h : SI w b0 H bs sb mb bt base W xs) (hb : Bw w w') : SI w' b0 H bs sb mb bt base W xs :=
  h.next (St.bw hb h.top) (h.mp.keep (hb.block mb h.mp.lt)) (by obtain ⟨t, h1, h2⟩ := h.tx; exact ⟨t, h1.bw hb, own_bw h2 hb⟩)

theorem SI.st {w w' : World} {b0 : Nat} {H : AHeap} {bs : List Nat} {sb mb bt base : Nat} {W : List Int} {xs : List Value} (h : SI w b0 H bs sb mb bt base W xs) (hb : Bw w w') : St mb bt base w w' := St.bw hb h.top

theorem SI.c0 {w : World} {b0 : Nat} {H : AHeap} {bs : List Nat} {sb mb bt base : Nat} {W : List Int} {xs : List Value} (h : SI w b0 H bs sb mb bt base W xs) : w.cell? ⟨sb, 0, none⟩ = some (.pointer (some ⟨b0, 0, none⟩)) := h.sh.cell 0
theorem SI.c1 {w : World} {b0 : Nat} {H : AHeap} {bs : List Nat} {sb mb bt base : Nat} {W : List Int} {xs : List Value} (h : SI w b0 H bs sb mb bt base W xs) : w.cell? ⟨sb, 1, none⟩ = some (.map (some mb)) := h.sh.cell 1
theorem SI.c2 {w : World} {b0 : Nat} {H : AHeap} {bs : List Nat} {sb mb bt base : Nat} {W : List Int} {xs : List Value} (h : SI w b0 H bs sb mb bt base W xs) : w.cell? ⟨sb, 2, none⟩ = some (.func (.func 11) #[] #[.pointer (some ⟨bt, 0, none⟩)]) := h.sh.cell 2

/-- A piece is put behind the text. -/
theorem put_si (s : ByteArray) {w : World} {b0 : Nat} {H : AHeap} {bs : List Nat} {sb mb bt base : Nat} {W : List Int} {xs : List Value} (h : SI w b0 H bs sb mb bt base W xs) (hr : xs.length + s.size ≤ 65536) :
    Calls Tryz.prog 11 #[.string s, .pointer (some ⟨bt, 0, none⟩)] w fun e w' => e = .returned (.bool true) ∧ SI w' b0 H bs sb mb bt base W (xs ++ Lib.strCells s) ∧ St mb bt base w w' := by
  obtain ⟨t, hB, ho⟩ := h.tx
  refine (put_any s bt base xs t w hB ho (by omega) (by omega) h.top).mono ?_
  intro e w' hc
  rcases hc with hc | ⟨_, he, v', w1, how, hg, hw', hb1⟩
  · exact absurd hc.1 (by omega)
  · have hst1 : ∀ b, b < base → w1.heap[b]? = w.heap[b]? := fun b hb => hg.block b (Nat.lt_of_lt_of_le hb h.top) (fun k => by have := (ho.lt b k.symm).1; omega)
    have hst : St mb bt base w w' := by
      rw [hw']
      exact ⟨hg.os, hg.tape, hg.output, by simpa [World.setCell] using hg.size, fun b h1 _ h3 => (Below.heap_setCell w1 ⟨bt, 0, none⟩ v' b h3).trans (hst1 b h1)⟩
    refine ⟨he, h.next hst ?_ ?_, hst⟩
    · refine h.mp.keep ?_
      rw [hw']
      exact (Below.heap_setCell w1 ⟨bt, 0, none⟩ v' mb h.mbn.2).trans (hst1 mb h.mbn.1)
    · refine ⟨v', ?_, ?_⟩
      · rw [hw']; exact hb1.set 0 v'
      · rw [hw', List.length_append, Lib.strCells_length]
        refine own_same how (fun k hk => Below.heap_setCell w1 ⟨bt, 0, none⟩ v' k (fun e => ?_))
        have h1 := (how.lt k hk).1
        have h2 := h.btn
        have e' : k = bt := e
        omega

/-- What is put between two. -/
def btw (i : Nat) : List Value := if i = 0 then [] else [.int .u8 44, .int .u8 32]

/-- What a row of words looks like, f saying it of one. -/
def lks (f : Int → Option (List Value)) : Nat → List Int → Option (List Value)
  | _, [] => some []
  | i, x :: r => match f x, lks f (i + 1) r with
    | some a, some b => some (btw i ++ a ++ b)
    | _, _ => none

/-- What a word looks like, pl saying it of words without parts, it of how far up (records, cells: not yet). -/
def lk (H : AHeap) (pl : Int → Option ByteArray) (it : Nat → Option ByteArray) : Nat → List Int → Int → Option (List Value)
  | 0, _, _ => none
  | n + 1, W, v =>
    if (kk H v == 2 || kk H v == 3 || kk H v == 4) = true then
      if v ∈ W then (it (W.length - W.idxOf v)).map (fun s => Lib.strCells (⟨#[94]⟩ ++ s))
      else if kk H v = 2 then (lks (lk H pl it n (W ++ [v])) 0 (ob H v).vals).map (fun t => [.int .u8 91] ++ t ++ [.int .u8 93])
      else none
    else (pl v).map Lib.strCells

end Go.Proofs.YtgfdbhbkmjabcabGreatDoor
