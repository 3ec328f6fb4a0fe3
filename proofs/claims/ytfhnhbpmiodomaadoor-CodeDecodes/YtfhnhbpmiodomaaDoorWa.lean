/- The writer in memory; a byte, a text, a number are written: contracts. -/
import Derived.Test.YtfhnhbpmiodomaaDoorDa
import Derived.Test.YtfhnhbpmiodomaaDoorCb
import Derived.Test.YtfhnhbpmiodomaaDoorAp
import Derived.Lib.AppendStr
import Derived.Laws.EntriesVeiled
set_option linter.unusedSimpArgs false
set_option linter.unusedVariables false
namespace Go.Proofs.YtfhnhbpmiodomaaDoor
open Go Go.RowKit

/-- Of what was there only the block r, and rows of bytes from base on, may have turned. -/
structure Wk (base r : Nat) (w w' : World) : Prop where
  os : w'.os = w.os
  tape : w'.tape = w.tape
  output : w'.output = w.output
  size : w.heap.size ≤ w'.heap.size
  block : ∀ k, k < w.heap.size → k ≠ r → (k < base ∨ ∀ cur z, w.heap[k]? ≠ some (.cells cur 5 z)) → w'.heap[k]? = w.heap[k]?

theorem Wk.refl (base r : Nat) (w : World) : Wk base r w w := ⟨rfl, rfl, rfl, Nat.le_refl _, fun _ _ _ _ => rfl⟩
theorem Wk.trans {base r : Nat} {a b c : World} (h : Wk base r a b) (g : Wk base r b c) : Wk base r a c :=
  ⟨g.os.trans h.os, g.tape.trans h.tape, g.output.trans h.output, Nat.le_trans h.size g.size, fun k hk hr hc => by
    have e := h.block k hk hr hc
    exact (g.block k (Nat.lt_of_lt_of_le hk h.size) hr (by rw [e]; exact hc)).trans e⟩
theorem Wk.of_bw {base r : Nat} {a b : World} (g : Bw a b) : Wk base r a b := ⟨g.os, g.tape, g.output, g.size, fun k hk _ _ => g.block k hk⟩
theorem Wk.bw {base r : Nat} {a b c : World} (h : Wk base r a b) (g : Bw b c) : Wk base r a c := h.trans (Wk.of_bw g)
theorem Wk.set {base r : Nat} {a b : World} (h : Wk base r a b) (j : Nat) (v : Value) : Wk base r a (b.setCell ⟨r, j, none⟩ v) :=
  h.trans ⟨rfl, rfl, rfl, by simp [World.setCell], fun k hk hr _ => Below.heap_setCell b ⟨r, j, none⟩ v k hr⟩
theorem Wk.grown {base r : Nat} {a b c : World} {v : Value} {n : Nat} {xs : List Value} (h : Wk base r a b) (ho : b.ownsRow base 5 1 v n xs) (g : b.grownBy c v.ownBlock) : Wk base r a c :=
  h.trans ⟨g.os, g.tape, g.output, g.size, fun k hk _ hc => g.block k hk (fun e => by
    rcases ho.2 with ⟨rfl, _⟩ | ⟨g', cap', cur', rfl, hb, hg', _⟩
    · cases e
    · simp only [Value.ownBlock, Option.some.injEq] at e
      subst e
      rcases hc with hc | hc
      · omega
      · exact hc _ _ hg')⟩
/-- Where all is new. -/
theorem Wk.toBw {r : Nat} {a b : World} (h : Wk a.heap.size r a b) (hr : a.heap.size ≤ r) : Bw a b := ⟨h.os, h.tape, h.output, h.size, fun k hk => h.block k hk (by omega) (.inl hk)⟩
theorem Blk.wk {w w' : World} {base r g : Nat} {cur : Array Value} {e : TypeId} (h : Blk w g cur e) (k : Wk base r w w') (he : e ≠ 5) (hg : g ≠ r) : Blk w' g cur e :=
  h.keep (k.block g h.lt hg (.inr (fun c z hc => by
    have h' : w.heap[g]? = some (.cells cur e (0, 0)) := h
    rw [h'] at hc
    simp only [Option.some.injEq, Obj.cells.injEq] at hc
    exact he hc.2.1)))
theorem blk_ne {w : World} {g r : Nat} {cur cur' : Array Value} {e e' : TypeId} (h : Blk w g cur e) (h' : Blk w r cur' e') (he : e ≠ e') : g ≠ r := by
  rintro rfl
  have h1 : w.heap[g]? = some (.cells cur e (0, 0)) := h
  have h2 : w.heap[g]? = some (.cells cur' e' (0, 0)) := h'
  rw [h1] at h2
  simp only [Option.some.injEq, Obj.cells.injEq] at h2
  exact he h2.2.1

/-- The writer in memory: what it has written, and whether all numbers may be. -/
structure WB (base : Nat) (w : World) (r : Nat) (bs : List Int) (ok : Bool) : Prop where
  ex : ∃ v, Blk w r #[v, .bool (!ok), .bool false] 55 ∧ w.ownsRow base 5 1 v bs.length (bs.map (Value.int .u8))
  len : bs.length ≤ 4194304
  base : base ≤ r
  bytes : ∀ c ∈ bs, 0 ≤ c ∧ c ≤ 255

theorem WB.lt {base : Nat} {w : World} {r : Nat} {bs : List Int} {ok : Bool} (h : WB base w r bs ok) : r < w.heap.size := by
  obtain ⟨v, hb, _⟩ := h.ex
  exact hb.lt

theorem WB.bw {base : Nat} {w w' : World} {r : Nat} {bs : List Int} {ok : Bool} (h : WB base w r bs ok) (hb : Bw w w') : WB base w' r bs ok := by
  obtain ⟨v, h1, h2⟩ := h.ex
  exact ⟨⟨v, h1.bw hb, h2.kept (row := none) ⟨hb.os, hb.tape, hb.output, hb.size, fun k hk _ => hb.block k hk⟩ (by cases v.ownBlock <;> simp)⟩, h.len, h.base, h.bytes⟩

theorem WB.to {base : Nat} {w : World} {r : Nat} {bs bs' : List Int} {ok ok' : Bool} (h : WB base w r bs ok) (e : bs = bs') (f : ok = ok') : WB base w r bs' ok' := by
  subst e f
  exact h

theorem under22 : Tryd.prog.underlying 29 = some (.slice 5) := by kernel_rfl
theorem under5 : Tryd.prog.underlying 5 = some (.int .u8) := by kernel_rfl
theorem under9 : Tryd.prog.underlying 9 = some .string := by kernel_rfl

theorem map_snoc8 (l : List Int) (c : Int) : l.map (Value.int .u8) ++ [.int .u8 c] = (l ++ [c]).map (Value.int .u8) := by simp

section
variable {base r : Nat} {w : World} {bs : List Int} {ok : Bool}

set_option maxRecDepth 100000 in
set_option maxHeartbeats 4000000 in
theorem put_any (c : Int) (h : WB base w r bs ok) (hc : 0 ≤ c ∧ c ≤ 255) (hl : bs.length < 4194304) :
    Calls Tryd.prog 58 #[.pointer (some ⟨r, 0, none⟩), .int .u8 c] w fun e w' => (∃ v, e = .returned v) ∧ WB base w' r (bs ++ [c]) ok ∧ Wk base r w w' := by
  have HW := hid h
  obtain ⟨v, hB, ho⟩ := h.ex
  obtain ⟨a, cap, rfl⟩ := own_form ho
  obtain ⟨i1, hi1, hz1, hs1, hy1⟩ := info_parts infoU8
  have I1 := hid (And.intro hi1 (And.intro hz1 (And.intro hs1 hy1)))
  have z := hB.cell
  have zf := hB.free
  have zl := hB.lt
  have HB := hid hB
  have HO := hid ho
  have HL := hid hl
  have HC := hid hc
  have hlt : ((bs.length : Int) == 4194304) = false := by simp; omega
  have HBA := hid h.base
  clear hB ho hi1 hz1 hs1 hy1 h hl hc
  go_enter Tryd.func58, Tryd.ntmps58
  go_wp2_with (first
    | (at_builtin; refine wpList_append_own _ rfl _ _ 29 rfl base 5 i1 (.int .u8 0) 1 1 under22 I1.out.1 I1.out.2.1 I1.out.2.2.1 I1.out.2.2.2 rfl (by decide) (.slice a bs.length cap) bs.length (bs.map (Value.int .u8)) rfl (HO.out.alloc _) ⟨w.heap.size, 0, none⟩ 1 1 [.int .u8 c] rfl rfl ?c1 ?c2 ?c3 ?c4 ?c5 ?_)
    | fail)
  case c1 =>
    intro j u hj
    match j, hj with
    | 0, hj => simp at hj; subst hj; simp [Addr.add, go_sem]
  case c2 => intro u hu; simp at hu; subst hu; rfl
  case c3 => have := HL.out; unfold maxLen; omega
  case c4 => have := HL.out; omega
  case c5 => have := HBA.out; simp only [World.size_alloc]; omega
  intro v' w1 hown hgr _
  obtain ⟨av', cv', e⟩ := own_form hown
  subst e
  have b1 := Blk.grownOwn (HB.out.alloc _) (HO.out.alloc _) (by decide) hgr
  have z1 := b1.cell
  have z1f := b1.free
  have z1l := b1.lt
  have HB1 := hid b1
  rw [map_snoc8] at hown
  have HO1 := hid hown
  have HK := hid (((Wk.refl base r w).bw (Bw.alloc (Bw.refl w) _)).grown (HO.out.alloc _) hgr)
  clear b1 hown hgr
  go_wp2
  all_goals go_end0
  refine ⟨⟨_, rfl⟩, ⟨⟨_, by simpa using HB1.out.set 0 _, ?_⟩, by have := HL.out; simp; omega, HBA.out, ?_⟩, HK.out.set 0 _⟩
  · have hn := own_not HO1.out HB1.out (by decide)
    refine World.ownsRow.kept (by simpa using HO1.out) (grown_set _ _ _ _) ?_
    rcases hn with hn | hn
    · exact .inl hn
    · exact .inr hn
  · intro x hx
    rcases List.mem_append.1 hx with hx | hx
    · exact HW.out.bytes x hx
    · simp at hx; rw [hx]; exact HC.out

end

end Go.Proofs.YtfhnhbpmiodomaaDoor
