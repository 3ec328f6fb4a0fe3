/- How a call, and a list of calls, as the statements draw them, are opened: for their frames. -/
import Derived.Test.YtjemhdepgeecjaaFo
set_option linter.unusedVariables false
set_option linter.unusedSimpArgs false
namespace Go.Proofs.Ytjemhdepgeecjaa
open Go.ChangeShapes Go.WideShapes Go.ChangeAt Go.RowKit

theorem cellsB : Try.prog.cellsOf 5 = 1 := by kernel_rfl
theorem cellsS : Try.prog.cellsOf 9 = 1 := by kernel_rfl
theorem underB : Try.prog.underlying 5 = some (.int .u8) := by kernel_rfl
theorem underS : Try.prog.underlying 9 = some .string := by kernel_rfl
theorem underI : Try.prog.underlying 3 = some (.int .i64) := by kernel_rfl
theorem underU : Try.prog.underlying 37 = some (.int .u64) := by kernel_rfl

theorem trod_bytes {H : Type} {enc : TypeId × Value → H} {w : World} {fuel : Nat} {cs : List Value} {x : DataW H × List MemPlace} (h : DataW.trod enc Try.prog w 0 (fun _ => true) true fuel 39 cs = some x) :
    ∃ (v : Value) (l : List Int), cs = [v] ∧ Sl w (fun _ => True) v l.length 1 (l.map (Value.int .u8)) ∧ (∀ a ∈ l, 0 ≤ a ∧ a ≤ 255) ∧ l.length ≤ maxLen :=
  trod_list (Value.int .u8) (fun a => 0 ≤ a ∧ a ≤ 255) Try.underlying39 cellsB (fun n cs x h => by
    obtain ⟨a, rfl, _, wa⟩ := DataW.trod_int underB h
    exact ⟨a, rfl, bounds_u8 wa⟩) h
theorem trod_strs {H : Type} {enc : TypeId × Value → H} {w : World} {fuel : Nat} {cs : List Value} {x : DataW H × List MemPlace} (h : DataW.trod enc Try.prog w 0 (fun _ => true) true fuel 41 cs = some x) :
    ∃ (v : Value) (l : List ByteArray), cs = [v] ∧ Sl w (fun _ => True) v l.length 1 (l.map Value.string) ∧ (∀ a ∈ l, a.size ≤ maxLen) ∧ l.length ≤ maxLen :=
  trod_list Value.string (fun a => a.size ≤ maxLen) Try.underlying41 cellsS (fun n cs x h => by
    obtain ⟨a, rfl, _, wa⟩ := DataW.trod_string underS h
    exact ⟨a, rfl, wa⟩) h

set_option maxRecDepth 100000 in
theorem open_bytes {H : Type} {enc : TypeId × Value → H} {W : World} {base : Nat} {v : Value} {d : DataW H} {ps : List MemPlace}
    (hval : Value.okWide Try.prog W .any base 39 v) (h : DataW.Trod enc Try.prog W 0 (fun _ => true) true 39 v d ps) :
    ∃ l : List Int, Sl W (fun _ => True) v l.length 1 (l.map (Value.int .u8)) ∧ (∀ a ∈ l, 0 ≤ a ∧ a ≤ 255) ∧ l.length ≤ maxLen := by
  obtain ⟨a, len, cap, rfl⟩ := okWide_slice Try.underlying39 hval
  obtain ⟨fuel, hf⟩ := h
  obtain ⟨v, l, e, h1, h2, h3⟩ := trod_bytes hf
  simp [Value.cells] at e
  subst e
  exact ⟨l, h1, h2, h3⟩

/-- A call as data. -/
structure AAct where
  Do : Int
  V : Int
  X : Int
  I : Int
  B : List Int
  L : List Int
  K : List ByteArray
  Key : ByteArray
  Re : Int
  Im : Int

/-- The ten cells of a call, its lists by their values. -/
def acells (a : AAct) (x : Value × Value × Value) : List Value := [.int .i64 a.Do, .int .u64 a.V, .int .u64 a.X, .int .i64 a.I, x.1, x.2.1, x.2.2, .string a.Key, .int .u64 a.Re, .int .u64 a.Im]
abbrev actV (a : AAct) (x : Value × Value × Value) : Value := .agg #[.int .i64 a.Do, .int .u64 a.V, .int .u64 a.X, .int .i64 a.I, x.1, x.2.1, x.2.2, .string a.Key, .int .u64 a.Re, .int .u64 a.Im]

/-- Its lists read as its own; its words fit. -/
structure AOK (w : World) (G : Nat → Prop) (a : AAct) (x : Value × Value × Value) : Prop where
  b : Sl w G x.1 a.B.length 1 (a.B.map (Value.int .u8))
  l : Sl w G x.2.1 a.L.length 1 (a.L.map (Value.int .u64))
  k : Sl w G x.2.2 a.K.length 1 (a.K.map Value.string)
  v : U a.V
  x : U a.X
  i : -9223372036854775808 ≤ a.I ∧ a.I ≤ 9223372036854775807
  d : -9223372036854775808 ≤ a.Do ∧ a.Do ≤ 9223372036854775807
  r : U a.Re
  m : U a.Im
  bb : ∀ y ∈ a.B, 0 ≤ y ∧ y ≤ 255
  lu : ∀ y ∈ a.L, U y
  m1 : a.B.length ≤ maxLen
  m2 : a.L.length ≤ maxLen
  m3 : a.K.length ≤ maxLen

theorem AOK.keep {w w' : World} {G G' : Nat → Prop} {a : AAct} {x : Value × Value × Value} (h : AOK w G a x)
    (hs : w.heap.size ≤ w'.heap.size) (hb : ∀ b, b < w.heap.size → G b → w'.heap[b]? = w.heap[b]?) (hG : ∀ b, b < w.heap.size → G b → G' b) : AOK w' G' a x :=
  ⟨h.b.keep hs hb hG, h.l.keep hs hb hG, h.k.keep hs hb hG, h.v, h.x, h.i, h.d, h.r, h.m, h.bb, h.lu, h.m1, h.m2, h.m3⟩
theorem AOK.bw {w w' : World} {G : Nat → Prop} {a : AAct} {x : Value × Value × Value} (h : AOK w G a x) (hb : Bw w w') : AOK w' G a x :=
  h.keep hb.size (fun b hlt _ => hb.block b hlt) (fun _ _ g => g)

theorem cellsA : Try.prog.cellsOf 43 = 10 := by kernel_rfl
theorem cellsI : Try.prog.cellsOf 3 = 1 := by kernel_rfl
theorem cellsU : Try.prog.cellsOf 37 = 1 := by kernel_rfl
theorem cellsBs : Try.prog.cellsOf 39 = 1 := by kernel_rfl
theorem cellsVs : Try.prog.cellsOf 40 = 1 := by kernel_rfl
theorem cellsSs : Try.prog.cellsOf 41 = 1 := by kernel_rfl

set_option maxRecDepth 100000 in
theorem trod_act {H : Type} {enc : TypeId × Value → H} {w : World} {fuel : Nat} {cs : List Value} {y : DataW H × List MemPlace} (h : DataW.trod enc Try.prog w 0 (fun _ => true) true fuel 43 cs = some y) :
    ∃ a x, cs = acells a x ∧ AOK w (fun _ => True) a x := by
  obtain ⟨xs, n, _, _, hl, hlen, hf⟩ := DataW.trod_struct Try.underlying43 h
  rw [cellsA] at hl
  match cs, hl with
  | [c0, c1, c2, c3, c4, c5, c6, c7, c8, c9], _ =>
  have hl10 : xs.length = 10 := hlen
  match xs, hl10 with
  | [y0, y1, y2, y3, y4, y5, y6, y7, y8, y9], _ =>
  obtain ⟨a0, e0, _, w0⟩ := DataW.trod_int underI (hf 0 _ rfl)
  obtain ⟨a1, e1, _, w1⟩ := DataW.trod_int underV (hf 1 _ rfl)
  obtain ⟨a2, e2, _, w2⟩ := DataW.trod_int underV (hf 2 _ rfl)
  obtain ⟨a3, e3, _, w3⟩ := DataW.trod_int underI (hf 3 _ rfl)
  obtain ⟨v4, l4, e4, s4, b4, m4⟩ := trod_bytes (hf 4 _ rfl)
  obtain ⟨v5, l5, e5, s5, b5, m5⟩ := trod_vals (hf 5 _ rfl)
  obtain ⟨v6, l6, e6, s6, b6, m6⟩ := trod_strs (hf 6 _ rfl)
  obtain ⟨a7, e7, _, w7⟩ := DataW.trod_string underS (hf 7 _ rfl)
  obtain ⟨a8, e8, _, w8⟩ := DataW.trod_int underU (hf 8 _ rfl)
  obtain ⟨a9, e9, _, w9⟩ := DataW.trod_int underU (hf 9 _ rfl)
  simp [cellsI, cellsV, cellsU, cellsS, cellsBs, cellsVs, cellsSs] at e0 e1 e2 e3 e4 e5 e6 e7 e8 e9
  subst e0 e1 e2 e3 e4 e5 e6 e7 e8 e9
  have u1 : U a1 := by have := bounds_u64 w1; unfold U; omega
  have u2 : U a2 := by have := bounds_u64 w2; unfold U; omega
  have u8 : U a8 := by have := bounds_u64 w8; unfold U; omega
  have u9 : U a9 := by have := bounds_u64 w9; unfold U; omega
  exact ⟨⟨a0, a1, a2, a3, l4, l5, l6, a7, a8, a9⟩, (c4, c5, c6), rfl, s4, s5, s6, u1, u2, bounds_i64 w3, bounds_i64 w0, u8, u9, b4, b5, m4, m5, m6⟩

set_option maxRecDepth 100000 in
theorem open_act {H : Type} {enc : TypeId × Value → H} {W : World} {base : Nat} {v : Value} {d : DataW H} {ps : List MemPlace}
    (hval : Value.okWide Try.prog W .any base 43 v) (h : DataW.Trod enc Try.prog W 0 (fun _ => true) true 43 v d ps) :
    ∃ a x, v = actV a x ∧ AOK W (fun _ => True) a x := by
  obtain ⟨cs, rfl, hsz⟩ := okWide_struct Try.underlying43 hval
  obtain ⟨fuel, hf⟩ := h
  obtain ⟨a, x, e, hok⟩ := trod_act hf
  refine ⟨a, x, ?_, hok⟩
  have e2 : cs.toList = acells a x := by simpa [Value.cells] using e
  obtain ⟨l⟩ := cs
  simp only at e2
  subst e2
  rfl

end Go.Proofs.Ytjemhdepgeecjaa
