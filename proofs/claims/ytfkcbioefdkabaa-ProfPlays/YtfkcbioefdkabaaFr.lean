/- How a thing that is told, a list of such, is opened: for the statements' frames. -/
import Derived.Test.YtfkcbioefdkabaaPl
import Derived.ProofKit
import Derived.OpenShut
import Derived.ShutString
import Derived.ChangeOld
import Derived.Below
set_option linter.unusedVariables false
set_option linter.unusedSimpArgs false
namespace Go.Proofs.Ytfkcbioefdkabaa
open Go.ChangeShapes Go.WideShapes Go.ChangeAt Go.RowKit

theorem ownK : ownKnob Try.prog.godebug = none := by kernel_rfl
theorem laidOut : laidOutB Try.prog = true := by kernel_rfl
theorem underV : Try.prog.underlying 34 = some (.int .u64) := by kernel_rfl
theorem cellsA : Try.prog.cellsOf 36 = 6 := by kernel_rfl
theorem cellsI : Try.prog.cellsOf 3 = 1 := by kernel_rfl
theorem cellsV : Try.prog.cellsOf 34 = 1 := by kernel_rfl

/-- Its words fit. -/
structure AOK (x : AA) : Prop where
  d : I64 x.d
  f : I64 x.f
  t : I64 x.t
  a : I64 x.a
  b : I64 x.b
  v : U x.v

theorem list_of {α : Type} (q : Nat → α → Prop) : ∀ (n : Nat), (∀ i, i < n → ∃ a, q i a) → ∃ l : List α, l.length = n ∧ ∀ i (hi : i < l.length), q i l[i]
  | 0, _ => ⟨[], rfl, fun i hi => by simp at hi⟩
  | n + 1, h => by
    obtain ⟨l, hl, hq⟩ := list_of q n (fun i hi => h i (by omega))
    obtain ⟨a, ha⟩ := h n (by omega)
    refine ⟨l ++ [a], by simp [hl], fun i hi => ?_⟩
    by_cases hi2 : i < l.length
    · rw [List.getElem_append_left hi2]; exact hq i hi2
    · have : i = l.length := by simp at hi; omega
      subst this
      rw [List.getElem_append_right (Nat.le_refl _)]
      simpa [hl] using ha

set_option maxRecDepth 100000 in
theorem trod_act {H : Type} {enc : TypeId × Value → H} {w : World} {fuel : Nat} {cs : List Value} {y : DataW H × List MemPlace} (h : DataW.trod enc Try.prog w 0 (fun _ => true) true fuel 36 cs = some y) :
    ∃ a, cs = actC a ∧ AOK a := by
  obtain ⟨xs, n, _, _, hl, hlen, hf⟩ := DataW.trod_struct Try.underlying36 h
  rw [cellsA] at hl
  match cs, hl with
  | [c0, c1, c2, c3, c4, c5], _ =>
  have hl6 : xs.length = 6 := hlen
  match xs, hl6 with
  | [y0, y1, y2, y3, y4, y5], _ =>
  obtain ⟨a0, e0, _, w0⟩ := DataW.trod_int underInt (hf 0 _ rfl)
  obtain ⟨a1, e1, _, w1⟩ := DataW.trod_int underInt (hf 1 _ rfl)
  obtain ⟨a2, e2, _, w2⟩ := DataW.trod_int underInt (hf 2 _ rfl)
  obtain ⟨a3, e3, _, w3⟩ := DataW.trod_int underInt (hf 3 _ rfl)
  obtain ⟨a4, e4, _, w4⟩ := DataW.trod_int underInt (hf 4 _ rfl)
  obtain ⟨a5, e5, _, w5⟩ := DataW.trod_int underV (hf 5 _ rfl)
  simp [cellsI, cellsV] at e0 e1 e2 e3 e4 e5
  subst e0 e1 e2 e3 e4 e5
  have u5 : U a5 := by have := bounds_u64 w5; unfold U; omega
  exact ⟨⟨a0, a1, a2, a3, a4, a5⟩, rfl, bounds_i64 w0, bounds_i64 w1, bounds_i64 w2, bounds_i64 w3, bounds_i64 w4, u5⟩

set_option maxRecDepth 100000 in
theorem open_act {H : Type} {enc : TypeId × Value → H} {W : World} {base : Nat} {v : Value} {d : DataW H} {ps : List MemPlace}
    (hval : Value.okWide Try.prog W .any base 36 v) (h : DataW.Trod enc Try.prog W 0 (fun _ => true) true 36 v d ps) :
    ∃ a, v = actV a ∧ AOK a := by
  obtain ⟨cs, rfl, hsz⟩ := okWide_struct Try.underlying36 hval
  obtain ⟨fuel, hf⟩ := h
  obtain ⟨a, e, hok⟩ := trod_act hf
  refine ⟨a, ?_, hok⟩
  have e2 : cs.toList = actC a := by simpa [Value.cells] using e
  obtain ⟨l⟩ := cs
  simp only at e2
  subst e2
  rfl

/-- The slice v is a list of things that reads as l, in blocks of which G holds. -/
def Acts (w : World) (G : Nat → Prop) (v : Value) (l : List AA) : Prop :=
  ∃ a cap, v = .slice a l.length cap ∧ l.length ≤ maxLen ∧ ∀ i (hi : i < l.length), ∃ b o, a = some ⟨b, o, none⟩ ∧ b < w.heap.size ∧ G b ∧
    (∀ j, j < 6 → w.cell? ⟨b, o + (i * 6 + j), none⟩ = (actC l[i])[j]?) ∧ AOK l[i]

theorem Acts.form {w : World} {G : Nat → Prop} {v : Value} {l : List AA} (h : Acts w G v l) : ∃ a cap, v = .slice a l.length cap := by
  obtain ⟨a, cap, rfl, _⟩ := h
  exact ⟨a, cap, rfl⟩
theorem Acts.len {w : World} {G : Nat → Prop} {v : Value} {l : List AA} (h : Acts w G v l) : l.length ≤ maxLen := by
  obtain ⟨a, cap, rfl, h, _⟩ := h
  exact h
theorem Acts.bw {w w' : World} {G : Nat → Prop} {v : Value} {l : List AA} (h : Acts w G v l) (hb : Bw w w') : Acts w' G v l := by
  obtain ⟨a, cap, rfl, hm, h⟩ := h
  refine ⟨a, cap, rfl, hm, fun i hi => ?_⟩
  obtain ⟨b, o, e, hlt, hg, hc, hok⟩ := h i hi
  refine ⟨b, o, e, Nat.lt_of_lt_of_le hlt hb.size, hg, fun j hj => ?_, hok⟩
  rw [← hc j hj]
  exact World.cell?_of_block (w := w) (w' := w') (a := ⟨b, o + (i * 6 + j), none⟩) (hb.block b hlt)
theorem Acts.at {w : World} {G : Nat → Prop} {a : Option Addr} {n cap : Nat} {l : List AA} (h : Acts w G (.slice a n cap) l) {i : Nat} (hi : i < l.length) :
    ∃ b o, a = some ⟨b, o, none⟩ ∧ b < w.heap.size ∧ w.cell? ⟨b, o + i * 6, none⟩ = some (.int .i64 l[i].d) ∧ w.cell? ⟨b, o + i * 6 + 1, none⟩ = some (.int .i64 l[i].f) ∧ w.cell? ⟨b, o + i * 6 + 2, none⟩ = some (.int .i64 l[i].t) ∧ w.cell? ⟨b, o + i * 6 + 3, none⟩ = some (.int .i64 l[i].a) ∧ w.cell? ⟨b, o + i * 6 + 4, none⟩ = some (.int .i64 l[i].b) ∧ w.cell? ⟨b, o + i * 6 + 5, none⟩ = some (.int .u64 l[i].v) ∧ AOK l[i] := by
  obtain ⟨a', cap', e, _, h⟩ := h
  cases e
  obtain ⟨b, o, e, hlt, _, hc, hok⟩ := h i hi
  have h0 := hc 0 (by decide)
  have h1 := hc 1 (by decide)
  have h2 := hc 2 (by decide)
  have h3 := hc 3 (by decide)
  have h4 := hc 4 (by decide)
  have h5 := hc 5 (by decide)
  simp only [Nat.add_zero, ← Nat.add_assoc, actC, List.getElem?_cons_zero, List.getElem?_cons_succ] at h0 h1 h2 h3 h4 h5
  exact ⟨b, o, e, hlt, h0, h1, h2, h3, h4, h5, hok⟩

set_option maxRecDepth 100000 in
theorem open_acts {H : Type} {enc : TypeId × Value → H} {W : World} {base : Nat} {v : Value} {d : DataW H} {ps : List MemPlace}
    (hval : Value.okWide Try.prog W .any base 22 v) (h : DataW.Trod enc Try.prog W 0 (fun _ => true) true 22 v d ps) :
    ∃ l : List AA, Acts W (fun _ => True) v l := by
  obtain ⟨a, len, cap, rfl⟩ := okWide_slice Try.underlying22 hval
  obtain ⟨fuel, hf⟩ := h
  rcases DataW.trod_slice Try.underlying22 hf with ⟨e, _⟩ | ⟨ad, len', cap', elems, rest, n, _, e, _, _, hl, hm, hlen, he, _, _⟩
  · simp [Value.cells] at e
    obtain ⟨rfl, rfl, rfl⟩ := e
    exact ⟨[], none, 0, rfl, Nat.zero_le _, fun i hi => by simp at hi⟩
  · simp [Value.cells] at e
    obtain ⟨rfl, rfl, rfl⟩ := e
    rw [cellsA] at he
    have key : ∀ i, i < len → ∃ q : AA, (∀ j, j < 6 → W.cell? ((ad.add (i * 6)).add j) = (actC q)[j]?) ∧ AOK q := by
      intro i hi
      have h1 := he i hi
      obtain ⟨y, hy⟩ : ∃ y, elems[i]? = some y := ⟨_, List.getElem?_eq_getElem (by omega)⟩
      rw [hy, Option.bind_eq_some_iff] at h1
      obtain ⟨cs', hcs, htr⟩ := h1
      obtain ⟨a, rfl, hok⟩ := trod_act htr
      exact ⟨a, (World.cells?_some hcs).2.2, hok⟩
    obtain ⟨qs, hql, hq⟩ := list_of _ len key
    refine ⟨qs, some ad, cap, by rw [hql], by omega, fun i hi => ?_⟩
    obtain ⟨hc, hok⟩ := hq i hi
    have hc0 := (hq 0 (by omega)).1 0 (by omega)
    obtain ⟨b, off, spot⟩ := ad
    have hsome : W.cell? ⟨b, off, spot⟩ = some (.int .i64 (qs[0]'(by omega)).d) := by simpa [Addr.add, actC] using hc0
    have hspot : spot = none := World.cell?_spot hsome
    subst hspot
    have hlt : b < W.heap.size := World.block_lt_of_cell? W _ hsome
    have e1 : ∀ k j, ((⟨b, off, none⟩ : Addr).add k).add j = ⟨b, off + (k + j), none⟩ := by
      intro k j
      simp [Addr.add]
      split <;> split <;> simp_all <;> omega
    refine ⟨b, off, rfl, hlt, trivial, fun j hj => ?_, hok⟩
    rw [← e1, hc j hj]

end Go.Proofs.Ytfkcbioefdkabaa
