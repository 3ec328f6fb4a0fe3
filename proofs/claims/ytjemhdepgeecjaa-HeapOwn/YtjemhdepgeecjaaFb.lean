/- How a list of calls, as the statements draw them, is opened: for their frames. -/
import Derived.Test.YtjemhdepgeecjaaFa
set_option linter.unusedVariables false
set_option linter.unusedSimpArgs false
namespace Go.Proofs.Ytjemhdepgeecjaa
open Go.ChangeShapes Go.WideShapes Go.ChangeAt Go.RowKit

/-- The slice v is a list of calls that reads as l, in blocks of which G holds. -/
def Acts (w : World) (G : Nat → Prop) (v : Value) (l : List AAct) : Prop :=
  ∃ a cap, v = .slice a l.length cap ∧ l.length ≤ maxLen ∧ ∀ i (hi : i < l.length), ∃ b o x, a = some ⟨b, o, none⟩ ∧ b < w.heap.size ∧ G b ∧
    (∀ j, j < 10 → w.cell? ⟨b, o + (i * 10 + j), none⟩ = (acells l[i] x)[j]?) ∧ AOK w G l[i] x

theorem Acts.form {w : World} {G : Nat → Prop} {v : Value} {l : List AAct} (h : Acts w G v l) : ∃ a cap, v = .slice a l.length cap := by
  obtain ⟨a, cap, rfl, _⟩ := h
  exact ⟨a, cap, rfl⟩

theorem Acts.len {w : World} {G : Nat → Prop} {v : Value} {l : List AAct} (h : Acts w G v l) : l.length ≤ maxLen := by
  obtain ⟨a, cap, rfl, h, _⟩ := h
  exact h

theorem Acts.at {w : World} {G : Nat → Prop} {a : Option Addr} {n cap : Nat} {l : List AAct} (h : Acts w G (.slice a n cap) l) {i : Nat} (hi : i < l.length) :
    ∃ b o x, a = some ⟨b, o, none⟩ ∧ b < w.heap.size ∧ G b ∧ (∀ j, j < 10 → w.cell? ⟨b, o + (i * 10 + j), none⟩ = (acells l[i] x)[j]?) ∧ AOK w G l[i] x := by
  obtain ⟨a', cap', e, _, h⟩ := h
  cases e
  exact h i hi

set_option maxRecDepth 100000 in
theorem open_acts {H : Type} {enc : TypeId × Value → H} {W : World} {base : Nat} {v : Value} {d : DataW H} {ps : List MemPlace}
    (hval : Value.okWide Try.prog W .any base 22 v) (h : DataW.Trod enc Try.prog W 0 (fun _ => true) true 22 v d ps) :
    ∃ l : List AAct, Acts W (fun _ => True) v l := by
  obtain ⟨a, len, cap, rfl⟩ := okWide_slice Try.underlying22 hval
  obtain ⟨fuel, hf⟩ := h
  rcases DataW.trod_slice Try.underlying22 hf with ⟨e, _⟩ | ⟨ad, len', cap', elems, rest, n, _, e, _, _, hl, hm, hlen, he, _, _⟩
  · simp [Value.cells] at e
    obtain ⟨rfl, rfl, rfl⟩ := e
    exact ⟨[], none, 0, rfl, Nat.zero_le _, fun i hi => by simp at hi⟩
  · simp [Value.cells] at e
    obtain ⟨rfl, rfl, rfl⟩ := e
    rw [cellsA] at he
    have key : ∀ i, i < len → ∃ q : AAct × (Value × Value × Value), (∀ j, j < 10 → W.cell? ((ad.add (i * 10)).add j) = (acells q.1 q.2)[j]?) ∧ AOK W (fun _ => True) q.1 q.2 := by
      intro i hi
      have h1 := he i hi
      obtain ⟨y, hy⟩ : ∃ y, elems[i]? = some y := ⟨_, List.getElem?_eq_getElem (by omega)⟩
      rw [hy, Option.bind_eq_some_iff] at h1
      obtain ⟨cs', hcs, htr⟩ := h1
      obtain ⟨a, x, rfl, hok⟩ := trod_act htr
      exact ⟨(a, x), (World.cells?_some hcs).2.2, hok⟩
    obtain ⟨qs, hql, hq⟩ := list_of _ len key
    refine ⟨qs.map Prod.fst, some ad, cap, by simp [hql], by simp [hql]; omega, fun i hi => ?_⟩
    have hiq : i < qs.length := by simpa using hi
    obtain ⟨hc, hok⟩ := hq i hiq
    have hc0 := (hq 0 (by omega)).1 0 (by omega)
    obtain ⟨b, off, spot⟩ := ad
    have hsome : W.cell? ⟨b, off, spot⟩ = some (.int .i64 (qs[0]'(by omega)).1.Do) := by simpa [Addr.add, acells] using hc0
    have hspot : spot = none := World.cell?_spot hsome
    subst hspot
    have hlt : b < W.heap.size := World.block_lt_of_cell? W _ hsome
    have e1 : ∀ k j, ((⟨b, off, none⟩ : Addr).add k).add j = ⟨b, off + (k + j), none⟩ := by
      intro k j
      simp [Addr.add]
      split <;> split <;> simp_all <;> omega
    refine ⟨b, off, qs[i].2, rfl, hlt, trivial, fun j hj => ?_, by simpa using hok⟩
    rw [← e1, hc j hj]
    simp

end Go.Proofs.Ytjemhdepgeecjaa
