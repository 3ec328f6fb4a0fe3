/- How a list of structs of two words is opened: for the frame of a statement on such a list. -/
import Derived.Test.YtdakgnbnjncnmaaFr
set_option linter.unusedVariables false
set_option linter.unusedSimpArgs false
namespace Go.Proofs.Ytdakgnbnjncnmaa
open Go.ChangeShapes Go.WideShapes Go.ChangeAt Go.RowKit

def nOf : Option Value → Nat
  | some (.int _ n) => n.toNat
  | _ => 0

/-- A list of structs of two words that came in: it is empty; or its cells lie one behind the other. -/
def IsZs (w : World) (a : Option Addr) (len cap : Nat) (z : List (Nat × Nat)) : Prop :=
  len ≤ maxLen ∧ z.length = len ∧ (len = 0 ∨ ∃ b off, a = some ⟨b, off, none⟩ ∧ b < w.heap.size ∧ ∀ i, i < len →
    w.cell? ⟨b, off + i * 2, none⟩ = some (.int .u64 ((z.getD i (0, 0)).1 : Int)) ∧ w.cell? ⟨b, off + i * 2 + 1, none⟩ = some (.int .u64 ((z.getD i (0, 0)).2 : Int)))

theorem open_zs {H : Type} {enc : TypeId × Value → H} {W : World} {base : Nat} {v : Value} {d : DataW H} {ps : List MemPlace}
    (hval : Value.okWide Try.prog W .any base 57 v) (h : DataW.Trod enc Try.prog W 0 (fun _ => true) true 57 v d ps) :
    ∃ a len cap z, v = .slice a len cap ∧ IsZs W a len cap z := by
  obtain ⟨a, len, cap, rfl⟩ := okWide_slice Try.underlying57 hval
  obtain ⟨fuel, hf⟩ := h
  rcases DataW.trod_slice Try.underlying57 hf with ⟨hcs, _⟩ | ⟨x, l, c, elems, rest, n, _, hcs, _, _, hl, hm, hlen, hel, _, _⟩
  · simp [Value.cells] at hcs
    obtain ⟨rfl, rfl, rfl⟩ := hcs
    exact ⟨_, _, _, [], rfl, Nat.zero_le _, rfl, .inl rfl⟩
  · simp [Value.cells] at hcs
    obtain ⟨rfl, rfl, rfl⟩ := hcs
    obtain ⟨b, off, spot⟩ := x
    have key : ∀ i, i < len → ∃ p q : Int, 0 ≤ p ∧ 0 ≤ q ∧ W.cell? ((⟨b, off, spot⟩ : Addr).add (i * 2)) = some (.int .u64 p) ∧ W.cell? (((⟨b, off, spot⟩ : Addr).add (i * 2)).add 1) = some (.int .u64 q) := by
      intro i hi
      have h1 := hel i hi
      obtain ⟨y, hy⟩ : ∃ y, elems[i]? = some y := ⟨_, List.getElem?_eq_getElem (by omega)⟩
      rw [hy, Option.bind_eq_some_iff, cellsZ] at h1
      obtain ⟨cs, hcs, ht⟩ := h1
      obtain ⟨y0, y1, m, hx, hl2, hy0, hy1⟩ := trod_struct2 Try.underlying24 ht
      rw [cellsZ] at hl2
      match cs, hl2 with
      | [c0, c1], _ =>
      obtain ⟨p, e0, _, wp⟩ := DataW.trod_int Try.underlying22 hy0
      obtain ⟨q, e1, _, wq⟩ := DataW.trod_int Try.underlying22 hy1
      simp [cellsU] at e0 e1
      subst e0 e1
      have hc0 : W.cell? (((⟨b, off, spot⟩ : Addr).add (i * 2)).add 0) = some (.int .u64 p) ∧ W.cell? (((⟨b, off, spot⟩ : Addr).add (i * 2)).add 1) = some (.int .u64 q) := by
        unfold World.cells? at hcs
        split at hcs
        · have e : List.range 2 = [0, 1] := rfl
          rw [e] at hcs
          cases h0 : W.cell? (((⟨b, off, spot⟩ : Addr).add (i * 2)).add 0) with
          | none => simp [h0] at hcs
          | some u =>
            cases h1 : W.cell? (((⟨b, off, spot⟩ : Addr).add (i * 2)).add 1) with
            | none => simp [h0, h1] at hcs
            | some v =>
              simp [h0, h1] at hcs
              exact ⟨by rw [hcs.1], by rw [hcs.2]⟩
        · cases hcs
      have ea : ((⟨b, off, spot⟩ : Addr).add (i * 2)).add 0 = (⟨b, off, spot⟩ : Addr).add (i * 2) := by
        cases spot <;> simp [Addr.add]
      rw [ea] at hc0
      exact ⟨p, q, (bounds_u64 wp).1, (bounds_u64 wq).1, hc0.1, hc0.2⟩
    by_cases h0 : len = 0
    · subst h0
      exact ⟨_, _, _, [], rfl, Nat.zero_le _, rfl, .inl rfl⟩
    · obtain ⟨p, q, _, _, hc, _⟩ := key 0 (by omega)
      have hspot : spot = none := by simpa [Addr.add] using World.cell?_spot hc
      subst hspot
      have hlt : b < W.heap.size := by simpa [Addr.add] using World.block_lt_of_cell? W _ hc
      refine ⟨_, _, _, (List.range len).map fun i => (nOf (W.cell? ⟨b, off + i * 2, none⟩), nOf (W.cell? ⟨b, off + i * 2 + 1, none⟩)), rfl, by omega, by simp, .inr ⟨b, off, rfl, hlt, fun i hi => ?_⟩⟩
      obtain ⟨p, q, hp, hq, hc1, hc2⟩ := key i hi
      have e1 : (⟨b, off, none⟩ : Addr).add (i * 2) = ⟨b, off + i * 2, none⟩ := by simp [Addr.add]
      have e2 : (⟨b, off + i * 2, none⟩ : Addr).add 1 = ⟨b, off + i * 2 + 1, none⟩ := by simp [Addr.add]
      rw [e1] at hc1 hc2
      rw [e2] at hc2
      have e3 : ((List.range len).map fun i => (nOf (W.cell? ⟨b, off + i * 2, none⟩), nOf (W.cell? ⟨b, off + i * 2 + 1, none⟩))).getD i (0, 0) = (p.toNat, q.toNat) := by
        simp [hi, hc1, hc2, nOf]
      rw [e3, hc1, hc2]
      constructor
      · show some (Value.int .u64 p) = some (Value.int .u64 (p.toNat : Int))
        rw [Int.toNat_of_nonneg hp]
      · show some (Value.int .u64 q) = some (Value.int .u64 (q.toNat : Int))
        rw [Int.toNat_of_nonneg hq]

end Go.Proofs.Ytdakgnbnjncnmaa
