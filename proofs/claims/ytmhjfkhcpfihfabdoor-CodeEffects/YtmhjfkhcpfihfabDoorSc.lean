/- The document's Big: the contract. -/
import Derived.Test.YtmhjfkhcpfihfabDoorSb
set_option linter.unusedSimpArgs false
set_option linter.unusedVariables false
namespace Go.Proofs.YtmhjfkhcpfihfabDoor
open Go Go.RowKit

def SmallF (f : AFn) : Prop := f.code.length ≤ 500 ∧ f.boxes.length ≤ 100 ∧ f.caps.length ≤ 100 ∧ f.tries.length ≤ 50
/-- As much as is asked in a statement. -/
def SmallI (m : AIm) : Prop := m.funs.length ≤ 30 ∧ m.strs.length ≤ 100 ∧ m.keys.length ≤ 50 ∧ (∀ s ∈ m.strs, s.length ≤ 2000) ∧ (∀ l ∈ m.keys, l.length ≤ 100) ∧ ∀ f ∈ m.funs, SmallF f
/-- What Big answers. -/
def BgP (w : World) (m : AIm) (e : Ending) (w' : World) : Prop := ∃ q, e = .returned (.bool q) ∧ (q = false → SmallI m) ∧ Bw w w'

theorem all_of {α : Type} {p : α → Prop} {l : List α} (h : ∀ k (hk : k < l.length), p l[k]) : ∀ x ∈ l, p x := by
  intro x hx
  obtain ⟨k, hk, rfl⟩ := List.getElem_of_mem hx
  exact h k hk

theorem upto {α : Type} {p : α → Prop} {l : List α} {i : Nat} (h : ∀ k (hk : k < l.length), k < i → p l[k]) (hi : i < l.length) (hp : p l[i]) : ∀ k (hk : k < l.length), k < i + 1 → p l[k] := by
  intro k hk hk2
  by_cases hki : k < i
  · exact h k hk hki
  · obtain rfl : k = i := by omega
    exact hp

section
variable {w w' : World}



end

end Go.Proofs.YtmhjfkhcpfihfabDoor
