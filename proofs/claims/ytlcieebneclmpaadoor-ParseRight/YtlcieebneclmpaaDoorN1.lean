/- Nodes in memory, to be read. -/
import Derived.Test.YtlcieebneclmpaaDoorK12
import Derived.Deep.QuietTactic
import Derived.BigQuiet
import Derived.BigRegion
import Derived.Deep.DeepCutAuto
set_option linter.unusedSimpArgs false
set_option linter.unusedVariables false
namespace Go.Proofs.YtlcieebneclmpaaDoor
open Go Go.RowKit

/-- Nodes in memory, to be read. -/
def NR (w : World) (v : Value) (l : List ANode) : Prop :=
  ∃ a cap, v = .slice a l.length cap ∧ (l.length = 0 ∨ ∃ g o, a = some ⟨g, o, none⟩ ∧ g < w.heap.size ∧ ∀ i (hi : i < l.length) j, j < 5 → w.cell? ⟨g, o + i * 5 + j, none⟩ = (ndV l[i])[j]?)

theorem NR.bw {w w' : World} {v : Value} {l : List ANode} (h : NR w v l) (hb : Bw w w') : NR w' v l := by
  obtain ⟨a, cap, rfl, h⟩ := h
  refine ⟨a, cap, rfl, h.imp id ?_⟩
  rintro ⟨g, o, rfl, hg, hcs⟩
  exact ⟨g, o, rfl, Nat.lt_of_lt_of_le hg hb.size, fun i hi j hj => (cell_bw hb hg).trans (hcs i hi j hj)⟩

theorem Nd.nr {w : World} {base : Nat} {v : Value} {l : List ANode} (h : Nd w base v l) : NR w v l := by
  by_cases hl : 0 < l.length
  · obtain ⟨g, cap, rfl, _, hg, hcs⟩ := h.at hl
    exact ⟨_, cap, rfl, .inr ⟨g, 0, rfl, hg, fun i hi j hj => by simpa using hcs i hi j hj⟩⟩
  · rcases h.2 with ⟨rfl, h0⟩ | ⟨g, cap, cur, rfl, _, _, hnc, _⟩
    · exact ⟨none, 0, by rw [h0], .inl h0⟩
    · exact ⟨_, cap, rfl, .inl (by omega)⟩

theorem NR.parts {w : World} {a : Option Addr} {cap : Nat} {l : List ANode} (h : NR w (.slice a l.length cap) l) {i : Nat} (hi : i < l.length) :
    ∃ g o, a = some ⟨g, o, none⟩ ∧ g < w.heap.size ∧ w.cell? ⟨g, o + i * 5, none⟩ = some (.int .i64 l[i].1) ∧ w.cell? ⟨g, o + i * 5 + 1, none⟩ = some (.int .i64 l[i].2.1) ∧ w.cell? ⟨g, o + i * 5 + 2, none⟩ = some (.string (strOfNums l[i].2.2.1)) ∧ w.cell? ⟨g, o + i * 5 + 3, none⟩ = some (.int .i64 l[i].2.2.2.1) ∧ w.cell? ⟨g, o + i * 5 + 4, none⟩ = some (.int .i64 l[i].2.2.2.2) := by
  obtain ⟨a', cap', e, h⟩ := h
  cases e
  rcases h with h | ⟨g, o, rfl, hg, hcs⟩
  · omega
  · exact ⟨g, o, rfl, hg, hcs i hi 0 (by decide), hcs i hi 1 (by decide), hcs i hi 2 (by decide), hcs i hi 3 (by decide), hcs i hi 4 (by decide)⟩

end Go.Proofs.YtlcieebneclmpaaDoor
