/- The document's Same, of lists that are the same: the contract. -/
import Derived.Test.YtkeijgafmbdnlaaDoorXL
import Derived.Deep.QuietTactic
import Derived.BigQuiet
set_option linter.unusedSimpArgs false
set_option linter.unusedVariables false
namespace Go.Proofs.YtkeijgafmbdnlaaDoor
open Go Go.RowKit

/-- Tokens in memory, to be read. -/
def Tr (w : World) (v : Value) (l : List ATok) : Prop :=
  ∃ a cap, v = .slice a l.length cap ∧ l.length ≤ cap ∧ (l.length = 0 ∨ ∃ g o, a = some ⟨g, o, none⟩ ∧ g < w.heap.size ∧ ∀ i (hi : i < l.length), w.cell? ⟨g, o + i * 4, none⟩ = some (.int .i64 l[i].1) ∧ w.cell? ⟨g, o + i * 4 + 1, none⟩ = some (.string (strOfNums l[i].2.1)) ∧ w.cell? ⟨g, o + i * 4 + 2, none⟩ = some (.int .i64 l[i].2.2.1) ∧ w.cell? ⟨g, o + i * 4 + 3, none⟩ = some (.int .i64 l[i].2.2.2))

theorem Tr.bw {w w' : World} {v : Value} {l : List ATok} (h : Tr w v l) (hb : Bw w w') : Tr w' v l := by
  obtain ⟨a, cap, rfl, hc, h⟩ := h
  refine ⟨a, cap, rfl, hc, h.imp id ?_⟩
  rintro ⟨g, o, rfl, hg, hcs⟩
  refine ⟨g, o, rfl, Nat.lt_of_lt_of_le hg hb.size, fun i hi => ?_⟩
  obtain ⟨h0, h1, h2, h3⟩ := hcs i hi
  exact ⟨(cell_bw hb hg).trans h0, (cell_bw hb hg).trans h1, (cell_bw hb hg).trans h2, (cell_bw hb hg).trans h3⟩

theorem Tk.tr {w : World} {base : Nat} {v : Value} {l : List ATok} (h : Tk w base v l) : Tr w v l := by
  by_cases hl : 0 < l.length
  · obtain ⟨g, cap, rfl, _, hg, hc, hcs⟩ := h.at hl
    exact ⟨_, cap, rfl, hc, .inr ⟨g, 0, rfl, hg, fun i hi => by simpa using hcs i hi⟩⟩
  · rcases h.2 with ⟨rfl, h0⟩ | ⟨g, cap, cur, rfl, _, _, hnc, _⟩
    · exact ⟨none, 0, by rw [h0], by omega, .inl h0⟩
    · exact ⟨_, cap, rfl, hnc, .inl (by omega)⟩

theorem Tr.parts {w : World} {a : Option Addr} {cap : Nat} {l : List ATok} (h : Tr w (.slice a l.length cap) l) {i : Nat} (hi : i < l.length) :
    ∃ g o, a = some ⟨g, o, none⟩ ∧ g < w.heap.size ∧ w.cell? ⟨g, o + i * 4, none⟩ = some (.int .i64 l[i].1) ∧ w.cell? ⟨g, o + i * 4 + 1, none⟩ = some (.string (strOfNums l[i].2.1)) ∧ w.cell? ⟨g, o + i * 4 + 2, none⟩ = some (.int .i64 l[i].2.2.1) ∧ w.cell? ⟨g, o + i * 4 + 3, none⟩ = some (.int .i64 l[i].2.2.2) := by
  obtain ⟨a', cap', e, _, h⟩ := h
  cases e
  rcases h with h | ⟨g, o, rfl, hg, hcs⟩
  · omega
  · exact ⟨g, o, rfl, hg, hcs i hi⟩

set_option maxHeartbeats 8000000 in
theorem rSame_any (va vb : Value) (l : List ATok) (w : World) (ha : Tr w va l) (hb : Tr w vb l) (hm : l.length ≤ 1000000) :
    Calls Tryd.prog 12 #[va, vb, .bool true] w fun e w' => e = .returned (.bool true) ∧ Dn w w' := by
  have HA := hid ha
  have HB := hid hb
  obtain ⟨a, ca, rfl, _, _⟩ := ha
  obtain ⟨b, cb, rfl, _, _⟩ := hb
  go_enter Tryd.func12, Tryd.ntmps12
  go_wp2
  go_loopw [7] (fun j wr => ∃ k m, k ≤ l.length ∧ j = .int .i64 (k : Nat) ∧ wr = w.drewN m) (fun j _ => l.length - (intOf j).toNat)
  case atStart => exact ⟨0, 0, Nat.zero_le _, rfl, rfl⟩
  case round =>
    obtain ⟨k, m, hk, rfl, rfl⟩ := hrel
    by_cases hlt : k < l.length
    · obtain ⟨g1, o1, rfl, hg1, x0, x1, x2, x3⟩ := HA.out.parts hlt
      obtain ⟨g2, o2, rfl, hg2, y0, y1, y2, y3⟩ := HB.out.parts hlt
      have hlt2 : (k : Int) < (l.length : Int) := by omega
      have hk0 : (0 : Int) ≤ (k : Int) := by omega
      generalize l[k].1 = t1 at x0 y0
      generalize strOfNums l[k].2.1 = t2 at x1 y1
      generalize l[k].2.2.1 = t3 at x2 y2
      generalize l[k].2.2.2 = t4 at x3 y3
      have e1 : (t1 != t1) = false := by simp
      have e3 : (t3 != t3) = false := by simp
      have e4 : (t4 != t4) = false := by simp
      have e2 : (t2.toList != t2.toList) = false := by simp
      go_wp2
      go_quiet (fail)
      go_wp2
      go_roundw
      case rel => exact ⟨k + 1, _, by omega, by go_num, rfl⟩
      case measure => simp [intOf]; omega
    · go_wp2
      all_goals go_ret
      all_goals exact ⟨rfl, _, rfl⟩

end Go.Proofs.YtkeijgafmbdnlaaDoor
