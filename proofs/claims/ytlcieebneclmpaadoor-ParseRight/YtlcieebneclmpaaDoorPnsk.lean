/- The document's Same, of nodes that are the same: the contract. -/
import Derived.Test.YtlcieebneclmpaaDoorK12
import Derived.Test.YtlcieebneclmpaaDoorPwrk
import Derived.Deep.QuietTactic
import Derived.BigQuiet
import Derived.BigRegion
import Derived.Deep.DeepCutAuto
set_option linter.unusedSimpArgs false
set_option linter.unusedVariables false
namespace Go.Proofs.YtlcieebneclmpaaDoor
open Go Go.RowKit

/-- Nodes in memory, to be read. -/
def NR (w : World) (v : Value) (l : List ANode) : Prop :=
  ∃ a cap, v = .slice a l.length cap ∧ (l.length = 0 ∨ ∃ g o, a = some ⟨g, o, none⟩ ∧ g < w.heap.size ∧ ∀ i (hi : i < l.length) j, j < 5 → w.cell? ⟨g, o + i * 5 + j, none⟩ = (ndV l[i])[j]?)

theorem NR.bw {w w' : World} {v : Value} {l : List ANode} (h : NR w v l) (hb : Bw w w') : NR w' v l := by
  obtain ⟨a, cap, rfl, h⟩ := h
  refine ⟨a, cap, rfl, h.imp id ?_⟩
  rintro ⟨g, o, rfl, hg, hcs⟩
  exact ⟨g, o, rfl, Nat.lt_of_lt_of_le hg hb.size, fun i hi j hj => (cell_bw hb hg).trans (hcs i hi j hj)⟩

theorem Nd.nr {w : World} {base : Nat} {v : Value} {l : List ANode} (h : Nd w base v l) : NR w v l := by
  by_cases hl : 0 < l.length
  · obtain ⟨g, cap, rfl, _, hg, hcs⟩ := h.at hl
    exact ⟨_, cap, rfl, .inr ⟨g, 0, rfl, hg, fun i hi j hj => by simpa using hcs i hi j hj⟩⟩
  · rcases h.2 with ⟨rfl, h0⟩ | ⟨g, cap, cur, rfl, _, _, hnc, _⟩
    · exact ⟨none, 0, by rw [h0], .inl h0⟩
    · exact ⟨_, cap, rfl, .inl (by omega)⟩

theorem NR.parts {w : World} {a : Option Addr} {cap : Nat} {l : List ANode} (h : NR w (.slice a l.length cap) l) {i : Nat} (hi : i < l.length) :
    ∃ g o, a = some ⟨g, o, none⟩ ∧ g < w.heap.size ∧ w.cell? ⟨g, o + i * 5, none⟩ = some (.int .i64 l[i].1) ∧ w.cell? ⟨g, o + i * 5 + 1, none⟩ = some (.int .i64 l[i].2.1) ∧ w.cell? ⟨g, o + i * 5 + 2, none⟩ = some (.string (strOfNums l[i].2.2.1)) ∧ w.cell? ⟨g, o + i * 5 + 3, none⟩ = some (.int .i64 l[i].2.2.2.1) ∧ w.cell? ⟨g, o + i * 5 + 4, none⟩ = some (.int .i64 l[i].2.2.2.2) := by
  obtain ⟨a', cap', e, h⟩ := h
  cases e
  rcases h with h | ⟨g, o, rfl, hg, hcs⟩
  · omega
  · exact ⟨g, o, rfl, hg, hcs i hi 0 (by decide), hcs i hi 1 (by decide), hcs i hi 2 (by decide), hcs i hi 3 (by decide), hcs i hi 4 (by decide)⟩

theorem er_at {l m : List ANode} (h : m.map erN = l.map erN) {k : Nat} (hk : k < l.length) (hk2 : k < m.length) : m[k].1 = l[k].1 ∧ m[k].2.1 = l[k].2.1 ∧ m[k].2.2.1 = l[k].2.2.1 ∧ m[k].2.2.2.1 = l[k].2.2.2.1 := by
  have e : (m.map erN)[k]? = (l.map erN)[k]? := by rw [h]
  rw [List.getElem?_map, List.getElem?_map, List.getElem?_eq_getElem hk, List.getElem?_eq_getElem hk2] at e
  simp only [Option.map_some, Option.some.injEq, erN, Prod.mk.injEq] at e
  exact ⟨e.1, e.2.1, e.2.2.1, e.2.2.2.1⟩

set_option maxRecDepth 100000 in
set_option maxHeartbeats 8000000 in
theorem nSame_any (va vb : Value) (l m : List ANode) (w : World) (ha : NR w va l) (hb : NR w vb m) (he : m.map erN = l.map erN) (hm : l.length ≤ 1000000) :
    Calls Tryd.prog 16 #[va, vb, .bool false] w fun e w' => e = .returned (.bool true) ∧ Bw w w' := by
  have HA := hid ha
  have HB := hid hb
  have hml : m.length = l.length := by simpa using congrArg List.length he
  have HE := hid he
  have HML := hid hml
  obtain ⟨a, ca, rfl, _⟩ := ha
  obtain ⟨b, cb, rfl, _⟩ := hb
  rw [hml]
  clear he hml
  go_enter Tryd.func16, Tryd.ntmps16
  go_wp2
  go_loopw [7] (fun j wr => ∃ k : Nat, k ≤ l.length ∧ j = .int .i64 k ∧ Bw w wr) (fun j _ => l.length - (intOf j).toNat)
  case atStart => exact ⟨0, Nat.zero_le _, rfl, Bw.refl _⟩
  case round =>
    obtain ⟨k, hk, rfl, hbw⟩ := hrel
    have HW := hid hbw
    by_cases hlt : k < l.length
    · obtain ⟨g1, o1, rfl, hg1, x0, x1, x2, x3, x4⟩ := (HA.out.bw hbw).parts hlt
      have hlt3 : k < m.length := by have := HML.out; omega
      have hnb := HB.out.bw hbw
      rw [HML.out] at hnb
      obtain ⟨g2, o2, rfl, hg2, y0, y1, y2, y3, y4⟩ := NR.parts (by rw [HML.out]; exact hnb) hlt3
      have hlt2 : (k : Int) < (l.length : Int) := by omega
      have hk0 : (0 : Int) ≤ (k : Int) := by omega
      obtain ⟨e1, e2, e3, e4⟩ := er_at HE.out hlt hlt3
      rw [e1] at y0
      rw [e2] at y1
      rw [e3] at y2
      rw [e4] at y3
      generalize l[k].1 = t1 at x0 y0
      generalize l[k].2.1 = t2 at x1 y1
      generalize strOfNums l[k].2.2.1 = t3 at x2 y2
      generalize l[k].2.2.2.1 = t4 at x3 y3
      generalize l[k].2.2.2.2 = t5 at x4
      generalize m[k].2.2.2.2 = t6 at y4
      clear e1 e2 e3 e4 hnb hbw hlt3 HA HB HE
      have q1 : (t1 != t1) = false := by simp
      have q2 : (t2 != t2) = false := by simp
      have q4 : (t4 != t4) = false := by simp
      have q3 : (t3.toList != t3.toList) = false := by simp
      go_upto_region 6 with fail
      go_region
      all_goals go_wp2
      all_goals go_roundw
      all_goals first
        | (case rel => exact ⟨k + 1, by omega, by go_num, by repeat (first | exact HW.out | apply Bw.alloc | apply Bw.drewN | apply Bw.drew)⟩)
        | skip
      all_goals (simp [intOf]; omega)
    · go_wp2
      all_goals go_ret
      all_goals exact ⟨rfl, HW.out⟩

end Go.Proofs.YtlcieebneclmpaaDoor
