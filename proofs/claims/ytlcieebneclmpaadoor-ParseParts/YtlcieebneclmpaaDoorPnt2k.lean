/- The document's Same with places; parts of lists of nodes. -/
import Derived.Test.YtlcieebneclmpaaDoorPnsk
import Derived.Test.YtlcieebneclmpaaDoorPptk
import Derived.Test.YtlcieebneclmpaaDoorPwsk
set_option linter.unusedSimpArgs false
set_option linter.unusedVariables false
namespace Go.Proofs.YtlcieebneclmpaaDoor
open Go Go.RowKit

set_option maxRecDepth 100000 in
set_option maxHeartbeats 8000000 in
theorem nSameT_any (va vb : Value) (l : List ANode) (w : World) (ha : NR w va l) (hb : NR w vb l) (hm : l.length ≤ 1000000) :
    Calls Tryd.prog 16 #[va, vb, .bool true] w fun e w' => e = .returned (.bool true) ∧ Bw w w' := by
  have HA := hid ha
  have HB := hid hb
  obtain ⟨a, ca, rfl, _⟩ := ha
  obtain ⟨b, cb, rfl, _⟩ := hb
  go_enter Tryd.func16, Tryd.ntmps16
  go_wp2
  go_loopw [7] (fun j wr => ∃ k : Nat, k ≤ l.length ∧ j = .int .i64 k ∧ Bw w wr) (fun j _ => l.length - (intOf j).toNat)
  case atStart => exact ⟨0, Nat.zero_le _, rfl, Bw.refl _⟩
  case round =>
    obtain ⟨k, hk, rfl, hbw⟩ := hrel
    have HW := hid hbw
    by_cases hlt : k < l.length
    · obtain ⟨g1, o1, rfl, hg1, x0, x1, x2, x3, x4⟩ := (HA.out.bw hbw).parts hlt
      obtain ⟨g2, o2, rfl, hg2, y0, y1, y2, y3, y4⟩ := (HB.out.bw hbw).parts hlt
      have hlt2 : (k : Int) < (l.length : Int) := by omega
      have hk0 : (0 : Int) ≤ (k : Int) := by omega
      generalize l[k].1 = t1 at x0 y0
      generalize l[k].2.1 = t2 at x1 y1
      generalize strOfNums l[k].2.2.1 = t3 at x2 y2
      generalize l[k].2.2.2.1 = t4 at x3 y3
      generalize l[k].2.2.2.2 = t5 at x4 y4
      clear hbw HA HB
      have q5 : (t5 != t5) = false := by simp
      have q1 : (t1 != t1) = false := by simp
      have q2 : (t2 != t2) = false := by simp
      have q4 : (t4 != t4) = false := by simp
      have q3 : (t3.toList != t3.toList) = false := by simp
      go_upto_region 6 with fail
      go_region
      all_goals go_wp2
      all_goals go_roundw
      all_goals first
        | (case rel => exact ⟨k + 1, by omega, by go_num, by repeat (first | exact HW.out | apply Bw.alloc | apply Bw.drewN | apply Bw.drew)⟩)
        | skip
      all_goals (simp [intOf]; omega)
    · go_wp2
      all_goals go_ret
      all_goals exact ⟨rfl, HW.out⟩

/-- A part of a list of nodes. -/
theorem NR.sub {w : World} {g o cap : Nat} {l : List ANode} (h : NR w (.slice (some ⟨g, o, none⟩) l.length cap) l) (i j c : Nat) (hij : i ≤ j) (hj : j ≤ l.length) :
    NR w (.slice (some ⟨g, o + i * 5, none⟩) (j - i) c) ((l.take j).drop i) := by
  have hlen : ((l.take j).drop i).length = j - i := by simp; omega
  refine ⟨_, c, by rw [hlen], ?_⟩
  by_cases h0 : j - i = 0
  · exact .inl (by omega)
  · obtain ⟨a', cap', e, h⟩ := h
    cases e
    rcases h with h | ⟨g', o', e, hg, hcs⟩
    · omega
    · cases e
      refine .inr ⟨g, o + i * 5, rfl, hg, fun k hk jj hjj => ?_⟩
      have hk2 : i + k < l.length := by omega
      have := hcs (i + k) hk2 jj hjj
      have e1 : o + i * 5 + k * 5 + jj = o + (i + k) * 5 + jj := by rw [Nat.add_mul]; omega
      rw [e1, this]
      congr 2
      simp

end Go.Proofs.YtlcieebneclmpaaDoor
