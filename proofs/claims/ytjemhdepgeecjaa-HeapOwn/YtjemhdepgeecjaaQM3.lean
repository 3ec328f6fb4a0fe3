/- The statements' maker of objects, on a heap of the program: the contract for a cell. -/
import Derived.Test.YtjemhdepgeecjaaQM
set_option linter.unusedSimpArgs false
set_option linter.unusedVariables false
namespace Go.Proofs.Ytjemhdepgeecjaa
open Go Go.RowKit

set_option maxHeartbeats 16000000 in
set_option maxRecDepth 100000 in
theorem make1_3 {b0 : Nat} {H : AHeap} {bs : List Nat} (a : AAct) (x : Value × Value × Value) (w : World) (hp : HS w b0 H bs) (ha : AOK w (fun b => b ∉ bs) a x) (m1 : a.B.length ≤ 1000000000) (m2 : a.L.length ≤ 1000000000) (m3 : a.K.length ≤ 1000000000) (hd : a.Do = 3) :
    Calls Try.prog 21 #[.pointer (some ⟨b0, 0, none⟩), actV a x] w fun e w' => ∃ vb vv vk, e = .returned (.tuple #[.int .u64 (aMakeV H (oCell a.X)), .int .i64 (aMakeE H (oCell a.X)), objV (oCell a.X) vb vv vk]) ∧ ∃ bs', OL w' (fun b => b ∉ bs') (oCell a.X) vb vv vk ∧ HS w' b0 (aMakeH H (oCell a.X)) bs' ∧ Nx bs w w' bs' := by
  obtain ⟨vb, vl, vk⟩ := x
  obtain ⟨a1, c1, rfl⟩ := ha.b.form
  obtain ⟨a2, c2, rfl⟩ := ha.l.form
  obtain ⟨a3, c3, rfl⟩ := ha.k.form
  have HA := hid ha
  have BW0 := hid (((Bw.refl w).alloc (.cells #[.int .i64 3, .int .u64 a.V, .int .u64 a.X, .int .i64 a.I, .slice a1 a.B.length c1, .slice a2 a.L.length c2, .slice a3 a.K.length c3, .string a.Key, .int .u64 a.Re, .int .u64 a.Im] 43)).alloc (.cells #[.int .i64 0, .slice none 0 0, .slice none 0 0, .slice none 0 0, .int .i64 0, .int .u64 0, .int .u64 0] 55))
  have HS0 := hid (hp.bw BW0.out)
  have hnb0 : w.heap.size ∉ bs := fun h => by have := hp.lt h; omega
  have hnb1 : w.heap.size + 1 ∉ bs := fun h => by have := hp.lt h; omega
  have BA := hid ((Blk.new w #[.int .i64 3, .int .u64 a.V, .int .u64 a.X, .int .i64 a.I, .slice a1 a.B.length c1, .slice a2 a.L.length c2, .slice a3 a.K.length c3, .string a.Key, .int .u64 a.Re, .int .u64 a.Im] 43).alloc (.cells #[.int .i64 0, .slice none 0 0, .slice none 0 0, .slice none 0 0, .int .i64 0, .int .u64 0, .int .u64 0] 55))
  have BR := hid (Blk.new (w.alloc (.cells #[.int .i64 3, .int .u64 a.V, .int .u64 a.X, .int .i64 a.I, .slice a1 a.B.length c1, .slice a2 a.L.length c2, .slice a3 a.K.length c3, .string a.Key, .int .u64 a.Re, .int .u64 a.Im] 43)) #[.int .i64 0, .slice none 0 0, .slice none 0 0, .slice none 0 0, .int .i64 0, .int .u64 0, .int .u64 0] 55)
  have HNB0 := hid (And.intro hnb0 hnb1)
  clear ha hp hnb0 hnb1
  go_enter Try.func21, Try.ntmps21
  go_wp2_with (first
    | (go_at_call 38; refine (cell_any _ _ HS0.out HA.out.x).mono ?_; rintro e w2 ⟨rfl, bs', hs2, hn2⟩))
  all_goals
    have HS2 := hid hs2
    have HN2 := hid (Bw.nxBefore BW0.out hn2)
    have hA := BA.out.nx hn2 HNB0.out.1
    have hR : Blk w2 (w.heap.size + 1) #[.int .i64 0, .slice none 0 0, .slice none 0 0, .slice none 0 0, .int .i64 0, .int .u64 0, .int .u64 0] 55 := (show Blk _ (w.heap.size + 1) _ _ by simpa using BR.out).nx hn2 HNB0.out.2
    have yA := hA.cell
    have yR := hR.cell
    have yRf := hR.free
    have HR := hid hR
    have HNB := hid (show w.heap.size + 1 ∉ bs' from fun h => (hn2.2 _ h).elim HNB0.out.2 (fun hh => by simp at hh; omega))
    have hsz0 : w.heap.size < w2.heap.size := hA.lt
    have hsz1 : w.heap.size + 1 < w2.heap.size := hR.lt
    have HNE := hid (show w.heap.size + 1 ≠ w2.heap.size by omega)
    have HNF := hid (show w2.heap.size ∉ bs' from fun h => by have := hs2.lt h; omega)
    clear hs2 hn2 hA hR
    go_region
    all_goals go_wp2
    all_goals
      have bb := ((((((((HR.out.set 0 (.int .i64 4)).set 1 (.slice none 0 0)).set 2 (.slice (some ⟨w2.heap.size, 0, none⟩) 1 1)).set 3 (.slice none 0 0)).set 4 (.int .i64 0)).set 5 (.int .u64 0)).set 6 (.int .u64 0)).alloc (.cells #[.int .u64 a.X] 38))
      have bc := bb.cell
      refine bodyPost_ret (v := .tuple #[.int .u64 (aMakeV H (oCell a.X)), .int .i64 (aMakeE H (oCell a.X)), .agg #[.int .i64 4, .slice none 0 0, .slice (some ⟨w2.heap.size, 0, none⟩) 1 1, .slice none 0 0, .int .i64 0, .int .u64 0, .int .u64 0]]) (by simp [results, Try.results21, go_sem, bc]) rfl ?_
      have h3 := ((((((((HS2.out.out (p := ⟨w.heap.size + 1, 0, none⟩) HNB.out (.int .i64 4)).out (p := ⟨w.heap.size + 1, 1, none⟩) HNB.out (.slice none 0 0)).out (p := ⟨w.heap.size + 1, 2, none⟩) HNB.out (.slice (some ⟨w2.heap.size, 0, none⟩) 1 1)).out (p := ⟨w.heap.size + 1, 3, none⟩) HNB.out (.slice none 0 0)).out (p := ⟨w.heap.size + 1, 4, none⟩) HNB.out (.int .i64 0)).out (p := ⟨w.heap.size + 1, 5, none⟩) HNB.out (.int .u64 0)).out (p := ⟨w.heap.size + 1, 6, none⟩) HNB.out (.int .u64 0)).alloc (.cells #[.int .u64 a.X] 38)).drew
      have n3 := ((((((((HN2.out.out (p := ⟨w.heap.size + 1, 0, none⟩) (Nat.le_succ _) (.int .i64 4)).out (p := ⟨w.heap.size + 1, 1, none⟩) (Nat.le_succ _) (.slice none 0 0)).out (p := ⟨w.heap.size + 1, 2, none⟩) (Nat.le_succ _) (.slice (some ⟨w2.heap.size, 0, none⟩) 1 1)).out (p := ⟨w.heap.size + 1, 3, none⟩) (Nat.le_succ _) (.slice none 0 0)).out (p := ⟨w.heap.size + 1, 4, none⟩) (Nat.le_succ _) (.int .i64 0)).out (p := ⟨w.heap.size + 1, 5, none⟩) (Nat.le_succ _) (.int .u64 0)).out (p := ⟨w.heap.size + 1, 6, none⟩) (Nat.le_succ _) (.int .u64 0)).alloc (.cells #[.int .u64 a.X] 38)).drew
      have H3 := HA.out.nx n3
      have hnew : Blk ((((((((w2.setCell ⟨w.heap.size + 1, 0, none⟩ (.int .i64 4)).setCell ⟨w.heap.size + 1, 1, none⟩ (.slice none 0 0)).setCell ⟨w.heap.size + 1, 2, none⟩ (.slice (some ⟨w2.heap.size, 0, none⟩) 1 1)).setCell ⟨w.heap.size + 1, 3, none⟩ (.slice none 0 0)).setCell ⟨w.heap.size + 1, 4, none⟩ (.int .i64 0)).setCell ⟨w.heap.size + 1, 5, none⟩ (.int .u64 0)).setCell ⟨w.heap.size + 1, 6, none⟩ (.int .u64 0)).alloc (.cells #[.int .u64 a.X] 38)).drew w2.heap.size #[.int .u64 a.X] 38 := by
        have := (Blk.new (((((((w2.setCell ⟨w.heap.size + 1, 0, none⟩ (.int .i64 4)).setCell ⟨w.heap.size + 1, 1, none⟩ (.slice none 0 0)).setCell ⟨w.heap.size + 1, 2, none⟩ (.slice (some ⟨w2.heap.size, 0, none⟩) 1 1)).setCell ⟨w.heap.size + 1, 3, none⟩ (.slice none 0 0)).setCell ⟨w.heap.size + 1, 4, none⟩ (.int .i64 0)).setCell ⟨w.heap.size + 1, 5, none⟩ (.int .u64 0)).setCell ⟨w.heap.size + 1, 6, none⟩ (.int .u64 0)) #[.int .u64 a.X] 38)
        simp only [World.size_setCell] at this
        exact Blk.keep this rfl
      have hsl : Sl _ (fun b => b ∉ bs') (.slice (some ⟨w2.heap.size, 0, none⟩) 1 1) 1 1 [.int .u64 a.X] := ⟨rfl, _, 1, rfl, ⟨Nat.le_refl _, fun h => by cases h⟩, .inr ⟨w2.heap.size, 0, rfl, hnew.lt, HNF.out, fun i hi => by
        have hi0 : i = 0 := by omega
        subst hi0
        exact hnew.cell 0⟩⟩
      exact ⟨_, _, _, rfl, _, ⟨Sl.nil .., hsl, Sl.nil ..⟩, h3, n3⟩

end Go.Proofs.Ytjemhdepgeecjaa
