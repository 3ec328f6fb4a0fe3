/- The statements' maker of objects, on a heap of the program: the contract for whatever call. -/
import Derived.Test.YtjemhdepgeecjaaQM
import Derived.Test.YtjemhdepgeecjaaQM3
set_option linter.unusedSimpArgs false
set_option linter.unusedVariables false
namespace Go.Proofs.Ytjemhdepgeecjaa
open Go Go.RowKit

theorem item_bad {b0 : Nat} {H : AHeap} {bs : List Nat} (k n : Int) (w : World) (hp : HS w b0 H bs) (hk : ¬ (k = 7 ∨ k = 8 ∨ k = 9)) :
    Calls Try.prog 51 #[.pointer (some ⟨b0, 0, none⟩), .int .i64 k, .int .i64 n] w fun e w' => e = .returned (.tuple #[.int .u64 0, .int .i64 1]) ∧ ∃ bs', HS w' b0 H bs' ∧ Nx bs w w' bs' :=
  (item_no b0 k n w hk).mono fun e w' ⟨he, hw⟩ => ⟨he, bs, by rw [hw]; exact hp, by rw [hw]; exact (Bw.refl w).nx bs⟩

set_option maxHeartbeats 16000000 in
set_option maxRecDepth 100000 in
theorem make1_7 {b0 : Nat} {H : AHeap} {bs : List Nat} (a : AAct) (x : Value × Value × Value) (w : World) (hp : HS w b0 H bs) (ha : AOK w (fun b => b ∉ bs) a x) (m1 : a.B.length ≤ 1000000000) (m2 : a.L.length ≤ 1000000000) (m3 : a.K.length ≤ 1000000000) (hd : ¬ (0 ≤ a.Do ∧ a.Do ≤ 5)) (hkk : a.Re % 4 = 3) :
    Calls Try.prog 21 #[.pointer (some ⟨b0, 0, none⟩), actV a x] w fun e w' => ∃ vb vv vk, e = .returned (.tuple #[.int .u64 0, .int .i64 1, objV (oItem (7 + a.Re % 4) a.I) vb vv vk]) ∧ ∃ bs', OL w' (fun b => b ∉ bs') (oItem (7 + a.Re % 4) a.I) vb vv vk ∧ HS w' b0 H bs' ∧ Nx bs w w' bs' := by
  obtain ⟨vb, vl, vk⟩ := x
  have h5 : a.Re.tmod 4 = a.Re % 4 := Int.tmod_eq_emod_of_nonneg ha.r.1
  have h4 : (7 + (a.Re % 4)) ≤ 10 ∧ 7 ≤ 7 + (a.Re % 4) := by omega
  have e0 : (a.Do == 0) = false := by rw [beq_eq_false_iff_ne]; omega
  have e1 : (a.Do == 1) = false := by rw [beq_eq_false_iff_ne]; omega
  have e2 : (a.Do == 2) = false := by rw [beq_eq_false_iff_ne]; omega
  have e3 : (a.Do == 3) = false := by rw [beq_eq_false_iff_ne]; omega
  have e4 : (a.Do == 4) = false := by rw [beq_eq_false_iff_ne]; omega
  have e5 : (a.Do == 5) = false := by rw [beq_eq_false_iff_ne]; omega
  obtain ⟨a1, c1, rfl⟩ := ha.b.form
  obtain ⟨a2, c2, rfl⟩ := ha.l.form
  obtain ⟨a3, c3, rfl⟩ := ha.k.form
  have HA := hid ha
  have BW0 := hid (((Bw.refl w).alloc (.cells #[.int .i64 a.Do, .int .u64 a.V, .int .u64 a.X, .int .i64 a.I, .slice a1 a.B.length c1, .slice a2 a.L.length c2, .slice a3 a.K.length c3, .string a.Key, .int .u64 a.Re, .int .u64 a.Im] 43)).alloc (.cells #[.int .i64 0, .slice none 0 0, .slice none 0 0, .slice none 0 0, .int .i64 0, .int .u64 0, .int .u64 0] 55))
  have HS0 := hid (hp.bw BW0.out)
  have hnb0 : w.heap.size ∉ bs := fun h => by have := hp.lt h; omega
  have hnb1 : w.heap.size + 1 ∉ bs := fun h => by have := hp.lt h; omega
  have BA := hid ((Blk.new w #[.int .i64 a.Do, .int .u64 a.V, .int .u64 a.X, .int .i64 a.I, .slice a1 a.B.length c1, .slice a2 a.L.length c2, .slice a3 a.K.length c3, .string a.Key, .int .u64 a.Re, .int .u64 a.Im] 43).alloc (.cells #[.int .i64 0, .slice none 0 0, .slice none 0 0, .slice none 0 0, .int .i64 0, .int .u64 0, .int .u64 0] 55))
  have BR := hid (Blk.new (w.alloc (.cells #[.int .i64 a.Do, .int .u64 a.V, .int .u64 a.X, .int .i64 a.I, .slice a1 a.B.length c1, .slice a2 a.L.length c2, .slice a3 a.K.length c3, .string a.Key, .int .u64 a.Re, .int .u64 a.Im] 43)) #[.int .i64 0, .slice none 0 0, .slice none 0 0, .slice none 0 0, .int .i64 0, .int .u64 0, .int .u64 0] 55)
  have HNB0 := hid (And.intro hnb0 hnb1)
  have HKK := hid hkk
  clear ha hp hnb0 hnb1 hkk
  go_enter Try.func21, Try.ntmps21
  go_wp2_with (first
    | (go_at_call 51; refine (item_bad _ _ _ HS0.out (by have := HKK.out; omega)).mono ?_; rintro e w2 ⟨rfl, bs', hs2, hn2⟩))
  all_goals
    have HS2 := hid hs2
    have HN2 := hid (Bw.nxBefore BW0.out hn2)
    have hA := BA.out.nx hn2 HNB0.out.1
    have hR : Blk w2 (w.heap.size + 1) #[.int .i64 0, .slice none 0 0, .slice none 0 0, .slice none 0 0, .int .i64 0, .int .u64 0, .int .u64 0] 55 := (show Blk _ (w.heap.size + 1) _ _ by simpa using BR.out).nx hn2 HNB0.out.2
    have yA := hA.cell
    have yR := hR.cell
    have yRf := hR.free
    have HR := hid hR
    have HNB := hid (show w.heap.size + 1 ∉ bs' from fun h => (hn2.2 _ h).elim HNB0.out.2 (fun hh => by simp at hh; omega))
    have hsz0 : w.heap.size < w2.heap.size := hA.lt
    have hsz1 : w.heap.size + 1 < w2.heap.size := hR.lt
    have HNE := hid (show w.heap.size + 1 ≠ w2.heap.size by omega)
    have HNF := hid (show w2.heap.size ∉ bs' from fun h => by have := hs2.lt h; omega)
    clear hs2 hn2 hA hR
    go_region
    all_goals go_wp2
    all_goals
      have bb := (((((((HR.out.set 0 (.int .i64 (7 + a.Re % 4))).set 1 (.slice none 0 0)).set 2 (.slice none 0 0)).set 3 (.slice none 0 0)).set 4 (.int .i64 a.I)).set 5 (.int .u64 0)).set 6 (.int .u64 0))
      have bc := bb.cell
      refine bodyPost_ret (v := .tuple #[.int .u64 0, .int .i64 1, .agg #[.int .i64 (7 + a.Re % 4), .slice none 0 0, .slice none 0 0, .slice none 0 0, .int .i64 a.I, .int .u64 0, .int .u64 0]]) (by simp [results, Try.results21, go_sem, bc]) rfl ?_
      have h3 := (((((((HS2.out.out (p := ⟨w.heap.size + 1, 0, none⟩) HNB.out (.int .i64 (7 + a.Re % 4))).out (p := ⟨w.heap.size + 1, 1, none⟩) HNB.out (.slice none 0 0)).out (p := ⟨w.heap.size + 1, 2, none⟩) HNB.out (.slice none 0 0)).out (p := ⟨w.heap.size + 1, 3, none⟩) HNB.out (.slice none 0 0)).out (p := ⟨w.heap.size + 1, 4, none⟩) HNB.out (.int .i64 a.I)).out (p := ⟨w.heap.size + 1, 5, none⟩) HNB.out (.int .u64 0)).out (p := ⟨w.heap.size + 1, 6, none⟩) HNB.out (.int .u64 0)).drew
      have n3 := (((((((HN2.out.out (p := ⟨w.heap.size + 1, 0, none⟩) (Nat.le_succ _) (.int .i64 (7 + a.Re % 4))).out (p := ⟨w.heap.size + 1, 1, none⟩) (Nat.le_succ _) (.slice none 0 0)).out (p := ⟨w.heap.size + 1, 2, none⟩) (Nat.le_succ _) (.slice none 0 0)).out (p := ⟨w.heap.size + 1, 3, none⟩) (Nat.le_succ _) (.slice none 0 0)).out (p := ⟨w.heap.size + 1, 4, none⟩) (Nat.le_succ _) (.int .i64 a.I)).out (p := ⟨w.heap.size + 1, 5, none⟩) (Nat.le_succ _) (.int .u64 0)).out (p := ⟨w.heap.size + 1, 6, none⟩) (Nat.le_succ _) (.int .u64 0)).drew
      have H3 := HA.out.nx n3
      exact ⟨_, _, _, rfl, _, ⟨Sl.nil .., Sl.nil .., Sl.nil ..⟩, h3, n3⟩

theorem make1_any {b0 : Nat} {H : AHeap} {bs : List Nat} (a : AAct) (x : Value × Value × Value) (w : World) (hp : HS w b0 H bs) (ha : AOK w (fun b => b ∉ bs) a x) (m1 : a.B.length ≤ 1000000000) (m2 : a.L.length ≤ 1000000000) (m3 : a.K.length ≤ 1000000000) :
    Calls Try.prog 21 #[.pointer (some ⟨b0, 0, none⟩), actV a x] w fun e w' => ∃ vb vv vk, e = .returned (.tuple #[.int .u64 (kMakeV H a), .int .i64 (kMakeE H a), objV (mkO a) vb vv vk]) ∧ ∃ bs', OL w' (fun b => b ∉ bs') (mkO a) vb vv vk ∧ HS w' b0 (kMakeH H a) bs' ∧ Nx bs w w' bs' := by
  by_cases hr : 0 ≤ a.Do ∧ a.Do ≤ 5
  · have hb : ¬ kBad a := fun h => h.1 hr
    unfold kMakeV kMakeE kMakeH
    rw [if_neg hb, if_neg hb, if_neg hb]
    have h6 : a.Do = 0 ∨ a.Do = 1 ∨ a.Do = 2 ∨ a.Do = 3 ∨ a.Do = 4 ∨ a.Do = 5 := by omega
    rcases h6 with h | h | h | h | h | h
    · rw [show mkO a = oStr a.B by simp [mkO, h]]; exact make1_0 a x w hp ha m1 m2 m3 h
    · rw [show mkO a = oArr a.L by simp [mkO, h]]; exact make1_1 a x w hp ha m1 m2 m3 h
    · rw [show mkO a = oRec a.K a.L by simp [mkO, h]]; exact make1_2 a x w hp ha m1 m2 m3 h
    · rw [show mkO a = oCell a.X by simp [mkO, h]]; exact make1_3 a x w hp ha m1 m2 m3 h
    · rw [show mkO a = oFun a.I a.L by simp [mkO, h]]; exact make1_4 a x w hp ha m1 m2 m3 h
    · rw [show mkO a = oCplx a.Re a.Im by simp [mkO, h]]; exact make1_5 a x w hp ha m1 m2 m3 h
  · have ho : mkO a = oItem (7 + a.Re % 4) a.I := by
      unfold mkO
      rw [if_neg (by omega), if_neg (by omega), if_neg (by omega), if_neg (by omega), if_neg (by omega), if_neg (by omega)]
    by_cases h3 : a.Re % 4 = 3
    · have hb : kBad a := ⟨hr, h3⟩
      unfold kMakeV kMakeE kMakeH
      rw [if_pos hb, if_pos hb, if_pos hb, ho]
      exact make1_7 a x w hp ha m1 m2 m3 hr h3
    · have hb : ¬ kBad a := fun h => h3 h.2
      unfold kMakeV kMakeE kMakeH
      rw [if_neg hb, if_neg hb, if_neg hb, ho]
      exact make1_6 a x w hp ha m1 m2 m3 hr (by omega)

end Go.Proofs.Ytjemhdepgeecjaa
