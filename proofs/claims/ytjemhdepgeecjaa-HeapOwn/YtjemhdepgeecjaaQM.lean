/- The statements' maker of objects, on a heap of the program: the contract. -/
import Derived.Test.YtjemhdepgeecjaaQN
import Derived.Test.YtjemhdepgeecjaaR3B
set_option linter.unusedSimpArgs false
set_option linter.unusedVariables false
namespace Go.Proofs.Ytjemhdepgeecjaa
open Go Go.RowKit

theorem HS.out {w : World} {b0 : Nat} {H : AHeap} {bs : List Nat} (h : HS w b0 H bs) {p : Addr} (hp : p.block ∉ bs) (v : Value) : HS (w.setCell p v) b0 H bs := by
  obtain ⟨vo, t, h, rfl⟩ := h
  exact ⟨vo, t, h.same (fun k hk => Below.heap_setCell w p v k (fun e => hp (e ▸ hk))), rfl⟩
theorem HS.drew {w : World} {b0 : Nat} {H : AHeap} {bs : List Nat} (h : HS w b0 H bs) : HS w.drew b0 H bs := h.bw (Bw.drew (Bw.refl _))
theorem HS.alloc {w : World} {b0 : Nat} {H : AHeap} {bs : List Nat} (h : HS w b0 H bs) (o : Obj) : HS (w.alloc o) b0 H bs := h.bw (Bw.alloc (Bw.refl _) o)
theorem Nx.out {a w : World} {bs bs' : List Nat} (h : Nx bs a w bs') {p : Addr} (hp : a.heap.size ≤ p.block) (v : Value) : Nx bs a (w.setCell p v) bs' :=
  ⟨⟨h.1.os, h.1.tape, h.1.output, by have := h.1.size; simp; omega, fun b hb hn => (Below.heap_setCell w p v b (fun e => by omega)).trans (h.1.block b hb hn)⟩, h.2⟩
theorem Nx.after {a w w' : World} {bs bs' : List Nat} (h : Nx bs a w bs') (k : Bw w w') : Nx bs a w' bs' := h.trans (k.nx bs')
theorem Nx.drew {a w : World} {bs bs' : List Nat} (h : Nx bs a w bs') : Nx bs a w.drew bs' := h.after (Bw.drew (Bw.refl _))
theorem Nx.alloc {a w : World} {bs bs' : List Nat} (h : Nx bs a w bs') (o : Obj) : Nx bs a (w.alloc o) bs' := h.after (Bw.alloc (Bw.refl _) o)
theorem AOK.nx {w w' : World} {bs bs' : List Nat} {a : AAct} {x : Value × Value × Value} (h : AOK w (fun b => b ∉ bs) a x) (k : Nx bs w w' bs') : AOK w' (fun b => b ∉ bs') a x :=
  h.keep k.1.size (fun b hb hg => k.1.block b hb hg) (fun b hb hg hm => (k.2 b hm).elim hg (fun hh => by omega))
theorem Blk.nx {w w' : World} {bs bs' : List Nat} {g : Nat} {cur : Array Value} {e : TypeId} (h : Blk w g cur e) (k : Nx bs w w' bs') (hg : g ∉ bs) : Blk w' g cur e := h.keep (k.1.block g h.lt hg)

/-- What a call makes. -/
def mkO (a : AAct) : AObj :=
  if a.Do = 0 then oStr a.B else if a.Do = 1 then oArr a.L else if a.Do = 2 then oRec a.K a.L else if a.Do = 3 then oCell a.X else if a.Do = 4 then oFun a.I a.L else if a.Do = 5 then oCplx a.Re a.Im else oItem (7 + a.Re % 4) a.I
def kBad (a : AAct) : Prop := ¬ (0 ≤ a.Do ∧ a.Do ≤ 5) ∧ a.Re % 4 = 3
instance (a : AAct) : Decidable (kBad a) := inferInstanceAs (Decidable (_ ∧ _))
def kMakeE (H : AHeap) (a : AAct) : Int := if kBad a then 1 else aMakeE H (mkO a)
def kMakeV (H : AHeap) (a : AAct) : Int := if kBad a then 0 else aMakeV H (mkO a)
def kMakeH (H : AHeap) (a : AAct) : AHeap := if kBad a then H else aMakeH H (mkO a)

set_option maxHeartbeats 16000000 in
set_option maxRecDepth 100000 in
theorem make1_0 {b0 : Nat} {H : AHeap} {bs : List Nat} (a : AAct) (x : Value × Value × Value) (w : World) (hp : HS w b0 H bs) (ha : AOK w (fun b => b ∉ bs) a x) (m1 : a.B.length ≤ 1000000000) (m2 : a.L.length ≤ 1000000000) (m3 : a.K.length ≤ 1000000000) (hd : a.Do = 0) :
    Calls Try.prog 21 #[.pointer (some ⟨b0, 0, none⟩), actV a x] w fun e w' => ∃ vb vv vk, e = .returned (.tuple #[.int .u64 (aMakeV H (oStr a.B)), .int .i64 (aMakeE H (oStr a.B)), objV (oStr a.B) vb vv vk]) ∧ ∃ bs', OL w' (fun b => b ∉ bs') (oStr a.B) vb vv vk ∧ HS w' b0 (aMakeH H (oStr a.B)) bs' ∧ Nx bs w w' bs' := by
  obtain ⟨vb, vl, vk⟩ := x
  obtain ⟨a1, c1, rfl⟩ := ha.b.form
  obtain ⟨a2, c2, rfl⟩ := ha.l.form
  obtain ⟨a3, c3, rfl⟩ := ha.k.form
  have HA := hid ha
  have BW0 := hid (((Bw.refl w).alloc (.cells #[.int .i64 0, .int .u64 a.V, .int .u64 a.X, .int .i64 a.I, .slice a1 a.B.length c1, .slice a2 a.L.length c2, .slice a3 a.K.length c3, .string a.Key, .int .u64 a.Re, .int .u64 a.Im] 43)).alloc (.cells #[.int .i64 0, .slice none 0 0, .slice none 0 0, .slice none 0 0, .int .i64 0, .int .u64 0, .int .u64 0] 55))
  have HS0 := hid (hp.bw BW0.out)
  have hnb0 : w.heap.size ∉ bs := fun h => by have := hp.lt h; omega
  have hnb1 : w.heap.size + 1 ∉ bs := fun h => by have := hp.lt h; omega
  have BA := hid ((Blk.new w #[.int .i64 0, .int .u64 a.V, .int .u64 a.X, .int .i64 a.I, .slice a1 a.B.length c1, .slice a2 a.L.length c2, .slice a3 a.K.length c3, .string a.Key, .int .u64 a.Re, .int .u64 a.Im] 43).alloc (.cells #[.int .i64 0, .slice none 0 0, .slice none 0 0, .slice none 0 0, .int .i64 0, .int .u64 0, .int .u64 0] 55))
  have BR := hid (Blk.new (w.alloc (.cells #[.int .i64 0, .int .u64 a.V, .int .u64 a.X, .int .i64 a.I, .slice a1 a.B.length c1, .slice a2 a.L.length c2, .slice a3 a.K.length c3, .string a.Key, .int .u64 a.Re, .int .u64 a.Im] 43)) #[.int .i64 0, .slice none 0 0, .slice none 0 0, .slice none 0 0, .int .i64 0, .int .u64 0, .int .u64 0] 55)
  have HNB0 := hid (And.intro hnb0 hnb1)
  clear ha hp hnb0 hnb1
  go_enter Try.func21, Try.ntmps21
  go_wp2_with (first
    | (go_at_call 32; refine (str_any (fun _ => True) _ a.B _ HS0.out (Sl.any (Sl.below HA.out.b BW0.out)) HA.out.bb (by omega)).mono ?_; rintro e w2 ⟨rfl, bs', hs2, hn2⟩))
  all_goals
    have HS2 := hid hs2
    have HN2 := hid (Bw.nxBefore BW0.out hn2)
    have hA := BA.out.nx hn2 HNB0.out.1
    have hR : Blk w2 (w.heap.size + 1) #[.int .i64 0, .slice none 0 0, .slice none 0 0, .slice none 0 0, .int .i64 0, .int .u64 0, .int .u64 0] 55 := (show Blk _ (w.heap.size + 1) _ _ by simpa using BR.out).nx hn2 HNB0.out.2
    have yA := hA.cell
    have yR := hR.cell
    have yRf := hR.free
    have HR := hid hR
    have HNB := hid (show w.heap.size + 1 ∉ bs' from fun h => (hn2.2 _ h).elim HNB0.out.2 (fun hh => by simp at hh; omega))
    have hsz0 : w.heap.size < w2.heap.size := hA.lt
    have hsz1 : w.heap.size + 1 < w2.heap.size := hR.lt
    have HNE := hid (show w.heap.size + 1 ≠ w2.heap.size by omega)
    have HNF := hid (show w2.heap.size ∉ bs' from fun h => by have := hs2.lt h; omega)
    clear hs2 hn2 hA hR
    go_region
    all_goals go_wp2
    all_goals
      have bb := (((((((HR.out.set 0 (.int .i64 1)).set 1 (.slice a1 a.B.length c1)).set 2 (.slice none 0 0)).set 3 (.slice none 0 0)).set 4 (.int .i64 0)).set 5 (.int .u64 0)).set 6 (.int .u64 0))
      have bc := bb.cell
      refine bodyPost_ret (v := .tuple #[.int .u64 (aMakeV H (oStr a.B)), .int .i64 (aMakeE H (oStr a.B)), .agg #[.int .i64 1, .slice a1 a.B.length c1, .slice none 0 0, .slice none 0 0, .int .i64 0, .int .u64 0, .int .u64 0]]) (by simp [results, Try.results21, go_sem, bc]) rfl ?_
      have h3 := (((((((HS2.out.out (p := ⟨w.heap.size + 1, 0, none⟩) HNB.out (.int .i64 1)).out (p := ⟨w.heap.size + 1, 1, none⟩) HNB.out (.slice a1 a.B.length c1)).out (p := ⟨w.heap.size + 1, 2, none⟩) HNB.out (.slice none 0 0)).out (p := ⟨w.heap.size + 1, 3, none⟩) HNB.out (.slice none 0 0)).out (p := ⟨w.heap.size + 1, 4, none⟩) HNB.out (.int .i64 0)).out (p := ⟨w.heap.size + 1, 5, none⟩) HNB.out (.int .u64 0)).out (p := ⟨w.heap.size + 1, 6, none⟩) HNB.out (.int .u64 0)).drew
      have n3 := (((((((HN2.out.out (p := ⟨w.heap.size + 1, 0, none⟩) (Nat.le_succ _) (.int .i64 1)).out (p := ⟨w.heap.size + 1, 1, none⟩) (Nat.le_succ _) (.slice a1 a.B.length c1)).out (p := ⟨w.heap.size + 1, 2, none⟩) (Nat.le_succ _) (.slice none 0 0)).out (p := ⟨w.heap.size + 1, 3, none⟩) (Nat.le_succ _) (.slice none 0 0)).out (p := ⟨w.heap.size + 1, 4, none⟩) (Nat.le_succ _) (.int .i64 0)).out (p := ⟨w.heap.size + 1, 5, none⟩) (Nat.le_succ _) (.int .u64 0)).out (p := ⟨w.heap.size + 1, 6, none⟩) (Nat.le_succ _) (.int .u64 0)).drew
      have H3 := HA.out.nx n3
      exact ⟨_, _, _, rfl, _, ⟨H3.b, Sl.nil .., Sl.nil ..⟩, h3, n3⟩

set_option maxHeartbeats 16000000 in
set_option maxRecDepth 100000 in
theorem make1_1 {b0 : Nat} {H : AHeap} {bs : List Nat} (a : AAct) (x : Value × Value × Value) (w : World) (hp : HS w b0 H bs) (ha : AOK w (fun b => b ∉ bs) a x) (m1 : a.B.length ≤ 1000000000) (m2 : a.L.length ≤ 1000000000) (m3 : a.K.length ≤ 1000000000) (hd : a.Do = 1) :
    Calls Try.prog 21 #[.pointer (some ⟨b0, 0, none⟩), actV a x] w fun e w' => ∃ vb vv vk, e = .returned (.tuple #[.int .u64 (aMakeV H (oArr a.L)), .int .i64 (aMakeE H (oArr a.L)), objV (oArr a.L) vb vv vk]) ∧ ∃ bs', OL w' (fun b => b ∉ bs') (oArr a.L) vb vv vk ∧ HS w' b0 (aMakeH H (oArr a.L)) bs' ∧ Nx bs w w' bs' := by
  obtain ⟨vb, vl, vk⟩ := x
  obtain ⟨a1, c1, rfl⟩ := ha.b.form
  obtain ⟨a2, c2, rfl⟩ := ha.l.form
  obtain ⟨a3, c3, rfl⟩ := ha.k.form
  have HA := hid ha
  have BW0 := hid (((Bw.refl w).alloc (.cells #[.int .i64 1, .int .u64 a.V, .int .u64 a.X, .int .i64 a.I, .slice a1 a.B.length c1, .slice a2 a.L.length c2, .slice a3 a.K.length c3, .string a.Key, .int .u64 a.Re, .int .u64 a.Im] 43)).alloc (.cells #[.int .i64 0, .slice none 0 0, .slice none 0 0, .slice none 0 0, .int .i64 0, .int .u64 0, .int .u64 0] 55))
  have HS0 := hid (hp.bw BW0.out)
  have hnb0 : w.heap.size ∉ bs := fun h => by have := hp.lt h; omega
  have hnb1 : w.heap.size + 1 ∉ bs := fun h => by have := hp.lt h; omega
  have BA := hid ((Blk.new w #[.int .i64 1, .int .u64 a.V, .int .u64 a.X, .int .i64 a.I, .slice a1 a.B.length c1, .slice a2 a.L.length c2, .slice a3 a.K.length c3, .string a.Key, .int .u64 a.Re, .int .u64 a.Im] 43).alloc (.cells #[.int .i64 0, .slice none 0 0, .slice none 0 0, .slice none 0 0, .int .i64 0, .int .u64 0, .int .u64 0] 55))
  have BR := hid (Blk.new (w.alloc (.cells #[.int .i64 1, .int .u64 a.V, .int .u64 a.X, .int .i64 a.I, .slice a1 a.B.length c1, .slice a2 a.L.length c2, .slice a3 a.K.length c3, .string a.Key, .int .u64 a.Re, .int .u64 a.Im] 43)) #[.int .i64 0, .slice none 0 0, .slice none 0 0, .slice none 0 0, .int .i64 0, .int .u64 0, .int .u64 0] 55)
  have HNB0 := hid (And.intro hnb0 hnb1)
  clear ha hp hnb0 hnb1
  go_enter Try.func21, Try.ntmps21
  go_wp2_with (first
    | (go_at_call 33; refine (arr_any (fun _ => True) _ a.L _ HS0.out (Sl.any (Sl.below HA.out.l BW0.out)) HA.out.lu (by omega)).mono ?_; rintro e w2 ⟨rfl, bs', hs2, hn2⟩))
  all_goals
    have HS2 := hid hs2
    have HN2 := hid (Bw.nxBefore BW0.out hn2)
    have hA := BA.out.nx hn2 HNB0.out.1
    have hR : Blk w2 (w.heap.size + 1) #[.int .i64 0, .slice none 0 0, .slice none 0 0, .slice none 0 0, .int .i64 0, .int .u64 0, .int .u64 0] 55 := (show Blk _ (w.heap.size + 1) _ _ by simpa using BR.out).nx hn2 HNB0.out.2
    have yA := hA.cell
    have yR := hR.cell
    have yRf := hR.free
    have HR := hid hR
    have HNB := hid (show w.heap.size + 1 ∉ bs' from fun h => (hn2.2 _ h).elim HNB0.out.2 (fun hh => by simp at hh; omega))
    have hsz0 : w.heap.size < w2.heap.size := hA.lt
    have hsz1 : w.heap.size + 1 < w2.heap.size := hR.lt
    have HNE := hid (show w.heap.size + 1 ≠ w2.heap.size by omega)
    have HNF := hid (show w2.heap.size ∉ bs' from fun h => by have := hs2.lt h; omega)
    clear hs2 hn2 hA hR
    go_region
    all_goals go_wp2
    all_goals
      have bb := (((((((HR.out.set 0 (.int .i64 2)).set 1 (.slice none 0 0)).set 2 (.slice a2 a.L.length c2)).set 3 (.slice none 0 0)).set 4 (.int .i64 0)).set 5 (.int .u64 0)).set 6 (.int .u64 0))
      have bc := bb.cell
      refine bodyPost_ret (v := .tuple #[.int .u64 (aMakeV H (oArr a.L)), .int .i64 (aMakeE H (oArr a.L)), .agg #[.int .i64 2, .slice none 0 0, .slice a2 a.L.length c2, .slice none 0 0, .int .i64 0, .int .u64 0, .int .u64 0]]) (by simp [results, Try.results21, go_sem, bc]) rfl ?_
      have h3 := (((((((HS2.out.out (p := ⟨w.heap.size + 1, 0, none⟩) HNB.out (.int .i64 2)).out (p := ⟨w.heap.size + 1, 1, none⟩) HNB.out (.slice none 0 0)).out (p := ⟨w.heap.size + 1, 2, none⟩) HNB.out (.slice a2 a.L.length c2)).out (p := ⟨w.heap.size + 1, 3, none⟩) HNB.out (.slice none 0 0)).out (p := ⟨w.heap.size + 1, 4, none⟩) HNB.out (.int .i64 0)).out (p := ⟨w.heap.size + 1, 5, none⟩) HNB.out (.int .u64 0)).out (p := ⟨w.heap.size + 1, 6, none⟩) HNB.out (.int .u64 0)).drew
      have n3 := (((((((HN2.out.out (p := ⟨w.heap.size + 1, 0, none⟩) (Nat.le_succ _) (.int .i64 2)).out (p := ⟨w.heap.size + 1, 1, none⟩) (Nat.le_succ _) (.slice none 0 0)).out (p := ⟨w.heap.size + 1, 2, none⟩) (Nat.le_succ _) (.slice a2 a.L.length c2)).out (p := ⟨w.heap.size + 1, 3, none⟩) (Nat.le_succ _) (.slice none 0 0)).out (p := ⟨w.heap.size + 1, 4, none⟩) (Nat.le_succ _) (.int .i64 0)).out (p := ⟨w.heap.size + 1, 5, none⟩) (Nat.le_succ _) (.int .u64 0)).out (p := ⟨w.heap.size + 1, 6, none⟩) (Nat.le_succ _) (.int .u64 0)).drew
      have H3 := HA.out.nx n3
      exact ⟨_, _, _, rfl, _, ⟨Sl.nil .., H3.l, Sl.nil ..⟩, h3, n3⟩

set_option maxHeartbeats 16000000 in
set_option maxRecDepth 100000 in
theorem make1_2 {b0 : Nat} {H : AHeap} {bs : List Nat} (a : AAct) (x : Value × Value × Value) (w : World) (hp : HS w b0 H bs) (ha : AOK w (fun b => b ∉ bs) a x) (m1 : a.B.length ≤ 1000000000) (m2 : a.L.length ≤ 1000000000) (m3 : a.K.length ≤ 1000000000) (hd : a.Do = 2) :
    Calls Try.prog 21 #[.pointer (some ⟨b0, 0, none⟩), actV a x] w fun e w' => ∃ vb vv vk, e = .returned (.tuple #[.int .u64 (aMakeV H (oRec a.K a.L)), .int .i64 (aMakeE H (oRec a.K a.L)), objV (oRec a.K a.L) vb vv vk]) ∧ ∃ bs', OL w' (fun b => b ∉ bs') (oRec a.K a.L) vb vv vk ∧ HS w' b0 (aMakeH H (oRec a.K a.L)) bs' ∧ Nx bs w w' bs' := by
  obtain ⟨vb, vl, vk⟩ := x
  obtain ⟨a1, c1, rfl⟩ := ha.b.form
  obtain ⟨a2, c2, rfl⟩ := ha.l.form
  obtain ⟨a3, c3, rfl⟩ := ha.k.form
  have HA := hid ha
  have BW0 := hid (((Bw.refl w).alloc (.cells #[.int .i64 2, .int .u64 a.V, .int .u64 a.X, .int .i64 a.I, .slice a1 a.B.length c1, .slice a2 a.L.length c2, .slice a3 a.K.length c3, .string a.Key, .int .u64 a.Re, .int .u64 a.Im] 43)).alloc (.cells #[.int .i64 0, .slice none 0 0, .slice none 0 0, .slice none 0 0, .int .i64 0, .int .u64 0, .int .u64 0] 55))
  have HS0 := hid (hp.bw BW0.out)
  have hnb0 : w.heap.size ∉ bs := fun h => by have := hp.lt h; omega
  have hnb1 : w.heap.size + 1 ∉ bs := fun h => by have := hp.lt h; omega
  have BA := hid ((Blk.new w #[.int .i64 2, .int .u64 a.V, .int .u64 a.X, .int .i64 a.I, .slice a1 a.B.length c1, .slice a2 a.L.length c2, .slice a3 a.K.length c3, .string a.Key, .int .u64 a.Re, .int .u64 a.Im] 43).alloc (.cells #[.int .i64 0, .slice none 0 0, .slice none 0 0, .slice none 0 0, .int .i64 0, .int .u64 0, .int .u64 0] 55))
  have BR := hid (Blk.new (w.alloc (.cells #[.int .i64 2, .int .u64 a.V, .int .u64 a.X, .int .i64 a.I, .slice a1 a.B.length c1, .slice a2 a.L.length c2, .slice a3 a.K.length c3, .string a.Key, .int .u64 a.Re, .int .u64 a.Im] 43)) #[.int .i64 0, .slice none 0 0, .slice none 0 0, .slice none 0 0, .int .i64 0, .int .u64 0, .int .u64 0] 55)
  have HNB0 := hid (And.intro hnb0 hnb1)
  clear ha hp hnb0 hnb1
  go_enter Try.func21, Try.ntmps21
  go_wp2_with (first
    | (go_at_call 35; refine (rec_any (fun _ => True) _ _ a.K a.L _ HS0.out (Sl.any (Sl.below HA.out.k BW0.out)) (Sl.any (Sl.below HA.out.l BW0.out)) HA.out.lu (by omega) (by omega)).mono ?_; rintro e w2 ⟨rfl, bs', hs2, hn2⟩))
  all_goals
    have HS2 := hid hs2
    have HN2 := hid (Bw.nxBefore BW0.out hn2)
    have hA := BA.out.nx hn2 HNB0.out.1
    have hR : Blk w2 (w.heap.size + 1) #[.int .i64 0, .slice none 0 0, .slice none 0 0, .slice none 0 0, .int .i64 0, .int .u64 0, .int .u64 0] 55 := (show Blk _ (w.heap.size + 1) _ _ by simpa using BR.out).nx hn2 HNB0.out.2
    have yA := hA.cell
    have yR := hR.cell
    have yRf := hR.free
    have HR := hid hR
    have HNB := hid (show w.heap.size + 1 ∉ bs' from fun h => (hn2.2 _ h).elim HNB0.out.2 (fun hh => by simp at hh; omega))
    have hsz0 : w.heap.size < w2.heap.size := hA.lt
    have hsz1 : w.heap.size + 1 < w2.heap.size := hR.lt
    have HNE := hid (show w.heap.size + 1 ≠ w2.heap.size by omega)
    have HNF := hid (show w2.heap.size ∉ bs' from fun h => by have := hs2.lt h; omega)
    clear hs2 hn2 hA hR
    go_region
    all_goals go_wp2
    all_goals
      have bb := (((((((HR.out.set 0 (.int .i64 3)).set 1 (.slice none 0 0)).set 2 (.slice a2 a.L.length c2)).set 3 (.slice a3 a.K.length c3)).set 4 (.int .i64 0)).set 5 (.int .u64 0)).set 6 (.int .u64 0))
      have bc := bb.cell
      refine bodyPost_ret (v := .tuple #[.int .u64 (aMakeV H (oRec a.K a.L)), .int .i64 (aMakeE H (oRec a.K a.L)), .agg #[.int .i64 3, .slice none 0 0, .slice a2 a.L.length c2, .slice a3 a.K.length c3, .int .i64 0, .int .u64 0, .int .u64 0]]) (by simp [results, Try.results21, go_sem, bc]) rfl ?_
      have h3 := (((((((HS2.out.out (p := ⟨w.heap.size + 1, 0, none⟩) HNB.out (.int .i64 3)).out (p := ⟨w.heap.size + 1, 1, none⟩) HNB.out (.slice none 0 0)).out (p := ⟨w.heap.size + 1, 2, none⟩) HNB.out (.slice a2 a.L.length c2)).out (p := ⟨w.heap.size + 1, 3, none⟩) HNB.out (.slice a3 a.K.length c3)).out (p := ⟨w.heap.size + 1, 4, none⟩) HNB.out (.int .i64 0)).out (p := ⟨w.heap.size + 1, 5, none⟩) HNB.out (.int .u64 0)).out (p := ⟨w.heap.size + 1, 6, none⟩) HNB.out (.int .u64 0)).drew
      have n3 := (((((((HN2.out.out (p := ⟨w.heap.size + 1, 0, none⟩) (Nat.le_succ _) (.int .i64 3)).out (p := ⟨w.heap.size + 1, 1, none⟩) (Nat.le_succ _) (.slice none 0 0)).out (p := ⟨w.heap.size + 1, 2, none⟩) (Nat.le_succ _) (.slice a2 a.L.length c2)).out (p := ⟨w.heap.size + 1, 3, none⟩) (Nat.le_succ _) (.slice a3 a.K.length c3)).out (p := ⟨w.heap.size + 1, 4, none⟩) (Nat.le_succ _) (.int .i64 0)).out (p := ⟨w.heap.size + 1, 5, none⟩) (Nat.le_succ _) (.int .u64 0)).out (p := ⟨w.heap.size + 1, 6, none⟩) (Nat.le_succ _) (.int .u64 0)).drew
      have H3 := HA.out.nx n3
      exact ⟨_, _, _, rfl, _, ⟨Sl.nil .., H3.l, H3.k⟩, h3, n3⟩

set_option maxHeartbeats 16000000 in
set_option maxRecDepth 100000 in
theorem make1_4 {b0 : Nat} {H : AHeap} {bs : List Nat} (a : AAct) (x : Value × Value × Value) (w : World) (hp : HS w b0 H bs) (ha : AOK w (fun b => b ∉ bs) a x) (m1 : a.B.length ≤ 1000000000) (m2 : a.L.length ≤ 1000000000) (m3 : a.K.length ≤ 1000000000) (hd : a.Do = 4) :
    Calls Try.prog 21 #[.pointer (some ⟨b0, 0, none⟩), actV a x] w fun e w' => ∃ vb vv vk, e = .returned (.tuple #[.int .u64 (aMakeV H (oFun a.I a.L)), .int .i64 (aMakeE H (oFun a.I a.L)), objV (oFun a.I a.L) vb vv vk]) ∧ ∃ bs', OL w' (fun b => b ∉ bs') (oFun a.I a.L) vb vv vk ∧ HS w' b0 (aMakeH H (oFun a.I a.L)) bs' ∧ Nx bs w w' bs' := by
  obtain ⟨vb, vl, vk⟩ := x
  obtain ⟨a1, c1, rfl⟩ := ha.b.form
  obtain ⟨a2, c2, rfl⟩ := ha.l.form
  obtain ⟨a3, c3, rfl⟩ := ha.k.form
  have HA := hid ha
  have BW0 := hid (((Bw.refl w).alloc (.cells #[.int .i64 4, .int .u64 a.V, .int .u64 a.X, .int .i64 a.I, .slice a1 a.B.length c1, .slice a2 a.L.length c2, .slice a3 a.K.length c3, .string a.Key, .int .u64 a.Re, .int .u64 a.Im] 43)).alloc (.cells #[.int .i64 0, .slice none 0 0, .slice none 0 0, .slice none 0 0, .int .i64 0, .int .u64 0, .int .u64 0] 55))
  have HS0 := hid (hp.bw BW0.out)
  have hnb0 : w.heap.size ∉ bs := fun h => by have := hp.lt h; omega
  have hnb1 : w.heap.size + 1 ∉ bs := fun h => by have := hp.lt h; omega
  have BA := hid ((Blk.new w #[.int .i64 4, .int .u64 a.V, .int .u64 a.X, .int .i64 a.I, .slice a1 a.B.length c1, .slice a2 a.L.length c2, .slice a3 a.K.length c3, .string a.Key, .int .u64 a.Re, .int .u64 a.Im] 43).alloc (.cells #[.int .i64 0, .slice none 0 0, .slice none 0 0, .slice none 0 0, .int .i64 0, .int .u64 0, .int .u64 0] 55))
  have BR := hid (Blk.new (w.alloc (.cells #[.int .i64 4, .int .u64 a.V, .int .u64 a.X, .int .i64 a.I, .slice a1 a.B.length c1, .slice a2 a.L.length c2, .slice a3 a.K.length c3, .string a.Key, .int .u64 a.Re, .int .u64 a.Im] 43)) #[.int .i64 0, .slice none 0 0, .slice none 0 0, .slice none 0 0, .int .i64 0, .int .u64 0, .int .u64 0] 55)
  have HNB0 := hid (And.intro hnb0 hnb1)
  clear ha hp hnb0 hnb1
  go_enter Try.func21, Try.ntmps21
  go_wp2_with (first
    | (go_at_call 34; refine (fun_any (fun _ => True) _ _ a.L _ HS0.out (Sl.any (Sl.below HA.out.l BW0.out)) HA.out.lu (by omega)).mono ?_; rintro e w2 ⟨rfl, bs', hs2, hn2⟩))
  all_goals
    have HS2 := hid hs2
    have HN2 := hid (Bw.nxBefore BW0.out hn2)
    have hA := BA.out.nx hn2 HNB0.out.1
    have hR : Blk w2 (w.heap.size + 1) #[.int .i64 0, .slice none 0 0, .slice none 0 0, .slice none 0 0, .int .i64 0, .int .u64 0, .int .u64 0] 55 := (show Blk _ (w.heap.size + 1) _ _ by simpa using BR.out).nx hn2 HNB0.out.2
    have yA := hA.cell
    have yR := hR.cell
    have yRf := hR.free
    have HR := hid hR
    have HNB := hid (show w.heap.size + 1 ∉ bs' from fun h => (hn2.2 _ h).elim HNB0.out.2 (fun hh => by simp at hh; omega))
    have hsz0 : w.heap.size < w2.heap.size := hA.lt
    have hsz1 : w.heap.size + 1 < w2.heap.size := hR.lt
    have HNE := hid (show w.heap.size + 1 ≠ w2.heap.size by omega)
    have HNF := hid (show w2.heap.size ∉ bs' from fun h => by have := hs2.lt h; omega)
    clear hs2 hn2 hA hR
    go_region
    all_goals go_wp2
    all_goals
      have bb := (((((((HR.out.set 0 (.int .i64 5)).set 1 (.slice none 0 0)).set 2 (.slice a2 a.L.length c2)).set 3 (.slice none 0 0)).set 4 (.int .i64 a.I)).set 5 (.int .u64 0)).set 6 (.int .u64 0))
      have bc := bb.cell
      refine bodyPost_ret (v := .tuple #[.int .u64 (aMakeV H (oFun a.I a.L)), .int .i64 (aMakeE H (oFun a.I a.L)), .agg #[.int .i64 5, .slice none 0 0, .slice a2 a.L.length c2, .slice none 0 0, .int .i64 a.I, .int .u64 0, .int .u64 0]]) (by simp [results, Try.results21, go_sem, bc]) rfl ?_
      have h3 := (((((((HS2.out.out (p := ⟨w.heap.size + 1, 0, none⟩) HNB.out (.int .i64 5)).out (p := ⟨w.heap.size + 1, 1, none⟩) HNB.out (.slice none 0 0)).out (p := ⟨w.heap.size + 1, 2, none⟩) HNB.out (.slice a2 a.L.length c2)).out (p := ⟨w.heap.size + 1, 3, none⟩) HNB.out (.slice none 0 0)).out (p := ⟨w.heap.size + 1, 4, none⟩) HNB.out (.int .i64 a.I)).out (p := ⟨w.heap.size + 1, 5, none⟩) HNB.out (.int .u64 0)).out (p := ⟨w.heap.size + 1, 6, none⟩) HNB.out (.int .u64 0)).drew
      have n3 := (((((((HN2.out.out (p := ⟨w.heap.size + 1, 0, none⟩) (Nat.le_succ _) (.int .i64 5)).out (p := ⟨w.heap.size + 1, 1, none⟩) (Nat.le_succ _) (.slice none 0 0)).out (p := ⟨w.heap.size + 1, 2, none⟩) (Nat.le_succ _) (.slice a2 a.L.length c2)).out (p := ⟨w.heap.size + 1, 3, none⟩) (Nat.le_succ _) (.slice none 0 0)).out (p := ⟨w.heap.size + 1, 4, none⟩) (Nat.le_succ _) (.int .i64 a.I)).out (p := ⟨w.heap.size + 1, 5, none⟩) (Nat.le_succ _) (.int .u64 0)).out (p := ⟨w.heap.size + 1, 6, none⟩) (Nat.le_succ _) (.int .u64 0)).drew
      have H3 := HA.out.nx n3
      exact ⟨_, _, _, rfl, _, ⟨Sl.nil .., H3.l, Sl.nil ..⟩, h3, n3⟩

set_option maxHeartbeats 16000000 in
set_option maxRecDepth 100000 in
theorem make1_5 {b0 : Nat} {H : AHeap} {bs : List Nat} (a : AAct) (x : Value × Value × Value) (w : World) (hp : HS w b0 H bs) (ha : AOK w (fun b => b ∉ bs) a x) (m1 : a.B.length ≤ 1000000000) (m2 : a.L.length ≤ 1000000000) (m3 : a.K.length ≤ 1000000000) (hd : a.Do = 5) :
    Calls Try.prog 21 #[.pointer (some ⟨b0, 0, none⟩), actV a x] w fun e w' => ∃ vb vv vk, e = .returned (.tuple #[.int .u64 (aMakeV H (oCplx a.Re a.Im)), .int .i64 (aMakeE H (oCplx a.Re a.Im)), objV (oCplx a.Re a.Im) vb vv vk]) ∧ ∃ bs', OL w' (fun b => b ∉ bs') (oCplx a.Re a.Im) vb vv vk ∧ HS w' b0 (aMakeH H (oCplx a.Re a.Im)) bs' ∧ Nx bs w w' bs' := by
  obtain ⟨vb, vl, vk⟩ := x
  obtain ⟨a1, c1, rfl⟩ := ha.b.form
  obtain ⟨a2, c2, rfl⟩ := ha.l.form
  obtain ⟨a3, c3, rfl⟩ := ha.k.form
  have HA := hid ha
  have BW0 := hid (((Bw.refl w).alloc (.cells #[.int .i64 5, .int .u64 a.V, .int .u64 a.X, .int .i64 a.I, .slice a1 a.B.length c1, .slice a2 a.L.length c2, .slice a3 a.K.length c3, .string a.Key, .int .u64 a.Re, .int .u64 a.Im] 43)).alloc (.cells #[.int .i64 0, .slice none 0 0, .slice none 0 0, .slice none 0 0, .int .i64 0, .int .u64 0, .int .u64 0] 55))
  have HS0 := hid (hp.bw BW0.out)
  have hnb0 : w.heap.size ∉ bs := fun h => by have := hp.lt h; omega
  have hnb1 : w.heap.size + 1 ∉ bs := fun h => by have := hp.lt h; omega
  have BA := hid ((Blk.new w #[.int .i64 5, .int .u64 a.V, .int .u64 a.X, .int .i64 a.I, .slice a1 a.B.length c1, .slice a2 a.L.length c2, .slice a3 a.K.length c3, .string a.Key, .int .u64 a.Re, .int .u64 a.Im] 43).alloc (.cells #[.int .i64 0, .slice none 0 0, .slice none 0 0, .slice none 0 0, .int .i64 0, .int .u64 0, .int .u64 0] 55))
  have BR := hid (Blk.new (w.alloc (.cells #[.int .i64 5, .int .u64 a.V, .int .u64 a.X, .int .i64 a.I, .slice a1 a.B.length c1, .slice a2 a.L.length c2, .slice a3 a.K.length c3, .string a.Key, .int .u64 a.Re, .int .u64 a.Im] 43)) #[.int .i64 0, .slice none 0 0, .slice none 0 0, .slice none 0 0, .int .i64 0, .int .u64 0, .int .u64 0] 55)
  have HNB0 := hid (And.intro hnb0 hnb1)
  clear ha hp hnb0 hnb1
  go_enter Try.func21, Try.ntmps21
  go_wp2_with (first
    | (go_at_call 50; refine (cplx_any _ _ _ HS0.out).mono ?_; rintro e w2 ⟨rfl, bs', hs2, hn2⟩))
  all_goals
    have HS2 := hid hs2
    have HN2 := hid (Bw.nxBefore BW0.out hn2)
    have hA := BA.out.nx hn2 HNB0.out.1
    have hR : Blk w2 (w.heap.size + 1) #[.int .i64 0, .slice none 0 0, .slice none 0 0, .slice none 0 0, .int .i64 0, .int .u64 0, .int .u64 0] 55 := (show Blk _ (w.heap.size + 1) _ _ by simpa using BR.out).nx hn2 HNB0.out.2
    have yA := hA.cell
    have yR := hR.cell
    have yRf := hR.free
    have HR := hid hR
    have HNB := hid (show w.heap.size + 1 ∉ bs' from fun h => (hn2.2 _ h).elim HNB0.out.2 (fun hh => by simp at hh; omega))
    have hsz0 : w.heap.size < w2.heap.size := hA.lt
    have hsz1 : w.heap.size + 1 < w2.heap.size := hR.lt
    have HNE := hid (show w.heap.size + 1 ≠ w2.heap.size by omega)
    have HNF := hid (show w2.heap.size ∉ bs' from fun h => by have := hs2.lt h; omega)
    clear hs2 hn2 hA hR
    go_region
    all_goals go_wp2
    all_goals
      have bb := (((((((HR.out.set 0 (.int .i64 6)).set 1 (.slice none 0 0)).set 2 (.slice none 0 0)).set 3 (.slice none 0 0)).set 4 (.int .i64 0)).set 5 (.int .u64 a.Re)).set 6 (.int .u64 a.Im))
      have bc := bb.cell
      refine bodyPost_ret (v := .tuple #[.int .u64 (aMakeV H (oCplx a.Re a.Im)), .int .i64 (aMakeE H (oCplx a.Re a.Im)), .agg #[.int .i64 6, .slice none 0 0, .slice none 0 0, .slice none 0 0, .int .i64 0, .int .u64 a.Re, .int .u64 a.Im]]) (by simp [results, Try.results21, go_sem, bc]) rfl ?_
      have h3 := (((((((HS2.out.out (p := ⟨w.heap.size + 1, 0, none⟩) HNB.out (.int .i64 6)).out (p := ⟨w.heap.size + 1, 1, none⟩) HNB.out (.slice none 0 0)).out (p := ⟨w.heap.size + 1, 2, none⟩) HNB.out (.slice none 0 0)).out (p := ⟨w.heap.size + 1, 3, none⟩) HNB.out (.slice none 0 0)).out (p := ⟨w.heap.size + 1, 4, none⟩) HNB.out (.int .i64 0)).out (p := ⟨w.heap.size + 1, 5, none⟩) HNB.out (.int .u64 a.Re)).out (p := ⟨w.heap.size + 1, 6, none⟩) HNB.out (.int .u64 a.Im)).drew
      have n3 := (((((((HN2.out.out (p := ⟨w.heap.size + 1, 0, none⟩) (Nat.le_succ _) (.int .i64 6)).out (p := ⟨w.heap.size + 1, 1, none⟩) (Nat.le_succ _) (.slice none 0 0)).out (p := ⟨w.heap.size + 1, 2, none⟩) (Nat.le_succ _) (.slice none 0 0)).out (p := ⟨w.heap.size + 1, 3, none⟩) (Nat.le_succ _) (.slice none 0 0)).out (p := ⟨w.heap.size + 1, 4, none⟩) (Nat.le_succ _) (.int .i64 0)).out (p := ⟨w.heap.size + 1, 5, none⟩) (Nat.le_succ _) (.int .u64 a.Re)).out (p := ⟨w.heap.size + 1, 6, none⟩) (Nat.le_succ _) (.int .u64 a.Im)).drew
      have H3 := HA.out.nx n3
      exact ⟨_, _, _, rfl, _, ⟨Sl.nil .., Sl.nil .., Sl.nil ..⟩, h3, n3⟩

set_option maxHeartbeats 16000000 in
set_option maxRecDepth 100000 in
theorem make1_6 {b0 : Nat} {H : AHeap} {bs : List Nat} (a : AAct) (x : Value × Value × Value) (w : World) (hp : HS w b0 H bs) (ha : AOK w (fun b => b ∉ bs) a x) (m1 : a.B.length ≤ 1000000000) (m2 : a.L.length ≤ 1000000000) (m3 : a.K.length ≤ 1000000000) (hd : ¬ (0 ≤ a.Do ∧ a.Do ≤ 5)) (hkk : 7 + a.Re % 4 = 7 ∨ 7 + a.Re % 4 = 8 ∨ 7 + a.Re % 4 = 9) :
    Calls Try.prog 21 #[.pointer (some ⟨b0, 0, none⟩), actV a x] w fun e w' => ∃ vb vv vk, e = .returned (.tuple #[.int .u64 (aMakeV H (oItem (7 + a.Re % 4) a.I)), .int .i64 (aMakeE H (oItem (7 + a.Re % 4) a.I)), objV (oItem (7 + a.Re % 4) a.I) vb vv vk]) ∧ ∃ bs', OL w' (fun b => b ∉ bs') (oItem (7 + a.Re % 4) a.I) vb vv vk ∧ HS w' b0 (aMakeH H (oItem (7 + a.Re % 4) a.I)) bs' ∧ Nx bs w w' bs' := by
  obtain ⟨vb, vl, vk⟩ := x
  have h5 : a.Re.tmod 4 = a.Re % 4 := Int.tmod_eq_emod_of_nonneg ha.r.1
  have h4 : (7 + (a.Re % 4)) ≤ 10 ∧ 7 ≤ 7 + (a.Re % 4) := by omega
  have e0 : (a.Do == 0) = false := by rw [beq_eq_false_iff_ne]; omega
  have e1 : (a.Do == 1) = false := by rw [beq_eq_false_iff_ne]; omega
  have e2 : (a.Do == 2) = false := by rw [beq_eq_false_iff_ne]; omega
  have e3 : (a.Do == 3) = false := by rw [beq_eq_false_iff_ne]; omega
  have e4 : (a.Do == 4) = false := by rw [beq_eq_false_iff_ne]; omega
  have e5 : (a.Do == 5) = false := by rw [beq_eq_false_iff_ne]; omega
  obtain ⟨a1, c1, rfl⟩ := ha.b.form
  obtain ⟨a2, c2, rfl⟩ := ha.l.form
  obtain ⟨a3, c3, rfl⟩ := ha.k.form
  have HA := hid ha
  have BW0 := hid (((Bw.refl w).alloc (.cells #[.int .i64 a.Do, .int .u64 a.V, .int .u64 a.X, .int .i64 a.I, .slice a1 a.B.length c1, .slice a2 a.L.length c2, .slice a3 a.K.length c3, .string a.Key, .int .u64 a.Re, .int .u64 a.Im] 43)).alloc (.cells #[.int .i64 0, .slice none 0 0, .slice none 0 0, .slice none 0 0, .int .i64 0, .int .u64 0, .int .u64 0] 55))
  have HS0 := hid (hp.bw BW0.out)
  have hnb0 : w.heap.size ∉ bs := fun h => by have := hp.lt h; omega
  have hnb1 : w.heap.size + 1 ∉ bs := fun h => by have := hp.lt h; omega
  have BA := hid ((Blk.new w #[.int .i64 a.Do, .int .u64 a.V, .int .u64 a.X, .int .i64 a.I, .slice a1 a.B.length c1, .slice a2 a.L.length c2, .slice a3 a.K.length c3, .string a.Key, .int .u64 a.Re, .int .u64 a.Im] 43).alloc (.cells #[.int .i64 0, .slice none 0 0, .slice none 0 0, .slice none 0 0, .int .i64 0, .int .u64 0, .int .u64 0] 55))
  have BR := hid (Blk.new (w.alloc (.cells #[.int .i64 a.Do, .int .u64 a.V, .int .u64 a.X, .int .i64 a.I, .slice a1 a.B.length c1, .slice a2 a.L.length c2, .slice a3 a.K.length c3, .string a.Key, .int .u64 a.Re, .int .u64 a.Im] 43)) #[.int .i64 0, .slice none 0 0, .slice none 0 0, .slice none 0 0, .int .i64 0, .int .u64 0, .int .u64 0] 55)
  have HNB0 := hid (And.intro hnb0 hnb1)
  clear ha hp hnb0 hnb1
  go_enter Try.func21, Try.ntmps21
  go_wp2_with (first
    | (go_at_call 51; refine (item_yes _ _ _ HS0.out hkk).mono ?_; rintro e w2 ⟨rfl, bs', hs2, hn2⟩))
  all_goals
    have HS2 := hid hs2
    have HN2 := hid (Bw.nxBefore BW0.out hn2)
    have hA := BA.out.nx hn2 HNB0.out.1
    have hR : Blk w2 (w.heap.size + 1) #[.int .i64 0, .slice none 0 0, .slice none 0 0, .slice none 0 0, .int .i64 0, .int .u64 0, .int .u64 0] 55 := (show Blk _ (w.heap.size + 1) _ _ by simpa using BR.out).nx hn2 HNB0.out.2
    have yA := hA.cell
    have yR := hR.cell
    have yRf := hR.free
    have HR := hid hR
    have HNB := hid (show w.heap.size + 1 ∉ bs' from fun h => (hn2.2 _ h).elim HNB0.out.2 (fun hh => by simp at hh; omega))
    have hsz0 : w.heap.size < w2.heap.size := hA.lt
    have hsz1 : w.heap.size + 1 < w2.heap.size := hR.lt
    have HNE := hid (show w.heap.size + 1 ≠ w2.heap.size by omega)
    have HNF := hid (show w2.heap.size ∉ bs' from fun h => by have := hs2.lt h; omega)
    clear hs2 hn2 hA hR
    go_region
    all_goals go_wp2
    all_goals
      have bb := (((((((HR.out.set 0 (.int .i64 (7 + a.Re % 4))).set 1 (.slice none 0 0)).set 2 (.slice none 0 0)).set 3 (.slice none 0 0)).set 4 (.int .i64 a.I)).set 5 (.int .u64 0)).set 6 (.int .u64 0))
      have bc := bb.cell
      refine bodyPost_ret (v := .tuple #[.int .u64 (aMakeV H (oItem (7 + a.Re % 4) a.I)), .int .i64 (aMakeE H (oItem (7 + a.Re % 4) a.I)), .agg #[.int .i64 (7 + a.Re % 4), .slice none 0 0, .slice none 0 0, .slice none 0 0, .int .i64 a.I, .int .u64 0, .int .u64 0]]) (by simp [results, Try.results21, go_sem, bc]) rfl ?_
      have h3 := (((((((HS2.out.out (p := ⟨w.heap.size + 1, 0, none⟩) HNB.out (.int .i64 (7 + a.Re % 4))).out (p := ⟨w.heap.size + 1, 1, none⟩) HNB.out (.slice none 0 0)).out (p := ⟨w.heap.size + 1, 2, none⟩) HNB.out (.slice none 0 0)).out (p := ⟨w.heap.size + 1, 3, none⟩) HNB.out (.slice none 0 0)).out (p := ⟨w.heap.size + 1, 4, none⟩) HNB.out (.int .i64 a.I)).out (p := ⟨w.heap.size + 1, 5, none⟩) HNB.out (.int .u64 0)).out (p := ⟨w.heap.size + 1, 6, none⟩) HNB.out (.int .u64 0)).drew
      have n3 := (((((((HN2.out.out (p := ⟨w.heap.size + 1, 0, none⟩) (Nat.le_succ _) (.int .i64 (7 + a.Re % 4))).out (p := ⟨w.heap.size + 1, 1, none⟩) (Nat.le_succ _) (.slice none 0 0)).out (p := ⟨w.heap.size + 1, 2, none⟩) (Nat.le_succ _) (.slice none 0 0)).out (p := ⟨w.heap.size + 1, 3, none⟩) (Nat.le_succ _) (.slice none 0 0)).out (p := ⟨w.heap.size + 1, 4, none⟩) (Nat.le_succ _) (.int .i64 a.I)).out (p := ⟨w.heap.size + 1, 5, none⟩) (Nat.le_succ _) (.int .u64 0)).out (p := ⟨w.heap.size + 1, 6, none⟩) (Nat.le_succ _) (.int .u64 0)).drew
      have H3 := HA.out.nx n3
      exact ⟨_, _, _, rfl, _, ⟨Sl.nil .., Sl.nil .., Sl.nil ..⟩, h3, n3⟩

end Go.Proofs.Ytjemhdepgeecjaa
