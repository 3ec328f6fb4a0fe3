/- What serves the statements over lists of calls: what is too much; lists of lists beside the heap; what a write changes. -/
import Derived.Test.YtjemhdepgeecjaaPX
import Derived.Test.YtjemhdepgeecjaaFb
set_option linter.unusedSimpArgs false
set_option linter.unusedVariables false
namespace Go.Proofs.Ytjemhdepgeecjaa
open Go Go.RowKit

def actMuch (a : AAct) : Bool := decide ((300 : Int) < (a.B.length : Int)) || decide ((300 : Int) < (a.L.length : Int)) || decide ((300 : Int) < (a.K.length : Int))

def aMuch (l : List AAct) : Bool := decide ((40 : Int) < (l.length : Int)) || l.any actMuch

theorem much_hit {l : List AAct} {k : Nat} (hk : k < l.length) (h : actMuch l[k] = true) : aMuch l = true := by
  unfold aMuch
  rw [Bool.or_eq_true]
  exact .inr (List.any_eq_true.2 ⟨_, List.getElem_mem hk, h⟩)

theorem actMuch_no {a : AAct} (h : actMuch a = false) : a.B.length ≤ 300 ∧ a.L.length ≤ 300 ∧ a.K.length ≤ 300 := by
  simp only [actMuch, Bool.or_eq_false_iff, decide_eq_false_iff_not] at h
  omega

theorem much_no {l : List AAct} (h : aMuch l = false) : l.length ≤ 40 ∧ ∀ a ∈ l, a.B.length ≤ 300 ∧ a.L.length ≤ 300 ∧ a.K.length ≤ 300 := by
  unfold aMuch at h
  rw [Bool.or_eq_false_iff] at h
  refine ⟨by have := of_decide_eq_false h.1; omega, fun a ha => actMuch_no ?_⟩
  have := List.any_eq_false.1 h.2 a ha
  simpa using this

set_option maxHeartbeats 4000000 in
theorem much_any (G : Nat → Prop) (v : Value) (l : List AAct) (w : World) (h : Acts w G v l) :
    Calls Try.prog 9 #[v] w fun e w' => e = .returned (.bool (aMuch l)) ∧ w' = w := by
  have hm := h.len
  unfold maxLen at hm
  obtain ⟨a, cap, rfl⟩ := h.form
  have HA := hid h
  clear h
  by_cases h4 : (40 : Int) < (l.length : Int)
  · have h4' : decide ((40 : Int) < (l.length : Int)) = true := decide_eq_true h4
    have HM := hid (show aMuch l = true by simp [aMuch, h4'])
    go_enter Try.func9, Try.ntmps9
    go_wp2
    all_goals go_ret
    all_goals exact ⟨ret_bool HM.out.symm, rfl⟩
  · have h4' : decide ((40 : Int) < (l.length : Int)) = false := decide_eq_false h4
    have H4 := hid h4'
    go_enter Try.func9, Try.ntmps9
    go_wp2
    go_loopw [3] (fun i wr => ∃ (k : Nat), k ≤ l.length ∧ i = .int .i64 k ∧ wr = w ∧ ∀ j (hj : j < k) (hl : j < l.length), actMuch l[j] = false) (fun i _ => l.length - (intOf i).toNat)
    case atStart => exact ⟨0, Nat.zero_le _, rfl, rfl, fun j hj => by omega⟩
    case round =>
      obtain ⟨k, hk, rfl, rfl, hd⟩ := hrel
      have HD := hid hd
      clear hd
      by_cases hlt : k < l.length
      · obtain ⟨b, off, ⟨xb, xl, xk⟩, rfl, hb, _, hc, hok⟩ := HA.out.at hlt
        have hlt' : (k : Int) < (l.length : Int) := by omega
        obtain ⟨a1, n1, rfl⟩ := hok.b.form
        obtain ⟨a2, n2, rfl⟩ := hok.l.form
        obtain ⟨a3, n3, rfl⟩ := hok.k.form
        have c4 : wr.cell? ⟨b, off + k * 10 + 4, none⟩ = some (.slice a1 l[k].B.length n1) := hc 4 (by omega)
        have c5 : wr.cell? ⟨b, off + k * 10 + 5, none⟩ = some (.slice a2 l[k].L.length n2) := hc 5 (by omega)
        have c6 : wr.cell? ⟨b, off + k * 10 + 6, none⟩ = some (.slice a3 l[k].K.length n3) := hc 6 (by omega)
        have HH := hid (fun (h : actMuch l[k] = true) => much_hit hlt h)
        have HN := hid (show actMuch l[k] = false → ∀ j (hj : j < k + 1) (hl : j < l.length), actMuch l[j] = false from fun he j hj hl => by
          by_cases hjk : j = k
          · subst hjk; exact he
          · exact HD.out j (by omega) hl)
        have m1 := hok.m1
        have m2 := hok.m2
        have m3 := hok.m3
        unfold maxLen at m1 m2 m3
        clear hc hok
        generalize l[k] = A at c4 c5 c6 HH HN m1 m2 m3
        have h3 : (decide ((300 : Int) < (A.B.length : Int)) = true) ∨ (decide ((300 : Int) < (A.B.length : Int)) = false ∧ decide ((300 : Int) < (A.L.length : Int)) = true) ∨ (decide ((300 : Int) < (A.B.length : Int)) = false ∧ decide ((300 : Int) < (A.L.length : Int)) = false ∧ decide ((300 : Int) < (A.K.length : Int)) = true) ∨ (decide ((300 : Int) < (A.B.length : Int)) = false ∧ decide ((300 : Int) < (A.L.length : Int)) = false ∧ decide ((300 : Int) < (A.K.length : Int)) = false) := by
          simp only [decide_eq_true_iff, decide_eq_false_iff_not]; omega
        rcases h3 with l1 | ⟨l1, l2⟩ | ⟨l1, l2, l3⟩ | ⟨l1, l2, l3⟩
        · have HM := hid (HH.out (by simp [actMuch, l1]))
          go_wp2
          all_goals go_ret
          all_goals exact ⟨ret_bool HM.out.symm, rfl⟩
        · have HM := hid (HH.out (by simp [actMuch, l2]))
          go_wp2
          all_goals go_ret
          all_goals exact ⟨ret_bool HM.out.symm, rfl⟩
        · have HM := hid (HH.out (by simp [actMuch, l3]))
          go_wp2
          all_goals go_ret
          all_goals exact ⟨ret_bool HM.out.symm, rfl⟩
        · have HM := hid (HN.out (by simp [actMuch, l1, l2, l3]))
          go_wp2
          go_roundw
          case rel => exact ⟨k + 1, by omega, by go_num, by first | trivial | rfl, HM.out⟩
          case measure => simp [intOf]; omega
      · have hlt' : ¬ (k : Int) < (l.length : Int) := by omega
        have HM := hid (show aMuch l = false by
          unfold aMuch
          rw [H4.out, Bool.false_or, List.any_eq_false]
          intro x hx
          obtain ⟨j, hj, rfl⟩ := List.getElem_of_mem hx
          simp [HD.out j (by omega) hj])
        go_wp2
        all_goals go_ret
        all_goals exact ⟨ret_bool HM.out.symm, rfl⟩

/-- The list o of lists, made behind the world w0, says ls; none of the blocks bs is its own. -/
def InRows (w0 wr : World) (bs : List Nat) (o : Value) (ls : List (List Int)) : Prop :=
  ∃ vs : List Value, vs.length = ls.length ∧ wr.ownsRow 0 40 1 o ls.length vs ∧ (∀ b, o.ownBlock = some b → w0.heap.size ≤ b ∧ b ∉ bs) ∧ ∀ (i : Nat) (v : Value) (l : List Int), vs[i]? = some v → ls[i]? = some l → InRow w0 wr bs v l

theorem InRows.nx {w0 wr w' : World} {bs bs' : List Nat} {o : Value} {ls : List (List Int)} (h : InRows w0 wr bs o ls) (hn : Nx bs wr w' bs') : InRows w0 w' bs' o ls := by
  obtain ⟨vs, hl, ho, hb, hv⟩ := h
  exact ⟨vs, hl, own_same ho (fun k hk => hn.1.block k (own_lt ho hk) (hb k hk).2), fun b e => ⟨(hb b e).1, fun hm => (hn.2 b hm).elim (hb b e).2 (fun hh => by have := own_lt ho e; omega)⟩, fun i v l h1 h2 => (hv i v l h1 h2).nx hn⟩

theorem InRows.bw {w0 wr w' : World} {bs : List Nat} {o : Value} {ls : List (List Int)} (h : InRows w0 wr bs o ls) (hb : Bw wr w') : InRows w0 w' bs o ls := h.nx (hb.nx bs)

theorem InRows.nil (w0 wr : World) (bs : List Nat) : InRows w0 wr bs (.slice none 0 0) [] := ⟨[], rfl, World.ownsRow_nil wr _ _ _, fun b e => (by cases e), fun i v l h => by simp at h⟩

theorem infoVs : (Try.prog.info? 40).map (fun i => (i.zero, i.size, i.bytes)) = some (some (.slice none 0 0), 1, 24) := by kernel_rfl

/-- A list appended to a list of lists. -/
theorem InRows.grown {w0 w w' : World} {bs : List Nat} {o v v' : Value} {vs : List Value} {ls : List (List Int)} {l : List Int} (hl : vs.length = ls.length) (ho : w.ownsRow 0 40 1 o ls.length vs) (hob : ∀ b, o.ownBlock = some b → w0.heap.size ≤ b ∧ b ∉ bs)
    (hv : ∀ (i : Nat) (v : Value) (l : List Int), vs[i]? = some v → ls[i]? = some l → InRow w0 w bs v l) (hn : InRow w0 w bs v l) (hb : Bw w0 w) (hlt : ∀ b ∈ bs, b < w.heap.size) (how : w'.ownsRow 0 40 1 v' (ls.length + 1) (vs ++ [v])) (hg : w.grownBy w' o.ownBlock)
    (hvb : v'.ownBlock = o.ownBlock ∨ ∀ k, v'.ownBlock = some k → w.heap.size ≤ k) : InRows w0 w' bs v' (ls ++ [l]) := by
  have hkeep : ∀ v l, InRow w0 w bs v l → InRow w0 w' bs v l := fun v l h => ⟨h.1.kept hg (own_apart ho h.1 (by decide)), h.2⟩
  refine ⟨vs ++ [v], by simp [hl], by simpa using how, fun b e => ?_, fun i u k h1 h2 => ?_⟩
  · rcases hvb with hv | hv
    · exact hob b (hv ▸ e)
    · exact ⟨Nat.le_trans hb.size (hv b e), fun hm => by have := hlt b hm; have := hv b e; omega⟩
  · by_cases hi : i < vs.length
    · rw [List.getElem?_append_left hi] at h1
      rw [List.getElem?_append_left (by omega)] at h2
      exact hkeep _ _ (hv i u k h1 h2)
    · rw [List.getElem?_append_right (by omega)] at h1
      rw [List.getElem?_append_right (by omega)] at h2
      have h0 : i - vs.length = 0 := by
        cases h3 : i - vs.length with
        | zero => rfl
        | succ n => rw [h3] at h1; simp at h1
      rw [h0] at h1
      rw [← hl, h0] at h2
      simp at h1 h2
      subst h1 h2
      exact hkeep _ _ hn

/-- A reference is 4 times its index, and 2. -/
theorem ref_eq {v : Int} (h : kd v = 2) : v = 4 * idxV v + 2 := by
  have h1 : idxV v = v / 4 := by unfold idxV; rw [if_pos (.inl h)]
  rw [h1]
  unfold kd at h
  split at h
  · omega
  · split at h
    · split at h <;> omega
    · split at h
      · omega
      · omega

/-- The other objects are as they were. -/
theorem set_other {H : AHeap} {v i x : Int} {k : Nat} (hk : k < H.2.length) (hl : k ≤ 65536) (hU : U v) (hne : v ≠ 4 * (k : Int) + 2) : kk (aSetH H v i x) (4 * (k : Int) + 2) = kk H (4 * (k : Int) + 2) ∧ ob (aSetH H v i x) (4 * (k : Int) + 2) = ob H (4 * (k : Int) + 2) := by
  unfold aSetH
  split
  · rename_i h
    have hr := kk_ref (H := H) (v := v) (by omega)
    have hi : (idxV v).toNat ≠ k := by
      have := ref_eq hr.1
      have := idx_bd v hU
      omega
    unfold kk ob
    rw [idx_refN hl]
    simp [List.getD, List.getElem?_set_ne hi]
  · exact ⟨rfl, rfl⟩

theorem set_fail {H : AHeap} {v i x : Int} (h : aSetE H v i x ≠ 0) : aSetH H v i x = H := by
  unfold aSetH
  rw [if_neg]
  rintro ⟨h1, h2, h3⟩
  apply h
  unfold aSetE
  rw [if_pos h1, if_pos h2, if_pos h3]

theorem aList_same {H H' : AHeap} {v : Int} (h1 : kk H' v = kk H v) (h2 : ob H' v = ob H v) : aList H' v = aList H v := by
  unfold aList aLen aAtV
  rw [h1, h2]

theorem set_done {H : AHeap} {v i x : Int} (hU : U v) (h : aSetE H v i x = 0) (hl : ∀ o ∈ H.2, o.vals.length ≤ 400) :
    (aList (aSetH H v i x) v).length = (aList H v).length ∧ 0 ≤ i ∧ i.toNat < (aList (aSetH H v i x) v).length ∧ (aList (aSetH H v i x) v).getD i.toNat 0 = x := by
  unfold aSetE at h
  by_cases h1 : kk H v = 2 ∨ kk H v = 4
  · rw [if_pos h1] at h
    by_cases h2 : gd H.2.length x = true
    · rw [if_pos h2] at h
      by_cases h3 : 0 ≤ i ∧ i < (ob H v).vals.length
      · have hr := kk_ref (H := H) (v := v) (by omega)
        have hg := ob_get (H := H) hU hr.2.1
        have hlt : (idxV v).toNat < H.2.length := (List.getElem?_eq_some_iff.1 hg.1).1
        have hH : aSetH H v i x = (H.1, H.2.set (idxV v).toNat (withVals (ob H v) ((ob H v).vals.set i.toNat x))) := if_pos ⟨h1, h2, h3⟩
        have ho : ob (aSetH H v i x) v = withVals (ob H v) ((ob H v).vals.set i.toNat x) := by
          rw [hH]; unfold ob; simp [List.getD, hlt]
        have hk : kk (aSetH H v i x) v = kk H v := by
          have e1 : kk (aSetH H v i x) v = (ob (aSetH H v i x) v).kind := by
            unfold kk
            rw [if_pos ⟨hr.1, by rw [hH]; simpa using hr.2.1⟩]
            rfl
          rw [e1, ho, hr.2.2]
          rfl
        have hle : (ob H v).vals.length ≤ 400 := hl _ (List.mem_of_getElem? hg.1)
        have a1 : aList H v = (ob H v).vals := aList_vals h1 hle
        have a2 : aList (aSetH H v i x) v = (ob H v).vals.set i.toNat x := by
          have e2 : (ob (aSetH H v i x) v).vals = (ob H v).vals.set i.toNat x := by rw [ho]; rfl
          rw [aList_vals (by rw [hk]; exact h1) (by rw [e2]; simpa using hle), e2]
        rw [a1, a2]
        refine ⟨by simp, h3.1, by simp; omega, ?_⟩
        have : i.toNat < (ob H v).vals.length := by omega
        simp [List.getD, this]
      · rw [if_neg h3] at h; omega
    · rw [if_neg h2] at h; omega
  · rw [if_neg h1] at h; omega

/-- How many values an object has, over all of a heap. -/
def Short (H : AHeap) : Prop := ∀ o ∈ H.2, o.vals.length ≤ 300

theorem Short.make {H : AHeap} {a : AAct} (h : Short H) (hl : a.L.length ≤ 300) : Short (kMakeH H a) := by
  unfold kMakeH
  split
  · exact h
  · unfold aMakeH
    split
    · intro o ho
      rw [List.mem_append, List.mem_singleton] at ho
      rcases ho with ho | rfl
      · exact h o ho
      · unfold mkO
        split
        · exact Nat.zero_le _
        split
        · exact hl
        split
        · exact hl
        split
        · exact (by decide : 1 ≤ 300)
        split
        · exact hl
        split
        · exact Nat.zero_le _
        · exact Nat.zero_le _
    · exact h

theorem kMakeH_most (H : AHeap) (a : AAct) : (kMakeH H a).1 = H.1 := by
  unfold kMakeH aMakeH
  split
  · rfl
  · split <;> rfl

theorem aSetH_len (H : AHeap) (v i x : Int) : (aSetH H v i x).2.length = H.2.length := by
  unfold aSetH
  split <;> simp

end Go.Proofs.Ytjemhdepgeecjaa
