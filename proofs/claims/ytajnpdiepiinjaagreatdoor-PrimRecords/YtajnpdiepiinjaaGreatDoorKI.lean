/- What serves PrimRecords: rows of texts beside the heap; heaps of one record; Pure's keys. -/
import Derived.Test.YtajnpdiepiinjaaGreatDoorKH
import Derived.BigQuiet
import Derived.OneCell
set_option linter.unusedSimpArgs false
set_option linter.unusedVariables false
namespace Go.Proofs.YtajnpdiepiinjaaGreatDoor
open Go Go.RowKit

theorem u_small9 {n : Int} (h : 0 ≤ n ∧ n ≤ 1000) : U n := by unfold U; omega

/-- The list o of texts, made behind the world w0, says l; none of the blocks bs is its own. -/
def InS (w0 wr : World) (bs : List Nat) (o : Value) (l : List ByteArray) : Prop :=
  wr.ownsRow 0 9 1 o l.length (l.map Value.string) ∧ ∀ b, o.ownBlock = some b → w0.heap.size ≤ b ∧ b ∉ bs

theorem InS.nx {w0 wr w' : World} {bs bs' : List Nat} {o : Value} {l : List ByteArray} (h : InS w0 wr bs o l) (hn : Nx bs wr w' bs') : InS w0 w' bs' o l :=
  ⟨own_same h.1 (fun k hk => hn.1.block k (own_lt h.1 hk) (h.2 k hk).2), fun b hb => ⟨(h.2 b hb).1, fun hm => (hn.2 b hm).elim (h.2 b hb).2 (fun hh => by have := own_lt h.1 hb; omega)⟩⟩
theorem InS.bw {w0 wr w' : World} {bs : List Nat} {o : Value} {l : List ByteArray} (h : InS w0 wr bs o l) (hb : Bw wr w') : InS w0 w' bs o l := h.nx (hb.nx bs)
theorem InS.nil (w0 wr : World) (bs : List Nat) : InS w0 wr bs (.slice none 0 0) [] := ⟨World.ownsRow_nil wr _ _ _, fun b e => by cases e⟩
theorem InS.sl {w0 wr : World} {bs : List Nat} {o : Value} {l : List ByteArray} (h : InS w0 wr bs o l) : Sl wr (fun _ => True) o l.length 1 (l.map Value.string) := own_sl h.1 (fun _ _ => trivial)
theorem InS.bwGrown {w0 w w' : World} {bs : List Nat} {o : Value} {l : List ByteArray} (h : InS w0 w bs o l) (hb : Bw w0 w) (hg : w.grownBy w' o.ownBlock) : Bw w0 w' :=
  Below.grown hb hg hb.size (fun k hk => (h.2 k hk).1)
theorem InS.grown {w0 w w' : World} {bs : List Nat} {o v' : Value} {l l' : List ByteArray} (h : InS w0 w bs o l) (hb : Bw w0 w) (hlt : ∀ b ∈ bs, b < w.heap.size)
    (how : w'.ownsRow 0 9 1 v' l'.length (l'.map Value.string)) (hvb : v'.ownBlock = o.ownBlock ∨ ∀ k, v'.ownBlock = some k → w.heap.size ≤ k) : InS w0 w' bs v' l' := by
  refine ⟨how, fun b e => ?_⟩
  rcases hvb with hv | hv
  · exact h.2 b (hv ▸ e)
  · exact ⟨Nat.le_trans hb.size (hv b e), fun hm => by have := hlt b hm; have := hv b e; omega⟩

/-- One row grows, the other stays: they are apart by their types. -/
theorem InRow.beside {w0 w w' : World} {bs : List Nat} {o v : Value} {l : List ByteArray} {k : List Int} (h : InRow w0 w bs v k) (hs : InS w0 w bs o l) (hg : w.grownBy w' o.ownBlock) : InRow w0 w' bs v k := by
  refine ⟨own_same h.1 (fun b hb => hg.block b (own_lt h.1 hb) (fun e => ?_)), h.2⟩
  rcases own_apart hs.1 h.1 (by decide) with h1 | h1
  · rw [h1] at hb; cases hb
  · exact h1 (hb.trans e)
theorem InS.beside {w0 w w' : World} {bs : List Nat} {o v : Value} {l : List ByteArray} {k : List Int} (hs : InS w0 w bs o l) (h : InRow w0 w bs v k) (hg : w.grownBy w' v.ownBlock) : InS w0 w' bs o l := by
  refine ⟨own_same hs.1 (fun b hb => hg.block b (own_lt hs.1 hb) (fun e => ?_)), hs.2⟩
  rcases own_apart h.1 hs.1 (by decide) with h1 | h1
  · rw [h1] at hb; cases hb
  · exact h1 (hb.trans e)

/-- An entry of a row of words is written. -/
theorem InRow.set {w0 w : World} {bs : List Nat} {g off n cap : Nat} {l : List Int} (h : InRow w0 w bs (.slice (some ⟨g, off, none⟩) n cap) l) {j : Nat} (hj : j < l.length) (x : Int) :
    InRow w0 (w.setCell ⟨g, off + j, none⟩ (.int .u64 x)) bs (.slice (some ⟨g, off, none⟩) n cap) (l.set j x) ∧ w.grownBy (w.setCell ⟨g, off + j, none⟩ (.int .u64 x)) (some g) ∧ w0.heap.size ≤ g ∧ g ∉ bs ∧ w.frozen? ⟨g, off + j, none⟩ = false := by
  obtain ⟨h1, h2⟩ := h
  rcases h1.2 with ⟨e, _⟩ | ⟨g', cap', cur, e, hb, hg, hnc, hm, hsz, ht⟩
  · cases e
  · cases e
    have hgb := h2 g rfl
    rw [Nat.zero_add]
    have hbk : Blk w g cur 27 := hg
    refine ⟨⟨⟨?_, .inr ⟨g, cap, cur.setIfInBounds j (.int .u64 x), by rw [List.length_set], hb, ?_, by rw [List.length_set]; exact hnc, hm, by simpa using hsz, ?_⟩⟩, h2⟩, grown_set w g j _, hgb.1, hgb.2, hbk.free j⟩
    · simp
    · exact hbk.set j _
    · rw [List.length_set, List.map_set, Array.toList_setIfInBounds, List.take_set, ht]

def R1 (O : List ByteArray) (V : List Int) : AHeap := (200, [oRec O V])
theorem r1_kk (O : List ByteArray) (V : List Int) : kk (R1 O V) 2 = 3 := rfl
theorem r1_ob (O : List ByteArray) (V : List Int) : ob (R1 O V) 2 = oRec O V := rfl
theorem rec_keys (O : List ByteArray) (V : List Int) : (oRec O V).keys = O := rfl
theorem rec_vals (O : List ByteArray) (V : List Int) : (oRec O V).vals = V := rfl
theorem r1_put (O : List ByteArray) (V : List Int) (s : ByteArray) (x : Int) (hg : gd 1 x = true) (hl : O.length ≤ 60) :
    aPutE (R1 O V) 2 s x = 0 ∧ aPutH (R1 O V) 2 s x = if 0 ≤ aKey O s then R1 O (V.set (aKey O s).toNat x) else R1 (O ++ [s]) (V ++ [x]) := by
  have h6 : O.length ≠ 256 := by omega
  have hg2 : gd (R1 O V).2.length x = true := hg
  have hi : (idxV 2).toNat = 0 := by decide
  constructor
  · unfold aPutE
    rw [r1_kk, if_pos rfl, hg2, if_pos rfl, r1_ob, rec_keys, if_neg h6]
    split <;> rfl
  · unfold aPutH
    rw [if_pos ⟨r1_kk O V, hg2⟩, r1_ob, rec_keys, if_neg h6, hi]
    split <;> rfl

theorem akey_none {O : List ByteArray} {s : ByteArray} (h : ¬ 0 ≤ aKey O s) : s ∉ O := by
  intro hm
  obtain ⟨i, hi, rfl⟩ := List.getElem_of_mem hm
  unfold aKey at h
  cases hf : O.findIdx? (fun x => decide (x = O[i])) with
  | none =>
    rw [List.findIdx?_eq_none_iff] at hf
    have := hf _ (List.getElem_mem hi)
    simp at this
  | some q => rw [hf] at h; simp at h
theorem akey_at {O : List ByteArray} (hn : O.Nodup) {k : Nat} (hk : k < O.length) : aKey O O[k] = k :=
  aKey_hit hk rfl (fun j hj e => List.pairwise_iff_getElem.1 hn j k (by omega) hk hj e)
theorem akey_take_hit {O : List ByteArray} (hn : O.Nodup) {q : Nat} (hq : q < O.length) {s : ByteArray} (h : O[q] = s) : aKey (O.take (q + 1)) s = q := by
  refine aKey_hit (by rw [List.length_take]; omega) (by simpa using h) (fun j hj e => ?_)
  have e2 : O[j]'(by omega) = O[q] := by rw [h]; simpa using e
  exact List.pairwise_iff_getElem.1 hn j q (by omega) hq hj e2
theorem akey_take_miss {O : List ByteArray} {q : Nat} (hq : q < O.length) {s : ByteArray} (h : O[q] ≠ s) : aKey (O.take (q + 1)) s = aKey (O.take q) s := by
  unfold aKey
  rw [List.take_succ_eq_append_getElem hq, List.findIdx?_append]
  cases hf : (O.take q).findIdx? (fun x => decide (x = s)) with
  | some i => simp
  | none => simp [h]

def R3 (O : List ByteArray) (V : List Int) : AHeap := (200, ([oRec O V] ++ O.map (fun s => oStr (nms s))) ++ [oArr (wds 1 O.length)])
theorem idx_ref (k : Nat) (h : k ≤ 100000) : kd (4 * (k : Int) + 2) = 2 ∧ idxV (4 * (k : Int) + 2) = k := by
  have hk : kd (4 * (k : Int) + 2) = 2 := by
    unfold kd
    repeat' split
    all_goals omega
  exact ⟨hk, by unfold idxV; rw [if_pos (.inl hk)]; omega⟩
theorem ob_at (H : AHeap) (k : Nat) (o : AObj) (hk : H.2[k]? = some o) (hl : k ≤ 100000) : kk H (4 * (k : Int) + 2) = o.kind ∧ ob H (4 * (k : Int) + 2) = o := by
  have hi := idx_ref k hl
  have hlt : k < H.2.length := (List.getElem?_eq_some_iff.1 hk).1
  unfold kk ob
  rw [hi.2]
  simp only [Int.toNat_natCast]
  rw [if_pos ⟨hi.1, by omega⟩, List.getD_eq_getElem?_getD, List.getD_eq_getElem?_getD, hk]
  exact ⟨rfl, rfl⟩
theorem r3_rec (O : List ByteArray) (V : List Int) : kk (R3 O V) 2 = 3 ∧ ob (R3 O V) 2 = oRec O V := ob_at (R3 O V) 0 (oRec O V) (by simp [R3]) (by decide)
theorem r3_str (O : List ByteArray) (V : List Int) (k : Nat) (hk : k < O.length) (hl : O.length ≤ 60) : kk (R3 O V) (4 * ((1 + k : Nat) : Int) + 2) = 1 ∧ ob (R3 O V) (4 * ((1 + k : Nat) : Int) + 2) = oStr (nms O[k]) := by
  refine ob_at (R3 O V) (1 + k) (oStr (nms O[k])) ?_ (by omega)
  show (([oRec O V] ++ O.map (fun s => oStr (nms s))) ++ [oArr (wds 1 O.length)])[1 + k]? = _
  rw [List.getElem?_append_left (by simp; omega), List.getElem?_append_right (by simp)]
  simp [hk]
theorem r3_arr (O : List ByteArray) (V : List Int) (hl : O.length ≤ 60) : kk (R3 O V) (4 * ((1 + O.length : Nat) : Int) + 2) = 2 ∧ ob (R3 O V) (4 * ((1 + O.length : Nat) : Int) + 2) = oArr (wds 1 O.length) := by
  refine ob_at (R3 O V) (1 + O.length) (oArr (wds 1 O.length)) ?_ (by omega)
  show (([oRec O V] ++ O.map (fun s => oStr (nms s))) ++ [oArr (wds 1 O.length)])[1 + O.length]? = _
  rw [List.getElem?_append_right (by simp; omega)]
  simp [Nat.add_comm]
theorem r3_at (O : List ByteArray) (V : List Int) (k : Nat) (hk : k < O.length) (hl : O.length ≤ 60) : aAtE (R3 O V) (4 * ((1 + O.length : Nat) : Int) + 2) k = 0 ∧ aAtV (R3 O V) (4 * ((1 + O.length : Nat) : Int) + 2) k = 4 * ((1 + k : Nat) : Int) + 2 := by
  have ha := r3_arr O V hl
  unfold aAtE aAtV
  rw [ha.1, ha.2, oArr_vals, wds_len]
  have e1 : ¬ ((2 : Int) = 1) := by decide
  constructor
  · rw [if_neg e1, if_pos (Or.inl rfl), if_pos ⟨by omega, by omega⟩]
  · rw [if_neg e1, if_pos (Or.inl rfl), if_pos ⟨by omega, by omega⟩]
    simpa using wds_get 1 O.length k hk
theorem r3_field (O : List ByteArray) (V : List Int) (hn : O.Nodup) (k : Nat) (hk : k < O.length) : aFieldE (R3 O V) 2 O[k] = 0 ∧ aFieldV (R3 O V) 2 O[k] = V.getD k 0 := by
  unfold aFieldE aFieldV
  rw [(r3_rec O V).1, (r3_rec O V).2, if_pos rfl, if_pos rfl, rec_keys, rec_vals, akey_at hn hk, if_pos (by omega), if_pos (by omega)]
  exact ⟨rfl, by simp⟩

section
variable {w w' : World}

set_option maxRecDepth 100000 in
set_option maxHeartbeats 2000000 in
theorem pure_keys (O : List ByteArray) (V : List Int) {b0 : Nat} {bs : List Nat} (ab : Nat) (ha : Ar w) (hp : HS w b0 (R1 O V) bs) (hl : ∀ s ∈ O, s.size ≤ 1000) (hn : O.length ≤ 60) (c0 : w.cell? ⟨ab, 0, none⟩ = some (.int .u64 2)) (hab : ab < w.heap.size) :
    Calls Tryz.prog 27 #[.pointer (some ⟨b0, 0, none⟩), .int .i64 4, .slice (some ⟨ab, 0, none⟩) 1 1] w fun e w' => e = .returned (.tuple #[.int .u64 (4 * ((1 + O.length : Nat) : Int) + 2), .int .i64 0]) ∧ ∃ bs', HS w' b0 (R3 O V) bs' ∧ Nx bs w w' bs' := by
  have HC := hid (show Calls Tryz.prog 83 #[.pointer (some ⟨b0, 0, none⟩), .int .u64 2] w fun e w' => e = .returned (.tuple #[.int .u64 (4 * ((1 + O.length : Nat) : Int) + 2), .int .i64 0]) ∧ ∃ bs', HS w' b0 (R3 O V) bs' ∧ Nx bs w w' bs' from keys_any 2 (u_small9 (by decide)) hp (r1_kk O V) O rfl hl (by omega) (show 1 ≤ 1000 by decide) (show ((1 : Nat) : Int) + O.length + 1 ≤ 200 by omega))
  have HA := hid ha
  generalize (4 * ((1 + O.length : Nat) : Int) + 2) = V' at HC ⊢
  clear hp ha hl
  go_enter Tryz.func27, Tryz.ntmps27
  go_wp2_with (first
    | (go_at_call 78; refine (Arity_any _ HA.out).mono ?_; rw [ary4]; rintro e w' ⟨rfl, hw'⟩; subst w')
    | (go_at_call 83; refine HC.out.mono ?_; rintro e w1 ⟨rfl, bs1, hs1, hn1⟩; have S1 := hid hs1; have N1 := hid hn1; clear hs1 hn1)
    | fail)
  all_goals go_ret2
  all_goals exact ⟨rfl, _, S1.out, N1.out⟩

end

end Go.Proofs.YtajnpdiepiinjaaGreatDoor
