/- The program's heap in memory, as plain data; what it shares with nothing else; how many objects, which words are good, kinds, the place of an object: the contracts. · The program's lists copied, searched for words that are not good, for keys that stand twice: the contracts. -/
import Derived.Test.YtjcoifdfemejkaaGreatDoorPAk
set_option linter.unusedSimpArgs false
set_option linter.unusedVariables false
namespace Go.Proofs.YtjcoifdfemejkaaGreatDoor
open Go Go.RowKit

/-- The seven cells of an object of the program. -/
def pcell (o : AObj) (x : Value × Value × Value) : List Value := [.int .i64 o.kind, x.1, x.2.1, x.2.2, .int .i64 o.num, .int .u64 o.re, .int .u64 o.im]
/-- The cells of all objects, their lists by the values t. -/
def pcells : List AObj → List (Value × Value × Value) → List Value
  | o :: r, t :: q => pcell o t ++ pcells r q
  | _, _ => []

theorem pcells_length : ∀ (l : List AObj) (t : List (Value × Value × Value)), t.length = l.length → (pcells l t).length = l.length * 7
  | [], _, _ => rfl
  | o :: r, [], h => by simp at h
  | o :: r, x :: q, h => by
    have := pcells_length r q (by simpa using h)
    simp only [pcells, List.length_append, this, List.length_cons]
    simp [pcell]; omega

theorem pcells_at : ∀ (l : List AObj) (t : List (Value × Value × Value)), t.length = l.length → ∀ i o x, l[i]? = some o → t[i]? = some x → ∀ j, j < 7 → (pcells l t)[i * 7 + j]? = (pcell o x)[j]?
  | [], _, _, i, o, x, h, _, _, _ => by simp at h
  | o' :: r, [], h, _, _, _, _, _, _, _ => by simp at h
  | o' :: r, x' :: q, h, i, o, x, ho, hx, j, hj => by
    have hl : (pcell o' x').length = 7 := rfl
    cases i with
    | zero =>
      simp only [List.getElem?_cons_zero, Option.some.injEq] at ho hx
      subst ho hx
      simp only [pcells, Nat.zero_mul, Nat.zero_add]
      rw [List.getElem?_append_left (by omega)]
    | succ i =>
      simp only [List.getElem?_cons_succ] at ho hx
      have := pcells_at r q (by simpa using h) i o x ho hx j hj
      simp only [pcells]
      rw [List.getElem?_append_right (by omega), hl, ← this]
      congr 1; omega

/-- The three lists of an object: rows that the heap owns. -/
def PL (w : World) (o : AObj) (x : Value × Value × Value) : Prop :=
  w.ownsRow 0 5 1 x.1 o.bytes.length (o.bytes.map (Value.int .u8)) ∧ w.ownsRow 0 9 1 x.2.1 o.keys.length (o.keys.map Value.string) ∧ w.ownsRow 0 27 1 x.2.2 o.vals.length (o.vals.map (Value.int .u64))

/-- The blocks of an object's lists. -/
def lbs (x : Value × Value × Value) : List Nat := x.1.ownBlock.toList ++ (x.2.1.ownBlock.toList ++ x.2.2.ownBlock.toList)

/-- The blocks of a heap. -/
def hbs (b0 : Nat) (vo : Value) (t : List (Value × Value × Value)) : List Nat := b0 :: (vo.ownBlock.toList ++ t.flatMap lbs)

/-- The block b0 is a heap of the program that reads as H: the row of its objects vo, their lists t; all in blocks of their own. -/
structure PH (w : World) (b0 : Nat) (H : AHeap) (vo : Value) (t : List (Value × Value × Value)) : Prop where
  blk : Blk w b0 #[.int .i64 H.1, vo] 102
  len : t.length = H.2.length
  row : w.ownsRow 0 105 7 vo H.2.length (pcells H.2 t)
  ls : ∀ (i : Nat) (o : AObj) (x : Value × Value × Value), H.2[i]? = some o → t[i]? = some x → PL w o x
  nd : (hbs b0 vo t).Nodup
  most : H.2.length ≤ H.1
  top : H.1 ≤ 65536
  ok : HOK H

/-- What is beside these blocks is as it was. -/
structure Fr (bs : List Nat) (w w' : World) : Prop where
  os : w'.os = w.os
  tape : w'.tape = w.tape
  output : w'.output = w.output
  size : w.heap.size ≤ w'.heap.size
  block : ∀ b, b < w.heap.size → b ∉ bs → w'.heap[b]? = w.heap[b]?

theorem own_same {w w' : World} {base : Nat} {e : TypeId} {size : Nat} {v : Value} {n : Nat} {xs : List Value} (h : w.ownsRow base e size v n xs) (hb : ∀ k, v.ownBlock = some k → w'.heap[k]? = w.heap[k]?) : w'.ownsRow base e size v n xs := by
  refine ⟨h.1, ?_⟩
  rcases h.2 with h | ⟨g, cap, cur, rfl, h1, h2, r⟩
  · exact .inl h
  · exact .inr ⟨g, cap, cur, rfl, h1, (hb g rfl).trans h2, r⟩

theorem own_lt {w : World} {base : Nat} {e : TypeId} {size : Nat} {v : Value} {n : Nat} {xs : List Value} (h : w.ownsRow base e size v n xs) {k : Nat} (hk : v.ownBlock = some k) : k < w.heap.size := (h.lt k hk).2

theorem PL.same {w w' : World} {o : AObj} {x : Value × Value × Value} (h : PL w o x) (hb : ∀ k ∈ lbs x, w'.heap[k]? = w.heap[k]?) : PL w' o x :=
  ⟨own_same h.1 (fun k hk => hb k (by simp [lbs, hk])), own_same h.2.1 (fun k hk => hb k (by simp [lbs, hk])), own_same h.2.2 (fun k hk => hb k (by simp [lbs, hk]))⟩
theorem PL.lt {w : World} {o : AObj} {x : Value × Value × Value} (h : PL w o x) {k : Nat} (hk : k ∈ lbs x) : k < w.heap.size := by
  simp only [lbs, List.mem_append, Option.mem_toList] at hk
  rcases hk with hk | hk | hk
  · exact own_lt h.1 hk
  · exact own_lt h.2.1 hk
  · exact own_lt h.2.2 hk

theorem PH.lt {w : World} {b0 : Nat} {H : AHeap} {vo : Value} {t : List (Value × Value × Value)} (h : PH w b0 H vo t) {k : Nat} (hk : k ∈ hbs b0 vo t) : k < w.heap.size := by
  simp only [hbs, List.mem_cons, List.mem_append, Option.mem_toList, List.mem_flatMap] at hk
  rcases hk with rfl | hk | ⟨x, hx, hk⟩
  · exact h.blk.lt
  · exact own_lt h.row hk
  · obtain ⟨i, hi, rfl⟩ := List.getElem_of_mem hx
    have hl := h.len
    exact (h.ls i _ _ (List.getElem?_eq_getElem (show i < H.2.length by omega)) (List.getElem?_eq_getElem hi)).lt hk

/-- A heap whose blocks stay stays. -/
theorem PH.same {w w' : World} {b0 : Nat} {H : AHeap} {vo : Value} {t : List (Value × Value × Value)} (h : PH w b0 H vo t) (hb : ∀ k ∈ hbs b0 vo t, w'.heap[k]? = w.heap[k]?) : PH w' b0 H vo t where
  blk := h.blk.keep (hb b0 (by simp [hbs]))
  len := h.len
  row := own_same h.row (fun k hk => hb k (by simp [hbs, hk]))
  ls := fun i o x ho hx => (h.ls i o x ho hx).same (fun k hk => hb k (by simp only [hbs, List.mem_cons, List.mem_append, List.mem_flatMap]; exact .inr (.inr ⟨x, List.mem_of_getElem? hx, hk⟩)))
  nd := h.nd
  most := h.most
  top := h.top
  ok := h.ok
theorem PH.bw {w w' : World} {b0 : Nat} {H : AHeap} {vo : Value} {t : List (Value × Value × Value)} (h : PH w b0 H vo t) (hb : Bw w w') : PH w' b0 H vo t :=
  h.same (fun k hk => hb.block k (h.lt hk))
theorem PH.ly {w w' : World} {b0 : Nat} {H : AHeap} {vo : Value} {t : List (Value × Value × Value)} (h : PH w b0 H vo t) (hb : Ly w w') : PH w' b0 H vo t := h.bw hb.bw
theorem PH.fr {w w' : World} {b0 : Nat} {H : AHeap} {vo : Value} {t : List (Value × Value × Value)} {bs : List Nat} (h : PH w b0 H vo t) (hb : Fr bs w w') (hd : ∀ k ∈ hbs b0 vo t, k ∉ bs) : PH w' b0 H vo t :=
  h.same (fun k hk => hb.block k (h.lt hk) (hd k hk))

theorem Fr.refl (bs : List Nat) (w : World) : Fr bs w w := ⟨rfl, rfl, rfl, Nat.le_refl _, fun _ _ _ => rfl⟩
theorem Bw.fr {w w' : World} (h : Bw w w') (bs : List Nat) : Fr bs w w' := ⟨h.os, h.tape, h.output, h.size, fun b hb _ => h.block b hb⟩
theorem Ly.fr {w w' : World} (h : Ly w w') (bs : List Nat) : Fr bs w w' := h.bw.fr bs
/-- What was changed behind is of the same blocks, or of new ones. -/
theorem Fr.trans {a b c : World} {bs bs' : List Nat} (h : Fr bs a b) (k : Fr bs' b c) (hs : ∀ x ∈ bs', x ∈ bs ∨ a.heap.size ≤ x) : Fr bs a c :=
  ⟨k.os.trans h.os, k.tape.trans h.tape, k.output.trans h.output, Nat.le_trans h.size k.size, fun x hx hn =>
    (k.block x (Nat.lt_of_lt_of_le hx h.size) (fun hm => (hs x hm).elim hn (fun hh => by omega))).trans (h.block x hx hn)⟩
theorem Fr.below {a b c : World} {bs : List Nat} {B : Nat} (h : Below B a b) (k : Fr bs b c) (hB : B ≤ b.heap.size) (hs : ∀ x ∈ bs, B ≤ x) : Below B a c :=
  Below.trans h ⟨k.os, k.tape, k.output, k.size, fun x hx => k.block x (by omega) (fun hm => by have := hs x hm; omega)⟩
theorem Sl.fr {w w' : World} {bs bs' : List Nat} {v : Value} {n size : Nat} {cs : List Value} (h : Sl w (fun b => b ∉ bs) v n size cs) (hf : Fr bs w w') (hs : ∀ x ∈ bs', x ∈ bs ∨ w.heap.size ≤ x) : Sl w' (fun b => b ∉ bs') v n size cs :=
  h.keep hf.size (fun b hb hg => hf.block b hb hg) (fun b hb hg hm => (hs b hm).elim hg (fun hh => by omega))

set_option maxHeartbeats 1000000 in
theorem good_any {b0 : Nat} {H : AHeap} {vo : Value} {t : List (Value × Value × Value)} (v : Int) (hU : U v) (w : World) (h : PH w b0 H vo t) :
    Calls Tryz.prog 71 #[.pointer (some ⟨b0, 0, none⟩), .int .u64 v] w fun e w' => e = .returned (.bool (gd H.2.length v)) ∧ w' = w := by
  obtain ⟨a, cap, rfl⟩ := own_form h.row
  have hm : H.2.length ≤ 9223372036854775807 := by have := h.most; have := h.top; omega
  have z := h.blk.cell
  clear h
  go_enter Tryz.func71, Tryz.ntmps71
  go_wp2_with (first
    | (go_at_call 76; refine (kind_any _ hU _).mono ?_; rintro e w' ⟨rfl, rfl⟩)
    | (go_at_call 98; refine (index_any _ hU _).mono ?_; rintro e w' ⟨rfl, rfl⟩))
  all_goals go_ret
  all_goals refine ⟨ret_bool ?_, rfl⟩
  all_goals simp_all [gd]

set_option maxHeartbeats 1000000 in
theorem count_any {b0 : Nat} {H : AHeap} {vo : Value} {t : List (Value × Value × Value)} (w : World) (h : PH w b0 H vo t) :
    Calls Tryz.prog 52 #[.pointer (some ⟨b0, 0, none⟩)] w fun e w' => e = .returned (.int .i64 H.2.length) ∧ w' = w := by
  obtain ⟨a, cap, rfl⟩ := own_form h.row
  have z := h.blk.cell
  clear h
  go_enter Tryz.func52, Tryz.ntmps52
  go_wp2
  all_goals go_ret
  all_goals exact ⟨rfl, rfl⟩

/-- Where the objects lie. -/
theorem PH.at {w : World} {b0 : Nat} {H : AHeap} {vo : Value} {t : List (Value × Value × Value)} (h : PH w b0 H vo t) {k : Nat} (hk : k < H.2.length) :
    ∃ g cap x, vo = .slice (some ⟨g, 0, none⟩) H.2.length cap ∧ t[k]? = some x ∧ g < w.heap.size ∧ (∀ j, j < 7 → w.cell? ⟨g, k * 7 + j, none⟩ = (pcell H.2[k] x)[j]?) ∧ (∀ j, w.frozen? ⟨g, j, none⟩ = false) := by
  have hl := h.len
  obtain ⟨x, hx⟩ : ∃ x, t[k]? = some x := ⟨_, List.getElem?_eq_getElem (by omega)⟩
  rcases h.row.2 with ⟨_, h0⟩ | ⟨g, cap, cur, rfl, hbg, hgg, hnc, hcm, hcs, htake⟩
  · omega
  · refine ⟨g, cap, x, rfl, hx, (Array.getElem?_eq_some_iff.1 hgg).1, fun j hj => ?_, fun j => Blk.free hgg j⟩
    rw [Blk.cell hgg, ← Array.getElem?_toList, ← pcells_at H.2 t hl k _ x (List.getElem?_eq_getElem hk) hx j hj, ← htake, List.getElem?_take, if_pos (by omega)]

set_option maxHeartbeats 1000000 in
theorem kind_h {b0 : Nat} {H : AHeap} {vo : Value} {t : List (Value × Value × Value)} (v : Int) (hU : U v) (w : World) (h : PH w b0 H vo t) :
    Calls Tryz.prog 49 #[.pointer (some ⟨b0, 0, none⟩), .int .u64 v] w fun e w' => e = .returned (.int .i64 (kk H v)) ∧ w' = w := by
  have HP := hid h
  have hm : H.2.length ≤ 9223372036854775807 := by have := h.most; have := h.top; omega
  by_cases hk : kd v = 2 ∧ idxV v < H.2.length
  · obtain ⟨k, hki⟩ : ∃ k : Nat, idxV v = k := ⟨(idxV v).toNat, by have := idx_bd v hU; omega⟩
    have hkl : k < H.2.length := by omega
    obtain ⟨g, cap, x, rfl, hx, hg, hc, hf⟩ := h.at hkl
    have hkk : kk H v = (H.2[k]).kind := by
      rw [kk, if_pos hk, hki]
      simp [List.getD, hkl]
    have hcell : w.cell? ⟨g, k * 7, none⟩ = some (.int .i64 (kk H v)) := by
      have := hc 0 (by omega)
      rw [hkk]; exact this
    have hk2 : kd v = 2 := hk.1
    have hb1 : (0 : Int) ≤ (k : Int) := by omega
    have hb2 : (k : Int) < (H.2.length : Int) := by omega
    have hgd : gd H.2.length v = true := by simp [gd, hk2, hki, hkl]
    have z := h.blk.cell
    clear hc hf hk hkk hx h
    generalize kk H v = K at hcell
    go_enter Tryz.func49, Tryz.ntmps49
    go_wp2_with (first
      | (go_at_call 76; refine (kind_any _ hU _).mono ?_; rintro e w' ⟨rfl, rfl⟩)
      | (go_at_call 71; refine (good_any _ hU _ HP.out).mono ?_; rintro e w' ⟨rfl, rfl⟩)
      | (go_at_call 98; refine (index_any _ hU _).mono ?_; rintro e w' ⟨rfl, rfl⟩))
    all_goals go_ret
    all_goals exact ⟨rfl, rfl⟩
  · rw [show kk H v = 0 from if_neg hk]
    by_cases h2 : kd v = 2
    · have hgd : gd H.2.length v = false := by simp [gd, h2]; omega
      clear hk h
      go_enter Tryz.func49, Tryz.ntmps49
      go_wp2_with (first
        | (go_at_call 76; refine (kind_any _ hU _).mono ?_; rintro e w' ⟨rfl, rfl⟩)
        | (go_at_call 71; refine (good_any _ hU _ HP.out).mono ?_; rintro e w' ⟨rfl, rfl⟩))
      all_goals go_ret
      all_goals exact ⟨rfl, rfl⟩
    · have h2b : (kd v != 2) = true := by simpa using h2
      clear hk h
      go_enter Tryz.func49, Tryz.ntmps49
      go_wp2_with (first
        | (go_at_call 76; refine (kind_any _ hU _).mono ?_; rintro e w' ⟨rfl, rfl⟩))
      all_goals go_ret
      all_goals exact ⟨rfl, rfl⟩

set_option maxHeartbeats 1000000 in
theorem find_yes (G : Nat → Prop) {b0 : Nat} {H : AHeap} {vo : Value} {t : List (Value × Value × Value)} (v : Int) (hU : U v) (sv : Value) (ks : List Int) (w : World) (h : PH w b0 H vo t)
    (hs : Sl w G sv ks.length 1 (ks.map (Value.int .i64))) (hl : ks.length ≤ 9) (h0 : (0 : Int) ∉ ks) (hk : kk H v ∈ ks) :
    Calls Tryz.prog 57 #[.pointer (some ⟨b0, 0, none⟩), .int .u64 v, sv] w fun e w' => ∃ g cap, vo = .slice (some ⟨g, 0, none⟩) H.2.length cap ∧ e = .returned (.tuple #[.pointer (some ⟨g, (idxV v).toNat * 7, none⟩), .int .i64 0]) ∧ w' = w := by
  have HP := hid h
  have HS := hid hs
  have hkr := kk_ref (H := H) (v := v) (fun e => h0 (e ▸ hk))
  have hib := idx_bd v hU
  obtain ⟨k, hki⟩ : ∃ k : Nat, idxV v = k := ⟨(idxV v).toNat, by omega⟩
  have hkl : k < H.2.length := by omega
  obtain ⟨g, cap, x, rfl, hx, hg, hc, hf⟩ := h.at hkl
  have hb1 : (0 : Int) ≤ (k : Int) := by omega
  have hb2 : (k : Int) < (H.2.length : Int) := by omega
  have hkd : decide (kk H v ∈ ks) = true := decide_eq_true hk
  have z := h.blk.cell
  clear hc hf hx h hkr hs hk h0 hib
  go_enter Tryz.func57, Tryz.ntmps57
  go_wp2_with (first
    | (go_at_call 49; refine (kind_h _ hU _ HP.out).mono ?_; rintro e w' ⟨rfl, rfl⟩)
    | (go_at_call 115; refine (ctI_any G _ ks _ _ HS.out (by omega)).mono ?_; rintro e w' ⟨rfl, rfl⟩)
    | (go_at_call 98; refine (index_any _ hU _).mono ?_; rintro e w' ⟨rfl, rfl⟩))
  all_goals go_ret2
  all_goals exact ⟨g, cap, rfl, by simp, rfl⟩

set_option maxHeartbeats 1000000 in
theorem find_no (G : Nat → Prop) {b0 : Nat} {H : AHeap} {vo : Value} {t : List (Value × Value × Value)} (v : Int) (hU : U v) (sv : Value) (ks : List Int) (w : World) (h : PH w b0 H vo t)
    (hs : Sl w G sv ks.length 1 (ks.map (Value.int .i64))) (hl : ks.length ≤ 9) (hk : kk H v ∉ ks) :
    Calls Tryz.prog 57 #[.pointer (some ⟨b0, 0, none⟩), .int .u64 v, sv] w fun e w' => e = .returned (.tuple #[.pointer none, .int .i64 8]) ∧ w' = w := by
  have HP := hid h
  have HS := hid hs
  have hkd : decide (kk H v ∈ ks) = false := decide_eq_false hk
  clear h hs hk
  go_enter Tryz.func57, Tryz.ntmps57
  go_wp2_with (first
    | (go_at_call 49; refine (kind_h _ hU _ HP.out).mono ?_; rintro e w' ⟨rfl, rfl⟩)
    | (go_at_call 115; refine (ctI_any G _ ks _ _ HS.out (by omega)).mono ?_; rintro e w' ⟨rfl, rfl⟩))
  all_goals go_ret2
  all_goals exact ⟨rfl, rfl⟩

end Go.Proofs.YtjcoifdfemejkaaGreatDoor

set_option linter.unusedSimpArgs false
set_option linter.unusedVariables false
namespace Go.Proofs.YtjcoifdfemejkaaGreatDoor
open Go Go.RowKit

theorem splice_all {α : Type} (L cs : List α) (h : cs.length = L.length) : splice L 0 cs = cs := by
  simp [splice, h]
theorem Sl.src {w : World} {G : Nat → Prop} {a : Option Addr} {cap n : Nat} {cs : List Value} (h : Sl w G (.slice a n cap) n 1 cs) (hp : 0 < cs.length) :
    ∃ ad, a = some ad ∧ ∀ j v, cs[j]? = some v → w.cell? (ad.add j) = some v := by
  have hl := h.1
  obtain ⟨b, o, rfl, hlt, _, hc⟩ := h.cellAt (by omega)
  refine ⟨_, rfl, fun j v hj => ?_⟩
  have hjl : j < cs.length := (List.getElem?_eq_some_iff.1 hj).1
  have e1 : (⟨b, o, none⟩ : Addr).add j = ⟨b, o + j, none⟩ := by
    unfold Addr.add
    split
    · rename_i h0; subst h0; rfl
    · rfl
  rw [e1, hc j (by omega), hj]

theorem bw_none {w w' : World} (h : w.grownBy w' none) : Bw w w' := Below.grown (Below.refl _ _) h (Nat.le_refl _) (fun k e => by cases e)
theorem made_row {w : World} {base g n : Nat} {e : TypeId} {xs : List Value} (h : w.ownsRow base e 1 (.slice (some ⟨g, 0, none⟩) n n) n xs) :
    ∃ L : List Value, w.heap[g]? = some (.cells L.toArray e (0, 0)) ∧ L.length = n := by
  rcases h.2 with ⟨h, _⟩ | ⟨g', cap, cur, hv, _, hg, _, _, hs, _⟩
  · cases h
  · cases hv
    exact ⟨cur.toList, by simpa using hg, by simpa using hs⟩

set_option maxHeartbeats 2000000 in
theorem cpB_any (G : Nat → Prop) (sv : Value) (n : Nat) (cs : List Value) (w : World) (h : Sl w G sv n 1 cs) (h1 : ∀ u ∈ cs, u.oneCell' = true) (hn : n ≤ 100000000) :
    Calls Tryz.prog 58 #[sv] w fun e w' => ∃ v', e = .returned v' ∧ w'.ownsRow w.heap.size 5 1 v' n cs ∧ Bw w w' := by
  have HS := hid h
  have H1 := hid h1
  have hcl : cs.length = n := by have := h.1; omega
  have HCL := hid hcl
  obtain ⟨a, cap, rfl⟩ := h.form
  obtain ⟨i, hi, hz, hs, hy⟩ := info_parts infoU8
  have hsz : (Tryz.prog.info? 5).map (·.size) = some 1 := by rw [hi]; simp [hs]
  have HI := hid (And.intro hi (And.intro hz (And.intro hs (And.intro hy hsz))))
  clear h h1 hcl hi hz hs hy hsz
  have hm : n ≤ 9223372036854775807 := by omega
  go_enter Tryz.func58, Tryz.ntmps58
  go_upto_region 2 with (first
    | (at_make; refine wpList_make_full _ rfl _ _ 46 rfl w.heap.size 5 i (.int .u8 0) 1 Tryz.underlying46 HI.out.1 HI.out.2.1 HI.out.2.2.1 _ _ _ _ n rfl rfl rfl rfl ?c4 ?c5 (Nat.le_refl _) ?_)
    | go_in)
  case c4 => rw [HI.out.2.2.2.1]; omega
  case c5 => unfold maxLen; omega
  intro W hrow0 hgr
  have hbel := hid (bw_none hgr)
  obtain ⟨L, hL, hLl⟩ := made_row hrow0
  have HL := hid hL
  have HLl := hid hLl
  have hsl := hid (HS.out.below hbel.out)
  clear hrow0 hgr hL hLl
  go_upto_region 2 with fail
  go_wp2_with (first
    | (refine wpList_copy_splice rfl (.tmp 7) (.tmp 8) 46 46 rfl 5 Tryz.underlying46 HI.out.2.2.2.2 (some ⟨w.heap.size, 0, none⟩) a n n n cap rfl rfl w.heap.size 0 L 5 HL.out cs ?c1 ?c2 ?c3 H1.out w.heap.size w hbel.out (Nat.le_refl _) ?_)
    | go_in)
  case c1 => rw [HCL.out]; exact (Nat.min_self n).symm
  case c2 => intro hp; first | exact ⟨rfl, hsl.out.src hp⟩ | exact hsl.out.src hp | exact hsl.out.src (by omega)
  case c3 => rw [HCL.out, HLl.out]; omega
  intro w2 HG2 hB2
  have hB3 := hid hB2
  clear hB2
  go_wp2
  go_ret
  refine ⟨_, rfl, ⟨by rw [HCL.out]; omega, .inr ⟨w.heap.size, n, (splice L 0 cs).toArray, rfl, Nat.le_refl _, HG2.out, Nat.le_refl _, by unfold maxLen; omega, ?_, ?_⟩⟩, hB3.out⟩
  · rw [splice_all _ _ (by rw [HCL.out, HLl.out])]
    simp [HCL.out]
  · rw [splice_all _ _ (by rw [HCL.out, HLl.out])]
    rw [List.take_of_length_le (by simp [HCL.out])]

set_option maxHeartbeats 2000000 in
theorem cpV_any (G : Nat → Prop) (sv : Value) (n : Nat) (cs : List Value) (w : World) (h : Sl w G sv n 1 cs) (h1 : ∀ u ∈ cs, u.oneCell' = true) (hn : n ≤ 100000000) :
    Calls Tryz.prog 113 #[sv] w fun e w' => ∃ v', e = .returned v' ∧ w'.ownsRow w.heap.size 27 1 v' n cs ∧ Bw w w' := by
  have HS := hid h
  have H1 := hid h1
  have hcl : cs.length = n := by have := h.1; omega
  have HCL := hid hcl
  obtain ⟨a, cap, rfl⟩ := h.form
  obtain ⟨i, hi, hz, hs, hy⟩ := info_parts infoV
  have hsz : (Tryz.prog.info? 27).map (·.size) = some 1 := by rw [hi]; simp [hs]
  have HI := hid (And.intro hi (And.intro hz (And.intro hs (And.intro hy hsz))))
  clear h h1 hcl hi hz hs hy hsz
  have hm : n ≤ 9223372036854775807 := by omega
  go_enter Tryz.func113, Tryz.ntmps113
  go_upto_region 2 with (first
    | (at_make; refine wpList_make_full _ rfl _ _ 47 rfl w.heap.size 27 i (.int .u64 0) 1 Tryz.underlying47 HI.out.1 HI.out.2.1 HI.out.2.2.1 _ _ _ _ n rfl rfl rfl rfl ?c4 ?c5 (Nat.le_refl _) ?_)
    | go_in)
  case c4 => rw [HI.out.2.2.2.1]; omega
  case c5 => unfold maxLen; omega
  intro W hrow0 hgr
  have hbel := hid (bw_none hgr)
  obtain ⟨L, hL, hLl⟩ := made_row hrow0
  have HL := hid hL
  have HLl := hid hLl
  have hsl := hid (HS.out.below hbel.out)
  clear hrow0 hgr hL hLl
  go_upto_region 2 with fail
  go_wp2_with (first
    | (refine wpList_copy_splice rfl (.tmp 7) (.tmp 8) 47 47 rfl 27 Tryz.underlying47 HI.out.2.2.2.2 (some ⟨w.heap.size, 0, none⟩) a n n n cap rfl rfl w.heap.size 0 L 27 HL.out cs ?c1 ?c2 ?c3 H1.out w.heap.size w hbel.out (Nat.le_refl _) ?_)
    | go_in)
  case c1 => rw [HCL.out]; exact (Nat.min_self n).symm
  case c2 => intro hp; first | exact ⟨rfl, hsl.out.src hp⟩ | exact hsl.out.src hp | exact hsl.out.src (by omega)
  case c3 => rw [HCL.out, HLl.out]; omega
  intro w2 HG2 hB2
  have hB3 := hid hB2
  clear hB2
  go_wp2
  go_ret
  refine ⟨_, rfl, ⟨by rw [HCL.out]; omega, .inr ⟨w.heap.size, n, (splice L 0 cs).toArray, rfl, Nat.le_refl _, HG2.out, Nat.le_refl _, by unfold maxLen; omega, ?_, ?_⟩⟩, hB3.out⟩
  · rw [splice_all _ _ (by rw [HCL.out, HLl.out])]
    simp [HCL.out]
  · rw [splice_all _ _ (by rw [HCL.out, HLl.out])]
    rw [List.take_of_length_le (by simp [HCL.out])]

set_option maxHeartbeats 2000000 in
theorem cpS_any (G : Nat → Prop) (sv : Value) (n : Nat) (cs : List Value) (w : World) (h : Sl w G sv n 1 cs) (h1 : ∀ u ∈ cs, u.oneCell' = true) (hn : n ≤ 100000000) :
    Calls Tryz.prog 112 #[sv] w fun e w' => ∃ v', e = .returned v' ∧ w'.ownsRow w.heap.size 9 1 v' n cs ∧ Bw w w' := by
  have HS := hid h
  have H1 := hid h1
  have hcl : cs.length = n := by have := h.1; omega
  have HCL := hid hcl
  obtain ⟨a, cap, rfl⟩ := h.form
  obtain ⟨i, hi, hz, hs, hy⟩ := info_parts infoS
  have hsz : (Tryz.prog.info? 9).map (·.size) = some 1 := by rw [hi]; simp [hs]
  have HI := hid (And.intro hi (And.intro hz (And.intro hs (And.intro hy hsz))))
  clear h h1 hcl hi hz hs hy hsz
  have hm : n ≤ 9223372036854775807 := by omega
  go_enter Tryz.func112, Tryz.ntmps112
  go_upto_region 2 with (first
    | (at_make; refine wpList_make_full _ rfl _ _ 48 rfl w.heap.size 9 i (.string ByteArray.empty) 1 Tryz.underlying48 HI.out.1 HI.out.2.1 HI.out.2.2.1 _ _ _ _ n rfl rfl rfl rfl ?c4 ?c5 (Nat.le_refl _) ?_)
    | go_in)
  case c4 => rw [HI.out.2.2.2.1]; omega
  case c5 => unfold maxLen; omega
  intro W hrow0 hgr
  have hbel := hid (bw_none hgr)
  obtain ⟨L, hL, hLl⟩ := made_row hrow0
  have HL := hid hL
  have HLl := hid hLl
  have hsl := hid (HS.out.below hbel.out)
  clear hrow0 hgr hL hLl
  go_upto_region 2 with fail
  go_wp2_with (first
    | (refine wpList_copy_splice rfl (.tmp 7) (.tmp 8) 48 48 rfl 9 Tryz.underlying48 HI.out.2.2.2.2 (some ⟨w.heap.size, 0, none⟩) a n n n cap rfl rfl w.heap.size 0 L 9 HL.out cs ?c1 ?c2 ?c3 H1.out w.heap.size w hbel.out (Nat.le_refl _) ?_)
    | go_in)
  case c1 => rw [HCL.out]; exact (Nat.min_self n).symm
  case c2 => intro hp; first | exact ⟨rfl, hsl.out.src hp⟩ | exact hsl.out.src hp | exact hsl.out.src (by omega)
  case c3 => rw [HCL.out, HLl.out]; omega
  intro w2 HG2 hB2
  have hB3 := hid hB2
  clear hB2
  go_wp2
  go_ret
  refine ⟨_, rfl, ⟨by rw [HCL.out]; omega, .inr ⟨w.heap.size, n, (splice L 0 cs).toArray, rfl, Nat.le_refl _, HG2.out, Nat.le_refl _, by unfold maxLen; omega, ?_, ?_⟩⟩, hB3.out⟩
  · rw [splice_all _ _ (by rw [HCL.out, HLl.out])]
    simp [HCL.out]
  · rw [splice_all _ _ (by rw [HCL.out, HLl.out])]
    rw [List.take_of_length_le (by simp [HCL.out])]

end Go.Proofs.YtjcoifdfemejkaaGreatDoor

