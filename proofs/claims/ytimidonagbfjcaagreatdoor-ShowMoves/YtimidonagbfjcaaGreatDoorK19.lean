/- The statements' moved: a word with its reference moved; a world while it is built. · A copied object while its words are moved. -/
import Derived.Test.YtimidonagbfjcaaGreatDoorK18
import Derived.Deep.RegionHeld3
set_option linter.unusedSimpArgs false
set_option linter.unusedVariables false
namespace Go.Proofs.YtimidonagbfjcaaGreatDoor
open Go Go.RowKit

set_option maxHeartbeats 4000000 in
theorem moved_any (n : Nat) (hn : n ≤ 19) (v : Int) (hv : U v) (w : World) :
    Calls Tryz.prog 8 #[.int .u64 v, .int .i64 n] w fun e w' => e = .returned (.int .u64 (mv n v)) ∧ w' = w := by
  have h0 : 0 ≤ v := hv.1
  have h1 : v ≤ 18446744073709551615 := by have := hv.2; omega
  have hd := tdiv4 v hv
  have ht : v.tmod 4 = v % 4 := Int.tmod_eq_emod_of_nonneg h0
  go_enter Tryz.func8, Tryz.ntmps8
  go_wp2
  all_goals go_ret
  all_goals (try simp only [ne_eq, bne_iff_ne, bne_eq_false_iff_eq] at *)
  all_goals refine ⟨ret_int ?_, trivial⟩
  all_goals
    first
    | exact (mv_yes (by omega)).symm
    | exact (mv_no (by omega)).symm

/-- The lists of an object, each alone in a block behind base. -/
structure Rw (w : World) (base : Nat) (o : AObj) (x : Value × Value × Value) : Prop where
  r1 : w.ownsRow base 5 1 x.1 o.bytes.length (o.bytes.map (Value.int .u8))
  r2 : w.ownsRow base 27 1 x.2.1 o.vals.length (o.vals.map (Value.int .u64))
  r3 : w.ownsRow base 9 1 x.2.2 o.keys.length (o.keys.map Value.string)

theorem Rw.bw {w w' : World} {base : Nat} {o : AObj} {x : Value × Value × Value} (h : Rw w base o x) (hb : Bw w w') : Rw w' base o x := ⟨own_bw h.r1 hb, own_bw h.r2 hb, own_bw h.r3 hb⟩

theorem Rw.base {w : World} {base base' : Nat} {o : AObj} {x : Value × Value × Value} (h : Rw w base o x) (hb : base' ≤ base) : Rw w base' o x := ⟨own_base h.r1 hb, own_base h.r2 hb, own_base h.r3 hb⟩

theorem Rw.grown {w w' : World} {base : Nat} {o : AObj} {x : Value × Value × Value} {e : TypeId} {size n : Nat} {v : Value} {xs : List Value} (h : Rw w base o x) (hr : w.ownsRow base e size v n xs) (h5 : e ≠ 5) (hV : e ≠ 27) (h9 : e ≠ 9) (hg : w.grownBy w' v.ownBlock) : Rw w' base o x :=
  ⟨h.r1.kept hg (own_apart hr h.r1 h5), h.r2.kept hg (own_apart hr h.r2 hV), h.r3.kept hg (own_apart hr h.r3 h9)⟩

theorem Rw.set {w : World} {base : Nat} {o : AObj} {x : Value × Value × Value} (h : Rw w base o x) {p : Addr} (hp : p.block < base) (v : Value) : Rw (w.setCell p v) base o x :=
  ⟨ownsRow_setCell_below h.r1 hp v, ownsRow_setCell_below h.r2 hp v, ownsRow_setCell_below h.r3 hp v⟩

theorem Rw.ol {w : World} {base : Nat} {o : AObj} {x : Value × Value × Value} (h : Rw w base o x) : OL w (fun _ => True) o x.1 x.2.1 x.2.2 :=
  ⟨own_sl h.r1 (fun _ _ => trivial), own_sl h.r2 (fun _ _ => trivial), own_sl h.r3 (fun _ _ => trivial)⟩

theorem Rw.one {w : World} {base : Nat} {o : AObj} {x : Value × Value × Value} (h : Rw w base o x) : x.1.oneCell' = true ∧ x.2.1.oneCell' = true ∧ x.2.2.oneCell' = true := by
  obtain ⟨_, _, e1⟩ := own_form h.r1
  obtain ⟨_, _, e2⟩ := own_form h.r2
  obtain ⟨_, _, e3⟩ := own_form h.r3
  rw [e1, e2, e3]
  exact ⟨rfl, rfl, rfl⟩

theorem Rw.nil (w : World) (base : Nat) (i : Nat) : Rw w base (cob i) (.slice none 0 0, .slice none 0 0, .slice none 0 0) :=
  ⟨World.ownsRow_nil w _ _ _, World.ownsRow_nil w _ _ _, World.ownsRow_nil w _ _ _⟩

/-- The cells of entries that are written. -/
def wcells : List (Int × Int × Int) → List Value
  | x :: r => .int .u64 x.1 :: .int .i64 x.2.1 :: .int .u64 x.2.2 :: wcells r
  | [] => []

theorem wcells_snoc : ∀ (l : List (Int × Int × Int)) (x : Int × Int × Int), wcells (l ++ [x]) = wcells l ++ [.int .u64 x.1, .int .i64 x.2.1, .int .u64 x.2.2]
  | [], x => rfl
  | y :: r, x => by simp only [List.cons_append, wcells, wcells_snoc r x]

theorem wcells_at : ∀ (l : List (Int × Int × Int)) (i : Nat) (hi : i < l.length), (wcells l)[i * 3]? = some (.int .u64 l[i].1) ∧ (wcells l)[i * 3 + 1]? = some (.int .i64 l[i].2.1) ∧ (wcells l)[i * 3 + 2]? = some (.int .u64 l[i].2.2)
  | [], i, hi => absurd hi (by simp)
  | y :: r, 0, hi => ⟨rfl, rfl, rfl⟩
  | y :: r, i + 1, hi => by
    have h := wcells_at r i (by simpa using hi)
    have e : (i + 1) * 3 = i * 3 + 3 := by omega
    rw [e]
    simpa [wcells] using h

/-- A world m in a variable at b8, while it is built: its objects Ms, its entries Xs. -/
structure MS (w wc : World) (b8 : Nat) (vo vw va vb : Value) (Ms : List AObj) (Xs : List (Int × Int × Int)) (t : List (Value × Value × Value)) : Prop where
  k : Blk wc b8 #[vo, vw] 25
  k3 : Blk wc w.heap.size #[va, vb] 25
  bw : Bw w wc
  g8 : w.heap.size < b8
  ht : t.length = Ms.length
  ro : wc.ownsRow (b8 + 1) 34 7 vo Ms.length (hcells Ms t)
  rw' : wc.ownsRow (b8 + 1) 38 3 vw Xs.length (wcells Xs)
  ol : ∀ (i : Nat) (o : AObj) (x : Value × Value × Value), Ms[i]? = some o → t[i]? = some x → Rw wc (b8 + 1) o x

theorem MS.on {w wc w' : World} {b8 : Nat} {vo vw va vb : Value} {Ms : List AObj} {Xs : List (Int × Int × Int)} {t : List (Value × Value × Value)} (h : MS w wc b8 vo vw va vb Ms Xs t) (hb : Bw wc w') : MS w w' b8 vo vw va vb Ms Xs t :=
  ⟨h.k.bw hb, h.k3.bw hb, h.bw.trans hb, h.g8, h.ht, own_bw h.ro hb, own_bw h.rw' hb, fun i o x ho hx => (h.ol i o x ho hx).bw hb⟩

/-- An object more. -/
theorem MS.push {w wc w6 : World} {b8 : Nat} {vo vw va vb v6 : Value} {Ms : List AObj} {Xs : List (Int × Int × Int)} {t : List (Value × Value × Value)} {o : AObj} {x : Value × Value × Value} (h : MS w wc b8 vo vw va vb Ms Xs t) (hx : Rw wc (b8 + 1) o x)
    (how : w6.ownsRow (b8 + 1) 34 7 v6 (Ms.length + 1) (hcells Ms t ++ ocells o x.1 x.2.1 x.2.2)) (hg : wc.grownBy w6 vo.ownBlock) : Blk w6 b8 #[vo, vw] 25 ∧ MS w (w6.setCell ⟨b8, 0, none⟩ v6) b8 v6 vw va vb (Ms ++ [o]) Xs (t ++ [x]) := by
  have k := h.k.grownOwn h.ro (by decide) hg
  have k3 := h.k3.grownOwn h.ro (by decide) hg
  have hl : (⟨b8, 0, none⟩ : Addr).block < b8 + 1 := Nat.lt_succ_self _
  refine ⟨k, by simpa using k.set 0 v6, k3.keep (Below.heap_setCell w6 ⟨b8, 0, none⟩ v6 _ (by have := h.g8; simp; omega)), Bw.setCell (bw_grown h.bw (by have := h.g8; omega) h.ro hg) (by have := h.g8; simp; omega) _, h.g8, by simp [h.ht], ?_, ?_, fun i o' x' ho' hx' => ?_⟩
  · rw [hcells_snoc _ _ _ _ h.ht, List.length_append, List.length_singleton]
    exact ownsRow_setCell_below how hl _
  · exact ownsRow_setCell_below (h.rw'.kept hg (own_apart h.ro h.rw' (by decide))) hl _
  · by_cases hi : i < Ms.length
    · rw [List.getElem?_append_left hi] at ho'
      rw [List.getElem?_append_left (by have := h.ht; omega)] at hx'
      exact ((h.ol i o' x' ho' hx').grown h.ro (by decide) (by decide) (by decide) hg).set hl _
    · rw [List.getElem?_append_right (by omega)] at ho'
      rw [List.getElem?_append_right (by have := h.ht; omega), h.ht] at hx'
      have h0 : i - Ms.length = 0 := by
        cases h3 : i - Ms.length with
        | zero => rfl
        | succ n => rw [h3] at ho'; simp at ho'
      rw [h0] at ho' hx'
      simp at ho' hx'
      subst ho' hx'
      exact (hx.grown h.ro (by decide) (by decide) (by decide) hg).set hl _

/-- An entry more. -/
theorem MS.entry {w wc w6 : World} {b8 : Nat} {vo vw va vb v6 : Value} {Ms : List AObj} {Xs : List (Int × Int × Int)} {t : List (Value × Value × Value)} {y : Int × Int × Int} (h : MS w wc b8 vo vw va vb Ms Xs t)
    (how : w6.ownsRow (b8 + 1) 38 3 v6 (Xs.length + 1) (wcells Xs ++ [.int .u64 y.1, .int .i64 y.2.1, .int .u64 y.2.2])) (hg : wc.grownBy w6 vw.ownBlock) : Blk w6 b8 #[vo, vw] 25 ∧ MS w (w6.setCell ⟨b8, 1, none⟩ v6) b8 vo v6 va vb Ms (Xs ++ [y]) t := by
  have k := h.k.grownOwn h.rw' (by decide) hg
  have k3 := h.k3.grownOwn h.rw' (by decide) hg
  have hl : (⟨b8, 1, none⟩ : Addr).block < b8 + 1 := Nat.lt_succ_self _
  refine ⟨k, by simpa using k.set 1 v6, k3.keep (Below.heap_setCell w6 ⟨b8, 1, none⟩ v6 _ (by have := h.g8; simp; omega)), Bw.setCell (bw_grown h.bw (by have := h.g8; omega) h.rw' hg) (by have := h.g8; simp; omega) _, h.g8, h.ht, ?_, ?_, fun i o' x' ho' hx' => ?_⟩
  · exact ownsRow_setCell_below (h.ro.kept hg (own_apart h.rw' h.ro (by decide))) hl _
  · rw [wcells_snoc, List.length_append, List.length_singleton]
    exact ownsRow_setCell_below how hl _
  · exact ((h.ol i o' x' ho' hx').grown h.rw' (by decide) (by decide) (by decide) hg).set hl _

/-- The world in memory. -/
theorem MS.wr {w wc : World} {b8 : Nat} {vo vw va vb : Value} {Ms : List AObj} {Xs : List (Int × Int × Int)} {t : List (Value × Value × Value)} (h : MS w wc b8 vo vw va vb Ms Xs t)
    (hu : ∀ o ∈ Ms, (∀ x ∈ o.vals, U x) ∧ (∀ x ∈ o.bytes, 0 ≤ x ∧ x ≤ 255) ∧ o.bytes.length ≤ 1000 ∧ o.vals.length ≤ 1000 ∧ o.keys.length ≤ 1000) (hw : ∀ y ∈ Xs, U y.1 ∧ U y.2.2) :
    ∃ ao co aw cw, vo = .slice ao Ms.length co ∧ vw = .slice aw Xs.length cw ∧ WR wc ao aw Ms Xs := by
  have s1 := own_sl (G := fun _ => True) h.ro (fun _ _ => trivial)
  have s2 := own_sl (G := fun _ => True) h.rw' (fun _ _ => trivial)
  obtain ⟨ao, co, rfl⟩ := s1.form
  obtain ⟨aw, cw, rfl⟩ := s2.form
  refine ⟨ao, co, aw, cw, rfl, rfl, fun i hi => ?_, fun i hi => ?_⟩
  · obtain ⟨b, off, e, hlt, _, hc⟩ := s1.cellAt (by omega)
    have hit : i < t.length := by have := h.ht; omega
    have e1 : Ms[i]? = some Ms[i] := List.getElem?_eq_getElem hi
    have e2 : t[i]? = some t[i] := List.getElem?_eq_getElem hit
    obtain ⟨u1, u2, l1, l2, l3⟩ := hu _ (List.getElem_mem hi)
    exact ⟨b, off, t[i], e, hlt, fun j hj => (hc (i * 7 + j) (by omega)).trans (hcells_at Ms t h.ht i _ _ e1 e2 j hj), (h.ol i _ _ e1 e2).ol, u1, u2, l1, l2, l3⟩
  · obtain ⟨b, off, e, hlt, _, hc⟩ := s2.cellAt (by omega)
    obtain ⟨c0, c1, c2⟩ := wcells_at Xs i hi
    exact ⟨b, off, e, hlt, (hc (i * 3) (by omega)).trans c0, (hc (i * 3 + 1) (by omega)).trans c1, (hc (i * 3 + 2) (by omega)).trans c2, hw _ (List.getElem_mem hi)⟩

end Go.Proofs.YtimidonagbfjcaaGreatDoor

set_option linter.unusedSimpArgs false
set_option linter.unusedVariables false
namespace Go.Proofs.YtimidonagbfjcaaGreatDoor
open Go Go.RowKit

/-- A row of words of which the first i are moved. -/
def part (n : Nat) (l : List Int) (i : Nat) : List Int := (l.take i).map (mv n) ++ l.drop i

theorem part_len (n : Nat) (l : List Int) (i : Nat) : (part n l i).length = l.length := by
  unfold part
  simp only [List.length_append, List.length_map, List.length_take, List.length_drop]
  omega

theorem part_zero (n : Nat) (l : List Int) : part n l 0 = l := by simp [part]

theorem part_all (n : Nat) (l : List Int) : part n l l.length = l.map (mv n) := by simp [part]

theorem part_at (n : Nat) (l : List Int) (i : Nat) (hi : i < l.length) : (part n l i)[i]? = some l[i] := by
  unfold part
  rw [List.getElem?_append_right (by simp; omega)]
  simp only [List.length_map, List.length_take, Nat.min_eq_left (Nat.le_of_lt hi), Nat.sub_self, List.getElem?_drop, Nat.add_zero]
  exact List.getElem?_eq_getElem hi

theorem part_set (n : Nat) (l : List Int) (i : Nat) (hi : i < l.length) : (part n l i).set i (mv n l[i]) = part n l (i + 1) := by
  apply List.ext_getElem?
  intro j
  rw [List.getElem?_set, part_len]
  unfold part
  by_cases h : i = j
  · subst h
    rw [if_pos rfl, if_pos hi, List.getElem?_append_left (by simp; omega)]
    simp [hi]
  · rw [if_neg h]
    by_cases hj : j < i
    · rw [List.getElem?_append_left (by simp; omega), List.getElem?_append_left (by simp; omega)]
      simp [hj, Nat.lt_succ_of_lt hj]
    · rw [List.getElem?_append_right (by simp; omega), List.getElem?_append_right (by simp; omega)]
      simp only [List.length_map, List.length_take, List.getElem?_drop]
      congr 1
      omega

/-- A copied object while its words are moved. -/
structure CP (wr wc : World) (bq : Nat) (o : AObj) (vb vv vk : Value) (L : List Int) : Prop where
  bw : Bw wr wc
  k : Blk wc bq #[.int .i64 o.kind, vb, vv, vk, .int .i64 o.num, .int .u64 o.re, .int .u64 o.im] 34
  r1 : wc.ownsRow wr.heap.size 5 1 vb o.bytes.length (o.bytes.map (Value.int .u8))
  r2 : wc.ownsRow wr.heap.size 27 1 vv L.length (L.map (Value.int .u64))
  r3 : wc.ownsRow wr.heap.size 9 1 vk o.keys.length (o.keys.map Value.string)

theorem CP.set {wr wc : World} {bq : Nat} {o : AObj} {vb vk : Value} {g n cap : Nat} {L : List Int} (h : CP wr wc bq o vb (.slice (some ⟨g, 0, none⟩) n cap) vk L) (l : Nat) (x : Int) : CP wr (wc.setCell ⟨g, l, none⟩ (.int .u64 x)) bq o vb (.slice (some ⟨g, 0, none⟩) n cap) vk (L.set l x) := by
  rcases h.r2.2 with ⟨h0, _⟩ | ⟨g', cap', cur, e, hbg, hgg, hnc, hcm, hcs, htake⟩
  · cases h0
  · have e' := e
    simp only [Value.slice.injEq, Option.some.injEq, Addr.mk.injEq] at e'
    obtain ⟨⟨rfl, _⟩, rfl, rfl⟩ := e'
    have hB : Blk wc g cur 27 := hgg
    refine ⟨Bw.setCell h.bw (p := ⟨g, l, none⟩) hbg _, ?_, h.r1.kept (grown_set wc g l _) (own_not h.r1 hB (by decide)), ?_, h.r3.kept (grown_set wc g l _) (own_not h.r3 hB (by decide))⟩
    · refine h.k.other (p := ⟨g, l, none⟩) ?_ _
      rintro rfl
      have e1 : wc.heap[g]? = _ := hB
      have e2 : wc.heap[g]? = _ := h.k
      rw [e1] at e2
      simp at e2
    · rw [List.length_set]
      refine ⟨by simp, .inr ⟨g, cap, _, rfl, hbg, hB.set l _, hnc, hcm, by simpa using hcs, ?_⟩⟩
      rw [Array.toList_setIfInBounds, List.take_set, htake, List.map_set]

theorem CP.cell {wr wc : World} {bq : Nat} {o : AObj} {vb vk : Value} {g n cap : Nat} {L : List Int} (h : CP wr wc bq o vb (.slice (some ⟨g, 0, none⟩) n cap) vk L) (l : Nat) (x : Int) (hx : L[l]? = some x) : wc.cell? ⟨g, l, none⟩ = some (.int .u64 x) ∧ wc.frozen? ⟨g, l, none⟩ = false ∧ g < wc.heap.size := by
  rcases h.r2.2 with ⟨h0, _⟩ | ⟨g', cap', cur, e, hbg, hgg, hnc, hcm, hcs, htake⟩
  · cases h0
  · have e' := e
    simp only [Value.slice.injEq, Option.some.injEq, Addr.mk.injEq] at e'
    obtain ⟨⟨rfl, _⟩, rfl, rfl⟩ := e'
    have hB : Blk wc g cur 27 := hgg
    obtain ⟨hl, rfl⟩ := List.getElem?_eq_some_iff.1 hx
    refine ⟨?_, hB.free l, hB.lt⟩
    rw [hB.cell, ← Array.getElem?_toList]
    have := congrArg (fun q => q[l]?) htake
    simpa [List.getElem?_take, hl] using this

theorem infoWr : (Tryz.prog.info? 38).map (fun i => (i.zero, i.size, i.bytes)) = some (some (.agg #[.int .u64 0, .int .i64 0, .int .u64 0]), 3, 24) := by kernel_rfl

theorem sl_new3 (w : World) (l : List Value) (e : TypeId) (hl : l.length = 3) (g : Nat) (hg : w.heap.size = g) : Sl (w.alloc (.cells l.toArray e)) (fun _ => True) (.slice (some ⟨g, 0, none⟩) 1 1) 1 3 l := by
  subst hg
  refine ⟨by omega, _, 1, rfl, ⟨Nat.le_refl _, fun h => by cases h⟩, .inr ⟨_, 0, rfl, by simp, trivial, fun i hi => ?_⟩⟩
  have h := heap_alloc_new w (.cells l.toArray e)
  rw [cell_of_row _ _ _ _ _ _ h]
  simp

theorem three_one (a b c : Int) : ∀ u ∈ [Value.int .u64 a, .int .i64 b, .int .u64 c], u.oneCell' = true := by
  intro u hu
  simp at hu
  rcases hu with rfl | rfl | rfl <;> rfl

theorem WR.bw {w w' : World} {ao aw : Option Addr} {Os : List AObj} {Ws : List (Int × Int × Int)} (h : WR w ao aw Os Ws) (hb : Bw w w') : WR w' ao aw Os Ws := by
  refine ⟨fun i hi => ?_, fun i hi => ?_⟩
  · obtain ⟨b, off, x, e, hlt, hc, ho⟩ := h.1 i hi
    exact ⟨b, off, x, e, Nat.lt_of_lt_of_le hlt hb.size, fun j hj => (cell_bw4 hb hlt).trans (hc j hj), ho.below hb⟩
  · obtain ⟨b, off, e, hlt, c0, c1, c2, hu⟩ := h.2 i hi
    exact ⟨b, off, e, Nat.lt_of_lt_of_le hlt hb.size, (cell_bw4 hb hlt).trans c0, (cell_bw4 hb hlt).trans c1, (cell_bw4 hb hlt).trans c2, hu⟩

end Go.Proofs.YtimidonagbfjcaaGreatDoor

