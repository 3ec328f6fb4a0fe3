/- The document's Add, Drop, Wrote: contracts. -/
import Derived.Test.YtaeifhfhahcoiaaQc
set_option linter.unusedSimpArgs false
set_option linter.unusedVariables false
namespace Go.Proofs.Ytaeifhfhahcoiaa
open Go Go.RowKit

theorem lastI_iff {l : List Nat} : 0 ≤ lastI l ↔ l ≠ [] := ⟨fun h e => by rw [lastI_neg e] at h; omega, lastI_pos⟩

/-- The document's Add. -/
theorem rAdd_any {w : World} {GG G2 : Nat → Prop} {F G : Nat} {v vl : Value} {L : List (VV × Value)} (h : RS w GG v L) (hG : G ≤ 1024) (f : Int) (l : List (Int × Int)) (hs : Sl w G2 vl l.length 2 (depC l)) (hm : l.length ≤ 1000) (hL : L.length < 1000) :
    Calls Try.prog 24 #[rV F G v, .int .i64 f, vl] w fun e w' => ∃ v' L', e = .returned (.tuple #[rV F G v', .int .i64 ((if addE F G (L.map Prod.fst) f l = 0 then L.length else 0 : Nat) : Int), .int .i64 (addE F G (L.map Prod.fst) f l)]) ∧ Bw w w' ∧ RS w' (fun b => GG b ∨ w.heap.size ≤ b) v' L' ∧ L'.map Prod.fst = addL F G (L.map Prod.fst) f l := by
  obtain ⟨av, cv, rfl⟩ := h.form
  obtain ⟨a, c, rfl⟩ := hs.form
  have key : ∀ (k : Int) (hk : addE F G (L.map Prod.fst) f l = k) (hk0 : k ≠ 0) (hc : Calls Try.prog 24 #[rV F G (.slice av L.length cv), .int .i64 f, .slice a l.length c] w fun e w' => e = .returned (.tuple #[rV F G (.slice av L.length cv), .int .i64 0, .int .i64 k]) ∧ Bw w w'), Calls Try.prog 24 #[rV F G (.slice av L.length cv), .int .i64 f, .slice a l.length c] w fun e w' => ∃ v' L', e = .returned (.tuple #[rV F G v', .int .i64 ((if addE F G (L.map Prod.fst) f l = 0 then L.length else 0 : Nat) : Int), .int .i64 (addE F G (L.map Prod.fst) f l)]) ∧ Bw w w' ∧ RS w' (fun b => GG b ∨ w.heap.size ≤ b) v' L' ∧ L'.map Prod.fst = addL F G (L.map Prod.fst) f l := by
    intro k hk hk0 hc
    refine hc.mono fun e w' ⟨he, hb⟩ => ⟨_, L, ?_, hb, (h.bw hb).imp (fun b _ hG => .inl hG), ?_⟩
    · rw [hk, if_neg hk0]; exact he
    · unfold addL; rw [hk, if_neg hk0]
  by_cases f0 : f < 0
  · exact key 1 (by simp [addE, oneOf_no (i := f) (n := F) (by omega)]) (by decide) (rAdd_noa h hG f l hs hm f0)
  by_cases f1 : (F : Int) ≤ f
  · exact key 1 (by simp [addE, oneOf_no (i := f) (n := F) (by omega)]) (by decide) (rAdd_nob h hG f l hs hm f0 f1)
  have h1 : 0 ≤ f ∧ f < F := by omega
  have ho : oneOf f F = true := oneOf_yes h1.1 h1.2
  cases hn : nms G l
  · exact key 1 (by simp [addE, hn]) (by decide) (rAdd_no2 h hG f l hs hm h1 hn)
  by_cases h3 : all (vof f) (L.map Prod.fst) = []
  · by_cases h4 : 4 ≤ cnt f (L.map Prod.fst)
    · exact key 3 (by simp [addE, ho, hn, h3, h4]) (by decide) (rAdd_no4 h hG f l hs hm h1 hn rfl rfl (by rw [lastI_iff]; simpa using h3) (by omega))
    · have h0 : addE F G (L.map Prod.fst) f l = 0 := by simp [addE, ho, hn, h3, h4]
      refine (rAdd_yes h hG f l hs hm hL h1 hn rfl rfl (by rw [lastI_iff]; simpa using h3) (by omega)).mono fun e w' ⟨v', L', he, hb, hr, hl⟩ => ⟨v', L', ?_, hb, hr, ?_⟩
      · rw [h0, if_pos rfl]; exact he
      · unfold addL; rw [h0, if_pos rfl]; exact hl
  · exact key 7 (by simp [addE, ho, hn, h3]) (by decide) (rAdd_no3 h hG f l hs hm h1 hn rfl rfl (lastI_iff.2 h3))

set_option maxRecDepth 100000 in
set_option maxHeartbeats 2000000 in
theorem rDrop_noa {w : World} {GG : Nat → Prop} {F G : Nat} {av : Option Addr} {cv : Nat} {L : List (VV × Value)} (h : RS w GG (.slice av L.length cv) L) (i : Int) (y : i < 0) : Calls Try.prog 26 #[.agg #[.int .i64 F, .int .i64 G, .slice av L.length cv], .int .i64 i] w fun e w' => e = .returned (.tuple #[.agg #[.int .i64 F, .int .i64 G, .slice av L.length cv], .int .i64 1]) ∧ Bw w w' := by
  clear h
  go_enter Try.func26, Try.ntmps26
  go_wp2
  all_goals exact bodyPost_ret (v := .tuple #[.agg #[.int .i64 F, .int .i64 G, .slice av L.length cv], .int .i64 1]) (by simp [results, Try.results26, go_sem, *]) rfl ⟨rfl, (by repeat (first | exact Bw.refl _ | apply Bw.alloc | apply Bw.drewN | apply Bw.drew))⟩

set_option maxRecDepth 100000 in
set_option maxHeartbeats 2000000 in
theorem rDrop_nob {w : World} {GG : Nat → Prop} {F G : Nat} {av : Option Addr} {cv : Nat} {L : List (VV × Value)} (h : RS w GG (.slice av L.length cv) L) (i : Int) (n : ¬ i < 0) (y : (L.length : Int) ≤ i) : Calls Try.prog 26 #[.agg #[.int .i64 F, .int .i64 G, .slice av L.length cv], .int .i64 i] w fun e w' => e = .returned (.tuple #[.agg #[.int .i64 F, .int .i64 G, .slice av L.length cv], .int .i64 1]) ∧ Bw w w' := by
  have d0 : decide (i < 0) = false := decide_eq_false n
  clear h
  go_enter Try.func26, Try.ntmps26
  go_wp2
  all_goals exact bodyPost_ret (v := .tuple #[.agg #[.int .i64 F, .int .i64 G, .slice av L.length cv], .int .i64 1]) (by simp [results, Try.results26, go_sem, *]) rfl ⟨rfl, (by repeat (first | exact Bw.refl _ | apply Bw.alloc | apply Bw.drewN | apply Bw.drew))⟩

/-- X is w1 but for the boxes. -/
structure Eb (A B : Nat) (w1 X : World) : Prop where
  size : w1.heap.size ≤ X.heap.size
  block : ∀ b, b ≠ A → b ≠ B → X.heap[b]? = w1.heap[b]?
theorem Eb.refl (A B : Nat) (w : World) : Eb A B w w := ⟨Nat.le_refl _, fun _ _ _ => rfl⟩
theorem Eb.box {A B : Nat} {w1 X : World} (h : Eb A B w1 X) {g : Nat} (hg : g = A ∨ g = B) (j : Nat) (u : Value) : Eb A B w1 (X.setCell ⟨g, j, none⟩ u) :=
  ⟨by simpa using h.size, fun b h1 h2 => (Below.heap_setCell X _ _ b (by simp only; rcases hg with e | e <;> omega)).trans (h.block b h1 h2)⟩
theorem Eb.drewN {A B : Nat} {w1 X : World} (h : Eb A B w1 X) (n : Nat) : Eb A B w1 (X.drewN n) := ⟨h.size, h.block⟩
theorem heap_set_congr {a b : World} (p : Addr) (u : Value) (k : Nat) (h : a.heap[k]? = b.heap[k]?) : (a.setCell p u).heap[k]? = (b.setCell p u).heap[k]? := by
  simp [World.setCell, Array.getElem?_modify, h]
theorem Eb.both {A B : Nat} {w1 X : World} (h : Eb A B w1 X) (p : Addr) (u : Value) : Eb A B (w1.setCell p u) (X.setCell p u) :=
  ⟨by simpa using h.size, fun b h1 h2 => heap_set_congr p u b (h.block b h1 h2)⟩

/-- The document's versions with others in place of some; the row is one's own. -/
theorem rs_of {w w1 X : World} {GG : Nat → Prop} {v0 v1 : Value} {L L1 : List (VV × Value)} (h : RS w GG v0 L) (hB1 : Bw w w1) (hr : w1.ownsRow (w.heap.size + 2) 45 3 v1 L1.length (rowC L1)) (hx : Eb w.heap.size (w.heap.size + 1) w1 X)
    (hl : L1.length = L.length) (ho : ∀ q ∈ L1, ∃ q0 ∈ L, q.2 = q0.2 ∧ q.1.on = q0.1.on) : RS X (fun b => GG b ∨ w.heap.size ≤ b) v1 L1 := by
  refine ⟨?_, fun q hq => ?_, ⟨by have := h.big.1; omega, fun q hq => ?_⟩⟩
  · exact (own_slb hr).keep hx.size (fun b hb e => hx.block b (by have := (hr.lt b e).1; omega) (by have := (hr.lt b e).1; omega)) (fun b _ e => .inr (by have := (hr.lt b e).1; omega))
  · obtain ⟨q0, h0, e1, e2⟩ := ho q hq
    rw [e1, e2]
    exact (h.ons q0 h0).keep (Nat.le_trans hB1.size hx.size) (fun b hb hG => (hx.block b (by omega) (by omega)).trans (hB1.block b hb)) (fun b _ hG => .inl hG)
  · obtain ⟨q0, h0, e1, e2⟩ := ho q hq
    rw [e2]
    exact h.big.2 q0 h0

theorem mem_modq {L : List (VV × Value)} {n : Nat} : ∀ q ∈ L.modify n offq, ∃ q0 ∈ L, q.2 = q0.2 ∧ q.1.on = q0.1.on := by
  intro q hq
  obtain ⟨i, hi, rfl⟩ := List.getElem_of_mem hq
  rw [List.getElem_modify]
  have hi2 : i < L.length := by simpa using hi
  refine ⟨L[i], List.getElem_mem hi2, ?_⟩
  split <;> exact ⟨rfl, rfl⟩

set_option maxRecDepth 100000 in
set_option maxHeartbeats 2000000 in
theorem rDrop_yes {w : World} {GG : Nat → Prop} {F G : Nat} {av : Option Addr} {cv : Nat} {L : List (VV × Value)} (h : RS w GG (.slice av L.length cv) L) (i : Int) (h1 : 0 ≤ i ∧ i < L.length) : Calls Try.prog 26 #[.agg #[.int .i64 F, .int .i64 G, .slice av L.length cv], .int .i64 i] w fun e w' => ∃ v', e = .returned (.tuple #[rV F G v', .int .i64 0]) ∧ Bw w w' ∧ RS w' (fun b => GG b ∨ w.heap.size ≤ b) v' (L.modify i.toNat offq) := by
  have HR := hid h
  have HO1 := hid h.ons
  have hll := h.big.1
  obtain ⟨n, rfl⟩ : ∃ n : Nat, i = n := ⟨i.toNat, by omega⟩
  have hn : n < L.length := by omega
  obtain ⟨i3, hi3, hz3, hs3, hy3⟩ := info_parts infoRv
  have I3 := hid (And.intro hi3 (And.intro hz3 (And.intro hs3 hy3)))
  clear h hi3 hz3 hs3 hy3
  have d0 : decide ((n : Int) < 0) = false := decide_eq_false (by omega)
  have d1 : decide ((L.length : Int) ≤ (n : Int)) = false := decide_eq_false (by omega)
  have d2 : ¬ L.length ≤ n := by omega
  go_enter Try.func26, Try.ntmps26
  go_wp2_with (first
    | (at_builtin; refine wpList_append_sl _ rfl _ _ 29 rfl (w.heap.size + 2) 45 i3 _ 3 40 Try.underlying29 I3.out.1 I3.out.2.1 I3.out.2.2.1 I3.out.2.2.2 rfl (by decide) (.slice (some ⟨w.heap.size + 1 + 1, 0, none⟩) 0 0) 0 [] rfl (own_empty _ _ _ _ _ (by simp) (by omega)) (.slice av L.length cv) L.length (rowC L) rfl (HR.out.row.below (by repeat (first | exact Bw.refl _ | apply Bw.alloc | apply Bw.drewN | apply Bw.drew))) (rowC_one HO1.out) ?c3 ?c4 ?c5 ?_)
    | fail)
  case c3 => unfold maxLen; omega
  case c4 => omega
  case c5 => simp only [World.size_alloc]; omega
  intro v3 w3 hown hgr
  have hb0 : Bw w ((w.alloc (.cells #[.int .i64 F, .int .i64 G, .slice av L.length cv] 31)).alloc (.cells #[.int .i64 0, .int .i64 0, .slice none 0 0] 31)) := Bw.alloc (Bw.alloc (Bw.refl _) _) _
  have hb3 : Bw ((w.alloc (.cells #[.int .i64 F, .int .i64 G, .slice av L.length cv] 31)).alloc (.cells #[.int .i64 0, .int .i64 0, .slice none 0 0] 31)) w3 := bw_grownAt (Bw.alloc (Bw.refl _) (.cells #[] 45)) hgr (by simp)
  have hown2 : w3.ownsRow (w.heap.size + 2) 45 3 v3 L.length (rowC L) := by simpa using hown
  have BP := (Blk.alloc (Blk.new w #[.int .i64 F, .int .i64 G, .slice av L.length cv] 31) (.cells #[.int .i64 0, .int .i64 0, .slice none 0 0] 31)).bw hb3
  have BR := (Blk.newAt (w.alloc (.cells #[.int .i64 F, .int .i64 G, .slice av L.length cv] 31)) #[.int .i64 0, .int .i64 0, .slice none 0 0] 31 (w.heap.size + 1) (by simp only [World.size_alloc])).bw hb3
  have HB3 := hid (hb0.trans hb3)
  have HO3 := hid hown2
  obtain ⟨p0, p1, p2, pl⟩ := box3 BP
  obtain ⟨r0, r1, r2, rl⟩ := box3 BR
  have pf := BP.free
  have rf := BR.free
  obtain ⟨g, cap, cur, e, hgb, hbk, hc1, hc2, hsz, ht⟩ := own_parts hown2 (by omega)
  subst e
  have x2 : ∃ u, w3.cell? ⟨g, n * 3 + 2, none⟩ = some u := ⟨_, (hbk.cell _).trans (Array.getElem?_eq_getElem (by omega))⟩
  obtain ⟨xu, x2⟩ := x2
  have xf := hbk.free
  have xl := hbk.lt
  have hn' : (n : Int) < (L.length : Int) := by omega
  have hgp : g ≠ w.heap.size := by omega
  have hgr' : g ≠ w.heap.size + 1 := by omega
  have HGB := hid hgb
  have HON := hid (show (w3.setCell ⟨g, n * 3 + 2, none⟩ (.bool false)).ownsRow (w.heap.size + 2) 45 3 (.slice (some ⟨g, 0, none⟩) L.length cap) (L.modify n offq).length (rowC (L.modify n offq)) by
    rw [List.length_modify, rowC_off L n hn]
    exact own_set hown2 (by omega) _)
  have HB4 := hid (show Bw w (w3.setCell ⟨g, n * 3 + 2, none⟩ (.bool false)) from Bw.setCell HB3.out (by simp only; omega) _)
  clear hown hgr hb0 hb3 hown2 BP BR hbk hc1 hc2 hsz ht hgb
  go_wp2
  all_goals (
    refine bodyPost_ret (v := .tuple #[.agg #[.int .i64 F, .int .i64 G, .slice (some ⟨g, 0, none⟩) L.length cap], .int .i64 0]) (by simp [results, Try.results26, go_sem, *]) rfl ?_
    refine ⟨_, rfl, ?_, rs_of HR.out HB4.out HON.out ?_ (by simp) mem_modq⟩
    · have := HGB.out
      exact Bw.setCell (Bw.setCell (Bw.setCell (Bw.setCell (Bw.setCell HB3.out (Nat.le_refl _) _) (by simp only; omega) _) (by simp only; omega) _) (by simp only; omega) _) (by simp only; omega) _
    · exact ((((((Eb.refl _ _ w3).box (.inl rfl) _ _).both _ _).box (.inr rfl) _ _).box (.inr rfl) _ _).box (.inr rfl) _ _))

theorem rDrop_any {w : World} {GG : Nat → Prop} {F G : Nat} {v : Value} {L : List (VV × Value)} (h : RS w GG v L) (i : Int) : Calls Try.prog 26 #[rV F G v, .int .i64 i] w fun e w' => ∃ v' L', e = .returned (.tuple #[rV F G v', .int .i64 (if oneOf i L.length then 0 else 1)]) ∧ Bw w w' ∧ RS w' (fun b => GG b ∨ w.heap.size ≤ b) v' L' ∧ L'.map Prod.fst = drL i (L.map Prod.fst) := by
  obtain ⟨av, cv, rfl⟩ := h.form
  have hll : (L.map Prod.fst).length = L.length := by simp
  unfold drL
  rw [hll]
  by_cases h0 : i < 0
  · rw [oneOf_no (by omega)]
    simp only [if_neg Bool.false_ne_true]
    exact (rDrop_noa h i h0).mono fun e w' ⟨he, hb⟩ => ⟨_, L, he, hb, (h.bw hb).imp (fun b _ hG => .inl hG), rfl⟩
  · by_cases h2 : (L.length : Int) ≤ i
    · rw [oneOf_no (by omega)]
      simp only [if_neg Bool.false_ne_true]
      exact (rDrop_nob h i h0 h2).mono fun e w' ⟨he, hb⟩ => ⟨_, L, he, hb, (h.bw hb).imp (fun b _ hG => .inl hG), rfl⟩
    · rw [oneOf_yes (by omega) (by omega)]
      simp only [if_true]
      exact (rDrop_yes h i (by omega)).mono fun e w' ⟨v', he, hb, hr⟩ => ⟨v', _, he, hb, hr, map_offq _ _⟩


end Go.Proofs.Ytaeifhfhahcoiaa
