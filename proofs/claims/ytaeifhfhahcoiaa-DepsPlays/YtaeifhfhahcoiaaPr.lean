/- DepsTrue: what stands between its calls. -/
import Derived.Test.YtaeifhfhahcoiaaPq
import Derived.Deep.CutBlock
import Derived.Deep.DeepCutAuto
set_option linter.unusedSimpArgs false
set_option linter.unusedVariables false
namespace Go.Proofs.Ytaeifhfhahcoiaa
open Go Go.RowKit

theorem Nx.cons {w w' : World} {bs bs' : List Nat} (k : Nx bs w w' bs') (A : Nat) : Nx (A :: bs) w w' (A :: bs') :=
  ⟨k.ex.mono (fun x hx => List.mem_cons_of_mem _ hx), fun b hb => by
    rcases List.mem_cons.1 hb with h | h
    · exact .inl (by simp [h])
    · rcases k.new b h with h | h
      · exact .inl (List.mem_cons_of_mem _ h)
      · exact .inr h⟩
theorem Nx.notin {w w' : World} {bs bs' : List Nat} (k : Nx bs w w' bs') {A : Nat} (hA : A < w.heap.size) (hn : A ∉ bs) : A ∉ bs' := fun hm => by
  rcases k.new A hm with h | h
  · exact hn h
  · omega

/-- The registry, its rows, the box A. -/
structure QQ (w wr : World) (p k A : Nat) (bs : List Nat) (rv : Value) (L : List (VV × Value)) (fv vv : Value) (vs : List Bool) (cur : Array Value) : Prop where
  ms : MS w wr p bs 4 4 rv L k
  good : Good 4 (L.map Prod.fst)
  tr : TR wr w.heap.size (A :: bs) fv (fsOf (L.map Prod.fst)) vv vs
  was : Was (L.map Prod.fst) vs
  box : Blk wr A cur 41
  nA : A ∉ bs
  hA : w.heap.size ≤ A

section
variable {w wr w' : World} {p k A : Nat} {bs bs' : List Nat} {rv rv' fv vv : Value} {L L' : List (VV × Value)} {vs : List Bool} {cur : Array Value}

theorem TR.cons {base : Nat} {fs : List Int} (h : TR w base bs fv fs vv vs) (hA : w.heap.size ≤ A) : TR w base (A :: bs) fv fs vv vs :=
  ⟨h.fo, h.vo, fun b hb => ⟨(h.fb b hb).1, fun hm => by
    rcases List.mem_cons.1 hm with e | e
    · have := (h.fo.lt b hb).2; omega
    · exact (h.fb b hb).2 e⟩, fun b hb => ⟨(h.vb b hb).1, fun hm => by
    rcases List.mem_cons.1 hm with e | e
    · have := (h.vo.lt b hb).2; omega
    · exact (h.vb b hb).2 e⟩⟩
theorem TR.tail {base : Nat} {fs : List Int} (h : TR w base (A :: bs) fv fs vv vs) : TR w base bs fv fs vv vs :=
  ⟨h.fo, h.vo, fun b hb => ⟨(h.fb b hb).1, fun hm => (h.fb b hb).2 (List.mem_cons_of_mem _ hm)⟩, fun b hb => ⟨(h.vb b hb).1, fun hm => (h.vb b hb).2 (List.mem_cons_of_mem _ hm)⟩⟩

/-- The round begins: the box is made. -/
theorem QQ.made (hm : MS w wr p bs 4 4 rv L k) (hg : Good 4 (L.map Prod.fst)) (ht : TR wr w.heap.size bs fv (fsOf (L.map Prod.fst)) vv vs) (hw : Was (L.map Prod.fst) vs) (cur : Array Value) : QQ w (wr.alloc (.cells cur 41)) p k wr.heap.size bs rv L fv vv vs cur :=
  ⟨hm.on (Bw.alloc (Bw.refl _) _), hg, (ht.cons (Nat.le_refl _)).bw (Bw.alloc (Bw.refl _) _), hw, Blk.new _ _ _, fun h => by have := hm.ds.lt _ h; omega, hm.bw.size⟩

theorem QQ.next {m : Nat} (h : QQ w wr p k A bs rv L fv vv vs cur) (hm : MS w w' p bs' 4 4 rv' L' m) (hn : Nx bs wr w' bs') (hg : Good 4 (L'.map Prod.fst)) (hf : fsOf (L'.map Prod.fst) = fsOf (L.map Prod.fst)) (hw : Was (L'.map Prod.fst) vs) : QQ w w' p m A bs' rv' L' fv vv vs cur :=
  ⟨hm, hg, by rw [hf]; exact h.tr.nx (hn.cons A), hw, h.box.ex hn.ex h.nA, hn.notin h.box.lt h.nA, h.hA⟩
theorem QQ.on (h : QQ w wr p k A bs rv L fv vv vs cur) (hb : Bw wr w') : QQ w w' p k A bs rv L fv vv vs cur :=
  ⟨h.ms.on hb, h.good, h.tr.bw hb, h.was, h.box.bw hb, h.nA, h.hA⟩
theorem QQ.more (h : QQ w wr p k A bs rv L fv vv vs cur) {m : Nat} (hm : k ≤ m) : QQ w wr p m A bs rv L fv vv vs cur :=
  ⟨h.ms.more hm, h.good, h.tr, h.was, h.box, h.nA, h.hA⟩

/-- A registry whose rows are one behind: a version was added. -/
structure QA (w wr : World) (p k A : Nat) (bs : List Nat) (rv : Value) (L : List (VV × Value)) (K0 : List VV) (x : VV) (fv : Value) (fs : List Int) (vv : Value) (vs : List Bool) (cur : Array Value) : Prop where
  ms : MS w wr p bs 4 4 rv L k
  good : Good 4 (L.map Prod.fst)
  tr : TR wr w.heap.size (A :: bs) fv fs vv vs
  was : Was K0 vs
  box : Blk wr A cur 41
  nA : A ∉ bs
  hA : w.heap.size ≤ A
  eq : L.map Prod.fst = K0 ++ [x]

theorem QQ.add {x : VV} {m : Nat} (h : QQ w wr p k A bs rv L fv vv vs cur) (hm : MS w w' p bs' 4 4 rv' L' m) (hn : Nx bs wr w' bs') (hg : Good 4 (L'.map Prod.fst)) (hl : L'.map Prod.fst = L.map Prod.fst ++ [x]) : QA w w' p m A bs' rv' L' (L.map Prod.fst) x fv (fsOf (L.map Prod.fst)) vv vs cur :=
  ⟨hm, hg, h.tr.nx (hn.cons A), h.was, h.box.ex hn.ex h.nA, hn.notin h.box.lt h.nA, h.hA, hl⟩
theorem QA.on {K0 : List VV} {x : VV} {fs : List Int} (h : QA w wr p k A bs rv L K0 x fv fs vv vs cur) (hb : Bw wr w') : QA w w' p k A bs rv L K0 x fv fs vv vs cur :=
  ⟨h.ms.on hb, h.good, h.tr.bw hb, h.was, h.box.bw hb, h.nA, h.hA, h.eq⟩
theorem QA.fput {K0 : List VV} {x : VV} {fs : List Int} {v' : Value} {f : Int} (h : QA w wr p k A bs rv L K0 x fv fs vv vs cur) (ho : w'.ownsRow 0 3 1 v' (fs.length + 1) (fs.map (Value.int .i64) ++ [.int .i64 f])) (hg : wr.grownBy w' fv.ownBlock) (hv : v'.ownBlock = fv.ownBlock ∨ ∀ k, v'.ownBlock = some k → wr.heap.size ≤ k) :
    QA w w' p k A bs rv L K0 x v' (fs ++ [f]) vv vs cur := by
  have hr : ∀ b, fv.ownBlock = some b → w.heap.size ≤ b ∧ b ∉ bs := fun b hb => ⟨(h.tr.fb b hb).1, fun hm => (h.tr.fb b hb).2 (List.mem_cons_of_mem _ hm)⟩
  refine ⟨h.ms.grown hg hr, h.good, h.tr.fput (fun b hb => ?_) h.ms.bw.size ho hg hv, h.was, h.box.keep (hg.block A h.box.lt (fun e => (h.tr.fb A e.symm).2 (by simp))), h.nA, h.hA, h.eq⟩
  rcases List.mem_cons.1 hb with e | e
  · subst e; exact h.box.lt
  · exact h.ms.ds.lt b e
theorem QA.vput {K0 : List VV} {x : VV} {fs : List Int} {v' : Value} (h : QA w wr p k A bs rv L K0 x fv fs vv vs cur) (hfs : fs = fsOf (K0 ++ [x])) (ho : w'.ownsRow 0 4 1 v' (vs.length + 1) (vs.map Value.bool ++ [.bool true])) (hg : wr.grownBy w' vv.ownBlock) (hv : v'.ownBlock = vv.ownBlock ∨ ∀ k, v'.ownBlock = some k → wr.heap.size ≤ k) :
    QQ w w' p k A bs rv L fv v' (vs ++ [true]) cur := by
  have hr : ∀ b, vv.ownBlock = some b → w.heap.size ≤ b ∧ b ∉ bs := fun b hb => ⟨(h.tr.vb b hb).1, fun hm => (h.tr.vb b hb).2 (List.mem_cons_of_mem _ hm)⟩
  refine ⟨h.ms.grown hg hr, h.good, ?_, by rw [h.eq]; exact h.was.snoc x, h.box.keep (hg.block A h.box.lt (fun e => (h.tr.vb A e.symm).2 (by simp))), h.nA, h.hA⟩
  rw [h.eq, ← hfs]
  refine h.tr.vput (fun b hb => ?_) h.ms.bw.size ho hg hv
  rcases List.mem_cons.1 hb with e | e
  · subst e; exact h.box.lt
  · exact h.ms.ds.lt b e
end

theorem box_cells {w : World} {A : Nat} {T : TypeId} {c0 c1 c2 c3 : Value} (h : Blk w A #[c0, c1, c2, c3] T) : w.cell? ⟨A, 0, none⟩ = some c0 ∧ w.cell? ⟨A, 1, none⟩ = some c1 ∧ w.cell? ⟨A, 2, none⟩ = some c2 ∧ w.cell? ⟨A, 3, none⟩ = some c3 ∧ A < w.heap.size := ⟨h.cell 0, h.cell 1, h.cell 2, h.cell 3, h.lt⟩

theorem calm_out {w : World} {p F G : Nat} {bs : List Nat} {rv : Value} {L : List (VV × Value)} (h : DS w p bs F G rv L) {g v : Int} (hg : oneOf g G = false) : Calm g v (L.map Prod.fst) := by
  intro x hx
  obtain ⟨q, hq, rfl⟩ := List.mem_map.1 hx
  unfold hit
  rw [any_none (fun i hi e => ?_), Bool.and_false]
  have := (h.once q hq i hi hi).1
  rw [e] at this
  rw [oneOf_yes this.1 this.2] at hg
  cases hg
theorem calm_wr {w : World} {p F G : Nat} {bs : List Nat} {rv : Value} {L : List (VV × Value)} (h : DS w p bs F G rv L) (g v : Int) : Calm g v (wrL G g v (L.map Prod.fst)) := by
  unfold wrL
  cases hg : oneOf g G
  · simp only [Bool.false_eq_true, if_false]; exact calm_out h hg
  · simp only [if_true]; exact calm_wrote _ _ _

/-- How many valid ones of each function are among the first k. -/
def nowC (K : List VV) (k : Nat) : Array Value := ((List.range 4).map fun (f : Nat) => Value.int .i64 (((K.take k).countP (vof f) : Nat) : Int)).toArray
theorem nowC_get (K : List VV) (k : Nat) {f : Nat} (h : f < 4) : (nowC K k)[f]? = some (.int .i64 (((K.take k).countP (vof f) : Nat) : Int)) := by simp [nowC, h]
theorem nowC_zero (K : List VV) : nowC K 0 = #[.int .i64 0, .int .i64 0, .int .i64 0, .int .i64 0] := by simp [nowC, List.range, List.range.loop]
theorem nowC_no {K : List VV} {k : Nat} (hk : k < K.length) (h : K[k].ok = false) : nowC K (k + 1) = nowC K k := by
  unfold nowC
  congr 1
  apply List.map_congr_left
  intro f _
  rw [List.take_add_one, List.getElem?_eq_getElem hk, List.countP_append]
  simp [vof, h]
theorem nowC_yes {K : List VV} {k n : Nat} (hk : k < K.length) (h : K[k].ok = true) (hf : K[k].f = n) (hn : n < 4) : nowC K (k + 1) = (nowC K k).setIfInBounds n (.int .i64 (((K.take k).countP (vof n) : Nat) + 1 : Int)) := by
  apply Array.ext_getElem?
  intro i
  rw [Array.getElem?_setIfInBounds]
  by_cases hi : i < 4
  · rw [nowC_get K _ hi]
    have hs : (nowC K k).size = 4 := by simp [nowC]
    rw [List.take_add_one, List.getElem?_eq_getElem hk, List.countP_append]
    by_cases e : n = i
    · subst e
      rw [if_pos rfl, if_pos (by rw [hs]; exact hn)]
      simp [vof, h, hf]
    · rw [if_neg e, nowC_get K _ hi]
      have e2 : vof (i : Int) K[k] = false := by
        simp only [vof, h, hf, Bool.true_and, beq_eq_false_iff_ne]
        omega
      simp [e2]
  · have h1 : (nowC K (k + 1))[i]? = none := by simp [nowC]; omega
    have h2 : (nowC K k)[i]? = none := by simp [nowC]; omega
    have hs : (nowC K k).size = 4 := by simp [nowC]
    rw [h1, h2]
    split <;> (try split) <;> first | rfl | omega

/-- While the versions are gone through: the marks of the first k are new. -/
structure QN (w ws : World) (p k A N : Nat) (bs : List Nat) (rv : Value) (L : List (VV × Value)) (fv vv : Value) (vs vs2 : List Bool) (cur : Array Value) (j : Nat) : Prop where
  ms : MS w ws p bs 4 4 rv L k
  tr : TR ws w.heap.size (N :: A :: bs) fv (fsOf (L.map Prod.fst)) vv vs2
  box : Blk ws A cur 41
  now : Blk ws N (nowC (L.map Prod.fst) j) 59
  nA : A ∉ bs
  nN : N ∉ bs
  hA : w.heap.size ≤ A
  hN : w.heap.size ≤ N
  AN : A ≠ N
  len : vs2.length = (L.map Prod.fst).length
  done : ∀ i x, i < j → (L.map Prod.fst)[i]? = some x → vs2[i]? = some x.ok
  rest : ∀ i, j ≤ i → vs2[i]? = vs[i]?

section
variable {w wr ws w' : World} {p k A N j : Nat} {bs : List Nat} {rv fv vv : Value} {L : List (VV × Value)} {vs vs2 : List Bool} {cur : Array Value}

theorem QQ.begin (h : QQ w wr p k A bs rv L fv vv vs cur) : QN w (wr.alloc (.cells #[.int .i64 0, .int .i64 0, .int .i64 0, .int .i64 0] 59)) p k A wr.heap.size bs rv L fv vv vs vs cur 0 := by
  have hb : Bw wr (wr.alloc (.cells #[.int .i64 0, .int .i64 0, .int .i64 0, .int .i64 0] 59)) := Bw.alloc (Bw.refl _) _
  refine ⟨h.ms.on hb, (h.tr.cons (Nat.le_refl _)).bw hb, h.box.bw hb, ?_, h.nA, fun hm => by have := h.ms.ds.lt _ hm; omega, h.hA, h.ms.bw.size, by have := h.box.lt; omega, h.was.1, fun i x hi => absurd hi (Nat.not_lt_zero i), fun i _ => rfl⟩
  rw [nowC_zero]
  exact Blk.new _ _ _
theorem QN.on (h : QN w ws p k A N bs rv L fv vv vs vs2 cur j) (hb : Bw ws w') : QN w w' p k A N bs rv L fv vv vs vs2 cur j :=
  ⟨h.ms.on hb, h.tr.bw hb, h.box.bw hb, h.now.bw hb, h.nA, h.nN, h.hA, h.hN, h.AN, h.len, h.done, h.rest⟩

/-- The mark of the next one is set; it is not valid. -/
theorem QN.no {g c : Nat} (h : QN w ws p k A N bs rv L fv (.slice (some ⟨g, 0, none⟩) vs2.length c) vs vs2 cur j) (hj : j < (L.map Prod.fst).length) (ho : (L.map Prod.fst)[j].ok = false) :
    QN w (ws.setCell ⟨g, j, none⟩ (.bool false)) p k A N bs rv L fv (.slice (some ⟨g, 0, none⟩) (vs2.set j false).length c) vs (vs2.set j false) cur (j + 1) := by
  have hg := h.tr.vb g rfl
  have hj2 : j < vs2.length := by rw [h.len]; exact hj
  refine ⟨h.ms.setOut ⟨hg.1, fun hm => hg.2 (by simp [hm])⟩ _, ?_, h.box.other (p := ⟨g, j, none⟩) (fun e => hg.2 (by simp only at e; simp [e])) _, ?_, h.nA, h.nN, h.hA, h.hN, h.AN, by simpa using h.len, fun i x hi hx => ?_, fun i hi => ?_⟩
  · have := h.tr.vset hj2 false
    rw [List.length_set]
    exact this
  · rw [nowC_no hj ho]
    exact h.now.other (p := ⟨g, j, none⟩) (fun e => hg.2 (by simp only at e; simp [e])) _
  · rw [List.getElem?_set]
    by_cases e : j = i
    · subst e
      rw [if_pos rfl, if_pos hj2]
      rw [List.getElem?_eq_getElem hj] at hx
      obtain rfl := Option.some.inj hx
      rw [ho]
    · rw [if_neg e]; exact h.done i x (by omega) hx
  · rw [List.getElem?_set, if_neg (by omega)]; exact h.rest i (by omega)
/-- The mark of the next one is set; it is valid, and counted. -/
theorem QN.yes {g c n : Nat} (h : QN w ws p k A N bs rv L fv (.slice (some ⟨g, 0, none⟩) vs2.length c) vs vs2 cur j) (hj : j < (L.map Prod.fst).length) (ho : (L.map Prod.fst)[j].ok = true) (hf : (L.map Prod.fst)[j].f = n) (hn : n < 4) :
    QN w ((ws.setCell ⟨g, j, none⟩ (.bool true)).setCell ⟨N, n, none⟩ (.int .i64 ((((L.map Prod.fst).take j).countP (vof n) : Nat) + 1 : Int))) p k A N bs rv L fv (.slice (some ⟨g, 0, none⟩) (vs2.set j true).length c) vs (vs2.set j true) cur (j + 1) := by
  have hg := h.tr.vb g rfl
  have hj2 : j < vs2.length := by rw [h.len]; exact hj
  have hgN : g ≠ N := fun e => hg.2 (by simp [e])
  refine ⟨(h.ms.setOut ⟨hg.1, fun hm => hg.2 (by simp [hm])⟩ _).setOut ⟨h.hN, h.nN⟩ _, ?_, (h.box.other (p := ⟨g, j, none⟩) (fun e => hg.2 (by simp only at e; simp [e])) _).other (p := ⟨N, n, none⟩) (fun e => h.AN e.symm) _, ?_, h.nA, h.nN, h.hA, h.hN, h.AN, by simpa using h.len, fun i x hi hx => ?_, fun i hi => ?_⟩
  · have := h.tr.vset hj2 true
    rw [List.length_set]
    exact this.setOut (fun e => (h.tr.fb N e).2 (by simp)) (fun e => hgN (by simpa [Value.ownBlock] using e)) _
  · rw [nowC_yes hj ho hf hn]
    exact (h.now.other (p := ⟨g, j, none⟩) hgN _).set n _
  · rw [List.getElem?_set]
    by_cases e : j = i
    · subst e
      rw [if_pos rfl, if_pos hj2]
      rw [List.getElem?_eq_getElem hj] at hx
      obtain rfl := Option.some.inj hx
      rw [ho]
    · rw [if_neg e]; exact h.done i x (by omega) hx
  · rw [List.getElem?_set, if_neg (by omega)]; exact h.rest i (by omega)
theorem QN.fin (h : QN w ws p k A N bs rv L fv vv vs vs2 cur j) (hj : j = (L.map Prod.fst).length) : MS w ws p bs 4 4 rv L k ∧ TR ws w.heap.size bs fv (fsOf (L.map Prod.fst)) vv vs2 ∧ Was (L.map Prod.fst) vs2 :=
  ⟨h.ms, h.tr.tail.tail, h.len, fun i x hx ho => by rw [h.done i x (by rw [hj]; exact (List.getElem?_eq_some_iff.1 hx).1) hx, ho]⟩
end

end Go.Proofs.Ytaeifhfhahcoiaa
