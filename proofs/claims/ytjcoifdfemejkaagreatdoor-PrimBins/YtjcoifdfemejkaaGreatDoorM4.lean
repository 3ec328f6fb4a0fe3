/- A heap of the program with an object turned: how it lies in memory. Nothing of the program's calls is in it. · A heap of the program with an entry written, one more, one less: how it lies in memory. Nothing of the program's calls is in it. -/
import Derived.Test.YtjcoifdfemejkaaGreatDoorPLk
import Derived.Test.YtjcoifdfemejkaaGreatDoorM1
set_option linter.unusedSimpArgs false
set_option linter.unusedVariables false
namespace Go.Proofs.YtjcoifdfemejkaaGreatDoor
open Go Go.RowKit

abbrev V3 := Value × Value × Value

theorem split_at {α : Type} {t : List α} {k : Nat} {x : α} (h : t[k]? = some x) : ∃ t1 t2, t = t1 ++ x :: t2 ∧ t1.length = k := by
  obtain ⟨hk, rfl⟩ := List.getElem?_eq_some_iff.1 h
  refine ⟨t.take k, t.drop (k + 1), ?_, by simp; omega⟩
  rw [List.getElem_cons_drop, List.take_append_drop]
theorem set_split {α : Type} (t1 t2 : List α) (x y : α) : (t1 ++ x :: t2).set t1.length y = t1 ++ y :: t2 := by simp

theorem pcells_same : ∀ (l : List AObj) (t : List V3) (k : Nat) (o o' : AObj), l[k]? = some o → (∀ x, pcell o' x = pcell o x) → pcells (l.set k o') t = pcells l t
  | [], _, _, _, _, h, _ => by simp at h
  | _ :: _, [], k, _, _, _, _ => by cases k <;> rfl
  | a :: r, y :: q, 0, o, o', h, hs => by
    simp only [List.getElem?_cons_zero, Option.some.injEq] at h
    subst h
    simp [pcells, hs]
  | a :: r, y :: q, k + 1, o, o', h, hs => by
    simp only [List.getElem?_cons_succ] at h
    simp [pcells, pcells_same r q k o o' h hs]

theorem pcells_put3 : ∀ (l : List AObj) (t : List V3) (k : Nat) (x : V3) (v : Value), t.length = l.length → t[k]? = some x → (pcells l t).set (k * 7 + 3) v = pcells l (t.set k (x.1, x.2.1, v))
  | [], t, k, x, v, hl, h => by have : t = [] := List.eq_nil_of_length_eq_zero hl; subst this; simp at h
  | _ :: _, [], _, _, _, hl, _ => by simp at hl
  | a :: r, y :: q, 0, x, v, hl, h => by
    simp only [List.getElem?_cons_zero, Option.some.injEq] at h
    subst h
    simp [pcells, pcell]
  | a :: r, y :: q, k + 1, x, v, hl, h => by
    simp only [List.getElem?_cons_succ] at h
    have ih := pcells_put3 r q k x v (by simpa using hl) h
    have e : (k + 1) * 7 + 3 = 7 + (k * 7 + 3) := by omega
    simp only [pcells, List.set_cons_succ, ← ih, e]
    rw [List.set_append_right _ _ (by simp [pcell])]
    simp [pcell]
theorem pcells_put2 : ∀ (l : List AObj) (t : List V3) (k : Nat) (x : V3) (v : Value), t.length = l.length → t[k]? = some x → (pcells l t).set (k * 7 + 2) v = pcells l (t.set k (x.1, v, x.2.2))
  | [], t, k, x, v, hl, h => by have : t = [] := List.eq_nil_of_length_eq_zero hl; subst this; simp at h
  | _ :: _, [], _, _, _, hl, _ => by simp at hl
  | a :: r, y :: q, 0, x, v, hl, h => by
    simp only [List.getElem?_cons_zero, Option.some.injEq] at h
    subst h
    simp [pcells, pcell]
  | a :: r, y :: q, k + 1, x, v, hl, h => by
    simp only [List.getElem?_cons_succ] at h
    have ih := pcells_put2 r q k x v (by simpa using hl) h
    have e : (k + 1) * 7 + 2 = 7 + (k * 7 + 2) := by omega
    simp only [pcells, List.set_cons_succ, ← ih, e]
    rw [List.set_append_right _ _ (by simp [pcell])]
    simp [pcell]

theorem ph_upd {w w' : World} {b0 : Nat} {H : AHeap} {vo : Value} {t : List V3} (hp : PH w b0 H vo t) {k : Nat} {o o' : AObj} {x x' : V3} (ho : H.2[k]? = some o) (hx : t[k]? = some x)
    (hos : w'.os = w.os ∧ w'.tape = w.tape ∧ w'.output = w.output) (hsz : w.heap.size ≤ w'.heap.size)
    (hun : ∀ b, b < w.heap.size → vo.ownBlock ≠ some b → b ∉ lbs x → w'.heap[b]? = w.heap[b]?)
    (hrow : w'.ownsRow 0 105 7 vo H.2.length (pcells (H.2.set k o') (t.set k x')))
    (hpl : PL w' o' x') (hnd : (lbs x').Nodup) (hnew : ∀ b ∈ lbs x', b ∈ lbs x ∨ w.heap.size ≤ b) (hok : OKo o') :
    HS w' b0 (H.1, H.2.set k o') (hbs b0 vo (t.set k x')) ∧ Nx (hbs b0 vo t) w w' (hbs b0 vo (t.set k x')) := by
  have hlt : ∀ b ∈ hbs b0 vo t, b < w.heap.size := fun b hb => hp.lt hb
  have hn := hp.nd
  obtain ⟨t1, t2, rfl, rfl⟩ := split_at hx
  rw [set_split] at *
  simp only [hbs, List.nodup_cons, List.mem_append, Option.mem_toList, not_or, List.nodup_append, List.flatMap_append, List.flatMap_cons, List.mem_cons] at hn hlt
  obtain ⟨⟨n1, n2, n3, n4⟩, n5, ⟨n6, ⟨n7, n8, n9⟩, n10⟩, n11⟩ := hn
  have hxlt : ∀ b ∈ lbs x, b < w.heap.size := fun b hb => hlt b (.inr (.inr (.inr (.inl hb))))
  have h1lt : ∀ b ∈ t1.flatMap lbs, b < w.heap.size := fun b hb => hlt b (.inr (.inr (.inl hb)))
  have h2lt : ∀ b ∈ t2.flatMap lbs, b < w.heap.size := fun b hb => hlt b (.inr (.inr (.inr (.inr hb))))
  have hb0 : b0 < w.heap.size := hp.blk.lt
  refine ⟨⟨vo, t1 ++ x' :: t2, ⟨?_, ?_, ?_, ?_, ?_, ?_, hp.top, ?_⟩, rfl⟩, ⟨hos.1, hos.2.1, hos.2.2, hsz, ?_⟩, ?_⟩
  · exact hp.blk.keep (hun b0 hb0 n1 n3)
  · have := hp.len; simp at this ⊢; omega
  · rw [List.length_set]; exact hrow
  · intro i o1 x1 ho1 hx1
    by_cases hik : i = t1.length
    · subst hik
      have hkl : t1.length < H.2.length := (List.getElem?_eq_some_iff.1 ho).1
      have e1 : o1 = o' := by
        have : (H.2.set t1.length o')[t1.length]? = some o' := by simp [hkl]
        exact (Option.some.inj (this.symm.trans ho1)).symm
      have e2 : x1 = x' := by
        have : (t1 ++ x' :: t2)[t1.length]? = some x' := by simp
        exact (Option.some.inj (this.symm.trans hx1)).symm
      subst e1 e2
      exact hpl
    · have ho2 : H.2[i]? = some o1 := by
        have : (H.2.set t1.length o')[i]? = H.2[i]? := List.getElem?_set_ne (fun e => hik e.symm)
        exact this.symm.trans ho1
      have hx2 : (t1 ++ x :: t2)[i]? = some x1 := by
        rw [← set_split t1 t2 x x', List.getElem?_set_ne (fun e => hik e.symm)] at hx1
        exact hx1
      have hmem : (i < t1.length ∧ x1 ∈ t1) ∨ x1 ∈ t2 := by
        by_cases hi : i < t1.length
        · rw [List.getElem?_append_left hi] at hx2
          exact .inl ⟨hi, List.mem_of_getElem? hx2⟩
        · rw [List.getElem?_append_right (by omega)] at hx2
          obtain ⟨j, hj⟩ : ∃ j, i - t1.length = j + 1 := ⟨i - t1.length - 1, by omega⟩
          rw [hj, List.getElem?_cons_succ] at hx2
          exact .inr (List.mem_of_getElem? hx2)
      refine (hp.ls i o1 x1 ho2 hx2).same (fun b hb => ?_)
      rcases hmem with ⟨_, hm⟩ | hm
      · have hb1 : b ∈ t1.flatMap lbs := List.mem_flatMap.2 ⟨x1, hm, hb⟩
        exact hun b (h1lt b hb1) (fun e => n11 b e b (.inl hb1) rfl) (fun hx => n10 b hb1 b (.inl hx) rfl)
      · have hb2 : b ∈ t2.flatMap lbs := List.mem_flatMap.2 ⟨x1, hm, hb⟩
        exact hun b (h2lt b hb2) (fun e => n11 b e b (.inr (.inr hb2)) rfl) (fun hx => n9 b hx b hb2 rfl)
  · simp only [hbs, List.nodup_cons, List.mem_append, Option.mem_toList, not_or, List.nodup_append, List.flatMap_append, List.flatMap_cons, List.mem_cons]
    refine ⟨⟨n1, n2, fun h => ?_, n4⟩, n5, ⟨n6, ⟨hnd, n8, fun a ha b hb e => ?_⟩, fun a ha b hb e => ?_⟩, fun a ha b hb e => ?_⟩
    · rcases hnew b0 h with h | h
      · exact n3 h
      · omega
    · subst e
      rcases hnew a ha with h | h
      · exact n9 a h a hb rfl
      · have := h2lt a hb; omega
    · subst e
      rcases hb with hb | hb
      · rcases hnew a hb with h | h
        · exact n10 a ha a (.inl h) rfl
        · have := h1lt a ha; omega
      · exact n10 a ha a (.inr hb) rfl
    · subst e
      rcases hb with hb | hb | hb
      · exact n11 a ha a (.inl hb) rfl
      · rcases hnew a hb with h | h
        · exact n11 a ha a (.inr (.inl h)) rfl
        · have := hlt a (.inr (.inl ha)); omega
      · exact n11 a ha a (.inr (.inr hb)) rfl
  · rw [List.length_set]; exact hp.most
  · intro o1 h1
    rcases List.mem_or_eq_of_mem_set h1 with h | h
    · exact hp.ok o1 h
    · exact h ▸ hok
  · intro b hb hn
    simp only [hbs, List.mem_append, Option.mem_toList, not_or, List.flatMap_append, List.flatMap_cons, List.mem_cons] at hn
    exact hun b hb hn.2.1 hn.2.2.2.1
  · intro b hb
    simp only [hbs, List.mem_append, Option.mem_toList, List.flatMap_append, List.flatMap_cons, List.mem_cons] at hb ⊢
    rcases hb with h | h | h | h | h
    · exact .inl (.inl h)
    · exact .inl (.inr (.inl h))
    · exact .inl (.inr (.inr (.inl h)))
    · rcases hnew b h with h | h
      · exact .inl (.inr (.inr (.inr (.inl h))))
      · exact .inr h
    · exact .inl (.inr (.inr (.inr (.inr h))))

end Go.Proofs.YtjcoifdfemejkaaGreatDoor

set_option linter.unusedSimpArgs false
set_option linter.unusedVariables false
namespace Go.Proofs.YtjcoifdfemejkaaGreatDoor
open Go Go.RowKit

/-- What the blocks of one object have to do with the rest. -/
theorem PH.apart {w : World} {b0 : Nat} {H : AHeap} {vo : Value} {t : List V3} (hp : PH w b0 H vo t) {k : Nat} {x : V3} (hx : t[k]? = some x) :
    (lbs x).Nodup ∧ (∀ b ∈ lbs x, vo.ownBlock ≠ some b) ∧ (∀ b ∈ lbs x, b ≠ b0) ∧ vo.ownBlock ≠ some b0 := by
  have hn := hp.nd
  obtain ⟨t1, t2, rfl, rfl⟩ := split_at hx
  simp only [hbs, List.nodup_cons, List.mem_append, Option.mem_toList, not_or, List.nodup_append, List.flatMap_append, List.flatMap_cons, List.mem_cons] at hn
  obtain ⟨⟨n1, n2, n3, n4⟩, n5, ⟨n6, ⟨n7, n8, n9⟩, n10⟩, n11⟩ := hn
  exact ⟨n7, fun b hb e => n11 b e b (.inr (.inl hb)) rfl, fun b hb e => n3 (e ▸ hb), n1⟩

theorem lbs_apart {xb xk xl : Value} (h : (lbs (xb, xk, xl)).Nodup) : (∀ b, xb.ownBlock = some b → xl.ownBlock ≠ some b) ∧ (∀ b, xk.ownBlock = some b → xl.ownBlock ≠ some b) ∧ (∀ b, xb.ownBlock = some b → xk.ownBlock ≠ some b) := by
  simp only [lbs] at h
  cases h1 : xb.ownBlock <;> cases h2 : xk.ownBlock <;> cases h3 : xl.ownBlock <;> simp [h1, h2, h3] at h ⊢ <;> omega

theorem lbs_nodup {xb xk xl : Value} (h1 : ∀ b, xb.ownBlock = some b → xl.ownBlock ≠ some b) (h2 : ∀ b, xk.ownBlock = some b → xl.ownBlock ≠ some b) (h3 : ∀ b, xb.ownBlock = some b → xk.ownBlock ≠ some b) : (lbs (xb, xk, xl)).Nodup := by
  simp only [lbs]
  cases e1 : xb.ownBlock <;> cases e2 : xk.ownBlock <;> cases e3 : xl.ownBlock <;> simp [e1, e2, e3] at h1 h2 h3 ⊢ <;> omega

theorem mem_lbs {xb xk xl : Value} {b : Nat} : b ∈ lbs (xb, xk, xl) ↔ xb.ownBlock = some b ∨ xk.ownBlock = some b ∨ xl.ownBlock = some b := by
  simp [lbs, Option.mem_toList]

theorem withVals_cell (o : AObj) (l : List Int) (x : V3) : pcell (withVals o l) x = pcell o x := rfl

theorem okv {o : AObj} {l : List Int} (h : OKo o) (h1 : o.kind ≠ 1) (h3 : o.kind ≠ 3) (hu : ∀ v ∈ l, U v) (hl : l.length ≤ 1000000) : OKo (withVals o l) :=
  ⟨fun e => absurd e h1, h.2.1, fun e => absurd e h3, hu, h.2.2.2.2.1, h.2.2.2.2.2.1, hl, h.2.2.2.2.2.2.2⟩

theorem ph_set {W : World} {b0 : Nat} {H : AHeap} {vo : Value} {t : List V3} (hp : PH W b0 H vo t) {k : Nat} {o : AObj} {xb xk : Value} {bb cap : Nat} (ho : H.2[k]? = some o) (hx : t[k]? = some (xb, xk, .slice (some ⟨bb, 0, none⟩) o.vals.length cap))
    (h1 : o.kind ≠ 1) (h3 : o.kind ≠ 3) (j : Nat) (u : Int) (hU : U u) :
    HS (W.setCell ⟨bb, j, none⟩ (.int .u64 u)) b0 (H.1, H.2.set k (withVals o (o.vals.set j u))) (hbs b0 vo t) ∧ Nx (hbs b0 vo t) W (W.setCell ⟨bb, j, none⟩ (.int .u64 u)) (hbs b0 vo t) := by
  obtain ⟨nd, ap, _, _⟩ := hp.apart hx
  have hl := hp.ls k _ _ ho hx
  have hoo := hp.ok o (List.mem_of_getElem? ho)
  have hbb : bb ∈ lbs (xb, xk, .slice (some ⟨bb, 0, none⟩) o.vals.length cap) := mem_lbs.2 (.inr (.inr rfl))
  obtain ⟨d1, d2, d3⟩ := lbs_apart nd
  have ht : t.set k (xb, xk, .slice (some ⟨bb, 0, none⟩) o.vals.length cap) = t := by
    obtain ⟨hk, e⟩ := List.getElem?_eq_some_iff.1 hx
    rw [← e]; exact List.set_getElem_self hk
  have hh : ∀ b, b ≠ bb → (W.setCell ⟨bb, j, none⟩ (.int .u64 u)).heap[b]? = W.heap[b]? := fun b hb => Below.heap_setCell W ⟨bb, j, none⟩ _ b hb
  have st := (hl.2.2.stored j (.int .u64 u)).1
  have hm : (o.vals.map (Value.int .u64)).set j (.int .u64 u) = (o.vals.set j u).map (Value.int .u64) := by rw [List.map_set]
  rw [hm] at st
  have key := ph_upd (w' := W.setCell ⟨bb, j, none⟩ (.int .u64 u)) (o' := withVals o (o.vals.set j u)) (x' := (xb, xk, .slice (some ⟨bb, 0, none⟩) o.vals.length cap)) hp ho hx ⟨rfl, rfl, rfl⟩ (by simp)
    (fun b hb _ hn => hh b (fun e => hn (e ▸ hbb)))
    (by rw [ht, pcells_same _ _ _ _ _ ho (withVals_cell o _)]; exact own_same hp.row (fun b hb => hh b (fun e => ap bb hbb (e ▸ hb))))
    ⟨own_same hl.1 (fun b hb => hh b (fun e => d1 b hb (by rw [e]; rfl))), own_same hl.2.1 (fun b hb => hh b (fun e => d2 b hb (by rw [e]; rfl))), by simpa [withVals, AObj.vals] using st⟩
    nd (fun b hb => .inl hb) (okv hoo h1 h3 (fun v hv => by
      rcases List.mem_or_eq_of_mem_set hv with h | h
      · exact hoo.2.2.2.1 v h
      · exact h ▸ hU) (by rw [List.length_set]; exact hoo.2.2.2.2.2.2.1))
  rw [ht] at key
  exact key

theorem ph_push {W w5 : World} {b0 : Nat} {H : AHeap} {t : List V3} {g n' cap' : Nat} (hp : PH W b0 H (.slice (some ⟨g, 0, none⟩) n' cap') t) {k : Nat} {o : AObj} {xb xk xl v' : Value} (ho : H.2[k]? = some o) (hx : t[k]? = some (xb, xk, xl))
    (h1 : o.kind ≠ 1) (h3 : o.kind ≠ 3) (hlen : o.vals.length < 65536) (u : Int) (hU : U u) (ob : Obj)
    (ow : w5.ownsRow 0 27 1 v' (o.vals.length + 1) (o.vals.map (Value.int .u64) ++ [.int .u64 u])) (gr : (W.alloc ob).grownBy w5 xl.ownBlock)
    (hv : v'.ownBlock = xl.ownBlock ∨ ∀ q, v'.ownBlock = some q → (W.alloc ob).heap.size ≤ q) :
    HS (w5.setCell ⟨g, k * 7 + 3, none⟩ v') b0 (H.1, H.2.set k (withVals o (o.vals ++ [u]))) (hbs b0 (.slice (some ⟨g, 0, none⟩) n' cap') (t.set k (xb, xk, v'))) ∧
      Nx (hbs b0 (.slice (some ⟨g, 0, none⟩) n' cap') t) W (w5.setCell ⟨g, k * 7 + 3, none⟩ v') (hbs b0 (.slice (some ⟨g, 0, none⟩) n' cap') (t.set k (xb, xk, v'))) := by
  obtain ⟨nd, ap, _, _⟩ := hp.apart hx
  have hl := hp.ls k _ _ ho hx
  have hoo := hp.ok o (List.mem_of_getElem? ho)
  obtain ⟨d1, d2, d3⟩ := lbs_apart nd
  have hWs : (W.alloc ob).heap.size = W.heap.size + 1 := World.size_alloc ..
  have hgs := gr.size
  have hg : g < W.heap.size := own_lt hp.row rfl
  have e1 : n' = H.2.length := by
    obtain ⟨a, c, e⟩ := own_form hp.row
    cases e; rfl
  subst e1
  have hxg : xl.ownBlock ≠ some g := fun e => ap g (mem_lbs.2 (.inr (.inr e))) rfl
  have hh : ∀ b, b < W.heap.size → b ≠ g → xl.ownBlock ≠ some b → (w5.setCell ⟨g, k * 7 + 3, none⟩ v').heap[b]? = W.heap[b]? := fun b hb h1 h2 => by
    rw [Below.heap_setCell w5 ⟨g, k * 7 + 3, none⟩ v' b h1, gr.block b (by omega) (fun e => h2 e.symm), Below.heap_alloc W ob b hb]
  have r5 : w5.ownsRow 0 105 7 (.slice (some ⟨g, 0, none⟩) H.2.length cap') H.2.length (pcells H.2 t) :=
    own_same hp.row (fun b hb => by
      cases hb
      rw [gr.block g (by omega) (fun e => hxg e.symm)]
      exact Below.heap_alloc W ob g hg)
  have st := (r5.stored (k * 7 + 3) v').1
  rw [pcells_put3 _ _ _ _ _ hp.len hx] at st
  have hvg : v'.ownBlock ≠ some g := by
    rcases hv with e | e
    · rw [e]; exact hxg
    · intro h; have := e g h; omega
  have hb1 : ∀ b, xb.ownBlock = some b → b < W.heap.size := fun b hb => own_lt hl.1 hb
  have hb2 : ∀ b, xk.ownBlock = some b → b < W.heap.size := fun b hb => own_lt hl.2.1 hb
  have m1 : ∀ b, xb.ownBlock = some b → b ≠ g := fun b hb e => ap b (mem_lbs.2 (.inl hb)) (by rw [e]; rfl)
  have m2 : ∀ b, xk.ownBlock = some b → b ≠ g := fun b hb e => ap b (mem_lbs.2 (.inr (.inl hb))) (by rw [e]; rfl)
  refine ph_upd (w' := w5.setCell ⟨g, k * 7 + 3, none⟩ v') (o' := withVals o (o.vals ++ [u])) (x' := (xb, xk, v')) hp ho hx ⟨gr.os, gr.tape, gr.output⟩ (by simp; omega)
    (fun b hb hn hm => hh b hb (fun e => hn (by rw [e]; rfl)) (fun e => hm (mem_lbs.2 (.inr (.inr e)))))
    (by rw [pcells_same _ _ _ _ _ ho (withVals_cell o _)]; exact st)
    ⟨own_same hl.1 (fun b hb => hh b (hb1 b hb) (m1 b hb) (d1 b hb)), own_same hl.2.1 (fun b hb => hh b (hb2 b hb) (m2 b hb) (d2 b hb)), ?_⟩ ?_ ?_ ?_
  · have := own_same (w' := w5.setCell ⟨g, k * 7 + 3, none⟩ v') ow (fun b hb => Below.heap_setCell w5 ⟨g, k * 7 + 3, none⟩ v' b (fun e => hvg ((show b = g from e) ▸ hb)))
    simpa [withVals, AObj.vals] using this
  · refine lbs_nodup (fun b hb e => ?_) (fun b hb e => ?_) d3
    · rcases hv with h | h
      · exact d1 b hb (h ▸ e)
      · have := h b e; have := hb1 b hb; omega
    · rcases hv with h | h
      · exact d2 b hb (h ▸ e)
      · have := h b e; have := hb2 b hb; omega
  · intro b hb
    rcases mem_lbs.1 hb with h | h | h
    · exact .inl (mem_lbs.2 (.inl h))
    · exact .inl (mem_lbs.2 (.inr (.inl h)))
    · rcases hv with e | e
      · exact .inl (mem_lbs.2 (.inr (.inr (e ▸ h))))
      · have := e b h; exact .inr (by omega)
  · refine okv hoo h1 h3 (fun v hv => ?_) (by simp; omega)
    rcases List.mem_append.1 hv with h | h
    · exact hoo.2.2.2.1 v h
    · rw [List.mem_singleton] at h; exact h ▸ hU

theorem ph_pop {W : World} {b0 : Nat} {H : AHeap} {t : List V3} {g n' cap' : Nat} (hp : PH W b0 H (.slice (some ⟨g, 0, none⟩) n' cap') t) {k : Nat} {o : AObj} {xb xk : Value} {bb cap : Nat} (ho : H.2[k]? = some o) (hx : t[k]? = some (xb, xk, .slice (some ⟨bb, 0, none⟩) o.vals.length cap))
    (h1 : o.kind ≠ 1) (h3 : o.kind ≠ 3) (n : Nat) (hn : n ≤ o.vals.length) :
    HS (W.setCell ⟨g, k * 7 + 3, none⟩ (.slice (some ⟨bb, 0, none⟩) n cap)) b0 (H.1, H.2.set k (withVals o (o.vals.take n))) (hbs b0 (.slice (some ⟨g, 0, none⟩) n' cap') (t.set k (xb, xk, .slice (some ⟨bb, 0, none⟩) n cap))) ∧
      Nx (hbs b0 (.slice (some ⟨g, 0, none⟩) n' cap') t) W (W.setCell ⟨g, k * 7 + 3, none⟩ (.slice (some ⟨bb, 0, none⟩) n cap)) (hbs b0 (.slice (some ⟨g, 0, none⟩) n' cap') (t.set k (xb, xk, .slice (some ⟨bb, 0, none⟩) n cap))) := by
  obtain ⟨nd, ap, _, _⟩ := hp.apart hx
  have hl := hp.ls k _ _ ho hx
  have hoo := hp.ok o (List.mem_of_getElem? ho)
  obtain ⟨d1, d2, d3⟩ := lbs_apart nd
  have e1 : n' = H.2.length := by
    obtain ⟨a, c, e⟩ := own_form hp.row
    cases e; rfl
  subst e1
  have hh : ∀ b, b ≠ g → (W.setCell ⟨g, k * 7 + 3, none⟩ (.slice (some ⟨bb, 0, none⟩) n cap)).heap[b]? = W.heap[b]? := fun b hb => Below.heap_setCell W ⟨g, k * 7 + 3, none⟩ _ b hb
  have st := (hp.row.stored (k * 7 + 3) (.slice (some ⟨bb, 0, none⟩) n cap)).1
  rw [pcells_put3 _ _ _ _ _ hp.len hx] at st
  have m1 : ∀ b, xb.ownBlock = some b → b ≠ g := fun b hb e => ap b (mem_lbs.2 (.inl hb)) (by rw [e]; rfl)
  have m2 : ∀ b, xk.ownBlock = some b → b ≠ g := fun b hb e => ap b (mem_lbs.2 (.inr (.inl hb))) (by rw [e]; rfl)
  have m3 : bb ≠ g := fun e => ap bb (mem_lbs.2 (.inr (.inr rfl))) (by rw [e]; rfl)
  refine ph_upd (w' := W.setCell ⟨g, k * 7 + 3, none⟩ (.slice (some ⟨bb, 0, none⟩) n cap)) (o' := withVals o (o.vals.take n)) (x' := (xb, xk, .slice (some ⟨bb, 0, none⟩) n cap)) hp ho hx ⟨rfl, rfl, rfl⟩ (by simp)
    (fun b hb hn hm => hh b (fun e => hn (by rw [e]; rfl)))
    (by rw [pcells_same _ _ _ _ _ ho (withVals_cell o _)]; exact st)
    ⟨own_same hl.1 (fun b hb => hh b (m1 b hb)), own_same hl.2.1 (fun b hb => hh b (m2 b hb)), ?_⟩ nd (fun b hb => .inl hb) ?_
  · rcases hl.2.2.2 with ⟨h, _⟩ | ⟨g2, cap2, cur, hv, hb, hg, hnc, hcm, hcs, htake⟩
    · cases h
    · cases hv
      have hwl : (withVals o (o.vals.take n)).vals.length = n := by show (o.vals.take n).length = n; rw [List.length_take, Nat.min_eq_left hn]
      refine ⟨by rw [List.length_map, Nat.mul_one], .inr ⟨bb, cap, cur, by rw [hwl], Nat.zero_le _, (hh bb m3).trans hg, by rw [hwl]; omega, hcm, hcs, ?_⟩⟩
      have : (withVals o (o.vals.take n)).vals = o.vals.take n := rfl
      rw [this, List.length_take, Nat.min_eq_left hn, List.map_take, ← htake, List.take_take, Nat.mul_one, Nat.mul_one, Nat.min_eq_left hn]
  · exact okv hoo h1 h3 (fun v hv => hoo.2.2.2.1 v (List.mem_of_mem_take hv)) (by have := hoo.2.2.2.2.2.2.1; simp; omega)

end Go.Proofs.YtjcoifdfemejkaaGreatDoor

