/- A heap of the program with an object turned: how it lies in memory. Nothing of the program's calls is in it. -/
import Derived.Test.YtajnpdiepiinjaaGreatDoorPL
import Derived.Test.YtajnpdiepiinjaaGreatDoorAp
set_option linter.unusedSimpArgs false
set_option linter.unusedVariables false
namespace Go.Proofs.YtajnpdiepiinjaaGreatDoor
open Go Go.RowKit

abbrev V3 := Value × Value × Value

theorem split_at {α : Type} {t : List α} {k : Nat} {x : α} (h : t[k]? = some x) : ∃ t1 t2, t = t1 ++ x :: t2 ∧ t1.length = k := by
  obtain ⟨hk, rfl⟩ := List.getElem?_eq_some_iff.1 h
  refine ⟨t.take k, t.drop (k + 1), ?_, by simp; omega⟩
  rw [List.getElem_cons_drop, List.take_append_drop]
theorem set_split {α : Type} (t1 t2 : List α) (x y : α) : (t1 ++ x :: t2).set t1.length y = t1 ++ y :: t2 := by simp

theorem pcells_same : ∀ (l : List AObj) (t : List V3) (k : Nat) (o o' : AObj), l[k]? = some o → (∀ x, pcell o' x = pcell o x) → pcells (l.set k o') t = pcells l t
  | [], _, _, _, _, h, _ => by simp at h
  | _ :: _, [], k, _, _, _, _ => by cases k <;> rfl
  | a :: r, y :: q, 0, o, o', h, hs => by
    simp only [List.getElem?_cons_zero, Option.some.injEq] at h
    subst h
    simp [pcells, hs]
  | a :: r, y :: q, k + 1, o, o', h, hs => by
    simp only [List.getElem?_cons_succ] at h
    simp [pcells, pcells_same r q k o o' h hs]

theorem pcells_put3 : ∀ (l : List AObj) (t : List V3) (k : Nat) (x : V3) (v : Value), t.length = l.length → t[k]? = some x → (pcells l t).set (k * 7 + 3) v = pcells l (t.set k (x.1, x.2.1, v))
  | [], t, k, x, v, hl, h => by have : t = [] := List.eq_nil_of_length_eq_zero hl; subst this; simp at h
  | _ :: _, [], _, _, _, hl, _ => by simp at hl
  | a :: r, y :: q, 0, x, v, hl, h => by
    simp only [List.getElem?_cons_zero, Option.some.injEq] at h
    subst h
    simp [pcells, pcell]
  | a :: r, y :: q, k + 1, x, v, hl, h => by
    simp only [List.getElem?_cons_succ] at h
    have ih := pcells_put3 r q k x v (by simpa using hl) h
    have e : (k + 1) * 7 + 3 = 7 + (k * 7 + 3) := by omega
    simp only [pcells, List.set_cons_succ, ← ih, e]
    rw [List.set_append_right _ _ (by simp [pcell])]
    simp [pcell]
theorem pcells_put2 : ∀ (l : List AObj) (t : List V3) (k : Nat) (x : V3) (v : Value), t.length = l.length → t[k]? = some x → (pcells l t).set (k * 7 + 2) v = pcells l (t.set k (x.1, v, x.2.2))
  | [], t, k, x, v, hl, h => by have : t = [] := List.eq_nil_of_length_eq_zero hl; subst this; simp at h
  | _ :: _, [], _, _, _, hl, _ => by simp at hl
  | a :: r, y :: q, 0, x, v, hl, h => by
    simp only [List.getElem?_cons_zero, Option.some.injEq] at h
    subst h
    simp [pcells, pcell]
  | a :: r, y :: q, k + 1, x, v, hl, h => by
    simp only [List.getElem?_cons_succ] at h
    have ih := pcells_put2 r q k x v (by simpa using hl) h
    have e : (k + 1) * 7 + 2 = 7 + (k * 7 + 2) := by omega
    simp only [pcells, List.set_cons_succ, ← ih, e]
    rw [List.set_append_right _ _ (by simp [pcell])]
    simp [pcell]

theorem ph_upd {w w' : World} {b0 : Nat} {H : AHeap} {vo : Value} {t : List V3} (hp : PH w b0 H vo t) {k : Nat} {o o' : AObj} {x x' : V3} (ho : H.2[k]? = some o) (hx : t[k]? = some x)
    (hos : w'.os = w.os ∧ w'.tape = w.tape ∧ w'.output = w.output) (hsz : w.heap.size ≤ w'.heap.size)
    (hun : ∀ b, b < w.heap.size → vo.ownBlock ≠ some b → b ∉ lbs x → w'.heap[b]? = w.heap[b]?)
    (hrow : w'.ownsRow 0 125 7 vo H.2.length (pcells (H.2.set k o') (t.set k x')))
    (hpl : PL w' o' x') (hnd : (lbs x').Nodup) (hnew : ∀ b ∈ lbs x', b ∈ lbs x ∨ w.heap.size ≤ b) (hok : OKo o') :
    HS w' b0 (H.1, H.2.set k o') (hbs b0 vo (t.set k x')) ∧ Nx (hbs b0 vo t) w w' (hbs b0 vo (t.set k x')) := by
  have hlt : ∀ b ∈ hbs b0 vo t, b < w.heap.size := fun b hb => hp.lt hb
  have hn := hp.nd
  obtain ⟨t1, t2, rfl, rfl⟩ := split_at hx
  rw [set_split] at *
  simp only [hbs, List.nodup_cons, List.mem_append, Option.mem_toList, not_or, List.nodup_append, List.flatMap_append, List.flatMap_cons, List.mem_cons] at hn hlt
  obtain ⟨⟨n1, n2, n3, n4⟩, n5, ⟨n6, ⟨n7, n8, n9⟩, n10⟩, n11⟩ := hn
  have hxlt : ∀ b ∈ lbs x, b < w.heap.size := fun b hb => hlt b (.inr (.inr (.inr (.inl hb))))
  have h1lt : ∀ b ∈ t1.flatMap lbs, b < w.heap.size := fun b hb => hlt b (.inr (.inr (.inl hb)))
  have h2lt : ∀ b ∈ t2.flatMap lbs, b < w.heap.size := fun b hb => hlt b (.inr (.inr (.inr (.inr hb))))
  have hb0 : b0 < w.heap.size := hp.blk.lt
  refine ⟨⟨vo, t1 ++ x' :: t2, ⟨?_, ?_, ?_, ?_, ?_, ?_, hp.top, ?_⟩, rfl⟩, ⟨hos.1, hos.2.1, hos.2.2, hsz, ?_⟩, ?_⟩
  · exact hp.blk.keep (hun b0 hb0 n1 n3)
  · have := hp.len; simp at this ⊢; omega
  · rw [List.length_set]; exact hrow
  · intro i o1 x1 ho1 hx1
    by_cases hik : i = t1.length
    · subst hik
      have hkl : t1.length < H.2.length := (List.getElem?_eq_some_iff.1 ho).1
      have e1 : o1 = o' := by
        have : (H.2.set t1.length o')[t1.length]? = some o' := by simp [hkl]
        exact (Option.some.inj (this.symm.trans ho1)).symm
      have e2 : x1 = x' := by
        have : (t1 ++ x' :: t2)[t1.length]? = some x' := by simp
        exact (Option.some.inj (this.symm.trans hx1)).symm
      subst e1 e2
      exact hpl
    · have ho2 : H.2[i]? = some o1 := by
        have : (H.2.set t1.length o')[i]? = H.2[i]? := List.getElem?_set_ne (fun e => hik e.symm)
        exact this.symm.trans ho1
      have hx2 : (t1 ++ x :: t2)[i]? = some x1 := by
        rw [← set_split t1 t2 x x', List.getElem?_set_ne (fun e => hik e.symm)] at hx1
        exact hx1
      have hmem : (i < t1.length ∧ x1 ∈ t1) ∨ x1 ∈ t2 := by
        by_cases hi : i < t1.length
        · rw [List.getElem?_append_left hi] at hx2
          exact .inl ⟨hi, List.mem_of_getElem? hx2⟩
        · rw [List.getElem?_append_right (by omega)] at hx2
          obtain ⟨j, hj⟩ : ∃ j, i - t1.length = j + 1 := ⟨i - t1.length - 1, by omega⟩
          rw [hj, List.getElem?_cons_succ] at hx2
          exact .inr (List.mem_of_getElem? hx2)
      refine (hp.ls i o1 x1 ho2 hx2).same (fun b hb => ?_)
      rcases hmem with ⟨_, hm⟩ | hm
      · have hb1 : b ∈ t1.flatMap lbs := List.mem_flatMap.2 ⟨x1, hm, hb⟩
        exact hun b (h1lt b hb1) (fun e => n11 b e b (.inl hb1) rfl) (fun hx => n10 b hb1 b (.inl hx) rfl)
      · have hb2 : b ∈ t2.flatMap lbs := List.mem_flatMap.2 ⟨x1, hm, hb⟩
        exact hun b (h2lt b hb2) (fun e => n11 b e b (.inr (.inr hb2)) rfl) (fun hx => n9 b hx b hb2 rfl)
  · simp only [hbs, List.nodup_cons, List.mem_append, Option.mem_toList, not_or, List.nodup_append, List.flatMap_append, List.flatMap_cons, List.mem_cons]
    refine ⟨⟨n1, n2, fun h => ?_, n4⟩, n5, ⟨n6, ⟨hnd, n8, fun a ha b hb e => ?_⟩, fun a ha b hb e => ?_⟩, fun a ha b hb e => ?_⟩
    · rcases hnew b0 h with h | h
      · exact n3 h
      · omega
    · subst e
      rcases hnew a ha with h | h
      · exact n9 a h a hb rfl
      · have := h2lt a hb; omega
    · subst e
      rcases hb with hb | hb
      · rcases hnew a hb with h | h
        · exact n10 a ha a (.inl h) rfl
        · have := h1lt a ha; omega
      · exact n10 a ha a (.inr hb) rfl
    · subst e
      rcases hb with hb | hb | hb
      · exact n11 a ha a (.inl hb) rfl
      · rcases hnew a hb with h | h
        · exact n11 a ha a (.inr (.inl h)) rfl
        · have := hlt a (.inr (.inl ha)); omega
      · exact n11 a ha a (.inr (.inr hb)) rfl
  · rw [List.length_set]; exact hp.most
  · intro o1 h1
    rcases List.mem_or_eq_of_mem_set h1 with h | h
    · exact hp.ok o1 h
    · exact h ▸ hok
  · intro b hb hn
    simp only [hbs, List.mem_append, Option.mem_toList, not_or, List.flatMap_append, List.flatMap_cons, List.mem_cons] at hn
    exact hun b hb hn.2.1 hn.2.2.2.1
  · intro b hb
    simp only [hbs, List.mem_append, Option.mem_toList, List.flatMap_append, List.flatMap_cons, List.mem_cons] at hb ⊢
    rcases hb with h | h | h | h | h
    · exact .inl (.inl h)
    · exact .inl (.inr (.inl h))
    · exact .inl (.inr (.inr (.inl h)))
    · rcases hnew b h with h | h
      · exact .inl (.inr (.inr (.inr (.inl h))))
      · exact .inr h
    · exact .inl (.inr (.inr (.inr (.inr h))))

end Go.Proofs.YtajnpdiepiinjaaGreatDoor
