/- The document's heap as plain data: objects, heaps; which words are good, kinds, the object of a reference: the contracts. -/
import Derived.Test.YtajnpdiepiinjaaGreatDoorRT
import Derived.Test.YtajnpdiepiinjaaGreatDoorLy
set_option linter.unusedSimpArgs false
set_option linter.unusedVariables false
namespace Go.Proofs.YtajnpdiepiinjaaGreatDoor
open Go Go.RowKit

/-- The seven cells of an object. -/
def ocells (o : AObj) (vb vv vk : Value) : List Value := [.int .i64 o.kind, vb, vv, vk, .int .i64 o.num, .int .u64 o.re, .int .u64 o.im]

/-- Its three lists read as its own. -/
def OL (w : World) (G : Nat → Prop) (o : AObj) (vb vv vk : Value) : Prop :=
  Sl w G vb o.bytes.length 1 (o.bytes.map (Value.int .u8)) ∧ Sl w G vv o.vals.length 1 (o.vals.map (Value.int .u64)) ∧ Sl w G vk o.keys.length 1 (o.keys.map Value.string)

theorem OL.keep {w w' : World} {G G' : Nat → Prop} {o : AObj} {vb vv vk : Value} (h : OL w G o vb vv vk)
    (hs : w.heap.size ≤ w'.heap.size) (hb : ∀ b, b < w.heap.size → G b → w'.heap[b]? = w.heap[b]?) (hG : ∀ b, b < w.heap.size → G b → G' b) : OL w' G' o vb vv vk :=
  ⟨h.1.keep hs hb hG, h.2.1.keep hs hb hG, h.2.2.keep hs hb hG⟩
theorem OL.below {w w' : World} {G : Nat → Prop} {o : AObj} {vb vv vk : Value} (h : OL w G o vb vv vk) (hb : Bw w w') : OL w' G o vb vv vk :=
  ⟨h.1.below hb, h.2.1.below hb, h.2.2.below hb⟩

/-- The cells of all objects, their lists by the values t. -/
def hcells : List AObj → List (Value × Value × Value) → List Value
  | o :: r, t :: q => ocells o t.1 t.2.1 t.2.2 ++ hcells r q
  | _, _ => []

theorem hcells_length : ∀ (l : List AObj) (t : List (Value × Value × Value)), t.length = l.length → (hcells l t).length = l.length * 7
  | [], _, _ => rfl
  | o :: r, [], h => by simp at h
  | o :: r, x :: q, h => by
    have := hcells_length r q (by simpa using h)
    simp only [hcells, List.length_append, this, List.length_cons]
    simp [ocells]; omega

theorem hcells_at : ∀ (l : List AObj) (t : List (Value × Value × Value)), t.length = l.length → ∀ i o x, l[i]? = some o → t[i]? = some x → ∀ j, j < 7 → (hcells l t)[i * 7 + j]? = (ocells o x.1 x.2.1 x.2.2)[j]?
  | [], _, _, i, o, x, h, _, _, _ => by simp at h
  | o' :: r, [], h, _, _, _, _, _, _, _ => by simp at h
  | o' :: r, x' :: q, h, i, o, x, ho, hx, j, hj => by
    have hl : (ocells o' x'.1 x'.2.1 x'.2.2).length = 7 := rfl
    cases i with
    | zero =>
      simp only [List.getElem?_cons_zero, Option.some.injEq] at ho hx
      subst ho hx
      simp only [hcells, Nat.zero_mul, Nat.zero_add]
      rw [List.getElem?_append_left (by omega)]
    | succ i =>
      simp only [List.getElem?_cons_succ] at ho hx
      have := hcells_at r q (by simpa using h) i o x ho hx j hj
      simp only [hcells]
      rw [List.getElem?_append_right (by omega), hl, ← this]
      congr 1; omega

/-- The value v reads as the heap H. -/
def RdH (w : World) (G : Nat → Prop) (v : Value) (H : AHeap) : Prop :=
  ∃ (va : Value) (t : List (Value × Value × Value)), v = .agg #[.int .i64 H.1, va] ∧ t.length = H.2.length ∧ Sl w G va H.2.length 7 (hcells H.2 t) ∧
    ∀ (i : Nat) (o : AObj) (x : Value × Value × Value), H.2[i]? = some o → t[i]? = some x → OL w G o x.1 x.2.1 x.2.2

theorem RdH.keep {w w' : World} {G G' : Nat → Prop} {v : Value} {H : AHeap} (h : RdH w G v H)
    (hs : w.heap.size ≤ w'.heap.size) (hb : ∀ b, b < w.heap.size → G b → w'.heap[b]? = w.heap[b]?) (hG : ∀ b, b < w.heap.size → G b → G' b) : RdH w' G' v H := by
  obtain ⟨va, t, e, ht, h1, h2⟩ := h
  exact ⟨va, t, e, ht, h1.keep hs hb hG, fun i o x ho hx => (h2 i o x ho hx).keep hs hb hG⟩
theorem RdH.below {w w' : World} {G : Nat → Prop} {v : Value} {H : AHeap} (h : RdH w G v H) (hb : Bw w w') : RdH w' G v H :=
  h.keep hb.size (fun b hlt _ => hb.block b hlt) (fun _ _ g => g)

set_option maxHeartbeats 1000000 in
theorem rgood_any (G : Nat → Prop) (hv : Value) (H : AHeap) (v : Int) (hU : U v) (w : World) (h : RdH w G hv H) (hm : H.2.length ≤ 9223372036854775807) :
    Calls Tryz.prog 100 #[hv, .int .u64 v] w fun e w' => e = .returned (.bool (gd H.2.length v)) ∧ Ly w w' := by
  obtain ⟨va, t, rfl, ht, hs, ho⟩ := h
  obtain ⟨a, cap, rfl⟩ := hs.form
  clear ho hs
  go_enter Tryz.func100, Tryz.ntmps100
  go_wp2_with (first
    | (go_at_call 49; refine (rkind_any _ hU _).mono ?_; rintro e w' ⟨rfl, rfl⟩)
    | (go_at_call 121; refine (rindex_any _ hU _).mono ?_; rintro e w' ⟨rfl, rfl⟩))
  all_goals go_ret
  all_goals refine ⟨ret_bool ?_, by repeat (first | exact Ly.refl _ | apply Ly.lay | apply Ly.alloc | apply Ly.drewN | apply Ly.drew)⟩
  all_goals simp_all [gd]

set_option maxHeartbeats 1000000 in
theorem rkindH_any (G : Nat → Prop) (hv : Value) (H : AHeap) (v : Int) (hU : U v) (w : World) (h : RdH w G hv H) (hm : H.2.length ≤ 9223372036854775807) :
    Calls Tryz.prog 53 #[hv, .int .u64 v] w fun e w' => e = .returned (.int .i64 (kk H v)) ∧ Ly w w' := by
  obtain ⟨va, t, rfl, ht, hs, ho⟩ := h
  obtain ⟨a, cap, rfl⟩ := hs.form
  by_cases hk : kd v = 2 ∧ idxV v < H.2.length
  · obtain ⟨k, hki⟩ : ∃ k : Nat, idxV v = k := ⟨(idxV v).toNat, by have := idx_bd v hU; omega⟩
    have hkl : k < H.2.length := by omega
    obtain ⟨b, o, rfl, hlt, hg, hc⟩ := hs.cellAt (by omega)
    obtain ⟨x, hx⟩ : ∃ x, t[k]? = some x := ⟨_, List.getElem?_eq_getElem (by omega)⟩
    have hkk : kk H v = (H.2[k]).kind := by
      rw [kk, if_pos hk, hki]
      simp [List.getD, hkl]
    have hcell : w.cell? ⟨b, o + k * 7, none⟩ = some (.int .i64 (kk H v)) := by
      have := hc (k * 7) (by omega)
      rw [this, hkk]
      exact hcells_at H.2 t ht k _ x (List.getElem?_eq_getElem hkl) hx 0 (by omega)
    have hk2 : kd v = 2 := hk.1
    have hb1 : (0 : Int) ≤ (k : Int) := by omega
    have hb2 : (k : Int) < (H.2.length : Int) := by omega
    clear ho hs hc hk hkk hx
    generalize kk H v = K at hcell
    go_enter Tryz.func53, Tryz.ntmps53
    go_wp2_with (first
      | (go_at_call 49; refine (rkind_any _ hU _).mono ?_; rintro e w' ⟨rfl, rfl⟩)
      | (go_at_call 121; refine (rindex_any _ hU _).mono ?_; rintro e w' ⟨rfl, rfl⟩))
    all_goals go_ret
    all_goals exact ⟨rfl, by repeat (first | exact Ly.refl _ | apply Ly.lay | apply Ly.alloc | apply Ly.drewN | apply Ly.drew)⟩
  · rw [show kk H v = 0 from if_neg hk]
    by_cases h2 : kd v = 2
    · have h3 : (H.2.length : Int) ≤ idxV v := by omega
      have h3b : decide ((H.2.length : Int) ≤ idxV v) = true := decide_eq_true h3
      clear ho hs hk
      go_enter Tryz.func53, Tryz.ntmps53
      go_wp2_with (first
        | (go_at_call 49; refine (rkind_any _ hU _).mono ?_; rintro e w' ⟨rfl, rfl⟩)
        | (go_at_call 121; refine (rindex_any _ hU _).mono ?_; rintro e w' ⟨rfl, rfl⟩))
      all_goals go_ret
      all_goals exact ⟨rfl, by repeat (first | exact Ly.refl _ | apply Ly.lay | apply Ly.alloc | apply Ly.drewN | apply Ly.drew)⟩
    · have h2b : (kd v != 2) = true := by simpa using h2
      clear ho hs hk
      go_enter Tryz.func53, Tryz.ntmps53
      go_wp2_with (first
        | (go_at_call 49; refine (rkind_any _ hU _).mono ?_; rintro e w' ⟨rfl, rfl⟩)
        | (go_at_call 121; refine (rindex_any _ hU _).mono ?_; rintro e w' ⟨rfl, rfl⟩))
      all_goals go_ret
      all_goals exact ⟨rfl, by repeat (first | exact Ly.refl _ | apply Ly.lay | apply Ly.alloc | apply Ly.drewN | apply Ly.drew)⟩

end Go.Proofs.YtajnpdiepiinjaaGreatDoor
