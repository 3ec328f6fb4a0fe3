/- The document's heap as plain data: objects, heaps; which words are good, kinds, the object of a reference: the contracts. · The document's objects, read and copied: the contracts. -/
import Derived.Test.YtjcoifdfemejkaaGreatDoorRTk
import Derived.Test.YtjcoifdfemejkaaGreatDoorLy
import Derived.Deep.RegionHeld3
import Derived.Deep.DeepCutAuto
set_option linter.unusedSimpArgs false
set_option linter.unusedVariables false
namespace Go.Proofs.YtjcoifdfemejkaaGreatDoor
open Go Go.RowKit

/-- The seven cells of an object. -/
def ocells (o : AObj) (vb vv vk : Value) : List Value := [.int .i64 o.kind, vb, vv, vk, .int .i64 o.num, .int .u64 o.re, .int .u64 o.im]

/-- Its three lists read as its own. -/
def OL (w : World) (G : Nat → Prop) (o : AObj) (vb vv vk : Value) : Prop :=
  Sl w G vb o.bytes.length 1 (o.bytes.map (Value.int .u8)) ∧ Sl w G vv o.vals.length 1 (o.vals.map (Value.int .u64)) ∧ Sl w G vk o.keys.length 1 (o.keys.map Value.string)

theorem OL.keep {w w' : World} {G G' : Nat → Prop} {o : AObj} {vb vv vk : Value} (h : OL w G o vb vv vk)
    (hs : w.heap.size ≤ w'.heap.size) (hb : ∀ b, b < w.heap.size → G b → w'.heap[b]? = w.heap[b]?) (hG : ∀ b, b < w.heap.size → G b → G' b) : OL w' G' o vb vv vk :=
  ⟨h.1.keep hs hb hG, h.2.1.keep hs hb hG, h.2.2.keep hs hb hG⟩
theorem OL.below {w w' : World} {G : Nat → Prop} {o : AObj} {vb vv vk : Value} (h : OL w G o vb vv vk) (hb : Bw w w') : OL w' G o vb vv vk :=
  ⟨h.1.below hb, h.2.1.below hb, h.2.2.below hb⟩

/-- The cells of all objects, their lists by the values t. -/
def hcells : List AObj → List (Value × Value × Value) → List Value
  | o :: r, t :: q => ocells o t.1 t.2.1 t.2.2 ++ hcells r q
  | _, _ => []

theorem hcells_length : ∀ (l : List AObj) (t : List (Value × Value × Value)), t.length = l.length → (hcells l t).length = l.length * 7
  | [], _, _ => rfl
  | o :: r, [], h => by simp at h
  | o :: r, x :: q, h => by
    have := hcells_length r q (by simpa using h)
    simp only [hcells, List.length_append, this, List.length_cons]
    simp [ocells]; omega

theorem hcells_at : ∀ (l : List AObj) (t : List (Value × Value × Value)), t.length = l.length → ∀ i o x, l[i]? = some o → t[i]? = some x → ∀ j, j < 7 → (hcells l t)[i * 7 + j]? = (ocells o x.1 x.2.1 x.2.2)[j]?
  | [], _, _, i, o, x, h, _, _, _ => by simp at h
  | o' :: r, [], h, _, _, _, _, _, _, _ => by simp at h
  | o' :: r, x' :: q, h, i, o, x, ho, hx, j, hj => by
    have hl : (ocells o' x'.1 x'.2.1 x'.2.2).length = 7 := rfl
    cases i with
    | zero =>
      simp only [List.getElem?_cons_zero, Option.some.injEq] at ho hx
      subst ho hx
      simp only [hcells, Nat.zero_mul, Nat.zero_add]
      rw [List.getElem?_append_left (by omega)]
    | succ i =>
      simp only [List.getElem?_cons_succ] at ho hx
      have := hcells_at r q (by simpa using h) i o x ho hx j hj
      simp only [hcells]
      rw [List.getElem?_append_right (by omega), hl, ← this]
      congr 1; omega

/-- The value v reads as the heap H. -/
def RdH (w : World) (G : Nat → Prop) (v : Value) (H : AHeap) : Prop :=
  ∃ (va : Value) (t : List (Value × Value × Value)), v = .agg #[.int .i64 H.1, va] ∧ t.length = H.2.length ∧ Sl w G va H.2.length 7 (hcells H.2 t) ∧
    ∀ (i : Nat) (o : AObj) (x : Value × Value × Value), H.2[i]? = some o → t[i]? = some x → OL w G o x.1 x.2.1 x.2.2

theorem RdH.keep {w w' : World} {G G' : Nat → Prop} {v : Value} {H : AHeap} (h : RdH w G v H)
    (hs : w.heap.size ≤ w'.heap.size) (hb : ∀ b, b < w.heap.size → G b → w'.heap[b]? = w.heap[b]?) (hG : ∀ b, b < w.heap.size → G b → G' b) : RdH w' G' v H := by
  obtain ⟨va, t, e, ht, h1, h2⟩ := h
  exact ⟨va, t, e, ht, h1.keep hs hb hG, fun i o x ho hx => (h2 i o x ho hx).keep hs hb hG⟩
theorem RdH.below {w w' : World} {G : Nat → Prop} {v : Value} {H : AHeap} (h : RdH w G v H) (hb : Bw w w') : RdH w' G v H :=
  h.keep hb.size (fun b hlt _ => hb.block b hlt) (fun _ _ g => g)

set_option maxHeartbeats 1000000 in
theorem rgood_any (G : Nat → Prop) (hv : Value) (H : AHeap) (v : Int) (hU : U v) (w : World) (h : RdH w G hv H) (hm : H.2.length ≤ 9223372036854775807) :
    Calls Tryz.prog 72 #[hv, .int .u64 v] w fun e w' => e = .returned (.bool (gd H.2.length v)) ∧ Ly w w' := by
  obtain ⟨va, t, rfl, ht, hs, ho⟩ := h
  obtain ⟨a, cap, rfl⟩ := hs.form
  clear ho hs
  go_enter Tryz.func72, Tryz.ntmps72
  go_wp2_with (first
    | (go_at_call 35; refine (rkind_any _ hU _).mono ?_; rintro e w' ⟨rfl, rfl⟩)
    | (go_at_call 94; refine (rindex_any _ hU _).mono ?_; rintro e w' ⟨rfl, rfl⟩))
  all_goals go_ret
  all_goals refine ⟨ret_bool ?_, by repeat (first | exact Ly.refl _ | apply Ly.lay | apply Ly.alloc | apply Ly.drewN | apply Ly.drew)⟩
  all_goals simp_all [gd]

set_option maxHeartbeats 1000000 in
theorem rkindH_any (G : Nat → Prop) (hv : Value) (H : AHeap) (v : Int) (hU : U v) (w : World) (h : RdH w G hv H) (hm : H.2.length ≤ 9223372036854775807) :
    Calls Tryz.prog 39 #[hv, .int .u64 v] w fun e w' => e = .returned (.int .i64 (kk H v)) ∧ Ly w w' := by
  obtain ⟨va, t, rfl, ht, hs, ho⟩ := h
  obtain ⟨a, cap, rfl⟩ := hs.form
  by_cases hk : kd v = 2 ∧ idxV v < H.2.length
  · obtain ⟨k, hki⟩ : ∃ k : Nat, idxV v = k := ⟨(idxV v).toNat, by have := idx_bd v hU; omega⟩
    have hkl : k < H.2.length := by omega
    obtain ⟨b, o, rfl, hlt, hg, hc⟩ := hs.cellAt (by omega)
    obtain ⟨x, hx⟩ : ∃ x, t[k]? = some x := ⟨_, List.getElem?_eq_getElem (by omega)⟩
    have hkk : kk H v = (H.2[k]).kind := by
      rw [kk, if_pos hk, hki]
      simp [List.getD, hkl]
    have hcell : w.cell? ⟨b, o + k * 7, none⟩ = some (.int .i64 (kk H v)) := by
      have := hc (k * 7) (by omega)
      rw [this, hkk]
      exact hcells_at H.2 t ht k _ x (List.getElem?_eq_getElem hkl) hx 0 (by omega)
    have hk2 : kd v = 2 := hk.1
    have hb1 : (0 : Int) ≤ (k : Int) := by omega
    have hb2 : (k : Int) < (H.2.length : Int) := by omega
    clear ho hs hc hk hkk hx
    generalize kk H v = K at hcell
    go_enter Tryz.func39, Tryz.ntmps39
    go_wp2_with (first
      | (go_at_call 35; refine (rkind_any _ hU _).mono ?_; rintro e w' ⟨rfl, rfl⟩)
      | (go_at_call 94; refine (rindex_any _ hU _).mono ?_; rintro e w' ⟨rfl, rfl⟩))
    all_goals go_ret
    all_goals exact ⟨rfl, by repeat (first | exact Ly.refl _ | apply Ly.lay | apply Ly.alloc | apply Ly.drewN | apply Ly.drew)⟩
  · rw [show kk H v = 0 from if_neg hk]
    by_cases h2 : kd v = 2
    · have h3 : (H.2.length : Int) ≤ idxV v := by omega
      have h3b : decide ((H.2.length : Int) ≤ idxV v) = true := decide_eq_true h3
      clear ho hs hk
      go_enter Tryz.func39, Tryz.ntmps39
      go_wp2_with (first
        | (go_at_call 35; refine (rkind_any _ hU _).mono ?_; rintro e w' ⟨rfl, rfl⟩)
        | (go_at_call 94; refine (rindex_any _ hU _).mono ?_; rintro e w' ⟨rfl, rfl⟩))
      all_goals go_ret
      all_goals exact ⟨rfl, by repeat (first | exact Ly.refl _ | apply Ly.lay | apply Ly.alloc | apply Ly.drewN | apply Ly.drew)⟩
    · have h2b : (kd v != 2) = true := by simpa using h2
      clear ho hs hk
      go_enter Tryz.func39, Tryz.ntmps39
      go_wp2_with (first
        | (go_at_call 35; refine (rkind_any _ hU _).mono ?_; rintro e w' ⟨rfl, rfl⟩)
        | (go_at_call 94; refine (rindex_any _ hU _).mono ?_; rintro e w' ⟨rfl, rfl⟩))
      all_goals go_ret
      all_goals exact ⟨rfl, by repeat (first | exact Ly.refl _ | apply Ly.lay | apply Ly.alloc | apply Ly.drewN | apply Ly.drew)⟩

end Go.Proofs.YtjcoifdfemejkaaGreatDoor

set_option linter.unusedSimpArgs false
set_option linter.unusedVariables false
namespace Go.Proofs.YtjcoifdfemejkaaGreatDoor
open Go Go.RowKit

/-- The value of an object, its lists by their values. -/
abbrev objV (o : AObj) (vb vv vk : Value) : Value := .agg #[.int .i64 o.kind, vb, vv, vk, .int .i64 o.num, .int .u64 o.re, .int .u64 o.im]

set_option maxHeartbeats 4000000 in
theorem rof_any (G : Nat → Prop) (hv : Value) (H : AHeap) (v : Int) (hU : U v) (k : Nat) (hk : idxV v = k) (o : AObj) (ho : H.2[k]? = some o) (w0 w : World) (hbw : Bw w0 w) (h : RdH w0 G hv H) (hm : H.2.length ≤ 9223372036854775807) :
    Calls Tryz.prog 40 #[hv, .int .u64 v] w fun e w' => ∃ vb vv vk, e = .returned (objV o vb vv vk) ∧ OL w0 G o vb vv vk ∧ Ly w w' := by
  obtain ⟨va, t, rfl, ht, hs, hol⟩ := h
  obtain ⟨a, cap, rfl⟩ := hs.form
  have hkl : k < H.2.length := (List.getElem?_eq_some_iff.1 ho).1
  obtain ⟨b, off, rfl, hlt, hg, hc⟩ := hs.cellAt (by omega)
  obtain ⟨x, hx⟩ : ∃ x, t[k]? = some x := ⟨_, List.getElem?_eq_getElem (by omega)⟩
  have HO := hid (hol k o x ho hx)
  have hat := fun j (hj : j < 7) => (Below.cell (p := ⟨b, off + (k * 7 + j), none⟩) hbw hlt).trans ((hc (k * 7 + j) (by omega)).trans (hcells_at H.2 t ht k o x ho hx j hj))
  have hltw : b < w.heap.size := Nat.lt_of_lt_of_le hlt hbw.size
  have c0 : w.cell? ⟨b, off + k * 7, none⟩ = some (.int .i64 o.kind) := hat 0 (by omega)
  have c1 : w.cell? ⟨b, off + k * 7 + 1, none⟩ = some x.1 := hat 1 (by omega)
  have c2 : w.cell? ⟨b, off + k * 7 + 2, none⟩ = some x.2.1 := hat 2 (by omega)
  have c3 : w.cell? ⟨b, off + k * 7 + 3, none⟩ = some x.2.2 := hat 3 (by omega)
  have c4 : w.cell? ⟨b, off + k * 7 + 4, none⟩ = some (.int .i64 o.num) := hat 4 (by omega)
  have c5 : w.cell? ⟨b, off + k * 7 + 5, none⟩ = some (.int .u64 o.re) := hat 5 (by omega)
  have c6 : w.cell? ⟨b, off + k * 7 + 6, none⟩ = some (.int .u64 o.im) := hat 6 (by omega)
  have hb1 : (0 : Int) ≤ (k : Int) := by omega
  have hb2 : (k : Int) < (H.2.length : Int) := by omega
  clear hol hs hc hx hat ho hbw hlt
  obtain ⟨vb, vv, vk⟩ := x
  obtain ⟨ab, cb, rfl⟩ := HO.out.1.form
  obtain ⟨av, cv, rfl⟩ := HO.out.2.1.form
  obtain ⟨ak, ck, rfl⟩ := HO.out.2.2.form
  go_enter Tryz.func40, Tryz.ntmps40
  go_wp2_with (first
    | (go_at_call 94; refine (rindex_any _ hU _).mono ?_; rintro e w' ⟨rfl, rfl⟩))
  refine bodyPost_ret (v := objV o (.slice ab o.bytes.length cb) (.slice av o.vals.length cv) (.slice ak o.keys.length ck)) (by simp [results, Tryz.results40, go_sem]) rfl ?_
  exact ⟨_, _, _, rfl, HO.out, by repeat (first | exact Ly.refl _ | apply Ly.lay | apply Ly.alloc | apply Ly.drewN | apply Ly.drew)⟩

set_option maxHeartbeats 16000000 in
theorem rcopy_any (G : Nat → Prop) (o : AObj) (vb vv vk : Value) (w : World) (h : OL w G o vb vv vk)
    (l1 : o.bytes.length ≤ 1000000) (l2 : o.vals.length ≤ 1000000) (l3 : o.keys.length ≤ 1000000) :
    Calls Tryz.prog 70 #[objV o vb vv vk] w fun e w' => ∃ xb xv xk, e = .returned (objV o xb xv xk) ∧
      w'.ownsRow w.heap.size 5 1 xb o.bytes.length (o.bytes.map (Value.int .u8)) ∧ w'.ownsRow w.heap.size 27 1 xv o.vals.length (o.vals.map (Value.int .u64)) ∧ w'.ownsRow w.heap.size 9 1 xk o.keys.length (o.keys.map Value.string) ∧ Bw w w' := by
  have HO := hid (h)
  clear h
  obtain ⟨ab, cb, rfl⟩ := HO.out.1.form
  obtain ⟨av, cv, rfl⟩ := HO.out.2.1.form
  obtain ⟨ak, ck, rfl⟩ := HO.out.2.2.form
  obtain ⟨i1, hi1, hz1, hs1, hy1⟩ := info_parts infoU8
  obtain ⟨i2, hi2, hz2, hs2, hy2⟩ := info_parts infoV
  obtain ⟨i3, hi3, hz3, hs3, hy3⟩ := info_parts infoS
  have I1 := hid (And.intro hi1 (And.intro hz1 (And.intro hs1 hy1)))
  have I2 := hid (And.intro hi2 (And.intro hz2 (And.intro hs2 hy2)))
  have I3 := hid (And.intro hi3 (And.intro hz3 (And.intro hs3 hy3)))
  clear hi1 hz1 hs1 hy1 hi2 hz2 hs2 hy2 hi3 hz3 hs3 hy3
  go_enter Tryz.func70, Tryz.ntmps70
  go_upto_region 1 with fail
  go_cut [] (fun wc => ∃ xb, Blk wc w.heap.size #[.int .i64 o.kind, xb, .slice av o.vals.length cv, .slice ak o.keys.length ck, .int .i64 o.num, .int .u64 o.re, .int .u64 o.im] 50 ∧
    Blk wc (w.heap.size + 1) #[.int .i64 0, .slice none 0 0, .slice none 0 0, .slice none 0 0, .int .i64 0, .int .u64 0, .int .u64 0] 50 ∧
    wc.ownsRow (w.heap.size + 2) 5 1 xb o.bytes.length (o.bytes.map (Value.int .u8)) ∧ Bw w wc)
  case first =>
    have B0 := hid ((Blk.new w #[.int .i64 o.kind, .slice ab o.bytes.length cb, .slice av o.vals.length cv, .slice ak o.keys.length ck, .int .i64 o.num, .int .u64 o.re, .int .u64 o.im] 50).alloc (.cells #[.int .i64 0, .slice none 0 0, .slice none 0 0, .slice none 0 0, .int .i64 0, .int .u64 0, .int .u64 0] 50))
    have B1 := hid (Blk.new (w.alloc (.cells #[.int .i64 o.kind, .slice ab o.bytes.length cb, .slice av o.vals.length cv, .slice ak o.keys.length ck, .int .i64 o.num, .int .u64 o.re, .int .u64 o.im] 50)) #[.int .i64 0, .slice none 0 0, .slice none 0 0, .slice none 0 0, .int .i64 0, .int .u64 0, .int .u64 0] 50)
    have HW := hid (((Bw.refl w).alloc (.cells #[.int .i64 o.kind, .slice ab o.bytes.length cb, .slice av o.vals.length cv, .slice ak o.keys.length ck, .int .i64 o.num, .int .u64 o.re, .int .u64 o.im] 50)).alloc (.cells #[.int .i64 0, .slice none 0 0, .slice none 0 0, .slice none 0 0, .int .i64 0, .int .u64 0, .int .u64 0] 50))
    go_wp2_with (first
      | (at_builtin; refine wpList_append_sl (G := G) _ rfl _ _ 46 rfl (w.heap.size + 2) 5 i1 (.int .u8 0) 1 1 Tryz.underlying46 I1.out.1 I1.out.2.1 I1.out.2.2.1 I1.out.2.2.2 rfl (by decide) (.slice (some ⟨w.heap.size + 1 + 1, 0, none⟩) 0 0) 0 [] rfl ?c0 _ o.bytes.length (o.bytes.map (Value.int .u8)) rfl ?c1 ?c2 ?c3 ?c4 ?c5 ?_)
      | go_in)
    case c0 => exact own_empty _ 5 1 _ _ (by simp) (by omega)
    case c1 => exact (HO.out.1.below HW.out).below (Bw.alloc (Bw.refl _) _)
    case c2 => exact ints_one _ _
    case c3 => unfold maxLen; omega
    case c4 => omega
    case c5 => simp
    intro v' w1 hown hgr
    obtain ⟨a', cap', rfl⟩ := own_form hown
    rw [show Value.ownBlock (.slice (some ⟨w.heap.size + 1 + 1, 0, none⟩) 0 0) = some (w.heap.size + 1 + 1) from rfl] at hgr
    have hgr' := hgr
    have b0 := (B0.out.alloc _).grown hgr' (by omega)
    have b1 := (B1.out.alloc _).grown hgr' (by simp)
    have hw1 := bw_grownAt (Bw.alloc HW.out _) hgr' (by omega)
    have q0 := b0.cell
    have q0f := b0.free
    have b0h := hid (b0)
    have b1h := hid (b1)
    have hwh := hid (hw1)
    have hoh := hid (hown)
    clear b0 b1 hw1 hown hgr hgr'
    go_wp2
    go_meet
    case rel =>
      refine ⟨_, by simpa using b0h.out.set 1 _, by simpa using b1h.out.other (by simp) _, ownsRow_setCell_below hoh.out (by simp) _, Bw.setCell hwh.out (by simp) _⟩
  case rest =>
    obtain ⟨xb, hB0, hB1, hxb, hWc⟩ := hcut
    obtain ⟨axb, cxb, rfl⟩ := own_form hxb
    have B0 := hid (hB0)
    have B1 := hid (hB1)
    have X1 := hid (hxb)
    have HW := hid (hWc)
    have z0 := hB0.cell
    have z0f := hB0.free
    have hsz : w.heap.size + 2 ≤ wc.heap.size := by have := hB1.lt; omega
    have hs0 : w.heap.size < wc.heap.size := by omega
    clear hB0 hB1 hxb hWc
    go_upto_region 2 with fail
    go_cut [] (fun wd => ∃ xv, Blk wd w.heap.size #[.int .i64 o.kind, .slice axb o.bytes.length cxb, xv, .slice ak o.keys.length ck, .int .i64 o.num, .int .u64 o.re, .int .u64 o.im] 50 ∧
      Blk wd (w.heap.size + 1) #[.int .i64 0, .slice none 0 0, .slice none 0 0, .slice none 0 0, .int .i64 0, .int .u64 0, .int .u64 0] 50 ∧
      wd.ownsRow (w.heap.size + 2) 5 1 (.slice axb o.bytes.length cxb) o.bytes.length (o.bytes.map (Value.int .u8)) ∧ wd.ownsRow (w.heap.size + 2) 27 1 xv o.vals.length (o.vals.map (Value.int .u64)) ∧ Bw w wd)
    case first =>
      go_wp2_with (first
        | (at_builtin; refine wpList_append_sl (G := G) _ rfl _ _ 47 rfl (w.heap.size + 2) 27 i2 (.int .u64 0) 1 8 Tryz.underlying47 I2.out.1 I2.out.2.1 I2.out.2.2.1 I2.out.2.2.2 rfl (by decide) (.slice (some ⟨wc.heap.size, 0, none⟩) 0 0) 0 [] rfl ?d0 _ o.vals.length (o.vals.map (Value.int .u64)) rfl ?d1 ?d2 ?d3 ?d4 ?d5 ?_)
        | go_in)
      case d0 => exact own_empty _ 27 1 _ _ rfl hsz
      case d1 => exact (HO.out.2.1.below HW.out).below (Bw.alloc (Bw.refl _) _)
      case d2 => exact ints_one _ _
      case d3 => unfold maxLen; omega
      case d4 => omega
      case d5 => simp; omega
      intro v' w1 hown hgr
      obtain ⟨a', cap', rfl⟩ := own_form hown
      rw [show Value.ownBlock (.slice (some ⟨wc.heap.size, 0, none⟩) 0 0) = some wc.heap.size from rfl] at hgr
      have hgr' := hgr
      have b0 := (B0.out.alloc _).grown hgr' (by have := B0.out.lt; omega)
      have b1 := (B1.out.alloc _).grown hgr' (by have := B1.out.lt; omega)
      have x1 := (X1.out.alloc _).kept hgr' (own_ne X1.out (Nat.le_refl _))
      have hw1 := bw_grownAt (Bw.alloc HW.out _) hgr' (by omega)
      have q0 := b0.cell
      have q0f := b0.free
      have b0h := hid (b0)
      have b1h := hid (b1)
      have x1h := hid (x1)
      have hwh := hid (hw1)
      have hoh := hid (hown)
      clear b0 b1 x1 hw1 hown hgr hgr' z0 z0f
      go_wp2
      go_meet
      case rel =>
        exact ⟨_, by simpa using b0h.out.set 2 _, by simpa using b1h.out.other (by simp) _, ownsRow_setCell_below x1h.out (by simp) _, ownsRow_setCell_below hoh.out (by simp) _, Bw.setCell hwh.out (by simp) _⟩
    case rest =>
      clear z0 z0f B0 B1 X1 HW hsz
      obtain ⟨xv, hB0, hB1, hxb, hxv, hWc⟩ := hcut
      obtain ⟨axv, cxv, rfl⟩ := own_form hxv
      have B0 := hid (hB0)
      have B1 := hid (hB1)
      have X1 := hid (hxb)
      have X2 := hid (hxv)
      have HW := hid (hWc)
      have z0 := hB0.cell
      have z0f := hB0.free
      have hsz : w.heap.size + 2 ≤ wc.heap.size := by have := hB1.lt; omega
      have hs0 : w.heap.size < wc.heap.size := by omega
      clear hB0 hB1 hxb hxv hWc
      go_upto_region 3 with fail
      go_cut [] (fun wd => ∃ xk, Blk wd w.heap.size #[.int .i64 o.kind, .slice axb o.bytes.length cxb, .slice axv o.vals.length cxv, xk, .int .i64 o.num, .int .u64 o.re, .int .u64 o.im] 50 ∧
        Blk wd (w.heap.size + 1) #[.int .i64 0, .slice none 0 0, .slice none 0 0, .slice none 0 0, .int .i64 0, .int .u64 0, .int .u64 0] 50 ∧
        wd.ownsRow (w.heap.size + 2) 5 1 (.slice axb o.bytes.length cxb) o.bytes.length (o.bytes.map (Value.int .u8)) ∧ wd.ownsRow (w.heap.size + 2) 27 1 (.slice axv o.vals.length cxv) o.vals.length (o.vals.map (Value.int .u64)) ∧ wd.ownsRow (w.heap.size + 2) 9 1 xk o.keys.length (o.keys.map Value.string) ∧ Bw w wd)
      case first =>
        go_wp2_with (first
          | (at_builtin; refine wpList_append_sl (G := G) _ rfl _ _ 48 rfl (w.heap.size + 2) 9 i3 (.string ByteArray.empty) 1 16 Tryz.underlying48 I3.out.1 I3.out.2.1 I3.out.2.2.1 I3.out.2.2.2 rfl (by decide) (.slice (some ⟨wc.heap.size, 0, none⟩) 0 0) 0 [] rfl ?e0 _ o.keys.length (o.keys.map Value.string) rfl ?e1 ?e2 ?e3 ?e4 ?e5 ?_)
          | go_in)
        case e0 => exact own_empty _ 9 1 _ _ rfl hsz
        case e1 => exact (HO.out.2.2.below HW.out).below (Bw.alloc (Bw.refl _) _)
        case e2 => exact strs_one _
        case e3 => unfold maxLen; omega
        case e4 => omega
        case e5 => simp; omega
        intro v' w1 hown hgr
        obtain ⟨a', cap', rfl⟩ := own_form hown
        rw [show Value.ownBlock (.slice (some ⟨wc.heap.size, 0, none⟩) 0 0) = some wc.heap.size from rfl] at hgr
        have hgr' := hgr
        have b0 := (B0.out.alloc _).grown hgr' (by have := B0.out.lt; omega)
        have b1 := (B1.out.alloc _).grown hgr' (by have := B1.out.lt; omega)
        have x1 := (X1.out.alloc _).kept hgr' (own_ne X1.out (Nat.le_refl _))
        have x2 := (X2.out.alloc _).kept hgr' (own_ne X2.out (Nat.le_refl _))
        have hw1 := bw_grownAt (Bw.alloc HW.out _) hgr' (by omega)
        have q0 := b0.cell
        have q0f := b0.free
        have b0h := hid b0
        have b1h := hid b1
        have x1h := hid x1
        have x2h := hid x2
        have hwh := hid hw1
        have hoh := hid hown
        clear b0 b1 x1 x2 hw1 hown hgr hgr' z0 z0f
        go_wp2
        go_meet
        case rel =>
          exact ⟨_, by simpa using b0h.out.set 3 _, by simpa using b1h.out.other (by simp) _, ownsRow_setCell_below x1h.out (by simp) _, ownsRow_setCell_below x2h.out (by simp) _, ownsRow_setCell_below hoh.out (by simp) _, Bw.setCell hwh.out (by simp) _⟩
      case rest =>
        clear z0 z0f B0 B1 X1 X2 HW hsz hs0
        obtain ⟨xk, hB0, hB1, hxb, hxv, hxk, hWc⟩ := hcut
        obtain ⟨axk, cxk, rfl⟩ := own_form hxk
        have X1 := hid hxb
        have X2 := hid hxv
        have X3 := hid hxk
        have HW := hid hWc
        have z0 := hB0.cell
        have z1 := hB1.cell
        have z1f := hB1.free
        have B1 := hid hB1
        clear hB0 hB1 hxb hxv hxk hWc
        go_wp2
        have bb := ((((((B1.out.set 0 (.int .i64 o.kind)).set 1 (.slice axb o.bytes.length cxb)).set 2 (.slice axv o.vals.length cxv)).set 3 (.slice axk o.keys.length cxk)).set 4 (.int .i64 o.num)).set 5 (.int .u64 o.re)).set 6 (.int .u64 o.im)
        have bc := bb.cell
        refine bodyPost_ret (v := objV o (.slice axb o.bytes.length cxb) (.slice axv o.vals.length cxv) (.slice axk o.keys.length cxk)) (by simp [results, Tryz.results70, go_sem, bc]) rfl ?_
        refine ⟨_, _, _, rfl, own_base (ownsRow_setCell_below (ownsRow_setCell_below (ownsRow_setCell_below (ownsRow_setCell_below (ownsRow_setCell_below (ownsRow_setCell_below (ownsRow_setCell_below (X1.out) (by simp) _) (by simp) _) (by simp) _) (by simp) _) (by simp) _) (by simp) _) (by simp) _) (by omega), own_base (ownsRow_setCell_below (ownsRow_setCell_below (ownsRow_setCell_below (ownsRow_setCell_below (ownsRow_setCell_below (ownsRow_setCell_below (ownsRow_setCell_below (X2.out) (by simp) _) (by simp) _) (by simp) _) (by simp) _) (by simp) _) (by simp) _) (by simp) _) (by omega), own_base (ownsRow_setCell_below (ownsRow_setCell_below (ownsRow_setCell_below (ownsRow_setCell_below (ownsRow_setCell_below (ownsRow_setCell_below (ownsRow_setCell_below (X3.out) (by simp) _) (by simp) _) (by simp) _) (by simp) _) (by simp) _) (by simp) _) (by simp) _) (by omega), Bw.setCell (Bw.setCell (Bw.setCell (Bw.setCell (Bw.setCell (Bw.setCell (Bw.setCell (HW.out) (by simp) _) (by simp) _) (by simp) _) (by simp) _) (by simp) _) (by simp) _) (by simp) _⟩

end Go.Proofs.YtjcoifdfemejkaaGreatDoor

