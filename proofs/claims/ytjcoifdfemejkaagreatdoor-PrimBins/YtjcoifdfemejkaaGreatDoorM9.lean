/- The document's answers that ask: entries, fields: the contracts. · The document's heap with one object in the place of another: the contract. -/
import Derived.Test.YtjcoifdfemejkaaGreatDoorR3Ck
set_option linter.unusedSimpArgs false
set_option linter.unusedVariables false
namespace Go.Proofs.YtjcoifdfemejkaaGreatDoor
open Go Go.RowKit















end Go.Proofs.YtjcoifdfemejkaaGreatDoor

set_option linter.unusedSimpArgs false
set_option linter.unusedVariables false
namespace Go.Proofs.YtjcoifdfemejkaaGreatDoor
open Go Go.RowKit

/-- Seven cells written one by one. -/
def set7 (xs : List Value) (i : Nat) (o : AObj) (x : Value × Value × Value) : List Value :=
  ((((((xs.set i (.int .i64 o.kind)).set (i + 1) x.1).set (i + 2) x.2.1).set (i + 3) x.2.2).set (i + 4) (.int .i64 o.num)).set (i + 5) (.int .u64 o.re)).set (i + 6) (.int .u64 o.im)

theorem set7_cons7 (a b c d e f g : Value) (r : List Value) (i : Nat) (o : AObj) (x : Value × Value × Value) :
    set7 (a :: b :: c :: d :: e :: f :: g :: r) (i + 7) o x = a :: b :: c :: d :: e :: f :: g :: set7 r i o x := rfl

theorem hcells_set : ∀ (l : List AObj) (t : List (Value × Value × Value)) (k : Nat) (o : AObj) (x : Value × Value × Value), t.length = l.length → k < l.length →
    set7 (hcells l t) (k * 7) o x = hcells (l.set k o) (t.set k x)
  | [], _, k, _, _, _, hk => by simp at hk
  | _ :: _, [], _, _, _, h, _ => by simp at h
  | o' :: r, x' :: q, 0, o, x, _, _ => rfl
  | o' :: r, x' :: q, k + 1, o, x, h, hk => by
    have ih := hcells_set r q k o x (by simpa using h) (by simpa using hk)
    have e : (k + 1) * 7 = k * 7 + 7 := by omega
    rw [e]
    show set7 (ocells o' x'.1 x'.2.1 x'.2.2 ++ hcells r q) (k * 7 + 7) o x = ocells o' x'.1 x'.2.1 x'.2.2 ++ hcells (r.set k o) (q.set k x)
    rw [← ih]
    exact set7_cons7 _ _ _ _ _ _ _ _ _ _ _

theorem infoO : (Tryz.prog.info? 50).map (fun i => (i.zero, i.size, i.bytes)) = some (some (.agg #[.int .i64 0, .slice none 0 0, .slice none 0 0, .slice none 0 0, .int .i64 0, .int .u64 0, .int .u64 0]), 7, 104) := by kernel_rfl

theorem hcells_one : ∀ (l : List AObj) (t : List (Value × Value × Value)), (∀ x ∈ t, x.1.oneCell' = true ∧ x.2.1.oneCell' = true ∧ x.2.2.oneCell' = true) → ∀ u ∈ hcells l t, u.oneCell' = true
  | [], _, _, u, hu => by simp [hcells] at hu
  | _ :: _, [], _, u, hu => by simp [hcells] at hu
  | o :: r, x :: q, h, u, hu => by
    simp only [hcells, ocells, List.cons_append, List.nil_append, List.mem_cons] at hu
    have hx := h x (by simp)
    rcases hu with rfl | rfl | rfl | rfl | rfl | rfl | rfl | hu
    · rfl
    · exact hx.1
    · exact hx.2.1
    · exact hx.2.2
    · rfl
    · rfl
    · rfl
    · exact hcells_one r q (fun y hy => h y (by simp [hy])) u hu

set_option maxRecDepth 100000 in
set_option maxHeartbeats 16000000 in
theorem rput_any (G : Nat → Prop) (hv : Value) (H : AHeap) (v : Int) (hU : U v) (k : Nat) (hk : idxV v = k) (hkl : k < H.2.length) (o : AObj) (vb vv vk : Value) (w : World) (hG : ∀ b, w.heap.size ≤ b → G b)
    (h : RdH w G hv H) (hol : OL w G o vb vv vk) (hm : H.2.length ≤ 1000000) :
    Calls Tryz.prog 73 #[hv, .int .u64 v, objV o vb vv vk] w fun e w' => ∃ v', e = .returned v' ∧ RdH w' G v' (H.1, H.2.set k o) ∧ Bw w w' := by
  have HO := hid hol
  clear hol
  obtain ⟨ab, cb, rfl⟩ := HO.out.1.form
  obtain ⟨av, cv, rfl⟩ := HO.out.2.1.form
  obtain ⟨ak, ck, rfl⟩ := HO.out.2.2.form
  obtain ⟨va, t, rfl, ht, hs, hall⟩ := h
  obtain ⟨ah, ch, rfl⟩ := hs.form
  have HS := hid hs
  have HT := hid ht
  have HALL := hid hall
  have hone : ∀ x ∈ t, x.1.oneCell' = true ∧ x.2.1.oneCell' = true ∧ x.2.2.oneCell' = true := by
    intro x hx
    obtain ⟨j, hj, rfl⟩ := List.getElem_of_mem hx
    have hl := hall j (H.2[j]'(by omega)) t[j] (List.getElem?_eq_getElem (by omega)) (List.getElem?_eq_getElem hj)
    exact ⟨sl_one hl.1, sl_one hl.2.1, sl_one hl.2.2⟩
  have HONE := hid hone
  have HGG := hid hG
  obtain ⟨i1, hi1, hz1, hs1, hy1⟩ := info_parts infoO
  have I1 := hid (And.intro hi1 (And.intro hz1 (And.intro hs1 hy1)))
  clear hi1 hz1 hs1 hy1 hs ht hall hone hG
  go_enter Tryz.func73, Tryz.ntmps73
  go_upto_region 2 with (first | (go_at_call 94; refine (rindex_any _ hU _).mono ?_; rintro e w' ⟨rfl, rfl⟩))
  go_cut [] (fun wc => ∃ v1, Blk wc w.heap.size #[.int .i64 H.1, v1] 32 ∧ Blk wc (w.heap.size + 1) #[.int .i64 o.kind, .slice ab o.bytes.length cb, .slice av o.vals.length cv, .slice ak o.keys.length ck, .int .i64 o.num, .int .u64 o.re, .int .u64 o.im] 50 ∧ Blk wc (w.heap.size + 2) #[.int .i64 0, .slice none 0 0] 32 ∧
    wc.ownsRow (w.heap.size + 3) 50 7 v1 H.2.length (hcells H.2 t) ∧ Bw w wc)
  case first =>
    have B0 := hid (((Blk.new w #[.int .i64 H.1, .slice ah H.2.length ch] 32).alloc (.cells #[.int .i64 o.kind, .slice ab o.bytes.length cb, .slice av o.vals.length cv, .slice ak o.keys.length ck, .int .i64 o.num, .int .u64 o.re, .int .u64 o.im] 50)).alloc (.cells #[.int .i64 0, .slice none 0 0] 32))
    have B1 := hid ((Blk.new (w.alloc (.cells #[.int .i64 H.1, .slice ah H.2.length ch] 32)) #[.int .i64 o.kind, .slice ab o.bytes.length cb, .slice av o.vals.length cv, .slice ak o.keys.length ck, .int .i64 o.num, .int .u64 o.re, .int .u64 o.im] 50).alloc (.cells #[.int .i64 0, .slice none 0 0] 32))
    have B2 := hid (Blk.new ((w.alloc (.cells #[.int .i64 H.1, .slice ah H.2.length ch] 32)).alloc (.cells #[.int .i64 o.kind, .slice ab o.bytes.length cb, .slice av o.vals.length cv, .slice ak o.keys.length ck, .int .i64 o.num, .int .u64 o.re, .int .u64 o.im] 50)) #[.int .i64 0, .slice none 0 0] 32)
    have HW := hid ((((Bw.refl w).alloc (.cells #[.int .i64 H.1, .slice ah H.2.length ch] 32)).alloc (.cells #[.int .i64 o.kind, .slice ab o.bytes.length cb, .slice av o.vals.length cv, .slice ak o.keys.length ck, .int .i64 o.num, .int .u64 o.re, .int .u64 o.im] 50)).alloc (.cells #[.int .i64 0, .slice none 0 0] 32))
    go_wp2_with (first
      | (at_builtin; refine wpList_append_sl (G := G) _ rfl _ _ 22 rfl (w.heap.size + 3) 50 i1 _ 7 104 Tryz.underlying22 I1.out.1 I1.out.2.1 I1.out.2.2.1 I1.out.2.2.2 rfl (by decide) (.slice (some ⟨w.heap.size + 1 + 1 + 1, 0, none⟩) 0 0) 0 [] rfl ?c0 _ H.2.length (hcells H.2 t) rfl ?c1 ?c2 ?c3 ?c4 ?c5 ?_)
      | go_in)
    case c0 => exact own_empty _ 50 7 _ _ (by simp) (by omega)
    case c1 => exact (HS.out.below HW.out).below (Bw.alloc (Bw.refl _) _)
    case c2 => exact hcells_one _ _ HONE.out
    case c3 => unfold maxLen; omega
    case c4 => omega
    case c5 => simp
    intro v' w1 hown hgr
    obtain ⟨a', cap', rfl⟩ := own_form hown
    rw [show Value.ownBlock (.slice (some ⟨w.heap.size + 1 + 1 + 1, 0, none⟩) 0 0) = some (w.heap.size + 1 + 1 + 1) from rfl] at hgr
    have hgr' := hgr
    have b0 := (B0.out.alloc _).grown hgr' (by omega)
    have b1 := (B1.out.alloc _).grown hgr' (by simp)
    have b2 := (B2.out.alloc _).grown hgr' (by simp)
    have hw1 := bw_grownAt (Bw.alloc HW.out _) hgr' (by omega)
    have q0 := b0.cell
    have q0f := b0.free
    have b0h := hid b0
    have b1h := hid b1
    have b2h := hid b2
    have hwh := hid hw1
    have hoh := hid hown
    clear b0 b1 b2 hw1 hown hgr hgr'
    go_wp2
    go_meet
    case rel =>
      exact ⟨_, by simpa using b0h.out.set 1 _, by simpa using b1h.out.other (by simp) _, by simpa using b2h.out.other (by simp; omega) _, ownsRow_setCell_below hoh.out (by simp) _, Bw.setCell hwh.out (by simp) _⟩
  case rest =>
    obtain ⟨v1, hB0, hB1, hB2, hrow, hWc⟩ := hcut
    have hrl := hrow.1
    rcases hrow.2 with ⟨_, h0⟩ | ⟨g, cap, cur, rfl, hbg, hgg, hnc, hcm, hcs, htake⟩
    · omega
    · have hBg : Blk wc g cur 50 := hgg
      obtain ⟨x, hx⟩ : ∃ x, t[k]? = some x := ⟨_, List.getElem?_eq_getElem (by have := HT.out; omega)⟩
      have hat : ∀ j, j < 7 → wc.cell? ⟨g, k * 7 + j, none⟩ = (ocells H.2[k] x.1 x.2.1 x.2.2)[j]? := by
        intro j hj
        rw [hBg.cell, ← Array.getElem?_toList, ← hcells_at H.2 t HT.out k _ x (List.getElem?_eq_getElem hkl) hx j hj, ← htake, List.getElem?_take, if_pos (by omega)]
      have r0 := hat 0 (by omega)
      have r1 := hat 1 (by omega)
      have r2 := hat 2 (by omega)
      have r3 := hat 3 (by omega)
      have r4 := hat 4 (by omega)
      have r5 := hat 5 (by omega)
      have r6 := hat 6 (by omega)
      simp only [ocells, List.getElem?_cons_zero, List.getElem?_cons_succ, Nat.add_zero] at r0 r1 r2 r3 r4 r5 r6
      have rf := hBg.free
      have z0 := hB0.cell
      have z1 := hB1.cell
      have z2 := hB2.cell
      have z2f := hB2.free
      have hb1 : (0 : Int) ≤ (k : Int) := by omega
      have hb2 : (k : Int) < (H.2.length : Int) := by omega
      have hne0 : w.heap.size ≠ g := by omega
      have hne1 : w.heap.size + 1 ≠ g := by omega
      have hne2 : w.heap.size + 2 ≠ g := by omega
      have hne0' : g ≠ w.heap.size := by omega
      have hne1' : g ≠ w.heap.size + 1 := by omega
      have hne2' : g ≠ w.heap.size + 2 := by omega
      have HB2 := hid hB2
      have HBG := hid hBg
      have HWC := hid hWc
      have HTK := hid htake
      have HX := hid hx
      have HCS := hid hcs
      clear hat hB0 hB1 hB2 hBg hgg hrow hWc htake hx hrl hcs
      go_wp2
      have bg := (((((((((HBG.out.set (k * 7) (.int .i64 o.kind)).set (k * 7 + 1) (.slice ab o.bytes.length cb)).set (k * 7 + 2) (.slice av o.vals.length cv)).set (k * 7 + 3) (.slice ak o.keys.length ck)).set (k * 7 + 4) (.int .i64 o.num)).set (k * 7 + 5) (.int .u64 o.re)).set (k * 7 + 6) (.int .u64 o.im)).other (p := ⟨w.heap.size + 1 + 1, 0, none⟩) (show (w.heap.size + 1 + 1) ≠ g by omega) (.int .i64 H.1)).other (p := ⟨w.heap.size + 1 + 1, 1, none⟩) (show (w.heap.size + 1 + 1) ≠ g by omega) (.slice (some ⟨g, 0, none⟩) H.2.length cap))
      have b2 := (((((((((HB2.out.other (p := ⟨g, k * 7, none⟩) (show g ≠ w.heap.size + 2 by omega) (.int .i64 o.kind)).other (p := ⟨g, k * 7 + 1, none⟩) (show g ≠ w.heap.size + 2 by omega) (.slice ab o.bytes.length cb)).other (p := ⟨g, k * 7 + 2, none⟩) (show g ≠ w.heap.size + 2 by omega) (.slice av o.vals.length cv)).other (p := ⟨g, k * 7 + 3, none⟩) (show g ≠ w.heap.size + 2 by omega) (.slice ak o.keys.length ck)).other (p := ⟨g, k * 7 + 4, none⟩) (show g ≠ w.heap.size + 2 by omega) (.int .i64 o.num)).other (p := ⟨g, k * 7 + 5, none⟩) (show g ≠ w.heap.size + 2 by omega) (.int .u64 o.re)).other (p := ⟨g, k * 7 + 6, none⟩) (show g ≠ w.heap.size + 2 by omega) (.int .u64 o.im)).set 0 (.int .i64 H.1)).set 1 (.slice (some ⟨g, 0, none⟩) H.2.length cap))
      have hbw := (Bw.setCell (Bw.setCell (Bw.setCell (Bw.setCell (Bw.setCell (Bw.setCell (Bw.setCell (Bw.setCell (Bw.setCell HWC.out (p := ⟨g, k * 7, none⟩) (show w.heap.size ≤ g by omega) (.int .i64 o.kind)) (p := ⟨g, k * 7 + 1, none⟩) (show w.heap.size ≤ g by omega) (.slice ab o.bytes.length cb)) (p := ⟨g, k * 7 + 2, none⟩) (show w.heap.size ≤ g by omega) (.slice av o.vals.length cv)) (p := ⟨g, k * 7 + 3, none⟩) (show w.heap.size ≤ g by omega) (.slice ak o.keys.length ck)) (p := ⟨g, k * 7 + 4, none⟩) (show w.heap.size ≤ g by omega) (.int .i64 o.num)) (p := ⟨g, k * 7 + 5, none⟩) (show w.heap.size ≤ g by omega) (.int .u64 o.re)) (p := ⟨g, k * 7 + 6, none⟩) (show w.heap.size ≤ g by omega) (.int .u64 o.im)) (p := ⟨w.heap.size + 1 + 1, 0, none⟩) (show w.heap.size ≤ w.heap.size + 1 + 1 by omega) (.int .i64 H.1)) (p := ⟨w.heap.size + 1 + 1, 1, none⟩) (show w.heap.size ≤ w.heap.size + 1 + 1 by omega) (.slice (some ⟨g, 0, none⟩) H.2.length cap))
      have bc := b2.cell
      have hlen : (hcells (H.2.set k o) (t.set k (.slice ab o.bytes.length cb, .slice av o.vals.length cv, .slice ak o.keys.length ck))).length = H.2.length * 7 := by
        rw [hcells_length _ _ (by simp [HT.out]), List.length_set]
      refine bodyPost_ret (v := .agg #[.int .i64 H.1, .slice (some ⟨g, 0, none⟩) H.2.length cap]) (by simp [results, Tryz.results73, go_sem, bc]) rfl ?_
      refine ⟨_, rfl, ⟨_, t.set k (.slice ab o.bytes.length cb, .slice av o.vals.length cv, .slice ak o.keys.length ck), rfl, by simp [HT.out], ?_, ?_⟩, hbw⟩
      · show Sl _ G _ (H.2.set k o).length 7 (hcells (H.2.set k o) _)
        rw [List.length_set]
        refine own_sl (base := w.heap.size + 3) (e := 50) ⟨hlen, .inr ⟨g, cap, _, rfl, hbg, bg, hnc, hcm, ?_, ?_⟩⟩ (fun b hb => HGG.out b (by omega))
        · simp [HCS.out]
        · simp only [Array.toList_setIfInBounds, List.take_set, HTK.out]
          exact hcells_set H.2 t k o (.slice ab o.bytes.length cb, .slice av o.vals.length cv, .slice ak o.keys.length ck) HT.out hkl
      · intro i o' x' ho' hx'
        by_cases hik : i = k
        · subst hik
          have e1 : (H.2.set i o)[i]? = some o := by simp [hkl]
          have e2 : (t.set i (.slice ab o.bytes.length cb, .slice av o.vals.length cv, .slice ak o.keys.length ck))[i]? = some (.slice ab o.bytes.length cb, .slice av o.vals.length cv, .slice ak o.keys.length ck) := by
            have := HT.out
            simp [show i < t.length by omega]
          rw [show (H.1, H.2.set i o).2[i]? = (H.2.set i o)[i]? from rfl, e1] at ho'
          rw [e2] at hx'
          cases ho'
          cases hx'
          exact HO.out.below hbw
        · rw [show (H.1, H.2.set k o).2[i]? = (H.2.set k o)[i]? from rfl, List.getElem?_set_ne (Ne.symm hik)] at ho'
          rw [List.getElem?_set_ne (Ne.symm hik)] at hx'
          exact (HALL.out i o' x' ho' hx').below hbw

end Go.Proofs.YtjcoifdfemejkaaGreatDoor

