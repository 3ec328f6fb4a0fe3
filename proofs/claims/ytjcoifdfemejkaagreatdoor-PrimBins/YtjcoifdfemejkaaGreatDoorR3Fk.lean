/- The document's heap, written to: the contracts. -/
import Derived.Test.YtjcoifdfemejkaaGreatDoorM9
set_option linter.unusedSimpArgs false
set_option linter.unusedVariables false
namespace Go.Proofs.YtjcoifdfemejkaaGreatDoor
open Go Go.RowKit

set_option maxRecDepth 100000 in
set_option maxHeartbeats 16000000 in
theorem rset_kind (G : Nat → Prop) (hv : Value) (H : AHeap) (v i x : Int) (hU : U v) (w : World) (h : RdH w G hv H) (hm : H.2.length ≤ 1000000) (hk : ¬ (kk H v = 2 ∨ kk H v = 4)) :
    Calls Tryz.prog 26 #[hv, .int .u64 v, .int .i64 i, .int .u64 x] w fun e w' => e = .returned (.tuple #[hv, .int .i64 8]) ∧ Bw w w' := by
  have HR := hid h
  obtain ⟨va, t, rfl, ht, hs, ho⟩ := h
  obtain ⟨ah, ch, rfl⟩ := hs.form
  have k2 : (kk H v != 2) = true := by simp; omega
  have k4 : (kk H v != 4) = true := by simp; omega
  clear ht hs ho hk
  go_enter Tryz.func26, Tryz.ntmps26
  go_wp2_with (first
    | (go_at_call 39; refine (rkindH_any G _ H _ hU _ (RdH.below HR.out (Ly.bw (by repeat (first | exact Ly.refl _ | apply Ly.lay | apply Ly.alloc | apply Ly.drewN | apply Ly.drew)))) (by omega)).mono ?_; rintro e w' ⟨rfl, os, m, rfl⟩))
  refine bodyPost_ret (v := .tuple #[.agg #[.int .i64 H.1, .slice ah H.2.length ch], .int .i64 8]) (by simp [results, Tryz.results26, go_sem]) rfl ?_
  exact ⟨rfl, Ly.bw (by repeat (first | exact Ly.refl _ | apply Ly.lay | apply Ly.alloc | apply Ly.drewN | apply Ly.drew))⟩

set_option maxRecDepth 100000 in
set_option maxHeartbeats 16000000 in
theorem rset_in (G : Nat → Prop) (hv : Value) (H : AHeap) (v i x : Int) (hU : U v) (hUx : U x) (w : World) (hGn : ∀ b, w.heap.size ≤ b → G b) (h : RdH w G hv H) (hok : HOK H) (hm : H.2.length ≤ 1000000) (hk : kk H v = 2 ∨ kk H v = 4)
    (hgx : gd H.2.length x = true) (hi : 0 ≤ i ∧ i < (ob H v).vals.length) :
    Calls Tryz.prog 26 #[hv, .int .u64 v, .int .i64 i, .int .u64 x] w fun e w' => ∃ v', e = .returned (.tuple #[v', .int .i64 0]) ∧ RdH w' G v' (H.1, H.2.set (idxV v).toNat (withVals (ob H v) ((ob H v).vals.set i.toNat x))) ∧ Bw w w' := by
  have HR := hid h
  obtain ⟨va, t, rfl, ht, hs, ho⟩ := h
  obtain ⟨ah, ch, rfl⟩ := hs.form
  have hkr := kk_ref (H := H) (v := v) (by omega)
  obtain ⟨hg, hge⟩ := ob_get (H := H) hU hkr.2.1
  have hoo := ob_ok hok hU hkr.2.1
  have HG := hid hg
  have HGE := hid hge
  have HOO := hid hoo
  have HGN := hid hGn
  have HGX := hid hgx
  obtain ⟨j, rfl⟩ : ∃ j : Nat, i = j := ⟨i.toNat, by omega⟩
  have hjl : j < (ob H v).vals.length := by omega
  have hkx : (idxV v).toNat < H.2.length := by omega
  have HKX := hid hkx
  clear ht hs ho hg hge hkr hoo hok hGn
  generalize hob : ob H v = o at *
  have HOB := hid hob
  clear hob
  have hkb : (kk H v != 2) = false ∨ ((kk H v != 2) = true ∧ (kk H v != 4) = false) := by rcases hk with h | h <;> simp [h]
  clear hk
  rcases hkb with hkb | ⟨hkb, hkb4⟩
  all_goals
    go_enter Tryz.func26, Tryz.ntmps26
    go_upto_region 4 with (first | (go_at_call 39; refine (rkindH_any G _ H _ hU _ (RdH.below HR.out (Ly.bw (by repeat (first | exact Ly.refl _ | apply Ly.lay | apply Ly.alloc | apply Ly.drewN | apply Ly.drew)))) (by omega)).mono ?_; rintro e w' ⟨rfl, os, m, rfl⟩))
    go_cut [11] (fun p wc => ∃ bp xb xv xk, p = .pointer (some ⟨bp, 0, none⟩) ∧ w.heap.size + 2 ≤ bp ∧ Blk wc w.heap.size #[.int .i64 H.1, .slice ah H.2.length ch] 32 ∧ Blk wc (w.heap.size + 1) #[.int .i64 0, .slice none 0 0] 32 ∧
      Blk wc bp #[.int .i64 o.kind, xb, xv, xk, .int .i64 o.num, .int .u64 o.re, .int .u64 o.im] 50 ∧
      wc.ownsRow (w.heap.size + 2) 5 1 xb o.bytes.length (o.bytes.map (Value.int .u8)) ∧ wc.ownsRow (w.heap.size + 2) 27 1 xv o.vals.length (o.vals.map (Value.int .u64)) ∧ wc.ownsRow (w.heap.size + 2) 9 1 xk o.keys.length (o.keys.map Value.string) ∧ Bw w wc)
    case first =>
      go_wp2_with (first
        | (go_at_call 40; refine (rof_any G _ H _ hU _ HGE.out _ HG.out w _ (Ly.bw (by repeat (first | exact Ly.refl _ | apply Ly.lay | apply Ly.alloc | apply Ly.drewN | apply Ly.drew))) HR.out (by omega)).mono ?_; rintro e w' ⟨vb, vv, vk, rfl, hol, os, m, rfl⟩; have HOL := hid hol; clear hol)
        | (go_at_call 70; refine (rcopy_any G _ _ _ _ _ (OL.below HOL.out (Ly.bw (by repeat (first | exact Ly.refl _ | apply Ly.lay | apply Ly.alloc | apply Ly.drewN | apply Ly.drew)))) HOO.out.2.2.2.2.2.1 HOO.out.2.2.2.2.2.2.1 HOO.out.2.2.2.2.2.2.2).mono ?_; rintro e w1 ⟨xb, xv, xk, rfl, o1, o2, o3, hbw⟩; obtain ⟨ab, cb, rfl⟩ := own_form o1; obtain ⟨av, cv, rfl⟩ := own_form o2; obtain ⟨ak, ck, rfl⟩ := own_form o3))
      have hsz := hbw.size
      simp only [lay_size, World.size_alloc] at hsz
      have p0 := (((Blk.new w #[.int .i64 H.1, .slice ah H.2.length ch] 32).alloc (.cells #[.int .i64 0, .slice none 0 0] 32)).lay _ _).bw hbw
      have p1 := ((Blk.new (w.alloc (.cells #[.int .i64 H.1, .slice ah H.2.length ch] 32)) #[.int .i64 0, .slice none 0 0] 32).lay _ _).bw hbw
      have hww := Bw.trans (Bw.lay (Bw.alloc (Bw.alloc (Bw.refl w) (.cells #[.int .i64 H.1, .slice ah H.2.length ch] 32)) (.cells #[.int .i64 0, .slice none 0 0] 32)) _ _) hbw
      go_meet
      case rel =>
        exact ⟨_, _, _, _, rfl, by omega, p0.alloc _, by simpa using p1.alloc _, Blk.new _ _ _, (own_base o1 (by simp only [lay_size, World.size_alloc]; omega)).alloc _, (own_base o2 (by simp only [lay_size, World.size_alloc]; omega)).alloc _, (own_base o3 (by simp only [lay_size, World.size_alloc]; omega)).alloc _, Bw.alloc hww _⟩
    case rest =>
      obtain ⟨bp, xb, xv, xk, rfl, hbp, hB0, hB1, hBo, o1, o2, o3, hWc⟩ := hcut
      obtain ⟨ab, cb, rfl⟩ := own_form o1
      obtain ⟨ak, ck, rfl⟩ := own_form o3
      rcases o2.2 with ⟨_, h0⟩ | ⟨g, cap, cur, rfl, hbg, hgg, hnc, hcm, hcs, htake⟩
      · omega
      · have hBg : Blk wc g cur 27 := hgg
        have rj : wc.cell? ⟨g, j, none⟩ = some (.int .u64 o.vals[j]) := by
          rw [hBg.cell, ← Array.getElem?_toList]
          have := congrArg (fun l => l[j]?) htake
          simpa [List.getElem?_take, hjl] using this
        have rf := hBg.free
        have z0 := hB0.cell
        have z1 := hB1.cell
        have z1f := hB1.free
        have z3 := hBo.cell
        have hg1 : g < wc.heap.size := hBg.lt
        have hg2 : bp < wc.heap.size := hBo.lt
        have hg3 : w.heap.size < wc.heap.size := by omega
        have hg4 : w.heap.size + 1 < wc.heap.size := by omega
        have hi2 : (j : Int) < (o.vals.length : Int) := by omega
        have hi1 : (0 : Int) ≤ (j : Int) := by omega
        have hl6 : o.vals.length ≤ 1000000 := HOO.out.2.2.2.2.2.2.1
        have HW := hid hWc
        have B0 := hid hB0
        have B1 := hid hB1
        have BG := hid hBg
        have O1 := hid o1
        have O3 := hid o3
        have TK := hid htake
        have CS := hid hcs
        have hne1 : g ≠ bp := by
          rintro rfl
          have e1 : wc.heap[g]? = _ := hBg
          have e2 : wc.heap[g]? = _ := hBo
          rw [e1] at e2
          simp at e2
        clear hWc hB0 hB1 hBo hBg hgg o1 o2 o3 htake hcs
        go_wp2_with (first
          | (go_at_call 72; refine (rgood_any G _ H _ hUx _ (RdH.below HR.out (Bw.trans HW.out (Ly.bw (by repeat (first | exact Ly.refl _ | apply Ly.lay | apply Ly.alloc | apply Ly.drewN | apply Ly.drew))))) (by omega)).mono ?_; rintro e w' ⟨rfl, os, m, rfl⟩))
        have bg1 := (BG.out.set j (.int .u64 x)).lay os m
        have hbw2 : Bw w (lay (wc.setCell ⟨g, j, none⟩ (.int .u64 x)) os m) := Bw.lay (Bw.setCell HW.out (p := ⟨g, j, none⟩) (show w.heap.size ≤ g by omega) _) os m
        have ow1 := own_lay (O1.out.kept (grown_set wc g j (.int .u64 x)) (own_not O1.out BG.out (by decide))) os m
        have ow3 := own_lay (O3.out.kept (grown_set wc g j (.int .u64 x)) (own_not O3.out BG.out (by decide))) os m
        have ow2 : (lay (wc.setCell ⟨g, j, none⟩ (.int .u64 x)) os m).ownsRow (w.heap.size + 2) 27 1 (.slice (some ⟨g, 0, none⟩) o.vals.length cap) o.vals.length ((o.vals.set j x).map (Value.int .u64)) := by
          refine ⟨by simp, .inr ⟨g, cap, _, rfl, hbg, bg1, hnc, hcm, by simp [CS.out], ?_⟩⟩
          rw [Array.toList_setIfInBounds, List.take_set, TK.out, List.map_set]
        have b1s := (B1.out.other (p := ⟨g, j, none⟩) (show g ≠ w.heap.size + 1 by omega) (.int .u64 x)).lay os m
        have hb1lt := b1s.lt
        have hGs : ∀ b, (lay (wc.setCell ⟨g, j, none⟩ (.int .u64 x)) os m).heap.size ≤ b → (G b ∧ b ≠ w.heap.size + 1) := fun b hb => ⟨HGN.out b (Nat.le_trans hbw2.size hb), by omega⟩
        have hG2 : ∀ b, w.heap.size + 2 ≤ b → (G b ∧ b ≠ w.heap.size + 1) := fun b hb => ⟨HGN.out b (by omega), by omega⟩
        have hRd2 : RdH (lay (wc.setCell ⟨g, j, none⟩ (.int .u64 x)) os m) (fun b => G b ∧ b ≠ w.heap.size + 1) _ H := RdH.keep HR.out hbw2.size (fun b hb _ => hbw2.block b hb) (fun b hb hgb => ⟨hgb, by omega⟩)
        have hput := rput_any (fun b => G b ∧ b ≠ w.heap.size + 1) _ H v hU (idxV v).toNat HGE.out HKX.out (withVals o (o.vals.set j x)) (.slice ab o.bytes.length cb) (.slice (some ⟨g, 0, none⟩) o.vals.length cap) (.slice ak o.keys.length ck) _ hGs hRd2
          ⟨own_sl ow1 hG2, (by have := own_sl (G := fun b => G b ∧ b ≠ w.heap.size + 1) ow2 hG2; simpa [withVals, AObj.vals] using this), own_sl ow3 hG2⟩ hm
        refine hput.mono ?_
        rintro e w3 ⟨v', rfl, hrd, hbw3⟩
        have hrd' := hrd
        obtain ⟨va', t', rfl, _, hsl', _⟩ := hrd'
        obtain ⟨a3, c3, e3⟩ := hsl'.form
        rw [show ((H.1, H.2.set (idxV v).toNat (withVals o (o.vals.set j x))) : AHeap).2.length = H.2.length from List.length_set ..] at e3
        subst e3
        have b1w := b1s.bw hbw3
        have y1 := b1w.cell
        have y1f := b1w.free
        have HB1W := hid b1w
        have HRD := hid hrd
        have HBW3 := hid (Bw.trans hbw2 hbw3)
        clear hput hrd hbw3 bg1 hbw2 ow1 ow2 ow3 hGs b1s hsl' b1w rj rf z0 z1 z1f z3 hb1lt hG2 hRd2
        go_wp2
        have bf := (HB1W.out.set 0 (.int .i64 H.1)).set 1 (.slice a3 H.2.length c3)
        have bfc := bf.cell
        refine bodyPost_ret (v := .tuple #[.agg #[.int .i64 H.1, .slice a3 H.2.length c3], .int .i64 0]) (by simp [results, Tryz.results26, go_sem, bfc]) rfl ?_
        refine ⟨_, rfl, RdH.keep HRD.out (by simp [World.setCell]) ?_ (fun b _ h => h.1), Bw.setCell (Bw.setCell HBW3.out (p := ⟨w.heap.size + 1, 0, none⟩) (show w.heap.size ≤ w.heap.size + 1 by omega) _) (p := ⟨w.heap.size + 1, 1, none⟩) (show w.heap.size ≤ w.heap.size + 1 by omega) _⟩
        intro b hb hgb
        rw [Below.heap_setCell _ _ _ _ (show b ≠ w.heap.size + 1 from hgb.2), Below.heap_setCell _ _ _ _ (show b ≠ w.heap.size + 1 from hgb.2)]

end Go.Proofs.YtjcoifdfemejkaaGreatDoor

