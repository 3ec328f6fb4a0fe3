/- The document's heap, written to, further: the calls of Set that change nothing; all of them in one. -/
import Derived.Test.YtjcoifdfemejkaaGreatDoorR3Fk
set_option linter.unusedSimpArgs false
set_option linter.unusedVariables false
namespace Go.Proofs.YtjcoifdfemejkaaGreatDoor
open Go Go.RowKit

set_option maxRecDepth 100000 in
set_option maxHeartbeats 16000000 in
theorem rset_arg (G : Nat → Prop) (hv : Value) (H : AHeap) (v i x : Int) (hU : U v) (hUx : U x) (w : World) (h : RdH w G hv H) (hok : HOK H) (hm : H.2.length ≤ 1000000) (hk : kk H v = 2 ∨ kk H v = 4)
    (hgx : gd H.2.length x = false) :
    Calls Tryz.prog 26 #[hv, .int .u64 v, .int .i64 i, .int .u64 x] w fun e w' => e = .returned (.tuple #[hv, .int .i64 1]) ∧ Bw w w' := by
  have HR := hid h
  obtain ⟨va, t, rfl, ht, hs, ho⟩ := h
  obtain ⟨ah, ch, rfl⟩ := hs.form
  have hkr := kk_ref (H := H) (v := v) (by omega)
  obtain ⟨hg, hge⟩ := ob_get (H := H) hU hkr.2.1
  have hoo := ob_ok hok hU hkr.2.1
  have HG := hid hg
  have HGE := hid hge
  have HOO := hid hoo
  have hkx : (idxV v).toNat < H.2.length := by omega
  have HKX := hid hkx
  clear ht hs ho hg hge hkr hoo hok
  generalize hob : ob H v = o at *
  have HOB := hid hob
  clear hob
  have hkb : (kk H v != 2) = false ∨ ((kk H v != 2) = true ∧ (kk H v != 4) = false) := by rcases hk with h | h <;> simp [h]
  clear hk
  rcases hkb with hkb | ⟨hkb, hkb4⟩
  all_goals
    go_enter Tryz.func26, Tryz.ntmps26
    go_upto_region 4 with (first | (go_at_call 39; refine (rkindH_any G _ H _ hU _ (RdH.below HR.out (Ly.bw (by repeat (first | exact Ly.refl _ | apply Ly.lay | apply Ly.alloc | apply Ly.drewN | apply Ly.drew)))) (by omega)).mono ?_; rintro e w' ⟨rfl, os, m, rfl⟩))
    go_cut [11] (fun p wc => ∃ bp xb xv xk, p = .pointer (some ⟨bp, 0, none⟩) ∧ w.heap.size + 2 ≤ bp ∧ Blk wc w.heap.size #[.int .i64 H.1, .slice ah H.2.length ch] 32 ∧ Blk wc (w.heap.size + 1) #[.int .i64 0, .slice none 0 0] 32 ∧
      Blk wc bp #[.int .i64 o.kind, xb, xv, xk, .int .i64 o.num, .int .u64 o.re, .int .u64 o.im] 50 ∧
      wc.ownsRow (w.heap.size + 2) 5 1 xb o.bytes.length (o.bytes.map (Value.int .u8)) ∧ wc.ownsRow (w.heap.size + 2) 27 1 xv o.vals.length (o.vals.map (Value.int .u64)) ∧ wc.ownsRow (w.heap.size + 2) 9 1 xk o.keys.length (o.keys.map Value.string) ∧ Bw w wc)
    case first =>
      go_wp2_with (first
        | (go_at_call 40; refine (rof_any G _ H _ hU _ HGE.out _ HG.out w _ (Ly.bw (by repeat (first | exact Ly.refl _ | apply Ly.lay | apply Ly.alloc | apply Ly.drewN | apply Ly.drew))) HR.out (by omega)).mono ?_; rintro e w' ⟨vb, vv, vk, rfl, hol, os, m, rfl⟩; have HOL := hid hol; clear hol)
        | (go_at_call 70; refine (rcopy_any G _ _ _ _ _ (OL.below HOL.out (Ly.bw (by repeat (first | exact Ly.refl _ | apply Ly.lay | apply Ly.alloc | apply Ly.drewN | apply Ly.drew)))) HOO.out.2.2.2.2.2.1 HOO.out.2.2.2.2.2.2.1 HOO.out.2.2.2.2.2.2.2).mono ?_; rintro e w1 ⟨xb, xv, xk, rfl, o1, o2, o3, hbw⟩; obtain ⟨ab, cb, rfl⟩ := own_form o1; obtain ⟨av, cv, rfl⟩ := own_form o2; obtain ⟨ak, ck, rfl⟩ := own_form o3))
      have hsz := hbw.size
      simp only [lay_size, World.size_alloc] at hsz
      have p0 := (((Blk.new w #[.int .i64 H.1, .slice ah H.2.length ch] 32).alloc (.cells #[.int .i64 0, .slice none 0 0] 32)).lay _ _).bw hbw
      have p1 := ((Blk.new (w.alloc (.cells #[.int .i64 H.1, .slice ah H.2.length ch] 32)) #[.int .i64 0, .slice none 0 0] 32).lay _ _).bw hbw
      have hww := Bw.trans (Bw.lay (Bw.alloc (Bw.alloc (Bw.refl w) (.cells #[.int .i64 H.1, .slice ah H.2.length ch] 32)) (.cells #[.int .i64 0, .slice none 0 0] 32)) _ _) hbw
      go_meet
      case rel =>
        exact ⟨_, _, _, _, rfl, by omega, p0.alloc _, by simpa using p1.alloc _, Blk.new _ _ _, (own_base o1 (by simp only [lay_size, World.size_alloc]; omega)).alloc _, (own_base o2 (by simp only [lay_size, World.size_alloc]; omega)).alloc _, (own_base o3 (by simp only [lay_size, World.size_alloc]; omega)).alloc _, Bw.alloc hww _⟩
    case rest =>
      obtain ⟨bp, xb, xv, xk, rfl, hbp, hB0, hB1, hBo, o1, o2, o3, hWc⟩ := hcut
      obtain ⟨ab, cb, rfl⟩ := own_form o1
      obtain ⟨av, cv, rfl⟩ := own_form o2
      obtain ⟨ak, ck, rfl⟩ := own_form o3
      have z0 := hB0.cell
      have z1 := hB1.cell
      have z1f := hB1.free
      have z3 := hBo.cell
      have hg2 : bp < wc.heap.size := hBo.lt
      have hg3 : w.heap.size < wc.heap.size := by omega
      have hg4 : w.heap.size + 1 < wc.heap.size := by omega
      have hl6 : o.vals.length ≤ 1000000 := HOO.out.2.2.2.2.2.2.1
      have HW := hid hWc
      have B1 := hid hB1
      clear hWc hB0 hB1 hBo o1 o2 o3
      go_wp2_with (first
        | (go_at_call 72; refine (rgood_any G _ H _ hUx _ (RdH.below HR.out (Bw.trans HW.out (Ly.bw (by repeat (first | exact Ly.refl _ | apply Ly.lay | apply Ly.alloc | apply Ly.drewN | apply Ly.drew))))) (by omega)).mono ?_; rintro e w' ⟨rfl, os, m, rfl⟩))
      all_goals
        have bf := ((B1.out.set 0 (.int .i64 H.1)).set 1 (.slice ah H.2.length ch)).lay os m
        have bfc := bf.cell
        refine bodyPost_ret (v := .tuple #[.agg #[.int .i64 H.1, .slice ah H.2.length ch], .int .i64 1]) (by simp [results, Tryz.results26, go_sem, bfc]) rfl ?_
        exact ⟨rfl, Bw.lay (Bw.setCell (Bw.setCell HW.out (p := ⟨w.heap.size + 1, 0, none⟩) (show w.heap.size ≤ w.heap.size + 1 by omega) _) (p := ⟨w.heap.size + 1, 1, none⟩) (show w.heap.size ≤ w.heap.size + 1 by omega) _) os m⟩

set_option maxRecDepth 100000 in
set_option maxHeartbeats 16000000 in
theorem rset_range (G : Nat → Prop) (hv : Value) (H : AHeap) (v i x : Int) (hU : U v) (hUx : U x) (w : World) (h : RdH w G hv H) (hok : HOK H) (hm : H.2.length ≤ 1000000) (hk : kk H v = 2 ∨ kk H v = 4)
    (hgx : gd H.2.length x = true) (hi : ¬ (0 ≤ i ∧ i < (ob H v).vals.length)) :
    Calls Tryz.prog 26 #[hv, .int .u64 v, .int .i64 i, .int .u64 x] w fun e w' => e = .returned (.tuple #[hv, .int .i64 9]) ∧ Bw w w' := by
  have HR := hid h
  obtain ⟨va, t, rfl, ht, hs, ho⟩ := h
  obtain ⟨ah, ch, rfl⟩ := hs.form
  have hkr := kk_ref (H := H) (v := v) (by omega)
  obtain ⟨hg, hge⟩ := ob_get (H := H) hU hkr.2.1
  have hoo := ob_ok hok hU hkr.2.1
  have HG := hid hg
  have HGE := hid hge
  have HOO := hid hoo
  have hkx : (idxV v).toNat < H.2.length := by omega
  have HKX := hid hkx
  clear ht hs ho hg hge hkr hoo hok
  generalize hob : ob H v = o at *
  have HOB := hid hob
  clear hob
  have hkb : (kk H v != 2) = false ∨ ((kk H v != 2) = true ∧ (kk H v != 4) = false) := by rcases hk with h | h <;> simp [h]
  clear hk
  rcases hkb with hkb | ⟨hkb, hkb4⟩
  all_goals
    go_enter Tryz.func26, Tryz.ntmps26
    go_upto_region 4 with (first | (go_at_call 39; refine (rkindH_any G _ H _ hU _ (RdH.below HR.out (Ly.bw (by repeat (first | exact Ly.refl _ | apply Ly.lay | apply Ly.alloc | apply Ly.drewN | apply Ly.drew)))) (by omega)).mono ?_; rintro e w' ⟨rfl, os, m, rfl⟩))
    go_cut [11] (fun p wc => ∃ bp xb xv xk, p = .pointer (some ⟨bp, 0, none⟩) ∧ w.heap.size + 2 ≤ bp ∧ Blk wc w.heap.size #[.int .i64 H.1, .slice ah H.2.length ch] 32 ∧ Blk wc (w.heap.size + 1) #[.int .i64 0, .slice none 0 0] 32 ∧
      Blk wc bp #[.int .i64 o.kind, xb, xv, xk, .int .i64 o.num, .int .u64 o.re, .int .u64 o.im] 50 ∧
      wc.ownsRow (w.heap.size + 2) 5 1 xb o.bytes.length (o.bytes.map (Value.int .u8)) ∧ wc.ownsRow (w.heap.size + 2) 27 1 xv o.vals.length (o.vals.map (Value.int .u64)) ∧ wc.ownsRow (w.heap.size + 2) 9 1 xk o.keys.length (o.keys.map Value.string) ∧ Bw w wc)
    case first =>
      go_wp2_with (first
        | (go_at_call 40; refine (rof_any G _ H _ hU _ HGE.out _ HG.out w _ (Ly.bw (by repeat (first | exact Ly.refl _ | apply Ly.lay | apply Ly.alloc | apply Ly.drewN | apply Ly.drew))) HR.out (by omega)).mono ?_; rintro e w' ⟨vb, vv, vk, rfl, hol, os, m, rfl⟩; have HOL := hid hol; clear hol)
        | (go_at_call 70; refine (rcopy_any G _ _ _ _ _ (OL.below HOL.out (Ly.bw (by repeat (first | exact Ly.refl _ | apply Ly.lay | apply Ly.alloc | apply Ly.drewN | apply Ly.drew)))) HOO.out.2.2.2.2.2.1 HOO.out.2.2.2.2.2.2.1 HOO.out.2.2.2.2.2.2.2).mono ?_; rintro e w1 ⟨xb, xv, xk, rfl, o1, o2, o3, hbw⟩; obtain ⟨ab, cb, rfl⟩ := own_form o1; obtain ⟨av, cv, rfl⟩ := own_form o2; obtain ⟨ak, ck, rfl⟩ := own_form o3))
      have hsz := hbw.size
      simp only [lay_size, World.size_alloc] at hsz
      have p0 := (((Blk.new w #[.int .i64 H.1, .slice ah H.2.length ch] 32).alloc (.cells #[.int .i64 0, .slice none 0 0] 32)).lay _ _).bw hbw
      have p1 := ((Blk.new (w.alloc (.cells #[.int .i64 H.1, .slice ah H.2.length ch] 32)) #[.int .i64 0, .slice none 0 0] 32).lay _ _).bw hbw
      have hww := Bw.trans (Bw.lay (Bw.alloc (Bw.alloc (Bw.refl w) (.cells #[.int .i64 H.1, .slice ah H.2.length ch] 32)) (.cells #[.int .i64 0, .slice none 0 0] 32)) _ _) hbw
      go_meet
      case rel =>
        exact ⟨_, _, _, _, rfl, by omega, p0.alloc _, by simpa using p1.alloc _, Blk.new _ _ _, (own_base o1 (by simp only [lay_size, World.size_alloc]; omega)).alloc _, (own_base o2 (by simp only [lay_size, World.size_alloc]; omega)).alloc _, (own_base o3 (by simp only [lay_size, World.size_alloc]; omega)).alloc _, Bw.alloc hww _⟩
    case rest =>
      obtain ⟨bp, xb, xv, xk, rfl, hbp, hB0, hB1, hBo, o1, o2, o3, hWc⟩ := hcut
      obtain ⟨ab, cb, rfl⟩ := own_form o1
      obtain ⟨av, cv, rfl⟩ := own_form o2
      obtain ⟨ak, ck, rfl⟩ := own_form o3
      have z0 := hB0.cell
      have z1 := hB1.cell
      have z1f := hB1.free
      have z3 := hBo.cell
      have hg2 : bp < wc.heap.size := hBo.lt
      have hg3 : w.heap.size < wc.heap.size := by omega
      have hg4 : w.heap.size + 1 < wc.heap.size := by omega
      have hl6 : o.vals.length ≤ 1000000 := HOO.out.2.2.2.2.2.2.1
      have HW := hid hWc
      have B1 := hid hB1
      clear hWc hB0 hB1 hBo o1 o2 o3
      have h01 : i < 0 ∨ (¬ i < 0 ∧ (o.vals.length : Int) ≤ i) := by omega
      clear hi
      rcases h01 with h0 | ⟨h0, h1⟩
      all_goals
        go_wp2_with (first
          | (go_at_call 72; refine (rgood_any G _ H _ hUx _ (RdH.below HR.out (Bw.trans HW.out (Ly.bw (by repeat (first | exact Ly.refl _ | apply Ly.lay | apply Ly.alloc | apply Ly.drewN | apply Ly.drew))))) (by omega)).mono ?_; rintro e w' ⟨rfl, os, m, rfl⟩))
        all_goals
          have bf := ((B1.out.set 0 (.int .i64 H.1)).set 1 (.slice ah H.2.length ch)).lay os m
          have bfc := bf.cell
          refine bodyPost_ret (v := .tuple #[.agg #[.int .i64 H.1, .slice ah H.2.length ch], .int .i64 9]) (by simp [results, Tryz.results26, go_sem, bfc]) rfl ?_
          exact ⟨rfl, Bw.lay (Bw.setCell (Bw.setCell HW.out (p := ⟨w.heap.size + 1, 0, none⟩) (show w.heap.size ≤ w.heap.size + 1 by omega) _) (p := ⟨w.heap.size + 1, 1, none⟩) (show w.heap.size ≤ w.heap.size + 1 by omega) _) os m⟩

theorem rset_any (G : Nat → Prop) (hv : Value) (H : AHeap) (v i x : Int) (hU : U v) (hUx : U x) (w : World) (hGn : ∀ b, w.heap.size ≤ b → G b) (h : RdH w G hv H) (hok : HOK H) (hm : H.2.length ≤ 1000000) :
    Calls Tryz.prog 26 #[hv, .int .u64 v, .int .i64 i, .int .u64 x] w fun e w' => ∃ v', e = .returned (.tuple #[v', .int .i64 (aSetE H v i x)]) ∧ RdH w' G v' (aSetH H v i x) ∧ Bw w w' := by
  unfold aSetE aSetH
  by_cases hk : kk H v = 2 ∨ kk H v = 4
  · rw [if_pos hk]
    cases hg : gd H.2.length x
    · rw [if_neg (by simp), if_neg (by simp)]
      exact (rset_arg G hv H v i x hU hUx w h hok hm hk hg).mono fun e w' ⟨he, hb⟩ => ⟨hv, he, h.below hb, hb⟩
    · rw [if_pos rfl]
      by_cases hi : 0 ≤ i ∧ i < (ob H v).vals.length
      · rw [if_pos hi, if_pos ⟨hk, rfl, hi⟩]
        exact rset_in G hv H v i x hU hUx w hGn h hok hm hk hg hi
      · rw [if_neg hi, if_neg (fun k => hi k.2.2)]
        exact (rset_range G hv H v i x hU hUx w h hok hm hk hg hi).mono fun e w' ⟨he, hb⟩ => ⟨hv, he, h.below hb, hb⟩
  · rw [if_neg hk, if_neg (fun k => hk k.1)]
    exact (rset_kind G hv H v i x hU w h hm hk).mono fun e w' ⟨he, hb⟩ => ⟨hv, he, h.below hb, hb⟩

end Go.Proofs.YtjcoifdfemejkaaGreatDoor

