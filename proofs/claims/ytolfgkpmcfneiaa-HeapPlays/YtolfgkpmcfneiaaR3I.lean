/- The document's arrays, one entry more, further: the calls of Push that change nothing; all of them in one; new heaps. -/
import Derived.Test.YtolfgkpmcfneiaaR3H
set_option linter.unusedSimpArgs false
set_option linter.unusedVariables false
namespace Go.Proofs.Ytolfgkpmcfneiaa
open Go Go.RowKit

set_option maxRecDepth 100000 in
set_option maxHeartbeats 16000000 in
theorem rpush_kind (G : Nat → Prop) (hv : Value) (H : AHeap) (v x : Int) (hU : U v) (w : World) (h : RdH w G hv H) (hm : H.2.length ≤ 1000000) (hk : ¬ kk H v = 2) :
    Calls Try.prog 41 #[hv, .int .u64 v, .int .u64 x] w fun e w' => e = .returned (.tuple #[hv, .int .i64 8]) ∧ Bw w w' := by
  have HR := hid h
  obtain ⟨va, t, rfl, ht, hs, ho⟩ := h
  obtain ⟨ah, ch, rfl⟩ := hs.form
  have k2 : (kk H v != 2) = true := by simpa using hk
  clear ht hs ho hk
  go_enter Try.func41, Try.ntmps41
  go_wp2_with (first
    | (go_at_call 61; refine (rkindH_any G _ H _ hU _ (RdH.below HR.out (Ly.bw (by repeat (first | exact Ly.refl _ | apply Ly.lay | apply Ly.alloc | apply Ly.drewN | apply Ly.drew)))) (by omega)).mono ?_; rintro e w' ⟨rfl, os, m, rfl⟩))
  refine bodyPost_ret (v := .tuple #[.agg #[.int .i64 H.1, .slice ah H.2.length ch], .int .i64 8]) (by simp [results, Try.results41, go_sem]) rfl ?_
  exact ⟨rfl, Ly.bw (by repeat (first | exact Ly.refl _ | apply Ly.lay | apply Ly.alloc | apply Ly.drewN | apply Ly.drew))⟩

set_option maxRecDepth 100000 in
set_option maxHeartbeats 16000000 in
theorem rpush_arg (G : Nat → Prop) (hv : Value) (H : AHeap) (v x : Int) (hU : U v) (hUx : U x) (w : World) (h : RdH w G hv H) (hok : HOK H) (hm : H.2.length ≤ 1000000) (hk : kk H v = 2)
    (hgx : gd H.2.length x = false) :
    Calls Try.prog 41 #[hv, .int .u64 v, .int .u64 x] w fun e w' => e = .returned (.tuple #[hv, .int .i64 1]) ∧ Bw w w' := by
  have HR := hid h
  obtain ⟨va, t, rfl, ht, hs, ho⟩ := h
  obtain ⟨ah, ch, rfl⟩ := hs.form
  have hkr := kk_ref (H := H) (v := v) (by omega)
  obtain ⟨hg, hge⟩ := ob_get (H := H) hU hkr.2.1
  have hoo := ob_ok hok hU hkr.2.1
  have HG := hid hg
  have HGE := hid hge
  have HOO := hid hoo
  have hkx : (idxV v).toNat < H.2.length := by omega
  have HKX := hid hkx
  obtain ⟨i2, hi2, hz2, hs2, hy2⟩ := info_parts infoV
  have I2 := hid (And.intro hi2 (And.intro hz2 (And.intro hs2 hy2)))
  clear ht hs ho hg hge hkr hoo hok hi2 hz2 hs2 hy2
  generalize hob : ob H v = o at *
  have HOB := hid hob
  clear hob
  go_enter Try.func41, Try.ntmps41
  go_upto_region 3 with (first | (go_at_call 61; refine (rkindH_any G _ H _ hU _ (RdH.below HR.out (Ly.bw (by repeat (first | exact Ly.refl _ | apply Ly.lay | apply Ly.alloc | apply Ly.drewN | apply Ly.drew)))) (by omega)).mono ?_; rintro e w' ⟨rfl, os, m, rfl⟩))
  go_cut [8] (fun p wc => ∃ bp xb xv xk, p = .pointer (some ⟨bp, 0, none⟩) ∧ w.heap.size + 2 ≤ bp ∧ Blk wc w.heap.size #[.int .i64 H.1, .slice ah H.2.length ch] 31 ∧ Blk wc (w.heap.size + 1) #[.int .i64 0, .slice none 0 0] 31 ∧
    Blk wc bp #[.int .i64 o.kind, xb, xv, xk, .int .i64 o.num, .int .u64 o.re, .int .u64 o.im] 55 ∧
    wc.ownsRow (w.heap.size + 2) 5 1 xb o.bytes.length (o.bytes.map (Value.int .u8)) ∧ wc.ownsRow (w.heap.size + 2) 38 1 xv o.vals.length (o.vals.map (Value.int .u64)) ∧ wc.ownsRow (w.heap.size + 2) 9 1 xk o.keys.length (o.keys.map Value.string) ∧ Bw w wc)
  case first =>
    go_wp2_with (first
      | (go_at_call 62; refine (rof_any G _ H _ hU _ HGE.out _ HG.out w _ (Ly.bw (by repeat (first | exact Ly.refl _ | apply Ly.lay | apply Ly.alloc | apply Ly.drewN | apply Ly.drew))) HR.out (by omega)).mono ?_; rintro e w' ⟨vb, vv, vk, rfl, hol, os, m, rfl⟩; have HOL := hid hol; clear hol)
      | (go_at_call 60; refine (rcopy_any G _ _ _ _ _ (OL.below HOL.out (Ly.bw (by repeat (first | exact Ly.refl _ | apply Ly.lay | apply Ly.alloc | apply Ly.drewN | apply Ly.drew)))) HOO.out.2.2.2.2.2.1 HOO.out.2.2.2.2.2.2.1 HOO.out.2.2.2.2.2.2.2).mono ?_; rintro e w1 ⟨xb, xv, xk, rfl, o1, o2, o3, hbw⟩; obtain ⟨ab, cb, rfl⟩ := own_form o1; obtain ⟨av, cv, rfl⟩ := own_form o2; obtain ⟨ak, ck, rfl⟩ := own_form o3))
    have hsz := hbw.size
    simp only [lay_size, World.size_alloc] at hsz
    have p0 := (((Blk.new w #[.int .i64 H.1, .slice ah H.2.length ch] 31).alloc (.cells #[.int .i64 0, .slice none 0 0] 31)).lay _ _).bw hbw
    have p1 := ((Blk.new (w.alloc (.cells #[.int .i64 H.1, .slice ah H.2.length ch] 31)) #[.int .i64 0, .slice none 0 0] 31).lay _ _).bw hbw
    have hww := Bw.trans (Bw.lay (Bw.alloc (Bw.alloc (Bw.refl w) (.cells #[.int .i64 H.1, .slice ah H.2.length ch] 31)) (.cells #[.int .i64 0, .slice none 0 0] 31)) _ _) hbw
    go_meet
    case rel =>
      exact ⟨_, _, _, _, rfl, by omega, p0.alloc _, by simpa using p1.alloc _, Blk.new _ _ _, (own_base o1 (by simp only [lay_size, World.size_alloc]; omega)).alloc _, (own_base o2 (by simp only [lay_size, World.size_alloc]; omega)).alloc _, (own_base o3 (by simp only [lay_size, World.size_alloc]; omega)).alloc _, Bw.alloc hww _⟩
  case rest =>
    obtain ⟨bp, xb, xv, xk, rfl, hbp, hB0, hB1, hBo, o1, o2, o3, hWc⟩ := hcut
    obtain ⟨ab, cb, rfl⟩ := own_form o1
    obtain ⟨av, cv, rfl⟩ := own_form o2
    obtain ⟨ak, ck, rfl⟩ := own_form o3
    have z0 := hB0.cell
    have z1 := hB1.cell
    have z1f := hB1.free
    have z3 := hBo.cell
    have hg2 : bp < wc.heap.size := hBo.lt
    have hg3 : w.heap.size < wc.heap.size := by omega
    have hg4 : w.heap.size + 1 < wc.heap.size := by omega
    have hl6 : o.vals.length ≤ 1000000 := HOO.out.2.2.2.2.2.2.1
    have HW := hid hWc
    have B1 := hid hB1
    clear hWc hB0 hB1 hBo o1 o2 o3
    go_wp2_with (first
      | (go_at_call 63; refine (rgood_any G _ H _ hUx _ (RdH.below HR.out (Bw.trans HW.out (Ly.bw (by repeat (first | exact Ly.refl _ | apply Ly.lay | apply Ly.alloc | apply Ly.drewN | apply Ly.drew))))) (by omega)).mono ?_; rintro e w' ⟨rfl, os, m, rfl⟩))
    all_goals
      have bf := ((B1.out.set 0 (.int .i64 H.1)).set 1 (.slice ah H.2.length ch)).lay os m
      have bfc := bf.cell
      refine bodyPost_ret (v := .tuple #[.agg #[.int .i64 H.1, .slice ah H.2.length ch], .int .i64 1]) (by simp [results, Try.results41, go_sem, bfc]) rfl ?_
      exact ⟨rfl, Bw.lay (Bw.setCell (Bw.setCell HW.out (p := ⟨w.heap.size + 1, 0, none⟩) (show w.heap.size ≤ w.heap.size + 1 by omega) _) (p := ⟨w.heap.size + 1, 1, none⟩) (show w.heap.size ≤ w.heap.size + 1 by omega) _) os m⟩

set_option maxRecDepth 100000 in
set_option maxHeartbeats 16000000 in
theorem rpush_long (G : Nat → Prop) (hv : Value) (H : AHeap) (v x : Int) (hU : U v) (hUx : U x) (w : World) (h : RdH w G hv H) (hok : HOK H) (hm : H.2.length ≤ 1000000) (hk : kk H v = 2)
    (hgx : gd H.2.length x = true) (hl : (ob H v).vals.length = 65536) :
    Calls Try.prog 41 #[hv, .int .u64 v, .int .u64 x] w fun e w' => e = .returned (.tuple #[hv, .int .i64 2]) ∧ Bw w w' := by
  have HR := hid h
  obtain ⟨va, t, rfl, ht, hs, ho⟩ := h
  obtain ⟨ah, ch, rfl⟩ := hs.form
  have hkr := kk_ref (H := H) (v := v) (by omega)
  obtain ⟨hg, hge⟩ := ob_get (H := H) hU hkr.2.1
  have hoo := ob_ok hok hU hkr.2.1
  have HG := hid hg
  have HGE := hid hge
  have HOO := hid hoo
  have hkx : (idxV v).toNat < H.2.length := by omega
  have HKX := hid hkx
  obtain ⟨i2, hi2, hz2, hs2, hy2⟩ := info_parts infoV
  have I2 := hid (And.intro hi2 (And.intro hz2 (And.intro hs2 hy2)))
  clear ht hs ho hg hge hkr hoo hok hi2 hz2 hs2 hy2
  generalize hob : ob H v = o at *
  have HOB := hid hob
  have hlb : ((o.vals.length : Int) == 65536) = true := by simp; omega
  clear hob hl
  go_enter Try.func41, Try.ntmps41
  go_upto_region 3 with (first | (go_at_call 61; refine (rkindH_any G _ H _ hU _ (RdH.below HR.out (Ly.bw (by repeat (first | exact Ly.refl _ | apply Ly.lay | apply Ly.alloc | apply Ly.drewN | apply Ly.drew)))) (by omega)).mono ?_; rintro e w' ⟨rfl, os, m, rfl⟩))
  go_cut [8] (fun p wc => ∃ bp xb xv xk, p = .pointer (some ⟨bp, 0, none⟩) ∧ w.heap.size + 2 ≤ bp ∧ Blk wc w.heap.size #[.int .i64 H.1, .slice ah H.2.length ch] 31 ∧ Blk wc (w.heap.size + 1) #[.int .i64 0, .slice none 0 0] 31 ∧
    Blk wc bp #[.int .i64 o.kind, xb, xv, xk, .int .i64 o.num, .int .u64 o.re, .int .u64 o.im] 55 ∧
    wc.ownsRow (w.heap.size + 2) 5 1 xb o.bytes.length (o.bytes.map (Value.int .u8)) ∧ wc.ownsRow (w.heap.size + 2) 38 1 xv o.vals.length (o.vals.map (Value.int .u64)) ∧ wc.ownsRow (w.heap.size + 2) 9 1 xk o.keys.length (o.keys.map Value.string) ∧ Bw w wc)
  case first =>
    go_wp2_with (first
      | (go_at_call 62; refine (rof_any G _ H _ hU _ HGE.out _ HG.out w _ (Ly.bw (by repeat (first | exact Ly.refl _ | apply Ly.lay | apply Ly.alloc | apply Ly.drewN | apply Ly.drew))) HR.out (by omega)).mono ?_; rintro e w' ⟨vb, vv, vk, rfl, hol, os, m, rfl⟩; have HOL := hid hol; clear hol)
      | (go_at_call 60; refine (rcopy_any G _ _ _ _ _ (OL.below HOL.out (Ly.bw (by repeat (first | exact Ly.refl _ | apply Ly.lay | apply Ly.alloc | apply Ly.drewN | apply Ly.drew)))) HOO.out.2.2.2.2.2.1 HOO.out.2.2.2.2.2.2.1 HOO.out.2.2.2.2.2.2.2).mono ?_; rintro e w1 ⟨xb, xv, xk, rfl, o1, o2, o3, hbw⟩; obtain ⟨ab, cb, rfl⟩ := own_form o1; obtain ⟨av, cv, rfl⟩ := own_form o2; obtain ⟨ak, ck, rfl⟩ := own_form o3))
    have hsz := hbw.size
    simp only [lay_size, World.size_alloc] at hsz
    have p0 := (((Blk.new w #[.int .i64 H.1, .slice ah H.2.length ch] 31).alloc (.cells #[.int .i64 0, .slice none 0 0] 31)).lay _ _).bw hbw
    have p1 := ((Blk.new (w.alloc (.cells #[.int .i64 H.1, .slice ah H.2.length ch] 31)) #[.int .i64 0, .slice none 0 0] 31).lay _ _).bw hbw
    have hww := Bw.trans (Bw.lay (Bw.alloc (Bw.alloc (Bw.refl w) (.cells #[.int .i64 H.1, .slice ah H.2.length ch] 31)) (.cells #[.int .i64 0, .slice none 0 0] 31)) _ _) hbw
    go_meet
    case rel =>
      exact ⟨_, _, _, _, rfl, by omega, p0.alloc _, by simpa using p1.alloc _, Blk.new _ _ _, (own_base o1 (by simp only [lay_size, World.size_alloc]; omega)).alloc _, (own_base o2 (by simp only [lay_size, World.size_alloc]; omega)).alloc _, (own_base o3 (by simp only [lay_size, World.size_alloc]; omega)).alloc _, Bw.alloc hww _⟩
  case rest =>
    obtain ⟨bp, xb, xv, xk, rfl, hbp, hB0, hB1, hBo, o1, o2, o3, hWc⟩ := hcut
    obtain ⟨ab, cb, rfl⟩ := own_form o1
    obtain ⟨av, cv, rfl⟩ := own_form o2
    obtain ⟨ak, ck, rfl⟩ := own_form o3
    have z0 := hB0.cell
    have z1 := hB1.cell
    have z1f := hB1.free
    have z3 := hBo.cell
    have hg2 : bp < wc.heap.size := hBo.lt
    have hg3 : w.heap.size < wc.heap.size := by omega
    have hg4 : w.heap.size + 1 < wc.heap.size := by omega
    have hl6 : o.vals.length ≤ 1000000 := HOO.out.2.2.2.2.2.2.1
    have HW := hid hWc
    have B1 := hid hB1
    clear hWc hB0 hB1 hBo o1 o2 o3
    go_wp2_with (first
      | (go_at_call 63; refine (rgood_any G _ H _ hUx _ (RdH.below HR.out (Bw.trans HW.out (Ly.bw (by repeat (first | exact Ly.refl _ | apply Ly.lay | apply Ly.alloc | apply Ly.drewN | apply Ly.drew))))) (by omega)).mono ?_; rintro e w' ⟨rfl, os, m, rfl⟩))
    all_goals
      have bf := ((B1.out.set 0 (.int .i64 H.1)).set 1 (.slice ah H.2.length ch)).lay os m
      have bfc := bf.cell
      refine bodyPost_ret (v := .tuple #[.agg #[.int .i64 H.1, .slice ah H.2.length ch], .int .i64 2]) (by simp [results, Try.results41, go_sem, bfc]) rfl ?_
      exact ⟨rfl, Bw.lay (Bw.setCell (Bw.setCell HW.out (p := ⟨w.heap.size + 1, 0, none⟩) (show w.heap.size ≤ w.heap.size + 1 by omega) _) (p := ⟨w.heap.size + 1, 1, none⟩) (show w.heap.size ≤ w.heap.size + 1 by omega) _) os m⟩

theorem rpush_any (G : Nat → Prop) (hv : Value) (H : AHeap) (v x : Int) (hU : U v) (hUx : U x) (w : World) (hGn : ∀ b, w.heap.size ≤ b → G b) (h : RdH w G hv H) (hok : HOK H) (hm : H.2.length ≤ 1000000) :
    Calls Try.prog 41 #[hv, .int .u64 v, .int .u64 x] w fun e w' => ∃ v', e = .returned (.tuple #[v', .int .i64 (aPushE H v x)]) ∧ RdH w' G v' (aPushH H v x) ∧ Bw w w' := by
  unfold aPushE aPushH
  by_cases hk : kk H v = 2
  · rw [if_pos hk]
    cases hg : gd H.2.length x
    · rw [if_neg (by simp), if_neg (by simp)]
      exact (rpush_arg G hv H v x hU hUx w h hok hm hk hg).mono fun e w' ⟨he, hb⟩ => ⟨hv, he, h.below hb, hb⟩
    · rw [if_pos rfl]
      by_cases hl : (ob H v).vals.length ≠ 65536
      · rw [if_pos hl, if_pos ⟨hk, rfl, hl⟩]
        exact rpush_in G hv H v x hU hUx w hGn h hok hm hk hg hl
      · rw [if_neg hl, if_neg (fun k => hl k.2.2)]
        exact (rpush_long G hv H v x hU hUx w h hok hm hk hg (by omega)).mono fun e w' ⟨he, hb⟩ => ⟨hv, he, h.below hb, hb⟩
  · rw [if_neg hk, if_neg (fun k => hk k.1)]
    exact (rpush_kind G hv H v x hU w h hm hk).mono fun e w' ⟨he, hb⟩ => ⟨hv, he, h.below hb, hb⟩

set_option maxHeartbeats 1000000 in
theorem rnew_any (G : Nat → Prop) (n : Int) (w : World) :
    Calls Try.prog 12 #[.int .i64 n] w fun e w' => ∃ v', e = .returned (.tuple #[v', .int .i64 (if 1 ≤ n ∧ n ≤ 65536 then 0 else 1)]) ∧ RdH w' G v' (if 1 ≤ n ∧ n ≤ 65536 then (n, []) else (0, [])) ∧ Bw w w' := by
  have hrd : ∀ (k : Int) (w' : World), RdH w' G (.agg #[.int .i64 k, .slice none 0 0]) (k, []) := fun k w' => ⟨_, [], rfl, rfl, Sl.nil w' G 7, fun i o x h => by simp at h⟩
  have HRD := hid hrd
  clear hrd
  by_cases h : 1 ≤ n ∧ n ≤ 65536
  · rw [if_pos h, if_pos h]
    obtain ⟨h1, h2⟩ := h
    go_enter Try.func12, Try.ntmps12
    go_wp2
    refine bodyPost_ret (v := .tuple #[.agg #[.int .i64 n, .slice none 0 0], .int .i64 0]) (by simp [results, Try.results12, go_sem]) rfl ?_
    exact ⟨_, rfl, HRD.out _ _, Ly.bw (by repeat (first | exact Ly.refl _ | apply Ly.lay | apply Ly.alloc | apply Ly.drewN | apply Ly.drew))⟩
  · rw [if_neg h, if_neg h]
    have h01 : n < 1 ∨ (¬ n < 1 ∧ 65536 < n) := by omega
    clear h
    rcases h01 with h0 | ⟨h0, h1⟩
    all_goals
      go_enter Try.func12, Try.ntmps12
      go_wp2
      refine bodyPost_ret (v := .tuple #[.agg #[.int .i64 0, .slice none 0 0], .int .i64 1]) (by simp [results, Try.results12, go_sem]) rfl ?_
      exact ⟨_, rfl, HRD.out _ _, Ly.bw (by repeat (first | exact Ly.refl _ | apply Ly.lay | apply Ly.alloc | apply Ly.drewN | apply Ly.drew))⟩

end Go.Proofs.Ytolfgkpmcfneiaa
