/- The document's arrays, one entry less: the contract. -/
import Derived.Test.YtolfgkpmcfneiaaR3G
import Derived.Test.YtolfgkpmcfneiaaPQ
set_option linter.unusedSimpArgs false
set_option linter.unusedVariables false
namespace Go.Proofs.Ytolfgkpmcfneiaa
open Go Go.RowKit

theorem Sl.take1 {w : World} {G : Nat → Prop} {a : Option Addr} {n cap : Nat} {cs : List Value} (h : Sl w G (.slice a (n + 1) cap) (n + 1) 1 cs) : Sl w G (.slice a n cap) n 1 (cs.take n) := by
  obtain ⟨hl, a', cap', e, hn, hc⟩ := h
  cases e
  refine ⟨by simp; omega, a, cap, rfl, ⟨by omega, hn.2⟩, ?_⟩
  rcases hc with h0 | ⟨b, o, rfl, hlt, hg, hc⟩
  · omega
  · refine .inr ⟨b, o, rfl, hlt, hg, fun i hi => ?_⟩
    rw [hc i (by omega), List.getElem?_take, if_pos (by omega)]

set_option maxHeartbeats 4000000 in
theorem rpop_kind (G : Nat → Prop) (hv : Value) (H : AHeap) (v : Int) (hU : U v) (w : World) (h : RdH w G hv H) (hm : H.2.length ≤ 1000000) (hk : ¬ kk H v = 2) :
    Calls Try.prog 42 #[hv, .int .u64 v] w fun e w' => e = .returned (.tuple #[hv, .int .u64 0, .int .i64 8]) ∧ Bw w w' := by
  have HR := hid h
  obtain ⟨va, t, rfl, ht, hs, ho⟩ := h
  obtain ⟨ah, ch, rfl⟩ := hs.form
  have k2 : (kk H v != 2) = true := by simpa using hk
  clear ht hs ho hk
  go_enter Try.func42, Try.ntmps42
  go_wp2_with (first
    | (go_at_call 61; refine (rkindH_any G _ H _ hU _ (RdH.below HR.out (Ly.bw (by repeat (first | exact Ly.refl _ | apply Ly.lay | apply Ly.alloc | apply Ly.drewN | apply Ly.drew)))) (by omega)).mono ?_; rintro e w' ⟨rfl, os, m, rfl⟩))
  refine bodyPost_ret (v := .tuple #[.agg #[.int .i64 H.1, .slice ah H.2.length ch], .int .u64 0, .int .i64 8]) (by simp [results, Try.results42, go_sem]) rfl ?_
  exact ⟨rfl, Ly.bw (by repeat (first | exact Ly.refl _ | apply Ly.lay | apply Ly.alloc | apply Ly.drewN | apply Ly.drew))⟩

set_option maxRecDepth 100000 in
set_option maxHeartbeats 16000000 in
theorem rpop_none (G : Nat → Prop) (hv : Value) (H : AHeap) (v : Int) (hU : U v) (w : World) (h : RdH w G hv H) (hok : HOK H) (hm : H.2.length ≤ 1000000) (hk : kk H v = 2) (hl0 : (ob H v).vals = []) :
    Calls Try.prog 42 #[hv, .int .u64 v] w fun e w' => e = .returned (.tuple #[hv, .int .u64 0, .int .i64 4]) ∧ Bw w w' := by
  have HR := hid h
  obtain ⟨va, t, rfl, ht, hs, ho⟩ := h
  obtain ⟨ah, ch, rfl⟩ := hs.form
  have hkr := kk_ref (H := H) (v := v) (by omega)
  obtain ⟨hg, hge⟩ := ob_get (H := H) hU hkr.2.1
  have hoo := ob_ok hok hU hkr.2.1
  have HG := hid hg
  have HGE := hid hge
  have HOO := hid hoo
  have hkx : (idxV v).toNat < H.2.length := by omega
  have HKX := hid hkx
  clear ht hs ho hg hge hkr hoo hok
  generalize hob : ob H v = o at *
  have HOB := hid hob
  have HLN := hid (show o.vals.length = 0 by rw [hl0]; rfl)
  clear hob hl0
  go_enter Try.func42, Try.ntmps42
  go_upto_region 3 with (first | (go_at_call 61; refine (rkindH_any G _ H _ hU _ (RdH.below HR.out (Ly.bw (by repeat (first | exact Ly.refl _ | apply Ly.lay | apply Ly.alloc | apply Ly.drewN | apply Ly.drew)))) (by omega)).mono ?_; rintro e w' ⟨rfl, os, m, rfl⟩))
  go_cut [7] (fun p wc => ∃ bp xb xv xk, p = .pointer (some ⟨bp, 0, none⟩) ∧ w.heap.size + 2 ≤ bp ∧ Blk wc w.heap.size #[.int .i64 H.1, .slice ah H.2.length ch] 31 ∧ Blk wc (w.heap.size + 1) #[.int .i64 0, .slice none 0 0] 31 ∧
    Blk wc bp #[.int .i64 o.kind, xb, xv, xk, .int .i64 o.num, .int .u64 o.re, .int .u64 o.im] 55 ∧
    wc.ownsRow (w.heap.size + 2) 5 1 xb o.bytes.length (o.bytes.map (Value.int .u8)) ∧ wc.ownsRow (w.heap.size + 2) 38 1 xv o.vals.length (o.vals.map (Value.int .u64)) ∧ wc.ownsRow (w.heap.size + 2) 9 1 xk o.keys.length (o.keys.map Value.string) ∧ Bw w wc)
  case first =>
    go_wp2_with (first
      | (go_at_call 62; refine (rof_any G _ H _ hU _ HGE.out _ HG.out w _ (Ly.bw (by repeat (first | exact Ly.refl _ | apply Ly.lay | apply Ly.alloc | apply Ly.drewN | apply Ly.drew))) HR.out (by omega)).mono ?_; rintro e w' ⟨vb, vv, vk, rfl, hol, os, m, rfl⟩; have HOL := hid hol; clear hol)
      | (go_at_call 60; refine (rcopy_any G _ _ _ _ _ (OL.below HOL.out (Ly.bw (by repeat (first | exact Ly.refl _ | apply Ly.lay | apply Ly.alloc | apply Ly.drewN | apply Ly.drew)))) HOO.out.2.2.2.2.2.1 HOO.out.2.2.2.2.2.2.1 HOO.out.2.2.2.2.2.2.2).mono ?_; rintro e w1 ⟨xb, xv, xk, rfl, o1, o2, o3, hbw⟩; obtain ⟨ab, cb, rfl⟩ := own_form o1; obtain ⟨av, cv, rfl⟩ := own_form o2; obtain ⟨ak, ck, rfl⟩ := own_form o3))
    have hsz := hbw.size
    simp only [lay_size, World.size_alloc] at hsz
    have p0 := (((Blk.new w #[.int .i64 H.1, .slice ah H.2.length ch] 31).alloc (.cells #[.int .i64 0, .slice none 0 0] 31)).lay _ _).bw hbw
    have p1 := ((Blk.new (w.alloc (.cells #[.int .i64 H.1, .slice ah H.2.length ch] 31)) #[.int .i64 0, .slice none 0 0] 31).lay _ _).bw hbw
    have hww := Bw.trans (Bw.lay (Bw.alloc (Bw.alloc (Bw.refl w) (.cells #[.int .i64 H.1, .slice ah H.2.length ch] 31)) (.cells #[.int .i64 0, .slice none 0 0] 31)) _ _) hbw
    go_meet
    case rel =>
      exact ⟨_, _, _, _, rfl, by omega, p0.alloc _, by simpa using p1.alloc _, Blk.new _ _ _, (own_base (base' := w.heap.size + 2) o1 (by simp only [lay_size, World.size_alloc]; omega)).alloc _, (own_base (base' := w.heap.size + 2) o2 (by simp only [lay_size, World.size_alloc]; omega)).alloc _, (own_base (base' := w.heap.size + 2) o3 (by simp only [lay_size, World.size_alloc]; omega)).alloc _, Bw.alloc hww _⟩
  case rest =>
    obtain ⟨bp, xb, xv, xk, rfl, hbp, hB0, hB1, hBo, o1, o2, o3, hWc⟩ := hcut
    obtain ⟨ab, cb, rfl⟩ := own_form o1
    obtain ⟨av, cv, rfl⟩ := own_form o2
    obtain ⟨ak, ck, rfl⟩ := own_form o3
    have z0 := hB0.cell
    have z1 := hB1.cell
    have z1f := hB1.free
    have z3 := hBo.cell
    rw [HLN.out] at z3
    have hg2 : bp < wc.heap.size := hBo.lt
    have hg3 : w.heap.size < wc.heap.size := by omega
    have hg4 : w.heap.size + 1 < wc.heap.size := by omega
    have HW := hid hWc
    have B1 := hid hB1
    clear hWc hB0 hB1 hBo o1 o2 o3
    go_wp2
    all_goals
      have bf := (B1.out.set 0 (.int .i64 H.1)).set 1 (.slice ah H.2.length ch)
      have bfc := bf.cell
      refine bodyPost_ret (v := .tuple #[.agg #[.int .i64 H.1, .slice ah H.2.length ch], .int .u64 0, .int .i64 4]) (by simp [results, Try.results42, go_sem, bfc]) rfl ?_
      exact ⟨rfl, Bw.setCell (Bw.setCell HW.out (p := ⟨w.heap.size + 1, 0, none⟩) (show w.heap.size ≤ w.heap.size + 1 by omega) _) (p := ⟨w.heap.size + 1, 1, none⟩) (show w.heap.size ≤ w.heap.size + 1 by omega) _⟩

set_option maxRecDepth 100000 in
set_option maxHeartbeats 16000000 in
theorem rpop_in (G : Nat → Prop) (hv : Value) (H : AHeap) (v : Int) (hU : U v) (w : World) (hGn : ∀ b, w.heap.size ≤ b → G b) (h : RdH w G hv H) (hok : HOK H) (hm : H.2.length ≤ 1000000) (hk : kk H v = 2) (n : Nat) (hn : (ob H v).vals.length = n + 1) :
    Calls Try.prog 42 #[hv, .int .u64 v] w fun e w' => ∃ v', e = .returned (.tuple #[v', .int .u64 ((ob H v).vals.getD n 0), .int .i64 0]) ∧ RdH w' G v' (H.1, H.2.set (idxV v).toNat (withVals (ob H v) ((ob H v).vals.take n))) ∧ Bw w w' := by
  have HR := hid h
  obtain ⟨va, t, rfl, ht, hs, ho⟩ := h
  obtain ⟨ah, ch, rfl⟩ := hs.form
  have hkr := kk_ref (H := H) (v := v) (by omega)
  obtain ⟨hg, hge⟩ := ob_get (H := H) hU hkr.2.1
  have hoo := ob_ok hok hU hkr.2.1
  have HG := hid hg
  have HGE := hid hge
  have HOO := hid hoo
  have hkx : (idxV v).toNat < H.2.length := by omega
  have HKX := hid hkx
  clear ht hs ho hg hge hkr hoo hok
  have HGN := hid hGn
  clear hGn
  generalize hob : ob H v = o at *
  have HOB := hid hob
  have HN := hid hn
  clear hob hn
  go_enter Try.func42, Try.ntmps42
  go_upto_region 3 with (first | (go_at_call 61; refine (rkindH_any G _ H _ hU _ (RdH.below HR.out (Ly.bw (by repeat (first | exact Ly.refl _ | apply Ly.lay | apply Ly.alloc | apply Ly.drewN | apply Ly.drew)))) (by omega)).mono ?_; rintro e w' ⟨rfl, os, m, rfl⟩))
  go_cut [7] (fun p wc => ∃ bp xb xv xk, p = .pointer (some ⟨bp, 0, none⟩) ∧ w.heap.size + 2 ≤ bp ∧ Blk wc w.heap.size #[.int .i64 H.1, .slice ah H.2.length ch] 31 ∧ Blk wc (w.heap.size + 1) #[.int .i64 0, .slice none 0 0] 31 ∧
    Blk wc bp #[.int .i64 o.kind, xb, xv, xk, .int .i64 o.num, .int .u64 o.re, .int .u64 o.im] 55 ∧
    wc.ownsRow (w.heap.size + 2) 5 1 xb o.bytes.length (o.bytes.map (Value.int .u8)) ∧ wc.ownsRow (w.heap.size + 2) 38 1 xv o.vals.length (o.vals.map (Value.int .u64)) ∧ wc.ownsRow (w.heap.size + 2) 9 1 xk o.keys.length (o.keys.map Value.string) ∧ Bw w wc)
  case first =>
    go_wp2_with (first
      | (go_at_call 62; refine (rof_any G _ H _ hU _ HGE.out _ HG.out w _ (Ly.bw (by repeat (first | exact Ly.refl _ | apply Ly.lay | apply Ly.alloc | apply Ly.drewN | apply Ly.drew))) HR.out (by omega)).mono ?_; rintro e w' ⟨vb, vv, vk, rfl, hol, os, m, rfl⟩; have HOL := hid hol; clear hol)
      | (go_at_call 60; refine (rcopy_any G _ _ _ _ _ (OL.below HOL.out (Ly.bw (by repeat (first | exact Ly.refl _ | apply Ly.lay | apply Ly.alloc | apply Ly.drewN | apply Ly.drew)))) HOO.out.2.2.2.2.2.1 HOO.out.2.2.2.2.2.2.1 HOO.out.2.2.2.2.2.2.2).mono ?_; rintro e w1 ⟨xb, xv, xk, rfl, o1, o2, o3, hbw⟩; obtain ⟨ab, cb, rfl⟩ := own_form o1; obtain ⟨av, cv, rfl⟩ := own_form o2; obtain ⟨ak, ck, rfl⟩ := own_form o3))
    have hsz := hbw.size
    simp only [lay_size, World.size_alloc] at hsz
    have p0 := (((Blk.new w #[.int .i64 H.1, .slice ah H.2.length ch] 31).alloc (.cells #[.int .i64 0, .slice none 0 0] 31)).lay _ _).bw hbw
    have p1 := ((Blk.new (w.alloc (.cells #[.int .i64 H.1, .slice ah H.2.length ch] 31)) #[.int .i64 0, .slice none 0 0] 31).lay _ _).bw hbw
    have hww := Bw.trans (Bw.lay (Bw.alloc (Bw.alloc (Bw.refl w) (.cells #[.int .i64 H.1, .slice ah H.2.length ch] 31)) (.cells #[.int .i64 0, .slice none 0 0] 31)) _ _) hbw
    go_meet
    case rel =>
      exact ⟨_, _, _, _, rfl, by omega, p0.alloc _, by simpa using p1.alloc _, Blk.new _ _ _, (own_base (base' := w.heap.size + 2) o1 (by simp only [lay_size, World.size_alloc]; omega)).alloc _, (own_base (base' := w.heap.size + 2) o2 (by simp only [lay_size, World.size_alloc]; omega)).alloc _, (own_base (base' := w.heap.size + 2) o3 (by simp only [lay_size, World.size_alloc]; omega)).alloc _, Bw.alloc hww _⟩
  case rest =>
    obtain ⟨bp, xb, xv, xk, rfl, hbp, hB0, hB1, hBo, o1, o2, o3, hWc⟩ := hcut
    obtain ⟨ab, cb, rfl⟩ := own_form o1
    obtain ⟨av, cv, rfl⟩ := own_form o2
    obtain ⟨ak, ck, rfl⟩ := own_form o3
    have hn := HN.out
    have hjl : n < o.vals.length := by omega
    obtain ⟨g, rfl, hgs, c1⟩ := own_at o2 hjl
    have c2 : wc.cell? ⟨g, n, none⟩ = some (.int .u64 o.vals[n]) := by rw [c1]; simp [hjl]
    have hgD : o.vals.getD n 0 = o.vals[n] := by simp [List.getD, hjl]
    have HGD := hid hgD
    have hcap : o.vals.length ≤ cv := (own_sl (G := fun _ => True) o2 (fun _ _ => trivial)).cap
    have hb3 : (n : Int) ≤ (cv : Int) := by omega
    have hb4 : ¬ (n : Int) < 0 := by omega
    have hb5 : (n : Int) < (n : Int) + 1 := by omega
    have hl6 : o.vals.length ≤ 1000000 := HOO.out.2.2.2.2.2.2.1
    have z0 := hB0.cell
    have z3 := hBo.cell
    have z3f := hBo.free
    have hg2 : bp < wc.heap.size := hBo.lt
    have hg3 : w.heap.size < wc.heap.size := by omega
    have HW := hid hWc
    have B1 := hid hB1
    have BO := hid hBo
    have O1 := hid o1
    have O2 := hid o2
    have O3 := hid o3
    have hbpn : bp ≠ w.heap.size := by omega
    have hbpn' : w.heap.size ≠ bp := by omega
    clear hWc hB0 hB1 hBo o1 o2 o3 c1 hgD
    generalize o.vals[n] = old at c2 HGD
    rw [hn] at z3
    have hn6 : n ≤ 1000000 := by omega
    clear hn hjl hcap hl6
    go_wp2_with fail
    have hbw2 : Bw w (wc.setCell ⟨bp, 2, none⟩ (.slice (some ⟨g, 0, none⟩) n cv)) := Bw.setCell HW.out (p := ⟨bp, 2, none⟩) (show w.heap.size ≤ bp by omega) _
    have ow1 := O1.out.kept (grown_set wc bp 2 (.slice (some ⟨g, 0, none⟩) n cv)) (own_not O1.out BO.out (by decide))
    have ow2 := O2.out.kept (grown_set wc bp 2 (.slice (some ⟨g, 0, none⟩) n cv)) (own_not O2.out BO.out (by decide))
    have ow3 := O3.out.kept (grown_set wc bp 2 (.slice (some ⟨g, 0, none⟩) n cv)) (own_not O3.out BO.out (by decide))
    have b1s := B1.out.other (p := ⟨bp, 2, none⟩) (show bp ≠ w.heap.size + 1 by omega) (.slice (some ⟨g, 0, none⟩) n cv)
    have hb1lt := b1s.lt
    have hGs : ∀ b, (wc.setCell ⟨bp, 2, none⟩ (.slice (some ⟨g, 0, none⟩) n cv)).heap.size ≤ b → (G b ∧ b ≠ w.heap.size + 1) := fun b hb => ⟨HGN.out b (Nat.le_trans hbw2.size hb), by omega⟩
    have hG2 : ∀ b, w.heap.size + 2 ≤ b → (G b ∧ b ≠ w.heap.size + 1) := fun b hb => ⟨HGN.out b (by omega), by omega⟩
    have hRd2 : RdH (wc.setCell ⟨bp, 2, none⟩ (.slice (some ⟨g, 0, none⟩) n cv)) (fun b => G b ∧ b ≠ w.heap.size + 1) _ H := RdH.keep HR.out hbw2.size (fun b hb _ => hbw2.block b hb) (fun b hb hgb => ⟨hgb, by omega⟩)
    have hsl2 : Sl (wc.setCell ⟨bp, 2, none⟩ (.slice (some ⟨g, 0, none⟩) n cv)) (fun b => G b ∧ b ≠ w.heap.size + 1) (.slice (some ⟨g, 0, none⟩) n cv) (withVals o (o.vals.take n)).vals.length 1 ((withVals o (o.vals.take n)).vals.map (Value.int .u64)) := by
      have h1 := own_sl (G := fun b => G b ∧ b ≠ w.heap.size + 1) ow2 hG2
      rw [HN.out] at h1
      have h2 := h1.take1
      have e1 : (withVals o (o.vals.take n)).vals = o.vals.take n := rfl
      have e2 : (o.vals.take n).length = n := by rw [List.length_take, HN.out]; omega
      rw [e1, e2, List.map_take]
      exact h2
    have hput := rput_any (fun b => G b ∧ b ≠ w.heap.size + 1) _ H v hU (idxV v).toNat HGE.out HKX.out (withVals o (o.vals.take n)) (.slice ab o.bytes.length cb) (.slice (some ⟨g, 0, none⟩) n cv) (.slice ak o.keys.length ck) _ hGs hRd2
      ⟨own_sl ow1 hG2, hsl2, own_sl ow3 hG2⟩ hm
    refine hput.mono ?_
    rintro e w3 ⟨v', rfl, hrd, hbw3⟩
    have hrd' := hrd
    obtain ⟨va', t', rfl, _, hsl', _⟩ := hrd'
    obtain ⟨a3, c3, e3⟩ := hsl'.form
    rw [show ((H.1, H.2.set (idxV v).toNat (withVals o (o.vals.take n))) : AHeap).2.length = H.2.length from List.length_set ..] at e3
    subst e3
    have b1w := b1s.bw hbw3
    have y1 := b1w.cell
    have y1f := b1w.free
    have HB1W := hid b1w
    have HRD := hid hrd
    have HBW3 := hid (Bw.trans hbw2 hbw3)
    clear hput hrd hbw3 hbw2 ow1 ow2 ow3 hGs b1s hsl' b1w z0 z3 z3f c2 hb1lt hG2 hRd2 hsl2
    go_wp2
    have bf := (HB1W.out.set 0 (.int .i64 H.1)).set 1 (.slice a3 H.2.length c3)
    have bfc := bf.cell
    refine bodyPost_ret (v := .tuple #[.agg #[.int .i64 H.1, .slice a3 H.2.length c3], .int .u64 old, .int .i64 0]) (by simp [results, Try.results42, go_sem, bfc]) rfl ?_
    rw [HGD.out]
    refine ⟨_, rfl, RdH.keep HRD.out (by simp [World.setCell]) ?_ (fun b _ h => h.1), Bw.setCell (Bw.setCell HBW3.out (p := ⟨w.heap.size + 1, 0, none⟩) (show w.heap.size ≤ w.heap.size + 1 by omega) _) (p := ⟨w.heap.size + 1, 1, none⟩) (show w.heap.size ≤ w.heap.size + 1 by omega) _⟩
    intro b hb hgb
    rw [Below.heap_setCell _ _ _ _ (show b ≠ w.heap.size + 1 from hgb.2), Below.heap_setCell _ _ _ _ (show b ≠ w.heap.size + 1 from hgb.2)]

theorem rpop_any (G : Nat → Prop) (hv : Value) (H : AHeap) (v : Int) (hU : U v) (w : World) (hGn : ∀ b, w.heap.size ≤ b → G b) (h : RdH w G hv H) (hok : HOK H) (hm : H.2.length ≤ 1000000) :
    Calls Try.prog 42 #[hv, .int .u64 v] w fun e w' => ∃ v', e = .returned (.tuple #[v', .int .u64 (aPopV H v), .int .i64 (aPopE H v)]) ∧ RdH w' G v' (aPopH H v) ∧ Bw w w' := by
  unfold aPopV aPopE aPopH
  by_cases hk : kk H v = 2
  · rw [if_pos hk, if_pos hk]
    by_cases hl : (ob H v).vals = []
    · rw [if_pos hl, if_neg (fun k => k.2 hl), hl]
      exact (rpop_none G hv H v hU w h hok hm hk hl).mono fun e w' ⟨he, hb⟩ => ⟨hv, he, h.below hb, hb⟩
    · rw [if_neg hl, if_pos ⟨hk, hl⟩]
      obtain ⟨n, hn⟩ : ∃ n, (ob H v).vals.length = n + 1 := ⟨(ob H v).vals.length - 1, by have := List.length_pos_iff.2 hl; omega⟩
      rw [hn, Nat.add_sub_cancel]
      exact rpop_in G hv H v hU w hGn h hok hm hk n hn
  · rw [if_neg hk, if_neg hk, if_neg (fun k => hk k.1)]
    exact (rpop_kind G hv H v hU w h hm hk).mono fun e w' ⟨he, hb⟩ => ⟨hv, he, h.below hb, hb⟩

end Go.Proofs.Ytolfgkpmcfneiaa
