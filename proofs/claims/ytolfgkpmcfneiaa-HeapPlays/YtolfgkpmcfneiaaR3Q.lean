/- The document's records, a field put: the contract. -/
import Derived.Test.YtolfgkpmcfneiaaR3P
import Derived.Test.YtolfgkpmcfneiaaPR
set_option linter.unusedSimpArgs false
set_option linter.unusedVariables false
namespace Go.Proofs.Ytolfgkpmcfneiaa
open Go Go.RowKit

set_option maxHeartbeats 4000000 in
theorem rputf_kind (G : Nat → Prop) (hv : Value) (H : AHeap) (v : Int) (s : ByteArray) (x : Int) (hU : U v) (hUx : U x) (w : World) (h : RdH w G hv H) (hm : H.2.length ≤ 1000000) (hk : ¬ kk H v = 3) :
    Calls Try.prog 43 #[hv, .int .u64 v, .string s, .int .u64 x] w fun e w' => e = .returned (.tuple #[hv, .int .i64 8]) ∧ Bw w w' := by
  have HR := hid h
  obtain ⟨va, t, rfl, ht, hs, ho⟩ := h
  obtain ⟨ah, ch, rfl⟩ := hs.form
  have k2 : (kk H v != 3) = true := by simpa using hk
  clear ht hs ho hk
  go_enter Try.func43, Try.ntmps43
  go_wp2_with (first
    | (go_at_call 61; refine (rkindH_any G _ H _ hU _ (RdH.below HR.out (Ly.bw (by repeat (first | exact Ly.refl _ | apply Ly.lay | apply Ly.alloc | apply Ly.drewN | apply Ly.drew)))) (by omega)).mono ?_; rintro e w' ⟨rfl, os, m, rfl⟩))
  refine bodyPost_ret (v := .tuple #[.agg #[.int .i64 H.1, .slice ah H.2.length ch], .int .i64 8]) (by simp [results, Try.results43, go_sem]) rfl ?_
  exact ⟨rfl, Ly.bw (by repeat (first | exact Ly.refl _ | apply Ly.lay | apply Ly.alloc | apply Ly.drewN | apply Ly.drew))⟩

set_option maxRecDepth 100000 in
set_option maxHeartbeats 16000000 in
theorem rputf_arg (G : Nat → Prop) (hv : Value) (H : AHeap) (v : Int) (s : ByteArray) (x : Int) (hU : U v) (hUx : U x) (w : World) (h : RdH w G hv H) (hok : HOK H) (hm : H.2.length ≤ 1000000) (hk : kk H v = 3) (hgx : gd H.2.length x = false) :
    Calls Try.prog 43 #[hv, .int .u64 v, .string s, .int .u64 x] w fun e w' => e = .returned (.tuple #[hv, .int .i64 1]) ∧ Bw w w' := by
  have HR := hid h
  obtain ⟨va, t, rfl, ht, hs, ho⟩ := h
  obtain ⟨ah, ch, rfl⟩ := hs.form
  have hkr := kk_ref (H := H) (v := v) (by omega)
  obtain ⟨hg, hge⟩ := ob_get (H := H) hU hkr.2.1
  have hoo := ob_ok hok hU hkr.2.1
  have HG := hid hg
  have HGE := hid hge
  have HOO := hid hoo
  have hkx : (idxV v).toNat < H.2.length := by omega
  have HKX := hid hkx
  have HKK := hid hkr.2.2
  clear ht hs ho hg hge hkr hoo hok
  generalize hob : ob H v = o at *
  have HOB := hid hob
  clear hob
  go_enter Try.func43, Try.ntmps43
  go_upto_region 3 with (first | (go_at_call 61; refine (rkindH_any G _ H _ hU _ (RdH.below HR.out (Ly.bw (by repeat (first | exact Ly.refl _ | apply Ly.lay | apply Ly.alloc | apply Ly.drewN | apply Ly.drew)))) (by omega)).mono ?_; rintro e w' ⟨rfl, os, m, rfl⟩))
  go_cut [10] (fun p wc => ∃ bp xb xv xk, p = .pointer (some ⟨bp, 0, none⟩) ∧ w.heap.size + 2 ≤ bp ∧ Blk wc w.heap.size #[.int .i64 H.1, .slice ah H.2.length ch] 31 ∧ Blk wc (w.heap.size + 1) #[.int .i64 0, .slice none 0 0] 31 ∧
    Blk wc bp #[.int .i64 o.kind, xb, xv, xk, .int .i64 o.num, .int .u64 o.re, .int .u64 o.im] 55 ∧
    wc.ownsRow (w.heap.size + 2) 5 1 xb o.bytes.length (o.bytes.map (Value.int .u8)) ∧ wc.ownsRow (w.heap.size + 2) 38 1 xv o.vals.length (o.vals.map (Value.int .u64)) ∧ wc.ownsRow (w.heap.size + 2) 9 1 xk o.keys.length (o.keys.map Value.string) ∧ Bw w wc)
  case first =>
    go_wp2_with (first
      | (go_at_call 62; refine (rof_any G _ H _ hU _ HGE.out _ HG.out w _ (Ly.bw (by repeat (first | exact Ly.refl _ | apply Ly.lay | apply Ly.alloc | apply Ly.drewN | apply Ly.drew))) HR.out (by omega)).mono ?_; rintro e w' ⟨vb, vv, vk, rfl, hol, os, m, rfl⟩; have HOL := hid hol; clear hol)
      | (go_at_call 60; refine (rcopy_any G _ _ _ _ _ (OL.below HOL.out (Ly.bw (by repeat (first | exact Ly.refl _ | apply Ly.lay | apply Ly.alloc | apply Ly.drewN | apply Ly.drew)))) HOO.out.2.2.2.2.2.1 HOO.out.2.2.2.2.2.2.1 HOO.out.2.2.2.2.2.2.2).mono ?_; rintro e w1 ⟨xb, xv, xk, rfl, o1, o2, o3, hbw⟩; obtain ⟨ab, cb, rfl⟩ := own_form o1; obtain ⟨av, cv, rfl⟩ := own_form o2; obtain ⟨ak, ck, rfl⟩ := own_form o3))
    have hsz := hbw.size
    simp only [lay_size, World.size_alloc] at hsz
    have p0 := (((Blk.new w #[.int .i64 H.1, .slice ah H.2.length ch] 31).alloc (.cells #[.int .i64 0, .slice none 0 0] 31)).lay _ _).bw hbw
    have p1 := ((Blk.new (w.alloc (.cells #[.int .i64 H.1, .slice ah H.2.length ch] 31)) #[.int .i64 0, .slice none 0 0] 31).lay _ _).bw hbw
    have hww := Bw.trans (Bw.lay (Bw.alloc (Bw.alloc (Bw.refl w) (.cells #[.int .i64 H.1, .slice ah H.2.length ch] 31)) (.cells #[.int .i64 0, .slice none 0 0] 31)) _ _) hbw
    go_meet
    case rel =>
      exact ⟨_, _, _, _, rfl, by omega, p0.alloc _, by simpa using p1.alloc _, Blk.new _ _ _, (own_base (base' := w.heap.size + 2) o1 (by simp only [lay_size, World.size_alloc]; omega)).alloc _, (own_base (base' := w.heap.size + 2) o2 (by simp only [lay_size, World.size_alloc]; omega)).alloc _, (own_base (base' := w.heap.size + 2) o3 (by simp only [lay_size, World.size_alloc]; omega)).alloc _, Bw.alloc hww _⟩
  case rest =>
    obtain ⟨bp, xb, xv, xk, rfl, hbp, hB0, hB1, hBo, o1, o2, o3, hWc⟩ := hcut
    obtain ⟨ab, cb, rfl⟩ := own_form o1
    obtain ⟨av, cv, rfl⟩ := own_form o2
    obtain ⟨ak, ck, rfl⟩ := own_form o3
    have z0 := hB0.cell
    have z3 := hBo.cell
    have hl6 : o.vals.length ≤ 1000000 := HOO.out.2.2.2.2.2.2.1
    have hl7 : o.keys.length ≤ 1000000 := HOO.out.2.2.2.2.2.2.2
    have B0c := hid hB0
    have B1c := hid hB1
    have BOc := hid hBo
    have O1c := hid o1
    have O2c := hid o2
    have O3c := hid o3
    have HWc := hid hWc
    have hbpn : bp ≠ w.heap.size := by omega
    have hbpn' : w.heap.size ≠ bp := by omega
    have hbp1 : bp ≠ w.heap.size + 1 := by omega
    have hbp1' : w.heap.size + 1 ≠ bp := by omega
    clear hWc hB0 hB1 hBo o1 o2 o3
    go_wp2_with (first
      | (go_at_call 63; refine (rgood_any G _ H _ hUx _ (RdH.below HR.out HWc.out) (by omega)).mono ?_; rintro e wg ⟨rfl, hly⟩; have hbg := hly.bw; have B0g := hid (B0c.out.bw hbg); have B1g := hid (B1c.out.bw hbg); have BOg := hid (BOc.out.bw hbg); have O1g := hid (own_bw O1c.out hbg); have O2g := hid (own_bw O2c.out hbg); have O3g := hid (own_bw O3c.out hbg); have HWg := hid (Bw.trans HWc.out hbg); have z0g := B0g.out.cell; have z3g := BOg.out.cell; have z3fg := BOg.out.free; have z1g := B1g.out.cell; have z1fg := B1g.out.free; clear hly hbg))
    all_goals
      have bf := (B1g.out.set 0 (.int .i64 H.1)).set 1 (.slice ah H.2.length ch)
      have bfc := bf.cell
      refine bodyPost_ret (v := .tuple #[.agg #[.int .i64 H.1, .slice ah H.2.length ch], .int .i64 1]) (by simp [results, Try.results43, go_sem, bfc]) rfl ?_
      exact ⟨rfl, Bw.setCell (Bw.setCell HWg.out (p := ⟨w.heap.size + 1, 0, none⟩) (show w.heap.size ≤ w.heap.size + 1 by omega) _) (p := ⟨w.heap.size + 1, 1, none⟩) (show w.heap.size ≤ w.heap.size + 1 by omega) _⟩

set_option maxRecDepth 100000 in
set_option maxHeartbeats 16000000 in
theorem rputf_long (G : Nat → Prop) (hv : Value) (H : AHeap) (v : Int) (s : ByteArray) (x : Int) (hU : U v) (hUx : U x) (w : World) (h : RdH w G hv H) (hok : HOK H) (hm : H.2.length ≤ 1000000) (hk : kk H v = 3) (hgx : gd H.2.length x = true) (h0 : aKey (ob H v).keys s < 0) (hl : (ob H v).keys.length = 256) :
    Calls Try.prog 43 #[hv, .int .u64 v, .string s, .int .u64 x] w fun e w' => e = .returned (.tuple #[hv, .int .i64 2]) ∧ Bw w w' := by
  have HR := hid h
  obtain ⟨va, t, rfl, ht, hs, ho⟩ := h
  obtain ⟨ah, ch, rfl⟩ := hs.form
  have hkr := kk_ref (H := H) (v := v) (by omega)
  obtain ⟨hg, hge⟩ := ob_get (H := H) hU hkr.2.1
  have hoo := ob_ok hok hU hkr.2.1
  have HG := hid hg
  have HGE := hid hge
  have HOO := hid hoo
  have hkx : (idxV v).toNat < H.2.length := by omega
  have HKX := hid hkx
  have HKK := hid hkr.2.2
  clear ht hs ho hg hge hkr hoo hok
  have hlb : (((ob H v).keys.length : Int) == 256) = true := by simp; omega
  clear hl
  generalize hob : ob H v = o at *
  have HOB := hid hob
  clear hob
  go_enter Try.func43, Try.ntmps43
  go_upto_region 3 with (first | (go_at_call 61; refine (rkindH_any G _ H _ hU _ (RdH.below HR.out (Ly.bw (by repeat (first | exact Ly.refl _ | apply Ly.lay | apply Ly.alloc | apply Ly.drewN | apply Ly.drew)))) (by omega)).mono ?_; rintro e w' ⟨rfl, os, m, rfl⟩))
  go_cut [10] (fun p wc => ∃ bp xb xv xk, p = .pointer (some ⟨bp, 0, none⟩) ∧ w.heap.size + 2 ≤ bp ∧ Blk wc w.heap.size #[.int .i64 H.1, .slice ah H.2.length ch] 31 ∧ Blk wc (w.heap.size + 1) #[.int .i64 0, .slice none 0 0] 31 ∧
    Blk wc bp #[.int .i64 o.kind, xb, xv, xk, .int .i64 o.num, .int .u64 o.re, .int .u64 o.im] 55 ∧
    wc.ownsRow (w.heap.size + 2) 5 1 xb o.bytes.length (o.bytes.map (Value.int .u8)) ∧ wc.ownsRow (w.heap.size + 2) 38 1 xv o.vals.length (o.vals.map (Value.int .u64)) ∧ wc.ownsRow (w.heap.size + 2) 9 1 xk o.keys.length (o.keys.map Value.string) ∧ Bw w wc)
  case first =>
    go_wp2_with (first
      | (go_at_call 62; refine (rof_any G _ H _ hU _ HGE.out _ HG.out w _ (Ly.bw (by repeat (first | exact Ly.refl _ | apply Ly.lay | apply Ly.alloc | apply Ly.drewN | apply Ly.drew))) HR.out (by omega)).mono ?_; rintro e w' ⟨vb, vv, vk, rfl, hol, os, m, rfl⟩; have HOL := hid hol; clear hol)
      | (go_at_call 60; refine (rcopy_any G _ _ _ _ _ (OL.below HOL.out (Ly.bw (by repeat (first | exact Ly.refl _ | apply Ly.lay | apply Ly.alloc | apply Ly.drewN | apply Ly.drew)))) HOO.out.2.2.2.2.2.1 HOO.out.2.2.2.2.2.2.1 HOO.out.2.2.2.2.2.2.2).mono ?_; rintro e w1 ⟨xb, xv, xk, rfl, o1, o2, o3, hbw⟩; obtain ⟨ab, cb, rfl⟩ := own_form o1; obtain ⟨av, cv, rfl⟩ := own_form o2; obtain ⟨ak, ck, rfl⟩ := own_form o3))
    have hsz := hbw.size
    simp only [lay_size, World.size_alloc] at hsz
    have p0 := (((Blk.new w #[.int .i64 H.1, .slice ah H.2.length ch] 31).alloc (.cells #[.int .i64 0, .slice none 0 0] 31)).lay _ _).bw hbw
    have p1 := ((Blk.new (w.alloc (.cells #[.int .i64 H.1, .slice ah H.2.length ch] 31)) #[.int .i64 0, .slice none 0 0] 31).lay _ _).bw hbw
    have hww := Bw.trans (Bw.lay (Bw.alloc (Bw.alloc (Bw.refl w) (.cells #[.int .i64 H.1, .slice ah H.2.length ch] 31)) (.cells #[.int .i64 0, .slice none 0 0] 31)) _ _) hbw
    go_meet
    case rel =>
      exact ⟨_, _, _, _, rfl, by omega, p0.alloc _, by simpa using p1.alloc _, Blk.new _ _ _, (own_base (base' := w.heap.size + 2) o1 (by simp only [lay_size, World.size_alloc]; omega)).alloc _, (own_base (base' := w.heap.size + 2) o2 (by simp only [lay_size, World.size_alloc]; omega)).alloc _, (own_base (base' := w.heap.size + 2) o3 (by simp only [lay_size, World.size_alloc]; omega)).alloc _, Bw.alloc hww _⟩
  case rest =>
    obtain ⟨bp, xb, xv, xk, rfl, hbp, hB0, hB1, hBo, o1, o2, o3, hWc⟩ := hcut
    obtain ⟨ab, cb, rfl⟩ := own_form o1
    obtain ⟨av, cv, rfl⟩ := own_form o2
    obtain ⟨ak, ck, rfl⟩ := own_form o3
    have z0 := hB0.cell
    have z3 := hBo.cell
    have hl6 : o.vals.length ≤ 1000000 := HOO.out.2.2.2.2.2.2.1
    have hl7 : o.keys.length ≤ 1000000 := HOO.out.2.2.2.2.2.2.2
    have B0c := hid hB0
    have B1c := hid hB1
    have BOc := hid hBo
    have O1c := hid o1
    have O2c := hid o2
    have O3c := hid o3
    have HWc := hid hWc
    have hbpn : bp ≠ w.heap.size := by omega
    have hbpn' : w.heap.size ≠ bp := by omega
    have hbp1 : bp ≠ w.heap.size + 1 := by omega
    have hbp1' : w.heap.size + 1 ≠ bp := by omega
    clear hWc hB0 hB1 hBo o1 o2 o3
    go_wp2_with (first
      | (go_at_call 63; refine (rgood_any G _ H _ hUx _ (RdH.below HR.out HWc.out) (by omega)).mono ?_; rintro e wg ⟨rfl, hly⟩; have hbg := hly.bw; have B0g := hid (B0c.out.bw hbg); have B1g := hid (B1c.out.bw hbg); have BOg := hid (BOc.out.bw hbg); have O1g := hid (own_bw O1c.out hbg); have O2g := hid (own_bw O2c.out hbg); have O3g := hid (own_bw O3c.out hbg); have HWg := hid (Bw.trans HWc.out hbg); have z0g := B0g.out.cell; have z3g := BOg.out.cell; have z3fg := BOg.out.free; have z1g := B1g.out.cell; have z1fg := B1g.out.free; clear hly hbg)
      | (go_at_call 65; refine (rkey_any (fun _ => True) o _ _ _ s _ ⟨own_sl O1g.out (fun _ _ => trivial), own_sl O2g.out (fun _ _ => trivial), own_sl O3g.out (fun _ _ => trivial)⟩ (by omega)).mono ?_;  rintro e wk ⟨rfl, hly⟩; have hbk := hly.bw; have B0k := hid (B0g.out.bw hbk); have B1k := hid (B1g.out.bw hbk); have BOk := hid (BOg.out.bw hbk); have O1k := hid (own_bw O1g.out hbk); have O2k := hid (own_bw O2g.out hbk); have O3k := hid (own_bw O3g.out hbk); have HWk := hid (Bw.trans HWg.out hbk); have z0k := B0k.out.cell; have z3k := BOk.out.cell; have z3fk := BOk.out.free; have z1k := B1k.out.cell; have z1fk := B1k.out.free; clear hly hbk))
    all_goals
      have bf := (B1k.out.set 0 (.int .i64 H.1)).set 1 (.slice ah H.2.length ch)
      have bfc := bf.cell
      refine bodyPost_ret (v := .tuple #[.agg #[.int .i64 H.1, .slice ah H.2.length ch], .int .i64 2]) (by simp [results, Try.results43, go_sem, bfc]) rfl ?_
      exact ⟨rfl, Bw.setCell (Bw.setCell HWk.out (p := ⟨w.heap.size + 1, 0, none⟩) (show w.heap.size ≤ w.heap.size + 1 by omega) _) (p := ⟨w.heap.size + 1, 1, none⟩) (show w.heap.size ≤ w.heap.size + 1 by omega) _⟩

set_option maxRecDepth 100000 in
set_option maxHeartbeats 16000000 in
theorem rputf_old (G : Nat → Prop) (hv : Value) (H : AHeap) (v : Int) (s : ByteArray) (x : Int) (hU : U v) (hUx : U x) (w : World) (hGn : ∀ b, w.heap.size ≤ b → G b) (h : RdH w G hv H) (hok : HOK H) (hm : H.2.length ≤ 1000000) (hk : kk H v = 3) (hgx : gd H.2.length x = true) (j : Nat) (hj : aKey (ob H v).keys s = j) :
    Calls Try.prog 43 #[hv, .int .u64 v, .string s, .int .u64 x] w fun e w' => ∃ v', e = .returned (.tuple #[v', .int .i64 0]) ∧ RdH w' G v' (H.1, H.2.set (idxV v).toNat (withVals (ob H v) ((ob H v).vals.set j x))) ∧ Bw w w' := by
  have HR := hid h
  obtain ⟨va, t, rfl, ht, hs, ho⟩ := h
  obtain ⟨ah, ch, rfl⟩ := hs.form
  have hkr := kk_ref (H := H) (v := v) (by omega)
  obtain ⟨hg, hge⟩ := ob_get (H := H) hU hkr.2.1
  have hoo := ob_ok hok hU hkr.2.1
  have HG := hid hg
  have HGE := hid hge
  have HOO := hid hoo
  have hkx : (idxV v).toNat < H.2.length := by omega
  have HKX := hid hkx
  have HKK := hid hkr.2.2
  clear ht hs ho hg hge hkr hoo hok
  have HGN := hid hGn
  have HJ := hid hj
  have hjlt := aKey_lt (ob H v).keys s
  have HJL := hid (show j < (ob H v).vals.length by
    have h3 := HOO.out.2.2.1 (by have := HKK.out; omega)
    rw [hj] at hjlt; omega)
  have hj0 : ¬ (j : Int) < 0 := by omega
  clear hGn hj hjlt
  generalize hob : ob H v = o at *
  have HOB := hid hob
  clear hob
  go_enter Try.func43, Try.ntmps43
  go_upto_region 3 with (first | (go_at_call 61; refine (rkindH_any G _ H _ hU _ (RdH.below HR.out (Ly.bw (by repeat (first | exact Ly.refl _ | apply Ly.lay | apply Ly.alloc | apply Ly.drewN | apply Ly.drew)))) (by omega)).mono ?_; rintro e w' ⟨rfl, os, m, rfl⟩))
  go_cut [10] (fun p wc => ∃ bp xb xv xk, p = .pointer (some ⟨bp, 0, none⟩) ∧ w.heap.size + 2 ≤ bp ∧ Blk wc w.heap.size #[.int .i64 H.1, .slice ah H.2.length ch] 31 ∧ Blk wc (w.heap.size + 1) #[.int .i64 0, .slice none 0 0] 31 ∧
    Blk wc bp #[.int .i64 o.kind, xb, xv, xk, .int .i64 o.num, .int .u64 o.re, .int .u64 o.im] 55 ∧
    wc.ownsRow (w.heap.size + 2) 5 1 xb o.bytes.length (o.bytes.map (Value.int .u8)) ∧ wc.ownsRow (w.heap.size + 2) 38 1 xv o.vals.length (o.vals.map (Value.int .u64)) ∧ wc.ownsRow (w.heap.size + 2) 9 1 xk o.keys.length (o.keys.map Value.string) ∧ Bw w wc)
  case first =>
    go_wp2_with (first
      | (go_at_call 62; refine (rof_any G _ H _ hU _ HGE.out _ HG.out w _ (Ly.bw (by repeat (first | exact Ly.refl _ | apply Ly.lay | apply Ly.alloc | apply Ly.drewN | apply Ly.drew))) HR.out (by omega)).mono ?_; rintro e w' ⟨vb, vv, vk, rfl, hol, os, m, rfl⟩; have HOL := hid hol; clear hol)
      | (go_at_call 60; refine (rcopy_any G _ _ _ _ _ (OL.below HOL.out (Ly.bw (by repeat (first | exact Ly.refl _ | apply Ly.lay | apply Ly.alloc | apply Ly.drewN | apply Ly.drew)))) HOO.out.2.2.2.2.2.1 HOO.out.2.2.2.2.2.2.1 HOO.out.2.2.2.2.2.2.2).mono ?_; rintro e w1 ⟨xb, xv, xk, rfl, o1, o2, o3, hbw⟩; obtain ⟨ab, cb, rfl⟩ := own_form o1; obtain ⟨av, cv, rfl⟩ := own_form o2; obtain ⟨ak, ck, rfl⟩ := own_form o3))
    have hsz := hbw.size
    simp only [lay_size, World.size_alloc] at hsz
    have p0 := (((Blk.new w #[.int .i64 H.1, .slice ah H.2.length ch] 31).alloc (.cells #[.int .i64 0, .slice none 0 0] 31)).lay _ _).bw hbw
    have p1 := ((Blk.new (w.alloc (.cells #[.int .i64 H.1, .slice ah H.2.length ch] 31)) #[.int .i64 0, .slice none 0 0] 31).lay _ _).bw hbw
    have hww := Bw.trans (Bw.lay (Bw.alloc (Bw.alloc (Bw.refl w) (.cells #[.int .i64 H.1, .slice ah H.2.length ch] 31)) (.cells #[.int .i64 0, .slice none 0 0] 31)) _ _) hbw
    go_meet
    case rel =>
      exact ⟨_, _, _, _, rfl, by omega, p0.alloc _, by simpa using p1.alloc _, Blk.new _ _ _, (own_base (base' := w.heap.size + 2) o1 (by simp only [lay_size, World.size_alloc]; omega)).alloc _, (own_base (base' := w.heap.size + 2) o2 (by simp only [lay_size, World.size_alloc]; omega)).alloc _, (own_base (base' := w.heap.size + 2) o3 (by simp only [lay_size, World.size_alloc]; omega)).alloc _, Bw.alloc hww _⟩
  case rest =>
    obtain ⟨bp, xb, xv, xk, rfl, hbp, hB0, hB1, hBo, o1, o2, o3, hWc⟩ := hcut
    obtain ⟨ab, cb, rfl⟩ := own_form o1
    obtain ⟨av, cv, rfl⟩ := own_form o2
    obtain ⟨ak, ck, rfl⟩ := own_form o3
    have z0 := hB0.cell
    have z3 := hBo.cell
    have hl6 : o.vals.length ≤ 1000000 := HOO.out.2.2.2.2.2.2.1
    have hl7 : o.keys.length ≤ 1000000 := HOO.out.2.2.2.2.2.2.2
    have B0c := hid hB0
    have B1c := hid hB1
    have BOc := hid hBo
    have O1c := hid o1
    have O2c := hid o2
    have O3c := hid o3
    have HWc := hid hWc
    have hbpn : bp ≠ w.heap.size := by omega
    have hbpn' : w.heap.size ≠ bp := by omega
    have hbp1 : bp ≠ w.heap.size + 1 := by omega
    have hbp1' : w.heap.size + 1 ≠ bp := by omega
    clear hWc hB0 hB1 hBo o1 o2 o3
    have hjl := HJL.out
    obtain ⟨g, rfl, hgs, c1⟩ := own_at O2c.out hjl
    have HC1 := hid (show wc.cell? ⟨g, j, none⟩ = some (.int .u64 o.vals[j]) by rw [c1]; simp [hjl])
    have hi2 : (j : Int) < (o.vals.length : Int) := by omega
    clear c1
    go_wp2_with (first
      | (go_at_call 63; refine (rgood_any G _ H _ hUx _ (RdH.below HR.out HWc.out) (by omega)).mono ?_; rintro e wg ⟨rfl, hly⟩; have hbg := hly.bw; have B0g := hid (B0c.out.bw hbg); have B1g := hid (B1c.out.bw hbg); have BOg := hid (BOc.out.bw hbg); have O1g := hid (own_bw O1c.out hbg); have O2g := hid (own_bw O2c.out hbg); have O3g := hid (own_bw O3c.out hbg); have HWg := hid (Bw.trans HWc.out hbg); have z0g := B0g.out.cell; have z3g := BOg.out.cell; have z3fg := BOg.out.free; have z1g := B1g.out.cell; have z1fg := B1g.out.free; clear hly hbg)
      | (go_at_call 65; refine (rkey_any (fun _ => True) o _ _ _ s _ ⟨own_sl O1g.out (fun _ _ => trivial), own_sl O2g.out (fun _ _ => trivial), own_sl O3g.out (fun _ _ => trivial)⟩ (by omega)).mono ?_; rw [HJ.out]; rintro e wk ⟨rfl, hly⟩; have hbk := hly.bw; have B0k := hid (B0g.out.bw hbk); have B1k := hid (B1g.out.bw hbk); have BOk := hid (BOg.out.bw hbk); have O1k := hid (own_bw O1g.out hbk); have O2k := hid (own_bw O2g.out hbk); have O3k := hid (own_bw O3g.out hbk); have HWk := hid (Bw.trans HWg.out hbk); have z0k := B0k.out.cell; have z3k := BOk.out.cell; have z3fk := BOk.out.free; have z1k := B1k.out.cell; have z1fk := B1k.out.free; have ckv : wk.cell? ⟨g, j, none⟩ = some (.int .u64 o.vals[j]) := (own_at O2k.out hjl).elim (fun b hb => by obtain ⟨e, _, hc⟩ := hb; cases e; rw [hc]; simp [hjl]); have ckf : wk.frozen? ⟨g, j, none⟩ = false := O2k.out.frozenAt j; have hgne : g ≠ bp := (fun e => (own_not O2k.out BOk.out (by decide)).elim (fun h => by cases h) (fun h => h (by rw [← e]; rfl))); have hgne' : bp ≠ g := Ne.symm hgne; have hgw : g ≠ w.heap.size := (fun e => by have := (O2k.out.lt g rfl).1; omega); have hgw' : w.heap.size ≠ g := Ne.symm hgw; clear hly hbk))
    have hgb : w.heap.size + 2 ≤ g := (O2k.out.lt g rfl).1
    have hbw2 : Bw w (wk.setCell ⟨g, j, none⟩ (.int .u64 x)) := Bw.setCell HWk.out (p := ⟨g, j, none⟩) (show w.heap.size ≤ g by omega) _
    have ow1 := own_same (w' := wk.setCell ⟨g, j, none⟩ (.int .u64 x)) O1k.out (fun b hb => Below.heap_setCell wk ⟨g, j, none⟩ _ b (fun e => ((own_apart O2k.out O1k.out (by decide)).elim (fun h => by rw [h] at hb; cases hb) (fun h => h (by rw [hb, show b = g from e]; rfl)))))
    have ow3 := own_same (w' := wk.setCell ⟨g, j, none⟩ (.int .u64 x)) O3k.out (fun b hb => Below.heap_setCell wk ⟨g, j, none⟩ _ b (fun e => ((own_apart O2k.out O3k.out (by decide)).elim (fun h => by rw [h] at hb; cases hb) (fun h => h (by rw [hb, show b = g from e]; rfl)))))
    have ow2 := (O2k.out.stored j (.int .u64 x)).1
    rw [← List.map_set] at ow2
    have b1s := B1k.out.other (p := ⟨g, j, none⟩) (show g ≠ w.heap.size + 1 by omega) (.int .u64 x)
    have hb1lt := b1s.lt
    have hGs : ∀ b, (wk.setCell ⟨g, j, none⟩ (.int .u64 x)).heap.size ≤ b → (G b ∧ b ≠ w.heap.size + 1) := fun b hb => ⟨HGN.out b (Nat.le_trans hbw2.size hb), by omega⟩
    have hG2 : ∀ b, w.heap.size + 2 ≤ b → (G b ∧ b ≠ w.heap.size + 1) := fun b hb => ⟨HGN.out b (by omega), by omega⟩
    have hRd2 : RdH (wk.setCell ⟨g, j, none⟩ (.int .u64 x)) (fun b => G b ∧ b ≠ w.heap.size + 1) _ H := RdH.keep HR.out hbw2.size (fun b hb _ => hbw2.block b hb) (fun b hb hgb => ⟨hgb, by omega⟩)
    have hput := rput_any (fun b => G b ∧ b ≠ w.heap.size + 1) _ H v hU (idxV v).toNat HGE.out HKX.out (withVals o (o.vals.set j x)) (.slice ab o.bytes.length cb) (.slice (some ⟨g, 0, none⟩) o.vals.length cv) (.slice ak o.keys.length ck) _ hGs hRd2
      ⟨own_sl ow1 hG2, (by have := own_sl (G := fun b => G b ∧ b ≠ w.heap.size + 1) ow2 hG2; simpa [withVals, AObj.vals] using this), own_sl ow3 hG2⟩ hm
    refine hput.mono ?_
    rintro e w3 ⟨v', rfl, hrd, hbw3⟩
    have hrd' := hrd
    obtain ⟨va', t', rfl, _, hsl', _⟩ := hrd'
    obtain ⟨a3, c3, e3⟩ := hsl'.form
    rw [show ((H.1, H.2.set (idxV v).toNat (withVals o (o.vals.set j x))) : AHeap).2.length = H.2.length from List.length_set ..] at e3
    subst e3
    have b1w := b1s.bw hbw3
    have y1 := b1w.cell
    have y1f := b1w.free
    have HB1W := hid b1w
    have HRD := hid hrd
    have HBW3 := hid (Bw.trans hbw2 hbw3)
    clear hput hrd hbw3 hbw2 ow1 ow2 ow3 hGs b1s hsl' b1w hb1lt hG2 hRd2
    go_wp2
    have bf := (HB1W.out.set 0 (.int .i64 H.1)).set 1 (.slice a3 H.2.length c3)
    have bfc := bf.cell
    refine bodyPost_ret (v := .tuple #[.agg #[.int .i64 H.1, .slice a3 H.2.length c3], .int .i64 0]) (by simp [results, Try.results43, go_sem, bfc]) rfl ?_
    refine ⟨_, rfl, RdH.keep HRD.out (by simp [World.setCell]) ?_ (fun b _ h => h.1), Bw.setCell (Bw.setCell HBW3.out (p := ⟨w.heap.size + 1, 0, none⟩) (show w.heap.size ≤ w.heap.size + 1 by omega) _) (p := ⟨w.heap.size + 1, 1, none⟩) (show w.heap.size ≤ w.heap.size + 1 by omega) _⟩
    intro b hb hgb
    rw [Below.heap_setCell _ _ _ _ (show b ≠ w.heap.size + 1 from hgb.2), Below.heap_setCell _ _ _ _ (show b ≠ w.heap.size + 1 from hgb.2)]

set_option maxRecDepth 100000 in
set_option maxHeartbeats 16000000 in
theorem rputf_new (G : Nat → Prop) (hv : Value) (H : AHeap) (v : Int) (s : ByteArray) (x : Int) (hU : U v) (hUx : U x) (w : World) (hGn : ∀ b, w.heap.size ≤ b → G b) (h : RdH w G hv H) (hok : HOK H) (hm : H.2.length ≤ 1000000) (hk : kk H v = 3) (hgx : gd H.2.length x = true) (h0 : aKey (ob H v).keys s < 0) (hl : (ob H v).keys.length ≠ 256) :
    Calls Try.prog 43 #[hv, .int .u64 v, .string s, .int .u64 x] w fun e w' => ∃ v', e = .returned (.tuple #[v', .int .i64 0]) ∧ RdH w' G v' (H.1, H.2.set (idxV v).toNat (withKV (ob H v) ((ob H v).keys ++ [s]) ((ob H v).vals ++ [x]))) ∧ Bw w w' := by
  have HR := hid h
  obtain ⟨va, t, rfl, ht, hs, ho⟩ := h
  obtain ⟨ah, ch, rfl⟩ := hs.form
  have hkr := kk_ref (H := H) (v := v) (by omega)
  obtain ⟨hg, hge⟩ := ob_get (H := H) hU hkr.2.1
  have hoo := ob_ok hok hU hkr.2.1
  have HG := hid hg
  have HGE := hid hge
  have HOO := hid hoo
  have hkx : (idxV v).toNat < H.2.length := by omega
  have HKX := hid hkx
  have HKK := hid hkr.2.2
  clear ht hs ho hg hge hkr hoo hok
  have HGN := hid hGn
  have hlb : (((ob H v).keys.length : Int) == 256) = false := by simp; omega
  obtain ⟨i2, hi2, hz2, hs2, hy2⟩ := info_parts infoV
  have I2 := hid (And.intro hi2 (And.intro hz2 (And.intro hs2 hy2)))
  obtain ⟨i3, hi3, hz3, hs3, hy3⟩ := info_parts infoS
  have I3 := hid (And.intro hi3 (And.intro hz3 (And.intro hs3 hy3)))
  clear hGn hl hi2 hz2 hs2 hy2 hi3 hz3 hs3 hy3
  generalize hob : ob H v = o at *
  have HOB := hid hob
  clear hob
  go_enter Try.func43, Try.ntmps43
  go_upto_region 3 with (first | (go_at_call 61; refine (rkindH_any G _ H _ hU _ (RdH.below HR.out (Ly.bw (by repeat (first | exact Ly.refl _ | apply Ly.lay | apply Ly.alloc | apply Ly.drewN | apply Ly.drew)))) (by omega)).mono ?_; rintro e w' ⟨rfl, os, m, rfl⟩))
  go_cut [10] (fun p wc => ∃ bp xb xv xk, p = .pointer (some ⟨bp, 0, none⟩) ∧ w.heap.size + 2 ≤ bp ∧ Blk wc w.heap.size #[.int .i64 H.1, .slice ah H.2.length ch] 31 ∧ Blk wc (w.heap.size + 1) #[.int .i64 0, .slice none 0 0] 31 ∧
    Blk wc bp #[.int .i64 o.kind, xb, xv, xk, .int .i64 o.num, .int .u64 o.re, .int .u64 o.im] 55 ∧
    wc.ownsRow (w.heap.size + 2) 5 1 xb o.bytes.length (o.bytes.map (Value.int .u8)) ∧ wc.ownsRow (w.heap.size + 2) 38 1 xv o.vals.length (o.vals.map (Value.int .u64)) ∧ wc.ownsRow (w.heap.size + 2) 9 1 xk o.keys.length (o.keys.map Value.string) ∧ Bw w wc)
  case first =>
    go_wp2_with (first
      | (go_at_call 62; refine (rof_any G _ H _ hU _ HGE.out _ HG.out w _ (Ly.bw (by repeat (first | exact Ly.refl _ | apply Ly.lay | apply Ly.alloc | apply Ly.drewN | apply Ly.drew))) HR.out (by omega)).mono ?_; rintro e w' ⟨vb, vv, vk, rfl, hol, os, m, rfl⟩; have HOL := hid hol; clear hol)
      | (go_at_call 60; refine (rcopy_any G _ _ _ _ _ (OL.below HOL.out (Ly.bw (by repeat (first | exact Ly.refl _ | apply Ly.lay | apply Ly.alloc | apply Ly.drewN | apply Ly.drew)))) HOO.out.2.2.2.2.2.1 HOO.out.2.2.2.2.2.2.1 HOO.out.2.2.2.2.2.2.2).mono ?_; rintro e w1 ⟨xb, xv, xk, rfl, o1, o2, o3, hbw⟩; obtain ⟨ab, cb, rfl⟩ := own_form o1; obtain ⟨av, cv, rfl⟩ := own_form o2; obtain ⟨ak, ck, rfl⟩ := own_form o3))
    have hsz := hbw.size
    simp only [lay_size, World.size_alloc] at hsz
    have p0 := (((Blk.new w #[.int .i64 H.1, .slice ah H.2.length ch] 31).alloc (.cells #[.int .i64 0, .slice none 0 0] 31)).lay _ _).bw hbw
    have p1 := ((Blk.new (w.alloc (.cells #[.int .i64 H.1, .slice ah H.2.length ch] 31)) #[.int .i64 0, .slice none 0 0] 31).lay _ _).bw hbw
    have hww := Bw.trans (Bw.lay (Bw.alloc (Bw.alloc (Bw.refl w) (.cells #[.int .i64 H.1, .slice ah H.2.length ch] 31)) (.cells #[.int .i64 0, .slice none 0 0] 31)) _ _) hbw
    go_meet
    case rel =>
      exact ⟨_, _, _, _, rfl, by omega, p0.alloc _, by simpa using p1.alloc _, Blk.new _ _ _, (own_base (base' := w.heap.size + 2) o1 (by simp only [lay_size, World.size_alloc]; omega)).alloc _, (own_base (base' := w.heap.size + 2) o2 (by simp only [lay_size, World.size_alloc]; omega)).alloc _, (own_base (base' := w.heap.size + 2) o3 (by simp only [lay_size, World.size_alloc]; omega)).alloc _, Bw.alloc hww _⟩
  case rest =>
    obtain ⟨bp, xb, xv, xk, rfl, hbp, hB0, hB1, hBo, o1, o2, o3, hWc⟩ := hcut
    obtain ⟨ab, cb, rfl⟩ := own_form o1
    obtain ⟨av, cv, rfl⟩ := own_form o2
    obtain ⟨ak, ck, rfl⟩ := own_form o3
    have z0 := hB0.cell
    have z3 := hBo.cell
    have hl6 : o.vals.length ≤ 1000000 := HOO.out.2.2.2.2.2.2.1
    have hl7 : o.keys.length ≤ 1000000 := HOO.out.2.2.2.2.2.2.2
    have B0c := hid hB0
    have B1c := hid hB1
    have BOc := hid hBo
    have O1c := hid o1
    have O2c := hid o2
    have O3c := hid o3
    have HWc := hid hWc
    have hbpn : bp ≠ w.heap.size := by omega
    have hbpn' : w.heap.size ≠ bp := by omega
    have hbp1 : bp ≠ w.heap.size + 1 := by omega
    have hbp1' : w.heap.size + 1 ≠ bp := by omega
    clear hWc hB0 hB1 hBo o1 o2 o3
    go_wp2_with (first
      | (go_at_call 63; refine (rgood_any G _ H _ hUx _ (RdH.below HR.out HWc.out) (by omega)).mono ?_; rintro e wg ⟨rfl, hly⟩; have hbg := hly.bw; have B0g := hid (B0c.out.bw hbg); have B1g := hid (B1c.out.bw hbg); have BOg := hid (BOc.out.bw hbg); have O1g := hid (own_bw O1c.out hbg); have O2g := hid (own_bw O2c.out hbg); have O3g := hid (own_bw O3c.out hbg); have HWg := hid (Bw.trans HWc.out hbg); have z0g := B0g.out.cell; have z3g := BOg.out.cell; have z3fg := BOg.out.free; have z1g := B1g.out.cell; have z1fg := B1g.out.free; clear hly hbg)
      | (go_at_call 65; refine (rkey_any (fun _ => True) o _ _ _ s _ ⟨own_sl O1g.out (fun _ _ => trivial), own_sl O2g.out (fun _ _ => trivial), own_sl O3g.out (fun _ _ => trivial)⟩ (by omega)).mono ?_;  rintro e wk ⟨rfl, hly⟩; have hbk := hly.bw; have B0k := hid (B0g.out.bw hbk); have B1k := hid (B1g.out.bw hbk); have BOk := hid (BOg.out.bw hbk); have O1k := hid (own_bw O1g.out hbk); have O2k := hid (own_bw O2g.out hbk); have O3k := hid (own_bw O3g.out hbk); have HWk := hid (Bw.trans HWg.out hbk); have z0k := B0k.out.cell; have z3k := BOk.out.cell; have z3fk := BOk.out.free; have z1k := B1k.out.cell; have z1fk := B1k.out.free; clear hly hbk)
      | (at_builtin; refine wpList_append_own _ rfl _ _ 41 rfl (w.heap.size + 2) 9 i3 (.string ByteArray.empty) 1 16 Try.underlying41 I3.out.1 I3.out.2.1 I3.out.2.2.1 I3.out.2.2.2 rfl (by decide) (.slice ak o.keys.length ck) o.keys.length (o.keys.map Value.string) rfl (O3k.out.alloc _) ⟨wk.heap.size, 0, none⟩ 1 1 [.string s] rfl rfl ?c1 ?c2 ?c3 ?c4 ?c5 ?_)
      | go_in)
    case c1 =>
      intro j u hj
      match j, hj with
      | 0, hj => simp at hj; subst hj; simp [Addr.add, go_sem]
    case c2 => intro u hu; simp at hu; subst hu; rfl
    case c3 => unfold maxLen; omega
    case c4 => omega
    case c5 => simp only [World.size_alloc]; have := B1k.out.lt; omega
    intro v5 w5 hown hgr _
    obtain ⟨ak', ck', e⟩ := own_form hown
    subst e
    have ho3 := O3k.out.alloc (.cells #[.string s] 9)
    have b0 := (B0k.out.alloc (.cells #[.string s] 9)).grownOwn ho3 (by decide) hgr
    have b1 := (B1k.out.alloc (.cells #[.string s] 9)).grownOwn ho3 (by decide) hgr
    have bo := (BOk.out.alloc (.cells #[.string s] 9)).grownOwn ho3 (by decide) hgr
    have p1 := (O1k.out.alloc (.cells #[.string s] 9)).kept hgr (own_apart ho3 (O1k.out.alloc _) (by decide))
    have p2 := (O2k.out.alloc (.cells #[.string s] 9)).kept hgr (own_apart ho3 (O2k.out.alloc _) (by decide))
    have hw5 := bw_grown (Bw.alloc HWk.out (.cells #[.string s] 9)) (by omega) ho3 hgr
    have q0 := b0.cell
    have qo := bo.cell
    have qof := bo.free
    have hg5 : bp < w5.heap.size := bo.lt
    have B05 := hid b0
    have B15 := hid b1
    have BO5 := hid bo
    have P1 := hid p1
    have P2 := hid p2
    have P3 := hid hown
    have HW5 := hid hw5
    have HO26 := hid (p2.kept (grown_set w5 bp 3 (.slice ak' (o.keys.length + 1) ck')) (own_not p2 bo (by decide)))
    clear ho3 b0 b1 bo p1 p2 hw5 hown hgr z0k z3k z3fk z1k z1fk z0g z3g z3fg z1g z1fg z0 z3
    go_wp2_with (first
      | (at_builtin; refine wpList_append_own _ rfl _ _ 40 rfl (w.heap.size + 2) 38 i2 (.int .u64 0) 1 8 Try.underlying40 I2.out.1 I2.out.2.1 I2.out.2.2.1 I2.out.2.2.2 rfl (by decide) (.slice av o.vals.length cv) o.vals.length (o.vals.map (Value.int .u64)) rfl (HO26.out.alloc _) ⟨w5.heap.size, 0, none⟩ 1 1 [.int .u64 x] rfl rfl ?d1 ?d2 ?d3 ?d4 ?d5 ?_)
      | go_in)
    case d1 =>
      intro j u hj
      match j, hj with
      | 0, hj => simp at hj; subst hj; simp [Addr.add, go_sem]
    case d2 => intro u hu; simp at hu; subst hu; rfl
    case d3 => unfold maxLen; omega
    case d4 => omega
    case d5 => simp; have := B15.out.lt; omega
    intro v7 w7 hown hgr _
    obtain ⟨av', cv', e⟩ := own_form hown
    subst e
    have ho2 := HO26.out.alloc (.cells #[.int .u64 x] 38)
    have b0 := ((B05.out.other (p := ⟨bp, 3, none⟩) (show bp ≠ w.heap.size by omega) (.slice ak' (o.keys.length + 1) ck')).alloc (.cells #[.int .u64 x] 38)).grownOwn ho2 (by decide) hgr
    have b1 := ((B15.out.other (p := ⟨bp, 3, none⟩) (show bp ≠ w.heap.size + 1 by omega) (.slice ak' (o.keys.length + 1) ck')).alloc (.cells #[.int .u64 x] 38)).grownOwn ho2 (by decide) hgr
    have bo := ((BO5.out.set 3 (.slice ak' (o.keys.length + 1) ck')).alloc (.cells #[.int .u64 x] 38)).grownOwn ho2 (by decide) hgr
    have p1 := ((P1.out.kept (grown_set w5 bp 3 (.slice ak' (o.keys.length + 1) ck')) (own_not P1.out BO5.out (by decide))).alloc (.cells #[.int .u64 x] 38)).kept hgr (own_apart ho2 ((P1.out.kept (grown_set w5 bp 3 (.slice ak' (o.keys.length + 1) ck')) (own_not P1.out BO5.out (by decide))).alloc _) (by decide))
    have p3 := ((P3.out.kept (grown_set w5 bp 3 (.slice ak' (o.keys.length + 1) ck')) (own_not P3.out BO5.out (by decide))).alloc (.cells #[.int .u64 x] 38)).kept hgr (own_apart ho2 ((P3.out.kept (grown_set w5 bp 3 (.slice ak' (o.keys.length + 1) ck')) (own_not P3.out BO5.out (by decide))).alloc _) (by decide))
    have hw7 := bw_grown (Bw.alloc (Bw.setCell HW5.out (p := ⟨bp, 3, none⟩) (show w.heap.size ≤ bp by omega) (.slice ak' (o.keys.length + 1) ck')) (.cells #[.int .u64 x] 38)) (by omega) ho2 hgr
    have r0 := b0.cell
    have ro := bo.cell
    have rof := bo.free
    have hg7 : bp < w7.heap.size := bo.lt
    have B17 := hid b1
    have BO7 := hid bo
    have R1 := hid p1
    have R2 := hid hown
    have R3 := hid p3
    have HW7 := hid hw7
    clear ho2 b0 b1 bo p1 p3 hw7 hown hgr q0 qo qof
    go_wp2_with fail
    have hbw2 : Bw w (w7.setCell ⟨bp, 2, none⟩ (.slice av' (o.vals.length + 1) cv')) := Bw.setCell HW7.out (p := ⟨bp, 2, none⟩) (show w.heap.size ≤ bp by omega) _
    have ow1 := R1.out.kept (grown_set w7 bp 2 (.slice av' (o.vals.length + 1) cv')) (own_not R1.out BO7.out (by decide))
    have ow2 := R2.out.kept (grown_set w7 bp 2 (.slice av' (o.vals.length + 1) cv')) (own_not R2.out BO7.out (by decide))
    have ow3 := R3.out.kept (grown_set w7 bp 2 (.slice av' (o.vals.length + 1) cv')) (own_not R3.out BO7.out (by decide))
    have b1s := B17.out.other (p := ⟨bp, 2, none⟩) (show bp ≠ w.heap.size + 1 by omega) (.slice av' (o.vals.length + 1) cv')
    have hb1lt := b1s.lt
    have hGs : ∀ b, (w7.setCell ⟨bp, 2, none⟩ (.slice av' (o.vals.length + 1) cv')).heap.size ≤ b → (G b ∧ b ≠ w.heap.size + 1) := fun b hb => ⟨HGN.out b (Nat.le_trans hbw2.size hb), by omega⟩
    have hG2 : ∀ b, w.heap.size + 2 ≤ b → (G b ∧ b ≠ w.heap.size + 1) := fun b hb => ⟨HGN.out b (by omega), by omega⟩
    have hRd2 : RdH (w7.setCell ⟨bp, 2, none⟩ (.slice av' (o.vals.length + 1) cv')) (fun b => G b ∧ b ≠ w.heap.size + 1) _ H := RdH.keep HR.out hbw2.size (fun b hb _ => hbw2.block b hb) (fun b hb hgb => ⟨hgb, by omega⟩)
    have hput := rput_any (fun b => G b ∧ b ≠ w.heap.size + 1) _ H v hU (idxV v).toNat HGE.out HKX.out (withKV o (o.keys ++ [s]) (o.vals ++ [x])) (.slice ab o.bytes.length cb) (.slice av' (o.vals.length + 1) cv') (.slice ak' (o.keys.length + 1) ck') _ hGs hRd2
      ⟨own_sl ow1 hG2, (by have := own_sl (G := fun b => G b ∧ b ≠ w.heap.size + 1) ow2 hG2; simpa [withKV, AObj.vals] using this), (by have := own_sl (G := fun b => G b ∧ b ≠ w.heap.size + 1) ow3 hG2; simpa [withKV, AObj.keys] using this)⟩ hm
    refine hput.mono ?_
    rintro e w3 ⟨v', rfl, hrd, hbw3⟩
    have hrd' := hrd
    obtain ⟨va', t', rfl, _, hsl', _⟩ := hrd'
    obtain ⟨a3, c3, e3⟩ := hsl'.form
    rw [show ((H.1, H.2.set (idxV v).toNat (withKV o (o.keys ++ [s]) (o.vals ++ [x]))) : AHeap).2.length = H.2.length from List.length_set ..] at e3
    subst e3
    have b1w := b1s.bw hbw3
    have y1 := b1w.cell
    have y1f := b1w.free
    have HB1W := hid b1w
    have HRD := hid hrd
    have HBW3 := hid (Bw.trans hbw2 hbw3)
    clear hput hrd hbw3 hbw2 ow1 ow2 ow3 hGs b1s hsl' b1w hb1lt hG2 hRd2
    go_wp2
    have bf := (HB1W.out.set 0 (.int .i64 H.1)).set 1 (.slice a3 H.2.length c3)
    have bfc := bf.cell
    refine bodyPost_ret (v := .tuple #[.agg #[.int .i64 H.1, .slice a3 H.2.length c3], .int .i64 0]) (by simp [results, Try.results43, go_sem, bfc]) rfl ?_
    refine ⟨_, rfl, RdH.keep HRD.out (by simp [World.setCell]) ?_ (fun b _ h => h.1), Bw.setCell (Bw.setCell HBW3.out (p := ⟨w.heap.size + 1, 0, none⟩) (show w.heap.size ≤ w.heap.size + 1 by omega) _) (p := ⟨w.heap.size + 1, 1, none⟩) (show w.heap.size ≤ w.heap.size + 1 by omega) _⟩
    intro b hb hgb
    rw [Below.heap_setCell _ _ _ _ (show b ≠ w.heap.size + 1 from hgb.2), Below.heap_setCell _ _ _ _ (show b ≠ w.heap.size + 1 from hgb.2)]


theorem rputf_any (G : Nat → Prop) (hv : Value) (H : AHeap) (v : Int) (s : ByteArray) (x : Int) (hU : U v) (hUx : U x) (w : World) (hGn : ∀ b, w.heap.size ≤ b → G b) (h : RdH w G hv H) (hok : HOK H) (hm : H.2.length ≤ 1000000) :
    Calls Try.prog 43 #[hv, .int .u64 v, .string s, .int .u64 x] w fun e w' => ∃ v', e = .returned (.tuple #[v', .int .i64 (aPutE H v s x)]) ∧ RdH w' G v' (aPutH H v s x) ∧ Bw w w' := by
  unfold aPutE aPutH
  by_cases hk : kk H v = 3
  · rw [if_pos hk]
    cases hg : gd H.2.length x
    · rw [if_neg (by simp), if_neg (by simp)]
      exact (rputf_arg G hv H v s x hU hUx w h hok hm hk hg).mono fun e w' ⟨he, hb⟩ => ⟨hv, he, h.below hb, hb⟩
    · rw [if_pos rfl, if_pos (show kk H v = 3 ∧ true = true from ⟨hk, rfl⟩)]
      by_cases h0 : 0 ≤ aKey (ob H v).keys s
      · rw [if_pos h0, if_pos h0]
        exact rputf_old G hv H v s x hU hUx w hGn h hok hm hk hg (aKey (ob H v).keys s).toNat (by omega)
      · rw [if_neg h0, if_neg h0]
        by_cases hl : (ob H v).keys.length = 256
        · rw [if_pos hl, if_pos hl]
          exact (rputf_long G hv H v s x hU hUx w h hok hm hk hg (by omega) hl).mono fun e w' ⟨he, hb⟩ => ⟨hv, he, h.below hb, hb⟩
        · rw [if_neg hl, if_neg hl]
          exact rputf_new G hv H v s x hU hUx w hGn h hok hm hk hg (by omega) hl
  · rw [if_neg hk, if_neg (fun k => hk k.1)]
    exact (rputf_kind G hv H v s x hU hUx w h hm hk).mono fun e w' ⟨he, hb⟩ => ⟨hv, he, h.below hb, hb⟩

end Go.Proofs.Ytolfgkpmcfneiaa
