/- The document's arrays, one entry more: the contract. -/
import Derived.Test.YtolfgkpmcfneiaaR3G
set_option linter.unusedSimpArgs false
set_option linter.unusedVariables false
namespace Go.Proofs.Ytolfgkpmcfneiaa
open Go Go.RowKit

set_option maxRecDepth 100000 in
set_option maxHeartbeats 16000000 in
theorem rpush_in (G : Nat → Prop) (hv : Value) (H : AHeap) (v x : Int) (hU : U v) (hUx : U x) (w : World) (hGn : ∀ b, w.heap.size ≤ b → G b) (h : RdH w G hv H) (hok : HOK H) (hm : H.2.length ≤ 1000000) (hk : kk H v = 2)
    (hgx : gd H.2.length x = true) (hl : (ob H v).vals.length ≠ 65536) :
    Calls Try.prog 41 #[hv, .int .u64 v, .int .u64 x] w fun e w' => ∃ v', e = .returned (.tuple #[v', .int .i64 0]) ∧ RdH w' G v' (H.1, H.2.set (idxV v).toNat (withVals (ob H v) ((ob H v).vals ++ [x]))) ∧ Bw w w' := by
  have HR := hid h
  obtain ⟨va, t, rfl, ht, hs, ho⟩ := h
  obtain ⟨ah, ch, rfl⟩ := hs.form
  have hkr := kk_ref (H := H) (v := v) (by omega)
  obtain ⟨hg, hge⟩ := ob_get (H := H) hU hkr.2.1
  have hoo := ob_ok hok hU hkr.2.1
  have HG := hid hg
  have HGE := hid hge
  have HOO := hid hoo
  have HGN := hid hGn
  have hkx : (idxV v).toNat < H.2.length := by omega
  have HKX := hid hkx
  obtain ⟨i2, hi2, hz2, hs2, hy2⟩ := info_parts infoV
  have I2 := hid (And.intro hi2 (And.intro hz2 (And.intro hs2 hy2)))
  clear ht hs ho hg hge hkr hoo hok hGn hi2 hz2 hs2 hy2
  generalize hob : ob H v = o at *
  have HOB := hid hob
  have hlb : ((o.vals.length : Int) == 65536) = false := by simp; omega
  clear hob hl
  go_enter Try.func41, Try.ntmps41
  go_upto_region 3 with (first | (go_at_call 61; refine (rkindH_any G _ H _ hU _ (RdH.below HR.out (Ly.bw (by repeat (first | exact Ly.refl _ | apply Ly.lay | apply Ly.alloc | apply Ly.drewN | apply Ly.drew)))) (by omega)).mono ?_; rintro e w' ⟨rfl, os, m, rfl⟩))
  go_cut [8] (fun p wc => ∃ bp xb xv xk, p = .pointer (some ⟨bp, 0, none⟩) ∧ w.heap.size + 2 ≤ bp ∧ Blk wc w.heap.size #[.int .i64 H.1, .slice ah H.2.length ch] 31 ∧ Blk wc (w.heap.size + 1) #[.int .i64 0, .slice none 0 0] 31 ∧
    Blk wc bp #[.int .i64 o.kind, xb, xv, xk, .int .i64 o.num, .int .u64 o.re, .int .u64 o.im] 55 ∧
    wc.ownsRow (w.heap.size + 2) 5 1 xb o.bytes.length (o.bytes.map (Value.int .u8)) ∧ wc.ownsRow (w.heap.size + 2) 38 1 xv o.vals.length (o.vals.map (Value.int .u64)) ∧ wc.ownsRow (w.heap.size + 2) 9 1 xk o.keys.length (o.keys.map Value.string) ∧ Bw w wc)
  case first =>
    go_wp2_with (first
      | (go_at_call 62; refine (rof_any G _ H _ hU _ HGE.out _ HG.out w _ (Ly.bw (by repeat (first | exact Ly.refl _ | apply Ly.lay | apply Ly.alloc | apply Ly.drewN | apply Ly.drew))) HR.out (by omega)).mono ?_; rintro e w' ⟨vb, vv, vk, rfl, hol, os, m, rfl⟩; have HOL := hid hol; clear hol)
      | (go_at_call 60; refine (rcopy_any G _ _ _ _ _ (OL.below HOL.out (Ly.bw (by repeat (first | exact Ly.refl _ | apply Ly.lay | apply Ly.alloc | apply Ly.drewN | apply Ly.drew)))) HOO.out.2.2.2.2.2.1 HOO.out.2.2.2.2.2.2.1 HOO.out.2.2.2.2.2.2.2).mono ?_; rintro e w1 ⟨xb, xv, xk, rfl, o1, o2, o3, hbw⟩; obtain ⟨ab, cb, rfl⟩ := own_form o1; obtain ⟨av, cv, rfl⟩ := own_form o2; obtain ⟨ak, ck, rfl⟩ := own_form o3))
    have hsz := hbw.size
    simp only [lay_size, World.size_alloc] at hsz
    have p0 := (((Blk.new w #[.int .i64 H.1, .slice ah H.2.length ch] 31).alloc (.cells #[.int .i64 0, .slice none 0 0] 31)).lay _ _).bw hbw
    have p1 := ((Blk.new (w.alloc (.cells #[.int .i64 H.1, .slice ah H.2.length ch] 31)) #[.int .i64 0, .slice none 0 0] 31).lay _ _).bw hbw
    have hww := Bw.trans (Bw.lay (Bw.alloc (Bw.alloc (Bw.refl w) (.cells #[.int .i64 H.1, .slice ah H.2.length ch] 31)) (.cells #[.int .i64 0, .slice none 0 0] 31)) _ _) hbw
    go_meet
    case rel =>
      exact ⟨_, _, _, _, rfl, by omega, p0.alloc _, by simpa using p1.alloc _, Blk.new _ _ _, (own_base o1 (by simp only [lay_size, World.size_alloc]; omega)).alloc _, (own_base o2 (by simp only [lay_size, World.size_alloc]; omega)).alloc _, (own_base o3 (by simp only [lay_size, World.size_alloc]; omega)).alloc _, Bw.alloc hww _⟩
  case rest =>
    obtain ⟨bp, xb, xv, xk, rfl, hbp, hB0, hB1, hBo, o1, o2, o3, hWc⟩ := hcut
    obtain ⟨ab, cb, rfl⟩ := own_form o1
    obtain ⟨av, cv, rfl⟩ := own_form o2
    obtain ⟨ak, ck, rfl⟩ := own_form o3
    have z0 := hB0.cell
    have z3 := hBo.cell
    have hg2 : bp < wc.heap.size := hBo.lt
    have hg3 : w.heap.size < wc.heap.size := by omega
    have hl6 : o.vals.length ≤ 1000000 := HOO.out.2.2.2.2.2.2.1
    have HW := hid hWc
    have B0 := hid hB0
    have B1 := hid hB1
    have BO := hid hBo
    have O1 := hid o1
    have O2 := hid o2
    have O3 := hid o3
    clear hWc hB0 hB1 hBo o1 o2 o3
    go_wp2_with (first
      | (go_at_call 63; refine (rgood_any G _ H _ hUx _ (RdH.below HR.out (Bw.trans HW.out (Ly.bw (by repeat (first | exact Ly.refl _ | apply Ly.lay | apply Ly.alloc | apply Ly.drewN | apply Ly.drew))))) (by omega)).mono ?_; rintro e w' ⟨rfl, os, m, rfl⟩)
      | (at_builtin; refine wpList_append_own _ rfl _ _ 40 rfl (w.heap.size + 2) 38 i2 (.int .u64 0) 1 8 Try.underlying40 I2.out.1 I2.out.2.1 I2.out.2.2.1 I2.out.2.2.2 rfl (by decide) (.slice av o.vals.length cv) o.vals.length (o.vals.map (Value.int .u64)) rfl ((own_lay O2.out os m).alloc _) ⟨wc.heap.size + os.length, 0, none⟩ 1 1 [.int .u64 x] rfl rfl ?c1 ?c2 ?c3 ?c4 ?c5 ?_)
      | go_in)
    case c1 =>
      intro j u hj
      match j, hj with
      | 0, hj => simp at hj; subst hj; simp [Addr.add, go_sem]
    case c2 => intro u hu; simp at hu; subst hu; rfl
    case c3 => unfold maxLen; omega
    case c4 => omega
    case c5 => simp only [World.size_alloc, lay_size]; have := B1.out.lt; omega
    intro v' w1 hown hgr _
    obtain ⟨av', cv', e⟩ := own_form hown
    subst e
    have ho2 := (own_lay O2.out os m).alloc (.cells #[.int .u64 x] 38)
    have b0 := (B0.out.lay os m).alloc (.cells #[.int .u64 x] 38) |>.grownOwn ho2 (by decide) hgr
    have b1 := (B1.out.lay os m).alloc (.cells #[.int .u64 x] 38) |>.grownOwn ho2 (by decide) hgr
    have bo := (BO.out.lay os m).alloc (.cells #[.int .u64 x] 38) |>.grownOwn ho2 (by decide) hgr
    have ow1 := ((own_lay O1.out os m).alloc (.cells #[.int .u64 x] 38)).kept hgr (own_apart ho2 ((own_lay O1.out os m).alloc _) (by decide))
    have ow3 := ((own_lay O3.out os m).alloc (.cells #[.int .u64 x] 38)).kept hgr (own_apart ho2 ((own_lay O3.out os m).alloc _) (by decide))
    have hw1 := bw_grown (Bw.alloc (Bw.lay HW.out os m) (.cells #[.int .u64 x] 38)) (by omega) ho2 hgr
    have q0 := b0.cell
    have qo := bo.cell
    have qof := bo.free
    have B0' := hid b0
    have B1' := hid b1
    have BO' := hid bo
    have OW1 := hid ow1
    have OW2 := hid hown
    have OW3 := hid ow3
    have HW1 := hid hw1
    have hbpn : bp ≠ w.heap.size := by omega
    have hbpn' : w.heap.size ≠ bp := by omega
    clear ho2 b0 b1 bo ow1 ow3 hw1 hown hgr z0 z3
    go_wp2_with fail
    have hbw2 : Bw w (w1.setCell ⟨bp, 2, none⟩ (.slice av' (o.vals.length + 1) cv')) := Bw.setCell HW1.out (p := ⟨bp, 2, none⟩) (show w.heap.size ≤ bp by omega) _
    have ow1 := OW1.out.kept (grown_set w1 bp 2 (.slice av' (o.vals.length + 1) cv')) (own_not OW1.out BO'.out (by decide))
    have ow2 := OW2.out.kept (grown_set w1 bp 2 (.slice av' (o.vals.length + 1) cv')) (own_not OW2.out BO'.out (by decide))
    have ow3 := OW3.out.kept (grown_set w1 bp 2 (.slice av' (o.vals.length + 1) cv')) (own_not OW3.out BO'.out (by decide))
    have b1s := B1'.out.other (p := ⟨bp, 2, none⟩) (show bp ≠ w.heap.size + 1 by omega) (.slice av' (o.vals.length + 1) cv')
    have hb1lt := b1s.lt
    have hGs : ∀ b, (w1.setCell ⟨bp, 2, none⟩ (.slice av' (o.vals.length + 1) cv')).heap.size ≤ b → (G b ∧ b ≠ w.heap.size + 1) := fun b hb => ⟨HGN.out b (Nat.le_trans hbw2.size hb), by omega⟩
    have hG2 : ∀ b, w.heap.size + 2 ≤ b → (G b ∧ b ≠ w.heap.size + 1) := fun b hb => ⟨HGN.out b (by omega), by omega⟩
    have hRd2 : RdH (w1.setCell ⟨bp, 2, none⟩ (.slice av' (o.vals.length + 1) cv')) (fun b => G b ∧ b ≠ w.heap.size + 1) _ H := RdH.keep HR.out hbw2.size (fun b hb _ => hbw2.block b hb) (fun b hb hgb => ⟨hgb, by omega⟩)
    have hput := rput_any (fun b => G b ∧ b ≠ w.heap.size + 1) _ H v hU (idxV v).toNat HGE.out HKX.out (withVals o (o.vals ++ [x])) (.slice ab o.bytes.length cb) (.slice av' (o.vals.length + 1) cv') (.slice ak o.keys.length ck) _ hGs hRd2
      ⟨own_sl ow1 hG2, (by have := own_sl (G := fun b => G b ∧ b ≠ w.heap.size + 1) ow2 hG2; simpa [withVals, AObj.vals] using this), own_sl ow3 hG2⟩ hm
    refine hput.mono ?_
    rintro e w3 ⟨v', rfl, hrd, hbw3⟩
    have hrd' := hrd
    obtain ⟨va', t', rfl, _, hsl', _⟩ := hrd'
    obtain ⟨a3, c3, e3⟩ := hsl'.form
    rw [show ((H.1, H.2.set (idxV v).toNat (withVals o (o.vals ++ [x]))) : AHeap).2.length = H.2.length from List.length_set ..] at e3
    subst e3
    have b1w := b1s.bw hbw3
    have y1 := b1w.cell
    have y1f := b1w.free
    have HB1W := hid b1w
    have HRD := hid hrd
    have HBW3 := hid (Bw.trans hbw2 hbw3)
    clear hput hrd hbw3 hbw2 ow1 ow2 ow3 hGs b1s hsl' b1w q0 qo qof hb1lt hG2 hRd2
    go_wp2
    have bf := (HB1W.out.set 0 (.int .i64 H.1)).set 1 (.slice a3 H.2.length c3)
    have bfc := bf.cell
    refine bodyPost_ret (v := .tuple #[.agg #[.int .i64 H.1, .slice a3 H.2.length c3], .int .i64 0]) (by simp [results, Try.results41, go_sem, bfc]) rfl ?_
    refine ⟨_, rfl, RdH.keep HRD.out (by simp [World.setCell]) ?_ (fun b _ h => h.1), Bw.setCell (Bw.setCell HBW3.out (p := ⟨w.heap.size + 1, 0, none⟩) (show w.heap.size ≤ w.heap.size + 1 by omega) _) (p := ⟨w.heap.size + 1, 1, none⟩) (show w.heap.size ≤ w.heap.size + 1 by omega) _⟩
    intro b hb hgb
    rw [Below.heap_setCell _ _ _ _ (show b ≠ w.heap.size + 1 from hgb.2), Below.heap_setCell _ _ _ _ (show b ≠ w.heap.size + 1 from hgb.2)]

end Go.Proofs.Ytolfgkpmcfneiaa
