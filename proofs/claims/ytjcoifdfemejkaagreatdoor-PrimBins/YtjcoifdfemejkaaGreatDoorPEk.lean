/- The program keeps a new object: the contract. -/
import Derived.Test.YtjcoifdfemejkaaGreatDoorM3
import Derived.Deep.RegionLaw
import Derived.Deep.RegionWith
set_option linter.unusedSimpArgs false
set_option linter.unusedVariables false
namespace Go.Proofs.YtjcoifdfemejkaaGreatDoor
open Go Go.RowKit

theorem infoPO : (Tryz.prog.info? 105).map (fun i => (i.zero, i.size, i.bytes)) = some (some (.agg #[.int .i64 0, .slice none 0 0, .slice none 0 0, .slice none 0 0, .int .i64 0, .int .u64 0, .int .u64 0]), 7, 104) := by kernel_rfl

set_option maxHeartbeats 16000000 in
theorem add_ok (G : Nat → Prop) {b0 : Nat} {H : AHeap} {vo : Value} {t : List (Value × Value × Value)} (o : AObj) (x : Value × Value × Value) (w : World) (hp : PH w b0 H vo t) (h : PO w G o x) (hok : OKo o)
    (hlong : pLong o = false) (hsound : pSound H.2.length o = true) (hmost : (H.2.length : Int) < H.1) :
    Calls Tryz.prog 56 #[.pointer (some ⟨b0, 0, none⟩), pobj o x] w fun e w' => ∃ vo' t', e = .returned (.tuple #[.int .u64 (4 * (H.2.length : Int) + 2), .int .i64 0]) ∧ PH w' b0 (H.1, H.2 ++ [o]) vo' t' ∧ Fr (hbs b0 vo t) w w' ∧ (∀ b ∈ hbs b0 vo' t', b ∈ hbs b0 vo t ∨ w.heap.size ≤ b) := by
  obtain ⟨vb, vk, vl⟩ := x
  have HP := hid hp
  have HO := hid h
  have HK := hid hok
  obtain ⟨ab, cb, rfl⟩ := h.1.form
  obtain ⟨ak, ck, rfl⟩ := h.2.1.form
  obtain ⟨al, cl, rfl⟩ := h.2.2.form
  have z0 := hp.blk.cell
  have z0f := hp.blk.free
  have hb0 : b0 < w.heap.size := hp.blk.lt
  obtain ⟨ao, co, rfl⟩ := own_form hp.row
  have hll := hp.most
  have hlt := hp.top
  have hl1 := hok.2.2.2.2.2.1
  have hl2 := hok.2.2.2.2.2.2.1
  have hl3 := hok.2.2.2.2.2.2.2
  have hm : H.2.length ≤ 9223372036854775807 := by omega
  clear h hp hok
  go_enter Tryz.func56, Tryz.ntmps56
  go_upto_region 7 with (first
    | (go_at_call 110; refine (tooLong_any G o _ _ (PO.bw HO.out (Bw.alloc (Bw.refl _) _)) (by omega) (by omega) (by omega)).mono ?_; rintro e w' ⟨rfl, os1, m1, rfl⟩)
    | (go_at_call 111; refine (sound_any G o _ _ (PH.ly HP.out (by repeat (first | exact Ly.refl _ | apply Ly.lay | apply Ly.alloc | apply Ly.drewN | apply Ly.drew))) (PO.bw HO.out (Ly.bw (by repeat (first | exact Ly.refl _ | apply Ly.lay | apply Ly.alloc | apply Ly.drewN | apply Ly.drew)))) HK.out.2.2.2.1 (by omega) (by omega) (by omega)).mono ?_; rintro e w' ⟨rfl, os2, m2, rfl⟩))
  go_region
  all_goals go_upto_region 9 with fail
  have hB := (Blk.new w #[.int .i64 o.kind, .slice ab o.bytes.length cb, .slice ak o.keys.length ck, .slice al o.vals.length cl, .int .i64 o.num, .int .u64 o.re, .int .u64 o.im] 105).lay (os1 ++ os2) (m1 + m2 + 1)
  have hW := ((Bw.refl w).alloc (.cells #[.int .i64 o.kind, .slice ab o.bytes.length cb, .slice ak o.keys.length ck, .slice al o.vals.length cl, .int .i64 o.num, .int .u64 o.re, .int .u64 o.im] 105)).lay (os1 ++ os2) (m1 + m2 + 1)
  generalize lay (w.alloc (.cells #[.int .i64 o.kind, .slice ab o.bytes.length cb, .slice ak o.keys.length ck, .slice al o.vals.length cl, .int .i64 o.num, .int .u64 o.re, .int .u64 o.im] 105)) (os1 ++ os2) (m1 + m2 + 1) = W at hB hW ⊢
  have HB := hid hB
  have HW := hid hW
  clear hB hW
  go_cut [] (fun wc => ∃ x1 x2 x3, Blk wc w.heap.size #[.int .i64 o.kind, x1, x2, x3, .int .i64 o.num, .int .u64 o.re, .int .u64 o.im] 105 ∧ New3 wc (w.heap.size + 1) o (x1, x2, x3) ∧ Bw w wc)
  case first =>
    have q1 : W.cell? ⟨w.heap.size, 1, none⟩ = some (.slice ab o.bytes.length cb) := HB.out.cell 1
    have q2 : W.cell? ⟨w.heap.size, 2, none⟩ = some (.slice ak o.keys.length ck) := HB.out.cell 2
    have q3 : W.cell? ⟨w.heap.size, 3, none⟩ = some (.slice al o.vals.length cl) := HB.out.cell 3
    clear z0 z0f HP HK hll hlt hlong hsound hmost hb0 hm
    go_region_with (first
      | (go_at_call 58; refine (cpB_any G _ _ _ _ (Sl.below HO.out.1 (Bw.drew HW.out)) (ints_one _ _) (by omega)).mono ?_; rintro e w1 ⟨v1, rfl, hown1, hbw1⟩; obtain ⟨ax1, cx1, rfl⟩ := own_form hown1; have OW1 := hid hown1; have BW1 := hid hbw1; have HB1 := hid (Blk.bw (w := W.drew) HB.out hbw1); clear hown1 hbw1; have r2 : w1.cell? ⟨w.heap.size, 2, none⟩ = some (.slice ak o.keys.length ck) := HB1.out.cell 2; have r3 : w1.cell? ⟨w.heap.size, 3, none⟩ = some (.slice al o.vals.length cl) := HB1.out.cell 3)
      | (go_at_call 112; refine (cpS_any G _ _ _ _ (Sl.below HO.out.2.1 (Bw.trans (Bw.drew HW.out) BW1.out)) (strs_one _) (by omega)).mono ?_; rintro e w2 ⟨v2, rfl, hown2, hbw2⟩; obtain ⟨ax2, cx2, rfl⟩ := own_form hown2; have OW2 := hid hown2; have BW2 := hid hbw2; have HB2 := hid (HB1.out.bw hbw2); clear hown2 hbw2; have s3 : w2.cell? ⟨w.heap.size, 3, none⟩ = some (.slice al o.vals.length cl) := HB2.out.cell 3)
      | (go_at_call 113; refine (cpV_any G _ _ _ _ (Sl.below HO.out.2.2 (Bw.trans (Bw.trans (Bw.drew HW.out) BW1.out) BW2.out)) (ints_one _ _) (by omega)).mono ?_; rintro e w3 ⟨v3, rfl, hown3, hbw3⟩; obtain ⟨ax3, cx3, rfl⟩ := own_form hown3; have OW3 := hid hown3; have BW3 := hid hbw3; have HB3 := hid (HB2.out.bw hbw3); have c3 := HB3.out.cell; have c3f := HB3.out.free; clear hown3 hbw3))
    all_goals
      go_wp2
      go_meet
      case rel => exact ⟨_, _, _, cut9 HB.out HW.out OW1.out BW1.out OW2.out BW2.out OW3.out BW3.out⟩
  case rest =>
    obtain ⟨x1, x2, x3, hBo, hN, hWc⟩ := hcut
    obtain ⟨a1, c1, rfl⟩ := own_form hN.r1
    obtain ⟨a2, c2, rfl⟩ := own_form hN.r2
    obtain ⟨a3, c3, rfl⟩ := own_form hN.r3
    have hpc := HP.out.bw hWc
    have y0 := hpc.blk.cell
    have y0f := hpc.blk.free
    have yo := hBo.cell
    have hsz := hWc.size
    have hb0c : b0 < wc.heap.size := by omega
    have hbo : w.heap.size < wc.heap.size := hBo.lt
    have HN := hid hN
    have HWc := hid hWc
    have HPC := hid hpc
    obtain ⟨i1, hi1, hz1, hs1, hy1⟩ := info_parts infoPO
    have I1 := hid (And.intro hi1 (And.intro hz1 (And.intro hs1 hy1)))
    have hn0 := HP.out.nd
    simp only [hbs, List.nodup_cons, List.mem_append, Option.mem_toList, not_or] at hn0
    have HN0 := hid hn0.1.1
    have HNW := hid (heap_alloc_new wc (.cells #[.int .i64 o.kind, .slice a1 o.bytes.length c1, .slice a2 o.keys.length c2, .slice a3 o.vals.length c3, .int .i64 o.num, .int .u64 o.re, .int .u64 o.im] 105))
    clear hBo hN hWc hpc z0 z0f hi1 hz1 hs1 hy1 hn0
    go_upto_region 10 with fail
    go_region_law (refine step_append_row rfl (.tmp 44) (.tmp 46) 100 rfl 105 i1 _ 7 104 Tryz.underlying100 I1.out.1 I1.out.2.1 I1.out.2.2.1 I1.out.2.2.2 rfl (by decide) (.slice ao H.2.length co) H.2.length (pcells H.2 t) (by simp [Act.eval, Act.put]) (show World.ownsRow ((wc.alloc _).drew) _ _ _ _ _ _ from HPC.out.row.alloc _) ⟨wc.heap.size, 0, none⟩ 1 1 (pcell o (.slice a1 o.bytes.length c1, .slice a2 o.keys.length c2, .slice a3 o.vals.length c3)) (by simp [Act.eval, Act.put]) rfl (new_cells (w := (wc.alloc _).drew) HNW.out rfl) (pcell_one _ _ rfl rfl rfl) (by unfold maxLen; omega) (by omega) ?_; intro v' w5 how hgr hvb; obtain ⟨av', cv', rfl⟩ := own_form how; have b5 := Blk.grownOwn (w := (wc.alloc _).drew) (HPC.out.blk.alloc _) (HPC.out.row.alloc _) (by decide) hgr; have y5 := b5.cell; have y5f := b5.free; have HOW := hid how; have HGR := hid hgr; have HVB := hid hvb; clear how hgr hvb b5)
    all_goals
      go_wp2_with (first | (go_at_call 114; refine (ref_any _ _).mono ?_; rintro e w' ⟨rfl, rfl⟩))
    all_goals go_ret2
    all_goals
      obtain ⟨h1, h2, h3⟩ := ph_add HP.out HWc.out HN.out HK.out hmost HOW.out HGR.out HVB.out
      refine ⟨_, _, ret_ii ?_ ?_, h1, h2, h3⟩
    all_goals (first | rw [refV, if_pos (by omega)] | rw [erI, if_pos (by omega)])

end Go.Proofs.YtjcoifdfemejkaaGreatDoor

