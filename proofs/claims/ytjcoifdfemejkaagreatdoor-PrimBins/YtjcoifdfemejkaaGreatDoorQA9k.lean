/- All that can be asked of a word: the contract of the statements' own 'asks'. -/
import Derived.Test.YtjcoifdfemejkaaGreatDoorM18
import Derived.Deep.RegionHeld3
import Derived.BigQuiet
set_option linter.unusedSimpArgs false
set_option linter.unusedVariables false
namespace Go.Proofs.YtjcoifdfemejkaaGreatDoor
open Go Go.RowKit

theorem kd_ref {k : Nat} (h : k ≤ 65536) : kd (4 * (k : Int) + 2) = 2 := by
  unfold kd
  rw [if_neg (by omega), if_neg (by omega), if_pos (by omega)]
  omega

theorem idx_refN {k : Nat} (h : k ≤ 65536) : idxV (4 * (k : Int) + 2) = k := by
  unfold idxV
  rw [if_pos (.inl (kd_ref h))]
  omega

theorem U_ref {k : Nat} (h : k ≤ 65536) : U (4 * (k : Int) + 2) := ⟨by omega, by omega⟩

theorem kk_at {H : AHeap} {k : Nat} (hk : k ≤ 65536) {o : AObj} (h : H.2[k]? = some o) : kk H (4 * (k : Int) + 2) = o.kind ∧ ob H (4 * (k : Int) + 2) = o := by
  have hl : k < H.2.length := (List.getElem?_eq_some_iff.1 h).1
  have h2 : ob H (4 * (k : Int) + 2) = o := by
    unfold ob
    rw [idx_refN hk]
    simp [List.getD, h]
  refine ⟨?_, h2⟩
  unfold kk
  rw [if_pos ⟨kd_ref hk, by rw [idx_refN hk]; omega⟩]
  have := h2
  unfold ob noObj at this
  exact congrArg AObj.kind this

theorem whole_any (G : Nat → Prop) (rv : Value) {b0 : Nat} {H : AHeap} {bs : List Nat} (v : Int) (hU : U v) (w : World) (hS : HS w b0 H bs) (h : RdH w G rv H) (hN : NeatH H) (hm : H.2.length ≤ 1000000) :
    Calls Tryz.prog 50 #[.pointer (some ⟨b0, 0, none⟩), rv, .int .u64 v, .int .i64 (kk H v)] w fun e w' => e = .returned (.bool true) ∧ Bw w w' := by
  by_cases h0 : kk H v = 0
  · rw [h0]; exact whole_none G rv v hU w hS h hN hm h0
  · have hr := kk_ref h0
    have hn := hN _ (List.mem_of_getElem? (ob_get hU hr.2.1).1)
    have h9 : kk H v = 1 ∨ kk H v = 2 ∨ kk H v = 3 ∨ kk H v = 4 ∨ kk H v = 5 ∨ kk H v = 6 ∨ kk H v = 7 ∨ kk H v = 8 ∨ kk H v = 9 := by
      have h1 := hn.2.2.1
      have h2 := hn.2.2.2
      have h3 := hr.2.2
      omega
    rcases h9 with e | e | e | e | e | e | e | e | e
    · rw [e]; exact whole_str G rv v hU w hS h hN hm e
    · rw [e]; exact whole_arr G rv v hU w hS h hN hm e
    · rw [e]; exact whole_rec G rv v hU w hS h hN hm e
    · rw [e]; exact whole_cell G rv v hU w hS h hN hm e
    · rw [e]; exact whole_fun G rv v hU w hS h hN hm e
    · rw [e]; exact whole_cplx G rv v hU w hS h hN hm e
    · rw [e]; exact whole_mon G rv v hU w hS h hN hm e
    · rw [e]; exact whole_box G rv v hU w hS h hN hm e
    · rw [e]; exact whole_thr G rv v hU w hS h hN hm e




set_option maxRecDepth 100000 in
set_option maxHeartbeats 32000000 in
theorem all_any (G : Nat → Prop) (rv : Value) {b0 : Nat} {H : AHeap} {bs : List Nat} (w : World) (hS : HS w b0 H bs) (h : RdH w G rv H) (hN : NeatH H) (hm : H.2.length ≤ 65536) :
    Calls Tryz.prog 9 #[.pointer (some ⟨b0, 0, none⟩), rv] w fun e w' => e = .returned (.bool true) ∧ Bw w w' := by
  have HSS := hid hS
  have HR := hid h
  have HN := hid hN
  have HOKH := hid hS.ok
  obtain ⟨va, t, rfl, ht, hs, hall⟩ := h
  obtain ⟨ah, ch, rfl⟩ := hs.form
  have HSL := hid hs
  have HT := hid ht
  have HALL := hid hall
  have B0 := hid (Blk.new w #[.int .i64 H.1, .slice ah H.2.length ch] 32)
  clear hS hN ht hs hall
  go_enter Tryz.func9, Tryz.ntmps9
  go_wp2
  go_loopw [5] (fun j wr => ∃ (i : Nat), i ≤ H.2.length ∧ j = .int .i64 i ∧ Blk wr w.heap.size #[.int .i64 H.1, .slice ah H.2.length ch] 32 ∧ Bw w wr) (fun j _ => H.2.length - (intOf j).toNat)
  case atStart => exact ⟨0, Nat.zero_le _, rfl, B0.out, Bw.alloc (Bw.refl w) _⟩
  case round =>
    obtain ⟨i, hi, rfl, hB, hW⟩ := hrel
    have BR := hid hB
    have HW := hid hW
    have z0 := hB.cell
    have hz0 : w.heap.size < wr.heap.size := hB.lt
    clear hB hW
    by_cases hlt : i < H.2.length
    · have hlt2 : (i : Int) < (H.2.length : Int) := by omega
      have hi0 : (0 : Int) ≤ (i : Int) := by omega
      obtain ⟨b, off, rfl, hb, _, hc⟩ := HSL.out.cellAt (by omega)
      obtain ⟨xx, hx⟩ : ∃ xx, t[i]? = some xx := ⟨_, List.getElem?_eq_getElem (by have := HT.out; omega)⟩
      obtain ⟨x1, x2, x3⟩ := xx
      have hg := List.getElem?_eq_getElem hlt
      have hol := HALL.out i _ _ hg hx
      have hka := kk_at (H := H) (k := i) (by omega) hg
      have hcc : ∀ j, j < 7 → w.cell? ⟨b, off + (i * 7 + j), none⟩ = (ocells H.2[i] x1 x2 x3)[j]? := fun j hj => (hc (i * 7 + j) (by omega)).trans (hcells_at H.2 t HT.out i _ _ hg hx j hj)
      obtain ⟨a2, k2, e2⟩ := hol.2.1.form
      simp only at e2
      subst e2
      have C0 := hid (show w.cell? ⟨b, off + i * 7, none⟩ = some (.int .i64 (kk H (4 * (i : Int) + 2))) by rw [hka.1]; exact hcc 0 (by omega))
      have C2 := hid (show w.cell? ⟨b, off + i * 7 + 2, none⟩ = some (.slice a2 H.2[i].vals.length k2) from hcc 2 (by omega))
      have HOL := hid hol.2.1
      have HKA := hid hka
      have HU4 := hid (U_ref (k := i) (by omega))
      have HVL := hid (show H.2[i].vals.length ≤ 1000000 from (HOKH.out _ (List.getElem_mem hlt)).2.2.2.2.2.2.1)
      have c0 : wr.cell? ⟨b, off + i * 7, none⟩ = some (.int .i64 (kk H (4 * (i : Int) + 2))) := (cell_bw HW.out hb).trans C0.out
      have hbr : b < wr.heap.size := Nat.lt_of_lt_of_le hb HW.out.size
      clear hc hcc hol hka hg hx
      generalize H.2[i] = o at C2 HOL HKA HVL
      go_wp2
      go_region_held3 (fun w' => w'.cell? ⟨w.heap.size, 0, none⟩ = some (.int .i64 H.1) ∧ w'.cell? ⟨w.heap.size, 1, none⟩ = some (.slice (some ⟨b, off, none⟩) H.2.length ch) ∧ w'.cell? ⟨b, off + i * 7, none⟩ = some (.int .i64 (kk H (4 * (i : Int) + 2)))) (first | (simp [go_sem]; done) | (simp [go_sem, *]; done))
        (first
          | (go_at_call 49; refine (kind_hs (4 * (i : Int) + 2) HU4.out _ (HSS.out.bw (by repeat (first | exact HW.out | apply Bw.drew | apply Bw.drewN)))).mono ?_; rintro e wq ⟨rfl, hwq⟩; subst wq)
          | (go_at_call 50; refine (whole_any G _ (4 * (i : Int) + 2) HU4.out _ (HSS.out.bw (by repeat (first | exact HW.out | apply Bw.drew | apply Bw.drewN))) (RdH.below HR.out (by repeat (first | exact HW.out | apply Bw.drew | apply Bw.drewN))) HN.out (by omega)).mono ?_; rintro e w6 ⟨rfl, hb6⟩; have HW6 := hid (Bw.trans (show Bw w _ from by repeat (first | exact HW.out | apply Bw.drew | apply Bw.drewN)) hb6); have B06 := hid ((show Blk _ w.heap.size #[.int .i64 H.1, .slice (some ⟨b, off, none⟩) H.2.length ch] 32 from by repeat (first | exact BR.out | apply Blk.drew)).bw hb6); have z06 := B06.out.cell; have hz6 : w.heap.size < w6.heap.size := B06.out.lt; have c06 : w6.cell? ⟨b, off + i * 7, none⟩ = some (.int .i64 (kk H (4 * (i : Int) + 2))) := (cell_bw HW6.out hb).trans C0.out; clear hb6)
          | fail)
      go_wp2
      go_loopw [7] (fun j wt => ∃ (k : Nat), k ≤ o.vals.length ∧ j = .int .i64 k ∧ Blk wt w.heap.size #[.int .i64 H.1, .slice (some ⟨b, off, none⟩) H.2.length ch] 32 ∧ Bw w wt) (fun j _ => o.vals.length - (intOf j).toNat)
      case atStart => exact ⟨0, Nat.zero_le _, rfl, B06.out, HW6.out⟩
      case round =>
        obtain ⟨k, hk, rfl, hB, hW⟩ := hrel
        have BT := hid hB
        have HWT := hid hW
        have zt := hB.cell
        have hzt : w.heap.size < wr.heap.size := hB.lt
        have d0 : wr.cell? ⟨b, off + i * 7, none⟩ = some (.int .i64 (kk H (4 * (i : Int) + 2))) := (cell_bw hW hb).trans C0.out
        have d2 : wr.cell? ⟨b, off + i * 7 + 2, none⟩ = some (.slice a2 o.vals.length k2) := (cell_bw hW hb).trans C2.out
        have hbt : b < wr.heap.size := Nat.lt_of_lt_of_le hb hW.size
        have hvl := HVL.out
        clear hB hW
        by_cases hkl : k < o.vals.length
        · have hkl2 : decide ((k : Int) < (o.vals.length : Int)) = true := decide_eq_true (by omega)
          by_cases h2 : kk H (4 * (i : Int) + 2) = 2
          · have h2b : (kk H (4 * (i : Int) + 2) == 2) = true := by simpa using h2
            obtain ⟨bv, ov, rfl, hbv, cv⟩ := (HOL.out.below HWT.out).at hkl
            have dv : wr.cell? ⟨bv, ov + k, none⟩ = some (.int .u64 o.vals[k]) := by rw [cv]; simp [hkl]
            have hkl3 : (k : Int) < (o.vals.length : Int) := by omega
            have HAT := hid (show aAtV H (4 * (i : Int) + 2) k = o.vals[k] by
              unfold aAtV
              rw [if_neg (by omega), if_pos (.inl h2), HKA.out.2, if_pos ⟨by omega, by omega⟩]
              simp [hkl])
            clear cv h2
            generalize o.vals[k] = ov0 at dv HAT
            go_wp2_with (first
              | (go_at_call 51; refine (at_any (4 * (i : Int) + 2) k HU4.out _ (HSS.out.bw HWT.out)).mono ?_; rw [HAT.out]; rintro e w' ⟨rfl, os, m, rfl⟩))
            go_roundw
            case rel => first | exact ⟨k + 1, by omega, by go_num, BT.out.lay _ _, Bw.lay HWT.out _ _⟩ | ((repeat apply Exists.intro); exact ⟨⟨k + 1, by omega, by go_num, BT.out.lay _ _, Bw.lay HWT.out _ _⟩, rfl⟩)
            case measure => simp [intOf]; omega
          · have h2b : (kk H (4 * (i : Int) + 2) == 2) = false := by simpa using h2
            go_wp2
            go_roundw
            case rel => exact ⟨i + 1, by omega, by go_num, BT.out, HWT.out⟩
            case measure => simp [intOf]; omega
        · have hkl2 : decide ((k : Int) < (o.vals.length : Int)) = false := decide_eq_false (by omega)
          go_wp2
          go_roundw
          case rel => exact ⟨i + 1, by omega, by go_num, BT.out, HWT.out⟩
          case measure => simp [intOf]; omega
    · have hlt2 : ¬ (i : Int) < (H.2.length : Int) := by omega
      go_wp2
      go_quiet (first | (go_at_call 52; refine Calls.quiet_of_same (count_hs _ (HSS.out.bw (Bw.drewN HW.out _)))))
      go_wp2
      all_goals go_ret
      all_goals exact ⟨rfl, Bw.drewN HW.out _⟩

end Go.Proofs.YtjcoifdfemejkaaGreatDoor

