/- What an object is made of, asked of the program and of the document: the contract of the statements' own 'whole'. -/
import Derived.Test.YtolfgkpmcfneiaaQW
import Derived.BigQuiet
import Derived.Test.YtolfgkpmcfneiaaR3Q
import Derived.Test.YtolfgkpmcfneiaaR3M
import Derived.Laws.BytesString
set_option linter.unusedSimpArgs false
set_option linter.unusedVariables false
namespace Go.Proofs.Ytolfgkpmcfneiaa
open Go Go.RowKit

set_option maxRecDepth 100000 in
set_option maxHeartbeats 16000000 in
theorem whole_none (G : Nat → Prop) (rv : Value) {b0 : Nat} {H : AHeap} {bs : List Nat} (v : Int) (hU : U v) (w : World) (hS : HS w b0 H bs) (h : RdH w G rv H) (hN : NeatH H) (hm : H.2.length ≤ 1000000) (hk : kk H v = 0) :
    Calls Try.prog 45 #[.pointer (some ⟨b0, 0, none⟩), rv, .int .u64 v, .int .i64 0] w fun e w' => e = .returned (.bool true) ∧ Bw w w' := by
  have HSS := hid hS
  have HR := hid h
  have HKK := hid hk
  obtain ⟨va, t, rfl, ht, hs, ho⟩ := h
  obtain ⟨ah, ch, rfl⟩ := hs.form
  have hcvn := conv_nil
  clear hS ht hs ho hN hk
  go_enter Try.func45, Try.ntmps45
  go_wp2_with (first
    | (go_at_call 16; refine (bytes_no _ hU _ (HSS.out.bw (Ly.bw (by repeat (first | exact Ly.refl _ | apply Ly.lay | apply Ly.alloc | apply Ly.drewN | apply Ly.drew)))) (by rw [HKK.out]; decide)).mono ?_; rintro e w1 ⟨rfl, hly⟩; have hb1 := hly.bw; have HW1 := hid (Bw.trans (show Bw w _ from Ly.bw (by repeat (first | exact Ly.refl _ | apply Ly.lay | apply Ly.alloc | apply Ly.drewN | apply Ly.drew))) hb1); have B9 := hid ((show Blk _ (w.heap.size + 1) #[.int .i64 0, .slice none 0 0, .slice none 0 0, .slice none 0 0, .int .i64 0, .int .u64 0, .int .u64 0] 55 from (by repeat (first | exact (show Blk ((w.alloc (.cells #[.int .i64 H.1, .slice ah H.2.length ch] 31)).alloc (.cells #[.int .i64 0, .slice none 0 0, .slice none 0 0, .slice none 0 0, .int .i64 0, .int .u64 0, .int .u64 0] 55)) (w.heap.size + 1) #[.int .i64 0, .slice none 0 0, .slice none 0 0, .slice none 0 0, .int .i64 0, .int .u64 0, .int .u64 0] 55 by simpa using Blk.new (w.alloc (.cells #[.int .i64 H.1, .slice ah H.2.length ch] 31)) #[.int .i64 0, .slice none 0 0, .slice none 0 0, .slice none 0 0, .int .i64 0, .int .u64 0, .int .u64 0] 55) | apply Blk.lay | apply Blk.alloc))).bw hb1); have z9 := B9.out.cell; have hs9 : w.heap.size + 1 < w1.heap.size := B9.out.lt; have hcv1 := conv_nil w1;  clear hly hb1)
    | (go_at_call 17; refine (len_no _ hU _ (HSS.out.bw HW1.out) (by rw [HKK.out]; decide)).mono ?_; rintro e w2 ⟨rfl, hly⟩; have hb2 := hly.bw; have HW2 := hid (Bw.trans HW1.out hb2); have B92 := hid (B9.out.bw hb2); have z92 := B92.out.cell; have hs92 : w.heap.size + 1 < w2.heap.size := B92.out.lt; clear hly hb2)
    | (go_at_call 25; refine (keys_no _ hU _ (HSS.out.bw HW2.out) (by rw [HKK.out]; decide)).mono ?_; rintro e w3 ⟨rfl, hly⟩; have hb3 := hly.bw; have HW3 := hid (Bw.trans HW2.out hb3); have B93 := hid (B92.out.bw hb3); have z93 := B93.out.cell; have hs93 : w.heap.size + 1 < w3.heap.size := B93.out.lt; clear hly hb3)
    | (go_at_call 13; refine (num_any _ _).mono ?_; rintro e wq ⟨rfl, hwq⟩; subst wq))
  go_loopw [15] (fun j wr => ∃ (i : Nat), i ≤ 0 ∧ j = .int .i64 i ∧ Blk wr (w.heap.size + 1) #[.int .i64 0, .slice none 0 0, .slice none 0 0, .slice none 0 0, .int .i64 0, .int .u64 0, .int .u64 0] 55 ∧ Bw w wr ∧ Bw w3 wr) (fun j _ => 0 - (intOf j).toNat)
  case atStart => exact ⟨0, by omega, rfl, B93.out, HW3.out, Bw.refl _⟩
  case round =>
    obtain ⟨i, hi, rfl, hB, hW, hW3⟩ := hrel
    have B9r := hid hB
    have HWr := hid hW
    have BW3r := hid hW3
    have z9r := hB.cell
    have hs9r : w.heap.size + 1 < wr.heap.size := hB.lt
    clear hB hW hW3
    obtain rfl : i = 0 := by omega
    go_wp2_with (first
      | (go_at_call 22; refine (funOf_no _ hU _ (HSS.out.bw HWr.out) (by rw [HKK.out]; decide)).mono ?_; rintro e w4 ⟨rfl, hly⟩; have hb4 := hly.bw; have HW4 := hid (Bw.trans HWr.out hb4); have B94 := hid (B9r.out.bw hb4); have z94 := B94.out.cell; have hs94 : w.heap.size + 1 < w4.heap.size := B94.out.lt; clear hly hb4)
      | (go_at_call 23; refine (cplxOf_no _ hU _ (HSS.out.bw HW4.out) (by rw [HKK.out]; decide)).mono ?_; rintro e w5 ⟨rfl, hly⟩; have hb5 := hly.bw; have HW5 := hid (Bw.trans HW4.out hb5); have B95 := hid (B94.out.bw hb5); have z95 := B95.out.cell; have hs95 : w.heap.size + 1 < w5.heap.size := B95.out.lt; clear hly hb5)
      | (go_at_call 24; refine (itemOf_no _ hU _ (HSS.out.bw HW5.out) (by rw [HKK.out]; decide)).mono ?_; rintro e w6 ⟨rfl, hly⟩; have hb6 := hly.bw; have HW6 := hid (Bw.trans HW5.out hb6); have B96 := hid (B95.out.bw hb6); have z96 := B96.out.cell; have hs96 : w.heap.size + 1 < w6.heap.size := B96.out.lt; clear hly hb6)
      | (go_at_call 13; refine (num_any _ _).mono ?_; rintro e wq ⟨rfl, hwq⟩; subst wq))
    all_goals go_ret
    all_goals exact ⟨rfl, HW6.out⟩

set_option maxRecDepth 100000 in
set_option maxHeartbeats 16000000 in
theorem whole_str (G : Nat → Prop) (rv : Value) {b0 : Nat} {H : AHeap} {bs : List Nat} (v : Int) (hU : U v) (w : World) (hS : HS w b0 H bs) (h : RdH w G rv H) (hN : NeatH H) (hm : H.2.length ≤ 1000000) (hk : kk H v = 1) :
    Calls Try.prog 45 #[.pointer (some ⟨b0, 0, none⟩), rv, .int .u64 v, .int .i64 1] w fun e w' => e = .returned (.bool true) ∧ Bw w w' := by
  have HSS := hid hS
  have HR := hid h
  have HKK := hid hk
  obtain ⟨va, t, rfl, ht, hs, ho⟩ := h
  obtain ⟨ah, ch, rfl⟩ := hs.form
  have hkr := kk_ref (H := H) (v := v) (by omega)
  obtain ⟨hg, hge⟩ := ob_get (H := H) hU hkr.2.1
  have HOO := hid (ob_ok (v := v) hS.ok hU hkr.2.1)
  have HNE := hid (hN _ (List.mem_of_getElem? hg))
  have HG := hid hg
  have HGE := hid hge
  have HK2 := hid hkr.2.2
  clear hS ht hs ho hg hge hkr hN hk
  generalize hob : ob H v = o at *
  have HOB := hid hob
  clear hob
  have hl6 : o.vals.length ≤ 1000000 := HOO.out.2.2.2.2.2.2.1
  have hl7 : o.keys.length ≤ 1000000 := HOO.out.2.2.2.2.2.2.2
  have hl8 : o.bytes.length ≤ 1000000 := HOO.out.2.2.2.2.2.1
  have hko : o.kind = 1 := HK2.out.symm.trans HKK.out
  have hvl : (o.vals.length : Int) = 0 := by rw [show o.vals = [] from HOO.out.1 hko]; rfl
  have hkl : (o.keys.length : Int) = 0 := by rw [show o.keys = [] from HNE.out.1 (by omega)]; rfl
  have hre : ((0 : Int) != o.re) = false := by rw [(HNE.out.2.1 (by omega)).1]; rfl
  have him : ((0 : Int) != o.im) = false := by rw [(HNE.out.2.1 (by omega)).2]; rfl
  clear hko
  go_enter Try.func45, Try.ntmps45
  go_wp2_with (first
    | (go_at_call 62; refine (rof_any G _ H _ hU _ HGE.out _ HG.out w _ (Ly.bw (by repeat (first | exact Ly.refl _ | apply Ly.lay | apply Ly.alloc | apply Ly.drewN | apply Ly.drew))) HR.out (by omega)).mono ?_; rintro e w' ⟨vb, vv, vk, rfl, hol, os0, m0, rfl⟩; obtain ⟨ab, cb, rfl⟩ := hol.1.form; obtain ⟨av, cv, rfl⟩ := hol.2.1.form; obtain ⟨ak, ck, rfl⟩ := hol.2.2.form; have HOL := hid hol; clear hol)
    | (go_at_call 16; refine (bytes_yes _ hU _ (HSS.out.bw (Ly.bw (by repeat (first | exact Ly.refl _ | apply Ly.lay | apply Ly.alloc | apply Ly.drewN | apply Ly.drew)))) HKK.out).mono ?_; rw [HOB.out]; rintro e w1 ⟨r1, rfl, ho1, hb1⟩; obtain ⟨a1, c1, rfl⟩ := own_form ho1; have HW1 := hid (Bw.trans (show Bw w _ from Ly.bw (by repeat (first | exact Ly.refl _ | apply Ly.lay | apply Ly.alloc | apply Ly.drewN | apply Ly.drew))) hb1); have B9 := hid ((show Blk _ (w.heap.size + 1) #[.int .i64 o.kind, .slice ab o.bytes.length cb, .slice av o.vals.length cv, .slice ak o.keys.length ck, .int .i64 o.num, .int .u64 o.re, .int .u64 o.im] 55 from (by repeat (first | exact (show Blk ((w.alloc (.cells #[.int .i64 H.1, .slice ah H.2.length ch] 31)).alloc (.cells #[.int .i64 o.kind, .slice ab o.bytes.length cb, .slice av o.vals.length cv, .slice ak o.keys.length ck, .int .i64 o.num, .int .u64 o.re, .int .u64 o.im] 55)) (w.heap.size + 1) #[.int .i64 o.kind, .slice ab o.bytes.length cb, .slice av o.vals.length cv, .slice ak o.keys.length ck, .int .i64 o.num, .int .u64 o.re, .int .u64 o.im] 55 by simpa using Blk.new (w.alloc (.cells #[.int .i64 H.1, .slice ah H.2.length ch] 31)) #[.int .i64 o.kind, .slice ab o.bytes.length cb, .slice av o.vals.length cv, .slice ak o.keys.length ck, .int .i64 o.num, .int .u64 o.re, .int .u64 o.im] 55) | apply Blk.lay | apply Blk.alloc))).bw hb1); have z9 := B9.out.cell; have hs9 : w.heap.size + 1 < w1.heap.size := B9.out.lt; have hcv1 := conv_sl (own_sl (G := fun _ => True) ho1 (fun _ _ => trivial)); have hcv2 := conv_sl (HOL.out.1.below HW1.out); clear ho1 hb1)
    | (go_at_call 17; refine (len_str _ hU _ (HSS.out.bw HW1.out) HKK.out).mono ?_; rw [HOB.out]; rintro e w2 ⟨rfl, hly⟩; have hb2 := hly.bw; have HW2 := hid (Bw.trans HW1.out hb2); have B92 := hid (B9.out.bw hb2); have z92 := B92.out.cell; have hs92 : w.heap.size + 1 < w2.heap.size := B92.out.lt; clear hly hb2)
    | (go_at_call 25; refine (keys_no _ hU _ (HSS.out.bw HW2.out) (by rw [HKK.out]; decide)).mono ?_; rintro e w3 ⟨rfl, hly⟩; have hb3 := hly.bw; have HW3 := hid (Bw.trans HW2.out hb3); have B93 := hid (B92.out.bw hb3); have z93 := B93.out.cell; have hs93 : w.heap.size + 1 < w3.heap.size := B93.out.lt; clear hly hb3)
    | (go_at_call 13; refine (num_any _ _).mono ?_; rintro e wq ⟨rfl, hwq⟩; subst wq))
  go_loopw [15] (fun j wr => ∃ (i : Nat), i ≤ 0 ∧ j = .int .i64 i ∧ Blk wr (w.heap.size + 1) #[.int .i64 o.kind, .slice ab o.bytes.length cb, .slice av o.vals.length cv, .slice ak o.keys.length ck, .int .i64 o.num, .int .u64 o.re, .int .u64 o.im] 55 ∧ Bw w wr ∧ Bw w3 wr) (fun j _ => 0 - (intOf j).toNat)
  case atStart => exact ⟨0, by omega, rfl, B93.out, HW3.out, Bw.refl _⟩
  case round =>
    obtain ⟨i, hi, rfl, hB, hW, hW3⟩ := hrel
    have B9r := hid hB
    have HWr := hid hW
    have BW3r := hid hW3
    have z9r := hB.cell
    have hs9r : w.heap.size + 1 < wr.heap.size := hB.lt
    clear hB hW hW3
    obtain rfl : i = 0 := by omega
    go_wp2_with (first
      | (go_at_call 22; refine (funOf_no _ hU _ (HSS.out.bw HWr.out) (by rw [HKK.out]; decide)).mono ?_; rintro e w4 ⟨rfl, hly⟩; have hb4 := hly.bw; have HW4 := hid (Bw.trans HWr.out hb4); have B94 := hid (B9r.out.bw hb4); have z94 := B94.out.cell; have hs94 : w.heap.size + 1 < w4.heap.size := B94.out.lt; clear hly hb4)
      | (go_at_call 23; refine (cplxOf_no _ hU _ (HSS.out.bw HW4.out) (by rw [HKK.out]; decide)).mono ?_; rintro e w5 ⟨rfl, hly⟩; have hb5 := hly.bw; have HW5 := hid (Bw.trans HW4.out hb5); have B95 := hid (B94.out.bw hb5); have z95 := B95.out.cell; have hs95 : w.heap.size + 1 < w5.heap.size := B95.out.lt; clear hly hb5)
      | (go_at_call 24; refine (itemOf_no _ hU _ (HSS.out.bw HW5.out) (by rw [HKK.out]; decide)).mono ?_; rintro e w6 ⟨rfl, hly⟩; have hb6 := hly.bw; have HW6 := hid (Bw.trans HW5.out hb6); have B96 := hid (B95.out.bw hb6); have z96 := B96.out.cell; have hs96 : w.heap.size + 1 < w6.heap.size := B96.out.lt; clear hly hb6)
      | (go_at_call 13; refine (num_any _ _).mono ?_; rintro e wq ⟨rfl, hwq⟩; subst wq))
    all_goals go_ret
    all_goals exact ⟨rfl, HW6.out⟩

set_option maxRecDepth 100000 in
set_option maxHeartbeats 16000000 in
theorem whole_arr (G : Nat → Prop) (rv : Value) {b0 : Nat} {H : AHeap} {bs : List Nat} (v : Int) (hU : U v) (w : World) (hS : HS w b0 H bs) (h : RdH w G rv H) (hN : NeatH H) (hm : H.2.length ≤ 1000000) (hk : kk H v = 2) :
    Calls Try.prog 45 #[.pointer (some ⟨b0, 0, none⟩), rv, .int .u64 v, .int .i64 2] w fun e w' => e = .returned (.bool true) ∧ Bw w w' := by
  have HSS := hid hS
  have HR := hid h
  have HKK := hid hk
  obtain ⟨va, t, rfl, ht, hs, ho⟩ := h
  obtain ⟨ah, ch, rfl⟩ := hs.form
  have hkr := kk_ref (H := H) (v := v) (by omega)
  obtain ⟨hg, hge⟩ := ob_get (H := H) hU hkr.2.1
  have HOO := hid (ob_ok (v := v) hS.ok hU hkr.2.1)
  have HNE := hid (hN _ (List.mem_of_getElem? hg))
  have HG := hid hg
  have HGE := hid hge
  have HK2 := hid hkr.2.2
  clear hS ht hs ho hg hge hkr hN hk
  generalize hob : ob H v = o at *
  have HOB := hid hob
  clear hob
  have hl6 : o.vals.length ≤ 1000000 := HOO.out.2.2.2.2.2.2.1
  have hl7 : o.keys.length ≤ 1000000 := HOO.out.2.2.2.2.2.2.2
  have hl8 : o.bytes.length ≤ 1000000 := HOO.out.2.2.2.2.2.1
  have hko : o.kind = 2 := HK2.out.symm.trans HKK.out
  have HBY := hid (show o.bytes = [] from HOO.out.2.1 (by omega))
  have hbl : (o.bytes.length : Int) = 0 := by rw [HBY.out]; rfl
  have hkl : (o.keys.length : Int) = 0 := by rw [show o.keys = [] from HNE.out.1 (by omega)]; rfl
  have hre : ((0 : Int) != o.re) = false := by rw [(HNE.out.2.1 (by omega)).1]; rfl
  have him : ((0 : Int) != o.im) = false := by rw [(HNE.out.2.1 (by omega)).2]; rfl
  clear hko
  go_enter Try.func45, Try.ntmps45
  go_wp2_with (first
    | (go_at_call 62; refine (rof_any G _ H _ hU _ HGE.out _ HG.out w _ (Ly.bw (by repeat (first | exact Ly.refl _ | apply Ly.lay | apply Ly.alloc | apply Ly.drewN | apply Ly.drew))) HR.out (by omega)).mono ?_; rintro e w' ⟨vb, vv, vk, rfl, hol, os0, m0, rfl⟩; obtain ⟨ab, cb, rfl⟩ := hol.1.form; obtain ⟨av, cv, rfl⟩ := hol.2.1.form; obtain ⟨ak, ck, rfl⟩ := hol.2.2.form; have HOL := hid hol; clear hol)
    | (go_at_call 16; refine (bytes_no _ hU _ (HSS.out.bw (Ly.bw (by repeat (first | exact Ly.refl _ | apply Ly.lay | apply Ly.alloc | apply Ly.drewN | apply Ly.drew)))) (by rw [HKK.out]; decide)).mono ?_; rintro e w1 ⟨rfl, hly⟩; have hb1 := hly.bw; have HW1 := hid (Bw.trans (show Bw w _ from Ly.bw (by repeat (first | exact Ly.refl _ | apply Ly.lay | apply Ly.alloc | apply Ly.drewN | apply Ly.drew))) hb1); have B9 := hid ((show Blk _ (w.heap.size + 1) #[.int .i64 o.kind, .slice ab o.bytes.length cb, .slice av o.vals.length cv, .slice ak o.keys.length ck, .int .i64 o.num, .int .u64 o.re, .int .u64 o.im] 55 from (by repeat (first | exact (show Blk ((w.alloc (.cells #[.int .i64 H.1, .slice ah H.2.length ch] 31)).alloc (.cells #[.int .i64 o.kind, .slice ab o.bytes.length cb, .slice av o.vals.length cv, .slice ak o.keys.length ck, .int .i64 o.num, .int .u64 o.re, .int .u64 o.im] 55)) (w.heap.size + 1) #[.int .i64 o.kind, .slice ab o.bytes.length cb, .slice av o.vals.length cv, .slice ak o.keys.length ck, .int .i64 o.num, .int .u64 o.re, .int .u64 o.im] 55 by simpa using Blk.new (w.alloc (.cells #[.int .i64 H.1, .slice ah H.2.length ch] 31)) #[.int .i64 o.kind, .slice ab o.bytes.length cb, .slice av o.vals.length cv, .slice ak o.keys.length ck, .int .i64 o.num, .int .u64 o.re, .int .u64 o.im] 55) | apply Blk.lay | apply Blk.alloc))).bw hb1); have z9 := B9.out.cell; have hs9 : w.heap.size + 1 < w1.heap.size := B9.out.lt; have hcv1 := conv_nil w1; have hcv2 : (convert 39 9 (.slice ab o.bytes.length cb)).run Try.prog w1 = .ok (.string (strOfNums [])) w1 := (conv_sl (HOL.out.1.below HW1.out)).trans (by rw [HBY.out]); clear hly hb1)
    | (go_at_call 17; refine (len_list _ hU _ (HSS.out.bw HW1.out) (by rw [HKK.out]; decide)).mono ?_; rw [HOB.out]; rintro e w2 ⟨rfl, hly⟩; have hb2 := hly.bw; have HW2 := hid (Bw.trans HW1.out hb2); have B92 := hid (B9.out.bw hb2); have z92 := B92.out.cell; have hs92 : w.heap.size + 1 < w2.heap.size := B92.out.lt; clear hly hb2)
    | (go_at_call 25; refine (keys_no _ hU _ (HSS.out.bw HW2.out) (by rw [HKK.out]; decide)).mono ?_; rintro e w3 ⟨rfl, hly⟩; have hb3 := hly.bw; have HW3 := hid (Bw.trans HW2.out hb3); have B93 := hid (B92.out.bw hb3); have z93 := B93.out.cell; have hs93 : w.heap.size + 1 < w3.heap.size := B93.out.lt; clear hly hb3)
    | (go_at_call 13; refine (num_any _ _).mono ?_; rintro e wq ⟨rfl, hwq⟩; subst wq))
  go_loopw [15] (fun j wr => ∃ (i : Nat), i ≤ 0 ∧ j = .int .i64 i ∧ Blk wr (w.heap.size + 1) #[.int .i64 o.kind, .slice ab o.bytes.length cb, .slice av o.vals.length cv, .slice ak o.keys.length ck, .int .i64 o.num, .int .u64 o.re, .int .u64 o.im] 55 ∧ Bw w wr ∧ Bw w3 wr) (fun j _ => 0 - (intOf j).toNat)
  case atStart => exact ⟨0, by omega, rfl, B93.out, HW3.out, Bw.refl _⟩
  case round =>
    obtain ⟨i, hi, rfl, hB, hW, hW3⟩ := hrel
    have B9r := hid hB
    have HWr := hid hW
    have BW3r := hid hW3
    have z9r := hB.cell
    have hs9r : w.heap.size + 1 < wr.heap.size := hB.lt
    clear hB hW hW3
    obtain rfl : i = 0 := by omega
    go_wp2_with (first
      | (go_at_call 22; refine (funOf_no _ hU _ (HSS.out.bw HWr.out) (by rw [HKK.out]; decide)).mono ?_; rintro e w4 ⟨rfl, hly⟩; have hb4 := hly.bw; have HW4 := hid (Bw.trans HWr.out hb4); have B94 := hid (B9r.out.bw hb4); have z94 := B94.out.cell; have hs94 : w.heap.size + 1 < w4.heap.size := B94.out.lt; clear hly hb4)
      | (go_at_call 23; refine (cplxOf_no _ hU _ (HSS.out.bw HW4.out) (by rw [HKK.out]; decide)).mono ?_; rintro e w5 ⟨rfl, hly⟩; have hb5 := hly.bw; have HW5 := hid (Bw.trans HW4.out hb5); have B95 := hid (B94.out.bw hb5); have z95 := B95.out.cell; have hs95 : w.heap.size + 1 < w5.heap.size := B95.out.lt; clear hly hb5)
      | (go_at_call 24; refine (itemOf_no _ hU _ (HSS.out.bw HW5.out) (by rw [HKK.out]; decide)).mono ?_; rintro e w6 ⟨rfl, hly⟩; have hb6 := hly.bw; have HW6 := hid (Bw.trans HW5.out hb6); have B96 := hid (B95.out.bw hb6); have z96 := B96.out.cell; have hs96 : w.heap.size + 1 < w6.heap.size := B96.out.lt; clear hly hb6)
      | (go_at_call 13; refine (num_any _ _).mono ?_; rintro e wq ⟨rfl, hwq⟩; subst wq))
    all_goals go_ret
    all_goals exact ⟨rfl, HW6.out⟩

set_option maxRecDepth 100000 in
set_option maxHeartbeats 16000000 in
theorem whole_rec (G : Nat → Prop) (rv : Value) {b0 : Nat} {H : AHeap} {bs : List Nat} (v : Int) (hU : U v) (w : World) (hS : HS w b0 H bs) (h : RdH w G rv H) (hN : NeatH H) (hm : H.2.length ≤ 1000000) (hk : kk H v = 3) :
    Calls Try.prog 45 #[.pointer (some ⟨b0, 0, none⟩), rv, .int .u64 v, .int .i64 3] w fun e w' => e = .returned (.bool true) ∧ Bw w w' := by
  have HSS := hid hS
  have HR := hid h
  have HKK := hid hk
  obtain ⟨va, t, rfl, ht, hs, ho⟩ := h
  obtain ⟨ah, ch, rfl⟩ := hs.form
  have hkr := kk_ref (H := H) (v := v) (by omega)
  obtain ⟨hg, hge⟩ := ob_get (H := H) hU hkr.2.1
  have HOO := hid (ob_ok (v := v) hS.ok hU hkr.2.1)
  have HNE := hid (hN _ (List.mem_of_getElem? hg))
  have HG := hid hg
  have HGE := hid hge
  have HK2 := hid hkr.2.2
  clear hS ht hs ho hg hge hkr hN hk
  generalize hob : ob H v = o at *
  have HOB := hid hob
  clear hob
  have hl6 : o.vals.length ≤ 1000000 := HOO.out.2.2.2.2.2.2.1
  have hl7 : o.keys.length ≤ 1000000 := HOO.out.2.2.2.2.2.2.2
  have hl8 : o.bytes.length ≤ 1000000 := HOO.out.2.2.2.2.2.1
  have hko : o.kind = 3 := HK2.out.symm.trans HKK.out
  have HBY := hid (show o.bytes = [] from HOO.out.2.1 (by omega))
  have hbl : (o.bytes.length : Int) = 0 := by rw [HBY.out]; rfl
  have hre : ((0 : Int) != o.re) = false := by rw [(HNE.out.2.1 (by omega)).1]; rfl
  have him : ((0 : Int) != o.im) = false := by rw [(HNE.out.2.1 (by omega)).2]; rfl
  clear hko
  go_enter Try.func45, Try.ntmps45
  go_wp2_with (first
    | (go_at_call 62; refine (rof_any G _ H _ hU _ HGE.out _ HG.out w _ (Ly.bw (by repeat (first | exact Ly.refl _ | apply Ly.lay | apply Ly.alloc | apply Ly.drewN | apply Ly.drew))) HR.out (by omega)).mono ?_; rintro e w' ⟨vb, vv, vk, rfl, hol, os0, m0, rfl⟩; obtain ⟨ab, cb, rfl⟩ := hol.1.form; obtain ⟨av, cv, rfl⟩ := hol.2.1.form; obtain ⟨ak, ck, rfl⟩ := hol.2.2.form; have HOL := hid hol; clear hol)
    | (go_at_call 16; refine (bytes_no _ hU _ (HSS.out.bw (Ly.bw (by repeat (first | exact Ly.refl _ | apply Ly.lay | apply Ly.alloc | apply Ly.drewN | apply Ly.drew)))) (by rw [HKK.out]; decide)).mono ?_; rintro e w1 ⟨rfl, hly⟩; have hb1 := hly.bw; have HW1 := hid (Bw.trans (show Bw w _ from Ly.bw (by repeat (first | exact Ly.refl _ | apply Ly.lay | apply Ly.alloc | apply Ly.drewN | apply Ly.drew))) hb1); have B9 := hid ((show Blk _ (w.heap.size + 1) #[.int .i64 o.kind, .slice ab o.bytes.length cb, .slice av o.vals.length cv, .slice ak o.keys.length ck, .int .i64 o.num, .int .u64 o.re, .int .u64 o.im] 55 from (by repeat (first | exact (show Blk ((w.alloc (.cells #[.int .i64 H.1, .slice ah H.2.length ch] 31)).alloc (.cells #[.int .i64 o.kind, .slice ab o.bytes.length cb, .slice av o.vals.length cv, .slice ak o.keys.length ck, .int .i64 o.num, .int .u64 o.re, .int .u64 o.im] 55)) (w.heap.size + 1) #[.int .i64 o.kind, .slice ab o.bytes.length cb, .slice av o.vals.length cv, .slice ak o.keys.length ck, .int .i64 o.num, .int .u64 o.re, .int .u64 o.im] 55 by simpa using Blk.new (w.alloc (.cells #[.int .i64 H.1, .slice ah H.2.length ch] 31)) #[.int .i64 o.kind, .slice ab o.bytes.length cb, .slice av o.vals.length cv, .slice ak o.keys.length ck, .int .i64 o.num, .int .u64 o.re, .int .u64 o.im] 55) | apply Blk.lay | apply Blk.alloc))).bw hb1); have z9 := B9.out.cell; have hs9 : w.heap.size + 1 < w1.heap.size := B9.out.lt; have hcv1 := conv_nil w1; have hcv2 : (convert 39 9 (.slice ab o.bytes.length cb)).run Try.prog w1 = .ok (.string (strOfNums [])) w1 := (conv_sl (HOL.out.1.below HW1.out)).trans (by rw [HBY.out]); clear hly hb1)
    | (go_at_call 17; refine (len_list _ hU _ (HSS.out.bw HW1.out) (by rw [HKK.out]; decide)).mono ?_; rw [HOB.out]; rintro e w2 ⟨rfl, hly⟩; have hb2 := hly.bw; have HW2 := hid (Bw.trans HW1.out hb2); have B92 := hid (B9.out.bw hb2); have z92 := B92.out.cell; have hs92 : w.heap.size + 1 < w2.heap.size := B92.out.lt; clear hly hb2)
    | (go_at_call 25; refine (keys_yes _ hU _ (HSS.out.bw HW2.out) HKK.out).mono ?_; rw [HOB.out]; rintro e w3 ⟨r3, rfl, ho3, hb3⟩; obtain ⟨a3, c3, rfl⟩ := own_form ho3; have HO3 := hid ho3; have HW3 := hid (Bw.trans HW2.out hb3); have B93 := hid (B92.out.bw hb3); have z93 := B93.out.cell; have hs93 : w.heap.size + 1 < w3.heap.size := B93.out.lt; clear ho3 hb3)
    | (go_at_call 13; refine (num_any _ _).mono ?_; rintro e wq ⟨rfl, hwq⟩; subst wq))
  go_loopw [15] (fun j wr => ∃ (i : Nat), i ≤ o.keys.length ∧ j = .int .i64 i ∧ Blk wr (w.heap.size + 1) #[.int .i64 o.kind, .slice ab o.bytes.length cb, .slice av o.vals.length cv, .slice ak o.keys.length ck, .int .i64 o.num, .int .u64 o.re, .int .u64 o.im] 55 ∧ Bw w wr ∧ Bw w3 wr) (fun j _ => o.keys.length - (intOf j).toNat)
  case atStart => exact ⟨0, by omega, rfl, B93.out, HW3.out, Bw.refl _⟩
  case round =>
    obtain ⟨i, hi, rfl, hB, hW, hW3⟩ := hrel
    have B9r := hid hB
    have HWr := hid hW
    have BW3r := hid hW3
    have z9r := hB.cell
    have hs9r : w.heap.size + 1 < wr.heap.size := hB.lt
    clear hB hW hW3
    by_cases hlt : i < o.keys.length
    · have hlt2 : (i : Int) < (o.keys.length : Int) := by omega
      obtain ⟨g1, rfl, hg1, c1⟩ := own_at (own_bw HO3.out BW3r.out) hlt
      have cc1 : wr.cell? ⟨g1, i, none⟩ = some (.string o.keys[i]) := by rw [c1]; simp [hlt]
      obtain ⟨g2, off2, rfl, hg2, c2⟩ := (HOL.out.2.2.below HWr.out).at hlt
      have cc2 : wr.cell? ⟨g2, off2 + i, none⟩ = some (.string o.keys[i]) := by rw [c2]; simp [hlt]
      clear c1 c2
      generalize o.keys[i] = kx at cc1 cc2
      go_wp2
      go_quiet (fail)
      go_wp2
      go_roundw
      case rel => exact ⟨i + 1, by omega, by go_num, B9r.out, Bw.drewN HWr.out _, Bw.drewN BW3r.out _⟩
      case measure => simp [intOf]; omega
    · have hlt2 : ¬ (i : Int) < (o.keys.length : Int) := by omega
      go_wp2_with (first
        | (go_at_call 22; refine (funOf_no _ hU _ (HSS.out.bw HWr.out) (by rw [HKK.out]; decide)).mono ?_; rintro e w4 ⟨rfl, hly⟩; have hb4 := hly.bw; have HW4 := hid (Bw.trans HWr.out hb4); have B94 := hid (B9r.out.bw hb4); have z94 := B94.out.cell; have hs94 : w.heap.size + 1 < w4.heap.size := B94.out.lt; clear hly hb4)
        | (go_at_call 23; refine (cplxOf_no _ hU _ (HSS.out.bw HW4.out) (by rw [HKK.out]; decide)).mono ?_; rintro e w5 ⟨rfl, hly⟩; have hb5 := hly.bw; have HW5 := hid (Bw.trans HW4.out hb5); have B95 := hid (B94.out.bw hb5); have z95 := B95.out.cell; have hs95 : w.heap.size + 1 < w5.heap.size := B95.out.lt; clear hly hb5)
        | (go_at_call 24; refine (itemOf_no _ hU _ (HSS.out.bw HW5.out) (by rw [HKK.out]; decide)).mono ?_; rintro e w6 ⟨rfl, hly⟩; have hb6 := hly.bw; have HW6 := hid (Bw.trans HW5.out hb6); have B96 := hid (B95.out.bw hb6); have z96 := B96.out.cell; have hs96 : w.heap.size + 1 < w6.heap.size := B96.out.lt; clear hly hb6)
        | (go_at_call 13; refine (num_any _ _).mono ?_; rintro e wq ⟨rfl, hwq⟩; subst wq))
      all_goals go_ret
      all_goals exact ⟨rfl, HW6.out⟩

set_option maxRecDepth 100000 in
set_option maxHeartbeats 16000000 in
theorem whole_cell (G : Nat → Prop) (rv : Value) {b0 : Nat} {H : AHeap} {bs : List Nat} (v : Int) (hU : U v) (w : World) (hS : HS w b0 H bs) (h : RdH w G rv H) (hN : NeatH H) (hm : H.2.length ≤ 1000000) (hk : kk H v = 4) :
    Calls Try.prog 45 #[.pointer (some ⟨b0, 0, none⟩), rv, .int .u64 v, .int .i64 4] w fun e w' => e = .returned (.bool true) ∧ Bw w w' := by
  have HSS := hid hS
  have HR := hid h
  have HKK := hid hk
  obtain ⟨va, t, rfl, ht, hs, ho⟩ := h
  obtain ⟨ah, ch, rfl⟩ := hs.form
  have hkr := kk_ref (H := H) (v := v) (by omega)
  obtain ⟨hg, hge⟩ := ob_get (H := H) hU hkr.2.1
  have HOO := hid (ob_ok (v := v) hS.ok hU hkr.2.1)
  have HNE := hid (hN _ (List.mem_of_getElem? hg))
  have HG := hid hg
  have HGE := hid hge
  have HK2 := hid hkr.2.2
  clear hS ht hs ho hg hge hkr hN hk
  generalize hob : ob H v = o at *
  have HOB := hid hob
  clear hob
  have hl6 : o.vals.length ≤ 1000000 := HOO.out.2.2.2.2.2.2.1
  have hl7 : o.keys.length ≤ 1000000 := HOO.out.2.2.2.2.2.2.2
  have hl8 : o.bytes.length ≤ 1000000 := HOO.out.2.2.2.2.2.1
  have hko : o.kind = 4 := HK2.out.symm.trans HKK.out
  have HBY := hid (show o.bytes = [] from HOO.out.2.1 (by omega))
  have hbl : (o.bytes.length : Int) = 0 := by rw [HBY.out]; rfl
  have hkl : (o.keys.length : Int) = 0 := by rw [show o.keys = [] from HNE.out.1 (by omega)]; rfl
  have hre : ((0 : Int) != o.re) = false := by rw [(HNE.out.2.1 (by omega)).1]; rfl
  have him : ((0 : Int) != o.im) = false := by rw [(HNE.out.2.1 (by omega)).2]; rfl
  clear hko
  go_enter Try.func45, Try.ntmps45
  go_wp2_with (first
    | (go_at_call 62; refine (rof_any G _ H _ hU _ HGE.out _ HG.out w _ (Ly.bw (by repeat (first | exact Ly.refl _ | apply Ly.lay | apply Ly.alloc | apply Ly.drewN | apply Ly.drew))) HR.out (by omega)).mono ?_; rintro e w' ⟨vb, vv, vk, rfl, hol, os0, m0, rfl⟩; obtain ⟨ab, cb, rfl⟩ := hol.1.form; obtain ⟨av, cv, rfl⟩ := hol.2.1.form; obtain ⟨ak, ck, rfl⟩ := hol.2.2.form; have HOL := hid hol; clear hol)
    | (go_at_call 16; refine (bytes_no _ hU _ (HSS.out.bw (Ly.bw (by repeat (first | exact Ly.refl _ | apply Ly.lay | apply Ly.alloc | apply Ly.drewN | apply Ly.drew)))) (by rw [HKK.out]; decide)).mono ?_; rintro e w1 ⟨rfl, hly⟩; have hb1 := hly.bw; have HW1 := hid (Bw.trans (show Bw w _ from Ly.bw (by repeat (first | exact Ly.refl _ | apply Ly.lay | apply Ly.alloc | apply Ly.drewN | apply Ly.drew))) hb1); have B9 := hid ((show Blk _ (w.heap.size + 1) #[.int .i64 o.kind, .slice ab o.bytes.length cb, .slice av o.vals.length cv, .slice ak o.keys.length ck, .int .i64 o.num, .int .u64 o.re, .int .u64 o.im] 55 from (by repeat (first | exact (show Blk ((w.alloc (.cells #[.int .i64 H.1, .slice ah H.2.length ch] 31)).alloc (.cells #[.int .i64 o.kind, .slice ab o.bytes.length cb, .slice av o.vals.length cv, .slice ak o.keys.length ck, .int .i64 o.num, .int .u64 o.re, .int .u64 o.im] 55)) (w.heap.size + 1) #[.int .i64 o.kind, .slice ab o.bytes.length cb, .slice av o.vals.length cv, .slice ak o.keys.length ck, .int .i64 o.num, .int .u64 o.re, .int .u64 o.im] 55 by simpa using Blk.new (w.alloc (.cells #[.int .i64 H.1, .slice ah H.2.length ch] 31)) #[.int .i64 o.kind, .slice ab o.bytes.length cb, .slice av o.vals.length cv, .slice ak o.keys.length ck, .int .i64 o.num, .int .u64 o.re, .int .u64 o.im] 55) | apply Blk.lay | apply Blk.alloc))).bw hb1); have z9 := B9.out.cell; have hs9 : w.heap.size + 1 < w1.heap.size := B9.out.lt; have hcv1 := conv_nil w1; have hcv2 : (convert 39 9 (.slice ab o.bytes.length cb)).run Try.prog w1 = .ok (.string (strOfNums [])) w1 := (conv_sl (HOL.out.1.below HW1.out)).trans (by rw [HBY.out]); clear hly hb1)
    | (go_at_call 17; refine (len_no _ hU _ (HSS.out.bw HW1.out) (by rw [HKK.out]; decide)).mono ?_; rintro e w2 ⟨rfl, hly⟩; have hb2 := hly.bw; have HW2 := hid (Bw.trans HW1.out hb2); have B92 := hid (B9.out.bw hb2); have z92 := B92.out.cell; have hs92 : w.heap.size + 1 < w2.heap.size := B92.out.lt; clear hly hb2)
    | (go_at_call 25; refine (keys_no _ hU _ (HSS.out.bw HW2.out) (by rw [HKK.out]; decide)).mono ?_; rintro e w3 ⟨rfl, hly⟩; have hb3 := hly.bw; have HW3 := hid (Bw.trans HW2.out hb3); have B93 := hid (B92.out.bw hb3); have z93 := B93.out.cell; have hs93 : w.heap.size + 1 < w3.heap.size := B93.out.lt; clear hly hb3)
    | (go_at_call 13; refine (num_any _ _).mono ?_; rintro e wq ⟨rfl, hwq⟩; subst wq))
  go_loopw [15] (fun j wr => ∃ (i : Nat), i ≤ 0 ∧ j = .int .i64 i ∧ Blk wr (w.heap.size + 1) #[.int .i64 o.kind, .slice ab o.bytes.length cb, .slice av o.vals.length cv, .slice ak o.keys.length ck, .int .i64 o.num, .int .u64 o.re, .int .u64 o.im] 55 ∧ Bw w wr ∧ Bw w3 wr) (fun j _ => 0 - (intOf j).toNat)
  case atStart => exact ⟨0, by omega, rfl, B93.out, HW3.out, Bw.refl _⟩
  case round =>
    obtain ⟨i, hi, rfl, hB, hW, hW3⟩ := hrel
    have B9r := hid hB
    have HWr := hid hW
    have BW3r := hid hW3
    have z9r := hB.cell
    have hs9r : w.heap.size + 1 < wr.heap.size := hB.lt
    clear hB hW hW3
    obtain rfl : i = 0 := by omega
    go_wp2_with (first
      | (go_at_call 22; refine (funOf_no _ hU _ (HSS.out.bw HWr.out) (by rw [HKK.out]; decide)).mono ?_; rintro e w4 ⟨rfl, hly⟩; have hb4 := hly.bw; have HW4 := hid (Bw.trans HWr.out hb4); have B94 := hid (B9r.out.bw hb4); have z94 := B94.out.cell; have hs94 : w.heap.size + 1 < w4.heap.size := B94.out.lt; clear hly hb4)
      | (go_at_call 23; refine (cplxOf_no _ hU _ (HSS.out.bw HW4.out) (by rw [HKK.out]; decide)).mono ?_; rintro e w5 ⟨rfl, hly⟩; have hb5 := hly.bw; have HW5 := hid (Bw.trans HW4.out hb5); have B95 := hid (B94.out.bw hb5); have z95 := B95.out.cell; have hs95 : w.heap.size + 1 < w5.heap.size := B95.out.lt; clear hly hb5)
      | (go_at_call 24; refine (itemOf_no _ hU _ (HSS.out.bw HW5.out) (by rw [HKK.out]; decide)).mono ?_; rintro e w6 ⟨rfl, hly⟩; have hb6 := hly.bw; have HW6 := hid (Bw.trans HW5.out hb6); have B96 := hid (B95.out.bw hb6); have z96 := B96.out.cell; have hs96 : w.heap.size + 1 < w6.heap.size := B96.out.lt; clear hly hb6)
      | (go_at_call 13; refine (num_any _ _).mono ?_; rintro e wq ⟨rfl, hwq⟩; subst wq))
    all_goals go_ret
    all_goals exact ⟨rfl, HW6.out⟩


set_option maxRecDepth 100000 in
set_option maxHeartbeats 16000000 in
theorem whole_fun (G : Nat → Prop) (rv : Value) {b0 : Nat} {H : AHeap} {bs : List Nat} (v : Int) (hU : U v) (w : World) (hS : HS w b0 H bs) (h : RdH w G rv H) (hN : NeatH H) (hm : H.2.length ≤ 1000000) (hk : kk H v = 5) :
    Calls Try.prog 45 #[.pointer (some ⟨b0, 0, none⟩), rv, .int .u64 v, .int .i64 5] w fun e w' => e = .returned (.bool true) ∧ Bw w w' := by
  have HSS := hid hS
  have HR := hid h
  have HKK := hid hk
  obtain ⟨va, t, rfl, ht, hs, ho⟩ := h
  obtain ⟨ah, ch, rfl⟩ := hs.form
  have hkr := kk_ref (H := H) (v := v) (by omega)
  obtain ⟨hg, hge⟩ := ob_get (H := H) hU hkr.2.1
  have HOO := hid (ob_ok (v := v) hS.ok hU hkr.2.1)
  have HNE := hid (hN _ (List.mem_of_getElem? hg))
  have HG := hid hg
  have HGE := hid hge
  have HK2 := hid hkr.2.2
  clear hS ht hs ho hg hge hkr hN hk
  generalize hob : ob H v = o at *
  have HOB := hid hob
  clear hob
  have hl6 : o.vals.length ≤ 1000000 := HOO.out.2.2.2.2.2.2.1
  have hl7 : o.keys.length ≤ 1000000 := HOO.out.2.2.2.2.2.2.2
  have hl8 : o.bytes.length ≤ 1000000 := HOO.out.2.2.2.2.2.1
  have hko : o.kind = 5 := HK2.out.symm.trans HKK.out
  have HBY := hid (show o.bytes = [] from HOO.out.2.1 (by omega))
  have hbl : (o.bytes.length : Int) = 0 := by rw [HBY.out]; rfl
  have hkl : (o.keys.length : Int) = 0 := by rw [show o.keys = [] from HNE.out.1 (by omega)]; rfl
  have hre : ((0 : Int) != o.re) = false := by rw [(HNE.out.2.1 (by omega)).1]; rfl
  have him : ((0 : Int) != o.im) = false := by rw [(HNE.out.2.1 (by omega)).2]; rfl
  clear hko
  go_enter Try.func45, Try.ntmps45
  go_wp2_with (first
    | (go_at_call 62; refine (rof_any G _ H _ hU _ HGE.out _ HG.out w _ (Ly.bw (by repeat (first | exact Ly.refl _ | apply Ly.lay | apply Ly.alloc | apply Ly.drewN | apply Ly.drew))) HR.out (by omega)).mono ?_; rintro e w' ⟨vb, vv, vk, rfl, hol, os0, m0, rfl⟩; obtain ⟨ab, cb, rfl⟩ := hol.1.form; obtain ⟨av, cv, rfl⟩ := hol.2.1.form; obtain ⟨ak, ck, rfl⟩ := hol.2.2.form; have HOL := hid hol; clear hol)
    | (go_at_call 16; refine (bytes_no _ hU _ (HSS.out.bw (Ly.bw (by repeat (first | exact Ly.refl _ | apply Ly.lay | apply Ly.alloc | apply Ly.drewN | apply Ly.drew)))) (by rw [HKK.out]; decide)).mono ?_; rintro e w1 ⟨rfl, hly⟩; have hb1 := hly.bw; have HW1 := hid (Bw.trans (show Bw w _ from Ly.bw (by repeat (first | exact Ly.refl _ | apply Ly.lay | apply Ly.alloc | apply Ly.drewN | apply Ly.drew))) hb1); have B9 := hid ((show Blk _ (w.heap.size + 1) #[.int .i64 o.kind, .slice ab o.bytes.length cb, .slice av o.vals.length cv, .slice ak o.keys.length ck, .int .i64 o.num, .int .u64 o.re, .int .u64 o.im] 55 from (by repeat (first | exact (show Blk ((w.alloc (.cells #[.int .i64 H.1, .slice ah H.2.length ch] 31)).alloc (.cells #[.int .i64 o.kind, .slice ab o.bytes.length cb, .slice av o.vals.length cv, .slice ak o.keys.length ck, .int .i64 o.num, .int .u64 o.re, .int .u64 o.im] 55)) (w.heap.size + 1) #[.int .i64 o.kind, .slice ab o.bytes.length cb, .slice av o.vals.length cv, .slice ak o.keys.length ck, .int .i64 o.num, .int .u64 o.re, .int .u64 o.im] 55 by simpa using Blk.new (w.alloc (.cells #[.int .i64 H.1, .slice ah H.2.length ch] 31)) #[.int .i64 o.kind, .slice ab o.bytes.length cb, .slice av o.vals.length cv, .slice ak o.keys.length ck, .int .i64 o.num, .int .u64 o.re, .int .u64 o.im] 55) | apply Blk.lay | apply Blk.alloc))).bw hb1); have z9 := B9.out.cell; have hs9 : w.heap.size + 1 < w1.heap.size := B9.out.lt; have hcv1 := conv_nil w1; have hcv2 : (convert 39 9 (.slice ab o.bytes.length cb)).run Try.prog w1 = .ok (.string (strOfNums [])) w1 := (conv_sl (HOL.out.1.below HW1.out)).trans (by rw [HBY.out]); clear hly hb1)
    | (go_at_call 17; refine (len_no _ hU _ (HSS.out.bw HW1.out) (by rw [HKK.out]; decide)).mono ?_; rintro e w2 ⟨rfl, hly⟩; have hb2 := hly.bw; have HW2 := hid (Bw.trans HW1.out hb2); have B92 := hid (B9.out.bw hb2); have z92 := B92.out.cell; have hs92 : w.heap.size + 1 < w2.heap.size := B92.out.lt; clear hly hb2)
    | (go_at_call 25; refine (keys_no _ hU _ (HSS.out.bw HW2.out) (by rw [HKK.out]; decide)).mono ?_; rintro e w3 ⟨rfl, hly⟩; have hb3 := hly.bw; have HW3 := hid (Bw.trans HW2.out hb3); have B93 := hid (B92.out.bw hb3); have z93 := B93.out.cell; have hs93 : w.heap.size + 1 < w3.heap.size := B93.out.lt; clear hly hb3)
    | (go_at_call 13; refine (num_any _ _).mono ?_; rintro e wq ⟨rfl, hwq⟩; subst wq))
  go_loopw [15] (fun j wr => ∃ (i : Nat), i ≤ 0 ∧ j = .int .i64 i ∧ Blk wr (w.heap.size + 1) #[.int .i64 o.kind, .slice ab o.bytes.length cb, .slice av o.vals.length cv, .slice ak o.keys.length ck, .int .i64 o.num, .int .u64 o.re, .int .u64 o.im] 55 ∧ Bw w wr ∧ Bw w3 wr) (fun j _ => 0 - (intOf j).toNat)
  case atStart => exact ⟨0, by omega, rfl, B93.out, HW3.out, Bw.refl _⟩
  case round =>
    obtain ⟨i, hi, rfl, hB, hW, hW3⟩ := hrel
    have B9r := hid hB
    have HWr := hid hW
    have BW3r := hid hW3
    have z9r := hB.cell
    have hs9r : w.heap.size + 1 < wr.heap.size := hB.lt
    clear hB hW hW3
    obtain rfl : i = 0 := by omega
    go_wp2_with (first
      | (go_at_call 22; refine (funOf_yes _ hU _ (HSS.out.bw HWr.out) HKK.out).mono ?_; rw [HOB.out]; rintro e w4 ⟨r4, rfl, ho4, hb4⟩; obtain ⟨a4, c4, rfl⟩ := own_form ho4; have HO4 := hid ho4; have HW4 := hid (Bw.trans HWr.out hb4); have B94 := hid (B9r.out.bw hb4); have z94 := B94.out.cell; have hs94 : w.heap.size + 1 < w4.heap.size := B94.out.lt; clear ho4 hb4)
      | (go_at_call 37; refine (rsameL_any (fun _ => True) _ _ o.vals o.vals _ (own_sl HO4.out (fun _ _ => trivial)) (HOL.out.2.1.below HW4.out).any (by have := HOO.out.2.2.2.2.2.2.1; omega) (by have := HOO.out.2.2.2.2.2.2.1; omega)).mono ?_; rw [decide_eq_true (rfl : o.vals = o.vals)]; rintro e w8 ⟨rfl, hly⟩; have hb8 := hly.bw; have HW8 := hid (Bw.trans HW4.out hb8); have B98 := hid (B94.out.bw hb8); have z98 := B98.out.cell; have hs98 : w.heap.size + 1 < w8.heap.size := B98.out.lt; clear hly hb8)
      | (go_at_call 23; refine (cplxOf_no _ hU _ (HSS.out.bw HW8.out) (by rw [HKK.out]; decide)).mono ?_; rintro e w5 ⟨rfl, hly⟩; have hb5 := hly.bw; have HW5 := hid (Bw.trans HW8.out hb5); have B95 := hid (B98.out.bw hb5); have z95 := B95.out.cell; have hs95 : w.heap.size + 1 < w5.heap.size := B95.out.lt; clear hly hb5)
      | (go_at_call 24; refine (itemOf_no _ hU _ (HSS.out.bw HW5.out) (by rw [HKK.out]; decide)).mono ?_; rintro e w6 ⟨rfl, hly⟩; have hb6 := hly.bw; have HW6 := hid (Bw.trans HW5.out hb6); have B96 := hid (B95.out.bw hb6); have z96 := B96.out.cell; have hs96 : w.heap.size + 1 < w6.heap.size := B96.out.lt; clear hly hb6)
      | (go_at_call 13; refine (num_any _ _).mono ?_; rintro e wq ⟨rfl, hwq⟩; subst wq))
    all_goals go_ret
    all_goals exact ⟨rfl, HW6.out⟩

set_option maxRecDepth 100000 in
set_option maxHeartbeats 16000000 in
theorem whole_cplx (G : Nat → Prop) (rv : Value) {b0 : Nat} {H : AHeap} {bs : List Nat} (v : Int) (hU : U v) (w : World) (hS : HS w b0 H bs) (h : RdH w G rv H) (hN : NeatH H) (hm : H.2.length ≤ 1000000) (hk : kk H v = 6) :
    Calls Try.prog 45 #[.pointer (some ⟨b0, 0, none⟩), rv, .int .u64 v, .int .i64 6] w fun e w' => e = .returned (.bool true) ∧ Bw w w' := by
  have HSS := hid hS
  have HR := hid h
  have HKK := hid hk
  obtain ⟨va, t, rfl, ht, hs, ho⟩ := h
  obtain ⟨ah, ch, rfl⟩ := hs.form
  have hkr := kk_ref (H := H) (v := v) (by omega)
  obtain ⟨hg, hge⟩ := ob_get (H := H) hU hkr.2.1
  have HOO := hid (ob_ok (v := v) hS.ok hU hkr.2.1)
  have HNE := hid (hN _ (List.mem_of_getElem? hg))
  have HG := hid hg
  have HGE := hid hge
  have HK2 := hid hkr.2.2
  clear hS ht hs ho hg hge hkr hN hk
  generalize hob : ob H v = o at *
  have HOB := hid hob
  clear hob
  have hl6 : o.vals.length ≤ 1000000 := HOO.out.2.2.2.2.2.2.1
  have hl7 : o.keys.length ≤ 1000000 := HOO.out.2.2.2.2.2.2.2
  have hl8 : o.bytes.length ≤ 1000000 := HOO.out.2.2.2.2.2.1
  have hko : o.kind = 6 := HK2.out.symm.trans HKK.out
  have HBY := hid (show o.bytes = [] from HOO.out.2.1 (by omega))
  have hbl : (o.bytes.length : Int) = 0 := by rw [HBY.out]; rfl
  have hkl : (o.keys.length : Int) = 0 := by rw [show o.keys = [] from HNE.out.1 (by omega)]; rfl
  clear hko
  go_enter Try.func45, Try.ntmps45
  go_wp2_with (first
    | (go_at_call 62; refine (rof_any G _ H _ hU _ HGE.out _ HG.out w _ (Ly.bw (by repeat (first | exact Ly.refl _ | apply Ly.lay | apply Ly.alloc | apply Ly.drewN | apply Ly.drew))) HR.out (by omega)).mono ?_; rintro e w' ⟨vb, vv, vk, rfl, hol, os0, m0, rfl⟩; obtain ⟨ab, cb, rfl⟩ := hol.1.form; obtain ⟨av, cv, rfl⟩ := hol.2.1.form; obtain ⟨ak, ck, rfl⟩ := hol.2.2.form; have HOL := hid hol; clear hol)
    | (go_at_call 16; refine (bytes_no _ hU _ (HSS.out.bw (Ly.bw (by repeat (first | exact Ly.refl _ | apply Ly.lay | apply Ly.alloc | apply Ly.drewN | apply Ly.drew)))) (by rw [HKK.out]; decide)).mono ?_; rintro e w1 ⟨rfl, hly⟩; have hb1 := hly.bw; have HW1 := hid (Bw.trans (show Bw w _ from Ly.bw (by repeat (first | exact Ly.refl _ | apply Ly.lay | apply Ly.alloc | apply Ly.drewN | apply Ly.drew))) hb1); have B9 := hid ((show Blk _ (w.heap.size + 1) #[.int .i64 o.kind, .slice ab o.bytes.length cb, .slice av o.vals.length cv, .slice ak o.keys.length ck, .int .i64 o.num, .int .u64 o.re, .int .u64 o.im] 55 from (by repeat (first | exact (show Blk ((w.alloc (.cells #[.int .i64 H.1, .slice ah H.2.length ch] 31)).alloc (.cells #[.int .i64 o.kind, .slice ab o.bytes.length cb, .slice av o.vals.length cv, .slice ak o.keys.length ck, .int .i64 o.num, .int .u64 o.re, .int .u64 o.im] 55)) (w.heap.size + 1) #[.int .i64 o.kind, .slice ab o.bytes.length cb, .slice av o.vals.length cv, .slice ak o.keys.length ck, .int .i64 o.num, .int .u64 o.re, .int .u64 o.im] 55 by simpa using Blk.new (w.alloc (.cells #[.int .i64 H.1, .slice ah H.2.length ch] 31)) #[.int .i64 o.kind, .slice ab o.bytes.length cb, .slice av o.vals.length cv, .slice ak o.keys.length ck, .int .i64 o.num, .int .u64 o.re, .int .u64 o.im] 55) | apply Blk.lay | apply Blk.alloc))).bw hb1); have z9 := B9.out.cell; have hs9 : w.heap.size + 1 < w1.heap.size := B9.out.lt; have hcv1 := conv_nil w1; have hcv2 : (convert 39 9 (.slice ab o.bytes.length cb)).run Try.prog w1 = .ok (.string (strOfNums [])) w1 := (conv_sl (HOL.out.1.below HW1.out)).trans (by rw [HBY.out]); clear hly hb1)
    | (go_at_call 17; refine (len_no _ hU _ (HSS.out.bw HW1.out) (by rw [HKK.out]; decide)).mono ?_; rintro e w2 ⟨rfl, hly⟩; have hb2 := hly.bw; have HW2 := hid (Bw.trans HW1.out hb2); have B92 := hid (B9.out.bw hb2); have z92 := B92.out.cell; have hs92 : w.heap.size + 1 < w2.heap.size := B92.out.lt; clear hly hb2)
    | (go_at_call 25; refine (keys_no _ hU _ (HSS.out.bw HW2.out) (by rw [HKK.out]; decide)).mono ?_; rintro e w3 ⟨rfl, hly⟩; have hb3 := hly.bw; have HW3 := hid (Bw.trans HW2.out hb3); have B93 := hid (B92.out.bw hb3); have z93 := B93.out.cell; have hs93 : w.heap.size + 1 < w3.heap.size := B93.out.lt; clear hly hb3)
    | (go_at_call 13; refine (num_any _ _).mono ?_; rintro e wq ⟨rfl, hwq⟩; subst wq))
  go_loopw [15] (fun j wr => ∃ (i : Nat), i ≤ 0 ∧ j = .int .i64 i ∧ Blk wr (w.heap.size + 1) #[.int .i64 o.kind, .slice ab o.bytes.length cb, .slice av o.vals.length cv, .slice ak o.keys.length ck, .int .i64 o.num, .int .u64 o.re, .int .u64 o.im] 55 ∧ Bw w wr ∧ Bw w3 wr) (fun j _ => 0 - (intOf j).toNat)
  case atStart => exact ⟨0, by omega, rfl, B93.out, HW3.out, Bw.refl _⟩
  case round =>
    obtain ⟨i, hi, rfl, hB, hW, hW3⟩ := hrel
    have B9r := hid hB
    have HWr := hid hW
    have BW3r := hid hW3
    have z9r := hB.cell
    have hs9r : w.heap.size + 1 < wr.heap.size := hB.lt
    clear hB hW hW3
    obtain rfl : i = 0 := by omega
    go_wp2_with (first
      | (go_at_call 22; refine (funOf_no _ hU _ (HSS.out.bw HWr.out) (by rw [HKK.out]; decide)).mono ?_; rintro e w4 ⟨rfl, hly⟩; have hb4 := hly.bw; have HW4 := hid (Bw.trans HWr.out hb4); have B94 := hid (B9r.out.bw hb4); have z94 := B94.out.cell; have hs94 : w.heap.size + 1 < w4.heap.size := B94.out.lt; clear hly hb4)
      | (go_at_call 23; refine (cplxOf_yes _ hU _ (HSS.out.bw HW4.out) HKK.out).mono ?_; rw [HOB.out]; rintro e w5 ⟨rfl, hly⟩; have hb5 := hly.bw; have HW5 := hid (Bw.trans HW4.out hb5); have B95 := hid (B94.out.bw hb5); have z95 := B95.out.cell; have hs95 : w.heap.size + 1 < w5.heap.size := B95.out.lt; clear hly hb5)
      | (go_at_call 24; refine (itemOf_no _ hU _ (HSS.out.bw HW5.out) (by rw [HKK.out]; decide)).mono ?_; rintro e w6 ⟨rfl, hly⟩; have hb6 := hly.bw; have HW6 := hid (Bw.trans HW5.out hb6); have B96 := hid (B95.out.bw hb6); have z96 := B96.out.cell; have hs96 : w.heap.size + 1 < w6.heap.size := B96.out.lt; clear hly hb6)
      | (go_at_call 13; refine (num_any _ _).mono ?_; rintro e wq ⟨rfl, hwq⟩; subst wq))
    all_goals go_ret
    all_goals exact ⟨rfl, HW6.out⟩

set_option maxRecDepth 100000 in
set_option maxHeartbeats 16000000 in
theorem whole_mon (G : Nat → Prop) (rv : Value) {b0 : Nat} {H : AHeap} {bs : List Nat} (v : Int) (hU : U v) (w : World) (hS : HS w b0 H bs) (h : RdH w G rv H) (hN : NeatH H) (hm : H.2.length ≤ 1000000) (hk : kk H v = 7) :
    Calls Try.prog 45 #[.pointer (some ⟨b0, 0, none⟩), rv, .int .u64 v, .int .i64 7] w fun e w' => e = .returned (.bool true) ∧ Bw w w' := by
  have HSS := hid hS
  have HR := hid h
  have HKK := hid hk
  obtain ⟨va, t, rfl, ht, hs, ho⟩ := h
  obtain ⟨ah, ch, rfl⟩ := hs.form
  have hkr := kk_ref (H := H) (v := v) (by omega)
  obtain ⟨hg, hge⟩ := ob_get (H := H) hU hkr.2.1
  have HOO := hid (ob_ok (v := v) hS.ok hU hkr.2.1)
  have HNE := hid (hN _ (List.mem_of_getElem? hg))
  have HG := hid hg
  have HGE := hid hge
  have HK2 := hid hkr.2.2
  clear hS ht hs ho hg hge hkr hN hk
  generalize hob : ob H v = o at *
  have HOB := hid hob
  clear hob
  have hl6 : o.vals.length ≤ 1000000 := HOO.out.2.2.2.2.2.2.1
  have hl7 : o.keys.length ≤ 1000000 := HOO.out.2.2.2.2.2.2.2
  have hl8 : o.bytes.length ≤ 1000000 := HOO.out.2.2.2.2.2.1
  have hko : o.kind = 7 := HK2.out.symm.trans HKK.out
  have HBY := hid (show o.bytes = [] from HOO.out.2.1 (by omega))
  have hbl : (o.bytes.length : Int) = 0 := by rw [HBY.out]; rfl
  have hkl : (o.keys.length : Int) = 0 := by rw [show o.keys = [] from HNE.out.1 (by omega)]; rfl
  have hre : ((0 : Int) != o.re) = false := by rw [(HNE.out.2.1 (by omega)).1]; rfl
  have him : ((0 : Int) != o.im) = false := by rw [(HNE.out.2.1 (by omega)).2]; rfl
  clear hko
  go_enter Try.func45, Try.ntmps45
  go_wp2_with (first
    | (go_at_call 62; refine (rof_any G _ H _ hU _ HGE.out _ HG.out w _ (Ly.bw (by repeat (first | exact Ly.refl _ | apply Ly.lay | apply Ly.alloc | apply Ly.drewN | apply Ly.drew))) HR.out (by omega)).mono ?_; rintro e w' ⟨vb, vv, vk, rfl, hol, os0, m0, rfl⟩; obtain ⟨ab, cb, rfl⟩ := hol.1.form; obtain ⟨av, cv, rfl⟩ := hol.2.1.form; obtain ⟨ak, ck, rfl⟩ := hol.2.2.form; have HOL := hid hol; clear hol)
    | (go_at_call 16; refine (bytes_no _ hU _ (HSS.out.bw (Ly.bw (by repeat (first | exact Ly.refl _ | apply Ly.lay | apply Ly.alloc | apply Ly.drewN | apply Ly.drew)))) (by rw [HKK.out]; decide)).mono ?_; rintro e w1 ⟨rfl, hly⟩; have hb1 := hly.bw; have HW1 := hid (Bw.trans (show Bw w _ from Ly.bw (by repeat (first | exact Ly.refl _ | apply Ly.lay | apply Ly.alloc | apply Ly.drewN | apply Ly.drew))) hb1); have B9 := hid ((show Blk _ (w.heap.size + 1) #[.int .i64 o.kind, .slice ab o.bytes.length cb, .slice av o.vals.length cv, .slice ak o.keys.length ck, .int .i64 o.num, .int .u64 o.re, .int .u64 o.im] 55 from (by repeat (first | exact (show Blk ((w.alloc (.cells #[.int .i64 H.1, .slice ah H.2.length ch] 31)).alloc (.cells #[.int .i64 o.kind, .slice ab o.bytes.length cb, .slice av o.vals.length cv, .slice ak o.keys.length ck, .int .i64 o.num, .int .u64 o.re, .int .u64 o.im] 55)) (w.heap.size + 1) #[.int .i64 o.kind, .slice ab o.bytes.length cb, .slice av o.vals.length cv, .slice ak o.keys.length ck, .int .i64 o.num, .int .u64 o.re, .int .u64 o.im] 55 by simpa using Blk.new (w.alloc (.cells #[.int .i64 H.1, .slice ah H.2.length ch] 31)) #[.int .i64 o.kind, .slice ab o.bytes.length cb, .slice av o.vals.length cv, .slice ak o.keys.length ck, .int .i64 o.num, .int .u64 o.re, .int .u64 o.im] 55) | apply Blk.lay | apply Blk.alloc))).bw hb1); have z9 := B9.out.cell; have hs9 : w.heap.size + 1 < w1.heap.size := B9.out.lt; have hcv1 := conv_nil w1; have hcv2 : (convert 39 9 (.slice ab o.bytes.length cb)).run Try.prog w1 = .ok (.string (strOfNums [])) w1 := (conv_sl (HOL.out.1.below HW1.out)).trans (by rw [HBY.out]); clear hly hb1)
    | (go_at_call 17; refine (len_no _ hU _ (HSS.out.bw HW1.out) (by rw [HKK.out]; decide)).mono ?_; rintro e w2 ⟨rfl, hly⟩; have hb2 := hly.bw; have HW2 := hid (Bw.trans HW1.out hb2); have B92 := hid (B9.out.bw hb2); have z92 := B92.out.cell; have hs92 : w.heap.size + 1 < w2.heap.size := B92.out.lt; clear hly hb2)
    | (go_at_call 25; refine (keys_no _ hU _ (HSS.out.bw HW2.out) (by rw [HKK.out]; decide)).mono ?_; rintro e w3 ⟨rfl, hly⟩; have hb3 := hly.bw; have HW3 := hid (Bw.trans HW2.out hb3); have B93 := hid (B92.out.bw hb3); have z93 := B93.out.cell; have hs93 : w.heap.size + 1 < w3.heap.size := B93.out.lt; clear hly hb3)
    | (go_at_call 13; refine (num_any _ _).mono ?_; rintro e wq ⟨rfl, hwq⟩; subst wq))
  go_loopw [15] (fun j wr => ∃ (i : Nat), i ≤ 0 ∧ j = .int .i64 i ∧ Blk wr (w.heap.size + 1) #[.int .i64 o.kind, .slice ab o.bytes.length cb, .slice av o.vals.length cv, .slice ak o.keys.length ck, .int .i64 o.num, .int .u64 o.re, .int .u64 o.im] 55 ∧ Bw w wr ∧ Bw w3 wr) (fun j _ => 0 - (intOf j).toNat)
  case atStart => exact ⟨0, by omega, rfl, B93.out, HW3.out, Bw.refl _⟩
  case round =>
    obtain ⟨i, hi, rfl, hB, hW, hW3⟩ := hrel
    have B9r := hid hB
    have HWr := hid hW
    have BW3r := hid hW3
    have z9r := hB.cell
    have hs9r : w.heap.size + 1 < wr.heap.size := hB.lt
    clear hB hW hW3
    obtain rfl : i = 0 := by omega
    go_wp2_with (first
      | (go_at_call 22; refine (funOf_no _ hU _ (HSS.out.bw HWr.out) (by rw [HKK.out]; decide)).mono ?_; rintro e w4 ⟨rfl, hly⟩; have hb4 := hly.bw; have HW4 := hid (Bw.trans HWr.out hb4); have B94 := hid (B9r.out.bw hb4); have z94 := B94.out.cell; have hs94 : w.heap.size + 1 < w4.heap.size := B94.out.lt; clear hly hb4)
      | (go_at_call 23; refine (cplxOf_no _ hU _ (HSS.out.bw HW4.out) (by rw [HKK.out]; decide)).mono ?_; rintro e w5 ⟨rfl, hly⟩; have hb5 := hly.bw; have HW5 := hid (Bw.trans HW4.out hb5); have B95 := hid (B94.out.bw hb5); have z95 := B95.out.cell; have hs95 : w.heap.size + 1 < w5.heap.size := B95.out.lt; clear hly hb5)
      | (go_at_call 24; refine (itemOf_yes _ hU _ (HSS.out.bw HW5.out) (by rw [HKK.out]; decide)).mono ?_; rw [HOB.out]; rintro e w6 ⟨rfl, hly⟩; have hb6 := hly.bw; have HW6 := hid (Bw.trans HW5.out hb6); have B96 := hid (B95.out.bw hb6); have z96 := B96.out.cell; have hs96 : w.heap.size + 1 < w6.heap.size := B96.out.lt; clear hly hb6)
      | (go_at_call 13; refine (num_any _ _).mono ?_; rintro e wq ⟨rfl, hwq⟩; subst wq))
    all_goals go_ret
    all_goals exact ⟨rfl, HW6.out⟩

set_option maxRecDepth 100000 in
set_option maxHeartbeats 16000000 in
theorem whole_box (G : Nat → Prop) (rv : Value) {b0 : Nat} {H : AHeap} {bs : List Nat} (v : Int) (hU : U v) (w : World) (hS : HS w b0 H bs) (h : RdH w G rv H) (hN : NeatH H) (hm : H.2.length ≤ 1000000) (hk : kk H v = 8) :
    Calls Try.prog 45 #[.pointer (some ⟨b0, 0, none⟩), rv, .int .u64 v, .int .i64 8] w fun e w' => e = .returned (.bool true) ∧ Bw w w' := by
  have HSS := hid hS
  have HR := hid h
  have HKK := hid hk
  obtain ⟨va, t, rfl, ht, hs, ho⟩ := h
  obtain ⟨ah, ch, rfl⟩ := hs.form
  have hkr := kk_ref (H := H) (v := v) (by omega)
  obtain ⟨hg, hge⟩ := ob_get (H := H) hU hkr.2.1
  have HOO := hid (ob_ok (v := v) hS.ok hU hkr.2.1)
  have HNE := hid (hN _ (List.mem_of_getElem? hg))
  have HG := hid hg
  have HGE := hid hge
  have HK2 := hid hkr.2.2
  clear hS ht hs ho hg hge hkr hN hk
  generalize hob : ob H v = o at *
  have HOB := hid hob
  clear hob
  have hl6 : o.vals.length ≤ 1000000 := HOO.out.2.2.2.2.2.2.1
  have hl7 : o.keys.length ≤ 1000000 := HOO.out.2.2.2.2.2.2.2
  have hl8 : o.bytes.length ≤ 1000000 := HOO.out.2.2.2.2.2.1
  have hko : o.kind = 8 := HK2.out.symm.trans HKK.out
  have HBY := hid (show o.bytes = [] from HOO.out.2.1 (by omega))
  have hbl : (o.bytes.length : Int) = 0 := by rw [HBY.out]; rfl
  have hkl : (o.keys.length : Int) = 0 := by rw [show o.keys = [] from HNE.out.1 (by omega)]; rfl
  have hre : ((0 : Int) != o.re) = false := by rw [(HNE.out.2.1 (by omega)).1]; rfl
  have him : ((0 : Int) != o.im) = false := by rw [(HNE.out.2.1 (by omega)).2]; rfl
  clear hko
  go_enter Try.func45, Try.ntmps45
  go_wp2_with (first
    | (go_at_call 62; refine (rof_any G _ H _ hU _ HGE.out _ HG.out w _ (Ly.bw (by repeat (first | exact Ly.refl _ | apply Ly.lay | apply Ly.alloc | apply Ly.drewN | apply Ly.drew))) HR.out (by omega)).mono ?_; rintro e w' ⟨vb, vv, vk, rfl, hol, os0, m0, rfl⟩; obtain ⟨ab, cb, rfl⟩ := hol.1.form; obtain ⟨av, cv, rfl⟩ := hol.2.1.form; obtain ⟨ak, ck, rfl⟩ := hol.2.2.form; have HOL := hid hol; clear hol)
    | (go_at_call 16; refine (bytes_no _ hU _ (HSS.out.bw (Ly.bw (by repeat (first | exact Ly.refl _ | apply Ly.lay | apply Ly.alloc | apply Ly.drewN | apply Ly.drew)))) (by rw [HKK.out]; decide)).mono ?_; rintro e w1 ⟨rfl, hly⟩; have hb1 := hly.bw; have HW1 := hid (Bw.trans (show Bw w _ from Ly.bw (by repeat (first | exact Ly.refl _ | apply Ly.lay | apply Ly.alloc | apply Ly.drewN | apply Ly.drew))) hb1); have B9 := hid ((show Blk _ (w.heap.size + 1) #[.int .i64 o.kind, .slice ab o.bytes.length cb, .slice av o.vals.length cv, .slice ak o.keys.length ck, .int .i64 o.num, .int .u64 o.re, .int .u64 o.im] 55 from (by repeat (first | exact (show Blk ((w.alloc (.cells #[.int .i64 H.1, .slice ah H.2.length ch] 31)).alloc (.cells #[.int .i64 o.kind, .slice ab o.bytes.length cb, .slice av o.vals.length cv, .slice ak o.keys.length ck, .int .i64 o.num, .int .u64 o.re, .int .u64 o.im] 55)) (w.heap.size + 1) #[.int .i64 o.kind, .slice ab o.bytes.length cb, .slice av o.vals.length cv, .slice ak o.keys.length ck, .int .i64 o.num, .int .u64 o.re, .int .u64 o.im] 55 by simpa using Blk.new (w.alloc (.cells #[.int .i64 H.1, .slice ah H.2.length ch] 31)) #[.int .i64 o.kind, .slice ab o.bytes.length cb, .slice av o.vals.length cv, .slice ak o.keys.length ck, .int .i64 o.num, .int .u64 o.re, .int .u64 o.im] 55) | apply Blk.lay | apply Blk.alloc))).bw hb1); have z9 := B9.out.cell; have hs9 : w.heap.size + 1 < w1.heap.size := B9.out.lt; have hcv1 := conv_nil w1; have hcv2 : (convert 39 9 (.slice ab o.bytes.length cb)).run Try.prog w1 = .ok (.string (strOfNums [])) w1 := (conv_sl (HOL.out.1.below HW1.out)).trans (by rw [HBY.out]); clear hly hb1)
    | (go_at_call 17; refine (len_no _ hU _ (HSS.out.bw HW1.out) (by rw [HKK.out]; decide)).mono ?_; rintro e w2 ⟨rfl, hly⟩; have hb2 := hly.bw; have HW2 := hid (Bw.trans HW1.out hb2); have B92 := hid (B9.out.bw hb2); have z92 := B92.out.cell; have hs92 : w.heap.size + 1 < w2.heap.size := B92.out.lt; clear hly hb2)
    | (go_at_call 25; refine (keys_no _ hU _ (HSS.out.bw HW2.out) (by rw [HKK.out]; decide)).mono ?_; rintro e w3 ⟨rfl, hly⟩; have hb3 := hly.bw; have HW3 := hid (Bw.trans HW2.out hb3); have B93 := hid (B92.out.bw hb3); have z93 := B93.out.cell; have hs93 : w.heap.size + 1 < w3.heap.size := B93.out.lt; clear hly hb3)
    | (go_at_call 13; refine (num_any _ _).mono ?_; rintro e wq ⟨rfl, hwq⟩; subst wq))
  go_loopw [15] (fun j wr => ∃ (i : Nat), i ≤ 0 ∧ j = .int .i64 i ∧ Blk wr (w.heap.size + 1) #[.int .i64 o.kind, .slice ab o.bytes.length cb, .slice av o.vals.length cv, .slice ak o.keys.length ck, .int .i64 o.num, .int .u64 o.re, .int .u64 o.im] 55 ∧ Bw w wr ∧ Bw w3 wr) (fun j _ => 0 - (intOf j).toNat)
  case atStart => exact ⟨0, by omega, rfl, B93.out, HW3.out, Bw.refl _⟩
  case round =>
    obtain ⟨i, hi, rfl, hB, hW, hW3⟩ := hrel
    have B9r := hid hB
    have HWr := hid hW
    have BW3r := hid hW3
    have z9r := hB.cell
    have hs9r : w.heap.size + 1 < wr.heap.size := hB.lt
    clear hB hW hW3
    obtain rfl : i = 0 := by omega
    go_wp2_with (first
      | (go_at_call 22; refine (funOf_no _ hU _ (HSS.out.bw HWr.out) (by rw [HKK.out]; decide)).mono ?_; rintro e w4 ⟨rfl, hly⟩; have hb4 := hly.bw; have HW4 := hid (Bw.trans HWr.out hb4); have B94 := hid (B9r.out.bw hb4); have z94 := B94.out.cell; have hs94 : w.heap.size + 1 < w4.heap.size := B94.out.lt; clear hly hb4)
      | (go_at_call 23; refine (cplxOf_no _ hU _ (HSS.out.bw HW4.out) (by rw [HKK.out]; decide)).mono ?_; rintro e w5 ⟨rfl, hly⟩; have hb5 := hly.bw; have HW5 := hid (Bw.trans HW4.out hb5); have B95 := hid (B94.out.bw hb5); have z95 := B95.out.cell; have hs95 : w.heap.size + 1 < w5.heap.size := B95.out.lt; clear hly hb5)
      | (go_at_call 24; refine (itemOf_yes _ hU _ (HSS.out.bw HW5.out) (by rw [HKK.out]; decide)).mono ?_; rw [HOB.out]; rintro e w6 ⟨rfl, hly⟩; have hb6 := hly.bw; have HW6 := hid (Bw.trans HW5.out hb6); have B96 := hid (B95.out.bw hb6); have z96 := B96.out.cell; have hs96 : w.heap.size + 1 < w6.heap.size := B96.out.lt; clear hly hb6)
      | (go_at_call 13; refine (num_any _ _).mono ?_; rintro e wq ⟨rfl, hwq⟩; subst wq))
    all_goals go_ret
    all_goals exact ⟨rfl, HW6.out⟩

set_option maxRecDepth 100000 in
set_option maxHeartbeats 16000000 in
theorem whole_thr (G : Nat → Prop) (rv : Value) {b0 : Nat} {H : AHeap} {bs : List Nat} (v : Int) (hU : U v) (w : World) (hS : HS w b0 H bs) (h : RdH w G rv H) (hN : NeatH H) (hm : H.2.length ≤ 1000000) (hk : kk H v = 9) :
    Calls Try.prog 45 #[.pointer (some ⟨b0, 0, none⟩), rv, .int .u64 v, .int .i64 9] w fun e w' => e = .returned (.bool true) ∧ Bw w w' := by
  have HSS := hid hS
  have HR := hid h
  have HKK := hid hk
  obtain ⟨va, t, rfl, ht, hs, ho⟩ := h
  obtain ⟨ah, ch, rfl⟩ := hs.form
  have hkr := kk_ref (H := H) (v := v) (by omega)
  obtain ⟨hg, hge⟩ := ob_get (H := H) hU hkr.2.1
  have HOO := hid (ob_ok (v := v) hS.ok hU hkr.2.1)
  have HNE := hid (hN _ (List.mem_of_getElem? hg))
  have HG := hid hg
  have HGE := hid hge
  have HK2 := hid hkr.2.2
  clear hS ht hs ho hg hge hkr hN hk
  generalize hob : ob H v = o at *
  have HOB := hid hob
  clear hob
  have hl6 : o.vals.length ≤ 1000000 := HOO.out.2.2.2.2.2.2.1
  have hl7 : o.keys.length ≤ 1000000 := HOO.out.2.2.2.2.2.2.2
  have hl8 : o.bytes.length ≤ 1000000 := HOO.out.2.2.2.2.2.1
  have hko : o.kind = 9 := HK2.out.symm.trans HKK.out
  have HBY := hid (show o.bytes = [] from HOO.out.2.1 (by omega))
  have hbl : (o.bytes.length : Int) = 0 := by rw [HBY.out]; rfl
  have hkl : (o.keys.length : Int) = 0 := by rw [show o.keys = [] from HNE.out.1 (by omega)]; rfl
  have hre : ((0 : Int) != o.re) = false := by rw [(HNE.out.2.1 (by omega)).1]; rfl
  have him : ((0 : Int) != o.im) = false := by rw [(HNE.out.2.1 (by omega)).2]; rfl
  clear hko
  go_enter Try.func45, Try.ntmps45
  go_wp2_with (first
    | (go_at_call 62; refine (rof_any G _ H _ hU _ HGE.out _ HG.out w _ (Ly.bw (by repeat (first | exact Ly.refl _ | apply Ly.lay | apply Ly.alloc | apply Ly.drewN | apply Ly.drew))) HR.out (by omega)).mono ?_; rintro e w' ⟨vb, vv, vk, rfl, hol, os0, m0, rfl⟩; obtain ⟨ab, cb, rfl⟩ := hol.1.form; obtain ⟨av, cv, rfl⟩ := hol.2.1.form; obtain ⟨ak, ck, rfl⟩ := hol.2.2.form; have HOL := hid hol; clear hol)
    | (go_at_call 16; refine (bytes_no _ hU _ (HSS.out.bw (Ly.bw (by repeat (first | exact Ly.refl _ | apply Ly.lay | apply Ly.alloc | apply Ly.drewN | apply Ly.drew)))) (by rw [HKK.out]; decide)).mono ?_; rintro e w1 ⟨rfl, hly⟩; have hb1 := hly.bw; have HW1 := hid (Bw.trans (show Bw w _ from Ly.bw (by repeat (first | exact Ly.refl _ | apply Ly.lay | apply Ly.alloc | apply Ly.drewN | apply Ly.drew))) hb1); have B9 := hid ((show Blk _ (w.heap.size + 1) #[.int .i64 o.kind, .slice ab o.bytes.length cb, .slice av o.vals.length cv, .slice ak o.keys.length ck, .int .i64 o.num, .int .u64 o.re, .int .u64 o.im] 55 from (by repeat (first | exact (show Blk ((w.alloc (.cells #[.int .i64 H.1, .slice ah H.2.length ch] 31)).alloc (.cells #[.int .i64 o.kind, .slice ab o.bytes.length cb, .slice av o.vals.length cv, .slice ak o.keys.length ck, .int .i64 o.num, .int .u64 o.re, .int .u64 o.im] 55)) (w.heap.size + 1) #[.int .i64 o.kind, .slice ab o.bytes.length cb, .slice av o.vals.length cv, .slice ak o.keys.length ck, .int .i64 o.num, .int .u64 o.re, .int .u64 o.im] 55 by simpa using Blk.new (w.alloc (.cells #[.int .i64 H.1, .slice ah H.2.length ch] 31)) #[.int .i64 o.kind, .slice ab o.bytes.length cb, .slice av o.vals.length cv, .slice ak o.keys.length ck, .int .i64 o.num, .int .u64 o.re, .int .u64 o.im] 55) | apply Blk.lay | apply Blk.alloc))).bw hb1); have z9 := B9.out.cell; have hs9 : w.heap.size + 1 < w1.heap.size := B9.out.lt; have hcv1 := conv_nil w1; have hcv2 : (convert 39 9 (.slice ab o.bytes.length cb)).run Try.prog w1 = .ok (.string (strOfNums [])) w1 := (conv_sl (HOL.out.1.below HW1.out)).trans (by rw [HBY.out]); clear hly hb1)
    | (go_at_call 17; refine (len_no _ hU _ (HSS.out.bw HW1.out) (by rw [HKK.out]; decide)).mono ?_; rintro e w2 ⟨rfl, hly⟩; have hb2 := hly.bw; have HW2 := hid (Bw.trans HW1.out hb2); have B92 := hid (B9.out.bw hb2); have z92 := B92.out.cell; have hs92 : w.heap.size + 1 < w2.heap.size := B92.out.lt; clear hly hb2)
    | (go_at_call 25; refine (keys_no _ hU _ (HSS.out.bw HW2.out) (by rw [HKK.out]; decide)).mono ?_; rintro e w3 ⟨rfl, hly⟩; have hb3 := hly.bw; have HW3 := hid (Bw.trans HW2.out hb3); have B93 := hid (B92.out.bw hb3); have z93 := B93.out.cell; have hs93 : w.heap.size + 1 < w3.heap.size := B93.out.lt; clear hly hb3)
    | (go_at_call 13; refine (num_any _ _).mono ?_; rintro e wq ⟨rfl, hwq⟩; subst wq))
  go_loopw [15] (fun j wr => ∃ (i : Nat), i ≤ 0 ∧ j = .int .i64 i ∧ Blk wr (w.heap.size + 1) #[.int .i64 o.kind, .slice ab o.bytes.length cb, .slice av o.vals.length cv, .slice ak o.keys.length ck, .int .i64 o.num, .int .u64 o.re, .int .u64 o.im] 55 ∧ Bw w wr ∧ Bw w3 wr) (fun j _ => 0 - (intOf j).toNat)
  case atStart => exact ⟨0, by omega, rfl, B93.out, HW3.out, Bw.refl _⟩
  case round =>
    obtain ⟨i, hi, rfl, hB, hW, hW3⟩ := hrel
    have B9r := hid hB
    have HWr := hid hW
    have BW3r := hid hW3
    have z9r := hB.cell
    have hs9r : w.heap.size + 1 < wr.heap.size := hB.lt
    clear hB hW hW3
    obtain rfl : i = 0 := by omega
    go_wp2_with (first
      | (go_at_call 22; refine (funOf_no _ hU _ (HSS.out.bw HWr.out) (by rw [HKK.out]; decide)).mono ?_; rintro e w4 ⟨rfl, hly⟩; have hb4 := hly.bw; have HW4 := hid (Bw.trans HWr.out hb4); have B94 := hid (B9r.out.bw hb4); have z94 := B94.out.cell; have hs94 : w.heap.size + 1 < w4.heap.size := B94.out.lt; clear hly hb4)
      | (go_at_call 23; refine (cplxOf_no _ hU _ (HSS.out.bw HW4.out) (by rw [HKK.out]; decide)).mono ?_; rintro e w5 ⟨rfl, hly⟩; have hb5 := hly.bw; have HW5 := hid (Bw.trans HW4.out hb5); have B95 := hid (B94.out.bw hb5); have z95 := B95.out.cell; have hs95 : w.heap.size + 1 < w5.heap.size := B95.out.lt; clear hly hb5)
      | (go_at_call 24; refine (itemOf_yes _ hU _ (HSS.out.bw HW5.out) (by rw [HKK.out]; decide)).mono ?_; rw [HOB.out]; rintro e w6 ⟨rfl, hly⟩; have hb6 := hly.bw; have HW6 := hid (Bw.trans HW5.out hb6); have B96 := hid (B95.out.bw hb6); have z96 := B96.out.cell; have hs96 : w.heap.size + 1 < w6.heap.size := B96.out.lt; clear hly hb6)
      | (go_at_call 13; refine (num_any _ _).mono ?_; rintro e wq ⟨rfl, hwq⟩; subst wq))
    all_goals go_ret
    all_goals exact ⟨rfl, HW6.out⟩

end Go.Proofs.Ytolfgkpmcfneiaa
