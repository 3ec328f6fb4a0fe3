/- The writer: lists of caps, instructions, tries: contracts. -/
import Derived.Test.YtfhnhbpmiodomaaDoorWc
set_option linter.unusedSimpArgs false
set_option linter.unusedVariables false
namespace Go.Proofs.YtfhnhbpmiodomaaDoor
open Go Go.RowKit

section
variable {base r : Nat} {w : World} {bs : List Int} {ok : Bool}

set_option maxRecDepth 100000 in
set_option maxHeartbeats 8000000 in
theorem wfu1_any (x : Int × Int) (pb : Nat) (h : WB base w r bs ok) (hp : Blk w pb #[.pointer (some ⟨r, 0, none⟩)] 53) (hI : I64 x.1 ∧ I64 x.2) (hl : bs.length + (byts (iCap x)).length ≤ 4194304) :
    Calls Tryd.prog 62 #[.agg #[.int .i64 x.1, .int .i64 x.2], .pointer (some ⟨pb, 0, none⟩)] w fun e w' => (∃ v, e = .returned v) ∧ WB base w' r (bs ++ byts (iCap x)) (ok && oks (iCap x)) ∧ Wk base r w w' := by
  have hl2 : bs.length + (It.N x.1).b.length + (It.N x.2).b.length ≤ 4194304 := by simp only [iCap, byts, List.flatMap_cons, List.flatMap_nil, List.length_append, List.length_nil] at hl; omega
  have HFIN := hid (show bs ++ byts (iCap x) = bs ++ (It.N x.1).b ++ (It.N x.2).b by simp [iCap, byts])
  have HFOK := hid (show (ok && oks (iCap x)) = (ok && (It.N x.1).ok && (It.N x.2).ok) by simp [iCap, oks, Bool.and_assoc])
  have HNE := hid (by obtain ⟨u, hb, _⟩ := h.ex; exact blk_ne hp hb (by decide) : pb ≠ r)
  have hrl := h.lt
  have HC := hid (Blk.new w #[.int .i64 x.1, .int .i64 x.2] 90)
  have HNC := hid (show w.heap.size ≠ r by omega)
  have HW := hid (h.bw (Bw.alloc (Bw.refl w) (.cells #[.int .i64 x.1, .int .i64 x.2] 90)))
  have hp1 := hp.bw (Bw.alloc (Bw.refl w) (.cells #[.int .i64 x.1, .int .i64 x.2] 90))
  have HP := hid hp1
  have HK := hid ((Wk.refl base r w).bw (Bw.alloc (Bw.refl w) (.cells #[.int .i64 x.1, .int .i64 x.2] 90)))
  have z := hp.cell 0
  have zl := hp.lt
  have HI := hid hI
  have HL := hid hl2
  clear h hp hp1 hI hl hl2 hrl
  rw [HFIN.out, HFOK.out]
  obtain ⟨n0, hn0⟩ : ∃ n, n = x.1 := ⟨_, rfl⟩
  obtain ⟨n1, hn1⟩ : ∃ n, n = x.2 := ⟨_, rfl⟩
  rw [← hn0, ← hn1] at HC HW HP HK HI HL ⊢
  clear HFIN HFOK hn0 hn1
  go_enter Tryd.func62, Tryd.ntmps62
  go_wp2_with (first
    | (go_at_call_of 36 (Value.int .i64 n0); refine (wnumber_any n0 HW.out HI.out.1 (by have := HL.out; (try simp only [List.length_append]); omega)).mono ?_; rintro e w1 ⟨⟨_, rfl⟩, hw1, hk1⟩; replace HK := hid (HK.out.trans hk1); replace HW := hid hw1; replace HP := hid (HP.out.wk hk1 (by decide) HNE.out); replace HC := hid (HC.out.wk hk1 (by decide) HNC.out); have z0 := HP.out.cell 0; have y0 := HC.out.cell; have zl0 := HP.out.lt; have yl0 := HC.out.lt; clear hw1 hk1)
    | (go_at_call_of 36 (Value.int .i64 n1); refine (wnumber_any n1 HW.out HI.out.2 (by have := HL.out; (try simp only [List.length_append]); omega)).mono ?_; rintro e w1 ⟨⟨_, rfl⟩, hw1, hk1⟩; replace HK := hid (HK.out.trans hk1); replace HW := hid hw1; replace HP := hid (HP.out.wk hk1 (by decide) HNE.out); replace HC := hid (HC.out.wk hk1 (by decide) HNC.out); have z1 := HP.out.cell 0; have y1 := HC.out.cell; have zl1 := HP.out.lt; have yl1 := HC.out.lt; clear hw1 hk1)
    | fail)
  all_goals go_end0
  all_goals exact ⟨⟨_, rfl⟩, HW.out, HK.out⟩

set_option maxRecDepth 100000 in
set_option maxHeartbeats 8000000 in
theorem wlC_any (v : Value) (l : List (Int × Int)) (pb : Nat) (h : WB base w r bs ok) (hp : Blk w pb #[.pointer (some ⟨r, 0, none⟩)] 53) (hv : RCaps w (fun b => b < base) v l) (hl : bs.length + (byts (iL iCap l)).length ≤ 4194304) :
    Calls Tryd.prog 61 #[.pointer (some ⟨r, 0, none⟩), v, .func (.func 62) #[] #[.pointer (some ⟨pb, 0, none⟩)]] w fun e w' => (∃ v, e = .returned v) ∧ WB base w' r (bs ++ byts (iL iCap l)) (ok && oks (iL iCap l)) ∧ Wk base r w w' := by
  have HW := hid h
  have HP := hid hp
  have HV := hid hv
  have HL := hid hl
  have HNE := hid (by obtain ⟨u, hb, _⟩ := h.ex; exact blk_ne hp hb (by decide) : pb ≠ r)
  have HLE := hid (iP_le iCap l)
  have HFI := hid (iP_first iCap l)
  have hmx : l.length ≤ 9223372036854775807 := by have := hv.2.2.1; unfold maxLen at this; omega
  obtain ⟨a, cap, rfl⟩ := hv.form
  clear h hp hv hl
  go_enter Tryd.func61, Tryd.ntmps61
  go_wp2_with (first
    | (go_at_call 36; refine (wnumber_any (l.length : Int) HW.out (by omega) (by have := HL.out; have := HFI.out; omega)).mono ?_; rintro e w1 ⟨⟨_, rfl⟩, hw1, hk1⟩; have HW1 := hid hw1; have HK1 := hid hk1; clear hw1 hk1)
    | fail)
  go_loopw [14] (fun j wr => ∃ i, i ≤ l.length ∧ j = .int .i64 (i : Nat) ∧ WB base wr r (bs ++ byts (iP iCap l i)) (ok && oks (iP iCap l i)) ∧ Wk base r w wr) (fun j _ => l.length - (intOf j).toNat)
  case atStart => exact ⟨0, Nat.zero_le _, rfl, by simpa [iP_zero, byts, oks] using HW1.out, HK1.out⟩
  case round =>
    obtain ⟨i, hi, rfl, hw, hk⟩ := hrel
    have HW2 := hid hw
    have HK2 := hid hk
    clear hw hk
    by_cases hlt : i < l.length
    · obtain ⟨g, o, cap', e, hcap, hg, _, hc⟩ := (HV.out.keep HK2.out.size (wk_keep HK2.out HW2.out.base) (fun _ _ g => g)).parts hlt (by decide)
      cases e
      have c0 := hc 0 (by decide)
      have c1 := hc 1 (by decide)
      simp only [Nat.add_zero, Nat.mul_one, ← Nat.add_assoc, capC, List.getElem?_cons_zero, List.getElem?_cons_succ] at c0 c1
      have hlt2 : (i : Int) < (l.length : Int) := by omega
      have HB := hid (HP.out.wk HK2.out (by decide) HNE.out)
      have HO := hid (HV.out.2.1 _ (List.getElem_mem hlt))
      have HS := hid (iP_step iCap l i hlt)
      have HLS := hid (HLE.out (i + 1))
      generalize l[i] = x at c0 c1 HO HS
      clear hc
      go_wp2_with (first
        | (go_at_call 62; refine (wfu1_any x _ (HW2.out.bw (by repeat (first | exact Bw.refl _ | apply Bw.alloc | apply Bw.drewN | apply Bw.drew))) (HB.out.bw (by repeat (first | exact Bw.refl _ | apply Bw.alloc | apply Bw.drewN | apply Bw.drew))) HO.out (by have := HL.out; have := HLS.out; rw [HS.out, byts_app] at this; simp only [List.length_append] at this ⊢; omega)).mono ?_; rintro e w3 ⟨⟨_, rfl⟩, hw3, hk3⟩; have HW3 := hid hw3; have HK3 := hid ((HK2.out.bw (by repeat (first | exact Bw.refl _ | apply Bw.alloc | apply Bw.drewN | apply Bw.drew))).trans hk3); clear hw3 hk3)
        | fail)
      go_roundw
      case rel => exact ⟨i + 1, by omega, by go_num, HW3.out.items HS.out, HK3.out⟩
      case measure => simp [intOf]; omega
    · obtain rfl : i = l.length := by omega
      go_wp2
      all_goals go_end0
      all_goals exact ⟨⟨_, rfl⟩, by rw [← iP_all]; exact HW2.out, HK2.out⟩

set_option maxRecDepth 100000 in
set_option maxHeartbeats 8000000 in
theorem wfu2_any (x : Int × Int × Int) (pb : Nat) (h : WB base w r bs ok) (hp : Blk w pb #[.pointer (some ⟨r, 0, none⟩)] 53) (hI : I64 x.1 ∧ I64 x.2.1 ∧ I64 x.2.2) (hl : bs.length + (byts (iIns x)).length ≤ 4194304) :
    Calls Tryd.prog 64 #[.agg #[.int .i64 x.1, .int .i64 x.2.1, .int .i64 x.2.2], .pointer (some ⟨pb, 0, none⟩)] w fun e w' => (∃ v, e = .returned v) ∧ WB base w' r (bs ++ byts (iIns x)) (ok && oks (iIns x)) ∧ Wk base r w w' := by
  have hl2 : bs.length + (It.N x.1).b.length + (It.Z x.2.1).b.length + (It.Z x.2.2).b.length ≤ 4194304 := by simp only [iIns, byts, List.flatMap_cons, List.flatMap_nil, List.length_append, List.length_nil] at hl; omega
  have HFIN := hid (show bs ++ byts (iIns x) = bs ++ (It.N x.1).b ++ (It.Z x.2.1).b ++ (It.Z x.2.2).b by simp [iIns, byts])
  have HFOK := hid (show (ok && oks (iIns x)) = (ok && (It.N x.1).ok && (It.Z x.2.1).ok && (It.Z x.2.2).ok) by simp [iIns, oks, Bool.and_assoc])
  have HNE := hid (by obtain ⟨u, hb, _⟩ := h.ex; exact blk_ne hp hb (by decide) : pb ≠ r)
  have hrl := h.lt
  have HC := hid (Blk.new w #[.int .i64 x.1, .int .i64 x.2.1, .int .i64 x.2.2] 51)
  have HNC := hid (show w.heap.size ≠ r by omega)
  have HW := hid (h.bw (Bw.alloc (Bw.refl w) (.cells #[.int .i64 x.1, .int .i64 x.2.1, .int .i64 x.2.2] 51)))
  have hp1 := hp.bw (Bw.alloc (Bw.refl w) (.cells #[.int .i64 x.1, .int .i64 x.2.1, .int .i64 x.2.2] 51))
  have HP := hid hp1
  have HK := hid ((Wk.refl base r w).bw (Bw.alloc (Bw.refl w) (.cells #[.int .i64 x.1, .int .i64 x.2.1, .int .i64 x.2.2] 51)))
  have z := hp.cell 0
  have zl := hp.lt
  have HI := hid hI
  have HL := hid hl2
  clear h hp hp1 hI hl hl2 hrl
  rw [HFIN.out, HFOK.out]
  obtain ⟨n0, hn0⟩ : ∃ n, n = x.1 := ⟨_, rfl⟩
  obtain ⟨n1, hn1⟩ : ∃ n, n = x.2.1 := ⟨_, rfl⟩
  obtain ⟨n2, hn2⟩ : ∃ n, n = x.2.2 := ⟨_, rfl⟩
  rw [← hn0, ← hn1, ← hn2] at HC HW HP HK HI HL ⊢
  clear HFIN HFOK hn0 hn1 hn2
  go_enter Tryd.func64, Tryd.ntmps64
  go_wp2_with (first
    | (go_at_call_of 36 (Value.int .i64 n0); refine (wnumber_any n0 HW.out HI.out.1 (by have := HL.out; (try simp only [List.length_append]); omega)).mono ?_; rintro e w1 ⟨⟨_, rfl⟩, hw1, hk1⟩; replace HK := hid (HK.out.trans hk1); replace HW := hid hw1; replace HP := hid (HP.out.wk hk1 (by decide) HNE.out); replace HC := hid (HC.out.wk hk1 (by decide) HNC.out); have z0 := HP.out.cell 0; have y0 := HC.out.cell; have zl0 := HP.out.lt; have yl0 := HC.out.lt; clear hw1 hk1)
    | (go_at_call_of 65 (Value.int .i64 n1); refine (wsigned_any n1 HW.out HI.out.2.1 (by have := HL.out; (try simp only [List.length_append]); omega)).mono ?_; rintro e w1 ⟨⟨_, rfl⟩, hw1, hk1⟩; replace HK := hid (HK.out.trans hk1); replace HW := hid hw1; replace HP := hid (HP.out.wk hk1 (by decide) HNE.out); replace HC := hid (HC.out.wk hk1 (by decide) HNC.out); have z1 := HP.out.cell 0; have y1 := HC.out.cell; have zl1 := HP.out.lt; have yl1 := HC.out.lt; clear hw1 hk1)
    | (go_at_call_of 65 (Value.int .i64 n2); refine (wsigned_any n2 HW.out HI.out.2.2 (by have := HL.out; (try simp only [List.length_append]); omega)).mono ?_; rintro e w1 ⟨⟨_, rfl⟩, hw1, hk1⟩; replace HK := hid (HK.out.trans hk1); replace HW := hid hw1; replace HP := hid (HP.out.wk hk1 (by decide) HNE.out); replace HC := hid (HC.out.wk hk1 (by decide) HNC.out); have z2 := HP.out.cell 0; have y2 := HC.out.cell; have zl2 := HP.out.lt; have yl2 := HC.out.lt; clear hw1 hk1)
    | fail)
  all_goals go_end0
  all_goals exact ⟨⟨_, rfl⟩, HW.out, HK.out⟩

set_option maxRecDepth 100000 in
set_option maxHeartbeats 8000000 in
theorem wlN_any (v : Value) (l : List (Int × Int × Int)) (pb : Nat) (h : WB base w r bs ok) (hp : Blk w pb #[.pointer (some ⟨r, 0, none⟩)] 53) (hv : RIns w (fun b => b < base) v l) (hl : bs.length + (byts (iL iIns l)).length ≤ 4194304) :
    Calls Tryd.prog 63 #[.pointer (some ⟨r, 0, none⟩), v, .func (.func 64) #[] #[.pointer (some ⟨pb, 0, none⟩)]] w fun e w' => (∃ v, e = .returned v) ∧ WB base w' r (bs ++ byts (iL iIns l)) (ok && oks (iL iIns l)) ∧ Wk base r w w' := by
  have HW := hid h
  have HP := hid hp
  have HV := hid hv
  have HL := hid hl
  have HNE := hid (by obtain ⟨u, hb, _⟩ := h.ex; exact blk_ne hp hb (by decide) : pb ≠ r)
  have HLE := hid (iP_le iIns l)
  have HFI := hid (iP_first iIns l)
  have hmx : l.length ≤ 9223372036854775807 := by have := hv.2.2.1; unfold maxLen at this; omega
  obtain ⟨a, cap, rfl⟩ := hv.form
  clear h hp hv hl
  go_enter Tryd.func63, Tryd.ntmps63
  go_wp2_with (first
    | (go_at_call 36; refine (wnumber_any (l.length : Int) HW.out (by omega) (by have := HL.out; have := HFI.out; omega)).mono ?_; rintro e w1 ⟨⟨_, rfl⟩, hw1, hk1⟩; have HW1 := hid hw1; have HK1 := hid hk1; clear hw1 hk1)
    | fail)
  go_loopw [14] (fun j wr => ∃ i, i ≤ l.length ∧ j = .int .i64 (i : Nat) ∧ WB base wr r (bs ++ byts (iP iIns l i)) (ok && oks (iP iIns l i)) ∧ Wk base r w wr) (fun j _ => l.length - (intOf j).toNat)
  case atStart => exact ⟨0, Nat.zero_le _, rfl, by simpa [iP_zero, byts, oks] using HW1.out, HK1.out⟩
  case round =>
    obtain ⟨i, hi, rfl, hw, hk⟩ := hrel
    have HW2 := hid hw
    have HK2 := hid hk
    clear hw hk
    by_cases hlt : i < l.length
    · obtain ⟨g, o, cap', e, hcap, hg, _, hc⟩ := (HV.out.keep HK2.out.size (wk_keep HK2.out HW2.out.base) (fun _ _ g => g)).parts hlt (by decide)
      cases e
      have c0 := hc 0 (by decide)
      have c1 := hc 1 (by decide)
      have c2 := hc 2 (by decide)
      simp only [Nat.add_zero, Nat.mul_one, ← Nat.add_assoc, insC, List.getElem?_cons_zero, List.getElem?_cons_succ] at c0 c1 c2
      have hlt2 : (i : Int) < (l.length : Int) := by omega
      have HB := hid (HP.out.wk HK2.out (by decide) HNE.out)
      have HO := hid (HV.out.2.1 _ (List.getElem_mem hlt))
      have HS := hid (iP_step iIns l i hlt)
      have HLS := hid (HLE.out (i + 1))
      generalize l[i] = x at c0 c1 c2 HO HS
      clear hc
      go_wp2_with (first
        | (go_at_call 64; refine (wfu2_any x _ (HW2.out.bw (by repeat (first | exact Bw.refl _ | apply Bw.alloc | apply Bw.drewN | apply Bw.drew))) (HB.out.bw (by repeat (first | exact Bw.refl _ | apply Bw.alloc | apply Bw.drewN | apply Bw.drew))) HO.out (by have := HL.out; have := HLS.out; rw [HS.out, byts_app] at this; simp only [List.length_append] at this ⊢; omega)).mono ?_; rintro e w3 ⟨⟨_, rfl⟩, hw3, hk3⟩; have HW3 := hid hw3; have HK3 := hid ((HK2.out.bw (by repeat (first | exact Bw.refl _ | apply Bw.alloc | apply Bw.drewN | apply Bw.drew))).trans hk3); clear hw3 hk3)
        | fail)
      go_roundw
      case rel => exact ⟨i + 1, by omega, by go_num, HW3.out.items HS.out, HK3.out⟩
      case measure => simp [intOf]; omega
    · obtain rfl : i = l.length := by omega
      go_wp2
      all_goals go_end0
      all_goals exact ⟨⟨_, rfl⟩, by rw [← iP_all]; exact HW2.out, HK2.out⟩

set_option maxRecDepth 100000 in
set_option maxHeartbeats 8000000 in
theorem wfu3_any (x : Int × Int × Int × Int) (pb : Nat) (h : WB base w r bs ok) (hp : Blk w pb #[.pointer (some ⟨r, 0, none⟩)] 53) (hI : I64 x.1 ∧ I64 x.2.1 ∧ I64 x.2.2.1 ∧ I64 x.2.2.2) (hl : bs.length + (byts (iTry x)).length ≤ 4194304) :
    Calls Tryd.prog 67 #[.agg #[.int .i64 x.1, .int .i64 x.2.1, .int .i64 x.2.2.1, .int .i64 x.2.2.2], .pointer (some ⟨pb, 0, none⟩)] w fun e w' => (∃ v, e = .returned v) ∧ WB base w' r (bs ++ byts (iTry x)) (ok && oks (iTry x)) ∧ Wk base r w w' := by
  have hl2 : bs.length + (It.N x.1).b.length + (It.N x.2.1).b.length + (It.N x.2.2.1).b.length + (It.N x.2.2.2).b.length ≤ 4194304 := by simp only [iTry, byts, List.flatMap_cons, List.flatMap_nil, List.length_append, List.length_nil] at hl; omega
  have HFIN := hid (show bs ++ byts (iTry x) = bs ++ (It.N x.1).b ++ (It.N x.2.1).b ++ (It.N x.2.2.1).b ++ (It.N x.2.2.2).b by simp [iTry, byts])
  have HFOK := hid (show (ok && oks (iTry x)) = (ok && (It.N x.1).ok && (It.N x.2.1).ok && (It.N x.2.2.1).ok && (It.N x.2.2.2).ok) by simp [iTry, oks, Bool.and_assoc])
  have HNE := hid (by obtain ⟨u, hb, _⟩ := h.ex; exact blk_ne hp hb (by decide) : pb ≠ r)
  have hrl := h.lt
  have HC := hid (Blk.new w #[.int .i64 x.1, .int .i64 x.2.1, .int .i64 x.2.2.1, .int .i64 x.2.2.2] 92)
  have HNC := hid (show w.heap.size ≠ r by omega)
  have HW := hid (h.bw (Bw.alloc (Bw.refl w) (.cells #[.int .i64 x.1, .int .i64 x.2.1, .int .i64 x.2.2.1, .int .i64 x.2.2.2] 92)))
  have hp1 := hp.bw (Bw.alloc (Bw.refl w) (.cells #[.int .i64 x.1, .int .i64 x.2.1, .int .i64 x.2.2.1, .int .i64 x.2.2.2] 92))
  have HP := hid hp1
  have HK := hid ((Wk.refl base r w).bw (Bw.alloc (Bw.refl w) (.cells #[.int .i64 x.1, .int .i64 x.2.1, .int .i64 x.2.2.1, .int .i64 x.2.2.2] 92)))
  have z := hp.cell 0
  have zl := hp.lt
  have HI := hid hI
  have HL := hid hl2
  clear h hp hp1 hI hl hl2 hrl
  rw [HFIN.out, HFOK.out]
  obtain ⟨n0, hn0⟩ : ∃ n, n = x.1 := ⟨_, rfl⟩
  obtain ⟨n1, hn1⟩ : ∃ n, n = x.2.1 := ⟨_, rfl⟩
  obtain ⟨n2, hn2⟩ : ∃ n, n = x.2.2.1 := ⟨_, rfl⟩
  obtain ⟨n3, hn3⟩ : ∃ n, n = x.2.2.2 := ⟨_, rfl⟩
  rw [← hn0, ← hn1, ← hn2, ← hn3] at HC HW HP HK HI HL ⊢
  clear HFIN HFOK hn0 hn1 hn2 hn3
  go_enter Tryd.func67, Tryd.ntmps67
  go_wp2_with (first
    | (go_at_call_of 36 (Value.int .i64 n0); refine (wnumber_any n0 HW.out HI.out.1 (by have := HL.out; (try simp only [List.length_append]); omega)).mono ?_; rintro e w1 ⟨⟨_, rfl⟩, hw1, hk1⟩; replace HK := hid (HK.out.trans hk1); replace HW := hid hw1; replace HP := hid (HP.out.wk hk1 (by decide) HNE.out); replace HC := hid (HC.out.wk hk1 (by decide) HNC.out); have z0 := HP.out.cell 0; have y0 := HC.out.cell; have zl0 := HP.out.lt; have yl0 := HC.out.lt; clear hw1 hk1)
    | (go_at_call_of 36 (Value.int .i64 n1); refine (wnumber_any n1 HW.out HI.out.2.1 (by have := HL.out; (try simp only [List.length_append]); omega)).mono ?_; rintro e w1 ⟨⟨_, rfl⟩, hw1, hk1⟩; replace HK := hid (HK.out.trans hk1); replace HW := hid hw1; replace HP := hid (HP.out.wk hk1 (by decide) HNE.out); replace HC := hid (HC.out.wk hk1 (by decide) HNC.out); have z1 := HP.out.cell 0; have y1 := HC.out.cell; have zl1 := HP.out.lt; have yl1 := HC.out.lt; clear hw1 hk1)
    | (go_at_call_of 36 (Value.int .i64 n2); refine (wnumber_any n2 HW.out HI.out.2.2.1 (by have := HL.out; (try simp only [List.length_append]); omega)).mono ?_; rintro e w1 ⟨⟨_, rfl⟩, hw1, hk1⟩; replace HK := hid (HK.out.trans hk1); replace HW := hid hw1; replace HP := hid (HP.out.wk hk1 (by decide) HNE.out); replace HC := hid (HC.out.wk hk1 (by decide) HNC.out); have z2 := HP.out.cell 0; have y2 := HC.out.cell; have zl2 := HP.out.lt; have yl2 := HC.out.lt; clear hw1 hk1)
    | (go_at_call_of 36 (Value.int .i64 n3); refine (wnumber_any n3 HW.out HI.out.2.2.2 (by have := HL.out; (try simp only [List.length_append]); omega)).mono ?_; rintro e w1 ⟨⟨_, rfl⟩, hw1, hk1⟩; replace HK := hid (HK.out.trans hk1); replace HW := hid hw1; replace HP := hid (HP.out.wk hk1 (by decide) HNE.out); replace HC := hid (HC.out.wk hk1 (by decide) HNC.out); have z3 := HP.out.cell 0; have y3 := HC.out.cell; have zl3 := HP.out.lt; have yl3 := HC.out.lt; clear hw1 hk1)
    | fail)
  all_goals go_end0
  all_goals exact ⟨⟨_, rfl⟩, HW.out, HK.out⟩

set_option maxRecDepth 100000 in
set_option maxHeartbeats 8000000 in
theorem wlT_any (v : Value) (l : List (Int × Int × Int × Int)) (pb : Nat) (h : WB base w r bs ok) (hp : Blk w pb #[.pointer (some ⟨r, 0, none⟩)] 53) (hv : RTry w (fun b => b < base) v l) (hl : bs.length + (byts (iL iTry l)).length ≤ 4194304) :
    Calls Tryd.prog 66 #[.pointer (some ⟨r, 0, none⟩), v, .func (.func 67) #[] #[.pointer (some ⟨pb, 0, none⟩)]] w fun e w' => (∃ v, e = .returned v) ∧ WB base w' r (bs ++ byts (iL iTry l)) (ok && oks (iL iTry l)) ∧ Wk base r w w' := by
  have HW := hid h
  have HP := hid hp
  have HV := hid hv
  have HL := hid hl
  have HNE := hid (by obtain ⟨u, hb, _⟩ := h.ex; exact blk_ne hp hb (by decide) : pb ≠ r)
  have HLE := hid (iP_le iTry l)
  have HFI := hid (iP_first iTry l)
  have hmx : l.length ≤ 9223372036854775807 := by have := hv.2.2.1; unfold maxLen at this; omega
  obtain ⟨a, cap, rfl⟩ := hv.form
  clear h hp hv hl
  go_enter Tryd.func66, Tryd.ntmps66
  go_wp2_with (first
    | (go_at_call 36; refine (wnumber_any (l.length : Int) HW.out (by omega) (by have := HL.out; have := HFI.out; omega)).mono ?_; rintro e w1 ⟨⟨_, rfl⟩, hw1, hk1⟩; have HW1 := hid hw1; have HK1 := hid hk1; clear hw1 hk1)
    | fail)
  go_loopw [14] (fun j wr => ∃ i, i ≤ l.length ∧ j = .int .i64 (i : Nat) ∧ WB base wr r (bs ++ byts (iP iTry l i)) (ok && oks (iP iTry l i)) ∧ Wk base r w wr) (fun j _ => l.length - (intOf j).toNat)
  case atStart => exact ⟨0, Nat.zero_le _, rfl, by simpa [iP_zero, byts, oks] using HW1.out, HK1.out⟩
  case round =>
    obtain ⟨i, hi, rfl, hw, hk⟩ := hrel
    have HW2 := hid hw
    have HK2 := hid hk
    clear hw hk
    by_cases hlt : i < l.length
    · obtain ⟨g, o, cap', e, hcap, hg, _, hc⟩ := (HV.out.keep HK2.out.size (wk_keep HK2.out HW2.out.base) (fun _ _ g => g)).parts hlt (by decide)
      cases e
      have c0 := hc 0 (by decide)
      have c1 := hc 1 (by decide)
      have c2 := hc 2 (by decide)
      have c3 := hc 3 (by decide)
      simp only [Nat.add_zero, Nat.mul_one, ← Nat.add_assoc, tryC, List.getElem?_cons_zero, List.getElem?_cons_succ] at c0 c1 c2 c3
      have hlt2 : (i : Int) < (l.length : Int) := by omega
      have HB := hid (HP.out.wk HK2.out (by decide) HNE.out)
      have HO := hid (HV.out.2.1 _ (List.getElem_mem hlt))
      have HS := hid (iP_step iTry l i hlt)
      have HLS := hid (HLE.out (i + 1))
      generalize l[i] = x at c0 c1 c2 c3 HO HS
      clear hc
      go_wp2_with (first
        | (go_at_call 67; refine (wfu3_any x _ (HW2.out.bw (by repeat (first | exact Bw.refl _ | apply Bw.alloc | apply Bw.drewN | apply Bw.drew))) (HB.out.bw (by repeat (first | exact Bw.refl _ | apply Bw.alloc | apply Bw.drewN | apply Bw.drew))) HO.out (by have := HL.out; have := HLS.out; rw [HS.out, byts_app] at this; simp only [List.length_append] at this ⊢; omega)).mono ?_; rintro e w3 ⟨⟨_, rfl⟩, hw3, hk3⟩; have HW3 := hid hw3; have HK3 := hid ((HK2.out.bw (by repeat (first | exact Bw.refl _ | apply Bw.alloc | apply Bw.drewN | apply Bw.drew))).trans hk3); clear hw3 hk3)
        | fail)
      go_roundw
      case rel => exact ⟨i + 1, by omega, by go_num, HW3.out.items HS.out, HK3.out⟩
      case measure => simp [intOf]; omega
    · obtain rfl : i = l.length := by omega
      go_wp2
      all_goals go_end0
      all_goals exact ⟨⟨_, rfl⟩, by rw [← iP_all]; exact HW2.out, HK2.out⟩

end

end Go.Proofs.YtfhnhbpmiodomaaDoor
