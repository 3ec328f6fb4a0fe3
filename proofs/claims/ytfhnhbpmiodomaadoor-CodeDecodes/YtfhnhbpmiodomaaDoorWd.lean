/- The writer: lists of texts, caps, instructions, tries: contracts. -/
import Derived.Test.YtfhnhbpmiodomaaDoorWc
set_option linter.unusedSimpArgs false
set_option linter.unusedVariables false
namespace Go.Proofs.YtfhnhbpmiodomaaDoor
open Go Go.RowKit

section
variable {base r : Nat} {w : World} {bs : List Int} {ok : Bool}

set_option maxRecDepth 100000 in
set_option maxHeartbeats 8000000 in
theorem wim1_any (x : List Int) (pb : Nat) (h : WB base w r bs ok) (hp : Blk w pb #[.pointer (some ⟨r, 0, none⟩)] 53) (hI : (∀ c ∈ x, 0 ≤ c ∧ c ≤ 255) ∧ x.length ≤ maxLen) (hl : bs.length + (byts (iStr x)).length ≤ 4194304) :
    Calls Tryd.prog 35 #[.string (strOfNums x), .pointer (some ⟨pb, 0, none⟩)] w fun e w' => (∃ v, e = .returned v) ∧ WB base w' r (bs ++ byts (iStr x)) (ok && oks (iStr x)) ∧ Wk base r w w' := by
  have hl2 : bs.length + (It.N x.length).b.length + x.length ≤ 4194304 := by simp only [iStr, byts, List.flatMap_cons, List.flatMap_nil, List.length_append, List.length_nil, It.b] at hl ⊢; omega
  have e1 : bs ++ byts (iStr x) = bs ++ (It.N x.length).b ++ x := by simp [iStr, byts, It.b]
  have e2 : (ok && oks (iStr x)) = (ok && (It.N x.length).ok) := by simp [iStr, oks, It.ok]
  rw [e1, e2]
  have HW := hid h
  have HP := hid hp
  have HK := hid (Wk.refl base r w)
  have HNE := hid (by obtain ⟨u, hb, _⟩ := h.ex; exact blk_ne hp hb (by decide) : pb ≠ r)
  have z := hp.cell 0
  have zl := hp.lt
  have HI := hid hI.1
  have HL := hid hl2
  have Z : (strOfNums x).size = x.length := strOfNums_size _
  have HM := hid (show x.length ≤ 9223372036854775807 by have := hI.2; unfold maxLen at this; omega)
  clear h hp hI hl hl2 e1 e2
  have TX : ∀ w bs ok, WB base w r bs ok → bs.length + x.length ≤ 4194304 → Calls Tryd.prog 33 #[.pointer (some ⟨r, 0, none⟩), .string (strOfNums x)] w fun e w' => (∃ v, e = .returned v) ∧ WB base w' r (bs ++ x) ok ∧ Wk base r w w' := fun w bs ok h h2 => wtext_any x h HI.out h2
  have HTX := hid TX
  clear TX
  generalize strOfNums x = ss at *
  go_enter Tryd.func35, Tryd.ntmps35
  go_wp2_with (first
    | (go_at_call 36; refine (wnumber_any (x.length : Int) HW.out (by have := HM.out; omega) (by have := HL.out; omega)).mono ?_; rintro e w1 ⟨⟨_, rfl⟩, hw1, hk1⟩; replace HK := hid (HK.out.trans hk1); replace HW := hid hw1; replace HP := hid (HP.out.wk hk1 (by decide) HNE.out); have z1 := HP.out.cell 0; have zl1 := HP.out.lt; clear hw1 hk1)
    | (go_at_call 33; refine (HTX.out _ _ _ HW.out (by have := HL.out; simp only [List.length_append]; omega)).mono ?_; rintro e w1 ⟨⟨_, rfl⟩, hw1, hk1⟩; replace HK := hid (HK.out.trans hk1); replace HW := hid hw1; clear hw1 hk1)
    | fail)
  all_goals go_end0
  all_goals exact ⟨⟨_, rfl⟩, HW.out, HK.out⟩

set_option maxRecDepth 100000 in
set_option maxHeartbeats 8000000 in
theorem wlS_any (v : Value) (l : List (List Int)) (pb : Nat) (h : WB base w r bs ok) (hp : Blk w pb #[.pointer (some ⟨r, 0, none⟩)] 53) (hv : RStrs w (fun b => b < base) v l) (hl : bs.length + (byts (iL iStr l)).length ≤ 4194304) :
    Calls Tryd.prog 34 #[.pointer (some ⟨r, 0, none⟩), v, .func (.func 35) #[] #[.pointer (some ⟨pb, 0, none⟩)]] w fun e w' => (∃ v, e = .returned v) ∧ WB base w' r (bs ++ byts (iL iStr l)) (ok && oks (iL iStr l)) ∧ Wk base r w w' := by
  have HW := hid h
  have HP := hid hp
  have HV := hid hv
  have HL := hid hl
  have HNE := hid (by obtain ⟨u, hb, _⟩ := h.ex; exact blk_ne hp hb (by decide) : pb ≠ r)
  have HLE := hid (iP_le iStr l)
  have HFI := hid (iP_first iStr l)
  have hmx : l.length ≤ 9223372036854775807 := by have := hv.2.2.1; unfold maxLen at this; omega
  obtain ⟨a, cap, rfl⟩ := hv.form
  clear h hp hv hl
  go_enter Tryd.func34, Tryd.ntmps34
  go_wp2_with (first
    | (go_at_call 36; refine (wnumber_any (l.length : Int) HW.out (by omega) (by have := HL.out; have := HFI.out; omega)).mono ?_; rintro e w1 ⟨⟨_, rfl⟩, hw1, hk1⟩; have HW1 := hid hw1; have HK1 := hid hk1; clear hw1 hk1)
    | fail)
  go_loopw [14] (fun j wr => ∃ i, i ≤ l.length ∧ j = .int .i64 (i : Nat) ∧ WB base wr r (bs ++ byts (iP iStr l i)) (ok && oks (iP iStr l i)) ∧ Wk base r w wr) (fun j _ => l.length - (intOf j).toNat)
  case atStart => exact ⟨0, Nat.zero_le _, rfl, by simpa [iP_zero, byts, oks] using HW1.out, HK1.out⟩
  case round =>
    obtain ⟨i, hi, rfl, hw, hk⟩ := hrel
    have HW2 := hid hw
    have HK2 := hid hk
    clear hw hk
    by_cases hlt : i < l.length
    · obtain ⟨g, o, cap', e, hcap, hg, _, hc⟩ := (HV.out.keep HK2.out.size (wk_keep HK2.out HW2.out.base) (fun _ _ g => g)).parts hlt (by decide)
      cases e
      have c0 := hc 0 (by decide)
      simp only [Nat.add_zero, Nat.mul_one, ← Nat.add_assoc, List.getElem?_cons_zero, List.getElem?_cons_succ] at c0
      have hlt2 : (i : Int) < (l.length : Int) := by omega
      have HB := hid (HP.out.wk HK2.out (by decide) HNE.out)
      have HO := hid (HV.out.2.1 _ (List.getElem_mem hlt))
      have HS := hid (iP_step iStr l i hlt)
      have HLS := hid (HLE.out (i + 1))
      generalize l[i] = x at c0 HO HS
      clear hc
      go_wp2_with (first
        | (go_at_call 35; refine (wim1_any x _ (HW2.out.bw (by repeat (first | exact Bw.refl _ | apply Bw.alloc | apply Bw.drewN | apply Bw.drew))) (HB.out.bw (by repeat (first | exact Bw.refl _ | apply Bw.alloc | apply Bw.drewN | apply Bw.drew))) HO.out (by have := HL.out; have := HLS.out; rw [HS.out, byts_app] at this; simp only [List.length_append] at this ⊢; omega)).mono ?_; rintro e w3 ⟨⟨_, rfl⟩, hw3, hk3⟩; have HW3 := hid hw3; have HK3 := hid ((HK2.out.bw (by repeat (first | exact Bw.refl _ | apply Bw.alloc | apply Bw.drewN | apply Bw.drew))).trans hk3); clear hw3 hk3)
        | fail)
      go_roundw
      case rel => exact ⟨i + 1, by omega, by go_num, HW3.out.items HS.out, HK3.out⟩
      case measure => simp [intOf]; omega
    · obtain rfl : i = l.length := by omega
      go_wp2
      all_goals go_end0
      all_goals exact ⟨⟨_, rfl⟩, by rw [← iP_all]; exact HW2.out, HK2.out⟩

end

end Go.Proofs.YtfhnhbpmiodomaaDoor
