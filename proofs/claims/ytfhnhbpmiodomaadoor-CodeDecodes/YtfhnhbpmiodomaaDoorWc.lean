/- The writer: a list of numbers: contracts. -/
import Derived.Test.YtfhnhbpmiodomaaDoorMa
set_option linter.unusedSimpArgs false
set_option linter.unusedVariables false
namespace Go.Proofs.YtfhnhbpmiodomaaDoor
open Go Go.RowKit

theorem byts_snoc (a : List It) (x : It) : byts (a ++ [x]) = byts a ++ x.b := by simp [byts]
theorem oks_snoc (a : List It) (x : It) : oks (a ++ [x]) = (oks a && x.ok) := by simp [oks]

/-- What stands of a list behind i of its elements. -/
def iP {α : Type} (f : α → List It) (l : List α) (i : Nat) : List It := .N l.length :: (l.take i).flatMap f
theorem iP_zero {α : Type} (f : α → List It) (l : List α) : iP f l 0 = [.N l.length] := by simp [iP]
theorem iP_step {α : Type} (f : α → List It) (l : List α) (i : Nat) (hi : i < l.length) : iP f l (i + 1) = iP f l i ++ f l[i] := by
  have e : l.take (i + 1) = l.take i ++ [l[i]] := by rw [List.take_add_one, List.getElem?_eq_getElem hi]; rfl
  rw [iP, iP, e, List.flatMap_append]
  simp
theorem iP_all {α : Type} (f : α → List It) (l : List α) : iP f l l.length = iL f l := by simp [iP, iL]
theorem iP_le {α : Type} (f : α → List It) (l : List α) (i : Nat) : (byts (iP f l i)).length ≤ (byts (iL f l)).length := by
  have e : iL f l = iP f l i ++ (l.drop i).flatMap f := by
    simp only [iL, iP, List.cons_append, ← List.flatMap_append, List.take_append_drop]
  rw [e, byts_app, List.length_append]
  omega
theorem iP_first {α : Type} (f : α → List It) (l : List α) : (It.N l.length).b.length ≤ (byts (iL f l)).length := by
  have := iP_le f l 0
  rw [iP_zero] at this
  simpa [byts] using this
theorem oks_app' (a c : List It) : oks (a ++ c) = (oks a && oks c) := by simp [oks]

theorem WB.items {base : Nat} {w : World} {r : Nat} {bs : List Int} {ok : Bool} {a c d : List It} (h : WB base w r (bs ++ byts a ++ byts c) (ok && oks a && oks c)) (e : d = a ++ c) : WB base w r (bs ++ byts d) (ok && oks d) := by
  subst e
  rw [byts_app, oks_app', ← List.append_assoc, ← Bool.and_assoc]
  exact h

section
variable {base r : Nat} {w : World} {bs : List Int} {ok : Bool}

set_option maxRecDepth 100000 in
set_option maxHeartbeats 4000000 in
theorem wnu1_any (n : Int) (pb : Nat) (h : WB base w r bs ok) (hp : Blk w pb #[.pointer (some ⟨r, 0, none⟩)] 53) (hn : I64 n) (hl : bs.length + (byts (iN n)).length ≤ 4194304) :
    Calls Tryd.prog 60 #[.int .i64 n, .pointer (some ⟨pb, 0, none⟩)] w fun e w' => (∃ v, e = .returned v) ∧ WB base w' r (bs ++ byts (iN n)) (ok && oks (iN n)) ∧ Wk base r w w' := by
  have e1 : byts (iN n) = (It.N n).b := by simp [byts, iN]
  have e2 : oks (iN n) = (It.N n).ok := by simp [oks, iN]
  rw [e1] at hl ⊢
  rw [e2]
  have HW := hid h
  have z := hp.cell 0
  have zl := hp.lt
  have HN := hid hn
  have HL := hid hl
  clear h hp hn hl e1 e2
  go_enter Tryd.func60, Tryd.ntmps60
  go_wp2_with (first
    | (go_at_call 36; refine (wnumber_any _ HW.out HN.out HL.out).mono ?_; rintro e w1 ⟨⟨_, rfl⟩, hw1, hk1⟩; have HW1 := hid hw1; have HK1 := hid hk1; clear hw1 hk1)
    | fail)
  all_goals go_end0
  all_goals exact ⟨⟨_, rfl⟩, HW1.out, HK1.out⟩

set_option maxRecDepth 100000 in
set_option maxHeartbeats 4000000 in
theorem wlI_any (v : Value) (l : List Int) (pb : Nat) (h : WB base w r bs ok) (hp : Blk w pb #[.pointer (some ⟨r, 0, none⟩)] 53) (hv : RInts w (fun b => b < base) v l) (hl : bs.length + (byts (iL iN l)).length ≤ 4194304) :
    Calls Tryd.prog 59 #[.pointer (some ⟨r, 0, none⟩), v, .func (.func 60) #[] #[.pointer (some ⟨pb, 0, none⟩)]] w fun e w' => (∃ v, e = .returned v) ∧ WB base w' r (bs ++ byts (iL iN l)) (ok && oks (iL iN l)) ∧ Wk base r w w' := by
  have HW := hid h
  have HP := hid hp
  have HV := hid hv
  have HL := hid hl
  have HNE := hid (by obtain ⟨u, hb, _⟩ := h.ex; exact blk_ne hp hb (by decide) : pb ≠ r)
  have HLE := hid (iP_le iN l)
  have HFI := hid (iP_first iN l)
  have hmx : l.length ≤ 9223372036854775807 := by have := hv.2.2.1; unfold maxLen at this; omega
  obtain ⟨a, cap, rfl⟩ := hv.form
  clear h hp hv hl
  go_enter Tryd.func59, Tryd.ntmps59
  go_wp2_with (first
    | (go_at_call 36; refine (wnumber_any (l.length : Int) HW.out (by omega) (by have := HL.out; have := HFI.out; omega)).mono ?_; rintro e w1 ⟨⟨_, rfl⟩, hw1, hk1⟩; have HW1 := hid hw1; have HK1 := hid hk1; clear hw1 hk1)
    | fail)
  go_loopw [14] (fun j wr => ∃ i, i ≤ l.length ∧ j = .int .i64 (i : Nat) ∧ WB base wr r (bs ++ byts (iP iN l i)) (ok && oks (iP iN l i)) ∧ Wk base r w wr) (fun j _ => l.length - (intOf j).toNat)
  case atStart => exact ⟨0, Nat.zero_le _, rfl, by simpa [iP_zero, byts, oks] using HW1.out, HK1.out⟩
  case round =>
    obtain ⟨i, hi, rfl, hw, hk⟩ := hrel
    have HW2 := hid hw
    have HK2 := hid hk
    clear hw hk
    by_cases hlt : i < l.length
    · obtain ⟨g, o, cap', e, hcap, hg, _, hc⟩ := (HV.out.keep HK2.out.size (wk_keep HK2.out HW2.out.base) (fun _ _ g => g)).parts hlt (by decide)
      cases e
      have c0 := hc 0 (by decide)
      simp only [Nat.mul_one, Nat.add_zero] at c0
      have hlt2 : (i : Int) < (l.length : Int) := by omega
      have HB := hid (HP.out.wk HK2.out (by decide) HNE.out)
      have HO := hid (HV.out.2.1 _ (List.getElem_mem hlt))
      have HS := hid (iP_step iN l i hlt)
      have HLS := hid (HLE.out (i + 1))
      generalize l[i] = x at c0 HO HS
      clear hc
      go_wp2_with (first
        | (go_at_call 60; refine (wnu1_any _ _ HW2.out HB.out HO.out (by have := HL.out; have := HLS.out; rw [HS.out, byts_app] at this; simp only [List.length_append] at this ⊢; omega)).mono ?_; rintro e w3 ⟨⟨_, rfl⟩, hw3, hk3⟩; have HW3 := hid hw3; have HK3 := hid (HK2.out.trans hk3); clear hw3 hk3)
        | fail)
      go_roundw
      case rel => exact ⟨i + 1, by omega, by go_num, HW3.out.items HS.out, HK3.out⟩
      case measure => simp [intOf]; omega
    · obtain rfl : i = l.length := by omega
      go_wp2
      all_goals go_end0
      all_goals exact ⟨⟨_, rfl⟩, by rw [← iP_all]; exact HW2.out, HK2.out⟩

end

end Go.Proofs.YtfhnhbpmiodomaaDoor
