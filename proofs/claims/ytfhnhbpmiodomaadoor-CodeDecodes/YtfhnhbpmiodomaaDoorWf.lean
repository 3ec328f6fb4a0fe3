/- The writer: numbers, keys, functions: contracts. -/
import Derived.Test.YtfhnhbpmiodomaaDoorWd
import Derived.Test.YtfhnhbpmiodomaaDoorWe
set_option linter.unusedSimpArgs false
set_option linter.unusedVariables false
namespace Go.Proofs.YtfhnhbpmiodomaaDoor
open Go Go.RowKit

theorem RL.bw {α : Type} {w w' : World} {G : Nat → Prop} {v : Value} {k : Nat} {c : α → List Value} {ok : α → Prop} {l : List α} (h : RL w G v k c ok l) (hb : Bw w w') : RL w' G v k c ok l :=
  h.keep hb.size (fun b hlt _ => hb.block b hlt) (fun _ _ g => g)
theorem RL.wk {α : Type} {base r : Nat} {w w' : World} {v : Value} {k : Nat} {c : α → List Value} {ok : α → Prop} {l : List α} (h : RL w (fun b => b < base) v k c ok l) (hb : Wk base r w w') (hr : base ≤ r) : RL w' (fun b => b < base) v k c ok l :=
  h.keep hb.size (wk_keep hb hr) (fun _ _ g => g)
theorem RFn.bw {w w' : World} {G : Nat → Prop} {x : MFn} (h : RFn w G x) (hb : Bw w w') : RFn w' G x :=
  h.keep hb.size (fun b hlt _ => hb.block b hlt) (fun _ _ g => g)
theorem RFn.wk {base r : Nat} {w w' : World} {x : MFn} (h : RFn w (fun b => b < base) x) (hb : Wk base r w w') (hr : base ≤ r) : RFn w' (fun b => b < base) x :=
  h.keep hb.size (wk_keep hb hr) (fun _ _ g => g)

abbrev RKs (w : World) (G : Nat → Prop) (v : Value) (l : List (List Int × Value)) : Prop := RL w G v 1 (fun m => [m.2]) (fun m => RInts w G m.2 m.1) l
abbrev RFs (w : World) (G : Nat → Prop) (v : Value) (l : List MFn) : Prop := RL w G v 6 fnC (fun m => RFn w G m) l
def iKey (m : List Int × Value) : List It := iL iN m.1
def iMF (m : MFn) : List It := iFn m.f

section
variable {base r : Nat} {w : World} {bs : List Int} {ok : Bool}

set_option maxRecDepth 100000 in
set_option maxHeartbeats 8000000 in
theorem wnumbers_any (v : Value) (l : List Int) (h : WB base w r bs ok) (hv : RInts w (fun b => b < base) v l) (hl : bs.length + (byts (iL iN l)).length ≤ 4194304) :
    Calls Tryd.prog 39 #[.pointer (some ⟨r, 0, none⟩), v] w fun e w' => (∃ v, e = .returned v) ∧ WB base w' r (bs ++ byts (iL iN l)) (ok && oks (iL iN l)) ∧ Wk base r w w' := by
  have HW := hid (h.bw (Bw.alloc (Bw.refl w) (.cells #[.pointer (some ⟨r, 0, none⟩)] 53)))
  have HV := hid (hv.bw (Bw.alloc (Bw.refl w) (.cells #[.pointer (some ⟨r, 0, none⟩)] 53)))
  have HP := hid (Blk.new w #[.pointer (some ⟨r, 0, none⟩)] 53)
  have HK := hid ((Wk.refl base r w).bw (Bw.alloc (Bw.refl w) (.cells #[.pointer (some ⟨r, 0, none⟩)] 53)))
  have HL := hid hl
  obtain ⟨a, cap, rfl⟩ := hv.form
  clear h hv hl
  go_enter Tryd.func39, Tryd.ntmps39
  go_wp2_with (first
    | (go_at_call 59; refine (wlI_any _ l _ HW.out HP.out HV.out HL.out).mono ?_; rintro e w1 ⟨⟨_, rfl⟩, hw1, hk1⟩; replace HK := hid (HK.out.trans hk1); replace HW := hid hw1; clear hw1 hk1)
    | fail)
  all_goals go_end0
  all_goals exact ⟨⟨_, rfl⟩, HW.out, HK.out⟩

set_option maxRecDepth 100000 in
set_option maxHeartbeats 8000000 in
theorem wim2_any (x : List Int × Value) (pb : Nat) (h : WB base w r bs ok) (hp : Blk w pb #[.pointer (some ⟨r, 0, none⟩)] 53) (hI : RInts w (fun b => b < base) x.2 x.1) (hl : bs.length + (byts (iKey x)).length ≤ 4194304) :
    Calls Tryd.prog 38 #[x.2, .pointer (some ⟨pb, 0, none⟩)] w fun e w' => (∃ v, e = .returned v) ∧ WB base w' r (bs ++ byts (iKey x)) (ok && oks (iKey x)) ∧ Wk base r w w' := by
  obtain ⟨l, v⟩ := x
  simp only [iKey] at *
  have HW := hid h
  have HL := hid hl
  have HV := hid hI
  have z := hp.cell 0
  have zl := hp.lt
  clear h hp hI hl
  go_enter Tryd.func38, Tryd.ntmps38
  go_wp2_with (first
    | (go_at_call 39; refine (wnumbers_any _ l HW.out HV.out HL.out).mono ?_; rintro e w1 ⟨⟨_, rfl⟩, hw1, hk1⟩; have HK1 := hid hk1; have HW1 := hid hw1; clear hw1 hk1)
    | fail)
  all_goals go_end0
  all_goals exact ⟨⟨_, rfl⟩, HW1.out, HK1.out⟩

set_option maxRecDepth 100000 in
set_option maxHeartbeats 8000000 in
theorem wlL_any (v : Value) (l : List (List Int × Value)) (pb : Nat) (h : WB base w r bs ok) (hp : Blk w pb #[.pointer (some ⟨r, 0, none⟩)] 53) (hv : RKs w (fun b => b < base) v l) (hl : bs.length + (byts (iL iKey l)).length ≤ 4194304) :
    Calls Tryd.prog 37 #[.pointer (some ⟨r, 0, none⟩), v, .func (.func 38) #[] #[.pointer (some ⟨pb, 0, none⟩)]] w fun e w' => (∃ v, e = .returned v) ∧ WB base w' r (bs ++ byts (iL iKey l)) (ok && oks (iL iKey l)) ∧ Wk base r w w' := by
  have HW := hid h
  have HP := hid hp
  have HV := hid hv
  have HL := hid hl
  have HNE := hid (by obtain ⟨u, hb, _⟩ := h.ex; exact blk_ne hp hb (by decide) : pb ≠ r)
  have HLE := hid (iP_le iKey l)
  have HFI := hid (iP_first iKey l)
  have hmx : l.length ≤ 9223372036854775807 := by have := hv.2.2.1; unfold maxLen at this; omega
  obtain ⟨a, cap, rfl⟩ := hv.form
  clear h hp hv hl
  go_enter Tryd.func37, Tryd.ntmps37
  go_wp2_with (first
    | (go_at_call 36; refine (wnumber_any (l.length : Int) HW.out (by omega) (by have := HL.out; have := HFI.out; omega)).mono ?_; rintro e w1 ⟨⟨_, rfl⟩, hw1, hk1⟩; have HW1 := hid hw1; have HK1 := hid hk1; clear hw1 hk1)
    | fail)
  go_loopw [14] (fun j wr => ∃ i, i ≤ l.length ∧ j = .int .i64 (i : Nat) ∧ WB base wr r (bs ++ byts (iP iKey l i)) (ok && oks (iP iKey l i)) ∧ Wk base r w wr) (fun j _ => l.length - (intOf j).toNat)
  case atStart => exact ⟨0, Nat.zero_le _, rfl, by simpa [iP_zero, byts, oks] using HW1.out, HK1.out⟩
  case round =>
    obtain ⟨i, hi, rfl, hw, hk⟩ := hrel
    have HW2 := hid hw
    have HK2 := hid hk
    clear hw hk
    by_cases hlt : i < l.length
    · obtain ⟨g, o, cap', e, hcap, hg, _, hc⟩ := (HV.out.keep HK2.out.size (wk_keep HK2.out HW2.out.base) (fun _ _ g => g)).parts hlt (by decide)
      cases e
      have c0 := hc 0 (by decide)
      simp only [Nat.add_zero, Nat.mul_one, ← Nat.add_assoc, List.getElem?_cons_zero, List.getElem?_cons_succ] at c0
      have hlt2 : (i : Int) < (l.length : Int) := by omega
      have HB := hid (HP.out.wk HK2.out (by decide) HNE.out)
      have HO := hid (HV.out.2.1 _ (List.getElem_mem hlt))
      have HS := hid (iP_step iKey l i hlt)
      have HLS := hid (HLE.out (i + 1))
      generalize l[i] = x at c0 HO HS
      clear hc
      go_wp2_with (first
        | (go_at_call 38; refine (wim2_any x _ (HW2.out.bw (by repeat (first | exact Bw.refl _ | apply Bw.alloc | apply Bw.drewN | apply Bw.drew))) (HB.out.bw (by repeat (first | exact Bw.refl _ | apply Bw.alloc | apply Bw.drewN | apply Bw.drew))) ((HO.out.wk HK2.out HW2.out.base).bw (by repeat (first | exact Bw.refl _ | apply Bw.alloc | apply Bw.drewN | apply Bw.drew))) (by have := HL.out; have := HLS.out; rw [HS.out, byts_app] at this; simp only [List.length_append] at this ⊢; omega)).mono ?_; rintro e w3 ⟨⟨_, rfl⟩, hw3, hk3⟩; have HW3 := hid hw3; have HK3 := hid ((HK2.out.bw (by repeat (first | exact Bw.refl _ | apply Bw.alloc | apply Bw.drewN | apply Bw.drew))).trans hk3); clear hw3 hk3)
        | fail)
      go_roundw
      case rel => exact ⟨i + 1, by omega, by go_num, HW3.out.items HS.out, HK3.out⟩
      case measure => simp [intOf]; omega
    · obtain rfl : i = l.length := by omega
      go_wp2
      all_goals go_end0
      all_goals exact ⟨⟨_, rfl⟩, by rw [← iP_all]; exact HW2.out, HK2.out⟩

set_option maxRecDepth 100000 in
set_option maxHeartbeats 8000000 in
theorem wfun_any (x : MFn) (h : WB base w r bs ok) (hI : RFn w (fun b => b < base) x) (hl : bs.length + (byts (iMF x)).length ≤ 4194304) :
    Calls Tryd.prog 42 #[.pointer (some ⟨r, 0, none⟩), .agg #[.int .i64 x.f.params, .int .i64 x.f.slots, x.vb, x.vc, x.vo, x.vt]] w fun e w' => (∃ v, e = .returned v) ∧ WB base w' r (bs ++ byts (iMF x)) (ok && oks (iMF x)) ∧ Wk base r w w' := by
  obtain ⟨f, vb, vc, vo, vt⟩ := x
  simp only [iMF] at *
  obtain ⟨a1, k1, e1⟩ := hI.b.form
  obtain ⟨a2, k2, e2⟩ := hI.c.form
  obtain ⟨a3, k3, e3⟩ := hI.o.form
  obtain ⟨a4, k4, e4⟩ := hI.t.form
  simp only at e1 e2 e3 e4
  subst e1 e2 e3 e4
  have hl2 : bs.length + (It.N f.params).b.length + (It.N f.slots).b.length + (byts (iL iN f.boxes)).length + (byts (iL iCap f.caps)).length + (byts (iL iIns f.code)).length + (byts (iL iTry f.tries)).length ≤ 4194304 := by
    simp only [iFn, byts, List.flatMap_cons, List.flatMap_append, List.length_append] at hl ⊢; omega
  have HFIN := hid (show bs ++ byts (iFn f) = bs ++ (It.N f.params).b ++ (It.N f.slots).b ++ byts (iL iN f.boxes) ++ byts (iL iCap f.caps) ++ byts (iL iIns f.code) ++ byts (iL iTry f.tries) by simp only [iFn, byts, List.flatMap_cons, List.flatMap_append, List.append_assoc])
  have HFOK := hid (show (ok && oks (iFn f)) = (ok && (It.N f.params).ok && (It.N f.slots).ok && oks (iL iN f.boxes) && oks (iL iCap f.caps) && oks (iL iIns f.code) && oks (iL iTry f.tries)) by simp only [iFn, oks, List.all_cons, List.all_append, Bool.and_assoc])
  have hrl := h.lt
  have HNP := hid (show w.heap.size ≠ r by omega)
  have HNC := hid (show (w.alloc (.cells #[.pointer (some ⟨r, 0, none⟩)] 53)).heap.size ≠ r by simp only [World.size_alloc]; omega)
  have HP := hid ((Blk.new w #[.pointer (some ⟨r, 0, none⟩)] 53).alloc (.cells #[.int .i64 f.params, .int .i64 f.slots, .slice a1 f.boxes.length k1, .slice a2 f.caps.length k2, .slice a3 f.code.length k3, .slice a4 f.tries.length k4] 47))
  have HC := hid (Blk.new (w.alloc (.cells #[.pointer (some ⟨r, 0, none⟩)] 53)) #[.int .i64 f.params, .int .i64 f.slots, .slice a1 f.boxes.length k1, .slice a2 f.caps.length k2, .slice a3 f.code.length k3, .slice a4 f.tries.length k4] 47)
  have HF := hid (hI.bw (Bw.alloc (Bw.alloc (Bw.refl w) (.cells #[.pointer (some ⟨r, 0, none⟩)] 53)) (.cells #[.int .i64 f.params, .int .i64 f.slots, .slice a1 f.boxes.length k1, .slice a2 f.caps.length k2, .slice a3 f.code.length k3, .slice a4 f.tries.length k4] 47)))
  have HW := hid (h.bw (Bw.alloc (Bw.alloc (Bw.refl w) (.cells #[.pointer (some ⟨r, 0, none⟩)] 53)) (.cells #[.int .i64 f.params, .int .i64 f.slots, .slice a1 f.boxes.length k1, .slice a2 f.caps.length k2, .slice a3 f.code.length k3, .slice a4 f.tries.length k4] 47)))
  have HK := hid ((Wk.refl base r w).bw (Bw.alloc (Bw.alloc (Bw.refl w) (.cells #[.pointer (some ⟨r, 0, none⟩)] 53)) (.cells #[.int .i64 f.params, .int .i64 f.slots, .slice a1 f.boxes.length k1, .slice a2 f.caps.length k2, .slice a3 f.code.length k3, .slice a4 f.tries.length k4] 47)))
  have HL := hid hl2
  have HIp := hid hI.p
  have HIs := hid hI.s
  clear h hI hl hl2 hrl
  rw [HFIN.out, HFOK.out]
  clear HFIN HFOK
  simp only [World.size_alloc] at HC HNC
  have NB : ∀ w bs ok, WB base w r bs ok → bs.length + (It.N f.params).b.length ≤ 4194304 → Calls Tryd.prog 36 #[.pointer (some ⟨r, 0, none⟩), .int .i64 f.params] w fun e w' => (∃ v, e = .returned v) ∧ WB base w' r (bs ++ (It.N f.params).b) (ok && (It.N f.params).ok) ∧ Wk base r w w' := fun w bs ok h h2 => wnumber_any f.params h HIp.out h2
  have NS : ∀ w bs ok, WB base w r bs ok → bs.length + (It.N f.slots).b.length ≤ 4194304 → Calls Tryd.prog 36 #[.pointer (some ⟨r, 0, none⟩), .int .i64 f.slots] w fun e w' => (∃ v, e = .returned v) ∧ WB base w' r (bs ++ (It.N f.slots).b) (ok && (It.N f.slots).ok) ∧ Wk base r w w' := fun w bs ok h h2 => wnumber_any f.slots h HIs.out h2
  have HNB := hid NB
  have HNS := hid NS
  clear NB NS
  go_enter Tryd.func42, Tryd.ntmps42
  go_wp2_with (first
    | (go_at_call_of 36 (Value.int .i64 f.params); refine (HNB.out _ _ _ HW.out (by have := HL.out; (try simp only [List.length_append]); omega)).mono ?_; rintro e w1 ⟨⟨_, rfl⟩, hw1, hk1⟩; replace HK := hid (HK.out.trans hk1); replace HF := hid (HF.out.wk hk1 HW.out.base); replace HW := hid hw1; replace HP := hid (HP.out.wk hk1 (by decide) HNP.out); replace HC := hid (HC.out.wk hk1 (by decide) HNC.out); have z1 := HP.out.cell 0; have y1 := HC.out.cell; have zl1 := HP.out.lt; have yl1 := HC.out.lt; clear hw1 hk1)
    | (go_at_call_of 36 (Value.int .i64 f.slots); refine (HNS.out _ _ _ HW.out (by have := HL.out; (try simp only [List.length_append]); omega)).mono ?_; rintro e w1 ⟨⟨_, rfl⟩, hw1, hk1⟩; replace HK := hid (HK.out.trans hk1); replace HF := hid (HF.out.wk hk1 HW.out.base); replace HW := hid hw1; replace HP := hid (HP.out.wk hk1 (by decide) HNP.out); replace HC := hid (HC.out.wk hk1 (by decide) HNC.out); have z2 := HP.out.cell 0; have y2 := HC.out.cell; have zl2 := HP.out.lt; have yl2 := HC.out.lt; clear hw1 hk1)
    | (go_at_call 39; refine (wnumbers_any _ f.boxes HW.out HF.out.b (by have := HL.out; (try simp only [List.length_append]); omega)).mono ?_; rintro e w1 ⟨⟨_, rfl⟩, hw1, hk1⟩; replace HK := hid (HK.out.trans hk1); replace HF := hid (HF.out.wk hk1 HW.out.base); replace HW := hid hw1; replace HP := hid (HP.out.wk hk1 (by decide) HNP.out); replace HC := hid (HC.out.wk hk1 (by decide) HNC.out); have z3 := HP.out.cell 0; have y3 := HC.out.cell; have zl3 := HP.out.lt; have yl3 := HC.out.lt; clear hw1 hk1)
    | (go_at_call 61; refine (wlC_any _ f.caps _ HW.out HP.out HF.out.c (by have := HL.out; (try simp only [List.length_append]); omega)).mono ?_; rintro e w1 ⟨⟨_, rfl⟩, hw1, hk1⟩; replace HK := hid (HK.out.trans hk1); replace HF := hid (HF.out.wk hk1 HW.out.base); replace HW := hid hw1; replace HP := hid (HP.out.wk hk1 (by decide) HNP.out); replace HC := hid (HC.out.wk hk1 (by decide) HNC.out); have z4 := HP.out.cell 0; have y4 := HC.out.cell; have zl4 := HP.out.lt; have yl4 := HC.out.lt; clear hw1 hk1)
    | (go_at_call 63; refine (wlN_any _ f.code _ HW.out HP.out HF.out.o (by have := HL.out; (try simp only [List.length_append]); omega)).mono ?_; rintro e w1 ⟨⟨_, rfl⟩, hw1, hk1⟩; replace HK := hid (HK.out.trans hk1); replace HF := hid (HF.out.wk hk1 HW.out.base); replace HW := hid hw1; replace HP := hid (HP.out.wk hk1 (by decide) HNP.out); replace HC := hid (HC.out.wk hk1 (by decide) HNC.out); have z5 := HP.out.cell 0; have y5 := HC.out.cell; have zl5 := HP.out.lt; have yl5 := HC.out.lt; clear hw1 hk1)
    | (go_at_call 66; refine (wlT_any _ f.tries _ HW.out HP.out HF.out.t (by have := HL.out; (try simp only [List.length_append]); omega)).mono ?_; rintro e w1 ⟨⟨_, rfl⟩, hw1, hk1⟩; replace HK := hid (HK.out.trans hk1); replace HF := hid (HF.out.wk hk1 HW.out.base); replace HW := hid hw1; replace HP := hid (HP.out.wk hk1 (by decide) HNP.out); replace HC := hid (HC.out.wk hk1 (by decide) HNC.out); have z6 := HP.out.cell 0; have y6 := HC.out.cell; have zl6 := HP.out.lt; have yl6 := HC.out.lt; clear hw1 hk1)
    | fail)
  all_goals go_end0
  all_goals exact ⟨⟨_, rfl⟩, HW.out, HK.out⟩

set_option maxRecDepth 100000 in
set_option maxHeartbeats 8000000 in
theorem wim3_any (x : MFn) (pb : Nat) (h : WB base w r bs ok) (hp : Blk w pb #[.pointer (some ⟨r, 0, none⟩)] 53) (hI : RFn w (fun b => b < base) x) (hl : bs.length + (byts (iMF x)).length ≤ 4194304) :
    Calls Tryd.prog 41 #[.agg #[.int .i64 x.f.params, .int .i64 x.f.slots, x.vb, x.vc, x.vo, x.vt], .pointer (some ⟨pb, 0, none⟩)] w fun e w' => (∃ v, e = .returned v) ∧ WB base w' r (bs ++ byts (iMF x)) (ok && oks (iMF x)) ∧ Wk base r w w' := by
  obtain ⟨f, vb, vc, vo, vt⟩ := x
  have HFW := hid (fun w bs ok (h : WB base w r bs ok) (hI : RFn w (fun b => b < base) ⟨f, vb, vc, vo, vt⟩) (hl : bs.length + (byts (iMF ⟨f, vb, vc, vo, vt⟩)).length ≤ 4194304) => wfun_any (w := w) ⟨f, vb, vc, vo, vt⟩ h hI hl)
  obtain ⟨a1, k1, e1⟩ := hI.b.form
  obtain ⟨a2, k2, e2⟩ := hI.c.form
  obtain ⟨a3, k3, e3⟩ := hI.o.form
  obtain ⟨a4, k4, e4⟩ := hI.t.form
  simp only at e1 e2 e3 e4 ⊢
  subst e1 e2 e3 e4
  have HW := hid h
  have HP := hid hp
  have HF := hid hI
  have HL := hid hl
  have z := hp.cell 0
  have zl := hp.lt
  clear h hp hI hl
  go_enter Tryd.func41, Tryd.ntmps41
  go_wp2_with (first
    | (go_at_call 42; refine (HFW.out _ _ _ (HW.out.bw (by repeat (first | exact Bw.refl _ | apply Bw.alloc | apply Bw.drewN | apply Bw.drew))) (HF.out.bw (by repeat (first | exact Bw.refl _ | apply Bw.alloc | apply Bw.drewN | apply Bw.drew))) HL.out).mono ?_; rintro e w1 ⟨⟨_, rfl⟩, hw1, hk1⟩; have HK1 := hid (((Wk.refl base r w).bw (by repeat (first | exact Bw.refl _ | apply Bw.alloc | apply Bw.drewN | apply Bw.drew))).trans hk1); have HW1 := hid hw1; clear hw1 hk1)
    | fail)
  all_goals go_end0
  all_goals exact ⟨⟨_, rfl⟩, HW1.out, HK1.out⟩

set_option maxRecDepth 100000 in
set_option maxHeartbeats 8000000 in
theorem wlF_any (v : Value) (l : List (MFn)) (pb : Nat) (h : WB base w r bs ok) (hp : Blk w pb #[.pointer (some ⟨r, 0, none⟩)] 53) (hv : RFs w (fun b => b < base) v l) (hl : bs.length + (byts (iL iMF l)).length ≤ 4194304) :
    Calls Tryd.prog 40 #[.pointer (some ⟨r, 0, none⟩), v, .func (.func 41) #[] #[.pointer (some ⟨pb, 0, none⟩)]] w fun e w' => (∃ v, e = .returned v) ∧ WB base w' r (bs ++ byts (iL iMF l)) (ok && oks (iL iMF l)) ∧ Wk base r w w' := by
  have HW := hid h
  have HP := hid hp
  have HV := hid hv
  have HL := hid hl
  have HNE := hid (by obtain ⟨u, hb, _⟩ := h.ex; exact blk_ne hp hb (by decide) : pb ≠ r)
  have HLE := hid (iP_le iMF l)
  have HFI := hid (iP_first iMF l)
  have hmx : l.length ≤ 9223372036854775807 := by have := hv.2.2.1; unfold maxLen at this; omega
  obtain ⟨a, cap, rfl⟩ := hv.form
  clear h hp hv hl
  go_enter Tryd.func40, Tryd.ntmps40
  go_wp2_with (first
    | (go_at_call 36; refine (wnumber_any (l.length : Int) HW.out (by omega) (by have := HL.out; have := HFI.out; omega)).mono ?_; rintro e w1 ⟨⟨_, rfl⟩, hw1, hk1⟩; have HW1 := hid hw1; have HK1 := hid hk1; clear hw1 hk1)
    | fail)
  go_loopw [14] (fun j wr => ∃ i, i ≤ l.length ∧ j = .int .i64 (i : Nat) ∧ WB base wr r (bs ++ byts (iP iMF l i)) (ok && oks (iP iMF l i)) ∧ Wk base r w wr) (fun j _ => l.length - (intOf j).toNat)
  case atStart => exact ⟨0, Nat.zero_le _, rfl, by simpa [iP_zero, byts, oks] using HW1.out, HK1.out⟩
  case round =>
    obtain ⟨i, hi, rfl, hw, hk⟩ := hrel
    have HW2 := hid hw
    have HK2 := hid hk
    clear hw hk
    by_cases hlt : i < l.length
    · obtain ⟨g, o, cap', e, hcap, hg, _, hc⟩ := (HV.out.keep HK2.out.size (wk_keep HK2.out HW2.out.base) (fun _ _ g => g)).parts hlt (by decide)
      cases e
      have c0 := hc 0 (by decide)
      have c1 := hc 1 (by decide)
      have c2 := hc 2 (by decide)
      have c3 := hc 3 (by decide)
      have c4 := hc 4 (by decide)
      have c5 := hc 5 (by decide)
      simp only [Nat.add_zero, Nat.mul_one, ← Nat.add_assoc, fnC, List.getElem?_cons_zero, List.getElem?_cons_succ] at c0 c1 c2 c3 c4 c5
      have hlt2 : (i : Int) < (l.length : Int) := by omega
      have HB := hid (HP.out.wk HK2.out (by decide) HNE.out)
      have HO := hid (HV.out.2.1 _ (List.getElem_mem hlt))
      have HS := hid (iP_step iMF l i hlt)
      have HLS := hid (HLE.out (i + 1))
      generalize l[i] = x at c0 c1 c2 c3 c4 c5 HO HS
      clear hc
      obtain ⟨f, vb, vc, vo, vt⟩ := x
      obtain ⟨a1, k1, e1⟩ := HO.out.b.form
      obtain ⟨a2, k2, e2⟩ := HO.out.c.form
      obtain ⟨a3, k3, e3⟩ := HO.out.o.form
      obtain ⟨a4, k4, e4⟩ := HO.out.t.form
      simp only at e1 e2 e3 e4 c0 c1 c2 c3 c4 c5
      subst e1 e2 e3 e4
      go_wp2_with (first
        | (go_at_call 41; refine (wim3_any _ _ (HW2.out.bw (by repeat (first | exact Bw.refl _ | apply Bw.alloc | apply Bw.drewN | apply Bw.drew))) (HB.out.bw (by repeat (first | exact Bw.refl _ | apply Bw.alloc | apply Bw.drewN | apply Bw.drew))) ((HO.out.wk HK2.out HW2.out.base).bw (by repeat (first | exact Bw.refl _ | apply Bw.alloc | apply Bw.drewN | apply Bw.drew))) (by have := HL.out; have := HLS.out; rw [HS.out, byts_app] at this; simp only [List.length_append] at this ⊢; omega)).mono ?_; rintro e w3 ⟨⟨_, rfl⟩, hw3, hk3⟩; have HW3 := hid hw3; have HK3 := hid ((HK2.out.bw (by repeat (first | exact Bw.refl _ | apply Bw.alloc | apply Bw.drewN | apply Bw.drew))).trans hk3); clear hw3 hk3)
        | fail)
      go_roundw
      case rel => exact ⟨i + 1, by omega, by go_num, HW3.out.items HS.out, HK3.out⟩
      case measure => simp [intOf]; omega
    · obtain rfl : i = l.length := by omega
      go_wp2
      all_goals go_end0
      all_goals exact ⟨⟨_, rfl⟩, by rw [← iP_all]; exact HW2.out, HK2.out⟩

end

end Go.Proofs.YtfhnhbpmiodomaaDoor
