/- What a word looks like, where there may be no room: a piece, a word without parts, an object that one is within, one that has parts. -/
import Derived.Test.YtimidonagbfjcaaGreatDoorK9
set_option linter.unusedSimpArgs false
set_option linter.unusedVariables false
namespace Go.Proofs.YtimidonagbfjcaaGreatDoor
open Go Go.RowKit

/-- Is there room? -/
def fits (xs t : List Value) : Bool := decide (xs.length + t.length ≤ 65536)

theorem fits_yes {xs t : List Value} (h : xs.length + t.length ≤ 65536) : fits xs t = true := decide_eq_true h
theorem fits_no {xs t : List Value} (h : ¬ xs.length + t.length ≤ 65536) : fits xs t = false := decide_eq_false h
theorem fits_le {xs t : List Value} (h : fits xs t = true) : xs.length + t.length ≤ 65536 := of_decide_eq_true h
theorem fits_app {xs a b : List Value} (h : fits xs a = true) : fits xs (a ++ b) = fits (xs ++ a) b := by
  unfold fits
  simp only [List.length_append, Nat.add_assoc]
theorem fits_fst {xs a b : List Value} (h : fits xs a = false) : fits xs (a ++ b) = false := by
  have : ¬ xs.length + a.length ≤ 65536 := of_decide_eq_false h
  exact fits_no (by simp only [List.length_append]; omega)

/-- From one world to the next while something is shown; blocks that hold no bytes are kept, wherever they lie. -/
structure Sz (mb bt base : Nat) (w w' : World) : Prop where
  st : St mb bt base w w'
  keep : ∀ b, b < w.heap.size → b ≠ mb → b ≠ bt → (∀ cur, w.heap[b]? ≠ some (.cells cur 5 (0, 0))) → w'.heap[b]? = w.heap[b]?

theorem Sz.refl (mb bt base : Nat) (w : World) : Sz mb bt base w w := ⟨St.refl _ _ _ _, fun _ _ _ _ _ => rfl⟩
theorem Sz.trans {mb bt base : Nat} {a b c : World} (h : Sz mb bt base a b) (k : Sz mb bt base b c) : Sz mb bt base a c :=
  ⟨h.st.trans k.st, fun x h1 h2 h3 h4 => by
    have e := h.keep x h1 h2 h3 h4
    exact (k.keep x (Nat.lt_of_lt_of_le h1 h.st.size) h2 h3 (fun cur => by rw [e]; exact h4 cur)).trans e⟩

theorem SI.sz {w w' : World} {b0 : Nat} {H : AHeap} {bs : List Nat} {sb mb bt base : Nat} {W : List Int} {xs : List Value} (h : SI w b0 H bs sb mb bt base W xs) (hb : Bw w w') : Sz mb bt base w w' :=
  ⟨h.st hb, fun b h1 _ _ _ => hb.block b h1⟩

theorem SI.turnedz {w w' : World} {b0 : Nat} {H : AHeap} {bs : List Nat} {sb mb bt base : Nat} {W W' : List Int} {xs : List Value} (h : SI w b0 H bs sb mb bt base W xs) (ht : w.mapTurned w' mb) (hm : Wi w' mb W') :
    SI w' b0 H bs sb mb bt base W' xs ∧ Sz mb bt base w w' := by
  obtain ⟨h1, h2⟩ := h.turned ht hm
  exact ⟨h1, h2, fun b hb hn _ _ => ht.grown.block b hb (fun e => hn (Option.some.inj e))⟩

/-- Behind something that was shown: it said yes just if there was room, and then it stands behind the text. -/
def Sd (b0 : Nat) (H : AHeap) (bs : List Nat) (sb mb bt base : Nat) (W : List Int) (xs t : List Value) (w : World) (e : Ending) (w' : World) : Prop :=
  e = .returned (.bool (fits xs t)) ∧ Sz mb bt base w w' ∧ (fits xs t = true → SI w' b0 H bs sb mb bt base W (xs ++ t))

theorem SI.cs {w w' : World} {b0 : Nat} {H : AHeap} {bs : List Nat} {sb mb bt base : Nat} {W : List Int} {xs : List Value} (h : SI w b0 H bs sb mb bt base W xs) (hst : Sz mb bt base w w') :
    w'.cell? ⟨sb, 0, none⟩ = some (.pointer (some ⟨b0, 0, none⟩)) ∧ w'.cell? ⟨sb, 1, none⟩ = some (.map (some mb)) ∧ w'.cell? ⟨sb, 2, none⟩ = some (.func (.func 26) #[] #[.pointer (some ⟨bt, 0, none⟩)]) := by
  have hk := h.sh.keep (hst.st.block sb h.sbn.1 h.sbn.2.1 h.sbn.2.2)
  exact ⟨hk.cell 0, hk.cell 1, hk.cell 2⟩

theorem put_two (s : ByteArray) {w : World} {b0 : Nat} {H : AHeap} {bs : List Nat} {sb mb bt base : Nat} {W : List Int} {xs : List Value} (h : SI w b0 H bs sb mb bt base W xs) (hx : xs.length ≤ 65536) (hs : s.size ≤ 1000000000) :
    Calls Tryz.prog 26 #[.string s, .pointer (some ⟨bt, 0, none⟩)] w (Sd b0 H bs sb mb bt base W xs (Lib.strCells s) w) := by
  obtain ⟨t, hB, ho⟩ := h.tx
  refine (put_any s bt base xs t w hB ho hx hs h.top).mono fun e w' hc => ?_
  rcases hc with ⟨hr, he, hw⟩ | ⟨hr, he, v', w1, how, hg, hw', hb1⟩
  · have hf : fits xs (Lib.strCells s) = false := fits_no (by rw [Lib.strCells_length]; omega)
    subst hw
    refine ⟨?_, Sz.refl _ _ _ _, fun k => ?_⟩
    · rw [hf]; exact he
    · rw [hf] at k; cases k
  · have hf : fits xs (Lib.strCells s) = true := fits_yes (by rw [Lib.strCells_length]; exact hr)
    have hst1 : ∀ b, b < base → w1.heap[b]? = w.heap[b]? := fun b hb => hg.block b (Nat.lt_of_lt_of_le hb h.top) (fun k => by have := (ho.lt b k.symm).1; omega)
    have hst : St mb bt base w w' := by
      rw [hw']
      exact ⟨hg.os, hg.tape, hg.output, by simpa [World.setCell] using hg.size, fun b h1 _ h3 => (Below.heap_setCell w1 ⟨bt, 0, none⟩ v' b h3).trans (hst1 b h1)⟩
    refine ⟨by rw [hf]; exact he, ⟨hst, fun b h1 _ h3 h4 => ?_⟩, fun _ => h.next hst ?_ ?_⟩
    · rw [hw']
      refine (Below.heap_setCell w1 ⟨bt, 0, none⟩ v' b h3).trans (hg.block b h1 (fun e => ?_))
      rcases ho.2 with ⟨rfl, _⟩ | ⟨g, cap, cur, rfl, _, hgc, _⟩
      · simp [Value.ownBlock] at e
      · have e' : b = g := by simpa [Value.ownBlock] using e
        subst e'
        exact h4 cur hgc
    · refine h.mp.keep ?_
      rw [hw']
      exact (Below.heap_setCell w1 ⟨bt, 0, none⟩ v' mb h.mbn.2).trans (hst1 mb h.mbn.1)
    · refine ⟨v', ?_, ?_⟩
      · rw [hw']; exact hb1.set 0 v'
      · rw [hw', List.length_append, Lib.strCells_length]
        refine own_same how (fun k hk => Below.heap_setCell w1 ⟨bt, 0, none⟩ v' k (fun e => ?_))
        have h1 := (how.lt k hk).1
        have h2 := h.btn
        have e' : k = bt := e
        omega

set_option maxHeartbeats 8000000 in
theorem value_pl2 {b0 : Nat} {H : AHeap} {bs : List Nat} {sb mb bt base : Nat} {W : List Int} {xs : List Value} (v : Int) (hU : U v) (w : World) (h : SI w b0 H bs sb mb bt base W xs) (hx : xs.length ≤ 65536)
    (hk : (kk H v == 2 || kk H v == 3 || kk H v == 4) = false) (s : ByteArray) (hs : s.size ≤ 1000000000)
    (hpl : ∀ w1, Bw w w1 → Calls Tryz.prog 47 #[.pointer (some ⟨b0, 0, none⟩), .int .u64 v] w1 fun e w2 => e = .returned (.string s) ∧ Bw w1 w2) :
    Calls Tryz.prog 27 #[.pointer (some ⟨sb, 0, none⟩), .int .u64 v] w (Sd b0 H bs sb mb bt base W xs (Lib.strCells s) w) := by
  have HI := hid h
  have HU := hid hU
  have HPL := hid hpl
  have HX := hid hx
  have HS := hid hs
  have z0 := h.c0
  have z2 := h.c2
  clear h hU hpl hx hs
  go_enter Tryz.func27, Tryz.ntmps27
  go_wp2_with (first
    | (go_at_call 31; refine (kind_hs4 _ HU.out _ HI.out.hs).mono ?_; rintro e w' ⟨rfl, hw'⟩; subst w')
    | (go_at_call 45; refine (hasParts_any _ _).mono ?_; rintro e w' ⟨rfl, hw'⟩; subst w'; rw [hk])
    | fail)
  go_region_held3 (fun w' => w'.cell? ⟨sb, 0, none⟩ = some (.pointer (some ⟨b0, 0, none⟩)) ∧ w'.cell? ⟨sb, 2, none⟩ = some (.func (.func 26) #[] #[.pointer (some ⟨bt, 0, none⟩)])) (first | (simp [go_sem, *]; done) | exact ⟨yy0, yy2⟩ | exact ⟨y0, y2⟩)
    (first
      | (go_at_call 47; refine (HPL.out _ (by repeat (first | exact Bw.refl _ | apply Bw.drew))).mono ?_; rintro e w2 ⟨rfl, hb2⟩; have hb3 : Bw w w2 := Bw.trans (by repeat (first | exact Bw.refl _ | apply Bw.drew)) hb2; have hi2 := HI.out.bw hb3; have y0 := hi2.c0; have y2 := hi2.c2; have HI2 := hid hi2; have HT2 := hid (HI.out.sz hb3); clear hb2 hb3 hi2)
      | (go_at_call 26; refine (put_two s HI2.out HX.out HS.out).mono ?_; rintro e w3 ⟨rfl, hst3, hi3⟩; obtain ⟨yy0, yy1, yy2⟩ := HI2.out.cs hst3; have HI3 := hid hi3; have HT3 := hid hst3; clear hi3 hst3)
      | fail)
  go_wp2
  all_goals go_ret
  all_goals exact ⟨rfl, HT2.out.trans HT3.out, HI3.out⟩

set_option maxHeartbeats 8000000 in
theorem nested_out2 {b0 : Nat} {H : AHeap} {bs : List Nat} {sb mb bt base : Nat} {W : List Int} {xs t : List Value} (v : Int) (hU : U v) (w : World) (h : SI w b0 H bs sb mb bt base W xs)
    (hv : v ∉ W) (hW : W.length ≤ 1000000)
    (hp : ∀ w1, Sz mb bt base w w1 → SI w1 b0 H bs sb mb bt base (W ++ [v]) xs → Calls Tryz.prog 62 #[.pointer (some ⟨sb, 0, none⟩), .int .u64 v] w1 (Sd b0 H bs sb mb bt base (W ++ [v]) xs t w1)) :
    Calls Tryz.prog 46 #[.pointer (some ⟨sb, 0, none⟩), .int .u64 v] w (Sd b0 H bs sb mb bt base W xs t w) := by
  have HI := hid h
  have HP := hid hp
  have HK := hid (Maps.keyOf_int_mk underKV (wfU hU))
  have z1 := h.c1
  obtain ⟨D, ho, hr⟩ := h.mp
  have HO := hid ho
  have HR := hid hr
  have hsz := hr.size
  have hhas : Maps.has D (.int .u64 v) = false := by rw [hr.has v]; simp [hv]
  clear h hp hU ho hr
  cases hfit : fits xs t
  · have HF := hid hfit
    clear hfit
    go_enter Tryz.func46, Tryz.ntmps46
    go_wp2_with (first
      | (at_len; refine wpList_len_own _ rfl _ 70 rfl 27 3 underMp _ mb W.length D rfl HO.out ?_; rw [hsz])
      | (at_lookup; refine wpList_lookup_own_ok_int _ rfl _ _ 70 rfl 27 3 .i64 lawKV underMp underKI (zeroKI _) mb W.length D rfl HO.out _ _ rfl HK.out ?_; intro c hat hwc; rw [hhas]; clear hat hwc)
      | (at_mapUpdate; refine wpList_mapUpdate_in _ rfl _ _ _ 70 rfl 27 3 lawKV underMp _ mb W.length D rfl HO.out (by unfold maxLen; omega) _ _ _ rfl rfl HK.out _ [] (plainElem_int underKI (WalkArith.wf_i64 (by omega))) ?_; intro w1 hown1 hturn1; have hw1 : Wi w1 mb (W ++ [v]) := ⟨_, by simpa using hown1, HR.out.snoc hv⟩; obtain ⟨hi1, hs1⟩ := HI.out.turnedz hturn1 hw1; have y1 := hi1.c1; have HI1 := hid hi1; have HT1 := hid hs1; clear hown1 hturn1 hw1 hi1 hs1)
      | (go_at_call 62; refine (HP.out _ HT1.out HI1.out).mono ?_; rintro e w2 ⟨he2, hs2, _⟩; rw [HF.out] at he2; subst he2; have HT2 := hid hs2; clear hs2)
      | fail)
    all_goals go_ret
    all_goals exact ⟨by rw [HF.out]; rfl, HT1.out.trans HT2.out, fun k => by rw [HF.out] at k; cases k⟩
  · have HF := hid hfit
    clear hfit
    go_enter Tryz.func46, Tryz.ntmps46
    go_wp2_with (first
      | (at_len; refine wpList_len_own _ rfl _ 70 rfl 27 3 underMp _ mb W.length D rfl HO.out ?_; rw [hsz])
      | (at_lookup; refine wpList_lookup_own_ok_int _ rfl _ _ 70 rfl 27 3 .i64 lawKV underMp underKI (zeroKI _) mb W.length D rfl HO.out _ _ rfl HK.out ?_; intro c hat hwc; rw [hhas]; clear hat hwc)
      | (at_mapUpdate; refine wpList_mapUpdate_in _ rfl _ _ _ 70 rfl 27 3 lawKV underMp _ mb W.length D rfl HO.out (by unfold maxLen; omega) _ _ _ rfl rfl HK.out _ [] (plainElem_int underKI (WalkArith.wf_i64 (by omega))) ?_; intro w1 hown1 hturn1; have hw1 : Wi w1 mb (W ++ [v]) := ⟨_, by simpa using hown1, HR.out.snoc hv⟩; obtain ⟨hi1, hs1⟩ := HI.out.turnedz hturn1 hw1; have y1 := hi1.c1; have HI1 := hid hi1; have HT1 := hid hs1; clear hown1 hturn1 hw1 hi1 hs1)
      | (go_at_call 62; refine (HP.out _ HT1.out HI1.out).mono ?_; rintro e w2 ⟨he2, hs2, hi2'⟩; rw [HF.out] at he2; subst he2; have hi2 := hi2' HF.out; have y2 := hi2.c1; obtain ⟨D2, ho2, hr2⟩ := hi2.mp; have HO2 := hid ho2; have HR2 := hid hr2; have HI2 := hid hi2; have HT2 := hid hs2; clear hi2 hi2' hs2 ho2 hr2)
      | (at_delete; refine wpList_delete_own _ rfl _ _ 70 27 rfl 3 lawKV underMp _ mb (W ++ [v]).length D2 rfl HO2.out _ _ rfl HK.out ?_; intro w3 hown3 hturn3; have hrd := HR2.out.pop; have hw3 : Wi w3 mb W := ⟨_, own_tight hown3 hrd.size, hrd⟩; obtain ⟨hi3, hs3⟩ := HI2.out.turnedz hturn3 hw3; have HI3 := hid hi3; have HT3 := hid hs3; clear hown3 hturn3 hw3 hi3 hs3 hrd)
      | fail)
    all_goals go_ret
    all_goals exact ⟨by rw [HF.out]; rfl, (HT1.out.trans HT2.out).trans HT3.out, fun _ => HI3.out⟩

set_option maxRecDepth 100000 in
set_option maxHeartbeats 1000000 in
theorem nested_in2 {b0 : Nat} {H : AHeap} {bs : List Nat} {sb mb bt base : Nat} {W : List Int} {xs : List Value} (v : Int) (hU : U v) (w : World) (h : SI w b0 H bs sb mb bt base W xs) (hx : xs.length ≤ 65536)
    (i : Nat) (hv : W[i]? = some v) (hW : W.length ≤ 1000000) (s : ByteArray) (hss : s.size ≤ 1000000)
    (hit : ∀ w1, Bw w w1 → Calls Tryz.prog 61 #[.int .i64 ((W.length : Int) - (i : Int))] w1 fun e w2 => e = .returned (.string s) ∧ Bw w1 w2) :
    Calls Tryz.prog 46 #[.pointer (some ⟨sb, 0, none⟩), .int .u64 v] w (Sd b0 H bs sb mb bt base W xs (Lib.strCells (⟨#[94]⟩ ++ s)) w) := by
  have hs1 : (⟨#[94]⟩ : ByteArray).size + s.size ≤ 9223372036854775807 := by have e : (⟨#[94]⟩ : ByteArray).size = 1 := rfl; omega
  have hr0 : (⟨#[94]⟩ ++ s : ByteArray).size ≤ 1000000000 := by rw [ByteArray.size_append]; have e : (⟨#[94]⟩ : ByteArray).size = 1 := rfl; omega
  generalize hpe : (⟨#[94]⟩ ++ s : ByteArray) = p at hr0 ⊢
  have hadd : ∀ w, (Op.stringOp .add ⟨#[94]⟩ s).run Tryz.prog w = .ok (.string p) w := fun w => by rw [← hpe]; exact run_string_add_sum (P := Tryz.prog) w ⟨#[94]⟩ s hs1
  have HI := hid h
  have HX := hid hx
  have HK := hid (Maps.keyOf_int_mk underKV (wfU hU))
  have z1 := h.c1
  have z2 := h.c2
  obtain ⟨D, ho, hr⟩ := h.mp
  have HO := hid ho
  have hsz := hr.size
  have hhas : Maps.has D (.int .u64 v) = true := by rw [hr.has v]; simp [List.mem_of_getElem? hv]
  have HA := hid (hr.at_ i v hv)
  have hil : i < W.length := (List.getElem?_eq_some_iff.1 hv).1
  obtain ⟨d, hd⟩ : ∃ d : Int, d = (W.length : Int) - (i : Int) := ⟨_, rfl⟩
  have hwr : IntKind.i64.wrap ((W.length : Int) - (i : Int)) = d := by rw [IntKind.wrap_i64, hd]; omega
  rw [← hd] at hit
  have HIT := hid hit
  have hno : ¬ (9223372036854775807 < 1 + s.size) := by have e : (⟨#[94]⟩ : ByteArray).size = 1 := rfl; omega
  have HR0 := hid hr0
  clear h hit hU ho hr hv hs1 hr0 hd hx hss
  go_enter Tryz.func46, Tryz.ntmps46
  go_wp2_with (first
    | (at_len; refine wpList_len_own _ rfl _ 70 rfl 27 3 underMp _ mb W.length D rfl HO.out ?_; rw [hsz])
    | (at_lookup; refine wpList_lookup_own_ok_int _ rfl _ _ 70 rfl 27 3 .i64 lawKV underMp underKI (zeroKI _) mb W.length D rfl HO.out _ _ rfl HK.out ?_; intro c hat hwc; obtain rfl : c = (i : Int) := (by have := HA.out.symm.trans hat; injection this with e1; injection e1 with _ e2; exact e2.symm); rw [hhas]; clear hat hwc)
    | fail)
  go_region_held3 (fun w' => w'.cell? ⟨sb, 2, none⟩ = some (.func (.func 26) #[] #[.pointer (some ⟨bt, 0, none⟩)])) (first | (simp [go_sem, *]; done) | exact yy2 | exact y2)
    (first
      | (go_at_call_of 61 (Value.int .i64 d); refine (HIT.out _ (by repeat (first | exact Bw.refl _ | apply Bw.drew))).mono ?_; rintro e w2 ⟨rfl, hb2⟩; have hb3 : Bw w w2 := Bw.trans (by repeat (first | exact Bw.refl _ | apply Bw.drew)) hb2; have hi2 := HI.out.bw hb3; have y2 := hi2.c2; have HI2 := hid hi2; have HT2 := hid (HI.out.sz hb3); clear hb2 hb3 hi2)
      | (go_at_call 26; refine (put_two p HI2.out HX.out HR0.out).mono ?_; rintro e w3 ⟨rfl, hst3, hi3⟩; obtain ⟨_, _, yy2⟩ := HI2.out.cs hst3; have HI3 := hid hi3; have HT3 := hid (HT2.out.trans hst3); clear hi3 hst3)
      | fail)
  go_wp2
  all_goals go_ret
  all_goals exact ⟨rfl, HT3.out, HI3.out⟩

set_option maxHeartbeats 8000000 in
theorem value_nest2 {b0 : Nat} {H : AHeap} {bs : List Nat} {sb mb bt base : Nat} {W : List Int} {xs t : List Value} (v : Int) (hU : U v) (w : World) (h : SI w b0 H bs sb mb bt base W xs)
    (hk : (kk H v == 2 || kk H v == 3 || kk H v == 4) = true)
    (hn : Calls Tryz.prog 46 #[.pointer (some ⟨sb, 0, none⟩), .int .u64 v] w (Sd b0 H bs sb mb bt base W xs t w)) :
    Calls Tryz.prog 27 #[.pointer (some ⟨sb, 0, none⟩), .int .u64 v] w (Sd b0 H bs sb mb bt base W xs t w) := by
  have HI := hid h
  have HU := hid hU
  have HN := hid hn
  have z0 := h.c0
  clear h hU hn
  go_enter Tryz.func27, Tryz.ntmps27
  go_wp2_with (first
    | (go_at_call 31; refine (kind_hs4 _ HU.out _ HI.out.hs).mono ?_; rintro e w' ⟨rfl, hw'⟩; subst w')
    | (go_at_call 45; refine (hasParts_any _ _).mono ?_; rintro e w' ⟨rfl, hw'⟩; subst w'; rw [hk])
    | (go_at_call 46; refine HN.out.mono ?_; rintro e w1 ⟨rfl, hs1, hi1⟩; have HI1 := hid hi1; have HT1 := hid hs1; clear hi1 hs1)
    | fail)
  all_goals go_ret
  all_goals exact ⟨rfl, HT1.out, HI1.out⟩

end Go.Proofs.YtimidonagbfjcaaGreatDoor

