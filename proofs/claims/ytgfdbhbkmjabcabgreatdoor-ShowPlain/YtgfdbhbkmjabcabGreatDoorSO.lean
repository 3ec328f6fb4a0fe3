/- The shower's calls, while there is room: a word without parts, an object that one is within, one that has parts. -/
import Derived.Test.YtgfdbhbkmjabcabGreatDoorSN
set_option linter.unusedSimpArgs false
set_option linter.unusedVariables false
namespace Go.Proofs.YtgfdbhbkmjabcabGreatDoor
open Go Go.RowKit

theorem underMp : Tryz.prog.underlying 46 = some (.map 23 3) := by kernel_rfl
theorem underKV : Tryz.prog.underlying 23 = some (.int .u64) := by kernel_rfl
theorem underKI : Tryz.prog.underlying 3 = some (.int .i64) := by kernel_rfl
theorem zeroKI (w : World) : (zeroValue 3).run Tryz.prog w = .ok (.int .i64 0) w := by kernel_rfl
theorem lawKV : Maps.Keyed Tryz.prog 23 := Maps.int_keyed underKV
theorem wfU {v : Int} (h : U v) : (Lit.int .u64 v).wf = true := WalkArith.wf_u64 (by unfold U at h; omega)

/-- The map alone was turned. -/
theorem SI.turned {w w' : World} {b0 : Nat} {H : AHeap} {bs : List Nat} {sb mb bt base : Nat} {W W' : List Int} {xs : List Value} (h : SI w b0 H bs sb mb bt base W xs) (ht : w.mapTurned w' mb) (hm : Wi w' mb W') :
    SI w' b0 H bs sb mb bt base W' xs ∧ St mb bt base w w' := by
  have hg := ht.grown
  have hb : ∀ b, b < w.heap.size → b ≠ mb → w'.heap[b]? = w.heap[b]? := fun b h1 h2 => hg.block b h1 (fun e => h2 (Option.some.inj e))
  have hst : St mb bt base w w' := ⟨hg.os, hg.tape, hg.output, hg.size, fun b h1 h2 _ => hb b (Nat.lt_of_lt_of_le h1 h.top) h2⟩
  obtain ⟨t, h1, h2⟩ := h.tx
  refine ⟨h.next hst hm ⟨t, h1.keep (hb bt h1.lt h.mbn.2.symm), own_same h2 (fun k hk => ?_)⟩, hst⟩
  have h3 := h2.lt k hk
  exact hb k h3.2 (by have := h.mbn.1; omega)

set_option maxHeartbeats 8000000 in
theorem value_pl {b0 : Nat} {H : AHeap} {bs : List Nat} {sb mb bt base : Nat} {W : List Int} {xs : List Value} (v : Int) (hU : U v) (w : World) (h : SI w b0 H bs sb mb bt base W xs)
    (hk : (kk H v == 2 || kk H v == 3 || kk H v == 4) = false) (s : ByteArray) (hr : xs.length + s.size ≤ 65536)
    (hpl : ∀ w1, Bw w w1 → Calls Tryz.prog 23 #[.pointer (some ⟨b0, 0, none⟩), .int .u64 v] w1 fun e w2 => e = .returned (.string s) ∧ Bw w1 w2) :
    Calls Tryz.prog 12 #[.pointer (some ⟨sb, 0, none⟩), .int .u64 v] w fun e w' => e = .returned (.bool true) ∧ SI w' b0 H bs sb mb bt base W (xs ++ Lib.strCells s) ∧ St mb bt base w w' := by
  have HI := hid h
  have HU := hid hU
  have HPL := hid hpl
  have z0 := h.c0
  have z2 := h.c2
  clear h hU hpl
  go_enter Tryz.func12, Tryz.ntmps12
  go_wp2_with (first
    | (go_at_call 14; refine (kind_hs4 _ HU.out _ HI.out.hs).mono ?_; rintro e w' ⟨rfl, hw'⟩; subst w')
    | (go_at_call 21; refine (hasParts_any _ _).mono ?_; rintro e w' ⟨rfl, hw'⟩; subst w'; rw [hk])
    | fail)
  go_region_held3 (fun w' => w'.cell? ⟨sb, 0, none⟩ = some (.pointer (some ⟨b0, 0, none⟩)) ∧ w'.cell? ⟨sb, 2, none⟩ = some (.func (.func 11) #[] #[.pointer (some ⟨bt, 0, none⟩)])) (first | (simp [go_sem, *]; done) | exact ⟨yy0, yy2⟩ | exact ⟨y0, y2⟩)
    (first
      | (go_at_call 23; refine (HPL.out _ (by repeat (first | exact Bw.refl _ | apply Bw.drew))).mono ?_; rintro e w2 ⟨rfl, hb2⟩; have hb3 : Bw w w2 := Bw.trans (by repeat (first | exact Bw.refl _ | apply Bw.drew)) hb2; have hi2 := HI.out.bw hb3; have y0 := hi2.c0; have y2 := hi2.c2; have HI2 := hid hi2; have HT2 := hid (HI.out.st hb3); clear hb2 hb3 hi2)
      | (go_at_call 11; refine (put_si s HI2.out hr).mono ?_; rintro e w3 ⟨rfl, hi3, hst3⟩; have yy0 := hi3.c0; have yy2 := hi3.c2; have HI3 := hid hi3; have HT3 := hid hst3; clear hi3 hst3)
      | fail)
  go_wp2
  all_goals go_ret
  all_goals exact ⟨rfl, HI3.out, HT2.out.trans HT3.out⟩

set_option maxHeartbeats 8000000 in
theorem nested_out {b0 : Nat} {H : AHeap} {bs : List Nat} {sb mb bt base : Nat} {W : List Int} {xs t : List Value} (v : Int) (hU : U v) (w : World) (h : SI w b0 H bs sb mb bt base W xs)
    (hv : v ∉ W) (hW : W.length ≤ 1000000)
    (hp : ∀ w1, St mb bt base w w1 → SI w1 b0 H bs sb mb bt base (W ++ [v]) xs → Calls Tryz.prog 40 #[.pointer (some ⟨sb, 0, none⟩), .int .u64 v] w1 fun e w2 => e = .returned (.bool true) ∧ SI w2 b0 H bs sb mb bt base (W ++ [v]) (xs ++ t) ∧ St mb bt base w1 w2) :
    Calls Tryz.prog 22 #[.pointer (some ⟨sb, 0, none⟩), .int .u64 v] w fun e w' => e = .returned (.bool true) ∧ SI w' b0 H bs sb mb bt base W (xs ++ t) ∧ St mb bt base w w' := by
  have HI := hid h
  have HP := hid hp
  have HK := hid (Maps.keyOf_int_mk underKV (wfU hU))
  have z1 := h.c1
  obtain ⟨D, ho, hr⟩ := h.mp
  have HO := hid ho
  have HR := hid hr
  have hsz := hr.size
  have hhas : Maps.has D (.int .u64 v) = false := by rw [hr.has v]; simp [hv]
  clear h hp hU ho hr
  go_enter Tryz.func22, Tryz.ntmps22
  go_wp2_with (first
    | (at_len; refine wpList_len_own _ rfl _ 46 rfl 23 3 underMp _ mb W.length D rfl HO.out ?_; rw [hsz])
    | (at_lookup; refine wpList_lookup_own_ok_int _ rfl _ _ 46 rfl 23 3 .i64 lawKV underMp underKI (zeroKI _) mb W.length D rfl HO.out _ _ rfl HK.out ?_; intro c hat hwc; rw [hhas]; clear hat hwc)
    | (at_mapUpdate; refine wpList_mapUpdate_in _ rfl _ _ _ 46 rfl 23 3 lawKV underMp _ mb W.length D rfl HO.out (by unfold maxLen; omega) _ _ _ rfl rfl HK.out _ [] (plainElem_int underKI (WalkArith.wf_i64 (by omega))) ?_; intro w1 hown1 hturn1; have hw1 : Wi w1 mb (W ++ [v]) := ⟨_, by simpa using hown1, HR.out.snoc hv⟩; obtain ⟨hi1, hs1⟩ := HI.out.turned hturn1 hw1; have y1 := hi1.c1; have HI1 := hid hi1; have HT1 := hid hs1; clear hown1 hturn1 hw1 hi1 hs1)
    | (go_at_call 40; refine (HP.out _ HT1.out HI1.out).mono ?_; rintro e w2 ⟨rfl, hi2, hs2⟩; have y2 := hi2.c1; obtain ⟨D2, ho2, hr2⟩ := hi2.mp; have HO2 := hid ho2; have HR2 := hid hr2; have HI2 := hid hi2; have HT2 := hid hs2; clear hi2 hs2 ho2 hr2)
    | (at_delete; refine wpList_delete_own _ rfl _ _ 46 23 rfl 3 lawKV underMp _ mb (W ++ [v]).length D2 rfl HO2.out _ _ rfl HK.out ?_; intro w3 hown3 hturn3; have hrd := HR2.out.pop; have hw3 : Wi w3 mb W := ⟨_, own_tight hown3 hrd.size, hrd⟩; obtain ⟨hi3, hs3⟩ := HI2.out.turned hturn3 hw3; have HI3 := hid hi3; have HT3 := hid hs3; clear hown3 hturn3 hw3 hi3 hs3 hrd)
    | fail)
  all_goals go_ret
  all_goals exact ⟨rfl, HI3.out, (HT1.out.trans HT2.out).trans HT3.out⟩

end Go.Proofs.YtgfdbhbkmjabcabGreatDoor
