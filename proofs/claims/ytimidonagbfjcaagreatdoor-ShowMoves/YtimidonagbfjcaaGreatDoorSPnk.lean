/- The shower's calls, while there is room: an array's entries, what stands about them, an object that one is within. -/
import Derived.Test.YtimidonagbfjcaaGreatDoorSPk
set_option linter.unusedSimpArgs false
set_option linter.unusedVariables false
namespace Go.Proofs.YtimidonagbfjcaaGreatDoor
open Go Go.RowKit

set_option maxRecDepth 100000 in
set_option maxHeartbeats 1000000 in
theorem nested_in {b0 : Nat} {H : AHeap} {bs : List Nat} {sb mb bt base : Nat} {W : List Int} {xs : List Value} (v : Int) (hU : U v) (w : World) (h : SI w b0 H bs sb mb bt base W xs)
    (i : Nat) (hv : W[i]? = some v) (hW : W.length ≤ 1000000) (s : ByteArray) (hr0 : xs.length + (⟨#[94]⟩ ++ s : ByteArray).size ≤ 65536)
    (hit : ∀ w1, Bw w w1 → Calls Tryz.prog 61 #[.int .i64 ((W.length : Int) - (i : Int))] w1 fun e w2 => e = .returned (.string s) ∧ Bw w1 w2) :
    Calls Tryz.prog 46 #[.pointer (some ⟨sb, 0, none⟩), .int .u64 v] w fun e w' => e = .returned (.bool true) ∧ SI w' b0 H bs sb mb bt base W (xs ++ Lib.strCells (⟨#[94]⟩ ++ s)) ∧ St mb bt base w w' := by
  have hs1 : (⟨#[94]⟩ : ByteArray).size + s.size ≤ 9223372036854775807 := by rw [← ByteArray.size_append]; omega
  generalize hpe : (⟨#[94]⟩ ++ s : ByteArray) = p at hr0 ⊢
  have hadd : ∀ w, (Op.stringOp .add ⟨#[94]⟩ s).run Tryz.prog w = .ok (.string p) w := fun w => by rw [← hpe]; exact run_string_add_sum (P := Tryz.prog) w ⟨#[94]⟩ s hs1
  have HI := hid h
  have HK := hid (Maps.keyOf_int_mk underKV (wfU hU))
  have z1 := h.c1
  have z2 := h.c2
  obtain ⟨D, ho, hr⟩ := h.mp
  have HO := hid ho
  have hsz := hr.size
  have hhas : Maps.has D (.int .u64 v) = true := by rw [hr.has v]; simp [List.mem_of_getElem? hv]
  have HA := hid (hr.at_ i v hv)
  have hil : i < W.length := (List.getElem?_eq_some_iff.1 hv).1
  obtain ⟨d, hd⟩ : ∃ d : Int, d = (W.length : Int) - (i : Int) := ⟨_, rfl⟩
  have hwr : IntKind.i64.wrap ((W.length : Int) - (i : Int)) = d := by rw [IntKind.wrap_i64, hd]; omega
  rw [← hd] at hit
  have HIT := hid hit
  have hno : ¬ (9223372036854775807 < 1 + s.size) := by have e : (⟨#[94]⟩ : ByteArray).size = 1 := rfl; omega
  have HR0 := hid hr0
  clear h hit hU ho hr hv hs1 hr0 hd
  go_enter Tryz.func46, Tryz.ntmps46
  go_wp2_with (first
    | (at_len; refine wpList_len_own _ rfl _ 70 rfl 27 3 underMp _ mb W.length D rfl HO.out ?_; rw [hsz])
    | (at_lookup; refine wpList_lookup_own_ok_int _ rfl _ _ 70 rfl 27 3 .i64 lawKV underMp underKI (zeroKI _) mb W.length D rfl HO.out _ _ rfl HK.out ?_; intro c hat hwc; obtain rfl : c = (i : Int) := (by have := HA.out.symm.trans hat; injection this with e1; injection e1 with _ e2; exact e2.symm); rw [hhas]; clear hat hwc)
    | fail)
  go_region_held3 (fun w' => w'.cell? ⟨sb, 2, none⟩ = some (.func (.func 26) #[] #[.pointer (some ⟨bt, 0, none⟩)])) (first | (simp [go_sem, *]; done) | exact yy2 | exact y2)
    (first
      | (go_at_call_of 61 (Value.int .i64 d); refine (HIT.out _ (by repeat (first | exact Bw.refl _ | apply Bw.drew))).mono ?_; rintro e w2 ⟨rfl, hb2⟩; have hb3 : Bw w w2 := Bw.trans (by repeat (first | exact Bw.refl _ | apply Bw.drew)) hb2; have hi2 := HI.out.bw hb3; have y2 := hi2.c2; have HI2 := hid hi2; have HT2 := hid (HI.out.st hb3); clear hb2 hb3 hi2)
      | (go_at_call 26; refine (put_si p HI2.out HR0.out).mono ?_; rintro e w3 ⟨rfl, hi3, hst3⟩; have yy2 := hi3.c2; have HI3 := hid hi3; have HT3 := hid (HT2.out.trans hst3); clear hi3 hst3)
      | fail)
  go_wp2
  all_goals go_ret
  all_goals exact ⟨rfl, HI3.out, HT3.out⟩

end Go.Proofs.YtimidonagbfjcaaGreatDoor

