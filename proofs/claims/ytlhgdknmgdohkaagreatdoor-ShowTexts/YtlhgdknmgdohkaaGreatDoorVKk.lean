/- What a word looks like: the document's text of objects with parts. -/
import Derived.Test.YtlhgdknmgdohkaaGreatDoorVJk
set_option linter.unusedSimpArgs false
set_option linter.unusedVariables false
namespace Go.Proofs.YtlhgdknmgdohkaaGreatDoor
open Go Go.RowKit

/-- What one is within, as a list in memory. -/
abbrev Wn (w : World) (wv : Value) (W : List Int) : Prop := Sl w (fun _ => True) wv W.length 1 (W.map (Value.int .u64))

set_option maxRecDepth 100000 in
set_option maxHeartbeats 16000000 in
theorem rtext_in2 {G : Nat → Prop} {k0 : Int} {ah : Option Addr} {ch : Nat} {H : AHeap} (hok : HOK H) (hm : H.2.length ≤ 1000000) (v : Int) (hU : U v) (hk : kk H v = 2) (W : List Int) (hW : W.length ≤ 1000000) (wv : Value) (w : World) (h : RdH w G (.agg #[.int .i64 k0, .slice ah H.2.length ch]) H) (hwn : Wn w wv W) (i : Nat) (hi : W[i]? = some v) (hfi : ∀ j, j < i → W[j]? ≠ some v) :
    Calls Tryz.prog 39 #[.agg #[.int .i64 k0, .slice ah H.2.length ch], .int .u64 v, wv, .int .i64 65536] w fun e w' => e = .returned (.string (strOfNums ([94] ++ itoaL ((W.length : Int) - (i : Int))))) ∧ Bw w w' := by
  obtain ⟨ma, ka, ia, hia, hga⟩ := ob_mem (H := H) hU (by omega)
  have HIA := hid hia
  have HGA := hid hga
  have HU := hid hU
  have HR := hid h
  have HM := hid hm
  have HWN := hid hwn
  have OKO := hid (hok _ ma)
  obtain ⟨aw, cw, rfl⟩ := hwn.form
  have hil : i < W.length := (List.getElem?_eq_some_iff.1 hi).1
  have HI := hid hi
  have HFI := hid hfi
  have hz : (strOfNums (itoaL ((W.length : Int) - (i : Int)))).size ≤ 21 := by rw [strOfNums_size]; exact itoaL_len _ (by omega) (by omega)
  have HD := hid (fun w1 => vDec4_any _ ((W.length : Int) - (i : Int)) (Nat.lt_succ_self _) (by omega) (by omega) w1)
  rw [← strOf_app4]
  obtain ⟨d, hd⟩ : ∃ d : Int, d = (W.length : Int) - (i : Int) := ⟨_, rfl⟩
  have hwr : IntKind.i64.wrap ((W.length : Int) - (i : Int)) = d := by rw [IntKind.wrap_i64, hd]; omega
  rw [← hd] at HD hz ⊢
  generalize ob H v = o at HGA OKO
  generalize strOfNums (itoaL d) = s at HD hz ⊢
  generalize hpe : (strOfNums [94] ++ s : ByteArray) = p
  have hadd : ∀ w, (Op.stringOp .add ⟨#[94]⟩ s).run Tryz.prog w = .ok (.string p) w := fun w => by
    rw [← hpe]
    exact run_string_add_sum (P := Tryz.prog) w ⟨#[94]⟩ s (by show 1 + s.size ≤ _; omega)
  have hpe' : (⟨#[94]⟩ ++ s : ByteArray) = p := hpe
  have hno : ¬ (9223372036854775807 < 1 + s.size) := by omega
  clear hU h hm hok hz hpe ma ka hia hga hwn hi hfi hd
  go_enter Tryz.func39, Tryz.ntmps39
  go_upto_region 18 with (first
    | (go_at_call 20; refine (rkindH_any G _ H _ HU.out _ (HR.out.below (by repeat (first | exact Bw.refl _ | apply Bw.lay | apply Bw.alloc | apply Bw.drewN | apply Bw.drew))) (by have := HM.out; omega)).mono ?_; rw [hk]; rintro e w1 ⟨rfl, os1, m1, rfl⟩)
    | (go_at_call 36; refine (rof_any G _ H _ HU.out _ HIA.out _ HGA.out w _ (by repeat (first | exact Bw.refl _ | apply Bw.lay | apply Bw.alloc | apply Bw.drewN | apply Bw.drew)) HR.out (by have := HM.out; omega)).mono ?_; rintro e w3 ⟨vb3, vv3, vk3, he3, hol3, os3, m3, hw3⟩; obtain ⟨ab3, cb3, eb3⟩ := hol3.1.form; obtain ⟨av3, cv3, ev3⟩ := hol3.2.1.form; obtain ⟨ak3, ck3, ek3⟩ := hol3.2.2.form; subst eb3 ev3 ek3; simp only [objV] at he3; subst he3 hw3; have OL3 := hid hol3; clear hol3)
    | fail)
  obtain ⟨w4, hw4⟩ : ∃ w4, w4 = (lay (w.alloc (Obj.cells #[Value.int IntKind.i64 k0, Value.slice ah H.2.length ch] 32)) (os1 ++ os3) (m1 + m3)).alloc (Obj.cells #[Value.int IntKind.i64 o.kind, Value.slice ab3 o.bytes.length cb3, Value.slice av3 o.vals.length cv3, Value.slice ak3 o.keys.length ck3, Value.int IntKind.i64 o.num, Value.int IntKind.u64 o.re, Value.int IntKind.u64 o.im] 53) := ⟨_, rfl⟩
  rw [← hw4]
  have KB : Hid (Blk w4 (w.heap.size + 1 + (os1.length + os3.length)) #[Value.int IntKind.i64 o.kind, Value.slice ab3 o.bytes.length cb3, Value.slice av3 o.vals.length cv3, Value.slice ak3 o.keys.length ck3, Value.int IntKind.i64 o.num, Value.int IntKind.u64 o.re, Value.int IntKind.u64 o.im] 53) := (by rw [hw4]; exact hid (Blk.newAt (by simp)))
  have KA : Hid (Blk w4 w.heap.size #[Value.int IntKind.i64 k0, Value.slice ah H.2.length ch] 32) := (by rw [hw4]; exact hid (Blk.alloc (Blk.layAt (Blk.new w _ _) _ _) _))
  have B4 : Hid (Bw w w4) := (by rw [hw4]; exact hid (by repeat (first | exact Bw.refl _ | apply Bw.lay | apply Bw.alloc | apply Bw.drewN | apply Bw.drew)))
  clear hw4
  generalize w.heap.size + 1 + (os1.length + os3.length) = g at KB ⊢
  go_wp2
  go_loopw [11] (fun j wr => ∃ k : Nat, k ≤ i ∧ j = .int .i64 k ∧ wr = w4) (fun j _ => i - (intOf j).toNat)
  case atStart => exact ⟨0, Nat.zero_le _, rfl, rfl⟩
  case round =>
    obtain ⟨k, hk', rfl, rfl⟩ := hrel
    have hkl : k < W.length := by omega
    obtain ⟨bw, ow, rfl, hbw, cwv⟩ := (HWN.out.below B4.out).at hkl
    have c1 : wr.cell? ⟨bw, ow + k, none⟩ = some (.int .u64 W[k]) := by rw [cwv]; simp [hkl]
    have hb1 : (0 : Int) ≤ (k : Int) := by omega
    have hb2 : (k : Int) < (W.length : Int) := by omega
    clear cwv
    by_cases e : k = i
    · subst e
      have hv : W[k] = v := by have := HI.out; rw [List.getElem?_eq_getElem hkl] at this; exact Option.some.inj this
      rw [hv] at c1
      go_wp2_with (first
        | (go_at_call 70; refine (HD.out _).mono ?_; rintro e w5 ⟨rfl, os5, m5, rfl⟩)
        | fail)
      all_goals go_ret
      all_goals exact ⟨rfl, Bw.lay B4.out _ _⟩
    · have hne : W[k] ≠ v := fun e' => HFI.out k (by omega) (by rw [List.getElem?_eq_getElem hkl, e'])
      generalize W[k] = u at c1 hne
      have t1 : (u == v) = false := by simpa using hne
      clear hne
      go_wp2
      go_roundw
      case rel => exact ⟨k + 1, by omega, by go_num, trivial⟩
      case measure => simp [intOf]; omega

set_option maxRecDepth 100000 in
set_option maxHeartbeats 16000000 in
theorem rtext_in3 {G : Nat → Prop} {k0 : Int} {ah : Option Addr} {ch : Nat} {H : AHeap} (hok : HOK H) (hm : H.2.length ≤ 1000000) (v : Int) (hU : U v) (hk : kk H v = 3) (W : List Int) (hW : W.length ≤ 1000000) (wv : Value) (w : World) (h : RdH w G (.agg #[.int .i64 k0, .slice ah H.2.length ch]) H) (hwn : Wn w wv W) (i : Nat) (hi : W[i]? = some v) (hfi : ∀ j, j < i → W[j]? ≠ some v) :
    Calls Tryz.prog 39 #[.agg #[.int .i64 k0, .slice ah H.2.length ch], .int .u64 v, wv, .int .i64 65536] w fun e w' => e = .returned (.string (strOfNums ([94] ++ itoaL ((W.length : Int) - (i : Int))))) ∧ Bw w w' := by
  obtain ⟨ma, ka, ia, hia, hga⟩ := ob_mem (H := H) hU (by omega)
  have HIA := hid hia
  have HGA := hid hga
  have HU := hid hU
  have HR := hid h
  have HM := hid hm
  have HWN := hid hwn
  have OKO := hid (hok _ ma)
  obtain ⟨aw, cw, rfl⟩ := hwn.form
  have hil : i < W.length := (List.getElem?_eq_some_iff.1 hi).1
  have HI := hid hi
  have HFI := hid hfi
  have hz : (strOfNums (itoaL ((W.length : Int) - (i : Int)))).size ≤ 21 := by rw [strOfNums_size]; exact itoaL_len _ (by omega) (by omega)
  have HD := hid (fun w1 => vDec4_any _ ((W.length : Int) - (i : Int)) (Nat.lt_succ_self _) (by omega) (by omega) w1)
  rw [← strOf_app4]
  obtain ⟨d, hd⟩ : ∃ d : Int, d = (W.length : Int) - (i : Int) := ⟨_, rfl⟩
  have hwr : IntKind.i64.wrap ((W.length : Int) - (i : Int)) = d := by rw [IntKind.wrap_i64, hd]; omega
  rw [← hd] at HD hz ⊢
  generalize ob H v = o at HGA OKO
  generalize strOfNums (itoaL d) = s at HD hz ⊢
  generalize hpe : (strOfNums [94] ++ s : ByteArray) = p
  have hadd : ∀ w, (Op.stringOp .add ⟨#[94]⟩ s).run Tryz.prog w = .ok (.string p) w := fun w => by
    rw [← hpe]
    exact run_string_add_sum (P := Tryz.prog) w ⟨#[94]⟩ s (by show 1 + s.size ≤ _; omega)
  have hpe' : (⟨#[94]⟩ ++ s : ByteArray) = p := hpe
  have hno : ¬ (9223372036854775807 < 1 + s.size) := by omega
  clear hU h hm hok hz hpe ma ka hia hga hwn hi hfi hd
  go_enter Tryz.func39, Tryz.ntmps39
  go_upto_region 18 with (first
    | (go_at_call 20; refine (rkindH_any G _ H _ HU.out _ (HR.out.below (by repeat (first | exact Bw.refl _ | apply Bw.lay | apply Bw.alloc | apply Bw.drewN | apply Bw.drew))) (by have := HM.out; omega)).mono ?_; rw [hk]; rintro e w1 ⟨rfl, os1, m1, rfl⟩)
    | (go_at_call 36; refine (rof_any G _ H _ HU.out _ HIA.out _ HGA.out w _ (by repeat (first | exact Bw.refl _ | apply Bw.lay | apply Bw.alloc | apply Bw.drewN | apply Bw.drew)) HR.out (by have := HM.out; omega)).mono ?_; rintro e w3 ⟨vb3, vv3, vk3, he3, hol3, os3, m3, hw3⟩; obtain ⟨ab3, cb3, eb3⟩ := hol3.1.form; obtain ⟨av3, cv3, ev3⟩ := hol3.2.1.form; obtain ⟨ak3, ck3, ek3⟩ := hol3.2.2.form; subst eb3 ev3 ek3; simp only [objV] at he3; subst he3 hw3; have OL3 := hid hol3; clear hol3)
    | fail)
  obtain ⟨w4, hw4⟩ : ∃ w4, w4 = (lay (w.alloc (Obj.cells #[Value.int IntKind.i64 k0, Value.slice ah H.2.length ch] 32)) (os1 ++ os3) (m1 + m3)).alloc (Obj.cells #[Value.int IntKind.i64 o.kind, Value.slice ab3 o.bytes.length cb3, Value.slice av3 o.vals.length cv3, Value.slice ak3 o.keys.length ck3, Value.int IntKind.i64 o.num, Value.int IntKind.u64 o.re, Value.int IntKind.u64 o.im] 53) := ⟨_, rfl⟩
  rw [← hw4]
  have KB : Hid (Blk w4 (w.heap.size + 1 + (os1.length + os3.length)) #[Value.int IntKind.i64 o.kind, Value.slice ab3 o.bytes.length cb3, Value.slice av3 o.vals.length cv3, Value.slice ak3 o.keys.length ck3, Value.int IntKind.i64 o.num, Value.int IntKind.u64 o.re, Value.int IntKind.u64 o.im] 53) := (by rw [hw4]; exact hid (Blk.newAt (by simp)))
  have KA : Hid (Blk w4 w.heap.size #[Value.int IntKind.i64 k0, Value.slice ah H.2.length ch] 32) := (by rw [hw4]; exact hid (Blk.alloc (Blk.layAt (Blk.new w _ _) _ _) _))
  have B4 : Hid (Bw w w4) := (by rw [hw4]; exact hid (by repeat (first | exact Bw.refl _ | apply Bw.lay | apply Bw.alloc | apply Bw.drewN | apply Bw.drew)))
  clear hw4
  generalize w.heap.size + 1 + (os1.length + os3.length) = g at KB ⊢
  go_wp2
  go_loopw [11] (fun j wr => ∃ k : Nat, k ≤ i ∧ j = .int .i64 k ∧ wr = w4) (fun j _ => i - (intOf j).toNat)
  case atStart => exact ⟨0, Nat.zero_le _, rfl, rfl⟩
  case round =>
    obtain ⟨k, hk', rfl, rfl⟩ := hrel
    have hkl : k < W.length := by omega
    obtain ⟨bw, ow, rfl, hbw, cwv⟩ := (HWN.out.below B4.out).at hkl
    have c1 : wr.cell? ⟨bw, ow + k, none⟩ = some (.int .u64 W[k]) := by rw [cwv]; simp [hkl]
    have hb1 : (0 : Int) ≤ (k : Int) := by omega
    have hb2 : (k : Int) < (W.length : Int) := by omega
    clear cwv
    by_cases e : k = i
    · subst e
      have hv : W[k] = v := by have := HI.out; rw [List.getElem?_eq_getElem hkl] at this; exact Option.some.inj this
      rw [hv] at c1
      go_wp2_with (first
        | (go_at_call 70; refine (HD.out _).mono ?_; rintro e w5 ⟨rfl, os5, m5, rfl⟩)
        | fail)
      all_goals go_ret
      all_goals exact ⟨rfl, Bw.lay B4.out _ _⟩
    · have hne : W[k] ≠ v := fun e' => HFI.out k (by omega) (by rw [List.getElem?_eq_getElem hkl, e'])
      generalize W[k] = u at c1 hne
      have t1 : (u == v) = false := by simpa using hne
      clear hne
      go_wp2
      go_roundw
      case rel => exact ⟨k + 1, by omega, by go_num, trivial⟩
      case measure => simp [intOf]; omega

set_option maxRecDepth 100000 in
set_option maxHeartbeats 16000000 in
theorem rtext_in4 {G : Nat → Prop} {k0 : Int} {ah : Option Addr} {ch : Nat} {H : AHeap} (hok : HOK H) (hm : H.2.length ≤ 1000000) (v : Int) (hU : U v) (hk : kk H v = 4) (W : List Int) (hW : W.length ≤ 1000000) (wv : Value) (w : World) (h : RdH w G (.agg #[.int .i64 k0, .slice ah H.2.length ch]) H) (hwn : Wn w wv W) (i : Nat) (hi : W[i]? = some v) (hfi : ∀ j, j < i → W[j]? ≠ some v) :
    Calls Tryz.prog 39 #[.agg #[.int .i64 k0, .slice ah H.2.length ch], .int .u64 v, wv, .int .i64 65536] w fun e w' => e = .returned (.string (strOfNums ([94] ++ itoaL ((W.length : Int) - (i : Int))))) ∧ Bw w w' := by
  obtain ⟨ma, ka, ia, hia, hga⟩ := ob_mem (H := H) hU (by omega)
  have HIA := hid hia
  have HGA := hid hga
  have HU := hid hU
  have HR := hid h
  have HM := hid hm
  have HWN := hid hwn
  have OKO := hid (hok _ ma)
  obtain ⟨aw, cw, rfl⟩ := hwn.form
  have hil : i < W.length := (List.getElem?_eq_some_iff.1 hi).1
  have HI := hid hi
  have HFI := hid hfi
  have hz : (strOfNums (itoaL ((W.length : Int) - (i : Int)))).size ≤ 21 := by rw [strOfNums_size]; exact itoaL_len _ (by omega) (by omega)
  have HD := hid (fun w1 => vDec4_any _ ((W.length : Int) - (i : Int)) (Nat.lt_succ_self _) (by omega) (by omega) w1)
  rw [← strOf_app4]
  obtain ⟨d, hd⟩ : ∃ d : Int, d = (W.length : Int) - (i : Int) := ⟨_, rfl⟩
  have hwr : IntKind.i64.wrap ((W.length : Int) - (i : Int)) = d := by rw [IntKind.wrap_i64, hd]; omega
  rw [← hd] at HD hz ⊢
  generalize ob H v = o at HGA OKO
  generalize strOfNums (itoaL d) = s at HD hz ⊢
  generalize hpe : (strOfNums [94] ++ s : ByteArray) = p
  have hadd : ∀ w, (Op.stringOp .add ⟨#[94]⟩ s).run Tryz.prog w = .ok (.string p) w := fun w => by
    rw [← hpe]
    exact run_string_add_sum (P := Tryz.prog) w ⟨#[94]⟩ s (by show 1 + s.size ≤ _; omega)
  have hpe' : (⟨#[94]⟩ ++ s : ByteArray) = p := hpe
  have hno : ¬ (9223372036854775807 < 1 + s.size) := by omega
  clear hU h hm hok hz hpe ma ka hia hga hwn hi hfi hd
  go_enter Tryz.func39, Tryz.ntmps39
  go_upto_region 18 with (first
    | (go_at_call 20; refine (rkindH_any G _ H _ HU.out _ (HR.out.below (by repeat (first | exact Bw.refl _ | apply Bw.lay | apply Bw.alloc | apply Bw.drewN | apply Bw.drew))) (by have := HM.out; omega)).mono ?_; rw [hk]; rintro e w1 ⟨rfl, os1, m1, rfl⟩)
    | (go_at_call 36; refine (rof_any G _ H _ HU.out _ HIA.out _ HGA.out w _ (by repeat (first | exact Bw.refl _ | apply Bw.lay | apply Bw.alloc | apply Bw.drewN | apply Bw.drew)) HR.out (by have := HM.out; omega)).mono ?_; rintro e w3 ⟨vb3, vv3, vk3, he3, hol3, os3, m3, hw3⟩; obtain ⟨ab3, cb3, eb3⟩ := hol3.1.form; obtain ⟨av3, cv3, ev3⟩ := hol3.2.1.form; obtain ⟨ak3, ck3, ek3⟩ := hol3.2.2.form; subst eb3 ev3 ek3; simp only [objV] at he3; subst he3 hw3; have OL3 := hid hol3; clear hol3)
    | fail)
  obtain ⟨w4, hw4⟩ : ∃ w4, w4 = (lay (w.alloc (Obj.cells #[Value.int IntKind.i64 k0, Value.slice ah H.2.length ch] 32)) (os1 ++ os3) (m1 + m3)).alloc (Obj.cells #[Value.int IntKind.i64 o.kind, Value.slice ab3 o.bytes.length cb3, Value.slice av3 o.vals.length cv3, Value.slice ak3 o.keys.length ck3, Value.int IntKind.i64 o.num, Value.int IntKind.u64 o.re, Value.int IntKind.u64 o.im] 53) := ⟨_, rfl⟩
  rw [← hw4]
  have KB : Hid (Blk w4 (w.heap.size + 1 + (os1.length + os3.length)) #[Value.int IntKind.i64 o.kind, Value.slice ab3 o.bytes.length cb3, Value.slice av3 o.vals.length cv3, Value.slice ak3 o.keys.length ck3, Value.int IntKind.i64 o.num, Value.int IntKind.u64 o.re, Value.int IntKind.u64 o.im] 53) := (by rw [hw4]; exact hid (Blk.newAt (by simp)))
  have KA : Hid (Blk w4 w.heap.size #[Value.int IntKind.i64 k0, Value.slice ah H.2.length ch] 32) := (by rw [hw4]; exact hid (Blk.alloc (Blk.layAt (Blk.new w _ _) _ _) _))
  have B4 : Hid (Bw w w4) := (by rw [hw4]; exact hid (by repeat (first | exact Bw.refl _ | apply Bw.lay | apply Bw.alloc | apply Bw.drewN | apply Bw.drew)))
  clear hw4
  generalize w.heap.size + 1 + (os1.length + os3.length) = g at KB ⊢
  go_wp2
  go_loopw [11] (fun j wr => ∃ k : Nat, k ≤ i ∧ j = .int .i64 k ∧ wr = w4) (fun j _ => i - (intOf j).toNat)
  case atStart => exact ⟨0, Nat.zero_le _, rfl, rfl⟩
  case round =>
    obtain ⟨k, hk', rfl, rfl⟩ := hrel
    have hkl : k < W.length := by omega
    obtain ⟨bw, ow, rfl, hbw, cwv⟩ := (HWN.out.below B4.out).at hkl
    have c1 : wr.cell? ⟨bw, ow + k, none⟩ = some (.int .u64 W[k]) := by rw [cwv]; simp [hkl]
    have hb1 : (0 : Int) ≤ (k : Int) := by omega
    have hb2 : (k : Int) < (W.length : Int) := by omega
    clear cwv
    by_cases e : k = i
    · subst e
      have hv : W[k] = v := by have := HI.out; rw [List.getElem?_eq_getElem hkl] at this; exact Option.some.inj this
      rw [hv] at c1
      go_wp2_with (first
        | (go_at_call 70; refine (HD.out _).mono ?_; rintro e w5 ⟨rfl, os5, m5, rfl⟩)
        | fail)
      all_goals go_ret
      all_goals exact ⟨rfl, Bw.lay B4.out _ _⟩
    · have hne : W[k] ≠ v := fun e' => HFI.out k (by omega) (by rw [List.getElem?_eq_getElem hkl, e'])
      generalize W[k] = u at c1 hne
      have t1 : (u == v) = false := by simpa using hne
      clear hne
      go_wp2
      go_roundw
      case rel => exact ⟨k + 1, by omega, by go_num, trivial⟩
      case measure => simp [intOf]; omega

set_option maxRecDepth 100000 in
set_option maxHeartbeats 16000000 in
theorem rtext_out4 {G : Nat → Prop} {k0 : Int} {ah : Option Addr} {ch : Nat} {H : AHeap} (hok : HOK H) (hm : H.2.length ≤ 1000000) (v : Int) (hU : U v) (hk : kk H v = 4) (W : List Int) (hW : W.length ≤ 1000000) (wv : Value) (w : World) (h : RdH w G (.agg #[.int .i64 k0, .slice ah H.2.length ch]) H) (hwn : Wn w wv W) (hni : v ∉ W) (hl1 : (ob H v).vals.length = 1) (d : List Int) (hdl : d.length ≤ 1000000000000) (hf : ∀ (w1 : World) (wv1 : Value), Bw w w1 → Wn w1 wv1 (W ++ [v]) → Calls Tryz.prog 39 #[.agg #[.int .i64 k0, .slice ah H.2.length ch], .int .u64 ((ob H v).vals.getD 0 0), wv1, .int .i64 65536] w1 fun e w2 => e = .returned (.string (strOfNums d)) ∧ Bw w1 w2) :
    Calls Tryz.prog 39 #[.agg #[.int .i64 k0, .slice ah H.2.length ch], .int .u64 v, wv, .int .i64 65536] w fun e w' => e = .returned (.string (strOfNums ([38] ++ d))) ∧ Bw w w' := by
  obtain ⟨ma, ka, ia, hia, hga⟩ := ob_mem (H := H) hU (by omega)
  have HIA := hid hia
  have HGA := hid hga
  have HU := hid hU
  have HR := hid h
  have HM := hid hm
  have HWN := hid hwn
  have OKO := hid (hok _ ma)
  obtain ⟨aw, cw, rfl⟩ := hwn.form
  have HNI := hid hni
  have HL1 : Hid (0 < (ob H v).vals.length) := hid (by omega)
  have HF := hid hf
  have hz : (strOfNums d).size ≤ 1000000000000 := by rw [strOfNums_size]; exact hdl
  rw [← strOf_app4]
  generalize ob H v = o at HGA OKO HL1 HF
  generalize strOfNums d = s at HF hz ⊢
  generalize hpe : (strOfNums [38] ++ s : ByteArray) = p
  have hadd : ∀ w, (Op.stringOp .add ⟨#[38]⟩ s).run Tryz.prog w = .ok (.string p) w := fun w => by
    rw [← hpe]
    exact run_string_add_sum (P := Tryz.prog) w ⟨#[38]⟩ s (by show 1 + s.size ≤ _; omega)
  have hpe' : (⟨#[38]⟩ ++ s : ByteArray) = p := hpe
  have hno : ¬ (9223372036854775807 < 1 + s.size) := by omega
  clear hU h hm hok hz hpe ma ka hia hga hwn hni hf hdl hl1
  go_enter Tryz.func39, Tryz.ntmps39
  go_upto_region 18 with (first
    | (go_at_call 20; refine (rkindH_any G _ H _ HU.out _ (HR.out.below (by repeat (first | exact Bw.refl _ | apply Bw.lay | apply Bw.alloc | apply Bw.drewN | apply Bw.drew))) (by have := HM.out; omega)).mono ?_; rw [hk]; rintro e w1 ⟨rfl, os1, m1, rfl⟩)
    | (go_at_call 36; refine (rof_any G _ H _ HU.out _ HIA.out _ HGA.out w _ (by repeat (first | exact Bw.refl _ | apply Bw.lay | apply Bw.alloc | apply Bw.drewN | apply Bw.drew)) HR.out (by have := HM.out; omega)).mono ?_; rintro e w3 ⟨vb3, vv3, vk3, he3, hol3, os3, m3, hw3⟩; obtain ⟨ab3, cb3, eb3⟩ := hol3.1.form; obtain ⟨av3, cv3, ev3⟩ := hol3.2.1.form; obtain ⟨ak3, ck3, ek3⟩ := hol3.2.2.form; subst eb3 ev3 ek3; simp only [objV] at he3; subst he3 hw3; have OL3 := hid hol3; clear hol3)
    | fail)
  obtain ⟨w4, hw4⟩ : ∃ w4, w4 = (lay (w.alloc (Obj.cells #[Value.int IntKind.i64 k0, Value.slice ah H.2.length ch] 32)) (os1 ++ os3) (m1 + m3)).alloc (Obj.cells #[Value.int IntKind.i64 o.kind, Value.slice ab3 o.bytes.length cb3, Value.slice av3 o.vals.length cv3, Value.slice ak3 o.keys.length ck3, Value.int IntKind.i64 o.num, Value.int IntKind.u64 o.re, Value.int IntKind.u64 o.im] 53) := ⟨_, rfl⟩
  rw [← hw4]
  have KB : Hid (Blk w4 (w.heap.size + 1 + (os1.length + os3.length)) #[Value.int IntKind.i64 o.kind, Value.slice ab3 o.bytes.length cb3, Value.slice av3 o.vals.length cv3, Value.slice ak3 o.keys.length ck3, Value.int IntKind.i64 o.num, Value.int IntKind.u64 o.re, Value.int IntKind.u64 o.im] 53) := (by rw [hw4]; exact hid (Blk.newAt (by simp)))
  have KA : Hid (Blk w4 w.heap.size #[Value.int IntKind.i64 k0, Value.slice ah H.2.length ch] 32) := (by rw [hw4]; exact hid (Blk.alloc (Blk.layAt (Blk.new w _ _) _ _) _))
  have B4 : Hid (Bw w w4) := (by rw [hw4]; exact hid (by repeat (first | exact Bw.refl _ | apply Bw.lay | apply Bw.alloc | apply Bw.drewN | apply Bw.drew)))
  clear hw4
  generalize w.heap.size + 1 + (os1.length + os3.length) = g at KB ⊢
  go_wp2
  go_loopw [11] (fun j wr => ∃ k : Nat, k ≤ W.length ∧ j = .int .i64 k ∧ wr = w4) (fun j _ => W.length - (intOf j).toNat)
  case atStart => exact ⟨0, Nat.zero_le _, rfl, rfl⟩
  case round =>
  obtain ⟨k, hk', rfl, rfl⟩ := hrel
  by_cases hkl : k < W.length
  · obtain ⟨bw, ow, rfl, hbw, cwv⟩ := (HWN.out.below B4.out).at hkl
    have c1 : wr.cell? ⟨bw, ow + k, none⟩ = some (.int .u64 W[k]) := by rw [cwv]; simp [hkl]
    have hb1 : (0 : Int) ≤ (k : Int) := by omega
    have hb2 : (k : Int) < (W.length : Int) := by omega
    have hne : W[k] ≠ v := fun e' => HNI.out (e' ▸ List.getElem_mem hkl)
    clear cwv
    generalize W[k] = u at c1 hne
    have t1 : (u == v) = false := by simpa using hne
    clear hne
    go_wp2
    go_roundw
    case rel => exact ⟨k + 1, by omega, by go_num, trivial⟩
    case measure => simp [intOf]; omega
  have hn0 : ¬ ((k : Int) < (W.length : Int)) := by omega
  obtain ⟨i2, hi2, hz2, hs2, hy2⟩ := info_parts infoV
  have I2 := hid (And.intro hi2 (And.intro hz2 (And.intro hs2 hy2)))
  clear hi2 hz2 hs2 hy2
  go_upto_region 23 with fail
  go_cut [12] (fun s wc => ∃ ai ci, s = .slice ai (W.length + 1) ci ∧ Wn wc (.slice ai (W.length + 1) ci) (W ++ [v]) ∧ Bw wr wc)
  case first =>
    go_wp2_with (first
      | (at_builtin; refine wpList_append_sl (G := fun _ => True) _ rfl _ _ 50 rfl wr.heap.size 27 i2 (.int .u64 0) 1 8 Tryz.underlying50 I2.out.1 I2.out.2.1 I2.out.2.2.1 I2.out.2.2.2 rfl (by decide) (.slice (some ⟨wr.heap.size, 0, none⟩) 0 0) 0 [] rfl ?c0 _ W.length (W.map (Value.int .u64)) rfl ?c1 ?c2 ?c3 ?c4 ?c5 ?_)
      | fail)
    case c0 => exact own_empty _ 27 1 _ _ (by simp) (by omega)
    case c1 => exact (HWN.out.below B4.out).below (Bw.alloc (Bw.refl _) _)
    case c2 => exact fun a _ => rfl
    case c3 => unfold maxLen; omega
    case c4 => omega
    intro v5 w5 ho5 hg5
    have ho5 : w5.ownsRow wr.heap.size 27 1 v5 W.length (W.map (Value.int .u64)) := by simpa using ho5
    obtain ⟨a5, c5, rfl⟩ := own_form ho5
    have B5 := hid (bw_grownAt (Bw.alloc (Bw.refl wr) (.cells #[] 27)) (by simpa [Value.ownBlock] using hg5) (Nat.le_refl _))
    have O5 := hid ho5
    clear ho5 hg5
    go_wp2_with (first
      | (at_builtin; refine wpList_append_own _ rfl _ _ 50 rfl wr.heap.size 27 i2 (.int .u64 0) 1 8 Tryz.underlying50 I2.out.1 I2.out.2.1 I2.out.2.2.1 I2.out.2.2.2 rfl (by decide) (.slice a5 W.length c5) W.length (W.map (Value.int .u64)) rfl ?d0 ⟨w5.heap.size, 0, none⟩ 1 1 [.int .u64 v] rfl rfl ?d1 ?d2 ?d3 ?d4 ?d5 ?_)
      | fail)
    case d0 => exact O5.out.alloc _
    case d1 => exact new_cells (cur := #[.int .u64 v]) (e := 27) (Blk.new w5 _ _) rfl
    case d2 => intro u hu; rw [List.mem_singleton] at hu; subst hu; rfl
    case d3 => unfold maxLen; omega
    case d4 => omega
    case d5 => have := B5.out.size; simp; omega
    intro v6 w6 ho6 hg6 _
    have hon : w6.ownsRow wr.heap.size 27 1 v6 (W.length + 1) ((W ++ [v]).map (Value.int .u64)) := by simpa using ho6
    obtain ⟨a6, c6, rfl⟩ := own_form hon
    have hsl : Wn w6 (.slice a6 (W.length + 1) c6) (W ++ [v]) := by
      have h1 := own_sl (G := fun _ => True) hon (fun _ _ => trivial)
      show Sl w6 (fun _ => True) (.slice a6 (W.length + 1) c6) (W ++ [v]).length 1 ((W ++ [v]).map (Value.int .u64))
      rw [List.length_append, List.length_singleton]
      exact h1
    have B6 : Hid (Bw wr w6) := Below.grown (B5.out.alloc _) hg6 (B5.out.alloc _).size (fun q e => (O5.out.lt q e).1)
    have H6 := hid hsl
    clear ho6 hg6 hon hsl
    go_wp2
    go_meet
    exact ⟨a6, c6, rfl, H6.out, B6.out⟩
  case rest =>
  obtain ⟨ai, ci, rfl, hin, hb7⟩ := hcut
  rename World => w7
  have IN := hid hin
  have B7 := hid (Bw.trans B4.out hb7)
  have KB7 := hid (KB.out.bw hb7)
  have KA7 := hid (KA.out.bw hb7)
  have OL7 := hid (OL3.out.below (Bw.trans B4.out hb7))
  have R7 := hid (HR.out.below (Bw.trans B4.out hb7))
  clear hin hb7 KB KA OL3 B4 I2 HWN HNI
  have hl0 := HL1.out
  obtain ⟨bx, ox, rfl, hbx, cx⟩ := OL7.out.2.1.at hl0
  have hx0 : o.vals.getD 0 0 = o.vals[0] := by simp [hl0]
  have HSW : Hid (∀ w1, Bw w7 w1 → w1.cell? ⟨w.heap.size, 0, none⟩ = some (.int .i64 k0) ∧ w1.cell? ⟨w.heap.size, 1, none⟩ = some (.slice ah H.2.length ch) ∧ w1.cell? ⟨g, 2, none⟩ = some (.slice (some ⟨bx, ox, none⟩) o.vals.length cv3) ∧ w1.cell? ⟨bx, ox, none⟩ = some (.int .u64 (o.vals.getD 0 0))) := by
    intro w1 hb
    obtain ⟨g5, o5, e5, _, d5⟩ := (OL7.out.below hb).2.1.at hl0
    cases e5
    refine ⟨(KA7.out.bw hb).cell 0, (KA7.out.bw hb).cell 1, (KB7.out.bw hb).cell 2, ?_⟩
    rw [hx0]
    simpa [hl0] using d5
  obtain ⟨y0, y1, y2, y3⟩ := HSW.out w7 (Bw.refl _)
  have hb3 : (0 : Int) < (o.vals.length : Int) := by omega
  clear cx hx0
  generalize o.vals.getD 0 0 = x at HF HSW y3
  go_upto_region 25 with fail
  go_region_held3 (fun w' => w'.cell? ⟨w.heap.size, 0, none⟩ = some (.int .i64 k0) ∧ w'.cell? ⟨w.heap.size, 1, none⟩ = some (.slice ah H.2.length ch) ∧ w'.cell? ⟨g, 2, none⟩ = some (.slice (some ⟨bx, ox, none⟩) o.vals.length cv3) ∧ w'.cell? ⟨bx, ox, none⟩ = some (.int .u64 x)) (first | exact HSW.out _ B8.out | exact ⟨y0, y1, y2, y3⟩ | (simp [go_sem, *]; done)) (first
    | (go_at_call 39; refine (HF.out _ _ (by repeat (first | exact B7.out | apply Bw.drew)) (IN.out.below (by repeat (first | exact Bw.refl _ | apply Bw.lay | apply Bw.alloc | apply Bw.drewN | apply Bw.drew)))).mono ?_; rintro e w8 ⟨rfl, hb8⟩; have B8 := hid (Bw.trans (a := w7) (by repeat (first | exact Bw.refl _ | apply Bw.lay | apply Bw.alloc | apply Bw.drewN | apply Bw.drew)) hb8); clear hb8)
    | fail)
  all_goals go_wp2
  all_goals go_ret
  all_goals exact ⟨rfl, Bw.trans B7.out B8.out⟩

/-- What is put between two. -/
def btwL (i : Nat) : List Int := if i = 0 then [] else [44, 32]
/-- A key's bytes. -/
def keyL (s : ByteArray) : List Int := s.data.toList.map fun u => (u.toNat : Int)
theorem keyL_str (s : ByteArray) : strOfNums (keyL s) = s := by unfold keyL; rw [strOf_bytes]
theorem keyL_len (s : ByteArray) : (keyL s).length = s.size := by unfold keyL; rw [List.length_map]; rfl

/-- Entry by entry, as long as it is not too long. -/
def dlp (f : Int → List Int) : List (List Int × Int) → Nat → List Int → List Int
  | [], _, s => s
  | p :: r, i, s => if s.length ≤ 65536 then dlp f r (i + 1) (s ++ (btwL i ++ (p.1 ++ f p.2))) else s

end Go.Proofs.YtlhgdknmgdohkaaGreatDoor

