/- What a word looks like: the document's hex; its text of words without parts. -/
import Derived.Test.YtlhgdknmgdohkaaGreatDoorSXk
import Derived.Test.YtlhgdknmgdohkaaGreatDoorK19
import Derived.Test.YtlhgdknmgdohkaaGreatDoorK10
set_option linter.unusedSimpArgs false
set_option linter.unusedVariables false
namespace Go.Proofs.YtlhgdknmgdohkaaGreatDoor
open Go Go.RowKit

set_option maxRecDepth 100000 in
set_option maxHeartbeats 8000000 in
theorem vhex_any (x : Int) (hU : U x) (w : World) :
    Calls Tryz.prog 71 #[.int .u64 x] w fun e w' => e = .returned (.string (strOfNums (nibs 16 x))) ∧ Bw w w' := by
  have HU := hid hU
  clear hU
  go_enter Tryz.func71, Tryz.ntmps71
  go_wp2
  go_loopw [0, 3, 4] (fun u s i wr => ∃ k : Nat, k ≤ 16 ∧ u = .int .u64 (x / 16 ^ k) ∧ s = .string (strOfNums (nibs k x)) ∧ i = .int .i64 k ∧ Bw w wr) (fun _ _ i _ => 16 - (intOf i).toNat)
  case atStart => exact ⟨0, by omega, by simp, rfl, rfl, by repeat (first | exact Bw.refl _ | apply Bw.lay | apply Bw.alloc | apply Bw.drewN | apply Bw.drew)⟩
  case round =>
    obtain ⟨k, hk, rfl, rfl, rfl, hb⟩ := hrel
    have HBW := hid hb
    have HD16 := hid (div16 x k)
    have hbd := div_bd HU.out k
    have hux := HU.out
    clear hb
    by_cases hlt : k < 16
    · have hb2 : (k : Int) < 16 := by omega
      have hc := conv1 (wr.alloc (.cells #[.int .u8 (hexD (x / 16 ^ k % 16))] 5)) wr.heap.size (hexD (x / 16 ^ k % 16)) (by simp) (by rw [World.cell?_alloc_mark]; rfl)
      have HNN : Hid (strOfNums [hexD (x / 16 ^ k % 16)] ++ strOfNums (nibs k x) = strOfNums (nibs (k + 1) x)) := by
        show strOfNums [hexD (x / 16 ^ k % 16)] ++ strOfNums (nibs k x) = _
        rw [strOf_app4]; rfl
      have hs2 : (strOfNums (nibs k x)).size = k := by rw [strOfNums_size, nibs_len]
      have hs1 : (strOfNums [hexD (x / 16 ^ k % 16)]).size = 1 := by rw [strOfNums_size]; rfl
      have hr0 : 0 ≤ x / 16 ^ k % 16 := by omega
      have hr1 : x / 16 ^ k % 16 < 16 := by omega
      have hrem : (x / 16 ^ k).tmod 16 = x / 16 ^ k % 16 := Int.tmod_eq_emod_of_nonneg hbd.1
      have hquo : (x / 16 ^ k).tdiv 16 = x / 16 ^ k / 16 := Int.tdiv_eq_ediv_of_nonneg hbd.1
      have hwr : IntKind.i64.wrap (x / 16 ^ k % 16) = x / 16 ^ k % 16 := by rw [IntKind.wrap_i64]; omega
      have hwq : IntKind.u64.wrap (x / 16 ^ k / 16) = x / 16 ^ k / 16 := by rw [IntKind.wrap_u64]; have := hux.2; omega
      have hwm : IntKind.u64.wrap (x / 16 ^ k % 16) = x / 16 ^ k % 16 := by rw [IntKind.wrap_u64]; omega
      have HV := hid (fun w => vdigit_any (x / 16 ^ k % 16) hr0 hr1 w)
      clear hux
      generalize x / 16 ^ k = u at *
      generalize u % 16 = r at *
      generalize strOfNums [hexD r] = s1 at *
      generalize strOfNums (nibs k x) = s2 at *
      obtain ⟨p, hp⟩ : ∃ p : ByteArray, s1 ++ s2 = p := ⟨_, rfl⟩
      have hadd : ∀ w, (Op.stringOp .add s1 s2).run Tryz.prog w = .ok (.string p) w := fun w => by
        rw [← hp]; exact run_string_add_sum (P := Tryz.prog) w s1 s2 (by omega)
      have hno : ¬ (9223372036854775807 < s1.size + s2.size) := by omega
      have HP := hid (hp.symm.trans HNN.out)
      clear HNN hs1 hs2
      go_wp2_with (first
        | (go_at_call 89; refine (HV.out _).mono ?_; rintro e w' ⟨rfl, hw'⟩; subst w')
        | fail)
      go_roundw
      case rel => exact ⟨k + 1, by omega, by rw [HD16.out], by rw [← HP.out], by go_num, Bw.alloc HBW.out _⟩
      case measure => simp [intOf]; omega
    · have hk0 : k = 16 := by omega
      subst hk0
      clear hbd hux
      go_wp2
      all_goals go_ret
      all_goals exact ⟨rfl, HBW.out⟩

set_option maxRecDepth 100000 in
set_option maxHeartbeats 8000000 in
theorem rtext_5 {G : Nat → Prop} {k0 : Int} {ah : Option Addr} {ch : Nat} {H : AHeap} (hok : HOK H) (hm : H.2.length ≤ 1000000) (v : Int) (hU : U v) (hn : N3 (ob H v)) (hk : kk H v = 5) (wv : Value) (w : World) (h : RdH w G (.agg #[.int .i64 k0, .slice ah H.2.length ch]) H) :
    Calls Tryz.prog 39 #[.agg #[.int .i64 k0, .slice ah H.2.length ch], .int .u64 v, wv, .int .i64 65536] w fun e w' => e = .returned (.string (strOfNums (wdL H v))) ∧ Bw w w' := by
  obtain ⟨ma, ka, ia, hia, hga⟩ := ob_mem (H := H) hU (by omega)
  have HIA := hid hia
  have HGA := hid hga
  have HU := hid hU
  have HR := hid h
  have HM := hid hm
  have hwd : wdL H v = [102, 110, 58] ++ itoaL (ob H v).num := by unfold wdL; rw [if_neg (by omega), if_neg (by omega), if_pos hk]
  rw [hwd]
  have hz : (strOfNums (itoaL (ob H v).num)).size ≤ 21 := by rw [strOfNums_size]; exact itoaL_len _ hn.1.1 hn.1.2
  have HI := hid (fun w1 => vDec4_any _ (ob H v).num (Nat.lt_succ_self _) hn.1.1 hn.1.2 w1)
  rw [← strOf_app4]
  generalize ob H v = o at HGA HI hz ⊢
  generalize strOfNums (itoaL o.num) = s at HI hz ⊢
  generalize hpe : (strOfNums [102, 110, 58] ++ s : ByteArray) = p
  have hadd : ∀ w, (Op.stringOp .add ⟨#[102, 110, 58]⟩ s).run Tryz.prog w = .ok (.string p) w := fun w => by
    rw [← hpe]
    exact run_string_add_sum (P := Tryz.prog) w ⟨#[102, 110, 58]⟩ s (by show 3 + s.size ≤ _; omega)
  have hpe' : (⟨#[102, 110, 58]⟩ ++ s : ByteArray) = p := hpe
  have hno : ¬ (9223372036854775807 < 3 + s.size) := by omega
  clear hU h hm hok hn hz hpe hwd ma ka hia hga
  go_enter Tryz.func39, Tryz.ntmps39
  go_wp2_with (first
    | (go_at_call 20; refine (rkindH_any G _ H _ HU.out _ (HR.out.below (by repeat (first | exact Bw.refl _ | apply Bw.lay | apply Bw.alloc | apply Bw.drewN | apply Bw.drew))) (by have := HM.out; omega)).mono ?_; rw [hk]; rintro e w1 ⟨rfl, os1, m1, rfl⟩)
    | (go_at_call 36; refine (rof_any G _ H _ HU.out _ HIA.out _ HGA.out w _ (by repeat (first | exact Bw.refl _ | apply Bw.lay | apply Bw.alloc | apply Bw.drewN | apply Bw.drew)) HR.out (by have := HM.out; omega)).mono ?_; rintro e w3 ⟨vb3, vv3, vk3, he3, hol3, os3, m3, hw3⟩; obtain ⟨ab3, cb3, eb3⟩ := hol3.1.form; obtain ⟨av3, cv3, ev3⟩ := hol3.2.1.form; obtain ⟨ak3, ck3, ek3⟩ := hol3.2.2.form; subst eb3 ev3 ek3; simp only [objV] at he3; subst he3 hw3; have OL3 := hid hol3; clear hol3)
    | (go_at_call 70; refine (HI.out _).mono ?_; rintro e w4 ⟨rfl, os4, m4, rfl⟩)
    | fail)
  all_goals go_ret
  all_goals exact ⟨rfl, by repeat (first | exact Bw.refl _ | apply Bw.lay | apply Bw.alloc | apply Bw.drewN | apply Bw.drew)⟩

set_option maxRecDepth 100000 in
set_option maxHeartbeats 8000000 in
theorem rtext_7 {G : Nat → Prop} {k0 : Int} {ah : Option Addr} {ch : Nat} {H : AHeap} (hok : HOK H) (hm : H.2.length ≤ 1000000) (v : Int) (hU : U v) (hn : N3 (ob H v)) (hk : kk H v = 7) (wv : Value) (w : World) (h : RdH w G (.agg #[.int .i64 k0, .slice ah H.2.length ch]) H) :
    Calls Tryz.prog 39 #[.agg #[.int .i64 k0, .slice ah H.2.length ch], .int .u64 v, wv, .int .i64 65536] w fun e w' => e = .returned (.string (strOfNums (wdL H v))) ∧ Bw w w' := by
  obtain ⟨ma, ka, ia, hia, hga⟩ := ob_mem (H := H) hU (by omega)
  have HIA := hid hia
  have HGA := hid hga
  have HU := hid hU
  have HR := hid h
  have HM := hid hm
  have hwd : wdL H v = [109, 111, 110, 105, 116, 111, 114, 58] ++ itoaL (ob H v).num := by unfold wdL; rw [if_neg (by omega), if_neg (by omega), if_neg (by omega), if_neg (by omega), if_pos hk]
  rw [hwd]
  have hz : (strOfNums (itoaL (ob H v).num)).size ≤ 21 := by rw [strOfNums_size]; exact itoaL_len _ hn.1.1 hn.1.2
  have HI := hid (fun w1 => vDec4_any _ (ob H v).num (Nat.lt_succ_self _) hn.1.1 hn.1.2 w1)
  rw [← strOf_app4]
  generalize ob H v = o at HGA HI hz ⊢
  generalize strOfNums (itoaL o.num) = s at HI hz ⊢
  generalize hpe : (strOfNums [109, 111, 110, 105, 116, 111, 114, 58] ++ s : ByteArray) = p
  have hadd : ∀ w, (Op.stringOp .add ⟨#[109, 111, 110, 105, 116, 111, 114, 58]⟩ s).run Tryz.prog w = .ok (.string p) w := fun w => by
    rw [← hpe]
    exact run_string_add_sum (P := Tryz.prog) w ⟨#[109, 111, 110, 105, 116, 111, 114, 58]⟩ s (by show 8 + s.size ≤ _; omega)
  have hpe' : (⟨#[109, 111, 110, 105, 116, 111, 114, 58]⟩ ++ s : ByteArray) = p := hpe
  have hno : ¬ (9223372036854775807 < 8 + s.size) := by omega
  clear hU h hm hok hn hz hpe hwd ma ka hia hga
  go_enter Tryz.func39, Tryz.ntmps39
  go_wp2_with (first
    | (go_at_call 20; refine (rkindH_any G _ H _ HU.out _ (HR.out.below (by repeat (first | exact Bw.refl _ | apply Bw.lay | apply Bw.alloc | apply Bw.drewN | apply Bw.drew))) (by have := HM.out; omega)).mono ?_; rw [hk]; rintro e w1 ⟨rfl, os1, m1, rfl⟩)
    | (go_at_call 36; refine (rof_any G _ H _ HU.out _ HIA.out _ HGA.out w _ (by repeat (first | exact Bw.refl _ | apply Bw.lay | apply Bw.alloc | apply Bw.drewN | apply Bw.drew)) HR.out (by have := HM.out; omega)).mono ?_; rintro e w3 ⟨vb3, vv3, vk3, he3, hol3, os3, m3, hw3⟩; obtain ⟨ab3, cb3, eb3⟩ := hol3.1.form; obtain ⟨av3, cv3, ev3⟩ := hol3.2.1.form; obtain ⟨ak3, ck3, ek3⟩ := hol3.2.2.form; subst eb3 ev3 ek3; simp only [objV] at he3; subst he3 hw3; have OL3 := hid hol3; clear hol3)
    | (go_at_call 70; refine (HI.out _).mono ?_; rintro e w4 ⟨rfl, os4, m4, rfl⟩)
    | fail)
  all_goals go_ret
  all_goals exact ⟨rfl, by repeat (first | exact Bw.refl _ | apply Bw.lay | apply Bw.alloc | apply Bw.drewN | apply Bw.drew)⟩

set_option maxRecDepth 100000 in
set_option maxHeartbeats 8000000 in
theorem rtext_8 {G : Nat → Prop} {k0 : Int} {ah : Option Addr} {ch : Nat} {H : AHeap} (hok : HOK H) (hm : H.2.length ≤ 1000000) (v : Int) (hU : U v) (hn : N3 (ob H v)) (hk : kk H v = 8) (wv : Value) (w : World) (h : RdH w G (.agg #[.int .i64 k0, .slice ah H.2.length ch]) H) :
    Calls Tryz.prog 39 #[.agg #[.int .i64 k0, .slice ah H.2.length ch], .int .u64 v, wv, .int .i64 65536] w fun e w' => e = .returned (.string (strOfNums (wdL H v))) ∧ Bw w w' := by
  obtain ⟨ma, ka, ia, hia, hga⟩ := ob_mem (H := H) hU (by omega)
  have HIA := hid hia
  have HGA := hid hga
  have HU := hid hU
  have HR := hid h
  have HM := hid hm
  have hwd : wdL H v = [98, 111, 120, 58] ++ itoaL (ob H v).num := by unfold wdL; rw [if_neg (by omega), if_neg (by omega), if_neg (by omega), if_neg (by omega), if_neg (by omega), if_pos hk]
  rw [hwd]
  have hz : (strOfNums (itoaL (ob H v).num)).size ≤ 21 := by rw [strOfNums_size]; exact itoaL_len _ hn.1.1 hn.1.2
  have HI := hid (fun w1 => vDec4_any _ (ob H v).num (Nat.lt_succ_self _) hn.1.1 hn.1.2 w1)
  rw [← strOf_app4]
  generalize ob H v = o at HGA HI hz ⊢
  generalize strOfNums (itoaL o.num) = s at HI hz ⊢
  generalize hpe : (strOfNums [98, 111, 120, 58] ++ s : ByteArray) = p
  have hadd : ∀ w, (Op.stringOp .add ⟨#[98, 111, 120, 58]⟩ s).run Tryz.prog w = .ok (.string p) w := fun w => by
    rw [← hpe]
    exact run_string_add_sum (P := Tryz.prog) w ⟨#[98, 111, 120, 58]⟩ s (by show 4 + s.size ≤ _; omega)
  have hpe' : (⟨#[98, 111, 120, 58]⟩ ++ s : ByteArray) = p := hpe
  have hno : ¬ (9223372036854775807 < 4 + s.size) := by omega
  clear hU h hm hok hn hz hpe hwd ma ka hia hga
  go_enter Tryz.func39, Tryz.ntmps39
  go_wp2_with (first
    | (go_at_call 20; refine (rkindH_any G _ H _ HU.out _ (HR.out.below (by repeat (first | exact Bw.refl _ | apply Bw.lay | apply Bw.alloc | apply Bw.drewN | apply Bw.drew))) (by have := HM.out; omega)).mono ?_; rw [hk]; rintro e w1 ⟨rfl, os1, m1, rfl⟩)
    | (go_at_call 36; refine (rof_any G _ H _ HU.out _ HIA.out _ HGA.out w _ (by repeat (first | exact Bw.refl _ | apply Bw.lay | apply Bw.alloc | apply Bw.drewN | apply Bw.drew)) HR.out (by have := HM.out; omega)).mono ?_; rintro e w3 ⟨vb3, vv3, vk3, he3, hol3, os3, m3, hw3⟩; obtain ⟨ab3, cb3, eb3⟩ := hol3.1.form; obtain ⟨av3, cv3, ev3⟩ := hol3.2.1.form; obtain ⟨ak3, ck3, ek3⟩ := hol3.2.2.form; subst eb3 ev3 ek3; simp only [objV] at he3; subst he3 hw3; have OL3 := hid hol3; clear hol3)
    | (go_at_call 70; refine (HI.out _).mono ?_; rintro e w4 ⟨rfl, os4, m4, rfl⟩)
    | fail)
  all_goals go_ret
  all_goals exact ⟨rfl, by repeat (first | exact Bw.refl _ | apply Bw.lay | apply Bw.alloc | apply Bw.drewN | apply Bw.drew)⟩

set_option maxRecDepth 100000 in
set_option maxHeartbeats 8000000 in
theorem rtext_9 {G : Nat → Prop} {k0 : Int} {ah : Option Addr} {ch : Nat} {H : AHeap} (hok : HOK H) (hm : H.2.length ≤ 1000000) (v : Int) (hU : U v) (hn : N3 (ob H v)) (hk : kk H v = 9) (wv : Value) (w : World) (h : RdH w G (.agg #[.int .i64 k0, .slice ah H.2.length ch]) H) :
    Calls Tryz.prog 39 #[.agg #[.int .i64 k0, .slice ah H.2.length ch], .int .u64 v, wv, .int .i64 65536] w fun e w' => e = .returned (.string (strOfNums (wdL H v))) ∧ Bw w w' := by
  obtain ⟨ma, ka, ia, hia, hga⟩ := ob_mem (H := H) hU (by omega)
  have HIA := hid hia
  have HGA := hid hga
  have HU := hid hU
  have HR := hid h
  have HM := hid hm
  have hwd : wdL H v = [116, 104, 114, 101, 97, 100, 58] ++ itoaL (ob H v).num := by unfold wdL; rw [if_neg (by omega), if_neg (by omega), if_neg (by omega), if_neg (by omega), if_neg (by omega), if_neg (by omega)]
  rw [hwd]
  have hz : (strOfNums (itoaL (ob H v).num)).size ≤ 21 := by rw [strOfNums_size]; exact itoaL_len _ hn.1.1 hn.1.2
  have HI := hid (fun w1 => vDec4_any _ (ob H v).num (Nat.lt_succ_self _) hn.1.1 hn.1.2 w1)
  rw [← strOf_app4]
  generalize ob H v = o at HGA HI hz ⊢
  generalize strOfNums (itoaL o.num) = s at HI hz ⊢
  generalize hpe : (strOfNums [116, 104, 114, 101, 97, 100, 58] ++ s : ByteArray) = p
  have hadd : ∀ w, (Op.stringOp .add ⟨#[116, 104, 114, 101, 97, 100, 58]⟩ s).run Tryz.prog w = .ok (.string p) w := fun w => by
    rw [← hpe]
    exact run_string_add_sum (P := Tryz.prog) w ⟨#[116, 104, 114, 101, 97, 100, 58]⟩ s (by show 7 + s.size ≤ _; omega)
  have hpe' : (⟨#[116, 104, 114, 101, 97, 100, 58]⟩ ++ s : ByteArray) = p := hpe
  have hno : ¬ (9223372036854775807 < 7 + s.size) := by omega
  clear hU h hm hok hn hz hpe hwd ma ka hia hga
  go_enter Tryz.func39, Tryz.ntmps39
  go_wp2_with (first
    | (go_at_call 20; refine (rkindH_any G _ H _ HU.out _ (HR.out.below (by repeat (first | exact Bw.refl _ | apply Bw.lay | apply Bw.alloc | apply Bw.drewN | apply Bw.drew))) (by have := HM.out; omega)).mono ?_; rw [hk]; rintro e w1 ⟨rfl, os1, m1, rfl⟩)
    | (go_at_call 36; refine (rof_any G _ H _ HU.out _ HIA.out _ HGA.out w _ (by repeat (first | exact Bw.refl _ | apply Bw.lay | apply Bw.alloc | apply Bw.drewN | apply Bw.drew)) HR.out (by have := HM.out; omega)).mono ?_; rintro e w3 ⟨vb3, vv3, vk3, he3, hol3, os3, m3, hw3⟩; obtain ⟨ab3, cb3, eb3⟩ := hol3.1.form; obtain ⟨av3, cv3, ev3⟩ := hol3.2.1.form; obtain ⟨ak3, ck3, ek3⟩ := hol3.2.2.form; subst eb3 ev3 ek3; simp only [objV] at he3; subst he3 hw3; have OL3 := hid hol3; clear hol3)
    | (go_at_call 70; refine (HI.out _).mono ?_; rintro e w4 ⟨rfl, os4, m4, rfl⟩)
    | fail)
  all_goals go_ret
  all_goals exact ⟨rfl, by repeat (first | exact Bw.refl _ | apply Bw.lay | apply Bw.alloc | apply Bw.drewN | apply Bw.drew)⟩

set_option maxRecDepth 100000 in
set_option maxHeartbeats 8000000 in
theorem rtext_1 {G : Nat → Prop} {k0 : Int} {ah : Option Addr} {ch : Nat} {H : AHeap} (hok : HOK H) (hm : H.2.length ≤ 1000000) (v : Int) (hU : U v) (hn : N3 (ob H v)) (hk : kk H v = 1) (wv : Value) (w : World) (h : RdH w G (.agg #[.int .i64 k0, .slice ah H.2.length ch]) H) :
    Calls Tryz.prog 39 #[.agg #[.int .i64 k0, .slice ah H.2.length ch], .int .u64 v, wv, .int .i64 65536] w fun e w' => e = .returned (.string (strOfNums (wdL H v))) ∧ Bw w w' := by
  obtain ⟨ma, ka, ia, hia, hga⟩ := ob_mem (H := H) hU (by omega)
  have HIA := hid hia
  have HGA := hid hga
  have HU := hid hU
  have HR := hid h
  have HM := hid hm
  have hwd : wdL H v = qStr (ob H v).bytes := by unfold wdL; rw [if_neg (by omega), if_pos hk]
  rw [hwd]
  have HBB := hid (hok _ ma).2.2.2.2.1
  have HL := hid (hok _ ma).2.2.2.2.2.1
  generalize ob H v = o at HGA HBB HL ⊢
  clear hU h hm hok hn hwd ma ka hia hga
  go_enter Tryz.func39, Tryz.ntmps39
  go_upto_region 7 with (first
    | (go_at_call 20; refine (rkindH_any G _ H _ HU.out _ (HR.out.below (by repeat (first | exact Bw.refl _ | apply Bw.lay | apply Bw.alloc | apply Bw.drewN | apply Bw.drew))) (by have := HM.out; omega)).mono ?_; rw [hk]; rintro e w1 ⟨rfl, os1, m1, rfl⟩)
    | (go_at_call 36; refine (rof_any G _ H _ HU.out _ HIA.out _ HGA.out w _ (by repeat (first | exact Bw.refl _ | apply Bw.lay | apply Bw.alloc | apply Bw.drewN | apply Bw.drew)) HR.out (by have := HM.out; omega)).mono ?_; rintro e w3 ⟨vb3, vv3, vk3, he3, hol3, os3, m3, hw3⟩; obtain ⟨ab3, cb3, eb3⟩ := hol3.1.form; obtain ⟨av3, cv3, ev3⟩ := hol3.2.1.form; obtain ⟨ak3, ck3, ek3⟩ := hol3.2.2.form; subst eb3 ev3 ek3; simp only [objV] at he3; subst he3 hw3; have OL3 := hid hol3; clear hol3)
    | fail)
  go_wp2_with (first
    | (go_at_call 69; refine (vQuote_any _ _ _ ⟨(OL3.out.1.any).below (by repeat (first | exact Bw.refl _ | apply Bw.lay | apply Bw.alloc | apply Bw.drewN | apply Bw.drew)), HBB.out, by have := HL.out; omega⟩ HL.out).mono ?_; rintro e w4 ⟨r4, rfl, ho4, hb4⟩; obtain ⟨a4, c4, e4⟩ := own_form ho4; subst e4; have hc4 := By.conv0 (by_own ho4 (qStr_byte HBB.out) (by have h1 := HL.out; have h2 := qAll_len o.bytes; simp [qStr]; omega)); have B4 := hid (Bw.trans (a := w) (by repeat (first | exact Bw.refl _ | apply Bw.lay | apply Bw.alloc | apply Bw.drewN | apply Bw.drew)) hb4); clear ho4 hb4)
    | fail)
  all_goals go_ret
  all_goals exact ⟨rfl, B4.out⟩

set_option maxRecDepth 100000 in
set_option maxHeartbeats 8000000 in
theorem rtext_6 {G : Nat → Prop} {k0 : Int} {ah : Option Addr} {ch : Nat} {H : AHeap} (hok : HOK H) (hm : H.2.length ≤ 1000000) (v : Int) (hU : U v) (hn : N3 (ob H v)) (hk : kk H v = 6) (wv : Value) (w : World) (h : RdH w G (.agg #[.int .i64 k0, .slice ah H.2.length ch]) H) :
    Calls Tryz.prog 39 #[.agg #[.int .i64 k0, .slice ah H.2.length ch], .int .u64 v, wv, .int .i64 65536] w fun e w' => e = .returned (.string (strOfNums (wdL H v))) ∧ Bw w w' := by
  obtain ⟨ma, ka, ia, hia, hga⟩ := ob_mem (H := H) hU (by omega)
  have HIA := hid hia
  have HGA := hid hga
  have HU := hid hU
  have HR := hid h
  have HM := hid hm
  have hwd : wdL H v = [40] ++ nibs 16 (ob H v).re ++ [44] ++ nibs 16 (ob H v).im ++ [41] := by unfold wdL; rw [if_neg (by omega), if_neg (by omega), if_neg (by omega), if_pos hk]
  rw [hwd, ← strOf_app4, ← strOf_app4, ← strOf_app4, ← strOf_app4]
  have HX := hid (fun w1 => vhex_any (ob H v).re hn.2.1 w1)
  have HY := hid (fun w1 => vhex_any (ob H v).im hn.2.2.1 w1)
  have hz1 : (strOfNums (nibs 16 (ob H v).re)).size = 16 := by rw [strOfNums_size, nibs_len]
  have hz2 : (strOfNums (nibs 16 (ob H v).im)).size = 16 := by rw [strOfNums_size, nibs_len]
  generalize ob H v = o at HGA HX HY hz1 hz2 ⊢
  generalize strOfNums (nibs 16 o.re) = s1 at HX hz1 ⊢
  generalize strOfNums (nibs 16 o.im) = s2 at HY hz2 ⊢
  obtain ⟨p1, h1⟩ : ∃ p1 : ByteArray, (⟨#[40]⟩ ++ s1 : ByteArray) = p1 := ⟨_, rfl⟩
  obtain ⟨p2, h2⟩ : ∃ p2 : ByteArray, (p1 ++ ⟨#[44]⟩ : ByteArray) = p2 := ⟨_, rfl⟩
  obtain ⟨p3, h3⟩ : ∃ p3 : ByteArray, (p2 ++ s2 : ByteArray) = p3 := ⟨_, rfl⟩
  obtain ⟨p4, h4⟩ : ∃ p4 : ByteArray, (p3 ++ ⟨#[41]⟩ : ByteArray) = p4 := ⟨_, rfl⟩
  have z1 : p1.size = 17 := by rw [← h1, ByteArray.size_append, hz1]; rfl
  have z2 : p2.size = 18 := by rw [← h2, ByteArray.size_append, z1]; rfl
  have z3 : p3.size = 34 := by rw [← h3, ByteArray.size_append, z2, hz2]
  have HF : Hid (strOfNums [40] ++ s1 ++ strOfNums [44] ++ s2 ++ strOfNums [41] = p4) := by
    show strOfNums [40] ++ s1 ++ strOfNums [44] ++ s2 ++ strOfNums [41] = p4
    rw [← h4, ← h3, ← h2, ← h1]; rfl
  have d1 : ∀ w, (Op.stringOp .add ⟨#[40]⟩ s1).run Tryz.prog w = .ok (.string p1) w := fun w => by
    rw [← h1]; exact run_string_add_sum (P := Tryz.prog) w ⟨#[40]⟩ s1 (by show 1 + s1.size ≤ _; omega)
  have d2 : ∀ w, (Op.stringOp .add p1 ⟨#[44]⟩).run Tryz.prog w = .ok (.string p2) w := fun w => by
    rw [← h2]; exact run_string_add_sum (P := Tryz.prog) w p1 ⟨#[44]⟩ (by show p1.size + 1 ≤ _; omega)
  have d3 : ∀ w, (Op.stringOp .add p2 s2).run Tryz.prog w = .ok (.string p3) w := fun w => by
    rw [← h3]; exact run_string_add_sum (P := Tryz.prog) w p2 s2 (by omega)
  have d4 : ∀ w, (Op.stringOp .add p3 ⟨#[41]⟩).run Tryz.prog w = .ok (.string p4) w := fun w => by
    rw [← h4]; exact run_string_add_sum (P := Tryz.prog) w p3 ⟨#[41]⟩ (by show p3.size + 1 ≤ _; omega)
  have n1 : ¬ (9223372036854775807 < 1 + s1.size) := by omega
  have n2 : ¬ (9223372036854775807 < p1.size + 1) := by omega
  have n3 : ¬ (9223372036854775807 < p2.size + s2.size) := by omega
  have n4 : ¬ (9223372036854775807 < p3.size + 1) := by omega
  clear hU h hm hok hn hwd ma ka hia hga hz1 hz2 z1 z2 z3
  go_enter Tryz.func39, Tryz.ntmps39
  go_upto_region 11 with (first
    | (go_at_call 20; refine (rkindH_any G _ H _ HU.out _ (HR.out.below (by repeat (first | exact Bw.refl _ | apply Bw.lay | apply Bw.alloc | apply Bw.drewN | apply Bw.drew))) (by have := HM.out; omega)).mono ?_; rw [hk]; rintro e w1 ⟨rfl, os1, m1, rfl⟩)
    | (go_at_call 36; refine (rof_any G _ H _ HU.out _ HIA.out _ HGA.out w _ (by repeat (first | exact Bw.refl _ | apply Bw.lay | apply Bw.alloc | apply Bw.drewN | apply Bw.drew)) HR.out (by have := HM.out; omega)).mono ?_; rintro e w3 ⟨vb3, vv3, vk3, he3, hol3, os3, m3, hw3⟩; obtain ⟨ab3, cb3, eb3⟩ := hol3.1.form; obtain ⟨av3, cv3, ev3⟩ := hol3.2.1.form; obtain ⟨ak3, ck3, ek3⟩ := hol3.2.2.form; subst eb3 ev3 ek3; simp only [objV] at he3; subst he3 hw3; have OL3 := hid hol3; clear hol3)
    | fail)
  obtain ⟨w4, hw4⟩ : ∃ w4, w4 = (lay (w.alloc (Obj.cells #[Value.int IntKind.i64 k0, Value.slice ah H.snd.length ch] 32)) (os1 ++ os3) (m1 + m3)).alloc (Obj.cells #[Value.int IntKind.i64 o.kind, Value.slice ab3 o.bytes.length cb3, Value.slice av3 o.vals.length cv3, Value.slice ak3 o.keys.length ck3, Value.int IntKind.i64 o.num, Value.int IntKind.u64 o.re, Value.int IntKind.u64 o.im] 53) := ⟨_, rfl⟩
  rw [← hw4]
  have KB : Hid (Blk w4 (w.heap.size + 1 + (os1.length + os3.length)) #[Value.int IntKind.i64 o.kind, Value.slice ab3 o.bytes.length cb3, Value.slice av3 o.vals.length cv3, Value.slice ak3 o.keys.length ck3, Value.int IntKind.i64 o.num, Value.int IntKind.u64 o.re, Value.int IntKind.u64 o.im] 53) := (by rw [hw4]; exact hid (Blk.newAt (by simp)))
  have B4 : Hid (Bw w w4) := (by rw [hw4]; exact hid (by repeat (first | exact Bw.refl _ | apply Bw.lay | apply Bw.alloc | apply Bw.drewN | apply Bw.drew)))
  clear hw4
  generalize w.heap.size + 1 + (os1.length + os3.length) = g at KB ⊢
  have HS5 := hid (fun w1 (hb : Bw w4 w1) => (⟨(KB.out.bw hb).cell 5, (KB.out.bw hb).cell 6⟩ : w1.cell? ⟨g, 5, none⟩ = some (.int .u64 o.re) ∧ w1.cell? ⟨g, 6, none⟩ = some (.int .u64 o.im)))
  obtain ⟨y5, y6⟩ := HS5.out w4 (Bw.refl _)
  go_region_held3 (fun w' => w'.cell? ⟨g, 5, none⟩ = some (.int .u64 o.re) ∧ w'.cell? ⟨g, 6, none⟩ = some (.int .u64 o.im)) (first | exact HS5.out _ B6.out | exact HS5.out _ B5.out | exact ⟨y5, y6⟩ | (simp [go_sem, *]; done)) (first
    | (go_at_call 71; (fail_if_success (have _g := B5)); refine (HX.out _).mono ?_; rintro e w5 ⟨rfl, hb5⟩; have B5 := hid (Bw.trans (a := w4) (by repeat (first | exact Bw.refl _ | apply Bw.lay | apply Bw.alloc | apply Bw.drewN | apply Bw.drew)) hb5); clear hb5)
    | (go_at_call 71; have _g := B5; clear _g; refine (HY.out _).mono ?_; rintro e w6 ⟨rfl, hb6⟩; have B6 := hid (Bw.trans B5.out hb6); clear hb6)
    | fail)
  all_goals go_wp2
  all_goals go_ret
  all_goals exact ⟨by rw [HF.out]; rfl, Bw.trans B4.out B6.out⟩

set_option maxRecDepth 100000 in
set_option maxHeartbeats 8000000 in
theorem rtext_0 {G : Nat → Prop} {k0 : Int} {ah : Option Addr} {ch : Nat} {H : AHeap} (hok : HOK H) (hm : H.2.length ≤ 1000000) (v : Int) (hU : U v) (hk : kk H v = 0) (wv : Value) (w : World) (h : RdH w G (.agg #[.int .i64 k0, .slice ah H.2.length ch]) H) :
    Calls Tryz.prog 39 #[.agg #[.int .i64 k0, .slice ah H.2.length ch], .int .u64 v, wv, .int .i64 65536] w fun e w' => e = .returned (.string (strOfNums (plL v))) ∧ Bw w w' := by
  have HU := hid hU
  have HR := hid h
  have HM := hid hm
  have HP := hid (fun w => rplain_any v hU w)
  generalize strOfNums (plL v) = s at HP ⊢
  clear hU h hm hok
  go_enter Tryz.func39, Tryz.ntmps39
  go_wp2_with (first
    | (go_at_call 20; refine (rkindH_any G _ H _ HU.out _ (HR.out.below (by repeat (first | exact Bw.refl _ | apply Bw.lay | apply Bw.alloc | apply Bw.drewN | apply Bw.drew))) (by have := HM.out; omega)).mono ?_; rw [hk]; rintro e w1 ⟨rfl, os1, m1, rfl⟩)
    | (go_at_call 68; refine (HP.out _).mono ?_; rintro e w2 ⟨rfl, os2, m2, rfl⟩)
    | fail)
  all_goals go_ret
  all_goals exact ⟨rfl, by repeat (first | exact Bw.refl _ | apply Bw.lay | apply Bw.alloc | apply Bw.drewN | apply Bw.drew)⟩

end Go.Proofs.YtlhgdknmgdohkaaGreatDoor

