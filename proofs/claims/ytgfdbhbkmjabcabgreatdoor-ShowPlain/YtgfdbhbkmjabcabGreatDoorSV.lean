/- Numbers' digits, and what words that are no objects look like: the document's calls. -/
import Derived.Test.YtgfdbhbkmjabcabGreatDoorSU
import Derived.Test.YtgfdbhbkmjabcabGreatDoorR3A
import Derived.BigRegion
set_option linter.unusedSimpArgs false
set_option linter.unusedVariables false
namespace Go.Proofs.YtgfdbhbkmjabcabGreatDoor
open Go Go.RowKit

theorem conv1 (W : World) (b : Nat) (c : Int) (hb : b < W.heap.size) (h : W.cell? ⟨b, 0, none⟩ = some (.int .u8 c)) : (convert 34 9 (.slice (some ⟨b, 0, none⟩) 1 1)).run Tryz.prog W = .ok (.string (strOfNums [c])) W :=
  run_convert_bytes_arg W 34 5 under22 under5 b 0 1 1 [c] rfl (fun i hi => by
    obtain rfl : i = 0 := by omega
    simpa using h) 9 under9

theorem dig (k : Nat) (h : k < 10) : (((UInt8.ofNat (48 + k)).toNat : Nat) : Int) = 48 + (k : Int) := by
  rw [UInt8.toNat_ofNat_of_lt' (by show 48 + k < 256; omega)]; omega

theorem itoaL_one (n : Int) (h0 : 0 ≤ n) (h1 : n < 10) : itoaL n = [48 + n] := by
  unfold itoaL Lib.itoa
  rw [if_neg (by omega), Lib.decDigits, dif_pos (by omega)]
  have := dig n.toNat (by omega)
  simp only [List.map_cons, List.map_nil, this]
  congr 1
  omega

theorem itoaL_neg (n : Int) (h0 : n < 0) (h1 : -10 < n) : itoaL n = [45] ++ [48 - n] := by
  unfold itoaL Lib.itoa
  rw [if_pos h0, Lib.decDigits, dif_pos (by omega)]
  have := dig n.natAbs (by omega)
  simp only [List.map_cons, List.map_nil, this]
  simp
  omega

theorem itoaL_more (n : Int) (h0 : 10 ≤ n) : itoaL n = itoaL (n / 10) ++ [48 + n % 10] := by
  unfold itoaL Lib.itoa
  rw [if_neg (by omega), if_neg (by omega), Lib.decDigits, dif_neg (by omega), List.map_append]
  have := dig (n.toNat % 10) (by omega)
  simp only [List.map_cons, List.map_nil, this]
  rw [show n.toNat / 10 = (n / 10).toNat by omega]
  congr 2
  omega

theorem itoaL_less (n : Int) (h0 : n ≤ -10) : itoaL n = itoaL (-((-n) / 10)) ++ [48 + (-n) % 10] := by
  unfold itoaL Lib.itoa
  rw [if_pos (by omega), if_pos (by omega), Lib.decDigits, dif_neg (by omega)]
  have := dig (n.natAbs % 10) (by omega)
  simp only [List.map_cons, List.map_append, List.map_nil, this, List.cons_append]
  rw [show n.natAbs / 10 = (-((-n) / 10)).natAbs by omega]
  congr 2
  congr 1
  omega

set_option maxRecDepth 100000 in
set_option maxHeartbeats 4000000 in
theorem vDec_big (n q r : Int) (h10 : 10 ≤ n) (hm : n ≤ 9223372036854775807) (hq0 : q = n / 10) (hr0 : r = n % 10) (w : World)
    (ih0 : ∀ w : World, Calls Tryz.prog 28 #[.int .i64 q] w fun e w' => e = .returned (.string (strOfNums (itoaL q))) ∧ Ly w w') :
    Calls Tryz.prog 28 #[.int .i64 n] w fun e w' => e = .returned (.string (strOfNums (itoaL n))) ∧ Ly w w' := by
  have e := itoaL_more n h10
  rw [← hq0, ← hr0] at e
  rw [e, ← strOf_app4]
  have hq : n.tdiv 10 = q := (Int.tdiv_eq_ediv_of_nonneg (by omega)).trans hq0.symm
  have hr : n.tmod 10 = r := (Int.tmod_eq_emod_of_nonneg (by omega)).trans hr0.symm
  have hqb : 0 ≤ q ∧ q ≤ 1000000000000000000 := by omega
  have hrb : 0 ≤ r ∧ r ≤ 9 := by omega
  have ih := hid ih0
  have hsl : (strOfNums (itoaL q)).size ≤ 21 := by rw [strOfNums_size]; exact itoaL_len q (by omega) (by omega)
  generalize strOfNums (itoaL q) = s at ih hsl
  have hq2 : n / 10 = q := hq0.symm
  have hr2 : n % 10 = r := hr0.symm
  have hcv := fun (W : World) (b : Nat) => conv1 W b (48 + r)
  have hdl : (strOfNums [48 + r]).size = 1 := strOfNums_size _
  generalize strOfNums [48 + r] = d at hcv hdl
  have hsz : (s.size + d.size > 9223372036854775807) = False := eq_false (by omega)
  have hn0 : decide (n < 0) = false := decide_eq_false (by omega)
  have hn1 : decide (n < 10) = false := decide_eq_false (by omega)
  have hw : (48 + r) % 256 = 48 + r := by omega
  have hwq : IntKind.i64.wrap q = q := by rw [IntKind.wrap_i64]; omega
  have hwr : IntKind.i64.wrap r = r := by rw [IntKind.wrap_i64]; omega
  have hws : IntKind.i64.wrap (48 + r) = 48 + r := by rw [IntKind.wrap_i64]; omega
  have hwu : IntKind.u8.wrap (48 + r) = 48 + r := by rw [IntKind.wrap_u8']; omega
  clear e ih0 hq0 hr0 hsl hdl hm
  go_enter Tryz.func28, Tryz.ntmps28
  go_wp2
  go_region_with (first
    | (go_at_call_of 28 (Value.int .i64 q); refine (ih.out _).mono ?_; rintro e w' ⟨rfl, os, m, rfl⟩))
  all_goals go_wp2
  all_goals go_ret
  all_goals exact ⟨rfl, by repeat (first | exact Ly.refl _ | apply Ly.lay | apply Ly.alloc | apply Ly.drewN | apply Ly.drew)⟩

set_option maxRecDepth 100000 in
set_option maxHeartbeats 4000000 in
theorem vDec_low (n q r : Int) (h10 : n ≤ -10) (hm : -9223372036854775808 ≤ n) (hq0 : q = -((-n) / 10)) (hr0 : r = -((-n) % 10)) (w : World)
    (ih0 : ∀ w : World, Calls Tryz.prog 28 #[.int .i64 q] w fun e w' => e = .returned (.string (strOfNums (itoaL q))) ∧ Ly w w') :
    Calls Tryz.prog 28 #[.int .i64 n] w fun e w' => e = .returned (.string (strOfNums (itoaL n))) ∧ Ly w w' := by
  have e := itoaL_less n h10
  rw [← hq0, show 48 + (-n) % 10 = 48 - r by omega] at e
  rw [e, ← strOf_app4]
  have hq : n.tdiv 10 = q := by rw [hq0, ← Int.neg_neg n, Int.neg_tdiv, Int.tdiv_eq_ediv_of_nonneg (by omega), Int.neg_neg]
  have hr : n.tmod 10 = r := by rw [hr0, ← Int.neg_neg n, Int.neg_tmod, Int.tmod_eq_emod_of_nonneg (by omega), Int.neg_neg]
  have hqb : -1000000000000000000 ≤ q ∧ q ≤ -1 := by omega
  have hrb : -9 ≤ r ∧ r ≤ 0 := by omega
  have ih := hid ih0
  have hsl : (strOfNums (itoaL q)).size ≤ 21 := by rw [strOfNums_size]; exact itoaL_len q (by omega) (by omega)
  generalize strOfNums (itoaL q) = s at ih hsl
  have hcv := fun (W : World) (b : Nat) => conv1 W b (48 - r)
  have hdl : (strOfNums [48 - r]).size = 1 := strOfNums_size _
  generalize strOfNums [48 - r] = d at hcv hdl
  have hsz : (s.size + d.size > 9223372036854775807) = False := eq_false (by omega)
  have hn0 : decide (n < 0) = true := decide_eq_true (by omega)
  have hn1 : decide (-10 < n) = false := decide_eq_false (by omega)
  have hw : (48 - r) % 256 = 48 - r := by omega
  have hwq : IntKind.i64.wrap q = q := by rw [IntKind.wrap_i64]; omega
  have hwr : IntKind.i64.wrap r = r := by rw [IntKind.wrap_i64]; omega
  have hws : IntKind.i64.wrap (48 - r) = 48 - r := by rw [IntKind.wrap_i64]; omega
  have hwu : IntKind.u8.wrap (48 - r) = 48 - r := by rw [IntKind.wrap_u8']; omega
  clear e ih0 hq0 hr0 hsl hdl hm
  go_enter Tryz.func28, Tryz.ntmps28
  go_wp2
  go_region_with (first
    | (go_at_call_of 28 (Value.int .i64 q); refine (ih.out _).mono ?_; rintro e w' ⟨rfl, os, m, rfl⟩))
  all_goals go_wp2
  all_goals go_ret
  all_goals exact ⟨rfl, by repeat (first | exact Ly.refl _ | apply Ly.lay | apply Ly.alloc | apply Ly.drewN | apply Ly.drew)⟩

set_option maxRecDepth 100000 in
set_option maxHeartbeats 4000000 in
theorem vDec_one (n : Int) (h0 : 0 ≤ n) (h1 : n < 10) (w : World) :
    Calls Tryz.prog 28 #[.int .i64 n] w fun e w' => e = .returned (.string (strOfNums (itoaL n))) ∧ Ly w w' := by
  rw [itoaL_one n h0 h1]
  have hw : (48 + n) % 256 = 48 + n := by omega
  have hc := conv1 (w.alloc (.cells #[.int .u8 (48 + n)] 5)) w.heap.size (48 + n) (by simp) (by rw [World.cell?_alloc_mark]; rfl)
  have hn0 : decide (n < 0) = false := decide_eq_false (by omega)
  have hn1 : decide (n < 10) = true := decide_eq_true (by omega)
  go_enter Tryz.func28, Tryz.ntmps28
  go_wp2
  all_goals go_ret
  all_goals exact ⟨rfl, Ly.alloc (Ly.refl _) _⟩

set_option maxRecDepth 100000 in
set_option maxHeartbeats 4000000 in
theorem vDec_neg (n : Int) (h0 : n < 0) (h1 : -10 < n) (w : World) :
    Calls Tryz.prog 28 #[.int .i64 n] w fun e w' => e = .returned (.string (strOfNums (itoaL n))) ∧ Ly w w' := by
  rw [itoaL_neg n h0 h1, ← strOf_app4]
  have hc := conv1 (w.alloc (.cells #[.int .u8 (48 - n)] 5)) w.heap.size (48 - n) (by simp) (by rw [World.cell?_alloc_mark]; rfl)
  have hdl : (strOfNums [48 - n]).size = 1 := strOfNums_size _
  generalize strOfNums [48 - n] = d at hc hdl ⊢
  generalize hpe : (strOfNums [45] ++ d : ByteArray) = p
  have hadd : ∀ w, (Op.stringOp .add ⟨#[45]⟩ d).run Tryz.prog w = .ok (.string p) w := fun w => by
    rw [← hpe]
    exact run_string_add_sum (P := Tryz.prog) w ⟨#[45]⟩ d (by show 1 + d.size ≤ _; omega)
  have hpe' : (⟨#[45]⟩ ++ d : ByteArray) = p := hpe
  have hno : ¬ (9223372036854775807 < 1 + d.size) := by omega
  have hw : (48 - n) % 256 = 48 - n := by omega
  have hn0 : decide (n < 0) = true := decide_eq_true (by omega)
  have hn1 : decide (-10 < n) = true := decide_eq_true (by omega)
  clear hdl hpe
  go_enter Tryz.func28, Tryz.ntmps28
  go_wp2
  all_goals go_ret
  all_goals exact ⟨rfl, Ly.alloc (Ly.refl _) _⟩

/-- The document's digits are the library's. -/
theorem vDec4_any : ∀ (f : Nat) (n : Int), n.natAbs < f → -9223372036854775808 ≤ n → n ≤ 9223372036854775807 → ∀ (w : World),
    Calls Tryz.prog 28 #[.int .i64 n] w fun e w' => e = .returned (.string (strOfNums (itoaL n))) ∧ Ly w w'
  | 0, n, h, _, _, _ => by omega
  | f + 1, n, h, h0, h1, w => by
    by_cases hn : n < 0
    · by_cases hl : -10 < n
      · exact vDec_neg n hn hl w
      · exact vDec_low n _ _ (by omega) h0 rfl rfl w (fun w1 => vDec4_any f _ (by omega) (by omega) (by omega) w1)
    · by_cases hl : n < 10
      · exact vDec_one n (by omega) hl w
      · exact vDec_big n _ _ (by omega) h1 rfl rfl w (fun w1 => vDec4_any f _ (by omega) (by omega) (by omega) w1)

end Go.Proofs.YtgfdbhbkmjabcabGreatDoor
