/- The program's letters, digits, words (lex): what stands beside XP. · Names of any length: the program's and the document's. · wellMade, step: contracts. -/
import Derived.Test.YtdhkcdehedbpcaaDoorM6
import Derived.Test.YtdhkcdehedbpcaaDoorM7
import Derived.Test.YtdhkcdehedbpcaaDoorM9
set_option linter.unusedSimpArgs false
set_option linter.unusedVariables false
namespace Go.Proofs.YtdhkcdehedbpcaaDoor
open Go Go.RowKit

set_option maxRecDepth 100000 in
set_option maxHeartbeats 400000 in
theorem xisDigit_any (c : Int) (w : World) :
  Calls Tryd.prog 87 #[.int .u8 c] w fun e w' => e = .returned (.bool (isDg c)) ∧ w' = w := by
 go_enter Tryd.func87, Tryd.ntmps87
 go_wp2
 all_goals go_ret
 all_goals refine ⟨ret_bool ?_, rfl⟩
 all_goals (rw [Bool.eq_iff_iff]; simp_all [isDg]; try omega)

set_option maxRecDepth 100000 in
set_option maxHeartbeats 400000 in
theorem xisLetter_any (c : Int) (w : World) :
  Calls Tryd.prog 88 #[.int .u8 c] w fun e w' => e = .returned (.bool (isLt c)) ∧ w' = w := by
 go_enter Tryd.func88, Tryd.ntmps88
 go_wp2
 all_goals go_ret
 all_goals refine ⟨ret_bool ?_, rfl⟩
 all_goals (rw [Bool.eq_iff_iff]; simp_all [isLt]; try omega)

theorem ne_word {l : List Int} (hl : ∀ c ∈ l, 0 ≤ c ∧ c ≤ 255) (hw : isWord l = false) (k : List UInt8) (hk : isWord (k.map fun u => (u.toNat : Int)) = true) : ((strOfNums l).toList == k) = false := by
 rw [beq_eq_false_iff_ne]
 intro e
 rw [strOf_toList] at e
 have : l = k.map fun u => (u.toNat : Int) := by
  rw [← e, List.map_map]
  conv => lhs; rw [← List.map_id l]
  refine List.map_congr_left fun c hc => ?_
  have := hl c hc
  simp
  omega
 rw [← this, hw] at hk
 cases hk

theorem word_cases {l : List Int} (h : isWord l = true) : l = [118, 97, 114] ∨ l = [102, 110] ∨ l = [105, 102] ∨ l = [101, 108, 115, 101] ∨ l = [119, 104, 105, 108, 101] ∨ l = [98, 114, 101, 97, 107] ∨ l = [99, 111, 110, 116, 105, 110, 117, 101] ∨ l = [114, 101, 116, 117, 114, 110] ∨ l = [116, 104, 114, 111, 119] ∨ l = [116, 114, 121] ∨ l = [99, 97, 116, 99, 104] ∨ l = [115, 112, 97, 119, 110] ∨ l = [116, 114, 117, 101] ∨ l = [102, 97, 108, 115, 101] ∨ l = [110, 105, 108] ∨ l = [97, 110, 100] ∨ l = [111, 114] ∨ l = [110, 111, 116] := by
 simpa [isWord, words] using h

set_option maxRecDepth 100000 in
set_option maxHeartbeats 4000000 in
theorem xWord_no (l : List Int) (hb : ∀ c ∈ l, 0 ≤ c ∧ c ≤ 255) (hw : isWord l = false) (w : World) :
  Calls Tryd.prog 89 #[.string (strOfNums l)] w fun e w' => e = .returned (.bool false) ∧ w' = w := by
 have k0 : ((strOfNums l).toList == [118, 97, 114]) = false := ne_word hb hw [118, 97, 114] (by decide)
 have k1 : ((strOfNums l).toList == [102, 110]) = false := ne_word hb hw [102, 110] (by decide)
 have k2 : ((strOfNums l).toList == [105, 102]) = false := ne_word hb hw [105, 102] (by decide)
 have k3 : ((strOfNums l).toList == [101, 108, 115, 101]) = false := ne_word hb hw [101, 108, 115, 101] (by decide)
 have k4 : ((strOfNums l).toList == [119, 104, 105, 108, 101]) = false := ne_word hb hw [119, 104, 105, 108, 101] (by decide)
 have k5 : ((strOfNums l).toList == [98, 114, 101, 97, 107]) = false := ne_word hb hw [98, 114, 101, 97, 107] (by decide)
 have k6 : ((strOfNums l).toList == [99, 111, 110, 116, 105, 110, 117, 101]) = false := ne_word hb hw [99, 111, 110, 116, 105, 110, 117, 101] (by decide)
 have k7 : ((strOfNums l).toList == [114, 101, 116, 117, 114, 110]) = false := ne_word hb hw [114, 101, 116, 117, 114, 110] (by decide)
 have k8 : ((strOfNums l).toList == [116, 104, 114, 111, 119]) = false := ne_word hb hw [116, 104, 114, 111, 119] (by decide)
 have k9 : ((strOfNums l).toList == [116, 114, 121]) = false := ne_word hb hw [116, 114, 121] (by decide)
 have k10 : ((strOfNums l).toList == [99, 97, 116, 99, 104]) = false := ne_word hb hw [99, 97, 116, 99, 104] (by decide)
 have k11 : ((strOfNums l).toList == [115, 112, 97, 119, 110]) = false := ne_word hb hw [115, 112, 97, 119, 110] (by decide)
 have k12 : ((strOfNums l).toList == [116, 114, 117, 101]) = false := ne_word hb hw [116, 114, 117, 101] (by decide)
 have k13 : ((strOfNums l).toList == [102, 97, 108, 115, 101]) = false := ne_word hb hw [102, 97, 108, 115, 101] (by decide)
 have k14 : ((strOfNums l).toList == [110, 105, 108]) = false := ne_word hb hw [110, 105, 108] (by decide)
 have k15 : ((strOfNums l).toList == [97, 110, 100]) = false := ne_word hb hw [97, 110, 100] (by decide)
 have k16 : ((strOfNums l).toList == [111, 114]) = false := ne_word hb hw [111, 114] (by decide)
 have k17 : ((strOfNums l).toList == [110, 111, 116]) = false := ne_word hb hw [110, 111, 116] (by decide)
 generalize strOfNums l = s at *
 clear hw hb
 go_enter Tryd.func89, Tryd.ntmps89
 go_wp2
 all_goals go_ret
 all_goals exact ⟨rfl, rfl⟩

set_option maxRecDepth 100000 in
set_option maxHeartbeats 4000000 in
theorem xWord_0 (w : World) : Calls Tryd.prog 89 #[.string ⟨#[118, 97, 114]⟩] w fun e w' => e = .returned (.bool true) ∧ w' = w := by
 go_enter Tryd.func89, Tryd.ntmps89
 go_wp2
 all_goals go_ret
 all_goals exact ⟨rfl, rfl⟩

set_option maxRecDepth 100000 in
set_option maxHeartbeats 4000000 in
theorem xWord_1 (w : World) : Calls Tryd.prog 89 #[.string ⟨#[102, 110]⟩] w fun e w' => e = .returned (.bool true) ∧ w' = w := by
 go_enter Tryd.func89, Tryd.ntmps89
 go_wp2
 all_goals go_ret
 all_goals exact ⟨rfl, rfl⟩

set_option maxRecDepth 100000 in
set_option maxHeartbeats 4000000 in
theorem xWord_2 (w : World) : Calls Tryd.prog 89 #[.string ⟨#[105, 102]⟩] w fun e w' => e = .returned (.bool true) ∧ w' = w := by
 go_enter Tryd.func89, Tryd.ntmps89
 go_wp2
 all_goals go_ret
 all_goals exact ⟨rfl, rfl⟩

set_option maxRecDepth 100000 in
set_option maxHeartbeats 4000000 in
theorem xWord_3 (w : World) : Calls Tryd.prog 89 #[.string ⟨#[101, 108, 115, 101]⟩] w fun e w' => e = .returned (.bool true) ∧ w' = w := by
 go_enter Tryd.func89, Tryd.ntmps89
 go_wp2
 all_goals go_ret
 all_goals exact ⟨rfl, rfl⟩

set_option maxRecDepth 100000 in
set_option maxHeartbeats 4000000 in
theorem xWord_4 (w : World) : Calls Tryd.prog 89 #[.string ⟨#[119, 104, 105, 108, 101]⟩] w fun e w' => e = .returned (.bool true) ∧ w' = w := by
 go_enter Tryd.func89, Tryd.ntmps89
 go_wp2
 all_goals go_ret
 all_goals exact ⟨rfl, rfl⟩

set_option maxRecDepth 100000 in
set_option maxHeartbeats 4000000 in
theorem xWord_5 (w : World) : Calls Tryd.prog 89 #[.string ⟨#[98, 114, 101, 97, 107]⟩] w fun e w' => e = .returned (.bool true) ∧ w' = w := by
 go_enter Tryd.func89, Tryd.ntmps89
 go_wp2
 all_goals go_ret
 all_goals exact ⟨rfl, rfl⟩

set_option maxRecDepth 100000 in
set_option maxHeartbeats 4000000 in
theorem xWord_6 (w : World) : Calls Tryd.prog 89 #[.string ⟨#[99, 111, 110, 116, 105, 110, 117, 101]⟩] w fun e w' => e = .returned (.bool true) ∧ w' = w := by
 go_enter Tryd.func89, Tryd.ntmps89
 go_wp2
 all_goals go_ret
 all_goals exact ⟨rfl, rfl⟩

set_option maxRecDepth 100000 in
set_option maxHeartbeats 4000000 in
theorem xWord_7 (w : World) : Calls Tryd.prog 89 #[.string ⟨#[114, 101, 116, 117, 114, 110]⟩] w fun e w' => e = .returned (.bool true) ∧ w' = w := by
 go_enter Tryd.func89, Tryd.ntmps89
 go_wp2
 all_goals go_ret
 all_goals exact ⟨rfl, rfl⟩

set_option maxRecDepth 100000 in
set_option maxHeartbeats 4000000 in
theorem xWord_8 (w : World) : Calls Tryd.prog 89 #[.string ⟨#[116, 104, 114, 111, 119]⟩] w fun e w' => e = .returned (.bool true) ∧ w' = w := by
 go_enter Tryd.func89, Tryd.ntmps89
 go_wp2
 all_goals go_ret
 all_goals exact ⟨rfl, rfl⟩

set_option maxRecDepth 100000 in
set_option maxHeartbeats 4000000 in
theorem xWord_9 (w : World) : Calls Tryd.prog 89 #[.string ⟨#[116, 114, 121]⟩] w fun e w' => e = .returned (.bool true) ∧ w' = w := by
 go_enter Tryd.func89, Tryd.ntmps89
 go_wp2
 all_goals go_ret
 all_goals exact ⟨rfl, rfl⟩

set_option maxRecDepth 100000 in
set_option maxHeartbeats 4000000 in
theorem xWord_10 (w : World) : Calls Tryd.prog 89 #[.string ⟨#[99, 97, 116, 99, 104]⟩] w fun e w' => e = .returned (.bool true) ∧ w' = w := by
 go_enter Tryd.func89, Tryd.ntmps89
 go_wp2
 all_goals go_ret
 all_goals exact ⟨rfl, rfl⟩

set_option maxRecDepth 100000 in
set_option maxHeartbeats 4000000 in
theorem xWord_11 (w : World) : Calls Tryd.prog 89 #[.string ⟨#[115, 112, 97, 119, 110]⟩] w fun e w' => e = .returned (.bool true) ∧ w' = w := by
 go_enter Tryd.func89, Tryd.ntmps89
 go_wp2
 all_goals go_ret
 all_goals exact ⟨rfl, rfl⟩

set_option maxRecDepth 100000 in
set_option maxHeartbeats 4000000 in
theorem xWord_12 (w : World) : Calls Tryd.prog 89 #[.string ⟨#[116, 114, 117, 101]⟩] w fun e w' => e = .returned (.bool true) ∧ w' = w := by
 go_enter Tryd.func89, Tryd.ntmps89
 go_wp2
 all_goals go_ret
 all_goals exact ⟨rfl, rfl⟩

set_option maxRecDepth 100000 in
set_option maxHeartbeats 4000000 in
theorem xWord_13 (w : World) : Calls Tryd.prog 89 #[.string ⟨#[102, 97, 108, 115, 101]⟩] w fun e w' => e = .returned (.bool true) ∧ w' = w := by
 go_enter Tryd.func89, Tryd.ntmps89
 go_wp2
 all_goals go_ret
 all_goals exact ⟨rfl, rfl⟩

set_option maxRecDepth 100000 in
set_option maxHeartbeats 4000000 in
theorem xWord_14 (w : World) : Calls Tryd.prog 89 #[.string ⟨#[110, 105, 108]⟩] w fun e w' => e = .returned (.bool true) ∧ w' = w := by
 go_enter Tryd.func89, Tryd.ntmps89
 go_wp2
 all_goals go_ret
 all_goals exact ⟨rfl, rfl⟩

set_option maxRecDepth 100000 in
set_option maxHeartbeats 4000000 in
theorem xWord_15 (w : World) : Calls Tryd.prog 89 #[.string ⟨#[97, 110, 100]⟩] w fun e w' => e = .returned (.bool true) ∧ w' = w := by
 go_enter Tryd.func89, Tryd.ntmps89
 go_wp2
 all_goals go_ret
 all_goals exact ⟨rfl, rfl⟩

set_option maxRecDepth 100000 in
set_option maxHeartbeats 4000000 in
theorem xWord_16 (w : World) : Calls Tryd.prog 89 #[.string ⟨#[111, 114]⟩] w fun e w' => e = .returned (.bool true) ∧ w' = w := by
 go_enter Tryd.func89, Tryd.ntmps89
 go_wp2
 all_goals go_ret
 all_goals exact ⟨rfl, rfl⟩

set_option maxRecDepth 100000 in
set_option maxHeartbeats 4000000 in
theorem xWord_17 (w : World) : Calls Tryd.prog 89 #[.string ⟨#[110, 111, 116]⟩] w fun e w' => e = .returned (.bool true) ∧ w' = w := by
 go_enter Tryd.func89, Tryd.ntmps89
 go_wp2
 all_goals go_ret
 all_goals exact ⟨rfl, rfl⟩

theorem xWord_any (l : List Int) (hb : ∀ c ∈ l, 0 ≤ c ∧ c ≤ 255) (w : World) :
  Calls Tryd.prog 89 #[.string (strOfNums l)] w fun e w' => e = .returned (.bool (isWord l)) ∧ w' = w := by
 cases hw : isWord l
 ·exact xWord_no l hb hw w
 ·rcases word_cases hw with rfl | rfl | rfl | rfl | rfl | rfl | rfl | rfl | rfl | rfl | rfl | rfl | rfl | rfl | rfl | rfl | rfl | rfl
  ·exact xWord_0 w
  ·exact xWord_1 w
  ·exact xWord_2 w
  ·exact xWord_3 w
  ·exact xWord_4 w
  ·exact xWord_5 w
  ·exact xWord_6 w
  ·exact xWord_7 w
  ·exact xWord_8 w
  ·exact xWord_9 w
  ·exact xWord_10 w
  ·exact xWord_11 w
  ·exact xWord_12 w
  ·exact xWord_13 w
  ·exact xWord_14 w
  ·exact xWord_15 w
  ·exact xWord_16 w
  ·exact xWord_17 w

end Go.Proofs.YtdhkcdehedbpcaaDoor

namespace Go.Proofs.YtdhkcdehedbpcaaDoor
open Go Go.RowKit

set_option maxRecDepth 100000 in
set_option maxHeartbeats 4000000 in
theorem xNameB_any (l : List Int) (hb : ∀ c ∈ l, 0 ≤ c ∧ c ≤ 255) (hm : l.length ≤ 9223372036854775807) (w : World) :
  Calls Tryd.prog 73 #[.string (strOfNums l)] w fun e w' => e = .returned (.bool (isName l)) ∧ w' = w := by
 have W1 := hid (xWord_any l hb)
 cases l with
 | nil =>
  go_enter Tryd.func73, Tryd.ntmps73
  rw [show strOfNums [] = ⟨#[]⟩ from rfl]
  go_wp2
  all_goals go_ret
  all_goals exact ⟨rfl, rfl⟩
 | cons c0 t =>
  have hn : ((strOfNums (c0 :: t)).toList == []) = false := by rw [strOf_toList]; simp
  have S := strOf_get hb
  have Z : (strOfNums (c0 :: t)).size = (c0 :: t).length := strOfNums_size _
  have hl : 0 < (c0 :: t).length := by simp
  have e1 : isName (c0 :: t) = (!isDg (nth (c0 :: t) 0) && (c0 :: t).all isNm && !isWord (c0 :: t)) := rfl
  generalize (c0 :: t) = l at *
  generalize strOfNums l = s at *
  have E1 := hid e1
  clear e1 hb
  cases hd : isDg (nth l 0)
  ·go_enter Tryd.func73, Tryd.ntmps73
   go_wp2_with (first
    | (go_at_call 87; refine (xisDigit_any _ _).mono ?_; rintro e w' ⟨rfl, hw'⟩; subst w'))
   go_loopw [13] (fun j wr => ∃ k, k ≤ l.length ∧ j = .int .i64 (k : Nat) ∧ wr = w ∧ (l.take k).all isNm = true) (fun j _ => l.length - (intOf j).toNat)
   case atStart => exact ⟨0, Nat.zero_le _, rfl, rfl, by simp⟩
   case round =>
    obtain ⟨k, hk, rfl, hwr, ha⟩ := hrel
    subst wr
    have HA := hid ha
    clear ha
    by_cases hlt : k < l.length
    ·have hlt2 : (k : Int) < (l.length : Int) := by omega
     cases h1 : isLt (nth l k) <;> cases h2 : isDg (nth l k)
     ·have hf : isName l = false := by rw [E1.out, all_false_of isNm l k hlt (by simp [isNm, h1, h2])]; simp
      have HF := hid hf
      clear hf
      go_wp2_with (first
       | (go_at_call 87; refine (xisDigit_any _ _).mono ?_; rintro e w' ⟨rfl, hw'⟩; subst w')
       | (go_at_call 88; refine (xisLetter_any _ _).mono ?_; rintro e w' ⟨rfl, hw'⟩; subst w'))
      all_goals go_ret
      all_goals exact ⟨ret_bool HF.out.symm, rfl⟩
     all_goals
      have hs : (l.take (k + 1)).all isNm = true := by rw [all_take_succ _ _ _ hlt, HA.out]; simp [isNm, h1, h2]
      have HSS := hid hs
      clear hs
      go_wp2_with (first
       | (go_at_call 87; refine (xisDigit_any _ _).mono ?_; rintro e w' ⟨rfl, hw'⟩; subst w')
       | (go_at_call 88; refine (xisLetter_any _ _).mono ?_; rintro e w' ⟨rfl, hw'⟩; subst w'))
      go_roundw
      case rel => exact ⟨k + 1, by omega, by go_num, trivial, HSS.out⟩
      case measure => simp [intOf]; omega
    ·have hfin : isName l = !isWord l := by
      have := HA.out
      rw [List.take_of_length_le (by omega)] at this
      rw [E1.out, this, hd]; simp
     have HF := hid hfin
     clear hfin
     go_wp2_with (first
      | (go_at_call 89; refine (W1.out _).mono ?_; rintro e w' ⟨rfl, hw'⟩; subst w'))
     all_goals go_ret
     all_goals exact ⟨ret_bool HF.out.symm, rfl⟩
  ·have : isName l = false := by rw [E1.out, hd]; rfl
   rw [this]
   clear this
   go_enter Tryd.func73, Tryd.ntmps73
   go_wp2_with (first
    | (go_at_call 87; refine (xisDigit_any _ _).mono ?_; rintro e w' ⟨rfl, hw'⟩; subst w'))
   all_goals go_ret
   all_goals exact ⟨rfl, rfl⟩

set_option maxHeartbeats 4000000 in
theorem rNameB_any (l : List Int) (hb : ∀ c ∈ l, 0 ≤ c ∧ c ≤ 255) (hm : l.length ≤ 9223372036854775807) (w : World) :
  Calls Tryd.prog 84 #[.string (strOfNums l)] w fun e w' => e = .returned (.bool (isName l)) ∧ Ly w w' := by
 have W1 := hid (rWord_any l hb)
 cases l with
 | nil =>
  go_enter Tryd.func84, Tryd.ntmps84
  rw [show strOfNums [] = ⟨#[]⟩ from rfl]
  go_wp2
  all_goals go_ret
  all_goals exact ⟨rfl, Ly.refl _⟩
 | cons c0 t =>
  have S := strOf_get hb
  have Z : (strOfNums (c0 :: t)).size = (c0 :: t).length := strOfNums_size _
  have hl : 0 < (c0 :: t).length := by simp
  have hl0 : (((c0 :: t).length : Int) == 0) = false := by simp; omega
  have e1 : isName (c0 :: t) = (!isDg (nth (c0 :: t) 0) && (c0 :: t).all isNm && !isWord (c0 :: t)) := rfl
  generalize (c0 :: t) = l at *
  generalize strOfNums l = s at *
  have E1 := hid e1
  clear e1 hb
  cases hd : isDg (nth l 0)
  ·cases hw : isWord l
   ·rw [hw] at W1
    go_enter Tryd.func84, Tryd.ntmps84
    go_wp2_with (first
     | (go_at_call 36; refine (rdigit_any _ _).mono ?_; rintro e w' ⟨rfl, hw'⟩; subst w')
     | (go_at_call 37; refine (W1.out _).mono ?_; rintro e w' ⟨rfl, os, n, rfl⟩))
    go_loopw [3] (fun j wr => ∃ k, k ≤ l.length ∧ j = .int .i64 (k : Nat) ∧ wr = lay w os n ∧ (l.take k).all isNm = true) (fun j _ => l.length - (intOf j).toNat)
    case atStart => exact ⟨0, Nat.zero_le _, rfl, rfl, by simp⟩
    case round =>
     obtain ⟨k, hk, rfl, hwr, ha⟩ := hrel
     subst wr
     have HA := hid ha
     clear ha
     by_cases hlt : k < l.length
     ·have hlt2 : (k : Int) < (l.length : Int) := by omega
      cases h1 : isLt (nth l k) <;> cases h2 : isDg (nth l k)
      ·have hf : isName l = false := by rw [E1.out, all_false_of isNm l k hlt (by simp [isNm, h1, h2])]; simp
       have HF := hid hf
       clear hf
       go_wp2_with (first
        | (go_at_call 36; refine (rdigit_any _ _).mono ?_; rintro e w' ⟨rfl, hw'⟩; subst w')
        | (go_at_call 35; refine (rletter_any _ _).mono ?_; rintro e w' ⟨rfl, hw'⟩; subst w'))
       all_goals go_ret
       all_goals exact ⟨ret_bool HF.out.symm, Ly.lay (Ly.refl _) _ _⟩
      all_goals
       have hs : (l.take (k + 1)).all isNm = true := by rw [all_take_succ _ _ _ hlt, HA.out]; simp [isNm, h1, h2]
       have HSS := hid hs
       clear hs
       go_wp2_with (first
        | (go_at_call 36; refine (rdigit_any _ _).mono ?_; rintro e w' ⟨rfl, hw'⟩; subst w')
        | (go_at_call 35; refine (rletter_any _ _).mono ?_; rintro e w' ⟨rfl, hw'⟩; subst w'))
       go_roundw
       case rel => exact ⟨k + 1, by omega, by go_num, trivial, HSS.out⟩
       case measure => simp [intOf]; omega
     ·have hfin : isName l = true := by
       have := HA.out
       rw [List.take_of_length_le (by omega)] at this
       rw [E1.out, this, hd, hw]; rfl
      have HF := hid hfin
      clear hfin
      go_wp2
      all_goals go_ret
      all_goals exact ⟨ret_bool HF.out.symm, Ly.lay (Ly.refl _) _ _⟩
   ·rw [hw] at W1
    have hf : isName l = false := by rw [E1.out, hw]; simp
    rw [hf]
    clear hf
    go_enter Tryd.func84, Tryd.ntmps84
    go_wp2_with (first
     | (go_at_call 36; refine (rdigit_any _ _).mono ?_; rintro e w' ⟨rfl, hw'⟩; subst w')
     | (go_at_call 37; refine (W1.out _).mono ?_; rintro e w' ⟨rfl, os, n, rfl⟩))
    all_goals go_ret
    all_goals exact ⟨rfl, Ly.lay (Ly.refl _) _ _⟩
  ·have : isName l = false := by rw [E1.out, hd]; rfl
   rw [this]
   clear this
   go_enter Tryd.func84, Tryd.ntmps84
   go_wp2_with (first
    | (go_at_call 36; refine (rdigit_any _ _).mono ?_; rintro e w' ⟨rfl, hw'⟩; subst w'))
   all_goals go_ret
   all_goals exact ⟨rfl, Ly.refl _⟩

end Go.Proofs.YtdhkcdehedbpcaaDoor

namespace Go.Proofs.YtdhkcdehedbpcaaDoor
open Go Go.RowKit

set_option maxRecDepth 100000 in
set_option maxHeartbeats 8000000 in
theorem wellMade_any (n : Nat) (h1 : 0 < n) (h2 : n < 33) (N num at_ : Int) (t : List Int) (ht : (∀ c ∈ t, 0 ≤ c ∧ c ≤ 255) ∧ t.length ≤ 9223372036854775807) (hN : -9223372036854775808 ≤ N ∧ N ≤ 9223372036854775807) (w : World) (hh : Sh w) :
  Calls Tryd.prog 53 #[.agg #[.int .i64 (n : Int), .int .i64 N, .string (strOfNums t), .int .i64 num, .int .i64 at_]] w fun e w' => e = .returned (.bool (wmP ((n : Int), N, t, num, at_))) ∧ Bw w w' := by
 have c0 := hh.c0 n h2
 have c1 := hh.c1 n h2
 have c2 := hh.c2 n h2
 have c3 := hh.c3 n h2
 have gl := hh.lt
 have i1 : (0 : Int) ≤ (n : Int) := by omega
 have i2 : (n : Int) < 33 := by omega
 have XN := hid (xNameB_any t ht.1 ht.2)
 have XB := hid (isBinary_any t)
 have hs1 : 0 ≤ (shpA n).2.1 := by
  unfold shpA
  have : ∀ i, i < 33 → 0 ≤ (shpT.getD i (0, 0, 0, 0)).2.1 := by decide
  exact this _ (by omega)
 have hs12 : ((n : Int) = 12 ∨ (n : Int) = 31) → 1 ≤ (shpA n).2.1 := by
  rintro (h | h)
  ·rw [h]; decide
  ·rw [h]; decide
 unfold wmP
 dsimp only
 generalize (shpA n).1 = s0 at *
 generalize (shpA n).2.1 = s1 at *
 generalize (shpA n).2.2.1 = s2 at *
 generalize (shpA n).2.2.2 = s3 at *
 have HS12 := hid hs12
 clear hh ht hs12
 by_cases b1 : N < s1
 ·rw [if_pos (.inl b1)]
  generalize strOfNums t = s at *
  go_enter Tryd.func53, Tryd.ntmps53
  go_wp2
  all_goals go_ret
  all_goals exact ⟨rfl, bq⟩
 by_cases b2 : s2 < N
 ·rw [if_pos (.inr (.inl b2))]
  generalize strOfNums t = s at *
  go_enter Tryd.func53, Tryd.ntmps53
  go_wp2
  all_goals go_ret
  all_goals exact ⟨rfl, bq⟩
 have d1 : decide (N < s1) = false := decide_eq_false b1
 have d2 : decide (s2 < N) = false := decide_eq_false b2
 by_cases b3 : s3 = 1 ∧ isName t = false
 ·rw [if_pos (.inr (.inr b3))]
  obtain ⟨rfl, b3⟩ := b3
  rw [b3] at XN
  generalize strOfNums t = s at *
  go_enter Tryd.func53, Tryd.ntmps53
  go_wp2_with (first
   | (go_at_call 73; refine (XN.out _).mono ?_; rintro e w' ⟨rfl, hw'⟩; subst w')
   | fail)
  all_goals go_ret
  all_goals exact ⟨rfl, bq⟩
 ·rw [if_neg (by rintro (h | h | h); exact b1 h; exact b2 h; exact b3 h)]
  have b4 : (s3 = 1 ∧ isName t = true) ∨ (s3 == 1) = false := by
   by_cases h : s3 = 1
   ·refine .inl ⟨h, ?_⟩
    cases hq : isName t with
    | true => rfl
    | false => exact absurd ⟨h, hq⟩ b3
   ·exact .inr (by simpa using h)
  rcases b4 with ⟨rfl, b4⟩ | b4
  ·rw [b4] at XN
   by_cases k14 : n = 14
   ·subst k14
    rw [if_pos (show ((14 : Nat) : Int) = 14 from rfl)]
    generalize strOfNums t = s at *
    go_enter Tryd.func53, Tryd.ntmps53
    go_wp2_with (first
     | (go_at_call 73; refine (XN.out _).mono ?_; rintro e w' ⟨rfl, hw'⟩; subst w')
     | (go_at_call 74; refine (XB.out _).mono ?_; rintro e w' ⟨rfl, hw'⟩; subst w')
     | fail)
    all_goals go_ret
    all_goals exact ⟨by first | rfl | (simp [*]; done) | (simp; omega), bq⟩
   by_cases k23 : n = 23
   ·subst k23
    rw [if_neg (by decide), if_pos (show ((23 : Nat) : Int) = 23 from rfl)]
    generalize binP t = bb at *
    generalize strOfNums t = s at *
    go_enter Tryd.func53, Tryd.ntmps53
    go_wp2_with (first
     | (go_at_call 73; refine (XN.out _).mono ?_; rintro e w' ⟨rfl, hw'⟩; subst w')
     | (go_at_call 74; refine (XB.out _).mono ?_; rintro e w' ⟨rfl, hw'⟩; subst w')
     | fail)
    all_goals go_ret
    all_goals exact ⟨by first | rfl | (simp [*]; done) | (simp; omega), bq⟩
   by_cases k12 : n = 12
   ·subst k12
    rw [if_neg (by decide), if_neg (by decide), if_pos (.inl rfl)]
    have hs9 := HS12.out (.inl rfl)
    have hN1 : 1 ≤ N := by omega
    generalize strOfNums t = s at *
    go_enter Tryd.func53, Tryd.ntmps53
    go_wp2_with (first
     | (go_at_call 73; refine (XN.out _).mono ?_; rintro e w' ⟨rfl, hw'⟩; subst w')
     | (go_at_call 74; refine (XB.out _).mono ?_; rintro e w' ⟨rfl, hw'⟩; subst w')
     | fail)
    all_goals go_ret
    all_goals exact ⟨by first | rfl | (simp [*]; done) | (simp; omega), bq⟩
   by_cases k31 : n = 31
   ·subst k31
    rw [if_neg (by decide), if_neg (by decide), if_pos (.inr rfl)]
    have hs9 := HS12.out (.inr rfl)
    have hN1 : 1 ≤ N := by omega
    generalize strOfNums t = s at *
    go_enter Tryd.func53, Tryd.ntmps53
    go_wp2_with (first
     | (go_at_call 73; refine (XN.out _).mono ?_; rintro e w' ⟨rfl, hw'⟩; subst w')
     | (go_at_call 74; refine (XB.out _).mono ?_; rintro e w' ⟨rfl, hw'⟩; subst w')
     | fail)
    all_goals go_ret
    all_goals exact ⟨by first | rfl | (simp [*]; done) | (simp; omega), bq⟩
   rw [if_neg (by omega), if_neg (by omega), if_neg (by omega)]
   generalize strOfNums t = s at *
   go_enter Tryd.func53, Tryd.ntmps53
   go_wp2_with (first
    | (go_at_call 73; refine (XN.out _).mono ?_; rintro e w' ⟨rfl, hw'⟩; subst w')
    | (go_at_call 74; refine (XB.out _).mono ?_; rintro e w' ⟨rfl, hw'⟩; subst w')
    | fail)
   all_goals go_ret
   all_goals exact ⟨by first | rfl | (simp [*]; done) | (simp; omega), bq⟩
  ·skip
   by_cases k14 : n = 14
   ·subst k14
    rw [if_pos (show ((14 : Nat) : Int) = 14 from rfl)]
    generalize strOfNums t = s at *
    go_enter Tryd.func53, Tryd.ntmps53
    go_wp2_with (first
     | (go_at_call 73; refine (XN.out _).mono ?_; rintro e w' ⟨rfl, hw'⟩; subst w')
     | (go_at_call 74; refine (XB.out _).mono ?_; rintro e w' ⟨rfl, hw'⟩; subst w')
     | fail)
    all_goals go_ret
    all_goals exact ⟨by first | rfl | (simp [*]; done) | (simp; omega), bq⟩
   by_cases k23 : n = 23
   ·subst k23
    rw [if_neg (by decide), if_pos (show ((23 : Nat) : Int) = 23 from rfl)]
    generalize binP t = bb at *
    generalize strOfNums t = s at *
    go_enter Tryd.func53, Tryd.ntmps53
    go_wp2_with (first
     | (go_at_call 73; refine (XN.out _).mono ?_; rintro e w' ⟨rfl, hw'⟩; subst w')
     | (go_at_call 74; refine (XB.out _).mono ?_; rintro e w' ⟨rfl, hw'⟩; subst w')
     | fail)
    all_goals go_ret
    all_goals exact ⟨by first | rfl | (simp [*]; done) | (simp; omega), bq⟩
   by_cases k12 : n = 12
   ·subst k12
    rw [if_neg (by decide), if_neg (by decide), if_pos (.inl rfl)]
    have hs9 := HS12.out (.inl rfl)
    have hN1 : 1 ≤ N := by omega
    generalize strOfNums t = s at *
    go_enter Tryd.func53, Tryd.ntmps53
    go_wp2_with (first
     | (go_at_call 73; refine (XN.out _).mono ?_; rintro e w' ⟨rfl, hw'⟩; subst w')
     | (go_at_call 74; refine (XB.out _).mono ?_; rintro e w' ⟨rfl, hw'⟩; subst w')
     | fail)
    all_goals go_ret
    all_goals exact ⟨by first | rfl | (simp [*]; done) | (simp; omega), bq⟩
   by_cases k31 : n = 31
   ·subst k31
    rw [if_neg (by decide), if_neg (by decide), if_pos (.inr rfl)]
    have hs9 := HS12.out (.inr rfl)
    have hN1 : 1 ≤ N := by omega
    generalize strOfNums t = s at *
    go_enter Tryd.func53, Tryd.ntmps53
    go_wp2_with (first
     | (go_at_call 73; refine (XN.out _).mono ?_; rintro e w' ⟨rfl, hw'⟩; subst w')
     | (go_at_call 74; refine (XB.out _).mono ?_; rintro e w' ⟨rfl, hw'⟩; subst w')
     | fail)
    all_goals go_ret
    all_goals exact ⟨by first | rfl | (simp [*]; done) | (simp; omega), bq⟩
   rw [if_neg (by omega), if_neg (by omega), if_neg (by omega)]
   generalize strOfNums t = s at *
   go_enter Tryd.func53, Tryd.ntmps53
   go_wp2_with (first
    | (go_at_call 73; refine (XN.out _).mono ?_; rintro e w' ⟨rfl, hw'⟩; subst w')
    | (go_at_call 74; refine (XB.out _).mono ?_; rintro e w' ⟨rfl, hw'⟩; subst w')
    | fail)
   all_goals go_ret
   all_goals exact ⟨by first | rfl | (simp [*]; done) | (simp; omega), bq⟩

def unV (u : ANode × Int) : List Value := [.int .i64 u.1.1, .int .i64 u.1.2.1, .string (strOfNums u.1.2.2.1), .int .i64 u.1.2.2.2.1, .int .i64 u.1.2.2.2.2, .int .i64 u.2]

set_option maxRecDepth 100000 in
set_option maxHeartbeats 8000000 in
theorem step_any (n : ANode) (c : Nat) (g o : Nat) (w : World) (hc : (c : Int) < n.2.1) (hc2 : c ≤ 100000) (h4 : n.1 = 4 → n.2.1 ≤ 2) (h5 : n.1 = 5 ∨ n.1 = 6 → n.2.1 ≤ 3) (hg : g < w.heap.size)
  (c0 : w.cell? ⟨g, o, none⟩ = some (.int .i64 n.1)) (c3 : w.cell? ⟨g, o + 3, none⟩ = some (.int .i64 n.2.2.2.1)) (c5 : w.cell? ⟨g, o + 5, none⟩ = some (.int .i64 (c : Int))) (f5 : w.frozen? ⟨g, o + 5, none⟩ = false) :
  Calls Tryd.prog 56 #[.pointer (some ⟨g, o, none⟩)] w fun e w' => e = .returned (.int .i64 (stP n (c : Int))) ∧ w' = w.setCell ⟨g, o + 5, none⟩ (.int .i64 ((c : Int) + 1)) := by
 have x20 : ∀ w, (Instr.index 134 (.agg #[.int .i64 8, .int .i64 3]) (.int .i64 0)).run Tryd.prog w = .ok (.int .i64 8) w := fun _ => rfl
 have x21 : ∀ w, (Instr.index 134 (.agg #[.int .i64 8, .int .i64 3]) (.int .i64 1)).run Tryd.prog w = .ok (.int .i64 3) w := fun _ => rfl
 have x30 : ∀ w, (Instr.index 135 (.agg #[.int .i64 3, .int .i64 6, .int .i64 7]) (.int .i64 0)).run Tryd.prog w = .ok (.int .i64 3) w := fun _ => rfl
 have x31 : ∀ w, (Instr.index 135 (.agg #[.int .i64 3, .int .i64 6, .int .i64 7]) (.int .i64 1)).run Tryd.prog w = .ok (.int .i64 6) w := fun _ => rfl
 have x32 : ∀ w, (Instr.index 135 (.agg #[.int .i64 3, .int .i64 6, .int .i64 7]) (.int .i64 2)).run Tryd.prog w = .ok (.int .i64 7) w := fun _ => rfl
 unfold stP
 generalize n.2.1 = N at *
 generalize n.2.2.2.1 = num at *
 generalize n.1 = k at *
 by_cases k1 : k = 1
 ·subst k1
  rw [if_pos (.inl rfl)]
  go_enter Tryd.func56, Tryd.ntmps56
  go_wp2
  all_goals go_ret
  all_goals exact ⟨rfl, rfl⟩
 by_cases k2 : k = 2
 ·subst k2
  rw [if_pos (.inr rfl)]
  go_enter Tryd.func56, Tryd.ntmps56
  go_wp2
  all_goals go_ret
  all_goals exact ⟨rfl, rfl⟩
 by_cases k11 : k = 11
 ·subst k11
  rw [if_neg (by decide), if_pos rfl]
  go_enter Tryd.func56, Tryd.ntmps56
  go_wp2
  all_goals go_ret
  all_goals exact ⟨rfl, rfl⟩
 by_cases k21 : k = 21
 ·subst k21
  rw [if_neg (by decide), if_neg (by decide), if_pos rfl]
  go_enter Tryd.func56, Tryd.ntmps56
  go_wp2
  all_goals go_ret
  all_goals exact ⟨rfl, rfl⟩
 by_cases k4 : k = 4
 ·subst k4
  rw [if_neg (by decide), if_neg (by decide), if_neg (by decide), if_pos rfl]
  have hc9 : c = 0 ∨ c = 1 := by have := h4 rfl; omega
  clear h4 h5 hc hc2
  rcases hc9 with rfl | rfl
  ·rw [if_pos (show ((0 : Nat) : Int) = 0 from rfl)]
   go_enter Tryd.func56, Tryd.ntmps56
   go_wp2
   all_goals go_ret
   all_goals exact ⟨rfl, rfl⟩
  ·rw [if_neg (by decide)]
   go_enter Tryd.func56, Tryd.ntmps56
   go_wp2
   all_goals go_ret
   all_goals exact ⟨rfl, rfl⟩
 by_cases k5 : k = 5
 ·subst k5
  rw [if_neg (by decide), if_neg (by decide), if_neg (by decide), if_neg (by decide), if_pos (.inl rfl)]
  have hc9 : c = 0 ∨ c = 1 ∨ c = 2 := by have := h5 (.inl rfl); omega
  clear h4 h5 hc hc2
  rcases hc9 with rfl | rfl | rfl
  ·rw [if_pos (show ((0 : Nat) : Int) = 0 from rfl)]
   go_enter Tryd.func56, Tryd.ntmps56
   go_wp2
   all_goals go_ret
   all_goals exact ⟨rfl, rfl⟩
  ·rw [if_neg (by decide), if_pos (show ((1 : Nat) : Int) = 1 from rfl)]
   go_enter Tryd.func56, Tryd.ntmps56
   go_wp2
   all_goals go_ret
   all_goals exact ⟨rfl, rfl⟩
  ·rw [if_neg (by decide), if_neg (by decide)]
   go_enter Tryd.func56, Tryd.ntmps56
   go_wp2
   all_goals go_ret
   all_goals exact ⟨rfl, rfl⟩
 by_cases k6 : k = 6
 ·subst k6
  rw [if_neg (by decide), if_neg (by decide), if_neg (by decide), if_neg (by decide), if_pos (.inr rfl)]
  have hc9 : c = 0 ∨ c = 1 ∨ c = 2 := by have := h5 (.inr rfl); omega
  clear h4 h5 hc hc2
  rcases hc9 with rfl | rfl | rfl
  ·rw [if_pos (show ((0 : Nat) : Int) = 0 from rfl)]
   go_enter Tryd.func56, Tryd.ntmps56
   go_wp2
   all_goals go_ret
   all_goals exact ⟨rfl, rfl⟩
  ·rw [if_neg (by decide), if_pos (show ((1 : Nat) : Int) = 1 from rfl)]
   go_enter Tryd.func56, Tryd.ntmps56
   go_wp2
   all_goals go_ret
   all_goals exact ⟨rfl, rfl⟩
  ·rw [if_neg (by decide), if_neg (by decide)]
   go_enter Tryd.func56, Tryd.ntmps56
   go_wp2
   all_goals go_ret
   all_goals exact ⟨rfl, rfl⟩
 by_cases k12 : k = 12
 ·subst k12
  rw [if_neg (by decide), if_neg (by decide), if_neg (by decide), if_neg (by decide), if_neg (by decide), if_pos (.inl rfl)]
  clear h4 h5
  by_cases hcn : (c : Int) < num
  ·rw [if_pos hcn]
   go_enter Tryd.func56, Tryd.ntmps56
   go_wp2
   all_goals go_ret
   all_goals exact ⟨rfl, rfl⟩
  ·rw [if_neg hcn]
   go_enter Tryd.func56, Tryd.ntmps56
   go_wp2
   all_goals go_ret
   all_goals exact ⟨rfl, rfl⟩
 by_cases k31 : k = 31
 ·subst k31
  rw [if_neg (by decide), if_neg (by decide), if_neg (by decide), if_neg (by decide), if_neg (by decide), if_pos (.inr rfl)]
  clear h4 h5
  by_cases hcn : (c : Int) < num
  ·rw [if_pos hcn]
   go_enter Tryd.func56, Tryd.ntmps56
   go_wp2
   all_goals go_ret
   all_goals exact ⟨rfl, rfl⟩
  ·rw [if_neg hcn]
   go_enter Tryd.func56, Tryd.ntmps56
   go_wp2
   all_goals go_ret
   all_goals exact ⟨rfl, rfl⟩
 rw [if_neg (by omega), if_neg (by omega), if_neg (by omega), if_neg (by omega), if_neg (by omega), if_neg (by omega)]
 clear h4 h5
 go_enter Tryd.func56, Tryd.ntmps56
 go_wp2
 all_goals go_ret
 all_goals exact ⟨rfl, rfl⟩

end Go.Proofs.YtdhkcdehedbpcaaDoor

