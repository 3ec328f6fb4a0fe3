/- The document's words and names: the contracts. · The program's letters, digits, words (lex): what stands beside XP. · Names of any length: the program's and the document's. · Strings as lists of bytes, one behind the other. -/
import Derived.Test.YtdhkcdehedbpcaaDoorM2
import Derived.Test.YtdhkcdehedbpcaaDoorM14
set_option linter.unusedSimpArgs false
set_option linter.unusedVariables false
namespace Go.Proofs.YtdhkcdehedbpcaaDoor
open Go Go.RowKit

set_option maxHeartbeats 400000 in
theorem rdigit_any (c : Int) (w : World) :
    Calls Tryd.prog 36 #[.int .u8 c] w fun e w' => e = .returned (.bool (isDg c)) ∧ w' = w := by
  go_enter Tryd.func36, Tryd.ntmps36
  go_wp2
  all_goals go_ret
  all_goals refine ⟨ret_bool ?_, rfl⟩
  all_goals (rw [Bool.eq_iff_iff]; simp_all [isDg]; try omega)

set_option maxHeartbeats 400000 in
theorem rletter_any (c : Int) (w : World) :
    Calls Tryd.prog 35 #[.int .u8 c] w fun e w' => e = .returned (.bool (isLt c)) ∧ w' = w := by
  go_enter Tryd.func35, Tryd.ntmps35
  go_wp2
  all_goals go_ret
  all_goals refine ⟨ret_bool ?_, rfl⟩
  all_goals (rw [Bool.eq_iff_iff]; simp_all [isLt]; try omega)

/-- The words, as values. -/
def wdv : Array Value := (words.map fun s => Value.string (strOfNums s)).toArray

theorem wd_get (i : Nat) (h : i < 18) : ∃ s, words[i]? = some s ∧ wdv[i]? = some (.string (strOfNums s)) ∧ (∀ c ∈ s, 0 ≤ c ∧ c ≤ 255) := by
  have : ∀ i : Fin 18, (∀ c ∈ words.getD i.val [], 0 ≤ c ∧ c ≤ 255) := by decide
  have hi : words[i]? = some (words.getD i []) := by
    rw [List.getD_eq_getElem?_getD, List.getElem?_eq_getElem (by exact h)]; rfl
  refine ⟨_, hi, ?_, this ⟨i, h⟩⟩
  unfold wdv
  rw [List.getElem?_toArray, List.getElem?_map, hi]; rfl

set_option maxHeartbeats 4000000 in
theorem rWord_any (l : List Int) (hb : ∀ c ∈ l, 0 ≤ c ∧ c ≤ 255) (w : World) :
    Calls Tryd.prog 37 #[.string (strOfNums l)] w fun e w' => e = .returned (.bool (isWord l)) ∧ Ly w w' := by
  have HBD := hid hb
  clear hb
  go_enter Tryd.func37, Tryd.ntmps37
  go_wp2
  go_loopw [4] (fun j wr => ∃ i, i ≤ 18 ∧ j = .int .i64 (i : Nat) ∧ wr = w.alloc (.cells wdv 126) ∧ (words.take i).all (fun s => decide (s ≠ l)) = true) (fun j _ => 18 - (intOf j).toNat)
  case atStart => exact ⟨0, Nat.zero_le _, rfl, rfl, by simp⟩
  case round =>
    obtain ⟨i, hi, rfl, hwr, ha⟩ := hrel
    subst wr
    have HA := hid ha
    clear ha
    by_cases hlt : i < 18
    · obtain ⟨s, hs1, hs2, hs5⟩ := wd_get i hlt
      have hlt2 : (i : Int) < 18 := by omega
      have hc : (w.alloc (.cells wdv 126)).cell? ⟨w.heap.size, i, none⟩ = some (.string (strOfNums s)) := by
        rw [World.cell?_alloc_mark]; exact hs2
      have H1 := hid hs1
      by_cases hsl : s = l
      · subst hsl
        have hf : isWord s = true := by
          simp only [isWord, decide_eq_true_eq]
          exact List.mem_of_getElem? H1.out
        have HF := hid hf
        clear hs1 hs2 hs5 hf
        generalize strOfNums s = x at *
        go_wp2
        all_goals go_ret
        all_goals exact ⟨ret_bool HF.out.symm, Ly.alloc (Ly.refl _) _⟩
      · have hne := strOf_ne hs5 HBD.out hsl
        have hs' : (words.take (i + 1)).all (fun s => decide (s ≠ l)) = true := by
          rw [all_take_get _ H1.out, HA.out]; simpa using hsl
        have HS' := hid hs'
        clear hs1 hs2 hs5 hs' hsl
        generalize strOfNums s = x at *
        generalize strOfNums l = y at *
        go_wp2
        go_roundw
        case rel => exact ⟨i + 1, by omega, by go_num, trivial, HS'.out⟩
        case measure => simp [intOf]; omega
    · have hf : isWord l = false := by
        have := HA.out
        rw [List.take_of_length_le (by show words.length ≤ i; have : words.length = 18 := rfl; omega)] at this
        simp only [isWord, decide_eq_false_iff_not]
        intro hmem
        have := List.all_eq_true.1 this l hmem
        simp at this
      have HF := hid hf
      clear hf
      go_wp2
      all_goals go_ret
      all_goals exact ⟨ret_bool HF.out.symm, Ly.alloc (Ly.refl _) _⟩

end Go.Proofs.YtdhkcdehedbpcaaDoor

set_option linter.unusedSimpArgs false
set_option linter.unusedVariables false
namespace Go.Proofs.YtdhkcdehedbpcaaDoor
open Go Go.RowKit

set_option maxRecDepth 100000 in
set_option maxHeartbeats 400000 in
theorem xisDigit_any (c : Int) (w : World) :
    Calls Tryd.prog 87 #[.int .u8 c] w fun e w' => e = .returned (.bool (isDg c)) ∧ w' = w := by
  go_enter Tryd.func87, Tryd.ntmps87
  go_wp2
  all_goals go_ret
  all_goals refine ⟨ret_bool ?_, rfl⟩
  all_goals (rw [Bool.eq_iff_iff]; simp_all [isDg]; try omega)

set_option maxRecDepth 100000 in
set_option maxHeartbeats 400000 in
theorem xisLetter_any (c : Int) (w : World) :
    Calls Tryd.prog 88 #[.int .u8 c] w fun e w' => e = .returned (.bool (isLt c)) ∧ w' = w := by
  go_enter Tryd.func88, Tryd.ntmps88
  go_wp2
  all_goals go_ret
  all_goals refine ⟨ret_bool ?_, rfl⟩
  all_goals (rw [Bool.eq_iff_iff]; simp_all [isLt]; try omega)

theorem ne_word {l : List Int} (hl : ∀ c ∈ l, 0 ≤ c ∧ c ≤ 255) (hw : isWord l = false) (k : List UInt8) (hk : isWord (k.map fun u => (u.toNat : Int)) = true) : ((strOfNums l).toList == k) = false := by
  rw [beq_eq_false_iff_ne]
  intro e
  rw [strOf_toList] at e
  have : l = k.map fun u => (u.toNat : Int) := by
    rw [← e, List.map_map]
    conv => lhs; rw [← List.map_id l]
    refine List.map_congr_left fun c hc => ?_
    have := hl c hc
    simp
    omega
  rw [← this, hw] at hk
  cases hk

theorem word_cases {l : List Int} (h : isWord l = true) : l = [118, 97, 114] ∨ l = [102, 110] ∨ l = [105, 102] ∨ l = [101, 108, 115, 101] ∨ l = [119, 104, 105, 108, 101] ∨ l = [98, 114, 101, 97, 107] ∨ l = [99, 111, 110, 116, 105, 110, 117, 101] ∨ l = [114, 101, 116, 117, 114, 110] ∨ l = [116, 104, 114, 111, 119] ∨ l = [116, 114, 121] ∨ l = [99, 97, 116, 99, 104] ∨ l = [115, 112, 97, 119, 110] ∨ l = [116, 114, 117, 101] ∨ l = [102, 97, 108, 115, 101] ∨ l = [110, 105, 108] ∨ l = [97, 110, 100] ∨ l = [111, 114] ∨ l = [110, 111, 116] := by
  simpa [isWord, words] using h

set_option maxRecDepth 100000 in
set_option maxHeartbeats 4000000 in
theorem xWord_no (l : List Int) (hb : ∀ c ∈ l, 0 ≤ c ∧ c ≤ 255) (hw : isWord l = false) (w : World) :
    Calls Tryd.prog 89 #[.string (strOfNums l)] w fun e w' => e = .returned (.bool false) ∧ w' = w := by
  have k0 : ((strOfNums l).toList == [118, 97, 114]) = false := ne_word hb hw [118, 97, 114] (by decide)
  have k1 : ((strOfNums l).toList == [102, 110]) = false := ne_word hb hw [102, 110] (by decide)
  have k2 : ((strOfNums l).toList == [105, 102]) = false := ne_word hb hw [105, 102] (by decide)
  have k3 : ((strOfNums l).toList == [101, 108, 115, 101]) = false := ne_word hb hw [101, 108, 115, 101] (by decide)
  have k4 : ((strOfNums l).toList == [119, 104, 105, 108, 101]) = false := ne_word hb hw [119, 104, 105, 108, 101] (by decide)
  have k5 : ((strOfNums l).toList == [98, 114, 101, 97, 107]) = false := ne_word hb hw [98, 114, 101, 97, 107] (by decide)
  have k6 : ((strOfNums l).toList == [99, 111, 110, 116, 105, 110, 117, 101]) = false := ne_word hb hw [99, 111, 110, 116, 105, 110, 117, 101] (by decide)
  have k7 : ((strOfNums l).toList == [114, 101, 116, 117, 114, 110]) = false := ne_word hb hw [114, 101, 116, 117, 114, 110] (by decide)
  have k8 : ((strOfNums l).toList == [116, 104, 114, 111, 119]) = false := ne_word hb hw [116, 104, 114, 111, 119] (by decide)
  have k9 : ((strOfNums l).toList == [116, 114, 121]) = false := ne_word hb hw [116, 114, 121] (by decide)
  have k10 : ((strOfNums l).toList == [99, 97, 116, 99, 104]) = false := ne_word hb hw [99, 97, 116, 99, 104] (by decide)
  have k11 : ((strOfNums l).toList == [115, 112, 97, 119, 110]) = false := ne_word hb hw [115, 112, 97, 119, 110] (by decide)
  have k12 : ((strOfNums l).toList == [116, 114, 117, 101]) = false := ne_word hb hw [116, 114, 117, 101] (by decide)
  have k13 : ((strOfNums l).toList == [102, 97, 108, 115, 101]) = false := ne_word hb hw [102, 97, 108, 115, 101] (by decide)
  have k14 : ((strOfNums l).toList == [110, 105, 108]) = false := ne_word hb hw [110, 105, 108] (by decide)
  have k15 : ((strOfNums l).toList == [97, 110, 100]) = false := ne_word hb hw [97, 110, 100] (by decide)
  have k16 : ((strOfNums l).toList == [111, 114]) = false := ne_word hb hw [111, 114] (by decide)
  have k17 : ((strOfNums l).toList == [110, 111, 116]) = false := ne_word hb hw [110, 111, 116] (by decide)
  generalize strOfNums l = s at *
  clear hw hb
  go_enter Tryd.func89, Tryd.ntmps89
  go_wp2
  all_goals go_ret
  all_goals exact ⟨rfl, rfl⟩

set_option maxRecDepth 100000 in
set_option maxHeartbeats 4000000 in
theorem xWord_0 (w : World) : Calls Tryd.prog 89 #[.string ⟨#[118, 97, 114]⟩] w fun e w' => e = .returned (.bool true) ∧ w' = w := by
  go_enter Tryd.func89, Tryd.ntmps89
  go_wp2
  all_goals go_ret
  all_goals exact ⟨rfl, rfl⟩

set_option maxRecDepth 100000 in
set_option maxHeartbeats 4000000 in
theorem xWord_1 (w : World) : Calls Tryd.prog 89 #[.string ⟨#[102, 110]⟩] w fun e w' => e = .returned (.bool true) ∧ w' = w := by
  go_enter Tryd.func89, Tryd.ntmps89
  go_wp2
  all_goals go_ret
  all_goals exact ⟨rfl, rfl⟩

set_option maxRecDepth 100000 in
set_option maxHeartbeats 4000000 in
theorem xWord_2 (w : World) : Calls Tryd.prog 89 #[.string ⟨#[105, 102]⟩] w fun e w' => e = .returned (.bool true) ∧ w' = w := by
  go_enter Tryd.func89, Tryd.ntmps89
  go_wp2
  all_goals go_ret
  all_goals exact ⟨rfl, rfl⟩

set_option maxRecDepth 100000 in
set_option maxHeartbeats 4000000 in
theorem xWord_3 (w : World) : Calls Tryd.prog 89 #[.string ⟨#[101, 108, 115, 101]⟩] w fun e w' => e = .returned (.bool true) ∧ w' = w := by
  go_enter Tryd.func89, Tryd.ntmps89
  go_wp2
  all_goals go_ret
  all_goals exact ⟨rfl, rfl⟩

set_option maxRecDepth 100000 in
set_option maxHeartbeats 4000000 in
theorem xWord_4 (w : World) : Calls Tryd.prog 89 #[.string ⟨#[119, 104, 105, 108, 101]⟩] w fun e w' => e = .returned (.bool true) ∧ w' = w := by
  go_enter Tryd.func89, Tryd.ntmps89
  go_wp2
  all_goals go_ret
  all_goals exact ⟨rfl, rfl⟩

set_option maxRecDepth 100000 in
set_option maxHeartbeats 4000000 in
theorem xWord_5 (w : World) : Calls Tryd.prog 89 #[.string ⟨#[98, 114, 101, 97, 107]⟩] w fun e w' => e = .returned (.bool true) ∧ w' = w := by
  go_enter Tryd.func89, Tryd.ntmps89
  go_wp2
  all_goals go_ret
  all_goals exact ⟨rfl, rfl⟩

set_option maxRecDepth 100000 in
set_option maxHeartbeats 4000000 in
theorem xWord_6 (w : World) : Calls Tryd.prog 89 #[.string ⟨#[99, 111, 110, 116, 105, 110, 117, 101]⟩] w fun e w' => e = .returned (.bool true) ∧ w' = w := by
  go_enter Tryd.func89, Tryd.ntmps89
  go_wp2
  all_goals go_ret
  all_goals exact ⟨rfl, rfl⟩

set_option maxRecDepth 100000 in
set_option maxHeartbeats 4000000 in
theorem xWord_7 (w : World) : Calls Tryd.prog 89 #[.string ⟨#[114, 101, 116, 117, 114, 110]⟩] w fun e w' => e = .returned (.bool true) ∧ w' = w := by
  go_enter Tryd.func89, Tryd.ntmps89
  go_wp2
  all_goals go_ret
  all_goals exact ⟨rfl, rfl⟩

set_option maxRecDepth 100000 in
set_option maxHeartbeats 4000000 in
theorem xWord_8 (w : World) : Calls Tryd.prog 89 #[.string ⟨#[116, 104, 114, 111, 119]⟩] w fun e w' => e = .returned (.bool true) ∧ w' = w := by
  go_enter Tryd.func89, Tryd.ntmps89
  go_wp2
  all_goals go_ret
  all_goals exact ⟨rfl, rfl⟩

set_option maxRecDepth 100000 in
set_option maxHeartbeats 4000000 in
theorem xWord_9 (w : World) : Calls Tryd.prog 89 #[.string ⟨#[116, 114, 121]⟩] w fun e w' => e = .returned (.bool true) ∧ w' = w := by
  go_enter Tryd.func89, Tryd.ntmps89
  go_wp2
  all_goals go_ret
  all_goals exact ⟨rfl, rfl⟩

set_option maxRecDepth 100000 in
set_option maxHeartbeats 4000000 in
theorem xWord_10 (w : World) : Calls Tryd.prog 89 #[.string ⟨#[99, 97, 116, 99, 104]⟩] w fun e w' => e = .returned (.bool true) ∧ w' = w := by
  go_enter Tryd.func89, Tryd.ntmps89
  go_wp2
  all_goals go_ret
  all_goals exact ⟨rfl, rfl⟩

set_option maxRecDepth 100000 in
set_option maxHeartbeats 4000000 in
theorem xWord_11 (w : World) : Calls Tryd.prog 89 #[.string ⟨#[115, 112, 97, 119, 110]⟩] w fun e w' => e = .returned (.bool true) ∧ w' = w := by
  go_enter Tryd.func89, Tryd.ntmps89
  go_wp2
  all_goals go_ret
  all_goals exact ⟨rfl, rfl⟩

set_option maxRecDepth 100000 in
set_option maxHeartbeats 4000000 in
theorem xWord_12 (w : World) : Calls Tryd.prog 89 #[.string ⟨#[116, 114, 117, 101]⟩] w fun e w' => e = .returned (.bool true) ∧ w' = w := by
  go_enter Tryd.func89, Tryd.ntmps89
  go_wp2
  all_goals go_ret
  all_goals exact ⟨rfl, rfl⟩

set_option maxRecDepth 100000 in
set_option maxHeartbeats 4000000 in
theorem xWord_13 (w : World) : Calls Tryd.prog 89 #[.string ⟨#[102, 97, 108, 115, 101]⟩] w fun e w' => e = .returned (.bool true) ∧ w' = w := by
  go_enter Tryd.func89, Tryd.ntmps89
  go_wp2
  all_goals go_ret
  all_goals exact ⟨rfl, rfl⟩

set_option maxRecDepth 100000 in
set_option maxHeartbeats 4000000 in
theorem xWord_14 (w : World) : Calls Tryd.prog 89 #[.string ⟨#[110, 105, 108]⟩] w fun e w' => e = .returned (.bool true) ∧ w' = w := by
  go_enter Tryd.func89, Tryd.ntmps89
  go_wp2
  all_goals go_ret
  all_goals exact ⟨rfl, rfl⟩

set_option maxRecDepth 100000 in
set_option maxHeartbeats 4000000 in
theorem xWord_15 (w : World) : Calls Tryd.prog 89 #[.string ⟨#[97, 110, 100]⟩] w fun e w' => e = .returned (.bool true) ∧ w' = w := by
  go_enter Tryd.func89, Tryd.ntmps89
  go_wp2
  all_goals go_ret
  all_goals exact ⟨rfl, rfl⟩

set_option maxRecDepth 100000 in
set_option maxHeartbeats 4000000 in
theorem xWord_16 (w : World) : Calls Tryd.prog 89 #[.string ⟨#[111, 114]⟩] w fun e w' => e = .returned (.bool true) ∧ w' = w := by
  go_enter Tryd.func89, Tryd.ntmps89
  go_wp2
  all_goals go_ret
  all_goals exact ⟨rfl, rfl⟩

set_option maxRecDepth 100000 in
set_option maxHeartbeats 4000000 in
theorem xWord_17 (w : World) : Calls Tryd.prog 89 #[.string ⟨#[110, 111, 116]⟩] w fun e w' => e = .returned (.bool true) ∧ w' = w := by
  go_enter Tryd.func89, Tryd.ntmps89
  go_wp2
  all_goals go_ret
  all_goals exact ⟨rfl, rfl⟩

theorem xWord_any (l : List Int) (hb : ∀ c ∈ l, 0 ≤ c ∧ c ≤ 255) (w : World) :
    Calls Tryd.prog 89 #[.string (strOfNums l)] w fun e w' => e = .returned (.bool (isWord l)) ∧ w' = w := by
  cases hw : isWord l
  · exact xWord_no l hb hw w
  · rcases word_cases hw with rfl | rfl | rfl | rfl | rfl | rfl | rfl | rfl | rfl | rfl | rfl | rfl | rfl | rfl | rfl | rfl | rfl | rfl
    · exact xWord_0 w
    · exact xWord_1 w
    · exact xWord_2 w
    · exact xWord_3 w
    · exact xWord_4 w
    · exact xWord_5 w
    · exact xWord_6 w
    · exact xWord_7 w
    · exact xWord_8 w
    · exact xWord_9 w
    · exact xWord_10 w
    · exact xWord_11 w
    · exact xWord_12 w
    · exact xWord_13 w
    · exact xWord_14 w
    · exact xWord_15 w
    · exact xWord_16 w
    · exact xWord_17 w

end Go.Proofs.YtdhkcdehedbpcaaDoor

set_option linter.unusedSimpArgs false
set_option linter.unusedVariables false
namespace Go.Proofs.YtdhkcdehedbpcaaDoor
open Go Go.RowKit

set_option maxRecDepth 100000 in
set_option maxHeartbeats 4000000 in
theorem xNameB_any (l : List Int) (hb : ∀ c ∈ l, 0 ≤ c ∧ c ≤ 255) (hm : l.length ≤ 9223372036854775807) (w : World) :
    Calls Tryd.prog 73 #[.string (strOfNums l)] w fun e w' => e = .returned (.bool (isName l)) ∧ w' = w := by
  have W1 := hid (xWord_any l hb)
  cases l with
  | nil =>
    go_enter Tryd.func73, Tryd.ntmps73
    rw [show strOfNums [] = ⟨#[]⟩ from rfl]
    go_wp2
    all_goals go_ret
    all_goals exact ⟨rfl, rfl⟩
  | cons c0 t =>
    have hn : ((strOfNums (c0 :: t)).toList == []) = false := by rw [strOf_toList]; simp
    have S := strOf_get hb
    have Z : (strOfNums (c0 :: t)).size = (c0 :: t).length := strOfNums_size _
    have hl : 0 < (c0 :: t).length := by simp
    have e1 : isName (c0 :: t) = (!isDg (nth (c0 :: t) 0) && (c0 :: t).all isNm && !isWord (c0 :: t)) := rfl
    generalize (c0 :: t) = l at *
    generalize strOfNums l = s at *
    have E1 := hid e1
    clear e1 hb
    cases hd : isDg (nth l 0)
    · go_enter Tryd.func73, Tryd.ntmps73
      go_wp2_with (first
        | (go_at_call 87; refine (xisDigit_any _ _).mono ?_; rintro e w' ⟨rfl, hw'⟩; subst w'))
      go_loopw [13] (fun j wr => ∃ k, k ≤ l.length ∧ j = .int .i64 (k : Nat) ∧ wr = w ∧ (l.take k).all isNm = true) (fun j _ => l.length - (intOf j).toNat)
      case atStart => exact ⟨0, Nat.zero_le _, rfl, rfl, by simp⟩
      case round =>
        obtain ⟨k, hk, rfl, hwr, ha⟩ := hrel
        subst wr
        have HA := hid ha
        clear ha
        by_cases hlt : k < l.length
        · have hlt2 : (k : Int) < (l.length : Int) := by omega
          cases h1 : isLt (nth l k) <;> cases h2 : isDg (nth l k)
          · have hf : isName l = false := by rw [E1.out, all_false_of isNm l k hlt (by simp [isNm, h1, h2])]; simp
            have HF := hid hf
            clear hf
            go_wp2_with (first
              | (go_at_call 87; refine (xisDigit_any _ _).mono ?_; rintro e w' ⟨rfl, hw'⟩; subst w')
              | (go_at_call 88; refine (xisLetter_any _ _).mono ?_; rintro e w' ⟨rfl, hw'⟩; subst w'))
            all_goals go_ret
            all_goals exact ⟨ret_bool HF.out.symm, rfl⟩
          all_goals
            have hs : (l.take (k + 1)).all isNm = true := by rw [all_take_succ _ _ _ hlt, HA.out]; simp [isNm, h1, h2]
            have HSS := hid hs
            clear hs
            go_wp2_with (first
              | (go_at_call 87; refine (xisDigit_any _ _).mono ?_; rintro e w' ⟨rfl, hw'⟩; subst w')
              | (go_at_call 88; refine (xisLetter_any _ _).mono ?_; rintro e w' ⟨rfl, hw'⟩; subst w'))
            go_roundw
            case rel => exact ⟨k + 1, by omega, by go_num, trivial, HSS.out⟩
            case measure => simp [intOf]; omega
        · have hfin : isName l = !isWord l := by
            have := HA.out
            rw [List.take_of_length_le (by omega)] at this
            rw [E1.out, this, hd]; simp
          have HF := hid hfin
          clear hfin
          go_wp2_with (first
            | (go_at_call 89; refine (W1.out _).mono ?_; rintro e w' ⟨rfl, hw'⟩; subst w'))
          all_goals go_ret
          all_goals exact ⟨ret_bool HF.out.symm, rfl⟩
    · have : isName l = false := by rw [E1.out, hd]; rfl
      rw [this]
      clear this
      go_enter Tryd.func73, Tryd.ntmps73
      go_wp2_with (first
        | (go_at_call 87; refine (xisDigit_any _ _).mono ?_; rintro e w' ⟨rfl, hw'⟩; subst w'))
      all_goals go_ret
      all_goals exact ⟨rfl, rfl⟩

end Go.Proofs.YtdhkcdehedbpcaaDoor

set_option linter.unusedSimpArgs false
set_option linter.unusedVariables false
namespace Go.Proofs.YtdhkcdehedbpcaaDoor
open Go Go.RowKit

theorem str_cat (a b : List Int) : strOfNums a ++ strOfNums b = strOfNums (a ++ b) := by
  apply str_inj
  simp [strOfNums, ByteArray.toList_eq]

theorem by_str (w : World) (l : List Int) (hb : ∀ c ∈ l, 0 ≤ c ∧ c ≤ 255) (hl : l.length ≤ 1000000) :
    ∃ cap w', (convert 9 22 (.string (strOfNums l))).run Tryd.prog w = .ok (.slice (some ⟨w.heap.size, 0, none⟩) l.length cap) w' ∧ By w' (.slice (some ⟨w.heap.size, 0, none⟩) l.length cap) l ∧ Bw w w' := by
  refine ⟨_, _, by rw [← strOfNums_size l]; exact run_bytes_of_string w 9 22 5 (strOfNums l) under9 under22 under5, ?_, Bw.alloc (Bw.drew (Bw.refl w)) _⟩
  have hge := grownCap_ge w (strOfNums l).size 0 5
  rw [strOfNums_size] at hge
  refine ⟨⟨by simp, _, _, rfl, ⟨by rw [strOfNums_size]; omega, fun h => by cases h⟩, ?_⟩, hb, by omega⟩
  by_cases h0 : l.length = 0
  · exact .inl h0
  · refine .inr ⟨w.heap.size, 0, rfl, by simp, trivial, fun i hi => ?_⟩
    have hi' : i < l.length := by omega
    have hsz : i < (strOfNums l).data.size := by have := strOfNums_size l; show i < (strOfNums l).size; omega
    rw [Nat.zero_add]
    show (w.drew.alloc _).cell? ⟨w.drew.heap.size, i, none⟩ = _
    rw [World.cell?_alloc_mark, bytesRow_at _ _ _ hsz, List.getElem?_map, List.getElem?_eq_getElem hi']
    have := strOf_get hb i (by rw [strOfNums_size]; exact hi')
    rw [nth_eq hi'] at this
    exact congrArg (fun z => some (Value.int .u8 z)) this

end Go.Proofs.YtdhkcdehedbpcaaDoor

