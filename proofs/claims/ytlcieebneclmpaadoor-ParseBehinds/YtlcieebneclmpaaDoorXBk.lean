/- The program's words and names: the contracts. -/
import Derived.Test.YtlcieebneclmpaaDoorK2
set_option linter.unusedSimpArgs false
set_option linter.unusedVariables false
namespace Go.Proofs.YtlcieebneclmpaaDoor
open Go Go.RowKit

theorem strOf_toList (l : List Int) : (strOfNums l).toList = l.map fun n => UInt8.ofNat n.toNat := by
  rw [ByteArray.toList_eq, strOfNums_data]

theorem strOf_inj {l k : List Int} (hl : ∀ c ∈ l, 0 ≤ c ∧ c ≤ 255) (hk : ∀ c ∈ k, 0 ≤ c ∧ c ≤ 255) (h : strOfNums l = strOfNums k) : l = k := by
  have h1 : (l.map fun n => UInt8.ofNat n.toNat) = k.map fun n => UInt8.ofNat n.toNat := by rw [← strOf_toList, ← strOf_toList, h]
  clear h
  induction l generalizing k with
  | nil => cases k with | nil => rfl | cons c t => simp at h1
  | cons c t ih =>
    cases k with
    | nil => simp at h1
    | cons d u =>
      simp only [List.map_cons, List.cons.injEq] at h1
      have hc := hl c (by simp)
      have hd := hk d (by simp)
      have e : c = d := by
        have := congrArg UInt8.toNat h1.1
        simp at this
        omega
      rw [e, ih (fun x hx => hl x (by simp [hx])) (fun x hx => hk x (by simp [hx])) h1.2]

theorem strOf_ne {l k : List Int} (hl : ∀ c ∈ l, 0 ≤ c ∧ c ≤ 255) (hk : ∀ c ∈ k, 0 ≤ c ∧ c ≤ 255) (h : l ≠ k) : ((strOfNums l).toList == (strOfNums k).toList) = false :=
  str_ne (fun e => h (strOf_inj hl hk e))

theorem ne_word {l : List Int} (hl : ∀ c ∈ l, 0 ≤ c ∧ c ≤ 255) (hw : isWord l = false) (k : List UInt8) (hk : isWord (k.map fun u => (u.toNat : Int)) = true) : ((strOfNums l).toList == k) = false := by
  rw [beq_eq_false_iff_ne]
  intro e
  rw [strOf_toList] at e
  have : l = k.map fun u => (u.toNat : Int) := by
    rw [← e, List.map_map]
    conv => lhs; rw [← List.map_id l]
    refine List.map_congr_left fun c hc => ?_
    have := hl c hc
    simp
    omega
  rw [← this, hw] at hk
  cases hk

theorem word_cases {l : List Int} (h : isWord l = true) : l = [118, 97, 114] ∨ l = [102, 110] ∨ l = [105, 102] ∨ l = [101, 108, 115, 101] ∨ l = [119, 104, 105, 108, 101] ∨ l = [98, 114, 101, 97, 107] ∨ l = [99, 111, 110, 116, 105, 110, 117, 101] ∨ l = [114, 101, 116, 117, 114, 110] ∨ l = [116, 104, 114, 111, 119] ∨ l = [116, 114, 121] ∨ l = [99, 97, 116, 99, 104] ∨ l = [115, 112, 97, 119, 110] ∨ l = [116, 114, 117, 101] ∨ l = [102, 97, 108, 115, 101] ∨ l = [110, 105, 108] ∨ l = [97, 110, 100] ∨ l = [111, 114] ∨ l = [110, 111, 116] := by
  simpa [isWord, words] using h

set_option maxRecDepth 100000 in
set_option maxHeartbeats 4000000 in
theorem xWord_no (l : List Int) (hb : ∀ c ∈ l, 0 ≤ c ∧ c ≤ 255) (hw : isWord l = false) (w : World) :
    Calls Tryd.prog 48 #[.string (strOfNums l)] w fun e w' => e = .returned (.bool false) ∧ w' = w := by
  have k0 : ((strOfNums l).toList == [118, 97, 114]) = false := ne_word hb hw [118, 97, 114] (by decide)
  have k1 : ((strOfNums l).toList == [102, 110]) = false := ne_word hb hw [102, 110] (by decide)
  have k2 : ((strOfNums l).toList == [105, 102]) = false := ne_word hb hw [105, 102] (by decide)
  have k3 : ((strOfNums l).toList == [101, 108, 115, 101]) = false := ne_word hb hw [101, 108, 115, 101] (by decide)
  have k4 : ((strOfNums l).toList == [119, 104, 105, 108, 101]) = false := ne_word hb hw [119, 104, 105, 108, 101] (by decide)
  have k5 : ((strOfNums l).toList == [98, 114, 101, 97, 107]) = false := ne_word hb hw [98, 114, 101, 97, 107] (by decide)
  have k6 : ((strOfNums l).toList == [99, 111, 110, 116, 105, 110, 117, 101]) = false := ne_word hb hw [99, 111, 110, 116, 105, 110, 117, 101] (by decide)
  have k7 : ((strOfNums l).toList == [114, 101, 116, 117, 114, 110]) = false := ne_word hb hw [114, 101, 116, 117, 114, 110] (by decide)
  have k8 : ((strOfNums l).toList == [116, 104, 114, 111, 119]) = false := ne_word hb hw [116, 104, 114, 111, 119] (by decide)
  have k9 : ((strOfNums l).toList == [116, 114, 121]) = false := ne_word hb hw [116, 114, 121] (by decide)
  have k10 : ((strOfNums l).toList == [99, 97, 116, 99, 104]) = false := ne_word hb hw [99, 97, 116, 99, 104] (by decide)
  have k11 : ((strOfNums l).toList == [115, 112, 97, 119, 110]) = false := ne_word hb hw [115, 112, 97, 119, 110] (by decide)
  have k12 : ((strOfNums l).toList == [116, 114, 117, 101]) = false := ne_word hb hw [116, 114, 117, 101] (by decide)
  have k13 : ((strOfNums l).toList == [102, 97, 108, 115, 101]) = false := ne_word hb hw [102, 97, 108, 115, 101] (by decide)
  have k14 : ((strOfNums l).toList == [110, 105, 108]) = false := ne_word hb hw [110, 105, 108] (by decide)
  have k15 : ((strOfNums l).toList == [97, 110, 100]) = false := ne_word hb hw [97, 110, 100] (by decide)
  have k16 : ((strOfNums l).toList == [111, 114]) = false := ne_word hb hw [111, 114] (by decide)
  have k17 : ((strOfNums l).toList == [110, 111, 116]) = false := ne_word hb hw [110, 111, 116] (by decide)
  generalize strOfNums l = s at *
  clear hw hb
  go_enter Tryd.func48, Tryd.ntmps48
  go_wp2
  all_goals go_ret
  all_goals exact ⟨rfl, rfl⟩

set_option maxRecDepth 100000 in
set_option maxHeartbeats 4000000 in
theorem xWord_0 (w : World) : Calls Tryd.prog 48 #[.string ⟨#[118, 97, 114]⟩] w fun e w' => e = .returned (.bool true) ∧ w' = w := by
  go_enter Tryd.func48, Tryd.ntmps48
  go_wp2
  all_goals go_ret
  all_goals exact ⟨rfl, rfl⟩

set_option maxRecDepth 100000 in
set_option maxHeartbeats 4000000 in
theorem xWord_1 (w : World) : Calls Tryd.prog 48 #[.string ⟨#[102, 110]⟩] w fun e w' => e = .returned (.bool true) ∧ w' = w := by
  go_enter Tryd.func48, Tryd.ntmps48
  go_wp2
  all_goals go_ret
  all_goals exact ⟨rfl, rfl⟩

set_option maxRecDepth 100000 in
set_option maxHeartbeats 4000000 in
theorem xWord_2 (w : World) : Calls Tryd.prog 48 #[.string ⟨#[105, 102]⟩] w fun e w' => e = .returned (.bool true) ∧ w' = w := by
  go_enter Tryd.func48, Tryd.ntmps48
  go_wp2
  all_goals go_ret
  all_goals exact ⟨rfl, rfl⟩

set_option maxRecDepth 100000 in
set_option maxHeartbeats 4000000 in
theorem xWord_3 (w : World) : Calls Tryd.prog 48 #[.string ⟨#[101, 108, 115, 101]⟩] w fun e w' => e = .returned (.bool true) ∧ w' = w := by
  go_enter Tryd.func48, Tryd.ntmps48
  go_wp2
  all_goals go_ret
  all_goals exact ⟨rfl, rfl⟩

set_option maxRecDepth 100000 in
set_option maxHeartbeats 4000000 in
theorem xWord_4 (w : World) : Calls Tryd.prog 48 #[.string ⟨#[119, 104, 105, 108, 101]⟩] w fun e w' => e = .returned (.bool true) ∧ w' = w := by
  go_enter Tryd.func48, Tryd.ntmps48
  go_wp2
  all_goals go_ret
  all_goals exact ⟨rfl, rfl⟩

set_option maxRecDepth 100000 in
set_option maxHeartbeats 4000000 in
theorem xWord_5 (w : World) : Calls Tryd.prog 48 #[.string ⟨#[98, 114, 101, 97, 107]⟩] w fun e w' => e = .returned (.bool true) ∧ w' = w := by
  go_enter Tryd.func48, Tryd.ntmps48
  go_wp2
  all_goals go_ret
  all_goals exact ⟨rfl, rfl⟩

set_option maxRecDepth 100000 in
set_option maxHeartbeats 4000000 in
theorem xWord_6 (w : World) : Calls Tryd.prog 48 #[.string ⟨#[99, 111, 110, 116, 105, 110, 117, 101]⟩] w fun e w' => e = .returned (.bool true) ∧ w' = w := by
  go_enter Tryd.func48, Tryd.ntmps48
  go_wp2
  all_goals go_ret
  all_goals exact ⟨rfl, rfl⟩

set_option maxRecDepth 100000 in
set_option maxHeartbeats 4000000 in
theorem xWord_7 (w : World) : Calls Tryd.prog 48 #[.string ⟨#[114, 101, 116, 117, 114, 110]⟩] w fun e w' => e = .returned (.bool true) ∧ w' = w := by
  go_enter Tryd.func48, Tryd.ntmps48
  go_wp2
  all_goals go_ret
  all_goals exact ⟨rfl, rfl⟩

set_option maxRecDepth 100000 in
set_option maxHeartbeats 4000000 in
theorem xWord_8 (w : World) : Calls Tryd.prog 48 #[.string ⟨#[116, 104, 114, 111, 119]⟩] w fun e w' => e = .returned (.bool true) ∧ w' = w := by
  go_enter Tryd.func48, Tryd.ntmps48
  go_wp2
  all_goals go_ret
  all_goals exact ⟨rfl, rfl⟩

set_option maxRecDepth 100000 in
set_option maxHeartbeats 4000000 in
theorem xWord_9 (w : World) : Calls Tryd.prog 48 #[.string ⟨#[116, 114, 121]⟩] w fun e w' => e = .returned (.bool true) ∧ w' = w := by
  go_enter Tryd.func48, Tryd.ntmps48
  go_wp2
  all_goals go_ret
  all_goals exact ⟨rfl, rfl⟩

set_option maxRecDepth 100000 in
set_option maxHeartbeats 4000000 in
theorem xWord_10 (w : World) : Calls Tryd.prog 48 #[.string ⟨#[99, 97, 116, 99, 104]⟩] w fun e w' => e = .returned (.bool true) ∧ w' = w := by
  go_enter Tryd.func48, Tryd.ntmps48
  go_wp2
  all_goals go_ret
  all_goals exact ⟨rfl, rfl⟩

set_option maxRecDepth 100000 in
set_option maxHeartbeats 4000000 in
theorem xWord_11 (w : World) : Calls Tryd.prog 48 #[.string ⟨#[115, 112, 97, 119, 110]⟩] w fun e w' => e = .returned (.bool true) ∧ w' = w := by
  go_enter Tryd.func48, Tryd.ntmps48
  go_wp2
  all_goals go_ret
  all_goals exact ⟨rfl, rfl⟩

set_option maxRecDepth 100000 in
set_option maxHeartbeats 4000000 in
theorem xWord_12 (w : World) : Calls Tryd.prog 48 #[.string ⟨#[116, 114, 117, 101]⟩] w fun e w' => e = .returned (.bool true) ∧ w' = w := by
  go_enter Tryd.func48, Tryd.ntmps48
  go_wp2
  all_goals go_ret
  all_goals exact ⟨rfl, rfl⟩

set_option maxRecDepth 100000 in
set_option maxHeartbeats 4000000 in
theorem xWord_13 (w : World) : Calls Tryd.prog 48 #[.string ⟨#[102, 97, 108, 115, 101]⟩] w fun e w' => e = .returned (.bool true) ∧ w' = w := by
  go_enter Tryd.func48, Tryd.ntmps48
  go_wp2
  all_goals go_ret
  all_goals exact ⟨rfl, rfl⟩

set_option maxRecDepth 100000 in
set_option maxHeartbeats 4000000 in
theorem xWord_14 (w : World) : Calls Tryd.prog 48 #[.string ⟨#[110, 105, 108]⟩] w fun e w' => e = .returned (.bool true) ∧ w' = w := by
  go_enter Tryd.func48, Tryd.ntmps48
  go_wp2
  all_goals go_ret
  all_goals exact ⟨rfl, rfl⟩

set_option maxRecDepth 100000 in
set_option maxHeartbeats 4000000 in
theorem xWord_15 (w : World) : Calls Tryd.prog 48 #[.string ⟨#[97, 110, 100]⟩] w fun e w' => e = .returned (.bool true) ∧ w' = w := by
  go_enter Tryd.func48, Tryd.ntmps48
  go_wp2
  all_goals go_ret
  all_goals exact ⟨rfl, rfl⟩

set_option maxRecDepth 100000 in
set_option maxHeartbeats 4000000 in
theorem xWord_16 (w : World) : Calls Tryd.prog 48 #[.string ⟨#[111, 114]⟩] w fun e w' => e = .returned (.bool true) ∧ w' = w := by
  go_enter Tryd.func48, Tryd.ntmps48
  go_wp2
  all_goals go_ret
  all_goals exact ⟨rfl, rfl⟩

set_option maxRecDepth 100000 in
set_option maxHeartbeats 4000000 in
theorem xWord_17 (w : World) : Calls Tryd.prog 48 #[.string ⟨#[110, 111, 116]⟩] w fun e w' => e = .returned (.bool true) ∧ w' = w := by
  go_enter Tryd.func48, Tryd.ntmps48
  go_wp2
  all_goals go_ret
  all_goals exact ⟨rfl, rfl⟩

theorem xWord_any (l : List Int) (hb : ∀ c ∈ l, 0 ≤ c ∧ c ≤ 255) (w : World) :
    Calls Tryd.prog 48 #[.string (strOfNums l)] w fun e w' => e = .returned (.bool (isWord l)) ∧ w' = w := by
  cases hw : isWord l
  · exact xWord_no l hb hw w
  · rcases word_cases hw with rfl | rfl | rfl | rfl | rfl | rfl | rfl | rfl | rfl | rfl | rfl | rfl | rfl | rfl | rfl | rfl | rfl | rfl
    · exact xWord_0 w
    · exact xWord_1 w
    · exact xWord_2 w
    · exact xWord_3 w
    · exact xWord_4 w
    · exact xWord_5 w
    · exact xWord_6 w
    · exact xWord_7 w
    · exact xWord_8 w
    · exact xWord_9 w
    · exact xWord_10 w
    · exact xWord_11 w
    · exact xWord_12 w
    · exact xWord_13 w
    · exact xWord_14 w
    · exact xWord_15 w
    · exact xWord_16 w
    · exact xWord_17 w

end Go.Proofs.YtlcieebneclmpaaDoor

