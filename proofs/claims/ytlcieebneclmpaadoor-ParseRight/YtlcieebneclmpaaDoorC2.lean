/- fits, isBinary, wellMade, step, checkEnd: contracts. · Names of any length: the program's and the document's. · wellMade, step: contracts. -/
import Derived.Test.YtlcieebneclmpaaDoorC1
import Derived.Test.YtlcieebneclmpaaDoorK6
import Derived.Test.YtlcieebneclmpaaDoorRAk
import Derived.Test.YtlcieebneclmpaaDoorK8
set_option linter.unusedSimpArgs false
set_option linter.unusedVariables false
namespace Go.Proofs.YtlcieebneclmpaaDoor
open Go Go.RowKit

/-- The table of kinds in memory. -/
structure Sh (w : World) : Prop where
  lt : 0 < w.heap.size
  c0 : ∀ k, k < 33 → w.cell? ⟨0, k * 4, none⟩ = some (.int .i64 (shpA k).1)
  c1 : ∀ k, k < 33 → w.cell? ⟨0, k * 4 + 1, none⟩ = some (.int .i64 (shpA k).2.1)
  c2 : ∀ k, k < 33 → w.cell? ⟨0, k * 4 + 2, none⟩ = some (.int .i64 (shpA k).2.2.1)
  c3 : ∀ k, k < 33 → w.cell? ⟨0, k * 4 + 3, none⟩ = some (.int .i64 (shpA k).2.2.2)

theorem Sh.bw {w w' : World} (h : Sh w) (hb : Bw w w') : Sh w' := by
  have e : ∀ j, w'.cell? ⟨0, j, none⟩ = w.cell? ⟨0, j, none⟩ := fun j => World.cell?_of_block (a := ⟨0, j, none⟩) (hb.block _ h.lt)
  exact ⟨Nat.lt_of_lt_of_le h.lt hb.size, fun k hk => (e _).trans (h.c0 k hk), fun k hk => (e _).trans (h.c1 k hk), fun k hk => (e _).trans (h.c2 k hk), fun k hk => (e _).trans (h.c3 k hk)⟩

set_option maxRecDepth 100000 in
set_option maxHeartbeats 4000000 in
theorem fits_any (k a : Int) (w : World) (hh : Sh w) :
    Calls Tryd.prog 18 #[.int .i64 k, .int .i64 a] w fun e w' => e = .returned (.bool (ftP k a)) ∧ w' = w := by
  by_cases h1 : k ≤ 0
  · have e : ftP k a = false := by unfold ftP; rw [if_pos (.inl h1)]
    rw [e]
    clear e hh
    go_enter Tryd.func18, Tryd.ntmps18
    go_wp2
    all_goals go_ret
    all_goals exact ⟨rfl, rfl⟩
  · by_cases h2 : 33 ≤ k
    · have e : ftP k a = false := by unfold ftP; rw [if_pos (.inr h2)]
      rw [e]
      clear e hh
      go_enter Tryd.func18, Tryd.ntmps18
      go_wp2
      all_goals go_ret
      all_goals exact ⟨rfl, rfl⟩
    · obtain ⟨n, rfl⟩ : ∃ n : Nat, k = (n : Int) := ⟨k.toNat, by omega⟩
      have c0 := hh.c0 n (by omega)
      have gl := hh.lt
      have i1 : (0 : Int) ≤ (n : Int) := by omega
      have i2 : (n : Int) < 33 := by omega
      have e : ftP (n : Int) a = if a = 5 then (n : Int) == 19 else if a = 6 then (n : Int) == 2 else if a = 7 then (n : Int) == 2 || (n : Int) == 5 else if a = 8 then (n : Int) == 19 || (n : Int) == 29 || (n : Int) == 30 else (shpA n).1 == a := by
        unfold ftP
        rw [if_neg (by omega)]
      rw [e]
      have d1 : ¬ n = 0 := by omega
      have d2 : decide ((33 : Int) ≤ (n : Int)) = false := decide_eq_false (by omega)
      clear e hh h1 h2
      generalize (shpA n).1 = s at *
      by_cases h5 : a = 5
      · subst h5
        go_enter Tryd.func18, Tryd.ntmps18
        go_wp2
        all_goals go_ret
        all_goals exact ⟨rfl, rfl⟩
      by_cases h6 : a = 6
      · subst h6
        go_enter Tryd.func18, Tryd.ntmps18
        go_wp2
        all_goals go_ret
        all_goals exact ⟨rfl, rfl⟩
      by_cases h7 : a = 7
      · subst h7
        go_enter Tryd.func18, Tryd.ntmps18
        go_wp2
        all_goals go_ret
        all_goals exact ⟨by simp [*], rfl⟩
      by_cases h8 : a = 8
      · subst h8
        go_enter Tryd.func18, Tryd.ntmps18
        go_wp2
        all_goals go_ret
        all_goals exact ⟨by simp [*], rfl⟩
      · rw [if_neg h5, if_neg h6, if_neg h7, if_neg h8]
        go_enter Tryd.func18, Tryd.ntmps18
        go_wp2
        all_goals go_ret
        all_goals exact ⟨rfl, rfl⟩

set_option maxRecDepth 100000 in
set_option maxHeartbeats 4000000 in
theorem isBinary_any (t : List Int) (w : World) :
    Calls Tryd.prog 33 #[.string (strOfNums t)] w fun e w' => e = .returned (.bool (binP t)) ∧ w' = w := by
  have q : ∀ l : List Int, ∀ u : List UInt8, (strOfNums l).toList = u → decide (strOfNums t = strOfNums l) = ((strOfNums t).toList == u) := by
    intro l u hu
    by_cases h : strOfNums t = strOfNums l
    · rw [decide_eq_true h, h, hu]; simp
    · rw [decide_eq_false h]
      symm
      rw [beq_eq_false_iff_ne]
      exact fun k => h (str_inj (k.trans hu.symm))
  have e : binP t = (((strOfNums t).toList == [43]) || ((strOfNums t).toList == [45]) || ((strOfNums t).toList == [42]) || ((strOfNums t).toList == [47]) || ((strOfNums t).toList == [37]) || ((strOfNums t).toList == [61, 61]) || ((strOfNums t).toList == [33, 61]) || ((strOfNums t).toList == [60]) || ((strOfNums t).toList == [60, 61]) || ((strOfNums t).toList == [62]) || ((strOfNums t).toList == [62, 61])) := by
    unfold binP
    simp only [List.any_cons, List.any_nil, Bool.or_false, Bool.or_assoc]
    rw [q [43] [43] (by rw [ByteArray.toList_eq]; rfl), q [45] [45] (by rw [ByteArray.toList_eq]; rfl), q [42] [42] (by rw [ByteArray.toList_eq]; rfl), q [47] [47] (by rw [ByteArray.toList_eq]; rfl), q [37] [37] (by rw [ByteArray.toList_eq]; rfl), q [61, 61] [61, 61] (by rw [ByteArray.toList_eq]; rfl), q [33, 61] [33, 61] (by rw [ByteArray.toList_eq]; rfl), q [60] [60] (by rw [ByteArray.toList_eq]; rfl), q [60, 61] [60, 61] (by rw [ByteArray.toList_eq]; rfl), q [62] [62] (by rw [ByteArray.toList_eq]; rfl), q [62, 61] [62, 61] (by rw [ByteArray.toList_eq]; rfl)]
  rw [e]
  clear e q
  generalize strOfNums t = s
  go_enter Tryd.func33, Tryd.ntmps33
  go_wp2
  all_goals go_ret
  all_goals exact ⟨by first | (simp [*]; done) | simp_all, by first | rfl | simp_all⟩

set_option maxRecDepth 100000 in
set_option maxHeartbeats 4000000 in
theorem checkEnd_any (a : Option Addr) (n cap : Nat) (e : Nat) (he : e ≤ 10000) (w : World) :
    Calls Tryd.prog 21 #[.slice a n cap, .int .i64 (e : Int)] w fun r w' => r = .returned (.tuple #[.int .i64 (if e < n then (e : Int) else 0), .int .i64 (if e < n then 6 else 0)]) ∧ w' = w := by
  by_cases h : e < n
  · have h' : (e : Int) < (n : Int) := by omega
    rw [if_pos h, if_pos h]
    go_enter Tryd.func21, Tryd.ntmps21
    go_wp2
    all_goals go_ret2
    all_goals exact ⟨rfl, rfl⟩
  · have h' : ¬ (e : Int) < (n : Int) := by omega
    rw [if_neg h, if_neg h]
    go_enter Tryd.func21, Tryd.ntmps21
    go_wp2
    all_goals go_ret2
    all_goals exact ⟨rfl, rfl⟩

end Go.Proofs.YtlcieebneclmpaaDoor

set_option linter.unusedSimpArgs false
set_option linter.unusedVariables false
namespace Go.Proofs.YtlcieebneclmpaaDoor
open Go Go.RowKit

set_option maxRecDepth 100000 in
set_option maxHeartbeats 4000000 in
theorem xNameB_any (l : List Int) (hb : ∀ c ∈ l, 0 ≤ c ∧ c ≤ 255) (hm : l.length ≤ 9223372036854775807) (w : World) :
    Calls Tryd.prog 32 #[.string (strOfNums l)] w fun e w' => e = .returned (.bool (isName l)) ∧ w' = w := by
  have W1 := hid (xWord_any l hb)
  cases l with
  | nil =>
    go_enter Tryd.func32, Tryd.ntmps32
    rw [show strOfNums [] = ⟨#[]⟩ from rfl]
    go_wp2
    all_goals go_ret
    all_goals exact ⟨rfl, rfl⟩
  | cons c0 t =>
    have hn : ((strOfNums (c0 :: t)).toList == []) = false := by rw [strOf_toList]; simp
    have S := strOf_get hb
    have Z : (strOfNums (c0 :: t)).size = (c0 :: t).length := strOfNums_size _
    have hl : 0 < (c0 :: t).length := by simp
    have e1 : isName (c0 :: t) = (!isDg (nth (c0 :: t) 0) && (c0 :: t).all isNm && !isWord (c0 :: t)) := rfl
    generalize (c0 :: t) = l at *
    generalize strOfNums l = s at *
    have E1 := hid e1
    clear e1 hb
    cases hd : isDg (nth l 0)
    · go_enter Tryd.func32, Tryd.ntmps32
      go_wp2_with (first
        | (go_at_call 46; refine (xisDigit_any _ _).mono ?_; rintro e w' ⟨rfl, hw'⟩; subst w'))
      go_loopw [13] (fun j wr => ∃ k, k ≤ l.length ∧ j = .int .i64 (k : Nat) ∧ wr = w ∧ (l.take k).all isNm = true) (fun j _ => l.length - (intOf j).toNat)
      case atStart => exact ⟨0, Nat.zero_le _, rfl, rfl, by simp⟩
      case round =>
        obtain ⟨k, hk, rfl, hwr, ha⟩ := hrel
        subst wr
        have HA := hid ha
        clear ha
        by_cases hlt : k < l.length
        · have hlt2 : (k : Int) < (l.length : Int) := by omega
          cases h1 : isLt (nth l k) <;> cases h2 : isDg (nth l k)
          · have hf : isName l = false := by rw [E1.out, all_false_of isNm l k hlt (by simp [isNm, h1, h2])]; simp
            have HF := hid hf
            clear hf
            go_wp2_with (first
              | (go_at_call 46; refine (xisDigit_any _ _).mono ?_; rintro e w' ⟨rfl, hw'⟩; subst w')
              | (go_at_call 47; refine (xisLetter_any _ _).mono ?_; rintro e w' ⟨rfl, hw'⟩; subst w'))
            all_goals go_ret
            all_goals exact ⟨ret_bool HF.out.symm, rfl⟩
          all_goals
            have hs : (l.take (k + 1)).all isNm = true := by rw [all_take_succ _ _ _ hlt, HA.out]; simp [isNm, h1, h2]
            have HSS := hid hs
            clear hs
            go_wp2_with (first
              | (go_at_call 46; refine (xisDigit_any _ _).mono ?_; rintro e w' ⟨rfl, hw'⟩; subst w')
              | (go_at_call 47; refine (xisLetter_any _ _).mono ?_; rintro e w' ⟨rfl, hw'⟩; subst w'))
            go_roundw
            case rel => exact ⟨k + 1, by omega, by go_num, trivial, HSS.out⟩
            case measure => simp [intOf]; omega
        · have hfin : isName l = !isWord l := by
            have := HA.out
            rw [List.take_of_length_le (by omega)] at this
            rw [E1.out, this, hd]; simp
          have HF := hid hfin
          clear hfin
          go_wp2_with (first
            | (go_at_call 48; refine (W1.out _).mono ?_; rintro e w' ⟨rfl, hw'⟩; subst w'))
          all_goals go_ret
          all_goals exact ⟨ret_bool HF.out.symm, rfl⟩
    · have : isName l = false := by rw [E1.out, hd]; rfl
      rw [this]
      clear this
      go_enter Tryd.func32, Tryd.ntmps32
      go_wp2_with (first
        | (go_at_call 46; refine (xisDigit_any _ _).mono ?_; rintro e w' ⟨rfl, hw'⟩; subst w'))
      all_goals go_ret
      all_goals exact ⟨rfl, rfl⟩

set_option maxHeartbeats 4000000 in
theorem rNameB_any (l : List Int) (hb : ∀ c ∈ l, 0 ≤ c ∧ c ≤ 255) (hm : l.length ≤ 9223372036854775807) (w : World) :
    Calls Tryd.prog 17 #[.string (strOfNums l)] w fun e w' => e = .returned (.bool (isName l)) ∧ Ly w w' := by
  have W1 := hid (rWord_any l hb)
  cases l with
  | nil =>
    go_enter Tryd.func17, Tryd.ntmps17
    rw [show strOfNums [] = ⟨#[]⟩ from rfl]
    go_wp2
    all_goals go_ret
    all_goals exact ⟨rfl, Ly.refl _⟩
  | cons c0 t =>
    have S := strOf_get hb
    have Z : (strOfNums (c0 :: t)).size = (c0 :: t).length := strOfNums_size _
    have hl : 0 < (c0 :: t).length := by simp
    have hl0 : (((c0 :: t).length : Int) == 0) = false := by simp; omega
    have e1 : isName (c0 :: t) = (!isDg (nth (c0 :: t) 0) && (c0 :: t).all isNm && !isWord (c0 :: t)) := rfl
    generalize (c0 :: t) = l at *
    generalize strOfNums l = s at *
    have E1 := hid e1
    clear e1 hb
    cases hd : isDg (nth l 0)
    · cases hw : isWord l
      · rw [hw] at W1
        go_enter Tryd.func17, Tryd.ntmps17
        go_wp2_with (first
          | (go_at_call 29; refine (rdigit_any _ _).mono ?_; rintro e w' ⟨rfl, hw'⟩; subst w')
          | (go_at_call 30; refine (W1.out _).mono ?_; rintro e w' ⟨rfl, os, n, rfl⟩))
        go_loopw [3] (fun j wr => ∃ k, k ≤ l.length ∧ j = .int .i64 (k : Nat) ∧ wr = lay w os n ∧ (l.take k).all isNm = true) (fun j _ => l.length - (intOf j).toNat)
        case atStart => exact ⟨0, Nat.zero_le _, rfl, rfl, by simp⟩
        case round =>
          obtain ⟨k, hk, rfl, hwr, ha⟩ := hrel
          subst wr
          have HA := hid ha
          clear ha
          by_cases hlt : k < l.length
          · have hlt2 : (k : Int) < (l.length : Int) := by omega
            cases h1 : isLt (nth l k) <;> cases h2 : isDg (nth l k)
            · have hf : isName l = false := by rw [E1.out, all_false_of isNm l k hlt (by simp [isNm, h1, h2])]; simp
              have HF := hid hf
              clear hf
              go_wp2_with (first
                | (go_at_call 29; refine (rdigit_any _ _).mono ?_; rintro e w' ⟨rfl, hw'⟩; subst w')
                | (go_at_call 31; refine (rletter_any _ _).mono ?_; rintro e w' ⟨rfl, hw'⟩; subst w'))
              all_goals go_ret
              all_goals exact ⟨ret_bool HF.out.symm, Ly.lay (Ly.refl _) _ _⟩
            all_goals
              have hs : (l.take (k + 1)).all isNm = true := by rw [all_take_succ _ _ _ hlt, HA.out]; simp [isNm, h1, h2]
              have HSS := hid hs
              clear hs
              go_wp2_with (first
                | (go_at_call 29; refine (rdigit_any _ _).mono ?_; rintro e w' ⟨rfl, hw'⟩; subst w')
                | (go_at_call 31; refine (rletter_any _ _).mono ?_; rintro e w' ⟨rfl, hw'⟩; subst w'))
              go_roundw
              case rel => exact ⟨k + 1, by omega, by go_num, trivial, HSS.out⟩
              case measure => simp [intOf]; omega
          · have hfin : isName l = true := by
              have := HA.out
              rw [List.take_of_length_le (by omega)] at this
              rw [E1.out, this, hd, hw]; rfl
            have HF := hid hfin
            clear hfin
            go_wp2
            all_goals go_ret
            all_goals exact ⟨ret_bool HF.out.symm, Ly.lay (Ly.refl _) _ _⟩
      · rw [hw] at W1
        have hf : isName l = false := by rw [E1.out, hw]; simp
        rw [hf]
        clear hf
        go_enter Tryd.func17, Tryd.ntmps17
        go_wp2_with (first
          | (go_at_call 29; refine (rdigit_any _ _).mono ?_; rintro e w' ⟨rfl, hw'⟩; subst w')
          | (go_at_call 30; refine (W1.out _).mono ?_; rintro e w' ⟨rfl, os, n, rfl⟩))
        all_goals go_ret
        all_goals exact ⟨rfl, Ly.lay (Ly.refl _) _ _⟩
    · have : isName l = false := by rw [E1.out, hd]; rfl
      rw [this]
      clear this
      go_enter Tryd.func17, Tryd.ntmps17
      go_wp2_with (first
        | (go_at_call 29; refine (rdigit_any _ _).mono ?_; rintro e w' ⟨rfl, hw'⟩; subst w'))
      all_goals go_ret
      all_goals exact ⟨rfl, Ly.refl _⟩

end Go.Proofs.YtlcieebneclmpaaDoor

set_option linter.unusedSimpArgs false
set_option linter.unusedVariables false
namespace Go.Proofs.YtlcieebneclmpaaDoor
open Go Go.RowKit

set_option maxRecDepth 100000 in
set_option maxHeartbeats 8000000 in
theorem wellMade_any (n : Nat) (h1 : 0 < n) (h2 : n < 33) (N num at_ : Int) (t : List Int) (ht : (∀ c ∈ t, 0 ≤ c ∧ c ≤ 255) ∧ t.length ≤ 9223372036854775807) (hN : -9223372036854775808 ≤ N ∧ N ≤ 9223372036854775807) (w : World) (hh : Sh w) :
    Calls Tryd.prog 19 #[.agg #[.int .i64 (n : Int), .int .i64 N, .string (strOfNums t), .int .i64 num, .int .i64 at_]] w fun e w' => e = .returned (.bool (wmP ((n : Int), N, t, num, at_))) ∧ Bw w w' := by
  have c0 := hh.c0 n h2
  have c1 := hh.c1 n h2
  have c2 := hh.c2 n h2
  have c3 := hh.c3 n h2
  have gl := hh.lt
  have i1 : (0 : Int) ≤ (n : Int) := by omega
  have i2 : (n : Int) < 33 := by omega
  have XN := hid (xNameB_any t ht.1 ht.2)
  have XB := hid (isBinary_any t)
  have hs1 : 0 ≤ (shpA n).2.1 := by
    unfold shpA
    have : ∀ i, i < 33 → 0 ≤ (shpT.getD i (0, 0, 0, 0)).2.1 := by decide
    exact this _ (by omega)
  have hs12 : ((n : Int) = 12 ∨ (n : Int) = 31) → 1 ≤ (shpA n).2.1 := by
    rintro (h | h)
    · rw [h]; decide
    · rw [h]; decide
  unfold wmP
  dsimp only
  generalize (shpA n).1 = s0 at *
  generalize (shpA n).2.1 = s1 at *
  generalize (shpA n).2.2.1 = s2 at *
  generalize (shpA n).2.2.2 = s3 at *
  have HS12 := hid hs12
  clear hh ht hs12
  by_cases b1 : N < s1
  · rw [if_pos (.inl b1)]
    generalize strOfNums t = s at *
    go_enter Tryd.func19, Tryd.ntmps19
    go_wp2
    all_goals go_ret
    all_goals exact ⟨rfl, (by repeat (first | exact Bw.refl _ | apply Bw.alloc | apply Bw.drewN | apply Bw.drew))⟩
  by_cases b2 : s2 < N
  · rw [if_pos (.inr (.inl b2))]
    generalize strOfNums t = s at *
    go_enter Tryd.func19, Tryd.ntmps19
    go_wp2
    all_goals go_ret
    all_goals exact ⟨rfl, (by repeat (first | exact Bw.refl _ | apply Bw.alloc | apply Bw.drewN | apply Bw.drew))⟩
  have d1 : decide (N < s1) = false := decide_eq_false b1
  have d2 : decide (s2 < N) = false := decide_eq_false b2
  by_cases b3 : s3 = 1 ∧ isName t = false
  · rw [if_pos (.inr (.inr b3))]
    obtain ⟨rfl, b3⟩ := b3
    rw [b3] at XN
    generalize strOfNums t = s at *
    go_enter Tryd.func19, Tryd.ntmps19
    go_wp2_with (first
      | (go_at_call 32; refine (XN.out _).mono ?_; rintro e w' ⟨rfl, hw'⟩; subst w')
      | fail)
    all_goals go_ret
    all_goals exact ⟨rfl, (by repeat (first | exact Bw.refl _ | apply Bw.alloc | apply Bw.drewN | apply Bw.drew))⟩
  · rw [if_neg (by rintro (h | h | h); exact b1 h; exact b2 h; exact b3 h)]
    have b4 : (s3 = 1 ∧ isName t = true) ∨ (s3 == 1) = false := by
      by_cases h : s3 = 1
      · refine .inl ⟨h, ?_⟩
        cases hq : isName t with
        | true => rfl
        | false => exact absurd ⟨h, hq⟩ b3
      · exact .inr (by simpa using h)
    rcases b4 with ⟨rfl, b4⟩ | b4
    · rw [b4] at XN
      by_cases k14 : n = 14
      · subst k14
        rw [if_pos (show ((14 : Nat) : Int) = 14 from rfl)]
        generalize strOfNums t = s at *
        go_enter Tryd.func19, Tryd.ntmps19
        go_wp2_with (first
          | (go_at_call 32; refine (XN.out _).mono ?_; rintro e w' ⟨rfl, hw'⟩; subst w')
          | (go_at_call 33; refine (XB.out _).mono ?_; rintro e w' ⟨rfl, hw'⟩; subst w')
          | fail)
        all_goals go_ret
        all_goals exact ⟨by first | rfl | (simp [*]; done) | (simp; omega), (by repeat (first | exact Bw.refl _ | apply Bw.alloc | apply Bw.drewN | apply Bw.drew))⟩
      by_cases k23 : n = 23
      · subst k23
        rw [if_neg (by decide), if_pos (show ((23 : Nat) : Int) = 23 from rfl)]
        generalize binP t = bb at *
        generalize strOfNums t = s at *
        go_enter Tryd.func19, Tryd.ntmps19
        go_wp2_with (first
          | (go_at_call 32; refine (XN.out _).mono ?_; rintro e w' ⟨rfl, hw'⟩; subst w')
          | (go_at_call 33; refine (XB.out _).mono ?_; rintro e w' ⟨rfl, hw'⟩; subst w')
          | fail)
        all_goals go_ret
        all_goals exact ⟨by first | rfl | (simp [*]; done) | (simp; omega), (by repeat (first | exact Bw.refl _ | apply Bw.alloc | apply Bw.drewN | apply Bw.drew))⟩
      by_cases k12 : n = 12
      · subst k12
        rw [if_neg (by decide), if_neg (by decide), if_pos (.inl rfl)]
        have hs9 := HS12.out (.inl rfl)
        have hN1 : 1 ≤ N := by omega
        generalize strOfNums t = s at *
        go_enter Tryd.func19, Tryd.ntmps19
        go_wp2_with (first
          | (go_at_call 32; refine (XN.out _).mono ?_; rintro e w' ⟨rfl, hw'⟩; subst w')
          | (go_at_call 33; refine (XB.out _).mono ?_; rintro e w' ⟨rfl, hw'⟩; subst w')
          | fail)
        all_goals go_ret
        all_goals exact ⟨by first | rfl | (simp [*]; done) | (simp; omega), (by repeat (first | exact Bw.refl _ | apply Bw.alloc | apply Bw.drewN | apply Bw.drew))⟩
      by_cases k31 : n = 31
      · subst k31
        rw [if_neg (by decide), if_neg (by decide), if_pos (.inr rfl)]
        have hs9 := HS12.out (.inr rfl)
        have hN1 : 1 ≤ N := by omega
        generalize strOfNums t = s at *
        go_enter Tryd.func19, Tryd.ntmps19
        go_wp2_with (first
          | (go_at_call 32; refine (XN.out _).mono ?_; rintro e w' ⟨rfl, hw'⟩; subst w')
          | (go_at_call 33; refine (XB.out _).mono ?_; rintro e w' ⟨rfl, hw'⟩; subst w')
          | fail)
        all_goals go_ret
        all_goals exact ⟨by first | rfl | (simp [*]; done) | (simp; omega), (by repeat (first | exact Bw.refl _ | apply Bw.alloc | apply Bw.drewN | apply Bw.drew))⟩
      rw [if_neg (by omega), if_neg (by omega), if_neg (by omega)]
      generalize strOfNums t = s at *
      go_enter Tryd.func19, Tryd.ntmps19
      go_wp2_with (first
        | (go_at_call 32; refine (XN.out _).mono ?_; rintro e w' ⟨rfl, hw'⟩; subst w')
        | (go_at_call 33; refine (XB.out _).mono ?_; rintro e w' ⟨rfl, hw'⟩; subst w')
        | fail)
      all_goals go_ret
      all_goals exact ⟨by first | rfl | (simp [*]; done) | (simp; omega), (by repeat (first | exact Bw.refl _ | apply Bw.alloc | apply Bw.drewN | apply Bw.drew))⟩
    · skip
      by_cases k14 : n = 14
      · subst k14
        rw [if_pos (show ((14 : Nat) : Int) = 14 from rfl)]
        generalize strOfNums t = s at *
        go_enter Tryd.func19, Tryd.ntmps19
        go_wp2_with (first
          | (go_at_call 32; refine (XN.out _).mono ?_; rintro e w' ⟨rfl, hw'⟩; subst w')
          | (go_at_call 33; refine (XB.out _).mono ?_; rintro e w' ⟨rfl, hw'⟩; subst w')
          | fail)
        all_goals go_ret
        all_goals exact ⟨by first | rfl | (simp [*]; done) | (simp; omega), (by repeat (first | exact Bw.refl _ | apply Bw.alloc | apply Bw.drewN | apply Bw.drew))⟩
      by_cases k23 : n = 23
      · subst k23
        rw [if_neg (by decide), if_pos (show ((23 : Nat) : Int) = 23 from rfl)]
        generalize binP t = bb at *
        generalize strOfNums t = s at *
        go_enter Tryd.func19, Tryd.ntmps19
        go_wp2_with (first
          | (go_at_call 32; refine (XN.out _).mono ?_; rintro e w' ⟨rfl, hw'⟩; subst w')
          | (go_at_call 33; refine (XB.out _).mono ?_; rintro e w' ⟨rfl, hw'⟩; subst w')
          | fail)
        all_goals go_ret
        all_goals exact ⟨by first | rfl | (simp [*]; done) | (simp; omega), (by repeat (first | exact Bw.refl _ | apply Bw.alloc | apply Bw.drewN | apply Bw.drew))⟩
      by_cases k12 : n = 12
      · subst k12
        rw [if_neg (by decide), if_neg (by decide), if_pos (.inl rfl)]
        have hs9 := HS12.out (.inl rfl)
        have hN1 : 1 ≤ N := by omega
        generalize strOfNums t = s at *
        go_enter Tryd.func19, Tryd.ntmps19
        go_wp2_with (first
          | (go_at_call 32; refine (XN.out _).mono ?_; rintro e w' ⟨rfl, hw'⟩; subst w')
          | (go_at_call 33; refine (XB.out _).mono ?_; rintro e w' ⟨rfl, hw'⟩; subst w')
          | fail)
        all_goals go_ret
        all_goals exact ⟨by first | rfl | (simp [*]; done) | (simp; omega), (by repeat (first | exact Bw.refl _ | apply Bw.alloc | apply Bw.drewN | apply Bw.drew))⟩
      by_cases k31 : n = 31
      · subst k31
        rw [if_neg (by decide), if_neg (by decide), if_pos (.inr rfl)]
        have hs9 := HS12.out (.inr rfl)
        have hN1 : 1 ≤ N := by omega
        generalize strOfNums t = s at *
        go_enter Tryd.func19, Tryd.ntmps19
        go_wp2_with (first
          | (go_at_call 32; refine (XN.out _).mono ?_; rintro e w' ⟨rfl, hw'⟩; subst w')
          | (go_at_call 33; refine (XB.out _).mono ?_; rintro e w' ⟨rfl, hw'⟩; subst w')
          | fail)
        all_goals go_ret
        all_goals exact ⟨by first | rfl | (simp [*]; done) | (simp; omega), (by repeat (first | exact Bw.refl _ | apply Bw.alloc | apply Bw.drewN | apply Bw.drew))⟩
      rw [if_neg (by omega), if_neg (by omega), if_neg (by omega)]
      generalize strOfNums t = s at *
      go_enter Tryd.func19, Tryd.ntmps19
      go_wp2_with (first
        | (go_at_call 32; refine (XN.out _).mono ?_; rintro e w' ⟨rfl, hw'⟩; subst w')
        | (go_at_call 33; refine (XB.out _).mono ?_; rintro e w' ⟨rfl, hw'⟩; subst w')
        | fail)
      all_goals go_ret
      all_goals exact ⟨by first | rfl | (simp [*]; done) | (simp; omega), (by repeat (first | exact Bw.refl _ | apply Bw.alloc | apply Bw.drewN | apply Bw.drew))⟩

/-- A node with how many of its parts came, in memory. -/
def unV (u : ANode × Int) : List Value := [.int .i64 u.1.1, .int .i64 u.1.2.1, .string (strOfNums u.1.2.2.1), .int .i64 u.1.2.2.2.1, .int .i64 u.1.2.2.2.2, .int .i64 u.2]

set_option maxRecDepth 100000 in
set_option maxHeartbeats 8000000 in
theorem step_any (n : ANode) (c : Nat) (g o : Nat) (w : World) (hc : (c : Int) < n.2.1) (hc2 : c ≤ 100000) (h4 : n.1 = 4 → n.2.1 ≤ 2) (h5 : n.1 = 5 ∨ n.1 = 6 → n.2.1 ≤ 3) (hg : g < w.heap.size)
    (c0 : w.cell? ⟨g, o, none⟩ = some (.int .i64 n.1)) (c3 : w.cell? ⟨g, o + 3, none⟩ = some (.int .i64 n.2.2.2.1)) (c5 : w.cell? ⟨g, o + 5, none⟩ = some (.int .i64 (c : Int))) (f5 : w.frozen? ⟨g, o + 5, none⟩ = false) :
    Calls Tryd.prog 22 #[.pointer (some ⟨g, o, none⟩)] w fun e w' => e = .returned (.int .i64 (stP n (c : Int))) ∧ w' = w.setCell ⟨g, o + 5, none⟩ (.int .i64 ((c : Int) + 1)) := by
  have x20 : ∀ w, (Instr.index 67 (.agg #[.int .i64 8, .int .i64 3]) (.int .i64 0)).run Tryd.prog w = .ok (.int .i64 8) w := fun _ => rfl
  have x21 : ∀ w, (Instr.index 67 (.agg #[.int .i64 8, .int .i64 3]) (.int .i64 1)).run Tryd.prog w = .ok (.int .i64 3) w := fun _ => rfl
  have x30 : ∀ w, (Instr.index 68 (.agg #[.int .i64 3, .int .i64 6, .int .i64 7]) (.int .i64 0)).run Tryd.prog w = .ok (.int .i64 3) w := fun _ => rfl
  have x31 : ∀ w, (Instr.index 68 (.agg #[.int .i64 3, .int .i64 6, .int .i64 7]) (.int .i64 1)).run Tryd.prog w = .ok (.int .i64 6) w := fun _ => rfl
  have x32 : ∀ w, (Instr.index 68 (.agg #[.int .i64 3, .int .i64 6, .int .i64 7]) (.int .i64 2)).run Tryd.prog w = .ok (.int .i64 7) w := fun _ => rfl
  unfold stP
  generalize n.2.1 = N at *
  generalize n.2.2.2.1 = num at *
  generalize n.1 = k at *
  by_cases k1 : k = 1
  · subst k1
    rw [if_pos (.inl rfl)]
    go_enter Tryd.func22, Tryd.ntmps22
    go_wp2
    all_goals go_ret
    all_goals exact ⟨rfl, rfl⟩
  by_cases k2 : k = 2
  · subst k2
    rw [if_pos (.inr rfl)]
    go_enter Tryd.func22, Tryd.ntmps22
    go_wp2
    all_goals go_ret
    all_goals exact ⟨rfl, rfl⟩
  by_cases k11 : k = 11
  · subst k11
    rw [if_neg (by decide), if_pos rfl]
    go_enter Tryd.func22, Tryd.ntmps22
    go_wp2
    all_goals go_ret
    all_goals exact ⟨rfl, rfl⟩
  by_cases k21 : k = 21
  · subst k21
    rw [if_neg (by decide), if_neg (by decide), if_pos rfl]
    go_enter Tryd.func22, Tryd.ntmps22
    go_wp2
    all_goals go_ret
    all_goals exact ⟨rfl, rfl⟩
  by_cases k4 : k = 4
  · subst k4
    rw [if_neg (by decide), if_neg (by decide), if_neg (by decide), if_pos rfl]
    have hc9 : c = 0 ∨ c = 1 := by have := h4 rfl; omega
    clear h4 h5 hc hc2
    rcases hc9 with rfl | rfl
    · rw [if_pos (show ((0 : Nat) : Int) = 0 from rfl)]
      go_enter Tryd.func22, Tryd.ntmps22
      go_wp2
      all_goals go_ret
      all_goals exact ⟨rfl, rfl⟩
    · rw [if_neg (by decide)]
      go_enter Tryd.func22, Tryd.ntmps22
      go_wp2
      all_goals go_ret
      all_goals exact ⟨rfl, rfl⟩
  by_cases k5 : k = 5
  · subst k5
    rw [if_neg (by decide), if_neg (by decide), if_neg (by decide), if_neg (by decide), if_pos (.inl rfl)]
    have hc9 : c = 0 ∨ c = 1 ∨ c = 2 := by have := h5 (.inl rfl); omega
    clear h4 h5 hc hc2
    rcases hc9 with rfl | rfl | rfl
    · rw [if_pos (show ((0 : Nat) : Int) = 0 from rfl)]
      go_enter Tryd.func22, Tryd.ntmps22
      go_wp2
      all_goals go_ret
      all_goals exact ⟨rfl, rfl⟩
    · rw [if_neg (by decide), if_pos (show ((1 : Nat) : Int) = 1 from rfl)]
      go_enter Tryd.func22, Tryd.ntmps22
      go_wp2
      all_goals go_ret
      all_goals exact ⟨rfl, rfl⟩
    · rw [if_neg (by decide), if_neg (by decide)]
      go_enter Tryd.func22, Tryd.ntmps22
      go_wp2
      all_goals go_ret
      all_goals exact ⟨rfl, rfl⟩
  by_cases k6 : k = 6
  · subst k6
    rw [if_neg (by decide), if_neg (by decide), if_neg (by decide), if_neg (by decide), if_pos (.inr rfl)]
    have hc9 : c = 0 ∨ c = 1 ∨ c = 2 := by have := h5 (.inr rfl); omega
    clear h4 h5 hc hc2
    rcases hc9 with rfl | rfl | rfl
    · rw [if_pos (show ((0 : Nat) : Int) = 0 from rfl)]
      go_enter Tryd.func22, Tryd.ntmps22
      go_wp2
      all_goals go_ret
      all_goals exact ⟨rfl, rfl⟩
    · rw [if_neg (by decide), if_pos (show ((1 : Nat) : Int) = 1 from rfl)]
      go_enter Tryd.func22, Tryd.ntmps22
      go_wp2
      all_goals go_ret
      all_goals exact ⟨rfl, rfl⟩
    · rw [if_neg (by decide), if_neg (by decide)]
      go_enter Tryd.func22, Tryd.ntmps22
      go_wp2
      all_goals go_ret
      all_goals exact ⟨rfl, rfl⟩
  by_cases k12 : k = 12
  · subst k12
    rw [if_neg (by decide), if_neg (by decide), if_neg (by decide), if_neg (by decide), if_neg (by decide), if_pos (.inl rfl)]
    clear h4 h5
    by_cases hcn : (c : Int) < num
    · rw [if_pos hcn]
      go_enter Tryd.func22, Tryd.ntmps22
      go_wp2
      all_goals go_ret
      all_goals exact ⟨rfl, rfl⟩
    · rw [if_neg hcn]
      go_enter Tryd.func22, Tryd.ntmps22
      go_wp2
      all_goals go_ret
      all_goals exact ⟨rfl, rfl⟩
  by_cases k31 : k = 31
  · subst k31
    rw [if_neg (by decide), if_neg (by decide), if_neg (by decide), if_neg (by decide), if_neg (by decide), if_pos (.inr rfl)]
    clear h4 h5
    by_cases hcn : (c : Int) < num
    · rw [if_pos hcn]
      go_enter Tryd.func22, Tryd.ntmps22
      go_wp2
      all_goals go_ret
      all_goals exact ⟨rfl, rfl⟩
    · rw [if_neg hcn]
      go_enter Tryd.func22, Tryd.ntmps22
      go_wp2
      all_goals go_ret
      all_goals exact ⟨rfl, rfl⟩
  rw [if_neg (by omega), if_neg (by omega), if_neg (by omega), if_neg (by omega), if_neg (by omega), if_neg (by omega)]
  clear h4 h5
  go_enter Tryd.func22, Tryd.ntmps22
  go_wp2
  all_goals go_ret
  all_goals exact ⟨rfl, rfl⟩

end Go.Proofs.YtlcieebneclmpaaDoor

