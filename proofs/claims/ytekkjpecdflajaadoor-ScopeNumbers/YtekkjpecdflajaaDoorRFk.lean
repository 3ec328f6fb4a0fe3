/- The document's numbers: the contract. -/
import Derived.Test.YtekkjpecdflajaaDoorREk
set_option linter.unusedSimpArgs false
set_option linter.unusedVariables false
namespace Go.Proofs.YtekkjpecdflajaaDoor
open Go Go.RowKit

/-- What is cut at place k, as the document tells it. -/
def RV (k : Nat) : Cut → Value → Prop
  | .tok kd x n len, v => v = .tuple #[.agg #[.int .i64 kd, .string (strOfNums x), .int .i64 n, .int .i64 (k : Nat)], .int .i64 ((k + len : Nat) : Int), .int .i64 0]
  | .bad e off, v => ∃ (a c d : Int) (s : ByteArray), v = .tuple #[.agg #[.int .i64 a, .string s, .int .i64 c, .int .i64 d], .int .i64 ((k + off : Nat) : Int), .int .i64 e]

theorem numStep_sticky {s : Int × Bool} {d : Int} (h : s.2 = true) : (numStep s d).2 = true := by
  unfold numStep; split
  · rfl
  · exact h

theorem numOf_sticky {l : List Int} (h : (numOf l).2 = true) : ∀ k : List Int, (numOf (l ++ k)).2 = true := by
  intro k
  induction k generalizing l with
  | nil => simpa using h
  | cons d k ih =>
    have : l ++ d :: k = (l ++ [d]) ++ k := by simp
    rw [this]
    exact ih (by rw [numOf_snoc]; exact numStep_sticky h)

theorem twl_lt {p : Int → Bool} : ∀ {r : List Int} {i : Nat} (h : i < twl p r) (hl : i < r.length), p r[i] = true
  | [], i, h, hl => by simp at hl
  | c :: t, 0, h, _ => by
    rw [twl_cons] at h
    split at h
    · assumption
    · omega
  | c :: t, i + 1, h, hl => by
    rw [twl_cons] at h
    split at h
    · exact twl_lt (r := t) (i := i) (by omega) (by simpa using hl)
    · omega

theorem bwTwo (w : World) (o o' : Obj) : Bw w ((w.alloc o).alloc o') := Bw.alloc (Bw.alloc (Bw.refl w) _) _

set_option maxHeartbeats 8000000 in
theorem rnumber_any (v : Value) (b : List Int) (k : Nat) (w : World) (h : By w v b) (hk : k < b.length) (hm : b.length ≤ 1000000) :
    Calls Tryd.prog 24 #[v, .int .i64 (k : Nat)] w fun e w' => ∃ r, e = .returned r ∧ RV k (cNum (b.drop k)) r ∧ Bw w w' := by
  obtain ⟨g, o, cap, rfl, hcap, hg, hcs⟩ := h.parts hk
  have HC := hid hcs
  have hrl : (b.drop k).length = b.length - k := List.length_drop
  have hck0 := hcs k hk
  have hhd : (b.drop k).head? = some b[k] := by rw [List.drop_eq_getElem_cons hk]; rfl
  have HHD := hid hhd
  clear h hcs hhd
  generalize b[k] = c0 at hck0 HHD
  go_enter Tryd.func24, Tryd.ntmps24
  go_wp2
  go_loopw [8] (fun j wr => ∃ m, j = .int .i64 ((k + m : Nat) : Int) ∧ m ≤ twl isDg (b.drop k) ∧ wr = (w.alloc tk0).alloc (.cells #[.int .i64 3, .string ⟨#[]⟩, .int .i64 0, .int .i64 (k : Nat)] 56)) (fun j _ => b.length - (intOf j).toNat)
  case atStart => exact ⟨0, by simp, Nat.zero_le _, rfl⟩
  case round =>
    obtain ⟨m, rfl, hm1, hwr⟩ := hrel
    subst wr
    have hle := twl_le isDg (b.drop k)
    rw [List.length_drop] at hle
    have key : (twl isDg (b.drop k) = m ∧ ∀ hlt : k + m < b.length, isDg b[k + m] = false) ∨ ∃ hlt : k + m < b.length, isDg b[k + m] = true ∧ m + 1 ≤ twl isDg (b.drop k) := by
      by_cases hlt : k + m < b.length
      · have hml : m < (b.drop k).length := by rw [List.length_drop]; omega
        have hge : (b.drop k)[m] = b[k + m] := by simp
        cases hp : isDg b[k + m]
        · exact .inl ⟨twl_no hm1 hml (by rw [hge]; exact hp), fun _ => hp⟩
        · exact .inr ⟨hlt, hp, twl_go hm1 hml (by rw [hge]; exact hp)⟩
      · exact .inl ⟨twl_end hm1 (by rw [List.length_drop]; omega), fun h => absurd h hlt⟩
    rcases key with ⟨hfin, hno⟩ | ⟨hlt, hp, hg1⟩
    · have hkm : k + m ≤ b.length := by omega
      have HFI := hid hfin
      have hgm : (b.drop k)[m]? = b[k + m]? := List.getElem?_drop
      have hcn : cNum (b.drop k) = if c0 = 48 ∧ 1 < m then .bad 6 1 else if b[k + m]?.map isLt = some true then .bad 6 m else if (numOf ((b.drop k).take m)).2 then .bad 9 0 else .tok 3 [] (numOf ((b.drop k).take m)).1 m := by
        unfold cNum
        rw [takeWhile_twl, hfin, HHD.out, hgm]
        simp only [Option.some.injEq]
      have HCN := hid hcn
      clear hm1 hfin hle hcn hgm
      -- the loop over digits, behind all tests
      by_cases hz : c0 = 48 ∧ 1 < m
      · have HV := hid (show RV k (cNum (b.drop k)) (.tuple #[.agg #[.int .i64 3, .string ⟨#[]⟩, .int .i64 0, .int .i64 (k : Nat)], .int .i64 ((k : Int) + 1), .int .i64 6]) by
          rw [HCN.out, if_pos hz]
          exact ⟨3, 0, k, ⟨#[]⟩, by simp⟩)
        obtain ⟨rfl, hm2⟩ := hz
        have t2 : decide (((k : Int) + 1) < ((k : Int) + m)) = true := decide_eq_true (by omega)
        by_cases hlt : k + m < b.length
        · have hc := HC.out _ hlt
          have hn := hno hlt
          have hlt2 : ((k + m : Nat) : Int) < (b.length : Int) := by omega
          clear hno
          generalize b[k + m] = c at hc hn
          go_wp2_with (first
            | (go_at_call 22; refine (rdigit_any _ _).mono ?_; rintro e w' ⟨rfl, hw'⟩; subst w')
            | (go_at_call 21; refine (rletter_any _ _).mono ?_; rintro e w' ⟨rfl, hw'⟩; subst w'))
          all_goals refine bodyPost_ret (v := _) (by simp [results, Tryd.results24, go_sem, *]; rfl) rfl ?_
          all_goals exact ⟨_, rfl, HV.out, bwTwo _ _ _⟩
        · clear hno
          go_wp2_with (first
            | (go_at_call 22; refine (rdigit_any _ _).mono ?_; rintro e w' ⟨rfl, hw'⟩; subst w')
            | (go_at_call 21; refine (rletter_any _ _).mono ?_; rintro e w' ⟨rfl, hw'⟩; subst w'))
          all_goals refine bodyPost_ret (v := _) (by simp [results, Tryd.results24, go_sem, *]; rfl) rfl ?_
          all_goals exact ⟨_, rfl, HV.out, bwTwo _ _ _⟩
      · have hA : (c0 == 48) = false ∨ ((c0 == 48) = true ∧ m ≤ 1) := by
          by_cases h48 : c0 = 48
          · right
            exact ⟨by simpa using h48, by have : ¬ 1 < m := fun h => hz ⟨h48, h⟩; omega⟩
          · left; simpa using h48
        have hB : (∃ c, w.cell? ⟨g, o + (k + m), none⟩ = some (.int .u8 c) ∧ isLt c = true ∧ isDg c = false ∧ k + m < b.length ∧ b[k + m]? = some c) ∨ (∃ c, w.cell? ⟨g, o + (k + m), none⟩ = some (.int .u8 c) ∧ isLt c = false ∧ isDg c = false ∧ k + m < b.length ∧ b[k + m]? = some c) ∨ (¬ k + m < b.length) := by
          by_cases hlt : k + m < b.length
          · cases hl : isLt b[k + m]
            · exact .inr (.inl ⟨_, HC.out _ hlt, hl, hno hlt, hlt, List.getElem?_eq_getElem hlt⟩)
            · exact .inl ⟨_, HC.out _ hlt, hl, hno hlt, hlt, List.getElem?_eq_getElem hlt⟩
          · exact .inr (.inr hlt)
        have HCN2 := hid (show cNum (b.drop k) = if b[k + m]?.map isLt = some true then .bad 6 m else if (numOf ((b.drop k).take m)).2 then .bad 9 0 else .tok 3 [] (numOf ((b.drop k).take m)).1 m by rw [HCN.out, if_neg hz])
        clear hno HCN hz
        rcases hB with ⟨c, hc, hl, hd, hlt, hge⟩ | hB
        · have HV := hid (show RV k (cNum (b.drop k)) (.tuple #[.agg #[.int .i64 3, .string ⟨#[]⟩, .int .i64 0, .int .i64 (k : Nat)], .int .i64 ((k : Int) + m), .int .i64 6]) by
            rw [HCN2.out, hge]
            simp only [Option.map_some, hl, if_true]
            exact ⟨3, 0, k, ⟨#[]⟩, by simp⟩)
          have hlt2 : ((k + m : Nat) : Int) < (b.length : Int) := by omega
          clear hge HCN2
          rcases hA with hA | ⟨hA, hA2⟩
          all_goals
            go_wp2_with (first
              | (go_at_call 22; refine (rdigit_any _ _).mono ?_; rintro e w' ⟨rfl, hw'⟩; subst w')
              | (go_at_call 21; refine (rletter_any _ _).mono ?_; rintro e w' ⟨rfl, hw'⟩; subst w'))
            all_goals refine bodyPost_ret (v := _) (by simp [results, Tryd.results24, go_sem, *]; rfl) rfl ?_
            all_goals exact ⟨_, rfl, HV.out, bwTwo _ _ _⟩
        · have hnl : b[k + m]?.map isLt ≠ some true := by
            rcases hB with ⟨c, _, hl, _, _, hge⟩ | hB
            · rw [hge]; simp [hl]
            · rw [List.getElem?_eq_none (by omega)]; simp
          have HCN3 := hid (show cNum (b.drop k) = if (numOf ((b.drop k).take m)).2 then .bad 9 0 else .tok 3 [] (numOf ((b.drop k).take m)).1 m by rw [HCN2.out, if_neg hnl])
          clear hnl HCN2
          have hB' : (∃ c, w.cell? ⟨g, o + (k + m), none⟩ = some (.int .u8 c) ∧ isLt c = false ∧ isDg c = false ∧ ((k + m : Nat) : Int) < (b.length : Int)) ∨ (¬ k + m < b.length) := by
            rcases hB with ⟨c, h1, h2, h3, h4, _⟩ | hB
            · exact .inl ⟨c, h1, h2, h3, by omega⟩
            · exact .inr hB
          clear hB
          rcases hA with hA | ⟨hA, hA2⟩ <;> rcases hB' with ⟨c, hc, hl, hd, hlt⟩ | hB'
          all_goals
            go_wp2_with (first
              | (go_at_call 22; refine (rdigit_any _ _).mono ?_; rintro e w' ⟨rfl, hw'⟩; subst w')
              | (go_at_call 21; refine (rletter_any _ _).mono ?_; rintro e w' ⟨rfl, hw'⟩; subst w'))
            go_loopw [9] (fun j wr => ∃ i, j = .int .i64 ((k + i : Nat) : Int) ∧ i ≤ m ∧ (numOf ((b.drop k).take i)).2 = false ∧ (0 ≤ (numOf ((b.drop k).take i)).1 ∧ (numOf ((b.drop k).take i)).1 ≤ 2305843009213693951) ∧ wr = (w.alloc tk0).alloc (.cells #[.int .i64 3, .string ⟨#[]⟩, .int .i64 (numOf ((b.drop k).take i)).1, .int .i64 (k : Nat)] 56)) (fun j _ => b.length - (intOf j).toNat)
            case atStart => exact ⟨0, by simp, Nat.zero_le _, by simp [numOf], by simp [numOf], by simp [numOf]⟩
            case round =>
              obtain ⟨i, rfl, him, hF, hbd, hwr⟩ := hrel
              subst wr
              by_cases hi : i < m
              · have hil : k + i < b.length := by omega
                have hir : i < (b.drop k).length := by omega
                have hge : (b.drop k)[i] = b[k + i] := by simp
                have hdg : isDg b[k + i] = true := by rw [← hge]; exact twl_lt (by have := HFI.out; omega) hir
                have hc' := HC.out _ hil
                have hst := numOf_take_succ hir
                rw [hge] at hst
                have hb2 := numStep_bd hbd.1 hbd.2 hdg
                rw [← hst] at hb2
                have HB2 := hid hb2
                have HST := hid hst
                have hlim : (k : Int) + i < (k : Int) + m := by omega
                have hlib : ((k + i : Nat) : Int) < (b.length : Int) := by omega
                have HTM := hid (show (numOf ((b.drop k).take (i + 1))).2 = true → (numOf ((b.drop k).take m)).2 = true by
                  intro h
                  have e : (b.drop k).take m = (b.drop k).take (i + 1) ++ ((b.drop k).take m).drop (i + 1) := by
                    conv => lhs; rw [← List.take_append_drop (i + 1) ((b.drop k).take m)]
                    rw [List.take_take, Nat.min_eq_left (by omega)]
                  rw [e]
                  exact numOf_sticky h _)
                clear hst hb2 hge hir
                generalize b[k + i] = c' at hc' hdg HST
                have hpb : 48 ≤ c' ∧ c' ≤ 57 := by simpa [isDg] using hdg
                generalize hng : numOf ((b.drop k).take i) = ng at *
                obtain ⟨N, T⟩ := ng
                simp only at HST hbd hF
                subst hF
                have HNG := hid hng
                clear hng
                have etd : (2305843009213693951 - (c' - 48)).tdiv 10 = (2305843009213693951 - (c' - 48)) / 10 := Int.tdiv_eq_ediv_of_nonneg (by omega)
                by_cases ht : (2305843009213693951 - (c' - 48)) / 10 < N
                · have hst : (numOf ((b.drop k).take (i + 1))).2 = true := by
                    rw [HST.out]; unfold numStep; simp only; rw [etd, if_pos ht]
                  have HV := hid (show RV k (cNum (b.drop k)) (.tuple #[.agg #[.int .i64 3, .string ⟨#[]⟩, .int .i64 N, .int .i64 (k : Nat)], .int .i64 (k : Int), .int .i64 9]) by
                    rw [HCN3.out, HTM.out hst]
                    exact ⟨3, N, k, ⟨#[]⟩, by simp⟩)
                  clear hst etd
                  go_wp2_with (first
                    | (go_at_call 22; refine (rdigit_any _ _).mono ?_; rintro e w' ⟨rfl, hw'⟩; subst w')
                    | (go_at_call 21; refine (rletter_any _ _).mono ?_; rintro e w' ⟨rfl, hw'⟩; subst w'))
                  all_goals refine bodyPost_ret (v := _) (by simp [results, Tryd.results24, go_sem, *]; rfl) rfl ?_
                  all_goals exact ⟨_, rfl, HV.out, bwTwo _ _ _⟩
                · have hst : numOf ((b.drop k).take (i + 1)) = (10 * N + (c' - 48), false) := by
                    rw [HST.out]; unfold numStep; simp only; rw [etd, if_neg (by omega)]
                  have HST2 := hid hst
                  clear hst etd
                  go_wp2_with (first
                    | (go_at_call 22; refine (rdigit_any _ _).mono ?_; rintro e w' ⟨rfl, hw'⟩; subst w')
                    | (go_at_call 21; refine (rletter_any _ _).mono ?_; rintro e w' ⟨rfl, hw'⟩; subst w'))
                  go_roundw
                  case rel => exact ⟨i + 1, by go_num, by omega, by rw [HST2.out], HB2.out, by rw [HST2.out, Int.mul_comm 10 N]⟩
                  case measure => simp [intOf]; omega
              · obtain rfl : i = m := by omega
                have HV := hid (show RV k (cNum (b.drop k)) (.tuple #[.agg #[.int .i64 3, .string ⟨#[]⟩, .int .i64 (numOf ((b.drop k).take i)).1, .int .i64 (k : Nat)], .int .i64 ((k : Int) + i), .int .i64 0]) by
                  rw [HCN3.out, hF]
                  simp [RV, strOf_nil])
                have hlim : ¬ ((k : Int) + i < (k : Int) + i) := by omega
                clear hF HCN3
                generalize (numOf ((b.drop k).take i)).1 = N at *
                go_wp2_with (first
                  | (go_at_call 22; refine (rdigit_any _ _).mono ?_; rintro e w' ⟨rfl, hw'⟩; subst w')
                  | (go_at_call 21; refine (rletter_any _ _).mono ?_; rintro e w' ⟨rfl, hw'⟩; subst w'))
                all_goals refine bodyPost_ret (v := _) (by simp [results, Tryd.results24, go_sem, *]; rfl) rfl ?_
                all_goals exact ⟨_, rfl, HV.out, bwTwo _ _ _⟩
    · have hc := HC.out _ hlt
      have hlt2 : ((k + m : Nat) : Int) < (b.length : Int) := by omega
      have HG1 := hid hg1
      clear hm1 hle hg1
      generalize b[k + m] = c at hc hp
      go_wp2_with (first
        | (go_at_call 22; refine (rdigit_any _ _).mono ?_; rintro e w' ⟨rfl, hw'⟩; subst w')
        | (go_at_call 21; refine (rletter_any _ _).mono ?_; rintro e w' ⟨rfl, hw'⟩; subst w'))
      go_roundw
      case rel => exact ⟨m + 1, by go_num, HG1.out, trivial⟩
      case measure => simp [intOf]; omega

end Go.Proofs.YtekkjpecdflajaaDoor

