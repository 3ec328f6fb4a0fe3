/- The program's cutter of numbers: the contract. -/
import Derived.Test.YtlcieebneclmpaaDoorK3
set_option linter.unusedSimpArgs false
set_option linter.unusedVariables false
namespace Go.Proofs.YtlcieebneclmpaaDoor
open Go Go.RowKit

theorem numOf_take_succ {r : List Int} {m : Nat} (h : m < r.length) : numOf (r.take (m + 1)) = numStep (numOf (r.take m)) r[m] := by
  rw [List.take_succ_eq_append_getElem h, numOf_snoc]

theorem numStep_bd {s : Int × Bool} {d : Int} (h0 : 0 ≤ s.1) (h1 : s.1 ≤ 2305843009213693951) (hd : isDg d = true) : 0 ≤ (numStep s d).1 ∧ (numStep s d).1 ≤ 2305843009213693951 := by
  simp [isDg] at hd
  unfold numStep
  have e : (2305843009213693951 - (d - 48)).tdiv 10 = (2305843009213693951 - (d - 48)) / 10 := Int.tdiv_eq_ediv_of_nonneg (by omega)
  rw [e]
  split
  · exact ⟨h0, h1⟩
  · simp only; omega

set_option maxRecDepth 100000 in
set_option maxHeartbeats 4000000 in
theorem xcutNumber_any (v : Value) (b : List Int) (k : Nat) (w : World) (h : By w v b) (hk : k < b.length) (hm : b.length ≤ 1000000) :
    Calls Tryd.prog 50 #[v, .int .i64 (k : Nat)] w fun e w' => e = .returned (cutV k (cNum (b.drop k))) ∧ Bw w w' := by
  obtain ⟨g, o, cap, rfl, hcap, hg, hcs⟩ := h.parts hk
  have HC := hid hcs
  have hrl : (b.drop k).length = b.length - k := List.length_drop
  have hck0 := hcs k hk
  have hhd : (b.drop k).head? = some b[k] := by rw [List.drop_eq_getElem_cons hk]; rfl
  have HHD := hid hhd
  clear h hcs hhd
  generalize b[k] = c0 at hck0 HHD
  go_enter Tryd.func50, Tryd.ntmps50
  go_wp2
  go_loopw [7, 8, 9] (fun n tg j wr => ∃ m, j = .int .i64 ((k + m : Nat) : Int) ∧ m ≤ twl isDg (b.drop k) ∧ wr = w.alloc tk0 ∧ n = .int .i64 (numOf ((b.drop k).take m)).1 ∧ tg = .bool (numOf ((b.drop k).take m)).2 ∧ (0 ≤ (numOf ((b.drop k).take m)).1 ∧ (numOf ((b.drop k).take m)).1 ≤ 2305843009213693951) ∧ (c0 = 48 → m ≤ 1)) (fun _ _ j _ => b.length - (intOf j).toNat)
  case atStart => exact ⟨0, by simp, Nat.zero_le _, rfl, rfl, rfl, by simp [numOf], fun _ => by omega⟩
  case round =>
    obtain ⟨m, rfl, hm1, hwr, rfl, rfl, hbd, hz⟩ := hrel
    subst wr
    have hle := twl_le isDg (b.drop k)
    rw [List.length_drop] at hle
    have key : (twl isDg (b.drop k) = m ∧ ∀ hlt : k + m < b.length, isDg b[k + m] = false) ∨ ∃ hlt : k + m < b.length, isDg b[k + m] = true ∧ m + 1 ≤ twl isDg (b.drop k) := by
      by_cases hlt : k + m < b.length
      · have hml : m < (b.drop k).length := by rw [List.length_drop]; omega
        have hge : (b.drop k)[m] = b[k + m] := by simp
        cases hp : isDg b[k + m]
        · exact .inl ⟨twl_no hm1 hml (by rw [hge]; exact hp), fun _ => hp⟩
        · exact .inr ⟨hlt, hp, twl_go hm1 hml (by rw [hge]; exact hp)⟩
      · exact .inl ⟨twl_end hm1 (by rw [List.length_drop]; omega), fun h => absurd h hlt⟩
    rcases key with ⟨hfin, hno⟩ | ⟨hlt, hp, hg1⟩
    · have hkm : k + m ≤ b.length := by omega
      have hgm : (b.drop k)[m]? = b[k + m]? := List.getElem?_drop
      have hcn : cNum (b.drop k) = if b[k + m]?.map isLt = some true then .bad 6 m else if (numOf ((b.drop k).take m)).2 then .bad 9 0 else .tok 3 [] (numOf ((b.drop k).take m)).1 m := by
        unfold cNum
        rw [takeWhile_twl, hfin, HHD.out, if_neg (by rintro ⟨h1, h2⟩; have := hz (by simpa using h1); omega), hgm]
      have HCN := hid hcn
      clear hm1 hfin hle hcn hz hgm
      generalize numOf ((b.drop k).take m) = ng at *
      obtain ⟨N, T⟩ := ng
      simp only at HCN hbd ⊢
      have hlast : ∀ (h0 : b[k + m]?.map isLt ≠ some true), cNum (b.drop k) = if T then .bad 9 0 else .tok 3 [] N m := fun h0 => by rw [HCN.out, if_neg h0]
      have HL := hid hlast
      clear hlast
      by_cases hlt : k + m < b.length
      · have hc := HC.out _ hlt
        have hlt2 : ((k + m : Nat) : Int) < (b.length : Int) := by omega
        have hn := hno hlt
        have HG := hid (List.getElem?_eq_getElem hlt)
        clear hno
        generalize b[k + m] = c at hc hn HG
        cases h1 : isLt c
        · have HL2 := hid (HL.out (by rw [HG.out]; simp [h1]))
          cases T
          · have hv : cutV k (cNum (b.drop k)) = .tuple #[.agg #[.int .i64 3, .string ⟨#[]⟩, .int .i64 N, .int .i64 (k : Nat)], .int .i64 0, .int .i64 ((k : Int) + m)] := by
              rw [HL2.out]; simp [cutV, strOf_nil]
            have HV := hid hv
            clear hv
            go_wp2_with (first
              | (go_at_call 46; refine (xisDigit_any _ _).mono ?_; rintro e w' ⟨rfl, hw'⟩; subst w')
              | (go_at_call 47; refine (xisLetter_any _ _).mono ?_; rintro e w' ⟨rfl, hw'⟩; subst w'))
            all_goals refine bodyPost_ret (v := cutV k (cNum (b.drop k))) (by rw [HV.out]; simp [results, Tryd.results50, go_sem, *]) rfl ?_
            all_goals exact ⟨rfl, Bw.alloc (Bw.refl _) _⟩
          · have hv : cutV k (cNum (b.drop k)) = .tuple #[.agg #[.int .i64 0, .string ⟨#[]⟩, .int .i64 0, .int .i64 0], .int .i64 9, .int .i64 (k : Int)] := by
              rw [HL2.out]; simp [cutV]
            have HV := hid hv
            clear hv
            go_wp2_with (first
              | (go_at_call 46; refine (xisDigit_any _ _).mono ?_; rintro e w' ⟨rfl, hw'⟩; subst w')
              | (go_at_call 47; refine (xisLetter_any _ _).mono ?_; rintro e w' ⟨rfl, hw'⟩; subst w'))
            all_goals refine bodyPost_ret (v := cutV k (cNum (b.drop k))) (by rw [HV.out]; simp [results, Tryd.results50, go_sem, *]) rfl ?_
            all_goals exact ⟨rfl, Bw.alloc (Bw.refl _) _⟩
        · have hv : cutV k (cNum (b.drop k)) = .tuple #[.agg #[.int .i64 0, .string ⟨#[]⟩, .int .i64 0, .int .i64 0], .int .i64 6, .int .i64 ((k : Int) + m)] := by
            rw [HCN.out, HG.out]; simp [h1, cutV]
          have HV := hid hv
          clear hv
          go_wp2_with (first
            | (go_at_call 46; refine (xisDigit_any _ _).mono ?_; rintro e w' ⟨rfl, hw'⟩; subst w')
            | (go_at_call 47; refine (xisLetter_any _ _).mono ?_; rintro e w' ⟨rfl, hw'⟩; subst w'))
          all_goals refine bodyPost_ret (v := cutV k (cNum (b.drop k))) (by rw [HV.out]; simp [results, Tryd.results50, go_sem, *]) rfl ?_
          all_goals exact ⟨rfl, Bw.alloc (Bw.refl _) _⟩
      · clear hno
        have HL2 := hid (HL.out (by rw [List.getElem?_eq_none (by omega)]; simp))
        cases T
        · have hv : cutV k (cNum (b.drop k)) = .tuple #[.agg #[.int .i64 3, .string ⟨#[]⟩, .int .i64 N, .int .i64 (k : Nat)], .int .i64 0, .int .i64 ((k : Int) + m)] := by
            rw [HL2.out]; simp [cutV, strOf_nil]
          have HV := hid hv
          clear hv
          go_wp2_with (first
            | (go_at_call 46; refine (xisDigit_any _ _).mono ?_; rintro e w' ⟨rfl, hw'⟩; subst w')
            | (go_at_call 47; refine (xisLetter_any _ _).mono ?_; rintro e w' ⟨rfl, hw'⟩; subst w'))
          all_goals refine bodyPost_ret (v := cutV k (cNum (b.drop k))) (by rw [HV.out]; simp [results, Tryd.results50, go_sem, *]) rfl ?_
          all_goals exact ⟨rfl, Bw.alloc (Bw.refl _) _⟩
        · have hv : cutV k (cNum (b.drop k)) = .tuple #[.agg #[.int .i64 0, .string ⟨#[]⟩, .int .i64 0, .int .i64 0], .int .i64 9, .int .i64 (k : Int)] := by
            rw [HL2.out]; simp [cutV]
          have HV := hid hv
          clear hv
          go_wp2_with (first
            | (go_at_call 46; refine (xisDigit_any _ _).mono ?_; rintro e w' ⟨rfl, hw'⟩; subst w')
            | (go_at_call 47; refine (xisLetter_any _ _).mono ?_; rintro e w' ⟨rfl, hw'⟩; subst w'))
          all_goals refine bodyPost_ret (v := cutV k (cNum (b.drop k))) (by rw [HV.out]; simp [results, Tryd.results50, go_sem, *]) rfl ?_
          all_goals exact ⟨rfl, Bw.alloc (Bw.refl _) _⟩
    · have hc := HC.out _ hlt
      have hlt2 : ((k + m : Nat) : Int) < (b.length : Int) := by omega
      have hml : m < (b.drop k).length := by rw [List.length_drop]; omega
      have hge : (b.drop k)[m] = b[k + m] := by simp
      have hst := numOf_take_succ hml
      rw [hge] at hst
      have hb2 := numStep_bd hbd.1 hbd.2 hp
      rw [← hst] at hb2
      have HG1 := hid hg1
      have HB2 := hid hb2
      have HST := hid hst
      clear hm1 hle hg1 hml hge hst hb2
      generalize b[k + m] = c at hc hp HST
      by_cases hzz : 0 < m ∧ c0 = 48
      · obtain ⟨hm0, rfl⟩ := hzz
        obtain rfl : m = 1 := by have := hz rfl; omega
        have hv : cutV k (cNum (b.drop k)) = .tuple #[.agg #[.int .i64 0, .string ⟨#[]⟩, .int .i64 0, .int .i64 0], .int .i64 6, .int .i64 ((k : Int) + 1)] := by
          unfold cNum
          rw [if_pos ⟨HHD.out, by have := HG1.out; omega⟩]
          simp [cutV]
        have HV := hid hv
        clear hv hz
        go_wp2_with (first
          | (go_at_call 46; refine (xisDigit_any _ _).mono ?_; rintro e w' ⟨rfl, hw'⟩; subst w')
          | (go_at_call 47; refine (xisLetter_any _ _).mono ?_; rintro e w' ⟨rfl, hw'⟩; subst w'))
        all_goals refine bodyPost_ret (v := cutV k (cNum (b.drop k))) (by rw [HV.out]; simp [results, Tryd.results50, go_sem, *]) rfl ?_
        all_goals exact ⟨rfl, Bw.alloc (Bw.refl _) _⟩
      · have hz2 : c0 = 48 → m + 1 ≤ 1 := fun h => by
          by_cases h0 : 0 < m
          · exact absurd ⟨h0, h⟩ hzz
          · omega
        have HZ := hid hz2
        have hpb : 48 ≤ c ∧ c ≤ 57 := by simpa [isDg] using hp
        generalize numOf ((b.drop k).take m) = ng at *
        obtain ⟨N, T⟩ := ng
        simp only at HST hbd ⊢
        clear hz hz2
        have etd : (2305843009213693951 - (c - 48)).tdiv 10 = (2305843009213693951 - (c - 48)) / 10 := Int.tdiv_eq_ediv_of_nonneg (by omega)
        by_cases ht : (2305843009213693951 - (c - 48)) / 10 < N
        · have hst : numOf ((b.drop k).take (m + 1)) = (N, true) := by
            rw [HST.out]; unfold numStep; simp only; rw [etd, if_pos ht]
          have HST2 := hid hst
          clear hst etd
          by_cases hm0 : m = 0
          · subst hm0
            have ec : c = c0 := by have := hck0.symm.trans hc; simpa using this.symm
            subst ec
            clear hc
            go_wp2_with (first
              | (go_at_call 46; refine (xisDigit_any _ _).mono ?_; rintro e w' ⟨rfl, hw'⟩; subst w')
              | (go_at_call 47; refine (xisLetter_any _ _).mono ?_; rintro e w' ⟨rfl, hw'⟩; subst w'))
            go_roundw
            case rel => exact ⟨0 + 1, by go_num, HG1.out, trivial, by rw [HST2.out], by rw [HST2.out], HB2.out, HZ.out⟩
            case measure => simp [intOf]; omega
          · have h48 : (c0 == 48) = false := by rw [beq_eq_false_iff_ne]; intro h; exact hzz ⟨by omega, h⟩
            clear hzz
            go_wp2_with (first
              | (go_at_call 46; refine (xisDigit_any _ _).mono ?_; rintro e w' ⟨rfl, hw'⟩; subst w')
              | (go_at_call 47; refine (xisLetter_any _ _).mono ?_; rintro e w' ⟨rfl, hw'⟩; subst w'))
            go_roundw
            case rel => exact ⟨m + 1, by go_num, HG1.out, trivial, by rw [HST2.out], by rw [HST2.out], HB2.out, HZ.out⟩
            case measure => simp [intOf]; omega
        · have hst : numOf ((b.drop k).take (m + 1)) = (10 * N + (c - 48), T) := by
            rw [HST.out]; unfold numStep; simp only; rw [etd, if_neg (by omega)]
          have HST2 := hid hst
          clear hst etd
          by_cases hm0 : m = 0
          · subst hm0
            have ec : c = c0 := by have := hck0.symm.trans hc; simpa using this.symm
            subst ec
            clear hc
            go_wp2_with (first
              | (go_at_call 46; refine (xisDigit_any _ _).mono ?_; rintro e w' ⟨rfl, hw'⟩; subst w')
              | (go_at_call 47; refine (xisLetter_any _ _).mono ?_; rintro e w' ⟨rfl, hw'⟩; subst w'))
            go_roundw
            case rel => exact ⟨0 + 1, by go_num, HG1.out, trivial, by rw [HST2.out], by rw [HST2.out], HB2.out, HZ.out⟩
            case measure => simp [intOf]; omega
          · have h48 : (c0 == 48) = false := by rw [beq_eq_false_iff_ne]; intro h; exact hzz ⟨by omega, h⟩
            clear hzz
            go_wp2_with (first
              | (go_at_call 46; refine (xisDigit_any _ _).mono ?_; rintro e w' ⟨rfl, hw'⟩; subst w')
              | (go_at_call 47; refine (xisLetter_any _ _).mono ?_; rintro e w' ⟨rfl, hw'⟩; subst w'))
            go_roundw
            case rel => exact ⟨m + 1, by go_num, HG1.out, trivial, by rw [HST2.out], by rw [HST2.out], HB2.out, HZ.out⟩
            case measure => simp [intOf]; omega

end Go.Proofs.YtlcieebneclmpaaDoor

