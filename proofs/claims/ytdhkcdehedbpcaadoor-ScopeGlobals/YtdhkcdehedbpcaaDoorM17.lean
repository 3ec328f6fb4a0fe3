/- The document's skipping of blanks and remarks, digits: the contracts. · The document's numbers: the contract. · The document's signs and hexadecimal digits: the contracts. · The document's Lex, of texts that are not too long: the contract. -/
import Derived.Test.YtdhkcdehedbpcaaDoorM16
set_option linter.unusedSimpArgs false
set_option linter.unusedVariables false
namespace Go.Proofs.YtdhkcdehedbpcaaDoor
open Go Go.RowKit

/-- From place k on all is cut as from place p on. -/
def Sk0 (b : List Int) (k p : Nat) : Prop :=
  k ≤ p ∧ p ≤ b.length ∧ ∀ acc f, (b.drop k).length < f → ∃ f', (b.drop p).length < f' ∧ lexF f (b.drop k) k acc = lexF f' (b.drop p) p acc

theorem Sk0.refl (b : List Int) (k : Nat) (h : k ≤ b.length) : Sk0 b k k := ⟨Nat.le_refl _, h, fun acc f hf => ⟨f, hf, rfl⟩⟩

theorem Sk0.blank {b : List Int} {k p : Nat} (h : Sk0 b k p) (hp : p < b.length) (hb : isBl b[p] = true) : Sk0 b k (p + 1) := by
  refine ⟨by have := h.1; omega, hp, fun acc f hf => ?_⟩
  obtain ⟨f', h1, h2⟩ := h.2.2 acc f hf
  rw [List.drop_eq_getElem_cons hp] at h1 h2
  obtain ⟨f'', rfl⟩ : ∃ f'', f' = f'' + 1 := ⟨f' - 1, by omega⟩
  rw [lexF_blank hb] at h2
  exact ⟨f'', by simp only [List.length_cons] at h1; omega, h2⟩

theorem Sk0.rem {b : List Int} {k p : Nat} (h : Sk0 b k p) (hp : p < b.length) (hb : b[p] = 35) : Sk0 b k (p + twl (· != 10) (b.drop p)) := by
  have hd : b.drop p = 35 :: b.drop (p + 1) := by rw [List.drop_eq_getElem_cons hp, hb]
  have htw := twl_le (· != 10) (b.drop p)
  have ht : twl (· != 10) (b.drop p) = twl (· != 10) (b.drop (p + 1)) + 1 := by rw [hd, twl_cons]; simp
  rw [List.length_drop] at htw
  refine ⟨by have := h.1; omega, by omega, fun acc f hf => ?_⟩
  obtain ⟨f', h1, h2⟩ := h.2.2 acc f hf
  rw [hd] at h1 h2
  obtain ⟨f'', rfl⟩ : ∃ f'', f' = f'' + 1 := ⟨f' - 1, by omega⟩
  rw [lexF_rem, List.drop_drop] at h2
  refine ⟨f'', ?_, ?_⟩
  · simp only [List.length_cons, List.length_drop] at h1 ⊢; omega
  · rw [h2, ht]
    congr 1
    · congr 1; omega
    · omega

/-- .. and there a token, or none, begins. -/
def Skp (b : List Int) (k p : Nat) : Prop := Sk0 b k p ∧ ∀ h : p < b.length, isBl b[p] = false ∧ b[p] ≠ 35

set_option maxHeartbeats 8000000 in
theorem rskip_any (v : Value) (b : List Int) (k : Nat) (w : World) (h : By w v b) (hk : k ≤ b.length) (hm : b.length ≤ 1000000) :
    Calls Tryd.prog 34 #[v, .int .i64 (k : Nat)] w fun e w' => ∃ p : Nat, e = .returned (.int .i64 (p : Nat)) ∧ Skp b k p ∧ w' = w := by
  have HB := hid h
  obtain ⟨a, cap, rfl⟩ := h.form
  clear h
  go_enter Tryd.func34, Tryd.ntmps34
  go_wp2
  go_loopw [1] (fun j wr => ∃ p : Nat, j = .int .i64 (p : Nat) ∧ Sk0 b k p ∧ wr = w) (fun j _ => b.length - (intOf j).toNat)
  case atStart => exact ⟨k, rfl, Sk0.refl b k hk, rfl⟩
  case round =>
    obtain ⟨p, rfl, hsk, hwr⟩ := hrel
    subst wr
    have HSK := hid hsk
    have hpb := hsk.2.1
    clear hsk
    by_cases hlt : p < b.length
    · obtain ⟨g, o, cap', e, hcap, hg, hcs⟩ := HB.out.parts hlt
      cases e
      have HC := hid hcs
      have hc := hcs p hlt
      have hlt2 : (p : Int) < (b.length : Int) := by omega
      have HSB := hid (fun hb => HSK.out.blank hlt hb)
      have HSR := hid (fun hb => HSK.out.rem hlt hb)
      have HST := hid (fun (h1 : isBl b[p] = false) (h2 : b[p] ≠ 35) => (show Skp b k p from ⟨HSK.out, fun _ => ⟨h1, h2⟩⟩))
      clear hcs
      generalize b[p] = c at hc HSB HSR HST
      cases h35 : (c == 35)
      · cases hbl : isBl c
        · have n1 : (c != 32) = true := by simp [isBl] at hbl; simp; omega
          have n2 : (c != 9) = true := by simp [isBl] at hbl; simp; omega
          have n3 : (c != 10) = true := by simp [isBl] at hbl; simp; omega
          have n4 : (c != 13) = true := by simp [isBl] at hbl; simp; omega
          have HF := hid (HST.out hbl (by simpa using h35))
          go_wp2
          all_goals go_ret
          all_goals exact ⟨p, rfl, HF.out, rfl⟩
        · have HF := hid (HSB.out hbl)
          have hb4 : c = 32 ∨ c = 9 ∨ c = 10 ∨ c = 13 := by simpa [isBl, or_assoc] using hbl
          clear hbl
          rcases hb4 with rfl | rfl | rfl | rfl
          all_goals
            go_wp2
            go_roundw
            case rel => exact ⟨p + 1, by go_num, HF.out, trivial⟩
            case measure => simp [intOf]; omega
      · rw [beq_iff_eq] at h35
        subst h35
        have HF := hid (HSR.out rfl)
        clear HSB HSR HST
        go_wp2
        go_loopw [1] (fun j wr => ∃ m, j = .int .i64 ((p + m : Nat) : Int) ∧ m ≤ twl (· != 10) (b.drop p) ∧ wr = w) (fun j _ => b.length - (intOf j).toNat)
        case atStart => exact ⟨0, by simp, Nat.zero_le _, rfl⟩
        case round =>
          obtain ⟨m, rfl, hm1, hwr⟩ := hrel
          subst wr
          have hle := twl_le (· != 10) (b.drop p)
          rw [List.length_drop] at hle
          have hpos : 1 ≤ twl (· != 10) (b.drop p) := by
            have := HF.out.1
            have hcc := HC.out p hlt
            have hb : b[p] = 35 := by have := hcc.symm.trans hc; simpa using this
            rw [List.drop_eq_getElem_cons hlt, twl_cons, hb]; simp
          by_cases hlm : p + m < b.length
          · have hc2 := HC.out _ hlm
            have hlm2 : ((p + m : Nat) : Int) < (b.length : Int) := by omega
            have hml : m < (b.drop p).length := by rw [List.length_drop]; omega
            have hge : (b.drop p)[m] = b[p + m] := by simp
            have TG := hid (@twl_go (· != 10) (b.drop p) m hm1 hml)
            have TN := hid (@twl_no (· != 10) (b.drop p) m hm1 hml)
            rw [hge] at TG TN
            generalize b[p + m] = c2 at hc2 TG TN
            clear hge hml hle
            cases hc10 : (c2 != 10)
            · have HE := hid (TN.out hc10)
              clear hm1 TG TN
              go_wp2
              go_roundw
              case rel => exact ⟨p + m, by go_num, by rw [← HE.out]; exact HF.out, trivial⟩
              case measure => have := HE.out; simp [intOf]; omega
            · have hg1 := hid (TG.out hc10)
              clear hm1 TG TN
              go_wp2
              go_roundw
              case rel => exact ⟨m + 1, by go_num, hg1.out, trivial⟩
              case measure => simp [intOf]; omega
          · have HE := hid (show twl (· != 10) (b.drop p) = m from twl_end hm1 (by rw [List.length_drop]; omega))
            clear hm1 hle
            go_wp2
            go_roundw
            case rel => exact ⟨p + m, by go_num, by rw [← HE.out]; exact HF.out, trivial⟩
            case measure => have := HE.out; simp [intOf]; omega
    · have HF := hid (show Skp b k p from ⟨HSK.out, fun h => absurd h hlt⟩)
      go_wp2
      all_goals go_ret
      all_goals exact ⟨p, rfl, HF.out, rfl⟩

end Go.Proofs.YtdhkcdehedbpcaaDoor

set_option linter.unusedSimpArgs false
set_option linter.unusedVariables false
namespace Go.Proofs.YtdhkcdehedbpcaaDoor
open Go Go.RowKit

/-- What is cut at place k, as the document tells it. -/
def RV (k : Nat) : Cut → Value → Prop
  | .tok kd x n len, v => v = .tuple #[.agg #[.int .i64 kd, .string (strOfNums x), .int .i64 n, .int .i64 (k : Nat)], .int .i64 ((k + len : Nat) : Int), .int .i64 0]
  | .bad e off, v => ∃ (a c d : Int) (s : ByteArray), v = .tuple #[.agg #[.int .i64 a, .string s, .int .i64 c, .int .i64 d], .int .i64 ((k + off : Nat) : Int), .int .i64 e]

theorem numStep_sticky {s : Int × Bool} {d : Int} (h : s.2 = true) : (numStep s d).2 = true := by
  unfold numStep; split
  · rfl
  · exact h

theorem numOf_sticky {l : List Int} (h : (numOf l).2 = true) : ∀ k : List Int, (numOf (l ++ k)).2 = true := by
  intro k
  induction k generalizing l with
  | nil => simpa using h
  | cons d k ih =>
    have : l ++ d :: k = (l ++ [d]) ++ k := by simp
    rw [this]
    exact ih (by rw [numOf_snoc]; exact numStep_sticky h)

theorem twl_lt {p : Int → Bool} : ∀ {r : List Int} {i : Nat} (h : i < twl p r) (hl : i < r.length), p r[i] = true
  | [], i, h, hl => by simp at hl
  | c :: t, 0, h, _ => by
    rw [twl_cons] at h
    split at h
    · assumption
    · omega
  | c :: t, i + 1, h, hl => by
    rw [twl_cons] at h
    split at h
    · exact twl_lt (r := t) (i := i) (by omega) (by simpa using hl)
    · omega

theorem bwTwo (w : World) (o o' : Obj) : Bw w ((w.alloc o).alloc o') := Bw.alloc (Bw.alloc (Bw.refl w) _) _

set_option maxHeartbeats 8000000 in
theorem rnumber_any (v : Value) (b : List Int) (k : Nat) (w : World) (h : By w v b) (hk : k < b.length) (hm : b.length ≤ 1000000) :
    Calls Tryd.prog 38 #[v, .int .i64 (k : Nat)] w fun e w' => ∃ r, e = .returned r ∧ RV k (cNum (b.drop k)) r ∧ Bw w w' := by
  obtain ⟨g, o, cap, rfl, hcap, hg, hcs⟩ := h.parts hk
  have HC := hid hcs
  have hrl : (b.drop k).length = b.length - k := List.length_drop
  have hck0 := hcs k hk
  have hhd : (b.drop k).head? = some b[k] := by rw [List.drop_eq_getElem_cons hk]; rfl
  have HHD := hid hhd
  clear h hcs hhd
  generalize b[k] = c0 at hck0 HHD
  go_enter Tryd.func38, Tryd.ntmps38
  go_wp2
  go_loopw [8] (fun j wr => ∃ m, j = .int .i64 ((k + m : Nat) : Int) ∧ m ≤ twl isDg (b.drop k) ∧ wr = (w.alloc tk0).alloc (.cells #[.int .i64 3, .string ⟨#[]⟩, .int .i64 0, .int .i64 (k : Nat)] 70)) (fun j _ => b.length - (intOf j).toNat)
  case atStart => exact ⟨0, by simp, Nat.zero_le _, rfl⟩
  case round =>
    obtain ⟨m, rfl, hm1, hwr⟩ := hrel
    subst wr
    have hle := twl_le isDg (b.drop k)
    rw [List.length_drop] at hle
    have key : (twl isDg (b.drop k) = m ∧ ∀ hlt : k + m < b.length, isDg b[k + m] = false) ∨ ∃ hlt : k + m < b.length, isDg b[k + m] = true ∧ m + 1 ≤ twl isDg (b.drop k) := by
      by_cases hlt : k + m < b.length
      · have hml : m < (b.drop k).length := by rw [List.length_drop]; omega
        have hge : (b.drop k)[m] = b[k + m] := by simp
        cases hp : isDg b[k + m]
        · exact .inl ⟨twl_no hm1 hml (by rw [hge]; exact hp), fun _ => hp⟩
        · exact .inr ⟨hlt, hp, twl_go hm1 hml (by rw [hge]; exact hp)⟩
      · exact .inl ⟨twl_end hm1 (by rw [List.length_drop]; omega), fun h => absurd h hlt⟩
    rcases key with ⟨hfin, hno⟩ | ⟨hlt, hp, hg1⟩
    · have hkm : k + m ≤ b.length := by omega
      have HFI := hid hfin
      have hgm : (b.drop k)[m]? = b[k + m]? := List.getElem?_drop
      have hcn : cNum (b.drop k) = if c0 = 48 ∧ 1 < m then .bad 6 1 else if b[k + m]?.map isLt = some true then .bad 6 m else if (numOf ((b.drop k).take m)).2 then .bad 9 0 else .tok 3 [] (numOf ((b.drop k).take m)).1 m := by
        unfold cNum
        rw [takeWhile_twl, hfin, HHD.out, hgm]
        simp only [Option.some.injEq]
      have HCN := hid hcn
      clear hm1 hfin hle hcn hgm
      -- the loop over digits, behind all tests
      by_cases hz : c0 = 48 ∧ 1 < m
      · have HV := hid (show RV k (cNum (b.drop k)) (.tuple #[.agg #[.int .i64 3, .string ⟨#[]⟩, .int .i64 0, .int .i64 (k : Nat)], .int .i64 ((k : Int) + 1), .int .i64 6]) by
          rw [HCN.out, if_pos hz]
          exact ⟨3, 0, k, ⟨#[]⟩, by simp⟩)
        obtain ⟨rfl, hm2⟩ := hz
        have t2 : decide (((k : Int) + 1) < ((k : Int) + m)) = true := decide_eq_true (by omega)
        by_cases hlt : k + m < b.length
        · have hc := HC.out _ hlt
          have hn := hno hlt
          have hlt2 : ((k + m : Nat) : Int) < (b.length : Int) := by omega
          clear hno
          generalize b[k + m] = c at hc hn
          go_wp2_with (first
            | (go_at_call 36; refine (rdigit_any _ _).mono ?_; rintro e w' ⟨rfl, hw'⟩; subst w')
            | (go_at_call 35; refine (rletter_any _ _).mono ?_; rintro e w' ⟨rfl, hw'⟩; subst w'))
          all_goals refine bodyPost_ret (v := _) (by simp [results, Tryd.results38, go_sem, *]; rfl) rfl ?_
          all_goals exact ⟨_, rfl, HV.out, bwTwo _ _ _⟩
        · clear hno
          go_wp2_with (first
            | (go_at_call 36; refine (rdigit_any _ _).mono ?_; rintro e w' ⟨rfl, hw'⟩; subst w')
            | (go_at_call 35; refine (rletter_any _ _).mono ?_; rintro e w' ⟨rfl, hw'⟩; subst w'))
          all_goals refine bodyPost_ret (v := _) (by simp [results, Tryd.results38, go_sem, *]; rfl) rfl ?_
          all_goals exact ⟨_, rfl, HV.out, bwTwo _ _ _⟩
      · have hA : (c0 == 48) = false ∨ ((c0 == 48) = true ∧ m ≤ 1) := by
          by_cases h48 : c0 = 48
          · right
            exact ⟨by simpa using h48, by have : ¬ 1 < m := fun h => hz ⟨h48, h⟩; omega⟩
          · left; simpa using h48
        have hB : (∃ c, w.cell? ⟨g, o + (k + m), none⟩ = some (.int .u8 c) ∧ isLt c = true ∧ isDg c = false ∧ k + m < b.length ∧ b[k + m]? = some c) ∨ (∃ c, w.cell? ⟨g, o + (k + m), none⟩ = some (.int .u8 c) ∧ isLt c = false ∧ isDg c = false ∧ k + m < b.length ∧ b[k + m]? = some c) ∨ (¬ k + m < b.length) := by
          by_cases hlt : k + m < b.length
          · cases hl : isLt b[k + m]
            · exact .inr (.inl ⟨_, HC.out _ hlt, hl, hno hlt, hlt, List.getElem?_eq_getElem hlt⟩)
            · exact .inl ⟨_, HC.out _ hlt, hl, hno hlt, hlt, List.getElem?_eq_getElem hlt⟩
          · exact .inr (.inr hlt)
        have HCN2 := hid (show cNum (b.drop k) = if b[k + m]?.map isLt = some true then .bad 6 m else if (numOf ((b.drop k).take m)).2 then .bad 9 0 else .tok 3 [] (numOf ((b.drop k).take m)).1 m by rw [HCN.out, if_neg hz])
        clear hno HCN hz
        rcases hB with ⟨c, hc, hl, hd, hlt, hge⟩ | hB
        · have HV := hid (show RV k (cNum (b.drop k)) (.tuple #[.agg #[.int .i64 3, .string ⟨#[]⟩, .int .i64 0, .int .i64 (k : Nat)], .int .i64 ((k : Int) + m), .int .i64 6]) by
            rw [HCN2.out, hge]
            simp only [Option.map_some, hl, if_true]
            exact ⟨3, 0, k, ⟨#[]⟩, by simp⟩)
          have hlt2 : ((k + m : Nat) : Int) < (b.length : Int) := by omega
          clear hge HCN2
          rcases hA with hA | ⟨hA, hA2⟩
          all_goals
            go_wp2_with (first
              | (go_at_call 36; refine (rdigit_any _ _).mono ?_; rintro e w' ⟨rfl, hw'⟩; subst w')
              | (go_at_call 35; refine (rletter_any _ _).mono ?_; rintro e w' ⟨rfl, hw'⟩; subst w'))
            all_goals refine bodyPost_ret (v := _) (by simp [results, Tryd.results38, go_sem, *]; rfl) rfl ?_
            all_goals exact ⟨_, rfl, HV.out, bwTwo _ _ _⟩
        · have hnl : b[k + m]?.map isLt ≠ some true := by
            rcases hB with ⟨c, _, hl, _, _, hge⟩ | hB
            · rw [hge]; simp [hl]
            · rw [List.getElem?_eq_none (by omega)]; simp
          have HCN3 := hid (show cNum (b.drop k) = if (numOf ((b.drop k).take m)).2 then .bad 9 0 else .tok 3 [] (numOf ((b.drop k).take m)).1 m by rw [HCN2.out, if_neg hnl])
          clear hnl HCN2
          have hB' : (∃ c, w.cell? ⟨g, o + (k + m), none⟩ = some (.int .u8 c) ∧ isLt c = false ∧ isDg c = false ∧ ((k + m : Nat) : Int) < (b.length : Int)) ∨ (¬ k + m < b.length) := by
            rcases hB with ⟨c, h1, h2, h3, h4, _⟩ | hB
            · exact .inl ⟨c, h1, h2, h3, by omega⟩
            · exact .inr hB
          clear hB
          rcases hA with hA | ⟨hA, hA2⟩ <;> rcases hB' with ⟨c, hc, hl, hd, hlt⟩ | hB'
          all_goals
            go_wp2_with (first
              | (go_at_call 36; refine (rdigit_any _ _).mono ?_; rintro e w' ⟨rfl, hw'⟩; subst w')
              | (go_at_call 35; refine (rletter_any _ _).mono ?_; rintro e w' ⟨rfl, hw'⟩; subst w'))
            go_loopw [9] (fun j wr => ∃ i, j = .int .i64 ((k + i : Nat) : Int) ∧ i ≤ m ∧ (numOf ((b.drop k).take i)).2 = false ∧ (0 ≤ (numOf ((b.drop k).take i)).1 ∧ (numOf ((b.drop k).take i)).1 ≤ 2305843009213693951) ∧ wr = (w.alloc tk0).alloc (.cells #[.int .i64 3, .string ⟨#[]⟩, .int .i64 (numOf ((b.drop k).take i)).1, .int .i64 (k : Nat)] 70)) (fun j _ => b.length - (intOf j).toNat)
            case atStart => exact ⟨0, by simp, Nat.zero_le _, by simp [numOf], by simp [numOf], by simp [numOf]⟩
            case round =>
              obtain ⟨i, rfl, him, hF, hbd, hwr⟩ := hrel
              subst wr
              by_cases hi : i < m
              · have hil : k + i < b.length := by omega
                have hir : i < (b.drop k).length := by omega
                have hge : (b.drop k)[i] = b[k + i] := by simp
                have hdg : isDg b[k + i] = true := by rw [← hge]; exact twl_lt (by have := HFI.out; omega) hir
                have hc' := HC.out _ hil
                have hst := numOf_take_succ hir
                rw [hge] at hst
                have hb2 := numStep_bd hbd.1 hbd.2 hdg
                rw [← hst] at hb2
                have HB2 := hid hb2
                have HST := hid hst
                have hlim : (k : Int) + i < (k : Int) + m := by omega
                have hlib : ((k + i : Nat) : Int) < (b.length : Int) := by omega
                have HTM := hid (show (numOf ((b.drop k).take (i + 1))).2 = true → (numOf ((b.drop k).take m)).2 = true by
                  intro h
                  have e : (b.drop k).take m = (b.drop k).take (i + 1) ++ ((b.drop k).take m).drop (i + 1) := by
                    conv => lhs; rw [← List.take_append_drop (i + 1) ((b.drop k).take m)]
                    rw [List.take_take, Nat.min_eq_left (by omega)]
                  rw [e]
                  exact numOf_sticky h _)
                clear hst hb2 hge hir
                generalize b[k + i] = c' at hc' hdg HST
                have hpb : 48 ≤ c' ∧ c' ≤ 57 := by simpa [isDg] using hdg
                generalize hng : numOf ((b.drop k).take i) = ng at *
                obtain ⟨N, T⟩ := ng
                simp only at HST hbd hF
                subst hF
                have HNG := hid hng
                clear hng
                have etd : (2305843009213693951 - (c' - 48)).tdiv 10 = (2305843009213693951 - (c' - 48)) / 10 := Int.tdiv_eq_ediv_of_nonneg (by omega)
                by_cases ht : (2305843009213693951 - (c' - 48)) / 10 < N
                · have hst : (numOf ((b.drop k).take (i + 1))).2 = true := by
                    rw [HST.out]; unfold numStep; simp only; rw [etd, if_pos ht]
                  have HV := hid (show RV k (cNum (b.drop k)) (.tuple #[.agg #[.int .i64 3, .string ⟨#[]⟩, .int .i64 N, .int .i64 (k : Nat)], .int .i64 (k : Int), .int .i64 9]) by
                    rw [HCN3.out, HTM.out hst]
                    exact ⟨3, N, k, ⟨#[]⟩, by simp⟩)
                  clear hst etd
                  go_wp2_with (first
                    | (go_at_call 36; refine (rdigit_any _ _).mono ?_; rintro e w' ⟨rfl, hw'⟩; subst w')
                    | (go_at_call 35; refine (rletter_any _ _).mono ?_; rintro e w' ⟨rfl, hw'⟩; subst w'))
                  all_goals refine bodyPost_ret (v := _) (by simp [results, Tryd.results38, go_sem, *]; rfl) rfl ?_
                  all_goals exact ⟨_, rfl, HV.out, bwTwo _ _ _⟩
                · have hst : numOf ((b.drop k).take (i + 1)) = (10 * N + (c' - 48), false) := by
                    rw [HST.out]; unfold numStep; simp only; rw [etd, if_neg (by omega)]
                  have HST2 := hid hst
                  clear hst etd
                  go_wp2_with (first
                    | (go_at_call 36; refine (rdigit_any _ _).mono ?_; rintro e w' ⟨rfl, hw'⟩; subst w')
                    | (go_at_call 35; refine (rletter_any _ _).mono ?_; rintro e w' ⟨rfl, hw'⟩; subst w'))
                  go_roundw
                  case rel => exact ⟨i + 1, by go_num, by omega, by rw [HST2.out], HB2.out, by rw [HST2.out, Int.mul_comm 10 N]⟩
                  case measure => simp [intOf]; omega
              · obtain rfl : i = m := by omega
                have HV := hid (show RV k (cNum (b.drop k)) (.tuple #[.agg #[.int .i64 3, .string ⟨#[]⟩, .int .i64 (numOf ((b.drop k).take i)).1, .int .i64 (k : Nat)], .int .i64 ((k : Int) + i), .int .i64 0]) by
                  rw [HCN3.out, hF]
                  simp [RV, strOf_nil])
                have hlim : ¬ ((k : Int) + i < (k : Int) + i) := by omega
                clear hF HCN3
                generalize (numOf ((b.drop k).take i)).1 = N at *
                go_wp2_with (first
                  | (go_at_call 36; refine (rdigit_any _ _).mono ?_; rintro e w' ⟨rfl, hw'⟩; subst w')
                  | (go_at_call 35; refine (rletter_any _ _).mono ?_; rintro e w' ⟨rfl, hw'⟩; subst w'))
                all_goals refine bodyPost_ret (v := _) (by simp [results, Tryd.results38, go_sem, *]; rfl) rfl ?_
                all_goals exact ⟨_, rfl, HV.out, bwTwo _ _ _⟩
    · have hc := HC.out _ hlt
      have hlt2 : ((k + m : Nat) : Int) < (b.length : Int) := by omega
      have HG1 := hid hg1
      clear hm1 hle hg1
      generalize b[k + m] = c at hc hp
      go_wp2_with (first
        | (go_at_call 36; refine (rdigit_any _ _).mono ?_; rintro e w' ⟨rfl, hw'⟩; subst w')
        | (go_at_call 35; refine (rletter_any _ _).mono ?_; rintro e w' ⟨rfl, hw'⟩; subst w'))
      go_roundw
      case rel => exact ⟨m + 1, by go_num, HG1.out, trivial⟩
      case measure => simp [intOf]; omega

end Go.Proofs.YtdhkcdehedbpcaaDoor

set_option linter.unusedSimpArgs false
set_option linter.unusedVariables false
set_option maxRecDepth 20000
namespace Go.Proofs.YtdhkcdehedbpcaaDoor
open Go Go.RowKit

def hxs : List Int := [48, 49, 50, 51, 52, 53, 54, 55, 56, 57, 97, 98, 99, 100, 101, 102, 65, 66, 67, 68, 69, 70]

theorem hx_get (i : Nat) (h : i < 22) : hexV (nth hxs i) = some (if 15 < i then (i : Int) - 6 else i) := by
  have : ∀ i : Fin 22, hexV (nth hxs i.val) = some (if 15 < i.val then (i.val : Int) - 6 else i.val) := by decide
  exact this ⟨i, h⟩

theorem hx_none {c : Int} (h : (hxs.all fun s => s != c) = true) : hexV c = none := by
  simp [hxs] at h
  unfold hexV
  rw [if_neg (by omega), if_neg (by omega), if_neg (by omega)]

set_option maxHeartbeats 4000000 in
theorem rhexit_any (c : Int) (w : World) :
    Calls Tryd.prog 67 #[.int .u8 c] w fun e w' => e = .returned (.int .i64 ((hexV c).getD (-1))) ∧ w' = w := by
  have hb : ∀ c ∈ hxs, 0 ≤ c ∧ c ≤ 255 := by decide
  have S := strOf_get hb
  have Z : (strOfNums hxs).size = 22 := rfl
  have SE : strOfNums hxs = ⟨#[48, 49, 50, 51, 52, 53, 54, 55, 56, 57, 97, 98, 99, 100, 101, 102, 65, 66, 67, 68, 69, 70]⟩ := rfl
  clear hb
  go_enter Tryd.func67, Tryd.ntmps67
  rw [← SE]
  clear SE
  generalize strOfNums hxs = x at *
  go_wp2
  go_loopw [4] (fun j wr => ∃ i, i ≤ 22 ∧ j = .int .i64 (i : Nat) ∧ wr = w ∧ (hxs.take i).all (fun s => s != c) = true) (fun j _ => 22 - (intOf j).toNat)
  case atStart => exact ⟨0, Nat.zero_le _, rfl, rfl, by simp⟩
  case round =>
    obtain ⟨i, hi, rfl, hwr, ha⟩ := hrel
    subst wr
    have HA := hid ha
    clear ha
    by_cases hlt : i < 22
    · have hlt2 : (i : Int) < 22 := by omega
      have HG := hid (hx_get i hlt)
      have hgi : hxs[i]? = some (nth hxs i) := by rw [nth_eq (by exact hlt)]; exact List.getElem?_eq_getElem (by exact hlt)
      cases hq : (nth hxs i == c)
      · have hs' : (hxs.take (i + 1)).all (fun s => s != c) = true := by
          rw [all_take_get _ hgi, HA.out]; simpa using hq
        have HS' := hid hs'
        clear hs' hgi
        go_wp2
        go_roundw
        case rel => exact ⟨i + 1, by omega, by go_num, trivial, HS'.out⟩
        case measure => simp [intOf]; omega
      · have hcc : nth hxs i = c := by simpa using hq
        have hf : (hexV c).getD (-1) = if 15 < i then (i : Int) - 6 else i := by rw [← hcc, HG.out]; rfl
        have HF := hid hf
        clear hf hcc hgi HG
        by_cases h15 : 15 < i
        · have h15' : (15 : Int) < (i : Int) := by omega
          go_wp2
          all_goals go_ret
          all_goals exact ⟨ret_int (by rw [HF.out, if_pos h15]), rfl⟩
        · have h15' : ¬ (15 : Int) < (i : Int) := by omega
          go_wp2
          all_goals go_ret
          all_goals exact ⟨ret_int (by rw [HF.out, if_neg h15]), rfl⟩
    · have hf : hexV c = none := by
        have := HA.out
        rw [List.take_of_length_le (by show hxs.length ≤ i; have : hxs.length = 22 := rfl; omega)] at this
        exact hx_none this
      have HF := hid hf
      clear hf
      go_wp2
      all_goals go_ret
      all_goals exact ⟨ret_int (by rw [HF.out]; rfl), rfl⟩

/-- An empty token's block, its text written out. -/
abbrev tkz : Obj := .cells #[.int .i64 0, .string ⟨#[]⟩, .int .i64 0, .int .i64 0] 70

/-- What the document cuts where no name, number or string begins. -/
def sgC (r : List Int) : Cut := match r with | [] => .bad 6 0 | c :: t => if isSg c then cSign (c :: t) else .bad 6 0

theorem sgC_eq (c : Int) (t : List Int) : sgC (c :: t) = if t.head? = some 61 ∧ (c = 61 ∨ c = 33 ∨ c = 60 ∨ c = 62) then .tok 5 [c, 61] 0 2 else if sg1.contains c then .tok 5 [c] 0 1 else if c = 33 then .bad 6 1 else .bad 6 0 := by
  simp only [sgC, cSign]
  by_cases h1 : t.head? = some 61 ∧ (c = 61 ∨ c = 33 ∨ c = 60 ∨ c = 62)
  · have : isSg c = true := by
      rcases h1.2 with rfl | rfl | rfl | rfl <;> decide
    rw [if_pos h1, if_pos h1, if_pos this]
  · rw [if_neg h1, if_neg h1]
    cases hc : sg1.contains c
    · by_cases h33 : c = 33
      · subst h33
        have : isSg 33 = true := by decide
        simp [this]
      · have : isSg c = false := by simp only [isSg, hc, Bool.or_false]; simpa using h33
        simp [this, h33]
    · have : isSg c = true := by simp only [isSg, hc, Bool.or_true]
      simp [this]

theorem s1_get (i : Nat) (h : i < 18) : sg1[i]? = some (nth sg1 i) := by
  rw [nth_eq (by exact h)]; exact List.getElem?_eq_getElem (by exact h)

theorem s1_none {c : Int} (h : (sg1.all fun s => s != c) = true) : sg1.contains c = false := by
  simp [sg1] at h ⊢
  omega

set_option maxHeartbeats 8000000 in
theorem rsign_any (v : Value) (b : List Int) (k : Nat) (w : World) (h : By w v b) (hk : k < b.length) (hm : b.length ≤ 1000000) :
    Calls Tryd.prog 40 #[v, .int .i64 (k : Nat)] w fun e w' => ∃ r, e = .returned r ∧ RV k (sgC (b.drop k)) r ∧ Bw w w' := by
  have HB := hid h
  obtain ⟨g, o, cap, rfl, hcap, hg, hcs⟩ := h.parts hk
  have HC := hid hcs
  have hck0 := hcs k hk
  have hdr : b.drop k = b[k] :: b.drop (k + 1) := List.drop_eq_getElem_cons hk
  have hhd2 : (b.drop (k + 1)).head? = b[k + 1]? := by rw [List.head?_drop]
  have hcs0 : sgC (b.drop k) = if b[k + 1]? = some 61 ∧ (b[k] = 61 ∨ b[k] = 33 ∨ b[k] = 60 ∨ b[k] = 62) then .tok 5 [b[k], 61] 0 2 else if sg1.contains b[k] then .tok 5 [b[k]] 0 1 else if b[k] = 33 then .bad 6 1 else .bad 6 0 := by
    rw [hdr, sgC_eq, hhd2]
  have hck : ¬ cap = k := by omega
  have hkl : (k : Int) < (b.length : Int) := by omega
  have HCS := hid hcs0
  have htk1 : (b.drop k).take 1 = [b[k]] := by rw [hdr]; rfl
  have htk2 : b[k + 1]? = some 61 → (b.drop k).take 2 = [b[k], 61] := by
    intro h2
    have hl : k + 1 < b.length := (List.getElem?_eq_some_iff.1 h2).1
    rw [hdr, List.drop_eq_getElem_cons hl]
    have : b[k + 1] = 61 := by rw [List.getElem?_eq_getElem hl] at h2; exact Option.some.inj h2
    simp [this]
  have HT1 := hid htk1
  have HT2 := hid htk2
  clear h hcs hcs0 hdr hhd2 htk1 htk2
  generalize b[k] = c at hck0 HCS HT1 HT2
  by_cases h2 : b[k + 1]? = some 61
  · have hl : k + 1 < b.length := (List.getElem?_eq_some_iff.1 h2).1
    have hc1 : w.cell? ⟨g, o + (k + 1), none⟩ = some (.int .u8 61) := by
      rw [HC.out _ hl]
      rw [List.getElem?_eq_getElem hl] at h2
      rw [Option.some.inj h2]
    have hl2 : (k : Int) + 1 < (b.length : Int) := by omega
    by_cases hq : c = 61 ∨ c = 33 ∨ c = 60 ∨ c = 62
    · have hconv := ((HB.out.bw (Bw.alloc (Bw.alloc (Bw.refl w) tkz) (.cells #[.int .i64 5, .string ⟨#[]⟩, .int .i64 0, .int .i64 (k : Nat)] 70))).conv k 2 (cap - k) (by omega))
      rw [HT2.out h2] at hconv
      have HV := hid (show RV k (sgC (b.drop k)) (.tuple #[.agg #[.int .i64 5, .string (strOfNums [c, 61]), .int .i64 0, .int .i64 (k : Nat)], .int .i64 ((k : Int) + 2), .int .i64 0]) by
        rw [HCS.out, if_pos ⟨h2, hq⟩]
        simp [RV])
      clear h2 HCS
      rcases hq with rfl | rfl | rfl | rfl
      all_goals
        go_enter Tryd.func40, Tryd.ntmps40
        go_wp2
        all_goals refine bodyPost_ret (v := _) (by simp [results, Tryd.results40, go_sem, *]; rfl) rfl ?_
        all_goals exact ⟨_, rfl, HV.out, bwTwo _ _ _⟩
    · have hA : ¬ (b[k + 1]? = some 61 ∧ (c = 61 ∨ c = 33 ∨ c = 60 ∨ c = 62)) := fun h => hq h.2
      have q1 : (c == 61) = false := by simp; omega
      have q2 : (c == 33) = false := by simp; omega
      have q3 : (c == 60) = false := by simp; omega
      have q4 : (c == 62) = false := by simp; omega
      clear h2 hq
      have HCS2 := hid (show sgC (b.drop k) = if sg1.contains c then .tok 5 [c] 0 1 else if c = 33 then .bad 6 1 else .bad 6 0 by rw [HCS.out, if_neg hA])
      have hconv := ((HB.out.bw (Bw.alloc (Bw.alloc (Bw.refl w) tkz) (.cells #[.int .i64 5, .string ⟨#[]⟩, .int .i64 0, .int .i64 (k : Nat)] 70))).conv k 1 (cap - k) (by omega))
      rw [HT1.out] at hconv
      have hb : ∀ c ∈ sg1, 0 ≤ c ∧ c ≤ 255 := by decide
      have S := strOf_get hb
      have Z : (strOfNums sg1).size = 18 := rfl
      have SE : strOfNums sg1 = ⟨#[43, 45, 42, 47, 37, 60, 62, 61, 40, 41, 91, 93, 123, 125, 44, 59, 58, 46]⟩ := rfl
      clear hb hA HCS HT2
      all_goals
        go_enter Tryd.func40, Tryd.ntmps40
        rw [← SE]
        clear SE
        generalize strOfNums sg1 = x at *
        go_wp2
        go_loopw [10] (fun j wr => ∃ i, i ≤ 18 ∧ j = .int .i64 (i : Nat) ∧ wr = (w.alloc tkz).alloc (.cells #[.int .i64 5, .string ⟨#[]⟩, .int .i64 0, .int .i64 (k : Nat)] 70) ∧ (sg1.take i).all (fun s => s != c) = true) (fun j _ => 18 - (intOf j).toNat)
        case atStart => exact ⟨0, Nat.zero_le _, rfl, rfl, by simp⟩
        case round =>
          obtain ⟨i, hi, rfl, hwr, ha⟩ := hrel
          subst wr
          have HA := hid ha
          clear ha
          by_cases hlt : i < 18
          · have hlt2 : (i : Int) < 18 := by omega
            have hgi := s1_get i hlt
            cases hq : (nth sg1 i == c)
            · have hs' : (sg1.take (i + 1)).all (fun s => s != c) = true := by
                rw [all_take_get _ hgi, HA.out]; simpa using hq
              have HS' := hid hs'
              clear hs' hgi
              go_wp2
              go_roundw
              case rel => exact ⟨i + 1, by omega, by go_num, trivial, HS'.out⟩
              case measure => simp [intOf]; omega
            · have hcc : sg1.contains c = true := by
                have : nth sg1 i = c := by simpa using hq
                rw [← this]; simpa using List.mem_of_getElem? hgi
              have HV := hid (show RV k (sgC (b.drop k)) (.tuple #[.agg #[.int .i64 5, .string (strOfNums [c]), .int .i64 0, .int .i64 (k : Nat)], .int .i64 ((k : Int) + 1), .int .i64 0]) by
                rw [HCS2.out, hcc]
                simp [RV])
              clear hcc hgi
              go_wp2
              all_goals refine bodyPost_ret (v := _) (by simp [results, Tryd.results40, go_sem, *]; rfl) rfl ?_
              all_goals exact ⟨_, rfl, HV.out, bwTwo _ _ _⟩
          · have hcc : sg1.contains c = false := by
              have := HA.out
              rw [List.take_of_length_le (by show sg1.length ≤ i; have : sg1.length = 18 := rfl; omega)] at this
              exact s1_none this
            have HV := hid (show RV k (sgC (b.drop k)) (.tuple #[.agg #[.int .i64 5, .string ⟨#[]⟩, .int .i64 0, .int .i64 (k : Nat)], .int .i64 (k : Int), .int .i64 6]) by
              rw [HCS2.out, hcc, if_neg (by simp), if_neg (by simpa using q2)]
              exact ⟨5, 0, k, ⟨#[]⟩, by simp⟩)
            clear hcc
            go_wp2
            all_goals refine bodyPost_ret (v := _) (by simp [results, Tryd.results40, go_sem, *]; rfl) rfl ?_
            all_goals exact ⟨_, rfl, HV.out, bwTwo _ _ _⟩
  · have hA : ¬ (b[k + 1]? = some 61 ∧ (c = 61 ∨ c = 33 ∨ c = 60 ∨ c = 62)) := fun h => h2 h.1
    have hcase : (∃ d, w.cell? ⟨g, o + (k + 1), none⟩ = some (.int .u8 d) ∧ (d == 61) = false ∧ (k : Int) + 1 < (b.length : Int)) ∨ ¬ ((k : Int) + 1 < (b.length : Int)) := by
      by_cases hl : k + 1 < b.length
      · refine .inl ⟨_, HC.out _ hl, ?_, by omega⟩
        rw [beq_eq_false_iff_ne]
        intro h
        exact h2 (by rw [List.getElem?_eq_getElem hl, h])
      · exact .inr (by omega)
    clear h2
    have HCS2 := hid (show sgC (b.drop k) = if sg1.contains c then .tok 5 [c] 0 1 else if c = 33 then .bad 6 1 else .bad 6 0 by rw [HCS.out, if_neg hA])
    have hconv := ((HB.out.bw (Bw.alloc (Bw.alloc (Bw.refl w) tkz) (.cells #[.int .i64 5, .string ⟨#[]⟩, .int .i64 0, .int .i64 (k : Nat)] 70))).conv k 1 (cap - k) (by omega))
    rw [HT1.out] at hconv
    have hb : ∀ c ∈ sg1, 0 ≤ c ∧ c ≤ 255 := by decide
    have S := strOf_get hb
    have Z : (strOfNums sg1).size = 18 := rfl
    have SE : strOfNums sg1 = ⟨#[43, 45, 42, 47, 37, 60, 62, 61, 40, 41, 91, 93, 123, 125, 44, 59, 58, 46]⟩ := rfl
    clear hb hA HCS HT2
    rcases hcase with ⟨d, hc1, hd, hl2⟩ | hl2
    all_goals
      go_enter Tryd.func40, Tryd.ntmps40
      rw [← SE]
      clear SE
      generalize strOfNums sg1 = x at *
      go_wp2
      go_loopw [10] (fun j wr => ∃ i, i ≤ 18 ∧ j = .int .i64 (i : Nat) ∧ wr = (w.alloc tkz).alloc (.cells #[.int .i64 5, .string ⟨#[]⟩, .int .i64 0, .int .i64 (k : Nat)] 70) ∧ (sg1.take i).all (fun s => s != c) = true) (fun j _ => 18 - (intOf j).toNat)
      case atStart => exact ⟨0, Nat.zero_le _, rfl, rfl, by simp⟩
      case round =>
        obtain ⟨i, hi, rfl, hwr, ha⟩ := hrel
        subst wr
        have HA := hid ha
        clear ha
        by_cases hlt : i < 18
        · have hlt2 : (i : Int) < 18 := by omega
          have hgi := s1_get i hlt
          cases hq : (nth sg1 i == c)
          · have hs' : (sg1.take (i + 1)).all (fun s => s != c) = true := by
              rw [all_take_get _ hgi, HA.out]; simpa using hq
            have HS' := hid hs'
            clear hs' hgi
            go_wp2
            go_roundw
            case rel => exact ⟨i + 1, by omega, by go_num, trivial, HS'.out⟩
            case measure => simp [intOf]; omega
          · have hcc : sg1.contains c = true := by
              have : nth sg1 i = c := by simpa using hq
              rw [← this]; simpa using List.mem_of_getElem? hgi
            have HV := hid (show RV k (sgC (b.drop k)) (.tuple #[.agg #[.int .i64 5, .string (strOfNums [c]), .int .i64 0, .int .i64 (k : Nat)], .int .i64 ((k : Int) + 1), .int .i64 0]) by
              rw [HCS2.out, hcc]
              simp [RV])
            clear hcc hgi
            go_wp2
            all_goals refine bodyPost_ret (v := _) (by simp [results, Tryd.results40, go_sem, *]; rfl) rfl ?_
            all_goals exact ⟨_, rfl, HV.out, bwTwo _ _ _⟩
        · have hcc : sg1.contains c = false := by
            have := HA.out
            rw [List.take_of_length_le (by show sg1.length ≤ i; have : sg1.length = 18 := rfl; omega)] at this
            exact s1_none this
          cases q2 : (c == 33)
          · have HV := hid (show RV k (sgC (b.drop k)) (.tuple #[.agg #[.int .i64 5, .string ⟨#[]⟩, .int .i64 0, .int .i64 (k : Nat)], .int .i64 (k : Int), .int .i64 6]) by
              rw [HCS2.out, hcc, if_neg (by simp), if_neg (by simpa using q2)]
              exact ⟨5, 0, k, ⟨#[]⟩, by simp⟩)
            clear hcc
            go_wp2
            all_goals refine bodyPost_ret (v := _) (by simp [results, Tryd.results40, go_sem, *]; rfl) rfl ?_
            all_goals exact ⟨_, rfl, HV.out, bwTwo _ _ _⟩
          · have HV := hid (show RV k (sgC (b.drop k)) (.tuple #[.agg #[.int .i64 5, .string ⟨#[]⟩, .int .i64 0, .int .i64 (k : Nat)], .int .i64 ((k : Int) + 1), .int .i64 6]) by
              rw [HCS2.out, hcc, if_neg (by simp), if_pos (by simpa using q2)]
              exact ⟨5, 0, k, ⟨#[]⟩, by simp⟩)
            clear hcc
            go_wp2
            all_goals refine bodyPost_ret (v := _) (by simp [results, Tryd.results40, go_sem, *]; rfl) rfl ?_
            all_goals exact ⟨_, rfl, HV.out, bwTwo _ _ _⟩

end Go.Proofs.YtdhkcdehedbpcaaDoor

set_option linter.unusedSimpArgs false
set_option linter.unusedVariables false
set_option maxRecDepth 20000
namespace Go.Proofs.YtdhkcdehedbpcaaDoor
open Go Go.RowKit

/-- What the document cuts at a place. -/
def rcut (r : List Int) : Cut :=
  match r with
  | [] => .bad 6 0
  | c :: t => if isLt c then cName r else if isDg c then cNum r else if c = 34 then cStr (t.length + 1) t [] 1 else sgC r

theorem rcut_eq {c : Int} {t : List Int} (h : begn c = true) : rcut (c :: t) = cut (c :: t) := by
  simp only [rcut, cut]
  split
  · rfl
  · split
    · rfl
    · split
      · rfl
      · rename_i h1 h2 h3
        have : isSg c = true := by simpa [begn, h1, h2, h3] using h
        simp [sgC, this]

theorem rcut_no {c : Int} {t : List Int} (h : begn c = false) : rcut (c :: t) = .bad 6 0 := by
  simp [begn] at h
  obtain ⟨⟨⟨h1, h2⟩, h3⟩, h4⟩ := h
  simp [rcut, sgC, h1, h2, h3, h4]

/-- One token, or the fault, from a place at which neither a blank nor a remark is. -/
theorem lex_step {b : List Int} {k : Nat} (hk : k < b.length) (h1 : isBl b[k] = false) (h2 : b[k] ≠ 35) (acc : List ATok) (ha : acc.length ≠ 16384) (f : Nat) (hf : (b.drop k).length < f) :
    (∀ e off, rcut (b.drop k) = .bad e off → lexF f (b.drop k) k acc = ([], e, k + off)) ∧
    (∀ kd x n len, rcut (b.drop k) = .tok kd x n len → 1 ≤ len ∧ k + len ≤ b.length ∧ ∃ f', (b.drop (k + len)).length < f' ∧ lexF f (b.drop k) k acc = lexF f' (b.drop (k + len)) (k + len) (acc ++ [(kd, x, n, (k : Int))])) := by
  obtain ⟨f', rfl⟩ : ∃ f', f = f' + 1 := ⟨f - 1, by omega⟩
  have hr : b.drop k = b[k] :: b.drop (k + 1) := List.drop_eq_getElem_cons hk
  have hl : (b.drop k).length = b.length - k := List.length_drop
  rw [hr] at hf ⊢
  cases hg : begn b[k]
  · rw [rcut_no hg]
    refine ⟨fun e off h => ?_, fun kd x n len h => by cases h⟩
    cases h
    rw [lexF_form h1 h2 hg]; rfl
  · rw [rcut_eq hg]
    refine ⟨fun e off h => lexF_bad h1 h2 hg _ _ _ _ ha h, fun kd x n len h => ?_⟩
    have hlen := cut_len h
    rw [← hr, hl] at hlen
    refine ⟨hlen.1, by omega, f', ?_, ?_⟩
    · rw [← hr, hl] at hf; rw [List.length_drop]; omega
    · rw [lexF_tok h1 h2 hg _ _ _ _ ha h, ← hr, List.drop_drop]

end Go.Proofs.YtdhkcdehedbpcaaDoor

