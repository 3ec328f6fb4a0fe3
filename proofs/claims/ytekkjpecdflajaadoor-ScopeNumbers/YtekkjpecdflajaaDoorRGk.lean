/- The document's signs and hexadecimal digits: the contracts. -/
import Derived.Test.YtekkjpecdflajaaDoorRFk
set_option linter.unusedSimpArgs false
set_option linter.unusedVariables false
set_option maxRecDepth 20000
namespace Go.Proofs.YtekkjpecdflajaaDoor
open Go Go.RowKit

def hxs : List Int := [48, 49, 50, 51, 52, 53, 54, 55, 56, 57, 97, 98, 99, 100, 101, 102, 65, 66, 67, 68, 69, 70]

theorem hx_get (i : Nat) (h : i < 22) : hexV (nth hxs i) = some (if 15 < i then (i : Int) - 6 else i) := by
  have : ∀ i : Fin 22, hexV (nth hxs i.val) = some (if 15 < i.val then (i.val : Int) - 6 else i.val) := by decide
  exact this ⟨i, h⟩

theorem hx_none {c : Int} (h : (hxs.all fun s => s != c) = true) : hexV c = none := by
  simp [hxs] at h
  unfold hexV
  rw [if_neg (by omega), if_neg (by omega), if_neg (by omega)]

set_option maxHeartbeats 4000000 in
theorem rhexit_any (c : Int) (w : World) :
    Calls Tryd.prog 46 #[.int .u8 c] w fun e w' => e = .returned (.int .i64 ((hexV c).getD (-1))) ∧ w' = w := by
  have hb : ∀ c ∈ hxs, 0 ≤ c ∧ c ≤ 255 := by decide
  have S := strOf_get hb
  have Z : (strOfNums hxs).size = 22 := rfl
  have SE : strOfNums hxs = ⟨#[48, 49, 50, 51, 52, 53, 54, 55, 56, 57, 97, 98, 99, 100, 101, 102, 65, 66, 67, 68, 69, 70]⟩ := rfl
  clear hb
  go_enter Tryd.func46, Tryd.ntmps46
  rw [← SE]
  clear SE
  generalize strOfNums hxs = x at *
  go_wp2
  go_loopw [4] (fun j wr => ∃ i, i ≤ 22 ∧ j = .int .i64 (i : Nat) ∧ wr = w ∧ (hxs.take i).all (fun s => s != c) = true) (fun j _ => 22 - (intOf j).toNat)
  case atStart => exact ⟨0, Nat.zero_le _, rfl, rfl, by simp⟩
  case round =>
    obtain ⟨i, hi, rfl, hwr, ha⟩ := hrel
    subst wr
    have HA := hid ha
    clear ha
    by_cases hlt : i < 22
    · have hlt2 : (i : Int) < 22 := by omega
      have HG := hid (hx_get i hlt)
      have hgi : hxs[i]? = some (nth hxs i) := by rw [nth_eq (by exact hlt)]; exact List.getElem?_eq_getElem (by exact hlt)
      cases hq : (nth hxs i == c)
      · have hs' : (hxs.take (i + 1)).all (fun s => s != c) = true := by
          rw [all_take_get _ hgi, HA.out]; simpa using hq
        have HS' := hid hs'
        clear hs' hgi
        go_wp2
        go_roundw
        case rel => exact ⟨i + 1, by omega, by go_num, trivial, HS'.out⟩
        case measure => simp [intOf]; omega
      · have hcc : nth hxs i = c := by simpa using hq
        have hf : (hexV c).getD (-1) = if 15 < i then (i : Int) - 6 else i := by rw [← hcc, HG.out]; rfl
        have HF := hid hf
        clear hf hcc hgi HG
        by_cases h15 : 15 < i
        · have h15' : (15 : Int) < (i : Int) := by omega
          go_wp2
          all_goals go_ret
          all_goals exact ⟨ret_int (by rw [HF.out, if_pos h15]), rfl⟩
        · have h15' : ¬ (15 : Int) < (i : Int) := by omega
          go_wp2
          all_goals go_ret
          all_goals exact ⟨ret_int (by rw [HF.out, if_neg h15]), rfl⟩
    · have hf : hexV c = none := by
        have := HA.out
        rw [List.take_of_length_le (by show hxs.length ≤ i; have : hxs.length = 22 := rfl; omega)] at this
        exact hx_none this
      have HF := hid hf
      clear hf
      go_wp2
      all_goals go_ret
      all_goals exact ⟨ret_int (by rw [HF.out]; rfl), rfl⟩

/-- An empty token's block, its text written out. -/
abbrev tkz : Obj := .cells #[.int .i64 0, .string ⟨#[]⟩, .int .i64 0, .int .i64 0] 56

/-- What the document cuts where no name, number or string begins. -/
def sgC (r : List Int) : Cut := match r with | [] => .bad 6 0 | c :: t => if isSg c then cSign (c :: t) else .bad 6 0

theorem sgC_eq (c : Int) (t : List Int) : sgC (c :: t) = if t.head? = some 61 ∧ (c = 61 ∨ c = 33 ∨ c = 60 ∨ c = 62) then .tok 5 [c, 61] 0 2 else if sg1.contains c then .tok 5 [c] 0 1 else if c = 33 then .bad 6 1 else .bad 6 0 := by
  simp only [sgC, cSign]
  by_cases h1 : t.head? = some 61 ∧ (c = 61 ∨ c = 33 ∨ c = 60 ∨ c = 62)
  · have : isSg c = true := by
      rcases h1.2 with rfl | rfl | rfl | rfl <;> decide
    rw [if_pos h1, if_pos h1, if_pos this]
  · rw [if_neg h1, if_neg h1]
    cases hc : sg1.contains c
    · by_cases h33 : c = 33
      · subst h33
        have : isSg 33 = true := by decide
        simp [this]
      · have : isSg c = false := by simp only [isSg, hc, Bool.or_false]; simpa using h33
        simp [this, h33]
    · have : isSg c = true := by simp only [isSg, hc, Bool.or_true]
      simp [this]

theorem s1_get (i : Nat) (h : i < 18) : sg1[i]? = some (nth sg1 i) := by
  rw [nth_eq (by exact h)]; exact List.getElem?_eq_getElem (by exact h)

theorem s1_none {c : Int} (h : (sg1.all fun s => s != c) = true) : sg1.contains c = false := by
  simp [sg1] at h ⊢
  omega

set_option maxHeartbeats 8000000 in
theorem rsign_any (v : Value) (b : List Int) (k : Nat) (w : World) (h : By w v b) (hk : k < b.length) (hm : b.length ≤ 1000000) :
    Calls Tryd.prog 26 #[v, .int .i64 (k : Nat)] w fun e w' => ∃ r, e = .returned r ∧ RV k (sgC (b.drop k)) r ∧ Bw w w' := by
  have HB := hid h
  obtain ⟨g, o, cap, rfl, hcap, hg, hcs⟩ := h.parts hk
  have HC := hid hcs
  have hck0 := hcs k hk
  have hdr : b.drop k = b[k] :: b.drop (k + 1) := List.drop_eq_getElem_cons hk
  have hhd2 : (b.drop (k + 1)).head? = b[k + 1]? := by rw [List.head?_drop]
  have hcs0 : sgC (b.drop k) = if b[k + 1]? = some 61 ∧ (b[k] = 61 ∨ b[k] = 33 ∨ b[k] = 60 ∨ b[k] = 62) then .tok 5 [b[k], 61] 0 2 else if sg1.contains b[k] then .tok 5 [b[k]] 0 1 else if b[k] = 33 then .bad 6 1 else .bad 6 0 := by
    rw [hdr, sgC_eq, hhd2]
  have hck : ¬ cap = k := by omega
  have hkl : (k : Int) < (b.length : Int) := by omega
  have HCS := hid hcs0
  have htk1 : (b.drop k).take 1 = [b[k]] := by rw [hdr]; rfl
  have htk2 : b[k + 1]? = some 61 → (b.drop k).take 2 = [b[k], 61] := by
    intro h2
    have hl : k + 1 < b.length := (List.getElem?_eq_some_iff.1 h2).1
    rw [hdr, List.drop_eq_getElem_cons hl]
    have : b[k + 1] = 61 := by rw [List.getElem?_eq_getElem hl] at h2; exact Option.some.inj h2
    simp [this]
  have HT1 := hid htk1
  have HT2 := hid htk2
  clear h hcs hcs0 hdr hhd2 htk1 htk2
  generalize b[k] = c at hck0 HCS HT1 HT2
  by_cases h2 : b[k + 1]? = some 61
  · have hl : k + 1 < b.length := (List.getElem?_eq_some_iff.1 h2).1
    have hc1 : w.cell? ⟨g, o + (k + 1), none⟩ = some (.int .u8 61) := by
      rw [HC.out _ hl]
      rw [List.getElem?_eq_getElem hl] at h2
      rw [Option.some.inj h2]
    have hl2 : (k : Int) + 1 < (b.length : Int) := by omega
    by_cases hq : c = 61 ∨ c = 33 ∨ c = 60 ∨ c = 62
    · have hconv := ((HB.out.bw (Bw.alloc (Bw.alloc (Bw.refl w) tkz) (.cells #[.int .i64 5, .string ⟨#[]⟩, .int .i64 0, .int .i64 (k : Nat)] 56))).conv k 2 (cap - k) (by omega))
      rw [HT2.out h2] at hconv
      have HV := hid (show RV k (sgC (b.drop k)) (.tuple #[.agg #[.int .i64 5, .string (strOfNums [c, 61]), .int .i64 0, .int .i64 (k : Nat)], .int .i64 ((k : Int) + 2), .int .i64 0]) by
        rw [HCS.out, if_pos ⟨h2, hq⟩]
        simp [RV])
      clear h2 HCS
      rcases hq with rfl | rfl | rfl | rfl
      all_goals
        go_enter Tryd.func26, Tryd.ntmps26
        go_wp2
        all_goals refine bodyPost_ret (v := _) (by simp [results, Tryd.results26, go_sem, *]; rfl) rfl ?_
        all_goals exact ⟨_, rfl, HV.out, bwTwo _ _ _⟩
    · have hA : ¬ (b[k + 1]? = some 61 ∧ (c = 61 ∨ c = 33 ∨ c = 60 ∨ c = 62)) := fun h => hq h.2
      have q1 : (c == 61) = false := by simp; omega
      have q2 : (c == 33) = false := by simp; omega
      have q3 : (c == 60) = false := by simp; omega
      have q4 : (c == 62) = false := by simp; omega
      clear h2 hq
      have HCS2 := hid (show sgC (b.drop k) = if sg1.contains c then .tok 5 [c] 0 1 else if c = 33 then .bad 6 1 else .bad 6 0 by rw [HCS.out, if_neg hA])
      have hconv := ((HB.out.bw (Bw.alloc (Bw.alloc (Bw.refl w) tkz) (.cells #[.int .i64 5, .string ⟨#[]⟩, .int .i64 0, .int .i64 (k : Nat)] 56))).conv k 1 (cap - k) (by omega))
      rw [HT1.out] at hconv
      have hb : ∀ c ∈ sg1, 0 ≤ c ∧ c ≤ 255 := by decide
      have S := strOf_get hb
      have Z : (strOfNums sg1).size = 18 := rfl
      have SE : strOfNums sg1 = ⟨#[43, 45, 42, 47, 37, 60, 62, 61, 40, 41, 91, 93, 123, 125, 44, 59, 58, 46]⟩ := rfl
      clear hb hA HCS HT2
      all_goals
        go_enter Tryd.func26, Tryd.ntmps26
        rw [← SE]
        clear SE
        generalize strOfNums sg1 = x at *
        go_wp2
        go_loopw [10] (fun j wr => ∃ i, i ≤ 18 ∧ j = .int .i64 (i : Nat) ∧ wr = (w.alloc tkz).alloc (.cells #[.int .i64 5, .string ⟨#[]⟩, .int .i64 0, .int .i64 (k : Nat)] 56) ∧ (sg1.take i).all (fun s => s != c) = true) (fun j _ => 18 - (intOf j).toNat)
        case atStart => exact ⟨0, Nat.zero_le _, rfl, rfl, by simp⟩
        case round =>
          obtain ⟨i, hi, rfl, hwr, ha⟩ := hrel
          subst wr
          have HA := hid ha
          clear ha
          by_cases hlt : i < 18
          · have hlt2 : (i : Int) < 18 := by omega
            have hgi := s1_get i hlt
            cases hq : (nth sg1 i == c)
            · have hs' : (sg1.take (i + 1)).all (fun s => s != c) = true := by
                rw [all_take_get _ hgi, HA.out]; simpa using hq
              have HS' := hid hs'
              clear hs' hgi
              go_wp2
              go_roundw
              case rel => exact ⟨i + 1, by omega, by go_num, trivial, HS'.out⟩
              case measure => simp [intOf]; omega
            · have hcc : sg1.contains c = true := by
                have : nth sg1 i = c := by simpa using hq
                rw [← this]; simpa using List.mem_of_getElem? hgi
              have HV := hid (show RV k (sgC (b.drop k)) (.tuple #[.agg #[.int .i64 5, .string (strOfNums [c]), .int .i64 0, .int .i64 (k : Nat)], .int .i64 ((k : Int) + 1), .int .i64 0]) by
                rw [HCS2.out, hcc]
                simp [RV])
              clear hcc hgi
              go_wp2
              all_goals refine bodyPost_ret (v := _) (by simp [results, Tryd.results26, go_sem, *]; rfl) rfl ?_
              all_goals exact ⟨_, rfl, HV.out, bwTwo _ _ _⟩
          · have hcc : sg1.contains c = false := by
              have := HA.out
              rw [List.take_of_length_le (by show sg1.length ≤ i; have : sg1.length = 18 := rfl; omega)] at this
              exact s1_none this
            have HV := hid (show RV k (sgC (b.drop k)) (.tuple #[.agg #[.int .i64 5, .string ⟨#[]⟩, .int .i64 0, .int .i64 (k : Nat)], .int .i64 (k : Int), .int .i64 6]) by
              rw [HCS2.out, hcc, if_neg (by simp), if_neg (by simpa using q2)]
              exact ⟨5, 0, k, ⟨#[]⟩, by simp⟩)
            clear hcc
            go_wp2
            all_goals refine bodyPost_ret (v := _) (by simp [results, Tryd.results26, go_sem, *]; rfl) rfl ?_
            all_goals exact ⟨_, rfl, HV.out, bwTwo _ _ _⟩
  · have hA : ¬ (b[k + 1]? = some 61 ∧ (c = 61 ∨ c = 33 ∨ c = 60 ∨ c = 62)) := fun h => h2 h.1
    have hcase : (∃ d, w.cell? ⟨g, o + (k + 1), none⟩ = some (.int .u8 d) ∧ (d == 61) = false ∧ (k : Int) + 1 < (b.length : Int)) ∨ ¬ ((k : Int) + 1 < (b.length : Int)) := by
      by_cases hl : k + 1 < b.length
      · refine .inl ⟨_, HC.out _ hl, ?_, by omega⟩
        rw [beq_eq_false_iff_ne]
        intro h
        exact h2 (by rw [List.getElem?_eq_getElem hl, h])
      · exact .inr (by omega)
    clear h2
    have HCS2 := hid (show sgC (b.drop k) = if sg1.contains c then .tok 5 [c] 0 1 else if c = 33 then .bad 6 1 else .bad 6 0 by rw [HCS.out, if_neg hA])
    have hconv := ((HB.out.bw (Bw.alloc (Bw.alloc (Bw.refl w) tkz) (.cells #[.int .i64 5, .string ⟨#[]⟩, .int .i64 0, .int .i64 (k : Nat)] 56))).conv k 1 (cap - k) (by omega))
    rw [HT1.out] at hconv
    have hb : ∀ c ∈ sg1, 0 ≤ c ∧ c ≤ 255 := by decide
    have S := strOf_get hb
    have Z : (strOfNums sg1).size = 18 := rfl
    have SE : strOfNums sg1 = ⟨#[43, 45, 42, 47, 37, 60, 62, 61, 40, 41, 91, 93, 123, 125, 44, 59, 58, 46]⟩ := rfl
    clear hb hA HCS HT2
    rcases hcase with ⟨d, hc1, hd, hl2⟩ | hl2
    all_goals
      go_enter Tryd.func26, Tryd.ntmps26
      rw [← SE]
      clear SE
      generalize strOfNums sg1 = x at *
      go_wp2
      go_loopw [10] (fun j wr => ∃ i, i ≤ 18 ∧ j = .int .i64 (i : Nat) ∧ wr = (w.alloc tkz).alloc (.cells #[.int .i64 5, .string ⟨#[]⟩, .int .i64 0, .int .i64 (k : Nat)] 56) ∧ (sg1.take i).all (fun s => s != c) = true) (fun j _ => 18 - (intOf j).toNat)
      case atStart => exact ⟨0, Nat.zero_le _, rfl, rfl, by simp⟩
      case round =>
        obtain ⟨i, hi, rfl, hwr, ha⟩ := hrel
        subst wr
        have HA := hid ha
        clear ha
        by_cases hlt : i < 18
        · have hlt2 : (i : Int) < 18 := by omega
          have hgi := s1_get i hlt
          cases hq : (nth sg1 i == c)
          · have hs' : (sg1.take (i + 1)).all (fun s => s != c) = true := by
              rw [all_take_get _ hgi, HA.out]; simpa using hq
            have HS' := hid hs'
            clear hs' hgi
            go_wp2
            go_roundw
            case rel => exact ⟨i + 1, by omega, by go_num, trivial, HS'.out⟩
            case measure => simp [intOf]; omega
          · have hcc : sg1.contains c = true := by
              have : nth sg1 i = c := by simpa using hq
              rw [← this]; simpa using List.mem_of_getElem? hgi
            have HV := hid (show RV k (sgC (b.drop k)) (.tuple #[.agg #[.int .i64 5, .string (strOfNums [c]), .int .i64 0, .int .i64 (k : Nat)], .int .i64 ((k : Int) + 1), .int .i64 0]) by
              rw [HCS2.out, hcc]
              simp [RV])
            clear hcc hgi
            go_wp2
            all_goals refine bodyPost_ret (v := _) (by simp [results, Tryd.results26, go_sem, *]; rfl) rfl ?_
            all_goals exact ⟨_, rfl, HV.out, bwTwo _ _ _⟩
        · have hcc : sg1.contains c = false := by
            have := HA.out
            rw [List.take_of_length_le (by show sg1.length ≤ i; have : sg1.length = 18 := rfl; omega)] at this
            exact s1_none this
          cases q2 : (c == 33)
          · have HV := hid (show RV k (sgC (b.drop k)) (.tuple #[.agg #[.int .i64 5, .string ⟨#[]⟩, .int .i64 0, .int .i64 (k : Nat)], .int .i64 (k : Int), .int .i64 6]) by
              rw [HCS2.out, hcc, if_neg (by simp), if_neg (by simpa using q2)]
              exact ⟨5, 0, k, ⟨#[]⟩, by simp⟩)
            clear hcc
            go_wp2
            all_goals refine bodyPost_ret (v := _) (by simp [results, Tryd.results26, go_sem, *]; rfl) rfl ?_
            all_goals exact ⟨_, rfl, HV.out, bwTwo _ _ _⟩
          · have HV := hid (show RV k (sgC (b.drop k)) (.tuple #[.agg #[.int .i64 5, .string ⟨#[]⟩, .int .i64 0, .int .i64 (k : Nat)], .int .i64 ((k : Int) + 1), .int .i64 6]) by
              rw [HCS2.out, hcc, if_neg (by simp), if_pos (by simpa using q2)]
              exact ⟨5, 0, k, ⟨#[]⟩, by simp⟩)
            clear hcc
            go_wp2
            all_goals refine bodyPost_ret (v := _) (by simp [results, Tryd.results26, go_sem, *]; rfl) rfl ?_
            all_goals exact ⟨_, rfl, HV.out, bwTwo _ _ _⟩

end Go.Proofs.YtekkjpecdflajaaDoor

