/- The document's signs and hexadecimal digits: the contracts. · The document's strings: the contract. -/
import Derived.Test.YtdhkcdehedbpcaaDoorM6
set_option linter.unusedSimpArgs false
set_option linter.unusedVariables false
set_option maxRecDepth 20000
namespace Go.Proofs.YtdhkcdehedbpcaaDoor
open Go Go.RowKit

def hxs : List Int := [48, 49, 50, 51, 52, 53, 54, 55, 56, 57, 97, 98, 99, 100, 101, 102, 65, 66, 67, 68, 69, 70]

theorem hx_get (i : Nat) (h : i < 22) : hexV (nth hxs i) = some (if 15 < i then (i : Int) - 6 else i) := by
 have : ∀ i : Fin 22, hexV (nth hxs i.val) = some (if 15 < i.val then (i.val : Int) - 6 else i.val) := by decide
 exact this ⟨i, h⟩

theorem hx_none {c : Int} (h : (hxs.all fun s => s != c) = true) : hexV c = none := by
 simp [hxs] at h
 unfold hexV
 rw [if_neg (by omega), if_neg (by omega), if_neg (by omega)]

set_option maxHeartbeats 4000000 in
theorem rhexit_any (c : Int) (w : World) :
  Calls Tryd.prog 67 #[.int .u8 c] w fun e w' => e = .returned (.int .i64 ((hexV c).getD (-1))) ∧ w' = w := by
 have hb : ∀ c ∈ hxs, 0 ≤ c ∧ c ≤ 255 := by decide
 have S := strOf_get hb
 have Z : (strOfNums hxs).size = 22 := rfl
 have SE : strOfNums hxs = ⟨#[48, 49, 50, 51, 52, 53, 54, 55, 56, 57, 97, 98, 99, 100, 101, 102, 65, 66, 67, 68, 69, 70]⟩ := rfl
 clear hb
 go_enter Tryd.func67, Tryd.ntmps67
 rw [← SE]
 clear SE
 generalize strOfNums hxs = x at *
 go_wp2
 go_loopw [4] (fun j wr => ∃ i, i ≤ 22 ∧ j = .int .i64 (i : Nat) ∧ wr = w ∧ (hxs.take i).all (fun s => s != c) = true) (fun j _ => 22 - (intOf j).toNat)
 case atStart => exact ⟨0, Nat.zero_le _, rfl, rfl, by simp⟩
 case round =>
  obtain ⟨i, hi, rfl, hwr, ha⟩ := hrel
  subst wr
  have HA := hid ha
  clear ha
  by_cases hlt : i < 22
  ·have hlt2 : (i : Int) < 22 := by omega
   have HG := hid (hx_get i hlt)
   have hgi : hxs[i]? = some (nth hxs i) := by rw [nth_eq (by exact hlt)]; exact List.getElem?_eq_getElem (by exact hlt)
   cases hq : (nth hxs i == c)
   ·have hs' : (hxs.take (i + 1)).all (fun s => s != c) = true := by
     rw [all_take_get _ hgi, HA.out]; simpa using hq
    have HS' := hid hs'
    clear hs' hgi
    go_wp2
    go_roundw
    case rel => exact ⟨i + 1, by omega, by go_num, trivial, HS'.out⟩
    case measure => simp [intOf]; omega
   ·have hcc : nth hxs i = c := by simpa using hq
    have hf : (hexV c).getD (-1) = if 15 < i then (i : Int) - 6 else i := by rw [← hcc, HG.out]; rfl
    have HF := hid hf
    clear hf hcc hgi HG
    by_cases h15 : 15 < i
    ·have h15' : (15 : Int) < (i : Int) := by omega
     go_wp2
     all_goals go_ret
     all_goals exact ⟨ret_int (by rw [HF.out, if_pos h15]), rfl⟩
    ·have h15' : ¬ (15 : Int) < (i : Int) := by omega
     go_wp2
     all_goals go_ret
     all_goals exact ⟨ret_int (by rw [HF.out, if_neg h15]), rfl⟩
  ·have hf : hexV c = none := by
    have := HA.out
    rw [List.take_of_length_le (by show hxs.length ≤ i; have : hxs.length = 22 := rfl; omega)] at this
    exact hx_none this
   have HF := hid hf
   clear hf
   go_wp2
   all_goals go_ret
   all_goals exact ⟨ret_int (by rw [HF.out]; rfl), rfl⟩

abbrev tkz : Obj := .cells #[.int .i64 0, .string ⟨#[]⟩, .int .i64 0, .int .i64 0] 70

def sgC (r : List Int) : Cut := match r with | [] => .bad 6 0 | c :: t => if isSg c then cSign (c :: t) else .bad 6 0

theorem sgC_eq (c : Int) (t : List Int) : sgC (c :: t) = if t.head? = some 61 ∧ (c = 61 ∨ c = 33 ∨ c = 60 ∨ c = 62) then .tok 5 [c, 61] 0 2 else if sg1.contains c then .tok 5 [c] 0 1 else if c = 33 then .bad 6 1 else .bad 6 0 := by
 simp only [sgC, cSign]
 by_cases h1 : t.head? = some 61 ∧ (c = 61 ∨ c = 33 ∨ c = 60 ∨ c = 62)
 ·have : isSg c = true := by
   rcases h1.2 with rfl | rfl | rfl | rfl <;> decide
  rw [if_pos h1, if_pos h1, if_pos this]
 ·rw [if_neg h1, if_neg h1]
  cases hc : sg1.contains c
  ·by_cases h33 : c = 33
   ·subst h33
    have : isSg 33 = true := by decide
    simp [this]
   ·have : isSg c = false := by simp only [isSg, hc, Bool.or_false]; simpa using h33
    simp [this, h33]
  ·have : isSg c = true := by simp only [isSg, hc, Bool.or_true]
   simp [this]

theorem s1_get (i : Nat) (h : i < 18) : sg1[i]? = some (nth sg1 i) := by
 rw [nth_eq (by exact h)]; exact List.getElem?_eq_getElem (by exact h)

theorem s1_none {c : Int} (h : (sg1.all fun s => s != c) = true) : sg1.contains c = false := by
 simp [sg1] at h ⊢
 omega

set_option maxHeartbeats 8000000 in
theorem rsign_any (v : Value) (b : List Int) (k : Nat) (w : World) (h : By w v b) (hk : k < b.length) (hm : b.length ≤ 1000000) :
  Calls Tryd.prog 40 #[v, .int .i64 (k : Nat)] w fun e w' => ∃ r, e = .returned r ∧ RV k (sgC (b.drop k)) r ∧ Bw w w' := by
 have HB := hid h
 obtain ⟨g, o, cap, rfl, hcap, hg, hcs⟩ := h.parts hk
 have HC := hid hcs
 have hck0 := hcs k hk
 have hdr : b.drop k = b[k] :: b.drop (k + 1) := List.drop_eq_getElem_cons hk
 have hhd2 : (b.drop (k + 1)).head? = b[k + 1]? := by rw [List.head?_drop]
 have hcs0 : sgC (b.drop k) = if b[k + 1]? = some 61 ∧ (b[k] = 61 ∨ b[k] = 33 ∨ b[k] = 60 ∨ b[k] = 62) then .tok 5 [b[k], 61] 0 2 else if sg1.contains b[k] then .tok 5 [b[k]] 0 1 else if b[k] = 33 then .bad 6 1 else .bad 6 0 := by
  rw [hdr, sgC_eq, hhd2]
 have hck : ¬ cap = k := by omega
 have hkl : (k : Int) < (b.length : Int) := by omega
 have HCS := hid hcs0
 have htk1 : (b.drop k).take 1 = [b[k]] := by rw [hdr]; rfl
 have htk2 : b[k + 1]? = some 61 → (b.drop k).take 2 = [b[k], 61] := by
  intro h2
  have hl : k + 1 < b.length := (List.getElem?_eq_some_iff.1 h2).1
  rw [hdr, List.drop_eq_getElem_cons hl]
  have : b[k + 1] = 61 := by rw [List.getElem?_eq_getElem hl] at h2; exact Option.some.inj h2
  simp [this]
 have HT1 := hid htk1
 have HT2 := hid htk2
 clear h hcs hcs0 hdr hhd2 htk1 htk2
 generalize b[k] = c at hck0 HCS HT1 HT2
 by_cases h2 : b[k + 1]? = some 61
 ·have hl : k + 1 < b.length := (List.getElem?_eq_some_iff.1 h2).1
  have hc1 : w.cell? ⟨g, o + (k + 1), none⟩ = some (.int .u8 61) := by
   rw [HC.out _ hl]
   rw [List.getElem?_eq_getElem hl] at h2
   rw [Option.some.inj h2]
  have hl2 : (k : Int) + 1 < (b.length : Int) := by omega
  by_cases hq : c = 61 ∨ c = 33 ∨ c = 60 ∨ c = 62
  ·have hconv := ((HB.out.bw (Bw.alloc (Bw.alloc (Bw.refl w) tkz) (.cells #[.int .i64 5, .string ⟨#[]⟩, .int .i64 0, .int .i64 (k : Nat)] 70))).conv k 2 (cap - k) (by omega))
   rw [HT2.out h2] at hconv
   have HV := hid (show RV k (sgC (b.drop k)) (.tuple #[.agg #[.int .i64 5, .string (strOfNums [c, 61]), .int .i64 0, .int .i64 (k : Nat)], .int .i64 ((k : Int) + 2), .int .i64 0]) by
    rw [HCS.out, if_pos ⟨h2, hq⟩]
    simp [RV])
   clear h2 HCS
   rcases hq with rfl | rfl | rfl | rfl
   all_goals
    go_enter Tryd.func40, Tryd.ntmps40
    go_wp2
    all_goals refine bodyPost_ret (v := _) (by simp [results, Tryd.results40, go_sem, *]; rfl) rfl ?_
    all_goals exact ⟨_, rfl, HV.out, bwTwo _ _ _⟩
  ·have hA : ¬ (b[k + 1]? = some 61 ∧ (c = 61 ∨ c = 33 ∨ c = 60 ∨ c = 62)) := fun h => hq h.2
   have q1 : (c == 61) = false := by simp; omega
   have q2 : (c == 33) = false := by simp; omega
   have q3 : (c == 60) = false := by simp; omega
   have q4 : (c == 62) = false := by simp; omega
   clear h2 hq
   have HCS2 := hid (show sgC (b.drop k) = if sg1.contains c then .tok 5 [c] 0 1 else if c = 33 then .bad 6 1 else .bad 6 0 by rw [HCS.out, if_neg hA])
   have hconv := ((HB.out.bw (Bw.alloc (Bw.alloc (Bw.refl w) tkz) (.cells #[.int .i64 5, .string ⟨#[]⟩, .int .i64 0, .int .i64 (k : Nat)] 70))).conv k 1 (cap - k) (by omega))
   rw [HT1.out] at hconv
   have hb : ∀ c ∈ sg1, 0 ≤ c ∧ c ≤ 255 := by decide
   have S := strOf_get hb
   have Z : (strOfNums sg1).size = 18 := rfl
   have SE : strOfNums sg1 = ⟨#[43, 45, 42, 47, 37, 60, 62, 61, 40, 41, 91, 93, 123, 125, 44, 59, 58, 46]⟩ := rfl
   clear hb hA HCS HT2
   all_goals
    go_enter Tryd.func40, Tryd.ntmps40
    rw [← SE]
    clear SE
    generalize strOfNums sg1 = x at *
    go_wp2
    go_loopw [10] (fun j wr => ∃ i, i ≤ 18 ∧ j = .int .i64 (i : Nat) ∧ wr = (w.alloc tkz).alloc (.cells #[.int .i64 5, .string ⟨#[]⟩, .int .i64 0, .int .i64 (k : Nat)] 70) ∧ (sg1.take i).all (fun s => s != c) = true) (fun j _ => 18 - (intOf j).toNat)
    case atStart => exact ⟨0, Nat.zero_le _, rfl, rfl, by simp⟩
    case round =>
     obtain ⟨i, hi, rfl, hwr, ha⟩ := hrel
     subst wr
     have HA := hid ha
     clear ha
     by_cases hlt : i < 18
     ·have hlt2 : (i : Int) < 18 := by omega
      have hgi := s1_get i hlt
      cases hq : (nth sg1 i == c)
      ·have hs' : (sg1.take (i + 1)).all (fun s => s != c) = true := by
        rw [all_take_get _ hgi, HA.out]; simpa using hq
       have HS' := hid hs'
       clear hs' hgi
       go_wp2
       go_roundw
       case rel => exact ⟨i + 1, by omega, by go_num, trivial, HS'.out⟩
       case measure => simp [intOf]; omega
      ·have hcc : sg1.contains c = true := by
        have : nth sg1 i = c := by simpa using hq
        rw [← this]; simpa using List.mem_of_getElem? hgi
       have HV := hid (show RV k (sgC (b.drop k)) (.tuple #[.agg #[.int .i64 5, .string (strOfNums [c]), .int .i64 0, .int .i64 (k : Nat)], .int .i64 ((k : Int) + 1), .int .i64 0]) by
        rw [HCS2.out, hcc]
        simp [RV])
       clear hcc hgi
       go_wp2
       all_goals refine bodyPost_ret (v := _) (by simp [results, Tryd.results40, go_sem, *]; rfl) rfl ?_
       all_goals exact ⟨_, rfl, HV.out, bwTwo _ _ _⟩
     ·have hcc : sg1.contains c = false := by
       have := HA.out
       rw [List.take_of_length_le (by show sg1.length ≤ i; have : sg1.length = 18 := rfl; omega)] at this
       exact s1_none this
      have HV := hid (show RV k (sgC (b.drop k)) (.tuple #[.agg #[.int .i64 5, .string ⟨#[]⟩, .int .i64 0, .int .i64 (k : Nat)], .int .i64 (k : Int), .int .i64 6]) by
       rw [HCS2.out, hcc, if_neg (by simp), if_neg (by simpa using q2)]
       exact ⟨5, 0, k, ⟨#[]⟩, by simp⟩)
      clear hcc
      go_wp2
      all_goals refine bodyPost_ret (v := _) (by simp [results, Tryd.results40, go_sem, *]; rfl) rfl ?_
      all_goals exact ⟨_, rfl, HV.out, bwTwo _ _ _⟩
 ·have hA : ¬ (b[k + 1]? = some 61 ∧ (c = 61 ∨ c = 33 ∨ c = 60 ∨ c = 62)) := fun h => h2 h.1
  have hcase : (∃ d, w.cell? ⟨g, o + (k + 1), none⟩ = some (.int .u8 d) ∧ (d == 61) = false ∧ (k : Int) + 1 < (b.length : Int)) ∨ ¬ ((k : Int) + 1 < (b.length : Int)) := by
   by_cases hl : k + 1 < b.length
   ·refine .inl ⟨_, HC.out _ hl, ?_, by omega⟩
    rw [beq_eq_false_iff_ne]
    intro h
    exact h2 (by rw [List.getElem?_eq_getElem hl, h])
   ·exact .inr (by omega)
  clear h2
  have HCS2 := hid (show sgC (b.drop k) = if sg1.contains c then .tok 5 [c] 0 1 else if c = 33 then .bad 6 1 else .bad 6 0 by rw [HCS.out, if_neg hA])
  have hconv := ((HB.out.bw (Bw.alloc (Bw.alloc (Bw.refl w) tkz) (.cells #[.int .i64 5, .string ⟨#[]⟩, .int .i64 0, .int .i64 (k : Nat)] 70))).conv k 1 (cap - k) (by omega))
  rw [HT1.out] at hconv
  have hb : ∀ c ∈ sg1, 0 ≤ c ∧ c ≤ 255 := by decide
  have S := strOf_get hb
  have Z : (strOfNums sg1).size = 18 := rfl
  have SE : strOfNums sg1 = ⟨#[43, 45, 42, 47, 37, 60, 62, 61, 40, 41, 91, 93, 123, 125, 44, 59, 58, 46]⟩ := rfl
  clear hb hA HCS HT2
  rcases hcase with ⟨d, hc1, hd, hl2⟩ | hl2
  all_goals
   go_enter Tryd.func40, Tryd.ntmps40
   rw [← SE]
   clear SE
   generalize strOfNums sg1 = x at *
   go_wp2
   go_loopw [10] (fun j wr => ∃ i, i ≤ 18 ∧ j = .int .i64 (i : Nat) ∧ wr = (w.alloc tkz).alloc (.cells #[.int .i64 5, .string ⟨#[]⟩, .int .i64 0, .int .i64 (k : Nat)] 70) ∧ (sg1.take i).all (fun s => s != c) = true) (fun j _ => 18 - (intOf j).toNat)
   case atStart => exact ⟨0, Nat.zero_le _, rfl, rfl, by simp⟩
   case round =>
    obtain ⟨i, hi, rfl, hwr, ha⟩ := hrel
    subst wr
    have HA := hid ha
    clear ha
    by_cases hlt : i < 18
    ·have hlt2 : (i : Int) < 18 := by omega
     have hgi := s1_get i hlt
     cases hq : (nth sg1 i == c)
     ·have hs' : (sg1.take (i + 1)).all (fun s => s != c) = true := by
       rw [all_take_get _ hgi, HA.out]; simpa using hq
      have HS' := hid hs'
      clear hs' hgi
      go_wp2
      go_roundw
      case rel => exact ⟨i + 1, by omega, by go_num, trivial, HS'.out⟩
      case measure => simp [intOf]; omega
     ·have hcc : sg1.contains c = true := by
       have : nth sg1 i = c := by simpa using hq
       rw [← this]; simpa using List.mem_of_getElem? hgi
      have HV := hid (show RV k (sgC (b.drop k)) (.tuple #[.agg #[.int .i64 5, .string (strOfNums [c]), .int .i64 0, .int .i64 (k : Nat)], .int .i64 ((k : Int) + 1), .int .i64 0]) by
       rw [HCS2.out, hcc]
       simp [RV])
      clear hcc hgi
      go_wp2
      all_goals refine bodyPost_ret (v := _) (by simp [results, Tryd.results40, go_sem, *]; rfl) rfl ?_
      all_goals exact ⟨_, rfl, HV.out, bwTwo _ _ _⟩
    ·have hcc : sg1.contains c = false := by
      have := HA.out
      rw [List.take_of_length_le (by show sg1.length ≤ i; have : sg1.length = 18 := rfl; omega)] at this
      exact s1_none this
     cases q2 : (c == 33)
     ·have HV := hid (show RV k (sgC (b.drop k)) (.tuple #[.agg #[.int .i64 5, .string ⟨#[]⟩, .int .i64 0, .int .i64 (k : Nat)], .int .i64 (k : Int), .int .i64 6]) by
       rw [HCS2.out, hcc, if_neg (by simp), if_neg (by simpa using q2)]
       exact ⟨5, 0, k, ⟨#[]⟩, by simp⟩)
      clear hcc
      go_wp2
      all_goals refine bodyPost_ret (v := _) (by simp [results, Tryd.results40, go_sem, *]; rfl) rfl ?_
      all_goals exact ⟨_, rfl, HV.out, bwTwo _ _ _⟩
     ·have HV := hid (show RV k (sgC (b.drop k)) (.tuple #[.agg #[.int .i64 5, .string ⟨#[]⟩, .int .i64 0, .int .i64 (k : Nat)], .int .i64 ((k : Int) + 1), .int .i64 6]) by
       rw [HCS2.out, hcc, if_neg (by simp), if_pos (by simpa using q2)]
       exact ⟨5, 0, k, ⟨#[]⟩, by simp⟩)
      clear hcc
      go_wp2
      all_goals refine bodyPost_ret (v := _) (by simp [results, Tryd.results40, go_sem, *]; rfl) rfl ?_
      all_goals exact ⟨_, rfl, HV.out, bwTwo _ _ _⟩

end Go.Proofs.YtdhkcdehedbpcaaDoor

set_option maxRecDepth 20000
namespace Go.Proofs.YtdhkcdehedbpcaaDoor
open Go Go.RowKit

theorem hexV_cases {c : Int} : (hexV c = none ∧ (hexV c).getD (-1) = -1) ∨ ∃ d, hexV c = some d ∧ (hexV c).getD (-1) = d ∧ 0 ≤ d ∧ d ≤ 15 := by
 cases h : hexV c with
 | none => exact .inl ⟨rfl, rfl⟩
 | some d => exact .inr ⟨d, rfl, rfl, (hexV_bd h).1, (hexV_bd h).2⟩

theorem St.next2 {r : List Int} {i : Nat} {x c d : Int} (h : St r i x) (hi : i < 2) (hr : r[i]? = some c) (hc : hexV c = some d) : St r (i + 1) (x * 16 + d) ∧ 0 ≤ x ∧ x ≤ 15 := by
 have hd := hexV_bd hc
 rcases h with ⟨rfl, rfl⟩ | ⟨rfl, e, t, rfl, h1⟩ | ⟨h, _⟩
 ·refine ⟨.inr (.inl ⟨rfl, ?_⟩), by omega, by omega⟩
  cases r with
  | nil => simp at hr
  | cons f u => simp at hr; subst hr; exact ⟨f, u, rfl, by simpa using hc⟩
 ·have he := hexV_bd h1
  refine ⟨.inr (.inr ⟨rfl, ?_⟩), he.1, he.2⟩
  cases t with
  | nil => simp at hr
  | cons f u => simp at hr; subst hr; exact ⟨e, f, u, x, d, rfl, h1, hc, by omega⟩
 ·omega

theorem St.bd {r : List Int} {x : Int} (h : St r 2 x) : 0 ≤ x ∧ x ≤ 255 := by
 rcases h with ⟨h, _⟩ | ⟨h, _⟩ | ⟨_, c, d, t, p, q, _, h1, h2, rfl⟩
 ·omega
 ·omega
 ·have := hexV_bd h1
  have := hexV_bd h2
  omega

set_option maxRecDepth 100000 in
set_option maxHeartbeats 16000000 in
theorem rtext_any (v : Value) (b : List Int) (k : Nat) (w : World) (h : By w v b) (hk : k < b.length) (hm : b.length ≤ 1000000) (C : Cut) (hC : C = cStr ((b.drop (k + 1)).length + 1) (b.drop (k + 1)) [] 1) :
  Calls Tryd.prog 39 #[v, .int .i64 (k : Nat)] w fun e w' => ∃ r, e = .returned r ∧ RV k C r ∧ Bw w w' := by
 have HB := hid h
 obtain ⟨g, o, cap, rfl, hcap, hg, hcs⟩ := h.parts hk
 have HC := hid hcs
 obtain ⟨i1, hi1, hz1, hs1, hy1⟩ := info_parts infoU8
 have I1 := hid (And.intro hi1 (And.intro hz1 (And.intro hs1 hy1)))
 have HCC := hid hC
 clear h hcs hi1 hz1 hs1 hy1 hC
 go_enter Tryd.func39, Tryd.ntmps39
 go_wp2
 go_loopw [8, 9] (fun s j wr => ∃ (f m : Nat) (acc : List Int), j = .int .i64 ((k + m : Nat) : Int) ∧ 1 ≤ m ∧ k + m ≤ b.length ∧ (b.drop (k + m)).length < f ∧ C = cStr f (b.drop (k + m)) acc m ∧ acc.length ≤ m ∧ wr.ownsRow (w.heap.size + 2) 5 1 s acc.length (acc.map (Value.int .u8)) ∧ Bw ((w.alloc tkz).alloc (.cells #[.int .i64 4, .string ⟨#[]⟩, .int .i64 0, .int .i64 (k : Nat)] 70)) wr) (fun _ j _ => b.length - (intOf j).toNat)
 case atStart => exact ⟨_, 1, [], by simp, by omega, by omega, by omega, HCC.out, by simp, World.ownsRow_nil _ _ _ _, Bw.refl _⟩
 case round =>
  obtain ⟨f, m, acc, rfl, hm1, hkm, hf, hce, ham, hown, hbw⟩ := hrel
  obtain ⟨ax, cax, e⟩ := own_form hown
  subst e
  have HO := hid hown
  have HW := hid hbw
  have hsz : w.heap.size + 2 ≤ wr.heap.size := by have := hbw.size; simpa using this
  have B0 := ((Blk.new w #[.int .i64 0, .string ⟨#[]⟩, .int .i64 0, .int .i64 0] 70).alloc (.cells #[.int .i64 4, .string ⟨#[]⟩, .int .i64 0, .int .i64 (k : Nat)] 70)).bw hbw
  have B1 : Blk wr (w.heap.size + 1) #[.int .i64 4, .string ⟨#[]⟩, .int .i64 0, .int .i64 (k : Nat)] 70 := by
   have := (Blk.new (w.alloc tkz) #[.int .i64 4, .string ⟨#[]⟩, .int .i64 0, .int .i64 (k : Nat)] 70).bw hbw
   simpa using this
  have HBK0 := hid B0
  have HBK1 := hid B1
  have k0 := B0.cell 0
  have k1 := B0.cell 1
  have k2 := B0.cell 2
  have k3 := B0.cell 3
  have kf := B0.free
  have j0 := B1.cell 0
  have j1 := B1.cell 1
  have j2 := B1.cell 2
  have j3 := B1.cell 3
  have jf := B1.free
  simp at k0 k1 k2 k3 j0 j1 j2 j3
  have HCE := hid hce
  have HF := hid hf
  clear hown hbw B0 B1 hce hf
  by_cases hlt : k + m < b.length
  ·have hcw : ∀ i (hi : i < b.length), wr.cell? ⟨g, o + i, none⟩ = some (.int .u8 b[i]) := by
    intro i hi
    rw [← HC.out _ hi]
    exact World.cell?_of_block (w := w) (w' := wr) (a := ⟨g, o + i, none⟩) (((bwTwo w _ _).trans HW.out).block g hg)
   have HCW := hid hcw
   have hc := hcw _ hlt
   have hbd := HB.out.2.1 _ (List.getElem_mem hlt)
   have hr : b.drop (k + m) = b[k + m] :: b.drop (k + m + 1) := List.drop_eq_getElem_cons hlt
   have HR := hid hr
   have HBD := hid hbd
   have hlt2 : ((k + m : Nat) : Int) < (b.length : Int) := by omega
   have hnge : ¬ ((b.length : Int) ≤ ((k + m : Nat) : Int)) := by omega
   obtain ⟨f', rfl⟩ : ∃ f', f = f' + 1 := ⟨f - 1, by have := HF.out; omega⟩
   have hst : C = cStr (f' + 1) (b[k + m] :: b.drop (k + m + 1)) acc m := by rw [← hr]; exact HCE.out
   have HST := hid hst
   clear hr hbd hst HCE hcw
   have HL : (b.drop (k + m)).length = b.length - (k + m) := List.length_drop
   generalize b[k + m] = c at hc HR HBD HST
   cases h34 : (c == 34)
   ·have h34' : (c != 34) = true := by simpa using h34
    cases h10 : (c == 10)
    ·cases h92 : (c == 92)
     ·have h92' : (c != 92) = true := by simpa using h92
      have hst2 : C = cStr f' (b.drop (k + m + 1)) (acc ++ [c]) (m + 1) := by
       rw [HST.out]
       simp only [beq_eq_false_iff_ne, beq_iff_eq] at *
       simp [cStr, h34, h10, h92]
      have HS2 := hid hst2
      clear hst2
      go_wp2_with (first
       | (at_builtin; go_loud (refine wpList_append_own _ rfl _ _ 22 rfl (w.heap.size + 2) 5 i1 (.int .u8 0) 1 1 under22 I1.out.1 I1.out.2.1 I1.out.2.2.1 I1.out.2.2.2 rfl (by decide) (.slice ax acc.length cax) acc.length (acc.map (Value.int .u8)) rfl (HO.out.alloc _) ⟨wr.heap.size, 0, none⟩ 1 1 [.int .u8 c] rfl rfl ?aa1 ?aa2 ?aa3 ?aa4 ?aa5 ?_))
       | go_in)
      try case aa1 =>
       intro j u hj
       match j, hj with
       | 0, hj => simp at hj; subst hj; simp [Addr.add, go_sem]
      try case aa2 => first | rfl | (intro u hu; simp at hu; subst hu; rfl)
      try case aa3 => unfold maxLen; omega
      try case aa4 => omega
      try case aa5 => first | omega | (simp only [World.size_alloc]; omega)
      intro v' w1 hown hgr _
      obtain ⟨av', cv', e⟩ := own_form hown
      subst e
      have HW1 := hid (bw_grown (Bw.alloc HW.out _) (by simp) (HO.out.alloc _) hgr)
      rw [map_snoc8] at hown
      have HO1 := hid hown
      clear hgr hown
      go_wp2
      go_roundw
      case rel => exact ⟨f', m + 1, acc ++ [c], by go_num, by omega, by omega, by rw [List.length_drop]; have := HF.out; omega, HS2.out, by simp; omega, by simpa using HO1.out, HW1.out⟩
      case measure => simp [intOf]; omega
     ·have h92' : (c != 92) = false := by simpa using h92
      have hcc : c = 92 := by simpa using h92
      subst hcc
      have HST2 := hid (show C = match esc (b.drop (k + m + 1)) with | .inr n => .bad 6 (m + n) | .inl (x, n) => cStr f' (b.drop (k + (m + n))) (acc ++ [x]) (m + n) by
       rw [HST.out]
       simp only [cStr]
       rw [if_neg (by decide), if_neg (by decide), if_pos trivial]
       cases esc (b.drop (k + m + 1)) with
       | inr n => rfl
       | inl q =>
        obtain ⟨x, n⟩ := q
        simp only
        rw [← HR.out, List.drop_drop]
        congr 1
        congr 1; omega)
      clear HST
      by_cases hl2 : k + m + 1 < b.length
      ·have hd := HCW.out _ hl2
       have hdb := HB.out.2.1 _ (List.getElem_mem hl2)
       have hr2 : b.drop (k + m + 1) = b[k + m + 1] :: b.drop (k + m + 2) := List.drop_eq_getElem_cons hl2
       rw [hr2] at HST2
       have hl3 : ((k : Int) + m + 1) < (b.length : Int) := by omega
       clear hr2
       generalize b[k + m + 1] = d at hd hdb HST2
       have HDB := hid hdb
       clear hdb
       cases t110 : (d == 110)
       ·cases t116 : (d == 116)
        ·cases t34 : (d == 34)
         ·cases t92 : (d == 92)
          ·cases t120 : (d == 120)
           ·have he : esc (d :: b.drop (k + m + 2)) = .inr 1 := by
             simp only [beq_eq_false_iff_ne] at *
             simp [esc, t110, t116, t34, t92, t120]
            have HV := hid (show RV k C (.tuple #[.agg #[.int .i64 4, .string ⟨#[]⟩, .int .i64 0, .int .i64 (k : Nat)], .int .i64 ((k : Int) + m + 1), .int .i64 6]) by
             rw [HST2.out, he]
             exact ⟨4, 0, k, ⟨#[]⟩, by simp; omega⟩)
            clear HST2 he
            go_wp2
            all_goals
             have bf := (((HBK0.out.set 0 (.int .i64 4)).set 1 (.string ⟨#[]⟩)).set 2 (.int .i64 0)).set 3 (.int .i64 (k : Nat))
             have bfc := bf.cell
             refine bodyPost_ret (v := _) (by simp [results, Tryd.results39, go_sem, bfc]; rfl) rfl ?_
             exact ⟨_, rfl, HV.out, (bwTwo w _ _).trans HW.out |>.setCell (by simp) _ |>.setCell (by simp) _ |>.setCell (by simp) _ |>.setCell (by simp) _⟩
           ·have hdd : d = 120 := by simpa using t120
            subst hdd
            rw [esc_hex] at HST2
            clear t110 t116 t34 t92 t120
            go_wp2
            go_loopw [10, 11] (fun nn j wi => ∃ (i : Nat) (x : Int), i ≤ 2 ∧ j = .int .i64 ((k + m + 2 + i : Nat) : Int) ∧ k + m + 2 + i ≤ b.length ∧ nn = .int .i64 x ∧ wi = wr ∧ St (b.drop (k + m + 2)) i x) (fun _ j _ => k + m + 4 - (intOf j).toNat)
            case atStart => exact ⟨0, 0, by omega, by go_num, by omega, rfl, rfl, .inl ⟨rfl, rfl⟩⟩
            case round =>
             obtain ⟨i, x, hi2, rfl, hib, rfl, hwr, hst⟩ := hrel
             subst hwr
             have HSt := hid hst
             clear hst
             by_cases h2 : i < 2
             ·have h2i : ((k + m + 2 + i : Nat) : Int) < (k : Int) + m + 1 + 3 := by omega
              by_cases hli : k + m + 2 + i < b.length
              ·have hci := HCW.out _ hli
               have hri : (b.drop (k + m + 2))[i]? = some b[k + m + 2 + i] := by rw [List.getElem?_drop, List.getElem?_eq_getElem hli]
               have HRi := hid hri
               have hnl : ¬ ((b.length : Int) ≤ ((k + m + 2 + i : Nat) : Int)) := by omega
               have hlib : ((k + m + 2 + i : Nat) : Int) < (b.length : Int) := by omega
               clear hri
               generalize b[k + m + 2 + i] = ci at hci HRi
               rcases hexV_cases (c := ci) with ⟨hx, hx2⟩ | ⟨dd, hx, hx2, hd0, hd1⟩
               ·have he := HSt.out.bad h2 HRi.out hx
                have HV := hid (show RV k C (.tuple #[.agg #[.int .i64 4, .string ⟨#[]⟩, .int .i64 0, .int .i64 (k : Nat)], .int .i64 (((k + m + 2 + i : Nat) : Int)), .int .i64 6]) by
                 rw [HST2.out, he]
                 exact ⟨4, 0, k, ⟨#[]⟩, by simp; omega⟩)
                clear HST2 he hx
                go_wp2_with (first
                 | (go_at_call 67; refine (rhexit_any _ _).mono ?_; rw [hx2]; rintro e w' ⟨rfl, hw'⟩; subst w'))
                all_goals
                 have bf := (((HBK0.out.set 0 (.int .i64 4)).set 1 (.string ⟨#[]⟩)).set 2 (.int .i64 0)).set 3 (.int .i64 (k : Nat))
                 have bfc := bf.cell
                 refine bodyPost_ret (v := _) (by simp [results, Tryd.results39, go_sem, bfc]; rfl) rfl ?_
                 exact ⟨_, rfl, HV.out, (bwTwo w _ _).trans HW.out |>.setCell (by simp) _ |>.setCell (by simp) _ |>.setCell (by simp) _ |>.setCell (by simp) _⟩
               ·obtain ⟨hn1, hn2, hn3⟩ := HSt.out.next2 h2 HRi.out hx
                have HN1 := hid hn1
                clear hn1 hx
                go_wp2_with (first
                 | (go_at_call 67; refine (rhexit_any _ _).mono ?_; rw [hx2]; rintro e w' ⟨rfl, hw'⟩; subst w'))
                go_roundw
                case rel => exact ⟨i + 1, x * 16 + dd, by omega, by go_num, by omega, rfl, trivial, HN1.out⟩
                case measure => simp [intOf]; omega
              ·have hlen : (b.drop (k + m + 2)).length = i := by rw [List.length_drop]; omega
               have he := HSt.out.short h2 hlen
               have hge : ((b.length : Int) ≤ ((k + m + 2 + i : Nat) : Int)) := by omega
               have HV := hid (show RV k C (.tuple #[.agg #[.int .i64 4, .string ⟨#[]⟩, .int .i64 0, .int .i64 (k : Nat)], .int .i64 (((k + m + 2 + i : Nat) : Int)), .int .i64 6]) by
                rw [HST2.out, he]
                exact ⟨4, 0, k, ⟨#[]⟩, by simp; omega⟩)
               clear HST2 he hlen
               go_wp2
               all_goals
                have bf := (((HBK0.out.set 0 (.int .i64 4)).set 1 (.string ⟨#[]⟩)).set 2 (.int .i64 0)).set 3 (.int .i64 (k : Nat))
                have bfc := bf.cell
                refine bodyPost_ret (v := _) (by simp [results, Tryd.results39, go_sem, bfc]; rfl) rfl ?_
                exact ⟨_, rfl, HV.out, (bwTwo w _ _).trans HW.out |>.setCell (by simp) _ |>.setCell (by simp) _ |>.setCell (by simp) _ |>.setCell (by simp) _⟩
             ·obtain rfl : i = 2 := by omega
              have he := HSt.out.end
              have hxb := HSt.out.bd
              have HS2 := hid (show C = cStr f' (b.drop (k + (m + 4))) (acc ++ [x]) (m + 4) by rw [HST2.out, he])
              have hx256 : x % 256 = x := by omega
              clear HST2 he
              go_wp2_with (first
               | (at_builtin; go_loud (refine wpList_append_own _ rfl _ _ 22 rfl (w.heap.size + 2) 5 i1 (.int .u8 0) 1 1 under22 I1.out.1 I1.out.2.1 I1.out.2.2.1 I1.out.2.2.2 rfl (by decide) (.slice ax acc.length cax) acc.length (acc.map (Value.int .u8)) rfl (HO.out.alloc _) ⟨wr.heap.size, 0, none⟩ 1 1 [.int .u8 x] rfl rfl ?bb1 ?bb2 ?bb3 ?bb4 ?bb5 ?_))
               | go_in)
              try case bb1 =>
               intro j u hj
               match j, hj with
               | 0, hj => simp at hj; subst hj; simp [Addr.add, go_sem]
              try case bb2 => first | rfl | (intro u hu; simp at hu; subst hu; rfl)
              try case bb3 => unfold maxLen; omega
              try case bb4 => omega
              try case bb5 => first | omega | (simp only [World.size_alloc]; omega)
              intro v' w1 hown hgr _
              obtain ⟨av', cv', e⟩ := own_form hown
              subst e
              have HW1 := hid (bw_grown (Bw.alloc HW.out _) (by simp) (HO.out.alloc _) hgr)
              rw [map_snoc8] at hown
              have HO1 := hid hown
              clear hgr hown
              go_wp2
              go_roundw
              case rel => exact ⟨f', m + 4, acc ++ [x], by go_num, by omega, by omega, by rw [List.length_drop]; have := HF.out; omega, HS2.out, by simp; omega, by simpa using HO1.out, HW1.out⟩
              case measure => simp [intOf]; omega
          ·have hdd : d = 92 := by simpa using t92
           have HS2 := hid (show C = cStr f' (b.drop (k + (m + 2))) (acc ++ [d]) (m + 2) by rw [HST2.out, hdd]; simp [esc])
           clear HST2
           subst hdd
           go_wp2_with (first
            | (at_builtin; go_loud (refine wpList_append_own _ rfl _ _ 22 rfl (w.heap.size + 2) 5 i1 (.int .u8 0) 1 1 under22 I1.out.1 I1.out.2.1 I1.out.2.2.1 I1.out.2.2.2 rfl (by decide) (.slice ax acc.length cax) acc.length (acc.map (Value.int .u8)) rfl (HO.out.alloc _) ⟨wr.heap.size, 0, none⟩ 1 1 [.int .u8 92] rfl rfl ?cc1 ?cc2 ?cc3 ?cc4 ?cc5 ?_))
            | go_in)
           try case cc1 =>
            intro j u hj
            match j, hj with
            | 0, hj => simp at hj; subst hj; simp [Addr.add, go_sem]
           try case cc2 => first | rfl | (intro u hu; simp at hu; subst hu; rfl)
           try case cc3 => unfold maxLen; omega
           try case cc4 => omega
           try case cc5 => first | omega | (simp only [World.size_alloc]; omega)
           intro v' w1 hown hgr _
           obtain ⟨av', cv', e⟩ := own_form hown
           subst e
           have HW1 := hid (bw_grown (Bw.alloc HW.out _) (by simp) (HO.out.alloc _) hgr)
           rw [map_snoc8] at hown
           have HO1 := hid hown
           clear hgr hown
           go_wp2
           go_roundw
           case rel => exact ⟨f', m + 2, acc ++ [92], by go_num, by omega, by omega, by rw [List.length_drop]; have := HF.out; omega, HS2.out, by simp; omega, by simpa using HO1.out, HW1.out⟩
           case measure => simp [intOf]; omega
         ·have hdd : d = 34 := by simpa using t34
          have HS2 := hid (show C = cStr f' (b.drop (k + (m + 2))) (acc ++ [d]) (m + 2) by rw [HST2.out, hdd]; simp [esc])
          clear HST2
          subst hdd
          go_wp2_with (first
           | (at_builtin; go_loud (refine wpList_append_own _ rfl _ _ 22 rfl (w.heap.size + 2) 5 i1 (.int .u8 0) 1 1 under22 I1.out.1 I1.out.2.1 I1.out.2.2.1 I1.out.2.2.2 rfl (by decide) (.slice ax acc.length cax) acc.length (acc.map (Value.int .u8)) rfl (HO.out.alloc _) ⟨wr.heap.size, 0, none⟩ 1 1 [.int .u8 34] rfl rfl ?dd1 ?dd2 ?dd3 ?dd4 ?dd5 ?_))
           | go_in)
          try case dd1 =>
           intro j u hj
           match j, hj with
           | 0, hj => simp at hj; subst hj; simp [Addr.add, go_sem]
          try case dd2 => first | rfl | (intro u hu; simp at hu; subst hu; rfl)
          try case dd3 => unfold maxLen; omega
          try case dd4 => omega
          try case dd5 => first | omega | (simp only [World.size_alloc]; omega)
          intro v' w1 hown hgr _
          obtain ⟨av', cv', e⟩ := own_form hown
          subst e
          have HW1 := hid (bw_grown (Bw.alloc HW.out _) (by simp) (HO.out.alloc _) hgr)
          rw [map_snoc8] at hown
          have HO1 := hid hown
          clear hgr hown
          go_wp2
          go_roundw
          case rel => exact ⟨f', m + 2, acc ++ [34], by go_num, by omega, by omega, by rw [List.length_drop]; have := HF.out; omega, HS2.out, by simp; omega, by simpa using HO1.out, HW1.out⟩
          case measure => simp [intOf]; omega
        ·have hdd : d = 116 := by simpa using t116
         have HS2 := hid (show C = cStr f' (b.drop (k + (m + 2))) (acc ++ [9]) (m + 2) by rw [HST2.out, hdd]; simp [esc])
         clear HST2 hdd
         go_wp2_with (first
          | (at_builtin; go_loud (refine wpList_append_own _ rfl _ _ 22 rfl (w.heap.size + 2) 5 i1 (.int .u8 0) 1 1 under22 I1.out.1 I1.out.2.1 I1.out.2.2.1 I1.out.2.2.2 rfl (by decide) (.slice ax acc.length cax) acc.length (acc.map (Value.int .u8)) rfl (HO.out.alloc _) ⟨wr.heap.size, 0, none⟩ 1 1 [.int .u8 9] rfl rfl ?ee1 ?ee2 ?ee3 ?ee4 ?ee5 ?_))
          | go_in)
         try case ee1 =>
          intro j u hj
          match j, hj with
          | 0, hj => simp at hj; subst hj; simp [Addr.add, go_sem]
         try case ee2 => first | rfl | (intro u hu; simp at hu; subst hu; rfl)
         try case ee3 => unfold maxLen; omega
         try case ee4 => omega
         try case ee5 => first | omega | (simp only [World.size_alloc]; omega)
         intro v' w1 hown hgr _
         obtain ⟨av', cv', e⟩ := own_form hown
         subst e
         have HW1 := hid (bw_grown (Bw.alloc HW.out _) (by simp) (HO.out.alloc _) hgr)
         rw [map_snoc8] at hown
         have HO1 := hid hown
         clear hgr hown
         go_wp2
         go_roundw
         case rel => exact ⟨f', m + 2, acc ++ [9], by go_num, by omega, by omega, by rw [List.length_drop]; have := HF.out; omega, HS2.out, by simp; omega, by simpa using HO1.out, HW1.out⟩
         case measure => simp [intOf]; omega
       ·have hdd : d = 110 := by simpa using t110
        have HS2 := hid (show C = cStr f' (b.drop (k + (m + 2))) (acc ++ [10]) (m + 2) by rw [HST2.out, hdd]; simp [esc])
        clear HST2 hdd
        go_wp2_with (first
         | (at_builtin; go_loud (refine wpList_append_own _ rfl _ _ 22 rfl (w.heap.size + 2) 5 i1 (.int .u8 0) 1 1 under22 I1.out.1 I1.out.2.1 I1.out.2.2.1 I1.out.2.2.2 rfl (by decide) (.slice ax acc.length cax) acc.length (acc.map (Value.int .u8)) rfl (HO.out.alloc _) ⟨wr.heap.size, 0, none⟩ 1 1 [.int .u8 10] rfl rfl ?ff1 ?ff2 ?ff3 ?ff4 ?ff5 ?_))
         | go_in)
        try case ff1 =>
         intro j u hj
         match j, hj with
         | 0, hj => simp at hj; subst hj; simp [Addr.add, go_sem]
        try case ff2 => first | rfl | (intro u hu; simp at hu; subst hu; rfl)
        try case ff3 => unfold maxLen; omega
        try case ff4 => omega
        try case ff5 => first | omega | (simp only [World.size_alloc]; omega)
        intro v' w1 hown hgr _
        obtain ⟨av', cv', e⟩ := own_form hown
        subst e
        have HW1 := hid (bw_grown (Bw.alloc HW.out _) (by simp) (HO.out.alloc _) hgr)
        rw [map_snoc8] at hown
        have HO1 := hid hown
        clear hgr hown
        go_wp2
        go_roundw
        case rel => exact ⟨f', m + 2, acc ++ [10], by go_num, by omega, by omega, by rw [List.length_drop]; have := HF.out; omega, HS2.out, by simp; omega, by simpa using HO1.out, HW1.out⟩
        case measure => simp [intOf]; omega
      ·have hdn : b.drop (k + m + 1) = [] := List.drop_eq_nil_of_le (by omega)
       have hge : ((b.length : Int) ≤ (k : Int) + m + 1) := by omega
       have HV := hid (show RV k C (.tuple #[.agg #[.int .i64 4, .string ⟨#[]⟩, .int .i64 0, .int .i64 (k : Nat)], .int .i64 ((k : Int) + m + 1), .int .i64 6]) by
        rw [HST2.out, hdn]
        exact ⟨4, 0, k, ⟨#[]⟩, by simp; omega⟩)
       clear HST2 hdn
       go_wp2
       all_goals
        have bf := (((HBK0.out.set 0 (.int .i64 4)).set 1 (.string ⟨#[]⟩)).set 2 (.int .i64 0)).set 3 (.int .i64 (k : Nat))
        have bfc := bf.cell
        refine bodyPost_ret (v := _) (by simp [results, Tryd.results39, go_sem, bfc]; rfl) rfl ?_
        exact ⟨_, rfl, HV.out, (bwTwo w _ _).trans HW.out |>.setCell (by simp) _ |>.setCell (by simp) _ |>.setCell (by simp) _ |>.setCell (by simp) _⟩
    ·have hcc : c = 10 := by simpa using h10
     have HV := hid (show RV k C (.tuple #[.agg #[.int .i64 4, .string ⟨#[]⟩, .int .i64 0, .int .i64 (k : Nat)], .int .i64 ((k : Int) + m), .int .i64 6]) by
      rw [HST.out, hcc]
      simp only [cStr]
      rw [if_neg (by decide), if_pos trivial]
      exact ⟨4, 0, k, ⟨#[]⟩, by simp⟩)
     clear HST hcc
     go_wp2
     all_goals
      have bf := (((HBK0.out.set 0 (.int .i64 4)).set 1 (.string ⟨#[]⟩)).set 2 (.int .i64 0)).set 3 (.int .i64 (k : Nat))
      have bfc := bf.cell
      refine bodyPost_ret (v := _) (by simp [results, Tryd.results39, go_sem, bfc]; rfl) rfl ?_
      exact ⟨_, rfl, HV.out, (bwTwo w _ _).trans HW.out |>.setCell (by simp) _ |>.setCell (by simp) _ |>.setCell (by simp) _ |>.setCell (by simp) _⟩
   ·have h34' : (c != 34) = false := by simpa using h34
    have hcc : c = 34 := by simpa using h34
    have hconv := own_conv HO.out
    have HV := hid (show RV k C (.tuple #[.agg #[.int .i64 4, .string (strOfNums acc), .int .i64 0, .int .i64 (k : Nat)], .int .i64 ((k : Int) + m + 1), .int .i64 0]) by
     rw [HST.out, hcc]
     simp [cStr, RV]; omega)
    clear HST hcc
    go_wp2
    all_goals
     have bf := ((((HBK0.out.other (p := ⟨w.heap.size + 1, 1, none⟩) (by simp) (.string (strOfNums acc))).set 0 (.int .i64 4)).set 1 (.string (strOfNums acc))).set 2 (.int .i64 0)).set 3 (.int .i64 (k : Nat))
     have bfc := bf.cell
     refine bodyPost_ret (v := _) (by simp [results, Tryd.results39, go_sem, bfc]; rfl) rfl ?_
     exact ⟨_, rfl, HV.out, (bwTwo w _ _).trans HW.out |>.setCell (by simp) _ |>.setCell (by simp) _ |>.setCell (by simp) _ |>.setCell (by simp) _ |>.setCell (by simp) _⟩
  ·have hge : ((b.length : Int) ≤ ((k + m : Nat) : Int)) := by omega
   have hkb : k + m = b.length := by omega
   have HV := hid (show RV k C (.tuple #[.agg #[.int .i64 4, .string ⟨#[]⟩, .int .i64 0, .int .i64 (k : Nat)], .int .i64 ((b.length : Int)), .int .i64 6]) by
    obtain ⟨f', rfl⟩ : ∃ f', f = f' + 1 := ⟨f - 1, by have := HF.out; omega⟩
    rw [HCE.out, List.drop_eq_nil_of_le (by omega)]
    exact ⟨4, 0, k, ⟨#[]⟩, by simp; omega⟩)
   clear HCE hkb
   go_wp2
   all_goals
    have bf := (((HBK0.out.set 0 (.int .i64 4)).set 1 (.string ⟨#[]⟩)).set 2 (.int .i64 0)).set 3 (.int .i64 (k : Nat))
    have bfc := bf.cell
    refine bodyPost_ret (v := _) (by simp [results, Tryd.results39, go_sem, bfc]; rfl) rfl ?_
    exact ⟨_, rfl, HV.out, (bwTwo w _ _).trans HW.out |>.setCell (by simp) _ |>.setCell (by simp) _ |>.setCell (by simp) _ |>.setCell (by simp) _⟩

end Go.Proofs.YtdhkcdehedbpcaaDoor

