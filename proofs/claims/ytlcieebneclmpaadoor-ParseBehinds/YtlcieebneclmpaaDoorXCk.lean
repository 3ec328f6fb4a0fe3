/- The program's names, remarks, what begins a token: the contracts. -/
import Derived.Test.YtlcieebneclmpaaDoorXBk
import Derived.Deep.MidRow
set_option linter.unusedSimpArgs false
set_option linter.unusedVariables false
namespace Go.Proofs.YtlcieebneclmpaaDoor
open Go Go.RowKit

def isName (l : List Int) : Bool := match l with | [] => false | c :: t => !isDg c && l.all isNm && !isWord l

/-- The byte at a place. -/
def nth (l : List Int) (i : Nat) : Int := l.getD i 0

theorem nth_eq {l : List Int} {i : Nat} (h : i < l.length) : nth l i = l[i] := by
  unfold nth; rw [List.getD_eq_getElem?_getD, List.getElem?_eq_getElem h]; rfl

theorem strOf_get {l : List Int} (hb : ∀ c ∈ l, 0 ≤ c ∧ c ≤ 255) (i : Nat) (h : i < (strOfNums l).size) : (((strOfNums l)[i]'h).toNat : Int) = nth l i := by
  have hl : i < l.length := by rw [strOfNums_size] at h; exact h
  have := hb _ (List.getElem_mem hl)
  have e : (strOfNums l)[i]'h = UInt8.ofNat (l[i]).toNat := by
    show (strOfNums l).data[i] = _
    simp [strOfNums]
  rw [e, nth_eq hl]
  simp
  omega

theorem all_take_succ (p : Int → Bool) (l : List Int) (k : Nat) (h : k < l.length) : (l.take (k + 1)).all p = ((l.take k).all p && p (nth l k)) := by
  rw [List.take_succ_eq_append_getElem h, List.all_append, nth_eq h]
  simp

theorem all_false_of (p : Int → Bool) (l : List Int) (k : Nat) (h : k < l.length) (hp : p (nth l k) = false) : l.all p = false := by
  rw [List.all_eq_false]
  exact ⟨l[k], List.getElem_mem h, by rw [← nth_eq h, hp]; simp⟩

set_option maxRecDepth 100000 in
set_option maxHeartbeats 4000000 in
theorem xName_any (l : List Int) (hb : ∀ c ∈ l, 0 ≤ c ∧ c ≤ 255) (hm : l.length ≤ 1000000) (w : World) :
    Calls Tryd.prog 32 #[.string (strOfNums l)] w fun e w' => e = .returned (.bool (isName l)) ∧ w' = w := by
  have W1 := hid (xWord_any l hb)
  cases l with
  | nil =>
    go_enter Tryd.func32, Tryd.ntmps32
    rw [show strOfNums [] = ⟨#[]⟩ from rfl]
    go_wp2
    all_goals go_ret
    all_goals exact ⟨rfl, rfl⟩
  | cons c0 t =>
    have hn : ((strOfNums (c0 :: t)).toList == []) = false := by rw [strOf_toList]; simp
    have S := strOf_get hb
    have Z : (strOfNums (c0 :: t)).size = (c0 :: t).length := strOfNums_size _
    have hl : 0 < (c0 :: t).length := by simp
    have e1 : isName (c0 :: t) = (!isDg (nth (c0 :: t) 0) && (c0 :: t).all isNm && !isWord (c0 :: t)) := rfl
    generalize (c0 :: t) = l at *
    generalize strOfNums l = s at *
    have E1 := hid e1
    clear e1 hb
    cases hd : isDg (nth l 0)
    · go_enter Tryd.func32, Tryd.ntmps32
      go_wp2_with (first
        | (go_at_call 46; refine (xisDigit_any _ _).mono ?_; rintro e w' ⟨rfl, hw'⟩; subst w'))
      go_loopw [13] (fun j wr => ∃ k, k ≤ l.length ∧ j = .int .i64 (k : Nat) ∧ wr = w ∧ (l.take k).all isNm = true) (fun j _ => l.length - (intOf j).toNat)
      case atStart => exact ⟨0, Nat.zero_le _, rfl, rfl, by simp⟩
      case round =>
        obtain ⟨k, hk, rfl, hwr, ha⟩ := hrel
        subst wr
        have HA := hid ha
        clear ha
        by_cases hlt : k < l.length
        · have hlt2 : (k : Int) < (l.length : Int) := by omega
          cases h1 : isLt (nth l k) <;> cases h2 : isDg (nth l k)
          · have hf : isName l = false := by rw [E1.out, all_false_of isNm l k hlt (by simp [isNm, h1, h2])]; simp
            have HF := hid hf
            clear hf
            go_wp2_with (first
              | (go_at_call 46; refine (xisDigit_any _ _).mono ?_; rintro e w' ⟨rfl, hw'⟩; subst w')
              | (go_at_call 47; refine (xisLetter_any _ _).mono ?_; rintro e w' ⟨rfl, hw'⟩; subst w'))
            all_goals go_ret
            all_goals exact ⟨ret_bool HF.out.symm, rfl⟩
          all_goals
            have hs : (l.take (k + 1)).all isNm = true := by rw [all_take_succ _ _ _ hlt, HA.out]; simp [isNm, h1, h2]
            have HSS := hid hs
            clear hs
            go_wp2_with (first
              | (go_at_call 46; refine (xisDigit_any _ _).mono ?_; rintro e w' ⟨rfl, hw'⟩; subst w')
              | (go_at_call 47; refine (xisLetter_any _ _).mono ?_; rintro e w' ⟨rfl, hw'⟩; subst w'))
            go_roundw
            case rel => exact ⟨k + 1, by omega, by go_num, trivial, HSS.out⟩
            case measure => simp [intOf]; omega
        · have hfin : isName l = !isWord l := by
            have := HA.out
            rw [List.take_of_length_le (by omega)] at this
            rw [E1.out, this, hd]; simp
          have HF := hid hfin
          clear hfin
          go_wp2_with (first
            | (go_at_call 48; refine (W1.out _).mono ?_; rintro e w' ⟨rfl, hw'⟩; subst w'))
          all_goals go_ret
          all_goals exact ⟨ret_bool HF.out.symm, rfl⟩
    · have : isName l = false := by rw [E1.out, hd]; rfl
      rw [this]
      clear this
      go_enter Tryd.func32, Tryd.ntmps32
      go_wp2_with (first
        | (go_at_call 46; refine (xisDigit_any _ _).mono ?_; rintro e w' ⟨rfl, hw'⟩; subst w'))
      all_goals go_ret
      all_goals exact ⟨rfl, rfl⟩

set_option maxRecDepth 100000 in
set_option maxHeartbeats 4000000 in
theorem xbehindRemark_any (v : Value) (b : List Int) (k : Nat) (w : World) (h : By w v b) (hk : k ≤ b.length) (hm : b.length ≤ 1000000) :
    Calls Tryd.prog 39 #[v, .int .i64 k] w fun e w' => e = .returned (.int .i64 ((k + twl (· != 10) (b.drop k) : Nat) : Int)) ∧ Dn w w' := by
  have HB := hid h
  obtain ⟨a, cap, rfl⟩ := h.form
  clear h
  go_enter Tryd.func39, Tryd.ntmps39
  go_wp2
  go_loopw [1] (fun j wr => ∃ m n, j = .int .i64 ((k + m : Nat) : Int) ∧ m ≤ twl (· != 10) (b.drop k) ∧ wr = w.drewN n) (fun j _ => b.length - (intOf j).toNat)
  case atStart => exact ⟨0, 0, by simp, Nat.zero_le _, rfl⟩
  case round =>
    obtain ⟨m, n, rfl, hm1, rfl⟩ := hrel
    have hle := twl_le (· != 10) (b.drop k)
    rw [List.length_drop] at hle
    by_cases hlt : k + m < b.length
    · obtain ⟨g, o, rfl, hg, hc⟩ := HB.out.at hlt
      have hlt2 : ((k + m : Nat) : Int) < (b.length : Int) := by omega
      have hml : m < (b.drop k).length := by rw [List.length_drop]; omega
      have hge : (b.drop k)[m] = b[k + m] := by simp
      have TG := hid (@twl_go (· != 10) (b.drop k) m hm1 hml)
      have TN := hid (@twl_no (· != 10) (b.drop k) m hm1 hml)
      rw [hge] at TG TN
      generalize b[k + m] = c at hc TG TN
      clear hge hml hle
      cases hc10 : (c != 10)
      · have HF := hid (TN.out hc10)
        clear hm1 TG TN
        go_wp2
        all_goals go_ret
        all_goals exact ⟨ret_int (by rw [HF.out]; omega), _, rfl⟩
      · have hg1 := hid (TG.out hc10)
        clear hm1 TG TN
        go_wp2
        go_roundw
        case rel => exact ⟨m + 1, n, by go_num, hg1.out, rfl⟩
        case measure => simp [intOf]; omega
    · have hfin : twl (· != 10) (b.drop k) = m := twl_end hm1 (by rw [List.length_drop]; omega)
      have HF := hid hfin
      clear hfin hm1 hle
      go_wp2
      all_goals go_ret
      all_goals exact ⟨ret_int (by rw [HF.out]; try omega), _, rfl⟩

/-- The table of signs, as values. -/
def sgv : List Value := sgs.map fun s => .string (strOfNums s)

theorem sgv_len : sgv.length = 22 := rfl
theorem under49 : Tryd.prog.underlying 86 = some (.array 22 9) := by kernel_rfl
theorem info49 : (Tryd.prog.info? 86).map (·.size) = some sgv.length := by rw [sgv_len]; kernel_rfl

theorem Sg.range {w : World} (h : Sg w) : w.rangeAt 1 0 sgv := by
  intro j v hv
  unfold sgv at hv
  rw [List.getElem?_map, Option.map_eq_some_iff] at hv
  obtain ⟨s, hs, rfl⟩ := hv
  rw [Nat.zero_add]
  exact h.2 j s hs

theorem sgs_get (i : Nat) (h : i < 22) : ∃ s, sgs[i]? = some s ∧ sgv[i]? = some (.string (strOfNums s)) ∧ 0 < s.length ∧ s.length ≤ 2 ∧ (∀ c ∈ s, 0 ≤ c ∧ c ≤ 255) := by
  have : ∀ i : Fin 22, 0 < (sgs.getD i.val []).length ∧ (sgs.getD i.val []).length ≤ 2 ∧ (∀ c ∈ sgs.getD i.val [], 0 ≤ c ∧ c ≤ 255) := by decide
  have hi : sgs[i]? = some (sgs.getD i []) := by
    rw [List.getD_eq_getElem?_getD, List.getElem?_eq_getElem (by exact h)]; rfl
  refine ⟨_, hi, ?_, this ⟨i, h⟩⟩
  unfold sgv
  rw [List.getElem?_map, hi]; rfl

theorem info9 : (Tryd.prog.info? 9).map (·.size) = some 1 := by kernel_rfl
theorem under9 : Tryd.prog.underlying 9 = some .string := by kernel_rfl

theorem run_index_sgv (w : World) (k : Nat) (x : ByteArray) (h : k < 22) (hx : sgv[k]? = some (.string x)) :
    (Instr.index 86 (.agg sgv.toArray) (.int .i64 (k : Nat))).run Tryd.prog w = .ok (.string x) w := by
  have hn : (0 ≤ (k : Int) ∧ (k : Int) < ((22 : Nat) : Int)) := by omega
  cases hq : Tryd.prog.info? 9 with
  | none => have := info9; simp [hq] at this
  | some i =>
    have hs : i.size = 1 := by have := info9; simpa [hq] using this
    have hk : k < sgv.length := h
    have hg : sgv[k] = .string x := by rw [List.getElem?_eq_getElem hk] at hx; exact Option.some.inj hx
    simp [Instr.index, run_underlying under49, asIntOf, hn, go_sem, sizeOf, typeInfo, hq, hs, part, isAgg, run_underlying under9, hk, hg, h]

theorem sg_head {k : Nat} {s : List Int} (h : sgs[k]? = some s) : isSg (nth s 0) = true ∧ s.head? = some (nth s 0) := by
  have hk : k < 22 := (List.getElem?_eq_some_iff.1 h).1
  have : ∀ i : Fin 22, isSg (nth (sgs.getD i.val []) 0) = true ∧ (sgs.getD i.val []).head? = some (nth (sgs.getD i.val []) 0) := by decide
  have t := this ⟨k, hk⟩
  simp only [List.getD_eq_getElem?_getD, h, Option.getD_some] at t
  exact t

theorem sg_none {c : Int} (h : (sgs.all fun s => s.head? != some c) = true) : isSg c = false := by
  simp [sgs] at h
  simp [isSg, sg1]
  omega

theorem all_take_get {α : Type} (p : α → Bool) {l : List α} {k : Nat} {s : α} (h : l[k]? = some s) : (l.take (k + 1)).all p = ((l.take k).all p && p s) := by
  obtain ⟨hk, rfl⟩ := List.getElem?_eq_some_iff.1 h
  rw [List.take_succ_eq_append_getElem hk, List.all_append]
  simp

set_option maxRecDepth 100000 in
set_option maxHeartbeats 4000000 in
theorem xbegins_any (c : Int) (w : World) (hs : Sg w) :
    Calls Tryd.prog 40 #[.int .u8 c] w fun e w' => e = .returned (.bool (begn c)) ∧ w' = w := by
  have HS := hid hs
  clear hs
  cases h1 : isLt c
  · cases h2 : isDg c
    · cases h3 : (c == 34)
      · go_enter Tryd.func40, Tryd.ntmps40
        go_wp2_with (first
          | (go_at_call 46; refine (xisDigit_any _ _).mono ?_; rintro e w' ⟨rfl, hw'⟩; subst w')
          | (go_at_call 47; refine (xisLetter_any _ _).mono ?_; rintro e w' ⟨rfl, hw'⟩; subst w')
          | (refine wpList_load_mid rfl 86 (.global 1) rfl 1 0 rfl sgv _ HS.out.range under49 rfl info49 ?_))
        go_loopw [16] (fun j wr => ∃ k, k ≤ 22 ∧ j = .int .i64 (k : Nat) ∧ wr = w ∧ (sgs.take k).all (fun s => s.head? != some c) = true) (fun j _ => 22 - (intOf j).toNat)
        case atStart => exact ⟨0, Nat.zero_le _, rfl, rfl, by simp⟩
        case round =>
          obtain ⟨k, hk, rfl, hwr, ha⟩ := hrel
          subst wr
          have HA := hid ha
          clear ha
          by_cases hlt : k < 22
          · obtain ⟨s, hs1, hs2, hs3, hs4, hs5⟩ := sgs_get k hlt
            have hlt2 : (k : Int) < 22 := by omega
            have S := strOf_get hs5
            have Z : (strOfNums s).size = s.length := strOfNums_size _
            have H5 := hid (And.intro hs1 hs5)
            have hrun := fun w => run_index_sgv w k _ hlt hs2
            clear hs5 hs1 hs2
            generalize strOfNums s = x at *
            have HG := hid (sg_head H5.out.1)
            cases hq : (nth s 0 == c)
            · have hs' : (sgs.take (k + 1)).all (fun s => s.head? != some c) = true := by
                rw [all_take_get _ H5.out.1, HA.out, HG.out.2]
                simpa using hq
              have HS' := hid hs'
              clear hs'
              go_wp2
              go_roundw
              case rel => exact ⟨k + 1, by omega, by go_num, trivial, HS'.out⟩
              case measure => simp [intOf]; omega
            · have hf : begn c = true := by
                rw [beq_iff_eq] at hq
                have := HG.out.1
                rw [hq] at this
                simp [begn, this]
              have HF := hid hf
              clear hf
              go_wp2
              all_goals go_ret
              all_goals exact ⟨ret_bool HF.out.symm, rfl⟩
          · have hf : begn c = false := by
              have := HA.out
              rw [List.take_of_length_le (by show sgs.length ≤ k; have : sgs.length = 22 := rfl; omega)] at this
              simp [begn, h1, h2, h3, sg_none this]
            have HF := hid hf
            clear hf
            go_wp2
            all_goals go_ret
            all_goals exact ⟨ret_bool HF.out.symm, rfl⟩
      · go_enter Tryd.func40, Tryd.ntmps40
        go_wp2_with (first
          | (go_at_call 46; refine (xisDigit_any _ _).mono ?_; rintro e w' ⟨rfl, hw'⟩; subst w')
          | (go_at_call 47; refine (xisLetter_any _ _).mono ?_; rintro e w' ⟨rfl, hw'⟩; subst w'))
        all_goals go_ret
        all_goals exact ⟨ret_bool (by simp [begn, h1, h2, h3]), rfl⟩
    · go_enter Tryd.func40, Tryd.ntmps40
      go_wp2_with (first
        | (go_at_call 46; refine (xisDigit_any _ _).mono ?_; rintro e w' ⟨rfl, hw'⟩; subst w')
        | (go_at_call 47; refine (xisLetter_any _ _).mono ?_; rintro e w' ⟨rfl, hw'⟩; subst w'))
      all_goals go_ret
      all_goals exact ⟨ret_bool (by simp [begn, h1, h2]), rfl⟩
  · go_enter Tryd.func40, Tryd.ntmps40
    go_wp2_with (first
      | (go_at_call 46; refine (xisDigit_any _ _).mono ?_; rintro e w' ⟨rfl, hw'⟩; subst w')
      | (go_at_call 47; refine (xisLetter_any _ _).mono ?_; rintro e w' ⟨rfl, hw'⟩; subst w'))
    all_goals go_ret
    all_goals exact ⟨ret_bool (by simp [begn, h1]), rfl⟩

end Go.Proofs.YtlcieebneclmpaaDoor

