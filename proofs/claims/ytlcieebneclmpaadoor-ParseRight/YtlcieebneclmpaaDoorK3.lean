/- The program's cutters of names and signs: the contracts. · The program's cutter of signs: the contract. -/
import Derived.Test.YtlcieebneclmpaaDoorK2
set_option linter.unusedSimpArgs false
set_option linter.unusedVariables false
namespace Go.Proofs.YtlcieebneclmpaaDoor
open Go Go.RowKit

/-- What is cut at place k, as the program tells it. -/
def cutV (k : Nat) : Cut → Value
  | .tok kd x n len => .tuple #[.agg #[.int .i64 kd, .string (strOfNums x), .int .i64 n, .int .i64 (k : Nat)], .int .i64 0, .int .i64 ((k + len : Nat) : Int)]
  | .bad e off => .tuple #[.agg #[.int .i64 0, .string ⟨#[]⟩, .int .i64 0, .int .i64 0], .int .i64 e, .int .i64 ((k + off : Nat) : Int)]

theorem strOf_nil : strOfNums [] = ⟨#[]⟩ := rfl

theorem By.parts {w : World} {v : Value} {b : List Int} {k : Nat} (h : By w v b) (hk : k < b.length) :
    ∃ g o cap, v = .slice (some ⟨g, o, none⟩) b.length cap ∧ b.length ≤ cap ∧ g < w.heap.size ∧ ∀ i (hi : i < b.length), w.cell? ⟨g, o + i, none⟩ = some (.int .u8 b[i]) := by
  obtain ⟨hl, a, cap, rfl, hn, hc⟩ := h.1
  rcases hc with hc | ⟨g, o, rfl, hg, _, hc⟩
  · omega
  · exact ⟨g, o, cap, rfl, hn.1, hg, fun i hi => by rw [hc i (by omega)]; simp [hi]⟩

theorem under22 : Tryd.prog.underlying 34 = some (.slice 5) := by kernel_rfl
theorem under5 : Tryd.prog.underlying 5 = some (.int .u8) := by kernel_rfl

/-- A part of the bytes as a string. -/
theorem By.conv {w : World} {g o cap : Nat} {b : List Int} (h : By w (.slice (some ⟨g, o, none⟩) b.length cap) b) (k m c : Nat) (hk : k + m ≤ b.length) :
    (convert 34 9 (.slice (some ⟨g, o + k, none⟩) m c)).run Tryd.prog w = .ok (.string (strOfNums ((b.drop k).take m))) w := by
  refine run_convert_bytes_arg w 34 5 under22 under5 g (o + k) m c ((b.drop k).take m) (by simp; omega) (fun i hi => ?_) 9 under9
  have hi' : k + i < b.length := by omega
  obtain ⟨g', o', cap', e, _, _, hc⟩ := h.parts hi'
  cases e
  rw [Nat.add_assoc, hc _ hi']
  congr 2
  rw [List.getD_eq_getElem?_getD, List.getElem?_take, if_pos hi, List.getElem?_drop, List.getElem?_eq_getElem hi']
  rfl

/-- The result's block as it begins. -/
abbrev tk0 : Obj := .cells #[.int .i64 0, .string ByteArray.empty, .int .i64 0, .int .i64 0] 72

set_option maxRecDepth 100000 in
set_option maxHeartbeats 4000000 in
theorem xcutName_any (v : Value) (b : List Int) (k : Nat) (w : World) (h : By w v b) (hk : k < b.length) (hm : b.length ≤ 1000000) :
    Calls Tryd.prog 49 #[v, .int .i64 (k : Nat)] w fun e w' => e = .returned (cutV k (cName (b.drop k))) ∧ Bw w w' := by
  have HB := hid h
  obtain ⟨g, o, cap, rfl, hcap, hg, hcs⟩ := h.parts hk
  have HC := hid hcs
  clear h hcs
  have hck : ¬ cap = k := by omega
  have hcb : ∀ c ∈ (b.drop k).takeWhile isNm, 0 ≤ c ∧ c ≤ 255 := fun c hc => HB.out.2.1 c (List.mem_of_mem_drop ((List.takeWhile_sublist _).subset hc))
  have WD := hid (xWord_any _ hcb)
  have HT := hid (takeWhile_twl isNm (b.drop k))
  clear hcb
  go_enter Tryd.func49, Tryd.ntmps49
  go_wp2
  go_loopw [7] (fun j wr => ∃ m, j = .int .i64 ((k + m : Nat) : Int) ∧ m ≤ twl isNm (b.drop k) ∧ wr = w.alloc (.cells #[.int .i64 0, .string ByteArray.empty, .int .i64 0, .int .i64 0] 72)) (fun j _ => b.length - (intOf j).toNat)
  case atStart => exact ⟨0, by simp, Nat.zero_le _, rfl⟩
  case round =>
    obtain ⟨m, rfl, hm1, hwr⟩ := hrel
    subst wr
    have hle := twl_le isNm (b.drop k)
    rw [List.length_drop] at hle
    have key : (twl isNm (b.drop k) = m ∧ ∀ hlt : k + m < b.length, isNm b[k + m] = false) ∨ ∃ hlt : k + m < b.length, isNm b[k + m] = true ∧ m + 1 ≤ twl isNm (b.drop k) := by
      by_cases hlt : k + m < b.length
      · have hml : m < (b.drop k).length := by rw [List.length_drop]; omega
        have hge : (b.drop k)[m] = b[k + m] := by simp
        cases hp : isNm b[k + m]
        · exact .inl ⟨twl_no hm1 hml (by rw [hge]; exact hp), fun _ => hp⟩
        · exact .inr ⟨hlt, hp, twl_go hm1 hml (by rw [hge]; exact hp)⟩
      · exact .inl ⟨twl_end hm1 (by rw [List.length_drop]; omega), fun h => absurd h hlt⟩
    rcases key with ⟨hfin, hno⟩ | ⟨hlt, hp, hg1⟩
    · have hconv := (HB.out.bw (Bw.alloc (Bw.refl w) tk0)).conv k m (cap - k) (by omega)
      rw [← hfin, ← HT.out, hfin] at hconv
      have hv : cutV k (cName (b.drop k)) = .tuple #[.agg #[.int .i64 (if isWord ((b.drop k).takeWhile isNm) then 2 else 1), .string (strOfNums ((b.drop k).takeWhile isNm)), .int .i64 0, .int .i64 (k : Nat)], .int .i64 0, .int .i64 ((k : Int) + m)] := by
        simp [cutV, cName, hfin]
      have HV := hid hv
      have hkm : k + m ≤ b.length := by omega
      clear hm1 hfin hle hv
      by_cases hlt : k + m < b.length
      · have hc := HC.out _ hlt
        have hlt2 : ((k + m : Nat) : Int) < (b.length : Int) := by omega
        have hn := hno hlt
        clear hno
        generalize b[k + m] = c at hc hn
        have h1 : isLt c = false := by simp [isNm] at hn; exact hn.1
        have h2 : isDg c = false := by simp [isNm] at hn; exact hn.2
        clear hn
        go_wp2_with (first
          | (go_at_call 46; refine (xisDigit_any _ _).mono ?_; rintro e w' ⟨rfl, hw'⟩; subst w')
          | (go_at_call 47; refine (xisLetter_any _ _).mono ?_; rintro e w' ⟨rfl, hw'⟩; subst w')
          | (go_at_call 48; refine (WD.out _).mono ?_; rintro e w' ⟨rfl, hw'⟩; subst w'))
        all_goals refine bodyPost_ret (v := cutV k (cName (b.drop k))) (by rw [HV.out]; simp [results, Tryd.results49, go_sem, *]) rfl ?_
        all_goals exact ⟨rfl, Bw.alloc (Bw.refl _) _⟩
      · clear hno
        go_wp2_with (first
          | (go_at_call 48; refine (WD.out _).mono ?_; rintro e w' ⟨rfl, hw'⟩; subst w'))
        all_goals refine bodyPost_ret (v := cutV k (cName (b.drop k))) (by rw [HV.out]; simp [results, Tryd.results49, go_sem, *]) rfl ?_
        all_goals exact ⟨rfl, Bw.alloc (Bw.refl _) _⟩
    · have hc := HC.out _ hlt
      have hlt2 : ((k + m : Nat) : Int) < (b.length : Int) := by omega
      have HG1 := hid hg1
      have HP := hid hp
      clear hm1 hle hg1 hp
      generalize b[k + m] = c at hc HP
      cases h1 : isLt c <;> cases h2 : isDg c
      · have := HP.out
        simp [isNm, h1, h2] at this
      all_goals
        go_wp2_with (first
          | (go_at_call 46; refine (xisDigit_any _ _).mono ?_; rintro e w' ⟨rfl, hw'⟩; subst w')
          | (go_at_call 47; refine (xisLetter_any _ _).mono ?_; rintro e w' ⟨rfl, hw'⟩; subst w'))
        go_roundw
        case rel => exact ⟨m + 1, by go_num, HG1.out, trivial⟩
        case measure => simp [intOf]; omega

end Go.Proofs.YtlcieebneclmpaaDoor

set_option linter.unusedSimpArgs false
set_option linter.unusedVariables false
namespace Go.Proofs.YtlcieebneclmpaaDoor
open Go Go.RowKit

theorem sign_none {c : Int} {t : List Int} (h : (sgs.all fun s => !s.isPrefixOf (c :: t)) = true) : cSign (c :: t) = .bad 6 1 := by
  have h1 : sg1.contains c = false := by
    simp [sgs, List.isPrefixOf] at h
    simp [sg1]
    omega
  have h2 : ¬ (t.head? = some 61 ∧ (c = 61 ∨ c = 33 ∨ c = 60 ∨ c = 62)) := by
    rintro ⟨ht, hc⟩
    cases t with
    | nil => simp at ht
    | cons d u =>
      simp at ht
      subst ht
      simp [sgs, List.isPrefixOf] at h
      omega
  simp only [cSign]
  rw [if_neg h2, h1]
  simp

theorem sign_some {k : Nat} {s : List Int} {c : Int} {t : List Int} (hk : sgs[k]? = some s) (hs : s.isPrefixOf (c :: t) = true) (ha : ((sgs.take k).all fun s => !s.isPrefixOf (c :: t)) = true) : cSign (c :: t) = .tok 5 s 0 s.length := by
  have hlt : k < 22 := (List.getElem?_eq_some_iff.1 hk).1
  by_cases h4 : k < 4
  · have hs2 : ∃ x, s = [x, 61] ∧ (x = 61 ∨ x = 33 ∨ x = 60 ∨ x = 62) := by
      match k, h4, hk with
      | 0, _, hk => simp [sgs] at hk; exact ⟨61, hk.symm, by simp⟩
      | 1, _, hk => simp [sgs] at hk; exact ⟨33, hk.symm, by simp⟩
      | 2, _, hk => simp [sgs] at hk; exact ⟨60, hk.symm, by simp⟩
      | 3, _, hk => simp [sgs] at hk; exact ⟨62, hk.symm, by simp⟩
    obtain ⟨x, rfl, hx⟩ := hs2
    cases t with
    | nil => simp [List.isPrefixOf] at hs
    | cons d u =>
      simp [List.isPrefixOf] at hs
      obtain ⟨rfl, rfl⟩ := hs
      simp only [cSign]
      rw [if_pos ⟨by simp, hx⟩]
      rfl
  · have hs1 : ∃ x, s = [x] ∧ sg1.contains x = true := by
      have : ∀ i : Fin 22, ¬ i.val < 4 → ∃ x ∈ sg1, sgs.getD i.val [] = [x] := by decide
      obtain ⟨x, hx, e⟩ := this ⟨k, hlt⟩ h4
      simp only [List.getD_eq_getElem?_getD, hk, Option.getD_some] at e
      exact ⟨x, e, by simpa using hx⟩
    obtain ⟨x, rfl, hx⟩ := hs1
    simp [List.isPrefixOf] at hs
    subst hs
    have h2 : ¬ (t.head? = some 61 ∧ (x = 61 ∨ x = 33 ∨ x = 60 ∨ x = 62)) := by
      rintro ⟨ht, hc⟩
      have ha4 : (([[61, 61], [33, 61], [60, 61], [62, 61]] : List (List Int)).all fun s => !s.isPrefixOf (x :: t)) = true := by
        rw [List.all_eq_true] at ha ⊢
        intro y hy
        apply ha
        have e4 : sgs.take 4 = [[61, 61], [33, 61], [60, 61], [62, 61]] := rfl
        rw [← e4] at hy
        exact (List.take_sublist_take_left (by omega) : List.Sublist (sgs.take 4) (sgs.take k)).subset hy
      cases t with
      | nil => simp at ht
      | cons d u =>
        simp at ht
        subst ht
        simp [List.isPrefixOf] at ha4
        omega
    simp only [cSign]
    rw [if_neg h2, hx]
    rfl

theorem isPrefix_take {s r : List Int} : s.isPrefixOf r = true ↔ r.take s.length = s := by
  rw [List.isPrefixOf_iff_prefix, List.prefix_iff_eq_take]
  exact ⟨fun h => h.symm, fun h => h.symm⟩

set_option maxRecDepth 100000 in
set_option maxHeartbeats 4000000 in
theorem xcutSign_any (v : Value) (b : List Int) (k : Nat) (w : World) (h : By w v b) (hs : Sg w) (hk : k < b.length) (hm : b.length ≤ 1000000) :
    Calls Tryd.prog 52 #[v, .int .i64 (k : Nat)] w fun e w' => e = .returned (cutV k (cSign (b.drop k))) ∧ Bw w w' := by
  have HB := hid h
  have HS := hid (hs.bw (Bw.alloc (Bw.refl w) tk0))
  obtain ⟨g, o, cap, rfl, hcap, hg, hcs⟩ := h.parts hk
  obtain ⟨c, t, hr⟩ : ∃ c t, b.drop k = c :: t := ⟨_, _, List.drop_eq_getElem_cons hk⟩
  have hrl : (b.drop k).length = b.length - k := List.length_drop
  have HRB := hid (fun x hx => HB.out.2.1 x (List.mem_of_mem_drop hx) : ∀ x ∈ b.drop k, 0 ≤ x ∧ x ≤ 255)
  have HR := hid hr
  clear h hcs hs hr
  have hck : ¬ cap = k := by omega
  go_enter Tryd.func52, Tryd.ntmps52
  go_wp2_with (first
    | (refine wpList_load_mid rfl 86 (.global 1) rfl 1 0 rfl sgv _ HS.out.range under49 rfl info49 ?_))
  go_loopw [11] (fun j wr => ∃ i, i ≤ 22 ∧ j = .int .i64 (i : Nat) ∧ wr = w.alloc tk0 ∧ (sgs.take i).all (fun s => !s.isPrefixOf (b.drop k)) = true) (fun j _ => 22 - (intOf j).toNat)
  case atStart => exact ⟨0, Nat.zero_le _, rfl, rfl, by simp⟩
  case round =>
    obtain ⟨i, hi, rfl, hwr, ha⟩ := hrel
    subst wr
    have HA := hid ha
    clear ha
    by_cases hlt : i < 22
    · obtain ⟨s, hs1, hs2, hs3, hs4, hs5⟩ := sgs_get i hlt
      have hlt2 : (i : Int) < 22 := by omega
      have Z : (strOfNums s).size = s.length := strOfNums_size _
      have H5 := hid (And.intro hs1 hs5)
      have hrun := fun w => run_index_sgv w i _ hlt hs2
      cases hp : s.isPrefixOf (b.drop k)
      · have hs' : (sgs.take (i + 1)).all (fun s => !s.isPrefixOf (b.drop k)) = true := by
          rw [all_take_get _ H5.out.1, HA.out, hp]; rfl
        have HS' := hid hs'
        by_cases hle : k + s.length ≤ b.length
        · have hconv := (HB.out.bw (Bw.alloc (Bw.refl w) tk0)).conv k s.length (cap - k) hle
          have hne : ((strOfNums ((b.drop k).take s.length)).toList == (strOfNums s).toList) = false :=
            strOf_ne (fun x hx => HRB.out x (List.mem_of_mem_take hx)) hs5 (fun e => by rw [isPrefix_take.2 e] at hp; cases hp)
          generalize strOfNums ((b.drop k).take s.length) = y at *
          generalize strOfNums s = x at *
          have hle2 : ((k : Int) + (s.length : Int)) ≤ (b.length : Int) := by omega
          clear hs5 hs1 hs2 hs' hp
          go_wp2
          go_roundw
          case rel => exact ⟨i + 1, by omega, by go_num, trivial, HS'.out⟩
          case measure => simp [intOf]; omega
        · generalize strOfNums s = x at *
          have hle2 : ¬ ((k : Int) + (s.length : Int)) ≤ (b.length : Int) := by omega
          clear hs5 hs1 hs2 hs' hp
          go_wp2
          go_roundw
          case rel => exact ⟨i + 1, by omega, by go_num, trivial, HS'.out⟩
          case measure => simp [intOf]; omega
      · have hle : k + s.length ≤ b.length := by
          have := congrArg List.length (isPrefix_take.1 hp)
          rw [List.length_take] at this
          omega
        have hconv := (HB.out.bw (Bw.alloc (Bw.refl w) tk0)).conv k s.length (cap - k) hle
        rw [isPrefix_take.1 hp] at hconv
        have hv : cutV k (cSign (b.drop k)) = .tuple #[.agg #[.int .i64 5, .string (strOfNums s), .int .i64 0, .int .i64 (k : Nat)], .int .i64 0, .int .i64 ((k : Int) + s.length)] := by
          have := HA.out
          rw [HR.out] at hp this ⊢
          rw [sign_some hs1 hp this]
          simp [cutV]
        have HV := hid hv
        generalize strOfNums s = x at *
        have hle2 : ((k : Int) + (s.length : Int)) ≤ (b.length : Int) := by omega
        clear hs5 hs1 hs2 hv hp
        go_wp2
        all_goals refine bodyPost_ret (v := cutV k (cSign (b.drop k))) (by rw [HV.out]; simp [results, Tryd.results52, go_sem, *]) rfl ?_
        all_goals exact ⟨rfl, Bw.alloc (Bw.refl _) _⟩
    · have hv : cutV k (cSign (b.drop k)) = .tuple #[.agg #[.int .i64 0, .string ⟨#[]⟩, .int .i64 0, .int .i64 0], .int .i64 6, .int .i64 ((k : Int) + 1)] := by
        have := HA.out
        rw [List.take_of_length_le (by show sgs.length ≤ i; have : sgs.length = 22 := rfl; omega)] at this
        rw [HR.out] at this ⊢
        rw [sign_none this]
        simp [cutV]
      have HV := hid hv
      clear hv
      go_wp2
      all_goals refine bodyPost_ret (v := cutV k (cSign (b.drop k))) (by rw [HV.out]; simp [results, Tryd.results52, go_sem, *]) rfl ?_
      all_goals exact ⟨rfl, Bw.alloc (Bw.refl _) _⟩

end Go.Proofs.YtlcieebneclmpaaDoor

