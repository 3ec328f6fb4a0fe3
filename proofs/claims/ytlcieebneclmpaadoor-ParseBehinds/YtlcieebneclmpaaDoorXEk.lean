/- The program's cutter of signs: the contract. -/
import Derived.Test.YtlcieebneclmpaaDoorXDk
set_option linter.unusedSimpArgs false
set_option linter.unusedVariables false
namespace Go.Proofs.YtlcieebneclmpaaDoor
open Go Go.RowKit

theorem sign_none {c : Int} {t : List Int} (h : (sgs.all fun s => !s.isPrefixOf (c :: t)) = true) : cSign (c :: t) = .bad 6 1 := by
  have h1 : sg1.contains c = false := by
    simp [sgs, List.isPrefixOf] at h
    simp [sg1]
    omega
  have h2 : ¬ (t.head? = some 61 ∧ (c = 61 ∨ c = 33 ∨ c = 60 ∨ c = 62)) := by
    rintro ⟨ht, hc⟩
    cases t with
    | nil => simp at ht
    | cons d u =>
      simp at ht
      subst ht
      simp [sgs, List.isPrefixOf] at h
      omega
  simp only [cSign]
  rw [if_neg h2, h1]
  simp

theorem sign_some {k : Nat} {s : List Int} {c : Int} {t : List Int} (hk : sgs[k]? = some s) (hs : s.isPrefixOf (c :: t) = true) (ha : ((sgs.take k).all fun s => !s.isPrefixOf (c :: t)) = true) : cSign (c :: t) = .tok 5 s 0 s.length := by
  have hlt : k < 22 := (List.getElem?_eq_some_iff.1 hk).1
  by_cases h4 : k < 4
  · have hs2 : ∃ x, s = [x, 61] ∧ (x = 61 ∨ x = 33 ∨ x = 60 ∨ x = 62) := by
      match k, h4, hk with
      | 0, _, hk => simp [sgs] at hk; exact ⟨61, hk.symm, by simp⟩
      | 1, _, hk => simp [sgs] at hk; exact ⟨33, hk.symm, by simp⟩
      | 2, _, hk => simp [sgs] at hk; exact ⟨60, hk.symm, by simp⟩
      | 3, _, hk => simp [sgs] at hk; exact ⟨62, hk.symm, by simp⟩
    obtain ⟨x, rfl, hx⟩ := hs2
    cases t with
    | nil => simp [List.isPrefixOf] at hs
    | cons d u =>
      simp [List.isPrefixOf] at hs
      obtain ⟨rfl, rfl⟩ := hs
      simp only [cSign]
      rw [if_pos ⟨by simp, hx⟩]
      rfl
  · have hs1 : ∃ x, s = [x] ∧ sg1.contains x = true := by
      have : ∀ i : Fin 22, ¬ i.val < 4 → ∃ x ∈ sg1, sgs.getD i.val [] = [x] := by decide
      obtain ⟨x, hx, e⟩ := this ⟨k, hlt⟩ h4
      simp only [List.getD_eq_getElem?_getD, hk, Option.getD_some] at e
      exact ⟨x, e, by simpa using hx⟩
    obtain ⟨x, rfl, hx⟩ := hs1
    simp [List.isPrefixOf] at hs
    subst hs
    have h2 : ¬ (t.head? = some 61 ∧ (x = 61 ∨ x = 33 ∨ x = 60 ∨ x = 62)) := by
      rintro ⟨ht, hc⟩
      have ha4 : (([[61, 61], [33, 61], [60, 61], [62, 61]] : List (List Int)).all fun s => !s.isPrefixOf (x :: t)) = true := by
        rw [List.all_eq_true] at ha ⊢
        intro y hy
        apply ha
        have e4 : sgs.take 4 = [[61, 61], [33, 61], [60, 61], [62, 61]] := rfl
        rw [← e4] at hy
        exact (List.take_sublist_take_left (by omega) : List.Sublist (sgs.take 4) (sgs.take k)).subset hy
      cases t with
      | nil => simp at ht
      | cons d u =>
        simp at ht
        subst ht
        simp [List.isPrefixOf] at ha4
        omega
    simp only [cSign]
    rw [if_neg h2, hx]
    rfl

theorem isPrefix_take {s r : List Int} : s.isPrefixOf r = true ↔ r.take s.length = s := by
  rw [List.isPrefixOf_iff_prefix, List.prefix_iff_eq_take]
  exact ⟨fun h => h.symm, fun h => h.symm⟩

set_option maxRecDepth 100000 in
set_option maxHeartbeats 4000000 in
theorem xcutSign_any (v : Value) (b : List Int) (k : Nat) (w : World) (h : By w v b) (hs : Sg w) (hk : k < b.length) (hm : b.length ≤ 1000000) :
    Calls Tryd.prog 52 #[v, .int .i64 (k : Nat)] w fun e w' => e = .returned (cutV k (cSign (b.drop k))) ∧ Bw w w' := by
  have HB := hid h
  have HS := hid (hs.bw (Bw.alloc (Bw.refl w) tk0))
  obtain ⟨g, o, cap, rfl, hcap, hg, hcs⟩ := h.parts hk
  obtain ⟨c, t, hr⟩ : ∃ c t, b.drop k = c :: t := ⟨_, _, List.drop_eq_getElem_cons hk⟩
  have hrl : (b.drop k).length = b.length - k := List.length_drop
  have HRB := hid (fun x hx => HB.out.2.1 x (List.mem_of_mem_drop hx) : ∀ x ∈ b.drop k, 0 ≤ x ∧ x ≤ 255)
  have HR := hid hr
  clear h hcs hs hr
  have hck : ¬ cap = k := by omega
  go_enter Tryd.func52, Tryd.ntmps52
  go_wp2_with (first
    | (refine wpList_load_mid rfl 86 (.global 1) rfl 1 0 rfl sgv _ HS.out.range under49 rfl info49 ?_))
  go_loopw [11] (fun j wr => ∃ i, i ≤ 22 ∧ j = .int .i64 (i : Nat) ∧ wr = w.alloc tk0 ∧ (sgs.take i).all (fun s => !s.isPrefixOf (b.drop k)) = true) (fun j _ => 22 - (intOf j).toNat)
  case atStart => exact ⟨0, Nat.zero_le _, rfl, rfl, by simp⟩
  case round =>
    obtain ⟨i, hi, rfl, hwr, ha⟩ := hrel
    subst wr
    have HA := hid ha
    clear ha
    by_cases hlt : i < 22
    · obtain ⟨s, hs1, hs2, hs3, hs4, hs5⟩ := sgs_get i hlt
      have hlt2 : (i : Int) < 22 := by omega
      have Z : (strOfNums s).size = s.length := strOfNums_size _
      have H5 := hid (And.intro hs1 hs5)
      have hrun := fun w => run_index_sgv w i _ hlt hs2
      cases hp : s.isPrefixOf (b.drop k)
      · have hs' : (sgs.take (i + 1)).all (fun s => !s.isPrefixOf (b.drop k)) = true := by
          rw [all_take_get _ H5.out.1, HA.out, hp]; rfl
        have HS' := hid hs'
        by_cases hle : k + s.length ≤ b.length
        · have hconv := (HB.out.bw (Bw.alloc (Bw.refl w) tk0)).conv k s.length (cap - k) hle
          have hne : ((strOfNums ((b.drop k).take s.length)).toList == (strOfNums s).toList) = false :=
            strOf_ne (fun x hx => HRB.out x (List.mem_of_mem_take hx)) hs5 (fun e => by rw [isPrefix_take.2 e] at hp; cases hp)
          generalize strOfNums ((b.drop k).take s.length) = y at *
          generalize strOfNums s = x at *
          have hle2 : ((k : Int) + (s.length : Int)) ≤ (b.length : Int) := by omega
          clear hs5 hs1 hs2 hs' hp
          go_wp2
          go_roundw
          case rel => exact ⟨i + 1, by omega, by go_num, trivial, HS'.out⟩
          case measure => simp [intOf]; omega
        · generalize strOfNums s = x at *
          have hle2 : ¬ ((k : Int) + (s.length : Int)) ≤ (b.length : Int) := by omega
          clear hs5 hs1 hs2 hs' hp
          go_wp2
          go_roundw
          case rel => exact ⟨i + 1, by omega, by go_num, trivial, HS'.out⟩
          case measure => simp [intOf]; omega
      · have hle : k + s.length ≤ b.length := by
          have := congrArg List.length (isPrefix_take.1 hp)
          rw [List.length_take] at this
          omega
        have hconv := (HB.out.bw (Bw.alloc (Bw.refl w) tk0)).conv k s.length (cap - k) hle
        rw [isPrefix_take.1 hp] at hconv
        have hv : cutV k (cSign (b.drop k)) = .tuple #[.agg #[.int .i64 5, .string (strOfNums s), .int .i64 0, .int .i64 (k : Nat)], .int .i64 0, .int .i64 ((k : Int) + s.length)] := by
          have := HA.out
          rw [HR.out] at hp this ⊢
          rw [sign_some hs1 hp this]
          simp [cutV]
        have HV := hid hv
        generalize strOfNums s = x at *
        have hle2 : ((k : Int) + (s.length : Int)) ≤ (b.length : Int) := by omega
        clear hs5 hs1 hs2 hv hp
        go_wp2
        all_goals refine bodyPost_ret (v := cutV k (cSign (b.drop k))) (by rw [HV.out]; simp [results, Tryd.results52, go_sem, *]) rfl ?_
        all_goals exact ⟨rfl, Bw.alloc (Bw.refl _) _⟩
    · have hv : cutV k (cSign (b.drop k)) = .tuple #[.agg #[.int .i64 0, .string ⟨#[]⟩, .int .i64 0, .int .i64 0], .int .i64 6, .int .i64 ((k : Int) + 1)] := by
        have := HA.out
        rw [List.take_of_length_le (by show sgs.length ≤ i; have : sgs.length = 22 := rfl; omega)] at this
        rw [HR.out] at this ⊢
        rw [sign_none this]
        simp [cutV]
      have HV := hid hv
      clear hv
      go_wp2
      all_goals refine bodyPost_ret (v := cutV k (cSign (b.drop k))) (by rw [HV.out]; simp [results, Tryd.results52, go_sem, *]) rfl ?_
      all_goals exact ⟨rfl, Bw.alloc (Bw.refl _) _⟩

end Go.Proofs.YtlcieebneclmpaaDoor

