/- The document's skipping of blanks and remarks, digits: the contracts. -/
import Derived.Test.YtekkjpecdflajaaDoorRAk
set_option linter.unusedSimpArgs false
set_option linter.unusedVariables false
namespace Go.Proofs.YtekkjpecdflajaaDoor
open Go Go.RowKit

/-- From place k on all is cut as from place p on. -/
def Sk0 (b : List Int) (k p : Nat) : Prop :=
  k ≤ p ∧ p ≤ b.length ∧ ∀ acc f, (b.drop k).length < f → ∃ f', (b.drop p).length < f' ∧ lexF f (b.drop k) k acc = lexF f' (b.drop p) p acc

theorem Sk0.refl (b : List Int) (k : Nat) (h : k ≤ b.length) : Sk0 b k k := ⟨Nat.le_refl _, h, fun acc f hf => ⟨f, hf, rfl⟩⟩

theorem Sk0.blank {b : List Int} {k p : Nat} (h : Sk0 b k p) (hp : p < b.length) (hb : isBl b[p] = true) : Sk0 b k (p + 1) := by
  refine ⟨by have := h.1; omega, hp, fun acc f hf => ?_⟩
  obtain ⟨f', h1, h2⟩ := h.2.2 acc f hf
  rw [List.drop_eq_getElem_cons hp] at h1 h2
  obtain ⟨f'', rfl⟩ : ∃ f'', f' = f'' + 1 := ⟨f' - 1, by omega⟩
  rw [lexF_blank hb] at h2
  exact ⟨f'', by simp only [List.length_cons] at h1; omega, h2⟩

theorem Sk0.rem {b : List Int} {k p : Nat} (h : Sk0 b k p) (hp : p < b.length) (hb : b[p] = 35) : Sk0 b k (p + twl (· != 10) (b.drop p)) := by
  have hd : b.drop p = 35 :: b.drop (p + 1) := by rw [List.drop_eq_getElem_cons hp, hb]
  have htw := twl_le (· != 10) (b.drop p)
  have ht : twl (· != 10) (b.drop p) = twl (· != 10) (b.drop (p + 1)) + 1 := by rw [hd, twl_cons]; simp
  rw [List.length_drop] at htw
  refine ⟨by have := h.1; omega, by omega, fun acc f hf => ?_⟩
  obtain ⟨f', h1, h2⟩ := h.2.2 acc f hf
  rw [hd] at h1 h2
  obtain ⟨f'', rfl⟩ : ∃ f'', f' = f'' + 1 := ⟨f' - 1, by omega⟩
  rw [lexF_rem, List.drop_drop] at h2
  refine ⟨f'', ?_, ?_⟩
  · simp only [List.length_cons, List.length_drop] at h1 ⊢; omega
  · rw [h2, ht]
    congr 1
    · congr 1; omega
    · omega

/-- .. and there a token, or none, begins. -/
def Skp (b : List Int) (k p : Nat) : Prop := Sk0 b k p ∧ ∀ h : p < b.length, isBl b[p] = false ∧ b[p] ≠ 35

set_option maxHeartbeats 8000000 in
theorem rskip_any (v : Value) (b : List Int) (k : Nat) (w : World) (h : By w v b) (hk : k ≤ b.length) (hm : b.length ≤ 1000000) :
    Calls Tryd.prog 20 #[v, .int .i64 (k : Nat)] w fun e w' => ∃ p : Nat, e = .returned (.int .i64 (p : Nat)) ∧ Skp b k p ∧ w' = w := by
  have HB := hid h
  obtain ⟨a, cap, rfl⟩ := h.form
  clear h
  go_enter Tryd.func20, Tryd.ntmps20
  go_wp2
  go_loopw [1] (fun j wr => ∃ p : Nat, j = .int .i64 (p : Nat) ∧ Sk0 b k p ∧ wr = w) (fun j _ => b.length - (intOf j).toNat)
  case atStart => exact ⟨k, rfl, Sk0.refl b k hk, rfl⟩
  case round =>
    obtain ⟨p, rfl, hsk, hwr⟩ := hrel
    subst wr
    have HSK := hid hsk
    have hpb := hsk.2.1
    clear hsk
    by_cases hlt : p < b.length
    · obtain ⟨g, o, cap', e, hcap, hg, hcs⟩ := HB.out.parts hlt
      cases e
      have HC := hid hcs
      have hc := hcs p hlt
      have hlt2 : (p : Int) < (b.length : Int) := by omega
      have HSB := hid (fun hb => HSK.out.blank hlt hb)
      have HSR := hid (fun hb => HSK.out.rem hlt hb)
      have HST := hid (fun (h1 : isBl b[p] = false) (h2 : b[p] ≠ 35) => (show Skp b k p from ⟨HSK.out, fun _ => ⟨h1, h2⟩⟩))
      clear hcs
      generalize b[p] = c at hc HSB HSR HST
      cases h35 : (c == 35)
      · cases hbl : isBl c
        · have n1 : (c != 32) = true := by simp [isBl] at hbl; simp; omega
          have n2 : (c != 9) = true := by simp [isBl] at hbl; simp; omega
          have n3 : (c != 10) = true := by simp [isBl] at hbl; simp; omega
          have n4 : (c != 13) = true := by simp [isBl] at hbl; simp; omega
          have HF := hid (HST.out hbl (by simpa using h35))
          go_wp2
          all_goals go_ret
          all_goals exact ⟨p, rfl, HF.out, rfl⟩
        · have HF := hid (HSB.out hbl)
          have hb4 : c = 32 ∨ c = 9 ∨ c = 10 ∨ c = 13 := by simpa [isBl, or_assoc] using hbl
          clear hbl
          rcases hb4 with rfl | rfl | rfl | rfl
          all_goals
            go_wp2
            go_roundw
            case rel => exact ⟨p + 1, by go_num, HF.out, trivial⟩
            case measure => simp [intOf]; omega
      · rw [beq_iff_eq] at h35
        subst h35
        have HF := hid (HSR.out rfl)
        clear HSB HSR HST
        go_wp2
        go_loopw [1] (fun j wr => ∃ m, j = .int .i64 ((p + m : Nat) : Int) ∧ m ≤ twl (· != 10) (b.drop p) ∧ wr = w) (fun j _ => b.length - (intOf j).toNat)
        case atStart => exact ⟨0, by simp, Nat.zero_le _, rfl⟩
        case round =>
          obtain ⟨m, rfl, hm1, hwr⟩ := hrel
          subst wr
          have hle := twl_le (· != 10) (b.drop p)
          rw [List.length_drop] at hle
          have hpos : 1 ≤ twl (· != 10) (b.drop p) := by
            have := HF.out.1
            have hcc := HC.out p hlt
            have hb : b[p] = 35 := by have := hcc.symm.trans hc; simpa using this
            rw [List.drop_eq_getElem_cons hlt, twl_cons, hb]; simp
          by_cases hlm : p + m < b.length
          · have hc2 := HC.out _ hlm
            have hlm2 : ((p + m : Nat) : Int) < (b.length : Int) := by omega
            have hml : m < (b.drop p).length := by rw [List.length_drop]; omega
            have hge : (b.drop p)[m] = b[p + m] := by simp
            have TG := hid (@twl_go (· != 10) (b.drop p) m hm1 hml)
            have TN := hid (@twl_no (· != 10) (b.drop p) m hm1 hml)
            rw [hge] at TG TN
            generalize b[p + m] = c2 at hc2 TG TN
            clear hge hml hle
            cases hc10 : (c2 != 10)
            · have HE := hid (TN.out hc10)
              clear hm1 TG TN
              go_wp2
              go_roundw
              case rel => exact ⟨p + m, by go_num, by rw [← HE.out]; exact HF.out, trivial⟩
              case measure => have := HE.out; simp [intOf]; omega
            · have hg1 := hid (TG.out hc10)
              clear hm1 TG TN
              go_wp2
              go_roundw
              case rel => exact ⟨m + 1, by go_num, hg1.out, trivial⟩
              case measure => simp [intOf]; omega
          · have HE := hid (show twl (· != 10) (b.drop p) = m from twl_end hm1 (by rw [List.length_drop]; omega))
            clear hm1 hle
            go_wp2
            go_roundw
            case rel => exact ⟨p + m, by go_num, by rw [← HE.out]; exact HF.out, trivial⟩
            case measure => have := HE.out; simp [intOf]; omega
    · have HF := hid (show Skp b k p from ⟨HSK.out, fun h => absurd h hlt⟩)
      go_wp2
      all_goals go_ret
      all_goals exact ⟨p, rfl, HF.out, rfl⟩

end Go.Proofs.YtekkjpecdflajaaDoor

