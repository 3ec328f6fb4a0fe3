/- The document's lists of numbers: contracts. -/
import Derived.Test.YtfhnhbpmiodomaaDoorEb
set_option linter.unusedVariables false
set_option linter.unusedSimpArgs false
namespace Go.Proofs.YtfhnhbpmiodomaaDoor
open Go Go.RowKit

theorem all_snoc {α : Type} {p : α → Bool} {l : List α} {i : Nat} (hi : i < l.length) (h : (l.take i).all p = true) (hp : p l[i] = true) : (l.take (i + 1)).all p = true := by
  rw [List.take_succ_eq_append_getElem hi, List.all_append, h]
  simp [hp]
theorem all_not {α : Type} {p : α → Bool} {l : List α} {i : Nat} (hi : i < l.length) (hp : p l[i] = false) : l.all p = false := by
  rw [List.all_eq_false]
  exact ⟨l[i], List.getElem_mem hi, by simp [hp]⟩

section
variable {w : World}

set_option maxRecDepth 100000 in
set_option maxHeartbeats 1000000 in
theorem rnumbers_any (v : Value) (l : List Int) (G : Nat → Prop) (ha : RInts w G v l) :
    Calls Tryd.prog 17 #[v] w fun e w' => e = .returned (.bool (l.all pl)) ∧ Bw w w' := by
  have HA := hid ha
  have HI := hid ha.2.1
  have hmx : l.length ≤ 9223372036854775807 := by have := ha.2.2.1; unfold maxLen at this; omega
  obtain ⟨aa, ca, rfl⟩ := ha.form
  clear ha
  go_enter Tryd.func17, Tryd.ntmps17
  go_wp2
  go_loopw [3] (fun j wr => ∃ i, i ≤ l.length ∧ j = .int .i64 (i : Nat) ∧ (l.take i).all pl = true ∧ Bw w wr) (fun j _ => l.length - (intOf j).toNat)
  case atStart => exact ⟨0, Nat.zero_le _, rfl, rfl, Bw.refl _⟩
  case round =>
    obtain ⟨i, hi, rfl, hal, hbw⟩ := hrel
    have HBW := hid hbw
    have HAL := hid hal
    clear hal
    by_cases hlt : i < l.length
    · obtain ⟨g1, o1, c1, e1, _, hg1, _, x⟩ := (HA.out.bw hbw).parts hlt (by decide)
      cases e1
      have x0 := x 0 (by decide)
      simp only [Nat.add_zero, Nat.mul_one, List.getElem?_cons_zero] at x0
      have hlt2 : (i : Int) < (l.length : Int) := by omega
      have HT := hid (fun h => all_snoc (p := pl) hlt HAL.out h)
      have HF := hid (all_not (p := pl) hlt)
      have HII := hid (HI.out _ (List.getElem_mem hlt))
      generalize l[i] = n at x0 HT HF HII
      clear x hbw
      cases hp : pl n
      · have HR := hid (HF.out hp)
        have HPN := hid hp
        clear hp
        go_wp2_with (first
          | (go_at_call 16; refine (rplain_any n _ HII.out).mono ?_; rw [HPN.out]; rintro e wn ⟨rfl, hwn⟩; subst wn)
          | fail)
        all_goals go_ret
        all_goals exact ⟨by rw [HR.out]; rfl, HBW.out.trans (by repeat (first | exact Bw.refl _ | apply Bw.alloc | apply Bw.drewN | apply Bw.drew))⟩
      · have HR := hid (HT.out hp)
        have HPN := hid hp
        clear hp
        go_wp2_with (first
          | (go_at_call 16; refine (rplain_any n _ HII.out).mono ?_; rw [HPN.out]; rintro e wn ⟨rfl, hwn⟩; subst wn)
          | fail)
        go_roundw
        case rel => exact ⟨i + 1, by omega, by go_num, HR.out, HBW.out.trans (by repeat (first | exact Bw.refl _ | apply Bw.alloc | apply Bw.drewN | apply Bw.drew))⟩
        case measure => simp [intOf]; omega
    · obtain rfl : i = l.length := by omega
      have HR := hid (show l.all pl = true by have := HAL.out; rwa [List.take_length] at this)
      go_wp2
      all_goals go_ret
      all_goals exact ⟨by rw [HR.out]; rfl, HBW.out⟩

/-- Bytes that are made. -/
def BytP (w : World) (B : List Int) (e : Ending) (w' : World) : Prop :=
  ∃ v, e = .returned v ∧ w'.ownsRow w.heap.size 5 1 v B.length (B.map (Value.int .u8)) ∧ Bw w w'

theorem nb_it {n : Int} (h : pl n = true) : It.b (.N n) = nb n.toNat := by simp [It.b, h]

theorem byts_take {α : Type} {f : α → List It} {l : List α} {i : Nat} (hi : i < l.length) : byts ((l.take (i + 1)).flatMap f) = byts ((l.take i).flatMap f) ++ byts (f l[i]) := by
  rw [List.take_succ_eq_append_getElem hi, List.flatMap_append]
  simp [byts, List.flatMap_append]
theorem byts_part {α : Type} {f : α → List It} {l : List α} (i : Nat) : (byts ((l.take i).flatMap f)).length ≤ (byts (l.flatMap f)).length := by
  have e : l.flatMap f = (l.take i).flatMap f ++ (l.drop i).flatMap f := by rw [← List.flatMap_append, List.take_append_drop]
  rw [e]
  simp only [byts, List.flatMap_append, List.length_append]
  omega
theorem oks_ints {l : List Int} (h : oks (iL iN l) = true) : pl (l.length : Int) = true ∧ ∀ n ∈ l, pl n = true := by
  simp only [iL, oks, List.all_cons, Bool.and_eq_true, List.all_eq_true] at h
  exact ⟨h.1, fun n hn => h.2 (.N n) (List.mem_flatMap.2 ⟨n, hn, by simp [iN]⟩)⟩

set_option maxRecDepth 100000 in
set_option maxHeartbeats 1000000 in
theorem rlist_any (v : Value) (l : List Int) (G : Nat → Prop) (ha : RInts w G v l) (hp : oks (iL iN l) = true) (hl : (byts (iL iN l)).length ≤ 4194304) :
    Calls Tryd.prog 20 #[v] w (BytP w (byts (iL iN l))) := by
  have HA := hid ha
  have HPL := hid (oks_ints hp).2
  have HLE := hid hl
  have hmx : l.length ≤ 9223372036854775807 := by have := ha.2.2.1; unfold maxLen at this; omega
  have HN := hid (oks_ints hp).1
  have HNB := hid (show (0 : Int) ≤ (l.length : Int) ∧ (l.length : Int) ≤ 4611686018427387903 from by have := of_decide_eq_true HN.out; omega)
  obtain ⟨aa, ca, rfl⟩ := ha.form
  obtain ⟨i1, hi1, hz1, hs1, hy1⟩ := info_parts infoU8
  have I1 := hid (And.intro hi1 (And.intro hz1 (And.intro hs1 hy1)))
  have HE := hid (show ∀ i, byts (.N (l.length : Int) :: (l.take i).flatMap iN) = nb l.length ++ byts ((l.take i).flatMap iN) from fun i => by
    simp only [byts, List.flatMap_cons]
    rw [nb_it HN.out]
    simp)
  clear ha hp hl hi1 hz1 hs1 hy1
  go_enter Tryd.func20, Tryd.ntmps20
  go_wp2_with (first
    | (go_at_call 19; refine (rnumber_any _ (l.length : Int) _ (Nat.le_refl _) HNB.out.1 HNB.out.2).mono ?_; rintro e w1 ⟨v, rfl, ho, hb⟩; rw [Int.toNat_natCast] at ho; have HO := hid ho; have HB := hid hb; clear ho hb)
    | fail)
  go_loopw [3, 4] (fun b j wr => ∃ i, i ≤ l.length ∧ j = .int .i64 (i : Nat) ∧ wr.ownsRow w.heap.size 5 1 b (nb l.length ++ byts ((l.take i).flatMap iN)).length ((nb l.length ++ byts ((l.take i).flatMap iN)).map (Value.int .u8)) ∧ Bw w wr) (fun _ j _ => l.length - (intOf j).toNat)
  case atStart => exact ⟨0, Nat.zero_le _, rfl, by simpa using HO.out, HB.out⟩
  case round =>
    obtain ⟨i, hi, rfl, ho, hbw⟩ := hrel
    have HBW := hid hbw
    obtain ⟨av, cv, ev⟩ := own_form ho
    subst ev
    have HO2 := hid ho
    clear ho
    by_cases hlt : i < l.length
    · obtain ⟨g1, o1, c1, e1, _, hg1, _, x⟩ := (HA.out.bw hbw).parts hlt (by decide)
      cases e1
      have x0 := x 0 (by decide)
      simp only [Nat.add_zero, Nat.mul_one, List.getElem?_cons_zero] at x0
      have hlt2 : (i : Int) < (l.length : Int) := by omega
      have HPI := hid (of_decide_eq_true (HPL.out _ (List.getElem_mem hlt)))
      have HST := hid (show nb l.length ++ byts ((l.take (i + 1)).flatMap iN) = (nb l.length ++ byts ((l.take i).flatMap iN)) ++ nb l[i].toNat by
        rw [byts_take hlt, List.append_assoc]
        congr 2
        simp only [byts, iN, List.flatMap_cons, List.flatMap_nil, List.append_nil]
        exact nb_it (HPL.out _ (List.getElem_mem hlt)))
      have HLN := hid (show (nb l.length ++ byts ((l.take i).flatMap iN)).length ≤ 4194304 by
        have h1 := HLE.out
        have h2 := byts_part (f := iN) (l := l) i
        have h3 : byts (iL iN l) = nb l.length ++ byts (l.flatMap iN) := by have := HE.out l.length; rw [List.take_length] at this; exact this
        rw [h3] at h1
        simp only [List.length_append] at h1 h2 ⊢
        omega)
      generalize nb l.length ++ byts ((l.take i).flatMap iN) = P at HO2 HST HLN
      generalize l[i] = n at x0 HPI HST
      have HL9 := hid (nb9 HPI.out.1 HPI.out.2)
      clear x hbw
      go_wp2_with (first
        | (go_at_call 19; refine (rnumber_any _ n _ (Nat.le_refl _) HPI.out.1 HPI.out.2).mono ?_; rintro e w2 ⟨v, rfl, ho, hb⟩; obtain ⟨an, cn, en⟩ := own_form ho; subst en; have HON := hid ho; have HB2 := hid (show Bw wr w2 from Bw.trans (by repeat (first | exact Bw.refl _ | apply Bw.alloc | apply Bw.drewN | apply Bw.drew)) hb); clear ho hb)
        | (at_builtin; refine wpList_append_sl (G := fun _ => True) _ rfl _ _ 29 rfl w.heap.size 5 i1 (.int .u8 0) 1 1 under22 I1.out.1 I1.out.2.1 I1.out.2.2.1 I1.out.2.2.2 rfl (by decide) (.slice av P.length cv) P.length (P.map (Value.int .u8)) rfl (own_bw HO2.out HB2.out) _ (nb n.toNat).length ((nb n.toNat).map (Value.int .u8)) rfl (own_sl HON.out (fun _ _ => trivial)) (ints_one _ _) (by have := HL9.out; have := HLN.out; unfold maxLen; omega) (by have := HL9.out; have := HLN.out; omega) (by have := HB2.out.size; have := HBW.out.size; omega) ?_; intro va w3 hown hgr; have HV := hid hown; have HB3 := hid (bw_grown (HBW.out.trans HB2.out) (Nat.le_refl _) (own_bw HO2.out HB2.out) hgr); clear hown hgr)
        | fail)
      go_roundw
      case rel => exact ⟨i + 1, by omega, by go_num, by rw [HST.out, List.length_append, List.map_append]; exact HV.out, HB3.out⟩
      case measure => simp [intOf]; omega
    · obtain rfl : i = l.length := by omega
      go_wp2
      all_goals go_ret
      have h3 : byts (iL iN l) = nb l.length ++ byts (l.flatMap iN) := by have := HE.out l.length; rw [List.take_length] at this; exact this
      refine ⟨_, rfl, ?_, HBW.out⟩
      rw [h3]
      have := HO2.out
      simp only [List.take_length] at this ⊢
      exact this

end

end Go.Proofs.YtfhnhbpmiodomaaDoor
