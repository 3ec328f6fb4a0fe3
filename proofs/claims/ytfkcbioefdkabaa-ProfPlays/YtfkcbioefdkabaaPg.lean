/- Hot: the contract. -/
import Derived.Test.YtfkcbioefdkabaaPf
set_option linter.unusedSimpArgs false
set_option linter.unusedVariables false
namespace Go.Proofs.Ytfkcbioefdkabaa
open Go Go.Shelf Go.RowKit Go.Lib Go.Sort

theorem heC_get : ∀ (l : List (Int × Int)) (t : Nat), t < l.length * 2 → (heC l)[t]? = some ((encH l[t / 2]!)[t % 2]!)
  | [], t, h => by simp at h
  | p :: l, 0, _ => by simp [heC, encH]
  | p :: l, 1, _ => by simp [heC, encH]
  | p :: l, t + 2, h => by
    have ih := heC_get l t (by simp at h; omega)
    have e1 : (t + 2) / 2 = t / 2 + 1 := by omega
    have e2 : (t + 2) % 2 = t % 2 := by omega
    rw [e1, e2]
    simp only [heC, List.flatMap_cons, List.cons_append, List.nil_append, List.getElem?_cons_succ]
    simpa [heC] using ih

theorem heC_len (l : List (Int × Int)) : (heC l).length = l.length * 2 := by
  induction l with
  | nil => rfl
  | cons p l ih => simp [heC] at *; omega

theorem merge_eq (l : List (Int × Int)) : (l.mergeSort fun x y => !(ltOf cfH) y x) = sortH l := by
  refine ord_unique _ _ ?_ (sortH_ord l) ((List.mergeSort_perm l _).trans (sortH_perm l).symm)
  have hp := List.pairwise_mergeSort (le := fun x y => !(ltOf cfH) y x) (fun a b c h1 h2 => by
      simp only [ltH] at *
      simp at *
      cases k : ahd c a with
      | false => rfl
      | true =>
        have := swoH.ntrans c b a (by rw [ltH]; exact h2) (by rw [ltH]; exact h1)
        rw [ltH, k] at this
        cases this) (fun a b => by
      simp only [ltH]
      cases k : ahd b a with
      | false => simp
      | true => simp [ahd_asymm k]) l
  unfold Ord
  refine hp.imp fun {a b} h => ?_
  simpa [ltH] using h

theorem sort_ex (w : World) (g n : Nat) (d : Array (Int × Int)) (os : Array Obj) : Ex [g] w (sortWorldK encH 2 w g 0 n d os) := by
  refine ⟨rfl, rfl, rfl, size_sortWorldK_c encH 2 w g 0 n d os, fun b hb hn => ?_⟩
  have hne : b ≠ g := by simpa using hn
  unfold sortWorldK
  rw [heap_grow_old _ _ (by rw [size_putRowK]; exact hb)]
  simp [putRowK, putRow, mapBlock, Array.getElem?_modify, Ne.symm hne, Sort.ahead]

theorem eg36 : ∀ args w, (callFunc 36 args).run Try.prog w = .ok (.enter 36 args) w := enters_of Try.func36 (by kernel_rfl) rfl

theorem sort_any {w : World} {base n : Nat} {a : Option Addr} {cap : Nat} {l : List (Int × Int)} (ho : w.ownsRow base 88 2 (.slice a n cap) n (heC l)) (hl : l.length = n) (hn : n ≤ 1000000) :
    Calls Try.prog 35 #[.slice a n cap, .func (.func 36) #[] #[]] w fun e w' => e = .returned (.tuple #[]) ∧ (∃ g, Ex [g] w w' ∧ base ≤ g ∨ w' = w) ∧ (n ≠ 0 → ∃ g, a = some ⟨g, 0, none⟩ ∧ g < w'.heap.size ∧ ∀ i : Nat, i < n → w'.cell? ⟨g, i * 2, none⟩ = some (.int .i64 (sortH l)[i]!.1) ∧ w'.cell? ⟨g, i * 2 + 1, none⟩ = some (.int .i64 (sortH l)[i]!.2)) := by
  by_cases h0 : n = 0
  · subst h0
    exact (AnyF.slices_SortFunc_none shSortL a cap _ w).mono fun e w' ⟨he, hw⟩ => ⟨he, ⟨0, .inr hw⟩, fun h => absurd rfl h⟩
  · rcases ho.2 with ⟨e, _⟩ | ⟨g, cap', cur, e, hb, hg, hnc, hm, hs, htake⟩
    · simp only [Value.slice.injEq] at e
      exact absurd e.2.1 h0
    · simp only [Value.slice.injEq] at e
      obtain ⟨rfl, _, rfl⟩ := e
      have hB : Blk w g cur 88 := hg
      subst hl
      have hH : HoldsK encH 2 w g 0 l.toArray := by
        intro j hj
        have hj' : j < l.length * 2 := by simpa [flatK] using hj
        refine ⟨?_, hB.free _⟩
        rw [Nat.zero_add, hB.cell]
        have h1 := heC_get l j hj'
        rw [← htake, List.getElem?_take, if_pos hj'] at h1
        have h2 : cur[j]? = some ((encH l[j / 2]!)[j % 2]!) := by simpa using h1
        rw [h2]
        have h3 := get_flatK encH 2 l.toArray j (by simpa using hj')
        simp only [id]
        rw [h3]
        simp
      have hc := AnyQ.slices_SortFunc_total shSortL 2 Try.isAgg88 Try.sizeOf88 encH (fun _ => rfl) (fun x v hv => by simp [encH] at hv; rcases hv with rfl | rfl <;> rfl) cfH swoH 36 #[] g 0 cap l.toArray w eg36
        (fun _ _ _ _ x y => (against_any x y _).mono fun e w' ⟨he, hw⟩ => ⟨he, ly_grow hw⟩) hH hB.lt (by simp; omega) oneH
      refine hc.mono fun e w' ⟨he, m, os, hw⟩ => ⟨he, ⟨g, .inl ⟨hw ▸ sort_ex w g m _ os, hb⟩⟩, fun _ => ⟨g, rfl, ?_, fun i hi => ?_⟩⟩
      · have := size_sortWorldK_c encH 2 w g 0 m ((l.toArray.toList.mergeSort fun x y => !(ltOf cfH) y x).toArray) os
        rw [hw]
        have := hB.lt
        omega
      · have hsz : ((l.toArray.toList.mergeSort fun x y => !(ltOf cfH) y x).toArray).size = l.toArray.size := by simp
        have h2 := holdsK_sortWorldK_c encH 2 w g 0 l.toArray _ m os hH hB.lt hsz
        rw [← hw] at h2
        have hme : (l.toArray.toList.mergeSort fun x y => !(ltOf cfH) y x) = sortH l := merge_eq l
        rw [hme] at h2
        have hsl : (sortH l).length = l.length := (sortH_perm l).length_eq
        have g1 := (h2 (i * 2) (by simp [flatK]; omega)).1
        have g2 := (h2 (i * 2 + 1) (by simp [flatK]; omega)).1
        rw [get_flatK encH 2 _ (i * 2) (by simp; omega)] at g1
        rw [get_flatK encH 2 _ (i * 2 + 1) (by simp; omega)] at g2
        rw [show i * 2 / 2 = i by omega, show i * 2 % 2 = 0 by omega, Nat.zero_add] at g1
        rw [show (i * 2 + 1) / 2 = i by omega, show (i * 2 + 1) % 2 = 1 by omega, Nat.zero_add] at g2
        refine ⟨g1.trans ?_, g2.trans ?_⟩ <;> simp [encH]

section
variable {w w' : World} {p hb wb mb F G : Nat} {L : List AA}

set_option maxRecDepth 100000 in
set_option maxHeartbeats 1000000 in
theorem Hot_any (h : PS w p hb wb mb F G L) (hF : F ≤ 1024) (least : Int) : Calls Try.prog 18 #[.pointer (some ⟨p, 0, none⟩), .int .i64 least] w fun e w' => ∃ r, e = .returned r ∧ w'.ownsRow w.heap.size 3 1 r (hotL (hsOf L) least F).length ((hotL (hsOf L) least F).map (Value.int .i64)) ∧ Bw w w' := by
  have HP := hid h
  have c0 := h.blk.cell 0
  have c1 := h.blk.cell 1
  have c2 := h.blk.cell 2
  simp only [List.getElem?_toArray, List.getElem?_cons_zero, List.getElem?_cons_succ] at c0 c1 c2
  have hlp := h.lts.1
  obtain ⟨i2, hi2, hz2, hs2, hy2⟩ := info_parts infoHe
  have I2 := hid (And.intro hi2 (And.intro hz2 (And.intro hs2 hy2)))
  obtain ⟨i3, hi3, hz3, hs3, hy3⟩ := info_parts infoI
  have I3 := hid (And.intro hi3 (And.intro hz3 (And.intro hs3 hy3)))
  clear h hi2 hz2 hs2 hy2 hi3 hz3 hs3 hy3
  go_enter Try.func18, Try.ntmps18
  go_wp2
  go_loopw [5, 18] (fun o j wr => ∃ (k : Nat), k ≤ F ∧ j = .int .i64 k ∧ wr.ownsRow w.heap.size 88 2 o (hots (hsOf L) least k).length (heC (hots (hsOf L) least k)) ∧ Bw w wr) (fun o j _ => F - (intOf j).toNat)
  case atStart => exact ⟨0, by omega, rfl, World.ownsRow_nil w _ _ _, Bw.refl w⟩
  case round =>
    obtain ⟨k, hk, rfl, hown, hbw⟩ := hrel
    obtain ⟨ao, co, e⟩ := own_form hown
    subst e
    have HO := hid hown
    have HB := hid hbw
    have hsz := hbw.size
    have hsl := hots_len (hsOf L) least k
    by_cases h4 : k < F
    · have h4' : (k : Int) < (F : Int) := by omega
      have hp1 := HP.out.bw hbw
      obtain ⟨cur, a1, a2, a3⟩ := hp1.hs
      have d0 := (a1.cell k).trans (a3 k h4)
      have hlw := a1.lt
      have hst := hots_succ (hsOf L) least k
      have e1 : hsOf L k = (heatOf L (k : Int) : Int) := rfl
      rw [← e1] at d0
      generalize hsOf L k = x at d0 hst
      clear hown hbw hp1 a1 a2 a3 e1
      by_cases hx : 0 < x
      · by_cases hl : least ≤ x
        · rw [if_pos ⟨hx, hl⟩] at hst
          have HST := hid hst
          clear hst
          go_wp2_with (first
            | (at_builtin; refine wpList_append_own _ rfl _ _ 86 rfl w.heap.size 88 i2 _ 2 16 Try.underlying86 I2.out.1 I2.out.2.1 I2.out.2.2.1 I2.out.2.2.2 rfl (by decide) (.slice ao (hots (hsOf L) least k).length co) (hots (hsOf L) least k).length (heC (hots (hsOf L) least k)) rfl ((HO.out.alloc _).alloc _) ⟨wr.heap.size + 1, 0, none⟩ 1 1 [.int .i64 (k : Nat), .int .i64 x] rfl rfl ?c1 ?c2 ?c3 ?c4 ?c5 ?_)
            | go_in)
          case c1 =>
            intro j u hj
            match j, hj with
            | 0, hj => simp at hj; subst hj; simp [Addr.add, go_sem]
            | 1, hj => simp at hj; subst hj; simp [Addr.add, go_sem]
          case c2 => intro u hu; simp at hu; rcases hu with rfl | rfl <;> rfl
          case c3 => unfold maxLen; omega
          case c4 => omega
          case c5 => simp only [World.size_alloc]; omega
          intro v' w1 hown hgr _
          obtain ⟨av', cv', e⟩ := own_form hown
          subst e
          have HW1 := hid (bw_grown (Bw.alloc (Bw.alloc HB.out _) _) (Nat.le_refl _) ((HO.out.alloc _).alloc _) hgr)
          have hown2 : w1.ownsRow w.heap.size 88 2 (.slice av' ((hots (hsOf L) least k).length + 1) cv') (hots (hsOf L) least (k + 1)).length (heC (hots (hsOf L) least (k + 1))) := by
            rw [HST.out, heC_snoc, List.length_append]
            exact hown
          have HO1 := hid hown2
          clear hgr hown hown2
          go_wp2
          go_roundw
          case rel => exact ⟨k + 1, by omega, by go_num, HO1.out, HW1.out⟩
          case measure => simp [intOf]; omega
        · have hl' : ¬ least ≤ x := hl
          rw [if_neg (fun h => hl h.2), List.append_nil] at hst
          have HS2 := hid hst
          clear hst
          go_wp2
          go_roundw
          case rel => exact ⟨k + 1, by omega, by go_num, by rw [HS2.out]; exact HO.out.alloc _, Bw.alloc HB.out _⟩
          case measure => simp [intOf]; omega
      · have hx' : ¬ 0 < x := hx
        rw [if_neg (fun h => hx h.1), List.append_nil] at hst
        have HS2 := hid hst
        clear hst
        go_wp2
        go_roundw
        case rel => exact ⟨k + 1, by omega, by go_num, by rw [HS2.out]; exact HO.out.alloc _, Bw.alloc HB.out _⟩
        case measure => simp [intOf]; omega
    · have h4' : ¬ (k : Int) < (F : Int) := by omega
      obtain rfl : k = F := by omega
      clear hown hbw
      have hml : (hotL (hsOf L) least k).length = (hots (hsOf L) least k).length := hotL_len _ _ _
      have hmg : ∀ i : Nat, i < (hots (hsOf L) least k).length → (hotL (hsOf L) least k)[i]? = some ((sortH (hots (hsOf L) least k))[i]!.1) := by
        intro i hi
        have : (sortH (hots (hsOf L) least k)).length = (hots (hsOf L) least k).length := (sortH_perm _).length_eq
        unfold hotL
        have hi' : i < (sortH (hots (hsOf L) least k)).length := by omega
        simp [hi']
      have HMG := hid hmg
      have HML := hid hml
      have SRT := hid (sort_any HO.out rfl (by omega))
      clear hmg hml
      generalize sortH (hots (hsOf L) least k) = S at *
      obtain ⟨M, hM⟩ : ∃ M, hotL (hsOf L) least k = M := ⟨_, rfl⟩
      rw [hM] at HMG HML
      have HM := hid hM
      clear hM
      generalize (hots (hsOf L) least k).length = n at *
      go_wp2_with (first
        | (go_at_call 35; refine (SRT.out).mono ?_; rintro e w2 ⟨rfl, hx2, hc2⟩)
        | fail)
      have hb2 : Bw w w2 := by
        obtain ⟨g, h2 | h2⟩ := hx2
        · exact HB.out.ex h2.1 (by simpa using h2.2)
        · rw [h2]; exact HB.out
      have HB2 := hid hb2
      have HC2 := hid hc2
      have hsz2 := hb2.size
      clear hx2 hc2 hb2
      go_loopw [8, 44] (fun o j wr => ∃ (i : Nat), i ≤ n ∧ j = .int .i64 i ∧ wr.ownsRow w2.heap.size 3 1 o i ((M.take i).map (Value.int .i64)) ∧ Bw w2 wr) (fun o j _ => n - (intOf j).toNat)
      case atStart => exact ⟨0, by omega, rfl, World.ownsRow_nil w2 _ _ _, Bw.refl w2⟩
      case round =>
        obtain ⟨i, hi, rfl, hown, hbw⟩ := hrel
        obtain ⟨bo, do', e⟩ := own_form hown
        subst e
        have HO2 := hid hown
        have HB3 := hid hbw
        have hsz3 := hbw.size
        by_cases hin : i < n
        · have hin' : (i : Int) < (n : Int) := by omega
          obtain ⟨g, rfl, hg2, hcc⟩ := HC2.out (by omega)
          have g0 := (World.cell?_of_block (w := w2) (w' := wr) (a := ⟨g, i * 2, none⟩) (hbw.block g hg2)).trans (hcc i hin).1
          have g1 := (World.cell?_of_block (w := w2) (w' := wr) (a := ⟨g, i * 2 + 1, none⟩) (hbw.block g hg2)).trans (hcc i hin).2
          have hm1 := HMG.out i hin
          have hgr3 : g < wr.heap.size := by omega
          have htk : M.take (i + 1) = M.take i ++ [S[i]!.1] := by
            rw [List.take_add_one, hm1]
            rfl
          have HTK := hid htk
          clear hown hbw hcc hm1 htk
          generalize S[i]!.1 = x at *
          generalize S[i]!.2 = y at *
          go_wp2_with (first
            | (at_builtin; refine wpList_append_own _ rfl _ _ 46 rfl w2.heap.size 3 i3 _ 1 8 Try.underlying46 I3.out.1 I3.out.2.1 I3.out.2.2.1 I3.out.2.2.2 rfl (by decide) (.slice bo i do') i ((M.take i).map (Value.int .i64)) rfl ((HO2.out.alloc _).alloc _) ⟨wr.heap.size + 1, 0, none⟩ 1 1 [.int .i64 x] rfl rfl ?c1 ?c2 ?c3 ?c4 ?c5 ?_)
            | go_in)
          case c1 =>
            intro j u hj
            match j, hj with
            | 0, hj => simp at hj; subst hj; simp [Addr.add, go_sem]
          case c2 => intro u hu; simp at hu; subst hu; rfl
          case c3 => unfold maxLen; omega
          case c4 => omega
          case c5 => simp only [World.size_alloc]; omega
          intro v' w1 hown hgr _
          obtain ⟨av', cv', e⟩ := own_form hown
          subst e
          have HW1 := hid (bw_grown (Bw.alloc (Bw.alloc HB3.out _) _) (Nat.le_refl _) ((HO2.out.alloc _).alloc _) hgr)
          have hown2 : w1.ownsRow w2.heap.size 3 1 (.slice av' (i + 1) cv') (i + 1) ((M.take (i + 1)).map (Value.int .i64)) := by
            rw [HTK.out, List.map_append, List.map_take]
            exact hown
          have HO1 := hid hown2
          clear hgr hown hown2
          go_wp2
          go_roundw
          case rel => exact ⟨i + 1, by omega, by go_num, HO1.out, HW1.out⟩
          case measure => simp [intOf]; omega
        · have hin' : ¬ (i : Int) < (n : Int) := by omega
          obtain rfl : i = n := by omega
          clear hown hbw
          go_wp2
          all_goals go_ret
          all_goals
            refine ⟨_, rfl, ?_, HB2.out.trans HB3.out⟩
            have := HO2.out
            rw [List.take_of_length_le (by have := HML.out; omega)] at this
            rw [HM.out, HML.out]
            exact own_base this hsz2

end

end Go.Proofs.Ytfkcbioefdkabaa
