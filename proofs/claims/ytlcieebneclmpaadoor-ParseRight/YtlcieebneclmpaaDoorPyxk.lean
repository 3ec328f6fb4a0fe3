/- A statement that begins with an expression: contract. -/
import Derived.Test.YtlcieebneclmpaaDoorPyak
import Derived.Test.YtlcieebneclmpaaDoorK9
import Derived.Test.YtlcieebneclmpaaDoorK10
set_option linter.unusedSimpArgs false
set_option linter.unusedVariables false
namespace Go.Proofs.YtlcieebneclmpaaDoor
open Go Go.RowKit

section
variable {B : World} {r g cap : Nat} {T : List ATok} {ex : Nat → Value}

set_option maxRecDepth 100000 in
set_option maxHeartbeats 8000000 in
theorem fits_target (k : Int) (w : World) :
    Calls Tryd.prog 18 #[.int .i64 k, .int .i64 8] w fun e w' => e = .returned (.bool (k == 19 || k == 29 || k == 30)) ∧ w' = w := by
  by_cases h1 : k ≤ 0
  · go_enter Tryd.func18, Tryd.ntmps18
    go_wp2
    all_goals go_ret
    all_goals exact ⟨ret_bool (by have a1 : ¬ k = 19 := by omega
                                  have a2 : ¬ k = 29 := by omega
                                  have a3 : ¬ k = 30 := by omega
                                  simp [a1, a2, a3]), rfl⟩
  · by_cases h2 : 33 ≤ k
    · go_enter Tryd.func18, Tryd.ntmps18
      go_wp2
      all_goals go_ret
      all_goals exact ⟨ret_bool (by have a1 : ¬ k = 19 := by omega
                                    have a2 : ¬ k = 29 := by omega
                                    have a3 : ¬ k = 30 := by omega
                                    simp [a1, a2, a3]), rfl⟩
    · go_enter Tryd.func18, Tryd.ntmps18
      go_wp2
      all_goals go_ret
      all_goals exact ⟨ret_bool (by simp [*]), rfl⟩

set_option maxRecDepth 100000 in
set_option maxHeartbeats 8000000 in
theorem isTarget_any {S : Nat → Prop} (x : Prt) (b : Nat) (w : World) (hp : PtM w S x b) :
    Calls Tryd.prog 84 #[.pointer (some ⟨b, 0, none⟩)] w fun e w' => e = .returned (.bool (x.kind == 19 || x.kind == 29 || x.kind == 30)) ∧ w' = w := by
  obtain ⟨v0, p4, p0, p5, pl, _⟩ := hp.at
  clear hp
  go_enter Tryd.func84, Tryd.ntmps84
  go_wp2_with (first
    | (go_at_call 18; refine (fits_target _ _).mono ?_; rintro e w' ⟨rfl, hw'⟩; subst w')
    | fail)
  all_goals go_ret
  all_goals exact ⟨rfl, rfl⟩

set_option maxRecDepth 100000 in
set_option maxHeartbeats 8000000 in
theorem eset_any (pa pb pc : Nat) (e0 : ex 0 = .func (.func 69) #[] #[.pointer (some ⟨pa, 0, none⟩), .pointer (some ⟨pb, 0, none⟩), .pointer (some ⟨pc, 0, none⟩)]) (f : Nat) (he : RdP B r g cap T ex f 69 #[.pointer (some ⟨pa, 0, none⟩), .pointer (some ⟨pb, 0, none⟩), .pointer (some ⟨pc, 0, none⟩)] (.lev 0)) (w : World) (i o : Nat) (h : RI B w r g cap T ex i o) (ho : o ≤ 64) (hne : ((pP T f (.lev 0) i o).bind fun x _ j => if (x.kind == 19 || x.kind == 29 || x.kind == 30) && isT T j ⟨#[61]⟩ then (pP T f (.lev 0) (j + 1) o).bind fun y _ j => semi T j (.mk 4 [] 0 x.at_ [x, y]) else semi T j (.mk 13 [] 0 x.at_ [x])) ≠ .out) :
    Calls Tryd.prog 67 #[.pointer (some ⟨r, 0, none⟩)] w (Got B r g cap T ex o No w ((pP T f (.lev 0) i o).bind fun x _ j => if (x.kind == 19 || x.kind == 29 || x.kind == 30) && isT T j ⟨#[61]⟩ then (pP T f (.lev 0) (j + 1) o).bind fun y _ j => semi T j (.mk 4 [] 0 x.at_ [x, y]) else semi T j (.mk 13 [] 0 x.at_ [x]))) := by
  have HS := hid (SI.begin h)
  have HE := hid he
  have zz := HS.out.ri.k.cell; have zf := HS.out.ri.k.free; have zl := HS.out.ri.k.lt
  clear h he
  have HNE1 := hid (show pP T f (.lev 0) i o ≠ .out from fun q => hne (by rw [q]; rfl))
  generalize hq1 : pP T f (.lev 0) i o = R1 at hne ⊢
  have HQ1 := hid hq1
  clear hq1
  cases R1 with
  | out => exact absurd HQ1.out HNE1.out
  | bad n1 m1 =>
    simp only [Res.bind]
    clear hne
    go_enter Tryd.func67, Tryd.ntmps67
    go_wp2_with (first
      | (go_at_call 69; refine (HE.out _ _ _ (HS.out.ri.bw (by repeat (first | exact Bw.refl _ | apply Bw.alloc | apply Bw.drewN | apply Bw.drew))) ho HNE1.out).mono ?_; intro e w2 h2; rw [HQ1.out] at h2; obtain ⟨rfl, hk2⟩ := h2; have HK := hid ((HS.out.kp.bw (by repeat (first | exact Bw.refl _ | apply Bw.alloc | apply Bw.drewN | apply Bw.drew))).trans hk2); clear hk2)
      | fail)
    all_goals exact ⟨rfl, rfl, HK.out⟩
  | ok x1 c1 j1 =>
    simp only [Res.bind] at hne ⊢
    cases ht : (x1.kind == 19 || x1.kind == 29 || x1.kind == 30)
    · rw [Bool.false_and, if_neg (by decide)]
      clear hne
      cases hl : isT T j1 ⟨#[59]⟩
      · have HSM := hid (show semi T j1 (.mk 13 [] 0 x1.at_ [x1]) = .bad 6 (tk T j1).2.2.2 by unfold semi want; rw [hl]; rfl)
        rw [HSM.out]
        clear hl
        go_enter Tryd.func67, Tryd.ntmps67
        go_wp2_with (first
          | (go_at_call 69; refine (HE.out _ _ _ (HS.out.ri.bw (by repeat (first | exact Bw.refl _ | apply Bw.alloc | apply Bw.drewN | apply Bw.drew))) ho HNE1.out).mono ?_; intro e w2 h2; rw [HQ1.out] at h2; obtain ⟨bx, rfl, hp2, hr2, hk2⟩ := h2; have HS := hid ((HS.out.bw (by repeat (first | exact Bw.refl _ | apply Bw.alloc | apply Bw.drewN | apply Bw.drew))).add hr2 hk2 hp2); obtain ⟨v9, p4, _, _, pl, _⟩ := (HS.out.ps (x1, bx) (by simp)).at; have zz := HS.out.ri.k.cell; have zf := HS.out.ri.k.free; have zl := HS.out.ri.k.lt; clear hp2 hr2 hk2)
          | (go_at_call 84; refine (isTarget_any x1 bx _ ((HS.out.bw (by repeat (first | exact Bw.refl _ | apply Bw.alloc | apply Bw.drewN | apply Bw.drew))).ps (x1, bx) (by simp))).mono ?_; rintro e w' ⟨rfl, hw'⟩; subst w')
          | (go_at_call 58; refine (is_any _ (HS.out.ri.bw (by repeat (first | exact Bw.refl _ | apply Bw.alloc | apply Bw.drewN | apply Bw.drew)))).mono ?_; rintro e w1 ⟨rfl, hb1⟩; have HS := hid (HS.out.bw (Bw.trans (by repeat (first | exact Bw.refl _ | apply Bw.alloc | apply Bw.drewN | apply Bw.drew)) hb1)); obtain ⟨v9, p4, _, _, pl, _⟩ := (HS.out.ps (x1, bx) (by simp)).at; have zz := HS.out.ri.k.cell; have zf := HS.out.ri.k.free; have zl := HS.out.ri.k.lt; clear hb1)
          | (go_at_call 43; refine (made_any _ _ _ [x1] [bx] _ _ (HS.out.row1 (x := x1) (b := bx) (by simp)).1 (HS.out.row1 (x := x1) (b := bx) (by simp)).2).mono ?_; rintro e w3 ⟨b3, rfl, hp3, hb3, hn3, hc3⟩; have HS := hid ((HS.out.bw (Bw.alloc (Bw.refl _) _)).put hb3 hp3); have zz := HS.out.ri.k.cell; have zf := HS.out.ri.k.free; have zl := HS.out.ri.k.lt; clear hp3 hb3)
          | (go_at_call 63; refine (ended_any (.mk 13 [] 0 x1.at_ [x1]) b3 _ _ _ (HS.out.ri.bw (by repeat (first | exact Bw.refl _ | apply Bw.alloc | apply Bw.drewN | apply Bw.drew))) ((HS.out.bw (by repeat (first | exact Bw.refl _ | apply Bw.alloc | apply Bw.drewN | apply Bw.drew))).ps (.mk 13 [] 0 x1.at_ [x1], b3) (by simp)) (fun n hn => ⟨((HS.out.bw (by repeat (first | exact Bw.refl _ | apply Bw.alloc | apply Bw.drewN | apply Bw.drew))).ne hn).2, ((HS.out.bw (by repeat (first | exact Bw.refl _ | apply Bw.alloc | apply Bw.drewN | apply Bw.drew))).ne hn).1⟩)).mono ?_; intro e w5 h5; rw [HSM.out] at h5; obtain ⟨rfl, hk5⟩ := h5; have HK := hid ((HS.out.kp.bw (by repeat (first | exact Bw.refl _ | apply Bw.alloc | apply Bw.drewN | apply Bw.drew))).trans hk5); clear hk5)
          | fail)
        all_goals exact ⟨rfl, rfl, HK.out⟩
      · have HSM := hid (show semi T j1 (.mk 13 [] 0 x1.at_ [x1]) = .ok (.mk 13 [] 0 x1.at_ [x1]) false (j1 + 1) by unfold semi want; rw [hl]; rfl)
        rw [HSM.out]
        clear hl
        go_enter Tryd.func67, Tryd.ntmps67
        go_wp2_with (first
          | (go_at_call 69; refine (HE.out _ _ _ (HS.out.ri.bw (by repeat (first | exact Bw.refl _ | apply Bw.alloc | apply Bw.drewN | apply Bw.drew))) ho HNE1.out).mono ?_; intro e w2 h2; rw [HQ1.out] at h2; obtain ⟨bx, rfl, hp2, hr2, hk2⟩ := h2; have HS := hid ((HS.out.bw (by repeat (first | exact Bw.refl _ | apply Bw.alloc | apply Bw.drewN | apply Bw.drew))).add hr2 hk2 hp2); obtain ⟨v9, p4, _, _, pl, _⟩ := (HS.out.ps (x1, bx) (by simp)).at; have zz := HS.out.ri.k.cell; have zf := HS.out.ri.k.free; have zl := HS.out.ri.k.lt; clear hp2 hr2 hk2)
          | (go_at_call 84; refine (isTarget_any x1 bx _ ((HS.out.bw (by repeat (first | exact Bw.refl _ | apply Bw.alloc | apply Bw.drewN | apply Bw.drew))).ps (x1, bx) (by simp))).mono ?_; rintro e w' ⟨rfl, hw'⟩; subst w')
          | (go_at_call 58; refine (is_any _ (HS.out.ri.bw (by repeat (first | exact Bw.refl _ | apply Bw.alloc | apply Bw.drewN | apply Bw.drew)))).mono ?_; rintro e w1 ⟨rfl, hb1⟩; have HS := hid (HS.out.bw (Bw.trans (by repeat (first | exact Bw.refl _ | apply Bw.alloc | apply Bw.drewN | apply Bw.drew)) hb1)); obtain ⟨v9, p4, _, _, pl, _⟩ := (HS.out.ps (x1, bx) (by simp)).at; have zz := HS.out.ri.k.cell; have zf := HS.out.ri.k.free; have zl := HS.out.ri.k.lt; clear hb1)
          | (go_at_call 43; refine (made_any _ _ _ [x1] [bx] _ _ (HS.out.row1 (x := x1) (b := bx) (by simp)).1 (HS.out.row1 (x := x1) (b := bx) (by simp)).2).mono ?_; rintro e w3 ⟨b3, rfl, hp3, hb3, hn3, hc3⟩; have HS := hid ((HS.out.bw (Bw.alloc (Bw.refl _) _)).put hb3 hp3); have zz := HS.out.ri.k.cell; have zf := HS.out.ri.k.free; have zl := HS.out.ri.k.lt; clear hp3 hb3)
          | (go_at_call 63; refine (ended_any (.mk 13 [] 0 x1.at_ [x1]) b3 _ _ _ (HS.out.ri.bw (by repeat (first | exact Bw.refl _ | apply Bw.alloc | apply Bw.drewN | apply Bw.drew))) ((HS.out.bw (by repeat (first | exact Bw.refl _ | apply Bw.alloc | apply Bw.drewN | apply Bw.drew))).ps (.mk 13 [] 0 x1.at_ [x1], b3) (by simp)) (fun n hn => ⟨((HS.out.bw (by repeat (first | exact Bw.refl _ | apply Bw.alloc | apply Bw.drewN | apply Bw.drew))).ne hn).2, ((HS.out.bw (by repeat (first | exact Bw.refl _ | apply Bw.alloc | apply Bw.drewN | apply Bw.drew))).ne hn).1⟩)).mono ?_; intro e w5 h5; rw [HSM.out] at h5; obtain ⟨b5, rfl, hp5, hr5, hk5⟩ := h5; have HS := hid ((HS.out.bw (by repeat (first | exact Bw.refl _ | apply Bw.alloc | apply Bw.drewN | apply Bw.drew))).turn hr5 hk5 hp5); clear hp5 hr5 hk5)
          | fail)
        all_goals go_ret
        all_goals exact ⟨_, rfl, HS.out.outp (by simp)⟩
    · cases hq : isT T j1 ⟨#[61]⟩
      · rw [Bool.and_false, if_neg (by decide)]
        clear hne
        cases hl : isT T j1 ⟨#[59]⟩
        · have HSM := hid (show semi T j1 (.mk 13 [] 0 x1.at_ [x1]) = .bad 6 (tk T j1).2.2.2 by unfold semi want; rw [hl]; rfl)
          rw [HSM.out]
          clear hl
          go_enter Tryd.func67, Tryd.ntmps67
          go_wp2_with (first
            | (go_at_call 69; refine (HE.out _ _ _ (HS.out.ri.bw (by repeat (first | exact Bw.refl _ | apply Bw.alloc | apply Bw.drewN | apply Bw.drew))) ho HNE1.out).mono ?_; intro e w2 h2; rw [HQ1.out] at h2; obtain ⟨bx, rfl, hp2, hr2, hk2⟩ := h2; have HS := hid ((HS.out.bw (by repeat (first | exact Bw.refl _ | apply Bw.alloc | apply Bw.drewN | apply Bw.drew))).add hr2 hk2 hp2); obtain ⟨v9, p4, _, _, pl, _⟩ := (HS.out.ps (x1, bx) (by simp)).at; have zz := HS.out.ri.k.cell; have zf := HS.out.ri.k.free; have zl := HS.out.ri.k.lt; clear hp2 hr2 hk2)
            | (go_at_call 84; refine (isTarget_any x1 bx _ ((HS.out.bw (by repeat (first | exact Bw.refl _ | apply Bw.alloc | apply Bw.drewN | apply Bw.drew))).ps (x1, bx) (by simp))).mono ?_; rintro e w' ⟨rfl, hw'⟩; subst w')
            | (go_at_call 58; refine (is_any _ (HS.out.ri.bw (by repeat (first | exact Bw.refl _ | apply Bw.alloc | apply Bw.drewN | apply Bw.drew)))).mono ?_; rintro e w1 ⟨rfl, hb1⟩; have HS := hid (HS.out.bw (Bw.trans (by repeat (first | exact Bw.refl _ | apply Bw.alloc | apply Bw.drewN | apply Bw.drew)) hb1)); obtain ⟨v9, p4, _, _, pl, _⟩ := (HS.out.ps (x1, bx) (by simp)).at; have zz := HS.out.ri.k.cell; have zf := HS.out.ri.k.free; have zl := HS.out.ri.k.lt; clear hb1)
            | (go_at_call 43; refine (made_any _ _ _ [x1] [bx] _ _ (HS.out.row1 (x := x1) (b := bx) (by simp)).1 (HS.out.row1 (x := x1) (b := bx) (by simp)).2).mono ?_; rintro e w3 ⟨b3, rfl, hp3, hb3, hn3, hc3⟩; have HS := hid ((HS.out.bw (Bw.alloc (Bw.refl _) _)).put hb3 hp3); have zz := HS.out.ri.k.cell; have zf := HS.out.ri.k.free; have zl := HS.out.ri.k.lt; clear hp3 hb3)
            | (go_at_call 63; refine (ended_any (.mk 13 [] 0 x1.at_ [x1]) b3 _ _ _ (HS.out.ri.bw (by repeat (first | exact Bw.refl _ | apply Bw.alloc | apply Bw.drewN | apply Bw.drew))) ((HS.out.bw (by repeat (first | exact Bw.refl _ | apply Bw.alloc | apply Bw.drewN | apply Bw.drew))).ps (.mk 13 [] 0 x1.at_ [x1], b3) (by simp)) (fun n hn => ⟨((HS.out.bw (by repeat (first | exact Bw.refl _ | apply Bw.alloc | apply Bw.drewN | apply Bw.drew))).ne hn).2, ((HS.out.bw (by repeat (first | exact Bw.refl _ | apply Bw.alloc | apply Bw.drewN | apply Bw.drew))).ne hn).1⟩)).mono ?_; intro e w5 h5; rw [HSM.out] at h5; obtain ⟨rfl, hk5⟩ := h5; have HK := hid ((HS.out.kp.bw (by repeat (first | exact Bw.refl _ | apply Bw.alloc | apply Bw.drewN | apply Bw.drew))).trans hk5); clear hk5)
            | fail)
          all_goals exact ⟨rfl, rfl, HK.out⟩
        · have HSM := hid (show semi T j1 (.mk 13 [] 0 x1.at_ [x1]) = .ok (.mk 13 [] 0 x1.at_ [x1]) false (j1 + 1) by unfold semi want; rw [hl]; rfl)
          rw [HSM.out]
          clear hl
          go_enter Tryd.func67, Tryd.ntmps67
          go_wp2_with (first
            | (go_at_call 69; refine (HE.out _ _ _ (HS.out.ri.bw (by repeat (first | exact Bw.refl _ | apply Bw.alloc | apply Bw.drewN | apply Bw.drew))) ho HNE1.out).mono ?_; intro e w2 h2; rw [HQ1.out] at h2; obtain ⟨bx, rfl, hp2, hr2, hk2⟩ := h2; have HS := hid ((HS.out.bw (by repeat (first | exact Bw.refl _ | apply Bw.alloc | apply Bw.drewN | apply Bw.drew))).add hr2 hk2 hp2); obtain ⟨v9, p4, _, _, pl, _⟩ := (HS.out.ps (x1, bx) (by simp)).at; have zz := HS.out.ri.k.cell; have zf := HS.out.ri.k.free; have zl := HS.out.ri.k.lt; clear hp2 hr2 hk2)
            | (go_at_call 84; refine (isTarget_any x1 bx _ ((HS.out.bw (by repeat (first | exact Bw.refl _ | apply Bw.alloc | apply Bw.drewN | apply Bw.drew))).ps (x1, bx) (by simp))).mono ?_; rintro e w' ⟨rfl, hw'⟩; subst w')
            | (go_at_call 58; refine (is_any _ (HS.out.ri.bw (by repeat (first | exact Bw.refl _ | apply Bw.alloc | apply Bw.drewN | apply Bw.drew)))).mono ?_; rintro e w1 ⟨rfl, hb1⟩; have HS := hid (HS.out.bw (Bw.trans (by repeat (first | exact Bw.refl _ | apply Bw.alloc | apply Bw.drewN | apply Bw.drew)) hb1)); obtain ⟨v9, p4, _, _, pl, _⟩ := (HS.out.ps (x1, bx) (by simp)).at; have zz := HS.out.ri.k.cell; have zf := HS.out.ri.k.free; have zl := HS.out.ri.k.lt; clear hb1)
            | (go_at_call 43; refine (made_any _ _ _ [x1] [bx] _ _ (HS.out.row1 (x := x1) (b := bx) (by simp)).1 (HS.out.row1 (x := x1) (b := bx) (by simp)).2).mono ?_; rintro e w3 ⟨b3, rfl, hp3, hb3, hn3, hc3⟩; have HS := hid ((HS.out.bw (Bw.alloc (Bw.refl _) _)).put hb3 hp3); have zz := HS.out.ri.k.cell; have zf := HS.out.ri.k.free; have zl := HS.out.ri.k.lt; clear hp3 hb3)
            | (go_at_call 63; refine (ended_any (.mk 13 [] 0 x1.at_ [x1]) b3 _ _ _ (HS.out.ri.bw (by repeat (first | exact Bw.refl _ | apply Bw.alloc | apply Bw.drewN | apply Bw.drew))) ((HS.out.bw (by repeat (first | exact Bw.refl _ | apply Bw.alloc | apply Bw.drewN | apply Bw.drew))).ps (.mk 13 [] 0 x1.at_ [x1], b3) (by simp)) (fun n hn => ⟨((HS.out.bw (by repeat (first | exact Bw.refl _ | apply Bw.alloc | apply Bw.drewN | apply Bw.drew))).ne hn).2, ((HS.out.bw (by repeat (first | exact Bw.refl _ | apply Bw.alloc | apply Bw.drewN | apply Bw.drew))).ne hn).1⟩)).mono ?_; intro e w5 h5; rw [HSM.out] at h5; obtain ⟨b5, rfl, hp5, hr5, hk5⟩ := h5; have HS := hid ((HS.out.bw (by repeat (first | exact Bw.refl _ | apply Bw.alloc | apply Bw.drewN | apply Bw.drew))).turn hr5 hk5 hp5); clear hp5 hr5 hk5)
            | fail)
          all_goals go_ret
          all_goals exact ⟨_, rfl, HS.out.outp (by simp)⟩
      · rw [ht, hq, Bool.and_self, if_pos rfl] at hne
        rw [Bool.and_self, if_pos rfl]
        have HN := hid (isT_ne hq)
        have HNE2 := hid (show pP T f (.lev 0) (j1 + 1) o ≠ .out from fun q => hne (by rw [q]))
        clear hne
        generalize hq2 : pP T f (.lev 0) (j1 + 1) o = R2
        have HQ2 := hid hq2
        clear hq2
        cases R2 with
        | out => exact absurd HQ2.out HNE2.out
        | bad n2 m2 =>
          go_enter Tryd.func67, Tryd.ntmps67
          go_upto_region 4 with (first
            | (go_at_call 69; refine (HE.out _ _ _ (HS.out.ri.bw (by repeat (first | exact Bw.refl _ | apply Bw.alloc | apply Bw.drewN | apply Bw.drew))) ho HNE1.out).mono ?_; intro e w2 h2; rw [HQ1.out] at h2; obtain ⟨bx, rfl, hp2, hr2, hk2⟩ := h2; have HS := hid ((HS.out.bw (by repeat (first | exact Bw.refl _ | apply Bw.alloc | apply Bw.drewN | apply Bw.drew))).add hr2 hk2 hp2); obtain ⟨v9, p4, _, _, pl, _⟩ := (HS.out.ps (x1, bx) (by simp)).at; have zz := HS.out.ri.k.cell; have zf := HS.out.ri.k.free; have zl := HS.out.ri.k.lt; clear hp2 hr2 hk2)
            | (go_at_call 84; refine (isTarget_any x1 bx _ ((HS.out.bw (by repeat (first | exact Bw.refl _ | apply Bw.alloc | apply Bw.drewN | apply Bw.drew))).ps (x1, bx) (by simp))).mono ?_; rintro e w' ⟨rfl, hw'⟩; subst w')
            | (go_at_call 58; refine (is_any _ (HS.out.ri.bw (by repeat (first | exact Bw.refl _ | apply Bw.alloc | apply Bw.drewN | apply Bw.drew)))).mono ?_; rintro e w1 ⟨rfl, hb1⟩; have HS := hid (HS.out.bw (Bw.trans (by repeat (first | exact Bw.refl _ | apply Bw.alloc | apply Bw.drewN | apply Bw.drew)) hb1)); obtain ⟨v9, p4, _, _, pl, _⟩ := (HS.out.ps (x1, bx) (by simp)).at; have zz := HS.out.ri.k.cell; have zf := HS.out.ri.k.free; have zl := HS.out.ri.k.lt; clear hb1)
            | (go_at_call 81; refine (take_any (HS.out.ri.bw (by repeat (first | exact Bw.refl _ | apply Bw.alloc | apply Bw.drewN | apply Bw.drew))) HN.out).mono ?_; unfold tokV; rintro e w1 ⟨rfl, hr1, hk1⟩; have HS := hid ((HS.out.bw (by repeat (first | exact Bw.refl _ | apply Bw.alloc | apply Bw.drewN | apply Bw.drew))).go hr1 hk1); obtain ⟨v9, p4, _, _, pl, _⟩ := (HS.out.ps (x1, bx) (by simp)).at; have zz := HS.out.ri.k.cell; have zf := HS.out.ri.k.free; have zl := HS.out.ri.k.lt; clear hr1 hk1)
            | fail)
          refine wp_region_W (fun w' => w'.cell? ⟨bx, 4, none⟩ = some (.int .i64 x1.at_) ∧ w'.cell? ⟨r, 3, none⟩ = some (ex 0)) (fun j => if j == 11 then 0 else 1) (by kernel_rfl) ?_
          refine wpAnyW_take (i := 0) (oi := { dst := some 17, op := Op.move (Operand.tmp 0), type := 58, pos := "statement.go:102", after := #[], guard := none }) (v := ?_) rfl (by kernel_rfl) (by kernel_rfl) (by kernel_rfl) (by kernel_rfl) (fun _ _ _ h => h) (Or.inl ⟨by rfl, fun w _ => ?_⟩) ?_
          rotate_left
          · (go_simp; first | done | with_reducible rfl)
          try simp only [Act.put, List.setIfInBounds_toArray, List.set_cons_zero, List.set_cons_succ]
          refine wpAnyW_take (i := 1) (oi := { dst := some 18, op := Op.move (Operand.tmp 3), type := 57, pos := "statement.go:102", after := #[], guard := none }) (v := ?_) rfl (by kernel_rfl) (by kernel_rfl) (by kernel_rfl) (by kernel_rfl) (fun _ _ _ h => h) (Or.inl ⟨by rfl, fun w _ => ?_⟩) ?_
          rotate_left
          · (go_simp; first | done | with_reducible rfl)
          try simp only [Act.put, List.setIfInBounds_toArray, List.set_cons_zero, List.set_cons_succ]
          refine wpAnyW_take (i := 2) (oi := { dst := some 19, op := Op.nilCheck (Operand.tmp 18), type := 0, pos := "statement.go:102", after := #[{ on := 1, ground := Ground.data }], guard := none }) (v := ?_) rfl (by kernel_rfl) (by kernel_rfl) (by kernel_rfl) (by kernel_rfl) (fun _ _ _ h => h) (Or.inl ⟨by rfl, fun w _ => ?_⟩) ?_
          rotate_left
          · (go_simp; first | done | with_reducible rfl)
          try simp only [Act.put, List.setIfInBounds_toArray, List.set_cons_zero, List.set_cons_succ]
          refine wpAnyW_take (i := 3) (oi := { dst := some 20, op := Op.fieldAddr 83 (Operand.tmp 19) 0, type := 0, pos := "statement.go:102", after := #[{ on := 2, ground := Ground.data }], guard := none }) (v := ?_) rfl (by kernel_rfl) (by kernel_rfl) (by kernel_rfl) (by kernel_rfl) (fun _ _ _ h => h) (Or.inl ⟨by rfl, fun w _ => ?_⟩) ?_
          rotate_left
          · (go_simp; first | done | with_reducible rfl)
          try simp only [Act.put, List.setIfInBounds_toArray, List.set_cons_zero, List.set_cons_succ]
          refine wpAnyW_take (i := 4) (oi := { dst := some 21, op := Op.fieldAddr 38 (Operand.tmp 20) 4, type := 0, pos := "statement.go:102", after := #[{ on := 3, ground := Ground.data }], guard := none }) (v := ?_) rfl (by kernel_rfl) (by kernel_rfl) (by kernel_rfl) (by kernel_rfl) (fun _ _ _ h => h) (Or.inl ⟨by rfl, fun w _ => ?_⟩) ?_
          rotate_left
          · (go_simp; first | done | with_reducible rfl)
          try simp only [Act.put, List.setIfInBounds_toArray, List.set_cons_zero, List.set_cons_succ]
          refine wpAnyW_load (i := 5) (oi := { dst := some 22, op := Op.load 3 (Operand.tmp 21), type := 3, pos := "statement.go:102", after := #[{ on := 4, ground := Ground.data }], guard := none }) (v := ?_) rfl (by kernel_rfl) (by kernel_rfl) (by kernel_rfl) (by kernel_rfl) (by kernel_rfl) (fun _ _ _ h => h) (Or.inl ⟨by rfl, fun w hS => ?_⟩) (show _ ∧ _ from ⟨p4, zz 3⟩) ?_
          rotate_left
          · (obtain ⟨hs0, hs1⟩ := hS; go_simp; first | done | with_reducible rfl)
          try simp only [Act.put, List.setIfInBounds_toArray, List.set_cons_zero, List.set_cons_succ]
          refine wpAnyW_take (i := 6) (oi := { dst := some 23, op := Op.move (Operand.tmp 3), type := 57, pos := "statement.go:102", after := #[], guard := none }) (v := ?_) rfl (by kernel_rfl) (by kernel_rfl) (by kernel_rfl) (by kernel_rfl) (fun _ _ _ h => h) (Or.inl ⟨by rfl, fun w _ => ?_⟩) ?_
          rotate_left
          · (go_simp; first | done | with_reducible rfl)
          try simp only [Act.put, List.setIfInBounds_toArray, List.set_cons_zero, List.set_cons_succ]
          refine wpAnyW_take (i := 7) (oi := { dst := some 24, op := Op.move (Operand.tmp 0), type := 58, pos := "statement.go:102", after := #[], guard := none }) (v := ?_) rfl (by kernel_rfl) (by kernel_rfl) (by kernel_rfl) (by kernel_rfl) (fun _ _ _ h => h) (Or.inl ⟨by rfl, fun w _ => ?_⟩) ?_
          rotate_left
          · (go_simp; first | done | with_reducible rfl)
          try simp only [Act.put, List.setIfInBounds_toArray, List.set_cons_zero, List.set_cons_succ]
          refine wpAnyW_take (i := 8) (oi := { dst := some 25, op := Op.nilCheck (Operand.tmp 24), type := 0, pos := "statement.go:102", after := #[{ on := 7, ground := Ground.data }], guard := none }) (v := ?_) rfl (by kernel_rfl) (by kernel_rfl) (by kernel_rfl) (by kernel_rfl) (fun _ _ _ h => h) (Or.inl ⟨by rfl, fun w _ => ?_⟩) ?_
          rotate_left
          · (go_simp; first | done | with_reducible rfl)
          try simp only [Act.put, List.setIfInBounds_toArray, List.set_cons_zero, List.set_cons_succ]
          refine wpAnyW_take (i := 9) (oi := { dst := some 26, op := Op.fieldAddr 77 (Operand.tmp 25) 3, type := 0, pos := "statement.go:102", after := #[{ on := 8, ground := Ground.data }], guard := none }) (v := ?_) rfl (by kernel_rfl) (by kernel_rfl) (by kernel_rfl) (by kernel_rfl) (fun _ _ _ h => h) (Or.inl ⟨by rfl, fun w _ => ?_⟩) ?_
          rotate_left
          · (go_simp; first | done | with_reducible rfl)
          try simp only [Act.put, List.setIfInBounds_toArray, List.set_cons_zero, List.set_cons_succ]
          refine wpAnyW_load (i := 10) (oi := { dst := some 27, op := Op.load 75 (Operand.tmp 26), type := 75, pos := "statement.go:102", after := #[{ on := 9, ground := Ground.data }], guard := none }) (v := ?_) rfl (by kernel_rfl) (by kernel_rfl) (by kernel_rfl) (by kernel_rfl) (by kernel_rfl) (fun _ _ _ h => h) (Or.inl ⟨by rfl, fun w hS => ?_⟩) (show _ ∧ _ from ⟨p4, zz 3⟩) ?_
          rotate_left
          · (obtain ⟨hs0, hs1⟩ := hS; go_simp; first | done | with_reducible rfl)
          try simp only [Act.put, List.setIfInBounds_toArray, List.set_cons_zero, List.set_cons_succ]
          refine wpAnyW_ready (rs := [11]) (by kernel_rfl) (by simp) ?_
          refine (AllReadyW.cons (o := { dst := some 28, op := Op.call { callee := Callee.value (Operand.tmp 27), args := #[], argTypes := #[] }, type := 57, pos := "statement.go:102", after := #[{ on := 10, ground := Ground.data }], guard := none }) rfl (fun K hK => ?_) AllReadyW.nil)
          go_simp
          refine (HE.out _ _ _ (HS.out.ri.bw (by repeat (first | exact Bw.refl _ | apply Bw.alloc | apply Bw.drewN | apply Bw.drew))) ho HNE2.out).mono ?_
          intro e w2 h2
          rw [HQ2.out] at h2
          obtain ⟨he2, hk2⟩ := h2
          subst he2
          exact ⟨rfl, rfl, (HS.out.kp.bw (by repeat (first | exact Bw.refl _ | apply Bw.alloc | apply Bw.drewN | apply Bw.drew))).trans hk2⟩
        | ok x2 c2 j2 =>
          dsimp only
          cases hl : isT T j2 ⟨#[59]⟩
          · have HSM := hid (show semi T j2 (.mk 4 [] 0 x1.at_ [x1, x2]) = .bad 6 (tk T j2).2.2.2 by unfold semi want; rw [hl]; rfl)
            rw [HSM.out]
            clear hl
            go_enter Tryd.func67, Tryd.ntmps67
            go_upto_region 4 with (first
              | (go_at_call 69; refine (HE.out _ _ _ (HS.out.ri.bw (by repeat (first | exact Bw.refl _ | apply Bw.alloc | apply Bw.drewN | apply Bw.drew))) ho HNE1.out).mono ?_; intro e w2 h2; rw [HQ1.out] at h2; obtain ⟨bx, rfl, hp2, hr2, hk2⟩ := h2; have HS := hid ((HS.out.bw (by repeat (first | exact Bw.refl _ | apply Bw.alloc | apply Bw.drewN | apply Bw.drew))).add hr2 hk2 hp2); obtain ⟨v9, p4, _, _, pl, _⟩ := (HS.out.ps (x1, bx) (by simp)).at; have zz := HS.out.ri.k.cell; have zf := HS.out.ri.k.free; have zl := HS.out.ri.k.lt; clear hp2 hr2 hk2)
              | (go_at_call 84; refine (isTarget_any x1 bx _ ((HS.out.bw (by repeat (first | exact Bw.refl _ | apply Bw.alloc | apply Bw.drewN | apply Bw.drew))).ps (x1, bx) (by simp))).mono ?_; rintro e w' ⟨rfl, hw'⟩; subst w')
              | (go_at_call 58; refine (is_any _ (HS.out.ri.bw (by repeat (first | exact Bw.refl _ | apply Bw.alloc | apply Bw.drewN | apply Bw.drew)))).mono ?_; rintro e w1 ⟨rfl, hb1⟩; have HS := hid (HS.out.bw (Bw.trans (by repeat (first | exact Bw.refl _ | apply Bw.alloc | apply Bw.drewN | apply Bw.drew)) hb1)); obtain ⟨v9, p4, _, _, pl, _⟩ := (HS.out.ps (x1, bx) (by simp)).at; have zz := HS.out.ri.k.cell; have zf := HS.out.ri.k.free; have zl := HS.out.ri.k.lt; clear hb1)
              | (go_at_call 81; refine (take_any (HS.out.ri.bw (by repeat (first | exact Bw.refl _ | apply Bw.alloc | apply Bw.drewN | apply Bw.drew))) HN.out).mono ?_; unfold tokV; rintro e w1 ⟨rfl, hr1, hk1⟩; have HS := hid ((HS.out.bw (by repeat (first | exact Bw.refl _ | apply Bw.alloc | apply Bw.drewN | apply Bw.drew))).go hr1 hk1); obtain ⟨v9, p4, _, _, pl, _⟩ := (HS.out.ps (x1, bx) (by simp)).at; have zz := HS.out.ri.k.cell; have zf := HS.out.ri.k.free; have zl := HS.out.ri.k.lt; clear hr1 hk1)
              | fail)
            refine wp_region_W (fun w' => w'.cell? ⟨bx, 4, none⟩ = some (.int .i64 x1.at_) ∧ w'.cell? ⟨r, 3, none⟩ = some (ex 0)) (fun j => if j == 11 || j == 12 || j == 13 || j == 14 then 0 else 1) (by kernel_rfl) ?_
            refine wpAnyW_take (i := 0) (oi := { dst := some 17, op := Op.move (Operand.tmp 0), type := 58, pos := "statement.go:102", after := #[], guard := none }) (v := ?_) rfl (by kernel_rfl) (by kernel_rfl) (by kernel_rfl) (by kernel_rfl) (fun _ _ _ h => h) (Or.inl ⟨by rfl, fun w _ => ?_⟩) ?_
            rotate_left
            · (go_simp; first | done | with_reducible rfl)
            try simp only [Act.put, List.setIfInBounds_toArray, List.set_cons_zero, List.set_cons_succ]
            refine wpAnyW_take (i := 1) (oi := { dst := some 18, op := Op.move (Operand.tmp 3), type := 57, pos := "statement.go:102", after := #[], guard := none }) (v := ?_) rfl (by kernel_rfl) (by kernel_rfl) (by kernel_rfl) (by kernel_rfl) (fun _ _ _ h => h) (Or.inl ⟨by rfl, fun w _ => ?_⟩) ?_
            rotate_left
            · (go_simp; first | done | with_reducible rfl)
            try simp only [Act.put, List.setIfInBounds_toArray, List.set_cons_zero, List.set_cons_succ]
            refine wpAnyW_take (i := 2) (oi := { dst := some 19, op := Op.nilCheck (Operand.tmp 18), type := 0, pos := "statement.go:102", after := #[{ on := 1, ground := Ground.data }], guard := none }) (v := ?_) rfl (by kernel_rfl) (by kernel_rfl) (by kernel_rfl) (by kernel_rfl) (fun _ _ _ h => h) (Or.inl ⟨by rfl, fun w _ => ?_⟩) ?_
            rotate_left
            · (go_simp; first | done | with_reducible rfl)
            try simp only [Act.put, List.setIfInBounds_toArray, List.set_cons_zero, List.set_cons_succ]
            refine wpAnyW_take (i := 3) (oi := { dst := some 20, op := Op.fieldAddr 83 (Operand.tmp 19) 0, type := 0, pos := "statement.go:102", after := #[{ on := 2, ground := Ground.data }], guard := none }) (v := ?_) rfl (by kernel_rfl) (by kernel_rfl) (by kernel_rfl) (by kernel_rfl) (fun _ _ _ h => h) (Or.inl ⟨by rfl, fun w _ => ?_⟩) ?_
            rotate_left
            · (go_simp; first | done | with_reducible rfl)
            try simp only [Act.put, List.setIfInBounds_toArray, List.set_cons_zero, List.set_cons_succ]
            refine wpAnyW_take (i := 4) (oi := { dst := some 21, op := Op.fieldAddr 38 (Operand.tmp 20) 4, type := 0, pos := "statement.go:102", after := #[{ on := 3, ground := Ground.data }], guard := none }) (v := ?_) rfl (by kernel_rfl) (by kernel_rfl) (by kernel_rfl) (by kernel_rfl) (fun _ _ _ h => h) (Or.inl ⟨by rfl, fun w _ => ?_⟩) ?_
            rotate_left
            · (go_simp; first | done | with_reducible rfl)
            try simp only [Act.put, List.setIfInBounds_toArray, List.set_cons_zero, List.set_cons_succ]
            refine wpAnyW_load (i := 5) (oi := { dst := some 22, op := Op.load 3 (Operand.tmp 21), type := 3, pos := "statement.go:102", after := #[{ on := 4, ground := Ground.data }], guard := none }) (v := ?_) rfl (by kernel_rfl) (by kernel_rfl) (by kernel_rfl) (by kernel_rfl) (by kernel_rfl) (fun _ _ _ h => h) (Or.inl ⟨by rfl, fun w hS => ?_⟩) (show _ ∧ _ from ⟨p4, zz 3⟩) ?_
            rotate_left
            · (obtain ⟨hs0, hs1⟩ := hS; go_simp; first | done | with_reducible rfl)
            try simp only [Act.put, List.setIfInBounds_toArray, List.set_cons_zero, List.set_cons_succ]
            refine wpAnyW_take (i := 6) (oi := { dst := some 23, op := Op.move (Operand.tmp 3), type := 57, pos := "statement.go:102", after := #[], guard := none }) (v := ?_) rfl (by kernel_rfl) (by kernel_rfl) (by kernel_rfl) (by kernel_rfl) (fun _ _ _ h => h) (Or.inl ⟨by rfl, fun w _ => ?_⟩) ?_
            rotate_left
            · (go_simp; first | done | with_reducible rfl)
            try simp only [Act.put, List.setIfInBounds_toArray, List.set_cons_zero, List.set_cons_succ]
            refine wpAnyW_take (i := 7) (oi := { dst := some 24, op := Op.move (Operand.tmp 0), type := 58, pos := "statement.go:102", after := #[], guard := none }) (v := ?_) rfl (by kernel_rfl) (by kernel_rfl) (by kernel_rfl) (by kernel_rfl) (fun _ _ _ h => h) (Or.inl ⟨by rfl, fun w _ => ?_⟩) ?_
            rotate_left
            · (go_simp; first | done | with_reducible rfl)
            try simp only [Act.put, List.setIfInBounds_toArray, List.set_cons_zero, List.set_cons_succ]
            refine wpAnyW_take (i := 8) (oi := { dst := some 25, op := Op.nilCheck (Operand.tmp 24), type := 0, pos := "statement.go:102", after := #[{ on := 7, ground := Ground.data }], guard := none }) (v := ?_) rfl (by kernel_rfl) (by kernel_rfl) (by kernel_rfl) (by kernel_rfl) (fun _ _ _ h => h) (Or.inl ⟨by rfl, fun w _ => ?_⟩) ?_
            rotate_left
            · (go_simp; first | done | with_reducible rfl)
            try simp only [Act.put, List.setIfInBounds_toArray, List.set_cons_zero, List.set_cons_succ]
            refine wpAnyW_take (i := 9) (oi := { dst := some 26, op := Op.fieldAddr 77 (Operand.tmp 25) 3, type := 0, pos := "statement.go:102", after := #[{ on := 8, ground := Ground.data }], guard := none }) (v := ?_) rfl (by kernel_rfl) (by kernel_rfl) (by kernel_rfl) (by kernel_rfl) (fun _ _ _ h => h) (Or.inl ⟨by rfl, fun w _ => ?_⟩) ?_
            rotate_left
            · (go_simp; first | done | with_reducible rfl)
            try simp only [Act.put, List.setIfInBounds_toArray, List.set_cons_zero, List.set_cons_succ]
            refine wpAnyW_load (i := 10) (oi := { dst := some 27, op := Op.load 75 (Operand.tmp 26), type := 75, pos := "statement.go:102", after := #[{ on := 9, ground := Ground.data }], guard := none }) (v := ?_) rfl (by kernel_rfl) (by kernel_rfl) (by kernel_rfl) (by kernel_rfl) (by kernel_rfl) (fun _ _ _ h => h) (Or.inl ⟨by rfl, fun w hS => ?_⟩) (show _ ∧ _ from ⟨p4, zz 3⟩) ?_
            rotate_left
            · (obtain ⟨hs0, hs1⟩ := hS; go_simp; first | done | with_reducible rfl)
            try simp only [Act.put, List.setIfInBounds_toArray, List.set_cons_zero, List.set_cons_succ]
            refine wpAnyW_ready (rs := [11]) (by kernel_rfl) (by simp) ?_
            refine (AllReadyW.cons (o := { dst := some 28, op := Op.call { callee := Callee.value (Operand.tmp 27), args := #[], argTypes := #[] }, type := 57, pos := "statement.go:102", after := #[{ on := 10, ground := Ground.data }], guard := none }) rfl (fun K hK => ?_) AllReadyW.nil)
            go_simp
            refine (HE.out _ _ _ (HS.out.ri.bw (by repeat (first | exact Bw.refl _ | apply Bw.alloc | apply Bw.drewN | apply Bw.drew))) ho HNE2.out).mono ?_
            intro e w2 h2
            rw [HQ2.out] at h2
            obtain ⟨b2, he2, hp2, hr2, hk2⟩ := h2
            subst he2
            have HS := hid ((HS.out.bw (by repeat (first | exact Bw.refl _ | apply Bw.alloc | apply Bw.drewN | apply Bw.drew))).add hr2 hk2 hp2)
            obtain ⟨v9, p4, _, _, pl, _⟩ := (HS.out.ps (x1, bx) (by simp)).at
            clear hp2 hr2 hk2
            refine hK.out _ _ (show _ ∧ _ from ⟨p4, HS.out.ri.k.cell 3⟩) ?_
            clear hK K
            try simp only [Act.put, List.setIfInBounds_toArray, List.set_cons_zero, List.set_cons_succ]
            obtain ⟨_, p4, _, _, _, _⟩ := ((HS.out.bw (Bw.alloc (Bw.refl _) (.cells #[.pointer (some ⟨bx, 0, none⟩), .pointer (some ⟨b2, 0, none⟩)] 57))).ps (x1, bx) (by simp)).at
            refine wpAnyW_ready (rs := [12]) (by kernel_rfl) (by simp) ?_
            refine (AllReadyW.cons (o := { dst := some 29, op := Op.buildSlice 81 2 #[(0, Operand.tmp 23), (1, Operand.tmp 28)], type := 81, pos := "statement.go:102", after := #[{ on := 6, ground := Ground.data }, { on := 11, ground := Ground.data }], guard := none }) rfl (fun K hK => ?_) AllReadyW.nil)
            go_simp
            refine hK.out _ _ (show _ ∧ _ from ⟨p4, (HS.out.bw (Bw.alloc (Bw.refl _) _)).ri.k.cell 3⟩) ?_
            clear hK K
            try simp only [Act.put, List.setIfInBounds_toArray, List.set_cons_zero, List.set_cons_succ]
            refine wpAnyW_ready (rs := [13]) (by kernel_rfl) (by simp) ?_
            refine (AllReadyW.cons (o := { dst := some 30, op := Op.call { callee := Callee.value (Operand.func 43), args := #[Operand.const (Value.int IntKind.i64 4), Operand.tmp 22, Operand.tmp 29], argTypes := #[3, 3, 81] }, type := 57, pos := "statement.go:102", after := #[{ on := 5, ground := Ground.data }, { on := 12, ground := Ground.data }, { on := 11, ground := Ground.chain }], guard := none }) rfl (fun K hK => ?_) AllReadyW.nil)
            go_simp
            refine (made_any _ _ _ [x1, x2] [bx, b2] _ _ (HS.out.row2 (x := x1) (y := x2) (b := bx) (c := b2) (by simp) (by simp)).1 (HS.out.row2 (x := x1) (y := x2) (b := bx) (c := b2) (by simp) (by simp)).2).mono ?_
            rintro e w3 ⟨b3, he3, hp3, hb3, hn3, hc3⟩
            subst he3
            have HS := hid ((HS.out.bw (Bw.alloc (Bw.refl _) _)).put hb3 hp3)
            obtain ⟨v9, p4, _, _, pl, _⟩ := (HS.out.ps (x1, bx) (by simp)).at
            clear hp3 hb3 hn3 hc3
            refine hK.out _ _ (show _ ∧ _ from ⟨p4, HS.out.ri.k.cell 3⟩) ?_
            clear hK K
            try simp only [Act.put, List.setIfInBounds_toArray, List.set_cons_zero, List.set_cons_succ]
            refine wpAnyW_ready (rs := [14]) (by kernel_rfl) (by simp) ?_
            refine (AllReadyW.cons (o := { dst := some 31, op := Op.call { callee := Callee.value (Operand.func 63), args := #[Operand.tmp 17, Operand.tmp 30], argTypes := #[58, 57] }, type := 57, pos := "statement.go:102", after := #[{ on := 0, ground := Ground.data }, { on := 13, ground := Ground.data }, { on := 13, ground := Ground.chain }], guard := none }) rfl (fun K hK => ?_) AllReadyW.nil)
            go_simp
            refine (ended_any (.mk 4 [] 0 x1.at_ [x1, x2]) b3 _ _ _ (HS.out.ri.bw (by repeat (first | exact Bw.refl _ | apply Bw.alloc | apply Bw.drewN | apply Bw.drew))) ((HS.out.bw (by repeat (first | exact Bw.refl _ | apply Bw.alloc | apply Bw.drewN | apply Bw.drew))).ps (.mk 4 [] 0 x1.at_ [x1, x2], b3) (by simp)) (fun n hn => ⟨((HS.out.bw (by repeat (first | exact Bw.refl _ | apply Bw.alloc | apply Bw.drewN | apply Bw.drew))).ne hn).2, ((HS.out.bw (by repeat (first | exact Bw.refl _ | apply Bw.alloc | apply Bw.drewN | apply Bw.drew))).ne hn).1⟩)).mono ?_
            intro e w5 h5
            rw [HSM.out] at h5
            obtain ⟨he5, hk5⟩ := h5
            subst he5
            exact ⟨rfl, rfl, (HS.out.kp.bw (by repeat (first | exact Bw.refl _ | apply Bw.alloc | apply Bw.drewN | apply Bw.drew))).trans hk5⟩
          · have HSM := hid (show semi T j2 (.mk 4 [] 0 x1.at_ [x1, x2]) = .ok (.mk 4 [] 0 x1.at_ [x1, x2]) false (j2 + 1) by unfold semi want; rw [hl]; rfl)
            rw [HSM.out]
            clear hl
            go_enter Tryd.func67, Tryd.ntmps67
            go_upto_region 4 with (first
              | (go_at_call 69; refine (HE.out _ _ _ (HS.out.ri.bw (by repeat (first | exact Bw.refl _ | apply Bw.alloc | apply Bw.drewN | apply Bw.drew))) ho HNE1.out).mono ?_; intro e w2 h2; rw [HQ1.out] at h2; obtain ⟨bx, rfl, hp2, hr2, hk2⟩ := h2; have HS := hid ((HS.out.bw (by repeat (first | exact Bw.refl _ | apply Bw.alloc | apply Bw.drewN | apply Bw.drew))).add hr2 hk2 hp2); obtain ⟨v9, p4, _, _, pl, _⟩ := (HS.out.ps (x1, bx) (by simp)).at; have zz := HS.out.ri.k.cell; have zf := HS.out.ri.k.free; have zl := HS.out.ri.k.lt; clear hp2 hr2 hk2)
              | (go_at_call 84; refine (isTarget_any x1 bx _ ((HS.out.bw (by repeat (first | exact Bw.refl _ | apply Bw.alloc | apply Bw.drewN | apply Bw.drew))).ps (x1, bx) (by simp))).mono ?_; rintro e w' ⟨rfl, hw'⟩; subst w')
              | (go_at_call 58; refine (is_any _ (HS.out.ri.bw (by repeat (first | exact Bw.refl _ | apply Bw.alloc | apply Bw.drewN | apply Bw.drew)))).mono ?_; rintro e w1 ⟨rfl, hb1⟩; have HS := hid (HS.out.bw (Bw.trans (by repeat (first | exact Bw.refl _ | apply Bw.alloc | apply Bw.drewN | apply Bw.drew)) hb1)); obtain ⟨v9, p4, _, _, pl, _⟩ := (HS.out.ps (x1, bx) (by simp)).at; have zz := HS.out.ri.k.cell; have zf := HS.out.ri.k.free; have zl := HS.out.ri.k.lt; clear hb1)
              | (go_at_call 81; refine (take_any (HS.out.ri.bw (by repeat (first | exact Bw.refl _ | apply Bw.alloc | apply Bw.drewN | apply Bw.drew))) HN.out).mono ?_; unfold tokV; rintro e w1 ⟨rfl, hr1, hk1⟩; have HS := hid ((HS.out.bw (by repeat (first | exact Bw.refl _ | apply Bw.alloc | apply Bw.drewN | apply Bw.drew))).go hr1 hk1); obtain ⟨v9, p4, _, _, pl, _⟩ := (HS.out.ps (x1, bx) (by simp)).at; have zz := HS.out.ri.k.cell; have zf := HS.out.ri.k.free; have zl := HS.out.ri.k.lt; clear hr1 hk1)
              | fail)
            refine wp_region_W (fun w' => w'.cell? ⟨bx, 4, none⟩ = some (.int .i64 x1.at_) ∧ w'.cell? ⟨r, 3, none⟩ = some (ex 0)) (fun j => if j == 11 || j == 12 || j == 13 || j == 14 then 0 else 1) (by kernel_rfl) ?_
            refine wpAnyW_take (i := 0) (oi := { dst := some 17, op := Op.move (Operand.tmp 0), type := 58, pos := "statement.go:102", after := #[], guard := none }) (v := ?_) rfl (by kernel_rfl) (by kernel_rfl) (by kernel_rfl) (by kernel_rfl) (fun _ _ _ h => h) (Or.inl ⟨by rfl, fun w _ => ?_⟩) ?_
            rotate_left
            · (go_simp; first | done | with_reducible rfl)
            try simp only [Act.put, List.setIfInBounds_toArray, List.set_cons_zero, List.set_cons_succ]
            refine wpAnyW_take (i := 1) (oi := { dst := some 18, op := Op.move (Operand.tmp 3), type := 57, pos := "statement.go:102", after := #[], guard := none }) (v := ?_) rfl (by kernel_rfl) (by kernel_rfl) (by kernel_rfl) (by kernel_rfl) (fun _ _ _ h => h) (Or.inl ⟨by rfl, fun w _ => ?_⟩) ?_
            rotate_left
            · (go_simp; first | done | with_reducible rfl)
            try simp only [Act.put, List.setIfInBounds_toArray, List.set_cons_zero, List.set_cons_succ]
            refine wpAnyW_take (i := 2) (oi := { dst := some 19, op := Op.nilCheck (Operand.tmp 18), type := 0, pos := "statement.go:102", after := #[{ on := 1, ground := Ground.data }], guard := none }) (v := ?_) rfl (by kernel_rfl) (by kernel_rfl) (by kernel_rfl) (by kernel_rfl) (fun _ _ _ h => h) (Or.inl ⟨by rfl, fun w _ => ?_⟩) ?_
            rotate_left
            · (go_simp; first | done | with_reducible rfl)
            try simp only [Act.put, List.setIfInBounds_toArray, List.set_cons_zero, List.set_cons_succ]
            refine wpAnyW_take (i := 3) (oi := { dst := some 20, op := Op.fieldAddr 83 (Operand.tmp 19) 0, type := 0, pos := "statement.go:102", after := #[{ on := 2, ground := Ground.data }], guard := none }) (v := ?_) rfl (by kernel_rfl) (by kernel_rfl) (by kernel_rfl) (by kernel_rfl) (fun _ _ _ h => h) (Or.inl ⟨by rfl, fun w _ => ?_⟩) ?_
            rotate_left
            · (go_simp; first | done | with_reducible rfl)
            try simp only [Act.put, List.setIfInBounds_toArray, List.set_cons_zero, List.set_cons_succ]
            refine wpAnyW_take (i := 4) (oi := { dst := some 21, op := Op.fieldAddr 38 (Operand.tmp 20) 4, type := 0, pos := "statement.go:102", after := #[{ on := 3, ground := Ground.data }], guard := none }) (v := ?_) rfl (by kernel_rfl) (by kernel_rfl) (by kernel_rfl) (by kernel_rfl) (fun _ _ _ h => h) (Or.inl ⟨by rfl, fun w _ => ?_⟩) ?_
            rotate_left
            · (go_simp; first | done | with_reducible rfl)
            try simp only [Act.put, List.setIfInBounds_toArray, List.set_cons_zero, List.set_cons_succ]
            refine wpAnyW_load (i := 5) (oi := { dst := some 22, op := Op.load 3 (Operand.tmp 21), type := 3, pos := "statement.go:102", after := #[{ on := 4, ground := Ground.data }], guard := none }) (v := ?_) rfl (by kernel_rfl) (by kernel_rfl) (by kernel_rfl) (by kernel_rfl) (by kernel_rfl) (fun _ _ _ h => h) (Or.inl ⟨by rfl, fun w hS => ?_⟩) (show _ ∧ _ from ⟨p4, zz 3⟩) ?_
            rotate_left
            · (obtain ⟨hs0, hs1⟩ := hS; go_simp; first | done | with_reducible rfl)
            try simp only [Act.put, List.setIfInBounds_toArray, List.set_cons_zero, List.set_cons_succ]
            refine wpAnyW_take (i := 6) (oi := { dst := some 23, op := Op.move (Operand.tmp 3), type := 57, pos := "statement.go:102", after := #[], guard := none }) (v := ?_) rfl (by kernel_rfl) (by kernel_rfl) (by kernel_rfl) (by kernel_rfl) (fun _ _ _ h => h) (Or.inl ⟨by rfl, fun w _ => ?_⟩) ?_
            rotate_left
            · (go_simp; first | done | with_reducible rfl)
            try simp only [Act.put, List.setIfInBounds_toArray, List.set_cons_zero, List.set_cons_succ]
            refine wpAnyW_take (i := 7) (oi := { dst := some 24, op := Op.move (Operand.tmp 0), type := 58, pos := "statement.go:102", after := #[], guard := none }) (v := ?_) rfl (by kernel_rfl) (by kernel_rfl) (by kernel_rfl) (by kernel_rfl) (fun _ _ _ h => h) (Or.inl ⟨by rfl, fun w _ => ?_⟩) ?_
            rotate_left
            · (go_simp; first | done | with_reducible rfl)
            try simp only [Act.put, List.setIfInBounds_toArray, List.set_cons_zero, List.set_cons_succ]
            refine wpAnyW_take (i := 8) (oi := { dst := some 25, op := Op.nilCheck (Operand.tmp 24), type := 0, pos := "statement.go:102", after := #[{ on := 7, ground := Ground.data }], guard := none }) (v := ?_) rfl (by kernel_rfl) (by kernel_rfl) (by kernel_rfl) (by kernel_rfl) (fun _ _ _ h => h) (Or.inl ⟨by rfl, fun w _ => ?_⟩) ?_
            rotate_left
            · (go_simp; first | done | with_reducible rfl)
            try simp only [Act.put, List.setIfInBounds_toArray, List.set_cons_zero, List.set_cons_succ]
            refine wpAnyW_take (i := 9) (oi := { dst := some 26, op := Op.fieldAddr 77 (Operand.tmp 25) 3, type := 0, pos := "statement.go:102", after := #[{ on := 8, ground := Ground.data }], guard := none }) (v := ?_) rfl (by kernel_rfl) (by kernel_rfl) (by kernel_rfl) (by kernel_rfl) (fun _ _ _ h => h) (Or.inl ⟨by rfl, fun w _ => ?_⟩) ?_
            rotate_left
            · (go_simp; first | done | with_reducible rfl)
            try simp only [Act.put, List.setIfInBounds_toArray, List.set_cons_zero, List.set_cons_succ]
            refine wpAnyW_load (i := 10) (oi := { dst := some 27, op := Op.load 75 (Operand.tmp 26), type := 75, pos := "statement.go:102", after := #[{ on := 9, ground := Ground.data }], guard := none }) (v := ?_) rfl (by kernel_rfl) (by kernel_rfl) (by kernel_rfl) (by kernel_rfl) (by kernel_rfl) (fun _ _ _ h => h) (Or.inl ⟨by rfl, fun w hS => ?_⟩) (show _ ∧ _ from ⟨p4, zz 3⟩) ?_
            rotate_left
            · (obtain ⟨hs0, hs1⟩ := hS; go_simp; first | done | with_reducible rfl)
            try simp only [Act.put, List.setIfInBounds_toArray, List.set_cons_zero, List.set_cons_succ]
            refine wpAnyW_ready (rs := [11]) (by kernel_rfl) (by simp) ?_
            refine (AllReadyW.cons (o := { dst := some 28, op := Op.call { callee := Callee.value (Operand.tmp 27), args := #[], argTypes := #[] }, type := 57, pos := "statement.go:102", after := #[{ on := 10, ground := Ground.data }], guard := none }) rfl (fun K hK => ?_) AllReadyW.nil)
            go_simp
            refine (HE.out _ _ _ (HS.out.ri.bw (by repeat (first | exact Bw.refl _ | apply Bw.alloc | apply Bw.drewN | apply Bw.drew))) ho HNE2.out).mono ?_
            intro e w2 h2
            rw [HQ2.out] at h2
            obtain ⟨b2, he2, hp2, hr2, hk2⟩ := h2
            subst he2
            have HS := hid ((HS.out.bw (by repeat (first | exact Bw.refl _ | apply Bw.alloc | apply Bw.drewN | apply Bw.drew))).add hr2 hk2 hp2)
            obtain ⟨v9, p4, _, _, pl, _⟩ := (HS.out.ps (x1, bx) (by simp)).at
            clear hp2 hr2 hk2
            refine hK.out _ _ (show _ ∧ _ from ⟨p4, HS.out.ri.k.cell 3⟩) ?_
            clear hK K
            try simp only [Act.put, List.setIfInBounds_toArray, List.set_cons_zero, List.set_cons_succ]
            obtain ⟨_, p4, _, _, _, _⟩ := ((HS.out.bw (Bw.alloc (Bw.refl _) (.cells #[.pointer (some ⟨bx, 0, none⟩), .pointer (some ⟨b2, 0, none⟩)] 57))).ps (x1, bx) (by simp)).at
            refine wpAnyW_ready (rs := [12]) (by kernel_rfl) (by simp) ?_
            refine (AllReadyW.cons (o := { dst := some 29, op := Op.buildSlice 81 2 #[(0, Operand.tmp 23), (1, Operand.tmp 28)], type := 81, pos := "statement.go:102", after := #[{ on := 6, ground := Ground.data }, { on := 11, ground := Ground.data }], guard := none }) rfl (fun K hK => ?_) AllReadyW.nil)
            go_simp
            refine hK.out _ _ (show _ ∧ _ from ⟨p4, (HS.out.bw (Bw.alloc (Bw.refl _) _)).ri.k.cell 3⟩) ?_
            clear hK K
            try simp only [Act.put, List.setIfInBounds_toArray, List.set_cons_zero, List.set_cons_succ]
            refine wpAnyW_ready (rs := [13]) (by kernel_rfl) (by simp) ?_
            refine (AllReadyW.cons (o := { dst := some 30, op := Op.call { callee := Callee.value (Operand.func 43), args := #[Operand.const (Value.int IntKind.i64 4), Operand.tmp 22, Operand.tmp 29], argTypes := #[3, 3, 81] }, type := 57, pos := "statement.go:102", after := #[{ on := 5, ground := Ground.data }, { on := 12, ground := Ground.data }, { on := 11, ground := Ground.chain }], guard := none }) rfl (fun K hK => ?_) AllReadyW.nil)
            go_simp
            refine (made_any _ _ _ [x1, x2] [bx, b2] _ _ (HS.out.row2 (x := x1) (y := x2) (b := bx) (c := b2) (by simp) (by simp)).1 (HS.out.row2 (x := x1) (y := x2) (b := bx) (c := b2) (by simp) (by simp)).2).mono ?_
            rintro e w3 ⟨b3, he3, hp3, hb3, hn3, hc3⟩
            subst he3
            have HS := hid ((HS.out.bw (Bw.alloc (Bw.refl _) _)).put hb3 hp3)
            obtain ⟨v9, p4, _, _, pl, _⟩ := (HS.out.ps (x1, bx) (by simp)).at
            clear hp3 hb3 hn3 hc3
            refine hK.out _ _ (show _ ∧ _ from ⟨p4, HS.out.ri.k.cell 3⟩) ?_
            clear hK K
            try simp only [Act.put, List.setIfInBounds_toArray, List.set_cons_zero, List.set_cons_succ]
            refine wpAnyW_ready (rs := [14]) (by kernel_rfl) (by simp) ?_
            refine (AllReadyW.cons (o := { dst := some 31, op := Op.call { callee := Callee.value (Operand.func 63), args := #[Operand.tmp 17, Operand.tmp 30], argTypes := #[58, 57] }, type := 57, pos := "statement.go:102", after := #[{ on := 0, ground := Ground.data }, { on := 13, ground := Ground.data }, { on := 13, ground := Ground.chain }], guard := none }) rfl (fun K hK => ?_) AllReadyW.nil)
            go_simp
            refine (ended_any (.mk 4 [] 0 x1.at_ [x1, x2]) b3 _ _ _ (HS.out.ri.bw (by repeat (first | exact Bw.refl _ | apply Bw.alloc | apply Bw.drewN | apply Bw.drew))) ((HS.out.bw (by repeat (first | exact Bw.refl _ | apply Bw.alloc | apply Bw.drewN | apply Bw.drew))).ps (.mk 4 [] 0 x1.at_ [x1, x2], b3) (by simp)) (fun n hn => ⟨((HS.out.bw (by repeat (first | exact Bw.refl _ | apply Bw.alloc | apply Bw.drewN | apply Bw.drew))).ne hn).2, ((HS.out.bw (by repeat (first | exact Bw.refl _ | apply Bw.alloc | apply Bw.drewN | apply Bw.drew))).ne hn).1⟩)).mono ?_
            intro e w5 h5
            rw [HSM.out] at h5
            obtain ⟨b5, he5, hp5, hr5, hk5⟩ := h5
            subst he5
            obtain ⟨_, p4, _, _, _, _⟩ := (((HS.out.bw (by repeat (first | exact Bw.refl _ | apply Bw.alloc | apply Bw.drewN | apply Bw.drew))).go hr5 hk5).ps (x1, bx) (by simp)).at
            have HS := hid ((HS.out.bw (by repeat (first | exact Bw.refl _ | apply Bw.alloc | apply Bw.drewN | apply Bw.drew))).turn hr5 hk5 hp5)
            clear hp5 hr5 hk5
            refine hK.out _ _ (show _ ∧ _ from ⟨p4, HS.out.ri.k.cell 3⟩) ?_
            clear hK K
            try simp only [Act.put, List.setIfInBounds_toArray, List.set_cons_zero, List.set_cons_succ]
            refine wpAnyW_take (i := 15) (oi := { dst := some 2, op := Op.assign (Operand.tmp 31), type := 57, pos := "statement.go:102", after := #[{ on := 14, ground := Ground.data }, { on := 14, ground := Ground.chain }, { on := 0, ground := Ground.phase }, { on := 1, ground := Ground.phase }, { on := 2, ground := Ground.phase }, { on := 3, ground := Ground.phase }, { on := 4, ground := Ground.phase }, { on := 5, ground := Ground.phase }, { on := 6, ground := Ground.phase }, { on := 7, ground := Ground.phase }, { on := 8, ground := Ground.phase }, { on := 9, ground := Ground.phase }, { on := 10, ground := Ground.phase }, { on := 11, ground := Ground.phase }, { on := 12, ground := Ground.phase }, { on := 13, ground := Ground.phase }, { on := 14, ground := Ground.phase }], guard := none }) (v := ?_) rfl (by kernel_rfl) (by kernel_rfl) (by kernel_rfl) (by kernel_rfl) (fun _ _ _ h => h) (Or.inl ⟨by rfl, fun w _ => ?_⟩) ?_
            rotate_left
            · (go_simp; first | done | with_reducible rfl)
            try simp only [Act.put, List.setIfInBounds_toArray, List.set_cons_zero, List.set_cons_succ]
            refine wpAnyW_done (by kernel_rfl) ?_ _
            go_wp2
            all_goals go_ret
            all_goals exact ⟨_, rfl, HS.out.outp (by simp)⟩

end

end Go.Proofs.YtlcieebneclmpaaDoor

