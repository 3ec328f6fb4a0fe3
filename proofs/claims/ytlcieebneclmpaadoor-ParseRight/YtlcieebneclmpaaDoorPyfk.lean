/- var and try: contracts. -/
import Derived.Test.YtlcieebneclmpaaDoorPyak
import Derived.Test.YtlcieebneclmpaaDoorK9
set_option linter.unusedSimpArgs false
set_option linter.unusedVariables false
namespace Go.Proofs.YtlcieebneclmpaaDoor
open Go Go.RowKit

section
variable {B : World} {r g cap : Nat} {T : List ATok} {ex : Nat → Value}

set_option maxRecDepth 100000 in
set_option maxHeartbeats 8000000 in
theorem variable_any (pa pb pc : Nat) (e0 : ex 0 = .func (.func 69) #[] #[.pointer (some ⟨pa, 0, none⟩), .pointer (some ⟨pb, 0, none⟩), .pointer (some ⟨pc, 0, none⟩)]) (f : Nat) (he : RdP B r g cap T ex f 69 #[.pointer (some ⟨pa, 0, none⟩), .pointer (some ⟨pb, 0, none⟩), .pointer (some ⟨pc, 0, none⟩)] (.lev 0)) (w : World) (i o : Nat) (h : RI B w r g cap T ex i o) (ho : o ≤ 64) (hs : isT T i ⟨#[118, 97, 114]⟩ = true) (hne : (wantN T (i + 1) fun j => want T ⟨#[61]⟩ j fun j => (pP T f (.lev 0) j o).bind fun x _ j => semi T j (.mk 3 (tk T (i + 1)).2.1 0 (tk T i).2.2.2 [x])) ≠ .out) :
    Calls Tryd.prog 60 #[.pointer (some ⟨r, 0, none⟩)] w (Got B r g cap T ex o No w (wantN T (i + 1) fun j => want T ⟨#[61]⟩ j fun j => (pP T f (.lev 0) j o).bind fun x _ j => semi T j (.mk 3 (tk T (i + 1)).2.1 0 (tk T i).2.2.2 [x]))) := by
  have HS := hid (SI.begin h)
  have HE := hid he
  have HV := hid hs
  have zz := HS.out.ri.k.cell; have zf := HS.out.ri.k.free; have zl := HS.out.ri.k.lt
  clear h he hs
  unfold wantN want here at hne ⊢
  by_cases hn : (tk T (i + 1)).1 = 1
  · rw [if_pos hn] at hne ⊢
    try dsimp only at hne ⊢
    have HN := hid hn
    clear hn
    cases hq2 : isT T (i + 1 + 1) ⟨#[61]⟩
    · rw [if_neg (by decide)]
      have HQ2 := hid hq2
      clear hq2 hne
      go_enter Tryd.func60, Tryd.ntmps60
      go_wp2_with (first
        | (go_at_call 62; refine (want_yes _ (HS.out.ri.bw (by repeat (first | exact Bw.refl _ | apply Bw.alloc | apply Bw.drewN | apply Bw.drew))) HV.out).mono ?_; rintro e w1 ⟨rfl, hr1, hk1⟩; have HS := hid ((HS.out.bw (by repeat (first | exact Bw.refl _ | apply Bw.alloc | apply Bw.drewN | apply Bw.drew))).go hr1 hk1); have zz := HS.out.ri.k.cell; have zf := HS.out.ri.k.free; have zl := HS.out.ri.k.lt; clear hr1 hk1)
        | (go_at_call 79; refine (wantName_yes (HS.out.ri.bw (by repeat (first | exact Bw.refl _ | apply Bw.alloc | apply Bw.drewN | apply Bw.drew))) HN.out).mono ?_; unfold tokV; rintro e w1 ⟨rfl, hr1, hk1⟩; have HS := hid ((HS.out.bw (by repeat (first | exact Bw.refl _ | apply Bw.alloc | apply Bw.drewN | apply Bw.drew))).go hr1 hk1); have zz := HS.out.ri.k.cell; have zf := HS.out.ri.k.free; have zl := HS.out.ri.k.lt; clear hr1 hk1)
        | (go_at_call 62; refine (want_no _ (HS.out.ri.bw (by repeat (first | exact Bw.refl _ | apply Bw.alloc | apply Bw.drewN | apply Bw.drew))) HQ2.out).mono ?_; rintro e w1 ⟨rfl, hk1⟩; have HK := hid ((HS.out.kp.bw (by repeat (first | exact Bw.refl _ | apply Bw.alloc | apply Bw.drewN | apply Bw.drew))).trans hk1); clear hk1)
        | fail)
      all_goals exact ⟨rfl, rfl, HK.out⟩
    · rw [hq2, if_pos rfl] at hne
      rw [if_pos rfl]
      try dsimp only at hne ⊢
      have HQ2 := hid hq2
      clear hq2
      have HNE := hid (show pP T f (.lev 0) (i + 1 + 1 + 1) o ≠ .out from fun q => hne (by rw [q]; rfl))
      clear hne
      generalize hq : pP T f (.lev 0) (i + 1 + 1 + 1) o = R
      have HQ := hid hq
      clear hq
      cases R with
      | out => exact absurd HQ.out HNE.out
      | bad n m =>
        simp only [Res.bind]
        go_enter Tryd.func60, Tryd.ntmps60
        go_wp2_with (first
          | (go_at_call 62; refine (want_yes _ (HS.out.ri.bw (by repeat (first | exact Bw.refl _ | apply Bw.alloc | apply Bw.drewN | apply Bw.drew))) HV.out).mono ?_; rintro e w1 ⟨rfl, hr1, hk1⟩; have HS := hid ((HS.out.bw (by repeat (first | exact Bw.refl _ | apply Bw.alloc | apply Bw.drewN | apply Bw.drew))).go hr1 hk1); have zz := HS.out.ri.k.cell; have zf := HS.out.ri.k.free; have zl := HS.out.ri.k.lt; clear hr1 hk1)
          | (go_at_call 79; refine (wantName_yes (HS.out.ri.bw (by repeat (first | exact Bw.refl _ | apply Bw.alloc | apply Bw.drewN | apply Bw.drew))) HN.out).mono ?_; unfold tokV; rintro e w1 ⟨rfl, hr1, hk1⟩; have HS := hid ((HS.out.bw (by repeat (first | exact Bw.refl _ | apply Bw.alloc | apply Bw.drewN | apply Bw.drew))).go hr1 hk1); have zz := HS.out.ri.k.cell; have zf := HS.out.ri.k.free; have zl := HS.out.ri.k.lt; clear hr1 hk1)
          | (go_at_call 62; refine (want_yes _ (HS.out.ri.bw (by repeat (first | exact Bw.refl _ | apply Bw.alloc | apply Bw.drewN | apply Bw.drew))) HQ2.out).mono ?_; rintro e w1 ⟨rfl, hr1, hk1⟩; have HS := hid ((HS.out.bw (by repeat (first | exact Bw.refl _ | apply Bw.alloc | apply Bw.drewN | apply Bw.drew))).go hr1 hk1); have zz := HS.out.ri.k.cell; have zf := HS.out.ri.k.free; have zl := HS.out.ri.k.lt; clear hr1 hk1)
          | (go_at_call 69; refine (HE.out _ _ _ (HS.out.ri.bw (by repeat (first | exact Bw.refl _ | apply Bw.alloc | apply Bw.drewN | apply Bw.drew))) ho HNE.out).mono ?_; intro e w2 h2; rw [HQ.out] at h2; obtain ⟨rfl, hk2⟩ := h2; have HK := hid ((HS.out.kp.bw (by repeat (first | exact Bw.refl _ | apply Bw.alloc | apply Bw.drewN | apply Bw.drew))).trans hk2); clear hk2)
          | fail)
        all_goals exact ⟨rfl, rfl, HK.out⟩
      | ok x c j =>
        simp only [Res.bind]
        cases hl : isT T j ⟨#[59]⟩
        · have HSM := hid (show semi T j (.mk 3 (tk T (i + 1)).2.1 0 (tk T i).2.2.2 [x]) = .bad 6 (tk T j).2.2.2 by unfold semi want; rw [hl]; rfl)
          rw [HSM.out]
          clear hl
          go_enter Tryd.func60, Tryd.ntmps60
          go_wp2_with (first
            | (go_at_call 62; refine (want_yes _ (HS.out.ri.bw (by repeat (first | exact Bw.refl _ | apply Bw.alloc | apply Bw.drewN | apply Bw.drew))) HV.out).mono ?_; rintro e w1 ⟨rfl, hr1, hk1⟩; have HS := hid ((HS.out.bw (by repeat (first | exact Bw.refl _ | apply Bw.alloc | apply Bw.drewN | apply Bw.drew))).go hr1 hk1); have zz := HS.out.ri.k.cell; have zf := HS.out.ri.k.free; have zl := HS.out.ri.k.lt; clear hr1 hk1)
            | (go_at_call 79; refine (wantName_yes (HS.out.ri.bw (by repeat (first | exact Bw.refl _ | apply Bw.alloc | apply Bw.drewN | apply Bw.drew))) HN.out).mono ?_; unfold tokV; rintro e w1 ⟨rfl, hr1, hk1⟩; have HS := hid ((HS.out.bw (by repeat (first | exact Bw.refl _ | apply Bw.alloc | apply Bw.drewN | apply Bw.drew))).go hr1 hk1); have zz := HS.out.ri.k.cell; have zf := HS.out.ri.k.free; have zl := HS.out.ri.k.lt; clear hr1 hk1)
            | (go_at_call 62; refine (want_yes _ (HS.out.ri.bw (by repeat (first | exact Bw.refl _ | apply Bw.alloc | apply Bw.drewN | apply Bw.drew))) HQ2.out).mono ?_; rintro e w1 ⟨rfl, hr1, hk1⟩; have HS := hid ((HS.out.bw (by repeat (first | exact Bw.refl _ | apply Bw.alloc | apply Bw.drewN | apply Bw.drew))).go hr1 hk1); have zz := HS.out.ri.k.cell; have zf := HS.out.ri.k.free; have zl := HS.out.ri.k.lt; clear hr1 hk1)
            | (go_at_call 69; refine (HE.out _ _ _ (HS.out.ri.bw (by repeat (first | exact Bw.refl _ | apply Bw.alloc | apply Bw.drewN | apply Bw.drew))) ho HNE.out).mono ?_; intro e w2 h2; rw [HQ.out] at h2; obtain ⟨b2, rfl, hp2, hr2, hk2⟩ := h2; have HS := hid ((HS.out.bw (by repeat (first | exact Bw.refl _ | apply Bw.alloc | apply Bw.drewN | apply Bw.drew))).add hr2 hk2 hp2); have zz := HS.out.ri.k.cell; have zf := HS.out.ri.k.free; have zl := HS.out.ri.k.lt; clear hp2 hr2 hk2)
            | (go_at_call 80; refine (madeNamed_any _ _ _ _ [x] [b2] _ _ (HS.out.row1 (x := x) (b := b2) (by simp)).1 (HS.out.row1 (x := x) (b := b2) (by simp)).2).mono ?_; rintro e w3 ⟨b3, rfl, hp3, hb3, hn3, hc3⟩; have HS := hid ((HS.out.bw (Bw.alloc (Bw.refl _) _)).put hb3 hp3); have zz := HS.out.ri.k.cell; have zf := HS.out.ri.k.free; have zl := HS.out.ri.k.lt; clear hp3 hb3)
            | (go_at_call 63; refine (ended_any (.mk 3 (tk T (i + 1)).2.1 0 (tk T i).2.2.2 [x]) b3 _ _ _ (HS.out.ri.bw (by repeat (first | exact Bw.refl _ | apply Bw.alloc | apply Bw.drewN | apply Bw.drew))) ((HS.out.bw (by repeat (first | exact Bw.refl _ | apply Bw.alloc | apply Bw.drewN | apply Bw.drew))).ps (.mk 3 (tk T (i + 1)).2.1 0 (tk T i).2.2.2 [x], b3) (by simp)) (fun n hn => ⟨((HS.out.bw (by repeat (first | exact Bw.refl _ | apply Bw.alloc | apply Bw.drewN | apply Bw.drew))).ne hn).2, ((HS.out.bw (by repeat (first | exact Bw.refl _ | apply Bw.alloc | apply Bw.drewN | apply Bw.drew))).ne hn).1⟩)).mono ?_; intro e w5 h5; rw [HSM.out] at h5; obtain ⟨rfl, hk5⟩ := h5; have HK := hid ((HS.out.kp.bw (by repeat (first | exact Bw.refl _ | apply Bw.alloc | apply Bw.drewN | apply Bw.drew))).trans hk5); clear hk5)
            | fail)
          all_goals exact ⟨rfl, rfl, HK.out⟩
        · have HSM := hid (show semi T j (.mk 3 (tk T (i + 1)).2.1 0 (tk T i).2.2.2 [x]) = .ok (.mk 3 (tk T (i + 1)).2.1 0 (tk T i).2.2.2 [x]) false (j + 1) by unfold semi want; rw [hl]; rfl)
          rw [HSM.out]
          clear hl
          go_enter Tryd.func60, Tryd.ntmps60
          go_wp2_with (first
            | (go_at_call 62; refine (want_yes _ (HS.out.ri.bw (by repeat (first | exact Bw.refl _ | apply Bw.alloc | apply Bw.drewN | apply Bw.drew))) HV.out).mono ?_; rintro e w1 ⟨rfl, hr1, hk1⟩; have HS := hid ((HS.out.bw (by repeat (first | exact Bw.refl _ | apply Bw.alloc | apply Bw.drewN | apply Bw.drew))).go hr1 hk1); have zz := HS.out.ri.k.cell; have zf := HS.out.ri.k.free; have zl := HS.out.ri.k.lt; clear hr1 hk1)
            | (go_at_call 79; refine (wantName_yes (HS.out.ri.bw (by repeat (first | exact Bw.refl _ | apply Bw.alloc | apply Bw.drewN | apply Bw.drew))) HN.out).mono ?_; unfold tokV; rintro e w1 ⟨rfl, hr1, hk1⟩; have HS := hid ((HS.out.bw (by repeat (first | exact Bw.refl _ | apply Bw.alloc | apply Bw.drewN | apply Bw.drew))).go hr1 hk1); have zz := HS.out.ri.k.cell; have zf := HS.out.ri.k.free; have zl := HS.out.ri.k.lt; clear hr1 hk1)
            | (go_at_call 62; refine (want_yes _ (HS.out.ri.bw (by repeat (first | exact Bw.refl _ | apply Bw.alloc | apply Bw.drewN | apply Bw.drew))) HQ2.out).mono ?_; rintro e w1 ⟨rfl, hr1, hk1⟩; have HS := hid ((HS.out.bw (by repeat (first | exact Bw.refl _ | apply Bw.alloc | apply Bw.drewN | apply Bw.drew))).go hr1 hk1); have zz := HS.out.ri.k.cell; have zf := HS.out.ri.k.free; have zl := HS.out.ri.k.lt; clear hr1 hk1)
            | (go_at_call 69; refine (HE.out _ _ _ (HS.out.ri.bw (by repeat (first | exact Bw.refl _ | apply Bw.alloc | apply Bw.drewN | apply Bw.drew))) ho HNE.out).mono ?_; intro e w2 h2; rw [HQ.out] at h2; obtain ⟨b2, rfl, hp2, hr2, hk2⟩ := h2; have HS := hid ((HS.out.bw (by repeat (first | exact Bw.refl _ | apply Bw.alloc | apply Bw.drewN | apply Bw.drew))).add hr2 hk2 hp2); have zz := HS.out.ri.k.cell; have zf := HS.out.ri.k.free; have zl := HS.out.ri.k.lt; clear hp2 hr2 hk2)
            | (go_at_call 80; refine (madeNamed_any _ _ _ _ [x] [b2] _ _ (HS.out.row1 (x := x) (b := b2) (by simp)).1 (HS.out.row1 (x := x) (b := b2) (by simp)).2).mono ?_; rintro e w3 ⟨b3, rfl, hp3, hb3, hn3, hc3⟩; have HS := hid ((HS.out.bw (Bw.alloc (Bw.refl _) _)).put hb3 hp3); have zz := HS.out.ri.k.cell; have zf := HS.out.ri.k.free; have zl := HS.out.ri.k.lt; clear hp3 hb3)
            | (go_at_call 63; refine (ended_any (.mk 3 (tk T (i + 1)).2.1 0 (tk T i).2.2.2 [x]) b3 _ _ _ (HS.out.ri.bw (by repeat (first | exact Bw.refl _ | apply Bw.alloc | apply Bw.drewN | apply Bw.drew))) ((HS.out.bw (by repeat (first | exact Bw.refl _ | apply Bw.alloc | apply Bw.drewN | apply Bw.drew))).ps (.mk 3 (tk T (i + 1)).2.1 0 (tk T i).2.2.2 [x], b3) (by simp)) (fun n hn => ⟨((HS.out.bw (by repeat (first | exact Bw.refl _ | apply Bw.alloc | apply Bw.drewN | apply Bw.drew))).ne hn).2, ((HS.out.bw (by repeat (first | exact Bw.refl _ | apply Bw.alloc | apply Bw.drewN | apply Bw.drew))).ne hn).1⟩)).mono ?_; intro e w5 h5; rw [HSM.out] at h5; obtain ⟨b5, rfl, hp5, hr5, hk5⟩ := h5; have HS := hid ((HS.out.bw (by repeat (first | exact Bw.refl _ | apply Bw.alloc | apply Bw.drewN | apply Bw.drew))).turn hr5 hk5 hp5); clear hp5 hr5 hk5)
            | fail)
          all_goals go_ret
          all_goals exact ⟨_, rfl, HS.out.outp (by simp)⟩
  · rw [if_neg hn]
    have HN := hid hn
    clear hn hne
    go_enter Tryd.func60, Tryd.ntmps60
    go_wp2_with (first
      | (go_at_call 62; refine (want_yes _ (HS.out.ri.bw (by repeat (first | exact Bw.refl _ | apply Bw.alloc | apply Bw.drewN | apply Bw.drew))) HV.out).mono ?_; rintro e w1 ⟨rfl, hr1, hk1⟩; have HS := hid ((HS.out.bw (by repeat (first | exact Bw.refl _ | apply Bw.alloc | apply Bw.drewN | apply Bw.drew))).go hr1 hk1); have zz := HS.out.ri.k.cell; have zf := HS.out.ri.k.free; have zl := HS.out.ri.k.lt; clear hr1 hk1)
      | (go_at_call 79; refine (wantName_no (HS.out.ri.bw (by repeat (first | exact Bw.refl _ | apply Bw.alloc | apply Bw.drewN | apply Bw.drew))) HN.out).mono ?_; rintro e w1 ⟨rfl, hk1⟩; have HK := hid ((HS.out.kp.bw (by repeat (first | exact Bw.refl _ | apply Bw.alloc | apply Bw.drewN | apply Bw.drew))).trans hk1); clear hk1)
      | fail)
    all_goals exact ⟨rfl, rfl, HK.out⟩

set_option maxRecDepth 100000 in
set_option maxHeartbeats 8000000 in
theorem attempt_any (f : Nat) (hb : RdP B r g cap T ex f 59 #[.pointer (some ⟨r, 0, none⟩)] .block) (w : World) (i o : Nat) (h : RI B w r g cap T ex i o) (ho : o ≤ 64) (hs : isT T i ⟨#[116, 114, 121]⟩ = true) (hne : ((pP T f .block (i + 1) o).bind fun x _ j => want T ⟨#[99, 97, 116, 99, 104]⟩ j fun j => wantN T j fun j' => (pP T f .block j' o).bind fun y _ j' => .ok (.mk 11 (tk T j).2.1 0 (tk T i).2.2.2 [x, y]) false j') ≠ .out) :
    Calls Tryd.prog 65 #[.pointer (some ⟨r, 0, none⟩)] w (Got B r g cap T ex o No w ((pP T f .block (i + 1) o).bind fun x _ j => want T ⟨#[99, 97, 116, 99, 104]⟩ j fun j => wantN T j fun j' => (pP T f .block j' o).bind fun y _ j' => .ok (.mk 11 (tk T j).2.1 0 (tk T i).2.2.2 [x, y]) false j')) := by
  have HS := hid (SI.begin h)
  have HB := hid hb
  have HV := hid hs
  have zz := HS.out.ri.k.cell; have zf := HS.out.ri.k.free; have zl := HS.out.ri.k.lt
  clear h hb hs
  have HNE1 := hid (show pP T f .block (i + 1) o ≠ .out from fun q => hne (by rw [q]; rfl))
  generalize hq1 : pP T f .block (i + 1) o = R1 at hne ⊢
  have HQ1 := hid hq1
  clear hq1
  cases R1 with
  | out => exact absurd HQ1.out HNE1.out
  | bad n1 m1 =>
    simp only [Res.bind]
    clear hne
    go_enter Tryd.func65, Tryd.ntmps65
    go_wp2_with (first
      | (go_at_call 62; refine (want_yes _ (HS.out.ri.bw (by repeat (first | exact Bw.refl _ | apply Bw.alloc | apply Bw.drewN | apply Bw.drew))) HV.out).mono ?_; rintro e w1 ⟨rfl, hr1, hk1⟩; have HS := hid ((HS.out.bw (by repeat (first | exact Bw.refl _ | apply Bw.alloc | apply Bw.drewN | apply Bw.drew))).go hr1 hk1); have zz := HS.out.ri.k.cell; have zf := HS.out.ri.k.free; have zl := HS.out.ri.k.lt; clear hr1 hk1)
      | (go_at_call 59; refine (HB.out _ _ _ (HS.out.ri.bw (by repeat (first | exact Bw.refl _ | apply Bw.alloc | apply Bw.drewN | apply Bw.drew))) ho HNE1.out).mono ?_; intro e w2 h2; rw [HQ1.out] at h2; obtain ⟨rfl, hk2⟩ := h2; have HK := hid ((HS.out.kp.bw (by repeat (first | exact Bw.refl _ | apply Bw.alloc | apply Bw.drewN | apply Bw.drew))).trans hk2); clear hk2)
      | fail)
    all_goals exact ⟨rfl, rfl, HK.out⟩
  | ok x1 c1 j1 =>
    simp only [Res.bind] at hne ⊢
    unfold want wantN here at hne ⊢
    cases hc : isT T j1 ⟨#[99, 97, 116, 99, 104]⟩
    · rw [if_neg (by decide)]
      have HC := hid hc
      clear hc hne
      go_enter Tryd.func65, Tryd.ntmps65
      go_wp2_with (first
        | (go_at_call 62; refine (want_yes _ (HS.out.ri.bw (by repeat (first | exact Bw.refl _ | apply Bw.alloc | apply Bw.drewN | apply Bw.drew))) HV.out).mono ?_; rintro e w1 ⟨rfl, hr1, hk1⟩; have HS := hid ((HS.out.bw (by repeat (first | exact Bw.refl _ | apply Bw.alloc | apply Bw.drewN | apply Bw.drew))).go hr1 hk1); have zz := HS.out.ri.k.cell; have zf := HS.out.ri.k.free; have zl := HS.out.ri.k.lt; clear hr1 hk1)
        | (go_at_call 59; refine (HB.out _ _ _ (HS.out.ri.bw (by repeat (first | exact Bw.refl _ | apply Bw.alloc | apply Bw.drewN | apply Bw.drew))) ho HNE1.out).mono ?_; intro e w2 h2; rw [HQ1.out] at h2; obtain ⟨bx, rfl, hp2, hr2, hk2⟩ := h2; have HS := hid ((HS.out.bw (by repeat (first | exact Bw.refl _ | apply Bw.alloc | apply Bw.drewN | apply Bw.drew))).add hr2 hk2 hp2); have zz := HS.out.ri.k.cell; have zf := HS.out.ri.k.free; have zl := HS.out.ri.k.lt; clear hp2 hr2 hk2)
        | (go_at_call 62; refine (want_no _ (HS.out.ri.bw (by repeat (first | exact Bw.refl _ | apply Bw.alloc | apply Bw.drewN | apply Bw.drew))) HC.out).mono ?_; rintro e w1 ⟨rfl, hk1⟩; have HK := hid ((HS.out.kp.bw (by repeat (first | exact Bw.refl _ | apply Bw.alloc | apply Bw.drewN | apply Bw.drew))).trans hk1); clear hk1)
        | fail)
      all_goals exact ⟨rfl, rfl, HK.out⟩
    · rw [hc, if_pos rfl] at hne
      rw [if_pos rfl]
      try dsimp only at hne ⊢
      have HC := hid hc
      clear hc
      by_cases hn : (tk T (j1 + 1)).1 = 1
      · rw [if_pos hn] at hne ⊢
        try dsimp only at hne ⊢
        have HN := hid hn
        clear hn
        have HNE2 := hid (show pP T f .block (j1 + 1 + 1) o ≠ .out from fun q => hne (by rw [q]))
        clear hne
        generalize hq2 : pP T f .block (j1 + 1 + 1) o = R2
        have HQ2 := hid hq2
        clear hq2
        cases R2 with
        | out => exact absurd HQ2.out HNE2.out
        | bad n2 m2 =>
          go_enter Tryd.func65, Tryd.ntmps65
          go_wp2_with (first
            | (go_at_call 62; refine (want_yes _ (HS.out.ri.bw (by repeat (first | exact Bw.refl _ | apply Bw.alloc | apply Bw.drewN | apply Bw.drew))) HV.out).mono ?_; rintro e w1 ⟨rfl, hr1, hk1⟩; have HS := hid ((HS.out.bw (by repeat (first | exact Bw.refl _ | apply Bw.alloc | apply Bw.drewN | apply Bw.drew))).go hr1 hk1); have zz := HS.out.ri.k.cell; have zf := HS.out.ri.k.free; have zl := HS.out.ri.k.lt; clear hr1 hk1)
            | (go_at_call 59; refine (HB.out _ _ _ (HS.out.ri.bw (by repeat (first | exact Bw.refl _ | apply Bw.alloc | apply Bw.drewN | apply Bw.drew))) ho HNE1.out).mono ?_; intro e w2 h2; rw [HQ1.out] at h2; obtain ⟨bx, rfl, hp2, hr2, hk2⟩ := h2; have HS := hid ((HS.out.bw (by repeat (first | exact Bw.refl _ | apply Bw.alloc | apply Bw.drewN | apply Bw.drew))).add hr2 hk2 hp2); have zz := HS.out.ri.k.cell; have zf := HS.out.ri.k.free; have zl := HS.out.ri.k.lt; clear hp2 hr2 hk2)
            | (go_at_call 62; refine (want_yes _ (HS.out.ri.bw (by repeat (first | exact Bw.refl _ | apply Bw.alloc | apply Bw.drewN | apply Bw.drew))) HC.out).mono ?_; rintro e w1 ⟨rfl, hr1, hk1⟩; have HS := hid ((HS.out.bw (by repeat (first | exact Bw.refl _ | apply Bw.alloc | apply Bw.drewN | apply Bw.drew))).go hr1 hk1); have zz := HS.out.ri.k.cell; have zf := HS.out.ri.k.free; have zl := HS.out.ri.k.lt; clear hr1 hk1)
            | (go_at_call 79; refine (wantName_yes (HS.out.ri.bw (by repeat (first | exact Bw.refl _ | apply Bw.alloc | apply Bw.drewN | apply Bw.drew))) HN.out).mono ?_; unfold tokV; rintro e w1 ⟨rfl, hr1, hk1⟩; have HS := hid ((HS.out.bw (by repeat (first | exact Bw.refl _ | apply Bw.alloc | apply Bw.drewN | apply Bw.drew))).go hr1 hk1); have zz := HS.out.ri.k.cell; have zf := HS.out.ri.k.free; have zl := HS.out.ri.k.lt; clear hr1 hk1)
            | (go_at_call 59; refine (HB.out _ _ _ (HS.out.ri.bw (by repeat (first | exact Bw.refl _ | apply Bw.alloc | apply Bw.drewN | apply Bw.drew))) ho HNE2.out).mono ?_; intro e w2 h2; rw [HQ2.out] at h2; obtain ⟨rfl, hk2⟩ := h2; have HK := hid ((HS.out.kp.bw (by repeat (first | exact Bw.refl _ | apply Bw.alloc | apply Bw.drewN | apply Bw.drew))).trans hk2); clear hk2)
            | fail)
          all_goals exact ⟨rfl, rfl, HK.out⟩
        | ok x2 c2 j2 =>
          go_enter Tryd.func65, Tryd.ntmps65
          go_wp2_with (first
            | (go_at_call 62; refine (want_yes _ (HS.out.ri.bw (by repeat (first | exact Bw.refl _ | apply Bw.alloc | apply Bw.drewN | apply Bw.drew))) HV.out).mono ?_; rintro e w1 ⟨rfl, hr1, hk1⟩; have HS := hid ((HS.out.bw (by repeat (first | exact Bw.refl _ | apply Bw.alloc | apply Bw.drewN | apply Bw.drew))).go hr1 hk1); have zz := HS.out.ri.k.cell; have zf := HS.out.ri.k.free; have zl := HS.out.ri.k.lt; clear hr1 hk1)
            | (go_at_call 59; refine (HB.out _ _ _ (HS.out.ri.bw (by repeat (first | exact Bw.refl _ | apply Bw.alloc | apply Bw.drewN | apply Bw.drew))) ho HNE1.out).mono ?_; intro e w2 h2; rw [HQ1.out] at h2; obtain ⟨bx, rfl, hp2, hr2, hk2⟩ := h2; have HS := hid ((HS.out.bw (by repeat (first | exact Bw.refl _ | apply Bw.alloc | apply Bw.drewN | apply Bw.drew))).add hr2 hk2 hp2); have zz := HS.out.ri.k.cell; have zf := HS.out.ri.k.free; have zl := HS.out.ri.k.lt; clear hp2 hr2 hk2)
            | (go_at_call 62; refine (want_yes _ (HS.out.ri.bw (by repeat (first | exact Bw.refl _ | apply Bw.alloc | apply Bw.drewN | apply Bw.drew))) HC.out).mono ?_; rintro e w1 ⟨rfl, hr1, hk1⟩; have HS := hid ((HS.out.bw (by repeat (first | exact Bw.refl _ | apply Bw.alloc | apply Bw.drewN | apply Bw.drew))).go hr1 hk1); have zz := HS.out.ri.k.cell; have zf := HS.out.ri.k.free; have zl := HS.out.ri.k.lt; clear hr1 hk1)
            | (go_at_call 79; refine (wantName_yes (HS.out.ri.bw (by repeat (first | exact Bw.refl _ | apply Bw.alloc | apply Bw.drewN | apply Bw.drew))) HN.out).mono ?_; unfold tokV; rintro e w1 ⟨rfl, hr1, hk1⟩; have HS := hid ((HS.out.bw (by repeat (first | exact Bw.refl _ | apply Bw.alloc | apply Bw.drewN | apply Bw.drew))).go hr1 hk1); have zz := HS.out.ri.k.cell; have zf := HS.out.ri.k.free; have zl := HS.out.ri.k.lt; clear hr1 hk1)
            | (go_at_call 59; refine (HB.out _ _ _ (HS.out.ri.bw (by repeat (first | exact Bw.refl _ | apply Bw.alloc | apply Bw.drewN | apply Bw.drew))) ho HNE2.out).mono ?_; intro e w2 h2; rw [HQ2.out] at h2; obtain ⟨bz, rfl, hp2, hr2, hk2⟩ := h2; have HS := hid ((HS.out.bw (by repeat (first | exact Bw.refl _ | apply Bw.alloc | apply Bw.drewN | apply Bw.drew))).add hr2 hk2 hp2); have zz := HS.out.ri.k.cell; have zf := HS.out.ri.k.free; have zl := HS.out.ri.k.lt; clear hp2 hr2 hk2)
            | (go_at_call 80; refine (madeNamed_any _ _ _ _ [x1, x2] [bx, bz] _ _ (HS.out.row2 (x := x1) (y := x2) (b := bx) (c := bz) (by simp) (by simp)).1 (HS.out.row2 (x := x1) (y := x2) (b := bx) (c := bz) (by simp) (by simp)).2).mono ?_; rintro e w3 ⟨b3, rfl, hp3, hb3, hn3, hc3⟩; have HS := hid ((HS.out.bw (Bw.alloc (Bw.refl _) _)).put hb3 hp3); have zz := HS.out.ri.k.cell; have zf := HS.out.ri.k.free; have zl := HS.out.ri.k.lt; clear hp3 hb3)
            | fail)
          all_goals go_ret
          all_goals exact ⟨_, rfl, HS.out.outp (by simp)⟩
      · rw [if_neg hn]
        have HN := hid hn
        clear hn hne
        go_enter Tryd.func65, Tryd.ntmps65
        go_wp2_with (first
          | (go_at_call 62; refine (want_yes _ (HS.out.ri.bw (by repeat (first | exact Bw.refl _ | apply Bw.alloc | apply Bw.drewN | apply Bw.drew))) HV.out).mono ?_; rintro e w1 ⟨rfl, hr1, hk1⟩; have HS := hid ((HS.out.bw (by repeat (first | exact Bw.refl _ | apply Bw.alloc | apply Bw.drewN | apply Bw.drew))).go hr1 hk1); have zz := HS.out.ri.k.cell; have zf := HS.out.ri.k.free; have zl := HS.out.ri.k.lt; clear hr1 hk1)
          | (go_at_call 59; refine (HB.out _ _ _ (HS.out.ri.bw (by repeat (first | exact Bw.refl _ | apply Bw.alloc | apply Bw.drewN | apply Bw.drew))) ho HNE1.out).mono ?_; intro e w2 h2; rw [HQ1.out] at h2; obtain ⟨bx, rfl, hp2, hr2, hk2⟩ := h2; have HS := hid ((HS.out.bw (by repeat (first | exact Bw.refl _ | apply Bw.alloc | apply Bw.drewN | apply Bw.drew))).add hr2 hk2 hp2); have zz := HS.out.ri.k.cell; have zf := HS.out.ri.k.free; have zl := HS.out.ri.k.lt; clear hp2 hr2 hk2)
          | (go_at_call 62; refine (want_yes _ (HS.out.ri.bw (by repeat (first | exact Bw.refl _ | apply Bw.alloc | apply Bw.drewN | apply Bw.drew))) HC.out).mono ?_; rintro e w1 ⟨rfl, hr1, hk1⟩; have HS := hid ((HS.out.bw (by repeat (first | exact Bw.refl _ | apply Bw.alloc | apply Bw.drewN | apply Bw.drew))).go hr1 hk1); have zz := HS.out.ri.k.cell; have zf := HS.out.ri.k.free; have zl := HS.out.ri.k.lt; clear hr1 hk1)
          | (go_at_call 79; refine (wantName_no (HS.out.ri.bw (by repeat (first | exact Bw.refl _ | apply Bw.alloc | apply Bw.drewN | apply Bw.drew))) HN.out).mono ?_; rintro e w1 ⟨rfl, hk1⟩; have HK := hid ((HS.out.kp.bw (by repeat (first | exact Bw.refl _ | apply Bw.alloc | apply Bw.drewN | apply Bw.drew))).trans hk1); clear hk1)
          | fail)
        all_goals exact ⟨rfl, rfl, HK.out⟩

end

end Go.Proofs.YtlcieebneclmpaaDoor

