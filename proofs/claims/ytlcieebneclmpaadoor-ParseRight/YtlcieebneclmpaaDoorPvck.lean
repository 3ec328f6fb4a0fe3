/- The levels of comparisons and of not: contracts. -/
import Derived.Test.YtlcieebneclmpaaDoorPtk
import Derived.Test.YtlcieebneclmpaaDoorPslk
import Derived.Test.YtlcieebneclmpaaDoorK9
set_option linter.unusedSimpArgs false
set_option linter.unusedVariables false
namespace Go.Proofs.YtlcieebneclmpaaDoor
open Go Go.RowKit

section
variable {B : World} {r g cap : Nat} {T : List ATok} {ex : Nat → Value}

set_option maxRecDepth 100000 in
set_option maxHeartbeats 8000000 in
theorem cm1_l (pa pb pc : Nat) (f : Nat) (a b c : Nat) (sv : Value) (ha : CeM B r a (.func (.func 69) #[] #[.pointer (some ⟨pa, 0, none⟩), .pointer (some ⟨pb, 0, none⟩), .pointer (some ⟨pc, 0, none⟩)])) (hb : CeM B r b (.pointer (some ⟨r, 0, none⟩))) (hcc : CeM B r c sv) (hsg : SgM B r sv (sgl 3)) (hc : ∀ f', f' ≤ f → RdP B r g cap T ex f' 69 #[.pointer (some ⟨pa, 0, none⟩), .pointer (some ⟨pb, 0, none⟩), .pointer (some ⟨pc, 0, none⟩)] (.lev 4)) :
    RdP B r g cap T ex (f + 1) 75 #[.pointer (some ⟨a, 0, none⟩), .pointer (some ⟨b, 0, none⟩), .pointer (some ⟨c, 0, none⟩)] (.lev 3) := by
  intro w i o h ho hne
  have e : pP T (f + 1) (.lev 3) i o = (pP T f (.lev 4) i o).bind fun x _ i => if isO T i (sgl 3) then (pP T f (.lev 4) (i + 1) o).bind fun y _ j => .ok (jn (tk T i) x y) false j else .ok x false i := by
    simp only [pP]
    rfl
  rw [e] at hne ⊢
  have HNE := hid (show pP T f (.lev 4) i o ≠ .out from fun q => hne (by rw [q]; rfl))
  have HS := hid (SI.begin h)
  have HC := hid hc
  have HA := hid ha
  have HB := hid hb
  have HCC := hid hcc
  have HSG := hid hsg
  obtain ⟨ss, sc, hsv, _⟩ := hsg
  subst hsv
  obtain ⟨_, al, ca⟩ := HA.out.kp HS.out.ri.kb; obtain ⟨_, bl, cb⟩ := HB.out.kp HS.out.ri.kb; obtain ⟨_, cl, cc⟩ := HCC.out.kp HS.out.ri.kb
  clear h hc ha hb hcc e
  generalize hq : pP T f (.lev 4) i o = R0 at hne ⊢
  have HQ := hid hq
  clear hq
  cases R0 with
  | out => exact absurd HQ.out HNE.out
  | bad n m =>
    simp only [Res.bind]
    go_enter Tryd.func75, Tryd.ntmps75
    go_wp2_with (first
      | (go_at_call 69; refine (HC.out _ (Nat.le_refl _) _ _ _ (HS.out.ri.bw (by repeat (first | exact Bw.refl _ | apply Bw.alloc | apply Bw.drewN | apply Bw.drew))) ho HNE.out).mono ?_; intro e w2 h2; rw [HQ.out] at h2; obtain ⟨rfl, hk2⟩ := h2; have HK := hid ((HS.out.kp.bw (by repeat (first | exact Bw.refl _ | apply Bw.alloc | apply Bw.drewN | apply Bw.drew))).trans hk2); clear hk2)
      | fail)
    all_goals exact ⟨rfl, rfl, HK.out⟩
  | ok x1 c1 i1 =>
    simp only [Res.bind] at hne ⊢
    cases ho1 : isO T i1 (sgl 3)
    · rw [if_neg (by decide)]
      have HO := hid ho1
      clear ho1 hne
      go_enter Tryd.func75, Tryd.ntmps75
      go_wp2_with (first
        | (go_at_call 69; refine (HC.out _ (Nat.le_refl _) _ _ _ (HS.out.ri.bw (by repeat (first | exact Bw.refl _ | apply Bw.alloc | apply Bw.drewN | apply Bw.drew))) ho HNE.out).mono ?_; intro e w2 h2; rw [HQ.out] at h2; obtain ⟨b2, rfl, hp2, hr2, hk2⟩ := h2; have HS := hid ((HS.out.bw (by repeat (first | exact Bw.refl _ | apply Bw.alloc | apply Bw.drewN | apply Bw.drew))).add hr2 hk2 hp2); obtain ⟨_, al, ca⟩ := HA.out.kp HS.out.ri.kb; obtain ⟨_, bl, cb⟩ := HB.out.kp HS.out.ri.kb; obtain ⟨_, cl, cc⟩ := HCC.out.kp HS.out.ri.kb; clear hp2 hr2 hk2)
        | (go_at_call 70; refine (isOne_any _ _ (HS.out.ri.bw (by repeat (first | exact Bw.refl _ | apply Bw.alloc | apply Bw.drewN | apply Bw.drew))) (HSG.out.kp (HS.out.ri.kb.bw (by repeat (first | exact Bw.refl _ | apply Bw.alloc | apply Bw.drewN | apply Bw.drew))))).mono ?_; rintro e w3 ⟨rfl, hb3⟩; rw [HO.out]; have HS := hid (HS.out.bw (Bw.trans (by repeat (first | exact Bw.refl _ | apply Bw.alloc | apply Bw.drewN | apply Bw.drew)) hb3)); obtain ⟨_, al, ca⟩ := HA.out.kp HS.out.ri.kb; obtain ⟨_, bl, cb⟩ := HB.out.kp HS.out.ri.kb; obtain ⟨_, cl, cc⟩ := HCC.out.kp HS.out.ri.kb; clear hb3)
        | fail)
      all_goals go_ret
      all_goals exact ⟨_, rfl, HS.out.outp (by simp)⟩
    · have HN := hid (isO_ne ho1)
      rw [ho1, if_pos rfl] at hne
      rw [if_pos rfl]
      have HO := hid ho1
      clear ho1
      have HNE2 := hid (show pP T f (.lev 4) (i1 + 1) o ≠ .out from fun q => hne (by rw [q]))
      clear hne
      generalize hq : pP T f (.lev 4) (i1 + 1) o = R1
      have HQ2 := hid hq
      clear hq
      cases R1 with
      | out => exact absurd HQ2.out HNE2.out
      | bad n m =>
        go_enter Tryd.func75, Tryd.ntmps75
        go_wp2_with (first
          | (go_at_call 69; refine (HC.out _ (Nat.le_refl _) _ _ _ (HS.out.ri.bw (by repeat (first | exact Bw.refl _ | apply Bw.alloc | apply Bw.drewN | apply Bw.drew))) ho HNE.out).mono ?_; intro e w2 h2; rw [HQ.out] at h2; obtain ⟨b2, rfl, hp2, hr2, hk2⟩ := h2; have HS := hid ((HS.out.bw (by repeat (first | exact Bw.refl _ | apply Bw.alloc | apply Bw.drewN | apply Bw.drew))).add hr2 hk2 hp2); obtain ⟨_, al, ca⟩ := HA.out.kp HS.out.ri.kb; obtain ⟨_, bl, cb⟩ := HB.out.kp HS.out.ri.kb; obtain ⟨_, cl, cc⟩ := HCC.out.kp HS.out.ri.kb; clear hp2 hr2 hk2)
          | (go_at_call 70; refine (isOne_any _ _ (HS.out.ri.bw (by repeat (first | exact Bw.refl _ | apply Bw.alloc | apply Bw.drewN | apply Bw.drew))) (HSG.out.kp (HS.out.ri.kb.bw (by repeat (first | exact Bw.refl _ | apply Bw.alloc | apply Bw.drewN | apply Bw.drew))))).mono ?_; rintro e w3 ⟨rfl, hb3⟩; rw [HO.out]; have HS := hid (HS.out.bw (Bw.trans (by repeat (first | exact Bw.refl _ | apply Bw.alloc | apply Bw.drewN | apply Bw.drew)) hb3)); obtain ⟨_, al, ca⟩ := HA.out.kp HS.out.ri.kb; obtain ⟨_, bl, cb⟩ := HB.out.kp HS.out.ri.kb; obtain ⟨_, cl, cc⟩ := HCC.out.kp HS.out.ri.kb; clear hb3)
          | (go_at_call 71; refine (joined_l pa pb pc f 4 (HC.out f (Nat.le_refl _)) (HS.out.ri.bw (by repeat (first | exact Bw.refl _ | apply Bw.alloc | apply Bw.drewN | apply Bw.drew))) ho HN.out x1 b2 (HS.out.ps (x1, b2) (by simp)) (fun n hn => ⟨(HS.out.ne hn).2, (HS.out.ne hn).1⟩) HNE2.out).mono ?_; intro e w4 h4; rw [HQ2.out] at h4; obtain ⟨rfl, hk4⟩ := h4; have HK := hid ((HS.out.kp.bw (by repeat (first | exact Bw.refl _ | apply Bw.alloc | apply Bw.drewN | apply Bw.drew))).trans hk4); clear hk4)
          | fail)
        all_goals exact ⟨rfl, rfl, HK.out⟩
      | ok y c' j =>
        go_enter Tryd.func75, Tryd.ntmps75
        go_wp2_with (first
          | (go_at_call 69; refine (HC.out _ (Nat.le_refl _) _ _ _ (HS.out.ri.bw (by repeat (first | exact Bw.refl _ | apply Bw.alloc | apply Bw.drewN | apply Bw.drew))) ho HNE.out).mono ?_; intro e w2 h2; rw [HQ.out] at h2; obtain ⟨b2, rfl, hp2, hr2, hk2⟩ := h2; have HS := hid ((HS.out.bw (by repeat (first | exact Bw.refl _ | apply Bw.alloc | apply Bw.drewN | apply Bw.drew))).add hr2 hk2 hp2); obtain ⟨_, al, ca⟩ := HA.out.kp HS.out.ri.kb; obtain ⟨_, bl, cb⟩ := HB.out.kp HS.out.ri.kb; obtain ⟨_, cl, cc⟩ := HCC.out.kp HS.out.ri.kb; clear hp2 hr2 hk2)
          | (go_at_call 70; refine (isOne_any _ _ (HS.out.ri.bw (by repeat (first | exact Bw.refl _ | apply Bw.alloc | apply Bw.drewN | apply Bw.drew))) (HSG.out.kp (HS.out.ri.kb.bw (by repeat (first | exact Bw.refl _ | apply Bw.alloc | apply Bw.drewN | apply Bw.drew))))).mono ?_; rintro e w3 ⟨rfl, hb3⟩; rw [HO.out]; have HS := hid (HS.out.bw (Bw.trans (by repeat (first | exact Bw.refl _ | apply Bw.alloc | apply Bw.drewN | apply Bw.drew)) hb3)); obtain ⟨_, al, ca⟩ := HA.out.kp HS.out.ri.kb; obtain ⟨_, bl, cb⟩ := HB.out.kp HS.out.ri.kb; obtain ⟨_, cl, cc⟩ := HCC.out.kp HS.out.ri.kb; clear hb3)
          | (go_at_call 71; refine (joined_l pa pb pc f 4 (HC.out f (Nat.le_refl _)) (HS.out.ri.bw (by repeat (first | exact Bw.refl _ | apply Bw.alloc | apply Bw.drewN | apply Bw.drew))) ho HN.out x1 b2 (HS.out.ps (x1, b2) (by simp)) (fun n hn => ⟨(HS.out.ne hn).2, (HS.out.ne hn).1⟩) HNE2.out).mono ?_; intro e w4 h4; rw [HQ2.out] at h4; obtain ⟨b4, rfl, hp4, hr4, hk4⟩ := h4; have HS := hid (HS.out.turn hr4 hk4 hp4); clear hp4 hr4 hk4)
          | fail)
        all_goals go_ret
        all_goals exact ⟨_, rfl, HS.out.outp (by simp)⟩

set_option maxRecDepth 100000 in
set_option maxHeartbeats 8000000 in
theorem dn1_any (qa qb qc : Nat) (f : Nat) (a b c : Nat) (ha : CeM B r a (.pointer (some ⟨r, 0, none⟩))) (hb : CeM B r b (.func (.func 75) #[] #[.pointer (some ⟨qa, 0, none⟩), .pointer (some ⟨qb, 0, none⟩), .pointer (some ⟨qc, 0, none⟩)])) (hcc : CeM B r c (.func (.func 76) #[] #[.pointer (some ⟨a, 0, none⟩), .pointer (some ⟨b, 0, none⟩), .pointer (some ⟨c, 0, none⟩)]))
    (h3 : RdP B r g cap T ex f 75 #[.pointer (some ⟨qa, 0, none⟩), .pointer (some ⟨qb, 0, none⟩), .pointer (some ⟨qc, 0, none⟩)] (.lev 3)) (h2 : RdP B r g cap T ex f 76 #[.pointer (some ⟨a, 0, none⟩), .pointer (some ⟨b, 0, none⟩), .pointer (some ⟨c, 0, none⟩)] (.lev 2)) :
    RdP B r g cap T ex (f + 1) 76 #[.pointer (some ⟨a, 0, none⟩), .pointer (some ⟨b, 0, none⟩), .pointer (some ⟨c, 0, none⟩)] (.lev 2) := by
  intro w i o h ho hne
  have e : pP T (f + 1) (.lev 2) i o = if isT T i ⟨#[110, 111, 116]⟩ then entr T ⟨#[110, 111, 116]⟩ i o fun j o => (pP T f (.lev 2) j o).bind fun x _ j => .ok (.mk 26 [] 0 (tk T i).2.2.2 [x]) false j
       else pP T f (.lev 3) i o := by
    simp only [pP]
    rfl
  rw [e] at hne ⊢
  have HS := hid (SI.begin h)
  have HA := hid ha
  have HB := hid hb
  have HCC := hid hcc
  have H3 := hid h3
  have H2 := hid h2
  obtain ⟨_, al, ca⟩ := HA.out.kp HS.out.ri.kb; obtain ⟨_, bl, cb⟩ := HB.out.kp HS.out.ri.kb; obtain ⟨_, cl, cc⟩ := HCC.out.kp HS.out.ri.kb
  clear h ha hb hcc e h2 h3
  cases ho1 : isT T i ⟨#[110, 111, 116]⟩
  · rw [ho1, if_neg (by decide)] at hne
    rw [if_neg (by decide)]
    have HO := hid ho1
    have HNE := hid hne
    clear ho1 hne
    generalize hq : pP T f (.lev 3) i o = R0
    have HQ := hid hq
    clear hq
    cases R0 with
    | out => exact absurd HQ.out HNE.out
    | bad n m =>
      go_enter Tryd.func76, Tryd.ntmps76
      go_wp2_with (first
        | (go_at_call 58; refine (is_any _ (HS.out.ri.bw (by repeat (first | exact Bw.refl _ | apply Bw.alloc | apply Bw.drewN | apply Bw.drew)))).mono ?_; rintro e w3 ⟨rfl, hb3⟩; rw [HO.out]; have HS := hid (HS.out.bw (Bw.trans (by repeat (first | exact Bw.refl _ | apply Bw.alloc | apply Bw.drewN | apply Bw.drew)) hb3)); obtain ⟨_, al, ca⟩ := HA.out.kp HS.out.ri.kb; obtain ⟨_, bl, cb⟩ := HB.out.kp HS.out.ri.kb; obtain ⟨_, cl, cc⟩ := HCC.out.kp HS.out.ri.kb; clear hb3)
        | (go_at_call 75; refine (H3.out _ _ _ (HS.out.ri.bw (by repeat (first | exact Bw.refl _ | apply Bw.alloc | apply Bw.drewN | apply Bw.drew))) ho HNE.out).mono ?_; intro e w2 h2; rw [HQ.out] at h2; obtain ⟨rfl, hk2⟩ := h2; have HK := hid ((HS.out.kp.bw (by repeat (first | exact Bw.refl _ | apply Bw.alloc | apply Bw.drewN | apply Bw.drew))).trans hk2); clear hk2)
        | fail)
      all_goals exact ⟨rfl, rfl, HK.out⟩
    | ok x1 c1 i1 =>
      go_enter Tryd.func76, Tryd.ntmps76
      go_wp2_with (first
        | (go_at_call 58; refine (is_any _ (HS.out.ri.bw (by repeat (first | exact Bw.refl _ | apply Bw.alloc | apply Bw.drewN | apply Bw.drew)))).mono ?_; rintro e w3 ⟨rfl, hb3⟩; rw [HO.out]; have HS := hid (HS.out.bw (Bw.trans (by repeat (first | exact Bw.refl _ | apply Bw.alloc | apply Bw.drewN | apply Bw.drew)) hb3)); obtain ⟨_, al, ca⟩ := HA.out.kp HS.out.ri.kb; obtain ⟨_, bl, cb⟩ := HB.out.kp HS.out.ri.kb; obtain ⟨_, cl, cc⟩ := HCC.out.kp HS.out.ri.kb; clear hb3)
        | (go_at_call 75; refine (H3.out _ _ _ (HS.out.ri.bw (by repeat (first | exact Bw.refl _ | apply Bw.alloc | apply Bw.drewN | apply Bw.drew))) ho HNE.out).mono ?_; intro e w2 h2; rw [HQ.out] at h2; obtain ⟨b2, rfl, hp2, hr2, hk2⟩ := h2; have HS := hid ((HS.out.bw (by repeat (first | exact Bw.refl _ | apply Bw.alloc | apply Bw.drewN | apply Bw.drew))).add hr2 hk2 hp2); clear hp2 hr2 hk2)
        | fail)
      all_goals go_ret
      all_goals exact ⟨_, rfl, HS.out.outp (by simp)⟩
  · rw [ho1, if_pos rfl] at hne
    rw [if_pos rfl]
    have HO := hid ho1
    have HNE := hid hne
    clear ho1 hne
    generalize hq : (entr T ⟨#[110, 111, 116]⟩ i o fun j o => (pP T f (.lev 2) j o).bind fun x _ j => .ok (.mk 26 [] 0 (tk T i).2.2.2 [x]) false j) = R0
    have HQ := hid hq
    clear hq
    cases R0 with
    | out => exact absurd HQ.out HNE.out
    | bad n m =>
      go_enter Tryd.func76, Tryd.ntmps76
      go_wp2_with (first
        | (go_at_call 58; refine (is_any _ (HS.out.ri.bw (by repeat (first | exact Bw.refl _ | apply Bw.alloc | apply Bw.drewN | apply Bw.drew)))).mono ?_; rintro e w3 ⟨rfl, hb3⟩; rw [HO.out]; have HS := hid (HS.out.bw (Bw.trans (by repeat (first | exact Bw.refl _ | apply Bw.alloc | apply Bw.drewN | apply Bw.drew)) hb3)); obtain ⟨_, al, ca⟩ := HA.out.kp HS.out.ri.kb; obtain ⟨_, bl, cb⟩ := HB.out.kp HS.out.ri.kb; obtain ⟨_, cl, cc⟩ := HCC.out.kp HS.out.ri.kb; clear hb3)
        | (go_at_call 72; refine (behind_d a b c f 2 26 ⟨#[110, 111, 116]⟩ H2.out (HS.out.ri.bw (by repeat (first | exact Bw.refl _ | apply Bw.alloc | apply Bw.drewN | apply Bw.drew))) ho HO.out HNE.out).mono ?_; intro e w2 h2; rw [HQ.out] at h2; obtain ⟨rfl, hk2⟩ := h2; have HK := hid ((HS.out.kp.bw (by repeat (first | exact Bw.refl _ | apply Bw.alloc | apply Bw.drewN | apply Bw.drew))).trans hk2); clear hk2)
        | fail)
      all_goals exact ⟨rfl, rfl, HK.out⟩
    | ok x1 c1 i1 =>
      go_enter Tryd.func76, Tryd.ntmps76
      go_wp2_with (first
        | (go_at_call 58; refine (is_any _ (HS.out.ri.bw (by repeat (first | exact Bw.refl _ | apply Bw.alloc | apply Bw.drewN | apply Bw.drew)))).mono ?_; rintro e w3 ⟨rfl, hb3⟩; rw [HO.out]; have HS := hid (HS.out.bw (Bw.trans (by repeat (first | exact Bw.refl _ | apply Bw.alloc | apply Bw.drewN | apply Bw.drew)) hb3)); obtain ⟨_, al, ca⟩ := HA.out.kp HS.out.ri.kb; obtain ⟨_, bl, cb⟩ := HB.out.kp HS.out.ri.kb; obtain ⟨_, cl, cc⟩ := HCC.out.kp HS.out.ri.kb; clear hb3)
        | (go_at_call 72; refine (behind_d a b c f 2 26 ⟨#[110, 111, 116]⟩ H2.out (HS.out.ri.bw (by repeat (first | exact Bw.refl _ | apply Bw.alloc | apply Bw.drewN | apply Bw.drew))) ho HO.out HNE.out).mono ?_; intro e w2 h2; rw [HQ.out] at h2; obtain ⟨b2, rfl, hp2, hr2, hk2⟩ := h2; have HS := hid ((HS.out.bw (by repeat (first | exact Bw.refl _ | apply Bw.alloc | apply Bw.drewN | apply Bw.drew))).add hr2 hk2 hp2); clear hp2 hr2 hk2)
        | fail)
      all_goals go_ret
      all_goals exact ⟨_, rfl, HS.out.outp (by simp)⟩

end

end Go.Proofs.YtlcieebneclmpaaDoor

