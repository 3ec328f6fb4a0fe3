/- A level that goes on from the left: contract. -/
import Derived.Test.YtlcieebneclmpaaDoorPtk
import Derived.Test.YtlcieebneclmpaaDoorPsdk
set_option linter.unusedSimpArgs false
set_option linter.unusedVariables false
namespace Go.Proofs.YtlcieebneclmpaaDoor
open Go Go.RowKit

section
variable {B : World} {r g cap : Nat} {T : List ATok} {ex : Nat → Value}

set_option maxRecDepth 100000 in
set_option maxHeartbeats 8000000 in
theorem fl1_d (pa pb pc : Nat) (f k : Nat) (hk2 : k ≠ 2) (hk3 : k ≠ 3) (hk6 : k ≠ 6) (a b c : Nat) (sv : Value) (ha : CeM B r a (.func (.func 76) #[] #[.pointer (some ⟨pa, 0, none⟩), .pointer (some ⟨pb, 0, none⟩), .pointer (some ⟨pc, 0, none⟩)])) (hb : CeM B r b (.pointer (some ⟨r, 0, none⟩))) (hcc : CeM B r c sv) (hsg : SgM B r sv (sgl k)) (hc : ∀ f', f' ≤ f → RdP B r g cap T ex f' 76 #[.pointer (some ⟨pa, 0, none⟩), .pointer (some ⟨pb, 0, none⟩), .pointer (some ⟨pc, 0, none⟩)] (.lev (k + 1))) :
    RdP B r g cap T ex (f + 1) 69 #[.pointer (some ⟨a, 0, none⟩), .pointer (some ⟨b, 0, none⟩), .pointer (some ⟨c, 0, none⟩)] (.lev k) := by
  intro w i o h ho hne
  have e : pP T (f + 1) (.lev k) i o = (pP T f (.lev (k + 1)) i o).bind fun x _ i => pP T f (.more k x) i o := by
    simp only [pP]
    rw [if_neg hk2, if_neg hk3, if_neg hk6]
  rw [e] at hne ⊢
  have HNE := hid (show pP T f (.lev (k + 1)) i o ≠ .out from fun q => hne (by rw [q]; rfl))
  have HS := hid (SI.begin h)
  have HC := hid hc
  have HA := hid ha
  have HB := hid hb
  have HCC := hid hcc
  have HSG := hid hsg
  obtain ⟨ss, sc, hsv, _⟩ := hsg
  subst hsv
  obtain ⟨_, al, ca⟩ := HA.out.kp HS.out.ri.kb; obtain ⟨_, bl, cb⟩ := HB.out.kp HS.out.ri.kb; obtain ⟨_, cl, cc⟩ := HCC.out.kp HS.out.ri.kb
  clear h hc ha hb hcc e
  generalize hq : pP T f (.lev (k + 1)) i o = R0 at hne ⊢
  have HQ := hid hq
  clear hq
  cases R0 with
  | out => exact absurd HQ.out HNE.out
  | bad n m =>
    simp only [Res.bind]
    go_enter Tryd.func69, Tryd.ntmps69
    go_wp2_with (first
      | (go_at_call 76; refine (HC.out _ (Nat.le_refl _) _ _ _ (HS.out.ri.bw (by repeat (first | exact Bw.refl _ | apply Bw.alloc | apply Bw.drewN | apply Bw.drew))) ho HNE.out).mono ?_; intro e w2 h2; rw [HQ.out] at h2; obtain ⟨rfl, hk2⟩ := h2; have HK := hid ((HS.out.kp.bw (by repeat (first | exact Bw.refl _ | apply Bw.alloc | apply Bw.drewN | apply Bw.drew))).trans hk2); clear hk2)
      | fail)
    all_goals exact ⟨rfl, rfl, HK.out⟩
  | ok x1 c1 i1 =>
    simp only [Res.bind] at hne ⊢
    generalize hr : pP T f (.more k x1) i1 o = R at hne ⊢
    have HR := hid hr
    have HNR := hid hne
    clear hr hne
    go_enter Tryd.func69, Tryd.ntmps69
    go_wp2_with (first
      | (go_at_call 76; refine (HC.out _ (Nat.le_refl _) _ _ _ (HS.out.ri.bw (by repeat (first | exact Bw.refl _ | apply Bw.alloc | apply Bw.drewN | apply Bw.drew))) ho HNE.out).mono ?_; intro e w2 h2; rw [HQ.out] at h2; obtain ⟨b2, rfl, hp2, hr2, hk2⟩ := h2; have HS := hid ((HS.out.bw (by repeat (first | exact Bw.refl _ | apply Bw.alloc | apply Bw.drewN | apply Bw.drew))).add hr2 hk2 hp2); obtain ⟨_, al, ca⟩ := HA.out.kp HS.out.ri.kb; obtain ⟨_, bl, cb⟩ := HB.out.kp HS.out.ri.kb; obtain ⟨_, cl, cc⟩ := HCC.out.kp HS.out.ri.kb; clear hp2 hr2 hk2)
      | fail)
    go_loopw [4] (fun v wr => ∃ f' x b' i', f' ≤ f ∧ v = .pointer (some ⟨b', 0, none⟩) ∧ pP T f' (.more k x) i' o = R ∧ SI B w No wr r g cap T ex i' o [(x, b')]) (fun _ wr => T.length - nxt wr r)
    case atStart => exact ⟨f, x1, b2, i1, Nat.le_refl _, rfl, HR.out, HS.out⟩
    case round =>
      clear HS HR HQ HNE
      clear ca cb cc al bl cl
      obtain ⟨f', x, b', i', hf, rfl, hr, hs⟩ := hrel
      rename World => wr
      have HS := hid hs
      obtain ⟨_, al, ca⟩ := HA.out.kp HS.out.ri.kb; obtain ⟨_, bl, cb⟩ := HB.out.kp HS.out.ri.kb; obtain ⟨_, cl, cc⟩ := HCC.out.kp HS.out.ri.kb
      cases f' with
      | zero => exact absurd hr.symm HNR.out
      | succ f' =>
      have hnx : nxt wr r = i' := hs.ri.nx
      have hil := hs.ri.lt
      rw [hnx]
      clear hs
      simp only [pP] at hr
      cases ho1 : isO T i' (sgl k)
      · rw [ho1, if_neg (by decide)] at hr
        have HO := hid ho1
        clear ho1
        subst hr
        go_wp2_with (first
          | (go_at_call 70; refine (isOne_any _ _ (HS.out.ri.bw (by repeat (first | exact Bw.refl _ | apply Bw.alloc | apply Bw.drewN | apply Bw.drew))) (HSG.out.kp (HS.out.ri.kb.bw (by repeat (first | exact Bw.refl _ | apply Bw.alloc | apply Bw.drewN | apply Bw.drew))))).mono ?_; rintro e w3 ⟨rfl, hb3⟩; rw [HO.out]; have HS := hid (HS.out.bw (Bw.trans (by repeat (first | exact Bw.refl _ | apply Bw.alloc | apply Bw.drewN | apply Bw.drew)) hb3)); obtain ⟨_, al, ca⟩ := HA.out.kp HS.out.ri.kb; obtain ⟨_, bl, cb⟩ := HB.out.kp HS.out.ri.kb; obtain ⟨_, cl, cc⟩ := HCC.out.kp HS.out.ri.kb; clear hb3)
          | fail)
        all_goals go_ret
        all_goals exact ⟨_, rfl, HS.out.outp (by simp)⟩
      · have HN := hid (isO_ne ho1)
        rw [ho1, if_pos rfl] at hr
        have HO := hid ho1
        clear ho1
        have HNE := hid (show pP T f' (.lev (k + 1)) (i' + 1) o ≠ .out from fun q => HNR.out (by rw [← hr, q]; rfl))
        generalize hq : pP T f' (.lev (k + 1)) (i' + 1) o = R1 at hr
        have HQ := hid hq
        clear hq
        cases R1 with
        | out => exact absurd HQ.out HNE.out
        | bad n m =>
          simp only [Res.bind] at hr
          subst hr
          go_wp2_with (first
            | (go_at_call 70; refine (isOne_any _ _ (HS.out.ri.bw (by repeat (first | exact Bw.refl _ | apply Bw.alloc | apply Bw.drewN | apply Bw.drew))) (HSG.out.kp (HS.out.ri.kb.bw (by repeat (first | exact Bw.refl _ | apply Bw.alloc | apply Bw.drewN | apply Bw.drew))))).mono ?_; rintro e w3 ⟨rfl, hb3⟩; rw [HO.out]; have HS := hid (HS.out.bw (Bw.trans (by repeat (first | exact Bw.refl _ | apply Bw.alloc | apply Bw.drewN | apply Bw.drew)) hb3)); obtain ⟨_, al, ca⟩ := HA.out.kp HS.out.ri.kb; obtain ⟨_, bl, cb⟩ := HB.out.kp HS.out.ri.kb; obtain ⟨_, cl, cc⟩ := HCC.out.kp HS.out.ri.kb; clear hb3)
            | (go_at_call 71; refine (joined_d pa pb pc f' (k + 1) (HC.out f' (by omega)) (HS.out.ri.bw (by repeat (first | exact Bw.refl _ | apply Bw.alloc | apply Bw.drewN | apply Bw.drew))) ho HN.out x b' (HS.out.ps (x, b') (by simp)) (fun n hn => ⟨(HS.out.ne hn).2, (HS.out.ne hn).1⟩) HNE.out).mono ?_; intro e w4 h4; rw [HQ.out] at h4; obtain ⟨rfl, hk4⟩ := h4; have HK := hid ((HS.out.kp.bw (by repeat (first | exact Bw.refl _ | apply Bw.alloc | apply Bw.drewN | apply Bw.drew))).trans hk4); clear hk4)
            | fail)
          all_goals exact ⟨rfl, rfl, HK.out⟩
        | ok y c' j =>
          simp only [Res.bind] at hr
          have HR := hid hr
          have hj := pP_le HQ.out
          clear hr
          go_wp2_with (first
            | (go_at_call 70; refine (isOne_any _ _ (HS.out.ri.bw (by repeat (first | exact Bw.refl _ | apply Bw.alloc | apply Bw.drewN | apply Bw.drew))) (HSG.out.kp (HS.out.ri.kb.bw (by repeat (first | exact Bw.refl _ | apply Bw.alloc | apply Bw.drewN | apply Bw.drew))))).mono ?_; rintro e w3 ⟨rfl, hb3⟩; rw [HO.out]; have HS := hid (HS.out.bw (Bw.trans (by repeat (first | exact Bw.refl _ | apply Bw.alloc | apply Bw.drewN | apply Bw.drew)) hb3)); obtain ⟨_, al, ca⟩ := HA.out.kp HS.out.ri.kb; obtain ⟨_, bl, cb⟩ := HB.out.kp HS.out.ri.kb; obtain ⟨_, cl, cc⟩ := HCC.out.kp HS.out.ri.kb; clear hb3)
            | (go_at_call 71; refine (joined_d pa pb pc f' (k + 1) (HC.out f' (by omega)) (HS.out.ri.bw (by repeat (first | exact Bw.refl _ | apply Bw.alloc | apply Bw.drewN | apply Bw.drew))) ho HN.out x b' (HS.out.ps (x, b') (by simp)) (fun n hn => ⟨(HS.out.ne hn).2, (HS.out.ne hn).1⟩) HNE.out).mono ?_; intro e w4 h4; rw [HQ.out] at h4; obtain ⟨b4, rfl, hp4, hr4, hk4⟩ := h4; have HS := hid (HS.out.turn hr4 hk4 hp4); clear hp4 hr4 hk4)
            | fail)
          go_roundw
          case rel => exact ⟨f', _, b4, j, by omega, rfl, HR.out, HS.out⟩
          case measure =>
            have h1 := HS.out.ri.nx
            have h2 := HS.out.ri.lt
            rw [h1]
            omega

end

end Go.Proofs.YtlcieebneclmpaaDoor

