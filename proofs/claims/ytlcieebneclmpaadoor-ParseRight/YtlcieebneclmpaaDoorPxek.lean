/- A row with commas between: contract. -/
import Derived.Test.YtlcieebneclmpaaDoorK8
set_option linter.unusedSimpArgs false
set_option linter.unusedVariables false
namespace Go.Proofs.YtlcieebneclmpaaDoor
open Go Go.RowKit

section
variable {B : World} {r g cap : Nat} {T : List ATok} {ex : Nat → Value}

set_option maxRecDepth 100000 in
set_option maxHeartbeats 8000000 in
theorem row_e (f : Nat) (hc : ∀ f', f' ≤ f → RdN B r g cap T ex f' 93 .ent) : RdR B r g cap T ex (f + 1) 93 .ent := by
  intro bb ee w i o h ho hne
  have e : pP T (f + 1) (.row .ent bb ee) i o = entr T bb i o fun i o => if isT T i ee then .ok (.mk 0 [] 0 0 []) false (i + 1) else (pP T f (.read .ent 0) i o).bind fun x _ i => pP T f (.rows .ent ee [x]) i o := by
    simp only [pP]
  rw [e] at hne ⊢
  have HS := hid (SI.begin h)
  have HC := hid hc
  have HR0 := hid h.k.lt
  have HBB := hid h.kb.size
  have HLL := hid h.len
  obtain ⟨i1, hi1, hz1, hs1, hy1⟩ := info_parts infoPp
  have I1 := hid (And.intro hi1 (And.intro hz1 (And.intro hs1 hy1)))
  clear h hc e hi1 hz1 hs1 hy1
  unfold entr at hne ⊢
  cases hb : isT T i bb
  · rw [if_neg (by decide)]
    have HI := hid hb
    clear hne hb
    go_enter Tryd.func88, Tryd.ntmps88
    go_wp2_with (first
      | (go_at_call 77; refine (enter_no _ (HS.out.ri.bw (by repeat (first | exact Bw.refl _ | apply Bw.alloc | apply Bw.drewN | apply Bw.drew))) HI.out ho).mono ?_; rintro e w1 ⟨rfl, hk1⟩; have HK := hid ((HS.out.kp.bw (by repeat (first | exact Bw.refl _ | apply Bw.alloc | apply Bw.drewN | apply Bw.drew))).trans hk1); clear hk1)
      | fail)
    all_goals exact ⟨rfl, rfl, HK.out⟩
  · rw [hb, if_pos rfl] at hne
    rw [if_pos rfl]
    have HI := hid hb
    clear hb
    by_cases h64 : o = 64
    · rw [if_pos h64]
      have H64 := hid h64
      clear hne h64
      go_enter Tryd.func88, Tryd.ntmps88
      go_wp2_with (first
        | (go_at_call 77; refine (enter_many _ (HS.out.ri.bw (by repeat (first | exact Bw.refl _ | apply Bw.alloc | apply Bw.drewN | apply Bw.drew))) HI.out H64.out).mono ?_; rintro e w1 ⟨rfl, hk1⟩; have HK := hid ((HS.out.kp.bw (by repeat (first | exact Bw.refl _ | apply Bw.alloc | apply Bw.drewN | apply Bw.drew))).trans hk1); clear hk1)
        | fail)
      all_goals exact ⟨rfl, rfl, HK.out⟩
    · rw [if_neg h64] at hne ⊢
      dsimp only at hne ⊢
      have hlt : o < 64 := by omega
      have H64 := hid hlt
      clear h64 hlt
      cases he : isT T (i + 1) ee
      · rw [he, if_neg (by decide)] at hne
        rw [if_neg (by decide)]
        have HO := hid he
        clear he
        have HNE := hid (show pP T f (.read .ent 0) (i + 1) (o + 1) ≠ .out from fun q => hne (by rw [q]; rfl))
        have HF := hid (Nat.le_refl f)
        generalize hq : pP T f (.read .ent 0) (i + 1) (o + 1) = R0 at hne ⊢
        have HQ := hid hq
        clear hq
        cases R0 with
        | out => exact absurd HQ.out HNE.out
        | bad n m =>
          simp only [Res.bind]
          clear hne
          go_enter Tryd.func88, Tryd.ntmps88
          go_wp2_with (first
            | (go_at_call 77; refine (enter_yes _ (HS.out.ri.bw (by repeat (first | exact Bw.refl _ | apply Bw.alloc | apply Bw.drewN | apply Bw.drew))) HI.out H64.out).mono ?_; rintro e w1 ⟨rfl, hr1, hk1⟩; have HS := hid ((HS.out.bw (by repeat (first | exact Bw.refl _ | apply Bw.alloc | apply Bw.drewN | apply Bw.drew))).go hr1 hk1); have HW := hid (RwI.nil w w1); clear hr1 hk1)
            | (go_at_call 58; refine (is_any _ (HS.out.ri.bw (by repeat (first | exact Bw.refl _ | apply Bw.alloc | apply Bw.drewN | apply Bw.drew)))).mono ?_; rintro e w3 ⟨rfl, hb3⟩; rw [HO.out]; have HS := hid (HS.out.bw (Bw.trans (by repeat (first | exact Bw.refl _ | apply Bw.alloc | apply Bw.drewN | apply Bw.drew)) hb3)); have HW := hid (HW.out.bw (Bw.trans (by repeat (first | exact Bw.refl _ | apply Bw.alloc | apply Bw.drewN | apply Bw.drew)) hb3)); clear hb3)
            | (go_at_call 93; refine (HC.out _ HF.out 0 _ _ _ (HS.out.ri.bw (by repeat (first | exact Bw.refl _ | apply Bw.alloc | apply Bw.drewN | apply Bw.drew))) (Nat.succ_le_of_lt H64.out) HNE.out).mono ?_; intro e w2 h2; rw [HQ.out] at h2; obtain ⟨rfl, hk2⟩ := h2; have HK := hid ((HS.out.kp.bw (by repeat (first | exact Bw.refl _ | apply Bw.alloc | apply Bw.drewN | apply Bw.drew))).trans hk2); clear hk2)
            | fail)
          all_goals exact ⟨rfl, rfl, HK.out⟩
        | ok x1 c1 i1' =>
          simp only [Res.bind] at hne ⊢
          generalize hr : pP T f (.rows .ent ee [x1]) i1' (o + 1) = R at hne ⊢
          have HR := hid hr
          have HNR := hid hne
          have hle := pP_le HQ.out
          clear hr hne
          go_enter Tryd.func88, Tryd.ntmps88
          go_upto_region 4 with (first
            | (go_at_call 77; refine (enter_yes _ (HS.out.ri.bw (by repeat (first | exact Bw.refl _ | apply Bw.alloc | apply Bw.drewN | apply Bw.drew))) HI.out H64.out).mono ?_; rintro e w1 ⟨rfl, hr1, hk1⟩; have HS := hid ((HS.out.bw (by repeat (first | exact Bw.refl _ | apply Bw.alloc | apply Bw.drewN | apply Bw.drew))).go hr1 hk1); have HW := hid (RwI.nil w w1); clear hr1 hk1)
            | (go_at_call 58; refine (is_any _ (HS.out.ri.bw (by repeat (first | exact Bw.refl _ | apply Bw.alloc | apply Bw.drewN | apply Bw.drew)))).mono ?_; rintro e w3 ⟨rfl, hb3⟩; rw [HO.out]; have HS := hid (HS.out.bw (Bw.trans (by repeat (first | exact Bw.refl _ | apply Bw.alloc | apply Bw.drewN | apply Bw.drew)) hb3)); have HW := hid (HW.out.bw (Bw.trans (by repeat (first | exact Bw.refl _ | apply Bw.alloc | apply Bw.drewN | apply Bw.drew)) hb3)); clear hb3)
            | fail)
          obtain ⟨v0, hv0⟩ : ∃ v0, v0 = Value.slice none 0 0 := ⟨_, rfl⟩
          rw [← hv0] at HW ⊢
          clear hv0
          go_wp2_with (first
            | (go_at_call 93; refine (HC.out _ HF.out 0 _ _ _ (HS.out.ri.bw (by repeat (first | exact Bw.refl _ | apply Bw.alloc | apply Bw.drewN | apply Bw.drew))) (Nat.succ_le_of_lt H64.out) HNE.out).mono ?_; intro e w2 h2; rw [HQ.out] at h2; obtain ⟨b2, rfl, hp2, hr2, hk2⟩ := h2; obtain ⟨bs, ho2, hbk, hpush⟩ := (HW.out.bw (by repeat (first | exact Bw.refl _ | apply Bw.alloc | apply Bw.drewN | apply Bw.drew))).app (HS.out.kp.bw (by repeat (first | exact Bw.refl _ | apply Bw.alloc | apply Bw.drewN | apply Bw.drew))).size hk2 HR0.out hp2; have HO2 := hid ho2; have HPU := hid hpush; have HBK := hid hbk; have HS := hid ((HS.out.bw (by repeat (first | exact Bw.refl _ | apply Bw.alloc | apply Bw.drewN | apply Bw.drew))).go hr2 hk2); clear hp2 hr2 hk2 ho2 hpush hbk)
            | (at_builtin; refine wpList_append_row _ rfl _ _ 81 rfl 57 i1 _ 1 8 underPps I1.out.1 I1.out.2.1 I1.out.2.2.1 I1.out.2.2.2 rfl (by decide) v0 0 _ rfl HO2.out ⟨w2.heap.size, 0, none⟩ 1 1 [.pointer (some ⟨b2, 0, none⟩)] rfl rfl (one_new w2 _ _) (by intro u hu; rw [List.mem_singleton] at hu; subst hu; rfl) (by unfold maxLen; omega) (by omega) ?_; intro v4 w4 ho4 hg4 hv4; have HW := hid (HPU.out v4 w4 ho4 hg4 hv4); have HS := hid ((HS.out.bw (Bw.alloc (Bw.refl w2) _)).grown HBB.out hg4 HBK.out); obtain ⟨a4, c4, e4⟩ := own_form ho4; subst e4; clear ho4 hg4 hv4)
            | fail)
          go_loopw [9] (fun v wr => ∃ f' acc i' av cv, v = .slice av acc.length cv ∧ f' ≤ f ∧ pP T f' (.rows .ent ee acc) i' (o + 1) = R ∧ SI B w No wr r g cap T ex i' (o + 1) [] ∧ RwI w wr v acc ∧ acc.length ≤ i') (fun _ wr => T.length - nxt wr r)
          case atStart => exact ⟨f, [x1], i1', _, _, rfl, Nat.le_refl _, HR.out, HS.out, HW.out, by simp; omega⟩
          case round =>
            clear HS HR HQ HNE HW HO2 HPU HBK HO HF
            obtain ⟨f', acc, i', av, cv, rfl, hf, hr, hs, hw, hla⟩ := hrel
            rename World => wr
            have HS := hid hs
            have HW := hid hw
            cases f' with
            | zero => exact absurd hr.symm HNR.out
            | succ f' =>
            have hnx : nxt wr r = i' := hs.ri.nx
            have hil := hs.ri.lt
            have hll := HLL.out
            have HF := hid (show f' ≤ f by omega)
            rw [hnx]
            clear hs hw
            simp only [pP] at hr
            cases ho1 : isT T i' ⟨#[44]⟩
            · rw [ho1, if_neg (by decide)] at hr
              have HO := hid ho1
              clear ho1
              unfold want at hr
              cases he1 : isT T i' ee
              · rw [he1, if_neg (by decide)] at hr
                have HE := hid he1
                clear he1
                unfold here at hr
                subst hr
                go_wp2_with (first
                  | (go_at_call 58; refine (is_any _ (HS.out.ri.bw (by repeat (first | exact Bw.refl _ | apply Bw.alloc | apply Bw.drewN | apply Bw.drew)))).mono ?_; rintro e w3 ⟨rfl, hb3⟩; rw [HO.out]; have HS := hid (HS.out.bw (Bw.trans (by repeat (first | exact Bw.refl _ | apply Bw.alloc | apply Bw.drewN | apply Bw.drew)) hb3)); have HW := hid (HW.out.bw (Bw.trans (by repeat (first | exact Bw.refl _ | apply Bw.alloc | apply Bw.drewN | apply Bw.drew)) hb3)); clear hb3)
                  | (go_at_call 78; refine (leave_no _ (HS.out.ri.bw (by repeat (first | exact Bw.refl _ | apply Bw.alloc | apply Bw.drewN | apply Bw.drew))) HE.out).mono ?_; rintro e w5 ⟨rfl, hk5⟩; have HK := hid ((HS.out.kp.bw (by repeat (first | exact Bw.refl _ | apply Bw.alloc | apply Bw.drewN | apply Bw.drew))).trans hk5); clear hk5)
                  | fail)
                all_goals exact ⟨rfl, rfl, HK.out⟩
              · rw [he1, if_pos rfl] at hr
                have HE := hid he1
                clear he1
                subst hr
                go_wp2_with (first
                  | (go_at_call 58; refine (is_any _ (HS.out.ri.bw (by repeat (first | exact Bw.refl _ | apply Bw.alloc | apply Bw.drewN | apply Bw.drew)))).mono ?_; rintro e w3 ⟨rfl, hb3⟩; rw [HO.out]; have HS := hid (HS.out.bw (Bw.trans (by repeat (first | exact Bw.refl _ | apply Bw.alloc | apply Bw.drewN | apply Bw.drew)) hb3)); have HW := hid (HW.out.bw (Bw.trans (by repeat (first | exact Bw.refl _ | apply Bw.alloc | apply Bw.drewN | apply Bw.drew)) hb3)); clear hb3)
                  | (go_at_call 78; refine (leave_yes _ (HS.out.ri.bw (by repeat (first | exact Bw.refl _ | apply Bw.alloc | apply Bw.drewN | apply Bw.drew))) HE.out).mono ?_; rintro e w5 ⟨rfl, hr5, hk5⟩; have HW := hid ((HW.out.bw (by repeat (first | exact Bw.refl _ | apply Bw.alloc | apply Bw.drewN | apply Bw.drew))).kp hk5 HR0.out); have HS := hid ((HS.out.bw (by repeat (first | exact Bw.refl _ | apply Bw.alloc | apply Bw.drewN | apply Bw.drew))).go hr5 hk5); clear hr5 hk5)
                  | fail)
                all_goals go_ret
                all_goals exact ⟨_, rfl, HW.out, HS.out.ri, HS.out.kp⟩
            · have HN := hid (isT_ne ho1)
              rw [ho1, if_pos rfl] at hr
              have HO := hid ho1
              clear ho1
              have HNE := hid (show pP T f' (.read .ent acc.length) (i' + 1) (o + 1) ≠ .out from fun q => HNR.out (by rw [← hr, q]; rfl))
              generalize hq : pP T f' (.read .ent acc.length) (i' + 1) (o + 1) = R1 at hr
              have HQ := hid hq
              clear hq
              cases R1 with
              | out => exact absurd HQ.out HNE.out
              | bad n m =>
                simp only [Res.bind] at hr
                subst hr
                go_wp2_with (first
                  | (go_at_call 58; refine (is_any _ (HS.out.ri.bw (by repeat (first | exact Bw.refl _ | apply Bw.alloc | apply Bw.drewN | apply Bw.drew)))).mono ?_; rintro e w3 ⟨rfl, hb3⟩; rw [HO.out]; have HS := hid (HS.out.bw (Bw.trans (by repeat (first | exact Bw.refl _ | apply Bw.alloc | apply Bw.drewN | apply Bw.drew)) hb3)); have HW := hid (HW.out.bw (Bw.trans (by repeat (first | exact Bw.refl _ | apply Bw.alloc | apply Bw.drewN | apply Bw.drew)) hb3)); clear hb3)
                  | (go_at_call 81; refine (take_any (HS.out.ri.bw (by repeat (first | exact Bw.refl _ | apply Bw.alloc | apply Bw.drewN | apply Bw.drew))) HN.out).mono ?_; rintro e w1 ⟨rfl, hr1, hk1⟩; have HW := hid ((HW.out.bw (by repeat (first | exact Bw.refl _ | apply Bw.alloc | apply Bw.drewN | apply Bw.drew))).kp hk1 HR0.out); have HS := hid ((HS.out.bw (by repeat (first | exact Bw.refl _ | apply Bw.alloc | apply Bw.drewN | apply Bw.drew))).go hr1 hk1); clear hr1 hk1)
                  | (go_at_call 93; refine (HC.out _ HF.out acc.length _ _ _ (HS.out.ri.bw (by repeat (first | exact Bw.refl _ | apply Bw.alloc | apply Bw.drewN | apply Bw.drew))) (Nat.succ_le_of_lt H64.out) HNE.out).mono ?_; intro e w2 h2; rw [HQ.out] at h2; obtain ⟨rfl, hk2⟩ := h2; have HK := hid ((HS.out.kp.bw (by repeat (first | exact Bw.refl _ | apply Bw.alloc | apply Bw.drewN | apply Bw.drew))).trans hk2); clear hk2)
                  | fail)
                all_goals exact ⟨rfl, rfl, HK.out⟩
              | ok y c' j =>
                simp only [Res.bind] at hr
                have HR := hid hr
                have hj := pP_le HQ.out
                clear hr
                go_wp2_with (first
                  | (go_at_call 58; refine (is_any _ (HS.out.ri.bw (by repeat (first | exact Bw.refl _ | apply Bw.alloc | apply Bw.drewN | apply Bw.drew)))).mono ?_; rintro e w3 ⟨rfl, hb3⟩; rw [HO.out]; have HS := hid (HS.out.bw (Bw.trans (by repeat (first | exact Bw.refl _ | apply Bw.alloc | apply Bw.drewN | apply Bw.drew)) hb3)); have HW := hid (HW.out.bw (Bw.trans (by repeat (first | exact Bw.refl _ | apply Bw.alloc | apply Bw.drewN | apply Bw.drew)) hb3)); clear hb3)
                  | (go_at_call 81; refine (take_any (HS.out.ri.bw (by repeat (first | exact Bw.refl _ | apply Bw.alloc | apply Bw.drewN | apply Bw.drew))) HN.out).mono ?_; rintro e w1 ⟨rfl, hr1, hk1⟩; have HW := hid ((HW.out.bw (by repeat (first | exact Bw.refl _ | apply Bw.alloc | apply Bw.drewN | apply Bw.drew))).kp hk1 HR0.out); have HS := hid ((HS.out.bw (by repeat (first | exact Bw.refl _ | apply Bw.alloc | apply Bw.drewN | apply Bw.drew))).go hr1 hk1); clear hr1 hk1)
                  | (go_at_call 93; refine (HC.out _ HF.out acc.length _ _ _ (HS.out.ri.bw (by repeat (first | exact Bw.refl _ | apply Bw.alloc | apply Bw.drewN | apply Bw.drew))) (Nat.succ_le_of_lt H64.out) HNE.out).mono ?_; intro e w2 h2; rw [HQ.out] at h2; obtain ⟨b2, rfl, hp2, hr2, hk2⟩ := h2; obtain ⟨bs, ho2, hbk, hpush⟩ := (HW.out.bw (by repeat (first | exact Bw.refl _ | apply Bw.alloc | apply Bw.drewN | apply Bw.drew))).app (HS.out.kp.bw (by repeat (first | exact Bw.refl _ | apply Bw.alloc | apply Bw.drewN | apply Bw.drew))).size hk2 HR0.out hp2; have HO2 := hid ho2; have HPU := hid hpush; have HBK := hid hbk; have HS := hid ((HS.out.bw (by repeat (first | exact Bw.refl _ | apply Bw.alloc | apply Bw.drewN | apply Bw.drew))).go hr2 hk2); clear hp2 hr2 hk2 ho2 hpush hbk)
                  | (at_builtin; refine wpList_append_row _ rfl _ _ 81 rfl 57 i1 _ 1 8 underPps I1.out.1 I1.out.2.1 I1.out.2.2.1 I1.out.2.2.2 rfl (by decide) (.slice av acc.length cv) acc.length _ rfl HO2.out ⟨w2.heap.size, 0, none⟩ 1 1 [.pointer (some ⟨b2, 0, none⟩)] rfl rfl (one_new w2 _ _) (by intro u hu; rw [List.mem_singleton] at hu; subst hu; rfl) (by unfold maxLen; omega) (by omega) ?_; intro v4 w4 ho4 hg4 hv4; have HW := hid (HPU.out v4 w4 ho4 hg4 hv4); have HS := hid ((HS.out.bw (Bw.alloc (Bw.refl w2) _)).grown HBB.out hg4 HBK.out); obtain ⟨a4, c4, e4⟩ := own_form ho4; subst e4; clear ho4 hg4 hv4)
                  | fail)
                go_roundw
                case rel => exact ⟨f', acc ++ [y], j, a4, c4, by simp, by omega, HR.out, HS.out, HW.out, by simp; omega⟩
                case measure =>
                  have h1 := HS.out.ri.nx
                  have h2 := HS.out.ri.lt
                  rw [h1]
                  omega
      · rw [if_pos rfl]
        have HO := hid he
        have HE := hid he
        clear he hne
        go_enter Tryd.func88, Tryd.ntmps88
        go_wp2_with (first
          | (go_at_call 77; refine (enter_yes _ (HS.out.ri.bw (by repeat (first | exact Bw.refl _ | apply Bw.alloc | apply Bw.drewN | apply Bw.drew))) HI.out H64.out).mono ?_; rintro e w1 ⟨rfl, hr1, hk1⟩; have HS := hid ((HS.out.bw (by repeat (first | exact Bw.refl _ | apply Bw.alloc | apply Bw.drewN | apply Bw.drew))).go hr1 hk1); have HW := hid (RwI.nil w w1); clear hr1 hk1)
          | (go_at_call 58; refine (is_any _ (HS.out.ri.bw (by repeat (first | exact Bw.refl _ | apply Bw.alloc | apply Bw.drewN | apply Bw.drew)))).mono ?_; rintro e w3 ⟨rfl, hb3⟩; rw [HO.out]; have HS := hid (HS.out.bw (Bw.trans (by repeat (first | exact Bw.refl _ | apply Bw.alloc | apply Bw.drewN | apply Bw.drew)) hb3)); have HW := hid (HW.out.bw (Bw.trans (by repeat (first | exact Bw.refl _ | apply Bw.alloc | apply Bw.drewN | apply Bw.drew)) hb3)); clear hb3)
          | (go_at_call 78; refine (leave_yes _ (HS.out.ri.bw (by repeat (first | exact Bw.refl _ | apply Bw.alloc | apply Bw.drewN | apply Bw.drew))) HE.out).mono ?_; rintro e w5 ⟨rfl, hr5, hk5⟩; have HW := hid ((HW.out.bw (by repeat (first | exact Bw.refl _ | apply Bw.alloc | apply Bw.drewN | apply Bw.drew))).kp hk5 HR0.out); have HS := hid ((HS.out.bw (by repeat (first | exact Bw.refl _ | apply Bw.alloc | apply Bw.drewN | apply Bw.drew))).go hr5 hk5); clear hr5 hk5)
          | fail)
        all_goals go_ret
        all_goals exact ⟨_, rfl, HW.out, HS.out.ri, HS.out.kp⟩

end

end Go.Proofs.YtlcieebneclmpaaDoor

