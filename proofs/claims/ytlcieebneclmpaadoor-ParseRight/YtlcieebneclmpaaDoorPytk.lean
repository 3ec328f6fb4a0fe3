/- A thing with what stands behind it: contract. -/
import Derived.Test.YtlcieebneclmpaaDoorK9
set_option linter.unusedSimpArgs false
set_option linter.unusedVariables false
namespace Go.Proofs.YtlcieebneclmpaaDoor
open Go Go.RowKit

section
variable {B : World} {r g cap : Nat} {T : List ATok} {ex : Nat → Value}

set_option maxRecDepth 100000 in
set_option maxHeartbeats 8000000 in
theorem thing_any (pa pb pc : Nat) (e0 : ex 0 = .func (.func 69) #[] #[.pointer (some ⟨pa, 0, none⟩), .pointer (some ⟨pb, 0, none⟩), .pointer (some ⟨pc, 0, none⟩)]) (f : Nat) (h1 : RdP B r g cap T ex f 87 #[.pointer (some ⟨r, 0, none⟩)] .single) (hrr : ∀ f', f' ≤ f → RdR B r g cap T ex f' 89 .arg) (he : ∀ f', f' ≤ f → RdP B r g cap T ex f' 69 #[.pointer (some ⟨pa, 0, none⟩), .pointer (some ⟨pb, 0, none⟩), .pointer (some ⟨pc, 0, none⟩)] (.lev 0)) : RdT B r g cap T ex (f + 1) := by
  intro w i o h ho hne
  have e : pP T (f + 1) .thing i o = (pP T f .single i o).bind fun x _ i => pP T f (.things x false) i o := by
    simp only [pP]
  rw [e] at hne ⊢
  have HS := hid (SI.begin h)
  have HC1 := hid h1
  have HRR := hid hrr
  have HE := hid he
  have HBB := hid h.kb.size
  have HLL := hid h.len
  obtain ⟨i1, hi1, hz1, hs1, hy1⟩ := info_parts infoPp
  have I1 := hid (And.intro hi1 (And.intro hz1 (And.intro hs1 hy1)))
  have hmf : ∀ (fn : Fn) (first cap : Array Value) (w : World), (Instr.makeFunc fn first cap).run Tryd.prog w = .ok (.func fn first cap) w := fun _ _ _ _ => rfl
  have zz := HS.out.ri.k.cell; have zf := HS.out.ri.k.free; have zl := HS.out.ri.k.lt
  clear h h1 hrr he e hi1 hz1 hs1 hy1
  have HNE := hid (show pP T f .single i o ≠ .out from fun q => hne (by rw [q]; rfl))
  generalize hq : pP T f .single i o = R at hne ⊢
  have HQ := hid hq
  clear hq
  cases R with
  | out => exact absurd HQ.out HNE.out
  | bad n m =>
    simp only [Res.bind]
    clear hne
    go_enter Tryd.func74, Tryd.ntmps74
    go_wp2_with (first
      | (go_at_call 87; refine (HC1.out _ _ _ (HS.out.ri.bw (by repeat (first | exact Bw.refl _ | apply Bw.alloc | apply Bw.drewN | apply Bw.drew))) ho HNE.out).mono ?_; intro e w2 h2; rw [HQ.out] at h2; obtain ⟨rfl, hk2⟩ := h2; have HK := hid ((HS.out.kp.bw (by repeat (first | exact Bw.refl _ | apply Bw.alloc | apply Bw.drewN | apply Bw.drew))).trans hk2); clear hk2)
      | fail)
    all_goals exact ⟨rfl, rfl, HK.out⟩
  | ok x c j =>
    simp only [Res.bind] at hne ⊢
    generalize hr : pP T f (.things x false) j o = R9 at hne ⊢
    have HR := hid hr
    have HNR := hid hne
    clear hr hne
    go_enter Tryd.func74, Tryd.ntmps74
    go_wp2_with (first
      | (go_at_call 87; refine (HC1.out _ _ _ (HS.out.ri.bw (by repeat (first | exact Bw.refl _ | apply Bw.alloc | apply Bw.drewN | apply Bw.drew))) ho HNE.out).mono ?_; intro e w2 h2; rw [HQ.out] at h2; obtain ⟨b2, rfl, hp2, hr2, hk2⟩ := h2; have HS := hid ((HS.out.bw (by repeat (first | exact Bw.refl _ | apply Bw.alloc | apply Bw.drewN | apply Bw.drew))).add hr2 hk2 hp2); have zz := HS.out.ri.k.cell; have zf := HS.out.ri.k.free; have zl := HS.out.ri.k.lt; clear hp2 hr2 hk2)
      | fail)
    go_loopw [2, 3] (fun v u wr => ∃ f' x b' c' i', f' ≤ f ∧ v = .pointer (some ⟨b', 0, none⟩) ∧ u = .bool c' ∧ pP T f' (.things x c') i' o = R9 ∧ SI B w No wr r g cap T ex i' o [(x, b')]) (fun _ _ wr => T.length - nxt wr r)
    case atStart => exact ⟨f, x, b2, false, j, Nat.le_refl _, rfl, rfl, HR.out, HS.out⟩
    case round =>
      clear HS HR HQ HNE zz zf zl
      obtain ⟨f', x, b', c', i', hf, rfl, rfl, hr, hs⟩ := hrel
      rename World => wr
      have HS := hid hs
      obtain ⟨v9, p4, _, _, pl, _⟩ := (HS.out.ps (x, b') (by simp)).at; have zz := HS.out.ri.k.cell; have zf := HS.out.ri.k.free; have zl := HS.out.ri.k.lt
      cases f' with
      | zero => exact absurd hr.symm HNR.out
      | succ f' =>
      have hnx : nxt wr r = i' := hs.ri.nx
      have hil := hs.ri.lt
      rw [hnx]
      clear hs
      simp only [pP] at hr
      cases ho1 : isT T i' ⟨#[40]⟩
      · rw [ho1, if_neg (by decide)] at hr
        cases ho2 : isT T i' ⟨#[91]⟩
        · rw [ho2, if_neg (by decide)] at hr
          cases ho3 : isT T i' ⟨#[46]⟩
          · rw [ho3, if_neg (by decide)] at hr
            subst hr
            go_wp2_with (first
              | (go_at_call 58; refine (is_any _ (HS.out.ri.bw (by repeat (first | exact Bw.refl _ | apply Bw.alloc | apply Bw.drewN | apply Bw.drew)))).mono ?_; rintro e w1 ⟨rfl, hb1⟩; have HS := hid (HS.out.bw (Bw.trans (by repeat (first | exact Bw.refl _ | apply Bw.alloc | apply Bw.drewN | apply Bw.drew)) hb1)); obtain ⟨v9, p4, _, _, pl, _⟩ := (HS.out.ps (x, b') (by simp)).at; have zz := HS.out.ri.k.cell; have zf := HS.out.ri.k.free; have zl := HS.out.ri.k.lt; clear hb1)
              | fail)
            all_goals go_ret2
            all_goals exact ⟨_, rfl, HS.out.outp (by simp)⟩
          · rw [ho3, if_pos rfl] at hr
            have HN := hid (isT_ne ho3)
            unfold wantN here at hr
            by_cases hn : (tk T (i' + 1)).1 = 1
            · rw [if_pos hn] at hr
              have HNm := hid hn
              have HR := hid hr
              clear hn hr
              go_wp2_with (first
                | (go_at_call 58; refine (is_any _ (HS.out.ri.bw (by repeat (first | exact Bw.refl _ | apply Bw.alloc | apply Bw.drewN | apply Bw.drew)))).mono ?_; rintro e w1 ⟨rfl, hb1⟩; have HS := hid (HS.out.bw (Bw.trans (by repeat (first | exact Bw.refl _ | apply Bw.alloc | apply Bw.drewN | apply Bw.drew)) hb1)); obtain ⟨v9, p4, _, _, pl, _⟩ := (HS.out.ps (x, b') (by simp)).at; have zz := HS.out.ri.k.cell; have zf := HS.out.ri.k.free; have zl := HS.out.ri.k.lt; clear hb1)
                | (go_at_call 81; refine (take_any (HS.out.ri.bw (by repeat (first | exact Bw.refl _ | apply Bw.alloc | apply Bw.drewN | apply Bw.drew))) HN.out).mono ?_; unfold tokV; rintro e w1 ⟨rfl, hr1, hk1⟩; have HS := hid ((HS.out.bw (by repeat (first | exact Bw.refl _ | apply Bw.alloc | apply Bw.drewN | apply Bw.drew))).go hr1 hk1); have zz := HS.out.ri.k.cell; have zf := HS.out.ri.k.free; have zl := HS.out.ri.k.lt; clear hr1 hk1)
                | (go_at_call 79; refine (wantName_yes (HS.out.ri.bw (by repeat (first | exact Bw.refl _ | apply Bw.alloc | apply Bw.drewN | apply Bw.drew))) HNm.out).mono ?_; unfold tokV; rintro e w1 ⟨rfl, hr1, hk1⟩; have HS := hid ((HS.out.bw (by repeat (first | exact Bw.refl _ | apply Bw.alloc | apply Bw.drewN | apply Bw.drew))).go hr1 hk1); have zz := HS.out.ri.k.cell; have zf := HS.out.ri.k.free; have zl := HS.out.ri.k.lt; clear hr1 hk1)
                | (go_at_call 80; refine (madeNamed_any _ _ _ _ [x] [b'] _ _ (HS.out.row1 (x := x) (b := b') (by simp)).1 (HS.out.row1 (x := x) (b := b') (by simp)).2).mono ?_; rintro e w3 ⟨b3, rfl, hp3, hb3, hn3, hc3⟩; have HS := hid ((HS.out.bw (Bw.alloc (Bw.refl _) _)).put hb3 hp3); have zz := HS.out.ri.k.cell; have zf := HS.out.ri.k.free; have zl := HS.out.ri.k.lt; clear hp3 hb3)
                | fail)
              go_roundw
              case rel => exact ⟨f', _, b3, false, i' + 2, by omega, rfl, rfl, HR.out, HS.out.only (by simp)⟩
              case measure =>
                have h1 := HS.out.ri.nx
                have h2 := HS.out.ri.lt
                rw [h1]
                omega
            · rw [if_neg hn] at hr
              have HNm := hid hn
              clear hn
              subst hr
              go_wp2_with (first
                | (go_at_call 58; refine (is_any _ (HS.out.ri.bw (by repeat (first | exact Bw.refl _ | apply Bw.alloc | apply Bw.drewN | apply Bw.drew)))).mono ?_; rintro e w1 ⟨rfl, hb1⟩; have HS := hid (HS.out.bw (Bw.trans (by repeat (first | exact Bw.refl _ | apply Bw.alloc | apply Bw.drewN | apply Bw.drew)) hb1)); obtain ⟨v9, p4, _, _, pl, _⟩ := (HS.out.ps (x, b') (by simp)).at; have zz := HS.out.ri.k.cell; have zf := HS.out.ri.k.free; have zl := HS.out.ri.k.lt; clear hb1)
                | (go_at_call 81; refine (take_any (HS.out.ri.bw (by repeat (first | exact Bw.refl _ | apply Bw.alloc | apply Bw.drewN | apply Bw.drew))) HN.out).mono ?_; unfold tokV; rintro e w1 ⟨rfl, hr1, hk1⟩; have HS := hid ((HS.out.bw (by repeat (first | exact Bw.refl _ | apply Bw.alloc | apply Bw.drewN | apply Bw.drew))).go hr1 hk1); have zz := HS.out.ri.k.cell; have zf := HS.out.ri.k.free; have zl := HS.out.ri.k.lt; clear hr1 hk1)
                | (go_at_call 79; refine (wantName_no (HS.out.ri.bw (by repeat (first | exact Bw.refl _ | apply Bw.alloc | apply Bw.drewN | apply Bw.drew))) HNm.out).mono ?_; rintro e w1 ⟨rfl, hk1⟩; have HK := hid ((HS.out.kp.bw (by repeat (first | exact Bw.refl _ | apply Bw.alloc | apply Bw.drewN | apply Bw.drew))).trans hk1); clear hk1)
                | fail)
              all_goals exact ⟨rfl, rfl, HK.out⟩
        · rw [ho2, if_pos rfl] at hr
          have HI := hid ho2
          unfold entr here at hr
          rw [if_pos ho2] at hr
          by_cases h64 : o = 64
          · rw [if_pos h64] at hr
            have H64 := hid h64
            clear h64
            subst hr
            go_wp2_with (first
              | (go_at_call 58; refine (is_any _ (HS.out.ri.bw (by repeat (first | exact Bw.refl _ | apply Bw.alloc | apply Bw.drewN | apply Bw.drew)))).mono ?_; rintro e w1 ⟨rfl, hb1⟩; have HS := hid (HS.out.bw (Bw.trans (by repeat (first | exact Bw.refl _ | apply Bw.alloc | apply Bw.drewN | apply Bw.drew)) hb1)); obtain ⟨v9, p4, _, _, pl, _⟩ := (HS.out.ps (x, b') (by simp)).at; have zz := HS.out.ri.k.cell; have zf := HS.out.ri.k.free; have zl := HS.out.ri.k.lt; clear hb1)
              | (go_at_call 77; refine (enter_many _ (HS.out.ri.bw (by repeat (first | exact Bw.refl _ | apply Bw.alloc | apply Bw.drewN | apply Bw.drew))) HI.out H64.out).mono ?_; rintro e w1 ⟨rfl, hk1⟩; have HK := hid ((HS.out.kp.bw (by repeat (first | exact Bw.refl _ | apply Bw.alloc | apply Bw.drewN | apply Bw.drew))).trans hk1); clear hk1)
              | fail)
            all_goals exact ⟨rfl, rfl, HK.out⟩
          · rw [if_neg h64] at hr
            dsimp only at hr
            have H64 := hid (show o < 64 by omega)
            have H65 := hid (show o + 1 ≤ 64 by omega)
            clear h64
            have HNE := hid (show pP T f' (.lev 0) (i' + 1) (o + 1) ≠ .out from fun q => HNR.out (by rw [← hr, q]; rfl))
            generalize hq : pP T f' (.lev 0) (i' + 1) (o + 1) = R1 at hr
            have HQ := hid hq
            clear hq
            cases R1 with
            | out => exact absurd HQ.out HNE.out
            | bad n m =>
              simp only [Res.bind] at hr
              subst hr
              go_wp2_with (first
                | (go_at_call 58; refine (is_any _ (HS.out.ri.bw (by repeat (first | exact Bw.refl _ | apply Bw.alloc | apply Bw.drewN | apply Bw.drew)))).mono ?_; rintro e w1 ⟨rfl, hb1⟩; have HS := hid (HS.out.bw (Bw.trans (by repeat (first | exact Bw.refl _ | apply Bw.alloc | apply Bw.drewN | apply Bw.drew)) hb1)); obtain ⟨v9, p4, _, _, pl, _⟩ := (HS.out.ps (x, b') (by simp)).at; have zz := HS.out.ri.k.cell; have zf := HS.out.ri.k.free; have zl := HS.out.ri.k.lt; clear hb1)
                | (go_at_call 77; refine (enter_yes _ (HS.out.ri.bw (by repeat (first | exact Bw.refl _ | apply Bw.alloc | apply Bw.drewN | apply Bw.drew))) HI.out H64.out).mono ?_; rintro e w1 ⟨rfl, hr1, hk1⟩; have HS := hid ((HS.out.bw (by repeat (first | exact Bw.refl _ | apply Bw.alloc | apply Bw.drewN | apply Bw.drew))).go hr1 hk1); have zz := HS.out.ri.k.cell; have zf := HS.out.ri.k.free; have zl := HS.out.ri.k.lt; clear hr1 hk1)
                | (go_at_call 69; refine (HE.out f' (by omega) _ _ _ (HS.out.ri.bw (by repeat (first | exact Bw.refl _ | apply Bw.alloc | apply Bw.drewN | apply Bw.drew))) H65.out HNE.out).mono ?_; intro e w2 h2; rw [HQ.out] at h2; obtain ⟨rfl, hk2⟩ := h2; have HK := hid ((HS.out.kp.bw (by repeat (first | exact Bw.refl _ | apply Bw.alloc | apply Bw.drewN | apply Bw.drew))).trans hk2); clear hk2)
                | fail)
              all_goals exact ⟨rfl, rfl, HK.out⟩
            | ok y c1 j1 =>
              simp only [Res.bind] at hr
              unfold want here at hr
              have hj := pP_le HQ.out
              cases hl : isT T j1 ⟨#[93]⟩
              · rw [hl, if_neg (by decide)] at hr
                have HL := hid hl
                clear hl
                subst hr
                go_wp2_with (first
                  | (go_at_call 58; refine (is_any _ (HS.out.ri.bw (by repeat (first | exact Bw.refl _ | apply Bw.alloc | apply Bw.drewN | apply Bw.drew)))).mono ?_; rintro e w1 ⟨rfl, hb1⟩; have HS := hid (HS.out.bw (Bw.trans (by repeat (first | exact Bw.refl _ | apply Bw.alloc | apply Bw.drewN | apply Bw.drew)) hb1)); obtain ⟨v9, p4, _, _, pl, _⟩ := (HS.out.ps (x, b') (by simp)).at; have zz := HS.out.ri.k.cell; have zf := HS.out.ri.k.free; have zl := HS.out.ri.k.lt; clear hb1)
                  | (go_at_call 77; refine (enter_yes _ (HS.out.ri.bw (by repeat (first | exact Bw.refl _ | apply Bw.alloc | apply Bw.drewN | apply Bw.drew))) HI.out H64.out).mono ?_; rintro e w1 ⟨rfl, hr1, hk1⟩; have HS := hid ((HS.out.bw (by repeat (first | exact Bw.refl _ | apply Bw.alloc | apply Bw.drewN | apply Bw.drew))).go hr1 hk1); have zz := HS.out.ri.k.cell; have zf := HS.out.ri.k.free; have zl := HS.out.ri.k.lt; clear hr1 hk1)
                  | (go_at_call 69; refine (HE.out f' (by omega) _ _ _ (HS.out.ri.bw (by repeat (first | exact Bw.refl _ | apply Bw.alloc | apply Bw.drewN | apply Bw.drew))) H65.out HNE.out).mono ?_; intro e w2 h2; rw [HQ.out] at h2; obtain ⟨b2, rfl, hp2, hr2, hk2⟩ := h2; have HS := hid ((HS.out.bw (by repeat (first | exact Bw.refl _ | apply Bw.alloc | apply Bw.drewN | apply Bw.drew))).add hr2 hk2 hp2); have zz := HS.out.ri.k.cell; have zf := HS.out.ri.k.free; have zl := HS.out.ri.k.lt; clear hp2 hr2 hk2)
                  | (go_at_call 43; refine (made_any _ _ _ [x, y] [b', b2] _ _ (HS.out.row2 (x := x) (y := y) (b := b') (c := b2) (by simp) (by simp)).1 (HS.out.row2 (x := x) (y := y) (b := b') (c := b2) (by simp) (by simp)).2).mono ?_; rintro e w3 ⟨b3, rfl, hp3, hb3, hn3, hc3⟩; have HS := hid ((HS.out.bw (Bw.alloc (Bw.refl _) _)).put hb3 hp3); have zz := HS.out.ri.k.cell; have zf := HS.out.ri.k.free; have zl := HS.out.ri.k.lt; clear hp3 hb3)
                  | (go_at_call 78; refine (leave_no _ (HS.out.ri.bw (by repeat (first | exact Bw.refl _ | apply Bw.alloc | apply Bw.drewN | apply Bw.drew))) HL.out).mono ?_; rintro e w1 ⟨rfl, hk1⟩; have HK := hid ((HS.out.kp.bw (by repeat (first | exact Bw.refl _ | apply Bw.alloc | apply Bw.drewN | apply Bw.drew))).trans hk1); clear hk1)
                  | fail)
                all_goals exact ⟨rfl, rfl, HK.out⟩
              · rw [hl, if_pos rfl] at hr
                have HL := hid hl
                have HR := hid hr
                clear hl hr
                go_wp2_with (first
                  | (go_at_call 58; refine (is_any _ (HS.out.ri.bw (by repeat (first | exact Bw.refl _ | apply Bw.alloc | apply Bw.drewN | apply Bw.drew)))).mono ?_; rintro e w1 ⟨rfl, hb1⟩; have HS := hid (HS.out.bw (Bw.trans (by repeat (first | exact Bw.refl _ | apply Bw.alloc | apply Bw.drewN | apply Bw.drew)) hb1)); obtain ⟨v9, p4, _, _, pl, _⟩ := (HS.out.ps (x, b') (by simp)).at; have zz := HS.out.ri.k.cell; have zf := HS.out.ri.k.free; have zl := HS.out.ri.k.lt; clear hb1)
                  | (go_at_call 77; refine (enter_yes _ (HS.out.ri.bw (by repeat (first | exact Bw.refl _ | apply Bw.alloc | apply Bw.drewN | apply Bw.drew))) HI.out H64.out).mono ?_; rintro e w1 ⟨rfl, hr1, hk1⟩; have HS := hid ((HS.out.bw (by repeat (first | exact Bw.refl _ | apply Bw.alloc | apply Bw.drewN | apply Bw.drew))).go hr1 hk1); have zz := HS.out.ri.k.cell; have zf := HS.out.ri.k.free; have zl := HS.out.ri.k.lt; clear hr1 hk1)
                  | (go_at_call 69; refine (HE.out f' (by omega) _ _ _ (HS.out.ri.bw (by repeat (first | exact Bw.refl _ | apply Bw.alloc | apply Bw.drewN | apply Bw.drew))) H65.out HNE.out).mono ?_; intro e w2 h2; rw [HQ.out] at h2; obtain ⟨b2, rfl, hp2, hr2, hk2⟩ := h2; have HS := hid ((HS.out.bw (by repeat (first | exact Bw.refl _ | apply Bw.alloc | apply Bw.drewN | apply Bw.drew))).add hr2 hk2 hp2); have zz := HS.out.ri.k.cell; have zf := HS.out.ri.k.free; have zl := HS.out.ri.k.lt; clear hp2 hr2 hk2)
                  | (go_at_call 43; refine (made_any _ _ _ [x, y] [b', b2] _ _ (HS.out.row2 (x := x) (y := y) (b := b') (c := b2) (by simp) (by simp)).1 (HS.out.row2 (x := x) (y := y) (b := b') (c := b2) (by simp) (by simp)).2).mono ?_; rintro e w3 ⟨b3, rfl, hp3, hb3, hn3, hc3⟩; have HS := hid ((HS.out.bw (Bw.alloc (Bw.refl _) _)).put hb3 hp3); have zz := HS.out.ri.k.cell; have zf := HS.out.ri.k.free; have zl := HS.out.ri.k.lt; clear hp3 hb3)
                  | (go_at_call 78; refine (leave_yes _ (HS.out.ri.bw (by repeat (first | exact Bw.refl _ | apply Bw.alloc | apply Bw.drewN | apply Bw.drew))) HL.out).mono ?_; rintro e w1 ⟨rfl, hr1, hk1⟩; have HS := hid ((HS.out.bw (by repeat (first | exact Bw.refl _ | apply Bw.alloc | apply Bw.drewN | apply Bw.drew))).go hr1 hk1); have zz := HS.out.ri.k.cell; have zf := HS.out.ri.k.free; have zl := HS.out.ri.k.lt; clear hr1 hk1)
                  | fail)
                go_roundw
                case rel => exact ⟨f', _, b3, false, j1 + 1, by omega, rfl, rfl, HR.out, HS.out.only (by simp)⟩
                case measure =>
                  have h1 := HS.out.ri.nx
                  have h2 := HS.out.ri.lt
                  rw [h1]
                  omega
      · rw [ho1, if_pos rfl] at hr
        have HNE := hid (show pP T f' (.row .arg ⟨#[40]⟩ ⟨#[41]⟩) i' o ≠ .out from fun q => HNR.out (by rw [← hr, q]; rfl))
        generalize hq : pP T f' (.row .arg ⟨#[40]⟩ ⟨#[41]⟩) i' o = R1 at hr
        have HQ := hid hq
        clear hq
        cases R1 with
        | out => exact absurd HQ.out HNE.out
        | bad n m =>
          simp only [Res.bind] at hr
          subst hr
          go_wp2_with (first
            | (go_at_call 58; refine (is_any _ (HS.out.ri.bw (by repeat (first | exact Bw.refl _ | apply Bw.alloc | apply Bw.drewN | apply Bw.drew)))).mono ?_; rintro e w1 ⟨rfl, hb1⟩; have HS := hid (HS.out.bw (Bw.trans (by repeat (first | exact Bw.refl _ | apply Bw.alloc | apply Bw.drewN | apply Bw.drew)) hb1)); obtain ⟨v9, p4, _, _, pl, _⟩ := (HS.out.ps (x, b') (by simp)).at; have zz := HS.out.ri.k.cell; have zf := HS.out.ri.k.free; have zl := HS.out.ri.k.lt; clear hb1)
            | (go_at_call 88; refine (HRR.out f' (by omega) _ _ _ _ _ (HS.out.ri.bw (by repeat (first | exact Bw.refl _ | apply Bw.alloc | apply Bw.drewN | apply Bw.drew))) ho HNE.out).mono ?_; intro e w2 h2; rw [HQ.out] at h2; obtain ⟨rfl, hk2⟩ := h2; have HK := hid ((HS.out.kp.bw (by repeat (first | exact Bw.refl _ | apply Bw.alloc | apply Bw.drewN | apply Bw.drew))).trans hk2); clear hk2)
            | fail)
          all_goals exact ⟨rfl, rfl, HK.out⟩
        | ok y c1 j1 =>
          simp only [Res.bind] at hr
          have HR := hid hr
          have hj := pP_le HQ.out
          have hjs : i' < j1 := row_lt HQ.out
          have HLEN0 := hid (row_len HQ.out)
          clear hr
          go_wp2_with (first
            | (go_at_call 58; refine (is_any _ (HS.out.ri.bw (by repeat (first | exact Bw.refl _ | apply Bw.alloc | apply Bw.drewN | apply Bw.drew)))).mono ?_; rintro e w1 ⟨rfl, hb1⟩; have HS := hid (HS.out.bw (Bw.trans (by repeat (first | exact Bw.refl _ | apply Bw.alloc | apply Bw.drewN | apply Bw.drew)) hb1)); obtain ⟨v9, p4, _, _, pl, _⟩ := (HS.out.ps (x, b') (by simp)).at; have zz := HS.out.ri.k.cell; have zf := HS.out.ri.k.free; have zl := HS.out.ri.k.lt; have HW1 := hid (Blk.new w1 #[.pointer (some ⟨b', 0, none⟩)] 57); clear hb1)
            | (go_at_call 88; refine (HRR.out f' (by omega) _ _ _ _ _ (HS.out.ri.bw (Bw.alloc (Bw.refl _) _)) ho HNE.out).mono ?_; intro e w2 h2; rw [HQ.out] at h2; obtain ⟨v2, rfl, ⟨bs2, ho2, hp2⟩, hr2, hk2⟩ := h2; obtain ⟨av2, cv2, e2⟩ := own_form ho2; subst e2; have HLEN := hid (show y.kids.length ≤ 20000 by have a1 := HLEN0.out; have a2 := hr2.lt; have a3 := HLL.out; omega); have HO2 := hid ho2; have HP2 := hid hp2; have HR2 := hid hr2; have HK2 := hid hk2; clear ho2 hp2 hr2 hk2)
            | (at_builtin; refine wpList_append_sl (G := fun _ => True) _ rfl _ _ 81 rfl w1.heap.size 57 i1 _ 1 8 underPps I1.out.1 I1.out.2.1 I1.out.2.2.1 I1.out.2.2.2 rfl (by decide) (.slice (some ⟨w1.heap.size, 0, none⟩) 1 1) 1 [.pointer (some ⟨b', 0, none⟩)] rfl (one_own HK2.out zl) (.slice av2 y.kids.length cv2) y.kids.length _ rfl (sl_own HO2.out) (ptrs_one _) (by have := HLEN.out; unfold maxLen; omega) (by have := HLEN.out; omega) (by have := HK2.out.size; simp at this; omega) ?_; intro v4 w4 ho4 hg4; obtain ⟨a4, c4, e4⟩ := own_form ho4; subst e4; have HCR := hid (HS.out.callRow (x := x) (b := b') (by simp) HK2.out HP2.out ho4 hg4); have HS := hid (HS.out.drop.bw (Bw.alloc (Bw.refl _) _) |>.go HR2.out HK2.out |>.grown HBB.out hg4 (fun k e => by cases e; exact HS.out.kp.size)); clear ho4 hg4)
            | (go_at_call 43; refine (made_any _ _ _ (x :: y.kids) (b' :: bs2) _ _ HCR.out.1 HCR.out.2).mono ?_; rintro e w5 ⟨b5, rfl, hp5, hb5, _⟩; have HS := hid (HS.out.put hb5 hp5); have zz := HS.out.ri.k.cell; have zf := HS.out.ri.k.free; have zl := HS.out.ri.k.lt; clear hp5 hb5)
            | fail)
          go_roundw
          case rel => exact ⟨f', _, b5, true, j1, by omega, rfl, rfl, HR.out, HS.out.only (by simp)⟩
          case measure =>
            have h1 := HS.out.ri.nx
            have h2 := HS.out.ri.lt
            rw [h1]
            omega

end

end Go.Proofs.YtlcieebneclmpaaDoor

