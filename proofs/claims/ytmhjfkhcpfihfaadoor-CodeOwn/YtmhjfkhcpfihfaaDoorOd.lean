/- The reader: lists of functions: their instructions are owned. -/
import Derived.Test.YtmhjfkhcpfihfaaDoorOc
set_option linter.unusedSimpArgs false
set_option linter.unusedVariables false
namespace Go.Proofs.YtmhjfkhcpfihfaaDoor
open Go Go.RowKit

section
variable {base r : Nat} {w w' : World} {vb : Value} {b : List Int} {s : St}

set_option maxRecDepth 100000 in
set_option maxHeartbeats 8000000 in
theorem qim3_own (pb : Nat) (h : RB base w r vb b s) (hp : Blk w pb #[.pointer (some ⟨r, 0, none⟩)] 78) :
    Calls Tryd.prog 62 #[.pointer (some ⟨pb, 0, none⟩)] w fun e w' => ∃ m : MFn, e = .returned (.agg #[.int .i64 m.f.params, .int .i64 m.f.slots, m.vb, m.vc, m.vo, m.vt]) ∧ m.f = (fnM b s).1 ∧ okO w' (fun x => w.heap.size ≤ x) m ∧ RB base w' r vb b (fnM b s).2 ∧ Kp r w w' := by
  have hrl := h.k.lt
  have hba := h.base
  have HW0 := hid (show Bw w (w.alloc (.cells #[.int .i64 0, .int .i64 0, .slice none 0 0, .slice none 0 0, .slice none 0 0, .slice none 0 0] 63)) from Bw.alloc (Bw.refl w) _)
  have HR := hid (h.bw HW0.out)
  have HC := hid (Blk.new w #[.int .i64 0, .int .i64 0, .slice none 0 0, .slice none 0 0, .slice none 0 0, .slice none 0 0] 63)
  have HNC := hid (show w.heap.size ≠ r by omega)
  have HBC := hid (show base ≤ w.heap.size by omega)
  have z := hp.cell 0
  have zl := hp.lt
  clear h hp
  go_enter Tryd.func62, Tryd.ntmps62
  go_wp2_with (first
    | (go_at_call 63; refine (qfun_own HR.out).mono ?_; rintro e w1 ⟨⟨mf, v1, v2, v3, v4⟩, rfl, hm1, hm2, hr1, hk1⟩; obtain ⟨a1, c1, e1⟩ := hm2.1.b.form; obtain ⟨a2, c2, e2⟩ := hm2.1.c.form; obtain ⟨a3, c3, e3⟩ := hm2.1.o.form; obtain ⟨a4, c4, e4⟩ := hm2.1.t.form; simp only at e1 e2 e3 e4 hm1; subst e1 e2 e3 e4; have HM1 := hid hm1; have HM2 := hid hm2; have HR1 := hid hr1; have HK1 := hid (Kp.trans (Kp.of_bw HW0.out) hk1); have HC1 := hid (HC.out.kp hk1 HNC.out); have y := HC1.out.cell; have yf := HC1.out.free; have yl := HC1.out.lt; clear hm1 hm2 hr1 hk1)
    | fail)
  all_goals
    have bf := ((((((HC1.out.set 0 (.int .i64 mf.params)).set 1 (.int .i64 mf.slots)).set 2 (.slice a1 mf.boxes.length c1)).set 3 (.slice a2 mf.caps.length c2)).set 4 (.slice a3 mf.code.length c3)).set 5 (.slice a4 mf.tries.length c4))
    have bfc := bf.cell
    refine bodyPost_ret (v := .agg #[.int .i64 mf.params, .int .i64 mf.slots, .slice a1 mf.boxes.length c1, .slice a2 mf.caps.length c2, .slice a3 mf.code.length c3, .slice a4 mf.tries.length c4]) (by simp [results, Tryd.results62, go_sem, bfc]) rfl ?_
    exact ⟨⟨mf, .slice a1 mf.boxes.length c1, .slice a2 mf.caps.length c2, .slice a3 mf.code.length c3, .slice a4 mf.tries.length c4⟩, rfl, HM1.out, ((((((HM2.out.setn (g := w.heap.size) (by simp only [World.size_alloc]; omega) 0 _).setn (g := w.heap.size) (by simp only [World.size_alloc]; omega) 1 _).setn (g := w.heap.size) (by simp only [World.size_alloc]; omega) 2 _).setn (g := w.heap.size) (by simp only [World.size_alloc]; omega) 3 _).setn (g := w.heap.size) (by simp only [World.size_alloc]; omega) 4 _).setn (g := w.heap.size) (by simp only [World.size_alloc]; omega) 5 _).low (by simp only [World.size_alloc]; omega), ((((((HR1.out.other HNC.out HBC.out 0 _).other HNC.out HBC.out 1 _).other HNC.out HBC.out 2 _).other HNC.out HBC.out 3 _).other HNC.out HBC.out 4 _).other HNC.out HBC.out 5 _), ((((((HK1.out.setNew (Nat.le_refl _) 0 _).setNew (Nat.le_refl _) 1 _).setNew (Nat.le_refl _) 2 _).setNew (Nat.le_refl _) 3 _).setNew (Nat.le_refl _) 4 _).setNew (Nat.le_refl _) 5 _)⟩

set_option maxRecDepth 100000 in
set_option maxHeartbeats 8000000 in
theorem rlF_own (pb : Nat) (h : RB base w r vb b s) (hp : Blk w pb #[.pointer (some ⟨r, 0, none⟩)] 78) :
    Calls Tryd.prog 61 #[.pointer (some ⟨r, 0, none⟩), .func (.func 62) #[] #[.pointer (some ⟨pb, 0, none⟩)]] w fun e w' => ∃ (v : Value) (ms : List (MFn)), e = .returned v ∧ ms.map (fun m => m.f) = (lM b (fnM b) s).1 ∧ RFo w' (fun x => w.heap.size ≤ x) v ms ∧ RB base w' r vb b (lM b (fnM b) s).2 ∧ Kp r w w' := by
  have HR := hid h
  have HP := hid hp
  have HRL := hid h.k.lt
  have HNE := hid (blk_ne hp h.k (by decide))
  have HLN := hid h.len
  obtain ⟨i1, hi1, hz1, hs1, hy1⟩ := info_parts infoEF
  have I1 := hid (And.intro hi1 (And.intro hz1 (And.intro hs1 hy1)))
  have hcb := (cM_ok b).1 s h.at_
  have HBA := hid h.base
  obtain ⟨⟨n, s0⟩, hn⟩ : ∃ x, cM b s = x := ⟨_, rfl⟩
  rw [hn] at hcb
  have HN := hid hn
  have HCB := hid (show n ≤ b.length by simp only at hcb; omega)
  have hn63 : n ≤ 9223372036854775807 := by have := h.len; have := HCB.out; omega
  have HLM := hid (show lM b (fnM b) s = rep (fnM b) n [] s0 by unfold lM; rw [hn])
  clear h hp hn hi1 hz1 hs1 hy1 hcb
  go_enter Tryd.func61, Tryd.ntmps61
  go_wp2_with (first
    | (go_at_call 77; refine (qcount_any HR.out).mono ?_; rintro e w1 ⟨rfl, hr1, hk1⟩; rw [HN.out] at hr1 ⊢; have HR1 := hid hr1; have HK1 := hid hk1; clear hr1 hk1)
    | fail)
  go_loopw [5, 9] (fun l j wr => ∃ (i : Nat) (ms : List (MFn)) (s' : St), i ≤ n ∧ j = .int .i64 (i : Nat) ∧ ms.length = i ∧ LI (μ := MFn) 63 6 (fnC) okO w wr l ms ∧ lM b (fnM b) s = rep (fnM b) (n - i) (ms.map fun m => m.f) s' ∧ RB base wr r vb b s' ∧ Kp r w wr) (fun _ j _ => n - (intOf j).toNat)
  case atStart => exact ⟨0, [], s0, Nat.zero_le _, rfl, rfl, LI.nil _ _, HLM.out, HR1.out, HK1.out⟩
  case round =>
    obtain ⟨i, ms, s', hi, rfl, hml, hli, he, hr, hk⟩ := hrel
    have HLI := hid hli
    have HE := hid he
    have HR2 := hid hr
    have HK2 := hid hk
    have HML := hid hml
    obtain ⟨al, cl, el⟩ := hli.form
    subst el
    clear hli he hr hk hml
    by_cases hlt : i < n
    · have hlt2 : (i : Int) < (n : Int) := by omega
      have HB := hid (HP.out.kp HK2.out HNE.out)
      obtain ⟨⟨x, s2⟩, hx⟩ : ∃ x, (fnM b) s' = x := ⟨_, rfl⟩
      have HX := hid hx
      have HNI := hid (show n - i = (n - (i + 1)) + 1 by omega)
      have HNB := hid (show 0 < b.length by have := HCB.out; omega)
      clear hx
      by_cases hf : s2.2 = 0
      · have hf2 : ((s2.2 : Int) != 0) = false := by simp [hf]
        have HE2 := hid (show lM b (fnM b) s = rep (fnM b) (n - (i + 1)) (ms.map (fun m => m.f) ++ [x]) s2 by rw [HE.out, HNI.out, rep_ok HX.out hf])
        clear hf
        go_wp2_with (first
          | (go_at_call 62; refine (qim3_own _ HR2.out HB.out).mono ?_; rintro e w1 ⟨⟨mf, v1, v2, v3, v4⟩, rfl, hm1, hm2, hr1, hk1⟩; obtain ⟨a1, c1, e1⟩ := (show okO _ _ _ from hm2).1.b.form; obtain ⟨a2, c2, e2⟩ := (show okO _ _ _ from hm2).1.c.form; obtain ⟨a3, c3, e3⟩ := (show okO _ _ _ from hm2).1.o.form; obtain ⟨a4, c4, e4⟩ := (show okO _ _ _ from hm2).1.t.form; simp only at e1 e2 e3 e4 hm1; subst e1 e2 e3 e4; rw [HX.out] at hm1 hr1; have HM1 := hid hm1; have HLI1 := hid (HLI.out.kp keepO hk1 HRL.out); have HM2 := hid (HLI.out.fresh (w1 := w1) (m := ⟨mf, .slice a1 mf.boxes.length c1, .slice a2 mf.caps.length c2, .slice a3 mf.code.length c3, .slice a4 mf.tries.length c4⟩) keepO hm2 HK2.out.size); have HR1 := hid hr1; have HK1 := hid (HK2.out.trans hk1); have y := hr1.k.cell; have yl := hr1.k.lt; clear hm1 hm2 hr1 hk1)
          | (at_builtin; refine wpList_append_row _ rfl _ _ 22 rfl 63 i1 (.agg #[.int .i64 0, .int .i64 0, .slice none 0 0, .slice none 0 0, .slice none 0 0, .slice none 0 0]) 6 112 undLF I1.out.1 I1.out.2.1 I1.out.2.2.1 I1.out.2.2.2 rfl (by decide) (.slice al ms.length cl) ms.length (ms.flatMap (fnC)) rfl (HLI1.out.bw keepO (by repeat (first | exact Bw.refl _ | apply Bw.alloc | apply Bw.drewN | apply Bw.drew))).own _ 1 1 ((fnC : MFn → List Value) ⟨mf, .slice a1 mf.boxes.length c1, .slice a2 mf.caps.length c2, .slice a3 mf.code.length c3, .slice a4 mf.tries.length c4⟩) rfl rfl ?c1 ?c2 ?c3 ?c4 ?_)
          | fail)
        try (case c1 =>
          intro j u hj
          match j, hj with
          | 0, hj => simp [fnC] at hj; subst hj; simp [Addr.add, go_sem, *]
          | 1, hj => simp [fnC] at hj; subst hj; simp [Addr.add, go_sem, *]
          | 2, hj => simp [fnC] at hj; subst hj; simp [Addr.add, go_sem, *]
          | 3, hj => simp [fnC] at hj; subst hj; simp [Addr.add, go_sem, *]
          | 4, hj => simp [fnC] at hj; subst hj; simp [Addr.add, go_sem, *]
          | 5, hj => simp [fnC] at hj; subst hj; simp [Addr.add, go_sem, *]
          | j + 6, hj => simp [fnC] at hj)
        case c2 => first | rfl | (simp [go_sem]; done) | (intro u hu; simp [fnC] at hu; rcases hu with rfl | rfl | rfl | rfl | rfl | rfl <;> rfl)
        case c3 => have := HLN.out; have := HCB.out; have := HML.out; unfold maxLen; omega
        case c4 => have := HLN.out; have := HCB.out; have := HML.out; omega
        intro l' w2 hown hgr hnew
        obtain ⟨al', cl', e⟩ := own_form hown
        subst e
        have HLI2 := hid (HLI1.out.pushB (m := ⟨mf, .slice a1 mf.boxes.length c1, .slice a2 mf.caps.length c2, .slice a3 mf.code.length c3, .slice a4 mf.tries.length c4⟩) keepO HK1.out.size HM2.out (by repeat (first | exact Bw.refl _ | apply Bw.alloc | apply Bw.drewN | apply Bw.drew)) hgr hown (by simpa only [World.size_alloc] using hnew))
        have HR3 := hid ((HR1.out.bw (by repeat (first | exact Bw.refl _ | apply Bw.alloc | apply Bw.drewN | apply Bw.drew))).grown hgr HLI1.out.ob HRL.out HBA.out)
        have HK3 := hid ((HK1.out.bw (by repeat (first | exact Bw.refl _ | apply Bw.alloc | apply Bw.drewN | apply Bw.drew))).grown hgr HLI1.out.ob)
        clear hown hgr hnew
        go_wp2
        go_roundw
        case rel => exact ⟨i + 1, ms ++ [_], s2, by omega, by go_num, by simp [HML.out], HLI2.out, by rw [HE2.out, ← HM1.out]; simp, HR3.out, HK3.out⟩
        case measure => simp [intOf]; omega
      · have hf2 : ((s2.2 : Int) != 0) = true := by simp [hf]
        have HE2 := hid (show lM b (fnM b) s = ([], s2) by rw [HE.out, HNI.out, rep_bad HX.out hf])
        clear hf
        go_wp2_with (first
          | (go_at_call 62; refine (qim3_own _ HR2.out HB.out).mono ?_; rintro e w1 ⟨⟨mf, v1, v2, v3, v4⟩, rfl, hm1, hm2, hr1, hk1⟩; obtain ⟨a1, c1, e1⟩ := (show okO _ _ _ from hm2).1.b.form; obtain ⟨a2, c2, e2⟩ := (show okO _ _ _ from hm2).1.c.form; obtain ⟨a3, c3, e3⟩ := (show okO _ _ _ from hm2).1.o.form; obtain ⟨a4, c4, e4⟩ := (show okO _ _ _ from hm2).1.t.form; simp only at e1 e2 e3 e4 hm1; subst e1 e2 e3 e4; rw [HX.out] at hm1 hr1; have HR1 := hid hr1; have HK1 := hid (HK2.out.trans hk1); have y := hr1.k.cell; have yl := hr1.k.lt; clear hm1 hm2 hr1 hk1)
          | fail)
        all_goals go_ret
        all_goals refine ⟨_, [], rfl, by rw [HE2.out]; rfl, (LI.nil (k := 6) (c := fnC) (okm := okO) (T := 63) w _).rfo keepO (by simp) (fun _ => rfl), by rw [HE2.out]; exact HR1.out.bw (by repeat (first | exact Bw.refl _ | apply Bw.alloc | apply Bw.drewN | apply Bw.drew)), HK1.out.bw (by repeat (first | exact Bw.refl _ | apply Bw.alloc | apply Bw.drewN | apply Bw.drew))⟩
    · obtain rfl : i = n := by omega
      go_wp2
      all_goals go_ret
      have HE3 := hid (show lM b (fnM b) s = (ms.map (fun m => m.f), s') by rw [HE.out, Nat.sub_self, rep_zero])
      exact ⟨_, ms, rfl, by rw [HE3.out], HLI.out.rfo keepO (by have := HLN.out; have := HCB.out; have := HML.out; unfold maxLen; omega) (fun _ => rfl), by rw [HE3.out]; exact HR2.out, HK2.out⟩

end

end Go.Proofs.YtmhjfkhcpfihfaaDoor
