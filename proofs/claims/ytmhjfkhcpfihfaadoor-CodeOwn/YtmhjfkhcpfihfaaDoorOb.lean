/- The reader: lists of instructions: they are owned. -/
import Derived.Test.YtmhjfkhcpfihfaaDoorOa
set_option linter.unusedSimpArgs false
set_option linter.unusedVariables false
namespace Go.Proofs.YtmhjfkhcpfihfaaDoor
open Go Go.RowKit

section
variable {base r : Nat} {w w' : World} {vb : Value} {b : List Int} {s : St}

set_option maxRecDepth 100000 in
set_option maxHeartbeats 8000000 in
theorem rlN_own (pb : Nat) (h : RB base w r vb b s) (hp : Blk w pb #[.pointer (some ⟨r, 0, none⟩)] 78) :
    Calls Tryd.prog 82 #[.pointer (some ⟨r, 0, none⟩), .func (.func 83) #[] #[.pointer (some ⟨pb, 0, none⟩)]] w fun e w' => ∃ (v : Value) (ms : List (Int × Int × Int)), e = .returned v ∧ ms.map (fun m => m) = (lM b (insM b) s).1 ∧ RL w' (fun x => w.heap.size ≤ x) v 3 (insC) (fun m => (fun _ _ p => I64 p.1 ∧ I64 p.2.1 ∧ I64 p.2.2 : World → (Nat → Prop) → Int × Int × Int → Prop) w' (fun x => w.heap.size ≤ x) m) ms ∧ Wr w' (fun x => w.heap.size ≤ x) v ms.length ∧ RB base w' r vb b (lM b (insM b) s).2 ∧ Kp r w w' := by
  have HR := hid h
  have HP := hid hp
  have HRL := hid h.k.lt
  have HNE := hid (blk_ne hp h.k (by decide))
  have HLN := hid h.len
  obtain ⟨i1, hi1, hz1, hs1, hy1⟩ := info_parts infoEN
  have I1 := hid (And.intro hi1 (And.intro hz1 (And.intro hs1 hy1)))
  have hcb := (cM_ok b).1 s h.at_
  have HBA := hid h.base
  obtain ⟨⟨n, s0⟩, hn⟩ : ∃ x, cM b s = x := ⟨_, rfl⟩
  rw [hn] at hcb
  have HN := hid hn
  have HCB := hid (show n ≤ b.length by simp only at hcb; omega)
  have hn63 : n ≤ 9223372036854775807 := by have := h.len; have := HCB.out; omega
  have HLM := hid (show lM b (insM b) s = rep (insM b) n [] s0 by unfold lM; rw [hn])
  clear h hp hn hi1 hz1 hs1 hy1 hcb
  go_enter Tryd.func82, Tryd.ntmps82
  go_wp2_with (first
    | (go_at_call 77; refine (qcount_any HR.out).mono ?_; rintro e w1 ⟨rfl, hr1, hk1⟩; rw [HN.out] at hr1 ⊢; have HR1 := hid hr1; have HK1 := hid hk1; clear hr1 hk1)
    | fail)
  go_loopw [5, 9] (fun l j wr => ∃ (i : Nat) (ms : List (Int × Int × Int)) (s' : St), i ≤ n ∧ j = .int .i64 (i : Nat) ∧ ms.length = i ∧ LI (μ := Int × Int × Int) 28 3 (insC) (fun _ _ p => I64 p.1 ∧ I64 p.2.1 ∧ I64 p.2.2 : World → (Nat → Prop) → Int × Int × Int → Prop) w wr l ms ∧ lM b (insM b) s = rep (insM b) (n - i) (ms.map fun m => m) s' ∧ RB base wr r vb b s' ∧ Kp r w wr) (fun _ j _ => n - (intOf j).toNat)
  case atStart => exact ⟨0, [], s0, Nat.zero_le _, rfl, rfl, LI.nil _ _, HLM.out, HR1.out, HK1.out⟩
  case round =>
    obtain ⟨i, ms, s', hi, rfl, hml, hli, he, hr, hk⟩ := hrel
    have HLI := hid hli
    have HE := hid he
    have HR2 := hid hr
    have HK2 := hid hk
    have HML := hid hml
    obtain ⟨al, cl, el⟩ := hli.form
    subst el
    clear hli he hr hk hml
    by_cases hlt : i < n
    · have hlt2 : (i : Int) < (n : Int) := by omega
      have HB := hid (HP.out.kp HK2.out HNE.out)
      obtain ⟨⟨x, s2⟩, hx⟩ : ∃ x, (insM b) s' = x := ⟨_, rfl⟩
      have HX := hid hx
      have HNI := hid (show n - i = (n - (i + 1)) + 1 by omega)
      have HNB := hid (show 0 < b.length by have := HCB.out; omega)
      clear hx
      by_cases hf : s2.2 = 0
      · have hf2 : ((s2.2 : Int) != 0) = false := by simp [hf]
        have HE2 := hid (show lM b (insM b) s = rep (insM b) (n - (i + 1)) (ms.map (fun m => m) ++ [x]) s2 by rw [HE.out, HNI.out, rep_ok HX.out hf])
        clear hf
        go_wp2_with (first
          | (go_at_call 83; refine (qfu2_any _ HR2.out HB.out).mono ?_; rintro e w1 ⟨m, rfl, hm1, hm2, hr1, hk1⟩; rw [HX.out] at hm1 hr1; have HM1 := hid hm1; have HLI1 := hid (HLI.out.kp keepN hk1 HRL.out); have HM2 := hid (HLI.out.fresh (w1 := w1) (m := m) keepN hm2 HK2.out.size); have HR1 := hid hr1; have HK1 := hid (HK2.out.trans hk1); have y := hr1.k.cell; have yl := hr1.k.lt; clear hm1 hm2 hr1 hk1)
          | (at_builtin; refine wpList_append_row _ rfl _ _ 60 rfl 28 i1 (.agg #[.int .i64 0, .int .i64 0, .int .i64 0]) 3 24 undLN I1.out.1 I1.out.2.1 I1.out.2.2.1 I1.out.2.2.2 rfl (by decide) (.slice al ms.length cl) ms.length (ms.flatMap (insC)) rfl (HLI1.out.bw keepN (by repeat (first | exact Bw.refl _ | apply Bw.alloc | apply Bw.drewN | apply Bw.drew))).own _ 1 1 ((insC : Int × Int × Int → List Value) m) rfl rfl ?c1 ?c2 ?c3 ?c4 ?_)
          | fail)
        try (case c1 =>
          intro j u hj
          match j, hj with
          | 0, hj => simp [insC] at hj; subst hj; simp [Addr.add, go_sem, *]
          | 1, hj => simp [insC] at hj; subst hj; simp [Addr.add, go_sem, *]
          | 2, hj => simp [insC] at hj; subst hj; simp [Addr.add, go_sem, *]
          | j + 3, hj => simp [insC] at hj)
        case c2 => first | rfl | (simp [go_sem]; done) | (intro u hu; simp [insC] at hu; rcases hu with rfl | rfl | rfl <;> rfl)
        case c3 => have := HLN.out; have := HCB.out; have := HML.out; unfold maxLen; omega
        case c4 => have := HLN.out; have := HCB.out; have := HML.out; omega
        intro l' w2 hown hgr hnew
        obtain ⟨al', cl', e⟩ := own_form hown
        subst e
        have HLI2 := hid (HLI1.out.pushB (m := m) keepN HK1.out.size HM2.out (by repeat (first | exact Bw.refl _ | apply Bw.alloc | apply Bw.drewN | apply Bw.drew)) hgr hown (by simpa only [World.size_alloc] using hnew))
        have HR3 := hid ((HR1.out.bw (by repeat (first | exact Bw.refl _ | apply Bw.alloc | apply Bw.drewN | apply Bw.drew))).grown hgr HLI1.out.ob HRL.out HBA.out)
        have HK3 := hid ((HK1.out.bw (by repeat (first | exact Bw.refl _ | apply Bw.alloc | apply Bw.drewN | apply Bw.drew))).grown hgr HLI1.out.ob)
        clear hown hgr hnew
        go_wp2
        go_roundw
        case rel => exact ⟨i + 1, ms ++ [_], s2, by omega, by go_num, by simp [HML.out], HLI2.out, by rw [HE2.out, ← HM1.out]; simp, HR3.out, HK3.out⟩
        case measure => simp [intOf]; omega
      · have hf2 : ((s2.2 : Int) != 0) = true := by simp [hf]
        have HE2 := hid (show lM b (insM b) s = ([], s2) by rw [HE.out, HNI.out, rep_bad HX.out hf])
        clear hf
        go_wp2_with (first
          | (go_at_call 83; refine (qfu2_any _ HR2.out HB.out).mono ?_; rintro e w1 ⟨m, rfl, hm1, hm2, hr1, hk1⟩; rw [HX.out] at hm1 hr1; have HR1 := hid hr1; have HK1 := hid (HK2.out.trans hk1); have y := hr1.k.cell; have yl := hr1.k.lt; clear hm1 hm2 hr1 hk1)
          | fail)
        all_goals go_ret
        all_goals refine ⟨_, [], rfl, by rw [HE2.out]; rfl, (LI.nil (k := 3) (c := insC) (okm := (fun _ _ p => I64 p.1 ∧ I64 p.2.1 ∧ I64 p.2.2 : World → (Nat → Prop) → Int × Int × Int → Prop)) (T := 28) w _).rl keepN (by simp) (fun _ => rfl), .inl ⟨rfl, rfl⟩, by rw [HE2.out]; exact HR1.out.bw (by repeat (first | exact Bw.refl _ | apply Bw.alloc | apply Bw.drewN | apply Bw.drew)), HK1.out.bw (by repeat (first | exact Bw.refl _ | apply Bw.alloc | apply Bw.drewN | apply Bw.drew))⟩
    · obtain rfl : i = n := by omega
      go_wp2
      all_goals go_ret
      have HE3 := hid (show lM b (insM b) s = (ms.map (fun m => m), s') by rw [HE.out, Nat.sub_self, rep_zero])
      exact ⟨_, ms, rfl, by rw [HE3.out], HLI.out.rl keepN (by have := HLN.out; have := HCB.out; have := HML.out; unfold maxLen; omega) (fun _ => rfl), HLI.out.wr, by rw [HE3.out]; exact HR2.out, HK2.out⟩

end

end Go.Proofs.YtmhjfkhcpfihfaaDoor
