/- The reader: numbers, lists of them: contracts. -/
import Derived.Test.YtfhnhbpmiodomaaDoorQg
set_option linter.unusedSimpArgs false
set_option linter.unusedVariables false
namespace Go.Proofs.YtfhnhbpmiodomaaDoor
open Go Go.RowKit

theorem RL.kpn {α : Type} {N r : Nat} {w w' : World} {v : Value} {k : Nat} {c : α → List Value} {ok : α → Prop} {l : List α} (h : RL w (fun x => N ≤ x) v k c ok l) (hk : Kp r w w') (hr : r < N) : RL w' (fun x => N ≤ x) v k c ok l :=
  h.keep hk.size (fun b hb hG => hk.block b hb (by omega)) (fun _ _ g => g)
theorem RL.setn {α : Type} {N : Nat} {w : World} {v : Value} {k : Nat} {c : α → List Value} {ok : α → Prop} {l : List α} (h : RL w (fun x => N ≤ x) v k c ok l) {g : Nat} (hg : g < N) (j : Nat) (u : Value) : RL (w.setCell ⟨g, j, none⟩ u) (fun x => N ≤ x) v k c ok l :=
  h.keep (by simp [World.setCell]) (fun b hb hG => Below.heap_setCell w ⟨g, j, none⟩ u b (show b ≠ g by omega)) (fun _ _ g => g)
theorem RL.low {α : Type} {N M : Nat} {w : World} {v : Value} {k : Nat} {c : α → List Value} {ok : α → Prop} {l : List α} (h : RL w (fun x => M ≤ x) v k c ok l) (hl : N ≤ M) : RL w (fun x => N ≤ x) v k c ok l :=
  h.keep (Nat.le_refl _) (fun _ _ _ => rfl) (fun b _ hb => Nat.le_trans hl hb)

section
variable {base r : Nat} {w w' : World} {vb : Value} {b : List Int} {s : St}

set_option maxRecDepth 100000 in
set_option maxHeartbeats 8000000 in
theorem qnumbers_any (h : RB base w r vb b s) :
    Calls Tryd.prog 51 #[.pointer (some ⟨r, 0, none⟩)] w fun e w' => ∃ v, e = .returned v ∧ RInts w' (fun x => w.heap.size ≤ x) v (lM b (nM b) s).1 ∧ RB base w' r vb b (lM b (nM b) s).2 ∧ Kp r w w' := by
  have HW0 := hid (show Bw w (w.alloc (.cells #[.pointer (some ⟨r, 0, none⟩)] 63)) from Bw.alloc (Bw.refl w) _)
  have HR := hid (h.bw HW0.out)
  have HP := hid (Blk.new w #[.pointer (some ⟨r, 0, none⟩)] 63)
  clear h
  go_enter Tryd.func51, Tryd.ntmps51
  go_wp2_with (first
    | (go_at_call 70; refine (rlI_any _ HR.out HP.out).mono ?_; rintro e w1 ⟨v, ms, rfl, hm1, hm2, hr1, hk1⟩; have HM1 := hid hm1; have HM2 := hid hm2; have HR1 := hid hr1; have HK1 := hid (Kp.trans (Kp.of_bw HW0.out) hk1); clear hm1 hm2 hr1 hk1)
    | fail)
  all_goals go_ret
  have hm : ms = (lM b (nM b) s).1 := by simpa using HM1.out
  exact ⟨_, rfl, by rw [← hm]; exact HM2.out.low (by simp only [World.size_alloc]; omega), HR1.out, HK1.out⟩

set_option maxRecDepth 100000 in
set_option maxHeartbeats 8000000 in
theorem qim2_any (pb : Nat) (h : RB base w r vb b s) (hp : Blk w pb #[.pointer (some ⟨r, 0, none⟩)] 63) :
    Calls Tryd.prog 50 #[.pointer (some ⟨pb, 0, none⟩)] w fun e w' => ∃ m : List Int × Value, e = .returned (m.2) ∧ m.1 = (lM b (nM b) s).1 ∧ (fun w G m => RInts w G m.2 m.1 : World → (Nat → Prop) → List Int × Value → Prop) w' (fun x => w.heap.size ≤ x) m ∧ RB base w' r vb b (lM b (nM b) s).2 ∧ Kp r w w' := by
  have HR := hid h
  have z := hp.cell 0
  have zl := hp.lt
  clear h hp
  go_enter Tryd.func50, Tryd.ntmps50
  go_wp2_with (first
    | (go_at_call 51; refine (qnumbers_any HR.out).mono ?_; rintro e w1 ⟨v, rfl, hm2, hr1, hk1⟩; have HM2 := hid hm2; have HR1 := hid hr1; have HK1 := hid hk1; clear hm2 hr1 hk1)
    | fail)
  all_goals go_ret
  all_goals exact ⟨(_, _), rfl, rfl, HM2.out, HR1.out, HK1.out⟩

theorem infoEL : (Tryd.prog.info? 42).map (fun i => (i.zero, i.size, i.bytes)) = some (some (.slice none 0 0), 1, 24) := by kernel_rfl
theorem undLL : Tryd.prog.underlying 24 = some (.slice 42) := by kernel_rfl
theorem keepL : KeepOk (μ := List Int × Value) (fun w G m => RInts w G m.2 m.1 : World → (Nat → Prop) → List Int × Value → Prop) := fun _ _ _ _ _ h hs hb hG => RL.keep h hs hb hG
set_option maxRecDepth 100000 in
set_option maxHeartbeats 8000000 in
theorem rlL_any (pb : Nat) (h : RB base w r vb b s) (hp : Blk w pb #[.pointer (some ⟨r, 0, none⟩)] 63) :
    Calls Tryd.prog 49 #[.pointer (some ⟨r, 0, none⟩), .func (.func 50) #[] #[.pointer (some ⟨pb, 0, none⟩)]] w fun e w' => ∃ (v : Value) (ms : List (List Int × Value)), e = .returned v ∧ ms.map (fun m => m.1) = (lM b (lM b (nM b)) s).1 ∧ RL w' (fun x => w.heap.size ≤ x) v 1 (fun m => [m.2]) (fun m => (fun w G m => RInts w G m.2 m.1 : World → (Nat → Prop) → List Int × Value → Prop) w' (fun x => w.heap.size ≤ x) m) ms ∧ RB base w' r vb b (lM b (lM b (nM b)) s).2 ∧ Kp r w w' := by
  have HR := hid h
  have HP := hid hp
  have HRL := hid h.k.lt
  have HNE := hid (blk_ne hp h.k (by decide))
  have HLN := hid h.len
  obtain ⟨i1, hi1, hz1, hs1, hy1⟩ := info_parts infoEL
  have I1 := hid (And.intro hi1 (And.intro hz1 (And.intro hs1 hy1)))
  have hcb := (cM_ok b).1 s h.at_
  have HBA := hid h.base
  obtain ⟨⟨n, s0⟩, hn⟩ : ∃ x, cM b s = x := ⟨_, rfl⟩
  rw [hn] at hcb
  have HN := hid hn
  have HCB := hid (show n ≤ b.length by simp only at hcb; omega)
  have hn63 : n ≤ 9223372036854775807 := by have := h.len; have := HCB.out; omega
  have HLM := hid (show lM b (lM b (nM b)) s = rep (lM b (nM b)) n [] s0 by unfold lM; rw [hn])
  clear h hp hn hi1 hz1 hs1 hy1 hcb
  go_enter Tryd.func49, Tryd.ntmps49
  go_wp2_with (first
    | (go_at_call 69; refine (qcount_any HR.out).mono ?_; rintro e w1 ⟨rfl, hr1, hk1⟩; rw [HN.out] at hr1 ⊢; have HR1 := hid hr1; have HK1 := hid hk1; clear hr1 hk1)
    | fail)
  go_loopw [5, 9] (fun l j wr => ∃ (i : Nat) (ms : List (List Int × Value)) (s' : St), i ≤ n ∧ j = .int .i64 (i : Nat) ∧ ms.length = i ∧ LI (μ := List Int × Value) 42 1 (fun m => [m.2]) (fun w G m => RInts w G m.2 m.1 : World → (Nat → Prop) → List Int × Value → Prop) w wr l ms ∧ lM b (lM b (nM b)) s = rep (lM b (nM b)) (n - i) (ms.map fun m => m.1) s' ∧ RB base wr r vb b s' ∧ Kp r w wr) (fun _ j _ => n - (intOf j).toNat)
  case atStart => exact ⟨0, [], s0, Nat.zero_le _, rfl, rfl, LI.nil _ _, HLM.out, HR1.out, HK1.out⟩
  case round =>
    obtain ⟨i, ms, s', hi, rfl, hml, hli, he, hr, hk⟩ := hrel
    have HLI := hid hli
    have HE := hid he
    have HR2 := hid hr
    have HK2 := hid hk
    have HML := hid hml
    obtain ⟨al, cl, el⟩ := hli.form
    subst el
    clear hli he hr hk hml
    by_cases hlt : i < n
    · have hlt2 : (i : Int) < (n : Int) := by omega
      have HB := hid (HP.out.kp HK2.out HNE.out)
      obtain ⟨⟨x, s2⟩, hx⟩ : ∃ x, (lM b (nM b)) s' = x := ⟨_, rfl⟩
      have HX := hid hx
      have HNI := hid (show n - i = (n - (i + 1)) + 1 by omega)
      have HNB := hid (show 0 < b.length by have := HCB.out; omega)
      clear hx
      by_cases hf : s2.2 = 0
      · have hf2 : ((s2.2 : Int) != 0) = false := by simp [hf]
        have HE2 := hid (show lM b (lM b (nM b)) s = rep (lM b (nM b)) (n - (i + 1)) (ms.map (fun m => m.1) ++ [x]) s2 by rw [HE.out, HNI.out, rep_ok HX.out hf])
        clear hf
        go_wp2_with (first
          | (go_at_call 50; refine (qim2_any _ HR2.out HB.out).mono ?_; rintro e w1 ⟨⟨ml, mv⟩, rfl, hm1, hm2, hr1, hk1⟩; obtain ⟨ae, ce, ee⟩ := RL.form hm2; simp only at ee hm1; subst ee; rw [HX.out] at hm1 hr1; have HM1 := hid hm1; have HLI1 := hid (HLI.out.kp keepL hk1 HRL.out); have HM2 := hid (HLI.out.fresh (w1 := w1) (m := (ml, .slice ae ml.length ce)) keepL hm2 HK2.out.size); have HR1 := hid hr1; have HK1 := hid (HK2.out.trans hk1); have y := hr1.k.cell; have yl := hr1.k.lt; clear hm1 hm2 hr1 hk1)
          | (at_builtin; refine wpList_append_row _ rfl _ _ 24 rfl 42 i1 (.slice none 0 0) 1 24 undLL I1.out.1 I1.out.2.1 I1.out.2.2.1 I1.out.2.2.2 rfl (by decide) (.slice al ms.length cl) ms.length (ms.flatMap (fun m => [m.2])) rfl (HLI1.out.bw keepL (by repeat (first | exact Bw.refl _ | apply Bw.alloc | apply Bw.drewN | apply Bw.drew))).own _ 1 1 ((fun m => [m.2] : List Int × Value → List Value) (ml, .slice ae ml.length ce)) rfl rfl ?c1 ?c2 ?c3 ?c4 ?_)
          | fail)
        try (case c1 =>
          intro j u hj
          match j, hj with
          | 0, hj => simp at hj; subst hj; simp [Addr.add, go_sem, *])
        case c2 => first | rfl | (simp [go_sem]; done) | (intro u hu; simp at hu; subst hu; rfl)
        case c3 => have := HLN.out; have := HCB.out; have := HML.out; unfold maxLen; omega
        case c4 => have := HLN.out; have := HCB.out; have := HML.out; omega
        intro l' w2 hown hgr hnew
        obtain ⟨al', cl', e⟩ := own_form hown
        subst e
        have HLI2 := hid (HLI1.out.pushB (m := (ml, .slice ae ml.length ce)) keepL HK1.out.size HM2.out (by repeat (first | exact Bw.refl _ | apply Bw.alloc | apply Bw.drewN | apply Bw.drew)) hgr hown (by simpa only [World.size_alloc] using hnew))
        have HR3 := hid ((HR1.out.bw (by repeat (first | exact Bw.refl _ | apply Bw.alloc | apply Bw.drewN | apply Bw.drew))).grown hgr HLI1.out.ob HRL.out HBA.out)
        have HK3 := hid ((HK1.out.bw (by repeat (first | exact Bw.refl _ | apply Bw.alloc | apply Bw.drewN | apply Bw.drew))).grown hgr HLI1.out.ob)
        clear hown hgr hnew
        go_wp2
        go_roundw
        case rel => exact ⟨i + 1, ms ++ [_], s2, by omega, by go_num, by simp [HML.out], HLI2.out, by rw [HE2.out, ← HM1.out]; simp, HR3.out, HK3.out⟩
        case measure => simp [intOf]; omega
      · have hf2 : ((s2.2 : Int) != 0) = true := by simp [hf]
        have HE2 := hid (show lM b (lM b (nM b)) s = ([], s2) by rw [HE.out, HNI.out, rep_bad HX.out hf])
        clear hf
        go_wp2_with (first
          | (go_at_call 50; refine (qim2_any _ HR2.out HB.out).mono ?_; rintro e w1 ⟨⟨ml, mv⟩, rfl, hm1, hm2, hr1, hk1⟩; obtain ⟨ae, ce, ee⟩ := RL.form hm2; simp only at ee hm1; subst ee; rw [HX.out] at hm1 hr1; have HR1 := hid hr1; have HK1 := hid (HK2.out.trans hk1); have y := hr1.k.cell; have yl := hr1.k.lt; clear hm1 hm2 hr1 hk1)
          | fail)
        all_goals go_ret
        all_goals refine ⟨_, [], rfl, by rw [HE2.out]; rfl, (LI.nil (k := 1) (c := fun m => [m.2]) (okm := (fun w G m => RInts w G m.2 m.1 : World → (Nat → Prop) → List Int × Value → Prop)) (T := 42) w _).rl keepL (by simp) (fun _ => rfl), by rw [HE2.out]; exact HR1.out.bw (by repeat (first | exact Bw.refl _ | apply Bw.alloc | apply Bw.drewN | apply Bw.drew)), HK1.out.bw (by repeat (first | exact Bw.refl _ | apply Bw.alloc | apply Bw.drewN | apply Bw.drew))⟩
    · obtain rfl : i = n := by omega
      go_wp2
      all_goals go_ret
      have HE3 := hid (show lM b (lM b (nM b)) s = (ms.map (fun m => m.1), s') by rw [HE.out, Nat.sub_self, rep_zero])
      exact ⟨_, ms, rfl, by rw [HE3.out], HLI.out.rl keepL (by have := HLN.out; have := HCB.out; have := HML.out; unfold maxLen; omega) (fun _ => rfl), by rw [HE3.out]; exact HR2.out, HK2.out⟩

end

end Go.Proofs.YtfhnhbpmiodomaaDoor
