/- The reader: lists of caps, instructions, tries: contracts. -/
import Derived.Test.YtfhnhbpmiodomaaDoorQf
set_option linter.unusedSimpArgs false
set_option linter.unusedVariables false
namespace Go.Proofs.YtfhnhbpmiodomaaDoor
open Go Go.RowKit

section
variable {base r : Nat} {w w' : World} {vb : Value} {b : List Int} {s : St}

theorem infoEC : (Tryd.prog.info? 90).map (fun i => (i.zero, i.size, i.bytes)) = some (some (.agg #[.int .i64 0, .int .i64 0]), 2, 16) := by kernel_rfl
theorem undLC : Tryd.prog.underlying 43 = some (.slice 90) := by kernel_rfl
theorem keepC : KeepOk (μ := Int × Int) (fun _ _ p => I64 p.1 ∧ I64 p.2 : World → (Nat → Prop) → Int × Int → Prop) := fun _ _ _ _ _ h _ _ _ => h
set_option maxRecDepth 100000 in
set_option maxHeartbeats 8000000 in
theorem rlC_any (pb : Nat) (h : RB base w r vb b s) (hp : Blk w pb #[.pointer (some ⟨r, 0, none⟩)] 63) :
    Calls Tryd.prog 72 #[.pointer (some ⟨r, 0, none⟩), .func (.func 73) #[] #[.pointer (some ⟨pb, 0, none⟩)]] w fun e w' => ∃ (v : Value) (ms : List (Int × Int)), e = .returned v ∧ ms.map (fun m => m) = (lM b (capM b) s).1 ∧ RL w' (fun x => w.heap.size ≤ x) v 2 (capC) (fun m => (fun _ _ p => I64 p.1 ∧ I64 p.2 : World → (Nat → Prop) → Int × Int → Prop) w' (fun x => w.heap.size ≤ x) m) ms ∧ RB base w' r vb b (lM b (capM b) s).2 ∧ Kp r w w' := by
  have HR := hid h
  have HP := hid hp
  have HRL := hid h.k.lt
  have HNE := hid (blk_ne hp h.k (by decide))
  have HLN := hid h.len
  obtain ⟨i1, hi1, hz1, hs1, hy1⟩ := info_parts infoEC
  have I1 := hid (And.intro hi1 (And.intro hz1 (And.intro hs1 hy1)))
  have hcb := (cM_ok b).1 s h.at_
  have HBA := hid h.base
  obtain ⟨⟨n, s0⟩, hn⟩ : ∃ x, cM b s = x := ⟨_, rfl⟩
  rw [hn] at hcb
  have HN := hid hn
  have HCB := hid (show n ≤ b.length by simp only at hcb; omega)
  have hn63 : n ≤ 9223372036854775807 := by have := h.len; have := HCB.out; omega
  have HLM := hid (show lM b (capM b) s = rep (capM b) n [] s0 by unfold lM; rw [hn])
  clear h hp hn hi1 hz1 hs1 hy1 hcb
  go_enter Tryd.func72, Tryd.ntmps72
  go_wp2_with (first
    | (go_at_call 69; refine (qcount_any HR.out).mono ?_; rintro e w1 ⟨rfl, hr1, hk1⟩; rw [HN.out] at hr1 ⊢; have HR1 := hid hr1; have HK1 := hid hk1; clear hr1 hk1)
    | fail)
  go_loopw [5, 9] (fun l j wr => ∃ (i : Nat) (ms : List (Int × Int)) (s' : St), i ≤ n ∧ j = .int .i64 (i : Nat) ∧ ms.length = i ∧ LI (μ := Int × Int) 90 2 (capC) (fun _ _ p => I64 p.1 ∧ I64 p.2 : World → (Nat → Prop) → Int × Int → Prop) w wr l ms ∧ lM b (capM b) s = rep (capM b) (n - i) (ms.map fun m => m) s' ∧ RB base wr r vb b s' ∧ Kp r w wr) (fun _ j _ => n - (intOf j).toNat)
  case atStart => exact ⟨0, [], s0, Nat.zero_le _, rfl, rfl, LI.nil _ _, HLM.out, HR1.out, HK1.out⟩
  case round =>
    obtain ⟨i, ms, s', hi, rfl, hml, hli, he, hr, hk⟩ := hrel
    have HLI := hid hli
    have HE := hid he
    have HR2 := hid hr
    have HK2 := hid hk
    have HML := hid hml
    obtain ⟨al, cl, el⟩ := hli.form
    subst el
    clear hli he hr hk hml
    by_cases hlt : i < n
    · have hlt2 : (i : Int) < (n : Int) := by omega
      have HB := hid (HP.out.kp HK2.out HNE.out)
      obtain ⟨⟨x, s2⟩, hx⟩ : ∃ x, (capM b) s' = x := ⟨_, rfl⟩
      have HX := hid hx
      have HNI := hid (show n - i = (n - (i + 1)) + 1 by omega)
      have HNB := hid (show 0 < b.length by have := HCB.out; omega)
      clear hx
      by_cases hf : s2.2 = 0
      · have hf2 : ((s2.2 : Int) != 0) = false := by simp [hf]
        have HE2 := hid (show lM b (capM b) s = rep (capM b) (n - (i + 1)) (ms.map (fun m => m) ++ [x]) s2 by rw [HE.out, HNI.out, rep_ok HX.out hf])
        clear hf
        go_wp2_with (first
          | (go_at_call 73; refine (qfu1_any _ HR2.out HB.out).mono ?_; rintro e w1 ⟨m, rfl, hm1, hm2, hr1, hk1⟩; rw [HX.out] at hm1 hr1; have HM1 := hid hm1; have HLI1 := hid (HLI.out.kp keepC hk1 HRL.out); have HM2 := hid (HLI.out.fresh (w1 := w1) (m := m) keepC hm2 HK2.out.size); have HR1 := hid hr1; have HK1 := hid (HK2.out.trans hk1); have y := hr1.k.cell; have yl := hr1.k.lt; clear hm1 hm2 hr1 hk1)
          | (at_builtin; refine wpList_append_row _ rfl _ _ 43 rfl 90 i1 (.agg #[.int .i64 0, .int .i64 0]) 2 16 undLC I1.out.1 I1.out.2.1 I1.out.2.2.1 I1.out.2.2.2 rfl (by decide) (.slice al ms.length cl) ms.length (ms.flatMap (capC)) rfl (HLI1.out.bw keepC (by repeat (first | exact Bw.refl _ | apply Bw.alloc | apply Bw.drewN | apply Bw.drew))).own _ 1 1 ((capC : Int × Int → List Value) m) rfl rfl ?c1 ?c2 ?c3 ?c4 ?_)
          | fail)
        try (case c1 =>
          intro j u hj
          match j, hj with
          | 0, hj => simp [capC] at hj; subst hj; simp [Addr.add, go_sem, *]
          | 1, hj => simp [capC] at hj; subst hj; simp [Addr.add, go_sem, *]
          | j + 2, hj => simp [capC] at hj)
        case c2 => first | rfl | (simp [go_sem]; done) | (intro u hu; simp [capC] at hu; rcases hu with rfl | rfl <;> rfl)
        case c3 => have := HLN.out; have := HCB.out; have := HML.out; unfold maxLen; omega
        case c4 => have := HLN.out; have := HCB.out; have := HML.out; omega
        intro l' w2 hown hgr hnew
        obtain ⟨al', cl', e⟩ := own_form hown
        subst e
        have HLI2 := hid (HLI1.out.pushB (m := m) keepC HK1.out.size HM2.out (by repeat (first | exact Bw.refl _ | apply Bw.alloc | apply Bw.drewN | apply Bw.drew)) hgr hown (by simpa only [World.size_alloc] using hnew))
        have HR3 := hid ((HR1.out.bw (by repeat (first | exact Bw.refl _ | apply Bw.alloc | apply Bw.drewN | apply Bw.drew))).grown hgr HLI1.out.ob HRL.out HBA.out)
        have HK3 := hid ((HK1.out.bw (by repeat (first | exact Bw.refl _ | apply Bw.alloc | apply Bw.drewN | apply Bw.drew))).grown hgr HLI1.out.ob)
        clear hown hgr hnew
        go_wp2
        go_roundw
        case rel => exact ⟨i + 1, ms ++ [_], s2, by omega, by go_num, by simp [HML.out], HLI2.out, by rw [HE2.out, ← HM1.out]; simp, HR3.out, HK3.out⟩
        case measure => simp [intOf]; omega
      · have hf2 : ((s2.2 : Int) != 0) = true := by simp [hf]
        have HE2 := hid (show lM b (capM b) s = ([], s2) by rw [HE.out, HNI.out, rep_bad HX.out hf])
        clear hf
        go_wp2_with (first
          | (go_at_call 73; refine (qfu1_any _ HR2.out HB.out).mono ?_; rintro e w1 ⟨m, rfl, hm1, hm2, hr1, hk1⟩; rw [HX.out] at hm1 hr1; have HR1 := hid hr1; have HK1 := hid (HK2.out.trans hk1); have y := hr1.k.cell; have yl := hr1.k.lt; clear hm1 hm2 hr1 hk1)
          | fail)
        all_goals go_ret
        all_goals refine ⟨_, [], rfl, by rw [HE2.out]; rfl, (LI.nil (k := 2) (c := capC) (okm := (fun _ _ p => I64 p.1 ∧ I64 p.2 : World → (Nat → Prop) → Int × Int → Prop)) (T := 90) w _).rl keepC (by simp) (fun _ => rfl), by rw [HE2.out]; exact HR1.out.bw (by repeat (first | exact Bw.refl _ | apply Bw.alloc | apply Bw.drewN | apply Bw.drew)), HK1.out.bw (by repeat (first | exact Bw.refl _ | apply Bw.alloc | apply Bw.drewN | apply Bw.drew))⟩
    · obtain rfl : i = n := by omega
      go_wp2
      all_goals go_ret
      have HE3 := hid (show lM b (capM b) s = (ms.map (fun m => m), s') by rw [HE.out, Nat.sub_self, rep_zero])
      exact ⟨_, ms, rfl, by rw [HE3.out], HLI.out.rl keepC (by have := HLN.out; have := HCB.out; have := HML.out; unfold maxLen; omega) (fun _ => rfl), by rw [HE3.out]; exact HR2.out, HK2.out⟩

theorem infoEN : (Tryd.prog.info? 51).map (fun i => (i.zero, i.size, i.bytes)) = some (some (.agg #[.int .i64 0, .int .i64 0, .int .i64 0]), 3, 24) := by kernel_rfl
theorem undLN : Tryd.prog.underlying 44 = some (.slice 51) := by kernel_rfl
theorem keepN : KeepOk (μ := Int × Int × Int) (fun _ _ p => I64 p.1 ∧ I64 p.2.1 ∧ I64 p.2.2 : World → (Nat → Prop) → Int × Int × Int → Prop) := fun _ _ _ _ _ h _ _ _ => h
set_option maxRecDepth 100000 in
set_option maxHeartbeats 8000000 in
theorem rlN_any (pb : Nat) (h : RB base w r vb b s) (hp : Blk w pb #[.pointer (some ⟨r, 0, none⟩)] 63) :
    Calls Tryd.prog 74 #[.pointer (some ⟨r, 0, none⟩), .func (.func 75) #[] #[.pointer (some ⟨pb, 0, none⟩)]] w fun e w' => ∃ (v : Value) (ms : List (Int × Int × Int)), e = .returned v ∧ ms.map (fun m => m) = (lM b (insM b) s).1 ∧ RL w' (fun x => w.heap.size ≤ x) v 3 (insC) (fun m => (fun _ _ p => I64 p.1 ∧ I64 p.2.1 ∧ I64 p.2.2 : World → (Nat → Prop) → Int × Int × Int → Prop) w' (fun x => w.heap.size ≤ x) m) ms ∧ RB base w' r vb b (lM b (insM b) s).2 ∧ Kp r w w' := by
  have HR := hid h
  have HP := hid hp
  have HRL := hid h.k.lt
  have HNE := hid (blk_ne hp h.k (by decide))
  have HLN := hid h.len
  obtain ⟨i1, hi1, hz1, hs1, hy1⟩ := info_parts infoEN
  have I1 := hid (And.intro hi1 (And.intro hz1 (And.intro hs1 hy1)))
  have hcb := (cM_ok b).1 s h.at_
  have HBA := hid h.base
  obtain ⟨⟨n, s0⟩, hn⟩ : ∃ x, cM b s = x := ⟨_, rfl⟩
  rw [hn] at hcb
  have HN := hid hn
  have HCB := hid (show n ≤ b.length by simp only at hcb; omega)
  have hn63 : n ≤ 9223372036854775807 := by have := h.len; have := HCB.out; omega
  have HLM := hid (show lM b (insM b) s = rep (insM b) n [] s0 by unfold lM; rw [hn])
  clear h hp hn hi1 hz1 hs1 hy1 hcb
  go_enter Tryd.func74, Tryd.ntmps74
  go_wp2_with (first
    | (go_at_call 69; refine (qcount_any HR.out).mono ?_; rintro e w1 ⟨rfl, hr1, hk1⟩; rw [HN.out] at hr1 ⊢; have HR1 := hid hr1; have HK1 := hid hk1; clear hr1 hk1)
    | fail)
  go_loopw [5, 9] (fun l j wr => ∃ (i : Nat) (ms : List (Int × Int × Int)) (s' : St), i ≤ n ∧ j = .int .i64 (i : Nat) ∧ ms.length = i ∧ LI (μ := Int × Int × Int) 51 3 (insC) (fun _ _ p => I64 p.1 ∧ I64 p.2.1 ∧ I64 p.2.2 : World → (Nat → Prop) → Int × Int × Int → Prop) w wr l ms ∧ lM b (insM b) s = rep (insM b) (n - i) (ms.map fun m => m) s' ∧ RB base wr r vb b s' ∧ Kp r w wr) (fun _ j _ => n - (intOf j).toNat)
  case atStart => exact ⟨0, [], s0, Nat.zero_le _, rfl, rfl, LI.nil _ _, HLM.out, HR1.out, HK1.out⟩
  case round =>
    obtain ⟨i, ms, s', hi, rfl, hml, hli, he, hr, hk⟩ := hrel
    have HLI := hid hli
    have HE := hid he
    have HR2 := hid hr
    have HK2 := hid hk
    have HML := hid hml
    obtain ⟨al, cl, el⟩ := hli.form
    subst el
    clear hli he hr hk hml
    by_cases hlt : i < n
    · have hlt2 : (i : Int) < (n : Int) := by omega
      have HB := hid (HP.out.kp HK2.out HNE.out)
      obtain ⟨⟨x, s2⟩, hx⟩ : ∃ x, (insM b) s' = x := ⟨_, rfl⟩
      have HX := hid hx
      have HNI := hid (show n - i = (n - (i + 1)) + 1 by omega)
      have HNB := hid (show 0 < b.length by have := HCB.out; omega)
      clear hx
      by_cases hf : s2.2 = 0
      · have hf2 : ((s2.2 : Int) != 0) = false := by simp [hf]
        have HE2 := hid (show lM b (insM b) s = rep (insM b) (n - (i + 1)) (ms.map (fun m => m) ++ [x]) s2 by rw [HE.out, HNI.out, rep_ok HX.out hf])
        clear hf
        go_wp2_with (first
          | (go_at_call 75; refine (qfu2_any _ HR2.out HB.out).mono ?_; rintro e w1 ⟨m, rfl, hm1, hm2, hr1, hk1⟩; rw [HX.out] at hm1 hr1; have HM1 := hid hm1; have HLI1 := hid (HLI.out.kp keepN hk1 HRL.out); have HM2 := hid (HLI.out.fresh (w1 := w1) (m := m) keepN hm2 HK2.out.size); have HR1 := hid hr1; have HK1 := hid (HK2.out.trans hk1); have y := hr1.k.cell; have yl := hr1.k.lt; clear hm1 hm2 hr1 hk1)
          | (at_builtin; refine wpList_append_row _ rfl _ _ 44 rfl 51 i1 (.agg #[.int .i64 0, .int .i64 0, .int .i64 0]) 3 24 undLN I1.out.1 I1.out.2.1 I1.out.2.2.1 I1.out.2.2.2 rfl (by decide) (.slice al ms.length cl) ms.length (ms.flatMap (insC)) rfl (HLI1.out.bw keepN (by repeat (first | exact Bw.refl _ | apply Bw.alloc | apply Bw.drewN | apply Bw.drew))).own _ 1 1 ((insC : Int × Int × Int → List Value) m) rfl rfl ?c1 ?c2 ?c3 ?c4 ?_)
          | fail)
        try (case c1 =>
          intro j u hj
          match j, hj with
          | 0, hj => simp [insC] at hj; subst hj; simp [Addr.add, go_sem, *]
          | 1, hj => simp [insC] at hj; subst hj; simp [Addr.add, go_sem, *]
          | 2, hj => simp [insC] at hj; subst hj; simp [Addr.add, go_sem, *]
          | j + 3, hj => simp [insC] at hj)
        case c2 => first | rfl | (simp [go_sem]; done) | (intro u hu; simp [insC] at hu; rcases hu with rfl | rfl | rfl <;> rfl)
        case c3 => have := HLN.out; have := HCB.out; have := HML.out; unfold maxLen; omega
        case c4 => have := HLN.out; have := HCB.out; have := HML.out; omega
        intro l' w2 hown hgr hnew
        obtain ⟨al', cl', e⟩ := own_form hown
        subst e
        have HLI2 := hid (HLI1.out.pushB (m := m) keepN HK1.out.size HM2.out (by repeat (first | exact Bw.refl _ | apply Bw.alloc | apply Bw.drewN | apply Bw.drew)) hgr hown (by simpa only [World.size_alloc] using hnew))
        have HR3 := hid ((HR1.out.bw (by repeat (first | exact Bw.refl _ | apply Bw.alloc | apply Bw.drewN | apply Bw.drew))).grown hgr HLI1.out.ob HRL.out HBA.out)
        have HK3 := hid ((HK1.out.bw (by repeat (first | exact Bw.refl _ | apply Bw.alloc | apply Bw.drewN | apply Bw.drew))).grown hgr HLI1.out.ob)
        clear hown hgr hnew
        go_wp2
        go_roundw
        case rel => exact ⟨i + 1, ms ++ [_], s2, by omega, by go_num, by simp [HML.out], HLI2.out, by rw [HE2.out, ← HM1.out]; simp, HR3.out, HK3.out⟩
        case measure => simp [intOf]; omega
      · have hf2 : ((s2.2 : Int) != 0) = true := by simp [hf]
        have HE2 := hid (show lM b (insM b) s = ([], s2) by rw [HE.out, HNI.out, rep_bad HX.out hf])
        clear hf
        go_wp2_with (first
          | (go_at_call 75; refine (qfu2_any _ HR2.out HB.out).mono ?_; rintro e w1 ⟨m, rfl, hm1, hm2, hr1, hk1⟩; rw [HX.out] at hm1 hr1; have HR1 := hid hr1; have HK1 := hid (HK2.out.trans hk1); have y := hr1.k.cell; have yl := hr1.k.lt; clear hm1 hm2 hr1 hk1)
          | fail)
        all_goals go_ret
        all_goals refine ⟨_, [], rfl, by rw [HE2.out]; rfl, (LI.nil (k := 3) (c := insC) (okm := (fun _ _ p => I64 p.1 ∧ I64 p.2.1 ∧ I64 p.2.2 : World → (Nat → Prop) → Int × Int × Int → Prop)) (T := 51) w _).rl keepN (by simp) (fun _ => rfl), by rw [HE2.out]; exact HR1.out.bw (by repeat (first | exact Bw.refl _ | apply Bw.alloc | apply Bw.drewN | apply Bw.drew)), HK1.out.bw (by repeat (first | exact Bw.refl _ | apply Bw.alloc | apply Bw.drewN | apply Bw.drew))⟩
    · obtain rfl : i = n := by omega
      go_wp2
      all_goals go_ret
      have HE3 := hid (show lM b (insM b) s = (ms.map (fun m => m), s') by rw [HE.out, Nat.sub_self, rep_zero])
      exact ⟨_, ms, rfl, by rw [HE3.out], HLI.out.rl keepN (by have := HLN.out; have := HCB.out; have := HML.out; unfold maxLen; omega) (fun _ => rfl), by rw [HE3.out]; exact HR2.out, HK2.out⟩

theorem infoET : (Tryd.prog.info? 92).map (fun i => (i.zero, i.size, i.bytes)) = some (some (.agg #[.int .i64 0, .int .i64 0, .int .i64 0, .int .i64 0]), 4, 32) := by kernel_rfl
theorem undLT : Tryd.prog.underlying 45 = some (.slice 92) := by kernel_rfl
theorem keepT : KeepOk (μ := Int × Int × Int × Int) (fun _ _ p => I64 p.1 ∧ I64 p.2.1 ∧ I64 p.2.2.1 ∧ I64 p.2.2.2 : World → (Nat → Prop) → Int × Int × Int × Int → Prop) := fun _ _ _ _ _ h _ _ _ => h
set_option maxRecDepth 100000 in
set_option maxHeartbeats 8000000 in
theorem rlT_any (pb : Nat) (h : RB base w r vb b s) (hp : Blk w pb #[.pointer (some ⟨r, 0, none⟩)] 63) :
    Calls Tryd.prog 77 #[.pointer (some ⟨r, 0, none⟩), .func (.func 78) #[] #[.pointer (some ⟨pb, 0, none⟩)]] w fun e w' => ∃ (v : Value) (ms : List (Int × Int × Int × Int)), e = .returned v ∧ ms.map (fun m => m) = (lM b (tryM b) s).1 ∧ RL w' (fun x => w.heap.size ≤ x) v 4 (tryC) (fun m => (fun _ _ p => I64 p.1 ∧ I64 p.2.1 ∧ I64 p.2.2.1 ∧ I64 p.2.2.2 : World → (Nat → Prop) → Int × Int × Int × Int → Prop) w' (fun x => w.heap.size ≤ x) m) ms ∧ RB base w' r vb b (lM b (tryM b) s).2 ∧ Kp r w w' := by
  have HR := hid h
  have HP := hid hp
  have HRL := hid h.k.lt
  have HNE := hid (blk_ne hp h.k (by decide))
  have HLN := hid h.len
  obtain ⟨i1, hi1, hz1, hs1, hy1⟩ := info_parts infoET
  have I1 := hid (And.intro hi1 (And.intro hz1 (And.intro hs1 hy1)))
  have hcb := (cM_ok b).1 s h.at_
  have HBA := hid h.base
  obtain ⟨⟨n, s0⟩, hn⟩ : ∃ x, cM b s = x := ⟨_, rfl⟩
  rw [hn] at hcb
  have HN := hid hn
  have HCB := hid (show n ≤ b.length by simp only at hcb; omega)
  have hn63 : n ≤ 9223372036854775807 := by have := h.len; have := HCB.out; omega
  have HLM := hid (show lM b (tryM b) s = rep (tryM b) n [] s0 by unfold lM; rw [hn])
  clear h hp hn hi1 hz1 hs1 hy1 hcb
  go_enter Tryd.func77, Tryd.ntmps77
  go_wp2_with (first
    | (go_at_call 69; refine (qcount_any HR.out).mono ?_; rintro e w1 ⟨rfl, hr1, hk1⟩; rw [HN.out] at hr1 ⊢; have HR1 := hid hr1; have HK1 := hid hk1; clear hr1 hk1)
    | fail)
  go_loopw [5, 9] (fun l j wr => ∃ (i : Nat) (ms : List (Int × Int × Int × Int)) (s' : St), i ≤ n ∧ j = .int .i64 (i : Nat) ∧ ms.length = i ∧ LI (μ := Int × Int × Int × Int) 92 4 (tryC) (fun _ _ p => I64 p.1 ∧ I64 p.2.1 ∧ I64 p.2.2.1 ∧ I64 p.2.2.2 : World → (Nat → Prop) → Int × Int × Int × Int → Prop) w wr l ms ∧ lM b (tryM b) s = rep (tryM b) (n - i) (ms.map fun m => m) s' ∧ RB base wr r vb b s' ∧ Kp r w wr) (fun _ j _ => n - (intOf j).toNat)
  case atStart => exact ⟨0, [], s0, Nat.zero_le _, rfl, rfl, LI.nil _ _, HLM.out, HR1.out, HK1.out⟩
  case round =>
    obtain ⟨i, ms, s', hi, rfl, hml, hli, he, hr, hk⟩ := hrel
    have HLI := hid hli
    have HE := hid he
    have HR2 := hid hr
    have HK2 := hid hk
    have HML := hid hml
    obtain ⟨al, cl, el⟩ := hli.form
    subst el
    clear hli he hr hk hml
    by_cases hlt : i < n
    · have hlt2 : (i : Int) < (n : Int) := by omega
      have HB := hid (HP.out.kp HK2.out HNE.out)
      obtain ⟨⟨x, s2⟩, hx⟩ : ∃ x, (tryM b) s' = x := ⟨_, rfl⟩
      have HX := hid hx
      have HNI := hid (show n - i = (n - (i + 1)) + 1 by omega)
      have HNB := hid (show 0 < b.length by have := HCB.out; omega)
      clear hx
      by_cases hf : s2.2 = 0
      · have hf2 : ((s2.2 : Int) != 0) = false := by simp [hf]
        have HE2 := hid (show lM b (tryM b) s = rep (tryM b) (n - (i + 1)) (ms.map (fun m => m) ++ [x]) s2 by rw [HE.out, HNI.out, rep_ok HX.out hf])
        clear hf
        go_wp2_with (first
          | (go_at_call 78; refine (qfu3_any _ HR2.out HB.out).mono ?_; rintro e w1 ⟨m, rfl, hm1, hm2, hr1, hk1⟩; rw [HX.out] at hm1 hr1; have HM1 := hid hm1; have HLI1 := hid (HLI.out.kp keepT hk1 HRL.out); have HM2 := hid (HLI.out.fresh (w1 := w1) (m := m) keepT hm2 HK2.out.size); have HR1 := hid hr1; have HK1 := hid (HK2.out.trans hk1); have y := hr1.k.cell; have yl := hr1.k.lt; clear hm1 hm2 hr1 hk1)
          | (at_builtin; refine wpList_append_row _ rfl _ _ 45 rfl 92 i1 (.agg #[.int .i64 0, .int .i64 0, .int .i64 0, .int .i64 0]) 4 32 undLT I1.out.1 I1.out.2.1 I1.out.2.2.1 I1.out.2.2.2 rfl (by decide) (.slice al ms.length cl) ms.length (ms.flatMap (tryC)) rfl (HLI1.out.bw keepT (by repeat (first | exact Bw.refl _ | apply Bw.alloc | apply Bw.drewN | apply Bw.drew))).own _ 1 1 ((tryC : Int × Int × Int × Int → List Value) m) rfl rfl ?c1 ?c2 ?c3 ?c4 ?_)
          | fail)
        try (case c1 =>
          intro j u hj
          match j, hj with
          | 0, hj => simp [tryC] at hj; subst hj; simp [Addr.add, go_sem, *]
          | 1, hj => simp [tryC] at hj; subst hj; simp [Addr.add, go_sem, *]
          | 2, hj => simp [tryC] at hj; subst hj; simp [Addr.add, go_sem, *]
          | 3, hj => simp [tryC] at hj; subst hj; simp [Addr.add, go_sem, *]
          | j + 4, hj => simp [tryC] at hj)
        case c2 => first | rfl | (simp [go_sem]; done) | (intro u hu; simp [tryC] at hu; rcases hu with rfl | rfl | rfl | rfl <;> rfl)
        case c3 => have := HLN.out; have := HCB.out; have := HML.out; unfold maxLen; omega
        case c4 => have := HLN.out; have := HCB.out; have := HML.out; omega
        intro l' w2 hown hgr hnew
        obtain ⟨al', cl', e⟩ := own_form hown
        subst e
        have HLI2 := hid (HLI1.out.pushB (m := m) keepT HK1.out.size HM2.out (by repeat (first | exact Bw.refl _ | apply Bw.alloc | apply Bw.drewN | apply Bw.drew)) hgr hown (by simpa only [World.size_alloc] using hnew))
        have HR3 := hid ((HR1.out.bw (by repeat (first | exact Bw.refl _ | apply Bw.alloc | apply Bw.drewN | apply Bw.drew))).grown hgr HLI1.out.ob HRL.out HBA.out)
        have HK3 := hid ((HK1.out.bw (by repeat (first | exact Bw.refl _ | apply Bw.alloc | apply Bw.drewN | apply Bw.drew))).grown hgr HLI1.out.ob)
        clear hown hgr hnew
        go_wp2
        go_roundw
        case rel => exact ⟨i + 1, ms ++ [_], s2, by omega, by go_num, by simp [HML.out], HLI2.out, by rw [HE2.out, ← HM1.out]; simp, HR3.out, HK3.out⟩
        case measure => simp [intOf]; omega
      · have hf2 : ((s2.2 : Int) != 0) = true := by simp [hf]
        have HE2 := hid (show lM b (tryM b) s = ([], s2) by rw [HE.out, HNI.out, rep_bad HX.out hf])
        clear hf
        go_wp2_with (first
          | (go_at_call 78; refine (qfu3_any _ HR2.out HB.out).mono ?_; rintro e w1 ⟨m, rfl, hm1, hm2, hr1, hk1⟩; rw [HX.out] at hm1 hr1; have HR1 := hid hr1; have HK1 := hid (HK2.out.trans hk1); have y := hr1.k.cell; have yl := hr1.k.lt; clear hm1 hm2 hr1 hk1)
          | fail)
        all_goals go_ret
        all_goals refine ⟨_, [], rfl, by rw [HE2.out]; rfl, (LI.nil (k := 4) (c := tryC) (okm := (fun _ _ p => I64 p.1 ∧ I64 p.2.1 ∧ I64 p.2.2.1 ∧ I64 p.2.2.2 : World → (Nat → Prop) → Int × Int × Int × Int → Prop)) (T := 92) w _).rl keepT (by simp) (fun _ => rfl), by rw [HE2.out]; exact HR1.out.bw (by repeat (first | exact Bw.refl _ | apply Bw.alloc | apply Bw.drewN | apply Bw.drew)), HK1.out.bw (by repeat (first | exact Bw.refl _ | apply Bw.alloc | apply Bw.drewN | apply Bw.drew))⟩
    · obtain rfl : i = n := by omega
      go_wp2
      all_goals go_ret
      have HE3 := hid (show lM b (tryM b) s = (ms.map (fun m => m), s') by rw [HE.out, Nat.sub_self, rep_zero])
      exact ⟨_, ms, rfl, by rw [HE3.out], HLI.out.rl keepT (by have := HLN.out; have := HCB.out; have := HML.out; unfold maxLen; omega) (fun _ => rfl), by rw [HE3.out]; exact HR2.out, HK2.out⟩

end

end Go.Proofs.YtfhnhbpmiodomaaDoor
