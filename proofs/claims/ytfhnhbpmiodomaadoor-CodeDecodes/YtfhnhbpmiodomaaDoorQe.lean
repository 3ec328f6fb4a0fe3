/- The reader: lists of numbers and texts: contracts. -/
import Derived.Test.YtfhnhbpmiodomaaDoorQd
set_option linter.unusedSimpArgs false
set_option linter.unusedVariables false
namespace Go.Proofs.YtfhnhbpmiodomaaDoor
open Go Go.RowKit

section
variable {base r : Nat} {w w' : World} {vb : Value} {b : List Int} {s : St}

set_option maxRecDepth 100000 in
set_option maxHeartbeats 8000000 in
theorem qnu1_any (pb : Nat) (h : RB base w r vb b s) (hp : Blk w pb #[.pointer (some ⟨r, 0, none⟩)] 63) :
    Calls Tryd.prog 71 #[.pointer (some ⟨pb, 0, none⟩)] w fun e w' => ∃ m : Int, e = .returned (.int .i64 m) ∧ m = (nM b s).1 ∧ (fun _ _ n => I64 n : World → (Nat → Prop) → Int → Prop) w' (fun x => w.heap.size ≤ x) m ∧ RB base w' r vb b (nM b s).2 ∧ Kp r w w' := by
  have HR := hid h
  have HB := hid (nM_bd b h.bytes s)
  have z := hp.cell 0
  have zl := hp.lt
  clear h hp
  go_enter Tryd.func71, Tryd.ntmps71
  go_wp2_with (first
    | (go_at_call 52; refine (qnumber_any HR.out).mono ?_; rintro e w1 ⟨rfl, hr1, hk1⟩; have HR1 := hid hr1; have HK1 := hid hk1; clear hr1 hk1)
    | fail)
  all_goals go_ret
  all_goals exact ⟨_, rfl, rfl, by have := HB.out; unfold I64; omega, HR1.out, HK1.out⟩

theorem infoEI : (Tryd.prog.info? 3).map (fun i => (i.zero, i.size, i.bytes)) = some (some (.int .i64 0), 1, 8) := by kernel_rfl
theorem undLI : Tryd.prog.underlying 42 = some (.slice 3) := by kernel_rfl
theorem keepI : KeepOk (μ := Int) (fun _ _ n => I64 n : World → (Nat → Prop) → Int → Prop) := fun _ _ _ _ _ h _ _ _ => h
set_option maxRecDepth 100000 in
set_option maxHeartbeats 8000000 in
theorem rlI_any (pb : Nat) (h : RB base w r vb b s) (hp : Blk w pb #[.pointer (some ⟨r, 0, none⟩)] 63) :
    Calls Tryd.prog 70 #[.pointer (some ⟨r, 0, none⟩), .func (.func 71) #[] #[.pointer (some ⟨pb, 0, none⟩)]] w fun e w' => ∃ (v : Value) (ms : List (Int)), e = .returned v ∧ ms.map (fun m => m) = (lM b (nM b) s).1 ∧ RL w' (fun x => w.heap.size ≤ x) v 1 (fun n => [.int .i64 n]) (fun m => (fun _ _ n => I64 n : World → (Nat → Prop) → Int → Prop) w' (fun x => w.heap.size ≤ x) m) ms ∧ RB base w' r vb b (lM b (nM b) s).2 ∧ Kp r w w' := by
  have HR := hid h
  have HP := hid hp
  have HRL := hid h.k.lt
  have HNE := hid (blk_ne hp h.k (by decide))
  have HLN := hid h.len
  obtain ⟨i1, hi1, hz1, hs1, hy1⟩ := info_parts infoEI
  have I1 := hid (And.intro hi1 (And.intro hz1 (And.intro hs1 hy1)))
  have hcb := (cM_ok b).1 s h.at_
  have HBA := hid h.base
  obtain ⟨⟨n, s0⟩, hn⟩ : ∃ x, cM b s = x := ⟨_, rfl⟩
  rw [hn] at hcb
  have HN := hid hn
  have HCB := hid (show n ≤ b.length by simp only at hcb; omega)
  have hn63 : n ≤ 9223372036854775807 := by have := h.len; have := HCB.out; omega
  have HLM := hid (show lM b (nM b) s = rep (nM b) n [] s0 by unfold lM; rw [hn])
  clear h hp hn hi1 hz1 hs1 hy1 hcb
  go_enter Tryd.func70, Tryd.ntmps70
  go_wp2_with (first
    | (go_at_call 69; refine (qcount_any HR.out).mono ?_; rintro e w1 ⟨rfl, hr1, hk1⟩; rw [HN.out] at hr1 ⊢; have HR1 := hid hr1; have HK1 := hid hk1; clear hr1 hk1)
    | fail)
  go_loopw [5, 9] (fun l j wr => ∃ (i : Nat) (ms : List (Int)) (s' : St), i ≤ n ∧ j = .int .i64 (i : Nat) ∧ ms.length = i ∧ LI (μ := Int) 3 1 (fun n => [.int .i64 n]) (fun _ _ n => I64 n : World → (Nat → Prop) → Int → Prop) w wr l ms ∧ lM b (nM b) s = rep (nM b) (n - i) (ms.map fun m => m) s' ∧ RB base wr r vb b s' ∧ Kp r w wr) (fun _ j _ => n - (intOf j).toNat)
  case atStart => exact ⟨0, [], s0, Nat.zero_le _, rfl, rfl, LI.nil _ _, HLM.out, HR1.out, HK1.out⟩
  case round =>
    obtain ⟨i, ms, s', hi, rfl, hml, hli, he, hr, hk⟩ := hrel
    have HLI := hid hli
    have HE := hid he
    have HR2 := hid hr
    have HK2 := hid hk
    have HML := hid hml
    obtain ⟨al, cl, el⟩ := hli.form
    subst el
    clear hli he hr hk hml
    by_cases hlt : i < n
    · have hlt2 : (i : Int) < (n : Int) := by omega
      have HB := hid (HP.out.kp HK2.out HNE.out)
      obtain ⟨⟨x, s2⟩, hx⟩ : ∃ x, (nM b) s' = x := ⟨_, rfl⟩
      have HX := hid hx
      have HNI := hid (show n - i = (n - (i + 1)) + 1 by omega)
      have HNB := hid (show 0 < b.length by have := HCB.out; omega)
      clear hx
      by_cases hf : s2.2 = 0
      · have hf2 : ((s2.2 : Int) != 0) = false := by simp [hf]
        have HE2 := hid (show lM b (nM b) s = rep (nM b) (n - (i + 1)) (ms.map (fun m => m) ++ [x]) s2 by rw [HE.out, HNI.out, rep_ok HX.out hf])
        clear hf
        go_wp2_with (first
          | (go_at_call 71; refine (qnu1_any _ HR2.out HB.out).mono ?_; rintro e w1 ⟨m, rfl, hm1, hm2, hr1, hk1⟩; rw [HX.out] at hm1 hr1; have HM1 := hid hm1; have HLI1 := hid (HLI.out.kp keepI hk1 HRL.out); have HM2 := hid (HLI.out.fresh (w1 := w1) (m := m) keepI hm2 HK2.out.size); have HR1 := hid hr1; have HK1 := hid (HK2.out.trans hk1); have y := hr1.k.cell; have yl := hr1.k.lt; clear hm1 hm2 hr1 hk1)
          | (at_builtin; refine wpList_append_row _ rfl _ _ 42 rfl 3 i1 (.int .i64 0) 1 8 undLI I1.out.1 I1.out.2.1 I1.out.2.2.1 I1.out.2.2.2 rfl (by decide) (.slice al ms.length cl) ms.length (ms.flatMap (fun n => [.int .i64 n])) rfl (HLI1.out.bw keepI (by repeat (first | exact Bw.refl _ | apply Bw.alloc | apply Bw.drewN | apply Bw.drew))).own _ 1 1 ((fun n => [.int .i64 n] : Int → List Value) m) rfl rfl ?c1 ?c2 ?c3 ?c4 ?_)
          | fail)
        try (case c1 =>
          intro j u hj
          match j, hj with
          | 0, hj => simp at hj; subst hj; simp [Addr.add, go_sem, *])
        case c2 => first | rfl | (simp [go_sem]; done) | (intro u hu; simp at hu; subst hu; rfl)
        case c3 => have := HLN.out; have := HCB.out; have := HML.out; unfold maxLen; omega
        case c4 => have := HLN.out; have := HCB.out; have := HML.out; omega
        intro l' w2 hown hgr hnew
        obtain ⟨al', cl', e⟩ := own_form hown
        subst e
        have HLI2 := hid (HLI1.out.pushB (m := m) keepI HK1.out.size HM2.out (by repeat (first | exact Bw.refl _ | apply Bw.alloc | apply Bw.drewN | apply Bw.drew)) hgr hown (by simpa only [World.size_alloc] using hnew))
        have HR3 := hid ((HR1.out.bw (by repeat (first | exact Bw.refl _ | apply Bw.alloc | apply Bw.drewN | apply Bw.drew))).grown hgr HLI1.out.ob HRL.out HBA.out)
        have HK3 := hid ((HK1.out.bw (by repeat (first | exact Bw.refl _ | apply Bw.alloc | apply Bw.drewN | apply Bw.drew))).grown hgr HLI1.out.ob)
        clear hown hgr hnew
        go_wp2
        go_roundw
        case rel => exact ⟨i + 1, ms ++ [_], s2, by omega, by go_num, by simp [HML.out], HLI2.out, by rw [HE2.out, ← HM1.out]; simp, HR3.out, HK3.out⟩
        case measure => simp [intOf]; omega
      · have hf2 : ((s2.2 : Int) != 0) = true := by simp [hf]
        have HE2 := hid (show lM b (nM b) s = ([], s2) by rw [HE.out, HNI.out, rep_bad HX.out hf])
        clear hf
        go_wp2_with (first
          | (go_at_call 71; refine (qnu1_any _ HR2.out HB.out).mono ?_; rintro e w1 ⟨m, rfl, hm1, hm2, hr1, hk1⟩; rw [HX.out] at hm1 hr1; have HR1 := hid hr1; have HK1 := hid (HK2.out.trans hk1); have y := hr1.k.cell; have yl := hr1.k.lt; clear hm1 hm2 hr1 hk1)
          | fail)
        all_goals go_ret
        all_goals refine ⟨_, [], rfl, by rw [HE2.out]; rfl, (LI.nil (k := 1) (c := fun n => [.int .i64 n]) (okm := (fun _ _ n => I64 n : World → (Nat → Prop) → Int → Prop)) (T := 3) w _).rl keepI (by simp) (fun _ => rfl), by rw [HE2.out]; exact HR1.out.bw (by repeat (first | exact Bw.refl _ | apply Bw.alloc | apply Bw.drewN | apply Bw.drew)), HK1.out.bw (by repeat (first | exact Bw.refl _ | apply Bw.alloc | apply Bw.drewN | apply Bw.drew))⟩
    · obtain rfl : i = n := by omega
      go_wp2
      all_goals go_ret
      have HE3 := hid (show lM b (nM b) s = (ms.map (fun m => m), s') by rw [HE.out, Nat.sub_self, rep_zero])
      exact ⟨_, ms, rfl, by rw [HE3.out], HLI.out.rl keepI (by have := HLN.out; have := HCB.out; have := HML.out; unfold maxLen; omega) (fun _ => rfl), by rw [HE3.out]; exact HR2.out, HK2.out⟩

set_option maxRecDepth 100000 in
set_option maxHeartbeats 8000000 in
theorem qim1_any (pb : Nat) (h : RB base w r vb b s) (hp : Blk w pb #[.pointer (some ⟨r, 0, none⟩)] 63) (hne : 0 < b.length) :
    Calls Tryd.prog 47 #[.pointer (some ⟨pb, 0, none⟩)] w fun e w' => ∃ m : List Int, e = .returned (.string (strOfNums m)) ∧ m = (tM b s).1 ∧ (fun _ _ s => (∀ c ∈ s, 0 ≤ c ∧ c ≤ 255) ∧ s.length ≤ maxLen : World → (Nat → Prop) → List Int → Prop) w' (fun x => w.heap.size ≤ x) m ∧ RB base w' r vb b (tM b s).2 ∧ Kp r w w' := by
  have HR := hid h
  have HNB := hid hne
  have HB := hid h.bytes
  have HLN := hid h.len
  have z := hp.cell 0
  have zl := hp.lt
  clear h hp
  go_enter Tryd.func47, Tryd.ntmps47
  go_wp2_with (first
    | (go_at_call 48; refine (qtext_any HR.out HNB.out).mono ?_; rintro e w1 ⟨rfl, hr1, hk1⟩; have HR1 := hid hr1; have HK1 := hid hk1; clear hr1 hk1)
    | fail)
  all_goals go_ret
  all_goals exact ⟨_, rfl, rfl, ⟨fun c hc => HB.out c (List.mem_of_mem_drop (List.mem_of_mem_take hc)), by have := HLN.out; simp only [tM, List.length_take, List.length_drop]; unfold maxLen; omega⟩, HR1.out, HK1.out⟩

theorem infoES : (Tryd.prog.info? 9).map (fun i => (i.zero, i.size, i.bytes)) = some (some (.string ByteArray.empty), 1, 16) := by kernel_rfl
theorem undLS : Tryd.prog.underlying 23 = some (.slice 9) := by kernel_rfl
theorem keepS : KeepOk (μ := List Int) (fun _ _ s => (∀ c ∈ s, 0 ≤ c ∧ c ≤ 255) ∧ s.length ≤ maxLen : World → (Nat → Prop) → List Int → Prop) := fun _ _ _ _ _ h _ _ _ => h
set_option maxRecDepth 100000 in
set_option maxHeartbeats 8000000 in
theorem rlS_any (pb : Nat) (h : RB base w r vb b s) (hp : Blk w pb #[.pointer (some ⟨r, 0, none⟩)] 63) :
    Calls Tryd.prog 46 #[.pointer (some ⟨r, 0, none⟩), .func (.func 47) #[] #[.pointer (some ⟨pb, 0, none⟩)]] w fun e w' => ∃ (v : Value) (ms : List (List Int)), e = .returned v ∧ ms.map (fun m => m) = (lM b (tM b) s).1 ∧ RL w' (fun x => w.heap.size ≤ x) v 1 (fun s => [.string (strOfNums s)]) (fun m => (fun _ _ s => (∀ c ∈ s, 0 ≤ c ∧ c ≤ 255) ∧ s.length ≤ maxLen : World → (Nat → Prop) → List Int → Prop) w' (fun x => w.heap.size ≤ x) m) ms ∧ RB base w' r vb b (lM b (tM b) s).2 ∧ Kp r w w' := by
  have HR := hid h
  have HP := hid hp
  have HRL := hid h.k.lt
  have HNE := hid (blk_ne hp h.k (by decide))
  have HLN := hid h.len
  obtain ⟨i1, hi1, hz1, hs1, hy1⟩ := info_parts infoES
  have I1 := hid (And.intro hi1 (And.intro hz1 (And.intro hs1 hy1)))
  have hcb := (cM_ok b).1 s h.at_
  have HBA := hid h.base
  obtain ⟨⟨n, s0⟩, hn⟩ : ∃ x, cM b s = x := ⟨_, rfl⟩
  rw [hn] at hcb
  have HN := hid hn
  have HCB := hid (show n ≤ b.length by simp only at hcb; omega)
  have hn63 : n ≤ 9223372036854775807 := by have := h.len; have := HCB.out; omega
  have HLM := hid (show lM b (tM b) s = rep (tM b) n [] s0 by unfold lM; rw [hn])
  clear h hp hn hi1 hz1 hs1 hy1 hcb
  go_enter Tryd.func46, Tryd.ntmps46
  go_wp2_with (first
    | (go_at_call 69; refine (qcount_any HR.out).mono ?_; rintro e w1 ⟨rfl, hr1, hk1⟩; rw [HN.out] at hr1 ⊢; have HR1 := hid hr1; have HK1 := hid hk1; clear hr1 hk1)
    | fail)
  go_loopw [5, 9] (fun l j wr => ∃ (i : Nat) (ms : List (List Int)) (s' : St), i ≤ n ∧ j = .int .i64 (i : Nat) ∧ ms.length = i ∧ LI (μ := List Int) 9 1 (fun s => [.string (strOfNums s)]) (fun _ _ s => (∀ c ∈ s, 0 ≤ c ∧ c ≤ 255) ∧ s.length ≤ maxLen : World → (Nat → Prop) → List Int → Prop) w wr l ms ∧ lM b (tM b) s = rep (tM b) (n - i) (ms.map fun m => m) s' ∧ RB base wr r vb b s' ∧ Kp r w wr) (fun _ j _ => n - (intOf j).toNat)
  case atStart => exact ⟨0, [], s0, Nat.zero_le _, rfl, rfl, LI.nil _ _, HLM.out, HR1.out, HK1.out⟩
  case round =>
    obtain ⟨i, ms, s', hi, rfl, hml, hli, he, hr, hk⟩ := hrel
    have HLI := hid hli
    have HE := hid he
    have HR2 := hid hr
    have HK2 := hid hk
    have HML := hid hml
    obtain ⟨al, cl, el⟩ := hli.form
    subst el
    clear hli he hr hk hml
    by_cases hlt : i < n
    · have hlt2 : (i : Int) < (n : Int) := by omega
      have HB := hid (HP.out.kp HK2.out HNE.out)
      obtain ⟨⟨x, s2⟩, hx⟩ : ∃ x, (tM b) s' = x := ⟨_, rfl⟩
      have HX := hid hx
      have HNI := hid (show n - i = (n - (i + 1)) + 1 by omega)
      have HNB := hid (show 0 < b.length by have := HCB.out; omega)
      clear hx
      by_cases hf : s2.2 = 0
      · have hf2 : ((s2.2 : Int) != 0) = false := by simp [hf]
        have HE2 := hid (show lM b (tM b) s = rep (tM b) (n - (i + 1)) (ms.map (fun m => m) ++ [x]) s2 by rw [HE.out, HNI.out, rep_ok HX.out hf])
        clear hf
        go_wp2_with (first
          | (go_at_call 47; refine (qim1_any _ HR2.out HB.out HNB.out).mono ?_; rintro e w1 ⟨m, rfl, hm1, hm2, hr1, hk1⟩; rw [HX.out] at hm1 hr1; have HM1 := hid hm1; have HLI1 := hid (HLI.out.kp keepS hk1 HRL.out); have HM2 := hid (HLI.out.fresh (w1 := w1) (m := m) keepS hm2 HK2.out.size); have HR1 := hid hr1; have HK1 := hid (HK2.out.trans hk1); have y := hr1.k.cell; have yl := hr1.k.lt; clear hm1 hm2 hr1 hk1)
          | (at_builtin; refine wpList_append_row _ rfl _ _ 23 rfl 9 i1 (.string ByteArray.empty) 1 16 undLS I1.out.1 I1.out.2.1 I1.out.2.2.1 I1.out.2.2.2 rfl (by decide) (.slice al ms.length cl) ms.length (ms.flatMap (fun s => [.string (strOfNums s)])) rfl (HLI1.out.bw keepS (by repeat (first | exact Bw.refl _ | apply Bw.alloc | apply Bw.drewN | apply Bw.drew))).own _ 1 1 ((fun s => [.string (strOfNums s)] : List Int → List Value) m) rfl rfl ?c1 ?c2 ?c3 ?c4 ?_)
          | fail)
        try (case c1 =>
          intro j u hj
          match j, hj with
          | 0, hj => simp at hj; subst hj; simp [Addr.add, go_sem, *])
        case c2 => first | rfl | (simp [go_sem]; done) | (intro u hu; simp at hu; subst hu; rfl)
        case c3 => have := HLN.out; have := HCB.out; have := HML.out; unfold maxLen; omega
        case c4 => have := HLN.out; have := HCB.out; have := HML.out; omega
        intro l' w2 hown hgr hnew
        obtain ⟨al', cl', e⟩ := own_form hown
        subst e
        have HLI2 := hid (HLI1.out.pushB (m := m) keepS HK1.out.size HM2.out (by repeat (first | exact Bw.refl _ | apply Bw.alloc | apply Bw.drewN | apply Bw.drew)) hgr hown (by simpa only [World.size_alloc] using hnew))
        have HR3 := hid ((HR1.out.bw (by repeat (first | exact Bw.refl _ | apply Bw.alloc | apply Bw.drewN | apply Bw.drew))).grown hgr HLI1.out.ob HRL.out HBA.out)
        have HK3 := hid ((HK1.out.bw (by repeat (first | exact Bw.refl _ | apply Bw.alloc | apply Bw.drewN | apply Bw.drew))).grown hgr HLI1.out.ob)
        clear hown hgr hnew
        go_wp2
        go_roundw
        case rel => exact ⟨i + 1, ms ++ [_], s2, by omega, by go_num, by simp [HML.out], HLI2.out, by rw [HE2.out, ← HM1.out]; simp, HR3.out, HK3.out⟩
        case measure => simp [intOf]; omega
      · have hf2 : ((s2.2 : Int) != 0) = true := by simp [hf]
        have HE2 := hid (show lM b (tM b) s = ([], s2) by rw [HE.out, HNI.out, rep_bad HX.out hf])
        clear hf
        go_wp2_with (first
          | (go_at_call 47; refine (qim1_any _ HR2.out HB.out HNB.out).mono ?_; rintro e w1 ⟨m, rfl, hm1, hm2, hr1, hk1⟩; rw [HX.out] at hm1 hr1; have HR1 := hid hr1; have HK1 := hid (HK2.out.trans hk1); have y := hr1.k.cell; have yl := hr1.k.lt; clear hm1 hm2 hr1 hk1)
          | fail)
        all_goals go_ret
        all_goals refine ⟨_, [], rfl, by rw [HE2.out]; rfl, (LI.nil (k := 1) (c := fun s => [.string (strOfNums s)]) (okm := (fun _ _ s => (∀ c ∈ s, 0 ≤ c ∧ c ≤ 255) ∧ s.length ≤ maxLen : World → (Nat → Prop) → List Int → Prop)) (T := 9) w _).rl keepS (by simp) (fun _ => rfl), by rw [HE2.out]; exact HR1.out.bw (by repeat (first | exact Bw.refl _ | apply Bw.alloc | apply Bw.drewN | apply Bw.drew)), HK1.out.bw (by repeat (first | exact Bw.refl _ | apply Bw.alloc | apply Bw.drewN | apply Bw.drew))⟩
    · obtain rfl : i = n := by omega
      go_wp2
      all_goals go_ret
      have HE3 := hid (show lM b (tM b) s = (ms.map (fun m => m), s') by rw [HE.out, Nat.sub_self, rep_zero])
      exact ⟨_, ms, rfl, by rw [HE3.out], HLI.out.rl keepS (by have := HLN.out; have := HCB.out; have := HML.out; unfold maxLen; omega) (fun _ => rfl), by rw [HE3.out]; exact HR2.out, HK2.out⟩

end

end Go.Proofs.YtfhnhbpmiodomaaDoor
