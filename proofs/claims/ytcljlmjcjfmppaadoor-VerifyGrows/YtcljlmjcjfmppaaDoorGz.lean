/- x -/
import Derived.Test.YtcljlmjcjfmppaaDoorGd
import Derived.Test.YtcljlmjcjfmppaaDoorVv
import Derived.Test.YtcljlmjcjfmppaaDoorSc
import Derived.Test.YtcljlmjcjfmppaaDoorWB
import Derived.Test.YtcljlmjcjfmppaaDoorWA
import Derived.Test.YtcljlmjcjfmppaaDoorGl
set_option linter.unusedSimpArgs false
set_option linter.unusedVariables false
namespace Go.Proofs.YtcljlmjcjfmppaaDoor
open Go Go.RowKit

theorem RL.slice {α : Type} {w : World} {G : Nat → Prop} {v : Value} {k : Nat} {c : α → List Value} {ok : α → Prop} {l : List α} (h : RL w G v k c ok l) : v.oneCell' = true := by
  obtain ⟨_, a, cap, rfl, _⟩ := h.1
  rfl
theorem fn_one {w : World} {G : Nat → Prop} {ms : List MFn} (h : ∀ x ∈ ms, RFn w G x) : ∀ u ∈ ms.flatMap fnC, u.oneCell' = true := by
  intro u hu
  obtain ⟨x, hx, hu⟩ := List.mem_flatMap.1 hu
  have r := h x hx
  simp only [fnC, List.mem_cons, List.not_mem_nil, or_false] at hu
  rcases hu with rfl | rfl | rfl | rfl | rfl | rfl
  · rfl
  · rfl
  · exact RL.slice r.b
  · exact RL.slice r.c
  · exact RL.slice r.o
  · exact RL.slice r.t
theorem str_one (l : List (List Int)) : ∀ u ∈ l.flatMap (fun s => [Value.string (strOfNums s)]), u.oneCell' = true := by
  intro u hu
  obtain ⟨x, hx, hu⟩ := List.mem_flatMap.1 hu
  rw [List.mem_singleton.1 hu]
  rfl

set_option maxRecDepth 100000 in
set_option maxHeartbeats 4000000 in
theorem growcore (w : World) (ho : Og w) (vf vs vk : Value) (m : AIm) (hm : RIm w (fun _ => True) vf vs vk m) :
    Calls Tryd.prog 3 #[imV vf vs vk m] w fun e w' => e = .returned (.bool true) ∧ Bw w w' := by
  obtain ⟨af, kf, az, ks, ak, kk, e1, e2, e3⟩ := hm.forms
  subst e1 e2 e3
  unfold imV
  have HM := hid hm
  have HO := hid ho
  have HP := hid (Blk.new w #[.slice af m.funs.length kf, .slice az m.strs.length ks, .slice ak m.keys.length kk, .int .i64 m.globals] 26)
  have u := HP.out.cell
  have ul := HP.out.lt
  clear hm ho
  go_enter Tryd.func3, Tryd.ntmps3
  go_wp2_with (first
    | (go_at_call 4; refine (big_any _ _ _ m (fun _ => True) (HM.out.bw (by repeat (first | exact Bw.refl _ | apply Bw.alloc | apply Bw.drewN | apply Bw.drew)))).mono ?_; rintro e wq ⟨q, rfl, hq, hb1⟩; have HQ := hid hq; have HB := hid (show Bw w wq from Bw.trans (by repeat (first | exact Bw.refl _ | apply Bw.alloc | apply Bw.drewN | apply Bw.drew)) hb1); have HP1 := hid (HP.out.bw hb1); have yu := HP1.out.cell; have yul := HP1.out.lt; clear hq hb1)
    | (go_at_call 5; (fail_if_success (have _g := HB2)); refine (live_any (HO.out.bw (HB.out.trans (by repeat (first | exact Bw.refl _ | apply Bw.alloc | apply Bw.drewN | apply Bw.drew))))).mono ?_; rintro e wl ⟨rfl, hbl⟩; have BL := hid (HB.out.trans (Bw.trans (by repeat (first | exact Bw.refl _ | apply Bw.alloc | apply Bw.drewN | apply Bw.drew)) hbl)); clear hbl)
    | (go_at_call 6; refine (check_any m (fun _ => True) _ _ _ (65534 + 3) (HO.out.bw (HB.out.trans (by repeat (first | exact Bw.refl _ | apply Bw.alloc | apply Bw.drewN | apply Bw.drew)))) (HM.out.bw (HB.out.trans (by repeat (first | exact Bw.refl _ | apply Bw.alloc | apply Bw.drewN | apply Bw.drew)))) (by have := HQ.out (Bool.eq_false_iff.2 (by assumption)); have := this.2.1; omega) (by have := HQ.out (Bool.eq_false_iff.2 (by assumption)); have := this.2.2.1; omega) (by intro l hl; have := HQ.out (Bool.eq_false_iff.2 (by assumption)); have := this.2.2.2.2.1 l hl; omega) (by decide)).mono ?_; rintro e w2 ⟨hb2, ca, cb, cc, rfl, hcc⟩; have HCC := hid hcc; have HB2 := hid (HB.out.trans (Bw.trans (by repeat (first | exact Bw.refl _ | apply Bw.alloc | apply Bw.drewN | apply Bw.drew)) hb2)); have HP2 := hid (HP1.out.bw (Bw.trans (by repeat (first | exact Bw.refl _ | apply Bw.alloc | apply Bw.drewN | apply Bw.drew)) hb2)); have zu := HP2.out.cell; have zul := HP2.out.lt; clear hcc hb2)
    | (go_at_call 7; refine (num_any _ _).mono ?_; rintro e wn ⟨rfl, hwn⟩; subst wn)
    | (go_at_call 5; have _g := HB2; clear _g; refine (live_any (HO.out.bw (HB2.out.trans (by repeat (first | exact Bw.refl _ | apply Bw.alloc | apply Bw.drewN | apply Bw.drew))))).mono ?_; rintro e wl ⟨rfl, hbl⟩; have BL := hid (HB2.out.trans (Bw.trans (by repeat (first | exact Bw.refl _ | apply Bw.alloc | apply Bw.drewN | apply Bw.drew)) hbl)); clear hbl)
    | fail)
  all_goals try (go_ret; exact ⟨rfl, BL.out⟩)
  rename_i hnot hfl hgl0 K hnext
  have HN := hid hnext
  clear hnext
  have HM2 := HM.out.bw HB2.out
  obtain ⟨⟨ms, em, hR⟩, hS, hKY, hG⟩ := HM2
  have hlm : ms.length = m.funs.length := by rw [← em, List.length_map]
  have hsm := (HQ.out (Bool.eq_false_iff.2 (by assumption))).2.1
  refine reg6 (n := m.funs.length) (k := m.strs.length) (fs := ms.flatMap fnC) (ss := m.strs.flatMap (fun s => [Value.string (strOfNums s)])) (hlm ▸ hR.1) (fn_one hR.2.1) (by omega) hS.1 (str_one _) (by omega) ⟨_, _, _, rfl⟩ ⟨hG.1, by omega⟩ HP2.out ?_
  intro D a w6 hI hall
  obtain ⟨x6, x35, x36, x37, x38, x39, x40, x41, x42, x43, x44, x45, x46, x47, x48, x49, x50, rfl, J, V⟩ := hI
  obtain ⟨gi, cur, e6, hgi, hbi, hcs, hcur⟩ := J.r6 (hall 16 (by decide))
  have hcur := hcur (hall 17 (by decide))
  have r38 := J.r38 (hall 3 (by decide))
  have r44 := J.r44 (hall 9 (by decide))
  have hJb := J.b
  have HOK : AllOk m (65534 + 3) := by
    rcases HCC.out with h | h
    · exact h.1
    · exact absurd (by simpa using hgl0) h.2
  have hn1 : 1 ≤ m.funs.length := by
    have := HOK.im
    unfold imF at this
    split at this
    · cases this
    · omega
  obtain ⟨r, cF, e38⟩ : ∃ r cF, x38 = .slice (some ⟨r, 0, none⟩) m.funs.length cF := by
    rcases r38.1.2 with ⟨_, h0⟩ | ⟨g, cap, cur', e1, _⟩
    · omega
    · exact ⟨g, cap, e1⟩
  subst e38
  subst hcur
  subst e6
  have G0 : GS w2 w6 m x44 (.slice ak m.keys.length kk) gi r cF ms 0 := by
    refine ⟨hJb, hgi, hbi, r44, by simpa using em, r38, fun x hx => (hR.2.1 x hx).keep hJb.size (fun b hlt _ => hJb.block b hlt) (fun b hlt _ => ?_)⟩
    have := r38.2 r rfl
    exact ⟨by omega, by omega⟩
  have HG0 := hid G0
  have HKY := hid hKY
  have HST := hid hS
  have HOKH := hid HOK
  have hQ := HQ.out (Bool.eq_false_iff.2 (by assumption))
  have HQ2 := hid hQ
  clear J V hall r38 r44 hJb hgi hbi hcs G0 hR hKY hS HOK hQ
  have HG1 := hid (show ∃ ms, GS w2 w6 m x44 (.slice ak m.keys.length kk) gi r cF ms 0 from ⟨ms, HG0.out⟩)
  have HN20 := hid (show m.funs.length ≤ 20 by omega)
  refine HN.out _ _ ?_
  clear HN em hlm HG0 hsm
  clear hn1
  go_wp2
  go_loopw [7] (fun j wr => ∃ (i : Nat), i ≤ m.funs.length ∧ j = .int .i64 (i : Nat) ∧ (∀ f ∈ m.funs.take i, f.code.length ≤ 60000) ∧ ∃ ms, GS w2 wr m x44 (.slice ak m.keys.length kk) gi r cF ms i) (fun j _ => m.funs.length - (intOf j).toNat)
  case atStart => exact ⟨0, Nat.zero_le _, rfl, (fun f hf => by simp at hf), HG1.out⟩
  case round =>
    obtain ⟨i, hi, rfl, hsm, ms1, hg⟩ := hrel
    have HG := hid hg
    have HSM := hid hsm
    have cI := hg.im.cell
    have lI := hg.im.lt
    have lR := hg.rlt
    clear hsm
    by_cases hlt : i < m.funs.length
    · obtain ⟨oa, oc, hcode, hsl⟩ := hg.code hlt
      have hfz := hg.free (i * 6 + 4)
      have HHI := hid hlt
      have hlt2 : (i : Int) < (m.funs.length : Int) := by omega
      generalize hk : (m.funs[i]).code.length = k at hcode hsl
      have HK := hid hk
      have HSL := hid hsl
      clear hk hsl hg hi
      by_cases h6 : 60000 < k
      · have h62 : (60000 : Int) < (k : Int) := by omega
        go_wp2_with (first
          | (go_at_call 5; refine (live_any (HO.out.bw (HB2.out.trans (HG.out.b.trans (by repeat (first | exact Bw.refl _ | apply Bw.alloc | apply Bw.drewN | apply Bw.drew)))))).mono ?_; rintro e wl ⟨rfl, hbl⟩; have BL := hid (HB2.out.trans (HG.out.b.trans (Bw.trans (by repeat (first | exact Bw.refl _ | apply Bw.alloc | apply Bw.drewN | apply Bw.drew)) hbl))); clear hbl)
          | fail)
        all_goals go_ret
        all_goals exact ⟨rfl, BL.out⟩
      · have h62 : ¬ (60000 : Int) < (k : Int) := by omega
        go_wp2
        rename_i K hnext
        have HN := hid hnext
        clear hnext
        refine reg12 (n := m.funs.length) (k := k) (cs := m.funs[i].code.flatMap insC) HHI.out (by simpa using cI 0) lI lR rfl hcode hfz HSL.out (ins_one _) (by omega) ?_
        intro D a w9 hI hall
        obtain ⟨x67, x68, x69, x70, x71, x72, x73, x74, x75, x76, x77, x78, x79, x80, x81, x82, w1, rfl, J, V⟩ := hI
        have hr := J.r80 (hall 13 (by decide))
        have he := J.e1 (hall 16 (by decide))
        subst he
        have hp := HG.out.put HHI.out (by have := HK.out; omega) J.b (x80 := x80) (by have e := HK.out; exact (congrArg (fun q => Rw wr w1 40 3 x80 (q + 1) (m.funs[i].code.flatMap insC ++ [.int .i64 27, .int .i64 0, .int .i64 0])) e).mpr hr)
        have HSM2 := hid (take_more HSM.out HHI.out (by have := HK.out; omega))
        have HPP := hid hp
        clear hp hr J V hall hcode hfz HSL cI
        refine HN.out _ _ ?_
        clear HN
        go_wp2
        go_roundw
        case rel => exact ⟨i + 1, HHI.out, by go_num, HSM2.out, HPP.out⟩
        case measure => simp [intOf]; omega
    · obtain rfl : i = m.funs.length := by omega
      obtain ⟨ic, hic, hzc, hsc, hyc⟩ := info_parts infoCo
      have IC := hid (And.intro hic (And.intro hzc (And.intro hsc hyc)))
      clear hic hzc hsc hyc hlt hi hg
      go_wp2_with (first
        | (at_builtin; refine wpList_append_row _ rfl _ _ 22 rfl 38 ic (.agg #[.int .i64 0, .int .i64 0, .slice none 0 0, .slice none 0 0, .slice none 0 0, .slice none 0 0]) 6 112 (show Tryd.prog.underlying 22 = some (.slice 38) from by kernel_rfl) IC.out.1 IC.out.2.1 IC.out.2.2.1 IC.out.2.2.2 rfl (by decide) (.slice (some ⟨r, 0, none⟩) m.funs.length cF) m.funs.length (ms1.flatMap fnC) rfl (own_bw HG.out.row.1 (by repeat (first | exact Bw.refl _ | apply Bw.alloc | apply Bw.drewN | apply Bw.drew))) ⟨wr.heap.size + 1, 0, none⟩ 1 1 (fnC (lastM (.slice (some ⟨wr.heap.size, 0, none⟩) 2 2))) rfl rfl ?c1 ?c2 ?c3 ?c4 ?_)
        | fail)
      case c1 =>
        intro j u hj
        match j, hj with
        | 0, hj => simp [fnC, lastM, lastF] at hj; subst hj; simp [Addr.add, go_sem]
        | 1, hj => simp [fnC, lastM, lastF] at hj; subst hj; simp [Addr.add, go_sem]
        | 2, hj => simp [fnC, lastM, lastF] at hj; subst hj; simp [Addr.add, go_sem]
        | 3, hj => simp [fnC, lastM, lastF] at hj; subst hj; simp [Addr.add, go_sem]
        | 4, hj => simp [fnC, lastM, lastF] at hj; subst hj; simp [Addr.add, go_sem]
        | 5, hj => simp [fnC, lastM, lastF] at hj; subst hj; simp [Addr.add, go_sem]
        | j + 6, hj => simp [fnC, lastM, lastF] at hj
      case c2 =>
        intro u hu
        simp only [fnC, lastM, List.mem_cons, List.not_mem_nil, or_false] at hu
        rcases hu with rfl | rfl | rfl | rfl | rfl | rfl <;> rfl
      case c3 => have := HN20.out; unfold maxLen; omega
      case c4 => have := HN20.out; omega
      intro v' w3 hown hgr hnew
      have hle := HG.out.last HKY.out (by have h1 := HOKH.out.im; unfold I64; unfold imF at h1; split at h1 <;> omega) HN20.out HST.out (by have := HQ2.out.2.1; omega) (w' := w3) (by repeat (first | exact Bw.refl _ | apply Bw.alloc | apply Bw.drewN | apply Bw.drew)) (two_ins wr _) hown hgr (hnew.imp (fun h => h) (fun h k hk => by have := h k hk; simpa only [World.size_alloc] using this))
      have hI3 : Blk w3 gi #[.slice (some ⟨r, 0, none⟩) m.funs.length cF, x44, .slice ak m.keys.length kk, .int .i64 (m.globals + 1)] 26 := (HG.out.bw (by repeat (first | exact Bw.refl _ | apply Bw.alloc | apply Bw.drewN | apply Bw.drew))).im.keep (hgr.block gi (Nat.lt_of_lt_of_le lI (by simp only [World.size_alloc]; omega)) (fun k => HG.out.ne (by cases k; rfl)))
      have c3 := hI3.cell
      have f3 := hI3.free
      have l3 := hI3.lt
      obtain ⟨a9, c9, rfl⟩ := own_form hown
      have HLE := hid hle
      have c4 := hle.2.1.cell
      clear hown hgr hnew hle hI3 cI
      go_wp2_with (first
        | (go_at_call 6; refine (check_any (growI m mor) (fun _ => True) _ _ _ (65534 + 3) (HO.out.bw (HB2.out.trans HLE.out.2.2)) HLE.out.1 (by have := HQ2.out.2.1; simp only [growI, List.length_append, List.length_singleton]; omega) (by have := HQ2.out.2.2.1; simp only [growI]; omega) (by intro l hl; have := HQ2.out.2.2.2.2.1 l hl; omega) (by decide)).mono ?_; rintro e w5 ⟨hb5, ca5, cb5, cc5, rfl, hcc5⟩; (obtain rfl : cc5 = 0 := by (rcases hcc5 with h | h; exact h.2; exact absurd (all_grow HOKH.out HN20.out (by omega) (by have := HSM.out; rwa [List.take_length] at this)) h.1)); have HB5 := hid (HB2.out.trans (HLE.out.2.2.trans hb5)); clear hcc5 hb5)
        | (go_at_call 7; refine (num_any _ _).mono ?_; rintro e wn ⟨rfl, hwn⟩; subst wn)
        | (go_at_call 5; refine (live_any (HO.out.bw (HB5.out.trans (by repeat (first | exact Bw.refl _ | apply Bw.alloc | apply Bw.drewN | apply Bw.drew))))).mono ?_; rintro e wl ⟨rfl, hbl⟩; have BL := hid (HB5.out.trans (Bw.trans (by repeat (first | exact Bw.refl _ | apply Bw.alloc | apply Bw.drewN | apply Bw.drew)) hbl)); clear hbl)
        | fail)
      all_goals go_ret
      all_goals exact ⟨rfl, BL.out⟩

end Go.Proofs.YtcljlmjcjfmppaaDoor
