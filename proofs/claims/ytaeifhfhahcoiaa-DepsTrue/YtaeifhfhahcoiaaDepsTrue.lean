/- What is not valid never is again; a function has one valid version at most, and had as many as may be; a valid one counts on no global that was written with another value since. -/
import Derived.Test.YtaeifhfhahcoiaaPr
set_option linter.unusedVariables false
set_option linter.unusedSimpArgs false
namespace Go.Proofs.Ytaeifhfhahcoiaa.depsTrue
open Go.ChangeShapes Go.WideShapes Go.ChangeAt Go.RowKit

set_option maxRecDepth 100000 in
set_option maxHeartbeats 2000000 in
theorem walk (w : World) (v0 : Value) (l0 : List AX) (w0 : Acts w v0 l0) :
    Calls Try.prog 5 #[v0] w fun e w' => e = .returned (.bool true) ∧ Bw w w' := by
  have HA := hid w0
  obtain ⟨av, cv, rfl⟩ := w0.form
  have HMM := hid (much_any w0)
  clear w0
  have hN := fun w => New_yes 4 4 w (by decide) (by decide) (by decide)
  obtain ⟨i2, hi2, hz2, hs2, hy2⟩ := info_parts infoI
  have I2 := hid (And.intro hi2 (And.intro hz2 (And.intro hs2 hy2)))
  clear hi2 hz2 hs2 hy2
  obtain ⟨i3, hi3, hz3, hs3, hy3⟩ := info_parts infoBo
  have I3 := hid (And.intro hi3 (And.intro hz3 (And.intro hs3 hy3)))
  clear hi3 hz3 hs3 hy3
  cases hmb : mchB l0
  rotate_left
  · have HB := hid hmb
    clear hmb
    go_enter Try.func5, Try.ntmps5
    go_wp2_with (first
      | (go_at_call 8; refine HMM.out.mono ?_; rintro e w1 ⟨hmc, hw⟩; subst w1; unfold Mch at hmc; rw [HB.out] at hmc; subst hmc)
      | (go_at_call 9; refine (live_any _).mono ?_; rintro e wb ⟨rfl, hbb⟩)
      | fail)
    all_goals go_ret
    all_goals exact ⟨rfl, hbb⟩
  have HB := hid hmb
  have HMU := hid (mchB_few hmb)
  clear hmb
  go_enter Try.func5, Try.ntmps5
  go_wp2_with (first
    | (go_at_call 8; refine HMM.out.mono ?_; rintro e w1 ⟨hmc, hw⟩; subst w1; unfold Mch at hmc; rw [HB.out] at hmc; subst hmc)
    | (go_at_call 10; refine (hN _).mono ?_; rintro e w1 ⟨p, rfl, hp1, hb1, b1⟩; have HM0 := hid (MS.made hp1 hb1 b1); clear hp1 hb1 b1)
    | (go_at_call 12; refine (num_any _ _).mono ?_; rintro e w9 ⟨rfl, hw9⟩; subst w9)
    | fail)
  go_loopw [5, 6, 7] (fun fv vv j wr => ∃ (k : Nat) (bs : List Nat) (rv : Value) (L : List (VV × Value)) (vs : List Bool), k ≤ l0.length ∧ j = .int .i64 k ∧ MS w wr p bs 4 4 rv L k ∧ Good 4 (L.map Prod.fst) ∧ TR wr w.heap.size bs fv (fsOf (L.map Prod.fst)) vv vs ∧ Was (L.map Prod.fst) vs) (fun fv vv j _ => l0.length - (intOf j).toNat)
  case atStart => exact ⟨0, _, _, _, [], by omega, rfl, HM0.out, Good.nil 4, TR.nil _ _ _, Was.nil⟩
  case round =>
    obtain ⟨k, bs, rv, L, vs, hk, rfl, hm, hgood, htr, hwas⟩ := hrel
    have hkb := HMU.out.1
    by_cases h4 : k < l0.length
    rotate_left
    · have h4' : ¬ (k : Int) < (l0.length : Int) := by omega
      have HM := hid hm
      clear hm hgood htr hwas
      obtain ⟨af, cf, ef⟩ : ∃ a c, a = c ∧ True := ⟨0, 0, rfl, trivial⟩
      go_wp2_with (first
        | (go_at_call 9; refine (live_any _).mono ?_; rintro e wb ⟨rfl, hbb⟩)
        | fail)
      all_goals go_ret
      all_goals exact ⟨rfl, HM.out.bw.trans hbb⟩
    · have h4' : (k : Int) < (l0.length : Int) := by omega
      obtain ⟨b, o, e, hlb, x0, x1, x2, x3, hok⟩ := (HA.out.bw hm.bw).at h4
      cases e
      have HOK := hid hok
      have HL40 := hid (HMU.out.2 _ (List.getElem_mem h4))
      obtain ⟨q, hq⟩ : ∃ q, l0[k] = q := ⟨_, rfl⟩
      rw [hq] at x0 x1 x2 x3 HOK HL40
      obtain ⟨y1, y2, y3, y4, y5⟩ := q
      simp only at x0 x1 x2 x3
      obtain ⟨a3, c3, e3⟩ := HOK.out.l.form
      simp only at e3
      subst e3
      have HQ := hid (QQ.made hm hgood htr hwas #[.int .i64 y1, .int .i64 y2, .slice a3 y4.length c3, .int .u64 y5])
      obtain ⟨fs, hfs⟩ : ∃ fs, fsOf (L.map Prod.fst) = fs := ⟨_, rfl⟩
      have HFS := hid hfs
      have HLN := hid (show L.length = fs.length by rw [← hfs, fsOf_len]; simp)
      rw [hfs] at htr
      obtain ⟨af, cf, ef⟩ := own_form htr.fo
      subst ef
      obtain ⟨ag, cg, eg⟩ := own_form htr.vo
      subst eg
      clear hfs
      obtain ⟨A, hA⟩ : ∃ A, wr.heap.size = A := ⟨_, rfl⟩
      clear hq hm hok hgood htr hwas
      go_upto_block 2 with fail
      rw [hA] at HQ
      have hbx := HQ.out.box
      obtain ⟨a0, a1, a2, a3', a4⟩ := box_cells hbx
      clear hbx
      go_cut [5, 6, 9, 10] from 33 to 167 (fun fv vv x9 x10 wc => ∃ (bs : List Nat) (rv : Value) (L : List (VV × Value)) (vs : List Bool), QQ w wc p (k + 1) A bs rv L fv vv vs #[.int .i64 y1, .int .i64 y2, .slice a3 y4.length c3, .int .u64 y5] ∧ (y1 = 1 → Calm y2 y5 (L.map Prod.fst)))
      case first =>
        by_cases c0 : y1 = 0
        · have d0 : (y1 == 0) = true := by simp [c0]
          have HNE := hid (show ¬ y1 = 1 by omega)
          clear c0
          have HADD := hid (AddM HQ.out.ms (by omega) (by decide) y2 (HOK.out.l.bw (Bw.alloc (Bw.refl _) _)) (by have := HL40.out; simp only at this ⊢; omega))
          by_cases h0 : addE 4 4 (L.map Prod.fst) y2 y4 = 0
          · have HE := hid h0
            clear h0
            go_wp2_with (first
              | (go_at_call 16; refine HADD.out.mono ?_; rintro e w2 ⟨bs2, rv2, L2, he, hm2, hn2, hl2⟩; simp only at he hl2; rw [HE.out, if_pos rfl, HLN.out] at he; subst he; rw [addL, HE.out, if_pos rfl] at hl2; have HG2 := hid (show Good 4 (L2.map Prod.fst) from (by have := HQ.out.good.add (G := 4) y2 y4; rw [addL, HE.out, if_pos rfl] at this; rw [hl2]; exact this)); have HQA := hid (HQ.out.add hm2 hn2 HG2.out hl2); rw [HFS.out] at HQA; obtain ⟨k0, k1, k2, k3, k4⟩ := box_cells HQA.out.box; clear hm2 hn2 hl2)
              | (go_at_call 12; refine (num_any _ _).mono ?_; rintro e w9 ⟨rfl, hw9⟩; subst w9)
              | (at_builtin; refine wpList_append_row _ rfl _ _ 49 rfl 3 i2 _ 1 8 Try.underlying49 I2.out.1 I2.out.2.1 I2.out.2.2.1 I2.out.2.2.2 rfl (by decide) (.slice af fs.length cf) fs.length (fs.map (Value.int .i64)) rfl (HQA.out.tr.fo.alloc _) ⟨w2.heap.size, 0, none⟩ 1 1 [.int .i64 y2] rfl rfl ?c1 ?c2 ?c3 ?c4 ?_)
              | fail)
            case c1 =>
              intro j u hj
              match j, hj with
              | 0, hj => simp at hj; subst hj; simp [Addr.add, go_sem]
            case c2 => intro u hu; simp at hu; rcases hu with rfl; rfl
            case c3 => unfold maxLen; have := HQA.out.was.1; have := HLN.out; have := HQ.out.ms.len; omega
            case c4 => have := HLN.out; have := HQ.out.ms.len; omega
            intro v5 w5 ho5 hg5 hv5
            have HQB := hid ((HQA.out.on (Bw.alloc (Bw.refl _) (.cells #[.int .i64 y2] 3))).fput ho5 hg5 (hv5.imp id (fun h k hk => by simp only [World.size_alloc]; exact h k hk)))
            obtain ⟨a5, c5, e5⟩ := own_form ho5
            subst e5
            clear ho5 hg5 hv5
            go_wp2_with (first
              | (at_builtin; refine wpList_append_row _ rfl _ _ 58 rfl 4 i3 _ 1 1 Try.underlying58 I3.out.1 I3.out.2.1 I3.out.2.2.1 I3.out.2.2.2 rfl (by decide) (.slice ag vs.length cg) vs.length (vs.map Value.bool) rfl (HQB.out.tr.vo.alloc _) ⟨w5.heap.size, 0, none⟩ 1 1 [.bool true] rfl rfl ?c1 ?c2 ?c3 ?c4 ?_)
              | fail)
            case c1 =>
              intro j u hj
              match j, hj with
              | 0, hj => simp at hj; subst hj; simp [Addr.add, go_sem]
            case c2 => intro u hu; simp at hu; rcases hu with rfl; rfl
            case c3 => unfold maxLen; have h1 := HQ.out.was.1; have h2 := HQ.out.ms.len; rw [List.length_map] at h1; omega
            case c4 => have h1 := HQ.out.was.1; have h2 := HQ.out.ms.len; rw [List.length_map] at h1; omega
            intro v6 w6 ho6 hg6 hv6
            have HQC := hid ((HQB.out.on (Bw.alloc (Bw.refl _) (.cells #[.bool true] 4))).vput (by rw [fsOf_snoc, HFS.out]) ho6 hg6 (hv6.imp id (fun h k hk => by simp only [World.size_alloc]; exact h k hk)))
            clear ho6 hg6 hv6
            go_wp2
            go_meet
            case rel => exact ⟨_, _, _, _, HQC.out, fun h => absurd h HNE.out⟩
          · obtain ⟨E, hE⟩ : ∃ E, addE 4 4 (L.map Prod.fst) y2 y4 = E := ⟨_, rfl⟩
            have HE := hid hE
            have hE0 : (E == 0) = false := by rw [← hE]; simpa using h0
            clear hE h0
            have HE0 := hid hE0
            go_wp2_with (first
              | (go_at_call 16; refine HADD.out.mono ?_; rintro e w2 ⟨bs2, rv2, L2, he, hm2, hn2, hl2⟩; simp only at he hl2; rw [HE.out, if_neg (by have := HE0.out; simpa using this)] at he; subst he; rw [addL, HE.out, if_neg (by have := HE0.out; simpa using this)] at hl2; have HQA := hid (HQ.out.next hm2 hn2 (by rw [hl2]; exact HQ.out.good) (by rw [hl2]) (by rw [hl2]; exact HQ.out.was)); clear hm2 hn2 hl2)
              | (go_at_call 12; refine (num_any _ _).mono ?_; rintro e w9 ⟨rfl, hw9⟩; subst w9)
              | fail)
            go_meet
            case rel => exact ⟨_, _, _, _, HQA.out, fun h => absurd h HNE.out⟩
        · have d0 : (y1 == 0) = false := by simp [c0]
          by_cases c1 : y1 = 1
          · have d1 : (y1 == 1) = true := by simp [c1]
            have HW := hid (WroteM HQ.out.ms y2 y5)
            clear c0 c1
            go_wp2_with (first
              | (go_at_call 17; refine HW.out.mono ?_; rintro e w2 ⟨r2, L2, he, _, hm2, hn2, hl2⟩; obtain ⟨n2, rfl⟩ : ∃ n2, e = .returned (.tuple #[r2, .int .i64 n2]) := ⟨_, he⟩; clear he; have HQA := hid (HQ.out.next hm2 hn2 (by rw [hl2]; exact HQ.out.good.wr _ _) (by rw [hl2, fsOf_wr]) (by rw [hl2]; exact HQ.out.was.wr)); have HCA := hid (show Calm y2 y5 (L2.map Prod.fst) from (by rw [hl2]; exact calm_wr HQ.out.ms.ds y2 y5)); clear hm2 hn2 hl2)
              | fail)
            go_meet
            case rel => exact ⟨_, _, _, _, HQA.out.more (by omega), fun _ => HCA.out⟩
          · have d1 : (y1 == 1) = false := by simp [c1]
            have HNE := hid c1
            by_cases c2 : y1 = 2
            · have d2 : (y1 == 2) = true := by simp [c2]
              have HD := hid (DropM HQ.out.ms y2)
              clear c0 c1 c2
              go_wp2_with (first
                | (go_at_call 21; refine HD.out.mono ?_; rintro e w2 ⟨L2, he, hm2, hn2, hl2⟩; obtain ⟨n2, rfl⟩ : ∃ n2, e = .returned (.int .i64 n2) := ⟨_, he⟩; clear he; have HQA := hid (HQ.out.next hm2 hn2 (by rw [hl2]; exact HQ.out.good.dr _) (by rw [hl2, fsOf_dr]) (by rw [hl2]; exact HQ.out.was.dr)); clear hm2 hn2 hl2)
                | fail)
              go_meet
              case rel => exact ⟨_, _, _, _, HQA.out.more (by omega), fun h => absurd h HNE.out⟩
            · have d2 : (y1 == 2) = false := by simp [c2]
              clear c0 c1 c2
              go_wp2
              go_meet
              case rel => exact ⟨_, _, _, _, HQ.out.more (by omega), fun h => absurd h HNE.out⟩
      case rest =>
        clear HQ HFS HLN hlb x0 x1 x2 x3 a0 a1 a2 a3' a4
        obtain ⟨bs, rv, L, vs, hq, hca⟩ := hcut
        have HQ := hid hq
        have HCA := hid hca
        have HLL := hid (show L.length ≤ 61 by have := hq.ms.len; omega)
        have HVL := hid (show vs.length = L.length by have := hq.was.1; rwa [List.length_map] at this)
        have HFL := hid (show (fsOf (L.map Prod.fst)).length = L.length by rw [fsOf_len, List.length_map])
        obtain ⟨af, cf, ef⟩ := own_form hq.tr.fo
        rw [HFL.out] at ef
        subst ef
        obtain ⟨ag, cg, eg⟩ := own_form hq.tr.vo
        subst eg
        have HB0 := hid hq.begin
        clear hq hca
        go_wp2
        go_loopw [12] (fun j ws => ∃ (i : Nat) (vs2 : List Bool), i ≤ L.length ∧ j = .int .i64 i ∧ QN w ws p (k + 1) A wc.heap.size bs rv L (.slice af L.length cf) (.slice ag vs2.length cg) vs vs2 #[.int .i64 y1, .int .i64 y2, .slice a3 y4.length c3, .int .u64 y5] i) (fun j _ => L.length - (intOf j).toNat)
        case atStart => exact ⟨0, vs, by omega, rfl, HB0.out⟩
        case round =>
          obtain ⟨i, vs2, hi, rfl, hqn⟩ := hrel
          have HN := hid hqn
          have hll := HLL.out
          by_cases h6 : i < L.length
          · have h6' : (i : Int) < (L.length : Int) := by omega
            have hil : i < (L.map Prod.fst).length := by simpa using h6
            have hiv : i < vs2.length := by have := hqn.len; omega
            obtain ⟨g, eg, hlg, v0, vfz, _, _⟩ := hqn.tr.vcell hiv
            subst eg
            have hivs : (i : Int) < (vs.length : Int) := by have := HVL.out; omega
            have HVA := hid (Valid_any hqn.ms.ds (i : Int))
            rw [validL_nat hil] at HVA
            have HON := hid (fun (W : World) (h : DS W p bs 4 4 rv L) => On_any h (i : Int))
            have HWS := hid (fun (ho : (L.map Prod.fst)[i].ok = true) => show vs2[i] = true by
              have h1 := HQ.out.was.2 i _ (List.getElem?_eq_getElem hil) ho
              have h2 := hqn.rest i (Nat.le_refl _)
              rw [h1, List.getElem?_eq_getElem hiv] at h2
              exact Option.some.inj h2)
            have HNO := hid (fun (ho : (L.map Prod.fst)[i].ok = false) => hqn.no hil ho)
            obtain ⟨n, hn⟩ : ∃ n : Nat, (L.map Prod.fst)[i].f = n := ⟨(L.map Prod.fst)[i].f.toNat, by have := (HQ.out.good.fr _ (List.getElem_mem hil)).1; omega⟩
            have hn4 : n < 4 := by have := (HQ.out.good.fr _ (List.getElem_mem hil)).2; omega
            have HYE := hid (fun (ho : (L.map Prod.fst)[i].ok = true) => hqn.yes hil ho hn hn4)
            have hfc : (fsOf (L.map Prod.fst))[i]? = some (n : Int) := by simp [fsOf, h6] ; simpa using hn
            have htf := hqn.tr
            rw [show (Value.slice af L.length cf) = .slice af (fsOf (L.map Prod.fst)).length cf by rw [HFL.out]] at htf
            obtain ⟨gf, ef, hlf, f0⟩ := htf.fcell (j := i) (by rw [HFL.out]; exact h6)
            subst ef
            rw [(List.getElem?_eq_some_iff.1 hfc).2] at f0
            have hnw := (hqn.now.cell n).trans (nowC_get (L.map Prod.fst) i hn4)
            have hlN := hqn.now.lt
            have hNfz := hqn.now.free
            obtain ⟨a0, a1, a2, a3', a4⟩ := box_cells hqn.box
            have hgN : g ≠ wc.heap.size := fun e => (hqn.tr.vb g rfl).2 (by simp [e])
            have hgA : g ≠ A := fun e => (hqn.tr.vb g rfl).2 (by simp [e])
            have hgf : g ≠ gf := fun e => hqn.tr.apart gf rfl (by simp [Value.ownBlock, e])
            obtain ⟨cc, hcc⟩ : ∃ cc, ((L.map Prod.fst).take i).countP (vof n) = cc := ⟨_, rfl⟩
            have hcb : cc ≤ 61 := by rw [← hcc]; exact Nat.le_trans List.countP_le_length (by rw [List.length_take]; omega)
            rw [hcc] at hnw HYE
            clear hqn htf hfc hcc
            cases hbb : (L.map Prod.fst)[i].ok
            · have HS := hid (HNO.out hbb)
              rw [hbb] at HVA
              clear hbb HNO HYE HWS
              obtain ⟨bv, hbv⟩ : ∃ bv, vs2[i] = bv := ⟨_, rfl⟩
              rw [hbv] at v0
              clear hbv
              go_wp2_with (first
                | (go_at_call 15; refine HVA.out.mono ?_; rintro e w4 ⟨rfl, hw4⟩; subst w4)
                | (go_at_call 20; refine (HON.out _ HS.out.ms.ds).mono ?_; rintro e w5 ⟨r5, l5, rfl, ho5, hb5, hm5, _, hl5⟩; obtain ⟨a5, c5, e5⟩ := own_form ho5; subst e5; have HQ5 := hid (HS.out.on hb5); have HO5 := hid (own_sl (G := fun _ => True) ho5 (fun _ _ => trivial)); have hl5 := hl5 i h6 rfl; have HL5 := hid hl5; clear ho5 hb5 hl5)
                | fail)
              go_loopw [15] (fun j ws => j = .int .i64 0 ∧ ws = w5) (fun j _ => 0)
              case atStart => exact ⟨rfl, rfl⟩
              case round =>
                obtain ⟨rfl, rfl⟩ := hrel
                by_cases h7 : 0 < l5.length
                · have h7' : (0 : Int) < (l5.length : Int) := by omega
                  go_wp2
                  go_roundw
                  all_goals first
                    | exact ⟨i + 1, _, by omega, by go_num, HQ5.out⟩
                    | (simp [intOf]; omega)
                · have h7' : ¬ (0 : Int) < (l5.length : Int) := by omega
                  go_wp2
                  go_roundw
                  all_goals first
                    | exact ⟨i + 1, _, by omega, by go_num, HQ5.out⟩
                    | (simp [intOf]; omega)
            · have HS := hid (HYE.out hbb)
              rw [hbb] at HVA
              rw [HWS.out hbb] at v0
              clear HNO HYE HWS
              go_wp2_with (first
                | (go_at_call 15; refine HVA.out.mono ?_; rintro e w4 ⟨rfl, hw4⟩; subst w4)
                | (go_at_call 20; refine (HON.out _ HS.out.ms.ds).mono ?_; rintro e w5 ⟨r5, l5, rfl, ho5, hb5, hm5, _, hl5⟩; obtain ⟨a5, c5, e5⟩ := own_form ho5; subst e5; have HQ5 := hid (HS.out.on hb5); have HO5 := hid (own_sl (G := fun _ => True) ho5 (fun _ _ => trivial)); have hl5 := hl5 i h6 rfl; have HL5 := hid hl5; clear ho5 hb5 hl5)
                | fail)
              obtain ⟨a50, a51, a52, a53, a54⟩ := box_cells HQ5.out.box
              by_cases hy1 : y1 = 1
              · have hy1' : (y1 == 1) = true := by simp [hy1]
                have HNOH := hid (show ∀ m (hm : m < l5.length), l5[m].1 = y2 → l5[m].2 = y5 from fun m hm e => by
                  have hc := HCA.out hy1 _ (List.getElem_mem hil)
                  unfold hit at hc
                  rw [hbb, Bool.true_and, List.any_eq_false] at hc
                  have he5 : (L.map Prod.fst)[i].on = l5 := by rw [HL5.out]; simp
                  rw [he5] at hc
                  have := hc _ (List.getElem_mem hm)
                  simpa [e] using this)
                clear hy1 hbb hl5
                go_loopw [15] (fun j ws => ∃ (m d : Nat), m ≤ l5.length ∧ j = .int .i64 m ∧ ws = w5.drewN d) (fun j _ => l5.length - (intOf j).toNat)
                case atStart => exact ⟨0, 0, by omega, rfl, rfl⟩
                case round =>
                  obtain ⟨m, d, hm, rfl, rfl⟩ := hrel
                  have HQD := hid (HQ5.out.on (bw_drewN w5 d))
                  by_cases h7 : m < l5.length
                  · have h7' : (m : Int) < (l5.length : Int) := by omega
                    obtain ⟨b5, o5, e5, hl5b, t0, t1⟩ := HO5.out.two h7
                    subst e5
                    obtain ⟨q0, q1⟩ := depC_get l5 m h7
                    rw [q0] at t0
                    rw [q1] at t1
                    have HX := hid (HNOH.out m h7)
                    obtain ⟨z1, hz1⟩ : ∃ z1, l5[m].1 = z1 := ⟨_, rfl⟩
                    obtain ⟨z2, hz2⟩ : ∃ z2, l5[m].2 = z2 := ⟨_, rfl⟩
                    rw [hz1] at t0 HX
                    rw [hz2] at t1 HX
                    clear q0 q1 hz1 hz2
                    by_cases h8 : z1 = y2
                    · have h9 := HX.out h8
                      subst h8 h9
                      have e8 : (z1 == z1) = true := by simp
                      have e9 : (z2 != z2) = false := by simp
                      go_wp2
                      go_quiet (fail)
                      go_wp2
                      go_roundw
                      all_goals first
                        | exact ⟨m + 1, _, by omega, by go_num, rfl⟩
                        | exact ⟨m + 1, d + 1, by omega, by go_num, by simp⟩
                        | (simp [intOf]; omega)
                    · have e8 : (z1 == y2) = false := by simp [h8]
                      clear h8
                      go_wp2
                      go_quiet (fail)
                      go_wp2
                      go_roundw
                      all_goals first
                        | exact ⟨m + 1, _, by omega, by go_num, rfl⟩
                        | exact ⟨m + 1, d + 1, by omega, by go_num, by simp⟩
                        | (simp [intOf]; omega)
                  · have h7' : ¬ (m : Int) < (l5.length : Int) := by omega
                    go_wp2
                    go_roundw
                    all_goals first
                      | exact ⟨i + 1, _, by omega, by go_num, HQD.out⟩
                      | (simp [intOf]; omega)
              · have hy1' : (y1 == 1) = false := by simp [hy1]
                clear hy1 hbb
                go_loopw [15] (fun j ws => j = .int .i64 0 ∧ ws = w5) (fun j _ => 0)
                case atStart => exact ⟨rfl, rfl⟩
                case round =>
                  obtain ⟨rfl, rfl⟩ := hrel
                  by_cases h7 : 0 < l5.length
                  · have h7' : (0 : Int) < (l5.length : Int) := by omega
                    go_wp2
                    go_roundw
                    all_goals first
                      | exact ⟨i + 1, _, by omega, by go_num, HQ5.out⟩
                      | (simp [intOf]; omega)
                  · have h7' : ¬ (0 : Int) < (l5.length : Int) := by omega
                    go_wp2
                    go_roundw
                    all_goals first
                      | exact ⟨i + 1, _, by omega, by go_num, HQ5.out⟩
                      | (simp [intOf]; omega)
          · have h6' : ¬ (i : Int) < (L.length : Int) := by omega
            obtain rfl : i = L.length := by omega
            have hivs : ¬ (L.length : Int) < (L.length : Int) := by omega
            clear hqn
            go_wp2
            go_loopw [16] (fun j ws => ∃ (f : Nat), f ≤ 4 ∧ j = .int .i64 f ∧ QN w ws p (k + 1) A wc.heap.size bs rv L (.slice af L.length cf) (.slice ag vs2.length cg) vs vs2 #[.int .i64 y1, .int .i64 y2, .slice a3 y4.length c3, .int .u64 y5] L.length) (fun j _ => 4 - (intOf j).toNat)
            case atStart => exact ⟨0, by omega, rfl, HN.out⟩
            case round =>
              obtain ⟨f, hf, rfl, hqf⟩ := hrel
              have HF := hid hqf
              by_cases h7 : f < 4
              · have h7' : (f : Int) < 4 := by omega
                have hnw := (hqf.now.cell f).trans (nowC_get (L.map Prod.fst) L.length h7)
                have hlN := hqf.now.lt
                have hcc1 : ((L.map Prod.fst).take L.length).countP (vof f) ≤ 1 := by
                  rw [List.take_of_length_le (by simp)]
                  exact HQ.out.good.one f
                have hcc4 : cnt f (L.map Prod.fst) ≤ 4 := by
                  unfold cnt
                  rw [all_count]
                  exact HQ.out.good.four f
                have HVE := hid (Versions_any hqf.ms.ds (f : Int))
                rw [show oneOf (f : Int) ((4 : Nat) : Int) = true from oneOf_yes (by omega) (by omega)] at HVE
                simp only [if_true] at HVE
                obtain ⟨q1, hq1⟩ : ∃ q1, ((L.map Prod.fst).take L.length).countP (vof f) = q1 := ⟨_, rfl⟩
                obtain ⟨q4, hq4⟩ : ∃ q4, cnt f (L.map Prod.fst) = q4 := ⟨_, rfl⟩
                rw [hq1] at hnw hcc1
                rw [hq4] at hcc4 HVE
                have hd1 : ¬ (1 : Int) < (q1 : Int) := by omega
                have hd4 : ¬ (4 : Int) < (q4 : Int) := by omega
                clear hqf hq1 hq4
                go_wp2_with (first
                  | (go_at_call 18; refine HVE.out.mono ?_; rintro e w7 ⟨rfl, hb7⟩; have HF7 := hid (HF.out.on hb7); have hnw7 := (World.cell?_of_block (w := wr) (w' := w7) (a := ⟨wc.heap.size, f, none⟩) (hb7.block _ hlN)).trans hnw; have hlN7 := HF7.out.now.lt; clear hb7)
                  | fail)
                go_roundw
                all_goals first
                  | exact ⟨f + 1, by omega, by go_num, HF7.out⟩
                  | (simp [intOf]; omega)
              · have h7' : ¬ (f : Int) < 4 := by omega
                have HFI := hid (hqf.fin (by simp))
                have HV2 := hid (show vs2.length = vs.length by have := hqf.len; rw [List.length_map] at this; rw [this, HVL.out])
                clear hqf
                go_wp2
                go_roundw
                all_goals first
                  | exact ⟨k + 1, bs, rv, L, vs2, by omega, by go_num, HFI.out.1, HQ.out.good, by rw [← HV2.out]; exact HFI.out.2.1, HFI.out.2.2⟩
                  | ((repeat apply Exists.intro); exact ⟨⟨k + 1, bs, rv, L, vs2, by omega, by go_num, HFI.out.1, HQ.out.good, by rw [← HV2.out]; exact HFI.out.2.1, HFI.out.2.2⟩, rfl⟩)
                  | (simp [intOf]; omega)

set_option maxRecDepth 100000 in
theorem lifted (os : Os) (started : os.Started) (H : Type) (enc : TypeId × Value → H) :
    ReturnsInHanded {} Try.checked os 5 .any (Rows.depsTrueSpec.pre6 enc Try.prog Try.f5 Rows.depsTrueRow.domain false) (Rows.depsTrueSpec.post enc Try.prog Try.f5 false true false false) := by
  refine returnsInHanded_of_change (C := Try.checked) ownK started (by kernel_rfl) Try.func5
    (ChangeSpec.witness6 (enc := enc) (C := Try.checked) false ⟨#[], #[.slice none 0 0], []⟩ 8 (by kernel_rfl) (by kernel_rfl) (by kernel_rfl) (by kernel_rfl)) ?_
  intro W base args ds gs before hval0 hW hcnd _
  have hval : ∀ (j : Nat) t v, Try.f5.params[j]? = some t → args[j]? = some v → Value.okWide Try.prog W .any base t v := hval0
  have hW' := hW
  obtain ⟨p, q, hA0, hV, rfl, hfz, hnd⟩ := hW
  have hA : DataW.TrodAll enc Try.prog W 0 (fun _ => true) true Try.f5.params.toList args.toList ds p := hA0
  rw [Try.params5] at hA hval
  obtain ⟨v0, vs0, d0, ds0, p0, q0, hargs, rfl, rfl, h0, r0⟩ := trodAll_cons hA
  obtain ⟨rfl, rfl, rfl⟩ := trodAll_nil r0
  obtain rfl : args = #[v0] := by cases args; simp_all
  obtain ⟨rfl, rfl⟩ := trodVars_none hV
  have k0 := h0
  have lt0 : ∀ x ∈ p0, x.block < W.heap.size := by obtain ⟨m, hm⟩ := k0; exact DataW.trod_lt m _ _ _ hm
  obtain ⟨l0, w0⟩ := open_acts (hval 0 22 v0 rfl rfl) h0
  clear hA0 hval0
  refine (walk W v0 l0 w0).mono fun e W' ⟨he, bel⟩ => ?_
  subst he
  exact ⟨_, rfl, _, _, _, [], _, [], hW', trodAll_mk1 (shut_bool Try.underlying4 _), (trodAll_cons_mk (Below.trod laidOut (by kernel_rfl) (of_decide_eq_true (by kernel_rfl)) k0 bel lt0) trodAll_mk0), rfl, Below.frame bel _, fun h => by cases h⟩

theorem over : Rows.depsTrueRow.holds Try.pinned (OpenSpec.ofChange Rows.depsTrueSpec) :=
  OpenClaim.holds_of_wide 5 Try.f5 rfl rfl rfl rfl rfl rfl rfl ⟨rfl, rfl, rfl, rfl, rfl⟩ rfl rfl rfl rfl rfl (by kernel_rfl) Try.func5 (by kernel_rfl)
    (of_decide_eq_true (by kernel_rfl)) (by unfold Func.isWrapper; first | (rw [if_pos (by decide +kernel)]; kernel_rfl) | (rw [if_neg (by decide +kernel)]; exact ⟨rfl, rfl⟩))
    (fun os started H enc _ => lifted os started H enc)

theorem proved : Rows.DepsTrueSaid := over
end Go.Proofs.Ytaeifhfhahcoiaa.depsTrue
namespace Go.Proofs.Ytaeifhfhahcoiaa
theorem depsTrue_holds : Rows.DepsTrueSaid := depsTrue.proved
#print axioms depsTrue_holds
end Go.Proofs.Ytaeifhfhahcoiaa
