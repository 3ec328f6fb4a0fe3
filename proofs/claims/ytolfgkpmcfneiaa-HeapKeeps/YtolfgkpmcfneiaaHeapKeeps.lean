/- For every list of calls and every write as the statement draws them, the statement HeapKeeps of layer 3 answers true: what is written to one object of the program changes no other one; no condition. -/
import Derived.Test.YtolfgkpmcfneiaaPY
import Derived.Test.YtolfgkpmcfneiaaFb
set_option linter.unusedVariables false
set_option linter.unusedSimpArgs false
namespace Go.Proofs.Ytolfgkpmcfneiaa.heapKeeps
open Go.ChangeShapes Go.WideShapes Go.ChangeAt Go.RowKit

theorem dec_le {a b : Int} (h : a ≤ b) : decide (a ≤ b) = true := decide_eq_true h

set_option maxHeartbeats 32000000 in
set_option maxRecDepth 100000 in
theorem core (w : World) (a1 : Int) (w1 : 0 ≤ a1 ∧ a1 ≤ 18446744073709551615) (a2 : Int) (w2 : -9223372036854775808 ≤ a2 ∧ a2 ≤ 9223372036854775807) (a3 : Int) (w3 : 0 ≤ a3 ∧ a3 ≤ 18446744073709551615)
    (v0 : Value) (l0 : List AAct) (w0 : Acts w (fun _ => True) v0 l0) :
    Calls Try.prog 6 #[v0, .int .u64 a1, .int .i64 a2, .int .u64 a3] w fun e w' => e = .returned (.bool true) ∧ Bw w w' := by
  have hm0 := w0.len
  unfold maxLen at hm0
  obtain ⟨p0, c0, rfl⟩ := w0.form
  have W0 := hid w0
  have HU1 := hid (show U a1 from ⟨w1.1, by omega⟩)
  have HU3 := hid (show U a3 from ⟨w3.1, by omega⟩)
  clear w0
  obtain ⟨i2, hi2, hz2, hs2, hy2⟩ := info_parts infoVs
  have I2 := hid (And.intro hi2 (And.intro hz2 (And.intro hs2 hy2)))
  clear hi2 hz2 hs2 hy2
  cases hmu : aMuch l0
  · have HMU := hid (much_no hmu)
    go_enter Try.func6, Try.ntmps6
    go_wp2_with (first
      | (go_at_call 9; refine (much_any _ _ l0 _ W0.out).mono ?_; rw [hmu]; rintro e wq ⟨rfl, hwq⟩; subst wq)
      | (go_at_call 11; refine (new_ok 100 _ (by decide) (by decide)).mono ?_; rintro e wn ⟨rfl, hs1, hb1, hl1⟩; have S1 := hid hs1; have B1 := hid hb1; clear hs1 hb1 hl1)
      | (go_at_call 13; refine (num_any _ _).mono ?_; rintro e w' ⟨rfl, rfl⟩))
    go_loopw [11] (fun j wr => ∃ (k : Nat) (H : AHeap) (bs : List Nat), k ≤ l0.length ∧ j = .int .i64 k ∧ HS wr w.heap.size H bs ∧ (Bw w wr ∧ ∀ b ∈ bs, w.heap.size ≤ b) ∧ Short H ∧ H.1 = 100) (fun j _ => l0.length - (intOf j).toNat)
    case atStart => exact ⟨0, _, _, Nat.zero_le _, rfl, S1.out, ⟨B1.out, by simp⟩, fun o ho => by simp at ho, rfl⟩
    case round =>
      obtain ⟨k, H, bs, hk, rfl, hS, hB, hsh, h100⟩ := hrel
      have HSr := hid hS
      have HBr := hid hB
      have HSH := hid (And.intro hsh h100)
      clear hS hB hsh h100
      by_cases hlt : k < l0.length
      · obtain ⟨b, off, ⟨xb, xl, xk⟩, rfl, hb, _, hc, hok⟩ := W0.out.at hlt
        have hlt' : (k : Int) < (l0.length : Int) := by omega
        have HM := hid (HMU.out.2 _ (List.getElem_mem hlt))
        have hbr : b < wr.heap.size := Nat.lt_of_lt_of_le hb HBr.out.1.size
        have hcr : ∀ j, j < 10 → wr.cell? ⟨b, off + (k * 10 + j), none⟩ = (acells l0[k] (xb, xl, xk))[j]? := fun j hj => (cell_bw HBr.out.1 hb).trans (hc j hj)
        have HA := hid (hok.since HBr.out.1 HBr.out.2)
        clear hc hok
        generalize l0[k] = A at hcr HA HM
        have q0 : wr.cell? ⟨b, off + k * 10, none⟩ = some (.int .i64 A.Do) := hcr 0 (by omega)
        by_cases hd : 0 ≤ A.Do ∧ A.Do ≤ 6
        · obtain ⟨hd0, hd6⟩ := hd
          have q1 : wr.cell? ⟨b, off + k * 10 + 1, none⟩ = some (.int .u64 A.V) := hcr 1 (by omega)
          have q2 : wr.cell? ⟨b, off + k * 10 + 2, none⟩ = some (.int .u64 A.X) := hcr 2 (by omega)
          have q3 : wr.cell? ⟨b, off + k * 10 + 3, none⟩ = some (.int .i64 A.I) := hcr 3 (by omega)
          have q4 : wr.cell? ⟨b, off + k * 10 + 4, none⟩ = some xb := hcr 4 (by omega)
          have q5 : wr.cell? ⟨b, off + k * 10 + 5, none⟩ = some xl := hcr 5 (by omega)
          have q6 : wr.cell? ⟨b, off + k * 10 + 6, none⟩ = some xk := hcr 6 (by omega)
          have q7 : wr.cell? ⟨b, off + k * 10 + 7, none⟩ = some (.string A.Key) := hcr 7 (by omega)
          have q8 : wr.cell? ⟨b, off + k * 10 + 8, none⟩ = some (.int .u64 A.Re) := hcr 8 (by omega)
          have q9 : wr.cell? ⟨b, off + k * 10 + 9, none⟩ = some (.int .u64 A.Im) := hcr 9 (by omega)
          clear hcr
          go_wp2_with (first
            | (go_at_call 21; refine (make1_any A (xb, xl, xk) _ HSr.out HA.out (by have := HM.out.1; omega) (by have := HM.out.2.1; omega) (by have := HM.out.2.2; omega)).mono ?_; rintro e wp ⟨vb, vv, vk, rfl, bsp, hol, hsp, hnp⟩; have SP := hid hsp; have NP := hid (hnp.bw HBr.out.1 HBr.out.2); clear hol hsp hnp))
          go_roundw
          case rel => exact ⟨k + 1, _, bsp, by omega, by go_num, SP.out, NP.out, HSH.out.1.make HM.out.2.1, (kMakeH_most H A).trans HSH.out.2⟩
          case measure => simp [intOf]; omega
        · clear hcr
          by_cases hd0 : 0 ≤ A.Do
          · have hd6 : ¬ A.Do ≤ 6 := fun h => hd ⟨hd0, h⟩
            clear hd
            go_wp2
            go_roundw
            case rel => exact ⟨k + 1, H, bs, by omega, by go_num, HSr.out, HBr.out, HSH.out.1, HSH.out.2⟩
            case measure => simp [intOf]; omega
          · clear hd
            go_wp2
            go_roundw
            case rel => exact ⟨k + 1, H, bs, by omega, by go_num, HSr.out, HBr.out, HSH.out.1, HSH.out.2⟩
            case measure => simp [intOf]; omega
      · have hlt' : ¬ (k : Int) < (l0.length : Int) := by omega
        have hc100 : H.2.length ≤ 100 := by
          have h1 := HSr.out.most.1
          rw [HSH.out.2] at h1
          omega
        go_wp2
        go_loopw [12, 13] (fun o j wr => ∃ (k : Nat), k ≤ H.2.length ∧ j = .int .i64 k ∧ HS wr w.heap.size H bs ∧ Bw w wr ∧ InRows w wr bs o ((List.range k).map (fun (j : Nat) => aList H (4 * (j : Int) + 2)))) (fun o j _ => H.2.length - (intOf j).toNat)
        case atStart => exact ⟨0, Nat.zero_le _, rfl, HSr.out, HBr.out.1, InRows.nil _ _ _⟩
        case round =>
          clear HSr
          obtain ⟨k, hk, rfl, hS, hB, hI⟩ := hrel
          have HSr := hid hS
          have HBw := hid hB
          obtain ⟨vs, hvl, hvo, hvb, hvi⟩ := hI
          have hrl : ((List.range k).map (fun (j : Nat) => aList H (4 * (j : Int) + 2))).length = k := by simp
          obtain ⟨ai, ci, e⟩ := own_form hvo
          rw [hrl] at e
          subst e
          have HI := hid (And.intro hvl (And.intro hvo (And.intro hvb hvi)))
          clear hS hB hvl hvo hvb hvi
          by_cases hlt : k < H.2.length
          · have hlt2 : (k : Int) < (H.2.length : Int) := by omega
            have HU4 := hid (show U (4 * (k : Int) + 2) from ⟨by omega, by omega⟩)
            go_wp2_with (first
              | (go_at_call 29; refine (count_hs _ HSr.out).mono ?_; rintro e wq ⟨rfl, hwq⟩; subst wq)
              | (go_at_call 36; refine (list_any (4 * (k : Int) + 2) HU4.out _ HSr.out).mono ?_; rintro e w7 ⟨r7, rfl, ho7, hb7⟩; obtain ⟨a7, c7, e7⟩ := own_form ho7; subst e7; have HO7 := hid ho7; have HB7 := hid hb7; clear ho7 hb7)
              | (at_builtin; refine wpList_append_row _ rfl _ _ 77 rfl 40 i2 (.slice none 0 0) 1 24 Try.underlying77 I2.out.1 I2.out.2.1 I2.out.2.2.1 I2.out.2.2.2 rfl (by decide) (.slice ai k ci) k vs rfl ?c0 ⟨w7.heap.size, 0, none⟩ 1 1 [.slice a7 (aList H (4 * (k : Int) + 2)).length c7] rfl rfl ?c1 ?c2 ?c3 ?c4 ?_)
              | go_in)
            case c0 =>
              have := own_bw (own_bw HI.out.2.1 HB7.out) (Bw.alloc (Bw.refl _) (.cells #[.slice a7 (aList H (4 * (k : Int) + 2)).length c7] 40))
              rw [hrl] at this
              exact this
            case c1 => exact new_cells (heap_alloc_new _ _) rfl
            case c2 => intro u hu; simp at hu; subst hu; rfl
            case c3 => unfold maxLen; omega
            case c4 => omega
            intro v' w5 how hgr hvb
            obtain ⟨av', cv', e⟩ := own_form how
            subst e
            have hbb := Bw.alloc HB7.out (.cells #[.slice a7 (aList H (4 * (k : Int) + 2)).length c7] 40)
            have hS5 := HSr.out.bw hbb
            have hB5 := Bw.trans HBw.out hbb
            have hn7 : InRow w (w7.alloc (.cells #[.slice a7 (aList H (4 * (k : Int) + 2)).length c7] 40)) bs (.slice a7 (aList H (4 * (k : Int) + 2)).length c7) (aList H (4 * (k : Int) + 2)) := by
              refine ⟨own_base ((HO7.out).alloc _) (Nat.zero_le _), fun b e => ?_⟩
              have h1 := (HO7.out.lt b e).1
              exact ⟨Nat.le_trans HBw.out.size h1, fun hm => by have := HSr.out.lt hm; omega⟩
            have HS6 := hid (hS5.grown hgr (fun q hq => (HI.out.2.2.1 q hq).2))
            have HB6 := hid (Below.grown hB5 hgr hB5.size (fun q hq => (HI.out.2.2.1 q hq).1))
            have HI6 := hid (InRows.grown HI.out.1 (own_bw HI.out.2.1 hbb) HI.out.2.2.1 (fun i v l h1 h2 => (HI.out.2.2.2 i v l h1 h2).bw hbb) hn7 hB5 (fun b hb => hS5.lt hb) (by rw [hrl]; exact how) hgr (by simpa only [World.size_alloc] using hvb))
            clear how hgr hvb hbb hS5 hB5 hn7
            go_wp2
            go_roundw
            case rel => exact ⟨k + 1, by omega, by go_num, HS6.out, HB6.out, by rw [List.range_succ, List.map_append]; exact HI6.out⟩
            case measure => simp [intOf]; omega
          · obtain rfl : k = H.2.length := by omega
            have hge : ¬ (H.2.length : Int) < (H.2.length : Int) := by omega
            go_wp2_with (first
              | (go_at_call 29; refine (count_hs _ HSr.out).mono ?_; rintro e wq ⟨rfl, hwq⟩; subst wq)
              | (go_at_call 26; refine (set_any a1 a2 a3 HU1.out HU3.out _ HSr.out).mono ?_; rintro e ws ⟨rfl, bss, hss, hns⟩; have SS := hid hss; have NS := hid hns; clear hss hns))
            have hIr := HI.out
            have HIs := hid (InRows.nx (⟨vs, hIr.1, hIr.2.1, hIr.2.2.1, hIr.2.2.2⟩ : InRows w wr bs _ _) NS.out)
            have HBs := hid (NS.out.bw HBw.out HBr.out.2)
            clear hIr
            go_loopw [15] (fun j wt => ∃ (i : Nat), i ≤ H.2.length ∧ j = .int .i64 i ∧ HS wt w.heap.size (aSetH H a1 a2 a3) bss ∧ Bw w wt ∧ InRows w wt bss (.slice ai H.2.length ci) ((List.range H.2.length).map (fun (j : Nat) => aList H (4 * (j : Int) + 2)))) (fun j _ => H.2.length - (intOf j).toNat)
            case atStart => exact ⟨0, Nat.zero_le _, rfl, SS.out, HBs.out.1, HIs.out⟩
            case round =>
              clear HSr HI HIs HBw SS NS
              obtain ⟨i, hi, rfl, hS, hB, hI⟩ := hrel
              have HSr := hid hS
              have HBw := hid hB
              have HI := hid hI
              clear hS hB hI
              by_cases hlt : i < H.2.length
              · have hlt2 : (i : Int) < (H.2.length : Int) := by omega
                have HU4 := hid (show U (4 * (i : Int) + 2) from ⟨by omega, by omega⟩)
                obtain ⟨vt, hvl, hvo, hvb, hvi⟩ := HI.out
                have hivt : i < vt.length := by rw [hvl, hrl]; exact hlt
                have hin := hvi i vt[i] (aList H (4 * (i : Int) + 2)) (List.getElem?_eq_getElem hivt) (by simp [hlt])
                obtain ⟨ax, cx, ex⟩ := own_form hin.1
                rw [hrl] at hvo
                obtain ⟨bo, rfl, hbo, cbo⟩ := own_at hvo hlt
                rw [List.getElem?_eq_getElem hivt, ex] at cbo
                rw [ex] at hin
                have HIN := hid hin
                have CBO := hid cbo
                clear hvl hvo hvb hvi hin ex hivt
                by_cases hev : a1 = 4 * (i : Int) + 2
                · by_cases hse : aSetE H a1 a2 a3 = 0
                  · have SD := hid (set_done HU1.out hse (fun o ho => by have := HSH.out.1 o ho; omega))
                    obtain ⟨q, hq⟩ : ∃ q : Nat, a2 = q := ⟨a2.toNat, by have := SD.out.2.1; omega⟩
                    have hse0 : (aSetE H a1 a2 a3 == 0) = true := by simpa using hse
                    clear hse
                    subst hev hq
                    have hbl : (aList H (4 * (i : Int) + 2)).length ≤ 400 := by rw [aList_len]; omega
                    generalize hN : aList (aSetH H (4 * (i : Int) + 2) (q : Int) a3) (4 * (i : Int) + 2) = N at SD
                    have HN := hid hN
                    clear hN
                    generalize hM : aList H (4 * (i : Int) + 2) = M at SD HIN CBO hbl
                    clear hM
                    have hnm : N.length = M.length := SD.out.1
                    have hqn : q < N.length := by have := SD.out.2.2.1; omega
                    have hq0 : (0 : Int) ≤ (q : Int) := by omega
                    have hqn' : (q : Int) < (N.length : Int) := by omega
                    have hnb : ((N.length : Int) != (M.length : Int)) = false := by rw [hnm]; simp
                    have HQN := hid hqn
                    have HNM := hid hnm
                    clear hnm hqn
                    go_wp2_with (first
                      | (go_at_call 36; refine (list_any (4 * (i : Int) + 2) HU4.out _ HSr.out).mono ?_; rw [HN.out]; rintro e w7 ⟨r7, rfl, ho7, hb7⟩; obtain ⟨a7, c7, e7⟩ := own_form ho7; subst e7; obtain ⟨b7, rfl, hb7l, cb7⟩ := own_at ho7 HQN.out; have cq : w7.cell? ⟨b7, q, none⟩ = some (.int .u64 a3) := (by rw [cb7]; have := SD.out.2.2.2; have hh := HQN.out; simp [List.getD, hh] at this; simp [hh, this]); have cw : w7.cell? ⟨bo, i, none⟩ = some (.slice ax M.length cx) := (cell_bw hb7 hbo).trans CBO.out; have HB7 := hid hb7; clear ho7 hb7 cb7)
                      | (go_at_call 13; refine (num_any _ _).mono ?_; rintro e w' ⟨rfl, rfl⟩))
                    go_roundw
                    case rel => first | exact ⟨i + 1, by omega, by go_num, HSr.out.bw HB7.out, Bw.trans HBw.out HB7.out, HI.out.bw HB7.out⟩ | ((repeat apply Exists.intro); exact ⟨⟨i + 1, by omega, by go_num, HSr.out.bw HB7.out, Bw.trans HBw.out HB7.out, HI.out.bw HB7.out⟩, rfl⟩)
                    case measure => simp [intOf]; omega
                  · have hsb : (aSetE H a1 a2 a3 == 0) = false := by simpa using hse
                    have HSM := hid (show aList (aSetH H a1 a2 a3) (4 * (i : Int) + 2) = aList H (4 * (i : Int) + 2) by rw [set_fail hse])
                    subst hev
                    clear hse
                    have hbl : (aList H (4 * (i : Int) + 2)).length ≤ 400 := by rw [aList_len]; omega
                    generalize hM : aList H (4 * (i : Int) + 2) = M at HSM HIN CBO hbl
                    clear hM
                    go_wp2_with (first
                      | (go_at_call 36; refine (list_any (4 * (i : Int) + 2) HU4.out _ HSr.out).mono ?_; rw [HSM.out]; rintro e w7 ⟨r7, rfl, ho7, hb7⟩; obtain ⟨a7, c7, e7⟩ := own_form ho7; subst e7; have cw : w7.cell? ⟨bo, i, none⟩ = some (.slice ax M.length cx) := (cell_bw hb7 hbo).trans CBO.out; have HO7 := hid ho7; have HB7 := hid hb7; clear ho7 hb7)
                      | (go_at_call 13; refine (num_any _ _).mono ?_; rintro e w' ⟨rfl, rfl⟩)
                      | (go_at_call 37; refine (rsameL_any (fun _ => True) _ _ M M _ (own_sl HO7.out (fun _ _ => trivial)) (HIN.out.bw HB7.out).sl (by omega) (by omega)).mono ?_; rw [decide_eq_true (rfl : M = M)]; rintro e w' ⟨rfl, os7, m7, rfl⟩))
                    go_roundw
                    case rel => exact ⟨i + 1, by omega, by go_num, HSr.out.bw (Bw.lay HB7.out _ _), Bw.trans HBw.out (Bw.lay HB7.out _ _), HI.out.bw (Bw.lay HB7.out _ _)⟩
                    case measure => simp [intOf]; omega
                · have hevb : ((4 * (i : Int) + 2) == a1) = false := by rw [beq_eq_false_iff_ne]; exact fun h => hev h.symm
                  have hso := set_other (H := H) (v := a1) (i := a2) (x := a3) hlt (by omega) HU1.out hev
                  have HSM := hid (aList_same hso.1 hso.2)
                  clear hso hev
                  have hbl : (aList H (4 * (i : Int) + 2)).length ≤ 400 := by rw [aList_len]; omega
                  generalize hM : aList H (4 * (i : Int) + 2) = M at HSM HIN CBO hbl
                  clear hM
                  go_wp2_with (first
                    | (go_at_call 36; refine (list_any (4 * (i : Int) + 2) HU4.out _ HSr.out).mono ?_; rw [HSM.out]; rintro e w7 ⟨r7, rfl, ho7, hb7⟩; obtain ⟨a7, c7, e7⟩ := own_form ho7; subst e7; have cw : w7.cell? ⟨bo, i, none⟩ = some (.slice ax M.length cx) := (cell_bw hb7 hbo).trans CBO.out; have HO7 := hid ho7; have HB7 := hid hb7; clear ho7 hb7)
                    | (go_at_call 13; refine (num_any _ _).mono ?_; rintro e w' ⟨rfl, rfl⟩)
                    | (go_at_call 37; refine (rsameL_any (fun _ => True) _ _ M M _ (own_sl HO7.out (fun _ _ => trivial)) (HIN.out.bw HB7.out).sl (by omega) (by omega)).mono ?_; rw [decide_eq_true (rfl : M = M)]; rintro e w' ⟨rfl, os7, m7, rfl⟩))
                  go_roundw
                  case rel => exact ⟨i + 1, by omega, by go_num, HSr.out.bw (Bw.lay HB7.out _ _), Bw.trans HBw.out (Bw.lay HB7.out _ _), HI.out.bw (Bw.lay HB7.out _ _)⟩
                  case measure => simp [intOf]; omega
              · have hlt2 : ¬ (i : Int) < (H.2.length : Int) := by omega
                go_wp2_with (first
                  | (go_at_call 10; refine (live_any _).mono ?_; rintro e wl ⟨rfl, hbl⟩; have BL := hid hbl; clear hbl))
                all_goals go_ret
                all_goals exact ⟨rfl, Bw.trans HBw.out BL.out⟩
  · go_enter Try.func6, Try.ntmps6
    go_wp2_with (first
      | (go_at_call 9; refine (much_any _ _ l0 _ W0.out).mono ?_; rw [hmu]; rintro e wq ⟨rfl, hwq⟩; subst wq)
      | (go_at_call 10; refine (live_any _).mono ?_; rintro e wl ⟨rfl, hbl⟩; have BL := hid hbl; clear hbl))
    all_goals go_ret
    all_goals exact ⟨rfl, BL.out⟩

theorem walk (a1 : Int) (w1 : 0 ≤ a1 ∧ a1 ≤ 18446744073709551615) (a2 : Int) (w2 : -9223372036854775808 ≤ a2 ∧ a2 ≤ 9223372036854775807) (a3 : Int) (w3 : 0 ≤ a3 ∧ a3 ≤ 18446744073709551615) (w : World) (v0 : Value) (l0 : List AAct) (w0 : Acts w (fun _ => True) v0 l0) :
    Calls Try.prog 6 #[v0, .int .u64 a1, .int .i64 a2, .int .u64 a3] w fun e w' => e = .returned (.bool true) ∧ Bw w w' := by
  exact core w a1 w1 a2 w2 a3 w3 v0 l0 w0

set_option maxRecDepth 100000 in
theorem lifted (os : Os) (started : os.Started) (H : Type) (enc : TypeId × Value → H) :
    ReturnsInHanded {} Try.checked os 6 .any (Rows.heapKeepsSpec.pre6 enc Try.prog Try.f6 Rows.heapKeepsRow.domain false) (Rows.heapKeepsSpec.post enc Try.prog Try.f6 false true false false) := by
  refine returnsInHanded_of_change (C := Try.checked) ownK started (by kernel_rfl) Try.func6
    (ChangeSpec.witness6 (enc := enc) (C := Try.checked) false ⟨#[], #[.slice none 0 0, .int .u64 0, .int .i64 0, .int .u64 0], []⟩ 8 (by kernel_rfl) (by kernel_rfl) (by kernel_rfl) (by kernel_rfl)) ?_
  intro W base args ds gs before hval0 hW hcnd _
  have hval : ∀ (j : Nat) t v, Try.f6.params[j]? = some t → args[j]? = some v → Value.okWide Try.prog W .any base t v := hval0
  have hW' := hW
  obtain ⟨p, q, hA0, hV, rfl, hfz, hnd⟩ := hW
  have hA : DataW.TrodAll enc Try.prog W 0 (fun _ => true) true Try.f6.params.toList args.toList ds p := hA0
  rw [Try.params6] at hA hval
  obtain ⟨v0, vs0, d0, ds0, p0, q0, hargs, rfl, rfl, h0, r0⟩ := trodAll_cons hA
  obtain ⟨v1, vs1, d1, ds1, p1, q1, rfl, rfl, rfl, h1, r1⟩ := trodAll_cons r0
  obtain ⟨v2, vs2, d2, ds2, p2, q2, rfl, rfl, rfl, h2, r2⟩ := trodAll_cons r1
  obtain ⟨v3, vs3, d3, ds3, p3, q3, rfl, rfl, rfl, h3, r3⟩ := trodAll_cons r2
  obtain ⟨rfl, rfl, rfl⟩ := trodAll_nil r3
  obtain rfl : args = #[v0, v1, v2, v3] := by cases args; simp_all
  obtain ⟨rfl, rfl⟩ := trodVars_none hV
  have k0 := h0
  have lt0 : ∀ x ∈ p0, x.block < W.heap.size := by obtain ⟨m, hm⟩ := k0; exact DataW.trod_lt m _ _ _ hm
  have k1 := h1
  have lt1 : ∀ x ∈ p1, x.block < W.heap.size := by obtain ⟨m, hm⟩ := k1; exact DataW.trod_lt m _ _ _ hm
  have k2 := h2
  have lt2 : ∀ x ∈ p2, x.block < W.heap.size := by obtain ⟨m, hm⟩ := k2; exact DataW.trod_lt m _ _ _ hm
  have k3 := h3
  have lt3 : ∀ x ∈ p3, x.block < W.heap.size := by obtain ⟨m, hm⟩ := k3; exact DataW.trod_lt m _ _ _ hm
  obtain ⟨l0, w0⟩ := open_acts (hval 0 22 v0 rfl rfl) h0
  obtain ⟨a1, rfl, rfl, rfl, w10⟩ := open_int Try.underlying38 (hval 1 38 v1 rfl rfl) h1
  have w1 := bounds_u64 w10
  obtain ⟨a2, rfl, rfl, rfl, w20⟩ := open_int Try.underlying3 (hval 2 3 v2 rfl rfl) h2
  have w2 := bounds_i64 w20
  obtain ⟨a3, rfl, rfl, rfl, w30⟩ := open_int Try.underlying38 (hval 3 38 v3 rfl rfl) h3
  have w3 := bounds_u64 w30
  clear hA0 hval0
  refine (walk a1 w1 a2 w2 a3 w3 W v0 l0 w0).mono fun e W' ⟨he, bel⟩ => ?_
  subst he
  exact ⟨_, rfl, _, _, _, [], _, [], hW', trodAll_mk1 (shut_bool Try.underlying4 _), (trodAll_cons_mk (Below.trod laidOut (by kernel_rfl) (of_decide_eq_true (by kernel_rfl)) k0 bel lt0) (trodAll_cons_mk (Below.trod laidOut (by kernel_rfl) (of_decide_eq_true (by kernel_rfl)) k1 bel lt1) (trodAll_cons_mk (Below.trod laidOut (by kernel_rfl) (of_decide_eq_true (by kernel_rfl)) k2 bel lt2) (trodAll_cons_mk (Below.trod laidOut (by kernel_rfl) (of_decide_eq_true (by kernel_rfl)) k3 bel lt3) trodAll_mk0)))), rfl, Below.frame bel _, fun h => by cases h⟩

theorem over : Rows.heapKeepsRow.holds Try.pinned (OpenSpec.ofChange Rows.heapKeepsSpec) :=
  OpenClaim.holds_of_wide 6 Try.f6 rfl rfl rfl rfl rfl rfl rfl ⟨rfl, rfl, rfl, rfl, rfl⟩ rfl rfl rfl rfl rfl (by kernel_rfl) Try.func6 (by kernel_rfl)
    (of_decide_eq_true (by kernel_rfl)) (by unfold Func.isWrapper; first | (rw [if_pos (by decide +kernel)]; kernel_rfl) | (rw [if_neg (by decide +kernel)]; exact ⟨rfl, rfl⟩))
    (fun os started H enc _ => lifted os started H enc)

theorem proved : Rows.HeapKeepsSaid := over
end Go.Proofs.Ytolfgkpmcfneiaa.heapKeeps
namespace Go.Proofs.Ytolfgkpmcfneiaa
theorem heapKeeps_holds : Rows.HeapKeepsSaid := heapKeeps.proved
#print axioms heapKeeps_holds
end Go.Proofs.Ytolfgkpmcfneiaa
