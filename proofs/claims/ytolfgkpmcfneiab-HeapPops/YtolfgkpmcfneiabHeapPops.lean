/- For all lists of words that may be handed in, the statement HeapPops of layer 3 answers true: what is pushed to an array of the program is popped, the last one first, and then the array is as it was; no condition. -/
import Derived.Test.YtolfgkpmcfneiabPW
import Derived.Test.YtolfgkpmcfneiabFo
set_option linter.unusedVariables false
set_option linter.unusedSimpArgs false
namespace Go.Proofs.Ytolfgkpmcfneiab.heapPops
open Go.ChangeShapes Go.WideShapes Go.ChangeAt Go.RowKit

theorem take_snoc_app (l F : List Int) (k : Nat) (h : k < F.length) : l ++ F.take (k + 1) = (l ++ F.take k) ++ [F[k]] := by
  rw [List.take_succ_eq_append_getElem h, List.append_assoc]

set_option maxHeartbeats 16000000 in
set_option maxRecDepth 100000 in
theorem core (w : World) (v0 : Value) (l0 : List Int) (w0 : Sl w (fun _ => True) v0 l0.length 1 (l0.map (Value.int .u64)) ∧ (∀ a ∈ l0, U a) ∧ l0.length ≤ maxLen)
    (v1 : Value) (l1 : List Int) (w1 : Sl w (fun _ => True) v1 l1.length 1 (l1.map (Value.int .u64)) ∧ (∀ a ∈ l1, U a) ∧ l1.length ≤ maxLen) :
    Calls Try.prog 3 #[v0, v1] w fun e w' => e = .returned (.bool true) ∧ Bw w w' := by
  obtain ⟨a0, c0, rfl⟩ := w0.1.form
  obtain ⟨a1, c1, rfl⟩ := w1.1.form
  have hm0 := w0.2.2
  have hm1 := w1.2.2
  unfold maxLen at hm0 hm1
  have W0 := hid w0
  have W1 := hid w1
  clear w0 w1
  obtain ⟨i2, hi2, hz2, hs2, hy2⟩ := info_parts infoV
  have I2 := hid (And.intro hi2 (And.intro hz2 (And.intro hs2 hy2)))
  clear hi2 hz2 hs2 hy2
  by_cases h0 : l0.length ≤ 200
  · have h0' : decide ((200 : Int) < (l0.length : Int)) = false := decide_eq_false (by omega)
    by_cases h1 : l1.length ≤ 200
    · have h1' : decide ((200 : Int) < (l1.length : Int)) = false := decide_eq_false (by omega)
      have HE := hid (make9 l0 (by omega))
      cases hps : pSound 0 (oArr l0)
      · have e1 : aMakeE (9, []) (oArr l0) = 1 := by rw [HE.out, hps]; rfl
        have e2 : aMakeV (9, []) (oArr l0) = 0 := by simp [aMakeV, e1]
        have e3 : aMakeH (9, []) (oArr l0) = (9, []) := by simp [aMakeH, e1]
        have ES := hid (And.intro e1 (And.intro e2 e3))
        clear e1 e2 e3
        go_enter Try.func3, Try.ntmps3
        go_wp2_with (first
          | (go_at_call 5; refine (new_ok 9 _ (by decide) (by decide)).mono ?_; rintro e w1 ⟨rfl, hs1, hb1, hl1⟩; have S1 := hid hs1; have B1 := hid (And.intro hb1 (show ∀ b ∈ [w.heap.size], w.heap.size ≤ b by simp)); clear hs1 hb1 hl1)
          | (go_at_call 6; refine (num_any _ _).mono ?_; rintro e w' ⟨rfl, rfl⟩)
          | (go_at_call 7; refine (arr_any (fun _ => True) _ l0 _ S1.out (W0.out.1.below B1.out.1) W0.out.2.1 (by omega)).mono ?_; rw [ES.out.1, ES.out.2.1, ES.out.2.2]; rintro e w2 ⟨rfl, bs2, hs2, hn2⟩; have S2 := hid hs2; have B2 := hid (hn2.bw B1.out.1 B1.out.2); clear hs2 hn2)
          | (go_at_call 4; refine (live_any _).mono ?_; rintro e wl ⟨rfl, hbl⟩; have BL := hid hbl; clear hbl))
        all_goals go_ret
        all_goals exact ⟨rfl, Bw.trans B2.out.1 BL.out⟩
      · have e1 : aMakeE (9, []) (oArr l0) = 0 := by rw [HE.out, hps]; rfl
        have e2 : aMakeV (9, []) (oArr l0) = 2 := by simp [aMakeV, e1]
        have e3 : aMakeH (9, []) (oArr l0) = (9, [oArr l0]) := by simp [aMakeH, e1]
        have ES := hid (And.intro e1 (And.intro e2 e3))
        have U2 : U 2 := ⟨by decide, by decide⟩
        clear e1 e2 e3
        go_enter Try.func3, Try.ntmps3
        go_wp2_with (first
          | (go_at_call 5; refine (new_ok 9 _ (by decide) (by decide)).mono ?_; rintro e w1 ⟨rfl, hs1, hb1, hl1⟩; have S1 := hid hs1; have B1 := hid (And.intro hb1 (show ∀ b ∈ [w.heap.size], w.heap.size ≤ b by simp)); clear hs1 hb1 hl1)
          | (go_at_call 6; refine (num_any _ _).mono ?_; rintro e w' ⟨rfl, rfl⟩)
          | (go_at_call 7; refine (arr_any (fun _ => True) _ l0 _ S1.out (W0.out.1.below B1.out.1) W0.out.2.1 (by omega)).mono ?_; rw [ES.out.1, ES.out.2.1, ES.out.2.2]; rintro e w2 ⟨rfl, bs2, hs2, hn2⟩; have S2 := hid hs2; have B2 := hid (hn2.bw B1.out.1 B1.out.2); clear hs2 hn2))
        go_loopw [9, 10] (fun o j wr => ∃ (k : Nat) (bs : List Nat), k ≤ l1.length ∧ j = .int .i64 k ∧ HS wr w.heap.size (9, [oArr (l0 ++ (l1.take k).filter (gd 1))]) bs ∧ (Bw w wr ∧ ∀ b ∈ bs, w.heap.size ≤ b) ∧ InRow w wr bs o ((l1.take k).filter (gd 1))) (fun o j _ => l1.length - (intOf j).toNat)
        case atStart => exact ⟨0, _, Nat.zero_le _, rfl, by simpa using S2.out, B2.out, by simpa using InRow.nil _ _ _⟩
        case round =>
          obtain ⟨k, bs, hk, rfl, hS, hB, hI⟩ := hrel
          have HSr := hid hS
          have HBr := hid hB
          have HIr := hid hI
          obtain ⟨ai, ci, e⟩ := own_form hI.1
          subst e
          have hFl : ((l1.take k).filter (gd 1)).length ≤ 200 := by
            have := List.length_filter_le (gd 1) (l1.take k)
            have := List.length_take_le k l1
            omega
          have hLl : (l0 ++ (l1.take k).filter (gd 1)).length ≤ 400 := by rw [List.length_append]; omega
          clear hS hB hI
          by_cases hlt : k < l1.length
          · obtain ⟨bb, off, rfl, hbb, cb⟩ := W1.out.1.at hlt
            have cw : w.cell? ⟨bb, off + k, none⟩ = some (.int .u64 l1[k]) := by rw [cb]; simp [hlt]
            have HUx := hid (W1.out.2.1 _ (List.getElem_mem hlt))
            have HTF := hid (take_filter l1 k hlt (gd 1))
            have PE := hid (pushE_one 9 (l0 ++ (l1.take k).filter (gd 1)) l1[k] hLl)
            have PHp := hid (pushH_one 9 (l0 ++ (l1.take k).filter (gd 1)) l1[k] hLl)
            have hb2 : (k : Int) < (l1.length : Int) := by omega
            have HCW := hid cw
            have c1' : wr.cell? ⟨bb, off + k, none⟩ = some (.int .u64 l1[k]) := (cell_bw HBr.out.1 hbb).trans cw
            clear cb cw
            have HLL := hid hLl
            have HFL := hid hFl
            clear hLl hFl
            generalize l1[k] = x at c1' HCW HUx HTF PE PHp
            generalize (l1.take k).filter (gd 1) = F at *
            have hcap : ∀ o ∈ ((9, [oArr (l0 ++ F)]) : AHeap).2, o.vals.length ≤ 65536 := by
              intro o ho
              simp at ho
              subst ho
              have := HLL.out
              simp only [oArr_vals]; omega
            have HCAP := hid hcap
            clear hcap
            cases hg : gd 1 x
            · have e5 : aPushE (9, [oArr (l0 ++ F)]) 2 x = 1 := by rw [PE.out, hg]; rfl
              have e6 : aPushH (9, [oArr (l0 ++ F)]) 2 x = (9, [oArr (l0 ++ F)]) := by rw [PHp.out, hg]; rfl
              have EP := hid (And.intro e5 e6)
              have e7 : (l1.take (k + 1)).filter (gd 1) = F := by rw [HTF.out, hg]; simp
              have E7 := hid e7
              clear e5 e6 e7
              go_wp2_with (first
                | (go_at_call 8; refine (push_any _ _ U2 HUx.out _ HSr.out HCAP.out).mono ?_; rw [EP.out.1, EP.out.2]; rintro e wp ⟨rfl, bsp, hsp, hnp⟩; have SP := hid hsp; have BP := hid (hnp.bw HBr.out.1 HBr.out.2); have IP := hid (HIr.out.nx hnp); clear hsp hnp)
                | (go_at_call 6; refine (num_any _ _).mono ?_; rintro e w' ⟨rfl, rfl⟩))
              have cp : wp.cell? ⟨bb, off + k, none⟩ = some (.int .u64 x) := (cell_bw BP.out.1 hbb).trans HCW.out
              go_quiet (first
                | (go_at_call 6; refine Calls.quiet_of_same (num_any _ _))
                | (go_at_call 9; refine Calls.quiet_of_same (good_one _ HUx.out _ (SP.out.bw (Bw.drewN (Bw.refl _) _)))))
              go_wp2_with (first
                | (go_at_call 6; refine (num_any _ _).mono ?_; rintro e w' ⟨rfl, rfl⟩))
              go_roundw
              case rel => exact ⟨k + 1, bsp, by omega, by go_num, by rw [E7.out]; exact SP.out.bw (Bw.drewN (Bw.refl _) _), ⟨Bw.drewN BP.out.1 _, BP.out.2⟩, by rw [E7.out]; exact IP.out.bw (Bw.drewN (Bw.refl _) _)⟩
              case measure => simp [intOf]; omega
            · have e5 : aPushE (9, [oArr (l0 ++ F)]) 2 x = 0 := by rw [PE.out, hg]; rfl
              have e6 : aPushH (9, [oArr (l0 ++ F)]) 2 x = (9, [oArr (l0 ++ (F ++ [x]))]) := by rw [PHp.out, hg]; simp
              have EP := hid (And.intro e5 e6)
              have e7 : (l1.take (k + 1)).filter (gd 1) = F ++ [x] := by rw [HTF.out, hg]; simp
              have E7 := hid e7
              clear e5 e6 e7
              go_wp2_with (first
                | (go_at_call 8; refine (push_any _ _ U2 HUx.out _ HSr.out HCAP.out).mono ?_; rw [EP.out.1, EP.out.2]; rintro e wp ⟨rfl, bsp, hsp, hnp⟩; have SP := hid hsp; have BP := hid (hnp.bw HBr.out.1 HBr.out.2); have IP := hid (HIr.out.nx hnp); clear hsp hnp)
                | (go_at_call 6; refine (num_any _ _).mono ?_; rintro e w' ⟨rfl, rfl⟩))
              have cp : wp.cell? ⟨bb, off + k, none⟩ = some (.int .u64 x) := (cell_bw BP.out.1 hbb).trans HCW.out
              have hbp : bb < wp.heap.size := Nat.lt_of_lt_of_le hbb BP.out.1.size
              go_quiet (first
                | (go_at_call 6; refine Calls.quiet_of_same (num_any _ _))
                | (go_at_call 9; refine Calls.quiet_of_same (good_one _ HUx.out _ (SP.out.bw (Bw.drewN (Bw.refl _) _)))))
              have HNW := hid (heap_alloc_new wp (.cells #[.int .u64 x] 30))
              go_wp2_with (first
                | (go_at_call 6; refine (num_any _ _).mono ?_; rintro e w' ⟨rfl, rfl⟩)
                | (at_builtin; refine wpList_append_row _ rfl _ _ 22 rfl 30 i2 (.int .u64 0) 1 8 Try.underlying22 I2.out.1 I2.out.2.1 I2.out.2.2.1 I2.out.2.2.2 rfl (by decide) (.slice ai F.length ci) F.length (F.map (Value.int .u64)) rfl ?c0 ⟨wp.heap.size, 0, none⟩ 1 1 [.int .u64 x] rfl rfl ?c1 ?c2 ?c3 ?c4 ?_)
                | go_in)
              case c0 => exact (IP.out.bw (Bw.alloc (Bw.drewN (Bw.refl _) _) _)).1
              case c1 => exact new_cells (by simpa using HNW.out) rfl
              case c2 => intro u hu; simp at hu; subst hu; rfl
              case c3 => have := HFL.out; unfold maxLen; omega
              case c4 => have := HFL.out; omega
              intro v' w5 how hgr hvb
              obtain ⟨av', cv', e⟩ := own_form how
              subst e
              have hI5 := IP.out.bw (Bw.alloc (Bw.drewN (Bw.refl wp) nq) (.cells #[.int .u64 x] 30))
              have hB5 := Bw.alloc (Bw.drewN BP.out.1 nq) (.cells #[.int .u64 x] 30)
              have hS5 := SP.out.bw (Bw.alloc (Bw.drewN (Bw.refl wp) nq) (.cells #[.int .u64 x] 30))
              have HS6 := hid (hS5.grown hgr (fun k hk => (hI5.2 k hk).2))
              have HB6 := hid (hI5.bwGrown hB5 hgr)
              have HI6 := hid (hI5.grown (l' := F ++ [x]) hB5 (fun b hb => hS5.lt hb) (by simpa using how) (hvb.imp id (fun h k hk => by have := h k hk; simpa using this)))
              clear how hgr hvb hI5 hB5 hS5
              go_wp2
              go_roundw
              case rel => exact ⟨k + 1, bsp, by omega, by go_num, by rw [E7.out]; exact HS6.out, ⟨HB6.out, BP.out.2⟩, by rw [E7.out]; exact HI6.out⟩
              case measure => simp [intOf]; omega
          · have hkl : l1.take k = l1 := List.take_of_length_le (by omega)
            rw [hkl] at HSr HIr hFl hLl
            rw [hkl]
            have HSr' := hid HSr.out
            have HIr' := hid HIr.out
            clear hkl HSr HIr
            generalize l1.filter (gd 1) = F at *
            go_wp2
            go_loopw [12] (fun j wr => ∃ (k : Nat) (bs : List Nat), k ≤ F.length ∧ j = .int .i64 ((k : Int) - 1) ∧ HS wr w.heap.size (9, [oArr (l0 ++ F.take k)]) bs ∧ (Bw w wr ∧ ∀ b ∈ bs, w.heap.size ≤ b) ∧ InRow w wr bs (.slice ai F.length ci) F) (fun j _ => (intOf j + 1).toNat)
            case atStart => exact ⟨F.length, bs, Nat.le_refl _, rfl, by simpa using HSr'.out, HBr.out, HIr'.out⟩
            case round =>
              obtain ⟨k, bs, hk, rfl, hS, hB, hI⟩ := hrel
              have HS1 := hid hS
              have HB1 := hid hB
              have HI1 := hid hI
              clear hS hB hI
              cases k with
              | zero =>
                have kd := kk_one 9 l0
                have HKK := hid kd
                have HOB := hid (ob_one 9 l0)
                have HS2 := hid (show HS wr w.heap.size (9, [oArr l0]) bs by simpa using HS1.out)
                have HLI := hid (show aList (9, [oArr l0]) 2 = l0 by rw [aList_vals (.inl kd) (by rw [ob_one, oArr_vals]; omega), ob_one, oArr_vals])
                clear kd
                go_wp2_with (first
                  | (go_at_call 11; refine (len_list _ U2 _ HS2.out (.inl HKK.out)).mono ?_; rw [HOB.out, oArr_vals]; rintro e w' ⟨rfl, os, m, rfl⟩)
                  | (go_at_call 6; refine (num_any _ _).mono ?_; rintro e w' ⟨rfl, rfl⟩)
                  | (go_at_call 13; refine (list_any _ U2 _ (HS2.out.bw (Bw.lay (Bw.refl _) _ _))).mono ?_; rw [HLI.out]; rintro e w7 ⟨r7, rfl, ho7, hb7⟩; have HO7 := hid ho7; have HB7 := hid (Bw.trans (Bw.lay HB1.out.1 _ _) hb7); clear ho7 hb7)
                  | (go_at_call 12; refine (rsameL_any (fun _ => True) _ _ l0 l0 _ (own_sl HO7.out (fun _ _ => trivial)) (W0.out.1.below HB7.out) (by omega) (by omega)).mono ?_; rw [decide_eq_true (rfl : l0 = l0)]; rintro e w' ⟨rfl, os7, m7, rfl⟩)
                  | (go_at_call 4; refine (live_any _).mono ?_; rintro e wl ⟨rfl, hbl⟩; have BL := hid hbl; clear hbl))
                all_goals go_ret
                all_goals exact ⟨rfl, Bw.trans (Bw.lay HB7.out _ _) BL.out⟩
              | succ k =>
                have hkF : k < F.length := by omega
                have HTA := hid (take_snoc_app l0 F k hkF)
                have hS := HS1.out
                rw [HTA.out] at hS
                have HS2 := hid hS
                obtain ⟨bi, oi, rfl, hbi, cbi⟩ := HI1.out.sl.at hkF
                have ci1 : wr.cell? ⟨bi, oi + k, none⟩ = some (.int .u64 F[k]) := by rw [cbi]; simp [hkF]
                have E1 := hid (popE_one 9 (l0 ++ F.take k) F[k])
                have E2 := hid (popV_one 9 (l0 ++ F.take k) F[k])
                have E3 := hid (popH_one 9 (l0 ++ F.take k) F[k])
                have hb1 : (0 : Int) ≤ (k : Int) := by omega
                have hb2 : (k : Int) < (F.length : Int) := by omega
                have hkk : (((k + 1 : Nat) : Int) - 1) = (k : Int) := by omega
                rw [hkk]
                clear hS cbi hkk
                generalize F[k] = x at ci1 HS2 E1 E2 E3
                go_wp2_with (first
                  | (go_at_call 10; refine (pop_any _ U2 _ HS2.out).mono ?_; rw [E1.out, E2.out, E3.out]; rintro e wp ⟨rfl, bsp, hsp, hnp⟩; have SP := hid hsp; have BP := hid (hnp.bw HB1.out.1 HB1.out.2); have IP := hid (HI1.out.nx hnp); have cp : wp.cell? ⟨bi, oi + k, none⟩ = some (.int .u64 x) := (World.cell?_of_block (a := ⟨bi, oi + k, none⟩) (hnp.1.block bi hbi (by first | exact (HI1.out.2 bi rfl).2 | (have q := HI1.out.1.2; rcases q with ⟨_, q0⟩ | ⟨g, cap, cur, q1, _⟩; · omega; · cases q1; exact (HI1.out.2 _ rfl).2)))).trans ci1; clear hsp hnp)
                  | (go_at_call 6; refine (num_any _ _).mono ?_; rintro e w' ⟨rfl, rfl⟩))
                all_goals skip
                go_roundw
                case rel => exact ⟨k, bsp, by omega, by go_num, SP.out, BP.out, IP.out⟩
                case measure => simp [intOf]
    · have h1' : decide ((200 : Int) < (l1.length : Int)) = true := decide_eq_true (by omega)
      go_enter Try.func3, Try.ntmps3
      go_wp2_with (first
        | (go_at_call 4; refine (live_any _).mono ?_; rintro e wl ⟨rfl, hbl⟩; have BL := hid hbl; clear hbl))
      all_goals go_ret
      all_goals exact ⟨rfl, BL.out⟩
  · have h0' : decide ((200 : Int) < (l0.length : Int)) = true := decide_eq_true (by omega)
    go_enter Try.func3, Try.ntmps3
    go_wp2_with (first
      | (go_at_call 4; refine (live_any _).mono ?_; rintro e wl ⟨rfl, hbl⟩; have BL := hid hbl; clear hbl))
    all_goals go_ret
    all_goals exact ⟨rfl, BL.out⟩

theorem walk (w : World) (v0 : Value) (l0 : List Int) (w0 : Sl w (fun _ => True) v0 l0.length 1 (l0.map (Value.int .u64)) ∧ (∀ a ∈ l0, U a) ∧ l0.length ≤ maxLen) (v1 : Value) (l1 : List Int) (w1 : Sl w (fun _ => True) v1 l1.length 1 (l1.map (Value.int .u64)) ∧ (∀ a ∈ l1, U a) ∧ l1.length ≤ maxLen) :
    Calls Try.prog 3 #[v0, v1] w fun e w' => e = .returned (.bool true) ∧ Bw w w' := by
  exact core w v0 l0 w0 v1 l1 w1

set_option maxRecDepth 100000 in
theorem lifted (os : Os) (started : os.Started) (H : Type) (enc : TypeId × Value → H) :
    ReturnsInHanded {} Try.checked os 3 .any (Rows.heapPopsSpec.pre6 enc Try.prog Try.f3 Rows.heapPopsRow.domain false) (Rows.heapPopsSpec.post enc Try.prog Try.f3 false true false false) := by
  refine returnsInHanded_of_change (C := Try.checked) ownK started (by kernel_rfl) Try.func3
    (ChangeSpec.witness6 (enc := enc) (C := Try.checked) false ⟨#[], #[.slice none 0 0, .slice none 0 0], []⟩ 8 (by kernel_rfl) (by kernel_rfl) (by kernel_rfl) (by kernel_rfl)) ?_
  intro W base args ds gs before hval0 hW hcnd _
  have hval : ∀ (j : Nat) t v, Try.f3.params[j]? = some t → args[j]? = some v → Value.okWide Try.prog W .any base t v := hval0
  have hW' := hW
  obtain ⟨p, q, hA0, hV, rfl, hfz, hnd⟩ := hW
  have hA : DataW.TrodAll enc Try.prog W 0 (fun _ => true) true Try.f3.params.toList args.toList ds p := hA0
  rw [Try.params3] at hA hval
  obtain ⟨v0, vs0, d0, ds0, p0, q0, hargs, rfl, rfl, h0, r0⟩ := trodAll_cons hA
  obtain ⟨v1, vs1, d1, ds1, p1, q1, rfl, rfl, rfl, h1, r1⟩ := trodAll_cons r0
  obtain ⟨rfl, rfl, rfl⟩ := trodAll_nil r1
  obtain rfl : args = #[v0, v1] := by cases args; simp_all
  obtain ⟨rfl, rfl⟩ := trodVars_none hV
  have k0 := h0
  have lt0 : ∀ x ∈ p0, x.block < W.heap.size := by obtain ⟨m, hm⟩ := k0; exact DataW.trod_lt m _ _ _ hm
  have k1 := h1
  have lt1 : ∀ x ∈ p1, x.block < W.heap.size := by obtain ⟨m, hm⟩ := k1; exact DataW.trod_lt m _ _ _ hm
  obtain ⟨l0, w0⟩ := open_vals (hval 0 22 v0 rfl rfl) h0
  obtain ⟨l1, w1⟩ := open_vals (hval 1 22 v1 rfl rfl) h1
  clear hA0 hval0
  refine (walk W v0 l0 w0 v1 l1 w1).mono fun e W' ⟨he, bel⟩ => ?_
  subst he
  exact ⟨_, rfl, _, _, _, [], _, [], hW', trodAll_mk1 (shut_bool Try.underlying4 _), (trodAll_cons_mk (Below.trod laidOut (by kernel_rfl) (of_decide_eq_true (by kernel_rfl)) k0 bel lt0) (trodAll_cons_mk (Below.trod laidOut (by kernel_rfl) (of_decide_eq_true (by kernel_rfl)) k1 bel lt1) trodAll_mk0)), rfl, Below.frame bel _, fun h => by cases h⟩

theorem over : Rows.heapPopsRow.holds Try.pinned (OpenSpec.ofChange Rows.heapPopsSpec) :=
  OpenClaim.holds_of_wide 3 Try.f3 rfl rfl rfl rfl rfl rfl rfl ⟨rfl, rfl, rfl, rfl, rfl⟩ rfl rfl rfl rfl rfl (by kernel_rfl) Try.func3 (by kernel_rfl)
    (of_decide_eq_true (by kernel_rfl)) (by unfold Func.isWrapper; first | (rw [if_pos (by decide +kernel)]; kernel_rfl) | (rw [if_neg (by decide +kernel)]; exact ⟨rfl, rfl⟩))
    (fun os started H enc _ => lifted os started H enc)

theorem proved : Rows.HeapPopsSaid := over
end Go.Proofs.Ytolfgkpmcfneiab.heapPops
namespace Go.Proofs.Ytolfgkpmcfneiab
theorem heapPops_holds : Rows.HeapPopsSaid := heapPops.proved
#print axioms heapPops_holds
end Go.Proofs.Ytolfgkpmcfneiab
