/- For all lists of words that may be handed in, the statement PrimStacks of layer 9 answers true: what is pushed to an array of the program is popped, the last one first, and then it is FaultRange; no condition but that the listed tables lie as the program's text lays them. -/
import Derived.Test.YtajnpdiepiinjaaGreatDoorFr9
import Derived.Test.YtajnpdiepiinjaaGreatDoorPW
set_option linter.unusedVariables false
set_option linter.unusedSimpArgs false
namespace Go.Proofs.YtajnpdiepiinjaaGreatDoor.primStacks
open Go.ChangeShapes Go.WideShapes Go.ChangeAt Go.RowKit

theorem take_snoc (F : List Int) (k : Nat) (h : k < F.length) : F.take (k + 1) = F.take k ++ [F[k]] := by
  rw [List.take_succ_eq_append_getElem h]
theorem new9 : aMakeE (9, []) (oArr []) = 0 ∧ aMakeV (9, []) (oArr []) = 2 := by decide
theorem new9h : aMakeH (9, []) (oArr []) = (9, [oArr []]) := by unfold aMakeH; rw [new9.1, if_pos rfl]; rfl
theorem wf0 : wF 0 = 0 := rfl
theorem wf1 : wF 1 = 1 := rfl
theorem dv0 : dV 0 = 1 := rfl
theorem dv1 : dV 1 = 0 := rfl
theorem pf0 : pF 0 = 0 := rfl
theorem pf4 : pF 4 = 3 := rfl
theorem pv0 (v : Int) : pV 0 v = v := rfl
theorem pv4 (v : Int) : pV 4 v = 0 := rfl
theorem popE_none : aPopE (9, [oArr []]) 2 = 4 := by decide
theorem nil_sl (w : World) : Sl w (fun _ => True) (.slice none 0 0) ([] : List Int).length 1 (([] : List Int).map (Value.int .u64)) := Sl.nil _ _ 1

set_option maxHeartbeats 16000000 in
set_option maxRecDepth 100000 in
theorem core (w : World) (ht : Tf w) (har : Ar w) (v0 : Value) (l0 : List Int) (w0 : Sl w (fun _ => True) v0 l0.length 1 (l0.map (Value.int .u64)) ∧ (∀ a ∈ l0, U a) ∧ l0.length ≤ maxLen) :
    Calls Tryz.prog 6 #[v0] w fun e w' => e = .returned (.bool true) ∧ Bw w w' := by
  obtain ⟨a0, c0, rfl⟩ := w0.1.form
  have hm0 := w0.2.2
  unfold maxLen at hm0
  have W0 := hid w0
  have HT := hid ht
  have HA := hid har
  clear w0 ht har
  obtain ⟨i2, hi2, hz2, hs2, hy2⟩ := info_parts infoV
  have I2 := hid (And.intro hi2 (And.intro hz2 (And.intro hs2 hy2)))
  clear hi2 hz2 hs2 hy2
  by_cases h0 : l0.length ≤ 200
  · have h0' : decide ((200 : Int) < (l0.length : Int)) = false := decide_eq_false (by omega)
    have U2 : U 2 := ⟨by decide, by decide⟩
    go_enter Tryz.func6, Tryz.ntmps6
    go_wp2_with (first
      | (go_at_call 24; refine (new_ok 9 _ (by decide) (by decide)).mono ?_; rintro e w1 ⟨rfl, hs1, hb1, hl1⟩; have S1 := hid hs1; have B1 := hid (And.intro hb1 (show ∀ b ∈ [w.heap.size], w.heap.size ≤ b by simp)); clear hs1 hb1 hl1)
      | (go_at_call 29; refine (arr_any (fun _ => True) _ [] _ S1.out (nil_sl _) (fun x hx => by cases hx) (by decide)).mono ?_; rw [new9.1, new9.2, new9h]; rintro e w2 ⟨rfl, bs2, hs2, hn2⟩; have S2 := hid hs2; have B2 := hid (hn2.bw B1.out.1 B1.out.2); clear hs2 hn2)
      | fail)
    go_loopw [7, 8] (fun o j wr => ∃ (k : Nat) (bs : List Nat), k ≤ l0.length ∧ j = .int .i64 k ∧ HS wr w.heap.size (9, [oArr ((l0.take k).filter (gd 1))]) bs ∧ (Bw w wr ∧ ∀ b ∈ bs, w.heap.size ≤ b) ∧ InRow w wr bs o ((l0.take k).filter (gd 1))) (fun o j _ => l0.length - (intOf j).toNat)
    case atStart => exact ⟨0, _, Nat.zero_le _, rfl, by simpa using S2.out, B2.out, by simpa using InRow.nil _ _ _⟩
    case round =>
      obtain ⟨k, bs, hk, rfl, hS, hB, hI⟩ := hrel
      have HSr := hid hS
      have HBr := hid hB
      have HIr := hid hI
      obtain ⟨ai, ci, e⟩ := own_form hI.1
      subst e
      have hFl : ((l0.take k).filter (gd 1)).length ≤ 200 := by
        have := List.length_filter_le (gd 1) (l0.take k)
        have := List.length_take_le k l0
        omega
      clear hS hB hI
      by_cases hlt : k < l0.length
      · obtain ⟨bb, off, rfl, hbb, cb⟩ := W0.out.1.at hlt
        have cw : w.cell? ⟨bb, off + k, none⟩ = some (.int .u64 l0[k]) := by rw [cb]; simp [hlt]
        have HUx := hid (W0.out.2.1 _ (List.getElem_mem hlt))
        have HTF := hid (take_filter l0 k hlt (gd 1))
        have PE := hid (pushE_one 9 ((l0.take k).filter (gd 1)) l0[k] (by omega))
        have PHp := hid (pushH_one 9 ((l0.take k).filter (gd 1)) l0[k] (by omega))
        have hb2 : (k : Int) < (l0.length : Int) := by omega
        have HCW := hid cw
        have c1' : wr.cell? ⟨bb, off + k, none⟩ = some (.int .u64 l0[k]) := (cell_bw HBr.out.1 hbb).trans cw
        have hbr : bb < wr.heap.size := Nat.lt_of_lt_of_le hbb HBr.out.1.size
        clear cb cw
        have HFL := hid hFl
        clear hFl
        generalize l0[k] = x at c1' HCW HUx HTF PE PHp
        generalize (l0.take k).filter (gd 1) = F at *
        have hcap : ∀ o ∈ ((9, [oArr F]) : AHeap).2, o.vals.length ≤ 65536 := by
          intro o ho
          simp at ho
          subst ho
          have := HFL.out
          simp only [oArr_vals]; omega
        have HCAP := hid hcap
        clear hcap
        have HNB := hid (show wr.heap.size ∉ bs from fun hm => by have := HSr.out.lt hm; omega)
        have HNW := hid (Blk.new wr #[.int .u64 2, .int .u64 x] 27)
        cases hg : gd 1 x
        · have e5 : aPushE (9, [oArr F]) 2 x = 1 := by rw [PE.out, hg]; rfl
          have e6 : aPushH (9, [oArr F]) 2 x = (9, [oArr F]) := by rw [PHp.out, hg]; rfl
          have EP := hid (And.intro e5 e6)
          have e7 : (l0.take (k + 1)).filter (gd 1) = F := by rw [HTF.out, hg]; simp
          have E7 := hid e7
          clear e5 e6 e7
          go_wp2_with (first
            | (go_at_call 27; refine (pure_push wr.heap.size 2 x U2 HUx.out (HA.out.bw (Bw.alloc HBr.out.1 _)) (HSr.out.bw (Bw.alloc (Bw.refl _) _)) HCAP.out (HNW.out.cell 0) (HNW.out.cell 1) HNW.out.lt HNB.out).mono ?_; rw [EP.out.1, EP.out.2, wf1, dv1]; rintro e wp ⟨rfl, bsp, hsp, hnp⟩; have SP := hid hsp; have BP := hid (hnp.bw (Bw.alloc HBr.out.1 _) HBr.out.2); have IP := hid ((HIr.out.bw (Bw.alloc (Bw.refl _) _)).nx hnp); have cp : wp.cell? ⟨bb, off + k, none⟩ = some (.int .u64 x) := (cell_bw BP.out.1 hbb).trans HCW.out; clear hsp hnp)
            | (go_at_call 30; refine (good_one _ HUx.out _ SP.out).mono ?_; rw [hg]; rintro e w' ⟨rfl, hw'⟩; subst w')
            | fail)
          go_roundw
          case rel => exact ⟨k + 1, bsp, by omega, by go_num, by rw [E7.out]; exact SP.out, BP.out, by rw [E7.out]; exact IP.out⟩
          case measure => simp [intOf]; omega
        · have e5 : aPushE (9, [oArr F]) 2 x = 0 := by rw [PE.out, hg]; rfl
          have e6 : aPushH (9, [oArr F]) 2 x = (9, [oArr (F ++ [x])]) := by rw [PHp.out, hg]; simp
          have EP := hid (And.intro e5 e6)
          have e7 : (l0.take (k + 1)).filter (gd 1) = F ++ [x] := by rw [HTF.out, hg]; simp
          have E7 := hid e7
          clear e5 e6 e7
          go_wp2_with (first
            | (go_at_call 27; refine (pure_push wr.heap.size 2 x U2 HUx.out (HA.out.bw (Bw.alloc HBr.out.1 _)) (HSr.out.bw (Bw.alloc (Bw.refl _) _)) HCAP.out (HNW.out.cell 0) (HNW.out.cell 1) HNW.out.lt HNB.out).mono ?_; rw [EP.out.1, EP.out.2, wf0, dv0]; rintro e wp ⟨rfl, bsp, hsp, hnp⟩; have SP := hid hsp; have BP := hid (hnp.bw (Bw.alloc HBr.out.1 _) HBr.out.2); have IP := hid ((HIr.out.bw (Bw.alloc (Bw.refl _) _)).nx hnp); have cp : wp.cell? ⟨bb, off + k, none⟩ = some (.int .u64 x) := (cell_bw BP.out.1 hbb).trans HCW.out; have hbp : bb < wp.heap.size := Nat.lt_of_lt_of_le hbb BP.out.1.size; have HNW2 := hid (heap_alloc_new wp (.cells #[.int .u64 x] 27)); clear hsp hnp)
            | (go_at_call 30; refine (good_one _ HUx.out _ SP.out).mono ?_; rw [hg]; rintro e w' ⟨rfl, hw'⟩; subst w')
            | (at_builtin; refine wpList_append_row _ rfl _ _ 61 rfl 27 i2 (.int .u64 0) 1 8 Tryz.underlying61 I2.out.1 I2.out.2.1 I2.out.2.2.1 I2.out.2.2.2 rfl (by decide) (.slice ai F.length ci) F.length (F.map (Value.int .u64)) rfl ?c0 ⟨wp.heap.size, 0, none⟩ 1 1 [.int .u64 x] rfl rfl ?c1 ?c2 ?c3 ?c4 ?_)
            | fail)
          case c0 => exact (IP.out.bw (Bw.alloc (Bw.refl _) _)).1
          case c1 => exact new_cells (by simpa using HNW2.out) rfl
          case c2 => intro u hu; simp at hu; subst hu; rfl
          case c3 => have := HFL.out; unfold maxLen; omega
          case c4 => have := HFL.out; omega
          intro v' w5 how hgr hvb
          obtain ⟨av', cv', e⟩ := own_form how
          subst e
          have hI5 := IP.out.bw (Bw.alloc (Bw.refl wp) (.cells #[.int .u64 x] 27))
          have hB5 := Bw.alloc BP.out.1 (.cells #[.int .u64 x] 27)
          have hS5 := SP.out.bw (Bw.alloc (Bw.refl wp) (.cells #[.int .u64 x] 27))
          have HS6 := hid (hS5.grown hgr (fun k hk => (hI5.2 k hk).2))
          have HB6 := hid (hI5.bwGrown hB5 hgr)
          have HI6 := hid (hI5.grown (l' := F ++ [x]) hB5 (fun b hb => hS5.lt hb) (by simpa using how) (hvb.imp id (fun h k hk => by have := h k hk; simpa using this)))
          clear how hgr hvb hI5 hB5 hS5
          go_wp2
          go_roundw
          case rel => exact ⟨k + 1, bsp, by omega, by go_num, by rw [E7.out]; exact HS6.out, ⟨HB6.out, BP.out.2⟩, by rw [E7.out]; exact HI6.out⟩
          case measure => simp [intOf]; omega
      · have hkl : l0.take k = l0 := List.take_of_length_le (by omega)
        rw [hkl] at HSr HIr hFl
        rw [hkl]
        have HSr' := hid HSr.out
        have HIr' := hid HIr.out
        clear hkl HSr HIr
        generalize l0.filter (gd 1) = F at *
        go_wp2
        go_loopw [11] (fun j wr => ∃ (k : Nat) (bs : List Nat), k ≤ F.length ∧ j = .int .i64 ((k : Int) - 1) ∧ HS wr w.heap.size (9, [oArr (F.take k)]) bs ∧ (Bw w wr ∧ ∀ b ∈ bs, w.heap.size ≤ b) ∧ InRow w wr bs (.slice ai F.length ci) F) (fun j _ => (intOf j + 1).toNat)
        case atStart => exact ⟨F.length, bs, Nat.le_refl _, rfl, by simpa using HSr'.out, HBr.out, HIr'.out⟩
        case round =>
          obtain ⟨k, bs, hk, rfl, hS, hB, hI⟩ := hrel
          have HS1 := hid hS
          have HB1 := hid hB
          have HI1 := hid hI
          clear hS hB hI
          have HNW := hid (Blk.new wr #[.int .u64 2] 27)
          cases k with
          | zero =>
            have HS2 := hid (show HS wr w.heap.size (9, [oArr []]) bs by simpa using HS1.out)
            go_wp2_with (first
              | (go_at_call 27; refine (pure_pop wr.heap.size 2 U2 (HA.out.bw (Bw.alloc HB1.out.1 _)) (HS2.out.bw (Bw.alloc (Bw.refl _) _)) (HNW.out.cell 0) HNW.out.lt).mono ?_; rw [popE_none, pf4, pv4]; rintro e wp ⟨rfl, bsp, hsp, hnp⟩; have BP := hid (hnp.bw (Bw.alloc HB1.out.1 _) HB1.out.2); clear hsp hnp)
              | (go_at_call 9; refine (live_any _ (HT.out.bw BP.out.1)).mono ?_; rintro e wl ⟨rfl, hbl⟩; have BL := hid hbl; clear hbl)
              | fail)
            all_goals go_ret
            all_goals exact ⟨rfl, Bw.trans BP.out.1 BL.out⟩
          | succ k =>
            have hkF : k < F.length := by omega
            have HTA := hid (take_snoc F k hkF)
            have hS := HS1.out
            rw [HTA.out] at hS
            have HS2 := hid hS
            obtain ⟨bi, oi, rfl, hbi, cbi⟩ := HI1.out.sl.at hkF
            have ci1 : wr.cell? ⟨bi, oi + k, none⟩ = some (.int .u64 F[k]) := by rw [cbi]; simp [hkF]
            have E1 := hid (popE_one 9 (F.take k) F[k])
            have E2 := hid (popV_one 9 (F.take k) F[k])
            have E3 := hid (popH_one 9 (F.take k) F[k])
            have hb1 : (0 : Int) ≤ (k : Int) := by omega
            have hb2 : (k : Int) < (F.length : Int) := by omega
            have hkk : (((k + 1 : Nat) : Int) - 1) = (k : Int) := by omega
            rw [hkk]
            clear hS cbi hkk
            generalize F[k] = x at ci1 HS2 E1 E2 E3
            have ci2 : (wr.alloc (.cells #[.int .u64 2] 27)).cell? ⟨bi, oi + k, none⟩ = some (.int .u64 x) := (cell_bw (Bw.alloc (Bw.refl wr) _) hbi).trans ci1
            have HCI := hid ci2
            have HBI := hid (show bi < (wr.alloc (.cells #[.int .u64 2] 27)).heap.size by simp; omega)
            clear ci2
            go_wp2_with (first
              | (go_at_call 27; refine (pure_pop wr.heap.size 2 U2 (HA.out.bw (Bw.alloc HB1.out.1 _)) (HS2.out.bw (Bw.alloc (Bw.refl _) _)) (HNW.out.cell 0) HNW.out.lt).mono ?_; rw [E1.out, E2.out, E3.out, pf0, pv0]; rintro e wp ⟨rfl, bsp, hsp, hnp⟩; have SP := hid hsp; have BP := hid (hnp.bw (Bw.alloc HB1.out.1 _) HB1.out.2); have IP := hid ((HI1.out.bw (Bw.alloc (Bw.refl _) _)).nx hnp); have cp : wp.cell? ⟨bi, oi + k, none⟩ = some (.int .u64 x) := (World.cell?_of_block (a := ⟨bi, oi + k, none⟩) (hnp.1.block bi HBI.out (by first | exact (HI1.out.2 bi rfl).2 | (have q := HI1.out.1.2; rcases q with ⟨_, q0⟩ | ⟨g, cap, cur, q1, _⟩; · omega; · cases q1; exact (HI1.out.2 _ rfl).2)))).trans HCI.out; clear hsp hnp)
              | fail)
            all_goals skip
            go_roundw
            case rel => exact ⟨k, bsp, by omega, by go_num, SP.out, BP.out, IP.out⟩
            case measure => simp [intOf]
  · have h0' : decide ((200 : Int) < (l0.length : Int)) = true := decide_eq_true (by omega)
    go_enter Tryz.func6, Tryz.ntmps6
    go_wp2_with (first
      | (go_at_call 9; refine (live_any _ HT.out).mono ?_; rintro e wl ⟨rfl, hbl⟩; have BL := hid hbl; clear hbl)
      | fail)
    all_goals go_ret
    all_goals exact ⟨rfl, BL.out⟩

theorem walk (w : World) (htf : Tf w) (har : Ar w) (v0 : Value) (l0 : List Int) (w0 : Sl w (fun _ => True) v0 l0.length 1 (l0.map (Value.int .u64)) ∧ (∀ a ∈ l0, U a) ∧ l0.length ≤ maxLen) :
    Calls Tryz.prog 6 #[v0] w fun e w' => e = .returned (.bool true) ∧ Bw w w' := by
  exact core w htf har v0 l0 w0

set_option maxRecDepth 100000 in
theorem lifted (os : Os) (started : os.Started) (H : Type) (enc : TypeId × Value → H) :
    ReturnsInHanded {} Tryz.checked os 6 .any (fun w args => (Rows.primStacksSpec.pre enc Tryz.prog Tryz.f6 [] false w args ∧ laidMetH Tryz.prog laidS w) ∧ sizedMet enc Tryz.prog Tryz.f6 (OpenSpec.ofChange Rows.primStacksSpec) false w args)
      (Rows.primStacksSpec.post enc Tryz.prog Tryz.f6 false true false false) := by
  refine returnsInHanded_of_change_and (C := Tryz.checked) (X := fun w _ => laidMetH Tryz.prog laidS w) (fun _ _ _ hh h => h.of_heap hh) ownK started (by kernel_rfl) Tryz.func6
    (ChangeSpec.witness_shaped (enc := enc) (C := Tryz.checked) (os := os) (X := fun w _ => laidMetH Tryz.prog laidS w) false (World.doorLaid Tryz.prog 400 os) #[.slice none 0 0] 8 rfl (World.shaped_of_RefB (by kernel_rfl) (by kernel_rfl)) (by kernel_rfl) (by kernel_rfl) (by kernel_rfl) (door_met os _)) ?_
  intro W base args ds gs before hval0 hW _ _ hL _
  have hval : ∀ (j : Nat) t v, Tryz.f6.params[j]? = some t → args[j]? = some v → Value.okWide Tryz.prog W .any base t v := hval0
  have hW' := hW
  obtain ⟨p, q, hA0, hV, rfl, hfz, hnd⟩ := hW
  have hA : DataW.TrodAll enc Tryz.prog W 0 (fun _ => true) true Tryz.f6.params.toList args.toList ds p := hA0
  rw [Tryz.params6] at hA hval
  obtain ⟨v0, vs0, d0, ds0, p0, q0, hargs, rfl, rfl, h0, r0⟩ := trodAll_cons hA
  obtain ⟨rfl, rfl, rfl⟩ := trodAll_nil r0
  obtain rfl : args = #[v0] := by cases args; simp_all
  obtain ⟨rfl, rfl⟩ := trodVars_none hV
  have k0 := h0
  have lt0 : ∀ x ∈ p0, x.block < W.heap.size := by obtain ⟨m, hm⟩ := k0; exact DataW.trod_lt m _ _ _ hm
  obtain ⟨l0, w0⟩ := open_vals (hval 0 61 v0 rfl rfl) h0
  clear hA0 hval0
  refine (walk W (tf_of_laid hL) (ar_of_laid hL) v0 l0 w0).mono fun e W' ⟨he, bel⟩ => ?_
  subst he
  exact ⟨_, rfl, _, _, _, [], _, [], hW', trodAll_mk1 (shut_bool Tryz.underlying4 _), (trodAll_cons_mk (Below.trod laidOut (by kernel_rfl) (of_decide_eq_true (by kernel_rfl)) k0 bel lt0) trodAll_mk0), rfl, Below.frame bel _, fun h => by cases h⟩

theorem over : Rows.primStacksRow.holds Tryz.pinned (OpenSpec.ofChange Rows.primStacksSpec) :=
  OpenClaim.holds_of_wide 6 Tryz.f6 rfl rfl rfl rfl rfl rfl rfl ⟨rfl, rfl, rfl, rfl, rfl⟩ rfl rfl rfl rfl rfl (by kernel_rfl) Tryz.func6 (by kernel_rfl)
    (of_decide_eq_true (by kernel_rfl)) (by unfold Func.isWrapper; first | (rw [if_pos (by decide +kernel)]; kernel_rfl) | (rw [if_neg (by decide +kernel)]; exact ⟨rfl, rfl⟩))
    (fun os started H enc _ => lifted os started H enc)

theorem card : Rows.PrimStacksCardSaid :=
  Claim7.holds_tied_plain_at .later [] [.data, .data, .data, .data, .data, .data, .data] true (true, "30ba780aa47119653ab3e8081b0a33507b5c2ddb5d70185776cadd84b12b0ea8") false
    over (fun _ h => by cases h) (by kernel_rfl) (fun _ h => by cases h) primStacks_row_tie rfl ⟨rfl, rfl⟩ (by kernel_rfl) rfl
    (fun f fn hf hfn => by
      obtain rfl : f = 6 := Option.some.inj ((show Tryz.prog.funcNamed "jacquard/jacquardlaw09.PrimStacks" = some 6 by kernel_rfl).symm.trans hf) |>.symm
      obtain rfl : fn = Tryz.f6 := (Option.some.inj (Tryz.func6.symm.trans hfn)).symm
      exact ⟨by kernel_rfl, fun j t ht => by
        rw [Tryz.params6] at ht
        have hm : t ∈ [61] := by have h9 := Array.mem_of_getElem? ht; simp at h9 ⊢; first | exact h9 | (rcases h9 with h9 | h9 <;> simp [h9]; done) | (rcases h9 with h9 | h9 | h9 <;> simp [h9]; done) | (rcases h9 with h9 | h9 | h9 | h9 <;> simp [h9]; done)
        have hall : ([61].all fun u => !Tryz.prog.wantsStandIn u) = true := by kernel_rfl
        exact (show Tryz.prog.wantsStandIn t = false by simpa using List.all_eq_true.1 hall t hm)⟩)
    (by kernel_rfl)
end Go.Proofs.YtajnpdiepiinjaaGreatDoor.primStacks
namespace Go.Proofs.YtajnpdiepiinjaaGreatDoor
theorem primStacks_holds : Rows.PrimStacksCardSaid := primStacks.card
#print axioms primStacks_holds
end Go.Proofs.YtajnpdiepiinjaaGreatDoor
