/- ScopeBounds: as many slots as may be, and one more; each use is within what its function has. -/
import Derived.Test.YtdhkcdehedbpcaaDoorFz8
set_option linter.unusedVariables false
set_option linter.unusedSimpArgs false
namespace Go.Proofs.YtdhkcdehedbpcaaDoor.scopeBounds
open Go.ChangeShapes Go.WideShapes Go.ChangeAt Go.RowKit

set_option maxRecDepth 100000 in
set_option maxHeartbeats 4000000 in
theorem bU_next (i : Nat) : strOfNums ([102, 110, 32, 102, 40, 41, 32, 123] ++ bSs 0 i) ++ ⟨#[32, 118, 97, 114, 32, 122, 113]⟩ ++ strOfNums [bX i, bY i] ++ ⟨#[32, 61, 32, 49, 59]⟩ = strOfNums ([102, 110, 32, 102, 40, 41, 32, 123] ++ bSs 0 (i + 1)) := by
  have h : ∀ (n j : Nat), bSs j (n + 1) = bSs j n ++ bS (bX (j + n)) (bY (j + n)) := by
    intro n
    induction n with
    | zero => intro j; simp [bSs]
    | succ n ih => intro j; rw [bSs, ih (j + 1), bSs, List.append_assoc, show j + 1 + n = j + (n + 1) by omega]
  rw [h i 0, Nat.zero_add]
  rw [show (⟨#[32, 118, 97, 114, 32, 122, 113]⟩ : ByteArray) = strOfNums [32, 118, 97, 114, 32, 122, 113] from by decide, show (⟨#[32, 61, 32, 49, 59]⟩ : ByteArray) = strOfNums [32, 61, 32, 49, 59] from by decide, str_cat, str_cat, str_cat]
  congr 1
  simp [bS]
theorem bT_ok (n : Nat) (hn : n ≤ 260) : ∀ c ∈ bT n, 0 ≤ c ∧ c ≤ 255 := by
  have h : ∀ (n j : Nat), j + n ≤ 300 → ∀ c ∈ bSs j n, 0 ≤ c ∧ c ≤ 255 := by
    intro n
    induction n with
    | zero => intro j _ c hc; cases hc
    | succ n ih =>
      intro j hj c hc
      rw [bSs] at hc
      rcases List.mem_append.1 hc with hc | hc
      · have := bX_rng j
        have := bY_rng (show j < 300 by omega)
        simp [bS] at hc
        omega
      · exact ih (j + 1) (by omega) c hc
  intro c hc
  unfold bT at hc
  rcases List.mem_append.1 hc with hc | hc
  · simp at hc; omega
  · rcases List.mem_append.1 hc with hc | hc
    · exact h n 0 (by omega) c hc
    · simp at hc; omega
set_option maxRecDepth 100000 in
set_option maxHeartbeats 8000000 in
theorem walk (a0 : Int) (w0 : -9223372036854775808 ≤ a0 ∧ a0 ≤ 9223372036854775807) (w : World) (hs : PrM w) (hsh : Sh w) :
    Calls Tryd.prog 5 #[.int .i64 a0] w fun e w' => e = .returned (.bool true) ∧ Bw w w' := by
  have HS := hid hs
  have HSH := hid hsh
  by_cases hin : 250 ≤ a0 ∧ a0 ≤ 260
  case neg =>
    have hcase : (a0 < 250) ∨ (¬ a0 < 250 ∧ a0 > 260) := by omega
    clear hs hsh hin
    rcases hcase with h1 | ⟨h1, h2⟩
    all_goals
      go_enter Tryd.func5, Tryd.ntmps5
      go_wp2_with (first
        | (go_at_call 8; refine (live_any _ HSH.out HS.out).mono ?_; rintro e wl ⟨rfl, hbl⟩; have BL := hid hbl; clear hbl)
        | fail)
      all_goals go_ret
      all_goals exact ⟨rfl, BL.out⟩
  obtain ⟨n, rfl⟩ : ∃ n : Nat, a0 = n := ⟨a0.toNat, by omega⟩
  have h1 : ¬ (n : Int) < 250 := by omega
  have h2 : ¬ (n : Int) > 260 := by omega
  have hn1 : 250 ≤ n := by omega
  have hn2 : n ≤ 260 := by omega
  have HN := hid (And.intro hn1 hn2)
  clear hs hsh hin w0
  go_enter Tryd.func5, Tryd.ntmps5
  go_wp2
  go_loopw [3, 4] (fun v3 v4 wr => ∃ i : Nat, v4 = .int .i64 (i : Int) ∧ i ≤ n ∧ v3 = .string (strOfNums ([102, 110, 32, 102, 40, 41, 32, 123] ++ bSs 0 i)) ∧ Bw w wr) (fun _ v4 _ => n - (intOf v4).toNat)
  case atStart => exact ⟨0, rfl, Nat.zero_le _, by rw [bSs, List.append_nil]; exact congrArg Value.string (by decide), Bw.refl _⟩
  case round =>
    obtain ⟨i, rfl, hi, rfl, hbw⟩ := hrel
    have HB := hid hbw
    by_cases hlt : i < n
    · have hlt' : (i : Int) < (n : Int) := by omega
      have hnx := bU_next i
      have hlen : (strOfNums ([102, 110, 32, 102, 40, 41, 32, 123] ++ bSs 0 i)).size = 14 * i + 8 := by rw [strOfNums_size, List.length_append, bSs_len]; simp; omega
      have hx := bX_rng i
      have hy := bY_rng (show i < 300 by omega)
      have ex : bX i = 97 + (i : Int) % 26 := by unfold bX; omega
      have ey : bY i = 97 + (i : Int) / 26 := by unfold bY; omega
      rw [ex, ey] at hnx
      rw [ex] at hx
      rw [ey] at hy
      have HNX := hid hnx
      generalize strOfNums ([102, 110, 32, 102, 40, 41, 32, 123] ++ bSs 0 i) = s at *
      have hcv : (convert 22 9 (.slice (some ⟨wr.heap.size, 0, none⟩) 2 2)).run Tryd.prog (wr.alloc (.cells #[.int .u8 (97 + (i : Int) % 26), .int .u8 (97 + (i : Int) / 26)] 5)) = .ok (.string (strOfNums [97 + (i : Int) % 26, 97 + (i : Int) / 26])) (wr.alloc (.cells #[.int .u8 (97 + (i : Int) % 26), .int .u8 (97 + (i : Int) / 26)] 5)) :=
        run_convert_bytes_arg (P := Tryd.prog) (wr.alloc (.cells #[.int .u8 (97 + (i : Int) % 26), .int .u8 (97 + (i : Int) / 26)] 5)) 22 5 under22 under5 wr.heap.size 0 2 2 [97 + (i : Int) % 26, 97 + (i : Int) / 26] rfl (fun i hi => by
            match i, hi with
            | 0, _ => simp [go_sem]
            | 1, _ => simp [go_sem]) 9 under9
      have hcs : (strOfNums [97 + (i : Int) % 26, 97 + (i : Int) / 26]).size = 2 := by rw [strOfNums_size]; rfl
      have hw2 : IntKind.i64.wrap ((i : Int) + 1) = ((i + 1 : Nat) : Int) := by rw [IntKind.wrap_i64]; omega
      clear hnx ex ey
      clear hbw
      go_wp2
      case roundEnd =>
        exact ⟨⟨i + 1, by go_num, by omega, by rw [HNX.out], Bw.alloc HB.out _⟩, by simp [intOf]; omega⟩
    · have hlt' : ¬ (i : Int) < (n : Int) := by omega
      obtain rfl : i = n := by omega
      have hs2 : strOfNums ([102, 110, 32, 102, 40, 41, 32, 123] ++ bSs 0 i) ++ ⟨#[32, 125]⟩ = strOfNums (bT i) := by
        rw [show (⟨#[32, 125]⟩ : ByteArray) = strOfNums [32, 125] from by decide, str_cat]
        unfold bT
        rw [List.append_assoc]
      have hlen : (strOfNums ([102, 110, 32, 102, 40, 41, 32, 123] ++ bSs 0 i)).size = 14 * i + 8 := by rw [strOfNums_size, List.length_append, bSs_len]; simp; omega
      obtain ⟨cp, wb, hrun, hby, hbb⟩ := by_str wr (bT i) (bT_ok i hn2) (by rw [bT_len]; omega)
      rw [← hs2] at hrun
      have hbl := bT_len i
      have BY := hid hby
      have BB := hid (HB.out.trans hbb)
      rw [hbl] at hrun
      generalize strOfNums ([102, 110, 32, 102, 40, 41, 32, 123] ++ bSs 0 i) = s at *
      clear hbw hs2 hby hbb
      have hbl' : (bT i).length = 14 * i + 10 := hbl
      clear hbl
      rw [hbl'] at BY
      clear hbl'
      by_cases h256 : i ≤ 256
      · have g1 : ¬ (i : Int) > 256 := by omega
        go_upto_region 9 with (first
          | (go_at_call 9; refine (bP_read i HN.out.2 BY.out).mono ?_; rintro e w1 ⟨a1, c1, rfl, hn, hb1⟩; have B1 := hid (BB.out.trans hb1); obtain ⟨g, e1, hnc⟩ := bP_nc HN.out.2 hn; subst e1; have NN := hid hnc; clear hn hb1 hnc)
          | fail)
        go_wp2_with (first
          | (go_at_call 10; refine (bP_ok HN.out.1 h256 NN.out (HSH.out.bw B1.out) (HS.out.bw B1.out)).mono ?_; rintro e w2 ⟨fb, fc, vu, vg, rfl, ⟨ua, uc, e2⟩, ⟨ga, gm, gc, e3⟩, hfl, hfc, hb2⟩; subst e2 e3; have B2 := hid (B1.out.trans hb2); have B3 := hid (Bw.alloc B2.out (.cells #[.slice (some ⟨fb, 0, none⟩) 2 fc, .slice ua (2 * i + 3) uc, .slice ga gm gc] 31)); clear hb2)
          | (go_at_call 13; refine (num_any _ _).mono ?_; rintro e w' ⟨rfl, hw'⟩; subst w')
          | (go_at_call 8; refine (live_any _ (HSH.out.bw B3.out) (HS.out.bw B3.out)).mono ?_; rintro e wl ⟨rfl, hbl⟩; have BL := hid (B3.out.trans hbl); clear hbl)
          | fail)
        all_goals go_ret
        all_goals exact ⟨rfl, BL.out⟩

      · have g1 : (i : Int) > 256 := by omega
        have h257 : 256 < i := by omega
        go_upto_region 9 with (first
          | (go_at_call 9; refine (bP_read i HN.out.2 BY.out).mono ?_; rintro e w1 ⟨a1, c1, rfl, hn, hb1⟩; have B1 := hid (BB.out.trans hb1); obtain ⟨g, e1, hnc⟩ := bP_nc HN.out.2 hn; subst e1; have NN := hid hnc; clear hn hb1 hnc)
          | fail)
        go_wp2_with (first
          | (go_at_call 10; refine (bP_bad h257 HN.out.2 NN.out (HSH.out.bw B1.out) (HS.out.bw B1.out)).mono ?_; rintro e w2 ⟨rfl, hb2⟩; have B2 := hid (B1.out.trans hb2); have B3 := hid (Bw.alloc B2.out (.cells #[.slice none 0 0, .slice none 0 0, .slice none 0 0] 31)); clear hb2)
          | (go_at_call 13; refine (num_any _ _).mono ?_; rintro e w' ⟨rfl, hw'⟩; subst w')
          | (go_at_call 8; refine (live_any _ (HSH.out.bw B3.out) (HS.out.bw B3.out)).mono ?_; rintro e wl ⟨rfl, hbl⟩; have BL := hid (B3.out.trans hbl); clear hbl)
          | fail)
        all_goals go_ret
        all_goals exact ⟨rfl, BL.out⟩

set_option maxRecDepth 100000 in
theorem lifted (os : Os) (started : os.Started) (H : Type) (enc : TypeId × Value → H) :
    ReturnsInHanded {} Tryd.checked os 5 .any (fun w args => (Rows.scopeBoundsSpec.pre enc Tryd.prog Tryd.f5 [] false w args ∧ laidMetH Tryd.prog laidS w) ∧ sizedMet enc Tryd.prog Tryd.f5 (OpenSpec.ofChange Rows.scopeBoundsSpec) false w args)
      (Rows.scopeBoundsSpec.post enc Tryd.prog Tryd.f5 false true false false) := by
  refine returnsInHanded_of_change_and (C := Tryd.checked) (X := fun w _ => laidMetH Tryd.prog laidS w) (fun _ _ _ hh h => h.of_heap hh) ownK started (by kernel_rfl) Tryd.func5
    (ChangeSpec.witness_shaped (enc := enc) (C := Tryd.checked) (os := os) (X := fun w _ => laidMetH Tryd.prog laidS w) false (World.doorLaid Tryd.prog 400 os) #[.int .i64 0] 8 rfl (World.shaped_of_RefB (by kernel_rfl) (by kernel_rfl)) (by kernel_rfl) (by kernel_rfl) (by kernel_rfl) (door_met os _)) ?_
  intro W base args ds gs before hval0 hW _ _ hL _
  have hval : ∀ (j : Nat) t v, Tryd.f5.params[j]? = some t → args[j]? = some v → Value.okWide Tryd.prog W .any base t v := hval0
  have hW' := hW
  obtain ⟨p, q, hA0, hV, rfl, hfz, hnd⟩ := hW
  have hA : DataW.TrodAll enc Tryd.prog W 0 (fun _ => true) true Tryd.f5.params.toList args.toList ds p := hA0
  rw [Tryd.params5] at hA hval
  obtain ⟨v0, vs0, d0, ds0, p0, q0, hargs, rfl, rfl, h0, r0⟩ := trodAll_cons hA
  obtain ⟨rfl, rfl, rfl⟩ := trodAll_nil r0
  obtain rfl : args = #[v0] := by cases args; simp_all
  obtain ⟨rfl, rfl⟩ := trodVars_none hV
  have k0 := h0
  have lt0 : ∀ x ∈ p0, x.block < W.heap.size := by obtain ⟨m, hm⟩ := k0; exact DataW.trod_lt m _ _ _ hm
  obtain ⟨a0, rfl, rfl, rfl, w00⟩ := open_int Tryd.underlying3 (hval 0 3 v0 rfl rfl) h0
  have w0 := bounds_i64 w00
  have hs := pr_of_laid hL
  have hsh := sh_of_laid hL
  clear hA0 hval0
  refine (walk a0 w0 W hs hsh).mono fun e W' ⟨he, bel⟩ => ?_
  subst he
  exact ⟨_, rfl, _, _, _, [], _, [], hW', trodAll_mk1 (shut_bool Tryd.underlying4 _), (trodAll_cons_mk (Below.trod laidOut (by kernel_rfl) (of_decide_eq_true (by kernel_rfl)) k0 bel lt0) trodAll_mk0), rfl, Below.frame bel _, fun h => by cases h⟩

theorem over : Rows.scopeBoundsRow.holds Tryd.pinned (OpenSpec.ofChange Rows.scopeBoundsSpec) :=
  OpenClaim.holds_of_wide 5 Tryd.f5 rfl rfl rfl rfl rfl rfl rfl ⟨rfl, rfl, rfl, rfl, rfl⟩ rfl rfl rfl rfl rfl (by kernel_rfl) Tryd.func5 (by kernel_rfl)
    (of_decide_eq_true (by kernel_rfl)) (by unfold Func.isWrapper; first | (rw [if_pos (by decide +kernel)]; kernel_rfl) | (rw [if_neg (by decide +kernel)]; exact ⟨rfl, rfl⟩))
    (fun os started H enc _ => lifted os started H enc)

theorem card : Rows.ScopeBoundsCardSaid :=
  Claim7.holds_tied_plain_at .later [] [.data, .data] true (true, "0cfb825af0ef75d68b832270240ab74cc95abaa539c0ecafa2e0db27e37c33ba") false
    over (fun _ h => by cases h) (by kernel_rfl) (fun _ h => by cases h) scopeBounds_row_tie rfl ⟨rfl, rfl⟩ (by kernel_rfl) rfl
    (fun f fn hf hfn => by
      obtain rfl : f = 5 := Option.some.inj ((show Tryd.prog.funcNamed "jacquard/jacquardlaw08.ScopeBounds" = some 5 by kernel_rfl).symm.trans hf) |>.symm
      obtain rfl : fn = Tryd.f5 := (Option.some.inj (Tryd.func5.symm.trans hfn)).symm
      exact ⟨by kernel_rfl, fun j t ht => by
        rw [Tryd.params5] at ht
        have hm : t ∈ [3] := by have h9 := Array.mem_of_getElem? ht; simp at h9 ⊢; first | exact h9 | (rcases h9 with h9 | h9 <;> simp [h9]; done) | (rcases h9 with h9 | h9 | h9 <;> simp [h9]; done) | (rcases h9 with h9 | h9 | h9 | h9 <;> simp [h9]; done)
        have hall : ([3].all fun u => !Tryd.prog.wantsStandIn u) = true := by kernel_rfl
        exact (show Tryd.prog.wantsStandIn t = false by simpa using List.all_eq_true.1 hall t hm)⟩)
    (by kernel_rfl)
end Go.Proofs.YtdhkcdehedbpcaaDoor.scopeBounds
namespace Go.Proofs.YtdhkcdehedbpcaaDoor
theorem scopeBounds_holds : Rows.ScopeBoundsCardSaid := scopeBounds.card
#print axioms scopeBounds_holds
end Go.Proofs.YtdhkcdehedbpcaaDoor
