/- For every number, the statement LexNumbers of layer 5 answers true: the digits that the document makes of a number are cut by the program into that number, if it is not too great; no condition beyond the program's own table of signs, which the card ties to its text. -/
import Derived.Test.YtkeijgafmbdnlabDoorRC
import Derived.Test.YtkeijgafmbdnlabDoorFr
set_option linter.unusedVariables false
set_option linter.unusedSimpArgs false
namespace Go.Proofs.YtkeijgafmbdnlabDoor.lexNumbers
open Go.ChangeShapes Go.WideShapes Go.ChangeAt Go.RowKit

theorem by_str (w : World) (l : List Int) (hb : ∀ c ∈ l, 0 ≤ c ∧ c ≤ 255) (hl : l.length ≤ 1000000) :
    ∃ cap w', (convert 9 23 (.string (strOfNums l))).run Tryd.prog w = .ok (.slice (some ⟨w.heap.size, 0, none⟩) l.length cap) w' ∧ By w' (.slice (some ⟨w.heap.size, 0, none⟩) l.length cap) l ∧ Bw w w' := by
  refine ⟨_, _, by rw [← strOfNums_size l]; exact run_bytes_of_string w 9 23 5 (strOfNums l) under9 under22 under5, ?_, Bw.alloc (Bw.drew (Bw.refl w)) _⟩
  have hge := grownCap_ge w (strOfNums l).size 0 5
  rw [strOfNums_size] at hge
  refine ⟨⟨by simp, _, _, rfl, ⟨by rw [strOfNums_size]; omega, fun h => by cases h⟩, ?_⟩, hb, by omega⟩
  by_cases h0 : l.length = 0
  · exact .inl h0
  · refine .inr ⟨w.heap.size, 0, rfl, by simp, trivial, fun i hi => ?_⟩
    have hi' : i < l.length := by omega
    have hsz : i < (strOfNums l).data.size := by have := strOfNums_size l; show i < (strOfNums l).size; omega
    rw [Nat.zero_add]
    show (w.drew.alloc _).cell? ⟨w.drew.heap.size, i, none⟩ = _
    rw [World.cell?_alloc_mark, bytesRow_at _ _ _ hsz, List.getElem?_map, List.getElem?_eq_getElem hi']
    have := strOf_get hb i (by rw [strOfNums_size]; exact hi')
    rw [nth_eq hi'] at this
    exact congrArg (fun z => some (Value.int .u8 z)) this

theorem tkn {w : World} {base : Nat} {r : Value} {n k : Int} (h : Tk w base r [(3, [], n, 0), (0, [], 0, k)]) :
    ∃ g cap, r = .slice (some ⟨g, 0, none⟩) 2 cap ∧ Hid (g < w.heap.size ∧ w.cell? ⟨g, 0, none⟩ = some (.int .i64 3) ∧ w.cell? ⟨g, 2, none⟩ = some (.int .i64 n)) := by
  obtain ⟨g, cap, e, _, hg, _, hc⟩ := h.at (by simp)
  have h0 := hc 0 (by simp)
  exact ⟨g, cap, e, hid ⟨hg, h0.1, h0.2.2.1⟩⟩

set_option maxRecDepth 100000 in
set_option maxHeartbeats 16000000 in
theorem core (n : Nat) (hn : (n : Int) ≤ 9223372036854775807) (w : World) (hs : Sg w) :
    Calls Tryd.prog 3 #[.int .i64 (n : Nat)] w fun e w' => e = .returned (.bool true) ∧ Bw w w' := by
  have HS := hid hs
  have HD := hid (vDec_any (n + 1) n (by omega) hn)
  have hok := decL_ok (n + 1) n (by omega)
  have hlen := decL_len 19 (n + 1) n (by omega)
  obtain ⟨l, hl⟩ : ∃ l, l = decL (n + 1) n := ⟨_, rfl⟩
  rw [← hl] at HD hok hlen
  have HLX := hid (lex_dec n l hl (by omega))
  have hbd : ∀ c ∈ l, 0 ≤ c ∧ c ≤ 255 := fun c hc => by have := hok.1 c hc; simp [isDg] at this; omega
  have HY := hid (fun w => by_str w l hbd (by omega))
  have HLN := hid (show l.length ≤ 1000000 by omega)
  have hl20 : l.length ≤ 20 := by omega
  clear hs hok hl hlen hbd
  generalize strOfNums l = s at HD HY
  have hn0 : decide ((n : Int) < 0) = false := decide_eq_false (by omega)
  obtain ⟨N, hN⟩ : ∃ N : Int, N = (n : Int) := ⟨_, rfl⟩
  rw [← hN] at HD HLX hn0 hn ⊢
  have HNN := hid hN
  clear hN
  go_enter Tryd.func3, Tryd.ntmps3
  go_upto_region 4 with (first
    | (go_at_call 5; refine (HD.out _).mono ?_; rintro e w' ⟨rfl, os, m, rfl⟩; obtain ⟨cp, w1, hcv, hy, hb1⟩ := HY.out (lay w os m); rw [lay_size] at hcv hy; have HY1 := hid hy; have HB1 := hid (Bw.trans (bw_lay w os m) hb1); clear hy hb1))
  clear hcv
  by_cases hbig : 2305843009213693951 < N
  · have d1 : decide ((2305843009213693951 : Int) < N) = true := decide_eq_true hbig
    have LX := HLX.out
    rw [if_pos hbig] at LX
    have HL2 := hid LX
    clear LX hbig
    go_wp2_with (first
      | (go_at_call 6; refine (xLex_any _ l _ HY1.out (HS.out.bw HB1.out) HLN.out).mono ?_; rw [HL2.out]; rintro e w2 ⟨r2, rfl, ht2, hb2⟩; have HB2 := hid (Bw.trans HB1.out hb2); obtain ⟨a2, c2, e2⟩ := ht2.form; subst e2; clear ht2 hb2)
      | (go_at_call 7; refine (num_any _ _).mono ?_; rintro e w' ⟨rfl, hw'⟩; subst w')
      | (go_at_call 4; refine (live_any _ (HS.out.bw HB2.out)).mono ?_; rintro e wl ⟨rfl, hbl⟩; have BL := hid (Bw.trans HB2.out hbl); clear hbl))
    all_goals go_ret
    all_goals exact ⟨rfl, BL.out⟩
  · have d1 : decide ((2305843009213693951 : Int) < N) = false := decide_eq_false hbig
    have LX := HLX.out
    rw [if_neg hbig] at LX
    have HL2 := hid LX
    clear LX hbig
    go_wp2_with (first
      | (go_at_call 6; refine (xLex_any _ l _ HY1.out (HS.out.bw HB1.out) HLN.out).mono ?_; rw [HL2.out]; rintro e w2 ⟨r2, rfl, ht2, hb2⟩; have HB2 := hid (Bw.trans HB1.out hb2); obtain ⟨g2, c2, e2, H2⟩ := tkn ht2; subst e2; have k0 := H2.out.2.1; have k1 := H2.out.2.2; clear ht2 hb2)
      | (go_at_call 7; refine (num_any _ _).mono ?_; rintro e w' ⟨rfl, hw'⟩; subst w')
      | (go_at_call 4; refine (live_any _ (HS.out.bw HB2.out)).mono ?_; rintro e wl ⟨rfl, hbl⟩; have BL := hid (Bw.trans HB2.out hbl); clear hbl))
    all_goals go_ret
    all_goals exact ⟨rfl, BL.out⟩

set_option maxHeartbeats 4000000 in
theorem coreO (a0 : Int) (h : a0 < 0) (w : World) (hs : Sg w) :
    Calls Tryd.prog 3 #[.int .i64 a0] w fun e w' => e = .returned (.bool true) ∧ Bw w w' := by
  have HS := hid hs
  clear hs
  have d1 : decide (a0 < 0) = true := decide_eq_true h
  clear h
  go_enter Tryd.func3, Tryd.ntmps3
  go_wp2_with (first
    | (go_at_call 4; refine (live_any _ HS.out).mono ?_; rintro e wl ⟨rfl, hbl⟩; have BL := hid hbl; clear hbl))
  all_goals go_ret
  all_goals exact ⟨rfl, BL.out⟩

theorem walk (a0 : Int) (w0 : -9223372036854775808 ≤ a0 ∧ a0 ≤ 9223372036854775807) (w : World) (hs : Sg w) :
    Calls Tryd.prog 3 #[.int .i64 a0] w fun e w' => e = .returned (.bool true) ∧ Bw w w' := by
  by_cases h0 : a0 < 0
  · exact coreO a0 h0 w hs
  · obtain ⟨n, rfl⟩ : ∃ n : Nat, a0 = n := ⟨a0.toNat, by omega⟩
    exact core n w0.2 w hs

set_option maxRecDepth 100000 in
theorem lifted (os : Os) (started : os.Started) (H : Type) (enc : TypeId × Value → H) :
    ReturnsInHanded {} Tryd.checked os 3 .any (fun w args => (Rows.lexNumbersSpec.pre enc Tryd.prog Tryd.f3 [] false w args ∧ laidMetH Tryd.prog laidS w) ∧ sizedMet enc Tryd.prog Tryd.f3 (OpenSpec.ofChange Rows.lexNumbersSpec) false w args)
      (Rows.lexNumbersSpec.post enc Tryd.prog Tryd.f3 false true false false) := by
  refine returnsInHanded_of_change_and (C := Tryd.checked) (X := fun w _ => laidMetH Tryd.prog laidS w) (fun _ _ _ hh h => h.of_heap hh) ownK started (by kernel_rfl) Tryd.func3
    (ChangeSpec.witness_shaped (enc := enc) (C := Tryd.checked) (os := os) (X := fun w _ => laidMetH Tryd.prog laidS w) false (World.doorLaid Tryd.prog 400 os) #[.int .i64 0] 8 rfl (World.shaped_of_RefB (by kernel_rfl) (by kernel_rfl)) (by kernel_rfl) (by kernel_rfl) (by kernel_rfl) (door_met os _)) ?_
  intro W base args ds gs before hval0 hW _ _ hL _
  have hval : ∀ (j : Nat) t v, Tryd.f3.params[j]? = some t → args[j]? = some v → Value.okWide Tryd.prog W .any base t v := hval0
  have hW' := hW
  obtain ⟨p, q, hA0, hV, rfl, hfz, hnd⟩ := hW
  have hA : DataW.TrodAll enc Tryd.prog W 0 (fun _ => true) true Tryd.f3.params.toList args.toList ds p := hA0
  rw [Tryd.params3] at hA hval
  obtain ⟨v0, vs0, d0, ds0, p0, q0, hargs, rfl, rfl, h0, r0⟩ := trodAll_cons hA
  obtain ⟨rfl, rfl, rfl⟩ := trodAll_nil r0
  obtain rfl : args = #[v0] := by cases args; simp_all
  obtain ⟨rfl, rfl⟩ := trodVars_none hV
  have k0 := h0
  have lt0 : ∀ x ∈ p0, x.block < W.heap.size := by obtain ⟨m, hm⟩ := k0; exact DataW.trod_lt m _ _ _ hm
  obtain ⟨a0, rfl, rfl, rfl, w00⟩ := open_int Tryd.underlying3 (hval 0 3 v0 rfl rfl) h0
  have w0 := bounds_i64 w00
  have hs := sg_of_laid hL
  clear hA0 hval0
  refine (walk a0 w0 W hs).mono fun e W' ⟨he, bel⟩ => ?_
  subst he
  exact ⟨_, rfl, _, _, _, [], _, [], hW', trodAll_mk1 (shut_bool Tryd.underlying4 _), (trodAll_cons_mk (Below.trod laidOut (by kernel_rfl) (of_decide_eq_true (by kernel_rfl)) k0 bel lt0) trodAll_mk0), rfl, Below.frame bel _, fun h => by cases h⟩

theorem over : Rows.lexNumbersRow.holds Tryd.pinned (OpenSpec.ofChange Rows.lexNumbersSpec) :=
  OpenClaim.holds_of_wide 3 Tryd.f3 rfl rfl rfl rfl rfl rfl rfl ⟨rfl, rfl, rfl, rfl, rfl⟩ rfl rfl rfl rfl rfl (by kernel_rfl) Tryd.func3 (by kernel_rfl)
    (of_decide_eq_true (by kernel_rfl)) (by unfold Func.isWrapper; first | (rw [if_pos (by decide +kernel)]; kernel_rfl) | (rw [if_neg (by decide +kernel)]; exact ⟨rfl, rfl⟩))
    (fun os started H enc _ => lifted os started H enc)

theorem card : Rows.LexNumbersCardSaid :=
  Claim7.holds_tied_plain_at .later [] [.data] true (true, "913591d610ef37d6ff8387084f60b04aef2c8dede60ec8679e97b82563ab6403") false
    over (fun _ h => by cases h) (by kernel_rfl) (fun _ h => by cases h) lexNumbers_row_tie rfl ⟨rfl, rfl⟩ (by kernel_rfl) rfl
    (fun f fn hf hfn => by
      obtain rfl : f = 3 := Option.some.inj ((show Tryd.prog.funcNamed "jacquard/jacquardlaw05.LexNumbers" = some 3 by kernel_rfl).symm.trans hf) |>.symm
      obtain rfl : fn = Tryd.f3 := (Option.some.inj (Tryd.func3.symm.trans hfn)).symm
      exact ⟨by kernel_rfl, fun j t ht => by
        rw [Tryd.params3] at ht
        have hm : t ∈ [3] := by simpa using Array.mem_of_getElem? ht
        have hall : ([3].all fun u => !Tryd.prog.wantsStandIn u) = true := by kernel_rfl
        exact (show Tryd.prog.wantsStandIn t = false by simpa using List.all_eq_true.1 hall t hm)⟩)
    (by kernel_rfl)
end Go.Proofs.YtkeijgafmbdnlabDoor.lexNumbers
namespace Go.Proofs.YtkeijgafmbdnlabDoor
theorem lexNumbers_holds : Rows.LexNumbersCardSaid := lexNumbers.card
#print axioms lexNumbers_holds
end Go.Proofs.YtkeijgafmbdnlabDoor
