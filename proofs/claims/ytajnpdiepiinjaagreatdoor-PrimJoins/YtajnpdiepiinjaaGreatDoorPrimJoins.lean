/- For all lists of bytes that may be handed in, the statement PrimJoins of layer 9 answers true: two strings of the program together are their bytes, one behind the other; they are compared byte by byte, and the length is both lengths; no condition but that the listed tables lie as the program's text lays them. -/
import Derived.Test.YtajnpdiepiinjaaGreatDoorFr9
import Derived.Test.YtajnpdiepiinjaaGreatDoorKF
set_option linter.unusedVariables false
set_option linter.unusedSimpArgs false
namespace Go.Proofs.YtajnpdiepiinjaaGreatDoor.primJoins
open Go.ChangeShapes Go.WideShapes Go.ChangeAt Go.RowKit

theorem nl_less (x y : List Int) : Op.bytesLess (strOfNums x).toList (strOfNums y).toList = decide (cmpB x y < 0) := by
  rw [less_cmp]
  unfold cmpB
  rw [Lib.strOfNums_toList, Lib.strOfNums_toList]
  have e : ∀ z : List Int, (strOfNums z).data.toList = Lib.bytesOf z := fun z => by simp [strOfNums, Lib.bytesOf]
  rw [e, e]
theorem nl_eq {x y : List Int} (hx : ∀ c ∈ x, 0 ≤ c ∧ c ≤ 255) (hy : ∀ c ∈ y, 0 ≤ c ∧ c ≤ 255) : ((strOfNums x).toList == (strOfNums y).toList) = decide (x = y) := by
  by_cases h : x = y
  · subst h; simp
  · rw [decide_eq_false h]
    exact str_ne (fun e => h (nums_inj hx hy e))
theorem nl_add (x y : List Int) : strOfNums x ++ strOfNums y = strOfNums (x ++ y) := by
  apply ByteArray.ext
  simp [strOfNums]
theorem bv9 (q : Bool) : (bv q == 9) = q := by cases q <;> rfl
theorem mk_str (H : AHeap) (b : List Int) (hb : b.length ≤ 65536) (hr : (H.2.length : Int) < H.1) : aMakeE H (oStr b) = 0 ∧ aMakeV H (oStr b) = 4 * (H.2.length : Int) + 2 ∧ aMakeH H (oStr b) = (H.1, H.2 ++ [oStr b]) := by
  have hp : pLong (oStr b) = false := by
    show decide ((65536 : Int) < (b.length : Int)) = false
    exact decide_eq_false (by omega)
  have hs : pSound H.2.length (oStr b) = true := by first | rfl | simp [pSound, oStr, AObj.vals, AObj.keys, AObj.num, AObj.kind]
  have he : aMakeE H (oStr b) = 0 := by
    unfold aMakeE
    rw [hp, hs]
    simp
    omega
  exact ⟨he, by unfold aMakeV; rw [he, if_pos rfl], by unfold aMakeH; rw [he, if_pos rfl]⟩
def J1 (x : List Int) : AHeap := (9, [oStr x])
def J2 (x y : List Int) : AHeap := (9, [oStr x, oStr y])
def J3 (x y : List Int) : AHeap := (9, [oStr x, oStr y, oStr (x ++ y)])
theorem j_kk (x y : List Int) : kk (J2 x y) 2 = 1 ∧ kk (J2 x y) 6 = 1 ∧ kk (J3 x y) 2 = 1 ∧ kk (J3 x y) 6 = 1 ∧ kk (J3 x y) 10 = 1 := by
  refine ⟨rfl, rfl, rfl, rfl, rfl⟩
theorem j_ob (x y : List Int) : (ob (J2 x y) 2).bytes = x ∧ (ob (J2 x y) 6).bytes = y ∧ (ob (J3 x y) 2).bytes = x ∧ (ob (J3 x y) 6).bytes = y ∧ (ob (J3 x y) 10).bytes = x ++ y := ⟨rfl, rfl, rfl, rfl, rfl⟩
theorem j_eq (x y : List Int) : eqW (J3 x y) 2 6 = decide (x = y) := by
  unfold eqW
  rw [(j_kk x y).2.2.1, (j_kk x y).2.2.2.1, (j_ob x y).2.2.1, (j_ob x y).2.2.2.1]
  simp
theorem cp7 (q r : Bool) : cpV 7 q r = bv q ∧ cpF 7 = 0 := ⟨rfl, rfl⟩
theorem mf0 : mF 0 = 0 := rfl

set_option maxHeartbeats 8000000 in
set_option maxRecDepth 100000 in
theorem core (w : World) (ht : Tf w) (har : Ar w) (v0 : Value) (l0 : List Int) (w0 : By w v0 l0) (v1 : Value) (l1 : List Int) (w1 : By w v1 l1) :
    Calls Tryz.prog 5 #[v0, v1] w fun e w' => e = .returned (.bool true) ∧ Bw w w' := by
  obtain ⟨a0, c0, rfl⟩ := w0.form
  obtain ⟨a1, c1, rfl⟩ := w1.form
  have HT := hid ht
  have HA := hid har
  have W0 := hid w0
  have W1 := hid w1
  have hm0 := w0.2.2
  have hm1 := w1.2.2
  clear w0 w1 ht har
  by_cases h0 : l0.length ≤ 300
  · have h0' : decide ((300 : Int) < (l0.length : Int)) = false := decide_eq_false (by omega)
    by_cases h1 : l1.length ≤ 300
    · have h1' : decide ((300 : Int) < (l1.length : Int)) = false := decide_eq_false (by omega)
      have E1 := hid (show aMakeE (9, []) (oStr l0) = 0 ∧ aMakeV (9, []) (oStr l0) = 2 ∧ aMakeH (9, []) (oStr l0) = J1 l0 from mk_str (9, []) l0 (by omega) (by decide))
      have E2 := hid (show aMakeE (J1 l0) (oStr l1) = 0 ∧ aMakeV (J1 l0) (oStr l1) = 6 ∧ aMakeH (J1 l0) (oStr l1) = J2 l0 l1 from mk_str (J1 l0) l1 (by omega) (show (1 : Int) < 9 by decide))
      have E3 := hid (show aMakeE (J2 l0 l1) (oStr (l0 ++ l1)) = 0 ∧ aMakeV (J2 l0 l1) (oStr (l0 ++ l1)) = 10 ∧ aMakeH (J2 l0 l1) (oStr (l0 ++ l1)) = J3 l0 l1 from mk_str (J2 l0 l1) (l0 ++ l1) (by rw [List.length_append]; omega) (show (2 : Int) < 9 by decide))
      have HKK := hid (j_kk l0 l1)
      have HOB := hid (j_ob l0 l1)
      have HEQ := hid (j_eq l0 l1)
      obtain ⟨s0, hs0⟩ : ∃ s, strOfNums l0 = s := ⟨_, rfl⟩
      obtain ⟨s1, hs1⟩ : ∃ s, strOfNums l1 = s := ⟨_, rfl⟩
      obtain ⟨s2, hs2⟩ : ∃ s, strOfNums (l0 ++ l1) = s := ⟨_, rfl⟩
      obtain ⟨qlt, hqlt⟩ : ∃ q, decide (cmpB l0 l1 < 0) = q := ⟨_, rfl⟩
      obtain ⟨qeq, hqeq⟩ : ∃ q, decide (l0 = l1) = q := ⟨_, rfl⟩
      have hlt : Op.bytesLess s0.toList s1.toList = qlt := by rw [← hs0, ← hs1, ← hqlt]; exact nl_less l0 l1
      have heq : (s0.toList == s1.toList) = qeq := by rw [← hs0, ← hs1, ← hqeq]; exact nl_eq W0.out.2.1 W1.out.2.1
      have hadd : s0 ++ s1 = s2 := by rw [← hs0, ← hs1, ← hs2]; exact nl_add l0 l1
      have hz0 : s0.size = l0.length := by rw [← hs0]; exact strOfNums_size _
      have hz1 : s1.size = l1.length := by rw [← hs1]; exact strOfNums_size _
      have hsum : ¬ 9223372036854775807 < s0.size + s1.size := by omega
      have b9 := bv9 qlt
      have b9' := bv9 qeq
      have HS0 := hid hs0
      have HS1 := hid hs1
      have HS2 := hid hs2
      have HQL := hid hqlt
      have HQE := hid hqeq
      have hn : nm (mk (l0 ++ l1).length) = (l0.length : Int) + l1.length := by rw [List.length_append, nm_mk_in _ (by omega) (by omega)]; omega
      have HN := hid hn
      have HLL := hid (show ((l0 ++ l1).length : Int) = ((l0 ++ l1).length : Nat) from rfl)
      have HBY := hid (show ∀ c ∈ l0 ++ l1, 0 ≤ c ∧ c ≤ 255 from fun c hc => (List.mem_append.1 hc).elim (W0.out.2.1 c) (W1.out.2.1 c))
      have HL2 := hid (show (l0 ++ l1).length ≤ 600 by rw [List.length_append]; omega)
      clear hs0 hs1 hs2 hqlt hqeq hn
      have hadd2 : ∀ w, (Op.stringOp .add s0 s1).run Tryz.prog w = .ok (.string s2) w := fun w => by rw [← hadd]; exact run_string_add_sum (P := Tryz.prog) w s0 s1 (by omega)
      clear hadd
      obtain ⟨n2, hn2⟩ : ∃ n : Int, ((l0 ++ l1).length : Int) = n := ⟨_, rfl⟩
      rw [hn2] at HN
      have HN2 := hid hn2
      clear hn2
      have u2 : U 2 := u_small (by decide)
      have u6 : U 6 := u_small (by decide)
      have u10 : U 10 := u_small (by decide)
      go_enter Tryz.func5, Tryz.ntmps5
      go_wp2_with (first
        | (go_at_call 24; refine (new_ok 9 _ (by decide) (by decide)).mono ?_; rintro e w1 ⟨rfl, hs1, hb1, hl1⟩; have S1 := hid hs1; have B1 := hid (And.intro hb1 (show ∀ b ∈ [w.heap.size], w.heap.size ≤ b by simp)); clear hs1 hb1 hl1)
        | (go_at_call 25; have _g := S1; clear _g; (fail_if_success (have _g := S2)); refine (str_any (fun _ => True) _ l0 _ S1.out (W0.out.1.below B1.out.1) W0.out.2.1 (by omega)).mono ?_; rw [E1.out.1, E1.out.2.1, E1.out.2.2]; rintro e w2 ⟨rfl, bs2, hs2, hn2⟩; have S2 := hid hs2; have B2 := hid (hn2.bw B1.out.1 B1.out.2); clear hs2 hn2)
        | (go_at_call 25; have _g := S2; clear _g; refine (str_any (fun _ => True) _ l1 _ S2.out (W1.out.1.below B2.out.1) W1.out.2.1 (by omega)).mono ?_; rw [E2.out.1, E2.out.2.1, E2.out.2.2]; rintro e w3 ⟨rfl, bs3, hs3, hn3⟩; have S3 := hid hs3; have B3 := hid (hn3.bw B2.out.1 B2.out.2); clear hs3 hn3)
        | (go_at_call_of 11 (Value.int .i64 0); refine (bin_join 2 6 u2 u6 S3.out HKK.out.1 HKK.out.2.1).mono ?_; rw [HOB.out.1, HOB.out.2.1, E3.out.1, E3.out.2.1, E3.out.2.2, mf0]; rintro e w4 ⟨rfl, bs4, hs4, hn4⟩; have S4 := hid hs4; have B4 := hid (hn4.bw B3.out.1 B3.out.2); clear hs4 hn4)
        | (go_at_call 26; refine (bytes_yes 10 u10 _ S4.out HKK.out.2.2.2.2).mono ?_; rw [HOB.out.2.2.2.2]; rintro e w5 ⟨r5, rfl, ho5, hb5⟩; obtain ⟨a5, c5, rfl⟩ := own_form ho5; have Y5 := hid (by_own ho5 HBY.out (by have := HL2.out; omega)); have S5 := hid (S4.out.bw hb5); have B5 := hid (B4.out.1.trans hb5); clear ho5 hb5)
        | (go_at_call_of 11 (Value.int .i64 7); refine (bin_cmp 7 2 6 (by decide) (by decide) (by decide) u2 u6 S5.out HKK.out.2.2.1 HKK.out.2.2.2.1).mono ?_; rw [(cp7 _ _).1, (cp7 true true).2, HOB.out.2.2.1, HOB.out.2.2.2.1, HQL.out]; rintro e w6 ⟨rfl, hb6⟩; have Y6 := hid (Y5.out.bw hb6); have S6 := hid (S5.out.bw hb6); have B6 := hid (B5.out.trans hb6); clear hb6)
        | (go_at_call_of 11 (Value.int .i64 5); refine (bin_eq 2 6 u2 u6 S6.out).mono ?_; rw [HEQ.out, HQE.out]; rintro e w7 ⟨rfl, hb7⟩; have Y7 := hid (Y6.out.bw hb7); have S7 := hid (S6.out.bw hb7); have B7 := hid (B6.out.trans hb7); have HNW := hid (Blk.new w7 #[.int .u64 10] 27); clear hb7)
        | (go_at_call 27; refine (pure_len w7.heap.size 10 u10 (HA.out.bw (Bw.alloc B7.out _)) (S7.out.bw (Bw.alloc (Bw.refl _) _)) HKK.out.2.2.2.2 (HNW.out.cell 0) HNW.out.lt).mono ?_; rw [HOB.out.2.2.2.2, HN2.out]; rintro e w8 ⟨rfl, hb8⟩; have B8 := hid (show Bw w w8 from B7.out.trans (Bw.trans (by repeat (first | exact Bw.refl _ | apply Bw.alloc | apply Bw.drewN | apply Bw.drew)) hb8)); have q5 := (Y7.out.bw (Bw.trans (by repeat (first | exact Bw.refl _ | apply Bw.alloc | apply Bw.drewN | apply Bw.drew)) hb8)).conv0; rw [HS2.out, List.length_append] at q5; have q0 := (W0.out.bw B8.out).conv0; rw [HS0.out] at q0; have q1 := (W1.out.bw B8.out).conv0; rw [HS1.out] at q1; clear hb8)
        | (go_at_call 28; refine (tnum_yes _ (mk_U _) (mk_N _) _).mono ?_; rw [HN.out]; rintro e w' ⟨rfl, hw'⟩; subst w')
        | (go_at_call 9; refine (live_any _ (HT.out.bw B8.out)).mono ?_; rintro e wl ⟨rfl, hbl⟩; have BL := hid hbl; clear hbl)
        | fail)
      all_goals go_ret
      all_goals exact ⟨rfl, B8.out.trans BL.out⟩
    · have h1' : decide ((300 : Int) < (l1.length : Int)) = true := decide_eq_true (by omega)
      go_enter Tryz.func5, Tryz.ntmps5
      go_wp2_with (first
        | (go_at_call 9; refine (live_any _ HT.out).mono ?_; rintro e wl ⟨rfl, hbl⟩; have BL := hid hbl; clear hbl)
        | fail)
      all_goals go_ret
      all_goals exact ⟨rfl, BL.out⟩
  · have h0' : decide ((300 : Int) < (l0.length : Int)) = true := decide_eq_true (by omega)
    go_enter Tryz.func5, Tryz.ntmps5
    go_wp2_with (first
      | (go_at_call 9; refine (live_any _ HT.out).mono ?_; rintro e wl ⟨rfl, hbl⟩; have BL := hid hbl; clear hbl)
      | fail)
    all_goals go_ret
    all_goals exact ⟨rfl, BL.out⟩

theorem walk (w : World) (htf : Tf w) (har : Ar w) (v0 : Value) (l0 : List Int) (w0 : By w v0 l0) (v1 : Value) (l1 : List Int) (w1 : By w v1 l1) :
    Calls Tryz.prog 5 #[v0, v1] w fun e w' => e = .returned (.bool true) ∧ Bw w w' := by
  exact core w htf har v0 l0 w0 v1 l1 w1

set_option maxRecDepth 100000 in
theorem lifted (os : Os) (started : os.Started) (H : Type) (enc : TypeId × Value → H) :
    ReturnsInHanded {} Tryz.checked os 5 .any (fun w args => (Rows.primJoinsSpec.pre enc Tryz.prog Tryz.f5 [] false w args ∧ laidMetH Tryz.prog laidS w) ∧ sizedMet enc Tryz.prog Tryz.f5 (OpenSpec.ofChange Rows.primJoinsSpec) false w args)
      (Rows.primJoinsSpec.post enc Tryz.prog Tryz.f5 false true false false) := by
  refine returnsInHanded_of_change_and (C := Tryz.checked) (X := fun w _ => laidMetH Tryz.prog laidS w) (fun _ _ _ hh h => h.of_heap hh) ownK started (by kernel_rfl) Tryz.func5
    (ChangeSpec.witness_shaped (enc := enc) (C := Tryz.checked) (os := os) (X := fun w _ => laidMetH Tryz.prog laidS w) false (World.doorLaid Tryz.prog 400 os) #[.slice none 0 0, .slice none 0 0] 8 rfl (World.shaped_of_RefB (by kernel_rfl) (by kernel_rfl)) (by kernel_rfl) (by kernel_rfl) (by kernel_rfl) (door_met os _)) ?_
  intro W base args ds gs before hval0 hW _ _ hL _
  have hval : ∀ (j : Nat) t v, Tryz.f5.params[j]? = some t → args[j]? = some v → Value.okWide Tryz.prog W .any base t v := hval0
  have hW' := hW
  obtain ⟨p, q, hA0, hV, rfl, hfz, hnd⟩ := hW
  have hA : DataW.TrodAll enc Tryz.prog W 0 (fun _ => true) true Tryz.f5.params.toList args.toList ds p := hA0
  rw [Tryz.params5] at hA hval
  obtain ⟨v0, vs0, d0, ds0, p0, q0, hargs, rfl, rfl, h0, r0⟩ := trodAll_cons hA
  obtain ⟨v1, vs1, d1, ds1, p1, q1, rfl, rfl, rfl, h1, r1⟩ := trodAll_cons r0
  obtain ⟨rfl, rfl, rfl⟩ := trodAll_nil r1
  obtain rfl : args = #[v0, v1] := by cases args; simp_all
  obtain ⟨rfl, rfl⟩ := trodVars_none hV
  have k0 := h0
  have lt0 : ∀ x ∈ p0, x.block < W.heap.size := by obtain ⟨m, hm⟩ := k0; exact DataW.trod_lt m _ _ _ hm
  have k1 := h1
  have lt1 : ∀ x ∈ p1, x.block < W.heap.size := by obtain ⟨m, hm⟩ := k1; exact DataW.trod_lt m _ _ _ hm
  obtain ⟨l0, w0⟩ := open_bytes (hval 0 52 v0 rfl rfl) h0
  obtain ⟨l1, w1⟩ := open_bytes (hval 1 52 v1 rfl rfl) h1
  clear hA0 hval0
  refine (walk W (tf_of_laid hL) (ar_of_laid hL) v0 l0 w0 v1 l1 w1).mono fun e W' ⟨he, bel⟩ => ?_
  subst he
  exact ⟨_, rfl, _, _, _, [], _, [], hW', trodAll_mk1 (shut_bool Tryz.underlying4 _), (trodAll_cons_mk (Below.trod laidOut (by kernel_rfl) (of_decide_eq_true (by kernel_rfl)) k0 bel lt0) (trodAll_cons_mk (Below.trod laidOut (by kernel_rfl) (of_decide_eq_true (by kernel_rfl)) k1 bel lt1) trodAll_mk0)), rfl, Below.frame bel _, fun h => by cases h⟩

theorem over : Rows.primJoinsRow.holds Tryz.pinned (OpenSpec.ofChange Rows.primJoinsSpec) :=
  OpenClaim.holds_of_wide 5 Tryz.f5 rfl rfl rfl rfl rfl rfl rfl ⟨rfl, rfl, rfl, rfl, rfl⟩ rfl rfl rfl rfl rfl (by kernel_rfl) Tryz.func5 (by kernel_rfl)
    (of_decide_eq_true (by kernel_rfl)) (by unfold Func.isWrapper; first | (rw [if_pos (by decide +kernel)]; kernel_rfl) | (rw [if_neg (by decide +kernel)]; exact ⟨rfl, rfl⟩))
    (fun os started H enc _ => lifted os started H enc)

theorem card : Rows.PrimJoinsCardSaid :=
  Claim7.holds_tied_plain_at .later [] [.data, .data, .data, .data, .data, .data, .data] true (true, "30ba780aa47119653ab3e8081b0a33507b5c2ddb5d70185776cadd84b12b0ea8") false
    over (fun _ h => by cases h) (by kernel_rfl) (fun _ h => by cases h) primJoins_row_tie rfl ⟨rfl, rfl⟩ (by kernel_rfl) rfl
    (fun f fn hf hfn => by
      obtain rfl : f = 5 := Option.some.inj ((show Tryz.prog.funcNamed "jacquard/jacquardlaw09.PrimJoins" = some 5 by kernel_rfl).symm.trans hf) |>.symm
      obtain rfl : fn = Tryz.f5 := (Option.some.inj (Tryz.func5.symm.trans hfn)).symm
      exact ⟨by kernel_rfl, fun j t ht => by
        rw [Tryz.params5] at ht
        have hm : t ∈ [52] := by have h9 := Array.mem_of_getElem? ht; simp at h9 ⊢; first | exact h9 | (rcases h9 with h9 | h9 <;> simp [h9]; done) | (rcases h9 with h9 | h9 | h9 <;> simp [h9]; done) | (rcases h9 with h9 | h9 | h9 | h9 <;> simp [h9]; done)
        have hall : ([52].all fun u => !Tryz.prog.wantsStandIn u) = true := by kernel_rfl
        exact (show Tryz.prog.wantsStandIn t = false by simpa using List.all_eq_true.1 hall t hm)⟩)
    (by kernel_rfl)
end Go.Proofs.YtajnpdiepiinjaaGreatDoor.primJoins
namespace Go.Proofs.YtajnpdiepiinjaaGreatDoor
theorem primJoins_holds : Rows.PrimJoinsCardSaid := primJoins.card
#print axioms primJoins_holds
end Go.Proofs.YtajnpdiepiinjaaGreatDoor
