/- Any things that are told, one by one: each answer, and all that can be asked, are as the document tells. -/
import Derived.Test.YtfkcbioefdkabaaQk
set_option linter.unusedVariables false
set_option linter.unusedSimpArgs false
namespace Go.Proofs.Ytfkcbioefdkabaa.profPlays
open Go.ChangeShapes Go.WideShapes Go.ChangeAt Go.RowKit

set_option maxRecDepth 100000 in
set_option maxHeartbeats 2000000 in
theorem walk (a0 : Int) (w0 : -9223372036854775808 ≤ a0 ∧ a0 ≤ 9223372036854775807) (a1 : Int) (w1 : -9223372036854775808 ≤ a1 ∧ a1 ≤ 9223372036854775807) (w : World) (v2 : Value) (l2 : List AA) (w2 : Acts w (fun _ => True) v2 l2) :
    Calls Try.prog 3 #[.int .i64 a0, .int .i64 a1, v2] w fun e w' => e = .returned (.bool true) ∧ Bw w w' := by
  obtain ⟨av, cv, rfl⟩ := w2.form
  have HA := hid w2
  clear w2
  by_cases hlen : 60 < l2.length
  · have h60 : (60 : Int) < (l2.length : Int) := by omega
    clear w0 w1
    go_enter Try.func3, Try.ntmps3
    go_wp2_with (first
      | (go_at_call 8; refine (live_any _).mono ?_; rintro e w2 ⟨rfl, hb2⟩)
      | fail)
    all_goals go_ret
    all_goals exact ⟨rfl, hb2⟩
  have h60 : ¬ (60 : Int) < (l2.length : Int) := by omega
  by_cases hA : 40 < a0 ∧ a0 ≤ 1024
  · have e1 : 40 < a0 := hA.1
    have e2 : a0 ≤ 1024 := hA.2
    clear w0 w1 hA
    go_enter Try.func3, Try.ntmps3
    go_wp2_with (first
      | (go_at_call 8; refine (live_any _).mono ?_; rintro e w2 ⟨rfl, hb2⟩)
      | fail)
    all_goals go_ret
    all_goals exact ⟨rfl, hb2⟩
  have hA2 : ¬ 40 < a0 ∨ (40 < a0 ∧ ¬ a0 ≤ 1024) := by omega
  by_cases hB : 40 < a1 ∧ a1 ≤ 1024
  · have e1 : 40 < a1 := hB.1
    have e2 : a1 ≤ 1024 := hB.2
    clear w0 w1 hA hB
    rcases hA2 with f1 | ⟨f1, f2⟩
    all_goals
      go_enter Try.func3, Try.ntmps3
      go_wp2_with (first
        | (go_at_call 8; refine (live_any _).mono ?_; rintro e w2 ⟨rfl, hb2⟩)
        | fail)
      all_goals go_ret
      all_goals exact ⟨rfl, hb2⟩
  have hB2 : ¬ 40 < a1 ∨ (40 < a1 ∧ ¬ a1 ≤ 1024) := by omega
  by_cases hin : 1 ≤ a0 ∧ a0 ≤ 1024 ∧ 0 ≤ a1 ∧ a1 ≤ 1024
  · obtain ⟨F, rfl⟩ : ∃ F : Nat, a0 = F := ⟨a0.toNat, by omega⟩
    obtain ⟨G, rfl⟩ : ∃ G : Nat, a1 = G := ⟨a1.toNat, by omega⟩
    have hF : F ≤ 1024 := by omega
    have hG : G ≤ 1024 := by omega
    have e1 : ¬ (40 : Int) < F := by omega
    have e2 : ¬ (40 : Int) < G := by omega
    have hN := fun w => New_yes F G w (by omega) hF hG
    have hRN := fun w => rNew_yes F G w (by omega) hF hG
    clear hA hB hA2 hB2 hin w0 w1
    go_enter Try.func3, Try.ntmps3
    go_wp2_with (first
      | (go_at_call 9; refine (hN _).mono ?_; rintro e w1 ⟨p, hb, wb, mb, rfl, hp1, hb1, b1, b2, b3, b4⟩; have HP1 := hid hp1; have HB1 := hid hb1; have HO1 := hid (And.intro b1 (And.intro b2 (And.intro b3 b4))); clear hp1 hb1 b1 b2 b3 b4)
      | (go_at_call 10; refine (hRN _).mono ?_; rintro e w2 ⟨rfl, hb2⟩; have HD0 := hid (DW.made HB1.out HP1.out HO1.out hb2); clear hb2)
      | (go_at_call 11; refine (num_any _ _).mono ?_; rintro e w3 ⟨rfl, hw3⟩; subst w3)
      | fail)
    obtain ⟨B, hB⟩ : ∃ B, w2.heap.size = B := ⟨_, rfl⟩
    obtain ⟨q, hq⟩ : ∃ q : PP, (⟨p, hb, wb, mb⟩ : PP) = q := ⟨_, rfl⟩
    rw [hB, hq] at HD0
    rw [hB, show p = q.p by rw [← hq]]
    clear hN hRN HP1 HB1 HO1 hq hB
    go_loopw [11] (fun j wr => ∃ (k : Nat) (vL : Value) (L : List AA), k ≤ l2.length ∧ L.length ≤ k ∧ j = .int .i64 k ∧ DW w wr q F G B vL L) (fun j _ => l2.length - (intOf j).toNat)
    case atStart => exact ⟨0, _, [], by omega, Nat.le_refl _, rfl, HD0.out⟩
    case round =>
      obtain ⟨k, vL, L, hk, hL, rfl, hdw⟩ := hrel
      obtain ⟨aL, cL, rfl⟩ := hdw.rl.form
      have HD := hid hdw
      by_cases hlt : k < l2.length
      · obtain ⟨g, o, rfl, hg, x0, x1, x2, x3, x4, x5, ok1⟩ := (HA.out.bw hdw.bw).at hlt
        have hlt2 : (k : Int) < (l2.length : Int) := by omega
        generalize l2[k] = x at x0 x1 x2 x3 x4 x5 ok1
        have HDA := hid (hdw.next (Bw.alloc (Bw.refl wr) (.cells #[.int .i64 x.d, .int .i64 x.f, .int .i64 x.t, .int .i64 x.a, .int .i64 x.b, .int .u64 x.v] 36)))
        have HXA := hid (show ActB (wr.alloc (.cells #[.int .i64 x.d, .int .i64 x.f, .int .i64 x.t, .int .i64 x.a, .int .i64 x.b, .int .u64 x.v] 36)) wr.heap.size x from Blk.new wr _ _)
        have hBlt := hdw.box.lt
        have hnb : wr.heap.size ∉ q.bb B := fun hm => by have := hdw.lts _ hm; omega
        have HNB := hid hnb
        have hwB : wr.heap.size ≠ B := by omega
        obtain ⟨_, k0, k1, k2, kf⟩ := hdw.cells
        by_cases hr : 0 ≤ x.d ∧ x.d ≤ 4
        · have r1 : 0 ≤ x.d := hr.1
          have r2 : x.d ≤ 4 := hr.2
          have hta := tell_any x HDA.out.ps hF (by omega)
          rw [nrm_04 hr] at hta
          have hrt := fun (w3 : World) (hm : RLs w3 (fun b => b ∉ q.bb B) (.slice aL L.length cL) L) => rTell_any (F := F) (G := G) x ok1 hm (by omega)
          generalize (if okT F G x = true then (0 : Int) else 1) = rr at hta hrt
          have HTA := hid hta
          have HRT := hid hrt
          clear hta hrt hdw ok1 hnb
          go_wp2_with (first
            | (go_at_call 12; refine (HTA.out).mono ?_; rintro e w3 ⟨rfl, hp3, hk3⟩; have HPT := hid hp3; have HK1 := hid (show Ex q.bs _ w3 from hk3); have HM := hid (HDA.out.mid hk3); have HX3 := hid (HXA.out.ex hk3 (fun hm => HNB.out (List.mem_append_left [B] hm))); obtain ⟨xl, z0, z1, z2, z3, z4, z5⟩ := ActB.cells HX3.out; have t0 := HM.out.2.1.cell 0; have t1 := HM.out.2.1.cell 1; have t2 := HM.out.2.1.cell 2; have tl := HM.out.2.1.lt; simp only [List.getElem?_toArray, List.getElem?_cons_zero, List.getElem?_cons_succ] at t0 t1 t2; clear hp3 hk3)
            | (go_at_call 13; refine (HRT.out _ HM.out.2.2).mono ?_; rintro e w4 ⟨v4, he4, hb4, hr4⟩; subst he4; obtain ⟨a4, c4, e4⟩ := hr4.form; subst e4; have HDT := hid ((HDA.out.tell x HK1.out HPT.out hb4 hr4 (Bw.refl _)).next (Bw.alloc (Bw.refl _) (.cells #[.int .i64 F, .int .i64 G, .slice a4 (tellL F G L x).length c4] 29))); have HX4 := hid (HX3.out.bw hb4); have bx4 := HM.out.2.1.bw hb4; have u0 := bx4.cell 0; have u1 := bx4.cell 1; have u2 := bx4.cell 2; have uf := bx4.free; have ul := bx4.lt; obtain ⟨vl, o0, o1, o2, o3, o4, o5⟩ := ActB.cells HX4.out; simp only [List.getElem?_toArray, List.getElem?_cons_zero, List.getElem?_cons_succ] at u0 u1 u2; clear hb4 hr4 bx4)
            | (go_at_call 11; refine (num_any _ _).mono ?_; rintro e w5 ⟨rfl, hw5⟩; subst w5)
            | (go_at_call 14; refine (asks_any x HDT.out.ps HDT.out.rl HDT.out.pair hF hG).mono ?_; rintro e w6 ⟨rfl, hb6⟩; have HD6 := hid (HDT.out.next hb6); clear hb6)
            | fail)
          all_goals go_roundw
          case rel => exact ⟨k + 1, _, _, by omega, Nat.le_trans (tellL_len _ _ _ _) (by omega), by go_num, HD6.out⟩
          case measure => simp [intOf]; omega
        · have hrr : (0 ≤ x.d ∧ ¬ x.d ≤ 4) ∨ ¬ 0 ≤ x.d := by omega
          clear ok1 hdw hnb
          rcases hrr with ⟨r1, r2⟩ | r1
          all_goals
            go_wp2_with (first
              | (go_at_call 14; refine (asks_any x HDA.out.ps HDA.out.rl HDA.out.pair hF hG).mono ?_; rintro e w6 ⟨rfl, hb6⟩; have HD6 := hid (HDA.out.next hb6); clear hb6)
              | fail)
            go_roundw
            case rel => exact ⟨k + 1, _, L, by omega, by omega, by go_num, HD6.out⟩
            case measure => simp [intOf]; omega
      · have hlt2 : ¬ (k : Int) < (l2.length : Int) := by omega
        clear hdw
        go_wp2_with (first
          | (go_at_call 8; refine (live_any _).mono ?_; rintro e w7 ⟨rfl, hb7⟩)
          | fail)
        all_goals go_ret
        all_goals exact ⟨rfl, HD.out.bw.trans hb7⟩
  · have hN := fun w => New_no a0 a1 w hin
    have hRN := fun w => rNew_no a0 a1 w hin
    clear hA hB w0 w1 hin
    rcases hA2 with f1 | ⟨f1, f2⟩
    all_goals rcases hB2 with g1 | ⟨g1, g2⟩
    all_goals
      go_enter Try.func3, Try.ntmps3
      go_wp2_with (first
        | (go_at_call 9; refine (hN _).mono ?_; rintro e w1 ⟨rfl, hw1⟩; subst w1)
        | (go_at_call 10; refine (hRN _).mono ?_; rintro e w2 ⟨rfl, hb2⟩; have HB2 := hid hb2; clear hb2)
        | (go_at_call 11; refine (num_any _ _).mono ?_; rintro e w3 ⟨rfl, hw3⟩; subst w3)
        | (go_at_call 8; refine (live_any _).mono ?_; rintro e w4 ⟨rfl, hb4⟩; have HB4 := hid hb4; clear hb4)
        | fail)
      all_goals go_ret
      all_goals exact ⟨rfl, HB2.out.trans (Bw.trans (Bw.alloc (Bw.refl _) _) HB4.out)⟩

set_option maxRecDepth 100000 in
theorem lifted (os : Os) (started : os.Started) (H : Type) (enc : TypeId × Value → H) :
    ReturnsInHanded {} Try.checked os 3 .any (Rows.profPlaysSpec.pre6 enc Try.prog Try.f3 Rows.profPlaysRow.domain false) (Rows.profPlaysSpec.post enc Try.prog Try.f3 false true false false) := by
  refine returnsInHanded_of_change (C := Try.checked) ownK started (by kernel_rfl) Try.func3
    (ChangeSpec.witness6 (enc := enc) (C := Try.checked) false ⟨#[], #[.int .i64 0, .int .i64 0, .slice none 0 0], []⟩ 8 (by kernel_rfl) (by kernel_rfl) (by kernel_rfl) (by kernel_rfl)) ?_
  intro W base args ds gs before hval0 hW hcnd _
  have hval : ∀ (j : Nat) t v, Try.f3.params[j]? = some t → args[j]? = some v → Value.okWide Try.prog W .any base t v := hval0
  have hW' := hW
  obtain ⟨p, q, hA0, hV, rfl, hfz, hnd⟩ := hW
  have hA : DataW.TrodAll enc Try.prog W 0 (fun _ => true) true Try.f3.params.toList args.toList ds p := hA0
  rw [Try.params3] at hA hval
  obtain ⟨v0, vs0, d0, ds0, p0, q0, hargs, rfl, rfl, h0, r0⟩ := trodAll_cons hA
  obtain ⟨v1, vs1, d1, ds1, p1, q1, rfl, rfl, rfl, h1, r1⟩ := trodAll_cons r0
  obtain ⟨v2, vs2, d2, ds2, p2, q2, rfl, rfl, rfl, h2, r2⟩ := trodAll_cons r1
  obtain ⟨rfl, rfl, rfl⟩ := trodAll_nil r2
  obtain rfl : args = #[v0, v1, v2] := by cases args; simp_all
  obtain ⟨rfl, rfl⟩ := trodVars_none hV
  have k0 := h0
  have lt0 : ∀ x ∈ p0, x.block < W.heap.size := by obtain ⟨m, hm⟩ := k0; exact DataW.trod_lt m _ _ _ hm
  have k1 := h1
  have lt1 : ∀ x ∈ p1, x.block < W.heap.size := by obtain ⟨m, hm⟩ := k1; exact DataW.trod_lt m _ _ _ hm
  have k2 := h2
  have lt2 : ∀ x ∈ p2, x.block < W.heap.size := by obtain ⟨m, hm⟩ := k2; exact DataW.trod_lt m _ _ _ hm
  obtain ⟨a0, rfl, rfl, rfl, w00⟩ := open_int Try.underlying3 (hval 0 3 v0 rfl rfl) h0
  have w0 := bounds_i64 w00
  obtain ⟨a1, rfl, rfl, rfl, w10⟩ := open_int Try.underlying3 (hval 1 3 v1 rfl rfl) h1
  have w1 := bounds_i64 w10
  obtain ⟨l2, w2⟩ := open_acts (hval 2 22 v2 rfl rfl) h2
  clear hA0 hval0
  refine (walk a0 w0 a1 w1 W v2 l2 w2).mono fun e W' ⟨he, bel⟩ => ?_
  subst he
  exact ⟨_, rfl, _, _, _, [], _, [], hW', trodAll_mk1 (shut_bool Try.underlying4 _), (trodAll_cons_mk (Below.trod laidOut (by kernel_rfl) (of_decide_eq_true (by kernel_rfl)) k0 bel lt0) (trodAll_cons_mk (Below.trod laidOut (by kernel_rfl) (of_decide_eq_true (by kernel_rfl)) k1 bel lt1) (trodAll_cons_mk (Below.trod laidOut (by kernel_rfl) (of_decide_eq_true (by kernel_rfl)) k2 bel lt2) trodAll_mk0))), rfl, Below.frame bel _, fun h => by cases h⟩

theorem over : Rows.profPlaysRow.holds Try.pinned (OpenSpec.ofChange Rows.profPlaysSpec) :=
  OpenClaim.holds_of_wide 3 Try.f3 rfl rfl rfl rfl rfl rfl rfl ⟨rfl, rfl, rfl, rfl, rfl⟩ rfl rfl rfl rfl rfl (by kernel_rfl) Try.func3 (by kernel_rfl)
    (of_decide_eq_true (by kernel_rfl)) (by unfold Func.isWrapper; first | (rw [if_pos (by decide +kernel)]; kernel_rfl) | (rw [if_neg (by decide +kernel)]; exact ⟨rfl, rfl⟩))
    (fun os started H enc _ => lifted os started H enc)

theorem proved : Rows.ProfPlaysSaid := over
end Go.Proofs.Ytfkcbioefdkabaa.profPlays
namespace Go.Proofs.Ytfkcbioefdkabaa
theorem profPlays_holds : Rows.ProfPlaysSaid := profPlays.proved
#print axioms profPlays_holds
end Go.Proofs.Ytfkcbioefdkabaa
