/- What was handed in, and what is told, may be written over: the registry stays as it is. -/
import Derived.Test.YtaeifhfhahcoiaaPn
set_option linter.unusedVariables false
set_option linter.unusedSimpArgs false
namespace Go.Proofs.Ytaeifhfhahcoiaa.depsOwn
open Go.ChangeShapes Go.WideShapes Go.ChangeAt Go.RowKit

set_option maxRecDepth 100000 in
set_option maxHeartbeats 2000000 in
theorem walk (a1 : Int) (w1 : 0 ≤ a1 ∧ a1 ≤ 18446744073709551615) (w : World) (v0 : Value) (l0 : List (Int × Int)) (w0 : Dl w v0 l0) :
    Calls Try.prog 6 #[v0, .int .u64 a1] w fun e w' => e = .returned (.bool true) ∧ Bw w w' := by
  have HA := hid w0
  obtain ⟨av, cv, rfl⟩ := w0.form
  clear w0
  by_cases h40 : 40 < l0.length
  · have h40' : (40 : Int) < (l0.length : Int) := by omega
    go_enter Try.func6, Try.ntmps6
    go_wp2_with (first
      | (go_at_call 9; refine (live_any _).mono ?_; rintro e w2 ⟨rfl, hb2⟩)
      | fail)
    all_goals go_ret
    all_goals exact ⟨rfl, hb2⟩
  · have h40' : ¬ (40 : Int) < (l0.length : Int) := by omega
    obtain ⟨i2, hi2, hz2, hs2, hy2⟩ := info_parts infoDp
    have I2 := hid (And.intro hi2 (And.intro hz2 (And.intro hs2 hy2)))
    clear hi2 hz2 hs2 hy2
    have hN := fun w => New_yes 2 50 w (by decide) (by decide) (by decide)
    go_enter Try.func6, Try.ntmps6
    go_wp2_with (first
      | (go_at_call 10; refine (hN _).mono ?_; rintro e w1 ⟨p, rfl, hp1, hb1, b1⟩; have HP1 := hid hp1; have HB1 := hid hb1; have hbs := hid b1; clear hp1 hb1 b1)
      | (go_at_call 12; refine (num_any _ _).mono ?_; rintro e w9 ⟨rfl, hw9⟩; subst w9)
      | (at_builtin; refine wpList_append_sl _ rfl _ _ 37 rfl w1.heap.size 61 i2 _ 2 16 Try.underlying37 I2.out.1 I2.out.2.1 I2.out.2.2.1 I2.out.2.2.2 rfl (by decide) (.slice (some ⟨w1.heap.size, 0, none⟩) 0 0) 0 [] rfl (own_empty _ _ _ _ _ rfl (Nat.le_refl _)) (.slice av l0.length cv) l0.length (depC l0) rfl (HA.out.1.below (Bw.alloc HB1.out _)) (depC_one l0) ?c3 ?c4 ?c5 ?_)
      | fail)
    case c3 => unfold maxLen; omega
    case c4 => omega
    case c5 => simp only [World.size_alloc]; omega
    intro v3 w3 hown hgr
    have hb3 := bw_grownAt (Bw.alloc (Bw.refl w1) (.cells #[] 61)) hgr (Nat.le_refl _)
    have hown2 : w3.ownsRow w1.heap.size 61 2 v3 l0.length (depC l0) := by simpa using hown
    have HO3 := hid hown2
    obtain ⟨a3, c3, e3⟩ := own_form hown2
    subst e3
    have HB3 := hid hb3
    have HP3 := hid (HP1.out.bw hb3)
    clear hgr hown hown2 hb3
    cases hn : nms 50 l0
    · have HE := hid (addE_own1 hn)
      clear hn
      go_wp2_with (first
        | (go_at_call 16; refine (Add_any HP3.out (by decide) 1 l0 (own_sl (G := fun _ => True) HO3.out (fun _ _ => trivial)) (by omega) (by decide)).mono ?_; rintro e w4 ⟨bs4, rv4, L4, he, hd4, hn4, hl4⟩; have he4 : e = .returned (.tuple #[.int .i64 0, .int .i64 1]) := (by rw [he]; simp only [List.map_nil]; rw [HE.out]; rfl); subst he4; have HN4 := hid hn4; clear he hd4 hn4 hl4)
        | (go_at_call 12; refine (num_any _ _).mono ?_; rintro e w9 ⟨rfl, hw9⟩; subst w9)
        | (go_at_call 9; refine (live_any _).mono ?_; rintro e w2 ⟨rfl, hb2⟩; have HB2 := hid hb2; clear hb2)
        | fail)
      all_goals go_ret
      all_goals exact ⟨rfl, (Bw.ex (HB1.out.trans HB3.out) HN4.out.ex (fun x hx => by simp at hx; subst hx; exact hbs.out)).trans HB2.out⟩
    · have HE := hid (addE_own hn)
      have HNM := hid hn
      clear hn
      go_wp2_with (first
        | (go_at_call 16; refine (Add_any HP3.out (by decide) 1 l0 (own_sl (G := fun _ => True) HO3.out (fun _ _ => trivial)) (by omega) (by decide)).mono ?_; rintro e w4 ⟨bs4, rv4, L4, he, hd4, hn4, hl4⟩; have he4 : e = .returned (.tuple #[.int .i64 0, .int .i64 0]) := (by rw [he]; simp only [List.map_nil]; rw [HE.out]; rfl); subst he4; have HN4 := hid hn4; have HD4 := hid hd4; have HL4 := hid (show L4.map Prod.fst = [⟨1, l0, true⟩] from (by rw [hl4]; unfold addL; simp only [List.map_nil]; rw [HE.out]; rfl)); clear he hd4 hn4 hl4)
        | (go_at_call 12; refine (num_any _ _).mono ?_; rintro e w9 ⟨rfl, hw9⟩; subst w9)
        | fail)
      have HB4 := hid (Bw.ex (HB1.out.trans HB3.out) HN4.out.ex (fun x hx => by simp at hx; subst hx; exact hbs.out))
      have HT4 := hid (show TS w w4 p bs4 2 50 rv4 L4 61 2 (.slice a3 l0.length c3) l0.length from by
        refine ⟨HB4.out, HD4.out, ?_⟩
        by_cases h0 : l0.length = 0
        · exact .inl h0
        · obtain ⟨g, cap, cur, e1, hg, hblk, hc1, hc2, hsz, ht⟩ := own_parts HO3.out h0
          have hgl := hblk.lt
          have hpl := HP1.out.blk.lt
          refine .inr ⟨g, cap, cur, e1, fun hm => ?_, by have := HB1.out.size; omega, hblk.ex HN4.out.ex (by simp; omega), by omega⟩
          rcases HN4.out.new g hm with h | h
          · simp at h; omega
          · omega)
      have HBS := hid (show ∀ x ∈ bs4, w.heap.size ≤ x from fun x hx => by
        have h1 := (HB1.out.trans HB3.out).size
        rcases HN4.out.new x hx with h | h
        · simp at h; subst h; exact hbs.out
        · omega)
      clear HO3 HN4 HD4
      obtain ⟨v5, e5⟩ := one_of HL4.out
      subst e5
      clear HL4
      have HLEN := hid (show l0.length ≤ 40 by omega)
      go_loopw [10] (fun i wr => ∃ (k : Nat), k ≤ l0.length ∧ i = .int .i64 k ∧ TS w wr p bs4 2 50 rv4 [(⟨1, l0, true⟩, v5)] 61 2 (.slice a3 l0.length c3) l0.length) (fun i _ => l0.length - (intOf i).toNat)
      case atStart => exact ⟨0, by omega, rfl, HT4.out⟩
      case round =>
        obtain ⟨k, hk, rfl, ht⟩ := hrel
        have HT := hid ht
        by_cases h4 : k < l0.length
        · have h4' : (k : Int) < (l0.length : Int) := by omega
          obtain ⟨g, cap, e1, hgl, ⟨u, hu⟩, hfz, hset⟩ := ht.at h4 (j := 1) (by decide)
          cases e1
          have HS := hid (hset (.int .u64 99))
          clear ht hset
          go_wp2
          go_roundw
          case rel => exact ⟨k + 1, by omega, by go_num, HS.out⟩
          case measure => simp [intOf]; omega
        · have h4' : ¬ (k : Int) < (l0.length : Int) := by omega
          clear ht
          go_wp2_with (first
            | (go_at_call 20; (fail_if_success (have _g := m1)); have m1 := hid trivial; refine (On_any HT.out.ds 0).mono ?_; rintro e w6 ⟨r6, l6, rfl, ho6, hb6, _, _, hl6⟩; have hl6 := hl6 0 (by simp) rfl; simp only [List.getElem_cons_zero] at hl6; rw [hl6] at ho6; obtain ⟨a6, c6, e6⟩ := own_form ho6; subst e6; have HT6 := hid (show TS w w6 p bs4 2 50 rv4 [(⟨1, l0, true⟩, v5)] 61 2 (.slice a6 l0.length c6) l0.length from TS.of_own (HT.out.bw.trans hb6) (HT.out.ds.bw hb6) ho6 HT.out.bw.size (fun b hb => HT.out.ds.lt b hb)); clear ho6 hb6)
            | fail)
          go_loopw [12] (fun i ws => ∃ (k : Nat), k ≤ l0.length ∧ i = .int .i64 k ∧ TS w ws p bs4 2 50 rv4 [(⟨1, l0, true⟩, v5)] 61 2 (.slice a6 l0.length c6) l0.length) (fun i _ => l0.length - (intOf i).toNat)
          case atStart => exact ⟨0, by omega, rfl, HT6.out⟩
          case round =>
            obtain ⟨k, hk, rfl, ht⟩ := hrel
            have HT := hid ht
            by_cases h4 : k < l0.length
            · have h4' : (k : Int) < (l0.length : Int) := by omega
              obtain ⟨g, cap, e1, hgl, ⟨u, hu⟩, hfz, hset⟩ := ht.at h4 (j := 0) (by decide)
              cases e1
              simp only [Nat.add_zero] at hu hset
              have HS := hid (hset (.int .i64 0))
              clear ht hset
              go_wp2
              go_roundw
              case rel => exact ⟨k + 1, by omega, by go_num, HS.out⟩
              case measure => simp [intOf]; omega
            · have h4' : ¬ (k : Int) < (l0.length : Int) := by omega
              clear ht
              by_cases h0 : l0.length = 0
              · have hl : l0 = [] := List.eq_nil_of_length_eq_zero h0
                have z0 : ((l0.length : Int) == 0) = true := by simp [h0]
                clear h0 hl
                go_wp2_with (first
                  | (go_at_call 20; refine (On_any HT.out.ds 0).mono ?_; rintro e w7 ⟨r7, l7, rfl, ho7, hb7, _, _, hl7⟩; have hl7 := hl7 0 (by simp) rfl; simp only [List.getElem_cons_zero] at hl7; rw [hl7] at ho7; obtain ⟨a7, c7, e7⟩ := own_form ho7; subst e7; have HO7 := hid (own_sl (G := fun _ => True) ho7 (fun _ _ => trivial)); have HB7 := hid (HT.out.bw.trans hb7); clear ho7 hb7)
                  | (go_at_call 22; refine (sameDeps_any _ _ l0 HO7.out (HA.out.1.below HB7.out) (by have := HLEN.out; omega)).mono ?_; rintro e w8 ⟨rfl, hd8⟩; have HB8 := hid (HB7.out.trans hd8.bw); clear hd8)
                  | (go_at_call 9; refine (live_any _).mono ?_; rintro e w2 ⟨rfl, hb2⟩)
                  | fail)
                all_goals go_ret
                all_goals exact ⟨rfl, HB8.out.trans hb2⟩
              · have z0 : ((l0.length : Int) == 0) = false := by simp [h0]
                obtain ⟨y, l1, hyl⟩ : ∃ y l1, l0 = y :: l1 := by
                  cases l0 with
                  | nil => exact absurd rfl h0
                  | cons y l1 => exact ⟨y, l1, rfl⟩
                have hu2 : I64 y.1 ∧ U y.2 := HA.out.2.1 y (by rw [hyl]; simp)
                have hone : oneOf y.1 50 = true := by
                  have := (nms_iff.1 HNM.out 0 (by omega) (by omega)).1
                  simp only [hyl, List.getElem_cons_zero] at this
                  exact oneOf_yes this.1 (by omega)
                have HH := hid (show hit y.1 (IntKind.u64.wrap (y.2 + 4)) ⟨1, l0, true⟩ = true by rw [hyl]; exact hit_own hu2.2)
                have HY := hid (show (depC l0)[0]? = some (.int .i64 y.1) ∧ (depC l0)[1]? = some (.int .u64 y.2) by rw [hyl]; exact ⟨rfl, rfl⟩)
                have h0' : 0 < l0.length := by omega
                have h0i : (0 : Int) < (l0.length : Int) := by omega
                clear hyl h0 hu2
                go_wp2_with (first
                  | (go_at_call 20; refine (On_any HT.out.ds 0).mono ?_; rintro e w7 ⟨r7, l7, rfl, ho7, hb7, _, _, hl7⟩; have hl7 := hl7 0 (by simp) rfl; simp only [List.getElem_cons_zero] at hl7; rw [hl7] at ho7; obtain ⟨a7, c7, e7⟩ := own_form ho7; subst e7; have HO7 := hid (own_sl (G := fun _ => True) ho7 (fun _ _ => trivial)); have HB7 := hid (HT.out.bw.trans hb7); have HD7 := hid (HT.out.ds.bw hb7); clear ho7 hb7)
                  | (go_at_call 22; refine (sameDeps_any _ _ l0 HO7.out (HA.out.1.below HB7.out) (by have := HLEN.out; omega)).mono ?_; rintro e w8 ⟨rfl, hd8⟩; have HB8 := hid (HB7.out.trans hd8.bw); have HD8 := hid (HD7.out.bw hd8.bw); clear hd8)
                  | fail)
                obtain ⟨ba, oa, ea, hla, _, hca⟩ := (HA.out.1.below (Bw.drew HB8.out)).cellAt (by omega)
                cases ea
                have k0 := (hca 0 (by omega)).trans HY.out.1
                have k1 := (hca 1 (by omega)).trans HY.out.2
                simp only [Nat.add_zero] at k0
                obtain ⟨vy, hvy⟩ : ∃ vy, IntKind.u64.wrap (y.2 + 4) = vy := ⟨_, rfl⟩
                rw [hvy] at HH
                obtain ⟨y1, y2⟩ := y
                simp only at hvy hone HH HY k0 k1
                clear hca
                have HWC := hid (Wrote_yes (HD8.out.bw (Bw.drew (Bw.refl _))) y1 vy hone)
                go_region_with (go_at_call 17; refine HWC.out.mono ?_; rintro e w9 ⟨r9, L9, rfl, ho9, hd9, hn9, hl9⟩; simp only [List.map_cons, List.map_nil] at ho9 hl9; rw [all_one HH.out] at ho9; rw [wrote_own HH.out] at hl9; obtain ⟨a9, c9, e9⟩ := own_form ho9; subst e9; simp only [List.length_cons, List.length_nil, Nat.zero_add] at ho9; have HO9 := hid ho9; have HD9 := hid hd9; have HN9 := hid hn9; have HL9 := hid hl9; clear ho9 hd9 hn9 hl9)
                all_goals have HT9 := hid (show TS w w9 p bs4 2 50 rv4 L9 3 1 (.slice a9 1 c9) 1 from TS.of_own (Bw.ex (Bw.drew HB8.out) HN9.out.ex HBS.out) HD9.out HO9.out (Nat.le_trans HB8.out.size (Nat.le_refl _)) (fun b hb => HD8.out.lt b hb))
                all_goals have HV9 := hid (show validL (L9.map Prod.fst) 0 = false by rw [HL9.out]; rfl)
                all_goals clear HO9 HN9 HD9
                all_goals go_wp2
                all_goals (
                  go_loopw [15] (fun i ws => ∃ (k : Nat), k ≤ 1 ∧ i = .int .i64 k ∧ TS w ws p bs4 2 50 rv4 L9 3 1 (.slice a9 1 c9) 1) (fun i _ => 1 - (intOf i).toNat)
                  case atStart => exact ⟨0, by omega, rfl, HT9.out⟩
                  case round =>
                    obtain ⟨k, hk, rfl, ht⟩ := hrel
                    have HT := hid ht
                    by_cases h4 : k < 1
                    · have h4' : (k : Int) < 1 := by omega
                      obtain ⟨g, cap, e1, hgl, ⟨u, hu⟩, hfz, hset⟩ := ht.at h4 (j := 0) (by decide)
                      cases e1
                      simp only [Nat.add_zero, Nat.mul_one] at hu hset
                      have HS := hid (hset (.int .i64 (-1)))
                      clear ht hset
                      go_wp2
                      go_roundw
                      case rel => exact ⟨k + 1, by omega, by go_num, HS.out⟩
                      case measure => simp [intOf]; omega
                    · have h4' : ¬ (k : Int) < 1 := by omega
                      clear ht
                      go_wp2_with (first
                        | (go_at_call 12; refine (num_any _ _).mono ?_; rintro e wa ⟨rfl, hwa⟩; subst wa)
                        | (go_at_call 15; refine (Valid_any HT.out.ds 0).mono ?_; rw [HV9.out]; rintro e wa ⟨rfl, hwa⟩; subst wa)
                        | (go_at_call 9; refine (live_any _).mono ?_; rintro e wb ⟨rfl, hbb⟩)
                        | fail)
                      all_goals go_ret
                      all_goals exact ⟨rfl, HT.out.bw.trans hbb⟩)

set_option maxRecDepth 100000 in
theorem lifted (os : Os) (started : os.Started) (H : Type) (enc : TypeId × Value → H) :
    ReturnsInHanded {} Try.checked os 6 .any (Rows.depsOwnSpec.pre6 enc Try.prog Try.f6 Rows.depsOwnRow.domain false) (Rows.depsOwnSpec.post enc Try.prog Try.f6 false true false false) := by
  refine returnsInHanded_of_change (C := Try.checked) ownK started (by kernel_rfl) Try.func6
    (ChangeSpec.witness6 (enc := enc) (C := Try.checked) false ⟨#[], #[.slice none 0 0, .int .u64 0], []⟩ 8 (by kernel_rfl) (by kernel_rfl) (by kernel_rfl) (by kernel_rfl)) ?_
  intro W base args ds gs before hval0 hW hcnd _
  have hval : ∀ (j : Nat) t v, Try.f6.params[j]? = some t → args[j]? = some v → Value.okWide Try.prog W .any base t v := hval0
  have hW' := hW
  obtain ⟨p, q, hA0, hV, rfl, hfz, hnd⟩ := hW
  have hA : DataW.TrodAll enc Try.prog W 0 (fun _ => true) true Try.f6.params.toList args.toList ds p := hA0
  rw [Try.params6] at hA hval
  obtain ⟨v0, vs0, d0, ds0, p0, q0, hargs, rfl, rfl, h0, r0⟩ := trodAll_cons hA
  obtain ⟨v1, vs1, d1, ds1, p1, q1, rfl, rfl, rfl, h1, r1⟩ := trodAll_cons r0
  obtain ⟨rfl, rfl, rfl⟩ := trodAll_nil r1
  obtain rfl : args = #[v0, v1] := by cases args; simp_all
  obtain ⟨rfl, rfl⟩ := trodVars_none hV
  have k0 := h0
  have lt0 : ∀ x ∈ p0, x.block < W.heap.size := by obtain ⟨m, hm⟩ := k0; exact DataW.trod_lt m _ _ _ hm
  have k1 := h1
  have lt1 : ∀ x ∈ p1, x.block < W.heap.size := by obtain ⟨m, hm⟩ := k1; exact DataW.trod_lt m _ _ _ hm
  obtain ⟨l0, w0⟩ := open_deps (hval 0 37 v0 rfl rfl) h0
  obtain ⟨a1, rfl, rfl, rfl, w10⟩ := open_int Try.underlying39 (hval 1 39 v1 rfl rfl) h1
  have w1 := bounds_u64 w10
  clear hA0 hval0
  refine (walk a1 w1 W v0 l0 w0).mono fun e W' ⟨he, bel⟩ => ?_
  subst he
  exact ⟨_, rfl, _, _, _, [], _, [], hW', trodAll_mk1 (shut_bool Try.underlying4 _), (trodAll_cons_mk (Below.trod laidOut (by kernel_rfl) (of_decide_eq_true (by kernel_rfl)) k0 bel lt0) (trodAll_cons_mk (Below.trod laidOut (by kernel_rfl) (of_decide_eq_true (by kernel_rfl)) k1 bel lt1) trodAll_mk0)), rfl, Below.frame bel _, fun h => by cases h⟩

theorem over : Rows.depsOwnRow.holds Try.pinned (OpenSpec.ofChange Rows.depsOwnSpec) :=
  OpenClaim.holds_of_wide 6 Try.f6 rfl rfl rfl rfl rfl rfl rfl ⟨rfl, rfl, rfl, rfl, rfl⟩ rfl rfl rfl rfl rfl (by kernel_rfl) Try.func6 (by kernel_rfl)
    (of_decide_eq_true (by kernel_rfl)) (by unfold Func.isWrapper; first | (rw [if_pos (by decide +kernel)]; kernel_rfl) | (rw [if_neg (by decide +kernel)]; exact ⟨rfl, rfl⟩))
    (fun os started H enc _ => lifted os started H enc)

theorem proved : Rows.DepsOwnSaid := over
end Go.Proofs.Ytaeifhfhahcoiaa.depsOwn
namespace Go.Proofs.Ytaeifhfhahcoiaa
theorem depsOwn_holds : Rows.DepsOwnSaid := depsOwn.proved
#print axioms depsOwn_holds
end Go.Proofs.Ytaeifhfhahcoiaa
