/- The same write again ends nothing more; what a drop has ended no write ends. -/
import Derived.Test.YtaeifhfhahcoiaaPo
set_option linter.unusedVariables false
set_option linter.unusedSimpArgs false
namespace Go.Proofs.Ytaeifhfhahcoiaa.depsTwice
open Go.ChangeShapes Go.WideShapes Go.ChangeAt Go.RowKit

set_option maxRecDepth 100000 in
set_option maxHeartbeats 2000000 in
theorem walk (a1 : Int) (w1 : -9223372036854775808 ≤ a1 ∧ a1 ≤ 9223372036854775807) (a2 : Int) (w2 : 0 ≤ a2 ∧ a2 ≤ 18446744073709551615) (w : World) (v0 : Value) (l0 : List AX) (w0 : Acts w v0 l0) :
    Calls Try.prog 7 #[v0, .int .i64 a1, .int .u64 a2] w fun e w' => e = .returned (.bool true) ∧ Bw w w' := by
  have HA := hid w0
  obtain ⟨av, cv, rfl⟩ := w0.form
  have HMM := hid (much_any w0)
  clear w0
  have hN := fun w => New_yes 4 4 w (by decide) (by decide) (by decide)
  cases hmb : mchB l0
  rotate_left
  · have HB := hid hmb
    clear hmb
    go_enter Try.func7, Try.ntmps7
    go_wp2_with (first
      | (go_at_call 8; refine HMM.out.mono ?_; rintro e w1 ⟨hmc, hw⟩; subst w1; unfold Mch at hmc; rw [HB.out] at hmc; subst hmc)
      | (go_at_call 9; refine (live_any _).mono ?_; rintro e wb ⟨rfl, hbb⟩)
      | fail)
    all_goals go_ret
    all_goals exact ⟨rfl, hbb⟩
  have HB := hid hmb
  have HMU := hid (mchB_few hmb)
  clear hmb
  go_enter Try.func7, Try.ntmps7
  go_wp2_with (first
    | (go_at_call 8; refine HMM.out.mono ?_; rintro e w1 ⟨hmc, hw⟩; subst w1; unfold Mch at hmc; rw [HB.out] at hmc; subst hmc)
    | (go_at_call 10; refine (hN _).mono ?_; rintro e w1 ⟨p, rfl, hp1, hb1, b1⟩; have HM0 := hid (MS.made hp1 hb1 b1); clear hp1 hb1 b1)
    | (go_at_call 12; refine (num_any _ _).mono ?_; rintro e w9 ⟨rfl, hw9⟩; subst w9)
    | fail)
  go_loopw [9] (fun j wr => ∃ (k : Nat) (bs : List Nat) (rv : Value) (L : List (VV × Value)), k ≤ l0.length ∧ j = .int .i64 k ∧ MS w wr p bs 4 4 rv L k) (fun j _ => l0.length - (intOf j).toNat)
  case atStart => exact ⟨0, _, _, _, by omega, rfl, HM0.out⟩
  case round =>
    obtain ⟨k, bs, rv, L, hk, rfl, hm⟩ := hrel
    have HM := hid hm
    by_cases h4 : k < l0.length
    · have h4' : (k : Int) < (l0.length : Int) := by omega
      obtain ⟨b, o, e, hlb, x0, x1, x2, x3, hok⟩ := (HA.out.bw (hm.bw.trans (Bw.drew (Bw.refl wr)))).at h4
      cases e
      have z0 : wr.cell? ⟨b, o + k * 4, none⟩ = some (.int .i64 l0[k].d) := x0
      have z1 : wr.cell? ⟨b, o + k * 4 + 1, none⟩ = some (.int .i64 l0[k].f) := x1
      have HOK := hid (show AOK wr l0[k] from ((HA.out.bw hm.bw).2.1 _ (List.getElem_mem h4)))
      have HL40 := hid (HMU.out.2 _ (List.getElem_mem h4))
      have hkb := HMU.out.1
      obtain ⟨q, hq⟩ : ∃ q, l0[k] = q := ⟨_, rfl⟩
      rw [hq] at x0 x1 x2 x3 z0 z1 HOK HL40
      obtain ⟨y1, y2, y3, y4, y5⟩ := q
      simp only at x0 x1 x2 x3 z0 z1
      clear hq hm hok
      by_cases c0 : y1 = 0
      · have d0 : (y1 == 0) = true := by simp [c0]
        clear c0
        go_wp2
        go_region_with (go_at_call 16; refine (AddM (HM.out.on (Bw.drew (Bw.refl _))) (by omega) (by decide) y2 (HOK.out.l.bw (Bw.drew (Bw.refl _))) (by have := HL40.out; simp only at this ⊢; omega)).mono ?_; rintro e w1 ⟨bs1, rv1, L1, he, hm1, _, _⟩; obtain ⟨n1, n2, rfl⟩ : ∃ n1 n2, e = .returned (.tuple #[.int .i64 n1, .int .i64 n2]) := ⟨_, _, he⟩; clear he; have HM1 := hid hm1; clear hm1)
        all_goals go_wp2
        all_goals go_roundw
        all_goals first
          | exact ⟨k + 1, _, _, _, by omega, by go_num, HM1.out⟩
          | (simp [intOf]; omega)
      · have d0 : (y1 == 0) = false := by simp [c0]
        by_cases c1 : y1 = 1
        · have d1 : (y1 == 1) = true := by simp [c1]
          clear c0 c1
          go_wp2
          go_region_with (go_at_call 17; refine (WroteM (HM.out.on (Bw.drew (Bw.refl _))) y2 y5).mono ?_; rintro e w1 ⟨r1, L1, he, _, hm1, _, _⟩; obtain ⟨n2, rfl⟩ : ∃ n2, e = .returned (.tuple #[r1, .int .i64 n2]) := ⟨_, he⟩; clear he; have HM1 := hid hm1; clear hm1)
          all_goals go_wp2
          all_goals go_roundw
          all_goals first
            | exact ⟨k + 1, _, _, _, by omega, by go_num, HM1.out.more (by omega)⟩
            | (simp [intOf]; omega)
        · have d1 : (y1 == 1) = false := by simp [c1]
          by_cases c2 : y1 = 2
          · have d2 : (y1 == 2) = true := by simp [c2]
            clear c0 c1 c2
            go_wp2_with (first
              | (go_at_call 21; refine (DropM HM.out y2).mono ?_; rintro e w1 ⟨L1, he, hm1, _, _⟩; obtain ⟨n2, rfl⟩ : ∃ n2, e = .returned (.int .i64 n2) := ⟨_, he⟩; clear he; have HM1 := hid hm1; clear hm1)
              | fail)
            all_goals go_roundw
            all_goals first
              | exact ⟨k + 1, _, _, _, by omega, by go_num, HM1.out.more (by omega)⟩
              | (simp [intOf]; omega)
          · have d2 : (y1 == 2) = false := by simp [c2]
            clear c0 c1 c2
            go_wp2
            all_goals go_roundw
            all_goals first
              | exact ⟨k + 1, _, _, _, by omega, by go_num, HM.out.more (by omega)⟩
              | (simp [intOf]; omega)
    · have h4' : ¬ (k : Int) < (l0.length : Int) := by omega
      clear hm
      have hkb := HMU.out.1
      have HW := hid (WroteM HM.out a1 a2)
      cases hg : oneOf a1 4
      · have e1 : wrE 4 a1 = 1 := by unfold wrE; simp [hg]
        have e2 : wrI 4 a1 a2 (L.map Prod.fst) = [] := by unfold wrI; simp [hg]
        have HE := hid (And.intro e1 e2)
        clear e1 e2
        go_wp2_with (first
          | (go_at_call 17; refine HW.out.mono ?_; rintro e w1 ⟨r1, L1, he, ho, hm1, _, _⟩; rw [HE.out.1] at he; subst he; rw [HE.out.2] at ho; obtain ⟨ar, cr, er⟩ := own_form ho; simp only [List.length_nil] at er; subst er; have HM1 := hid hm1; clear hm1 ho)
          | (go_at_call 12; refine (num_any _ _).mono ?_; rintro e wa ⟨rfl, hwa⟩; subst wa)
          | (go_at_call 9; refine (live_any _).mono ?_; rintro e wb ⟨rfl, hbb⟩)
          | fail)
        all_goals go_ret
        all_goals exact ⟨rfl, HM1.out.bw.trans hbb⟩
      · have e1 : wrE 4 a1 = 0 := by unfold wrE; simp [hg]
        have e2 : wrI 4 a1 a2 (L.map Prod.fst) = all (hit a1 a2) (L.map Prod.fst) := by unfold wrI; simp [hg]
        have e3 : wrL 4 a1 a2 (L.map Prod.fst) = wroteL a1 a2 (L.map Prod.fst) := by unfold wrL; simp [hg]
        have HE := hid (And.intro e1 (And.intro e2 e3))
        have HJV := hid (fun (i : Nat) (hi : i ∈ all (hit a1 a2) (L.map Prod.fst)) => validL_wrote hi)
        have HJU := hid (idx_up (P := hit a1 a2) (K := L.map Prod.fst) (L.map Prod.fst).length)
        have HJL := hid (fun (i : Nat) (hi : i ∈ all (hit a1 a2) (L.map Prod.fst)) => show i < (L.map Prod.fst).length by
          obtain ⟨x, hx, _⟩ := mem_all.1 hi
          exact (List.getElem?_eq_some_iff.1 hx).1)
        have hjl : (all (hit a1 a2) (L.map Prod.fst)).length ≤ 1000 := Nat.le_trans (idx_len _ _ _) (by have := HM.out.len; simp; omega)
        have HJU2 := hid (show (all (hit a1 a2) (L.map Prod.fst)).Pairwise (· < ·) from HJU.out)
        clear e1 e2 e3 HJU
        go_wp2_with (first
          | (go_at_call 17; refine HW.out.mono ?_; rintro e w1 ⟨r1, L1, he, ho, hm1, _, hl1⟩; rw [HE.out.1] at he; subst he; rw [HE.out.2.1] at ho; rw [HE.out.2.2] at hl1; obtain ⟨ar, cr, er⟩ := own_form ho; subst er; have HM1 := hid hm1; have HO1 := hid ho; have HL1 := hid hl1; clear hm1 ho hl1)
          | (go_at_call 12; refine (num_any _ _).mono ?_; rintro e wa ⟨rfl, hwa⟩; subst wa)
          | fail)
        generalize all (hit a1 a2) (L.map Prod.fst) = J at HJV HJU2 HJL hjl HO1
        have HT1 := hid (show DT w w1 p bs 4 4 rv L1 k a1 a2 J (.slice ar J.length cr) from DT.made HM.out HM1.out HO1.out HL1.out HJV.out HJL.out)
        clear HO1 HL1 HM1 HJV HJL
        go_loopw [12] (fun j ws => ∃ (i : Nat) (L2 : List (VV × Value)), i ≤ J.length ∧ j = .int .i64 i ∧ DT w ws p bs 4 4 rv L2 k a1 a2 J (.slice ar J.length cr)) (fun j _ => J.length - (intOf j).toNat)
        case atStart => exact ⟨0, L1, by omega, rfl, HT1.out⟩
        case round =>
          obtain ⟨i, L2, hi, rfl, ht⟩ := hrel
          have HT := hid ht
          by_cases h5 : i < J.length
          · have h5' : (i : Int) < (J.length : Int) := by omega
            obtain ⟨b7, e7, hlb7, hc7⟩ := ht.cell (by omega)
            subst e7
            obtain ⟨n7, hn7⟩ : ∃ n7, J[i] = n7 := ⟨_, rfl⟩
            have hm7 : n7 ∈ J := by rw [← hn7]; exact List.getElem_mem h5
            have HDD := hid (ht.dead n7 hm7)
            have HLL := hid (show (if oneOf (n7 : Int) L2.length then (0 : Int) else 1) = 0 by rw [oneOf_yes (by omega) (by have := ht.have_ n7 hm7; omega)]; rfl)
            clear ht hc7 hm7
            by_cases hi0 : 0 < i
            · have hi0' : (0 : Int) < (i : Int) := by omega
              obtain ⟨n6, hn6⟩ : ∃ n6, J[i - 1]'(by omega) = n6 := ⟨_, rfl⟩
              have h67 : n6 < n7 := by
                have := List.pairwise_iff_getElem.1 HJU2.out (i - 1) i (by omega) h5 (by omega)
                rwa [hn6, hn7] at this
              have h67' : decide ((n7 : Int) ≤ (n6 : Int)) = false := decide_eq_false (by omega)
              have h67n : ¬ n7 ≤ n6 := by omega
              have HC7 := hid (show ∀ L3 W', DT w W' p bs 4 4 rv L3 k a1 a2 J (.slice (some ⟨b7, 0, none⟩) J.length cr) → (W'.cell? ⟨b7, i, none⟩ = some (.int .i64 (n7 : Nat)) ∧ W'.cell? ⟨b7, i - 1, none⟩ = some (.int .i64 (n6 : Nat))) from fun L3 W' h => by
                obtain ⟨b8, e8, _, hc8⟩ := h.cell (by omega)
                cases e8
                exact ⟨by rw [hc8 i h5, hn7], by rw [hc8 (i - 1) (by omega), hn6]⟩)
              have hi1 : (((i : Int) - 1).toNat) = i - 1 := by omega
              have hi2 : (0 : Int) ≤ (i : Int) - 1 := by omega
              have hi3 : (i : Int) - 1 < (J.length : Int) := by omega
              have hi5 : (1 : Int) ≤ (i : Int) := by omega
              have hi4 : IntKind.i64.wrap ((i : Int) - 1) = (i : Int) - 1 := by rw [IntKind.wrap_i64]; go_num
              clear hn6 hn7 h67
              go_wp2
              refine wp_region_W (fun w' => w'.cell? ⟨b7, i, none⟩ = some (.int .i64 (n7 : Nat)) ∧ w'.cell? ⟨b7, i - 1, none⟩ = some (.int .i64 (n6 : Nat))) (fun j => if j == 5 || j == 28 || j == 29 then 0 else 1) (by kernel_rfl) ?_
              have hS := hid (show ∀ W', DT w W' p bs 4 4 rv L2 k a1 a2 J (.slice (some ⟨b7, 0, none⟩) J.length cr) → (W'.cell? ⟨b7, i, none⟩ = some (.int .i64 (n7 : Nat)) ∧ W'.cell? ⟨b7, i - 1, none⟩ = some (.int .i64 (n6 : Nat))) from fun W' h => HC7.out L2 W' h)
              have HT7 := hid (HT.out.on (Bw.drew (Bw.refl _)))
              generalize hW0 : wr.drew = W0 at HT7
              refine wpAnyW_take (i := 0) (oi := { dst := some 99, op := Op.move (Operand.tmp 7), type := 25, pos := "law.go:240", after := #[], guard := none }) (v := ?_) rfl (by kernel_rfl) (by kernel_rfl) (by kernel_rfl) (by kernel_rfl) (fun _ _ _ h => h) (Or.inl ⟨by rfl, fun w _ => ?_⟩) ?_
              rotate_left
              · (go_simp; first | done | with_reducible rfl)
              try simp only [Act.put, List.setIfInBounds_toArray, List.set_cons_zero, List.set_cons_succ]
              refine wpAnyW_take (i := 1) (oi := { dst := some 100, op := Op.move (Operand.tmp 10), type := 49, pos := "law.go:240", after := #[], guard := none }) (v := ?_) rfl (by kernel_rfl) (by kernel_rfl) (by kernel_rfl) (by kernel_rfl) (fun _ _ _ h => h) (Or.inl ⟨by rfl, fun w _ => ?_⟩) ?_
              rotate_left
              · (go_simp; first | done | with_reducible rfl)
              try simp only [Act.put, List.setIfInBounds_toArray, List.set_cons_zero, List.set_cons_succ]
              refine wpAnyW_take (i := 2) (oi := { dst := some 101, op := Op.move (Operand.tmp 12), type := 3, pos := "law.go:240", after := #[], guard := none }) (v := ?_) rfl (by kernel_rfl) (by kernel_rfl) (by kernel_rfl) (by kernel_rfl) (fun _ _ _ h => h) (Or.inl ⟨by rfl, fun w _ => ?_⟩) ?_
              rotate_left
              · (go_simp; first | done | with_reducible rfl)
              try simp only [Act.put, List.setIfInBounds_toArray, List.set_cons_zero, List.set_cons_succ]
              refine wpAnyW_take (i := 3) (oi := { dst := some 102, op := Op.indexAddr 49 (Operand.tmp 100) (Operand.tmp 101), type := 0, pos := "law.go:240", after := #[{ on := 1, ground := Ground.data }, { on := 2, ground := Ground.data }], guard := none }) (v := ?_) rfl (by kernel_rfl) (by kernel_rfl) (by kernel_rfl) (by kernel_rfl) (fun _ _ _ h => h) (Or.inl ⟨by rfl, fun w _ => ?_⟩) ?_
              rotate_left
              · (go_simp; first | done | with_reducible rfl)
              try simp only [Act.put, List.setIfInBounds_toArray, List.set_cons_zero, List.set_cons_succ]
              refine wpAnyW_load (i := 4) (oi := { dst := some 103, op := Op.load 3 (Operand.tmp 102), type := 3, pos := "law.go:240", after := #[{ on := 3, ground := Ground.data }], guard := none }) (v := ?_) rfl (by kernel_rfl) (by kernel_rfl) (by kernel_rfl) (by kernel_rfl) (by kernel_rfl) (fun _ _ _ h => h) (Or.inl ⟨by rfl, fun w hS => ?_⟩) (hS.out _ HT7.out) ?_
              rotate_left
              · (obtain ⟨s1, s2⟩ := hS; go_simp; first | done | with_reducible rfl)
              try simp only [Act.put, List.setIfInBounds_toArray, List.set_cons_zero, List.set_cons_succ]
              refine wpAnyW_ready (rs := [5]) (by kernel_rfl) (by simp) ?_
              refine (AllReadyW.cons (o := { dst := some 104, op := Op.call { callee := Callee.value (Operand.func 15), args := #[Operand.tmp 99, Operand.tmp 103], argTypes := #[25, 3] }, type := 4, pos := "law.go:240", after := #[{ on := 0, ground := Ground.data }, { on := 4, ground := Ground.data }], guard := none }) rfl (fun K hK => ?_) AllReadyW.nil)
              go_simp
              refine (Valid_any HT7.out.ms.ds _).mono ?_
              rw [HDD.out]
              rintro e w5 ⟨rfl, hw5⟩
              subst w5
              refine hK.out _ _ (hS.out _ HT7.out) ?_
              clear hK K
              try simp only [Act.put, List.setIfInBounds_toArray, List.set_cons_zero, List.set_cons_succ]
              refine wpAnyW_take (i := 6) (oi := { dst := some 105, op := Op.move (Operand.tmp 104), type := 4, pos := "law.go:240", after := #[{ on := 5, ground := Ground.data }, { on := 5, ground := Ground.chain }], guard := none }) (v := ?_) rfl (by kernel_rfl) (by kernel_rfl) (by kernel_rfl) (by kernel_rfl) (fun _ _ _ h => h) (Or.inl ⟨by rfl, fun w _ => ?_⟩) ?_
              rotate_left
              · (go_simp; first | done | with_reducible rfl)
              try simp only [Act.put, List.setIfInBounds_toArray, List.set_cons_zero, List.set_cons_succ]
              refine wpAnyW_take (i := 7) (oi := { dst := some 106, op := Op.move (Operand.tmp 12), type := 3, pos := "law.go:240", after := #[{ on := 6, ground := Ground.guard }], guard := some (6, false) }) (v := ?_) rfl (by kernel_rfl) (by kernel_rfl) (by kernel_rfl) (by kernel_rfl) (fun _ _ _ h => h) (Or.inl ⟨by rfl, fun w _ => ?_⟩) ?_
              rotate_left
              · (go_simp; first | done | with_reducible rfl)
              try simp only [Act.put, List.setIfInBounds_toArray, List.set_cons_zero, List.set_cons_succ]
              refine wpAnyW_take (i := 8) (oi := { dst := some 107, op := Op.binOp BinOp.gtr 3 (Operand.tmp 106) (Operand.const (Value.int IntKind.i64 0)) 3, type := 4, pos := "law.go:240", after := #[{ on := 7, ground := Ground.data }, { on := 6, ground := Ground.guard }], guard := some (6, false) }) (v := ?_) rfl (by kernel_rfl) (by kernel_rfl) (by kernel_rfl) (by kernel_rfl) (fun _ _ _ h => h) (Or.inl ⟨by rfl, fun w _ => ?_⟩) ?_
              rotate_left
              · (go_simp; first | done | with_reducible rfl)
              try simp only [Act.put, List.setIfInBounds_toArray, List.set_cons_zero, List.set_cons_succ]
              refine wpAnyW_take (i := 9) (oi := { dst := some 108, op := Op.move (Operand.tmp 107), type := 4, pos := "law.go:240", after := #[{ on := 8, ground := Ground.data }, { on := 6, ground := Ground.chain }, { on := 6, ground := Ground.guard }], guard := some (6, false) }) (v := ?_) rfl (by kernel_rfl) (by kernel_rfl) (by kernel_rfl) (by kernel_rfl) (fun _ _ _ h => h) (Or.inl ⟨by rfl, fun w _ => ?_⟩) ?_
              rotate_left
              · (go_simp; first | done | with_reducible rfl)
              try simp only [Act.put, List.setIfInBounds_toArray, List.set_cons_zero, List.set_cons_succ]
              refine wpAnyW_take (i := 10) (oi := { dst := some 109, op := Op.move (Operand.tmp 10), type := 49, pos := "law.go:240", after := #[{ on := 9, ground := Ground.guard }], guard := some (9, true) }) (v := ?_) rfl (by kernel_rfl) (by kernel_rfl) (by kernel_rfl) (by kernel_rfl) (fun _ _ _ h => h) (Or.inl ⟨by rfl, fun w _ => ?_⟩) ?_
              rotate_left
              · (go_simp; first | done | with_reducible rfl)
              try simp only [Act.put, List.setIfInBounds_toArray, List.set_cons_zero, List.set_cons_succ]
              refine wpAnyW_take (i := 11) (oi := { dst := some 110, op := Op.move (Operand.tmp 12), type := 3, pos := "law.go:240", after := #[{ on := 9, ground := Ground.guard }], guard := some (9, true) }) (v := ?_) rfl (by kernel_rfl) (by kernel_rfl) (by kernel_rfl) (by kernel_rfl) (fun _ _ _ h => h) (Or.inl ⟨by rfl, fun w _ => ?_⟩) ?_
              rotate_left
              · (go_simp; first | done | with_reducible rfl)
              try simp only [Act.put, List.setIfInBounds_toArray, List.set_cons_zero, List.set_cons_succ]
              refine wpAnyW_take (i := 12) (oi := { dst := some 111, op := Op.indexAddr 49 (Operand.tmp 109) (Operand.tmp 110), type := 0, pos := "law.go:240", after := #[{ on := 10, ground := Ground.data }, { on := 11, ground := Ground.data }, { on := 9, ground := Ground.guard }], guard := some (9, true) }) (v := ?_) rfl (by kernel_rfl) (by kernel_rfl) (by kernel_rfl) (by kernel_rfl) (fun _ _ _ h => h) (Or.inl ⟨by rfl, fun w _ => ?_⟩) ?_
              rotate_left
              · (go_simp; first | done | with_reducible rfl)
              try simp only [Act.put, List.setIfInBounds_toArray, List.set_cons_zero, List.set_cons_succ]
              refine wpAnyW_load (i := 13) (oi := { dst := some 112, op := Op.load 3 (Operand.tmp 111), type := 3, pos := "law.go:240", after := #[{ on := 12, ground := Ground.data }, { on := 9, ground := Ground.guard }], guard := some (9, true) }) (v := ?_) rfl (by kernel_rfl) (by kernel_rfl) (by kernel_rfl) (by kernel_rfl) (by kernel_rfl) (fun _ _ _ h => h) (Or.inl ⟨by rfl, fun w hS => ?_⟩) (hS.out _ HT7.out) ?_
              rotate_left
              · (obtain ⟨s1, s2⟩ := hS; go_simp; first | done | with_reducible rfl)
              try simp only [Act.put, List.setIfInBounds_toArray, List.set_cons_zero, List.set_cons_succ]
              refine wpAnyW_take (i := 14) (oi := { dst := some 113, op := Op.move (Operand.tmp 10), type := 49, pos := "law.go:240", after := #[{ on := 9, ground := Ground.guard }], guard := some (9, true) }) (v := ?_) rfl (by kernel_rfl) (by kernel_rfl) (by kernel_rfl) (by kernel_rfl) (fun _ _ _ h => h) (Or.inl ⟨by rfl, fun w _ => ?_⟩) ?_
              rotate_left
              · (go_simp; first | done | with_reducible rfl)
              try simp only [Act.put, List.setIfInBounds_toArray, List.set_cons_zero, List.set_cons_succ]
              refine wpAnyW_take (i := 15) (oi := { dst := some 114, op := Op.move (Operand.tmp 12), type := 3, pos := "law.go:240", after := #[{ on := 9, ground := Ground.guard }], guard := some (9, true) }) (v := ?_) rfl (by kernel_rfl) (by kernel_rfl) (by kernel_rfl) (by kernel_rfl) (fun _ _ _ h => h) (Or.inl ⟨by rfl, fun w _ => ?_⟩) ?_
              rotate_left
              · (go_simp; first | done | with_reducible rfl)
              try simp only [Act.put, List.setIfInBounds_toArray, List.set_cons_zero, List.set_cons_succ]
              refine wpAnyW_take (i := 16) (oi := { dst := some 115, op := Op.binOp BinOp.sub 3 (Operand.tmp 114) (Operand.const (Value.int IntKind.i64 1)) 3, type := 3, pos := "law.go:240", after := #[{ on := 15, ground := Ground.data }, { on := 9, ground := Ground.guard }], guard := some (9, true) }) (v := ?_) rfl (by kernel_rfl) (by kernel_rfl) (by kernel_rfl) (by kernel_rfl) (fun _ _ _ h => h) (Or.inl ⟨by rfl, fun w _ => ?_⟩) ?_
              rotate_left
              · (go_simp; first | done | with_reducible rfl)
              try simp only [Act.put, List.setIfInBounds_toArray, List.set_cons_zero, List.set_cons_succ]
              refine wpAnyW_take (i := 17) (oi := { dst := some 116, op := Op.indexAddr 49 (Operand.tmp 113) (Operand.tmp 115), type := 0, pos := "law.go:240", after := #[{ on := 14, ground := Ground.data }, { on := 16, ground := Ground.data }, { on := 9, ground := Ground.guard }], guard := some (9, true) }) (v := ?_) rfl (by kernel_rfl) (by kernel_rfl) (by kernel_rfl) (by kernel_rfl) (fun _ _ _ h => h) (Or.inl ⟨by rfl, fun w _ => ?_⟩) ?_
              rotate_left
              · (go_simp; first | done | with_reducible rfl)
              try simp only [Act.put, List.setIfInBounds_toArray, List.set_cons_zero, List.set_cons_succ]
              refine wpAnyW_load (i := 18) (oi := { dst := some 117, op := Op.load 3 (Operand.tmp 116), type := 3, pos := "law.go:240", after := #[{ on := 17, ground := Ground.data }, { on := 9, ground := Ground.guard }], guard := some (9, true) }) (v := ?_) rfl (by kernel_rfl) (by kernel_rfl) (by kernel_rfl) (by kernel_rfl) (by kernel_rfl) (fun _ _ _ h => h) (Or.inl ⟨by rfl, fun w hS => ?_⟩) (hS.out _ HT7.out) ?_
              rotate_left
              · (obtain ⟨s1, s2⟩ := hS; go_simp; first | done | with_reducible rfl)
              try simp only [Act.put, List.setIfInBounds_toArray, List.set_cons_zero, List.set_cons_succ]
              refine wpAnyW_take (i := 19) (oi := { dst := some 118, op := Op.binOp BinOp.leq 3 (Operand.tmp 112) (Operand.tmp 117) 3, type := 4, pos := "law.go:240", after := #[{ on := 13, ground := Ground.data }, { on := 18, ground := Ground.data }, { on := 9, ground := Ground.guard }], guard := some (9, true) }) (v := ?_) rfl (by kernel_rfl) (by kernel_rfl) (by kernel_rfl) (by kernel_rfl) (fun _ _ _ h => h) (Or.inl ⟨by rfl, fun w _ => ?_⟩) ?_
              rotate_left
              · (go_simp; first | done | with_reducible rfl)
              try simp only [Act.put, List.setIfInBounds_toArray, List.set_cons_zero, List.set_cons_succ]
              refine wpAnyW_take (i := 20) (oi := { dst := some 119, op := Op.pick (Operand.tmp 108) (Operand.tmp 118) (Operand.const (Value.bool false)), type := 4, pos := "law.go:240", after := #[{ on := 9, ground := Ground.data }, { on := 19, ground := Ground.data }, { on := 6, ground := Ground.guard }], guard := some (6, false) }) (v := ?_) rfl (by kernel_rfl) (by kernel_rfl) (by kernel_rfl) (by kernel_rfl) (fun _ _ _ h => h) (Or.inl ⟨by rfl, fun w _ => ?_⟩) ?_
              rotate_left
              · (go_simp; first | done | with_reducible rfl)
              try simp only [Act.put, List.setIfInBounds_toArray, List.set_cons_zero, List.set_cons_succ]
              refine wpAnyW_take (i := 21) (oi := { dst := some 120, op := Op.pick (Operand.tmp 105) (Operand.const (Value.bool true)) (Operand.tmp 119), type := 4, pos := "law.go:240", after := #[{ on := 6, ground := Ground.data }, { on := 20, ground := Ground.data }], guard := none }) (v := ?_) rfl (by kernel_rfl) (by kernel_rfl) (by kernel_rfl) (by kernel_rfl) (fun _ _ _ h => h) (Or.inl ⟨by rfl, fun w _ => ?_⟩) ?_
              rotate_left
              · (go_simp; first | done | with_reducible rfl)
              try simp only [Act.put, List.setIfInBounds_toArray, List.set_cons_zero, List.set_cons_succ]
              refine wpAnyW_take (i := 22) (oi := { dst := some 121, op := Op.move (Operand.tmp 120), type := 4, pos := "law.go:240", after := #[{ on := 21, ground := Ground.data }, { on := 9, ground := Ground.chain }], guard := none }) (v := ?_) rfl (by kernel_rfl) (by kernel_rfl) (by kernel_rfl) (by kernel_rfl) (fun _ _ _ h => h) (Or.inl ⟨by rfl, fun w _ => ?_⟩) ?_
              rotate_left
              · (go_simp; first | done | with_reducible rfl)
              try simp only [Act.put, List.setIfInBounds_toArray, List.set_cons_zero, List.set_cons_succ]
              refine wpAnyW_take (i := 23) (oi := { dst := some 122, op := Op.move (Operand.tmp 7), type := 25, pos := "law.go:240", after := #[{ on := 22, ground := Ground.guard }], guard := some (22, false) }) (v := ?_) rfl (by kernel_rfl) (by kernel_rfl) (by kernel_rfl) (by kernel_rfl) (fun _ _ _ h => h) (Or.inl ⟨by rfl, fun w _ => ?_⟩) ?_
              rotate_left
              · (go_simp; first | done | with_reducible rfl)
              try simp only [Act.put, List.setIfInBounds_toArray, List.set_cons_zero, List.set_cons_succ]
              refine wpAnyW_take (i := 24) (oi := { dst := some 123, op := Op.move (Operand.tmp 10), type := 49, pos := "law.go:240", after := #[{ on := 22, ground := Ground.guard }], guard := some (22, false) }) (v := ?_) rfl (by kernel_rfl) (by kernel_rfl) (by kernel_rfl) (by kernel_rfl) (fun _ _ _ h => h) (Or.inl ⟨by rfl, fun w _ => ?_⟩) ?_
              rotate_left
              · (go_simp; first | done | with_reducible rfl)
              try simp only [Act.put, List.setIfInBounds_toArray, List.set_cons_zero, List.set_cons_succ]
              refine wpAnyW_take (i := 25) (oi := { dst := some 124, op := Op.move (Operand.tmp 12), type := 3, pos := "law.go:240", after := #[{ on := 22, ground := Ground.guard }], guard := some (22, false) }) (v := ?_) rfl (by kernel_rfl) (by kernel_rfl) (by kernel_rfl) (by kernel_rfl) (fun _ _ _ h => h) (Or.inl ⟨by rfl, fun w _ => ?_⟩) ?_
              rotate_left
              · (go_simp; first | done | with_reducible rfl)
              try simp only [Act.put, List.setIfInBounds_toArray, List.set_cons_zero, List.set_cons_succ]
              refine wpAnyW_take (i := 26) (oi := { dst := some 125, op := Op.indexAddr 49 (Operand.tmp 123) (Operand.tmp 124), type := 0, pos := "law.go:240", after := #[{ on := 24, ground := Ground.data }, { on := 25, ground := Ground.data }, { on := 22, ground := Ground.guard }], guard := some (22, false) }) (v := ?_) rfl (by kernel_rfl) (by kernel_rfl) (by kernel_rfl) (by kernel_rfl) (fun _ _ _ h => h) (Or.inl ⟨by rfl, fun w _ => ?_⟩) ?_
              rotate_left
              · (go_simp; first | done | with_reducible rfl)
              try simp only [Act.put, List.setIfInBounds_toArray, List.set_cons_zero, List.set_cons_succ]
              refine wpAnyW_load (i := 27) (oi := { dst := some 126, op := Op.load 3 (Operand.tmp 125), type := 3, pos := "law.go:240", after := #[{ on := 26, ground := Ground.data }, { on := 22, ground := Ground.guard }], guard := some (22, false) }) (v := ?_) rfl (by kernel_rfl) (by kernel_rfl) (by kernel_rfl) (by kernel_rfl) (by kernel_rfl) (fun _ _ _ h => h) (Or.inl ⟨by rfl, fun w hS => ?_⟩) (hS.out _ HT7.out) ?_
              rotate_left
              · (obtain ⟨s1, s2⟩ := hS; go_simp; first | done | with_reducible rfl)
              try simp only [Act.put, List.setIfInBounds_toArray, List.set_cons_zero, List.set_cons_succ]
              refine wpAnyW_ready (rs := [28]) (by kernel_rfl) (by simp) ?_
              refine (AllReadyW.cons (o := { dst := some 127, op := Op.call { callee := Callee.value (Operand.func 21), args := #[Operand.tmp 122, Operand.tmp 126], argTypes := #[25, 3] }, type := 26, pos := "law.go:240", after := #[{ on := 23, ground := Ground.data }, { on := 27, ground := Ground.data }, { on := 22, ground := Ground.chain }, { on := 22, ground := Ground.guard }], guard := some (22, false) }) rfl (fun K hK => ?_) AllReadyW.nil)
              go_simp
              refine (DropM HT7.out.ms _).mono ?_
              rintro e w8 ⟨L8, he, hm8, hn8, hl8⟩
              rw [HLL.out] at he
              obtain rfl : e = .returned (.int .i64 0) := he
              have HT8 := hid (HT7.out.drop hm8 hn8 _ hl8)
              have hS8 := HC7.out L8 w8 HT8.out
              clear hm8 hn8 hl8
              refine hK.out _ _ hS8 ?_
              clear hK K
              try simp only [Act.put, List.setIfInBounds_toArray, List.set_cons_zero, List.set_cons_succ]
              refine wpAnyW_ready (rs := [29]) (by kernel_rfl) (by simp) ?_
              refine (AllReadyW.cons (o := { dst := some 128, op := Op.call { callee := Callee.value (Operand.func 12), args := #[Operand.tmp 127], argTypes := #[26] }, type := 3, pos := "law.go:240", after := #[{ on := 28, ground := Ground.data }, { on := 28, ground := Ground.chain }, { on := 22, ground := Ground.guard }], guard := some (22, false) }) rfl (fun K hK => ?_) AllReadyW.nil)
              go_simp
              refine (num_any _ _).mono ?_
              rintro e wa ⟨rfl, hwa⟩
              subst wa
              refine hK.out _ _ (HC7.out L8 w8 HT8.out) ?_
              clear hK K
              try simp only [Act.put, List.setIfInBounds_toArray, List.set_cons_zero, List.set_cons_succ]
              refine wpAnyW_take (i := 30) (oi := { dst := some 129, op := Op.binOp BinOp.neq 3 (Operand.tmp 128) (Operand.const (Value.int IntKind.i64 0)) 3, type := 4, pos := "law.go:240", after := #[{ on := 29, ground := Ground.data }, { on := 22, ground := Ground.guard }], guard := some (22, false) }) (v := ?_) rfl (by kernel_rfl) (by kernel_rfl) (by kernel_rfl) (by kernel_rfl) (fun _ _ _ h => h) (Or.inl ⟨by rfl, fun w _ => ?_⟩) ?_
              rotate_left
              · (go_simp; first | done | with_reducible rfl)
              try simp only [Act.put, List.setIfInBounds_toArray, List.set_cons_zero, List.set_cons_succ]
              refine wpAnyW_take (i := 31) (oi := { dst := some 130, op := Op.pick (Operand.tmp 121) (Operand.const (Value.bool true)) (Operand.tmp 129), type := 4, pos := "law.go:240", after := #[{ on := 22, ground := Ground.data }, { on := 30, ground := Ground.data }], guard := none }) (v := ?_) rfl (by kernel_rfl) (by kernel_rfl) (by kernel_rfl) (by kernel_rfl) (fun _ _ _ h => h) (Or.inl ⟨by rfl, fun w _ => ?_⟩) ?_
              rotate_left
              · (go_simp; first | done | with_reducible rfl)
              try simp only [Act.put, List.setIfInBounds_toArray, List.set_cons_zero, List.set_cons_succ]
              refine wpAnyW_done (by kernel_rfl) ?_ _
              all_goals go_wp2
              all_goals go_roundw
              all_goals first
                | exact ⟨i + 1, L8, by omega, by go_num, HT8.out⟩
                | (simp [intOf]; omega)
            · have hi0' : ¬ (0 : Int) < (i : Int) := by omega
              have HC7 := hid (show ∀ L3 W', DT w W' p bs 4 4 rv L3 k a1 a2 J (.slice (some ⟨b7, 0, none⟩) J.length cr) → (W'.cell? ⟨b7, i, none⟩ = some (.int .i64 (n7 : Nat)) ∧ True) from fun L3 W' h => by
                obtain ⟨b8, e8, _, hc8⟩ := h.cell (by omega)
                cases e8
                exact ⟨by rw [hc8 i h5, hn7], trivial⟩)
              clear hn7
              go_wp2
              refine wp_region_W (fun w' => w'.cell? ⟨b7, i, none⟩ = some (.int .i64 (n7 : Nat)) ∧ True) (fun j => if j == 5 || j == 28 || j == 29 then 0 else 1) (by kernel_rfl) ?_
              have hS := hid (show ∀ W', DT w W' p bs 4 4 rv L2 k a1 a2 J (.slice (some ⟨b7, 0, none⟩) J.length cr) → (W'.cell? ⟨b7, i, none⟩ = some (.int .i64 (n7 : Nat)) ∧ True) from fun W' h => HC7.out L2 W' h)
              have HT7 := hid (HT.out.on (Bw.drew (Bw.refl _)))
              generalize hW0 : wr.drew = W0 at HT7
              refine wpAnyW_take (i := 0) (oi := { dst := some 99, op := Op.move (Operand.tmp 7), type := 25, pos := "law.go:240", after := #[], guard := none }) (v := ?_) rfl (by kernel_rfl) (by kernel_rfl) (by kernel_rfl) (by kernel_rfl) (fun _ _ _ h => h) (Or.inl ⟨by rfl, fun w _ => ?_⟩) ?_
              rotate_left
              · (go_simp; first | done | with_reducible rfl)
              try simp only [Act.put, List.setIfInBounds_toArray, List.set_cons_zero, List.set_cons_succ]
              refine wpAnyW_take (i := 1) (oi := { dst := some 100, op := Op.move (Operand.tmp 10), type := 49, pos := "law.go:240", after := #[], guard := none }) (v := ?_) rfl (by kernel_rfl) (by kernel_rfl) (by kernel_rfl) (by kernel_rfl) (fun _ _ _ h => h) (Or.inl ⟨by rfl, fun w _ => ?_⟩) ?_
              rotate_left
              · (go_simp; first | done | with_reducible rfl)
              try simp only [Act.put, List.setIfInBounds_toArray, List.set_cons_zero, List.set_cons_succ]
              refine wpAnyW_take (i := 2) (oi := { dst := some 101, op := Op.move (Operand.tmp 12), type := 3, pos := "law.go:240", after := #[], guard := none }) (v := ?_) rfl (by kernel_rfl) (by kernel_rfl) (by kernel_rfl) (by kernel_rfl) (fun _ _ _ h => h) (Or.inl ⟨by rfl, fun w _ => ?_⟩) ?_
              rotate_left
              · (go_simp; first | done | with_reducible rfl)
              try simp only [Act.put, List.setIfInBounds_toArray, List.set_cons_zero, List.set_cons_succ]
              refine wpAnyW_take (i := 3) (oi := { dst := some 102, op := Op.indexAddr 49 (Operand.tmp 100) (Operand.tmp 101), type := 0, pos := "law.go:240", after := #[{ on := 1, ground := Ground.data }, { on := 2, ground := Ground.data }], guard := none }) (v := ?_) rfl (by kernel_rfl) (by kernel_rfl) (by kernel_rfl) (by kernel_rfl) (fun _ _ _ h => h) (Or.inl ⟨by rfl, fun w _ => ?_⟩) ?_
              rotate_left
              · (go_simp; first | done | with_reducible rfl)
              try simp only [Act.put, List.setIfInBounds_toArray, List.set_cons_zero, List.set_cons_succ]
              refine wpAnyW_load (i := 4) (oi := { dst := some 103, op := Op.load 3 (Operand.tmp 102), type := 3, pos := "law.go:240", after := #[{ on := 3, ground := Ground.data }], guard := none }) (v := ?_) rfl (by kernel_rfl) (by kernel_rfl) (by kernel_rfl) (by kernel_rfl) (by kernel_rfl) (fun _ _ _ h => h) (Or.inl ⟨by rfl, fun w hS => ?_⟩) (hS.out _ HT7.out) ?_
              rotate_left
              · (obtain ⟨s1, s2⟩ := hS; go_simp; first | done | with_reducible rfl)
              try simp only [Act.put, List.setIfInBounds_toArray, List.set_cons_zero, List.set_cons_succ]
              refine wpAnyW_ready (rs := [5]) (by kernel_rfl) (by simp) ?_
              refine (AllReadyW.cons (o := { dst := some 104, op := Op.call { callee := Callee.value (Operand.func 15), args := #[Operand.tmp 99, Operand.tmp 103], argTypes := #[25, 3] }, type := 4, pos := "law.go:240", after := #[{ on := 0, ground := Ground.data }, { on := 4, ground := Ground.data }], guard := none }) rfl (fun K hK => ?_) AllReadyW.nil)
              go_simp
              refine (Valid_any HT7.out.ms.ds _).mono ?_
              rw [HDD.out]
              rintro e w5 ⟨rfl, hw5⟩
              subst w5
              refine hK.out _ _ (hS.out _ HT7.out) ?_
              clear hK K
              try simp only [Act.put, List.setIfInBounds_toArray, List.set_cons_zero, List.set_cons_succ]
              refine wpAnyW_take (i := 6) (oi := { dst := some 105, op := Op.move (Operand.tmp 104), type := 4, pos := "law.go:240", after := #[{ on := 5, ground := Ground.data }, { on := 5, ground := Ground.chain }], guard := none }) (v := ?_) rfl (by kernel_rfl) (by kernel_rfl) (by kernel_rfl) (by kernel_rfl) (fun _ _ _ h => h) (Or.inl ⟨by rfl, fun w _ => ?_⟩) ?_
              rotate_left
              · (go_simp; first | done | with_reducible rfl)
              try simp only [Act.put, List.setIfInBounds_toArray, List.set_cons_zero, List.set_cons_succ]
              refine wpAnyW_take (i := 7) (oi := { dst := some 106, op := Op.move (Operand.tmp 12), type := 3, pos := "law.go:240", after := #[{ on := 6, ground := Ground.guard }], guard := some (6, false) }) (v := ?_) rfl (by kernel_rfl) (by kernel_rfl) (by kernel_rfl) (by kernel_rfl) (fun _ _ _ h => h) (Or.inl ⟨by rfl, fun w _ => ?_⟩) ?_
              rotate_left
              · (go_simp; first | done | with_reducible rfl)
              try simp only [Act.put, List.setIfInBounds_toArray, List.set_cons_zero, List.set_cons_succ]
              refine wpAnyW_take (i := 8) (oi := { dst := some 107, op := Op.binOp BinOp.gtr 3 (Operand.tmp 106) (Operand.const (Value.int IntKind.i64 0)) 3, type := 4, pos := "law.go:240", after := #[{ on := 7, ground := Ground.data }, { on := 6, ground := Ground.guard }], guard := some (6, false) }) (v := ?_) rfl (by kernel_rfl) (by kernel_rfl) (by kernel_rfl) (by kernel_rfl) (fun _ _ _ h => h) (Or.inl ⟨by rfl, fun w _ => ?_⟩) ?_
              rotate_left
              · (go_simp; first | done | with_reducible rfl)
              try simp only [Act.put, List.setIfInBounds_toArray, List.set_cons_zero, List.set_cons_succ]
              refine wpAnyW_take (i := 9) (oi := { dst := some 108, op := Op.move (Operand.tmp 107), type := 4, pos := "law.go:240", after := #[{ on := 8, ground := Ground.data }, { on := 6, ground := Ground.chain }, { on := 6, ground := Ground.guard }], guard := some (6, false) }) (v := ?_) rfl (by kernel_rfl) (by kernel_rfl) (by kernel_rfl) (by kernel_rfl) (fun _ _ _ h => h) (Or.inl ⟨by rfl, fun w _ => ?_⟩) ?_
              rotate_left
              · (go_simp; first | done | with_reducible rfl)
              try simp only [Act.put, List.setIfInBounds_toArray, List.set_cons_zero, List.set_cons_succ]
              refine wpAnyW_take (i := 10) (oi := { dst := some 109, op := Op.move (Operand.tmp 10), type := 49, pos := "law.go:240", after := #[{ on := 9, ground := Ground.guard }], guard := some (9, true) }) (v := undef) rfl (by kernel_rfl) (by kernel_rfl) (by kernel_rfl) (by kernel_rfl) (fun _ _ _ h => h) (Or.inr ⟨by rfl, rfl⟩) ?_
              try simp only [Act.put, List.setIfInBounds_toArray, List.set_cons_zero, List.set_cons_succ]
              refine wpAnyW_take (i := 11) (oi := { dst := some 110, op := Op.move (Operand.tmp 12), type := 3, pos := "law.go:240", after := #[{ on := 9, ground := Ground.guard }], guard := some (9, true) }) (v := undef) rfl (by kernel_rfl) (by kernel_rfl) (by kernel_rfl) (by kernel_rfl) (fun _ _ _ h => h) (Or.inr ⟨by rfl, rfl⟩) ?_
              try simp only [Act.put, List.setIfInBounds_toArray, List.set_cons_zero, List.set_cons_succ]
              refine wpAnyW_take (i := 12) (oi := { dst := some 111, op := Op.indexAddr 49 (Operand.tmp 109) (Operand.tmp 110), type := 0, pos := "law.go:240", after := #[{ on := 10, ground := Ground.data }, { on := 11, ground := Ground.data }, { on := 9, ground := Ground.guard }], guard := some (9, true) }) (v := undef) rfl (by kernel_rfl) (by kernel_rfl) (by kernel_rfl) (by kernel_rfl) (fun _ _ _ h => h) (Or.inr ⟨by rfl, rfl⟩) ?_
              try simp only [Act.put, List.setIfInBounds_toArray, List.set_cons_zero, List.set_cons_succ]
              refine wpAnyW_take (i := 13) (oi := { dst := some 112, op := Op.load 3 (Operand.tmp 111), type := 3, pos := "law.go:240", after := #[{ on := 12, ground := Ground.data }, { on := 9, ground := Ground.guard }], guard := some (9, true) }) (v := undef) rfl (by kernel_rfl) (by kernel_rfl) (by kernel_rfl) (by kernel_rfl) (fun _ _ _ h => h) (Or.inr ⟨by rfl, rfl⟩) ?_
              try simp only [Act.put, List.setIfInBounds_toArray, List.set_cons_zero, List.set_cons_succ]
              refine wpAnyW_take (i := 14) (oi := { dst := some 113, op := Op.move (Operand.tmp 10), type := 49, pos := "law.go:240", after := #[{ on := 9, ground := Ground.guard }], guard := some (9, true) }) (v := undef) rfl (by kernel_rfl) (by kernel_rfl) (by kernel_rfl) (by kernel_rfl) (fun _ _ _ h => h) (Or.inr ⟨by rfl, rfl⟩) ?_
              try simp only [Act.put, List.setIfInBounds_toArray, List.set_cons_zero, List.set_cons_succ]
              refine wpAnyW_take (i := 15) (oi := { dst := some 114, op := Op.move (Operand.tmp 12), type := 3, pos := "law.go:240", after := #[{ on := 9, ground := Ground.guard }], guard := some (9, true) }) (v := undef) rfl (by kernel_rfl) (by kernel_rfl) (by kernel_rfl) (by kernel_rfl) (fun _ _ _ h => h) (Or.inr ⟨by rfl, rfl⟩) ?_
              try simp only [Act.put, List.setIfInBounds_toArray, List.set_cons_zero, List.set_cons_succ]
              refine wpAnyW_take (i := 16) (oi := { dst := some 115, op := Op.binOp BinOp.sub 3 (Operand.tmp 114) (Operand.const (Value.int IntKind.i64 1)) 3, type := 3, pos := "law.go:240", after := #[{ on := 15, ground := Ground.data }, { on := 9, ground := Ground.guard }], guard := some (9, true) }) (v := undef) rfl (by kernel_rfl) (by kernel_rfl) (by kernel_rfl) (by kernel_rfl) (fun _ _ _ h => h) (Or.inr ⟨by rfl, rfl⟩) ?_
              try simp only [Act.put, List.setIfInBounds_toArray, List.set_cons_zero, List.set_cons_succ]
              refine wpAnyW_take (i := 17) (oi := { dst := some 116, op := Op.indexAddr 49 (Operand.tmp 113) (Operand.tmp 115), type := 0, pos := "law.go:240", after := #[{ on := 14, ground := Ground.data }, { on := 16, ground := Ground.data }, { on := 9, ground := Ground.guard }], guard := some (9, true) }) (v := undef) rfl (by kernel_rfl) (by kernel_rfl) (by kernel_rfl) (by kernel_rfl) (fun _ _ _ h => h) (Or.inr ⟨by rfl, rfl⟩) ?_
              try simp only [Act.put, List.setIfInBounds_toArray, List.set_cons_zero, List.set_cons_succ]
              refine wpAnyW_take (i := 18) (oi := { dst := some 117, op := Op.load 3 (Operand.tmp 116), type := 3, pos := "law.go:240", after := #[{ on := 17, ground := Ground.data }, { on := 9, ground := Ground.guard }], guard := some (9, true) }) (v := undef) rfl (by kernel_rfl) (by kernel_rfl) (by kernel_rfl) (by kernel_rfl) (fun _ _ _ h => h) (Or.inr ⟨by rfl, rfl⟩) ?_
              try simp only [Act.put, List.setIfInBounds_toArray, List.set_cons_zero, List.set_cons_succ]
              refine wpAnyW_take (i := 19) (oi := { dst := some 118, op := Op.binOp BinOp.leq 3 (Operand.tmp 112) (Operand.tmp 117) 3, type := 4, pos := "law.go:240", after := #[{ on := 13, ground := Ground.data }, { on := 18, ground := Ground.data }, { on := 9, ground := Ground.guard }], guard := some (9, true) }) (v := undef) rfl (by kernel_rfl) (by kernel_rfl) (by kernel_rfl) (by kernel_rfl) (fun _ _ _ h => h) (Or.inr ⟨by rfl, rfl⟩) ?_
              try simp only [Act.put, List.setIfInBounds_toArray, List.set_cons_zero, List.set_cons_succ]
              refine wpAnyW_take (i := 20) (oi := { dst := some 119, op := Op.pick (Operand.tmp 108) (Operand.tmp 118) (Operand.const (Value.bool false)), type := 4, pos := "law.go:240", after := #[{ on := 9, ground := Ground.data }, { on := 19, ground := Ground.data }, { on := 6, ground := Ground.guard }], guard := some (6, false) }) (v := ?_) rfl (by kernel_rfl) (by kernel_rfl) (by kernel_rfl) (by kernel_rfl) (fun _ _ _ h => h) (Or.inl ⟨by rfl, fun w _ => ?_⟩) ?_
              rotate_left
              · (go_simp; first | done | with_reducible rfl)
              try simp only [Act.put, List.setIfInBounds_toArray, List.set_cons_zero, List.set_cons_succ]
              refine wpAnyW_take (i := 21) (oi := { dst := some 120, op := Op.pick (Operand.tmp 105) (Operand.const (Value.bool true)) (Operand.tmp 119), type := 4, pos := "law.go:240", after := #[{ on := 6, ground := Ground.data }, { on := 20, ground := Ground.data }], guard := none }) (v := ?_) rfl (by kernel_rfl) (by kernel_rfl) (by kernel_rfl) (by kernel_rfl) (fun _ _ _ h => h) (Or.inl ⟨by rfl, fun w _ => ?_⟩) ?_
              rotate_left
              · (go_simp; first | done | with_reducible rfl)
              try simp only [Act.put, List.setIfInBounds_toArray, List.set_cons_zero, List.set_cons_succ]
              refine wpAnyW_take (i := 22) (oi := { dst := some 121, op := Op.move (Operand.tmp 120), type := 4, pos := "law.go:240", after := #[{ on := 21, ground := Ground.data }, { on := 9, ground := Ground.chain }], guard := none }) (v := ?_) rfl (by kernel_rfl) (by kernel_rfl) (by kernel_rfl) (by kernel_rfl) (fun _ _ _ h => h) (Or.inl ⟨by rfl, fun w _ => ?_⟩) ?_
              rotate_left
              · (go_simp; first | done | with_reducible rfl)
              try simp only [Act.put, List.setIfInBounds_toArray, List.set_cons_zero, List.set_cons_succ]
              refine wpAnyW_take (i := 23) (oi := { dst := some 122, op := Op.move (Operand.tmp 7), type := 25, pos := "law.go:240", after := #[{ on := 22, ground := Ground.guard }], guard := some (22, false) }) (v := ?_) rfl (by kernel_rfl) (by kernel_rfl) (by kernel_rfl) (by kernel_rfl) (fun _ _ _ h => h) (Or.inl ⟨by rfl, fun w _ => ?_⟩) ?_
              rotate_left
              · (go_simp; first | done | with_reducible rfl)
              try simp only [Act.put, List.setIfInBounds_toArray, List.set_cons_zero, List.set_cons_succ]
              refine wpAnyW_take (i := 24) (oi := { dst := some 123, op := Op.move (Operand.tmp 10), type := 49, pos := "law.go:240", after := #[{ on := 22, ground := Ground.guard }], guard := some (22, false) }) (v := ?_) rfl (by kernel_rfl) (by kernel_rfl) (by kernel_rfl) (by kernel_rfl) (fun _ _ _ h => h) (Or.inl ⟨by rfl, fun w _ => ?_⟩) ?_
              rotate_left
              · (go_simp; first | done | with_reducible rfl)
              try simp only [Act.put, List.setIfInBounds_toArray, List.set_cons_zero, List.set_cons_succ]
              refine wpAnyW_take (i := 25) (oi := { dst := some 124, op := Op.move (Operand.tmp 12), type := 3, pos := "law.go:240", after := #[{ on := 22, ground := Ground.guard }], guard := some (22, false) }) (v := ?_) rfl (by kernel_rfl) (by kernel_rfl) (by kernel_rfl) (by kernel_rfl) (fun _ _ _ h => h) (Or.inl ⟨by rfl, fun w _ => ?_⟩) ?_
              rotate_left
              · (go_simp; first | done | with_reducible rfl)
              try simp only [Act.put, List.setIfInBounds_toArray, List.set_cons_zero, List.set_cons_succ]
              refine wpAnyW_take (i := 26) (oi := { dst := some 125, op := Op.indexAddr 49 (Operand.tmp 123) (Operand.tmp 124), type := 0, pos := "law.go:240", after := #[{ on := 24, ground := Ground.data }, { on := 25, ground := Ground.data }, { on := 22, ground := Ground.guard }], guard := some (22, false) }) (v := ?_) rfl (by kernel_rfl) (by kernel_rfl) (by kernel_rfl) (by kernel_rfl) (fun _ _ _ h => h) (Or.inl ⟨by rfl, fun w _ => ?_⟩) ?_
              rotate_left
              · (go_simp; first | done | with_reducible rfl)
              try simp only [Act.put, List.setIfInBounds_toArray, List.set_cons_zero, List.set_cons_succ]
              refine wpAnyW_load (i := 27) (oi := { dst := some 126, op := Op.load 3 (Operand.tmp 125), type := 3, pos := "law.go:240", after := #[{ on := 26, ground := Ground.data }, { on := 22, ground := Ground.guard }], guard := some (22, false) }) (v := ?_) rfl (by kernel_rfl) (by kernel_rfl) (by kernel_rfl) (by kernel_rfl) (by kernel_rfl) (fun _ _ _ h => h) (Or.inl ⟨by rfl, fun w hS => ?_⟩) (hS.out _ HT7.out) ?_
              rotate_left
              · (obtain ⟨s1, s2⟩ := hS; go_simp; first | done | with_reducible rfl)
              try simp only [Act.put, List.setIfInBounds_toArray, List.set_cons_zero, List.set_cons_succ]
              refine wpAnyW_ready (rs := [28]) (by kernel_rfl) (by simp) ?_
              refine (AllReadyW.cons (o := { dst := some 127, op := Op.call { callee := Callee.value (Operand.func 21), args := #[Operand.tmp 122, Operand.tmp 126], argTypes := #[25, 3] }, type := 26, pos := "law.go:240", after := #[{ on := 23, ground := Ground.data }, { on := 27, ground := Ground.data }, { on := 22, ground := Ground.chain }, { on := 22, ground := Ground.guard }], guard := some (22, false) }) rfl (fun K hK => ?_) AllReadyW.nil)
              go_simp
              refine (DropM HT7.out.ms _).mono ?_
              rintro e w8 ⟨L8, he, hm8, hn8, hl8⟩
              rw [HLL.out] at he
              obtain rfl : e = .returned (.int .i64 0) := he
              have HT8 := hid (HT7.out.drop hm8 hn8 _ hl8)
              have hS8 := HC7.out L8 w8 HT8.out
              clear hm8 hn8 hl8
              refine hK.out _ _ hS8 ?_
              clear hK K
              try simp only [Act.put, List.setIfInBounds_toArray, List.set_cons_zero, List.set_cons_succ]
              refine wpAnyW_ready (rs := [29]) (by kernel_rfl) (by simp) ?_
              refine (AllReadyW.cons (o := { dst := some 128, op := Op.call { callee := Callee.value (Operand.func 12), args := #[Operand.tmp 127], argTypes := #[26] }, type := 3, pos := "law.go:240", after := #[{ on := 28, ground := Ground.data }, { on := 28, ground := Ground.chain }, { on := 22, ground := Ground.guard }], guard := some (22, false) }) rfl (fun K hK => ?_) AllReadyW.nil)
              go_simp
              refine (num_any _ _).mono ?_
              rintro e wa ⟨rfl, hwa⟩
              subst wa
              refine hK.out _ _ (HC7.out L8 w8 HT8.out) ?_
              clear hK K
              try simp only [Act.put, List.setIfInBounds_toArray, List.set_cons_zero, List.set_cons_succ]
              refine wpAnyW_take (i := 30) (oi := { dst := some 129, op := Op.binOp BinOp.neq 3 (Operand.tmp 128) (Operand.const (Value.int IntKind.i64 0)) 3, type := 4, pos := "law.go:240", after := #[{ on := 29, ground := Ground.data }, { on := 22, ground := Ground.guard }], guard := some (22, false) }) (v := ?_) rfl (by kernel_rfl) (by kernel_rfl) (by kernel_rfl) (by kernel_rfl) (fun _ _ _ h => h) (Or.inl ⟨by rfl, fun w _ => ?_⟩) ?_
              rotate_left
              · (go_simp; first | done | with_reducible rfl)
              try simp only [Act.put, List.setIfInBounds_toArray, List.set_cons_zero, List.set_cons_succ]
              refine wpAnyW_take (i := 31) (oi := { dst := some 130, op := Op.pick (Operand.tmp 121) (Operand.const (Value.bool true)) (Operand.tmp 129), type := 4, pos := "law.go:240", after := #[{ on := 22, ground := Ground.data }, { on := 30, ground := Ground.data }], guard := none }) (v := ?_) rfl (by kernel_rfl) (by kernel_rfl) (by kernel_rfl) (by kernel_rfl) (fun _ _ _ h => h) (Or.inl ⟨by rfl, fun w _ => ?_⟩) ?_
              rotate_left
              · (go_simp; first | done | with_reducible rfl)
              try simp only [Act.put, List.setIfInBounds_toArray, List.set_cons_zero, List.set_cons_succ]
              refine wpAnyW_done (by kernel_rfl) ?_ _
              all_goals go_wp2
              all_goals go_roundw
              all_goals first
                | exact ⟨i + 1, L8, by omega, by go_num, HT8.out⟩
                | (simp [intOf]; omega)
          · have h5' : ¬ (i : Int) < (J.length : Int) := by omega
            have HW2 := hid (WroteM HT.out.ms a1 a2)
            have HE2 := hid (show wrI 4 a1 a2 (L2.map Prod.fst) = [] by unfold wrI; rw [calm_all HT.out.calm]; simp)
            clear ht
            go_wp2_with (first
              | (go_at_call 17; refine HW2.out.mono ?_; rintro e w3 ⟨r3, L3, he, ho, hm3, _, _⟩; rw [HE.out.1] at he; subst he; rw [HE2.out] at ho; obtain ⟨ar3, cr3, er⟩ := own_form ho; simp only [List.length_nil] at er; subst er; have HM3 := hid hm3; clear hm3 ho)
              | (go_at_call 12; refine (num_any _ _).mono ?_; rintro e wa ⟨rfl, hwa⟩; subst wa)
              | (go_at_call 9; refine (live_any _).mono ?_; rintro e wb ⟨rfl, hbb⟩)
              | fail)
            all_goals go_ret
            all_goals exact ⟨rfl, HM3.out.bw.trans hbb⟩

set_option maxRecDepth 100000 in
theorem lifted (os : Os) (started : os.Started) (H : Type) (enc : TypeId × Value → H) :
    ReturnsInHanded {} Try.checked os 7 .any (Rows.depsTwiceSpec.pre6 enc Try.prog Try.f7 Rows.depsTwiceRow.domain false) (Rows.depsTwiceSpec.post enc Try.prog Try.f7 false true false false) := by
  refine returnsInHanded_of_change (C := Try.checked) ownK started (by kernel_rfl) Try.func7
    (ChangeSpec.witness6 (enc := enc) (C := Try.checked) false ⟨#[], #[.slice none 0 0, .int .i64 0, .int .u64 0], []⟩ 8 (by kernel_rfl) (by kernel_rfl) (by kernel_rfl) (by kernel_rfl)) ?_
  intro W base args ds gs before hval0 hW hcnd _
  have hval : ∀ (j : Nat) t v, Try.f7.params[j]? = some t → args[j]? = some v → Value.okWide Try.prog W .any base t v := hval0
  have hW' := hW
  obtain ⟨p, q, hA0, hV, rfl, hfz, hnd⟩ := hW
  have hA : DataW.TrodAll enc Try.prog W 0 (fun _ => true) true Try.f7.params.toList args.toList ds p := hA0
  rw [Try.params7] at hA hval
  obtain ⟨v0, vs0, d0, ds0, p0, q0, hargs, rfl, rfl, h0, r0⟩ := trodAll_cons hA
  obtain ⟨v1, vs1, d1, ds1, p1, q1, rfl, rfl, rfl, h1, r1⟩ := trodAll_cons r0
  obtain ⟨v2, vs2, d2, ds2, p2, q2, rfl, rfl, rfl, h2, r2⟩ := trodAll_cons r1
  obtain ⟨rfl, rfl, rfl⟩ := trodAll_nil r2
  obtain rfl : args = #[v0, v1, v2] := by cases args; simp_all
  obtain ⟨rfl, rfl⟩ := trodVars_none hV
  have k0 := h0
  have lt0 : ∀ x ∈ p0, x.block < W.heap.size := by obtain ⟨m, hm⟩ := k0; exact DataW.trod_lt m _ _ _ hm
  have k1 := h1
  have lt1 : ∀ x ∈ p1, x.block < W.heap.size := by obtain ⟨m, hm⟩ := k1; exact DataW.trod_lt m _ _ _ hm
  have k2 := h2
  have lt2 : ∀ x ∈ p2, x.block < W.heap.size := by obtain ⟨m, hm⟩ := k2; exact DataW.trod_lt m _ _ _ hm
  obtain ⟨l0, w0⟩ := open_acts (hval 0 22 v0 rfl rfl) h0
  obtain ⟨a1, rfl, rfl, rfl, w10⟩ := open_int Try.underlying3 (hval 1 3 v1 rfl rfl) h1
  have w1 := bounds_i64 w10
  obtain ⟨a2, rfl, rfl, rfl, w20⟩ := open_int Try.underlying39 (hval 2 39 v2 rfl rfl) h2
  have w2 := bounds_u64 w20
  clear hA0 hval0
  refine (walk a1 w1 a2 w2 W v0 l0 w0).mono fun e W' ⟨he, bel⟩ => ?_
  subst he
  exact ⟨_, rfl, _, _, _, [], _, [], hW', trodAll_mk1 (shut_bool Try.underlying4 _), (trodAll_cons_mk (Below.trod laidOut (by kernel_rfl) (of_decide_eq_true (by kernel_rfl)) k0 bel lt0) (trodAll_cons_mk (Below.trod laidOut (by kernel_rfl) (of_decide_eq_true (by kernel_rfl)) k1 bel lt1) (trodAll_cons_mk (Below.trod laidOut (by kernel_rfl) (of_decide_eq_true (by kernel_rfl)) k2 bel lt2) trodAll_mk0))), rfl, Below.frame bel _, fun h => by cases h⟩

theorem over : Rows.depsTwiceRow.holds Try.pinned (OpenSpec.ofChange Rows.depsTwiceSpec) :=
  OpenClaim.holds_of_wide 7 Try.f7 rfl rfl rfl rfl rfl rfl rfl ⟨rfl, rfl, rfl, rfl, rfl⟩ rfl rfl rfl rfl rfl (by kernel_rfl) Try.func7 (by kernel_rfl)
    (of_decide_eq_true (by kernel_rfl)) (by unfold Func.isWrapper; first | (rw [if_pos (by decide +kernel)]; kernel_rfl) | (rw [if_neg (by decide +kernel)]; exact ⟨rfl, rfl⟩))
    (fun os started H enc _ => lifted os started H enc)

theorem proved : Rows.DepsTwiceSaid := over
end Go.Proofs.Ytaeifhfhahcoiaa.depsTwice
namespace Go.Proofs.Ytaeifhfhahcoiaa
theorem depsTwice_holds : Rows.DepsTwiceSaid := depsTwice.proved
#print axioms depsTwice_holds
end Go.Proofs.Ytaeifhfhahcoiaa
