/- The registry answers as the page says, call by call, and all that can be asked agrees. -/
import Derived.Test.YtaeifhfhahcoiaaQi
set_option linter.unusedVariables false
set_option linter.unusedSimpArgs false
namespace Go.Proofs.Ytaeifhfhahcoiaa.depsPlays
open Go.ChangeShapes Go.WideShapes Go.ChangeAt Go.RowKit

set_option maxRecDepth 100000 in
set_option maxHeartbeats 2000000 in
theorem walk (a0 : Int) (w0 : -9223372036854775808 ≤ a0 ∧ a0 ≤ 9223372036854775807) (a1 : Int) (w1 : -9223372036854775808 ≤ a1 ∧ a1 ≤ 9223372036854775807) (w : World) (v2 : Value) (l2 : List AX) (w2 : Acts w v2 l2) :
    Calls Try.prog 3 #[.int .i64 a0, .int .i64 a1, v2] w fun e w' => e = .returned (.bool true) ∧ Bw w w' := by
  have HA := hid w2
  obtain ⟨av, cv, rfl⟩ := w2.form
  have HMM := hid (much_any w2)
  clear w2
  have HNY := hid (fun (F G : Nat) (w : World) (h1 : 1 ≤ F) (h2 : F ≤ 1024) (h3 : G ≤ 1024) => New_yes F G w h1 h2 h3)
  cases hmb : mchB l2
  rotate_left
  · have HB := hid hmb
    clear hmb
    go_enter Try.func3, Try.ntmps3
    go_wp2_with (first
      | (go_at_call 8; refine HMM.out.mono ?_; rintro e w1 ⟨hmc, hw⟩; subst w1; unfold Mch at hmc; rw [HB.out] at hmc; subst hmc)
      | (go_at_call 9; refine (live_any _).mono ?_; rintro e wb ⟨rfl, hbb⟩)
      | fail)
    all_goals go_ret
    all_goals exact ⟨rfl, hbb⟩
  have HB := hid hmb
  have HMU := hid (mchB_few hmb)
  clear hmb
  have MUCH : True := trivial
  by_cases b0 : 40 < a0 ∧ a0 ≤ 1024
  · have d0 : decide (40 < a0) = true := decide_eq_true b0.1
    have d1 : decide (a0 ≤ 1024) = true := decide_eq_true b0.2
    clear b0
    go_enter Try.func3, Try.ntmps3
    go_wp2_with (first
      | (go_at_call 8; refine HMM.out.mono ?_; rintro e w1 ⟨hmc, hw⟩; subst w1; unfold Mch at hmc; rw [HB.out] at hmc; subst hmc)
      | (go_at_call 9; refine (live_any _).mono ?_; rintro e wb ⟨rfl, hbb⟩)
      | fail)
    all_goals go_ret
    all_goals exact ⟨rfl, hbb⟩
  by_cases b1 : 40 < a1 ∧ a1 ≤ 1024
  · have d2 : decide (40 < a1) = true := decide_eq_true b1.1
    have d3 : decide (a1 ≤ 1024) = true := decide_eq_true b1.2
    rcases (show (decide (40 < a0) = false ∨ (decide (40 < a0) = true ∧ decide (a0 ≤ 1024) = false)) by
      by_cases h : 40 < a0
      · exact .inr ⟨decide_eq_true h, decide_eq_false (fun h2 => b0 ⟨h, h2⟩)⟩
      · exact .inl (decide_eq_false h)) with d0 | ⟨d0, d1⟩
    all_goals clear b0 b1
    all_goals (
      go_enter Try.func3, Try.ntmps3
      go_wp2_with (first
        | (go_at_call 8; refine HMM.out.mono ?_; rintro e w1 ⟨hmc, hw⟩; subst w1; unfold Mch at hmc; rw [HB.out] at hmc; subst hmc)
        | (go_at_call 9; refine (live_any _).mono ?_; rintro e wb ⟨rfl, hbb⟩)
        | fail)
      all_goals go_ret
      all_goals exact ⟨rfl, hbb⟩
      )
  by_cases hok : 1 ≤ a0 ∧ a0 ≤ 1024 ∧ 0 ≤ a1 ∧ a1 ≤ 1024
  rotate_left
  · have HNO := hid (fun w => New_no a0 a1 w hok)
    have HRO := hid (fun w => rNewx_no a0 a1 w hok)
    rcases (show (decide (40 < a0) = false ∨ (decide (40 < a0) = true ∧ decide (a0 ≤ 1024) = false)) by
      by_cases h : 40 < a0
      · exact .inr ⟨decide_eq_true h, decide_eq_false (fun h2 => b0 ⟨h, h2⟩)⟩
      · exact .inl (decide_eq_false h)) with d0 | ⟨d0, d1⟩
    all_goals rcases (show (decide (40 < a1) = false ∨ (decide (40 < a1) = true ∧ decide (a1 ≤ 1024) = false)) by
      by_cases h : 40 < a1
      · exact .inr ⟨decide_eq_true h, decide_eq_false (fun h2 => b1 ⟨h, h2⟩)⟩
      · exact .inl (decide_eq_false h)) with d2 | ⟨d2, d3⟩
    all_goals clear b0 b1 hok
    all_goals (
      go_enter Try.func3, Try.ntmps3
      go_wp2_with (first
        | (go_at_call 8; refine HMM.out.mono ?_; rintro e w1 ⟨hmc, hw⟩; subst w1; unfold Mch at hmc; rw [HB.out] at hmc; subst hmc)
        | (go_at_call 10; refine (HNO.out _).mono ?_; rintro e w3 ⟨rfl, hw3⟩; subst w3)
        | (go_at_call 11; refine (HRO.out _).mono ?_; rintro e w4 ⟨rfl, hb4⟩; have HB4 := hid hb4; clear hb4)
        | (go_at_call 12; refine (num_any _ _).mono ?_; rintro e w9 ⟨rfl, hw9⟩; subst w9)
        | (go_at_call 9; refine (live_any _).mono ?_; rintro e wb ⟨rfl, hbb⟩)
        | fail)
      all_goals go_ret
      all_goals exact ⟨rfl, (Bw.alloc HB4.out _).trans hbb⟩)
  obtain ⟨F, rfl⟩ : ∃ F : Nat, a0 = F := ⟨a0.toNat, by omega⟩
  obtain ⟨G, rfl⟩ : ∃ G : Nat, a1 = G := ⟨a1.toNat, by omega⟩
  have hF1 : 1 ≤ F := by omega
  have hF2 : F ≤ 40 := by omega
  have hG2 : G ≤ 40 := by omega
  have d0 : decide ((40 : Int) < (F : Int)) = false := decide_eq_false (by omega)
  have d2 : decide ((40 : Int) < (G : Int)) = false := decide_eq_false (by omega)
  have d1 : ¬ 40 < F := by omega
  have d3 : ¬ 40 < G := by omega
  have HNY2 := hid (fun w => New_yes F G w hF1 (by omega) (by omega))
  have HRY2 := hid (fun w => rNew_yes F G w hF1 (by omega) (by omega))
  clear b0 b1 hok HNY
  go_enter Try.func3, Try.ntmps3
  go_wp2_with (first
    | (go_at_call 8; refine HMM.out.mono ?_; rintro e w1 ⟨hmc, hw⟩; subst w1; unfold Mch at hmc; rw [HB.out] at hmc; subst hmc)
    | (go_at_call 10; refine (HNY2.out _).mono ?_; rintro e w3 ⟨p, rfl, hp1, hb1, b1⟩; have HM0 := hid (MS.made hp1 hb1 b1); clear hp1 hb1 b1)
    | (go_at_call 11; refine (HRY2.out _).mono ?_; rintro e w4 ⟨he, hb4⟩; unfold rV at he; subst he; have HM1 := hid (HM0.out.on hb4); clear hb4)
    | (go_at_call 12; refine (num_any _ _).mono ?_; rintro e w9 ⟨rfl, hw9⟩; subst w9)
    | fail)
  have HX0 := hid (PX.made HM1.out)
  go_loopw [11] (fun j wr => ∃ (k : Nat) (bs : List Nat) (rv : Value) (L : List (VV × Value)) (v : Value) (LR : List (VV × Value)), k ≤ l2.length ∧ j = .int .i64 k ∧ PX w wr p bs F G rv L v LR k w4.heap.size) (fun j _ => l2.length - (intOf j).toNat)
  case atStart => exact ⟨0, _, _, _, _, _, by omega, rfl, HX0.out⟩
  case round =>
    obtain ⟨k, bs, rv, L, v, LR, hk, rfl, hx⟩ := hrel
    have HX := hid hx
    have hkb := HMU.out.1
    by_cases h4 : k < l2.length
    rotate_left
    · have h4' : ¬ (k : Int) < (l2.length : Int) := by omega
      clear hx
      go_wp2_with (first
        | (go_at_call 9; refine (live_any _).mono ?_; rintro e wb ⟨rfl, hbb⟩)
        | fail)
      all_goals go_ret
      all_goals exact ⟨rfl, HX.out.pw.ms.bw.trans hbb⟩
    · have h4' : (k : Int) < (l2.length : Int) := by omega
      obtain ⟨b, o, e, hlb, x0, x1, x2, x3, hok⟩ := (HA.out.bw (hx.pw.ms.bw.trans (Bw.drew (Bw.refl wr)))).at h4
      cases e
      have HOK := hid ((HA.out.2.1 _ (List.getElem_mem h4)))
      have HL40 := hid (HMU.out.2 _ (List.getElem_mem h4))
      have HLK := hid (fun (X : World) (hb : Bw w X) => (HA.out.bw hb).at h4)
      obtain ⟨q, hq⟩ : ∃ q, l2[k] = q := ⟨_, rfl⟩
      rw [hq] at x0 x1 x2 x3 HOK HL40
      have HLK3 := hid (fun (X : World) (hb : Bw w X) => show X.cell? ⟨b, o + k * 4, none⟩ = some (.int .i64 q.d) ∧ X.cell? ⟨b, o + k * 4 + 1, none⟩ = some (.int .i64 q.f) ∧ X.cell? ⟨b, o + k * 4 + 2, none⟩ = some q.lv ∧ X.cell? ⟨b, o + k * 4 + 3, none⟩ = some (.int .u64 q.v) by
        obtain ⟨b', o', e', hl', y0, y1, y2, y3, _⟩ := HLK.out X hb
        cases e'
        rw [hq] at y0 y1 y2 y3
        exact ⟨y0, y1, y2, y3⟩)
      have HLK2 := hid (fun (X : World) (hb : Bw w X) => show X.cell? ⟨b, o + k * 4 + 1, none⟩ = some (.int .i64 q.f) ∧ b < X.heap.size by
        obtain ⟨b', o', e', hl', _, y1, _⟩ := HLK.out X hb
        cases e'
        rw [hq] at y1
        exact ⟨y1, hl'⟩)
      obtain ⟨av9, cv9, ev⟩ := hx.pw.rs.form
      subst ev
      obtain ⟨y1, y2, y3, y4, y5⟩ := q
      obtain ⟨a3, c3, e3⟩ := HOK.out.l.form
      simp only at e3
      subst e3
      simp only at x0 x1 x2 x3 HLK2 HLK3
      obtain ⟨p0, p1, p2, pl⟩ := box3 (hx.box.bw (Bw.drew (Bw.refl wr)))
      have HSTEP := hid (fun (W : World) (X : Nat → Prop) (hpw : PW w W p bs F G rv L (.slice av9 LR.length cv9) LR k X) => step_any hpw (by omega) (by omega) ⟨y1, y2, .slice a3 y4.length c3, y4, y5⟩ HOK.out (by have := HL40.out; simp only at this ⊢; omega))
      clear hq hx hok HLK
      go_wp2
      refine wp_region_W (fun w' => w'.cell? ⟨w4.heap.size, 0, none⟩ = some (.int .i64 F) ∧ w'.cell? ⟨w4.heap.size, 1, none⟩ = some (.int .i64 G) ∧ w'.cell? ⟨w4.heap.size, 2, none⟩ = some (.slice av9 LR.length cv9) ∧ w'.cell? ⟨b, o + k * 4, none⟩ = some (.int .i64 y1) ∧ w'.cell? ⟨b, o + k * 4 + 1, none⟩ = some (.int .i64 y2) ∧ w'.cell? ⟨b, o + k * 4 + 2, none⟩ = some (.slice a3 y4.length c3) ∧ w'.cell? ⟨b, o + k * 4 + 3, none⟩ = some (.int .u64 y5)) (fun j => if j == 6 || j == 10 then 0 else if j == 11 then 2 else 1) (by kernel_rfl) ?_
      have hb0 : Bw wr wr.drew := Bw.drew (Bw.refl _)
      generalize hW0 : wr.drew = W0 at hb0
      have HB0 := hid hb0
      have hS := hid (show ∀ W', Bw w W' → Blk W' w4.heap.size #[.int .i64 F, .int .i64 G, (.slice av9 LR.length cv9)] 31 → (fun w' => w'.cell? ⟨w4.heap.size, 0, none⟩ = some (.int .i64 F) ∧ w'.cell? ⟨w4.heap.size, 1, none⟩ = some (.int .i64 G) ∧ w'.cell? ⟨w4.heap.size, 2, none⟩ = some (.slice av9 LR.length cv9) ∧ w'.cell? ⟨b, o + k * 4, none⟩ = some (.int .i64 y1) ∧ w'.cell? ⟨b, o + k * 4 + 1, none⟩ = some (.int .i64 y2) ∧ w'.cell? ⟨b, o + k * 4 + 2, none⟩ = some (.slice a3 y4.length c3) ∧ w'.cell? ⟨b, o + k * 4 + 3, none⟩ = some (.int .u64 y5)) W' from fun W' hb hk => ⟨hk.cell 0, hk.cell 1, hk.cell 2, (HLK3.out W' hb).1, (HLK3.out W' hb).2.1, (HLK3.out W' hb).2.2.1, (HLK3.out W' hb).2.2.2⟩)
      have HBW := hid (HX.out.pw.ms.bw.trans HB0.out)
      have HBB := hid (HX.out.box.bw HB0.out)
      clear hb0 hW0
      refine wpAnyW_take (i := 0) (oi := { dst := some 66, op := Op.move (Operand.tmp 7), type := 25, pos := "law.go:103", after := #[], guard := none }) (v := ?_) rfl (by kernel_rfl) (by kernel_rfl) (by kernel_rfl) (by kernel_rfl) (fun _ _ _ h => h) (Or.inl ⟨by rfl, fun w _ => ?_⟩) ?_
      rotate_left
      · (go_simp; first | done | with_reducible rfl)
      try simp only [Act.put, List.setIfInBounds_toArray, List.set_cons_zero, List.set_cons_succ]
      refine wpAnyW_load (i := 1) (oi := { dst := some 67, op := Op.load 31 (Operand.tmp 9), type := 31, pos := "law.go:103", after := #[], guard := none }) (v := ?_) rfl (by kernel_rfl) (by kernel_rfl) (by kernel_rfl) (by kernel_rfl) (by kernel_rfl) (fun _ _ _ h => h) (Or.inl ⟨by rfl, fun w hS => ?_⟩) (hS.out _ HBW.out HBB.out) ?_
      rotate_left
      · (obtain ⟨s1, s2, s3, s4, s5, s6, s7⟩ := hS; go_simp; first | done | with_reducible rfl)
      try simp only [Act.put, List.setIfInBounds_toArray, List.set_cons_zero, List.set_cons_succ]
      refine wpAnyW_take (i := 2) (oi := { dst := some 68, op := Op.move (Operand.tmp 2), type := 22, pos := "law.go:103", after := #[], guard := none }) (v := ?_) rfl (by kernel_rfl) (by kernel_rfl) (by kernel_rfl) (by kernel_rfl) (fun _ _ _ h => h) (Or.inl ⟨by rfl, fun w _ => ?_⟩) ?_
      rotate_left
      · (go_simp; first | done | with_reducible rfl)
      try simp only [Act.put, List.setIfInBounds_toArray, List.set_cons_zero, List.set_cons_succ]
      refine wpAnyW_take (i := 3) (oi := { dst := some 69, op := Op.move (Operand.tmp 11), type := 3, pos := "law.go:103", after := #[], guard := none }) (v := ?_) rfl (by kernel_rfl) (by kernel_rfl) (by kernel_rfl) (by kernel_rfl) (fun _ _ _ h => h) (Or.inl ⟨by rfl, fun w _ => ?_⟩) ?_
      rotate_left
      · (go_simp; first | done | with_reducible rfl)
      try simp only [Act.put, List.setIfInBounds_toArray, List.set_cons_zero, List.set_cons_succ]
      refine wpAnyW_take (i := 4) (oi := { dst := some 70, op := Op.indexAddr 22 (Operand.tmp 68) (Operand.tmp 69), type := 0, pos := "law.go:103", after := #[{ on := 2, ground := Ground.data }, { on := 3, ground := Ground.data }], guard := none }) (v := ?_) rfl (by kernel_rfl) (by kernel_rfl) (by kernel_rfl) (by kernel_rfl) (fun _ _ _ h => h) (Or.inl ⟨by rfl, fun w _ => ?_⟩) ?_
      rotate_left
      · (go_simp; first | done | with_reducible rfl)
      try simp only [Act.put, List.setIfInBounds_toArray, List.set_cons_zero, List.set_cons_succ]
      refine wpAnyW_load (i := 5) (oi := { dst := some 71, op := Op.load 41 (Operand.tmp 70), type := 41, pos := "law.go:103", after := #[{ on := 4, ground := Ground.data }], guard := none }) (v := ?_) rfl (by kernel_rfl) (by kernel_rfl) (by kernel_rfl) (by kernel_rfl) (by kernel_rfl) (fun _ _ _ h => h) (Or.inl ⟨by rfl, fun w hS => ?_⟩) (hS.out _ HBW.out HBB.out) ?_
      rotate_left
      · (obtain ⟨s1, s2, s3, s4, s5, s6, s7⟩ := hS; go_simp; first | done | with_reducible rfl)
      try simp only [Act.put, List.setIfInBounds_toArray, List.set_cons_zero, List.set_cons_succ]
      refine wpAnyW_ready (rs := [6, 10]) (by kernel_rfl) (by simp) ?_
      refine (AllReadyW.cons (o := { dst := some 72, op := Op.call { callee := Callee.value (Operand.func 13), args := #[Operand.tmp 66, Operand.tmp 67, Operand.tmp 71], argTypes := #[25, 31, 41] }, type := 35, pos := "law.go:103", after := #[{ on := 0, ground := Ground.data }, { on := 1, ground := Ground.data }, { on := 5, ground := Ground.data }], guard := none }) rfl (fun K hK => ?_) (AllReadyW.cons (o := { dst := some 12, op := Op.alloc 31, type := 0, pos := "law.go:103", after := #[], guard := none }) rfl (fun K hK => ?_) AllReadyW.nil))
      · go_simp
        refine (HSTEP.out W0 _ (HX.out.pw.on HB0.out)).mono ?_
        rintro e w5 ⟨bs5, rv5, L5, v5, LR5, he, hw5, hn5⟩
        unfold rV at he
        obtain ⟨a5, c5, e5⟩ := hw5.rs.form
        subst e5
        subst he
        have HW5 := hid hw5
        have HN5 := hid (Nx.wrap (R := wr.heap.size) HB0.out hn5 (Bw.refl _) (Ex.refl _ _) (Nat.le_refl _))
        have HB5 := hid ((HBB.out).ex hn5.ex HX.out.nB)
        clear hw5 hn5
        refine hK.out _ _ (hS.out _ HW5.out.ms.bw HB5.out) ?_
        clear hK K
        try simp only [Act.put, List.setIfInBounds_toArray, List.set_cons_zero, List.set_cons_succ]
        refine wpAnyW_take (i := 7) (oi := { dst := some 65, op := Op.move (Operand.tmp 72), type := 35, pos := "law.go:103", after := #[{ on := 6, ground := Ground.data }], guard := none }) (v := ?_) rfl (by kernel_rfl) (by kernel_rfl) (by kernel_rfl) (by kernel_rfl) (fun _ _ _ h => h) (Or.inl ⟨by rfl, fun w _ => ?_⟩) ?_
        rotate_left
        · (go_simp; first | done | with_reducible rfl)
        try simp only [Act.put, List.setIfInBounds_toArray, List.set_cons_zero, List.set_cons_succ]
        refine wpAnyW_take (i := 8) (oi := { dst := some 73, op := Op.extract (Operand.tmp 65) 0, type := 31, pos := "law.go:103", after := #[{ on := 7, ground := Ground.data }], guard := none }) (v := ?_) rfl (by kernel_rfl) (by kernel_rfl) (by kernel_rfl) (by kernel_rfl) (fun _ _ _ h => h) (Or.inl ⟨by rfl, fun w _ => ?_⟩) ?_
        rotate_left
        · (go_simp; first | done | with_reducible rfl)
        try simp only [Act.put, List.setIfInBounds_toArray, List.set_cons_zero, List.set_cons_succ]
        refine wpAnyW_take (i := 9) (oi := { dst := some 74, op := Op.extract (Operand.tmp 65) 1, type := 4, pos := "law.go:103", after := #[{ on := 7, ground := Ground.data }, { on := 11, ground := Ground.gcOnly Departure.lateStores }], guard := none }) (v := ?_) rfl (by kernel_rfl) (by kernel_rfl) (by kernel_rfl) (by kernel_rfl) (fun _ _ _ h => h) (Or.inl ⟨by rfl, fun w _ => ?_⟩) ?_
        rotate_left
        · (go_simp; first | done | with_reducible rfl)
        try simp only [Act.put, List.setIfInBounds_toArray, List.set_cons_zero, List.set_cons_succ]
        refine wpAnyW_ready (rs := [10]) (by kernel_rfl) (by simp) ?_
        refine (AllReadyW.cons (o := { dst := some 12, op := Op.alloc 31, type := 0, pos := "law.go:103", after := #[], guard := none }) rfl (fun K hK => ?_) AllReadyW.nil)
        go_simp
        refine hK.out _ _ (hS.out _ (Bw.alloc HW5.out.ms.bw _) (HB5.out.alloc _)) ?_
        clear hK K
        try simp only [Act.put, List.setIfInBounds_toArray, List.set_cons_zero, List.set_cons_succ]
        refine wpAnyW_ready (rs := [11]) (by kernel_rfl) (by simp) ?_
        refine (AllReadyW.cons (o := { dst := none, op := Op.store 31 (Operand.tmp 12) (Operand.tmp 73), type := 0, pos := "law.go:103", after := #[{ on := 10, ground := Ground.data }, { on := 8, ground := Ground.data }, { on := 6, ground := Ground.chain }, { on := 0, ground := Ground.phase }, { on := 1, ground := Ground.phase }, { on := 2, ground := Ground.phase }, { on := 3, ground := Ground.phase }, { on := 4, ground := Ground.phase }, { on := 5, ground := Ground.phase }, { on := 6, ground := Ground.phase }, { on := 7, ground := Ground.phase }, { on := 8, ground := Ground.phase }, { on := 9, ground := Ground.textOnly Departure.lateStores }, { on := 10, ground := Ground.phase }], guard := none }) rfl (fun K hK => ?_) AllReadyW.nil)
        go_simp
        refine hK.out _ _ trivial ?_
        clear hK K
        try simp only [Act.put, List.setIfInBounds_toArray, List.set_cons_zero, List.set_cons_succ]
        refine wpAnyW_take (i := 12) (oi := { dst := some 13, op := Op.assign (Operand.tmp 74), type := 4, pos := "law.go:103", after := #[{ on := 9, ground := Ground.data }, { on := 11, ground := Ground.chain }, { on := 0, ground := Ground.phase }, { on := 1, ground := Ground.phase }, { on := 2, ground := Ground.phase }, { on := 3, ground := Ground.phase }, { on := 4, ground := Ground.phase }, { on := 5, ground := Ground.phase }, { on := 6, ground := Ground.phase }, { on := 7, ground := Ground.phase }, { on := 8, ground := Ground.phase }, { on := 9, ground := Ground.phase }, { on := 10, ground := Ground.phase }, { on := 11, ground := Ground.phase }], guard := none }) (v := ?_) rfl (by kernel_rfl) (by kernel_rfl) (by kernel_rfl) (by kernel_rfl) (fun _ _ _ h => h) (Or.inl ⟨by rfl, fun w _ => ?_⟩) ?_
        rotate_left
        · (go_simp; first | done | with_reducible rfl)
        try simp only [Act.put, List.setIfInBounds_toArray, List.set_cons_zero, List.set_cons_succ]
        refine wpAnyW_done (by kernel_rfl) ?_ _
        have HWX := hid (HW5.out.on (Bw.alloc (Bw.refl _) (.cells #[.int .i64 F, .int .i64 G, .slice a5 LR5.length c5] 31)))
        have HNX := hid (HN5.out.bw (Bw.alloc (Bw.refl _) (.cells #[.int .i64 F, .int .i64 G, .slice a5 LR5.length c5] 31)))
        have HBX := hid (HB5.out.alloc (.cells #[.int .i64 F, .int .i64 G, .slice a5 LR5.length c5] 31))
        have HSX := hid (Blk.new w5 #[.int .i64 F, .int .i64 G, .slice a5 LR5.length c5] 31)
        have hNB := hid (show w5.heap.size ≠ w4.heap.size by have := HB5.out.lt; omega)
        generalize hX : w5.alloc (.cells #[.int .i64 F, .int .i64 G, .slice a5 LR5.length c5] 31) = X at HWX HNX HBX HSX
        obtain ⟨s0, s1, s2, sl⟩ := box3 HSX.out
        obtain ⟨q0, q1, q2, ql⟩ := box3 HBX.out
        have qf := HBX.out.free
        have HP1 := hid (HX.out.step (X := (((X.setCell ⟨w4.heap.size, 0, none⟩ (.int .i64 F)).setCell ⟨w4.heap.size, 1, none⟩ (.int .i64 G)).setCell ⟨w4.heap.size, 2, none⟩ (.slice a5 LR5.length c5))) HWX.out HNX.out (Bw.refl _) (Ex.set (Ex.set (Ex.set (Ex.refl _ _) (.inl (by simp)) _ _) (.inl (by simp)) _ _) (.inl (by simp)) _ _) (((HBX.out.set 0 _).set 1 _).set 2 _))
        have hNB2 := hNB.out
        clear hX HWX HNX
        go_wp2
        generalize hY : (((X.setCell ⟨w4.heap.size, 0, none⟩ (.int .i64 F)).setCell ⟨w4.heap.size, 1, none⟩ (.int .i64 G)).setCell ⟨w4.heap.size, 2, none⟩ (.slice a5 LR5.length c5)) = Y at HP1
        clear hY s0 s1 s2 sl q0 q1 q2 ql qf HSX HBX
        refine wp_region_W (fun w' => w'.cell? ⟨w4.heap.size, 0, none⟩ = some (.int .i64 F) ∧ w'.cell? ⟨w4.heap.size, 1, none⟩ = some (.int .i64 G) ∧ w'.cell? ⟨w4.heap.size, 2, none⟩ = some (.slice a5 LR5.length c5) ∧ w'.cell? ⟨b, o + k * 4 + 1, none⟩ = some (.int .i64 y2)) (fun j => if j == 10 then 0 else 1) (by kernel_rfl) ?_
        have hb1 : Bw Y Y.drew := Bw.drew (Bw.refl _)
        generalize hY1 : Y.drew = Y1 at hb1
        have HPY := hid (HP1.out.on hb1)
        have hS6 := hid (show ∀ W', Bw Y1 W' → (fun w' => w'.cell? ⟨w4.heap.size, 0, none⟩ = some (.int .i64 F) ∧ w'.cell? ⟨w4.heap.size, 1, none⟩ = some (.int .i64 G) ∧ w'.cell? ⟨w4.heap.size, 2, none⟩ = some (.slice a5 LR5.length c5) ∧ w'.cell? ⟨b, o + k * 4 + 1, none⟩ = some (.int .i64 y2)) W' from fun W' hb => ⟨(HPY.out.box.bw hb).cell 0, (HPY.out.box.bw hb).cell 1, (HPY.out.box.bw hb).cell 2, (HLK2.out W' (HPY.out.pw.ms.bw.trans hb)).1⟩)
        clear hb1 hY1
        refine wpAnyW_take (i := 0) (oi := { dst := some 76, op := Op.move (Operand.tmp 13), type := 4, pos := "law.go:105", after := #[], guard := none }) (v := ?_) rfl (by kernel_rfl) (by kernel_rfl) (by kernel_rfl) (by kernel_rfl) (fun _ _ _ h => h) (Or.inl ⟨by rfl, fun w _ => ?_⟩) ?_
        rotate_left
        · (go_simp; first | done | with_reducible rfl)
        try simp only [Act.put, List.setIfInBounds_toArray, List.set_cons_zero, List.set_cons_succ]
        refine wpAnyW_take (i := 1) (oi := { dst := some 77, op := Op.unOp UnOp.not 4 (Operand.tmp 76), type := 4, pos := "law.go:105", after := #[{ on := 0, ground := Ground.data }], guard := none }) (v := ?_) rfl (by kernel_rfl) (by kernel_rfl) (by kernel_rfl) (by kernel_rfl) (fun _ _ _ h => h) (Or.inl ⟨by rfl, fun w _ => ?_⟩) ?_
        rotate_left
        · (go_simp; first | done | with_reducible rfl)
        try simp only [Act.put, List.setIfInBounds_toArray, List.set_cons_zero, List.set_cons_succ]
        refine wpAnyW_take (i := 2) (oi := { dst := some 78, op := Op.move (Operand.tmp 77), type := 4, pos := "law.go:105", after := #[{ on := 1, ground := Ground.data }], guard := none }) (v := ?_) rfl (by kernel_rfl) (by kernel_rfl) (by kernel_rfl) (by kernel_rfl) (fun _ _ _ h => h) (Or.inl ⟨by rfl, fun w _ => ?_⟩) ?_
        rotate_left
        · (go_simp; first | done | with_reducible rfl)
        try simp only [Act.put, List.setIfInBounds_toArray, List.set_cons_zero, List.set_cons_succ]
        refine wpAnyW_take (i := 3) (oi := { dst := some 79, op := Op.move (Operand.tmp 7), type := 25, pos := "law.go:105", after := #[{ on := 2, ground := Ground.guard }], guard := some (2, false) }) (v := ?_) rfl (by kernel_rfl) (by kernel_rfl) (by kernel_rfl) (by kernel_rfl) (fun _ _ _ h => h) (Or.inl ⟨by rfl, fun w _ => ?_⟩) ?_
        rotate_left
        · (go_simp; first | done | with_reducible rfl)
        try simp only [Act.put, List.setIfInBounds_toArray, List.set_cons_zero, List.set_cons_succ]
        refine wpAnyW_load (i := 4) (oi := { dst := some 80, op := Op.load 31 (Operand.tmp 9), type := 31, pos := "law.go:105", after := #[{ on := 2, ground := Ground.guard }], guard := some (2, false) }) (v := ?_) rfl (by kernel_rfl) (by kernel_rfl) (by kernel_rfl) (by kernel_rfl) (by kernel_rfl) (fun _ _ _ h => h) (Or.inl ⟨by rfl, fun w hS => ?_⟩) (hS6.out _ (Bw.refl _)) ?_
        rotate_left
        · (obtain ⟨s1, s2, s3, s4⟩ := hS; go_simp; first | done | with_reducible rfl)
        try simp only [Act.put, List.setIfInBounds_toArray, List.set_cons_zero, List.set_cons_succ]
        refine wpAnyW_take (i := 5) (oi := { dst := some 81, op := Op.move (Operand.tmp 2), type := 22, pos := "law.go:105", after := #[{ on := 2, ground := Ground.guard }], guard := some (2, false) }) (v := ?_) rfl (by kernel_rfl) (by kernel_rfl) (by kernel_rfl) (by kernel_rfl) (fun _ _ _ h => h) (Or.inl ⟨by rfl, fun w _ => ?_⟩) ?_
        rotate_left
        · (go_simp; first | done | with_reducible rfl)
        try simp only [Act.put, List.setIfInBounds_toArray, List.set_cons_zero, List.set_cons_succ]
        refine wpAnyW_take (i := 6) (oi := { dst := some 82, op := Op.move (Operand.tmp 11), type := 3, pos := "law.go:105", after := #[{ on := 2, ground := Ground.guard }], guard := some (2, false) }) (v := ?_) rfl (by kernel_rfl) (by kernel_rfl) (by kernel_rfl) (by kernel_rfl) (fun _ _ _ h => h) (Or.inl ⟨by rfl, fun w _ => ?_⟩) ?_
        rotate_left
        · (go_simp; first | done | with_reducible rfl)
        try simp only [Act.put, List.setIfInBounds_toArray, List.set_cons_zero, List.set_cons_succ]
        refine wpAnyW_take (i := 7) (oi := { dst := some 83, op := Op.indexAddr 22 (Operand.tmp 81) (Operand.tmp 82), type := 0, pos := "law.go:105", after := #[{ on := 5, ground := Ground.data }, { on := 6, ground := Ground.data }, { on := 2, ground := Ground.guard }], guard := some (2, false) }) (v := ?_) rfl (by kernel_rfl) (by kernel_rfl) (by kernel_rfl) (by kernel_rfl) (fun _ _ _ h => h) (Or.inl ⟨by rfl, fun w _ => ?_⟩) ?_
        rotate_left
        · (go_simp; first | done | with_reducible rfl)
        try simp only [Act.put, List.setIfInBounds_toArray, List.set_cons_zero, List.set_cons_succ]
        refine wpAnyW_take (i := 8) (oi := { dst := some 84, op := Op.fieldAddr 41 (Operand.tmp 83) 1, type := 0, pos := "law.go:105", after := #[{ on := 7, ground := Ground.data }, { on := 2, ground := Ground.guard }], guard := some (2, false) }) (v := ?_) rfl (by kernel_rfl) (by kernel_rfl) (by kernel_rfl) (by kernel_rfl) (fun _ _ _ h => h) (Or.inl ⟨by rfl, fun w _ => ?_⟩) ?_
        rotate_left
        · (go_simp; first | done | with_reducible rfl)
        try simp only [Act.put, List.setIfInBounds_toArray, List.set_cons_zero, List.set_cons_succ]
        refine wpAnyW_load (i := 9) (oi := { dst := some 85, op := Op.load 3 (Operand.tmp 84), type := 3, pos := "law.go:105", after := #[{ on := 8, ground := Ground.data }, { on := 2, ground := Ground.guard }], guard := some (2, false) }) (v := ?_) rfl (by kernel_rfl) (by kernel_rfl) (by kernel_rfl) (by kernel_rfl) (by kernel_rfl) (fun _ _ _ h => h) (Or.inl ⟨by rfl, fun w hS => ?_⟩) (hS6.out _ (Bw.refl _)) ?_
        rotate_left
        · (obtain ⟨s1, s2, s3, s4⟩ := hS; go_simp; first | done | with_reducible rfl)
        try simp only [Act.put, List.setIfInBounds_toArray, List.set_cons_zero, List.set_cons_succ]
        refine wpAnyW_ready (rs := [10]) (by kernel_rfl) (by simp) ?_
        refine (AllReadyW.cons (o := { dst := some 86, op := Op.call { callee := Callee.value (Operand.func 14), args := #[Operand.tmp 79, Operand.tmp 80, Operand.tmp 85], argTypes := #[25, 31, 3] }, type := 4, pos := "law.go:105", after := #[{ on := 3, ground := Ground.data }, { on := 4, ground := Ground.data }, { on := 9, ground := Ground.data }, { on := 2, ground := Ground.chain }, { on := 2, ground := Ground.guard }], guard := some (2, false) }) rfl (fun K hK => ?_) AllReadyW.nil)
        go_simp
        refine (asks_any HPY.out.pw y2).mono ?_
        rintro e w6 ⟨rfl, hb6⟩
        have HB6 := hid hb6
        have HP6 := hid (HPY.out.on hb6)
        clear hb6
        refine hK.out _ _ (hS6.out _ HB6.out) ?_
        clear hK K
        try simp only [Act.put, List.setIfInBounds_toArray, List.set_cons_zero, List.set_cons_succ]
        refine wpAnyW_take (i := 11) (oi := { dst := some 87, op := Op.unOp UnOp.not 4 (Operand.tmp 86), type := 4, pos := "law.go:105", after := #[{ on := 10, ground := Ground.data }, { on := 2, ground := Ground.guard }], guard := some (2, false) }) (v := ?_) rfl (by kernel_rfl) (by kernel_rfl) (by kernel_rfl) (by kernel_rfl) (fun _ _ _ h => h) (Or.inl ⟨by rfl, fun w _ => ?_⟩) ?_
        rotate_left
        · (go_simp; first | done | with_reducible rfl)
        try simp only [Act.put, List.setIfInBounds_toArray, List.set_cons_zero, List.set_cons_succ]
        refine wpAnyW_take (i := 12) (oi := { dst := some 88, op := Op.pick (Operand.tmp 78) (Operand.const (Value.bool true)) (Operand.tmp 87), type := 4, pos := "law.go:105", after := #[{ on := 2, ground := Ground.data }, { on := 11, ground := Ground.data }], guard := none }) (v := ?_) rfl (by kernel_rfl) (by kernel_rfl) (by kernel_rfl) (by kernel_rfl) (fun _ _ _ h => h) (Or.inl ⟨by rfl, fun w _ => ?_⟩) ?_
        rotate_left
        · (go_simp; first | done | with_reducible rfl)
        try simp only [Act.put, List.setIfInBounds_toArray, List.set_cons_zero, List.set_cons_succ]
        refine wpAnyW_done (by kernel_rfl) ?_ _
        go_wp2
        obtain ⟨p60, p61, p62, p6l⟩ := box3 HP6.out.box
        have hfew := HP6.out.few
        go_loopw [14] (fun j ws => ∃ (i d : Nat), i ≤ LR5.length ∧ j = .int .i64 i ∧ ws = w6.drewN d) (fun j _ => LR5.length - (intOf j).toNat)
        case atStart => exact ⟨0, 0, by omega, rfl, rfl⟩
        case round =>
          obtain ⟨i, d, hi, rfl, rfl⟩ := hrel
          have HPD := hid (HP6.out.on (bw_drewN w6 d))
          by_cases h7 : i < LR5.length
          · have h7' : (i : Int) < (LR5.length : Int) := by omega
            have HVA := hid (Valid_any (HPD.out.pw.ms.ds.bw (Bw.drew (Bw.refl _))) (i : Int))
            have p62d := HPD.out.box.cell 2
            rw [HPD.out.valid h7] at HVA
            obtain ⟨b7, o7, e7, hl7, _, _, v7⟩ := HPD.out.pw.rs.at h7
            subst e7
            obtain ⟨ok, hok7⟩ : ∃ ok, LR5[i].1.ok = ok := ⟨_, rfl⟩
            rw [hok7] at v7 HVA
            have hoo : (ok != ok) = false := by simp
            clear hok7
            go_wp2
            refine wp_region_W (fun w' => w'.cell? ⟨w4.heap.size, 2, none⟩ = some (.slice (some ⟨b7, o7, none⟩) LR5.length c5) ∧ w'.cell? ⟨b7, o7 + i * 3 + 2, none⟩ = some (.bool ok)) (fun j => if j == 2 then 0 else 1) (by kernel_rfl) ?_
            generalize hW9 : (w6.drewN d).drew = W9
            have hS9 : (fun w' => w'.cell? ⟨w4.heap.size, 2, none⟩ = some (.slice (some ⟨b7, o7, none⟩) LR5.length c5) ∧ w'.cell? ⟨b7, o7 + i * 3 + 2, none⟩ = some (.bool ok)) W9 := by rw [← hW9]; exact ⟨p62d, v7⟩
            have HVB := hid (show Calls Try.prog 15 #[.pointer (some ⟨p, 0, none⟩), .int .i64 (i : Nat)] W9 fun e w' => e = .returned (.bool ok) ∧ w' = W9 by rw [← hW9]; exact HVA.out)
            refine wpAnyW_take (i := 0) (oi := { dst := some 96, op := Op.move (Operand.tmp 7), type := 25, pos := "law.go:109", after := #[], guard := none }) (v := ?_) rfl (by kernel_rfl) (by kernel_rfl) (by kernel_rfl) (by kernel_rfl) (fun _ _ _ h => h) (Or.inl ⟨by rfl, fun w _ => ?_⟩) ?_
            rotate_left
            · (go_simp; first | done | with_reducible rfl)
            try simp only [Act.put, List.setIfInBounds_toArray, List.set_cons_zero, List.set_cons_succ]
            refine wpAnyW_take (i := 1) (oi := { dst := some 97, op := Op.move (Operand.tmp 14), type := 3, pos := "law.go:109", after := #[], guard := none }) (v := ?_) rfl (by kernel_rfl) (by kernel_rfl) (by kernel_rfl) (by kernel_rfl) (fun _ _ _ h => h) (Or.inl ⟨by rfl, fun w _ => ?_⟩) ?_
            rotate_left
            · (go_simp; first | done | with_reducible rfl)
            try simp only [Act.put, List.setIfInBounds_toArray, List.set_cons_zero, List.set_cons_succ]
            refine wpAnyW_take (i := 3) (oi := { dst := some 99, op := Op.fieldAddr 31 (Operand.tmp 9) 2, type := 0, pos := "law.go:109", after := #[], guard := none }) (v := ?_) rfl (by kernel_rfl) (by kernel_rfl) (by kernel_rfl) (by kernel_rfl) (fun _ _ _ h => h) (Or.inl ⟨by rfl, fun w _ => ?_⟩) ?_
            rotate_left
            · (go_simp; first | done | with_reducible rfl)
            try simp only [Act.put, List.setIfInBounds_toArray, List.set_cons_zero, List.set_cons_succ]
            refine wpAnyW_load (i := 4) (oi := { dst := some 100, op := Op.load 29 (Operand.tmp 99), type := 29, pos := "law.go:109", after := #[{ on := 3, ground := Ground.data }], guard := none }) (v := ?_) rfl (by kernel_rfl) (by kernel_rfl) (by kernel_rfl) (by kernel_rfl) (by kernel_rfl) (fun _ _ _ h => h) (Or.inl ⟨by rfl, fun w hS => ?_⟩) hS9 ?_
            rotate_left
            · (obtain ⟨s1, s2⟩ := hS; go_simp; first | done | with_reducible rfl)
            try simp only [Act.put, List.setIfInBounds_toArray, List.set_cons_zero, List.set_cons_succ]
            refine wpAnyW_take (i := 5) (oi := { dst := some 101, op := Op.move (Operand.tmp 14), type := 3, pos := "law.go:109", after := #[], guard := none }) (v := ?_) rfl (by kernel_rfl) (by kernel_rfl) (by kernel_rfl) (by kernel_rfl) (fun _ _ _ h => h) (Or.inl ⟨by rfl, fun w _ => ?_⟩) ?_
            rotate_left
            · (go_simp; first | done | with_reducible rfl)
            try simp only [Act.put, List.setIfInBounds_toArray, List.set_cons_zero, List.set_cons_succ]
            refine wpAnyW_take (i := 6) (oi := { dst := some 102, op := Op.indexAddr 29 (Operand.tmp 100) (Operand.tmp 101), type := 0, pos := "law.go:109", after := #[{ on := 4, ground := Ground.data }, { on := 5, ground := Ground.data }], guard := none }) (v := ?_) rfl (by kernel_rfl) (by kernel_rfl) (by kernel_rfl) (by kernel_rfl) (fun _ _ _ h => h) (Or.inl ⟨by rfl, fun w _ => ?_⟩) ?_
            rotate_left
            · (go_simp; first | done | with_reducible rfl)
            try simp only [Act.put, List.setIfInBounds_toArray, List.set_cons_zero, List.set_cons_succ]
            refine wpAnyW_take (i := 7) (oi := { dst := some 103, op := Op.fieldAddr 45 (Operand.tmp 102) 2, type := 0, pos := "law.go:109", after := #[{ on := 6, ground := Ground.data }], guard := none }) (v := ?_) rfl (by kernel_rfl) (by kernel_rfl) (by kernel_rfl) (by kernel_rfl) (fun _ _ _ h => h) (Or.inl ⟨by rfl, fun w _ => ?_⟩) ?_
            rotate_left
            · (go_simp; first | done | with_reducible rfl)
            try simp only [Act.put, List.setIfInBounds_toArray, List.set_cons_zero, List.set_cons_succ]
            refine wpAnyW_load (i := 8) (oi := { dst := some 104, op := Op.load 4 (Operand.tmp 103), type := 4, pos := "law.go:109", after := #[{ on := 7, ground := Ground.data }], guard := none }) (v := ?_) rfl (by kernel_rfl) (by kernel_rfl) (by kernel_rfl) (by kernel_rfl) (by kernel_rfl) (fun _ _ _ h => h) (Or.inl ⟨by rfl, fun w hS => ?_⟩) hS9 ?_
            rotate_left
            · (obtain ⟨s1, s2⟩ := hS; go_simp; first | done | with_reducible rfl)
            try simp only [Act.put, List.setIfInBounds_toArray, List.set_cons_zero, List.set_cons_succ]
            refine wpAnyW_ready (rs := [2]) (by kernel_rfl) (by simp) ?_
            refine (AllReadyW.cons (o := { dst := some 98, op := Op.call { callee := Callee.value (Operand.func 15), args := #[Operand.tmp 96, Operand.tmp 97], argTypes := #[25, 3] }, type := 4, pos := "law.go:109", after := #[{ on := 0, ground := Ground.data }, { on := 1, ground := Ground.data }], guard := none }) rfl (fun K hK => ?_) AllReadyW.nil)
            go_simp
            refine HVB.out.mono ?_
            rintro e w9 ⟨rfl, hw9⟩
            subst w9
            refine hK.out _ _ hS9 ?_
            clear hK K
            try simp only [Act.put, List.setIfInBounds_toArray, List.set_cons_zero, List.set_cons_succ]
            refine wpAnyW_take (i := 9) (oi := { dst := some 105, op := Op.binOp BinOp.neq 4 (Operand.tmp 98) (Operand.tmp 104) 4, type := 4, pos := "law.go:109", after := #[{ on := 2, ground := Ground.data }, { on := 8, ground := Ground.data }], guard := none }) (v := ?_) rfl (by kernel_rfl) (by kernel_rfl) (by kernel_rfl) (by kernel_rfl) (fun _ _ _ h => h) (Or.inl ⟨by rfl, fun w _ => ?_⟩) ?_
            rotate_left
            · (go_simp; first | done | with_reducible rfl)
            try simp only [Act.put, List.setIfInBounds_toArray, List.set_cons_zero, List.set_cons_succ]
            refine wpAnyW_done (by kernel_rfl) ?_ _
            subst hW9
            go_wp2
            go_roundw
            all_goals first
              | exact ⟨i + 1, _, by omega, by go_num, rfl⟩
              | exact ⟨i + 1, d + 1, by omega, by go_num, by simp⟩
              | (simp [intOf]; omega)
          · have h7' : ¬ (i : Int) < (LR5.length : Int) := by omega
            go_wp2
            go_roundw
            all_goals first
              | exact ⟨k + 1, bs5, rv5, L5, _, LR5, by omega, by go_num, HPD.out⟩
              | (simp [intOf]; omega)
      · go_simp
        have HZ0 := hid (Blk.new W0 #[.int .i64 0, .int .i64 0, .slice none 0 0] 31)
        refine hK.out _ _ (hS.out _ (Bw.alloc HBW.out _) (HBB.out.alloc _)) ?_
        clear hK K
        try simp only [Act.put, List.setIfInBounds_toArray, List.set_cons_zero, List.set_cons_succ]
        refine wpAnyW_ready (rs := [6]) (by kernel_rfl) (by simp) ?_
        refine (AllReadyW.cons (o := { dst := some 72, op := Op.call { callee := Callee.value (Operand.func 13), args := #[Operand.tmp 66, Operand.tmp 67, Operand.tmp 71], argTypes := #[25, 31, 41] }, type := 35, pos := "law.go:103", after := #[{ on := 0, ground := Ground.data }, { on := 1, ground := Ground.data }, { on := 5, ground := Ground.data }], guard := none }) rfl (fun K hK => ?_) AllReadyW.nil)
        go_simp
        refine (HSTEP.out (W0.alloc (.cells #[.int .i64 0, .int .i64 0, .slice none 0 0] 31)) _ (HX.out.pw.two (N := W0.heap.size) (Bw.alloc HB0.out _) HB0.out.size (by simp))).mono ?_
        rintro e w5 ⟨bs5, rv5, L5, v5, LR5, he, hw5, hn5⟩
        unfold rV at he
        obtain ⟨a5, c5, e5⟩ := hw5.rs.form
        subst e5
        subst he
        have HW5 := hid hw5
        have HN5 := hid (Nx.wrap (R := wr.heap.size) (Bw.alloc HB0.out _) hn5 (Bw.refl _) (Ex.refl _ _) (Nat.le_refl _))
        have HB5 := hid ((HBB.out.alloc _).ex hn5.ex HX.out.nB)
        have HNN := hid (show W0.heap.size ∉ bs from fun hm => by have := HX.out.pw.ms.ds.lt _ hm; have := HB0.out.size; omega)
        have HZ5 := hid (HZ0.out.ex hn5.ex HNN.out)
        have HNN5 := hid (hn5.notin (A := W0.heap.size) (by simp) HNN.out)
        clear hw5 hn5
        obtain ⟨z0, z1, z2, zl⟩ := box3 HZ5.out
        have zf := HZ5.out.free
        refine hK.out _ _ (hS.out _ HW5.out.ms.bw HB5.out) ?_
        clear hK K
        try simp only [Act.put, List.setIfInBounds_toArray, List.set_cons_zero, List.set_cons_succ]
        refine wpAnyW_take (i := 7) (oi := { dst := some 65, op := Op.move (Operand.tmp 72), type := 35, pos := "law.go:103", after := #[{ on := 6, ground := Ground.data }], guard := none }) (v := ?_) rfl (by kernel_rfl) (by kernel_rfl) (by kernel_rfl) (by kernel_rfl) (fun _ _ _ h => h) (Or.inl ⟨by rfl, fun w _ => ?_⟩) ?_
        rotate_left
        · (go_simp; first | done | with_reducible rfl)
        try simp only [Act.put, List.setIfInBounds_toArray, List.set_cons_zero, List.set_cons_succ]
        refine wpAnyW_take (i := 8) (oi := { dst := some 73, op := Op.extract (Operand.tmp 65) 0, type := 31, pos := "law.go:103", after := #[{ on := 7, ground := Ground.data }], guard := none }) (v := ?_) rfl (by kernel_rfl) (by kernel_rfl) (by kernel_rfl) (by kernel_rfl) (fun _ _ _ h => h) (Or.inl ⟨by rfl, fun w _ => ?_⟩) ?_
        rotate_left
        · (go_simp; first | done | with_reducible rfl)
        try simp only [Act.put, List.setIfInBounds_toArray, List.set_cons_zero, List.set_cons_succ]
        refine wpAnyW_take (i := 9) (oi := { dst := some 74, op := Op.extract (Operand.tmp 65) 1, type := 4, pos := "law.go:103", after := #[{ on := 7, ground := Ground.data }, { on := 11, ground := Ground.gcOnly Departure.lateStores }], guard := none }) (v := ?_) rfl (by kernel_rfl) (by kernel_rfl) (by kernel_rfl) (by kernel_rfl) (fun _ _ _ h => h) (Or.inl ⟨by rfl, fun w _ => ?_⟩) ?_
        rotate_left
        · (go_simp; first | done | with_reducible rfl)
        try simp only [Act.put, List.setIfInBounds_toArray, List.set_cons_zero, List.set_cons_succ]
        refine wpAnyW_ready (rs := [11]) (by kernel_rfl) (by simp) ?_
        refine (AllReadyW.cons (o := { dst := none, op := Op.store 31 (Operand.tmp 12) (Operand.tmp 73), type := 0, pos := "law.go:103", after := #[{ on := 10, ground := Ground.data }, { on := 8, ground := Ground.data }, { on := 6, ground := Ground.chain }, { on := 0, ground := Ground.phase }, { on := 1, ground := Ground.phase }, { on := 2, ground := Ground.phase }, { on := 3, ground := Ground.phase }, { on := 4, ground := Ground.phase }, { on := 5, ground := Ground.phase }, { on := 6, ground := Ground.phase }, { on := 7, ground := Ground.phase }, { on := 8, ground := Ground.phase }, { on := 9, ground := Ground.textOnly Departure.lateStores }, { on := 10, ground := Ground.phase }], guard := none }) rfl (fun K hK => ?_) AllReadyW.nil)
        go_simp
        refine hK.out _ _ trivial ?_
        clear hK K
        try simp only [Act.put, List.setIfInBounds_toArray, List.set_cons_zero, List.set_cons_succ]
        refine wpAnyW_take (i := 12) (oi := { dst := some 13, op := Op.assign (Operand.tmp 74), type := 4, pos := "law.go:103", after := #[{ on := 9, ground := Ground.data }, { on := 11, ground := Ground.chain }, { on := 0, ground := Ground.phase }, { on := 1, ground := Ground.phase }, { on := 2, ground := Ground.phase }, { on := 3, ground := Ground.phase }, { on := 4, ground := Ground.phase }, { on := 5, ground := Ground.phase }, { on := 6, ground := Ground.phase }, { on := 7, ground := Ground.phase }, { on := 8, ground := Ground.phase }, { on := 9, ground := Ground.phase }, { on := 10, ground := Ground.phase }, { on := 11, ground := Ground.phase }], guard := none }) (v := ?_) rfl (by kernel_rfl) (by kernel_rfl) (by kernel_rfl) (by kernel_rfl) (fun _ _ _ h => h) (Or.inl ⟨by rfl, fun w _ => ?_⟩) ?_
        rotate_left
        · (go_simp; first | done | with_reducible rfl)
        try simp only [Act.put, List.setIfInBounds_toArray, List.set_cons_zero, List.set_cons_succ]
        refine wpAnyW_done (by kernel_rfl) ?_ _
        have hBN : w4.heap.size ≠ W0.heap.size := by have := HBB.out.lt; omega
        have hexA : Ex [W0.heap.size] w5 (((w5.setCell ⟨W0.heap.size, 0, none⟩ (.int .i64 F)).setCell ⟨W0.heap.size, 1, none⟩ (.int .i64 G)).setCell ⟨W0.heap.size, 2, none⟩ (.slice a5 LR5.length c5)) := Ex.set (Ex.set (Ex.set (Ex.refl _ _) (.inl (by simp)) _ _) (.inl (by simp)) _ _) (.inl (by simp)) _ _
        have HWX := hid (show PW w (((w5.setCell ⟨W0.heap.size, 0, none⟩ (.int .i64 F)).setCell ⟨W0.heap.size, 1, none⟩ (.int .i64 G)).setCell ⟨W0.heap.size, 2, none⟩ (.slice a5 LR5.length c5)) p bs5 F G rv5 L5 (.slice a5 LR5.length c5) LR5 (k + 1) (fun b => b ≠ w4.heap.size) from HW5.out.one hexA (by have := HBW.out.size; omega) HNN5.out)
        have HNX := hid (Nx.wrap (wr := wr) (R := W0.heap.size) (Bw.refl _) HN5.out (Bw.refl _) hexA HB0.out.size)
        have HBX := hid (((HB5.out.other (p := ⟨W0.heap.size, 0, none⟩) (fun e => hBN e.symm) (.int .i64 F)).other (p := ⟨W0.heap.size, 1, none⟩) (fun e => hBN e.symm) (.int .i64 G)).other (p := ⟨W0.heap.size, 2, none⟩) (fun e => hBN e.symm) (.slice a5 LR5.length c5))
        have HSX := hid (((HZ5.out.set 0 (.int .i64 F)).set 1 (.int .i64 G)).set 2 (.slice a5 LR5.length c5))
        have hNB := hid (show W0.heap.size ≠ w4.heap.size from hBN.symm)
        clear hexA hBN
        generalize hX : (((w5.setCell ⟨W0.heap.size, 0, none⟩ (.int .i64 F)).setCell ⟨W0.heap.size, 1, none⟩ (.int .i64 G)).setCell ⟨W0.heap.size, 2, none⟩ (.slice a5 LR5.length c5)) = X at HWX HNX HBX HSX
        obtain ⟨s0, s1, s2, sl⟩ := box3 HSX.out
        obtain ⟨q0, q1, q2, ql⟩ := box3 HBX.out
        have qf := HBX.out.free
        have HP1 := hid (HX.out.step (X := (((X.setCell ⟨w4.heap.size, 0, none⟩ (.int .i64 F)).setCell ⟨w4.heap.size, 1, none⟩ (.int .i64 G)).setCell ⟨w4.heap.size, 2, none⟩ (.slice a5 LR5.length c5))) HWX.out HNX.out (Bw.refl _) (Ex.set (Ex.set (Ex.set (Ex.refl _ _) (.inl (by simp)) _ _) (.inl (by simp)) _ _) (.inl (by simp)) _ _) (((HBX.out.set 0 _).set 1 _).set 2 _))
        have hNB2 := hNB.out
        clear hX HWX HNX
        go_wp2
        generalize hY : (((X.setCell ⟨w4.heap.size, 0, none⟩ (.int .i64 F)).setCell ⟨w4.heap.size, 1, none⟩ (.int .i64 G)).setCell ⟨w4.heap.size, 2, none⟩ (.slice a5 LR5.length c5)) = Y at HP1
        clear hY s0 s1 s2 sl q0 q1 q2 ql qf HSX HBX
        refine wp_region_W (fun w' => w'.cell? ⟨w4.heap.size, 0, none⟩ = some (.int .i64 F) ∧ w'.cell? ⟨w4.heap.size, 1, none⟩ = some (.int .i64 G) ∧ w'.cell? ⟨w4.heap.size, 2, none⟩ = some (.slice a5 LR5.length c5) ∧ w'.cell? ⟨b, o + k * 4 + 1, none⟩ = some (.int .i64 y2)) (fun j => if j == 10 then 0 else 1) (by kernel_rfl) ?_
        have hb1 : Bw Y Y.drew := Bw.drew (Bw.refl _)
        generalize hY1 : Y.drew = Y1 at hb1
        have HPY := hid (HP1.out.on hb1)
        have hS6 := hid (show ∀ W', Bw Y1 W' → (fun w' => w'.cell? ⟨w4.heap.size, 0, none⟩ = some (.int .i64 F) ∧ w'.cell? ⟨w4.heap.size, 1, none⟩ = some (.int .i64 G) ∧ w'.cell? ⟨w4.heap.size, 2, none⟩ = some (.slice a5 LR5.length c5) ∧ w'.cell? ⟨b, o + k * 4 + 1, none⟩ = some (.int .i64 y2)) W' from fun W' hb => ⟨(HPY.out.box.bw hb).cell 0, (HPY.out.box.bw hb).cell 1, (HPY.out.box.bw hb).cell 2, (HLK2.out W' (HPY.out.pw.ms.bw.trans hb)).1⟩)
        clear hb1 hY1
        refine wpAnyW_take (i := 0) (oi := { dst := some 76, op := Op.move (Operand.tmp 13), type := 4, pos := "law.go:105", after := #[], guard := none }) (v := ?_) rfl (by kernel_rfl) (by kernel_rfl) (by kernel_rfl) (by kernel_rfl) (fun _ _ _ h => h) (Or.inl ⟨by rfl, fun w _ => ?_⟩) ?_
        rotate_left
        · (go_simp; first | done | with_reducible rfl)
        try simp only [Act.put, List.setIfInBounds_toArray, List.set_cons_zero, List.set_cons_succ]
        refine wpAnyW_take (i := 1) (oi := { dst := some 77, op := Op.unOp UnOp.not 4 (Operand.tmp 76), type := 4, pos := "law.go:105", after := #[{ on := 0, ground := Ground.data }], guard := none }) (v := ?_) rfl (by kernel_rfl) (by kernel_rfl) (by kernel_rfl) (by kernel_rfl) (fun _ _ _ h => h) (Or.inl ⟨by rfl, fun w _ => ?_⟩) ?_
        rotate_left
        · (go_simp; first | done | with_reducible rfl)
        try simp only [Act.put, List.setIfInBounds_toArray, List.set_cons_zero, List.set_cons_succ]
        refine wpAnyW_take (i := 2) (oi := { dst := some 78, op := Op.move (Operand.tmp 77), type := 4, pos := "law.go:105", after := #[{ on := 1, ground := Ground.data }], guard := none }) (v := ?_) rfl (by kernel_rfl) (by kernel_rfl) (by kernel_rfl) (by kernel_rfl) (fun _ _ _ h => h) (Or.inl ⟨by rfl, fun w _ => ?_⟩) ?_
        rotate_left
        · (go_simp; first | done | with_reducible rfl)
        try simp only [Act.put, List.setIfInBounds_toArray, List.set_cons_zero, List.set_cons_succ]
        refine wpAnyW_take (i := 3) (oi := { dst := some 79, op := Op.move (Operand.tmp 7), type := 25, pos := "law.go:105", after := #[{ on := 2, ground := Ground.guard }], guard := some (2, false) }) (v := ?_) rfl (by kernel_rfl) (by kernel_rfl) (by kernel_rfl) (by kernel_rfl) (fun _ _ _ h => h) (Or.inl ⟨by rfl, fun w _ => ?_⟩) ?_
        rotate_left
        · (go_simp; first | done | with_reducible rfl)
        try simp only [Act.put, List.setIfInBounds_toArray, List.set_cons_zero, List.set_cons_succ]
        refine wpAnyW_load (i := 4) (oi := { dst := some 80, op := Op.load 31 (Operand.tmp 9), type := 31, pos := "law.go:105", after := #[{ on := 2, ground := Ground.guard }], guard := some (2, false) }) (v := ?_) rfl (by kernel_rfl) (by kernel_rfl) (by kernel_rfl) (by kernel_rfl) (by kernel_rfl) (fun _ _ _ h => h) (Or.inl ⟨by rfl, fun w hS => ?_⟩) (hS6.out _ (Bw.refl _)) ?_
        rotate_left
        · (obtain ⟨s1, s2, s3, s4⟩ := hS; go_simp; first | done | with_reducible rfl)
        try simp only [Act.put, List.setIfInBounds_toArray, List.set_cons_zero, List.set_cons_succ]
        refine wpAnyW_take (i := 5) (oi := { dst := some 81, op := Op.move (Operand.tmp 2), type := 22, pos := "law.go:105", after := #[{ on := 2, ground := Ground.guard }], guard := some (2, false) }) (v := ?_) rfl (by kernel_rfl) (by kernel_rfl) (by kernel_rfl) (by kernel_rfl) (fun _ _ _ h => h) (Or.inl ⟨by rfl, fun w _ => ?_⟩) ?_
        rotate_left
        · (go_simp; first | done | with_reducible rfl)
        try simp only [Act.put, List.setIfInBounds_toArray, List.set_cons_zero, List.set_cons_succ]
        refine wpAnyW_take (i := 6) (oi := { dst := some 82, op := Op.move (Operand.tmp 11), type := 3, pos := "law.go:105", after := #[{ on := 2, ground := Ground.guard }], guard := some (2, false) }) (v := ?_) rfl (by kernel_rfl) (by kernel_rfl) (by kernel_rfl) (by kernel_rfl) (fun _ _ _ h => h) (Or.inl ⟨by rfl, fun w _ => ?_⟩) ?_
        rotate_left
        · (go_simp; first | done | with_reducible rfl)
        try simp only [Act.put, List.setIfInBounds_toArray, List.set_cons_zero, List.set_cons_succ]
        refine wpAnyW_take (i := 7) (oi := { dst := some 83, op := Op.indexAddr 22 (Operand.tmp 81) (Operand.tmp 82), type := 0, pos := "law.go:105", after := #[{ on := 5, ground := Ground.data }, { on := 6, ground := Ground.data }, { on := 2, ground := Ground.guard }], guard := some (2, false) }) (v := ?_) rfl (by kernel_rfl) (by kernel_rfl) (by kernel_rfl) (by kernel_rfl) (fun _ _ _ h => h) (Or.inl ⟨by rfl, fun w _ => ?_⟩) ?_
        rotate_left
        · (go_simp; first | done | with_reducible rfl)
        try simp only [Act.put, List.setIfInBounds_toArray, List.set_cons_zero, List.set_cons_succ]
        refine wpAnyW_take (i := 8) (oi := { dst := some 84, op := Op.fieldAddr 41 (Operand.tmp 83) 1, type := 0, pos := "law.go:105", after := #[{ on := 7, ground := Ground.data }, { on := 2, ground := Ground.guard }], guard := some (2, false) }) (v := ?_) rfl (by kernel_rfl) (by kernel_rfl) (by kernel_rfl) (by kernel_rfl) (fun _ _ _ h => h) (Or.inl ⟨by rfl, fun w _ => ?_⟩) ?_
        rotate_left
        · (go_simp; first | done | with_reducible rfl)
        try simp only [Act.put, List.setIfInBounds_toArray, List.set_cons_zero, List.set_cons_succ]
        refine wpAnyW_load (i := 9) (oi := { dst := some 85, op := Op.load 3 (Operand.tmp 84), type := 3, pos := "law.go:105", after := #[{ on := 8, ground := Ground.data }, { on := 2, ground := Ground.guard }], guard := some (2, false) }) (v := ?_) rfl (by kernel_rfl) (by kernel_rfl) (by kernel_rfl) (by kernel_rfl) (by kernel_rfl) (fun _ _ _ h => h) (Or.inl ⟨by rfl, fun w hS => ?_⟩) (hS6.out _ (Bw.refl _)) ?_
        rotate_left
        · (obtain ⟨s1, s2, s3, s4⟩ := hS; go_simp; first | done | with_reducible rfl)
        try simp only [Act.put, List.setIfInBounds_toArray, List.set_cons_zero, List.set_cons_succ]
        refine wpAnyW_ready (rs := [10]) (by kernel_rfl) (by simp) ?_
        refine (AllReadyW.cons (o := { dst := some 86, op := Op.call { callee := Callee.value (Operand.func 14), args := #[Operand.tmp 79, Operand.tmp 80, Operand.tmp 85], argTypes := #[25, 31, 3] }, type := 4, pos := "law.go:105", after := #[{ on := 3, ground := Ground.data }, { on := 4, ground := Ground.data }, { on := 9, ground := Ground.data }, { on := 2, ground := Ground.chain }, { on := 2, ground := Ground.guard }], guard := some (2, false) }) rfl (fun K hK => ?_) AllReadyW.nil)
        go_simp
        refine (asks_any HPY.out.pw y2).mono ?_
        rintro e w6 ⟨rfl, hb6⟩
        have HB6 := hid hb6
        have HP6 := hid (HPY.out.on hb6)
        clear hb6
        refine hK.out _ _ (hS6.out _ HB6.out) ?_
        clear hK K
        try simp only [Act.put, List.setIfInBounds_toArray, List.set_cons_zero, List.set_cons_succ]
        refine wpAnyW_take (i := 11) (oi := { dst := some 87, op := Op.unOp UnOp.not 4 (Operand.tmp 86), type := 4, pos := "law.go:105", after := #[{ on := 10, ground := Ground.data }, { on := 2, ground := Ground.guard }], guard := some (2, false) }) (v := ?_) rfl (by kernel_rfl) (by kernel_rfl) (by kernel_rfl) (by kernel_rfl) (fun _ _ _ h => h) (Or.inl ⟨by rfl, fun w _ => ?_⟩) ?_
        rotate_left
        · (go_simp; first | done | with_reducible rfl)
        try simp only [Act.put, List.setIfInBounds_toArray, List.set_cons_zero, List.set_cons_succ]
        refine wpAnyW_take (i := 12) (oi := { dst := some 88, op := Op.pick (Operand.tmp 78) (Operand.const (Value.bool true)) (Operand.tmp 87), type := 4, pos := "law.go:105", after := #[{ on := 2, ground := Ground.data }, { on := 11, ground := Ground.data }], guard := none }) (v := ?_) rfl (by kernel_rfl) (by kernel_rfl) (by kernel_rfl) (by kernel_rfl) (fun _ _ _ h => h) (Or.inl ⟨by rfl, fun w _ => ?_⟩) ?_
        rotate_left
        · (go_simp; first | done | with_reducible rfl)
        try simp only [Act.put, List.setIfInBounds_toArray, List.set_cons_zero, List.set_cons_succ]
        refine wpAnyW_done (by kernel_rfl) ?_ _
        go_wp2
        obtain ⟨p60, p61, p62, p6l⟩ := box3 HP6.out.box
        have hfew := HP6.out.few
        go_loopw [14] (fun j ws => ∃ (i d : Nat), i ≤ LR5.length ∧ j = .int .i64 i ∧ ws = w6.drewN d) (fun j _ => LR5.length - (intOf j).toNat)
        case atStart => exact ⟨0, 0, by omega, rfl, rfl⟩
        case round =>
          obtain ⟨i, d, hi, rfl, rfl⟩ := hrel
          have HPD := hid (HP6.out.on (bw_drewN w6 d))
          by_cases h7 : i < LR5.length
          · have h7' : (i : Int) < (LR5.length : Int) := by omega
            have HVA := hid (Valid_any (HPD.out.pw.ms.ds.bw (Bw.drew (Bw.refl _))) (i : Int))
            have p62d := HPD.out.box.cell 2
            rw [HPD.out.valid h7] at HVA
            obtain ⟨b7, o7, e7, hl7, _, _, v7⟩ := HPD.out.pw.rs.at h7
            subst e7
            obtain ⟨ok, hok7⟩ : ∃ ok, LR5[i].1.ok = ok := ⟨_, rfl⟩
            rw [hok7] at v7 HVA
            have hoo : (ok != ok) = false := by simp
            clear hok7
            go_wp2
            refine wp_region_W (fun w' => w'.cell? ⟨w4.heap.size, 2, none⟩ = some (.slice (some ⟨b7, o7, none⟩) LR5.length c5) ∧ w'.cell? ⟨b7, o7 + i * 3 + 2, none⟩ = some (.bool ok)) (fun j => if j == 2 then 0 else 1) (by kernel_rfl) ?_
            generalize hW9 : (w6.drewN d).drew = W9
            have hS9 : (fun w' => w'.cell? ⟨w4.heap.size, 2, none⟩ = some (.slice (some ⟨b7, o7, none⟩) LR5.length c5) ∧ w'.cell? ⟨b7, o7 + i * 3 + 2, none⟩ = some (.bool ok)) W9 := by rw [← hW9]; exact ⟨p62d, v7⟩
            have HVB := hid (show Calls Try.prog 15 #[.pointer (some ⟨p, 0, none⟩), .int .i64 (i : Nat)] W9 fun e w' => e = .returned (.bool ok) ∧ w' = W9 by rw [← hW9]; exact HVA.out)
            refine wpAnyW_take (i := 0) (oi := { dst := some 96, op := Op.move (Operand.tmp 7), type := 25, pos := "law.go:109", after := #[], guard := none }) (v := ?_) rfl (by kernel_rfl) (by kernel_rfl) (by kernel_rfl) (by kernel_rfl) (fun _ _ _ h => h) (Or.inl ⟨by rfl, fun w _ => ?_⟩) ?_
            rotate_left
            · (go_simp; first | done | with_reducible rfl)
            try simp only [Act.put, List.setIfInBounds_toArray, List.set_cons_zero, List.set_cons_succ]
            refine wpAnyW_take (i := 1) (oi := { dst := some 97, op := Op.move (Operand.tmp 14), type := 3, pos := "law.go:109", after := #[], guard := none }) (v := ?_) rfl (by kernel_rfl) (by kernel_rfl) (by kernel_rfl) (by kernel_rfl) (fun _ _ _ h => h) (Or.inl ⟨by rfl, fun w _ => ?_⟩) ?_
            rotate_left
            · (go_simp; first | done | with_reducible rfl)
            try simp only [Act.put, List.setIfInBounds_toArray, List.set_cons_zero, List.set_cons_succ]
            refine wpAnyW_take (i := 3) (oi := { dst := some 99, op := Op.fieldAddr 31 (Operand.tmp 9) 2, type := 0, pos := "law.go:109", after := #[], guard := none }) (v := ?_) rfl (by kernel_rfl) (by kernel_rfl) (by kernel_rfl) (by kernel_rfl) (fun _ _ _ h => h) (Or.inl ⟨by rfl, fun w _ => ?_⟩) ?_
            rotate_left
            · (go_simp; first | done | with_reducible rfl)
            try simp only [Act.put, List.setIfInBounds_toArray, List.set_cons_zero, List.set_cons_succ]
            refine wpAnyW_load (i := 4) (oi := { dst := some 100, op := Op.load 29 (Operand.tmp 99), type := 29, pos := "law.go:109", after := #[{ on := 3, ground := Ground.data }], guard := none }) (v := ?_) rfl (by kernel_rfl) (by kernel_rfl) (by kernel_rfl) (by kernel_rfl) (by kernel_rfl) (fun _ _ _ h => h) (Or.inl ⟨by rfl, fun w hS => ?_⟩) hS9 ?_
            rotate_left
            · (obtain ⟨s1, s2⟩ := hS; go_simp; first | done | with_reducible rfl)
            try simp only [Act.put, List.setIfInBounds_toArray, List.set_cons_zero, List.set_cons_succ]
            refine wpAnyW_take (i := 5) (oi := { dst := some 101, op := Op.move (Operand.tmp 14), type := 3, pos := "law.go:109", after := #[], guard := none }) (v := ?_) rfl (by kernel_rfl) (by kernel_rfl) (by kernel_rfl) (by kernel_rfl) (fun _ _ _ h => h) (Or.inl ⟨by rfl, fun w _ => ?_⟩) ?_
            rotate_left
            · (go_simp; first | done | with_reducible rfl)
            try simp only [Act.put, List.setIfInBounds_toArray, List.set_cons_zero, List.set_cons_succ]
            refine wpAnyW_take (i := 6) (oi := { dst := some 102, op := Op.indexAddr 29 (Operand.tmp 100) (Operand.tmp 101), type := 0, pos := "law.go:109", after := #[{ on := 4, ground := Ground.data }, { on := 5, ground := Ground.data }], guard := none }) (v := ?_) rfl (by kernel_rfl) (by kernel_rfl) (by kernel_rfl) (by kernel_rfl) (fun _ _ _ h => h) (Or.inl ⟨by rfl, fun w _ => ?_⟩) ?_
            rotate_left
            · (go_simp; first | done | with_reducible rfl)
            try simp only [Act.put, List.setIfInBounds_toArray, List.set_cons_zero, List.set_cons_succ]
            refine wpAnyW_take (i := 7) (oi := { dst := some 103, op := Op.fieldAddr 45 (Operand.tmp 102) 2, type := 0, pos := "law.go:109", after := #[{ on := 6, ground := Ground.data }], guard := none }) (v := ?_) rfl (by kernel_rfl) (by kernel_rfl) (by kernel_rfl) (by kernel_rfl) (fun _ _ _ h => h) (Or.inl ⟨by rfl, fun w _ => ?_⟩) ?_
            rotate_left
            · (go_simp; first | done | with_reducible rfl)
            try simp only [Act.put, List.setIfInBounds_toArray, List.set_cons_zero, List.set_cons_succ]
            refine wpAnyW_load (i := 8) (oi := { dst := some 104, op := Op.load 4 (Operand.tmp 103), type := 4, pos := "law.go:109", after := #[{ on := 7, ground := Ground.data }], guard := none }) (v := ?_) rfl (by kernel_rfl) (by kernel_rfl) (by kernel_rfl) (by kernel_rfl) (by kernel_rfl) (fun _ _ _ h => h) (Or.inl ⟨by rfl, fun w hS => ?_⟩) hS9 ?_
            rotate_left
            · (obtain ⟨s1, s2⟩ := hS; go_simp; first | done | with_reducible rfl)
            try simp only [Act.put, List.setIfInBounds_toArray, List.set_cons_zero, List.set_cons_succ]
            refine wpAnyW_ready (rs := [2]) (by kernel_rfl) (by simp) ?_
            refine (AllReadyW.cons (o := { dst := some 98, op := Op.call { callee := Callee.value (Operand.func 15), args := #[Operand.tmp 96, Operand.tmp 97], argTypes := #[25, 3] }, type := 4, pos := "law.go:109", after := #[{ on := 0, ground := Ground.data }, { on := 1, ground := Ground.data }], guard := none }) rfl (fun K hK => ?_) AllReadyW.nil)
            go_simp
            refine HVB.out.mono ?_
            rintro e w9 ⟨rfl, hw9⟩
            subst w9
            refine hK.out _ _ hS9 ?_
            clear hK K
            try simp only [Act.put, List.setIfInBounds_toArray, List.set_cons_zero, List.set_cons_succ]
            refine wpAnyW_take (i := 9) (oi := { dst := some 105, op := Op.binOp BinOp.neq 4 (Operand.tmp 98) (Operand.tmp 104) 4, type := 4, pos := "law.go:109", after := #[{ on := 2, ground := Ground.data }, { on := 8, ground := Ground.data }], guard := none }) (v := ?_) rfl (by kernel_rfl) (by kernel_rfl) (by kernel_rfl) (by kernel_rfl) (fun _ _ _ h => h) (Or.inl ⟨by rfl, fun w _ => ?_⟩) ?_
            rotate_left
            · (go_simp; first | done | with_reducible rfl)
            try simp only [Act.put, List.setIfInBounds_toArray, List.set_cons_zero, List.set_cons_succ]
            refine wpAnyW_done (by kernel_rfl) ?_ _
            subst hW9
            go_wp2
            go_roundw
            all_goals first
              | exact ⟨i + 1, _, by omega, by go_num, rfl⟩
              | exact ⟨i + 1, d + 1, by omega, by go_num, by simp⟩
              | (simp [intOf]; omega)
          · have h7' : ¬ (i : Int) < (LR5.length : Int) := by omega
            go_wp2
            go_roundw
            all_goals first
              | exact ⟨k + 1, bs5, rv5, L5, _, LR5, by omega, by go_num, HPD.out⟩
              | (simp [intOf]; omega)

set_option maxRecDepth 100000 in
theorem lifted (os : Os) (started : os.Started) (H : Type) (enc : TypeId × Value → H) :
    ReturnsInHanded {} Try.checked os 3 .any (Rows.depsPlaysSpec.pre6 enc Try.prog Try.f3 Rows.depsPlaysRow.domain false) (Rows.depsPlaysSpec.post enc Try.prog Try.f3 false true false false) := by
  refine returnsInHanded_of_change (C := Try.checked) ownK started (by kernel_rfl) Try.func3
    (ChangeSpec.witness6 (enc := enc) (C := Try.checked) false ⟨#[], #[.int .i64 0, .int .i64 0, .slice none 0 0], []⟩ 8 (by kernel_rfl) (by kernel_rfl) (by kernel_rfl) (by kernel_rfl)) ?_
  intro W base args ds gs before hval0 hW hcnd _
  have hval : ∀ (j : Nat) t v, Try.f3.params[j]? = some t → args[j]? = some v → Value.okWide Try.prog W .any base t v := hval0
  have hW' := hW
  obtain ⟨p, q, hA0, hV, rfl, hfz, hnd⟩ := hW
  have hA : DataW.TrodAll enc Try.prog W 0 (fun _ => true) true Try.f3.params.toList args.toList ds p := hA0
  rw [Try.params3] at hA hval
  obtain ⟨v0, vs0, d0, ds0, p0, q0, hargs, rfl, rfl, h0, r0⟩ := trodAll_cons hA
  obtain ⟨v1, vs1, d1, ds1, p1, q1, rfl, rfl, rfl, h1, r1⟩ := trodAll_cons r0
  obtain ⟨v2, vs2, d2, ds2, p2, q2, rfl, rfl, rfl, h2, r2⟩ := trodAll_cons r1
  obtain ⟨rfl, rfl, rfl⟩ := trodAll_nil r2
  obtain rfl : args = #[v0, v1, v2] := by cases args; simp_all
  obtain ⟨rfl, rfl⟩ := trodVars_none hV
  have k0 := h0
  have lt0 : ∀ x ∈ p0, x.block < W.heap.size := by obtain ⟨m, hm⟩ := k0; exact DataW.trod_lt m _ _ _ hm
  have k1 := h1
  have lt1 : ∀ x ∈ p1, x.block < W.heap.size := by obtain ⟨m, hm⟩ := k1; exact DataW.trod_lt m _ _ _ hm
  have k2 := h2
  have lt2 : ∀ x ∈ p2, x.block < W.heap.size := by obtain ⟨m, hm⟩ := k2; exact DataW.trod_lt m _ _ _ hm
  obtain ⟨a0, rfl, rfl, rfl, w00⟩ := open_int Try.underlying3 (hval 0 3 v0 rfl rfl) h0
  have w0 := bounds_i64 w00
  obtain ⟨a1, rfl, rfl, rfl, w10⟩ := open_int Try.underlying3 (hval 1 3 v1 rfl rfl) h1
  have w1 := bounds_i64 w10
  obtain ⟨l2, w2⟩ := open_acts (hval 2 22 v2 rfl rfl) h2
  clear hA0 hval0
  refine (walk a0 w0 a1 w1 W v2 l2 w2).mono fun e W' ⟨he, bel⟩ => ?_
  subst he
  exact ⟨_, rfl, _, _, _, [], _, [], hW', trodAll_mk1 (shut_bool Try.underlying4 _), (trodAll_cons_mk (Below.trod laidOut (by kernel_rfl) (of_decide_eq_true (by kernel_rfl)) k0 bel lt0) (trodAll_cons_mk (Below.trod laidOut (by kernel_rfl) (of_decide_eq_true (by kernel_rfl)) k1 bel lt1) (trodAll_cons_mk (Below.trod laidOut (by kernel_rfl) (of_decide_eq_true (by kernel_rfl)) k2 bel lt2) trodAll_mk0))), rfl, Below.frame bel _, fun h => by cases h⟩

theorem over : Rows.depsPlaysRow.holds Try.pinned (OpenSpec.ofChange Rows.depsPlaysSpec) :=
  OpenClaim.holds_of_wide 3 Try.f3 rfl rfl rfl rfl rfl rfl rfl ⟨rfl, rfl, rfl, rfl, rfl⟩ rfl rfl rfl rfl rfl (by kernel_rfl) Try.func3 (by kernel_rfl)
    (of_decide_eq_true (by kernel_rfl)) (by unfold Func.isWrapper; first | (rw [if_pos (by decide +kernel)]; kernel_rfl) | (rw [if_neg (by decide +kernel)]; exact ⟨rfl, rfl⟩))
    (fun os started H enc _ => lifted os started H enc)

theorem proved : Rows.DepsPlaysSaid := over
end Go.Proofs.Ytaeifhfhahcoiaa.depsPlays
namespace Go.Proofs.Ytaeifhfhahcoiaa
theorem depsPlays_holds : Rows.DepsPlaysSaid := depsPlays.proved
#print axioms depsPlays_holds
end Go.Proofs.Ytaeifhfhahcoiaa
