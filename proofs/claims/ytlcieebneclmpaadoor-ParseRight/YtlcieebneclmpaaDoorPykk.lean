/- A key: contract. -/
import Derived.Test.YtlcieebneclmpaaDoorK9
import Derived.Test.YtlcieebneclmpaaDoorK10
set_option linter.unusedSimpArgs false
set_option linter.unusedVariables false
namespace Go.Proofs.YtlcieebneclmpaaDoor
open Go Go.RowKit

section
variable {B : World} {r g cap : Nat} {T : List ATok} {ex : Nat → Value}

set_option maxRecDepth 100000 in
set_option maxHeartbeats 8000000 in
theorem key_any (pa pb pc : Nat) (e0 : ex 0 = .func (.func 69) #[] #[.pointer (some ⟨pa, 0, none⟩), .pointer (some ⟨pb, 0, none⟩), .pointer (some ⟨pc, 0, none⟩)]) (f : Nat) (he : RdP B r g cap T ex f 69 #[.pointer (some ⟨pa, 0, none⟩), .pointer (some ⟨pb, 0, none⟩), .pointer (some ⟨pc, 0, none⟩)] (.lev 0)) : RdN B r g cap T ex (f + 1) 94 .key := by
  intro k w i o h ho hne
  simp only [pP] at hne ⊢
  have HS := hid (SI.begin h)
  have HE := hid he
  have zz := HS.out.ri.k.cell; have zf := HS.out.ri.k.free; have zl := HS.out.ri.k.lt
  clear h he
  unfold wantN want here at hne ⊢
  by_cases hn : (tk T i).1 = 1
  · rw [if_pos hn] at hne ⊢
    try dsimp only at hne ⊢
    have HN := hid hn
    clear hn
    cases hc : isT T (i + 1) ⟨#[58]⟩
    · rw [if_neg (by decide)]
      have HC := hid hc
      clear hc hne
      go_enter Tryd.func94, Tryd.ntmps94
      go_wp2_with (first
        | (go_at_call 79; refine (wantName_yes (HS.out.ri.bw (by repeat (first | exact Bw.refl _ | apply Bw.alloc | apply Bw.drewN | apply Bw.drew))) HN.out).mono ?_; unfold tokV; rintro e wt ⟨rfl, hr1, hk1⟩; have HT := hid (Blk.new wt #[.int .i64 (tk T i).1, .string (strOfNums (tk T i).2.1), .int .i64 (tk T i).2.2.1, .int .i64 (tk T i).2.2.2] 72); have HRT := hid (show wt.heap.size ≠ r by have := hr1.k.lt; omega); have HS := hid ((HS.out.bw (by repeat (first | exact Bw.refl _ | apply Bw.alloc | apply Bw.drewN | apply Bw.drew))).go hr1 hk1); have zz := HS.out.ri.k.cell; have zf := HS.out.ri.k.free; have zl := HS.out.ri.k.lt; clear hr1 hk1)
        | (go_at_call 62; refine (want_no _ (HS.out.ri.bw (by repeat (first | exact Bw.refl _ | apply Bw.alloc | apply Bw.drewN | apply Bw.drew))) HC.out).mono ?_; rintro e w1 ⟨rfl, hk1⟩; have HK := hid ((HS.out.kp.bw (by repeat (first | exact Bw.refl _ | apply Bw.alloc | apply Bw.drewN | apply Bw.drew))).trans hk1); clear hk1)
        | fail)
      all_goals exact ⟨rfl, rfl, HK.out⟩
    · rw [hc, if_pos rfl] at hne
      rw [if_pos rfl]
      try dsimp only at hne ⊢
      have HC := hid hc
      clear hc
      have HNE := hid (show pP T f (.lev 0) (i + 1 + 1) o ≠ .out from fun q => hne (by rw [q]; rfl))
      clear hne
      generalize hq : pP T f (.lev 0) (i + 1 + 1) o = R
      have HQ := hid hq
      clear hq
      cases R with
      | out => exact absurd HQ.out HNE.out
      | bad n m =>
        simp only [Res.bind]
        go_enter Tryd.func94, Tryd.ntmps94
        go_upto_region 3 with (first
          | (go_at_call 79; refine (wantName_yes (HS.out.ri.bw (by repeat (first | exact Bw.refl _ | apply Bw.alloc | apply Bw.drewN | apply Bw.drew))) HN.out).mono ?_; unfold tokV; rintro e wt ⟨rfl, hr1, hk1⟩; have HT := hid (Blk.new wt #[.int .i64 (tk T i).1, .string (strOfNums (tk T i).2.1), .int .i64 (tk T i).2.2.1, .int .i64 (tk T i).2.2.2] 72); have HRT := hid (show wt.heap.size ≠ r by have := hr1.k.lt; omega); have HS := hid ((HS.out.bw (by repeat (first | exact Bw.refl _ | apply Bw.alloc | apply Bw.drewN | apply Bw.drew))).go hr1 hk1); have zz := HS.out.ri.k.cell; have zf := HS.out.ri.k.free; have zl := HS.out.ri.k.lt; clear hr1 hk1)
          | (go_at_call 62; refine (want_yes _ (HS.out.ri.bw (by repeat (first | exact Bw.refl _ | apply Bw.alloc | apply Bw.drewN | apply Bw.drew))) HC.out).mono ?_; rintro e w1 ⟨rfl, hr1, hk1⟩; have HT := hid (HT.out.kp ((Kp.of_bw (by repeat (first | exact Bw.refl _ | apply Bw.alloc | apply Bw.drewN | apply Bw.drew))).trans hk1) HRT.out); have t1 := HT.out.cell; have tl := HT.out.lt; have HS := hid ((HS.out.bw (by repeat (first | exact Bw.refl _ | apply Bw.alloc | apply Bw.drewN | apply Bw.drew))).go hr1 hk1); have zz := HS.out.ri.k.cell; have zf := HS.out.ri.k.free; have zl := HS.out.ri.k.lt; clear hr1 hk1)
          | fail)
        refine wp_region_W (fun w' => w'.cell? ⟨wt.heap.size, 1, none⟩ = some (.string (strOfNums (tk T i).2.1)) ∧ w'.cell? ⟨wt.heap.size, 3, none⟩ = some (.int .i64 (tk T i).2.2.2) ∧ w'.cell? ⟨r, 3, none⟩ = some (ex 0)) (fun j => if j == 8 then 0 else 1) (by kernel_rfl) ?_
        refine wpAnyW_take (i := 0) (oi := { dst := some 10, op := Op.fieldAddr 72 (Operand.tmp 5) 1, type := 0, pos := "expression.go:182", after := #[], guard := none }) (v := ?_) rfl (by kernel_rfl) (by kernel_rfl) (by kernel_rfl) (by kernel_rfl) (fun _ _ _ h => h) (Or.inl ⟨by rfl, fun w _ => ?_⟩) ?_
        rotate_left
        · (go_simp; first | done | with_reducible rfl)
        try simp only [Act.put, List.setIfInBounds_toArray, List.set_cons_zero, List.set_cons_succ]
        refine wpAnyW_load (i := 1) (oi := { dst := some 11, op := Op.load 9 (Operand.tmp 10), type := 9, pos := "expression.go:182", after := #[{ on := 0, ground := Ground.data }], guard := none }) (v := ?_) rfl (by kernel_rfl) (by kernel_rfl) (by kernel_rfl) (by kernel_rfl) (by kernel_rfl) (fun _ _ _ h => h) (Or.inl ⟨by rfl, fun w hS => ?_⟩) (show _ ∧ _ from ⟨t1 1, t1 3, zz 3⟩) ?_
        rotate_left
        · (obtain ⟨hs0, hs1, hs2⟩ := hS; go_simp; first | done | with_reducible rfl)
        try simp only [Act.put, List.setIfInBounds_toArray, List.set_cons_zero, List.set_cons_succ]
        refine wpAnyW_take (i := 2) (oi := { dst := some 12, op := Op.fieldAddr 72 (Operand.tmp 5) 3, type := 0, pos := "expression.go:182", after := #[], guard := none }) (v := ?_) rfl (by kernel_rfl) (by kernel_rfl) (by kernel_rfl) (by kernel_rfl) (fun _ _ _ h => h) (Or.inl ⟨by rfl, fun w _ => ?_⟩) ?_
        rotate_left
        · (go_simp; first | done | with_reducible rfl)
        try simp only [Act.put, List.setIfInBounds_toArray, List.set_cons_zero, List.set_cons_succ]
        refine wpAnyW_load (i := 3) (oi := { dst := some 13, op := Op.load 3 (Operand.tmp 12), type := 3, pos := "expression.go:182", after := #[{ on := 2, ground := Ground.data }], guard := none }) (v := ?_) rfl (by kernel_rfl) (by kernel_rfl) (by kernel_rfl) (by kernel_rfl) (by kernel_rfl) (fun _ _ _ h => h) (Or.inl ⟨by rfl, fun w hS => ?_⟩) (show _ ∧ _ from ⟨t1 1, t1 3, zz 3⟩) ?_
        rotate_left
        · (obtain ⟨hs0, hs1, hs2⟩ := hS; go_simp; first | done | with_reducible rfl)
        try simp only [Act.put, List.setIfInBounds_toArray, List.set_cons_zero, List.set_cons_succ]
        refine wpAnyW_take (i := 4) (oi := { dst := some 14, op := Op.move (Operand.tmp 0), type := 58, pos := "expression.go:182", after := #[], guard := none }) (v := ?_) rfl (by kernel_rfl) (by kernel_rfl) (by kernel_rfl) (by kernel_rfl) (fun _ _ _ h => h) (Or.inl ⟨by rfl, fun w _ => ?_⟩) ?_
        rotate_left
        · (go_simp; first | done | with_reducible rfl)
        try simp only [Act.put, List.setIfInBounds_toArray, List.set_cons_zero, List.set_cons_succ]
        refine wpAnyW_take (i := 5) (oi := { dst := some 15, op := Op.nilCheck (Operand.tmp 14), type := 0, pos := "expression.go:182", after := #[{ on := 4, ground := Ground.data }], guard := none }) (v := ?_) rfl (by kernel_rfl) (by kernel_rfl) (by kernel_rfl) (by kernel_rfl) (fun _ _ _ h => h) (Or.inl ⟨by rfl, fun w _ => ?_⟩) ?_
        rotate_left
        · (go_simp; first | done | with_reducible rfl)
        try simp only [Act.put, List.setIfInBounds_toArray, List.set_cons_zero, List.set_cons_succ]
        refine wpAnyW_take (i := 6) (oi := { dst := some 16, op := Op.fieldAddr 77 (Operand.tmp 15) 3, type := 0, pos := "expression.go:182", after := #[{ on := 5, ground := Ground.data }], guard := none }) (v := ?_) rfl (by kernel_rfl) (by kernel_rfl) (by kernel_rfl) (by kernel_rfl) (fun _ _ _ h => h) (Or.inl ⟨by rfl, fun w _ => ?_⟩) ?_
        rotate_left
        · (go_simp; first | done | with_reducible rfl)
        try simp only [Act.put, List.setIfInBounds_toArray, List.set_cons_zero, List.set_cons_succ]
        refine wpAnyW_load (i := 7) (oi := { dst := some 17, op := Op.load 75 (Operand.tmp 16), type := 75, pos := "expression.go:182", after := #[{ on := 6, ground := Ground.data }], guard := none }) (v := ?_) rfl (by kernel_rfl) (by kernel_rfl) (by kernel_rfl) (by kernel_rfl) (by kernel_rfl) (fun _ _ _ h => h) (Or.inl ⟨by rfl, fun w hS => ?_⟩) (show _ ∧ _ from ⟨t1 1, t1 3, zz 3⟩) ?_
        rotate_left
        · (obtain ⟨hs0, hs1, hs2⟩ := hS; go_simp; first | done | with_reducible rfl)
        try simp only [Act.put, List.setIfInBounds_toArray, List.set_cons_zero, List.set_cons_succ]
        refine wpAnyW_ready (rs := [8]) (by kernel_rfl) (by simp) ?_
        refine (AllReadyW.cons (o := { dst := some 18, op := Op.call { callee := Callee.value (Operand.tmp 17), args := #[], argTypes := #[] }, type := 57, pos := "expression.go:182", after := #[{ on := 7, ground := Ground.data }], guard := none }) rfl (fun K hK => ?_) AllReadyW.nil)
        go_simp
        refine (HE.out _ _ _ (HS.out.ri.bw (by repeat (first | exact Bw.refl _ | apply Bw.alloc | apply Bw.drewN | apply Bw.drew))) ho HNE.out).mono ?_
        intro e w2 h2
        rw [HQ.out] at h2
        obtain ⟨he2, hk2⟩ := h2
        subst he2
        exact ⟨rfl, rfl, (HS.out.kp.bw (by repeat (first | exact Bw.refl _ | apply Bw.alloc | apply Bw.drewN | apply Bw.drew))).trans hk2⟩
      | ok x c j =>
        simp only [Res.bind]
        go_enter Tryd.func94, Tryd.ntmps94
        go_upto_region 3 with (first
          | (go_at_call 79; refine (wantName_yes (HS.out.ri.bw (by repeat (first | exact Bw.refl _ | apply Bw.alloc | apply Bw.drewN | apply Bw.drew))) HN.out).mono ?_; unfold tokV; rintro e wt ⟨rfl, hr1, hk1⟩; have HT := hid (Blk.new wt #[.int .i64 (tk T i).1, .string (strOfNums (tk T i).2.1), .int .i64 (tk T i).2.2.1, .int .i64 (tk T i).2.2.2] 72); have HRT := hid (show wt.heap.size ≠ r by have := hr1.k.lt; omega); have HS := hid ((HS.out.bw (by repeat (first | exact Bw.refl _ | apply Bw.alloc | apply Bw.drewN | apply Bw.drew))).go hr1 hk1); have zz := HS.out.ri.k.cell; have zf := HS.out.ri.k.free; have zl := HS.out.ri.k.lt; clear hr1 hk1)
          | (go_at_call 62; refine (want_yes _ (HS.out.ri.bw (by repeat (first | exact Bw.refl _ | apply Bw.alloc | apply Bw.drewN | apply Bw.drew))) HC.out).mono ?_; rintro e w1 ⟨rfl, hr1, hk1⟩; have HT := hid (HT.out.kp ((Kp.of_bw (by repeat (first | exact Bw.refl _ | apply Bw.alloc | apply Bw.drewN | apply Bw.drew))).trans hk1) HRT.out); have t1 := HT.out.cell; have tl := HT.out.lt; have HS := hid ((HS.out.bw (by repeat (first | exact Bw.refl _ | apply Bw.alloc | apply Bw.drewN | apply Bw.drew))).go hr1 hk1); have zz := HS.out.ri.k.cell; have zf := HS.out.ri.k.free; have zl := HS.out.ri.k.lt; clear hr1 hk1)
          | fail)
        refine wp_region_W (fun w' => w'.cell? ⟨wt.heap.size, 1, none⟩ = some (.string (strOfNums (tk T i).2.1)) ∧ w'.cell? ⟨wt.heap.size, 3, none⟩ = some (.int .i64 (tk T i).2.2.2) ∧ w'.cell? ⟨r, 3, none⟩ = some (ex 0)) (fun j => if j == 8 || j == 9 || j == 10 then 0 else 1) (by kernel_rfl) ?_
        refine wpAnyW_take (i := 0) (oi := { dst := some 10, op := Op.fieldAddr 72 (Operand.tmp 5) 1, type := 0, pos := "expression.go:182", after := #[], guard := none }) (v := ?_) rfl (by kernel_rfl) (by kernel_rfl) (by kernel_rfl) (by kernel_rfl) (fun _ _ _ h => h) (Or.inl ⟨by rfl, fun w _ => ?_⟩) ?_
        rotate_left
        · (go_simp; first | done | with_reducible rfl)
        try simp only [Act.put, List.setIfInBounds_toArray, List.set_cons_zero, List.set_cons_succ]
        refine wpAnyW_load (i := 1) (oi := { dst := some 11, op := Op.load 9 (Operand.tmp 10), type := 9, pos := "expression.go:182", after := #[{ on := 0, ground := Ground.data }], guard := none }) (v := ?_) rfl (by kernel_rfl) (by kernel_rfl) (by kernel_rfl) (by kernel_rfl) (by kernel_rfl) (fun _ _ _ h => h) (Or.inl ⟨by rfl, fun w hS => ?_⟩) (show _ ∧ _ from ⟨t1 1, t1 3, zz 3⟩) ?_
        rotate_left
        · (obtain ⟨hs0, hs1, hs2⟩ := hS; go_simp; first | done | with_reducible rfl)
        try simp only [Act.put, List.setIfInBounds_toArray, List.set_cons_zero, List.set_cons_succ]
        refine wpAnyW_take (i := 2) (oi := { dst := some 12, op := Op.fieldAddr 72 (Operand.tmp 5) 3, type := 0, pos := "expression.go:182", after := #[], guard := none }) (v := ?_) rfl (by kernel_rfl) (by kernel_rfl) (by kernel_rfl) (by kernel_rfl) (fun _ _ _ h => h) (Or.inl ⟨by rfl, fun w _ => ?_⟩) ?_
        rotate_left
        · (go_simp; first | done | with_reducible rfl)
        try simp only [Act.put, List.setIfInBounds_toArray, List.set_cons_zero, List.set_cons_succ]
        refine wpAnyW_load (i := 3) (oi := { dst := some 13, op := Op.load 3 (Operand.tmp 12), type := 3, pos := "expression.go:182", after := #[{ on := 2, ground := Ground.data }], guard := none }) (v := ?_) rfl (by kernel_rfl) (by kernel_rfl) (by kernel_rfl) (by kernel_rfl) (by kernel_rfl) (fun _ _ _ h => h) (Or.inl ⟨by rfl, fun w hS => ?_⟩) (show _ ∧ _ from ⟨t1 1, t1 3, zz 3⟩) ?_
        rotate_left
        · (obtain ⟨hs0, hs1, hs2⟩ := hS; go_simp; first | done | with_reducible rfl)
        try simp only [Act.put, List.setIfInBounds_toArray, List.set_cons_zero, List.set_cons_succ]
        refine wpAnyW_take (i := 4) (oi := { dst := some 14, op := Op.move (Operand.tmp 0), type := 58, pos := "expression.go:182", after := #[], guard := none }) (v := ?_) rfl (by kernel_rfl) (by kernel_rfl) (by kernel_rfl) (by kernel_rfl) (fun _ _ _ h => h) (Or.inl ⟨by rfl, fun w _ => ?_⟩) ?_
        rotate_left
        · (go_simp; first | done | with_reducible rfl)
        try simp only [Act.put, List.setIfInBounds_toArray, List.set_cons_zero, List.set_cons_succ]
        refine wpAnyW_take (i := 5) (oi := { dst := some 15, op := Op.nilCheck (Operand.tmp 14), type := 0, pos := "expression.go:182", after := #[{ on := 4, ground := Ground.data }], guard := none }) (v := ?_) rfl (by kernel_rfl) (by kernel_rfl) (by kernel_rfl) (by kernel_rfl) (fun _ _ _ h => h) (Or.inl ⟨by rfl, fun w _ => ?_⟩) ?_
        rotate_left
        · (go_simp; first | done | with_reducible rfl)
        try simp only [Act.put, List.setIfInBounds_toArray, List.set_cons_zero, List.set_cons_succ]
        refine wpAnyW_take (i := 6) (oi := { dst := some 16, op := Op.fieldAddr 77 (Operand.tmp 15) 3, type := 0, pos := "expression.go:182", after := #[{ on := 5, ground := Ground.data }], guard := none }) (v := ?_) rfl (by kernel_rfl) (by kernel_rfl) (by kernel_rfl) (by kernel_rfl) (fun _ _ _ h => h) (Or.inl ⟨by rfl, fun w _ => ?_⟩) ?_
        rotate_left
        · (go_simp; first | done | with_reducible rfl)
        try simp only [Act.put, List.setIfInBounds_toArray, List.set_cons_zero, List.set_cons_succ]
        refine wpAnyW_load (i := 7) (oi := { dst := some 17, op := Op.load 75 (Operand.tmp 16), type := 75, pos := "expression.go:182", after := #[{ on := 6, ground := Ground.data }], guard := none }) (v := ?_) rfl (by kernel_rfl) (by kernel_rfl) (by kernel_rfl) (by kernel_rfl) (by kernel_rfl) (fun _ _ _ h => h) (Or.inl ⟨by rfl, fun w hS => ?_⟩) (show _ ∧ _ from ⟨t1 1, t1 3, zz 3⟩) ?_
        rotate_left
        · (obtain ⟨hs0, hs1, hs2⟩ := hS; go_simp; first | done | with_reducible rfl)
        try simp only [Act.put, List.setIfInBounds_toArray, List.set_cons_zero, List.set_cons_succ]
        refine wpAnyW_ready (rs := [8]) (by kernel_rfl) (by simp) ?_
        refine (AllReadyW.cons (o := { dst := some 18, op := Op.call { callee := Callee.value (Operand.tmp 17), args := #[], argTypes := #[] }, type := 57, pos := "expression.go:182", after := #[{ on := 7, ground := Ground.data }], guard := none }) rfl (fun K hK => ?_) AllReadyW.nil)
        go_simp
        refine (HE.out _ _ _ (HS.out.ri.bw (by repeat (first | exact Bw.refl _ | apply Bw.alloc | apply Bw.drewN | apply Bw.drew))) ho HNE.out).mono ?_
        intro e w2 h2
        rw [HQ.out] at h2
        obtain ⟨b2, he2, hp2, hr2, hk2⟩ := h2
        subst he2
        have HT := hid (HT.out.kp ((Kp.of_bw (by repeat (first | exact Bw.refl _ | apply Bw.alloc | apply Bw.drewN | apply Bw.drew))).trans hk2) HRT.out)
        have HS := hid ((HS.out.bw (by repeat (first | exact Bw.refl _ | apply Bw.alloc | apply Bw.drewN | apply Bw.drew))).add hr2 hk2 hp2)
        clear hp2 hr2 hk2
        refine hK.out _ _ (show _ ∧ _ from ⟨HT.out.cell 1, HT.out.cell 3, HS.out.ri.k.cell 3⟩) ?_
        clear hK K
        try simp only [Act.put, List.setIfInBounds_toArray, List.set_cons_zero, List.set_cons_succ]
        refine wpAnyW_ready (rs := [9]) (by kernel_rfl) (by simp) ?_
        refine (AllReadyW.cons (o := { dst := some 19, op := Op.buildSlice 81 1 #[(0, Operand.tmp 18)], type := 81, pos := "expression.go:182", after := #[{ on := 8, ground := Ground.data }], guard := none }) rfl (fun K hK => ?_) AllReadyW.nil)
        go_simp
        refine hK.out _ _ (show _ ∧ _ from ⟨(HT.out.bw (Bw.alloc (Bw.refl _) _)).cell 1, (HT.out.bw (Bw.alloc (Bw.refl _) _)).cell 3, (HS.out.bw (Bw.alloc (Bw.refl _) _)).ri.k.cell 3⟩) ?_
        clear hK K
        try simp only [Act.put, List.setIfInBounds_toArray, List.set_cons_zero, List.set_cons_succ]
        refine wpAnyW_ready (rs := [10]) (by kernel_rfl) (by simp) ?_
        refine (AllReadyW.cons (o := { dst := some 20, op := Op.call { callee := Callee.value (Operand.func 80), args := #[Operand.const (Value.int IntKind.i64 22), Operand.tmp 11, Operand.tmp 13, Operand.tmp 19], argTypes := #[3, 9, 3, 81] }, type := 57, pos := "expression.go:182", after := #[{ on := 1, ground := Ground.data }, { on := 3, ground := Ground.data }, { on := 9, ground := Ground.data }, { on := 8, ground := Ground.chain }], guard := none }) rfl (fun K hK => ?_) AllReadyW.nil)
        go_simp
        refine (madeNamed_any _ _ _ _ [x] [b2] _ _ (HS.out.row1 (x := x) (b := b2) (by simp)).1 (HS.out.row1 (x := x) (b := b2) (by simp)).2).mono ?_
        rintro e w3 ⟨b3, he3, hp3, hb3, hn3, hc3⟩
        subst he3
        have HT := hid ((HT.out.bw (Bw.alloc (Bw.refl _) _)).bw hb3)
        have HS := hid ((HS.out.bw (Bw.alloc (Bw.refl _) _)).put hb3 hp3)
        clear hp3 hb3 hn3 hc3
        refine hK.out _ _ (show _ ∧ _ from ⟨HT.out.cell 1, HT.out.cell 3, HS.out.ri.k.cell 3⟩) ?_
        clear hK K
        try simp only [Act.put, List.setIfInBounds_toArray, List.set_cons_zero, List.set_cons_succ]
        refine wpAnyW_take (i := 11) (oi := { dst := some 4, op := Op.assign (Operand.tmp 20), type := 57, pos := "expression.go:182", after := #[{ on := 10, ground := Ground.data }, { on := 10, ground := Ground.chain }, { on := 0, ground := Ground.phase }, { on := 1, ground := Ground.phase }, { on := 2, ground := Ground.phase }, { on := 3, ground := Ground.phase }, { on := 4, ground := Ground.phase }, { on := 5, ground := Ground.phase }, { on := 6, ground := Ground.phase }, { on := 7, ground := Ground.phase }, { on := 8, ground := Ground.phase }, { on := 9, ground := Ground.phase }, { on := 10, ground := Ground.phase }], guard := none }) (v := ?_) rfl (by kernel_rfl) (by kernel_rfl) (by kernel_rfl) (by kernel_rfl) (fun _ _ _ h => h) (Or.inl ⟨by rfl, fun w _ => ?_⟩) ?_
        rotate_left
        · (go_simp; first | done | with_reducible rfl)
        try simp only [Act.put, List.setIfInBounds_toArray, List.set_cons_zero, List.set_cons_succ]
        refine wpAnyW_done (by kernel_rfl) ?_ _
        go_wp2
        all_goals go_ret
        all_goals exact ⟨_, rfl, HS.out.outp (by simp)⟩
  · rw [if_neg hn]
    have HN := hid hn
    clear hn hne
    go_enter Tryd.func94, Tryd.ntmps94
    go_wp2_with (first
      | (go_at_call 79; refine (wantName_no (HS.out.ri.bw (by repeat (first | exact Bw.refl _ | apply Bw.alloc | apply Bw.drewN | apply Bw.drew))) HN.out).mono ?_; rintro e w1 ⟨rfl, hk1⟩; have HK := hid ((HS.out.kp.bw (by repeat (first | exact Bw.refl _ | apply Bw.alloc | apply Bw.drewN | apply Bw.drew))).trans hk1); clear hk1)
      | fail)
    all_goals exact ⟨rfl, rfl, HK.out⟩

end

end Go.Proofs.YtlcieebneclmpaaDoor

