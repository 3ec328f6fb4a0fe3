/- A statement: contract. -/
import Derived.Test.YtlcieebneclmpaaDoorPyfk
import Derived.Test.YtlcieebneclmpaaDoorK10
import Derived.Test.YtlcieebneclmpaaDoorPyhk
import Derived.Test.YtlcieebneclmpaaDoorPyxk
set_option linter.unusedSimpArgs false
set_option linter.unusedVariables false
namespace Go.Proofs.YtlcieebneclmpaaDoor
open Go Go.RowKit

section
variable {B : World} {r g cap : Nat} {T : List ATok} {ex : Nat → Value}

set_option maxRecDepth 100000 in
set_option maxHeartbeats 8000000 in
theorem stmt_any (pa pb pc : Nat) (e0 : ex 0 = .func (.func 69) #[] #[.pointer (some ⟨pa, 0, none⟩), .pointer (some ⟨pb, 0, none⟩), .pointer (some ⟨pc, 0, none⟩)]) (f : Nat) (he : RdP B r g cap T ex f 69 #[.pointer (some ⟨pa, 0, none⟩), .pointer (some ⟨pb, 0, none⟩), .pointer (some ⟨pc, 0, none⟩)] (.lev 0)) (hbk : RdP B r g cap T ex f 59 #[.pointer (some ⟨r, 0, none⟩)] .block) (hch : RdP B r g cap T ex f 61 #[.pointer (some ⟨r, 0, none⟩)] .choice) (hbd : RdB B r g cap T ex f) : RdP B r g cap T ex (f + 1) 45 #[.pointer (some ⟨r, 0, none⟩)] .stmt := by
  intro w i o h ho hne
  simp only [pP] at hne ⊢
  have HS := hid (SI.begin h)
  have HE := hid he
  have HBK := hid hbk
  have HCH := hid hch
  have HBD := hid hbd
  have zz := HS.out.ri.k.cell; have zf := HS.out.ri.k.free; have zl := HS.out.ri.k.lt
  clear h he hbk hch hbd
  cases o_blk : isT T i ⟨#[123]⟩
  case true =>
    rw [o_blk, if_pos rfl] at hne
    rw [if_pos rfl]
    have HNE := hid hne
    have HI := hid o_blk
    clear hne
    generalize hq : pP T f .block i o = R
    have HQ := hid hq
    clear hq
    cases R with
    | out => exact absurd HQ.out HNE.out
    | bad n m =>
      go_enter Tryd.func45, Tryd.ntmps45
      go_wp2_with (first
        | (go_at_call 58; refine (is_any _ (HS.out.ri.bw (by repeat (first | exact Bw.refl _ | apply Bw.alloc | apply Bw.drewN | apply Bw.drew)))).mono ?_; rintro e w1 ⟨rfl, hb1⟩; have HS := hid (HS.out.bw (Bw.trans (by repeat (first | exact Bw.refl _ | apply Bw.alloc | apply Bw.drewN | apply Bw.drew)) hb1)); have zz := HS.out.ri.k.cell; have zf := HS.out.ri.k.free; have zl := HS.out.ri.k.lt; clear hb1)
        | (go_at_call 59; refine (HBK.out _ _ _ (HS.out.ri.bw (by repeat (first | exact Bw.refl _ | apply Bw.alloc | apply Bw.drewN | apply Bw.drew))) ho HNE.out).mono ?_; intro e w5 h5; rw [HQ.out] at h5; obtain ⟨rfl, hk5⟩ := h5; have HK := hid ((HS.out.kp.bw (by repeat (first | exact Bw.refl _ | apply Bw.alloc | apply Bw.drewN | apply Bw.drew))).trans hk5); clear hk5)
        | fail)
      all_goals exact ⟨rfl, rfl, HK.out⟩
    | ok x c j =>
      go_enter Tryd.func45, Tryd.ntmps45
      go_wp2_with (first
        | (go_at_call 58; refine (is_any _ (HS.out.ri.bw (by repeat (first | exact Bw.refl _ | apply Bw.alloc | apply Bw.drewN | apply Bw.drew)))).mono ?_; rintro e w1 ⟨rfl, hb1⟩; have HS := hid (HS.out.bw (Bw.trans (by repeat (first | exact Bw.refl _ | apply Bw.alloc | apply Bw.drewN | apply Bw.drew)) hb1)); have zz := HS.out.ri.k.cell; have zf := HS.out.ri.k.free; have zl := HS.out.ri.k.lt; clear hb1)
        | (go_at_call 59; refine (HBK.out _ _ _ (HS.out.ri.bw (by repeat (first | exact Bw.refl _ | apply Bw.alloc | apply Bw.drewN | apply Bw.drew))) ho HNE.out).mono ?_; intro e w5 h5; rw [HQ.out] at h5; obtain ⟨b5, rfl, hp5, hr5, hk5⟩ := h5; have HS := hid ((HS.out.bw (by repeat (first | exact Bw.refl _ | apply Bw.alloc | apply Bw.drewN | apply Bw.drew))).add hr5 hk5 hp5); clear hp5 hr5 hk5)
        | fail)
      all_goals go_ret
      all_goals exact ⟨_, rfl, HS.out.outp (by simp)⟩
  rw [o_blk, if_neg (by decide)] at hne
  rw [if_neg (by decide)]
  cases o_var : isT T i ⟨#[118, 97, 114]⟩
  case true =>
    rw [o_var, if_pos rfl] at hne
    rw [if_pos rfl]
    have HNE := hid hne
    have HI := hid o_var
    clear hne
    generalize hq : (wantN T (i + 1) fun j => want T ⟨#[61]⟩ j fun j => (pP T f (.lev 0) j o).bind fun x _ j => semi T j (.mk 3 (tk T (i + 1)).2.1 0 (tk T i).2.2.2 [x])) = R
    have HQ := hid hq
    clear hq
    cases R with
    | out => exact absurd HQ.out HNE.out
    | bad n m =>
      go_enter Tryd.func45, Tryd.ntmps45
      go_wp2_with (first
        | (go_at_call 58; refine (is_any _ (HS.out.ri.bw (by repeat (first | exact Bw.refl _ | apply Bw.alloc | apply Bw.drewN | apply Bw.drew)))).mono ?_; rintro e w1 ⟨rfl, hb1⟩; have HS := hid (HS.out.bw (Bw.trans (by repeat (first | exact Bw.refl _ | apply Bw.alloc | apply Bw.drewN | apply Bw.drew)) hb1)); have zz := HS.out.ri.k.cell; have zf := HS.out.ri.k.free; have zl := HS.out.ri.k.lt; clear hb1)
        | (go_at_call 60; refine (variable_any pa pb pc e0 f HE.out _ _ _ (HS.out.ri.bw (by repeat (first | exact Bw.refl _ | apply Bw.alloc | apply Bw.drewN | apply Bw.drew))) ho HI.out HNE.out).mono ?_; intro e w5 h5; rw [HQ.out] at h5; obtain ⟨rfl, hk5⟩ := h5; have HK := hid ((HS.out.kp.bw (by repeat (first | exact Bw.refl _ | apply Bw.alloc | apply Bw.drewN | apply Bw.drew))).trans hk5); clear hk5)
        | fail)
      all_goals exact ⟨rfl, rfl, HK.out⟩
    | ok x c j =>
      go_enter Tryd.func45, Tryd.ntmps45
      go_wp2_with (first
        | (go_at_call 58; refine (is_any _ (HS.out.ri.bw (by repeat (first | exact Bw.refl _ | apply Bw.alloc | apply Bw.drewN | apply Bw.drew)))).mono ?_; rintro e w1 ⟨rfl, hb1⟩; have HS := hid (HS.out.bw (Bw.trans (by repeat (first | exact Bw.refl _ | apply Bw.alloc | apply Bw.drewN | apply Bw.drew)) hb1)); have zz := HS.out.ri.k.cell; have zf := HS.out.ri.k.free; have zl := HS.out.ri.k.lt; clear hb1)
        | (go_at_call 60; refine (variable_any pa pb pc e0 f HE.out _ _ _ (HS.out.ri.bw (by repeat (first | exact Bw.refl _ | apply Bw.alloc | apply Bw.drewN | apply Bw.drew))) ho HI.out HNE.out).mono ?_; intro e w5 h5; rw [HQ.out] at h5; obtain ⟨b5, rfl, hp5, hr5, hk5⟩ := h5; have HS := hid ((HS.out.bw (by repeat (first | exact Bw.refl _ | apply Bw.alloc | apply Bw.drewN | apply Bw.drew))).add hr5 hk5 hp5); clear hp5 hr5 hk5)
        | fail)
      all_goals go_ret
      all_goals exact ⟨_, rfl, HS.out.outp (by simp)⟩
  rw [o_var, if_neg (by decide)] at hne
  rw [if_neg (by decide)]
  cases o_if : isT T i ⟨#[105, 102]⟩
  case true =>
    rw [o_if, if_pos rfl] at hne
    rw [if_pos rfl]
    have HNE := hid hne
    have HI := hid o_if
    clear hne
    generalize hq : pP T f .choice i o = R
    have HQ := hid hq
    clear hq
    cases R with
    | out => exact absurd HQ.out HNE.out
    | bad n m =>
      go_enter Tryd.func45, Tryd.ntmps45
      go_wp2_with (first
        | (go_at_call 58; refine (is_any _ (HS.out.ri.bw (by repeat (first | exact Bw.refl _ | apply Bw.alloc | apply Bw.drewN | apply Bw.drew)))).mono ?_; rintro e w1 ⟨rfl, hb1⟩; have HS := hid (HS.out.bw (Bw.trans (by repeat (first | exact Bw.refl _ | apply Bw.alloc | apply Bw.drewN | apply Bw.drew)) hb1)); have zz := HS.out.ri.k.cell; have zf := HS.out.ri.k.free; have zl := HS.out.ri.k.lt; clear hb1)
        | (go_at_call 61; refine (HCH.out _ _ _ (HS.out.ri.bw (by repeat (first | exact Bw.refl _ | apply Bw.alloc | apply Bw.drewN | apply Bw.drew))) ho HNE.out).mono ?_; intro e w5 h5; rw [HQ.out] at h5; obtain ⟨rfl, hk5⟩ := h5; have HK := hid ((HS.out.kp.bw (by repeat (first | exact Bw.refl _ | apply Bw.alloc | apply Bw.drewN | apply Bw.drew))).trans hk5); clear hk5)
        | fail)
      all_goals exact ⟨rfl, rfl, HK.out⟩
    | ok x c j =>
      go_enter Tryd.func45, Tryd.ntmps45
      go_wp2_with (first
        | (go_at_call 58; refine (is_any _ (HS.out.ri.bw (by repeat (first | exact Bw.refl _ | apply Bw.alloc | apply Bw.drewN | apply Bw.drew)))).mono ?_; rintro e w1 ⟨rfl, hb1⟩; have HS := hid (HS.out.bw (Bw.trans (by repeat (first | exact Bw.refl _ | apply Bw.alloc | apply Bw.drewN | apply Bw.drew)) hb1)); have zz := HS.out.ri.k.cell; have zf := HS.out.ri.k.free; have zl := HS.out.ri.k.lt; clear hb1)
        | (go_at_call 61; refine (HCH.out _ _ _ (HS.out.ri.bw (by repeat (first | exact Bw.refl _ | apply Bw.alloc | apply Bw.drewN | apply Bw.drew))) ho HNE.out).mono ?_; intro e w5 h5; rw [HQ.out] at h5; obtain ⟨b5, rfl, hp5, hr5, hk5⟩ := h5; have HS := hid ((HS.out.bw (by repeat (first | exact Bw.refl _ | apply Bw.alloc | apply Bw.drewN | apply Bw.drew))).add hr5 hk5 hp5); clear hp5 hr5 hk5)
        | fail)
      all_goals go_ret
      all_goals exact ⟨_, rfl, HS.out.outp (by simp)⟩
  rw [o_if, if_neg (by decide)] at hne
  rw [if_neg (by decide)]
  cases o_while : isT T i ⟨#[119, 104, 105, 108, 101]⟩
  case true =>
    rw [o_while, if_pos rfl] at hne
    rw [if_pos rfl]
    have HI := hid o_while
    have HNE1 := hid (show pP T f (.lev 0) (i + 1) o ≠ .out from fun q => hne (by rw [q]; rfl))
    generalize hq1 : pP T f (.lev 0) (i + 1) o = R1 at hne ⊢
    have HQ1 := hid hq1
    clear hq1
    cases R1 with
    | out => exact absurd HQ1.out HNE1.out
    | bad n1 m1 =>
      simp only [Res.bind]
      clear hne
      go_enter Tryd.func45, Tryd.ntmps45
      go_upto_region 8 with (first
        | (go_at_call 58; refine (is_any _ (HS.out.ri.bw (by repeat (first | exact Bw.refl _ | apply Bw.alloc | apply Bw.drewN | apply Bw.drew)))).mono ?_; rintro e w1 ⟨rfl, hb1⟩; have HS := hid (HS.out.bw (Bw.trans (by repeat (first | exact Bw.refl _ | apply Bw.alloc | apply Bw.drewN | apply Bw.drew)) hb1)); have zz := HS.out.ri.k.cell; have zf := HS.out.ri.k.free; have zl := HS.out.ri.k.lt; clear hb1)
        | fail)
      refine wp_region_W (fun w' => w'.cell? ⟨r, 3, none⟩ = some (ex 0)) (fun j => if j == 1 || j == 6 then 0 else 1) (by kernel_rfl) ?_
      refine wpAnyW_take (i := 0) (oi := { dst := some 21, op := Op.move (Operand.tmp 0), type := 58, pos := "statement.go:31", after := #[], guard := none }) (v := ?_) rfl (by kernel_rfl) (by kernel_rfl) (by kernel_rfl) (by kernel_rfl) (fun _ _ _ h => h) (Or.inl ⟨by rfl, fun w _ => ?_⟩) ?_
      rotate_left
      · (go_simp; first | done | with_reducible rfl)
      try simp only [Act.put, List.setIfInBounds_toArray, List.set_cons_zero, List.set_cons_succ]
      refine wpAnyW_take (i := 2) (oi := { dst := some 23, op := Op.move (Operand.tmp 0), type := 58, pos := "statement.go:31", after := #[], guard := none }) (v := ?_) rfl (by kernel_rfl) (by kernel_rfl) (by kernel_rfl) (by kernel_rfl) (fun _ _ _ h => h) (Or.inl ⟨by rfl, fun w _ => ?_⟩) ?_
      rotate_left
      · (go_simp; first | done | with_reducible rfl)
      try simp only [Act.put, List.setIfInBounds_toArray, List.set_cons_zero, List.set_cons_succ]
      refine wpAnyW_take (i := 3) (oi := { dst := some 24, op := Op.nilCheck (Operand.tmp 23), type := 0, pos := "statement.go:31", after := #[{ on := 2, ground := Ground.data }], guard := none }) (v := ?_) rfl (by kernel_rfl) (by kernel_rfl) (by kernel_rfl) (by kernel_rfl) (fun _ _ _ h => h) (Or.inl ⟨by rfl, fun w _ => ?_⟩) ?_
      rotate_left
      · (go_simp; first | done | with_reducible rfl)
      try simp only [Act.put, List.setIfInBounds_toArray, List.set_cons_zero, List.set_cons_succ]
      refine wpAnyW_take (i := 4) (oi := { dst := some 25, op := Op.fieldAddr 77 (Operand.tmp 24) 3, type := 0, pos := "statement.go:31", after := #[{ on := 3, ground := Ground.data }], guard := none }) (v := ?_) rfl (by kernel_rfl) (by kernel_rfl) (by kernel_rfl) (by kernel_rfl) (fun _ _ _ h => h) (Or.inl ⟨by rfl, fun w _ => ?_⟩) ?_
      rotate_left
      · (go_simp; first | done | with_reducible rfl)
      try simp only [Act.put, List.setIfInBounds_toArray, List.set_cons_zero, List.set_cons_succ]
      refine wpAnyW_load (i := 5) (oi := { dst := some 26, op := Op.load 75 (Operand.tmp 25), type := 75, pos := "statement.go:31", after := #[{ on := 4, ground := Ground.data }], guard := none }) (v := ?_) rfl (by kernel_rfl) (by kernel_rfl) (by kernel_rfl) (by kernel_rfl) (by kernel_rfl) (fun _ _ _ h => h) (Or.inl ⟨by rfl, fun w hS => ?_⟩) (zz 3) ?_
      rotate_left
      · (skip; go_simp; first | done | with_reducible rfl)
      try simp only [Act.put, List.setIfInBounds_toArray, List.set_cons_zero, List.set_cons_succ]
      refine wpAnyW_take (i := 7) (oi := { dst := some 28, op := Op.move (Operand.tmp 0), type := 58, pos := "statement.go:31", after := #[], guard := none }) (v := ?_) rfl (by kernel_rfl) (by kernel_rfl) (by kernel_rfl) (by kernel_rfl) (fun _ _ _ h => h) (Or.inl ⟨by rfl, fun w _ => ?_⟩) ?_
      rotate_left
      · (go_simp; first | done | with_reducible rfl)
      try simp only [Act.put, List.setIfInBounds_toArray, List.set_cons_zero, List.set_cons_succ]
      refine wpAnyW_ready (rs := [1]) (by kernel_rfl) (by simp) ?_
      refine (AllReadyW.cons (o := { dst := some 22, op := Op.call { callee := Callee.value (Operand.func 62), args := #[Operand.tmp 21, Operand.const (Value.string { data := #[119, 104, 105, 108, 101] })], argTypes := #[58, 9] }, type := 3, pos := "statement.go:31", after := #[{ on := 0, ground := Ground.data }], guard := none }) rfl (fun K hK => ?_) AllReadyW.nil)
      go_simp
      refine (want_yes _ (HS.out.ri.bw (by repeat (first | exact Bw.refl _ | apply Bw.alloc | apply Bw.drewN | apply Bw.drew))) HI.out).mono ?_
      rintro e w1 ⟨he1, hr1, hk1⟩
      subst he1
      have HS := hid ((HS.out.bw (by repeat (first | exact Bw.refl _ | apply Bw.alloc | apply Bw.drewN | apply Bw.drew))).go hr1 hk1)
      clear hr1 hk1
      refine hK.out _ _ (HS.out.ri.k.cell 3) ?_
      clear hK K
      try simp only [Act.put, List.setIfInBounds_toArray, List.set_cons_zero, List.set_cons_succ]
      refine wpAnyW_ready (rs := [6]) (by kernel_rfl) (by simp) ?_
      refine (AllReadyW.cons (o := { dst := some 27, op := Op.call { callee := Callee.value (Operand.tmp 26), args := #[], argTypes := #[] }, type := 57, pos := "statement.go:31", after := #[{ on := 5, ground := Ground.data }, { on := 1, ground := Ground.chain }], guard := none }) rfl (fun K hK => ?_) AllReadyW.nil)
      go_simp
      refine (HE.out _ _ _ (HS.out.ri.bw (by repeat (first | exact Bw.refl _ | apply Bw.alloc | apply Bw.drewN | apply Bw.drew))) ho HNE1.out).mono ?_
      intro e w2 h2
      rw [HQ1.out] at h2
      obtain ⟨he2, hk2⟩ := h2
      subst he2
      exact ⟨rfl, rfl, (HS.out.kp.bw (by repeat (first | exact Bw.refl _ | apply Bw.alloc | apply Bw.drewN | apply Bw.drew))).trans hk2⟩
    | ok x1 c1 j1 =>
      simp only [Res.bind] at hne ⊢
      have HNE2 := hid (show pP T f .block j1 o ≠ .out from fun q => hne (by rw [q]))
      clear hne
      generalize hq2 : pP T f .block j1 o = R2
      have HQ2 := hid hq2
      clear hq2
      cases R2 with
      | out => exact absurd HQ2.out HNE2.out
      | bad n2 m2 =>
        go_enter Tryd.func45, Tryd.ntmps45
        go_upto_region 8 with (first
          | (go_at_call 58; refine (is_any _ (HS.out.ri.bw (by repeat (first | exact Bw.refl _ | apply Bw.alloc | apply Bw.drewN | apply Bw.drew)))).mono ?_; rintro e w1 ⟨rfl, hb1⟩; have HS := hid (HS.out.bw (Bw.trans (by repeat (first | exact Bw.refl _ | apply Bw.alloc | apply Bw.drewN | apply Bw.drew)) hb1)); have zz := HS.out.ri.k.cell; have zf := HS.out.ri.k.free; have zl := HS.out.ri.k.lt; clear hb1)
          | fail)
        refine wp_region_W (fun w' => w'.cell? ⟨r, 3, none⟩ = some (ex 0)) (fun j => if j == 1 || j == 6 || j == 8 then 0 else 1) (by kernel_rfl) ?_
        refine wpAnyW_take (i := 0) (oi := { dst := some 21, op := Op.move (Operand.tmp 0), type := 58, pos := "statement.go:31", after := #[], guard := none }) (v := ?_) rfl (by kernel_rfl) (by kernel_rfl) (by kernel_rfl) (by kernel_rfl) (fun _ _ _ h => h) (Or.inl ⟨by rfl, fun w _ => ?_⟩) ?_
        rotate_left
        · (go_simp; first | done | with_reducible rfl)
        try simp only [Act.put, List.setIfInBounds_toArray, List.set_cons_zero, List.set_cons_succ]
        refine wpAnyW_take (i := 2) (oi := { dst := some 23, op := Op.move (Operand.tmp 0), type := 58, pos := "statement.go:31", after := #[], guard := none }) (v := ?_) rfl (by kernel_rfl) (by kernel_rfl) (by kernel_rfl) (by kernel_rfl) (fun _ _ _ h => h) (Or.inl ⟨by rfl, fun w _ => ?_⟩) ?_
        rotate_left
        · (go_simp; first | done | with_reducible rfl)
        try simp only [Act.put, List.setIfInBounds_toArray, List.set_cons_zero, List.set_cons_succ]
        refine wpAnyW_take (i := 3) (oi := { dst := some 24, op := Op.nilCheck (Operand.tmp 23), type := 0, pos := "statement.go:31", after := #[{ on := 2, ground := Ground.data }], guard := none }) (v := ?_) rfl (by kernel_rfl) (by kernel_rfl) (by kernel_rfl) (by kernel_rfl) (fun _ _ _ h => h) (Or.inl ⟨by rfl, fun w _ => ?_⟩) ?_
        rotate_left
        · (go_simp; first | done | with_reducible rfl)
        try simp only [Act.put, List.setIfInBounds_toArray, List.set_cons_zero, List.set_cons_succ]
        refine wpAnyW_take (i := 4) (oi := { dst := some 25, op := Op.fieldAddr 77 (Operand.tmp 24) 3, type := 0, pos := "statement.go:31", after := #[{ on := 3, ground := Ground.data }], guard := none }) (v := ?_) rfl (by kernel_rfl) (by kernel_rfl) (by kernel_rfl) (by kernel_rfl) (fun _ _ _ h => h) (Or.inl ⟨by rfl, fun w _ => ?_⟩) ?_
        rotate_left
        · (go_simp; first | done | with_reducible rfl)
        try simp only [Act.put, List.setIfInBounds_toArray, List.set_cons_zero, List.set_cons_succ]
        refine wpAnyW_load (i := 5) (oi := { dst := some 26, op := Op.load 75 (Operand.tmp 25), type := 75, pos := "statement.go:31", after := #[{ on := 4, ground := Ground.data }], guard := none }) (v := ?_) rfl (by kernel_rfl) (by kernel_rfl) (by kernel_rfl) (by kernel_rfl) (by kernel_rfl) (fun _ _ _ h => h) (Or.inl ⟨by rfl, fun w hS => ?_⟩) (zz 3) ?_
        rotate_left
        · (skip; go_simp; first | done | with_reducible rfl)
        try simp only [Act.put, List.setIfInBounds_toArray, List.set_cons_zero, List.set_cons_succ]
        refine wpAnyW_take (i := 7) (oi := { dst := some 28, op := Op.move (Operand.tmp 0), type := 58, pos := "statement.go:31", after := #[], guard := none }) (v := ?_) rfl (by kernel_rfl) (by kernel_rfl) (by kernel_rfl) (by kernel_rfl) (fun _ _ _ h => h) (Or.inl ⟨by rfl, fun w _ => ?_⟩) ?_
        rotate_left
        · (go_simp; first | done | with_reducible rfl)
        try simp only [Act.put, List.setIfInBounds_toArray, List.set_cons_zero, List.set_cons_succ]
        refine wpAnyW_ready (rs := [1]) (by kernel_rfl) (by simp) ?_
        refine (AllReadyW.cons (o := { dst := some 22, op := Op.call { callee := Callee.value (Operand.func 62), args := #[Operand.tmp 21, Operand.const (Value.string { data := #[119, 104, 105, 108, 101] })], argTypes := #[58, 9] }, type := 3, pos := "statement.go:31", after := #[{ on := 0, ground := Ground.data }], guard := none }) rfl (fun K hK => ?_) AllReadyW.nil)
        go_simp
        refine (want_yes _ (HS.out.ri.bw (by repeat (first | exact Bw.refl _ | apply Bw.alloc | apply Bw.drewN | apply Bw.drew))) HI.out).mono ?_
        rintro e w1 ⟨he1, hr1, hk1⟩
        subst he1
        have HS := hid ((HS.out.bw (by repeat (first | exact Bw.refl _ | apply Bw.alloc | apply Bw.drewN | apply Bw.drew))).go hr1 hk1)
        clear hr1 hk1
        refine hK.out _ _ (HS.out.ri.k.cell 3) ?_
        clear hK K
        try simp only [Act.put, List.setIfInBounds_toArray, List.set_cons_zero, List.set_cons_succ]
        refine wpAnyW_ready (rs := [6]) (by kernel_rfl) (by simp) ?_
        refine (AllReadyW.cons (o := { dst := some 27, op := Op.call { callee := Callee.value (Operand.tmp 26), args := #[], argTypes := #[] }, type := 57, pos := "statement.go:31", after := #[{ on := 5, ground := Ground.data }, { on := 1, ground := Ground.chain }], guard := none }) rfl (fun K hK => ?_) AllReadyW.nil)
        go_simp
        refine (HE.out _ _ _ (HS.out.ri.bw (by repeat (first | exact Bw.refl _ | apply Bw.alloc | apply Bw.drewN | apply Bw.drew))) ho HNE1.out).mono ?_
        intro e w2 h2
        rw [HQ1.out] at h2
        obtain ⟨bx, he2, hp2, hr2, hk2⟩ := h2
        subst he2
        have HS := hid ((HS.out.bw (by repeat (first | exact Bw.refl _ | apply Bw.alloc | apply Bw.drewN | apply Bw.drew))).add hr2 hk2 hp2)
        clear hp2 hr2 hk2
        refine hK.out _ _ (HS.out.ri.k.cell 3) ?_
        clear hK K
        try simp only [Act.put, List.setIfInBounds_toArray, List.set_cons_zero, List.set_cons_succ]
        refine wpAnyW_ready (rs := [8]) (by kernel_rfl) (by simp) ?_
        refine (AllReadyW.cons (o := { dst := some 29, op := Op.call { callee := Callee.value (Operand.func 59), args := #[Operand.tmp 28], argTypes := #[58] }, type := 57, pos := "statement.go:31", after := #[{ on := 7, ground := Ground.data }, { on := 6, ground := Ground.chain }], guard := none }) rfl (fun K hK => ?_) AllReadyW.nil)
        go_simp
        refine (HBK.out _ _ _ (HS.out.ri.bw (by repeat (first | exact Bw.refl _ | apply Bw.alloc | apply Bw.drewN | apply Bw.drew))) ho HNE2.out).mono ?_
        intro e wy h2
        rw [HQ2.out] at h2
        obtain ⟨he2, hk2⟩ := h2
        subst he2
        exact ⟨rfl, rfl, (HS.out.kp.bw (by repeat (first | exact Bw.refl _ | apply Bw.alloc | apply Bw.drewN | apply Bw.drew))).trans hk2⟩
      | ok x2 c2 j2 =>
        go_enter Tryd.func45, Tryd.ntmps45
        go_upto_region 8 with (first
          | (go_at_call 58; refine (is_any _ (HS.out.ri.bw (by repeat (first | exact Bw.refl _ | apply Bw.alloc | apply Bw.drewN | apply Bw.drew)))).mono ?_; rintro e w1 ⟨rfl, hb1⟩; have HS := hid (HS.out.bw (Bw.trans (by repeat (first | exact Bw.refl _ | apply Bw.alloc | apply Bw.drewN | apply Bw.drew)) hb1)); have zz := HS.out.ri.k.cell; have zf := HS.out.ri.k.free; have zl := HS.out.ri.k.lt; clear hb1)
          | fail)
        refine wp_region_W (fun w' => w'.cell? ⟨r, 3, none⟩ = some (ex 0)) (fun j => if j == 1 || j == 6 || j == 8 || j == 9 || j == 10 then 0 else 1) (by kernel_rfl) ?_
        refine wpAnyW_take (i := 0) (oi := { dst := some 21, op := Op.move (Operand.tmp 0), type := 58, pos := "statement.go:31", after := #[], guard := none }) (v := ?_) rfl (by kernel_rfl) (by kernel_rfl) (by kernel_rfl) (by kernel_rfl) (fun _ _ _ h => h) (Or.inl ⟨by rfl, fun w _ => ?_⟩) ?_
        rotate_left
        · (go_simp; first | done | with_reducible rfl)
        try simp only [Act.put, List.setIfInBounds_toArray, List.set_cons_zero, List.set_cons_succ]
        refine wpAnyW_take (i := 2) (oi := { dst := some 23, op := Op.move (Operand.tmp 0), type := 58, pos := "statement.go:31", after := #[], guard := none }) (v := ?_) rfl (by kernel_rfl) (by kernel_rfl) (by kernel_rfl) (by kernel_rfl) (fun _ _ _ h => h) (Or.inl ⟨by rfl, fun w _ => ?_⟩) ?_
        rotate_left
        · (go_simp; first | done | with_reducible rfl)
        try simp only [Act.put, List.setIfInBounds_toArray, List.set_cons_zero, List.set_cons_succ]
        refine wpAnyW_take (i := 3) (oi := { dst := some 24, op := Op.nilCheck (Operand.tmp 23), type := 0, pos := "statement.go:31", after := #[{ on := 2, ground := Ground.data }], guard := none }) (v := ?_) rfl (by kernel_rfl) (by kernel_rfl) (by kernel_rfl) (by kernel_rfl) (fun _ _ _ h => h) (Or.inl ⟨by rfl, fun w _ => ?_⟩) ?_
        rotate_left
        · (go_simp; first | done | with_reducible rfl)
        try simp only [Act.put, List.setIfInBounds_toArray, List.set_cons_zero, List.set_cons_succ]
        refine wpAnyW_take (i := 4) (oi := { dst := some 25, op := Op.fieldAddr 77 (Operand.tmp 24) 3, type := 0, pos := "statement.go:31", after := #[{ on := 3, ground := Ground.data }], guard := none }) (v := ?_) rfl (by kernel_rfl) (by kernel_rfl) (by kernel_rfl) (by kernel_rfl) (fun _ _ _ h => h) (Or.inl ⟨by rfl, fun w _ => ?_⟩) ?_
        rotate_left
        · (go_simp; first | done | with_reducible rfl)
        try simp only [Act.put, List.setIfInBounds_toArray, List.set_cons_zero, List.set_cons_succ]
        refine wpAnyW_load (i := 5) (oi := { dst := some 26, op := Op.load 75 (Operand.tmp 25), type := 75, pos := "statement.go:31", after := #[{ on := 4, ground := Ground.data }], guard := none }) (v := ?_) rfl (by kernel_rfl) (by kernel_rfl) (by kernel_rfl) (by kernel_rfl) (by kernel_rfl) (fun _ _ _ h => h) (Or.inl ⟨by rfl, fun w hS => ?_⟩) (zz 3) ?_
        rotate_left
        · (skip; go_simp; first | done | with_reducible rfl)
        try simp only [Act.put, List.setIfInBounds_toArray, List.set_cons_zero, List.set_cons_succ]
        refine wpAnyW_take (i := 7) (oi := { dst := some 28, op := Op.move (Operand.tmp 0), type := 58, pos := "statement.go:31", after := #[], guard := none }) (v := ?_) rfl (by kernel_rfl) (by kernel_rfl) (by kernel_rfl) (by kernel_rfl) (fun _ _ _ h => h) (Or.inl ⟨by rfl, fun w _ => ?_⟩) ?_
        rotate_left
        · (go_simp; first | done | with_reducible rfl)
        try simp only [Act.put, List.setIfInBounds_toArray, List.set_cons_zero, List.set_cons_succ]
        refine wpAnyW_ready (rs := [1]) (by kernel_rfl) (by simp) ?_
        refine (AllReadyW.cons (o := { dst := some 22, op := Op.call { callee := Callee.value (Operand.func 62), args := #[Operand.tmp 21, Operand.const (Value.string { data := #[119, 104, 105, 108, 101] })], argTypes := #[58, 9] }, type := 3, pos := "statement.go:31", after := #[{ on := 0, ground := Ground.data }], guard := none }) rfl (fun K hK => ?_) AllReadyW.nil)
        go_simp
        refine (want_yes _ (HS.out.ri.bw (by repeat (first | exact Bw.refl _ | apply Bw.alloc | apply Bw.drewN | apply Bw.drew))) HI.out).mono ?_
        rintro e w1 ⟨he1, hr1, hk1⟩
        subst he1
        have HS := hid ((HS.out.bw (by repeat (first | exact Bw.refl _ | apply Bw.alloc | apply Bw.drewN | apply Bw.drew))).go hr1 hk1)
        clear hr1 hk1
        refine hK.out _ _ (HS.out.ri.k.cell 3) ?_
        clear hK K
        try simp only [Act.put, List.setIfInBounds_toArray, List.set_cons_zero, List.set_cons_succ]
        refine wpAnyW_ready (rs := [6]) (by kernel_rfl) (by simp) ?_
        refine (AllReadyW.cons (o := { dst := some 27, op := Op.call { callee := Callee.value (Operand.tmp 26), args := #[], argTypes := #[] }, type := 57, pos := "statement.go:31", after := #[{ on := 5, ground := Ground.data }, { on := 1, ground := Ground.chain }], guard := none }) rfl (fun K hK => ?_) AllReadyW.nil)
        go_simp
        refine (HE.out _ _ _ (HS.out.ri.bw (by repeat (first | exact Bw.refl _ | apply Bw.alloc | apply Bw.drewN | apply Bw.drew))) ho HNE1.out).mono ?_
        intro e w2 h2
        rw [HQ1.out] at h2
        obtain ⟨bx, he2, hp2, hr2, hk2⟩ := h2
        subst he2
        have HS := hid ((HS.out.bw (by repeat (first | exact Bw.refl _ | apply Bw.alloc | apply Bw.drewN | apply Bw.drew))).add hr2 hk2 hp2)
        clear hp2 hr2 hk2
        refine hK.out _ _ (HS.out.ri.k.cell 3) ?_
        clear hK K
        try simp only [Act.put, List.setIfInBounds_toArray, List.set_cons_zero, List.set_cons_succ]
        refine wpAnyW_ready (rs := [8]) (by kernel_rfl) (by simp) ?_
        refine (AllReadyW.cons (o := { dst := some 29, op := Op.call { callee := Callee.value (Operand.func 59), args := #[Operand.tmp 28], argTypes := #[58] }, type := 57, pos := "statement.go:31", after := #[{ on := 7, ground := Ground.data }, { on := 6, ground := Ground.chain }], guard := none }) rfl (fun K hK => ?_) AllReadyW.nil)
        go_simp
        refine (HBK.out _ _ _ (HS.out.ri.bw (by repeat (first | exact Bw.refl _ | apply Bw.alloc | apply Bw.drewN | apply Bw.drew))) ho HNE2.out).mono ?_
        intro e wy h2
        rw [HQ2.out] at h2
        obtain ⟨by_, he2, hp2, hr2, hk2⟩ := h2
        subst he2
        have HS := hid ((HS.out.bw (by repeat (first | exact Bw.refl _ | apply Bw.alloc | apply Bw.drewN | apply Bw.drew))).add hr2 hk2 hp2)
        clear hp2 hr2 hk2
        refine hK.out _ _ (HS.out.ri.k.cell 3) ?_
        clear hK K
        try simp only [Act.put, List.setIfInBounds_toArray, List.set_cons_zero, List.set_cons_succ]
        refine wpAnyW_ready (rs := [9]) (by kernel_rfl) (by simp) ?_
        refine (AllReadyW.cons (o := { dst := some 30, op := Op.buildSlice 81 2 #[(0, Operand.tmp 27), (1, Operand.tmp 29)], type := 81, pos := "statement.go:31", after := #[{ on := 6, ground := Ground.data }, { on := 8, ground := Ground.data }], guard := none }) rfl (fun K hK => ?_) AllReadyW.nil)
        go_simp
        refine hK.out _ _ ((HS.out.bw (Bw.alloc (Bw.refl _) _)).ri.k.cell 3) ?_
        clear hK K
        try simp only [Act.put, List.setIfInBounds_toArray, List.set_cons_zero, List.set_cons_succ]
        refine wpAnyW_ready (rs := [10]) (by kernel_rfl) (by simp) ?_
        refine (AllReadyW.cons (o := { dst := some 31, op := Op.call { callee := Callee.value (Operand.func 43), args := #[Operand.const (Value.int IntKind.i64 6), Operand.tmp 22, Operand.tmp 30], argTypes := #[3, 3, 81] }, type := 57, pos := "statement.go:31", after := #[{ on := 1, ground := Ground.data }, { on := 9, ground := Ground.data }, { on := 8, ground := Ground.chain }], guard := none }) rfl (fun K hK => ?_) AllReadyW.nil)
        go_simp
        refine (made_any _ _ _ [x1, x2] [bx, by_] _ _ (HS.out.row2 (x := x1) (y := x2) (b := bx) (c := by_) (by simp) (by simp)).1 (HS.out.row2 (x := x1) (y := x2) (b := bx) (c := by_) (by simp) (by simp)).2).mono ?_
        rintro e w3 ⟨b3, he3, hp3, hb3, hn3, hc3⟩
        subst he3
        have HS := hid ((HS.out.bw (Bw.alloc (Bw.refl _) _)).put hb3 hp3)
        clear hp3 hb3 hn3 hc3
        refine hK.out _ _ (HS.out.ri.k.cell 3) ?_
        clear hK K
        try simp only [Act.put, List.setIfInBounds_toArray, List.set_cons_zero, List.set_cons_succ]
        refine wpAnyW_take (i := 11) (oi := { dst := some 2, op := Op.assign (Operand.tmp 31), type := 57, pos := "statement.go:31", after := #[{ on := 10, ground := Ground.data }, { on := 10, ground := Ground.chain }, { on := 0, ground := Ground.phase }, { on := 1, ground := Ground.phase }, { on := 2, ground := Ground.phase }, { on := 3, ground := Ground.phase }, { on := 4, ground := Ground.phase }, { on := 5, ground := Ground.phase }, { on := 6, ground := Ground.phase }, { on := 7, ground := Ground.phase }, { on := 8, ground := Ground.phase }, { on := 9, ground := Ground.phase }, { on := 10, ground := Ground.phase }], guard := none }) (v := ?_) rfl (by kernel_rfl) (by kernel_rfl) (by kernel_rfl) (by kernel_rfl) (fun _ _ _ h => h) (Or.inl ⟨by rfl, fun w _ => ?_⟩) ?_
        rotate_left
        · (go_simp; first | done | with_reducible rfl)
        try simp only [Act.put, List.setIfInBounds_toArray, List.set_cons_zero, List.set_cons_succ]
        refine wpAnyW_done (by kernel_rfl) ?_ _
        go_wp2
        all_goals go_ret
        all_goals exact ⟨_, rfl, HS.out.outp (by simp)⟩
  rw [o_while, if_neg (by decide)] at hne
  rw [if_neg (by decide)]
  cases o_break : isT T i ⟨#[98, 114, 101, 97, 107]⟩
  case true =>
    rw [o_break, if_pos rfl] at hne
    rw [if_pos rfl]
    have HI := hid o_break
    clear hne
    cases hl : isT T (i + 1) ⟨#[59]⟩
    · have HSM := hid (show semi T (i + 1) (.mk 7 [] 0 (tk T i).2.2.2 []) = .bad 6 (tk T (i + 1)).2.2.2 by unfold semi want; rw [hl]; rfl)
      rw [HSM.out]
      clear hl
      go_enter Tryd.func45, Tryd.ntmps45
      go_wp2_with (first
        | (go_at_call 58; refine (is_any _ (HS.out.ri.bw (by repeat (first | exact Bw.refl _ | apply Bw.alloc | apply Bw.drewN | apply Bw.drew)))).mono ?_; rintro e w1 ⟨rfl, hb1⟩; have HS := hid (HS.out.bw (Bw.trans (by repeat (first | exact Bw.refl _ | apply Bw.alloc | apply Bw.drewN | apply Bw.drew)) hb1)); have zz := HS.out.ri.k.cell; have zf := HS.out.ri.k.free; have zl := HS.out.ri.k.lt; clear hb1)
        | (go_at_call 62; refine (want_yes _ (HS.out.ri.bw (by repeat (first | exact Bw.refl _ | apply Bw.alloc | apply Bw.drewN | apply Bw.drew))) HI.out).mono ?_; rintro e w1 ⟨rfl, hr1, hk1⟩; have HS := hid ((HS.out.bw (by repeat (first | exact Bw.refl _ | apply Bw.alloc | apply Bw.drewN | apply Bw.drew))).go hr1 hk1); have zz := HS.out.ri.k.cell; have zf := HS.out.ri.k.free; have zl := HS.out.ri.k.lt; clear hr1 hk1)
        | (go_at_call 43; refine (made_any _ _ _ [] [] _ _ (HS.out.bw (by repeat (first | exact Bw.refl _ | apply Bw.alloc | apply Bw.drewN | apply Bw.drew))).row0.1 (HS.out.bw (by repeat (first | exact Bw.refl _ | apply Bw.alloc | apply Bw.drewN | apply Bw.drew))).row0.2).mono ?_; rintro e w3 ⟨b3, rfl, hp3, hb3, hn3, hc3⟩; have HS := hid ((HS.out.bw (by repeat (first | exact Bw.refl _ | apply Bw.alloc | apply Bw.drewN | apply Bw.drew))).put hb3 hp3); have zz := HS.out.ri.k.cell; have zf := HS.out.ri.k.free; have zl := HS.out.ri.k.lt; clear hp3 hb3)
        | (go_at_call 63; refine (ended_any (.mk 7 [] 0 (tk T i).2.2.2 []) b3 _ _ _ (HS.out.ri.bw (by repeat (first | exact Bw.refl _ | apply Bw.alloc | apply Bw.drewN | apply Bw.drew))) ((HS.out.bw (by repeat (first | exact Bw.refl _ | apply Bw.alloc | apply Bw.drewN | apply Bw.drew))).ps (.mk 7 [] 0 (tk T i).2.2.2 [], b3) (by simp)) (fun n hn => ⟨((HS.out.bw (by repeat (first | exact Bw.refl _ | apply Bw.alloc | apply Bw.drewN | apply Bw.drew))).ne hn).2, ((HS.out.bw (by repeat (first | exact Bw.refl _ | apply Bw.alloc | apply Bw.drewN | apply Bw.drew))).ne hn).1⟩)).mono ?_; intro e w5 h5; rw [HSM.out] at h5; obtain ⟨rfl, hk5⟩ := h5; have HK := hid ((HS.out.kp.bw (by repeat (first | exact Bw.refl _ | apply Bw.alloc | apply Bw.drewN | apply Bw.drew))).trans hk5); clear hk5)
        | fail)
      all_goals exact ⟨rfl, rfl, HK.out⟩
    · have HSM := hid (show semi T (i + 1) (.mk 7 [] 0 (tk T i).2.2.2 []) = .ok (.mk 7 [] 0 (tk T i).2.2.2 []) false ((i + 1) + 1) by unfold semi want; rw [hl]; rfl)
      rw [HSM.out]
      clear hl
      go_enter Tryd.func45, Tryd.ntmps45
      go_wp2_with (first
        | (go_at_call 58; refine (is_any _ (HS.out.ri.bw (by repeat (first | exact Bw.refl _ | apply Bw.alloc | apply Bw.drewN | apply Bw.drew)))).mono ?_; rintro e w1 ⟨rfl, hb1⟩; have HS := hid (HS.out.bw (Bw.trans (by repeat (first | exact Bw.refl _ | apply Bw.alloc | apply Bw.drewN | apply Bw.drew)) hb1)); have zz := HS.out.ri.k.cell; have zf := HS.out.ri.k.free; have zl := HS.out.ri.k.lt; clear hb1)
        | (go_at_call 62; refine (want_yes _ (HS.out.ri.bw (by repeat (first | exact Bw.refl _ | apply Bw.alloc | apply Bw.drewN | apply Bw.drew))) HI.out).mono ?_; rintro e w1 ⟨rfl, hr1, hk1⟩; have HS := hid ((HS.out.bw (by repeat (first | exact Bw.refl _ | apply Bw.alloc | apply Bw.drewN | apply Bw.drew))).go hr1 hk1); have zz := HS.out.ri.k.cell; have zf := HS.out.ri.k.free; have zl := HS.out.ri.k.lt; clear hr1 hk1)
        | (go_at_call 43; refine (made_any _ _ _ [] [] _ _ (HS.out.bw (by repeat (first | exact Bw.refl _ | apply Bw.alloc | apply Bw.drewN | apply Bw.drew))).row0.1 (HS.out.bw (by repeat (first | exact Bw.refl _ | apply Bw.alloc | apply Bw.drewN | apply Bw.drew))).row0.2).mono ?_; rintro e w3 ⟨b3, rfl, hp3, hb3, hn3, hc3⟩; have HS := hid ((HS.out.bw (by repeat (first | exact Bw.refl _ | apply Bw.alloc | apply Bw.drewN | apply Bw.drew))).put hb3 hp3); have zz := HS.out.ri.k.cell; have zf := HS.out.ri.k.free; have zl := HS.out.ri.k.lt; clear hp3 hb3)
        | (go_at_call 63; refine (ended_any (.mk 7 [] 0 (tk T i).2.2.2 []) b3 _ _ _ (HS.out.ri.bw (by repeat (first | exact Bw.refl _ | apply Bw.alloc | apply Bw.drewN | apply Bw.drew))) ((HS.out.bw (by repeat (first | exact Bw.refl _ | apply Bw.alloc | apply Bw.drewN | apply Bw.drew))).ps (.mk 7 [] 0 (tk T i).2.2.2 [], b3) (by simp)) (fun n hn => ⟨((HS.out.bw (by repeat (first | exact Bw.refl _ | apply Bw.alloc | apply Bw.drewN | apply Bw.drew))).ne hn).2, ((HS.out.bw (by repeat (first | exact Bw.refl _ | apply Bw.alloc | apply Bw.drewN | apply Bw.drew))).ne hn).1⟩)).mono ?_; intro e w5 h5; rw [HSM.out] at h5; obtain ⟨b5, rfl, hp5, hr5, hk5⟩ := h5; have HS := hid ((HS.out.bw (by repeat (first | exact Bw.refl _ | apply Bw.alloc | apply Bw.drewN | apply Bw.drew))).turn hr5 hk5 hp5); clear hp5 hr5 hk5)
        | fail)
      all_goals go_ret
      all_goals exact ⟨_, rfl, HS.out.outp (by simp)⟩
  rw [o_break, if_neg (by decide)] at hne
  rw [if_neg (by decide)]
  cases o_continue : isT T i ⟨#[99, 111, 110, 116, 105, 110, 117, 101]⟩
  case true =>
    rw [o_continue, if_pos rfl] at hne
    rw [if_pos rfl]
    have HI := hid o_continue
    clear hne
    cases hl : isT T (i + 1) ⟨#[59]⟩
    · have HSM := hid (show semi T (i + 1) (.mk 8 [] 0 (tk T i).2.2.2 []) = .bad 6 (tk T (i + 1)).2.2.2 by unfold semi want; rw [hl]; rfl)
      rw [HSM.out]
      clear hl
      go_enter Tryd.func45, Tryd.ntmps45
      go_wp2_with (first
        | (go_at_call 58; refine (is_any _ (HS.out.ri.bw (by repeat (first | exact Bw.refl _ | apply Bw.alloc | apply Bw.drewN | apply Bw.drew)))).mono ?_; rintro e w1 ⟨rfl, hb1⟩; have HS := hid (HS.out.bw (Bw.trans (by repeat (first | exact Bw.refl _ | apply Bw.alloc | apply Bw.drewN | apply Bw.drew)) hb1)); have zz := HS.out.ri.k.cell; have zf := HS.out.ri.k.free; have zl := HS.out.ri.k.lt; clear hb1)
        | (go_at_call 62; refine (want_yes _ (HS.out.ri.bw (by repeat (first | exact Bw.refl _ | apply Bw.alloc | apply Bw.drewN | apply Bw.drew))) HI.out).mono ?_; rintro e w1 ⟨rfl, hr1, hk1⟩; have HS := hid ((HS.out.bw (by repeat (first | exact Bw.refl _ | apply Bw.alloc | apply Bw.drewN | apply Bw.drew))).go hr1 hk1); have zz := HS.out.ri.k.cell; have zf := HS.out.ri.k.free; have zl := HS.out.ri.k.lt; clear hr1 hk1)
        | (go_at_call 43; refine (made_any _ _ _ [] [] _ _ (HS.out.bw (by repeat (first | exact Bw.refl _ | apply Bw.alloc | apply Bw.drewN | apply Bw.drew))).row0.1 (HS.out.bw (by repeat (first | exact Bw.refl _ | apply Bw.alloc | apply Bw.drewN | apply Bw.drew))).row0.2).mono ?_; rintro e w3 ⟨b3, rfl, hp3, hb3, hn3, hc3⟩; have HS := hid ((HS.out.bw (by repeat (first | exact Bw.refl _ | apply Bw.alloc | apply Bw.drewN | apply Bw.drew))).put hb3 hp3); have zz := HS.out.ri.k.cell; have zf := HS.out.ri.k.free; have zl := HS.out.ri.k.lt; clear hp3 hb3)
        | (go_at_call 63; refine (ended_any (.mk 8 [] 0 (tk T i).2.2.2 []) b3 _ _ _ (HS.out.ri.bw (by repeat (first | exact Bw.refl _ | apply Bw.alloc | apply Bw.drewN | apply Bw.drew))) ((HS.out.bw (by repeat (first | exact Bw.refl _ | apply Bw.alloc | apply Bw.drewN | apply Bw.drew))).ps (.mk 8 [] 0 (tk T i).2.2.2 [], b3) (by simp)) (fun n hn => ⟨((HS.out.bw (by repeat (first | exact Bw.refl _ | apply Bw.alloc | apply Bw.drewN | apply Bw.drew))).ne hn).2, ((HS.out.bw (by repeat (first | exact Bw.refl _ | apply Bw.alloc | apply Bw.drewN | apply Bw.drew))).ne hn).1⟩)).mono ?_; intro e w5 h5; rw [HSM.out] at h5; obtain ⟨rfl, hk5⟩ := h5; have HK := hid ((HS.out.kp.bw (by repeat (first | exact Bw.refl _ | apply Bw.alloc | apply Bw.drewN | apply Bw.drew))).trans hk5); clear hk5)
        | fail)
      all_goals exact ⟨rfl, rfl, HK.out⟩
    · have HSM := hid (show semi T (i + 1) (.mk 8 [] 0 (tk T i).2.2.2 []) = .ok (.mk 8 [] 0 (tk T i).2.2.2 []) false ((i + 1) + 1) by unfold semi want; rw [hl]; rfl)
      rw [HSM.out]
      clear hl
      go_enter Tryd.func45, Tryd.ntmps45
      go_wp2_with (first
        | (go_at_call 58; refine (is_any _ (HS.out.ri.bw (by repeat (first | exact Bw.refl _ | apply Bw.alloc | apply Bw.drewN | apply Bw.drew)))).mono ?_; rintro e w1 ⟨rfl, hb1⟩; have HS := hid (HS.out.bw (Bw.trans (by repeat (first | exact Bw.refl _ | apply Bw.alloc | apply Bw.drewN | apply Bw.drew)) hb1)); have zz := HS.out.ri.k.cell; have zf := HS.out.ri.k.free; have zl := HS.out.ri.k.lt; clear hb1)
        | (go_at_call 62; refine (want_yes _ (HS.out.ri.bw (by repeat (first | exact Bw.refl _ | apply Bw.alloc | apply Bw.drewN | apply Bw.drew))) HI.out).mono ?_; rintro e w1 ⟨rfl, hr1, hk1⟩; have HS := hid ((HS.out.bw (by repeat (first | exact Bw.refl _ | apply Bw.alloc | apply Bw.drewN | apply Bw.drew))).go hr1 hk1); have zz := HS.out.ri.k.cell; have zf := HS.out.ri.k.free; have zl := HS.out.ri.k.lt; clear hr1 hk1)
        | (go_at_call 43; refine (made_any _ _ _ [] [] _ _ (HS.out.bw (by repeat (first | exact Bw.refl _ | apply Bw.alloc | apply Bw.drewN | apply Bw.drew))).row0.1 (HS.out.bw (by repeat (first | exact Bw.refl _ | apply Bw.alloc | apply Bw.drewN | apply Bw.drew))).row0.2).mono ?_; rintro e w3 ⟨b3, rfl, hp3, hb3, hn3, hc3⟩; have HS := hid ((HS.out.bw (by repeat (first | exact Bw.refl _ | apply Bw.alloc | apply Bw.drewN | apply Bw.drew))).put hb3 hp3); have zz := HS.out.ri.k.cell; have zf := HS.out.ri.k.free; have zl := HS.out.ri.k.lt; clear hp3 hb3)
        | (go_at_call 63; refine (ended_any (.mk 8 [] 0 (tk T i).2.2.2 []) b3 _ _ _ (HS.out.ri.bw (by repeat (first | exact Bw.refl _ | apply Bw.alloc | apply Bw.drewN | apply Bw.drew))) ((HS.out.bw (by repeat (first | exact Bw.refl _ | apply Bw.alloc | apply Bw.drewN | apply Bw.drew))).ps (.mk 8 [] 0 (tk T i).2.2.2 [], b3) (by simp)) (fun n hn => ⟨((HS.out.bw (by repeat (first | exact Bw.refl _ | apply Bw.alloc | apply Bw.drewN | apply Bw.drew))).ne hn).2, ((HS.out.bw (by repeat (first | exact Bw.refl _ | apply Bw.alloc | apply Bw.drewN | apply Bw.drew))).ne hn).1⟩)).mono ?_; intro e w5 h5; rw [HSM.out] at h5; obtain ⟨b5, rfl, hp5, hr5, hk5⟩ := h5; have HS := hid ((HS.out.bw (by repeat (first | exact Bw.refl _ | apply Bw.alloc | apply Bw.drewN | apply Bw.drew))).turn hr5 hk5 hp5); clear hp5 hr5 hk5)
        | fail)
      all_goals go_ret
      all_goals exact ⟨_, rfl, HS.out.outp (by simp)⟩
  rw [o_continue, if_neg (by decide)] at hne
  rw [if_neg (by decide)]
  cases o_return : isT T i ⟨#[114, 101, 116, 117, 114, 110]⟩
  case true =>
    rw [o_return, if_pos rfl] at hne
    rw [if_pos rfl]
    have HNE := hid hne
    have HI := hid o_return
    clear hne
    generalize hq : (if isT T (i + 1) ⟨#[59]⟩ then semi T (i + 1) (.mk 9 [] 0 (tk T i).2.2.2 []) else (pP T f (.lev 0) (i + 1) o).bind fun x _ j => semi T j (.mk 9 [] 0 (tk T i).2.2.2 [x])) = R
    have HQ := hid hq
    clear hq
    cases R with
    | out => exact absurd HQ.out HNE.out
    | bad n m =>
      go_enter Tryd.func45, Tryd.ntmps45
      go_wp2_with (first
        | (go_at_call 58; refine (is_any _ (HS.out.ri.bw (by repeat (first | exact Bw.refl _ | apply Bw.alloc | apply Bw.drewN | apply Bw.drew)))).mono ?_; rintro e w1 ⟨rfl, hb1⟩; have HS := hid (HS.out.bw (Bw.trans (by repeat (first | exact Bw.refl _ | apply Bw.alloc | apply Bw.drewN | apply Bw.drew)) hb1)); have zz := HS.out.ri.k.cell; have zf := HS.out.ri.k.free; have zl := HS.out.ri.k.lt; clear hb1)
        | (go_at_call 64; refine (result_any pa pb pc e0 f HE.out _ _ _ (HS.out.ri.bw (by repeat (first | exact Bw.refl _ | apply Bw.alloc | apply Bw.drewN | apply Bw.drew))) ho HI.out HNE.out).mono ?_; intro e w5 h5; rw [HQ.out] at h5; obtain ⟨rfl, hk5⟩ := h5; have HK := hid ((HS.out.kp.bw (by repeat (first | exact Bw.refl _ | apply Bw.alloc | apply Bw.drewN | apply Bw.drew))).trans hk5); clear hk5)
        | fail)
      all_goals exact ⟨rfl, rfl, HK.out⟩
    | ok x c j =>
      go_enter Tryd.func45, Tryd.ntmps45
      go_wp2_with (first
        | (go_at_call 58; refine (is_any _ (HS.out.ri.bw (by repeat (first | exact Bw.refl _ | apply Bw.alloc | apply Bw.drewN | apply Bw.drew)))).mono ?_; rintro e w1 ⟨rfl, hb1⟩; have HS := hid (HS.out.bw (Bw.trans (by repeat (first | exact Bw.refl _ | apply Bw.alloc | apply Bw.drewN | apply Bw.drew)) hb1)); have zz := HS.out.ri.k.cell; have zf := HS.out.ri.k.free; have zl := HS.out.ri.k.lt; clear hb1)
        | (go_at_call 64; refine (result_any pa pb pc e0 f HE.out _ _ _ (HS.out.ri.bw (by repeat (first | exact Bw.refl _ | apply Bw.alloc | apply Bw.drewN | apply Bw.drew))) ho HI.out HNE.out).mono ?_; intro e w5 h5; rw [HQ.out] at h5; obtain ⟨b5, rfl, hp5, hr5, hk5⟩ := h5; have HS := hid ((HS.out.bw (by repeat (first | exact Bw.refl _ | apply Bw.alloc | apply Bw.drewN | apply Bw.drew))).add hr5 hk5 hp5); clear hp5 hr5 hk5)
        | fail)
      all_goals go_ret
      all_goals exact ⟨_, rfl, HS.out.outp (by simp)⟩
  rw [o_return, if_neg (by decide)] at hne
  rw [if_neg (by decide)]
  cases o_throw : isT T i ⟨#[116, 104, 114, 111, 119]⟩
  case true =>
    rw [o_throw, if_pos rfl] at hne
    rw [if_pos rfl]
    have HI := hid o_throw
    have HNE := hid (show pP T f (.lev 0) (i + 1) o ≠ .out from fun q => hne (by rw [q]; rfl))
    clear hne
    generalize hq : pP T f (.lev 0) (i + 1) o = R
    have HQ := hid hq
    clear hq
    cases R with
    | out => exact absurd HQ.out HNE.out
    | bad n m =>
      simp only [Res.bind]
      go_enter Tryd.func45, Tryd.ntmps45
      go_upto_region 16 with (first
        | (go_at_call 58; refine (is_any _ (HS.out.ri.bw (by repeat (first | exact Bw.refl _ | apply Bw.alloc | apply Bw.drewN | apply Bw.drew)))).mono ?_; rintro e w1 ⟨rfl, hb1⟩; have HS := hid (HS.out.bw (Bw.trans (by repeat (first | exact Bw.refl _ | apply Bw.alloc | apply Bw.drewN | apply Bw.drew)) hb1)); have zz := HS.out.ri.k.cell; have zf := HS.out.ri.k.free; have zl := HS.out.ri.k.lt; clear hb1)
        | fail)
      refine wp_region_W (fun w' => w'.cell? ⟨r, 3, none⟩ = some (ex 0)) (fun j => if j == 2 || j == 7 then 0 else 1) (by kernel_rfl) ?_
      refine wpAnyW_take (i := 0) (oi := { dst := some 56, op := Op.move (Operand.tmp 0), type := 58, pos := "statement.go:39", after := #[], guard := none }) (v := ?_) rfl (by kernel_rfl) (by kernel_rfl) (by kernel_rfl) (by kernel_rfl) (fun _ _ _ h => h) (Or.inl ⟨by rfl, fun w _ => ?_⟩) ?_
      rotate_left
      · (go_simp; first | done | with_reducible rfl)
      try simp only [Act.put, List.setIfInBounds_toArray, List.set_cons_zero, List.set_cons_succ]
      refine wpAnyW_take (i := 1) (oi := { dst := some 57, op := Op.move (Operand.tmp 0), type := 58, pos := "statement.go:39", after := #[], guard := none }) (v := ?_) rfl (by kernel_rfl) (by kernel_rfl) (by kernel_rfl) (by kernel_rfl) (fun _ _ _ h => h) (Or.inl ⟨by rfl, fun w _ => ?_⟩) ?_
      rotate_left
      · (go_simp; first | done | with_reducible rfl)
      try simp only [Act.put, List.setIfInBounds_toArray, List.set_cons_zero, List.set_cons_succ]
      refine wpAnyW_take (i := 3) (oi := { dst := some 59, op := Op.move (Operand.tmp 0), type := 58, pos := "statement.go:39", after := #[], guard := none }) (v := ?_) rfl (by kernel_rfl) (by kernel_rfl) (by kernel_rfl) (by kernel_rfl) (fun _ _ _ h => h) (Or.inl ⟨by rfl, fun w _ => ?_⟩) ?_
      rotate_left
      · (go_simp; first | done | with_reducible rfl)
      try simp only [Act.put, List.setIfInBounds_toArray, List.set_cons_zero, List.set_cons_succ]
      refine wpAnyW_take (i := 4) (oi := { dst := some 60, op := Op.nilCheck (Operand.tmp 59), type := 0, pos := "statement.go:39", after := #[{ on := 3, ground := Ground.data }], guard := none }) (v := ?_) rfl (by kernel_rfl) (by kernel_rfl) (by kernel_rfl) (by kernel_rfl) (fun _ _ _ h => h) (Or.inl ⟨by rfl, fun w _ => ?_⟩) ?_
      rotate_left
      · (go_simp; first | done | with_reducible rfl)
      try simp only [Act.put, List.setIfInBounds_toArray, List.set_cons_zero, List.set_cons_succ]
      refine wpAnyW_take (i := 5) (oi := { dst := some 61, op := Op.fieldAddr 77 (Operand.tmp 60) 3, type := 0, pos := "statement.go:39", after := #[{ on := 4, ground := Ground.data }], guard := none }) (v := ?_) rfl (by kernel_rfl) (by kernel_rfl) (by kernel_rfl) (by kernel_rfl) (fun _ _ _ h => h) (Or.inl ⟨by rfl, fun w _ => ?_⟩) ?_
      rotate_left
      · (go_simp; first | done | with_reducible rfl)
      try simp only [Act.put, List.setIfInBounds_toArray, List.set_cons_zero, List.set_cons_succ]
      refine wpAnyW_load (i := 6) (oi := { dst := some 62, op := Op.load 75 (Operand.tmp 61), type := 75, pos := "statement.go:39", after := #[{ on := 5, ground := Ground.data }], guard := none }) (v := ?_) rfl (by kernel_rfl) (by kernel_rfl) (by kernel_rfl) (by kernel_rfl) (by kernel_rfl) (fun _ _ _ h => h) (Or.inl ⟨by rfl, fun w hS => ?_⟩) (zz 3) ?_
      rotate_left
      · (skip; go_simp; first | done | with_reducible rfl)
      try simp only [Act.put, List.setIfInBounds_toArray, List.set_cons_zero, List.set_cons_succ]
      refine wpAnyW_ready (rs := [2]) (by kernel_rfl) (by simp) ?_
      refine (AllReadyW.cons (o := { dst := some 58, op := Op.call { callee := Callee.value (Operand.func 62), args := #[Operand.tmp 57, Operand.const (Value.string { data := #[116, 104, 114, 111, 119] })], argTypes := #[58, 9] }, type := 3, pos := "statement.go:39", after := #[{ on := 1, ground := Ground.data }], guard := none }) rfl (fun K hK => ?_) AllReadyW.nil)
      go_simp
      refine (want_yes _ (HS.out.ri.bw (by repeat (first | exact Bw.refl _ | apply Bw.alloc | apply Bw.drewN | apply Bw.drew))) HI.out).mono ?_
      rintro e w1 ⟨he1, hr1, hk1⟩
      subst he1
      have HS := hid ((HS.out.bw (by repeat (first | exact Bw.refl _ | apply Bw.alloc | apply Bw.drewN | apply Bw.drew))).go hr1 hk1)
      clear hr1 hk1
      refine hK.out _ _ (HS.out.ri.k.cell 3) ?_
      clear hK K
      try simp only [Act.put, List.setIfInBounds_toArray, List.set_cons_zero, List.set_cons_succ]
      refine wpAnyW_ready (rs := [7]) (by kernel_rfl) (by simp) ?_
      refine (AllReadyW.cons (o := { dst := some 63, op := Op.call { callee := Callee.value (Operand.tmp 62), args := #[], argTypes := #[] }, type := 57, pos := "statement.go:39", after := #[{ on := 6, ground := Ground.data }, { on := 2, ground := Ground.chain }], guard := none }) rfl (fun K hK => ?_) AllReadyW.nil)
      go_simp
      refine (HE.out _ _ _ (HS.out.ri.bw (by repeat (first | exact Bw.refl _ | apply Bw.alloc | apply Bw.drewN | apply Bw.drew))) ho HNE.out).mono ?_
      intro e w2 h2
      rw [HQ.out] at h2
      obtain ⟨he2, hk2⟩ := h2
      subst he2
      exact ⟨rfl, rfl, (HS.out.kp.bw (by repeat (first | exact Bw.refl _ | apply Bw.alloc | apply Bw.drewN | apply Bw.drew))).trans hk2⟩
    | ok x c j =>
      simp only [Res.bind]
      cases hl : isT T j ⟨#[59]⟩
      · have HSM := hid (show semi T j (.mk 10 [] 0 (tk T i).2.2.2 [x]) = .bad 6 (tk T j).2.2.2 by unfold semi want; rw [hl]; rfl)
        rw [HSM.out]
        clear hl
        go_enter Tryd.func45, Tryd.ntmps45
        go_upto_region 16 with (first
          | (go_at_call 58; refine (is_any _ (HS.out.ri.bw (by repeat (first | exact Bw.refl _ | apply Bw.alloc | apply Bw.drewN | apply Bw.drew)))).mono ?_; rintro e w1 ⟨rfl, hb1⟩; have HS := hid (HS.out.bw (Bw.trans (by repeat (first | exact Bw.refl _ | apply Bw.alloc | apply Bw.drewN | apply Bw.drew)) hb1)); have zz := HS.out.ri.k.cell; have zf := HS.out.ri.k.free; have zl := HS.out.ri.k.lt; clear hb1)
          | fail)
        refine wp_region_W (fun w' => w'.cell? ⟨r, 3, none⟩ = some (ex 0)) (fun j => if j == 2 || j == 7 || j == 8 || j == 9 || j == 10 then 0 else 1) (by kernel_rfl) ?_
        refine wpAnyW_take (i := 0) (oi := { dst := some 56, op := Op.move (Operand.tmp 0), type := 58, pos := "statement.go:39", after := #[], guard := none }) (v := ?_) rfl (by kernel_rfl) (by kernel_rfl) (by kernel_rfl) (by kernel_rfl) (fun _ _ _ h => h) (Or.inl ⟨by rfl, fun w _ => ?_⟩) ?_
        rotate_left
        · (go_simp; first | done | with_reducible rfl)
        try simp only [Act.put, List.setIfInBounds_toArray, List.set_cons_zero, List.set_cons_succ]
        refine wpAnyW_take (i := 1) (oi := { dst := some 57, op := Op.move (Operand.tmp 0), type := 58, pos := "statement.go:39", after := #[], guard := none }) (v := ?_) rfl (by kernel_rfl) (by kernel_rfl) (by kernel_rfl) (by kernel_rfl) (fun _ _ _ h => h) (Or.inl ⟨by rfl, fun w _ => ?_⟩) ?_
        rotate_left
        · (go_simp; first | done | with_reducible rfl)
        try simp only [Act.put, List.setIfInBounds_toArray, List.set_cons_zero, List.set_cons_succ]
        refine wpAnyW_take (i := 3) (oi := { dst := some 59, op := Op.move (Operand.tmp 0), type := 58, pos := "statement.go:39", after := #[], guard := none }) (v := ?_) rfl (by kernel_rfl) (by kernel_rfl) (by kernel_rfl) (by kernel_rfl) (fun _ _ _ h => h) (Or.inl ⟨by rfl, fun w _ => ?_⟩) ?_
        rotate_left
        · (go_simp; first | done | with_reducible rfl)
        try simp only [Act.put, List.setIfInBounds_toArray, List.set_cons_zero, List.set_cons_succ]
        refine wpAnyW_take (i := 4) (oi := { dst := some 60, op := Op.nilCheck (Operand.tmp 59), type := 0, pos := "statement.go:39", after := #[{ on := 3, ground := Ground.data }], guard := none }) (v := ?_) rfl (by kernel_rfl) (by kernel_rfl) (by kernel_rfl) (by kernel_rfl) (fun _ _ _ h => h) (Or.inl ⟨by rfl, fun w _ => ?_⟩) ?_
        rotate_left
        · (go_simp; first | done | with_reducible rfl)
        try simp only [Act.put, List.setIfInBounds_toArray, List.set_cons_zero, List.set_cons_succ]
        refine wpAnyW_take (i := 5) (oi := { dst := some 61, op := Op.fieldAddr 77 (Operand.tmp 60) 3, type := 0, pos := "statement.go:39", after := #[{ on := 4, ground := Ground.data }], guard := none }) (v := ?_) rfl (by kernel_rfl) (by kernel_rfl) (by kernel_rfl) (by kernel_rfl) (fun _ _ _ h => h) (Or.inl ⟨by rfl, fun w _ => ?_⟩) ?_
        rotate_left
        · (go_simp; first | done | with_reducible rfl)
        try simp only [Act.put, List.setIfInBounds_toArray, List.set_cons_zero, List.set_cons_succ]
        refine wpAnyW_load (i := 6) (oi := { dst := some 62, op := Op.load 75 (Operand.tmp 61), type := 75, pos := "statement.go:39", after := #[{ on := 5, ground := Ground.data }], guard := none }) (v := ?_) rfl (by kernel_rfl) (by kernel_rfl) (by kernel_rfl) (by kernel_rfl) (by kernel_rfl) (fun _ _ _ h => h) (Or.inl ⟨by rfl, fun w hS => ?_⟩) (zz 3) ?_
        rotate_left
        · (skip; go_simp; first | done | with_reducible rfl)
        try simp only [Act.put, List.setIfInBounds_toArray, List.set_cons_zero, List.set_cons_succ]
        refine wpAnyW_ready (rs := [2]) (by kernel_rfl) (by simp) ?_
        refine (AllReadyW.cons (o := { dst := some 58, op := Op.call { callee := Callee.value (Operand.func 62), args := #[Operand.tmp 57, Operand.const (Value.string { data := #[116, 104, 114, 111, 119] })], argTypes := #[58, 9] }, type := 3, pos := "statement.go:39", after := #[{ on := 1, ground := Ground.data }], guard := none }) rfl (fun K hK => ?_) AllReadyW.nil)
        go_simp
        refine (want_yes _ (HS.out.ri.bw (by repeat (first | exact Bw.refl _ | apply Bw.alloc | apply Bw.drewN | apply Bw.drew))) HI.out).mono ?_
        rintro e w1 ⟨he1, hr1, hk1⟩
        subst he1
        have HS := hid ((HS.out.bw (by repeat (first | exact Bw.refl _ | apply Bw.alloc | apply Bw.drewN | apply Bw.drew))).go hr1 hk1)
        clear hr1 hk1
        refine hK.out _ _ (HS.out.ri.k.cell 3) ?_
        clear hK K
        try simp only [Act.put, List.setIfInBounds_toArray, List.set_cons_zero, List.set_cons_succ]
        refine wpAnyW_ready (rs := [7]) (by kernel_rfl) (by simp) ?_
        refine (AllReadyW.cons (o := { dst := some 63, op := Op.call { callee := Callee.value (Operand.tmp 62), args := #[], argTypes := #[] }, type := 57, pos := "statement.go:39", after := #[{ on := 6, ground := Ground.data }, { on := 2, ground := Ground.chain }], guard := none }) rfl (fun K hK => ?_) AllReadyW.nil)
        go_simp
        refine (HE.out _ _ _ (HS.out.ri.bw (by repeat (first | exact Bw.refl _ | apply Bw.alloc | apply Bw.drewN | apply Bw.drew))) ho HNE.out).mono ?_
        intro e w2 h2
        rw [HQ.out] at h2
        obtain ⟨bx, he2, hp2, hr2, hk2⟩ := h2
        subst he2
        have HS := hid ((HS.out.bw (by repeat (first | exact Bw.refl _ | apply Bw.alloc | apply Bw.drewN | apply Bw.drew))).add hr2 hk2 hp2)
        clear hp2 hr2 hk2
        refine hK.out _ _ (HS.out.ri.k.cell 3) ?_
        clear hK K
        try simp only [Act.put, List.setIfInBounds_toArray, List.set_cons_zero, List.set_cons_succ]
        refine wpAnyW_ready (rs := [8]) (by kernel_rfl) (by simp) ?_
        refine (AllReadyW.cons (o := { dst := some 64, op := Op.buildSlice 81 1 #[(0, Operand.tmp 63)], type := 81, pos := "statement.go:39", after := #[{ on := 7, ground := Ground.data }], guard := none }) rfl (fun K hK => ?_) AllReadyW.nil)
        go_simp
        refine hK.out _ _ ((HS.out.bw (Bw.alloc (Bw.refl _) _)).ri.k.cell 3) ?_
        clear hK K
        try simp only [Act.put, List.setIfInBounds_toArray, List.set_cons_zero, List.set_cons_succ]
        refine wpAnyW_ready (rs := [9]) (by kernel_rfl) (by simp) ?_
        refine (AllReadyW.cons (o := { dst := some 65, op := Op.call { callee := Callee.value (Operand.func 43), args := #[Operand.const (Value.int IntKind.i64 10), Operand.tmp 58, Operand.tmp 64], argTypes := #[3, 3, 81] }, type := 57, pos := "statement.go:39", after := #[{ on := 2, ground := Ground.data }, { on := 8, ground := Ground.data }, { on := 7, ground := Ground.chain }], guard := none }) rfl (fun K hK => ?_) AllReadyW.nil)
        go_simp
        refine (made_any _ _ _ [x] [bx] _ _ (HS.out.row1 (x := x) (b := bx) (by simp)).1 (HS.out.row1 (x := x) (b := bx) (by simp)).2).mono ?_
        rintro e w3 ⟨b3, he3, hp3, hb3, hn3, hc3⟩
        subst he3
        have HS := hid ((HS.out.bw (Bw.alloc (Bw.refl _) _)).put hb3 hp3)
        clear hp3 hb3 hn3 hc3
        refine hK.out _ _ (HS.out.ri.k.cell 3) ?_
        clear hK K
        try simp only [Act.put, List.setIfInBounds_toArray, List.set_cons_zero, List.set_cons_succ]
        refine wpAnyW_ready (rs := [10]) (by kernel_rfl) (by simp) ?_
        refine (AllReadyW.cons (o := { dst := some 66, op := Op.call { callee := Callee.value (Operand.func 63), args := #[Operand.tmp 56, Operand.tmp 65], argTypes := #[58, 57] }, type := 57, pos := "statement.go:39", after := #[{ on := 0, ground := Ground.data }, { on := 9, ground := Ground.data }, { on := 9, ground := Ground.chain }], guard := none }) rfl (fun K hK => ?_) AllReadyW.nil)
        go_simp
        refine (ended_any (.mk 10 [] 0 (tk T i).2.2.2 [x]) b3 _ _ _ (HS.out.ri.bw (by repeat (first | exact Bw.refl _ | apply Bw.alloc | apply Bw.drewN | apply Bw.drew))) ((HS.out.bw (by repeat (first | exact Bw.refl _ | apply Bw.alloc | apply Bw.drewN | apply Bw.drew))).ps (.mk 10 [] 0 (tk T i).2.2.2 [x], b3) (by simp)) (fun n hn => ⟨((HS.out.bw (by repeat (first | exact Bw.refl _ | apply Bw.alloc | apply Bw.drewN | apply Bw.drew))).ne hn).2, ((HS.out.bw (by repeat (first | exact Bw.refl _ | apply Bw.alloc | apply Bw.drewN | apply Bw.drew))).ne hn).1⟩)).mono ?_
        intro e w5 h5
        rw [HSM.out] at h5
        obtain ⟨he5, hk5⟩ := h5
        subst he5
        exact ⟨rfl, rfl, (HS.out.kp.bw (by repeat (first | exact Bw.refl _ | apply Bw.alloc | apply Bw.drewN | apply Bw.drew))).trans hk5⟩
      · have HSM := hid (show semi T j (.mk 10 [] 0 (tk T i).2.2.2 [x]) = .ok (.mk 10 [] 0 (tk T i).2.2.2 [x]) false (j + 1) by unfold semi want; rw [hl]; rfl)
        rw [HSM.out]
        clear hl
        go_enter Tryd.func45, Tryd.ntmps45
        go_upto_region 16 with (first
          | (go_at_call 58; refine (is_any _ (HS.out.ri.bw (by repeat (first | exact Bw.refl _ | apply Bw.alloc | apply Bw.drewN | apply Bw.drew)))).mono ?_; rintro e w1 ⟨rfl, hb1⟩; have HS := hid (HS.out.bw (Bw.trans (by repeat (first | exact Bw.refl _ | apply Bw.alloc | apply Bw.drewN | apply Bw.drew)) hb1)); have zz := HS.out.ri.k.cell; have zf := HS.out.ri.k.free; have zl := HS.out.ri.k.lt; clear hb1)
          | fail)
        refine wp_region_W (fun w' => w'.cell? ⟨r, 3, none⟩ = some (ex 0)) (fun j => if j == 2 || j == 7 || j == 8 || j == 9 || j == 10 then 0 else 1) (by kernel_rfl) ?_
        refine wpAnyW_take (i := 0) (oi := { dst := some 56, op := Op.move (Operand.tmp 0), type := 58, pos := "statement.go:39", after := #[], guard := none }) (v := ?_) rfl (by kernel_rfl) (by kernel_rfl) (by kernel_rfl) (by kernel_rfl) (fun _ _ _ h => h) (Or.inl ⟨by rfl, fun w _ => ?_⟩) ?_
        rotate_left
        · (go_simp; first | done | with_reducible rfl)
        try simp only [Act.put, List.setIfInBounds_toArray, List.set_cons_zero, List.set_cons_succ]
        refine wpAnyW_take (i := 1) (oi := { dst := some 57, op := Op.move (Operand.tmp 0), type := 58, pos := "statement.go:39", after := #[], guard := none }) (v := ?_) rfl (by kernel_rfl) (by kernel_rfl) (by kernel_rfl) (by kernel_rfl) (fun _ _ _ h => h) (Or.inl ⟨by rfl, fun w _ => ?_⟩) ?_
        rotate_left
        · (go_simp; first | done | with_reducible rfl)
        try simp only [Act.put, List.setIfInBounds_toArray, List.set_cons_zero, List.set_cons_succ]
        refine wpAnyW_take (i := 3) (oi := { dst := some 59, op := Op.move (Operand.tmp 0), type := 58, pos := "statement.go:39", after := #[], guard := none }) (v := ?_) rfl (by kernel_rfl) (by kernel_rfl) (by kernel_rfl) (by kernel_rfl) (fun _ _ _ h => h) (Or.inl ⟨by rfl, fun w _ => ?_⟩) ?_
        rotate_left
        · (go_simp; first | done | with_reducible rfl)
        try simp only [Act.put, List.setIfInBounds_toArray, List.set_cons_zero, List.set_cons_succ]
        refine wpAnyW_take (i := 4) (oi := { dst := some 60, op := Op.nilCheck (Operand.tmp 59), type := 0, pos := "statement.go:39", after := #[{ on := 3, ground := Ground.data }], guard := none }) (v := ?_) rfl (by kernel_rfl) (by kernel_rfl) (by kernel_rfl) (by kernel_rfl) (fun _ _ _ h => h) (Or.inl ⟨by rfl, fun w _ => ?_⟩) ?_
        rotate_left
        · (go_simp; first | done | with_reducible rfl)
        try simp only [Act.put, List.setIfInBounds_toArray, List.set_cons_zero, List.set_cons_succ]
        refine wpAnyW_take (i := 5) (oi := { dst := some 61, op := Op.fieldAddr 77 (Operand.tmp 60) 3, type := 0, pos := "statement.go:39", after := #[{ on := 4, ground := Ground.data }], guard := none }) (v := ?_) rfl (by kernel_rfl) (by kernel_rfl) (by kernel_rfl) (by kernel_rfl) (fun _ _ _ h => h) (Or.inl ⟨by rfl, fun w _ => ?_⟩) ?_
        rotate_left
        · (go_simp; first | done | with_reducible rfl)
        try simp only [Act.put, List.setIfInBounds_toArray, List.set_cons_zero, List.set_cons_succ]
        refine wpAnyW_load (i := 6) (oi := { dst := some 62, op := Op.load 75 (Operand.tmp 61), type := 75, pos := "statement.go:39", after := #[{ on := 5, ground := Ground.data }], guard := none }) (v := ?_) rfl (by kernel_rfl) (by kernel_rfl) (by kernel_rfl) (by kernel_rfl) (by kernel_rfl) (fun _ _ _ h => h) (Or.inl ⟨by rfl, fun w hS => ?_⟩) (zz 3) ?_
        rotate_left
        · (skip; go_simp; first | done | with_reducible rfl)
        try simp only [Act.put, List.setIfInBounds_toArray, List.set_cons_zero, List.set_cons_succ]
        refine wpAnyW_ready (rs := [2]) (by kernel_rfl) (by simp) ?_
        refine (AllReadyW.cons (o := { dst := some 58, op := Op.call { callee := Callee.value (Operand.func 62), args := #[Operand.tmp 57, Operand.const (Value.string { data := #[116, 104, 114, 111, 119] })], argTypes := #[58, 9] }, type := 3, pos := "statement.go:39", after := #[{ on := 1, ground := Ground.data }], guard := none }) rfl (fun K hK => ?_) AllReadyW.nil)
        go_simp
        refine (want_yes _ (HS.out.ri.bw (by repeat (first | exact Bw.refl _ | apply Bw.alloc | apply Bw.drewN | apply Bw.drew))) HI.out).mono ?_
        rintro e w1 ⟨he1, hr1, hk1⟩
        subst he1
        have HS := hid ((HS.out.bw (by repeat (first | exact Bw.refl _ | apply Bw.alloc | apply Bw.drewN | apply Bw.drew))).go hr1 hk1)
        clear hr1 hk1
        refine hK.out _ _ (HS.out.ri.k.cell 3) ?_
        clear hK K
        try simp only [Act.put, List.setIfInBounds_toArray, List.set_cons_zero, List.set_cons_succ]
        refine wpAnyW_ready (rs := [7]) (by kernel_rfl) (by simp) ?_
        refine (AllReadyW.cons (o := { dst := some 63, op := Op.call { callee := Callee.value (Operand.tmp 62), args := #[], argTypes := #[] }, type := 57, pos := "statement.go:39", after := #[{ on := 6, ground := Ground.data }, { on := 2, ground := Ground.chain }], guard := none }) rfl (fun K hK => ?_) AllReadyW.nil)
        go_simp
        refine (HE.out _ _ _ (HS.out.ri.bw (by repeat (first | exact Bw.refl _ | apply Bw.alloc | apply Bw.drewN | apply Bw.drew))) ho HNE.out).mono ?_
        intro e w2 h2
        rw [HQ.out] at h2
        obtain ⟨bx, he2, hp2, hr2, hk2⟩ := h2
        subst he2
        have HS := hid ((HS.out.bw (by repeat (first | exact Bw.refl _ | apply Bw.alloc | apply Bw.drewN | apply Bw.drew))).add hr2 hk2 hp2)
        clear hp2 hr2 hk2
        refine hK.out _ _ (HS.out.ri.k.cell 3) ?_
        clear hK K
        try simp only [Act.put, List.setIfInBounds_toArray, List.set_cons_zero, List.set_cons_succ]
        refine wpAnyW_ready (rs := [8]) (by kernel_rfl) (by simp) ?_
        refine (AllReadyW.cons (o := { dst := some 64, op := Op.buildSlice 81 1 #[(0, Operand.tmp 63)], type := 81, pos := "statement.go:39", after := #[{ on := 7, ground := Ground.data }], guard := none }) rfl (fun K hK => ?_) AllReadyW.nil)
        go_simp
        refine hK.out _ _ ((HS.out.bw (Bw.alloc (Bw.refl _) _)).ri.k.cell 3) ?_
        clear hK K
        try simp only [Act.put, List.setIfInBounds_toArray, List.set_cons_zero, List.set_cons_succ]
        refine wpAnyW_ready (rs := [9]) (by kernel_rfl) (by simp) ?_
        refine (AllReadyW.cons (o := { dst := some 65, op := Op.call { callee := Callee.value (Operand.func 43), args := #[Operand.const (Value.int IntKind.i64 10), Operand.tmp 58, Operand.tmp 64], argTypes := #[3, 3, 81] }, type := 57, pos := "statement.go:39", after := #[{ on := 2, ground := Ground.data }, { on := 8, ground := Ground.data }, { on := 7, ground := Ground.chain }], guard := none }) rfl (fun K hK => ?_) AllReadyW.nil)
        go_simp
        refine (made_any _ _ _ [x] [bx] _ _ (HS.out.row1 (x := x) (b := bx) (by simp)).1 (HS.out.row1 (x := x) (b := bx) (by simp)).2).mono ?_
        rintro e w3 ⟨b3, he3, hp3, hb3, hn3, hc3⟩
        subst he3
        have HS := hid ((HS.out.bw (Bw.alloc (Bw.refl _) _)).put hb3 hp3)
        clear hp3 hb3 hn3 hc3
        refine hK.out _ _ (HS.out.ri.k.cell 3) ?_
        clear hK K
        try simp only [Act.put, List.setIfInBounds_toArray, List.set_cons_zero, List.set_cons_succ]
        refine wpAnyW_ready (rs := [10]) (by kernel_rfl) (by simp) ?_
        refine (AllReadyW.cons (o := { dst := some 66, op := Op.call { callee := Callee.value (Operand.func 63), args := #[Operand.tmp 56, Operand.tmp 65], argTypes := #[58, 57] }, type := 57, pos := "statement.go:39", after := #[{ on := 0, ground := Ground.data }, { on := 9, ground := Ground.data }, { on := 9, ground := Ground.chain }], guard := none }) rfl (fun K hK => ?_) AllReadyW.nil)
        go_simp
        refine (ended_any (.mk 10 [] 0 (tk T i).2.2.2 [x]) b3 _ _ _ (HS.out.ri.bw (by repeat (first | exact Bw.refl _ | apply Bw.alloc | apply Bw.drewN | apply Bw.drew))) ((HS.out.bw (by repeat (first | exact Bw.refl _ | apply Bw.alloc | apply Bw.drewN | apply Bw.drew))).ps (.mk 10 [] 0 (tk T i).2.2.2 [x], b3) (by simp)) (fun n hn => ⟨((HS.out.bw (by repeat (first | exact Bw.refl _ | apply Bw.alloc | apply Bw.drewN | apply Bw.drew))).ne hn).2, ((HS.out.bw (by repeat (first | exact Bw.refl _ | apply Bw.alloc | apply Bw.drewN | apply Bw.drew))).ne hn).1⟩)).mono ?_
        intro e w5 h5
        rw [HSM.out] at h5
        obtain ⟨b5, he5, hp5, hr5, hk5⟩ := h5
        subst he5
        have HS := hid ((HS.out.bw (by repeat (first | exact Bw.refl _ | apply Bw.alloc | apply Bw.drewN | apply Bw.drew))).turn hr5 hk5 hp5)
        clear hp5 hr5 hk5
        refine hK.out _ _ (HS.out.ri.k.cell 3) ?_
        clear hK K
        try simp only [Act.put, List.setIfInBounds_toArray, List.set_cons_zero, List.set_cons_succ]
        refine wpAnyW_take (i := 11) (oi := { dst := some 2, op := Op.assign (Operand.tmp 66), type := 57, pos := "statement.go:39", after := #[{ on := 10, ground := Ground.data }, { on := 10, ground := Ground.chain }, { on := 0, ground := Ground.phase }, { on := 1, ground := Ground.phase }, { on := 2, ground := Ground.phase }, { on := 3, ground := Ground.phase }, { on := 4, ground := Ground.phase }, { on := 5, ground := Ground.phase }, { on := 6, ground := Ground.phase }, { on := 7, ground := Ground.phase }, { on := 8, ground := Ground.phase }, { on := 9, ground := Ground.phase }, { on := 10, ground := Ground.phase }], guard := none }) (v := ?_) rfl (by kernel_rfl) (by kernel_rfl) (by kernel_rfl) (by kernel_rfl) (fun _ _ _ h => h) (Or.inl ⟨by rfl, fun w _ => ?_⟩) ?_
        rotate_left
        · (go_simp; first | done | with_reducible rfl)
        try simp only [Act.put, List.setIfInBounds_toArray, List.set_cons_zero, List.set_cons_succ]
        refine wpAnyW_done (by kernel_rfl) ?_ _
        go_wp2
        all_goals go_ret
        all_goals exact ⟨_, rfl, HS.out.outp (by simp)⟩
  rw [o_throw, if_neg (by decide)] at hne
  rw [if_neg (by decide)]
  cases o_try : isT T i ⟨#[116, 114, 121]⟩
  case true =>
    rw [o_try, if_pos rfl] at hne
    rw [if_pos rfl]
    have HNE := hid hne
    have HI := hid o_try
    clear hne
    generalize hq : ((pP T f .block (i + 1) o).bind fun x _ j => want T ⟨#[99, 97, 116, 99, 104]⟩ j fun j => wantN T j fun j' => (pP T f .block j' o).bind fun y _ j' => .ok (.mk 11 (tk T j).2.1 0 (tk T i).2.2.2 [x, y]) false j') = R
    have HQ := hid hq
    clear hq
    cases R with
    | out => exact absurd HQ.out HNE.out
    | bad n m =>
      go_enter Tryd.func45, Tryd.ntmps45
      go_wp2_with (first
        | (go_at_call 58; refine (is_any _ (HS.out.ri.bw (by repeat (first | exact Bw.refl _ | apply Bw.alloc | apply Bw.drewN | apply Bw.drew)))).mono ?_; rintro e w1 ⟨rfl, hb1⟩; have HS := hid (HS.out.bw (Bw.trans (by repeat (first | exact Bw.refl _ | apply Bw.alloc | apply Bw.drewN | apply Bw.drew)) hb1)); have zz := HS.out.ri.k.cell; have zf := HS.out.ri.k.free; have zl := HS.out.ri.k.lt; clear hb1)
        | (go_at_call 65; refine (attempt_any f HBK.out _ _ _ (HS.out.ri.bw (by repeat (first | exact Bw.refl _ | apply Bw.alloc | apply Bw.drewN | apply Bw.drew))) ho HI.out HNE.out).mono ?_; intro e w5 h5; rw [HQ.out] at h5; obtain ⟨rfl, hk5⟩ := h5; have HK := hid ((HS.out.kp.bw (by repeat (first | exact Bw.refl _ | apply Bw.alloc | apply Bw.drewN | apply Bw.drew))).trans hk5); clear hk5)
        | fail)
      all_goals exact ⟨rfl, rfl, HK.out⟩
    | ok x c j =>
      go_enter Tryd.func45, Tryd.ntmps45
      go_wp2_with (first
        | (go_at_call 58; refine (is_any _ (HS.out.ri.bw (by repeat (first | exact Bw.refl _ | apply Bw.alloc | apply Bw.drewN | apply Bw.drew)))).mono ?_; rintro e w1 ⟨rfl, hb1⟩; have HS := hid (HS.out.bw (Bw.trans (by repeat (first | exact Bw.refl _ | apply Bw.alloc | apply Bw.drewN | apply Bw.drew)) hb1)); have zz := HS.out.ri.k.cell; have zf := HS.out.ri.k.free; have zl := HS.out.ri.k.lt; clear hb1)
        | (go_at_call 65; refine (attempt_any f HBK.out _ _ _ (HS.out.ri.bw (by repeat (first | exact Bw.refl _ | apply Bw.alloc | apply Bw.drewN | apply Bw.drew))) ho HI.out HNE.out).mono ?_; intro e w5 h5; rw [HQ.out] at h5; obtain ⟨b5, rfl, hp5, hr5, hk5⟩ := h5; have HS := hid ((HS.out.bw (by repeat (first | exact Bw.refl _ | apply Bw.alloc | apply Bw.drewN | apply Bw.drew))).add hr5 hk5 hp5); clear hp5 hr5 hk5)
        | fail)
      all_goals go_ret
      all_goals exact ⟨_, rfl, HS.out.outp (by simp)⟩
  rw [o_try, if_neg (by decide)] at hne
  rw [if_neg (by decide)]
  cases o_fn : isT T i ⟨#[102, 110]⟩
  case false =>
    rw [o_fn, Bool.false_and, if_neg (by decide)] at hne
    rw [Bool.false_and, if_neg (by decide)]
    have HNE := hid hne
    clear hne
    generalize hq : ((pP T f (.lev 0) i o).bind fun x _ j => if (x.kind == 19 || x.kind == 29 || x.kind == 30) && isT T j ⟨#[61]⟩ then (pP T f (.lev 0) (j + 1) o).bind fun y _ j => semi T j (.mk 4 [] 0 x.at_ [x, y]) else semi T j (.mk 13 [] 0 x.at_ [x])) = R
    have HQ := hid hq
    clear hq
    cases R with
    | out => exact absurd HQ.out HNE.out
    | bad n m =>
      go_enter Tryd.func45, Tryd.ntmps45
      go_upto_region 19 with (first
        | (go_at_call 58; refine (is_any _ (HS.out.ri.bw (by repeat (first | exact Bw.refl _ | apply Bw.alloc | apply Bw.drewN | apply Bw.drew)))).mono ?_; rintro e w1 ⟨rfl, hb1⟩; have HS := hid (HS.out.bw (Bw.trans (by repeat (first | exact Bw.refl _ | apply Bw.alloc | apply Bw.drewN | apply Bw.drew)) hb1)); have zz := HS.out.ri.k.cell; have zf := HS.out.ri.k.free; have zl := HS.out.ri.k.lt; clear hb1)
        | fail)
      refine wp_region_W (fun w' => True) (fun j => if j == 1 then 0 else 1) (by kernel_rfl) ?_
      refine wpAnyW_take (i := 0) (oi := { dst := some 73, op := Op.move (Operand.tmp 0), type := 58, pos := "statement.go:42", after := #[], guard := none }) (v := ?_) rfl (by kernel_rfl) (by kernel_rfl) (by kernel_rfl) (by kernel_rfl) (fun _ _ _ h => h) (Or.inl ⟨by rfl, fun w _ => ?_⟩) ?_
      rotate_left
      · (go_simp; first | done | with_reducible rfl)
      try simp only [Act.put, List.setIfInBounds_toArray, List.set_cons_zero, List.set_cons_succ]
      refine wpAnyW_ready (rs := [1]) (by kernel_rfl) (by simp) ?_
      refine (AllReadyW.cons (o := { dst := some 74, op := Op.call { callee := Callee.value (Operand.func 58), args := #[Operand.tmp 73, Operand.const (Value.string { data := #[102, 110] })], argTypes := #[58, 9] }, type := 4, pos := "statement.go:42", after := #[{ on := 0, ground := Ground.data }], guard := none }) rfl (fun K hK => ?_) AllReadyW.nil)
      go_simp
      refine (is_any _ (HS.out.ri.bw (by repeat (first | exact Bw.refl _ | apply Bw.alloc | apply Bw.drewN | apply Bw.drew)))).mono ?_
      rintro e w1 ⟨he1, hb1⟩
      rw [o_fn] at he1
      subst he1
      have HS := hid (HS.out.bw (Bw.trans (by repeat (first | exact Bw.refl _ | apply Bw.alloc | apply Bw.drewN | apply Bw.drew)) hb1))
      clear hb1
      refine hK.out _ _ trivial ?_
      clear hK K
      try simp only [Act.put, List.setIfInBounds_toArray, List.set_cons_zero, List.set_cons_succ]
      refine wpAnyW_take (i := 2) (oi := { dst := some 75, op := Op.move (Operand.tmp 74), type := 4, pos := "statement.go:42", after := #[{ on := 1, ground := Ground.data }, { on := 1, ground := Ground.chain }], guard := none }) (v := ?_) rfl (by kernel_rfl) (by kernel_rfl) (by kernel_rfl) (by kernel_rfl) (fun _ _ _ h => h) (Or.inl ⟨by rfl, fun w _ => ?_⟩) ?_
      rotate_left
      · (go_simp; first | done | with_reducible rfl)
      try simp only [Act.put, List.setIfInBounds_toArray, List.set_cons_zero, List.set_cons_succ]
      refine wpAnyW_take (i := 3) (oi := { dst := some 76, op := Op.move (Operand.tmp 0), type := 58, pos := "statement.go:42", after := #[{ on := 2, ground := Ground.guard }], guard := some (2, true) }) (v := undef) rfl (by kernel_rfl) (by kernel_rfl) (by kernel_rfl) (by kernel_rfl) (fun _ _ _ h => h) (Or.inr ⟨by rfl, rfl⟩) ?_
      try simp only [Act.put, List.setIfInBounds_toArray, List.set_cons_zero, List.set_cons_succ]
      refine wpAnyW_take (i := 4) (oi := { dst := some 77, op := Op.nilCheck (Operand.tmp 76), type := 0, pos := "statement.go:42", after := #[{ on := 3, ground := Ground.data }, { on := 2, ground := Ground.guard }], guard := some (2, true) }) (v := undef) rfl (by kernel_rfl) (by kernel_rfl) (by kernel_rfl) (by kernel_rfl) (fun _ _ _ h => h) (Or.inr ⟨by rfl, rfl⟩) ?_
      try simp only [Act.put, List.setIfInBounds_toArray, List.set_cons_zero, List.set_cons_succ]
      refine wpAnyW_take (i := 5) (oi := { dst := some 78, op := Op.fieldAddr 77 (Operand.tmp 77) 0, type := 0, pos := "statement.go:42", after := #[{ on := 4, ground := Ground.data }, { on := 2, ground := Ground.guard }], guard := some (2, true) }) (v := undef) rfl (by kernel_rfl) (by kernel_rfl) (by kernel_rfl) (by kernel_rfl) (fun _ _ _ h => h) (Or.inr ⟨by rfl, rfl⟩) ?_
      try simp only [Act.put, List.setIfInBounds_toArray, List.set_cons_zero, List.set_cons_succ]
      refine wpAnyW_take (i := 6) (oi := { dst := some 79, op := Op.load 51 (Operand.tmp 78), type := 51, pos := "statement.go:42", after := #[{ on := 5, ground := Ground.data }, { on := 2, ground := Ground.guard }], guard := some (2, true) }) (v := undef) rfl (by kernel_rfl) (by kernel_rfl) (by kernel_rfl) (by kernel_rfl) (fun _ _ _ h => h) (Or.inr ⟨by rfl, rfl⟩) ?_
      try simp only [Act.put, List.setIfInBounds_toArray, List.set_cons_zero, List.set_cons_succ]
      refine wpAnyW_take (i := 7) (oi := { dst := some 80, op := Op.move (Operand.tmp 0), type := 58, pos := "statement.go:42", after := #[{ on := 2, ground := Ground.guard }], guard := some (2, true) }) (v := undef) rfl (by kernel_rfl) (by kernel_rfl) (by kernel_rfl) (by kernel_rfl) (fun _ _ _ h => h) (Or.inr ⟨by rfl, rfl⟩) ?_
      try simp only [Act.put, List.setIfInBounds_toArray, List.set_cons_zero, List.set_cons_succ]
      refine wpAnyW_take (i := 8) (oi := { dst := some 81, op := Op.nilCheck (Operand.tmp 80), type := 0, pos := "statement.go:42", after := #[{ on := 7, ground := Ground.data }, { on := 2, ground := Ground.guard }], guard := some (2, true) }) (v := undef) rfl (by kernel_rfl) (by kernel_rfl) (by kernel_rfl) (by kernel_rfl) (fun _ _ _ h => h) (Or.inr ⟨by rfl, rfl⟩) ?_
      try simp only [Act.put, List.setIfInBounds_toArray, List.set_cons_zero, List.set_cons_succ]
      refine wpAnyW_take (i := 9) (oi := { dst := some 82, op := Op.fieldAddr 77 (Operand.tmp 81) 1, type := 0, pos := "statement.go:42", after := #[{ on := 8, ground := Ground.data }, { on := 2, ground := Ground.guard }], guard := some (2, true) }) (v := undef) rfl (by kernel_rfl) (by kernel_rfl) (by kernel_rfl) (by kernel_rfl) (fun _ _ _ h => h) (Or.inr ⟨by rfl, rfl⟩) ?_
      try simp only [Act.put, List.setIfInBounds_toArray, List.set_cons_zero, List.set_cons_succ]
      refine wpAnyW_take (i := 10) (oi := { dst := some 83, op := Op.load 3 (Operand.tmp 82), type := 3, pos := "statement.go:42", after := #[{ on := 9, ground := Ground.data }, { on := 2, ground := Ground.guard }], guard := some (2, true) }) (v := undef) rfl (by kernel_rfl) (by kernel_rfl) (by kernel_rfl) (by kernel_rfl) (fun _ _ _ h => h) (Or.inr ⟨by rfl, rfl⟩) ?_
      try simp only [Act.put, List.setIfInBounds_toArray, List.set_cons_zero, List.set_cons_succ]
      refine wpAnyW_take (i := 11) (oi := { dst := some 84, op := Op.binOp BinOp.add 3 (Operand.tmp 83) (Operand.const (Value.int IntKind.i64 1)) 3, type := 3, pos := "statement.go:42", after := #[{ on := 10, ground := Ground.data }, { on := 2, ground := Ground.guard }], guard := some (2, true) }) (v := undef) rfl (by kernel_rfl) (by kernel_rfl) (by kernel_rfl) (by kernel_rfl) (fun _ _ _ h => h) (Or.inr ⟨by rfl, rfl⟩) ?_
      try simp only [Act.put, List.setIfInBounds_toArray, List.set_cons_zero, List.set_cons_succ]
      refine wpAnyW_take (i := 12) (oi := { dst := some 85, op := Op.indexAddr 51 (Operand.tmp 79) (Operand.tmp 84), type := 0, pos := "statement.go:42", after := #[{ on := 6, ground := Ground.data }, { on := 11, ground := Ground.data }, { on := 2, ground := Ground.guard }], guard := some (2, true) }) (v := undef) rfl (by kernel_rfl) (by kernel_rfl) (by kernel_rfl) (by kernel_rfl) (fun _ _ _ h => h) (Or.inr ⟨by rfl, rfl⟩) ?_
      try simp only [Act.put, List.setIfInBounds_toArray, List.set_cons_zero, List.set_cons_succ]
      refine wpAnyW_take (i := 13) (oi := { dst := some 86, op := Op.fieldAddr 72 (Operand.tmp 85) 0, type := 0, pos := "statement.go:42", after := #[{ on := 12, ground := Ground.data }, { on := 2, ground := Ground.guard }], guard := some (2, true) }) (v := undef) rfl (by kernel_rfl) (by kernel_rfl) (by kernel_rfl) (by kernel_rfl) (fun _ _ _ h => h) (Or.inr ⟨by rfl, rfl⟩) ?_
      try simp only [Act.put, List.setIfInBounds_toArray, List.set_cons_zero, List.set_cons_succ]
      refine wpAnyW_take (i := 14) (oi := { dst := some 87, op := Op.load 3 (Operand.tmp 86), type := 3, pos := "statement.go:42", after := #[{ on := 13, ground := Ground.data }, { on := 2, ground := Ground.guard }], guard := some (2, true) }) (v := undef) rfl (by kernel_rfl) (by kernel_rfl) (by kernel_rfl) (by kernel_rfl) (fun _ _ _ h => h) (Or.inr ⟨by rfl, rfl⟩) ?_
      try simp only [Act.put, List.setIfInBounds_toArray, List.set_cons_zero, List.set_cons_succ]
      refine wpAnyW_take (i := 15) (oi := { dst := some 88, op := Op.binOp BinOp.eql 3 (Operand.tmp 87) (Operand.const (Value.int IntKind.i64 1)) 3, type := 4, pos := "statement.go:42", after := #[{ on := 14, ground := Ground.data }, { on := 2, ground := Ground.guard }], guard := some (2, true) }) (v := undef) rfl (by kernel_rfl) (by kernel_rfl) (by kernel_rfl) (by kernel_rfl) (fun _ _ _ h => h) (Or.inr ⟨by rfl, rfl⟩) ?_
      try simp only [Act.put, List.setIfInBounds_toArray, List.set_cons_zero, List.set_cons_succ]
      refine wpAnyW_take (i := 16) (oi := { dst := some 89, op := Op.pick (Operand.tmp 75) (Operand.tmp 88) (Operand.const (Value.bool false)), type := 4, pos := "statement.go:42", after := #[{ on := 2, ground := Ground.data }, { on := 15, ground := Ground.data }], guard := none }) (v := ?_) rfl (by kernel_rfl) (by kernel_rfl) (by kernel_rfl) (by kernel_rfl) (fun _ _ _ h => h) (Or.inl ⟨by rfl, fun w _ => ?_⟩) ?_
      rotate_left
      · (go_simp; first | done | with_reducible rfl)
      try simp only [Act.put, List.setIfInBounds_toArray, List.set_cons_zero, List.set_cons_succ]
      refine wpAnyW_take (i := 17) (oi := { dst := some 72, op := Op.assign (Operand.tmp 89), type := 4, pos := "statement.go:42", after := #[{ on := 16, ground := Ground.data }, { on := 2, ground := Ground.chain }], guard := none }) (v := ?_) rfl (by kernel_rfl) (by kernel_rfl) (by kernel_rfl) (by kernel_rfl) (fun _ _ _ h => h) (Or.inl ⟨by rfl, fun w _ => ?_⟩) ?_
      rotate_left
      · (go_simp; first | done | with_reducible rfl)
      try simp only [Act.put, List.setIfInBounds_toArray, List.set_cons_zero, List.set_cons_succ]
      refine wpAnyW_done (by kernel_rfl) ?_ _
      go_wp2_with (first
        | (go_at_call 67; refine (eset_any pa pb pc e0 f HE.out _ _ _ (HS.out.ri.bw (by repeat (first | exact Bw.refl _ | apply Bw.alloc | apply Bw.drewN | apply Bw.drew))) ho HNE.out).mono ?_; intro e w5 h5; rw [HQ.out] at h5; obtain ⟨rfl, hk5⟩ := h5; have HK := hid ((HS.out.kp.bw (by repeat (first | exact Bw.refl _ | apply Bw.alloc | apply Bw.drewN | apply Bw.drew))).trans hk5); clear hk5)
        | fail)
      all_goals exact ⟨rfl, rfl, HK.out⟩
    | ok x c j =>
      go_enter Tryd.func45, Tryd.ntmps45
      go_upto_region 19 with (first
        | (go_at_call 58; refine (is_any _ (HS.out.ri.bw (by repeat (first | exact Bw.refl _ | apply Bw.alloc | apply Bw.drewN | apply Bw.drew)))).mono ?_; rintro e w1 ⟨rfl, hb1⟩; have HS := hid (HS.out.bw (Bw.trans (by repeat (first | exact Bw.refl _ | apply Bw.alloc | apply Bw.drewN | apply Bw.drew)) hb1)); have zz := HS.out.ri.k.cell; have zf := HS.out.ri.k.free; have zl := HS.out.ri.k.lt; clear hb1)
        | fail)
      refine wp_region_W (fun w' => True) (fun j => if j == 1 then 0 else 1) (by kernel_rfl) ?_
      refine wpAnyW_take (i := 0) (oi := { dst := some 73, op := Op.move (Operand.tmp 0), type := 58, pos := "statement.go:42", after := #[], guard := none }) (v := ?_) rfl (by kernel_rfl) (by kernel_rfl) (by kernel_rfl) (by kernel_rfl) (fun _ _ _ h => h) (Or.inl ⟨by rfl, fun w _ => ?_⟩) ?_
      rotate_left
      · (go_simp; first | done | with_reducible rfl)
      try simp only [Act.put, List.setIfInBounds_toArray, List.set_cons_zero, List.set_cons_succ]
      refine wpAnyW_ready (rs := [1]) (by kernel_rfl) (by simp) ?_
      refine (AllReadyW.cons (o := { dst := some 74, op := Op.call { callee := Callee.value (Operand.func 58), args := #[Operand.tmp 73, Operand.const (Value.string { data := #[102, 110] })], argTypes := #[58, 9] }, type := 4, pos := "statement.go:42", after := #[{ on := 0, ground := Ground.data }], guard := none }) rfl (fun K hK => ?_) AllReadyW.nil)
      go_simp
      refine (is_any _ (HS.out.ri.bw (by repeat (first | exact Bw.refl _ | apply Bw.alloc | apply Bw.drewN | apply Bw.drew)))).mono ?_
      rintro e w1 ⟨he1, hb1⟩
      rw [o_fn] at he1
      subst he1
      have HS := hid (HS.out.bw (Bw.trans (by repeat (first | exact Bw.refl _ | apply Bw.alloc | apply Bw.drewN | apply Bw.drew)) hb1))
      clear hb1
      refine hK.out _ _ trivial ?_
      clear hK K
      try simp only [Act.put, List.setIfInBounds_toArray, List.set_cons_zero, List.set_cons_succ]
      refine wpAnyW_take (i := 2) (oi := { dst := some 75, op := Op.move (Operand.tmp 74), type := 4, pos := "statement.go:42", after := #[{ on := 1, ground := Ground.data }, { on := 1, ground := Ground.chain }], guard := none }) (v := ?_) rfl (by kernel_rfl) (by kernel_rfl) (by kernel_rfl) (by kernel_rfl) (fun _ _ _ h => h) (Or.inl ⟨by rfl, fun w _ => ?_⟩) ?_
      rotate_left
      · (go_simp; first | done | with_reducible rfl)
      try simp only [Act.put, List.setIfInBounds_toArray, List.set_cons_zero, List.set_cons_succ]
      refine wpAnyW_take (i := 3) (oi := { dst := some 76, op := Op.move (Operand.tmp 0), type := 58, pos := "statement.go:42", after := #[{ on := 2, ground := Ground.guard }], guard := some (2, true) }) (v := undef) rfl (by kernel_rfl) (by kernel_rfl) (by kernel_rfl) (by kernel_rfl) (fun _ _ _ h => h) (Or.inr ⟨by rfl, rfl⟩) ?_
      try simp only [Act.put, List.setIfInBounds_toArray, List.set_cons_zero, List.set_cons_succ]
      refine wpAnyW_take (i := 4) (oi := { dst := some 77, op := Op.nilCheck (Operand.tmp 76), type := 0, pos := "statement.go:42", after := #[{ on := 3, ground := Ground.data }, { on := 2, ground := Ground.guard }], guard := some (2, true) }) (v := undef) rfl (by kernel_rfl) (by kernel_rfl) (by kernel_rfl) (by kernel_rfl) (fun _ _ _ h => h) (Or.inr ⟨by rfl, rfl⟩) ?_
      try simp only [Act.put, List.setIfInBounds_toArray, List.set_cons_zero, List.set_cons_succ]
      refine wpAnyW_take (i := 5) (oi := { dst := some 78, op := Op.fieldAddr 77 (Operand.tmp 77) 0, type := 0, pos := "statement.go:42", after := #[{ on := 4, ground := Ground.data }, { on := 2, ground := Ground.guard }], guard := some (2, true) }) (v := undef) rfl (by kernel_rfl) (by kernel_rfl) (by kernel_rfl) (by kernel_rfl) (fun _ _ _ h => h) (Or.inr ⟨by rfl, rfl⟩) ?_
      try simp only [Act.put, List.setIfInBounds_toArray, List.set_cons_zero, List.set_cons_succ]
      refine wpAnyW_take (i := 6) (oi := { dst := some 79, op := Op.load 51 (Operand.tmp 78), type := 51, pos := "statement.go:42", after := #[{ on := 5, ground := Ground.data }, { on := 2, ground := Ground.guard }], guard := some (2, true) }) (v := undef) rfl (by kernel_rfl) (by kernel_rfl) (by kernel_rfl) (by kernel_rfl) (fun _ _ _ h => h) (Or.inr ⟨by rfl, rfl⟩) ?_
      try simp only [Act.put, List.setIfInBounds_toArray, List.set_cons_zero, List.set_cons_succ]
      refine wpAnyW_take (i := 7) (oi := { dst := some 80, op := Op.move (Operand.tmp 0), type := 58, pos := "statement.go:42", after := #[{ on := 2, ground := Ground.guard }], guard := some (2, true) }) (v := undef) rfl (by kernel_rfl) (by kernel_rfl) (by kernel_rfl) (by kernel_rfl) (fun _ _ _ h => h) (Or.inr ⟨by rfl, rfl⟩) ?_
      try simp only [Act.put, List.setIfInBounds_toArray, List.set_cons_zero, List.set_cons_succ]
      refine wpAnyW_take (i := 8) (oi := { dst := some 81, op := Op.nilCheck (Operand.tmp 80), type := 0, pos := "statement.go:42", after := #[{ on := 7, ground := Ground.data }, { on := 2, ground := Ground.guard }], guard := some (2, true) }) (v := undef) rfl (by kernel_rfl) (by kernel_rfl) (by kernel_rfl) (by kernel_rfl) (fun _ _ _ h => h) (Or.inr ⟨by rfl, rfl⟩) ?_
      try simp only [Act.put, List.setIfInBounds_toArray, List.set_cons_zero, List.set_cons_succ]
      refine wpAnyW_take (i := 9) (oi := { dst := some 82, op := Op.fieldAddr 77 (Operand.tmp 81) 1, type := 0, pos := "statement.go:42", after := #[{ on := 8, ground := Ground.data }, { on := 2, ground := Ground.guard }], guard := some (2, true) }) (v := undef) rfl (by kernel_rfl) (by kernel_rfl) (by kernel_rfl) (by kernel_rfl) (fun _ _ _ h => h) (Or.inr ⟨by rfl, rfl⟩) ?_
      try simp only [Act.put, List.setIfInBounds_toArray, List.set_cons_zero, List.set_cons_succ]
      refine wpAnyW_take (i := 10) (oi := { dst := some 83, op := Op.load 3 (Operand.tmp 82), type := 3, pos := "statement.go:42", after := #[{ on := 9, ground := Ground.data }, { on := 2, ground := Ground.guard }], guard := some (2, true) }) (v := undef) rfl (by kernel_rfl) (by kernel_rfl) (by kernel_rfl) (by kernel_rfl) (fun _ _ _ h => h) (Or.inr ⟨by rfl, rfl⟩) ?_
      try simp only [Act.put, List.setIfInBounds_toArray, List.set_cons_zero, List.set_cons_succ]
      refine wpAnyW_take (i := 11) (oi := { dst := some 84, op := Op.binOp BinOp.add 3 (Operand.tmp 83) (Operand.const (Value.int IntKind.i64 1)) 3, type := 3, pos := "statement.go:42", after := #[{ on := 10, ground := Ground.data }, { on := 2, ground := Ground.guard }], guard := some (2, true) }) (v := undef) rfl (by kernel_rfl) (by kernel_rfl) (by kernel_rfl) (by kernel_rfl) (fun _ _ _ h => h) (Or.inr ⟨by rfl, rfl⟩) ?_
      try simp only [Act.put, List.setIfInBounds_toArray, List.set_cons_zero, List.set_cons_succ]
      refine wpAnyW_take (i := 12) (oi := { dst := some 85, op := Op.indexAddr 51 (Operand.tmp 79) (Operand.tmp 84), type := 0, pos := "statement.go:42", after := #[{ on := 6, ground := Ground.data }, { on := 11, ground := Ground.data }, { on := 2, ground := Ground.guard }], guard := some (2, true) }) (v := undef) rfl (by kernel_rfl) (by kernel_rfl) (by kernel_rfl) (by kernel_rfl) (fun _ _ _ h => h) (Or.inr ⟨by rfl, rfl⟩) ?_
      try simp only [Act.put, List.setIfInBounds_toArray, List.set_cons_zero, List.set_cons_succ]
      refine wpAnyW_take (i := 13) (oi := { dst := some 86, op := Op.fieldAddr 72 (Operand.tmp 85) 0, type := 0, pos := "statement.go:42", after := #[{ on := 12, ground := Ground.data }, { on := 2, ground := Ground.guard }], guard := some (2, true) }) (v := undef) rfl (by kernel_rfl) (by kernel_rfl) (by kernel_rfl) (by kernel_rfl) (fun _ _ _ h => h) (Or.inr ⟨by rfl, rfl⟩) ?_
      try simp only [Act.put, List.setIfInBounds_toArray, List.set_cons_zero, List.set_cons_succ]
      refine wpAnyW_take (i := 14) (oi := { dst := some 87, op := Op.load 3 (Operand.tmp 86), type := 3, pos := "statement.go:42", after := #[{ on := 13, ground := Ground.data }, { on := 2, ground := Ground.guard }], guard := some (2, true) }) (v := undef) rfl (by kernel_rfl) (by kernel_rfl) (by kernel_rfl) (by kernel_rfl) (fun _ _ _ h => h) (Or.inr ⟨by rfl, rfl⟩) ?_
      try simp only [Act.put, List.setIfInBounds_toArray, List.set_cons_zero, List.set_cons_succ]
      refine wpAnyW_take (i := 15) (oi := { dst := some 88, op := Op.binOp BinOp.eql 3 (Operand.tmp 87) (Operand.const (Value.int IntKind.i64 1)) 3, type := 4, pos := "statement.go:42", after := #[{ on := 14, ground := Ground.data }, { on := 2, ground := Ground.guard }], guard := some (2, true) }) (v := undef) rfl (by kernel_rfl) (by kernel_rfl) (by kernel_rfl) (by kernel_rfl) (fun _ _ _ h => h) (Or.inr ⟨by rfl, rfl⟩) ?_
      try simp only [Act.put, List.setIfInBounds_toArray, List.set_cons_zero, List.set_cons_succ]
      refine wpAnyW_take (i := 16) (oi := { dst := some 89, op := Op.pick (Operand.tmp 75) (Operand.tmp 88) (Operand.const (Value.bool false)), type := 4, pos := "statement.go:42", after := #[{ on := 2, ground := Ground.data }, { on := 15, ground := Ground.data }], guard := none }) (v := ?_) rfl (by kernel_rfl) (by kernel_rfl) (by kernel_rfl) (by kernel_rfl) (fun _ _ _ h => h) (Or.inl ⟨by rfl, fun w _ => ?_⟩) ?_
      rotate_left
      · (go_simp; first | done | with_reducible rfl)
      try simp only [Act.put, List.setIfInBounds_toArray, List.set_cons_zero, List.set_cons_succ]
      refine wpAnyW_take (i := 17) (oi := { dst := some 72, op := Op.assign (Operand.tmp 89), type := 4, pos := "statement.go:42", after := #[{ on := 16, ground := Ground.data }, { on := 2, ground := Ground.chain }], guard := none }) (v := ?_) rfl (by kernel_rfl) (by kernel_rfl) (by kernel_rfl) (by kernel_rfl) (fun _ _ _ h => h) (Or.inl ⟨by rfl, fun w _ => ?_⟩) ?_
      rotate_left
      · (go_simp; first | done | with_reducible rfl)
      try simp only [Act.put, List.setIfInBounds_toArray, List.set_cons_zero, List.set_cons_succ]
      refine wpAnyW_done (by kernel_rfl) ?_ _
      go_wp2_with (first
        | (go_at_call 67; refine (eset_any pa pb pc e0 f HE.out _ _ _ (HS.out.ri.bw (by repeat (first | exact Bw.refl _ | apply Bw.alloc | apply Bw.drewN | apply Bw.drew))) ho HNE.out).mono ?_; intro e w5 h5; rw [HQ.out] at h5; obtain ⟨b5, rfl, hp5, hr5, hk5⟩ := h5; have HS := hid ((HS.out.bw (by repeat (first | exact Bw.refl _ | apply Bw.alloc | apply Bw.drewN | apply Bw.drew))).add hr5 hk5 hp5); clear hp5 hr5 hk5)
        | fail)
      all_goals go_ret
      all_goals exact ⟨_, rfl, HS.out.outp (by simp)⟩
  have HI := hid o_fn
  have HLT := hid (show i + 1 < T.length from HS.out.ri.e i HS.out.ri.lt (isT_ne o_fn))
  have hlt1 : (0 : Int) ≤ (i : Int) + 1 := by omega
  have hlt2 : (i : Int) + 1 < (T.length : Int) := by have := HLT.out; omega
  have hlt3 := HS.out.ri.len
  have hgl := HS.out.ri.glt
  have hwr : IntKind.i64.wrap ((i : Int) + 1) = (i : Int) + 1 := by rw [IntKind.wrap_i64]; omega
  have htn : ((i : Int) + 1).toNat = i + 1 := by omega
  by_cases hk1 : (tk T (i + 1)).1 = 1
  · have hk2 : ((tk T (i + 1)).1 == 1) = true := by simp [hk1]
    rw [o_fn, hk2, Bool.and_self, if_pos rfl] at hne
    rw [hk2, Bool.and_self, if_pos rfl]
    have HN := hid hk1
    clear hk1
    have HNE := hid hne
    clear hne
    generalize hq : pP T f (.body 12 (tk T (i + 1)).2.1 (tk T i).2.2.2) (i + 2) o = R
    have HQ := hid hq
    clear hq
    cases R with
    | out => exact absurd HQ.out HNE.out
    | bad n m =>
      go_enter Tryd.func45, Tryd.ntmps45
      go_upto_region 19 with (first
        | (go_at_call 58; refine (is_any _ (HS.out.ri.bw (by repeat (first | exact Bw.refl _ | apply Bw.alloc | apply Bw.drewN | apply Bw.drew)))).mono ?_; rintro e w1 ⟨rfl, hb1⟩; have HS := hid (HS.out.bw (Bw.trans (by repeat (first | exact Bw.refl _ | apply Bw.alloc | apply Bw.drewN | apply Bw.drew)) hb1)); have zz := HS.out.ri.k.cell; have zf := HS.out.ri.k.free; have zl := HS.out.ri.k.lt; clear hb1)
        | fail)
      refine wp_region_W (fun w' => w'.cell? ⟨r, 0, none⟩ = some (.slice (some ⟨g, 0, none⟩) T.length cap) ∧ w'.cell? ⟨r, 1, none⟩ = some (.int .i64 (i : Int)) ∧ w'.cell? ⟨g, (i + 1) * 4, none⟩ = some (.int .i64 (tk T (i + 1)).1)) (fun j => if j == 1 then 0 else 1) (by kernel_rfl) ?_
      refine wpAnyW_take (i := 0) (oi := { dst := some 73, op := Op.move (Operand.tmp 0), type := 58, pos := "statement.go:42", after := #[], guard := none }) (v := ?_) rfl (by kernel_rfl) (by kernel_rfl) (by kernel_rfl) (by kernel_rfl) (fun _ _ _ h => h) (Or.inl ⟨by rfl, fun w _ => ?_⟩) ?_
      rotate_left
      · (go_simp; first | done | with_reducible rfl)
      try simp only [Act.put, List.setIfInBounds_toArray, List.set_cons_zero, List.set_cons_succ]
      refine wpAnyW_ready (rs := [1]) (by kernel_rfl) (by simp) ?_
      refine (AllReadyW.cons (o := { dst := some 74, op := Op.call { callee := Callee.value (Operand.func 58), args := #[Operand.tmp 73, Operand.const (Value.string { data := #[102, 110] })], argTypes := #[58, 9] }, type := 4, pos := "statement.go:42", after := #[{ on := 0, ground := Ground.data }], guard := none }) rfl (fun K hK => ?_) AllReadyW.nil)
      go_simp
      refine (is_any _ (HS.out.ri.bw (by repeat (first | exact Bw.refl _ | apply Bw.alloc | apply Bw.drewN | apply Bw.drew)))).mono ?_
      rintro e w1 ⟨he1, hb1⟩
      rw [o_fn] at he1
      subst he1
      have HS := hid (HS.out.bw (Bw.trans (by repeat (first | exact Bw.refl _ | apply Bw.alloc | apply Bw.drewN | apply Bw.drew)) hb1))
      have zz := HS.out.ri.k.cell
      have gg := (HS.out.ri.tokAt HLT.out).1
      clear hb1
      refine hK.out _ _ (show _ ∧ _ from ⟨zz 0, zz 1, gg⟩) ?_
      clear hK K
      try simp only [Act.put, List.setIfInBounds_toArray, List.set_cons_zero, List.set_cons_succ]
      refine wpAnyW_take (i := 2) (oi := { dst := some 75, op := Op.move (Operand.tmp 74), type := 4, pos := "statement.go:42", after := #[{ on := 1, ground := Ground.data }, { on := 1, ground := Ground.chain }], guard := none }) (v := ?_) rfl (by kernel_rfl) (by kernel_rfl) (by kernel_rfl) (by kernel_rfl) (fun _ _ _ h => h) (Or.inl ⟨by rfl, fun w _ => ?_⟩) ?_
      rotate_left
      · (go_simp; first | done | with_reducible rfl)
      try simp only [Act.put, List.setIfInBounds_toArray, List.set_cons_zero, List.set_cons_succ]
      refine wpAnyW_take (i := 3) (oi := { dst := some 76, op := Op.move (Operand.tmp 0), type := 58, pos := "statement.go:42", after := #[{ on := 2, ground := Ground.guard }], guard := some (2, true) }) (v := ?_) rfl (by kernel_rfl) (by kernel_rfl) (by kernel_rfl) (by kernel_rfl) (fun _ _ _ h => h) (Or.inl ⟨by rfl, fun w _ => ?_⟩) ?_
      rotate_left
      · (go_simp; first | done | with_reducible rfl)
      try simp only [Act.put, List.setIfInBounds_toArray, List.set_cons_zero, List.set_cons_succ]
      refine wpAnyW_take (i := 4) (oi := { dst := some 77, op := Op.nilCheck (Operand.tmp 76), type := 0, pos := "statement.go:42", after := #[{ on := 3, ground := Ground.data }, { on := 2, ground := Ground.guard }], guard := some (2, true) }) (v := ?_) rfl (by kernel_rfl) (by kernel_rfl) (by kernel_rfl) (by kernel_rfl) (fun _ _ _ h => h) (Or.inl ⟨by rfl, fun w _ => ?_⟩) ?_
      rotate_left
      · (go_simp; first | done | with_reducible rfl)
      try simp only [Act.put, List.setIfInBounds_toArray, List.set_cons_zero, List.set_cons_succ]
      refine wpAnyW_take (i := 5) (oi := { dst := some 78, op := Op.fieldAddr 77 (Operand.tmp 77) 0, type := 0, pos := "statement.go:42", after := #[{ on := 4, ground := Ground.data }, { on := 2, ground := Ground.guard }], guard := some (2, true) }) (v := ?_) rfl (by kernel_rfl) (by kernel_rfl) (by kernel_rfl) (by kernel_rfl) (fun _ _ _ h => h) (Or.inl ⟨by rfl, fun w _ => ?_⟩) ?_
      rotate_left
      · (go_simp; first | done | with_reducible rfl)
      try simp only [Act.put, List.setIfInBounds_toArray, List.set_cons_zero, List.set_cons_succ]
      refine wpAnyW_load (i := 6) (oi := { dst := some 79, op := Op.load 51 (Operand.tmp 78), type := 51, pos := "statement.go:42", after := #[{ on := 5, ground := Ground.data }, { on := 2, ground := Ground.guard }], guard := some (2, true) }) (v := ?_) rfl (by kernel_rfl) (by kernel_rfl) (by kernel_rfl) (by kernel_rfl) (by kernel_rfl) (fun _ _ _ h => h) (Or.inl ⟨by rfl, fun w hS => ?_⟩) (show _ ∧ _ from ⟨zz 0, zz 1, gg⟩) ?_
      rotate_left
      · (obtain ⟨hs0, hs1, hs2⟩ := hS; go_simp; first | done | with_reducible rfl)
      try simp only [Act.put, List.setIfInBounds_toArray, List.set_cons_zero, List.set_cons_succ]
      refine wpAnyW_take (i := 7) (oi := { dst := some 80, op := Op.move (Operand.tmp 0), type := 58, pos := "statement.go:42", after := #[{ on := 2, ground := Ground.guard }], guard := some (2, true) }) (v := ?_) rfl (by kernel_rfl) (by kernel_rfl) (by kernel_rfl) (by kernel_rfl) (fun _ _ _ h => h) (Or.inl ⟨by rfl, fun w _ => ?_⟩) ?_
      rotate_left
      · (go_simp; first | done | with_reducible rfl)
      try simp only [Act.put, List.setIfInBounds_toArray, List.set_cons_zero, List.set_cons_succ]
      refine wpAnyW_take (i := 8) (oi := { dst := some 81, op := Op.nilCheck (Operand.tmp 80), type := 0, pos := "statement.go:42", after := #[{ on := 7, ground := Ground.data }, { on := 2, ground := Ground.guard }], guard := some (2, true) }) (v := ?_) rfl (by kernel_rfl) (by kernel_rfl) (by kernel_rfl) (by kernel_rfl) (fun _ _ _ h => h) (Or.inl ⟨by rfl, fun w _ => ?_⟩) ?_
      rotate_left
      · (go_simp; first | done | with_reducible rfl)
      try simp only [Act.put, List.setIfInBounds_toArray, List.set_cons_zero, List.set_cons_succ]
      refine wpAnyW_take (i := 9) (oi := { dst := some 82, op := Op.fieldAddr 77 (Operand.tmp 81) 1, type := 0, pos := "statement.go:42", after := #[{ on := 8, ground := Ground.data }, { on := 2, ground := Ground.guard }], guard := some (2, true) }) (v := ?_) rfl (by kernel_rfl) (by kernel_rfl) (by kernel_rfl) (by kernel_rfl) (fun _ _ _ h => h) (Or.inl ⟨by rfl, fun w _ => ?_⟩) ?_
      rotate_left
      · (go_simp; first | done | with_reducible rfl)
      try simp only [Act.put, List.setIfInBounds_toArray, List.set_cons_zero, List.set_cons_succ]
      refine wpAnyW_load (i := 10) (oi := { dst := some 83, op := Op.load 3 (Operand.tmp 82), type := 3, pos := "statement.go:42", after := #[{ on := 9, ground := Ground.data }, { on := 2, ground := Ground.guard }], guard := some (2, true) }) (v := ?_) rfl (by kernel_rfl) (by kernel_rfl) (by kernel_rfl) (by kernel_rfl) (by kernel_rfl) (fun _ _ _ h => h) (Or.inl ⟨by rfl, fun w hS => ?_⟩) (show _ ∧ _ from ⟨zz 0, zz 1, gg⟩) ?_
      rotate_left
      · (obtain ⟨hs0, hs1, hs2⟩ := hS; go_simp; first | done | with_reducible rfl)
      try simp only [Act.put, List.setIfInBounds_toArray, List.set_cons_zero, List.set_cons_succ]
      refine wpAnyW_take (i := 11) (oi := { dst := some 84, op := Op.binOp BinOp.add 3 (Operand.tmp 83) (Operand.const (Value.int IntKind.i64 1)) 3, type := 3, pos := "statement.go:42", after := #[{ on := 10, ground := Ground.data }, { on := 2, ground := Ground.guard }], guard := some (2, true) }) (v := ?_) rfl (by kernel_rfl) (by kernel_rfl) (by kernel_rfl) (by kernel_rfl) (fun _ _ _ h => h) (Or.inl ⟨by rfl, fun w _ => ?_⟩) ?_
      rotate_left
      · (go_simp; first | done | with_reducible rfl)
      try simp only [Act.put, List.setIfInBounds_toArray, List.set_cons_zero, List.set_cons_succ]
      refine wpAnyW_take (i := 12) (oi := { dst := some 85, op := Op.indexAddr 51 (Operand.tmp 79) (Operand.tmp 84), type := 0, pos := "statement.go:42", after := #[{ on := 6, ground := Ground.data }, { on := 11, ground := Ground.data }, { on := 2, ground := Ground.guard }], guard := some (2, true) }) (v := ?_) rfl (by kernel_rfl) (by kernel_rfl) (by kernel_rfl) (by kernel_rfl) (fun _ _ _ h => h) (Or.inl ⟨by rfl, fun w _ => ?_⟩) ?_
      rotate_left
      · (go_simp; first | done | with_reducible rfl)
      try simp only [Act.put, List.setIfInBounds_toArray, List.set_cons_zero, List.set_cons_succ]
      refine wpAnyW_take (i := 13) (oi := { dst := some 86, op := Op.fieldAddr 72 (Operand.tmp 85) 0, type := 0, pos := "statement.go:42", after := #[{ on := 12, ground := Ground.data }, { on := 2, ground := Ground.guard }], guard := some (2, true) }) (v := ?_) rfl (by kernel_rfl) (by kernel_rfl) (by kernel_rfl) (by kernel_rfl) (fun _ _ _ h => h) (Or.inl ⟨by rfl, fun w _ => ?_⟩) ?_
      rotate_left
      · (go_simp; first | done | with_reducible rfl)
      try simp only [Act.put, List.setIfInBounds_toArray, List.set_cons_zero, List.set_cons_succ]
      refine wpAnyW_load (i := 14) (oi := { dst := some 87, op := Op.load 3 (Operand.tmp 86), type := 3, pos := "statement.go:42", after := #[{ on := 13, ground := Ground.data }, { on := 2, ground := Ground.guard }], guard := some (2, true) }) (v := ?_) rfl (by kernel_rfl) (by kernel_rfl) (by kernel_rfl) (by kernel_rfl) (by kernel_rfl) (fun _ _ _ h => h) (Or.inl ⟨by rfl, fun w hS => ?_⟩) (show _ ∧ _ from ⟨zz 0, zz 1, gg⟩) ?_
      rotate_left
      · (obtain ⟨hs0, hs1, hs2⟩ := hS; go_simp; first | done | with_reducible rfl)
      try simp only [Act.put, List.setIfInBounds_toArray, List.set_cons_zero, List.set_cons_succ]
      refine wpAnyW_take (i := 15) (oi := { dst := some 88, op := Op.binOp BinOp.eql 3 (Operand.tmp 87) (Operand.const (Value.int IntKind.i64 1)) 3, type := 4, pos := "statement.go:42", after := #[{ on := 14, ground := Ground.data }, { on := 2, ground := Ground.guard }], guard := some (2, true) }) (v := ?_) rfl (by kernel_rfl) (by kernel_rfl) (by kernel_rfl) (by kernel_rfl) (fun _ _ _ h => h) (Or.inl ⟨by rfl, fun w _ => ?_⟩) ?_
      rotate_left
      · (go_simp; first | done | with_reducible rfl)
      try simp only [Act.put, List.setIfInBounds_toArray, List.set_cons_zero, List.set_cons_succ]
      refine wpAnyW_take (i := 16) (oi := { dst := some 89, op := Op.pick (Operand.tmp 75) (Operand.tmp 88) (Operand.const (Value.bool false)), type := 4, pos := "statement.go:42", after := #[{ on := 2, ground := Ground.data }, { on := 15, ground := Ground.data }], guard := none }) (v := ?_) rfl (by kernel_rfl) (by kernel_rfl) (by kernel_rfl) (by kernel_rfl) (fun _ _ _ h => h) (Or.inl ⟨by rfl, fun w _ => ?_⟩) ?_
      rotate_left
      · (go_simp; first | done | with_reducible rfl)
      try simp only [Act.put, List.setIfInBounds_toArray, List.set_cons_zero, List.set_cons_succ]
      refine wpAnyW_take (i := 17) (oi := { dst := some 72, op := Op.assign (Operand.tmp 89), type := 4, pos := "statement.go:42", after := #[{ on := 16, ground := Ground.data }, { on := 2, ground := Ground.chain }], guard := none }) (v := ?_) rfl (by kernel_rfl) (by kernel_rfl) (by kernel_rfl) (by kernel_rfl) (fun _ _ _ h => h) (Or.inl ⟨by rfl, fun w _ => ?_⟩) ?_
      rotate_left
      · (go_simp; first | done | with_reducible rfl)
      try simp only [Act.put, List.setIfInBounds_toArray, List.set_cons_zero, List.set_cons_succ]
      refine wpAnyW_done (by kernel_rfl) ?_ _
      go_wp2_with (first
        | (go_at_call 66; refine (function_any f HBD.out _ _ _ (HS.out.ri.bw (by repeat (first | exact Bw.refl _ | apply Bw.alloc | apply Bw.drewN | apply Bw.drew))) ho HI.out HN.out HNE.out).mono ?_; intro e w5 h5; rw [HQ.out] at h5; obtain ⟨rfl, hk5⟩ := h5; have HK := hid ((HS.out.kp.bw (by repeat (first | exact Bw.refl _ | apply Bw.alloc | apply Bw.drewN | apply Bw.drew))).trans hk5); clear hk5)
        | fail)
      all_goals exact ⟨rfl, rfl, HK.out⟩
    | ok x c j =>
      go_enter Tryd.func45, Tryd.ntmps45
      go_upto_region 19 with (first
        | (go_at_call 58; refine (is_any _ (HS.out.ri.bw (by repeat (first | exact Bw.refl _ | apply Bw.alloc | apply Bw.drewN | apply Bw.drew)))).mono ?_; rintro e w1 ⟨rfl, hb1⟩; have HS := hid (HS.out.bw (Bw.trans (by repeat (first | exact Bw.refl _ | apply Bw.alloc | apply Bw.drewN | apply Bw.drew)) hb1)); have zz := HS.out.ri.k.cell; have zf := HS.out.ri.k.free; have zl := HS.out.ri.k.lt; clear hb1)
        | fail)
      refine wp_region_W (fun w' => w'.cell? ⟨r, 0, none⟩ = some (.slice (some ⟨g, 0, none⟩) T.length cap) ∧ w'.cell? ⟨r, 1, none⟩ = some (.int .i64 (i : Int)) ∧ w'.cell? ⟨g, (i + 1) * 4, none⟩ = some (.int .i64 (tk T (i + 1)).1)) (fun j => if j == 1 then 0 else 1) (by kernel_rfl) ?_
      refine wpAnyW_take (i := 0) (oi := { dst := some 73, op := Op.move (Operand.tmp 0), type := 58, pos := "statement.go:42", after := #[], guard := none }) (v := ?_) rfl (by kernel_rfl) (by kernel_rfl) (by kernel_rfl) (by kernel_rfl) (fun _ _ _ h => h) (Or.inl ⟨by rfl, fun w _ => ?_⟩) ?_
      rotate_left
      · (go_simp; first | done | with_reducible rfl)
      try simp only [Act.put, List.setIfInBounds_toArray, List.set_cons_zero, List.set_cons_succ]
      refine wpAnyW_ready (rs := [1]) (by kernel_rfl) (by simp) ?_
      refine (AllReadyW.cons (o := { dst := some 74, op := Op.call { callee := Callee.value (Operand.func 58), args := #[Operand.tmp 73, Operand.const (Value.string { data := #[102, 110] })], argTypes := #[58, 9] }, type := 4, pos := "statement.go:42", after := #[{ on := 0, ground := Ground.data }], guard := none }) rfl (fun K hK => ?_) AllReadyW.nil)
      go_simp
      refine (is_any _ (HS.out.ri.bw (by repeat (first | exact Bw.refl _ | apply Bw.alloc | apply Bw.drewN | apply Bw.drew)))).mono ?_
      rintro e w1 ⟨he1, hb1⟩
      rw [o_fn] at he1
      subst he1
      have HS := hid (HS.out.bw (Bw.trans (by repeat (first | exact Bw.refl _ | apply Bw.alloc | apply Bw.drewN | apply Bw.drew)) hb1))
      have zz := HS.out.ri.k.cell
      have gg := (HS.out.ri.tokAt HLT.out).1
      clear hb1
      refine hK.out _ _ (show _ ∧ _ from ⟨zz 0, zz 1, gg⟩) ?_
      clear hK K
      try simp only [Act.put, List.setIfInBounds_toArray, List.set_cons_zero, List.set_cons_succ]
      refine wpAnyW_take (i := 2) (oi := { dst := some 75, op := Op.move (Operand.tmp 74), type := 4, pos := "statement.go:42", after := #[{ on := 1, ground := Ground.data }, { on := 1, ground := Ground.chain }], guard := none }) (v := ?_) rfl (by kernel_rfl) (by kernel_rfl) (by kernel_rfl) (by kernel_rfl) (fun _ _ _ h => h) (Or.inl ⟨by rfl, fun w _ => ?_⟩) ?_
      rotate_left
      · (go_simp; first | done | with_reducible rfl)
      try simp only [Act.put, List.setIfInBounds_toArray, List.set_cons_zero, List.set_cons_succ]
      refine wpAnyW_take (i := 3) (oi := { dst := some 76, op := Op.move (Operand.tmp 0), type := 58, pos := "statement.go:42", after := #[{ on := 2, ground := Ground.guard }], guard := some (2, true) }) (v := ?_) rfl (by kernel_rfl) (by kernel_rfl) (by kernel_rfl) (by kernel_rfl) (fun _ _ _ h => h) (Or.inl ⟨by rfl, fun w _ => ?_⟩) ?_
      rotate_left
      · (go_simp; first | done | with_reducible rfl)
      try simp only [Act.put, List.setIfInBounds_toArray, List.set_cons_zero, List.set_cons_succ]
      refine wpAnyW_take (i := 4) (oi := { dst := some 77, op := Op.nilCheck (Operand.tmp 76), type := 0, pos := "statement.go:42", after := #[{ on := 3, ground := Ground.data }, { on := 2, ground := Ground.guard }], guard := some (2, true) }) (v := ?_) rfl (by kernel_rfl) (by kernel_rfl) (by kernel_rfl) (by kernel_rfl) (fun _ _ _ h => h) (Or.inl ⟨by rfl, fun w _ => ?_⟩) ?_
      rotate_left
      · (go_simp; first | done | with_reducible rfl)
      try simp only [Act.put, List.setIfInBounds_toArray, List.set_cons_zero, List.set_cons_succ]
      refine wpAnyW_take (i := 5) (oi := { dst := some 78, op := Op.fieldAddr 77 (Operand.tmp 77) 0, type := 0, pos := "statement.go:42", after := #[{ on := 4, ground := Ground.data }, { on := 2, ground := Ground.guard }], guard := some (2, true) }) (v := ?_) rfl (by kernel_rfl) (by kernel_rfl) (by kernel_rfl) (by kernel_rfl) (fun _ _ _ h => h) (Or.inl ⟨by rfl, fun w _ => ?_⟩) ?_
      rotate_left
      · (go_simp; first | done | with_reducible rfl)
      try simp only [Act.put, List.setIfInBounds_toArray, List.set_cons_zero, List.set_cons_succ]
      refine wpAnyW_load (i := 6) (oi := { dst := some 79, op := Op.load 51 (Operand.tmp 78), type := 51, pos := "statement.go:42", after := #[{ on := 5, ground := Ground.data }, { on := 2, ground := Ground.guard }], guard := some (2, true) }) (v := ?_) rfl (by kernel_rfl) (by kernel_rfl) (by kernel_rfl) (by kernel_rfl) (by kernel_rfl) (fun _ _ _ h => h) (Or.inl ⟨by rfl, fun w hS => ?_⟩) (show _ ∧ _ from ⟨zz 0, zz 1, gg⟩) ?_
      rotate_left
      · (obtain ⟨hs0, hs1, hs2⟩ := hS; go_simp; first | done | with_reducible rfl)
      try simp only [Act.put, List.setIfInBounds_toArray, List.set_cons_zero, List.set_cons_succ]
      refine wpAnyW_take (i := 7) (oi := { dst := some 80, op := Op.move (Operand.tmp 0), type := 58, pos := "statement.go:42", after := #[{ on := 2, ground := Ground.guard }], guard := some (2, true) }) (v := ?_) rfl (by kernel_rfl) (by kernel_rfl) (by kernel_rfl) (by kernel_rfl) (fun _ _ _ h => h) (Or.inl ⟨by rfl, fun w _ => ?_⟩) ?_
      rotate_left
      · (go_simp; first | done | with_reducible rfl)
      try simp only [Act.put, List.setIfInBounds_toArray, List.set_cons_zero, List.set_cons_succ]
      refine wpAnyW_take (i := 8) (oi := { dst := some 81, op := Op.nilCheck (Operand.tmp 80), type := 0, pos := "statement.go:42", after := #[{ on := 7, ground := Ground.data }, { on := 2, ground := Ground.guard }], guard := some (2, true) }) (v := ?_) rfl (by kernel_rfl) (by kernel_rfl) (by kernel_rfl) (by kernel_rfl) (fun _ _ _ h => h) (Or.inl ⟨by rfl, fun w _ => ?_⟩) ?_
      rotate_left
      · (go_simp; first | done | with_reducible rfl)
      try simp only [Act.put, List.setIfInBounds_toArray, List.set_cons_zero, List.set_cons_succ]
      refine wpAnyW_take (i := 9) (oi := { dst := some 82, op := Op.fieldAddr 77 (Operand.tmp 81) 1, type := 0, pos := "statement.go:42", after := #[{ on := 8, ground := Ground.data }, { on := 2, ground := Ground.guard }], guard := some (2, true) }) (v := ?_) rfl (by kernel_rfl) (by kernel_rfl) (by kernel_rfl) (by kernel_rfl) (fun _ _ _ h => h) (Or.inl ⟨by rfl, fun w _ => ?_⟩) ?_
      rotate_left
      · (go_simp; first | done | with_reducible rfl)
      try simp only [Act.put, List.setIfInBounds_toArray, List.set_cons_zero, List.set_cons_succ]
      refine wpAnyW_load (i := 10) (oi := { dst := some 83, op := Op.load 3 (Operand.tmp 82), type := 3, pos := "statement.go:42", after := #[{ on := 9, ground := Ground.data }, { on := 2, ground := Ground.guard }], guard := some (2, true) }) (v := ?_) rfl (by kernel_rfl) (by kernel_rfl) (by kernel_rfl) (by kernel_rfl) (by kernel_rfl) (fun _ _ _ h => h) (Or.inl ⟨by rfl, fun w hS => ?_⟩) (show _ ∧ _ from ⟨zz 0, zz 1, gg⟩) ?_
      rotate_left
      · (obtain ⟨hs0, hs1, hs2⟩ := hS; go_simp; first | done | with_reducible rfl)
      try simp only [Act.put, List.setIfInBounds_toArray, List.set_cons_zero, List.set_cons_succ]
      refine wpAnyW_take (i := 11) (oi := { dst := some 84, op := Op.binOp BinOp.add 3 (Operand.tmp 83) (Operand.const (Value.int IntKind.i64 1)) 3, type := 3, pos := "statement.go:42", after := #[{ on := 10, ground := Ground.data }, { on := 2, ground := Ground.guard }], guard := some (2, true) }) (v := ?_) rfl (by kernel_rfl) (by kernel_rfl) (by kernel_rfl) (by kernel_rfl) (fun _ _ _ h => h) (Or.inl ⟨by rfl, fun w _ => ?_⟩) ?_
      rotate_left
      · (go_simp; first | done | with_reducible rfl)
      try simp only [Act.put, List.setIfInBounds_toArray, List.set_cons_zero, List.set_cons_succ]
      refine wpAnyW_take (i := 12) (oi := { dst := some 85, op := Op.indexAddr 51 (Operand.tmp 79) (Operand.tmp 84), type := 0, pos := "statement.go:42", after := #[{ on := 6, ground := Ground.data }, { on := 11, ground := Ground.data }, { on := 2, ground := Ground.guard }], guard := some (2, true) }) (v := ?_) rfl (by kernel_rfl) (by kernel_rfl) (by kernel_rfl) (by kernel_rfl) (fun _ _ _ h => h) (Or.inl ⟨by rfl, fun w _ => ?_⟩) ?_
      rotate_left
      · (go_simp; first | done | with_reducible rfl)
      try simp only [Act.put, List.setIfInBounds_toArray, List.set_cons_zero, List.set_cons_succ]
      refine wpAnyW_take (i := 13) (oi := { dst := some 86, op := Op.fieldAddr 72 (Operand.tmp 85) 0, type := 0, pos := "statement.go:42", after := #[{ on := 12, ground := Ground.data }, { on := 2, ground := Ground.guard }], guard := some (2, true) }) (v := ?_) rfl (by kernel_rfl) (by kernel_rfl) (by kernel_rfl) (by kernel_rfl) (fun _ _ _ h => h) (Or.inl ⟨by rfl, fun w _ => ?_⟩) ?_
      rotate_left
      · (go_simp; first | done | with_reducible rfl)
      try simp only [Act.put, List.setIfInBounds_toArray, List.set_cons_zero, List.set_cons_succ]
      refine wpAnyW_load (i := 14) (oi := { dst := some 87, op := Op.load 3 (Operand.tmp 86), type := 3, pos := "statement.go:42", after := #[{ on := 13, ground := Ground.data }, { on := 2, ground := Ground.guard }], guard := some (2, true) }) (v := ?_) rfl (by kernel_rfl) (by kernel_rfl) (by kernel_rfl) (by kernel_rfl) (by kernel_rfl) (fun _ _ _ h => h) (Or.inl ⟨by rfl, fun w hS => ?_⟩) (show _ ∧ _ from ⟨zz 0, zz 1, gg⟩) ?_
      rotate_left
      · (obtain ⟨hs0, hs1, hs2⟩ := hS; go_simp; first | done | with_reducible rfl)
      try simp only [Act.put, List.setIfInBounds_toArray, List.set_cons_zero, List.set_cons_succ]
      refine wpAnyW_take (i := 15) (oi := { dst := some 88, op := Op.binOp BinOp.eql 3 (Operand.tmp 87) (Operand.const (Value.int IntKind.i64 1)) 3, type := 4, pos := "statement.go:42", after := #[{ on := 14, ground := Ground.data }, { on := 2, ground := Ground.guard }], guard := some (2, true) }) (v := ?_) rfl (by kernel_rfl) (by kernel_rfl) (by kernel_rfl) (by kernel_rfl) (fun _ _ _ h => h) (Or.inl ⟨by rfl, fun w _ => ?_⟩) ?_
      rotate_left
      · (go_simp; first | done | with_reducible rfl)
      try simp only [Act.put, List.setIfInBounds_toArray, List.set_cons_zero, List.set_cons_succ]
      refine wpAnyW_take (i := 16) (oi := { dst := some 89, op := Op.pick (Operand.tmp 75) (Operand.tmp 88) (Operand.const (Value.bool false)), type := 4, pos := "statement.go:42", after := #[{ on := 2, ground := Ground.data }, { on := 15, ground := Ground.data }], guard := none }) (v := ?_) rfl (by kernel_rfl) (by kernel_rfl) (by kernel_rfl) (by kernel_rfl) (fun _ _ _ h => h) (Or.inl ⟨by rfl, fun w _ => ?_⟩) ?_
      rotate_left
      · (go_simp; first | done | with_reducible rfl)
      try simp only [Act.put, List.setIfInBounds_toArray, List.set_cons_zero, List.set_cons_succ]
      refine wpAnyW_take (i := 17) (oi := { dst := some 72, op := Op.assign (Operand.tmp 89), type := 4, pos := "statement.go:42", after := #[{ on := 16, ground := Ground.data }, { on := 2, ground := Ground.chain }], guard := none }) (v := ?_) rfl (by kernel_rfl) (by kernel_rfl) (by kernel_rfl) (by kernel_rfl) (fun _ _ _ h => h) (Or.inl ⟨by rfl, fun w _ => ?_⟩) ?_
      rotate_left
      · (go_simp; first | done | with_reducible rfl)
      try simp only [Act.put, List.setIfInBounds_toArray, List.set_cons_zero, List.set_cons_succ]
      refine wpAnyW_done (by kernel_rfl) ?_ _
      go_wp2_with (first
        | (go_at_call 66; refine (function_any f HBD.out _ _ _ (HS.out.ri.bw (by repeat (first | exact Bw.refl _ | apply Bw.alloc | apply Bw.drewN | apply Bw.drew))) ho HI.out HN.out HNE.out).mono ?_; intro e w5 h5; rw [HQ.out] at h5; obtain ⟨b5, rfl, hp5, hr5, hk5⟩ := h5; have HS := hid ((HS.out.bw (by repeat (first | exact Bw.refl _ | apply Bw.alloc | apply Bw.drewN | apply Bw.drew))).add hr5 hk5 hp5); clear hp5 hr5 hk5)
        | fail)
      all_goals go_ret
      all_goals exact ⟨_, rfl, HS.out.outp (by simp)⟩
  · have hk2 : ((tk T (i + 1)).1 == 1) = false := by simp [hk1]
    rw [o_fn, hk2, Bool.and_false, if_neg (by decide)] at hne
    rw [hk2, Bool.and_false, if_neg (by decide)]
    clear hk1
    have HNE := hid hne
    clear hne
    generalize hq : ((pP T f (.lev 0) i o).bind fun x _ j => if (x.kind == 19 || x.kind == 29 || x.kind == 30) && isT T j ⟨#[61]⟩ then (pP T f (.lev 0) (j + 1) o).bind fun y _ j => semi T j (.mk 4 [] 0 x.at_ [x, y]) else semi T j (.mk 13 [] 0 x.at_ [x])) = R
    have HQ := hid hq
    clear hq
    cases R with
    | out => exact absurd HQ.out HNE.out
    | bad n m =>
      go_enter Tryd.func45, Tryd.ntmps45
      go_upto_region 19 with (first
        | (go_at_call 58; refine (is_any _ (HS.out.ri.bw (by repeat (first | exact Bw.refl _ | apply Bw.alloc | apply Bw.drewN | apply Bw.drew)))).mono ?_; rintro e w1 ⟨rfl, hb1⟩; have HS := hid (HS.out.bw (Bw.trans (by repeat (first | exact Bw.refl _ | apply Bw.alloc | apply Bw.drewN | apply Bw.drew)) hb1)); have zz := HS.out.ri.k.cell; have zf := HS.out.ri.k.free; have zl := HS.out.ri.k.lt; clear hb1)
        | fail)
      refine wp_region_W (fun w' => w'.cell? ⟨r, 0, none⟩ = some (.slice (some ⟨g, 0, none⟩) T.length cap) ∧ w'.cell? ⟨r, 1, none⟩ = some (.int .i64 (i : Int)) ∧ w'.cell? ⟨g, (i + 1) * 4, none⟩ = some (.int .i64 (tk T (i + 1)).1)) (fun j => if j == 1 then 0 else 1) (by kernel_rfl) ?_
      refine wpAnyW_take (i := 0) (oi := { dst := some 73, op := Op.move (Operand.tmp 0), type := 58, pos := "statement.go:42", after := #[], guard := none }) (v := ?_) rfl (by kernel_rfl) (by kernel_rfl) (by kernel_rfl) (by kernel_rfl) (fun _ _ _ h => h) (Or.inl ⟨by rfl, fun w _ => ?_⟩) ?_
      rotate_left
      · (go_simp; first | done | with_reducible rfl)
      try simp only [Act.put, List.setIfInBounds_toArray, List.set_cons_zero, List.set_cons_succ]
      refine wpAnyW_ready (rs := [1]) (by kernel_rfl) (by simp) ?_
      refine (AllReadyW.cons (o := { dst := some 74, op := Op.call { callee := Callee.value (Operand.func 58), args := #[Operand.tmp 73, Operand.const (Value.string { data := #[102, 110] })], argTypes := #[58, 9] }, type := 4, pos := "statement.go:42", after := #[{ on := 0, ground := Ground.data }], guard := none }) rfl (fun K hK => ?_) AllReadyW.nil)
      go_simp
      refine (is_any _ (HS.out.ri.bw (by repeat (first | exact Bw.refl _ | apply Bw.alloc | apply Bw.drewN | apply Bw.drew)))).mono ?_
      rintro e w1 ⟨he1, hb1⟩
      rw [o_fn] at he1
      subst he1
      have HS := hid (HS.out.bw (Bw.trans (by repeat (first | exact Bw.refl _ | apply Bw.alloc | apply Bw.drewN | apply Bw.drew)) hb1))
      have zz := HS.out.ri.k.cell
      have gg := (HS.out.ri.tokAt HLT.out).1
      clear hb1
      refine hK.out _ _ (show _ ∧ _ from ⟨zz 0, zz 1, gg⟩) ?_
      clear hK K
      try simp only [Act.put, List.setIfInBounds_toArray, List.set_cons_zero, List.set_cons_succ]
      refine wpAnyW_take (i := 2) (oi := { dst := some 75, op := Op.move (Operand.tmp 74), type := 4, pos := "statement.go:42", after := #[{ on := 1, ground := Ground.data }, { on := 1, ground := Ground.chain }], guard := none }) (v := ?_) rfl (by kernel_rfl) (by kernel_rfl) (by kernel_rfl) (by kernel_rfl) (fun _ _ _ h => h) (Or.inl ⟨by rfl, fun w _ => ?_⟩) ?_
      rotate_left
      · (go_simp; first | done | with_reducible rfl)
      try simp only [Act.put, List.setIfInBounds_toArray, List.set_cons_zero, List.set_cons_succ]
      refine wpAnyW_take (i := 3) (oi := { dst := some 76, op := Op.move (Operand.tmp 0), type := 58, pos := "statement.go:42", after := #[{ on := 2, ground := Ground.guard }], guard := some (2, true) }) (v := ?_) rfl (by kernel_rfl) (by kernel_rfl) (by kernel_rfl) (by kernel_rfl) (fun _ _ _ h => h) (Or.inl ⟨by rfl, fun w _ => ?_⟩) ?_
      rotate_left
      · (go_simp; first | done | with_reducible rfl)
      try simp only [Act.put, List.setIfInBounds_toArray, List.set_cons_zero, List.set_cons_succ]
      refine wpAnyW_take (i := 4) (oi := { dst := some 77, op := Op.nilCheck (Operand.tmp 76), type := 0, pos := "statement.go:42", after := #[{ on := 3, ground := Ground.data }, { on := 2, ground := Ground.guard }], guard := some (2, true) }) (v := ?_) rfl (by kernel_rfl) (by kernel_rfl) (by kernel_rfl) (by kernel_rfl) (fun _ _ _ h => h) (Or.inl ⟨by rfl, fun w _ => ?_⟩) ?_
      rotate_left
      · (go_simp; first | done | with_reducible rfl)
      try simp only [Act.put, List.setIfInBounds_toArray, List.set_cons_zero, List.set_cons_succ]
      refine wpAnyW_take (i := 5) (oi := { dst := some 78, op := Op.fieldAddr 77 (Operand.tmp 77) 0, type := 0, pos := "statement.go:42", after := #[{ on := 4, ground := Ground.data }, { on := 2, ground := Ground.guard }], guard := some (2, true) }) (v := ?_) rfl (by kernel_rfl) (by kernel_rfl) (by kernel_rfl) (by kernel_rfl) (fun _ _ _ h => h) (Or.inl ⟨by rfl, fun w _ => ?_⟩) ?_
      rotate_left
      · (go_simp; first | done | with_reducible rfl)
      try simp only [Act.put, List.setIfInBounds_toArray, List.set_cons_zero, List.set_cons_succ]
      refine wpAnyW_load (i := 6) (oi := { dst := some 79, op := Op.load 51 (Operand.tmp 78), type := 51, pos := "statement.go:42", after := #[{ on := 5, ground := Ground.data }, { on := 2, ground := Ground.guard }], guard := some (2, true) }) (v := ?_) rfl (by kernel_rfl) (by kernel_rfl) (by kernel_rfl) (by kernel_rfl) (by kernel_rfl) (fun _ _ _ h => h) (Or.inl ⟨by rfl, fun w hS => ?_⟩) (show _ ∧ _ from ⟨zz 0, zz 1, gg⟩) ?_
      rotate_left
      · (obtain ⟨hs0, hs1, hs2⟩ := hS; go_simp; first | done | with_reducible rfl)
      try simp only [Act.put, List.setIfInBounds_toArray, List.set_cons_zero, List.set_cons_succ]
      refine wpAnyW_take (i := 7) (oi := { dst := some 80, op := Op.move (Operand.tmp 0), type := 58, pos := "statement.go:42", after := #[{ on := 2, ground := Ground.guard }], guard := some (2, true) }) (v := ?_) rfl (by kernel_rfl) (by kernel_rfl) (by kernel_rfl) (by kernel_rfl) (fun _ _ _ h => h) (Or.inl ⟨by rfl, fun w _ => ?_⟩) ?_
      rotate_left
      · (go_simp; first | done | with_reducible rfl)
      try simp only [Act.put, List.setIfInBounds_toArray, List.set_cons_zero, List.set_cons_succ]
      refine wpAnyW_take (i := 8) (oi := { dst := some 81, op := Op.nilCheck (Operand.tmp 80), type := 0, pos := "statement.go:42", after := #[{ on := 7, ground := Ground.data }, { on := 2, ground := Ground.guard }], guard := some (2, true) }) (v := ?_) rfl (by kernel_rfl) (by kernel_rfl) (by kernel_rfl) (by kernel_rfl) (fun _ _ _ h => h) (Or.inl ⟨by rfl, fun w _ => ?_⟩) ?_
      rotate_left
      · (go_simp; first | done | with_reducible rfl)
      try simp only [Act.put, List.setIfInBounds_toArray, List.set_cons_zero, List.set_cons_succ]
      refine wpAnyW_take (i := 9) (oi := { dst := some 82, op := Op.fieldAddr 77 (Operand.tmp 81) 1, type := 0, pos := "statement.go:42", after := #[{ on := 8, ground := Ground.data }, { on := 2, ground := Ground.guard }], guard := some (2, true) }) (v := ?_) rfl (by kernel_rfl) (by kernel_rfl) (by kernel_rfl) (by kernel_rfl) (fun _ _ _ h => h) (Or.inl ⟨by rfl, fun w _ => ?_⟩) ?_
      rotate_left
      · (go_simp; first | done | with_reducible rfl)
      try simp only [Act.put, List.setIfInBounds_toArray, List.set_cons_zero, List.set_cons_succ]
      refine wpAnyW_load (i := 10) (oi := { dst := some 83, op := Op.load 3 (Operand.tmp 82), type := 3, pos := "statement.go:42", after := #[{ on := 9, ground := Ground.data }, { on := 2, ground := Ground.guard }], guard := some (2, true) }) (v := ?_) rfl (by kernel_rfl) (by kernel_rfl) (by kernel_rfl) (by kernel_rfl) (by kernel_rfl) (fun _ _ _ h => h) (Or.inl ⟨by rfl, fun w hS => ?_⟩) (show _ ∧ _ from ⟨zz 0, zz 1, gg⟩) ?_
      rotate_left
      · (obtain ⟨hs0, hs1, hs2⟩ := hS; go_simp; first | done | with_reducible rfl)
      try simp only [Act.put, List.setIfInBounds_toArray, List.set_cons_zero, List.set_cons_succ]
      refine wpAnyW_take (i := 11) (oi := { dst := some 84, op := Op.binOp BinOp.add 3 (Operand.tmp 83) (Operand.const (Value.int IntKind.i64 1)) 3, type := 3, pos := "statement.go:42", after := #[{ on := 10, ground := Ground.data }, { on := 2, ground := Ground.guard }], guard := some (2, true) }) (v := ?_) rfl (by kernel_rfl) (by kernel_rfl) (by kernel_rfl) (by kernel_rfl) (fun _ _ _ h => h) (Or.inl ⟨by rfl, fun w _ => ?_⟩) ?_
      rotate_left
      · (go_simp; first | done | with_reducible rfl)
      try simp only [Act.put, List.setIfInBounds_toArray, List.set_cons_zero, List.set_cons_succ]
      refine wpAnyW_take (i := 12) (oi := { dst := some 85, op := Op.indexAddr 51 (Operand.tmp 79) (Operand.tmp 84), type := 0, pos := "statement.go:42", after := #[{ on := 6, ground := Ground.data }, { on := 11, ground := Ground.data }, { on := 2, ground := Ground.guard }], guard := some (2, true) }) (v := ?_) rfl (by kernel_rfl) (by kernel_rfl) (by kernel_rfl) (by kernel_rfl) (fun _ _ _ h => h) (Or.inl ⟨by rfl, fun w _ => ?_⟩) ?_
      rotate_left
      · (go_simp; first | done | with_reducible rfl)
      try simp only [Act.put, List.setIfInBounds_toArray, List.set_cons_zero, List.set_cons_succ]
      refine wpAnyW_take (i := 13) (oi := { dst := some 86, op := Op.fieldAddr 72 (Operand.tmp 85) 0, type := 0, pos := "statement.go:42", after := #[{ on := 12, ground := Ground.data }, { on := 2, ground := Ground.guard }], guard := some (2, true) }) (v := ?_) rfl (by kernel_rfl) (by kernel_rfl) (by kernel_rfl) (by kernel_rfl) (fun _ _ _ h => h) (Or.inl ⟨by rfl, fun w _ => ?_⟩) ?_
      rotate_left
      · (go_simp; first | done | with_reducible rfl)
      try simp only [Act.put, List.setIfInBounds_toArray, List.set_cons_zero, List.set_cons_succ]
      refine wpAnyW_load (i := 14) (oi := { dst := some 87, op := Op.load 3 (Operand.tmp 86), type := 3, pos := "statement.go:42", after := #[{ on := 13, ground := Ground.data }, { on := 2, ground := Ground.guard }], guard := some (2, true) }) (v := ?_) rfl (by kernel_rfl) (by kernel_rfl) (by kernel_rfl) (by kernel_rfl) (by kernel_rfl) (fun _ _ _ h => h) (Or.inl ⟨by rfl, fun w hS => ?_⟩) (show _ ∧ _ from ⟨zz 0, zz 1, gg⟩) ?_
      rotate_left
      · (obtain ⟨hs0, hs1, hs2⟩ := hS; go_simp; first | done | with_reducible rfl)
      try simp only [Act.put, List.setIfInBounds_toArray, List.set_cons_zero, List.set_cons_succ]
      refine wpAnyW_take (i := 15) (oi := { dst := some 88, op := Op.binOp BinOp.eql 3 (Operand.tmp 87) (Operand.const (Value.int IntKind.i64 1)) 3, type := 4, pos := "statement.go:42", after := #[{ on := 14, ground := Ground.data }, { on := 2, ground := Ground.guard }], guard := some (2, true) }) (v := ?_) rfl (by kernel_rfl) (by kernel_rfl) (by kernel_rfl) (by kernel_rfl) (fun _ _ _ h => h) (Or.inl ⟨by rfl, fun w _ => ?_⟩) ?_
      rotate_left
      · (go_simp; first | done | with_reducible rfl)
      try simp only [Act.put, List.setIfInBounds_toArray, List.set_cons_zero, List.set_cons_succ]
      refine wpAnyW_take (i := 16) (oi := { dst := some 89, op := Op.pick (Operand.tmp 75) (Operand.tmp 88) (Operand.const (Value.bool false)), type := 4, pos := "statement.go:42", after := #[{ on := 2, ground := Ground.data }, { on := 15, ground := Ground.data }], guard := none }) (v := ?_) rfl (by kernel_rfl) (by kernel_rfl) (by kernel_rfl) (by kernel_rfl) (fun _ _ _ h => h) (Or.inl ⟨by rfl, fun w _ => ?_⟩) ?_
      rotate_left
      · (go_simp; first | done | with_reducible rfl)
      try simp only [Act.put, List.setIfInBounds_toArray, List.set_cons_zero, List.set_cons_succ]
      refine wpAnyW_take (i := 17) (oi := { dst := some 72, op := Op.assign (Operand.tmp 89), type := 4, pos := "statement.go:42", after := #[{ on := 16, ground := Ground.data }, { on := 2, ground := Ground.chain }], guard := none }) (v := ?_) rfl (by kernel_rfl) (by kernel_rfl) (by kernel_rfl) (by kernel_rfl) (fun _ _ _ h => h) (Or.inl ⟨by rfl, fun w _ => ?_⟩) ?_
      rotate_left
      · (go_simp; first | done | with_reducible rfl)
      try simp only [Act.put, List.setIfInBounds_toArray, List.set_cons_zero, List.set_cons_succ]
      refine wpAnyW_done (by kernel_rfl) ?_ _
      go_wp2_with (first
        | (go_at_call 67; refine (eset_any pa pb pc e0 f HE.out _ _ _ (HS.out.ri.bw (by repeat (first | exact Bw.refl _ | apply Bw.alloc | apply Bw.drewN | apply Bw.drew))) ho HNE.out).mono ?_; intro e w5 h5; rw [HQ.out] at h5; obtain ⟨rfl, hk5⟩ := h5; have HK := hid ((HS.out.kp.bw (by repeat (first | exact Bw.refl _ | apply Bw.alloc | apply Bw.drewN | apply Bw.drew))).trans hk5); clear hk5)
        | fail)
      all_goals exact ⟨rfl, rfl, HK.out⟩
    | ok x c j =>
      go_enter Tryd.func45, Tryd.ntmps45
      go_upto_region 19 with (first
        | (go_at_call 58; refine (is_any _ (HS.out.ri.bw (by repeat (first | exact Bw.refl _ | apply Bw.alloc | apply Bw.drewN | apply Bw.drew)))).mono ?_; rintro e w1 ⟨rfl, hb1⟩; have HS := hid (HS.out.bw (Bw.trans (by repeat (first | exact Bw.refl _ | apply Bw.alloc | apply Bw.drewN | apply Bw.drew)) hb1)); have zz := HS.out.ri.k.cell; have zf := HS.out.ri.k.free; have zl := HS.out.ri.k.lt; clear hb1)
        | fail)
      refine wp_region_W (fun w' => w'.cell? ⟨r, 0, none⟩ = some (.slice (some ⟨g, 0, none⟩) T.length cap) ∧ w'.cell? ⟨r, 1, none⟩ = some (.int .i64 (i : Int)) ∧ w'.cell? ⟨g, (i + 1) * 4, none⟩ = some (.int .i64 (tk T (i + 1)).1)) (fun j => if j == 1 then 0 else 1) (by kernel_rfl) ?_
      refine wpAnyW_take (i := 0) (oi := { dst := some 73, op := Op.move (Operand.tmp 0), type := 58, pos := "statement.go:42", after := #[], guard := none }) (v := ?_) rfl (by kernel_rfl) (by kernel_rfl) (by kernel_rfl) (by kernel_rfl) (fun _ _ _ h => h) (Or.inl ⟨by rfl, fun w _ => ?_⟩) ?_
      rotate_left
      · (go_simp; first | done | with_reducible rfl)
      try simp only [Act.put, List.setIfInBounds_toArray, List.set_cons_zero, List.set_cons_succ]
      refine wpAnyW_ready (rs := [1]) (by kernel_rfl) (by simp) ?_
      refine (AllReadyW.cons (o := { dst := some 74, op := Op.call { callee := Callee.value (Operand.func 58), args := #[Operand.tmp 73, Operand.const (Value.string { data := #[102, 110] })], argTypes := #[58, 9] }, type := 4, pos := "statement.go:42", after := #[{ on := 0, ground := Ground.data }], guard := none }) rfl (fun K hK => ?_) AllReadyW.nil)
      go_simp
      refine (is_any _ (HS.out.ri.bw (by repeat (first | exact Bw.refl _ | apply Bw.alloc | apply Bw.drewN | apply Bw.drew)))).mono ?_
      rintro e w1 ⟨he1, hb1⟩
      rw [o_fn] at he1
      subst he1
      have HS := hid (HS.out.bw (Bw.trans (by repeat (first | exact Bw.refl _ | apply Bw.alloc | apply Bw.drewN | apply Bw.drew)) hb1))
      have zz := HS.out.ri.k.cell
      have gg := (HS.out.ri.tokAt HLT.out).1
      clear hb1
      refine hK.out _ _ (show _ ∧ _ from ⟨zz 0, zz 1, gg⟩) ?_
      clear hK K
      try simp only [Act.put, List.setIfInBounds_toArray, List.set_cons_zero, List.set_cons_succ]
      refine wpAnyW_take (i := 2) (oi := { dst := some 75, op := Op.move (Operand.tmp 74), type := 4, pos := "statement.go:42", after := #[{ on := 1, ground := Ground.data }, { on := 1, ground := Ground.chain }], guard := none }) (v := ?_) rfl (by kernel_rfl) (by kernel_rfl) (by kernel_rfl) (by kernel_rfl) (fun _ _ _ h => h) (Or.inl ⟨by rfl, fun w _ => ?_⟩) ?_
      rotate_left
      · (go_simp; first | done | with_reducible rfl)
      try simp only [Act.put, List.setIfInBounds_toArray, List.set_cons_zero, List.set_cons_succ]
      refine wpAnyW_take (i := 3) (oi := { dst := some 76, op := Op.move (Operand.tmp 0), type := 58, pos := "statement.go:42", after := #[{ on := 2, ground := Ground.guard }], guard := some (2, true) }) (v := ?_) rfl (by kernel_rfl) (by kernel_rfl) (by kernel_rfl) (by kernel_rfl) (fun _ _ _ h => h) (Or.inl ⟨by rfl, fun w _ => ?_⟩) ?_
      rotate_left
      · (go_simp; first | done | with_reducible rfl)
      try simp only [Act.put, List.setIfInBounds_toArray, List.set_cons_zero, List.set_cons_succ]
      refine wpAnyW_take (i := 4) (oi := { dst := some 77, op := Op.nilCheck (Operand.tmp 76), type := 0, pos := "statement.go:42", after := #[{ on := 3, ground := Ground.data }, { on := 2, ground := Ground.guard }], guard := some (2, true) }) (v := ?_) rfl (by kernel_rfl) (by kernel_rfl) (by kernel_rfl) (by kernel_rfl) (fun _ _ _ h => h) (Or.inl ⟨by rfl, fun w _ => ?_⟩) ?_
      rotate_left
      · (go_simp; first | done | with_reducible rfl)
      try simp only [Act.put, List.setIfInBounds_toArray, List.set_cons_zero, List.set_cons_succ]
      refine wpAnyW_take (i := 5) (oi := { dst := some 78, op := Op.fieldAddr 77 (Operand.tmp 77) 0, type := 0, pos := "statement.go:42", after := #[{ on := 4, ground := Ground.data }, { on := 2, ground := Ground.guard }], guard := some (2, true) }) (v := ?_) rfl (by kernel_rfl) (by kernel_rfl) (by kernel_rfl) (by kernel_rfl) (fun _ _ _ h => h) (Or.inl ⟨by rfl, fun w _ => ?_⟩) ?_
      rotate_left
      · (go_simp; first | done | with_reducible rfl)
      try simp only [Act.put, List.setIfInBounds_toArray, List.set_cons_zero, List.set_cons_succ]
      refine wpAnyW_load (i := 6) (oi := { dst := some 79, op := Op.load 51 (Operand.tmp 78), type := 51, pos := "statement.go:42", after := #[{ on := 5, ground := Ground.data }, { on := 2, ground := Ground.guard }], guard := some (2, true) }) (v := ?_) rfl (by kernel_rfl) (by kernel_rfl) (by kernel_rfl) (by kernel_rfl) (by kernel_rfl) (fun _ _ _ h => h) (Or.inl ⟨by rfl, fun w hS => ?_⟩) (show _ ∧ _ from ⟨zz 0, zz 1, gg⟩) ?_
      rotate_left
      · (obtain ⟨hs0, hs1, hs2⟩ := hS; go_simp; first | done | with_reducible rfl)
      try simp only [Act.put, List.setIfInBounds_toArray, List.set_cons_zero, List.set_cons_succ]
      refine wpAnyW_take (i := 7) (oi := { dst := some 80, op := Op.move (Operand.tmp 0), type := 58, pos := "statement.go:42", after := #[{ on := 2, ground := Ground.guard }], guard := some (2, true) }) (v := ?_) rfl (by kernel_rfl) (by kernel_rfl) (by kernel_rfl) (by kernel_rfl) (fun _ _ _ h => h) (Or.inl ⟨by rfl, fun w _ => ?_⟩) ?_
      rotate_left
      · (go_simp; first | done | with_reducible rfl)
      try simp only [Act.put, List.setIfInBounds_toArray, List.set_cons_zero, List.set_cons_succ]
      refine wpAnyW_take (i := 8) (oi := { dst := some 81, op := Op.nilCheck (Operand.tmp 80), type := 0, pos := "statement.go:42", after := #[{ on := 7, ground := Ground.data }, { on := 2, ground := Ground.guard }], guard := some (2, true) }) (v := ?_) rfl (by kernel_rfl) (by kernel_rfl) (by kernel_rfl) (by kernel_rfl) (fun _ _ _ h => h) (Or.inl ⟨by rfl, fun w _ => ?_⟩) ?_
      rotate_left
      · (go_simp; first | done | with_reducible rfl)
      try simp only [Act.put, List.setIfInBounds_toArray, List.set_cons_zero, List.set_cons_succ]
      refine wpAnyW_take (i := 9) (oi := { dst := some 82, op := Op.fieldAddr 77 (Operand.tmp 81) 1, type := 0, pos := "statement.go:42", after := #[{ on := 8, ground := Ground.data }, { on := 2, ground := Ground.guard }], guard := some (2, true) }) (v := ?_) rfl (by kernel_rfl) (by kernel_rfl) (by kernel_rfl) (by kernel_rfl) (fun _ _ _ h => h) (Or.inl ⟨by rfl, fun w _ => ?_⟩) ?_
      rotate_left
      · (go_simp; first | done | with_reducible rfl)
      try simp only [Act.put, List.setIfInBounds_toArray, List.set_cons_zero, List.set_cons_succ]
      refine wpAnyW_load (i := 10) (oi := { dst := some 83, op := Op.load 3 (Operand.tmp 82), type := 3, pos := "statement.go:42", after := #[{ on := 9, ground := Ground.data }, { on := 2, ground := Ground.guard }], guard := some (2, true) }) (v := ?_) rfl (by kernel_rfl) (by kernel_rfl) (by kernel_rfl) (by kernel_rfl) (by kernel_rfl) (fun _ _ _ h => h) (Or.inl ⟨by rfl, fun w hS => ?_⟩) (show _ ∧ _ from ⟨zz 0, zz 1, gg⟩) ?_
      rotate_left
      · (obtain ⟨hs0, hs1, hs2⟩ := hS; go_simp; first | done | with_reducible rfl)
      try simp only [Act.put, List.setIfInBounds_toArray, List.set_cons_zero, List.set_cons_succ]
      refine wpAnyW_take (i := 11) (oi := { dst := some 84, op := Op.binOp BinOp.add 3 (Operand.tmp 83) (Operand.const (Value.int IntKind.i64 1)) 3, type := 3, pos := "statement.go:42", after := #[{ on := 10, ground := Ground.data }, { on := 2, ground := Ground.guard }], guard := some (2, true) }) (v := ?_) rfl (by kernel_rfl) (by kernel_rfl) (by kernel_rfl) (by kernel_rfl) (fun _ _ _ h => h) (Or.inl ⟨by rfl, fun w _ => ?_⟩) ?_
      rotate_left
      · (go_simp; first | done | with_reducible rfl)
      try simp only [Act.put, List.setIfInBounds_toArray, List.set_cons_zero, List.set_cons_succ]
      refine wpAnyW_take (i := 12) (oi := { dst := some 85, op := Op.indexAddr 51 (Operand.tmp 79) (Operand.tmp 84), type := 0, pos := "statement.go:42", after := #[{ on := 6, ground := Ground.data }, { on := 11, ground := Ground.data }, { on := 2, ground := Ground.guard }], guard := some (2, true) }) (v := ?_) rfl (by kernel_rfl) (by kernel_rfl) (by kernel_rfl) (by kernel_rfl) (fun _ _ _ h => h) (Or.inl ⟨by rfl, fun w _ => ?_⟩) ?_
      rotate_left
      · (go_simp; first | done | with_reducible rfl)
      try simp only [Act.put, List.setIfInBounds_toArray, List.set_cons_zero, List.set_cons_succ]
      refine wpAnyW_take (i := 13) (oi := { dst := some 86, op := Op.fieldAddr 72 (Operand.tmp 85) 0, type := 0, pos := "statement.go:42", after := #[{ on := 12, ground := Ground.data }, { on := 2, ground := Ground.guard }], guard := some (2, true) }) (v := ?_) rfl (by kernel_rfl) (by kernel_rfl) (by kernel_rfl) (by kernel_rfl) (fun _ _ _ h => h) (Or.inl ⟨by rfl, fun w _ => ?_⟩) ?_
      rotate_left
      · (go_simp; first | done | with_reducible rfl)
      try simp only [Act.put, List.setIfInBounds_toArray, List.set_cons_zero, List.set_cons_succ]
      refine wpAnyW_load (i := 14) (oi := { dst := some 87, op := Op.load 3 (Operand.tmp 86), type := 3, pos := "statement.go:42", after := #[{ on := 13, ground := Ground.data }, { on := 2, ground := Ground.guard }], guard := some (2, true) }) (v := ?_) rfl (by kernel_rfl) (by kernel_rfl) (by kernel_rfl) (by kernel_rfl) (by kernel_rfl) (fun _ _ _ h => h) (Or.inl ⟨by rfl, fun w hS => ?_⟩) (show _ ∧ _ from ⟨zz 0, zz 1, gg⟩) ?_
      rotate_left
      · (obtain ⟨hs0, hs1, hs2⟩ := hS; go_simp; first | done | with_reducible rfl)
      try simp only [Act.put, List.setIfInBounds_toArray, List.set_cons_zero, List.set_cons_succ]
      refine wpAnyW_take (i := 15) (oi := { dst := some 88, op := Op.binOp BinOp.eql 3 (Operand.tmp 87) (Operand.const (Value.int IntKind.i64 1)) 3, type := 4, pos := "statement.go:42", after := #[{ on := 14, ground := Ground.data }, { on := 2, ground := Ground.guard }], guard := some (2, true) }) (v := ?_) rfl (by kernel_rfl) (by kernel_rfl) (by kernel_rfl) (by kernel_rfl) (fun _ _ _ h => h) (Or.inl ⟨by rfl, fun w _ => ?_⟩) ?_
      rotate_left
      · (go_simp; first | done | with_reducible rfl)
      try simp only [Act.put, List.setIfInBounds_toArray, List.set_cons_zero, List.set_cons_succ]
      refine wpAnyW_take (i := 16) (oi := { dst := some 89, op := Op.pick (Operand.tmp 75) (Operand.tmp 88) (Operand.const (Value.bool false)), type := 4, pos := "statement.go:42", after := #[{ on := 2, ground := Ground.data }, { on := 15, ground := Ground.data }], guard := none }) (v := ?_) rfl (by kernel_rfl) (by kernel_rfl) (by kernel_rfl) (by kernel_rfl) (fun _ _ _ h => h) (Or.inl ⟨by rfl, fun w _ => ?_⟩) ?_
      rotate_left
      · (go_simp; first | done | with_reducible rfl)
      try simp only [Act.put, List.setIfInBounds_toArray, List.set_cons_zero, List.set_cons_succ]
      refine wpAnyW_take (i := 17) (oi := { dst := some 72, op := Op.assign (Operand.tmp 89), type := 4, pos := "statement.go:42", after := #[{ on := 16, ground := Ground.data }, { on := 2, ground := Ground.chain }], guard := none }) (v := ?_) rfl (by kernel_rfl) (by kernel_rfl) (by kernel_rfl) (by kernel_rfl) (fun _ _ _ h => h) (Or.inl ⟨by rfl, fun w _ => ?_⟩) ?_
      rotate_left
      · (go_simp; first | done | with_reducible rfl)
      try simp only [Act.put, List.setIfInBounds_toArray, List.set_cons_zero, List.set_cons_succ]
      refine wpAnyW_done (by kernel_rfl) ?_ _
      go_wp2_with (first
        | (go_at_call 67; refine (eset_any pa pb pc e0 f HE.out _ _ _ (HS.out.ri.bw (by repeat (first | exact Bw.refl _ | apply Bw.alloc | apply Bw.drewN | apply Bw.drew))) ho HNE.out).mono ?_; intro e w5 h5; rw [HQ.out] at h5; obtain ⟨b5, rfl, hp5, hr5, hk5⟩ := h5; have HS := hid ((HS.out.bw (by repeat (first | exact Bw.refl _ | apply Bw.alloc | apply Bw.drewN | apply Bw.drew))).add hr5 hk5 hp5); clear hp5 hr5 hk5)
        | fail)
      all_goals go_ret
      all_goals exact ⟨_, rfl, HS.out.outp (by simp)⟩

end

end Go.Proofs.YtlcieebneclmpaaDoor

