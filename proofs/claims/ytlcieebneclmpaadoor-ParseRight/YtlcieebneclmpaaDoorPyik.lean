/- if: contract. -/
import Derived.Test.YtlcieebneclmpaaDoorK9
import Derived.Test.YtlcieebneclmpaaDoorK10
set_option linter.unusedSimpArgs false
set_option linter.unusedVariables false
namespace Go.Proofs.YtlcieebneclmpaaDoor
open Go Go.RowKit

section
variable {B : World} {r g cap : Nat} {T : List ATok} {ex : Nat → Value}

set_option maxRecDepth 100000 in
set_option maxHeartbeats 8000000 in
theorem choice_any (pa pb pc : Nat) (e0 : ex 0 = .func (.func 69) #[] #[.pointer (some ⟨pa, 0, none⟩), .pointer (some ⟨pb, 0, none⟩), .pointer (some ⟨pc, 0, none⟩)]) (f : Nat) (he : RdP B r g cap T ex f 69 #[.pointer (some ⟨pa, 0, none⟩), .pointer (some ⟨pb, 0, none⟩), .pointer (some ⟨pc, 0, none⟩)] (.lev 0)) (hbk : RdP B r g cap T ex f 59 #[.pointer (some ⟨r, 0, none⟩)] .block) (hch : RdP B r g cap T ex f 61 #[.pointer (some ⟨r, 0, none⟩)] .choice) : RdP B r g cap T ex (f + 1) 61 #[.pointer (some ⟨r, 0, none⟩)] .choice := by
  intro w i o h ho hne
  simp only [pP] at hne ⊢
  have HS := hid (SI.begin h)
  have HE := hid he
  have HBK := hid hbk
  have HCH := hid hch
  have HR0 := hid h.k.lt
  have HBB := hid h.kb.size
  obtain ⟨i1, hi1, hz1, hs1, hy1⟩ := info_parts infoPp
  have I1 := hid (And.intro hi1 (And.intro hz1 (And.intro hs1 hy1)))
  clear hi1 hz1 hs1 hy1
  have zz := HS.out.ri.k.cell; have zf := HS.out.ri.k.free; have zl := HS.out.ri.k.lt
  clear h he hbk hch
  unfold want here at hne ⊢
  cases hi : isT T i ⟨#[105, 102]⟩
  · rw [if_neg (by decide)]
    have HI := hid hi
    clear hi hne
    go_enter Tryd.func61, Tryd.ntmps61
    go_upto_region 1 with fail
    refine wp_region_W (fun w' => w'.cell? ⟨r, 3, none⟩ = some (ex 0)) (fun j => if j == 1 then 0 else 1) (by kernel_rfl) ?_
    refine wpAnyW_take (i := 0) (oi := { dst := some 4, op := Op.move (Operand.tmp 0), type := 58, pos := "statement.go:62", after := #[], guard := none }) (v := ?_) rfl (by kernel_rfl) (by kernel_rfl) (by kernel_rfl) (by kernel_rfl) (fun _ _ _ h => h) (Or.inl ⟨by rfl, fun w _ => ?_⟩) ?_
    rotate_left
    · (go_simp; first | done | with_reducible rfl)
    try simp only [Act.put, List.setIfInBounds_toArray, List.set_cons_zero, List.set_cons_succ]
    refine wpAnyW_take (i := 2) (oi := { dst := some 6, op := Op.move (Operand.tmp 0), type := 58, pos := "statement.go:62", after := #[], guard := none }) (v := ?_) rfl (by kernel_rfl) (by kernel_rfl) (by kernel_rfl) (by kernel_rfl) (fun _ _ _ h => h) (Or.inl ⟨by rfl, fun w _ => ?_⟩) ?_
    rotate_left
    · (go_simp; first | done | with_reducible rfl)
    try simp only [Act.put, List.setIfInBounds_toArray, List.set_cons_zero, List.set_cons_succ]
    refine wpAnyW_take (i := 3) (oi := { dst := some 7, op := Op.nilCheck (Operand.tmp 6), type := 0, pos := "statement.go:62", after := #[{ on := 2, ground := Ground.data }], guard := none }) (v := ?_) rfl (by kernel_rfl) (by kernel_rfl) (by kernel_rfl) (by kernel_rfl) (fun _ _ _ h => h) (Or.inl ⟨by rfl, fun w _ => ?_⟩) ?_
    rotate_left
    · (go_simp; first | done | with_reducible rfl)
    try simp only [Act.put, List.setIfInBounds_toArray, List.set_cons_zero, List.set_cons_succ]
    refine wpAnyW_take (i := 4) (oi := { dst := some 8, op := Op.fieldAddr 77 (Operand.tmp 7) 3, type := 0, pos := "statement.go:62", after := #[{ on := 3, ground := Ground.data }], guard := none }) (v := ?_) rfl (by kernel_rfl) (by kernel_rfl) (by kernel_rfl) (by kernel_rfl) (fun _ _ _ h => h) (Or.inl ⟨by rfl, fun w _ => ?_⟩) ?_
    rotate_left
    · (go_simp; first | done | with_reducible rfl)
    try simp only [Act.put, List.setIfInBounds_toArray, List.set_cons_zero, List.set_cons_succ]
    refine wpAnyW_load (i := 5) (oi := { dst := some 9, op := Op.load 75 (Operand.tmp 8), type := 75, pos := "statement.go:62", after := #[{ on := 4, ground := Ground.data }], guard := none }) (v := ?_) rfl (by kernel_rfl) (by kernel_rfl) (by kernel_rfl) (by kernel_rfl) (by kernel_rfl) (fun _ _ _ h => h) (Or.inl ⟨by rfl, fun w hS => ?_⟩) (by first | exact zz 3 | (simp [go_sem]; done) | (simp [go_sem, *]; done)) ?_
    rotate_left
    · (skip; go_simp; first | done | with_reducible rfl)
    try simp only [Act.put, List.setIfInBounds_toArray, List.set_cons_zero, List.set_cons_succ]
    refine wpAnyW_take (i := 7) (oi := { dst := some 11, op := Op.move (Operand.tmp 0), type := 58, pos := "statement.go:62", after := #[], guard := none }) (v := ?_) rfl (by kernel_rfl) (by kernel_rfl) (by kernel_rfl) (by kernel_rfl) (fun _ _ _ h => h) (Or.inl ⟨by rfl, fun w _ => ?_⟩) ?_
    rotate_left
    · (go_simp; first | done | with_reducible rfl)
    try simp only [Act.put, List.setIfInBounds_toArray, List.set_cons_zero, List.set_cons_succ]
    refine wpAnyW_ready (rs := [1]) (by kernel_rfl) (by simp) ?_
    refine (AllReadyW.cons (o := { dst := some 5, op := Op.call { callee := Callee.value (Operand.func 62), args := #[Operand.tmp 4, Operand.const (Value.string { data := #[105, 102] })], argTypes := #[58, 9] }, type := 3, pos := "statement.go:62", after := #[{ on := 0, ground := Ground.data }], guard := none }) rfl (fun K hK => ?_) AllReadyW.nil)
    go_simp
    refine (want_no _ (HS.out.ri.bw (by repeat (first | exact Bw.refl _ | apply Bw.alloc | apply Bw.drewN | apply Bw.drew))) HI.out).mono ?_
    rintro e w1 ⟨he1, hk1⟩
    subst he1
    exact ⟨rfl, rfl, (HS.out.kp.bw (by repeat (first | exact Bw.refl _ | apply Bw.alloc | apply Bw.drewN | apply Bw.drew))).trans hk1⟩
  · rw [hi, if_pos rfl] at hne
    rw [if_pos rfl]
    try dsimp only at hne ⊢
    have HI := hid hi
    clear hi
    have HNE1 := hid (show pP T f (.lev 0) (i + 1) o ≠ .out from fun q => hne (by rw [q]; rfl))
    generalize hq1 : pP T f (.lev 0) (i + 1) o = R1 at hne ⊢
    have HQ1 := hid hq1
    clear hq1
    cases R1 with
    | out => exact absurd HQ1.out HNE1.out
    | bad n1 m1 =>
      simp only [Res.bind]
      clear hne
      go_enter Tryd.func61, Tryd.ntmps61
      go_upto_region 1 with fail
      refine wp_region_W (fun w' => w'.cell? ⟨r, 3, none⟩ = some (ex 0)) (fun j => if j == 1 || j == 6 then 0 else 1) (by kernel_rfl) ?_
      refine wpAnyW_take (i := 0) (oi := { dst := some 4, op := Op.move (Operand.tmp 0), type := 58, pos := "statement.go:62", after := #[], guard := none }) (v := ?_) rfl (by kernel_rfl) (by kernel_rfl) (by kernel_rfl) (by kernel_rfl) (fun _ _ _ h => h) (Or.inl ⟨by rfl, fun w _ => ?_⟩) ?_
      rotate_left
      · (go_simp; first | done | with_reducible rfl)
      try simp only [Act.put, List.setIfInBounds_toArray, List.set_cons_zero, List.set_cons_succ]
      refine wpAnyW_take (i := 2) (oi := { dst := some 6, op := Op.move (Operand.tmp 0), type := 58, pos := "statement.go:62", after := #[], guard := none }) (v := ?_) rfl (by kernel_rfl) (by kernel_rfl) (by kernel_rfl) (by kernel_rfl) (fun _ _ _ h => h) (Or.inl ⟨by rfl, fun w _ => ?_⟩) ?_
      rotate_left
      · (go_simp; first | done | with_reducible rfl)
      try simp only [Act.put, List.setIfInBounds_toArray, List.set_cons_zero, List.set_cons_succ]
      refine wpAnyW_take (i := 3) (oi := { dst := some 7, op := Op.nilCheck (Operand.tmp 6), type := 0, pos := "statement.go:62", after := #[{ on := 2, ground := Ground.data }], guard := none }) (v := ?_) rfl (by kernel_rfl) (by kernel_rfl) (by kernel_rfl) (by kernel_rfl) (fun _ _ _ h => h) (Or.inl ⟨by rfl, fun w _ => ?_⟩) ?_
      rotate_left
      · (go_simp; first | done | with_reducible rfl)
      try simp only [Act.put, List.setIfInBounds_toArray, List.set_cons_zero, List.set_cons_succ]
      refine wpAnyW_take (i := 4) (oi := { dst := some 8, op := Op.fieldAddr 77 (Operand.tmp 7) 3, type := 0, pos := "statement.go:62", after := #[{ on := 3, ground := Ground.data }], guard := none }) (v := ?_) rfl (by kernel_rfl) (by kernel_rfl) (by kernel_rfl) (by kernel_rfl) (fun _ _ _ h => h) (Or.inl ⟨by rfl, fun w _ => ?_⟩) ?_
      rotate_left
      · (go_simp; first | done | with_reducible rfl)
      try simp only [Act.put, List.setIfInBounds_toArray, List.set_cons_zero, List.set_cons_succ]
      refine wpAnyW_load (i := 5) (oi := { dst := some 9, op := Op.load 75 (Operand.tmp 8), type := 75, pos := "statement.go:62", after := #[{ on := 4, ground := Ground.data }], guard := none }) (v := ?_) rfl (by kernel_rfl) (by kernel_rfl) (by kernel_rfl) (by kernel_rfl) (by kernel_rfl) (fun _ _ _ h => h) (Or.inl ⟨by rfl, fun w hS => ?_⟩) (by first | exact zz 3 | (simp [go_sem]; done) | (simp [go_sem, *]; done)) ?_
      rotate_left
      · (skip; go_simp; first | done | with_reducible rfl)
      try simp only [Act.put, List.setIfInBounds_toArray, List.set_cons_zero, List.set_cons_succ]
      refine wpAnyW_take (i := 7) (oi := { dst := some 11, op := Op.move (Operand.tmp 0), type := 58, pos := "statement.go:62", after := #[], guard := none }) (v := ?_) rfl (by kernel_rfl) (by kernel_rfl) (by kernel_rfl) (by kernel_rfl) (fun _ _ _ h => h) (Or.inl ⟨by rfl, fun w _ => ?_⟩) ?_
      rotate_left
      · (go_simp; first | done | with_reducible rfl)
      try simp only [Act.put, List.setIfInBounds_toArray, List.set_cons_zero, List.set_cons_succ]
      refine wpAnyW_ready (rs := [1]) (by kernel_rfl) (by simp) ?_
      refine (AllReadyW.cons (o := { dst := some 5, op := Op.call { callee := Callee.value (Operand.func 62), args := #[Operand.tmp 4, Operand.const (Value.string { data := #[105, 102] })], argTypes := #[58, 9] }, type := 3, pos := "statement.go:62", after := #[{ on := 0, ground := Ground.data }], guard := none }) rfl (fun K hK => ?_) AllReadyW.nil)
      go_simp
      refine (want_yes _ (HS.out.ri.bw (by repeat (first | exact Bw.refl _ | apply Bw.alloc | apply Bw.drewN | apply Bw.drew))) HI.out).mono ?_
      rintro e w1 ⟨he1, hr1, hk1⟩
      subst he1
      have HS := hid ((HS.out.bw (by repeat (first | exact Bw.refl _ | apply Bw.alloc | apply Bw.drewN | apply Bw.drew))).go hr1 hk1)
      clear hr1 hk1
      refine hK.out _ _ (HS.out.ri.k.cell 3) ?_
      clear hK K
      try simp only [Act.put, List.setIfInBounds_toArray, List.set_cons_zero, List.set_cons_succ]
      refine wpAnyW_ready (rs := [6]) (by kernel_rfl) (by simp) ?_
      refine (AllReadyW.cons (o := { dst := some 10, op := Op.call { callee := Callee.value (Operand.tmp 9), args := #[], argTypes := #[] }, type := 57, pos := "statement.go:62", after := #[{ on := 5, ground := Ground.data }, { on := 1, ground := Ground.chain }], guard := none }) rfl (fun K hK => ?_) AllReadyW.nil)
      go_simp
      refine (HE.out _ _ _ (HS.out.ri.bw (by repeat (first | exact Bw.refl _ | apply Bw.alloc | apply Bw.drewN | apply Bw.drew))) ho HNE1.out).mono ?_
      intro e w2 h2
      rw [HQ1.out] at h2
      obtain ⟨he2, hk2⟩ := h2
      subst he2
      exact ⟨rfl, rfl, (HS.out.kp.bw (by repeat (first | exact Bw.refl _ | apply Bw.alloc | apply Bw.drewN | apply Bw.drew))).trans hk2⟩
    | ok x1 c1 j1 =>
      simp only [Res.bind] at hne ⊢
      have HNE2 := hid (show pP T f .block j1 o ≠ .out from fun q => hne (by rw [q]))
      generalize hq2 : pP T f .block j1 o = R2 at hne ⊢
      have HQ2 := hid hq2
      clear hq2
      cases R2 with
      | out => exact absurd HQ2.out HNE2.out
      | bad n2 m2 =>
        clear hne
        go_enter Tryd.func61, Tryd.ntmps61
        go_upto_region 1 with fail
        refine wp_region_W (fun w' => w'.cell? ⟨r, 3, none⟩ = some (ex 0)) (fun j => if j == 1 || j == 6 || j == 8 then 0 else 1) (by kernel_rfl) ?_
        refine wpAnyW_take (i := 0) (oi := { dst := some 4, op := Op.move (Operand.tmp 0), type := 58, pos := "statement.go:62", after := #[], guard := none }) (v := ?_) rfl (by kernel_rfl) (by kernel_rfl) (by kernel_rfl) (by kernel_rfl) (fun _ _ _ h => h) (Or.inl ⟨by rfl, fun w _ => ?_⟩) ?_
        rotate_left
        · (go_simp; first | done | with_reducible rfl)
        try simp only [Act.put, List.setIfInBounds_toArray, List.set_cons_zero, List.set_cons_succ]
        refine wpAnyW_take (i := 2) (oi := { dst := some 6, op := Op.move (Operand.tmp 0), type := 58, pos := "statement.go:62", after := #[], guard := none }) (v := ?_) rfl (by kernel_rfl) (by kernel_rfl) (by kernel_rfl) (by kernel_rfl) (fun _ _ _ h => h) (Or.inl ⟨by rfl, fun w _ => ?_⟩) ?_
        rotate_left
        · (go_simp; first | done | with_reducible rfl)
        try simp only [Act.put, List.setIfInBounds_toArray, List.set_cons_zero, List.set_cons_succ]
        refine wpAnyW_take (i := 3) (oi := { dst := some 7, op := Op.nilCheck (Operand.tmp 6), type := 0, pos := "statement.go:62", after := #[{ on := 2, ground := Ground.data }], guard := none }) (v := ?_) rfl (by kernel_rfl) (by kernel_rfl) (by kernel_rfl) (by kernel_rfl) (fun _ _ _ h => h) (Or.inl ⟨by rfl, fun w _ => ?_⟩) ?_
        rotate_left
        · (go_simp; first | done | with_reducible rfl)
        try simp only [Act.put, List.setIfInBounds_toArray, List.set_cons_zero, List.set_cons_succ]
        refine wpAnyW_take (i := 4) (oi := { dst := some 8, op := Op.fieldAddr 77 (Operand.tmp 7) 3, type := 0, pos := "statement.go:62", after := #[{ on := 3, ground := Ground.data }], guard := none }) (v := ?_) rfl (by kernel_rfl) (by kernel_rfl) (by kernel_rfl) (by kernel_rfl) (fun _ _ _ h => h) (Or.inl ⟨by rfl, fun w _ => ?_⟩) ?_
        rotate_left
        · (go_simp; first | done | with_reducible rfl)
        try simp only [Act.put, List.setIfInBounds_toArray, List.set_cons_zero, List.set_cons_succ]
        refine wpAnyW_load (i := 5) (oi := { dst := some 9, op := Op.load 75 (Operand.tmp 8), type := 75, pos := "statement.go:62", after := #[{ on := 4, ground := Ground.data }], guard := none }) (v := ?_) rfl (by kernel_rfl) (by kernel_rfl) (by kernel_rfl) (by kernel_rfl) (by kernel_rfl) (fun _ _ _ h => h) (Or.inl ⟨by rfl, fun w hS => ?_⟩) (by first | exact zz 3 | (simp [go_sem]; done) | (simp [go_sem, *]; done)) ?_
        rotate_left
        · (skip; go_simp; first | done | with_reducible rfl)
        try simp only [Act.put, List.setIfInBounds_toArray, List.set_cons_zero, List.set_cons_succ]
        refine wpAnyW_take (i := 7) (oi := { dst := some 11, op := Op.move (Operand.tmp 0), type := 58, pos := "statement.go:62", after := #[], guard := none }) (v := ?_) rfl (by kernel_rfl) (by kernel_rfl) (by kernel_rfl) (by kernel_rfl) (fun _ _ _ h => h) (Or.inl ⟨by rfl, fun w _ => ?_⟩) ?_
        rotate_left
        · (go_simp; first | done | with_reducible rfl)
        try simp only [Act.put, List.setIfInBounds_toArray, List.set_cons_zero, List.set_cons_succ]
        refine wpAnyW_ready (rs := [1]) (by kernel_rfl) (by simp) ?_
        refine (AllReadyW.cons (o := { dst := some 5, op := Op.call { callee := Callee.value (Operand.func 62), args := #[Operand.tmp 4, Operand.const (Value.string { data := #[105, 102] })], argTypes := #[58, 9] }, type := 3, pos := "statement.go:62", after := #[{ on := 0, ground := Ground.data }], guard := none }) rfl (fun K hK => ?_) AllReadyW.nil)
        go_simp
        refine (want_yes _ (HS.out.ri.bw (by repeat (first | exact Bw.refl _ | apply Bw.alloc | apply Bw.drewN | apply Bw.drew))) HI.out).mono ?_
        rintro e w1 ⟨he1, hr1, hk1⟩
        subst he1
        have HS := hid ((HS.out.bw (by repeat (first | exact Bw.refl _ | apply Bw.alloc | apply Bw.drewN | apply Bw.drew))).go hr1 hk1)
        clear hr1 hk1
        refine hK.out _ _ (HS.out.ri.k.cell 3) ?_
        clear hK K
        try simp only [Act.put, List.setIfInBounds_toArray, List.set_cons_zero, List.set_cons_succ]
        refine wpAnyW_ready (rs := [6]) (by kernel_rfl) (by simp) ?_
        refine (AllReadyW.cons (o := { dst := some 10, op := Op.call { callee := Callee.value (Operand.tmp 9), args := #[], argTypes := #[] }, type := 57, pos := "statement.go:62", after := #[{ on := 5, ground := Ground.data }, { on := 1, ground := Ground.chain }], guard := none }) rfl (fun K hK => ?_) AllReadyW.nil)
        go_simp
        refine (HE.out _ _ _ (HS.out.ri.bw (by repeat (first | exact Bw.refl _ | apply Bw.alloc | apply Bw.drewN | apply Bw.drew))) ho HNE1.out).mono ?_
        intro e w2 h2
        rw [HQ1.out] at h2
        obtain ⟨bx, he2, hp2, hr2, hk2⟩ := h2
        subst he2
        have HS := hid ((HS.out.bw (by repeat (first | exact Bw.refl _ | apply Bw.alloc | apply Bw.drewN | apply Bw.drew))).add hr2 hk2 hp2)
        clear hp2 hr2 hk2
        refine hK.out _ _ (HS.out.ri.k.cell 3) ?_
        clear hK K
        try simp only [Act.put, List.setIfInBounds_toArray, List.set_cons_zero, List.set_cons_succ]
        refine wpAnyW_ready (rs := [8]) (by kernel_rfl) (by simp) ?_
        refine (AllReadyW.cons (o := { dst := some 12, op := Op.call { callee := Callee.value (Operand.func 59), args := #[Operand.tmp 11], argTypes := #[58] }, type := 57, pos := "statement.go:62", after := #[{ on := 7, ground := Ground.data }, { on := 6, ground := Ground.chain }], guard := none }) rfl (fun K hK => ?_) AllReadyW.nil)
        go_simp
        refine (HBK.out _ _ _ (HS.out.ri.bw (by repeat (first | exact Bw.refl _ | apply Bw.alloc | apply Bw.drewN | apply Bw.drew))) ho HNE2.out).mono ?_
        intro e wy h2
        rw [HQ2.out] at h2
        obtain ⟨he2, hk2⟩ := h2
        subst he2
        exact ⟨rfl, rfl, (HS.out.kp.bw (by repeat (first | exact Bw.refl _ | apply Bw.alloc | apply Bw.drewN | apply Bw.drew))).trans hk2⟩
      | ok x2 c2 j2 =>
        dsimp only at hne ⊢
        cases hl : isT T j2 ⟨#[101, 108, 115, 101]⟩
        · rw [if_neg (by decide)]
          clear hne
          go_enter Tryd.func61, Tryd.ntmps61
          go_upto_region 1 with fail
          refine wp_region_W (fun w' => w'.cell? ⟨r, 3, none⟩ = some (ex 0)) (fun j => if j == 1 || j == 6 || j == 8 || j == 9 || j == 10 then 0 else 1) (by kernel_rfl) ?_
          refine wpAnyW_take (i := 0) (oi := { dst := some 4, op := Op.move (Operand.tmp 0), type := 58, pos := "statement.go:62", after := #[], guard := none }) (v := ?_) rfl (by kernel_rfl) (by kernel_rfl) (by kernel_rfl) (by kernel_rfl) (fun _ _ _ h => h) (Or.inl ⟨by rfl, fun w _ => ?_⟩) ?_
          rotate_left
          · (go_simp; first | done | with_reducible rfl)
          try simp only [Act.put, List.setIfInBounds_toArray, List.set_cons_zero, List.set_cons_succ]
          refine wpAnyW_take (i := 2) (oi := { dst := some 6, op := Op.move (Operand.tmp 0), type := 58, pos := "statement.go:62", after := #[], guard := none }) (v := ?_) rfl (by kernel_rfl) (by kernel_rfl) (by kernel_rfl) (by kernel_rfl) (fun _ _ _ h => h) (Or.inl ⟨by rfl, fun w _ => ?_⟩) ?_
          rotate_left
          · (go_simp; first | done | with_reducible rfl)
          try simp only [Act.put, List.setIfInBounds_toArray, List.set_cons_zero, List.set_cons_succ]
          refine wpAnyW_take (i := 3) (oi := { dst := some 7, op := Op.nilCheck (Operand.tmp 6), type := 0, pos := "statement.go:62", after := #[{ on := 2, ground := Ground.data }], guard := none }) (v := ?_) rfl (by kernel_rfl) (by kernel_rfl) (by kernel_rfl) (by kernel_rfl) (fun _ _ _ h => h) (Or.inl ⟨by rfl, fun w _ => ?_⟩) ?_
          rotate_left
          · (go_simp; first | done | with_reducible rfl)
          try simp only [Act.put, List.setIfInBounds_toArray, List.set_cons_zero, List.set_cons_succ]
          refine wpAnyW_take (i := 4) (oi := { dst := some 8, op := Op.fieldAddr 77 (Operand.tmp 7) 3, type := 0, pos := "statement.go:62", after := #[{ on := 3, ground := Ground.data }], guard := none }) (v := ?_) rfl (by kernel_rfl) (by kernel_rfl) (by kernel_rfl) (by kernel_rfl) (fun _ _ _ h => h) (Or.inl ⟨by rfl, fun w _ => ?_⟩) ?_
          rotate_left
          · (go_simp; first | done | with_reducible rfl)
          try simp only [Act.put, List.setIfInBounds_toArray, List.set_cons_zero, List.set_cons_succ]
          refine wpAnyW_load (i := 5) (oi := { dst := some 9, op := Op.load 75 (Operand.tmp 8), type := 75, pos := "statement.go:62", after := #[{ on := 4, ground := Ground.data }], guard := none }) (v := ?_) rfl (by kernel_rfl) (by kernel_rfl) (by kernel_rfl) (by kernel_rfl) (by kernel_rfl) (fun _ _ _ h => h) (Or.inl ⟨by rfl, fun w hS => ?_⟩) (by first | exact zz 3 | (simp [go_sem]; done) | (simp [go_sem, *]; done)) ?_
          rotate_left
          · (skip; go_simp; first | done | with_reducible rfl)
          try simp only [Act.put, List.setIfInBounds_toArray, List.set_cons_zero, List.set_cons_succ]
          refine wpAnyW_take (i := 7) (oi := { dst := some 11, op := Op.move (Operand.tmp 0), type := 58, pos := "statement.go:62", after := #[], guard := none }) (v := ?_) rfl (by kernel_rfl) (by kernel_rfl) (by kernel_rfl) (by kernel_rfl) (fun _ _ _ h => h) (Or.inl ⟨by rfl, fun w _ => ?_⟩) ?_
          rotate_left
          · (go_simp; first | done | with_reducible rfl)
          try simp only [Act.put, List.setIfInBounds_toArray, List.set_cons_zero, List.set_cons_succ]
          refine wpAnyW_ready (rs := [1]) (by kernel_rfl) (by simp) ?_
          refine (AllReadyW.cons (o := { dst := some 5, op := Op.call { callee := Callee.value (Operand.func 62), args := #[Operand.tmp 4, Operand.const (Value.string { data := #[105, 102] })], argTypes := #[58, 9] }, type := 3, pos := "statement.go:62", after := #[{ on := 0, ground := Ground.data }], guard := none }) rfl (fun K hK => ?_) AllReadyW.nil)
          go_simp
          refine (want_yes _ (HS.out.ri.bw (by repeat (first | exact Bw.refl _ | apply Bw.alloc | apply Bw.drewN | apply Bw.drew))) HI.out).mono ?_
          rintro e w1 ⟨he1, hr1, hk1⟩
          subst he1
          have HS := hid ((HS.out.bw (by repeat (first | exact Bw.refl _ | apply Bw.alloc | apply Bw.drewN | apply Bw.drew))).go hr1 hk1)
          clear hr1 hk1
          refine hK.out _ _ (HS.out.ri.k.cell 3) ?_
          clear hK K
          try simp only [Act.put, List.setIfInBounds_toArray, List.set_cons_zero, List.set_cons_succ]
          refine wpAnyW_ready (rs := [6]) (by kernel_rfl) (by simp) ?_
          refine (AllReadyW.cons (o := { dst := some 10, op := Op.call { callee := Callee.value (Operand.tmp 9), args := #[], argTypes := #[] }, type := 57, pos := "statement.go:62", after := #[{ on := 5, ground := Ground.data }, { on := 1, ground := Ground.chain }], guard := none }) rfl (fun K hK => ?_) AllReadyW.nil)
          go_simp
          refine (HE.out _ _ _ (HS.out.ri.bw (by repeat (first | exact Bw.refl _ | apply Bw.alloc | apply Bw.drewN | apply Bw.drew))) ho HNE1.out).mono ?_
          intro e w2 h2
          rw [HQ1.out] at h2
          obtain ⟨bx, he2, hp2, hr2, hk2⟩ := h2
          subst he2
          have HS := hid ((HS.out.bw (by repeat (first | exact Bw.refl _ | apply Bw.alloc | apply Bw.drewN | apply Bw.drew))).add hr2 hk2 hp2)
          clear hp2 hr2 hk2
          refine hK.out _ _ (HS.out.ri.k.cell 3) ?_
          clear hK K
          try simp only [Act.put, List.setIfInBounds_toArray, List.set_cons_zero, List.set_cons_succ]
          refine wpAnyW_ready (rs := [8]) (by kernel_rfl) (by simp) ?_
          refine (AllReadyW.cons (o := { dst := some 12, op := Op.call { callee := Callee.value (Operand.func 59), args := #[Operand.tmp 11], argTypes := #[58] }, type := 57, pos := "statement.go:62", after := #[{ on := 7, ground := Ground.data }, { on := 6, ground := Ground.chain }], guard := none }) rfl (fun K hK => ?_) AllReadyW.nil)
          go_simp
          refine (HBK.out _ _ _ (HS.out.ri.bw (by repeat (first | exact Bw.refl _ | apply Bw.alloc | apply Bw.drewN | apply Bw.drew))) ho HNE2.out).mono ?_
          intro e wy h2
          rw [HQ2.out] at h2
          obtain ⟨by_, he2, hp2, hr2, hk2⟩ := h2
          subst he2
          have HS := hid ((HS.out.bw (by repeat (first | exact Bw.refl _ | apply Bw.alloc | apply Bw.drewN | apply Bw.drew))).add hr2 hk2 hp2)
          clear hp2 hr2 hk2
          refine hK.out _ _ (HS.out.ri.k.cell 3) ?_
          clear hK K
          try simp only [Act.put, List.setIfInBounds_toArray, List.set_cons_zero, List.set_cons_succ]
          refine wpAnyW_ready (rs := [9]) (by kernel_rfl) (by simp) ?_
          refine (AllReadyW.cons (o := { dst := some 13, op := Op.buildSlice 81 2 #[(0, Operand.tmp 10), (1, Operand.tmp 12)], type := 81, pos := "statement.go:62", after := #[{ on := 6, ground := Ground.data }, { on := 8, ground := Ground.data }], guard := none }) rfl (fun K hK => ?_) AllReadyW.nil)
          go_simp
          refine hK.out _ _ ((HS.out.bw (Bw.alloc (Bw.refl _) _)).ri.k.cell 3) ?_
          clear hK K
          try simp only [Act.put, List.setIfInBounds_toArray, List.set_cons_zero, List.set_cons_succ]
          refine wpAnyW_ready (rs := [10]) (by kernel_rfl) (by simp) ?_
          refine (AllReadyW.cons (o := { dst := some 14, op := Op.call { callee := Callee.value (Operand.func 43), args := #[Operand.const (Value.int IntKind.i64 5), Operand.tmp 5, Operand.tmp 13], argTypes := #[3, 3, 81] }, type := 57, pos := "statement.go:62", after := #[{ on := 1, ground := Ground.data }, { on := 9, ground := Ground.data }, { on := 8, ground := Ground.chain }], guard := none }) rfl (fun K hK => ?_) AllReadyW.nil)
          go_simp
          refine (made_any _ _ _ [x1, x2] [bx, by_] _ _ (HS.out.row2 (x := x1) (y := x2) (b := bx) (c := by_) (by simp) (by simp)).1 (HS.out.row2 (x := x1) (y := x2) (b := bx) (c := by_) (by simp) (by simp)).2).mono ?_
          rintro e w3 ⟨b3, he3, hp3, hb3, hn3, hc3⟩
          subst he3
          have HX := hid (XI.of2 (x := x1) (y := x2) (b := bx) (c := by_) HS.out (by simp) (by simp) hb3 hn3 hc3)
          have HS := hid ((HS.out.bw (Bw.alloc (Bw.refl _) _)).put hb3 hp3).drop
          have x5 := HX.out.2.1.cell 5
          have xl := HX.out.2.1.lt
          have zz := HS.out.ri.k.cell
          have zf := HS.out.ri.k.free
          have zl := HS.out.ri.k.lt
          clear hp3 hb3 hn3 hc3
          refine hK.out _ _ (zz 3) ?_
          clear hK K
          try simp only [Act.put, List.setIfInBounds_toArray, List.set_cons_zero, List.set_cons_succ]
          refine wpAnyW_take (i := 11) (oi := { dst := some 3, op := Op.assign (Operand.tmp 14), type := 57, pos := "statement.go:62", after := #[{ on := 10, ground := Ground.data }, { on := 10, ground := Ground.chain }, { on := 0, ground := Ground.phase }, { on := 1, ground := Ground.phase }, { on := 2, ground := Ground.phase }, { on := 3, ground := Ground.phase }, { on := 4, ground := Ground.phase }, { on := 5, ground := Ground.phase }, { on := 6, ground := Ground.phase }, { on := 7, ground := Ground.phase }, { on := 8, ground := Ground.phase }, { on := 9, ground := Ground.phase }, { on := 10, ground := Ground.phase }], guard := none }) (v := ?_) rfl (by kernel_rfl) (by kernel_rfl) (by kernel_rfl) (by kernel_rfl) (fun _ _ _ h => h) (Or.inl ⟨by rfl, fun w _ => ?_⟩) ?_
          rotate_left
          · (go_simp; first | done | with_reducible rfl)
          try simp only [Act.put, List.setIfInBounds_toArray, List.set_cons_zero, List.set_cons_succ]
          refine wpAnyW_done (by kernel_rfl) ?_ _
          go_wp2_with (first
            | (go_at_call 58; refine (is_any _ (HS.out.ri.bw (by repeat (first | exact Bw.refl _ | apply Bw.alloc | apply Bw.drewN | apply Bw.drew)))).mono ?_; rintro e w1 ⟨rfl, hb1⟩; have HX := hid (HX.out.bw (Bw.trans (by repeat (first | exact Bw.refl _ | apply Bw.alloc | apply Bw.drewN | apply Bw.drew)) hb1)); have x5 := HX.out.2.1.cell 5; have xl := HX.out.2.1.lt; have HS := hid (HS.out.bw (Bw.trans (by repeat (first | exact Bw.refl _ | apply Bw.alloc | apply Bw.drewN | apply Bw.drew)) hb1)); have zz := HS.out.ri.k.cell; have zf := HS.out.ri.k.free; have zl := HS.out.ri.k.lt; clear hb1)
            | fail)
          all_goals go_ret
          all_goals exact ⟨_, rfl, HX.out.part, HS.out.ri, HS.out.kp⟩
        · rw [hl, if_pos rfl] at hne
          rw [if_pos rfl]
          have HN := hid (isT_ne hl)
          cases hi2 : isT T (j2 + 1) ⟨#[105, 102]⟩
          · rw [hi2, if_neg (by decide)] at hne
            rw [if_neg (by decide)]
            have HNE3 := hid (show pP T f .block (j2 + 1) o ≠ .out from fun q => hne (by rw [q]))
            clear hne
            generalize hq3 : pP T f .block (j2 + 1) o = R3
            have HQ3 := hid hq3
            clear hq3
            cases R3 with
            | out => exact absurd HQ3.out HNE3.out
            | bad n3 m3 =>
              go_enter Tryd.func61, Tryd.ntmps61
              go_upto_region 1 with fail
              refine wp_region_W (fun w' => w'.cell? ⟨r, 3, none⟩ = some (ex 0)) (fun j => if j == 1 || j == 6 || j == 8 || j == 9 || j == 10 then 0 else 1) (by kernel_rfl) ?_
              refine wpAnyW_take (i := 0) (oi := { dst := some 4, op := Op.move (Operand.tmp 0), type := 58, pos := "statement.go:62", after := #[], guard := none }) (v := ?_) rfl (by kernel_rfl) (by kernel_rfl) (by kernel_rfl) (by kernel_rfl) (fun _ _ _ h => h) (Or.inl ⟨by rfl, fun w _ => ?_⟩) ?_
              rotate_left
              · (go_simp; first | done | with_reducible rfl)
              try simp only [Act.put, List.setIfInBounds_toArray, List.set_cons_zero, List.set_cons_succ]
              refine wpAnyW_take (i := 2) (oi := { dst := some 6, op := Op.move (Operand.tmp 0), type := 58, pos := "statement.go:62", after := #[], guard := none }) (v := ?_) rfl (by kernel_rfl) (by kernel_rfl) (by kernel_rfl) (by kernel_rfl) (fun _ _ _ h => h) (Or.inl ⟨by rfl, fun w _ => ?_⟩) ?_
              rotate_left
              · (go_simp; first | done | with_reducible rfl)
              try simp only [Act.put, List.setIfInBounds_toArray, List.set_cons_zero, List.set_cons_succ]
              refine wpAnyW_take (i := 3) (oi := { dst := some 7, op := Op.nilCheck (Operand.tmp 6), type := 0, pos := "statement.go:62", after := #[{ on := 2, ground := Ground.data }], guard := none }) (v := ?_) rfl (by kernel_rfl) (by kernel_rfl) (by kernel_rfl) (by kernel_rfl) (fun _ _ _ h => h) (Or.inl ⟨by rfl, fun w _ => ?_⟩) ?_
              rotate_left
              · (go_simp; first | done | with_reducible rfl)
              try simp only [Act.put, List.setIfInBounds_toArray, List.set_cons_zero, List.set_cons_succ]
              refine wpAnyW_take (i := 4) (oi := { dst := some 8, op := Op.fieldAddr 77 (Operand.tmp 7) 3, type := 0, pos := "statement.go:62", after := #[{ on := 3, ground := Ground.data }], guard := none }) (v := ?_) rfl (by kernel_rfl) (by kernel_rfl) (by kernel_rfl) (by kernel_rfl) (fun _ _ _ h => h) (Or.inl ⟨by rfl, fun w _ => ?_⟩) ?_
              rotate_left
              · (go_simp; first | done | with_reducible rfl)
              try simp only [Act.put, List.setIfInBounds_toArray, List.set_cons_zero, List.set_cons_succ]
              refine wpAnyW_load (i := 5) (oi := { dst := some 9, op := Op.load 75 (Operand.tmp 8), type := 75, pos := "statement.go:62", after := #[{ on := 4, ground := Ground.data }], guard := none }) (v := ?_) rfl (by kernel_rfl) (by kernel_rfl) (by kernel_rfl) (by kernel_rfl) (by kernel_rfl) (fun _ _ _ h => h) (Or.inl ⟨by rfl, fun w hS => ?_⟩) (by first | exact zz 3 | (simp [go_sem]; done) | (simp [go_sem, *]; done)) ?_
              rotate_left
              · (skip; go_simp; first | done | with_reducible rfl)
              try simp only [Act.put, List.setIfInBounds_toArray, List.set_cons_zero, List.set_cons_succ]
              refine wpAnyW_take (i := 7) (oi := { dst := some 11, op := Op.move (Operand.tmp 0), type := 58, pos := "statement.go:62", after := #[], guard := none }) (v := ?_) rfl (by kernel_rfl) (by kernel_rfl) (by kernel_rfl) (by kernel_rfl) (fun _ _ _ h => h) (Or.inl ⟨by rfl, fun w _ => ?_⟩) ?_
              rotate_left
              · (go_simp; first | done | with_reducible rfl)
              try simp only [Act.put, List.setIfInBounds_toArray, List.set_cons_zero, List.set_cons_succ]
              refine wpAnyW_ready (rs := [1]) (by kernel_rfl) (by simp) ?_
              refine (AllReadyW.cons (o := { dst := some 5, op := Op.call { callee := Callee.value (Operand.func 62), args := #[Operand.tmp 4, Operand.const (Value.string { data := #[105, 102] })], argTypes := #[58, 9] }, type := 3, pos := "statement.go:62", after := #[{ on := 0, ground := Ground.data }], guard := none }) rfl (fun K hK => ?_) AllReadyW.nil)
              go_simp
              refine (want_yes _ (HS.out.ri.bw (by repeat (first | exact Bw.refl _ | apply Bw.alloc | apply Bw.drewN | apply Bw.drew))) HI.out).mono ?_
              rintro e w1 ⟨he1, hr1, hk1⟩
              subst he1
              have HS := hid ((HS.out.bw (by repeat (first | exact Bw.refl _ | apply Bw.alloc | apply Bw.drewN | apply Bw.drew))).go hr1 hk1)
              clear hr1 hk1
              refine hK.out _ _ (HS.out.ri.k.cell 3) ?_
              clear hK K
              try simp only [Act.put, List.setIfInBounds_toArray, List.set_cons_zero, List.set_cons_succ]
              refine wpAnyW_ready (rs := [6]) (by kernel_rfl) (by simp) ?_
              refine (AllReadyW.cons (o := { dst := some 10, op := Op.call { callee := Callee.value (Operand.tmp 9), args := #[], argTypes := #[] }, type := 57, pos := "statement.go:62", after := #[{ on := 5, ground := Ground.data }, { on := 1, ground := Ground.chain }], guard := none }) rfl (fun K hK => ?_) AllReadyW.nil)
              go_simp
              refine (HE.out _ _ _ (HS.out.ri.bw (by repeat (first | exact Bw.refl _ | apply Bw.alloc | apply Bw.drewN | apply Bw.drew))) ho HNE1.out).mono ?_
              intro e w2 h2
              rw [HQ1.out] at h2
              obtain ⟨bx, he2, hp2, hr2, hk2⟩ := h2
              subst he2
              have HS := hid ((HS.out.bw (by repeat (first | exact Bw.refl _ | apply Bw.alloc | apply Bw.drewN | apply Bw.drew))).add hr2 hk2 hp2)
              clear hp2 hr2 hk2
              refine hK.out _ _ (HS.out.ri.k.cell 3) ?_
              clear hK K
              try simp only [Act.put, List.setIfInBounds_toArray, List.set_cons_zero, List.set_cons_succ]
              refine wpAnyW_ready (rs := [8]) (by kernel_rfl) (by simp) ?_
              refine (AllReadyW.cons (o := { dst := some 12, op := Op.call { callee := Callee.value (Operand.func 59), args := #[Operand.tmp 11], argTypes := #[58] }, type := 57, pos := "statement.go:62", after := #[{ on := 7, ground := Ground.data }, { on := 6, ground := Ground.chain }], guard := none }) rfl (fun K hK => ?_) AllReadyW.nil)
              go_simp
              refine (HBK.out _ _ _ (HS.out.ri.bw (by repeat (first | exact Bw.refl _ | apply Bw.alloc | apply Bw.drewN | apply Bw.drew))) ho HNE2.out).mono ?_
              intro e wy h2
              rw [HQ2.out] at h2
              obtain ⟨by_, he2, hp2, hr2, hk2⟩ := h2
              subst he2
              have HS := hid ((HS.out.bw (by repeat (first | exact Bw.refl _ | apply Bw.alloc | apply Bw.drewN | apply Bw.drew))).add hr2 hk2 hp2)
              clear hp2 hr2 hk2
              refine hK.out _ _ (HS.out.ri.k.cell 3) ?_
              clear hK K
              try simp only [Act.put, List.setIfInBounds_toArray, List.set_cons_zero, List.set_cons_succ]
              refine wpAnyW_ready (rs := [9]) (by kernel_rfl) (by simp) ?_
              refine (AllReadyW.cons (o := { dst := some 13, op := Op.buildSlice 81 2 #[(0, Operand.tmp 10), (1, Operand.tmp 12)], type := 81, pos := "statement.go:62", after := #[{ on := 6, ground := Ground.data }, { on := 8, ground := Ground.data }], guard := none }) rfl (fun K hK => ?_) AllReadyW.nil)
              go_simp
              refine hK.out _ _ ((HS.out.bw (Bw.alloc (Bw.refl _) _)).ri.k.cell 3) ?_
              clear hK K
              try simp only [Act.put, List.setIfInBounds_toArray, List.set_cons_zero, List.set_cons_succ]
              refine wpAnyW_ready (rs := [10]) (by kernel_rfl) (by simp) ?_
              refine (AllReadyW.cons (o := { dst := some 14, op := Op.call { callee := Callee.value (Operand.func 43), args := #[Operand.const (Value.int IntKind.i64 5), Operand.tmp 5, Operand.tmp 13], argTypes := #[3, 3, 81] }, type := 57, pos := "statement.go:62", after := #[{ on := 1, ground := Ground.data }, { on := 9, ground := Ground.data }, { on := 8, ground := Ground.chain }], guard := none }) rfl (fun K hK => ?_) AllReadyW.nil)
              go_simp
              refine (made_any _ _ _ [x1, x2] [bx, by_] _ _ (HS.out.row2 (x := x1) (y := x2) (b := bx) (c := by_) (by simp) (by simp)).1 (HS.out.row2 (x := x1) (y := x2) (b := bx) (c := by_) (by simp) (by simp)).2).mono ?_
              rintro e w3 ⟨b3, he3, hp3, hb3, hn3, hc3⟩
              subst he3
              have HX := hid (XI.of2 (x := x1) (y := x2) (b := bx) (c := by_) HS.out (by simp) (by simp) hb3 hn3 hc3)
              have HS := hid ((HS.out.bw (Bw.alloc (Bw.refl _) _)).put hb3 hp3).drop
              have x5 := HX.out.2.1.cell 5
              have xl := HX.out.2.1.lt
              have zz := HS.out.ri.k.cell
              have zf := HS.out.ri.k.free
              have zl := HS.out.ri.k.lt
              clear hp3 hb3 hn3 hc3
              refine hK.out _ _ (zz 3) ?_
              clear hK K
              try simp only [Act.put, List.setIfInBounds_toArray, List.set_cons_zero, List.set_cons_succ]
              refine wpAnyW_take (i := 11) (oi := { dst := some 3, op := Op.assign (Operand.tmp 14), type := 57, pos := "statement.go:62", after := #[{ on := 10, ground := Ground.data }, { on := 10, ground := Ground.chain }, { on := 0, ground := Ground.phase }, { on := 1, ground := Ground.phase }, { on := 2, ground := Ground.phase }, { on := 3, ground := Ground.phase }, { on := 4, ground := Ground.phase }, { on := 5, ground := Ground.phase }, { on := 6, ground := Ground.phase }, { on := 7, ground := Ground.phase }, { on := 8, ground := Ground.phase }, { on := 9, ground := Ground.phase }, { on := 10, ground := Ground.phase }], guard := none }) (v := ?_) rfl (by kernel_rfl) (by kernel_rfl) (by kernel_rfl) (by kernel_rfl) (fun _ _ _ h => h) (Or.inl ⟨by rfl, fun w _ => ?_⟩) ?_
              rotate_left
              · (go_simp; first | done | with_reducible rfl)
              try simp only [Act.put, List.setIfInBounds_toArray, List.set_cons_zero, List.set_cons_succ]
              refine wpAnyW_done (by kernel_rfl) ?_ _
              go_upto_region 7 with (first
                | (go_at_call 58; refine (is_any _ (HS.out.ri.bw (by repeat (first | exact Bw.refl _ | apply Bw.alloc | apply Bw.drewN | apply Bw.drew)))).mono ?_; rintro e w1 ⟨rfl, hb1⟩; have HX := hid (HX.out.bw (Bw.trans (by repeat (first | exact Bw.refl _ | apply Bw.alloc | apply Bw.drewN | apply Bw.drew)) hb1)); have x5 := HX.out.2.1.cell 5; have xl := HX.out.2.1.lt; have HS := hid (HS.out.bw (Bw.trans (by repeat (first | exact Bw.refl _ | apply Bw.alloc | apply Bw.drewN | apply Bw.drew)) hb1)); have zz := HS.out.ri.k.cell; have zf := HS.out.ri.k.free; have zl := HS.out.ri.k.lt; clear hb1)
                | (go_at_call 81; refine (take_any (HS.out.ri.bw (by repeat (first | exact Bw.refl _ | apply Bw.alloc | apply Bw.drewN | apply Bw.drew))) HN.out).mono ?_; unfold tokV; rintro e w1 ⟨rfl, hr1, hk1⟩; have HX := hid ((HX.out.bw (by repeat (first | exact Bw.refl _ | apply Bw.alloc | apply Bw.drewN | apply Bw.drew))).kp hk1 HR0.out); have x5 := HX.out.2.1.cell 5; have xl := HX.out.2.1.lt; have HS := hid ((HS.out.bw (by repeat (first | exact Bw.refl _ | apply Bw.alloc | apply Bw.drewN | apply Bw.drew))).go hr1 hk1); have zz := HS.out.ri.k.cell; have zf := HS.out.ri.k.free; have zl := HS.out.ri.k.lt; clear hr1 hk1)
                | fail)
              refine wp_region_W (fun w' => w'.cell? ⟨b3, 5, none⟩ = some (.slice (some ⟨wy.heap.size, 0, none⟩) 2 2)) (fun j => if j == 6 then 0 else 1) (by kernel_rfl) ?_
              refine wpAnyW_take (i := 0) (oi := { dst := some 34, op := Op.move (Operand.tmp 3), type := 57, pos := "statement.go:70", after := #[], guard := none }) (v := ?_) rfl (by kernel_rfl) (by kernel_rfl) (by kernel_rfl) (by kernel_rfl) (fun _ _ _ h => h) (Or.inl ⟨by rfl, fun w _ => ?_⟩) ?_
              rotate_left
              · (go_simp; first | done | with_reducible rfl)
              try simp only [Act.put, List.setIfInBounds_toArray, List.set_cons_zero, List.set_cons_succ]
              refine wpAnyW_take (i := 1) (oi := { dst := some 35, op := Op.move (Operand.tmp 3), type := 57, pos := "statement.go:70", after := #[], guard := none }) (v := ?_) rfl (by kernel_rfl) (by kernel_rfl) (by kernel_rfl) (by kernel_rfl) (fun _ _ _ h => h) (Or.inl ⟨by rfl, fun w _ => ?_⟩) ?_
              rotate_left
              · (go_simp; first | done | with_reducible rfl)
              try simp only [Act.put, List.setIfInBounds_toArray, List.set_cons_zero, List.set_cons_succ]
              refine wpAnyW_take (i := 2) (oi := { dst := some 36, op := Op.nilCheck (Operand.tmp 35), type := 0, pos := "statement.go:70", after := #[{ on := 1, ground := Ground.data }], guard := none }) (v := ?_) rfl (by kernel_rfl) (by kernel_rfl) (by kernel_rfl) (by kernel_rfl) (fun _ _ _ h => h) (Or.inl ⟨by rfl, fun w _ => ?_⟩) ?_
              rotate_left
              · (go_simp; first | done | with_reducible rfl)
              try simp only [Act.put, List.setIfInBounds_toArray, List.set_cons_zero, List.set_cons_succ]
              refine wpAnyW_take (i := 3) (oi := { dst := some 37, op := Op.fieldAddr 83 (Operand.tmp 36) 1, type := 0, pos := "statement.go:70", after := #[{ on := 2, ground := Ground.data }], guard := none }) (v := ?_) rfl (by kernel_rfl) (by kernel_rfl) (by kernel_rfl) (by kernel_rfl) (fun _ _ _ h => h) (Or.inl ⟨by rfl, fun w _ => ?_⟩) ?_
              rotate_left
              · (go_simp; first | done | with_reducible rfl)
              try simp only [Act.put, List.setIfInBounds_toArray, List.set_cons_zero, List.set_cons_succ]
              refine wpAnyW_load (i := 4) (oi := { dst := some 38, op := Op.load 81 (Operand.tmp 37), type := 81, pos := "statement.go:70", after := #[{ on := 3, ground := Ground.data }], guard := none }) (v := ?_) rfl (by kernel_rfl) (by kernel_rfl) (by kernel_rfl) (by kernel_rfl) (by kernel_rfl) (fun _ _ _ h => h) (Or.inl ⟨by rfl, fun w hS => ?_⟩) (by first | exact x5 | (simp [go_sem]; done) | (simp [go_sem, *]; done)) ?_
              rotate_left
              · (skip; go_simp; first | done | with_reducible rfl)
              try simp only [Act.put, List.setIfInBounds_toArray, List.set_cons_zero, List.set_cons_succ]
              refine wpAnyW_take (i := 5) (oi := { dst := some 39, op := Op.move (Operand.tmp 0), type := 58, pos := "statement.go:70", after := #[], guard := none }) (v := ?_) rfl (by kernel_rfl) (by kernel_rfl) (by kernel_rfl) (by kernel_rfl) (fun _ _ _ h => h) (Or.inl ⟨by rfl, fun w _ => ?_⟩) ?_
              rotate_left
              · (go_simp; first | done | with_reducible rfl)
              try simp only [Act.put, List.setIfInBounds_toArray, List.set_cons_zero, List.set_cons_succ]
              refine wpAnyW_ready (rs := [6]) (by kernel_rfl) (by simp) ?_
              refine (AllReadyW.cons (o := { dst := some 40, op := Op.call { callee := Callee.value (Operand.func 59), args := #[Operand.tmp 39], argTypes := #[58] }, type := 57, pos := "statement.go:70", after := #[{ on := 5, ground := Ground.data }], guard := none }) rfl (fun K hK => ?_) AllReadyW.nil)
              go_simp
              refine (HBK.out _ _ _ (HS.out.ri.bw (by repeat (first | exact Bw.refl _ | apply Bw.alloc | apply Bw.drewN | apply Bw.drew))) ho HNE3.out).mono ?_
              intro e w2 h2
              rw [HQ3.out] at h2
              obtain ⟨he2, hk2⟩ := h2
              subst he2
              exact ⟨rfl, rfl, (HS.out.kp.bw (by repeat (first | exact Bw.refl _ | apply Bw.alloc | apply Bw.drewN | apply Bw.drew))).trans hk2⟩
            | ok x3 c3 j3 =>
              go_enter Tryd.func61, Tryd.ntmps61
              go_upto_region 1 with fail
              refine wp_region_W (fun w' => w'.cell? ⟨r, 3, none⟩ = some (ex 0)) (fun j => if j == 1 || j == 6 || j == 8 || j == 9 || j == 10 then 0 else 1) (by kernel_rfl) ?_
              refine wpAnyW_take (i := 0) (oi := { dst := some 4, op := Op.move (Operand.tmp 0), type := 58, pos := "statement.go:62", after := #[], guard := none }) (v := ?_) rfl (by kernel_rfl) (by kernel_rfl) (by kernel_rfl) (by kernel_rfl) (fun _ _ _ h => h) (Or.inl ⟨by rfl, fun w _ => ?_⟩) ?_
              rotate_left
              · (go_simp; first | done | with_reducible rfl)
              try simp only [Act.put, List.setIfInBounds_toArray, List.set_cons_zero, List.set_cons_succ]
              refine wpAnyW_take (i := 2) (oi := { dst := some 6, op := Op.move (Operand.tmp 0), type := 58, pos := "statement.go:62", after := #[], guard := none }) (v := ?_) rfl (by kernel_rfl) (by kernel_rfl) (by kernel_rfl) (by kernel_rfl) (fun _ _ _ h => h) (Or.inl ⟨by rfl, fun w _ => ?_⟩) ?_
              rotate_left
              · (go_simp; first | done | with_reducible rfl)
              try simp only [Act.put, List.setIfInBounds_toArray, List.set_cons_zero, List.set_cons_succ]
              refine wpAnyW_take (i := 3) (oi := { dst := some 7, op := Op.nilCheck (Operand.tmp 6), type := 0, pos := "statement.go:62", after := #[{ on := 2, ground := Ground.data }], guard := none }) (v := ?_) rfl (by kernel_rfl) (by kernel_rfl) (by kernel_rfl) (by kernel_rfl) (fun _ _ _ h => h) (Or.inl ⟨by rfl, fun w _ => ?_⟩) ?_
              rotate_left
              · (go_simp; first | done | with_reducible rfl)
              try simp only [Act.put, List.setIfInBounds_toArray, List.set_cons_zero, List.set_cons_succ]
              refine wpAnyW_take (i := 4) (oi := { dst := some 8, op := Op.fieldAddr 77 (Operand.tmp 7) 3, type := 0, pos := "statement.go:62", after := #[{ on := 3, ground := Ground.data }], guard := none }) (v := ?_) rfl (by kernel_rfl) (by kernel_rfl) (by kernel_rfl) (by kernel_rfl) (fun _ _ _ h => h) (Or.inl ⟨by rfl, fun w _ => ?_⟩) ?_
              rotate_left
              · (go_simp; first | done | with_reducible rfl)
              try simp only [Act.put, List.setIfInBounds_toArray, List.set_cons_zero, List.set_cons_succ]
              refine wpAnyW_load (i := 5) (oi := { dst := some 9, op := Op.load 75 (Operand.tmp 8), type := 75, pos := "statement.go:62", after := #[{ on := 4, ground := Ground.data }], guard := none }) (v := ?_) rfl (by kernel_rfl) (by kernel_rfl) (by kernel_rfl) (by kernel_rfl) (by kernel_rfl) (fun _ _ _ h => h) (Or.inl ⟨by rfl, fun w hS => ?_⟩) (by first | exact zz 3 | (simp [go_sem]; done) | (simp [go_sem, *]; done)) ?_
              rotate_left
              · (skip; go_simp; first | done | with_reducible rfl)
              try simp only [Act.put, List.setIfInBounds_toArray, List.set_cons_zero, List.set_cons_succ]
              refine wpAnyW_take (i := 7) (oi := { dst := some 11, op := Op.move (Operand.tmp 0), type := 58, pos := "statement.go:62", after := #[], guard := none }) (v := ?_) rfl (by kernel_rfl) (by kernel_rfl) (by kernel_rfl) (by kernel_rfl) (fun _ _ _ h => h) (Or.inl ⟨by rfl, fun w _ => ?_⟩) ?_
              rotate_left
              · (go_simp; first | done | with_reducible rfl)
              try simp only [Act.put, List.setIfInBounds_toArray, List.set_cons_zero, List.set_cons_succ]
              refine wpAnyW_ready (rs := [1]) (by kernel_rfl) (by simp) ?_
              refine (AllReadyW.cons (o := { dst := some 5, op := Op.call { callee := Callee.value (Operand.func 62), args := #[Operand.tmp 4, Operand.const (Value.string { data := #[105, 102] })], argTypes := #[58, 9] }, type := 3, pos := "statement.go:62", after := #[{ on := 0, ground := Ground.data }], guard := none }) rfl (fun K hK => ?_) AllReadyW.nil)
              go_simp
              refine (want_yes _ (HS.out.ri.bw (by repeat (first | exact Bw.refl _ | apply Bw.alloc | apply Bw.drewN | apply Bw.drew))) HI.out).mono ?_
              rintro e w1 ⟨he1, hr1, hk1⟩
              subst he1
              have HS := hid ((HS.out.bw (by repeat (first | exact Bw.refl _ | apply Bw.alloc | apply Bw.drewN | apply Bw.drew))).go hr1 hk1)
              clear hr1 hk1
              refine hK.out _ _ (HS.out.ri.k.cell 3) ?_
              clear hK K
              try simp only [Act.put, List.setIfInBounds_toArray, List.set_cons_zero, List.set_cons_succ]
              refine wpAnyW_ready (rs := [6]) (by kernel_rfl) (by simp) ?_
              refine (AllReadyW.cons (o := { dst := some 10, op := Op.call { callee := Callee.value (Operand.tmp 9), args := #[], argTypes := #[] }, type := 57, pos := "statement.go:62", after := #[{ on := 5, ground := Ground.data }, { on := 1, ground := Ground.chain }], guard := none }) rfl (fun K hK => ?_) AllReadyW.nil)
              go_simp
              refine (HE.out _ _ _ (HS.out.ri.bw (by repeat (first | exact Bw.refl _ | apply Bw.alloc | apply Bw.drewN | apply Bw.drew))) ho HNE1.out).mono ?_
              intro e w2 h2
              rw [HQ1.out] at h2
              obtain ⟨bx, he2, hp2, hr2, hk2⟩ := h2
              subst he2
              have HS := hid ((HS.out.bw (by repeat (first | exact Bw.refl _ | apply Bw.alloc | apply Bw.drewN | apply Bw.drew))).add hr2 hk2 hp2)
              clear hp2 hr2 hk2
              refine hK.out _ _ (HS.out.ri.k.cell 3) ?_
              clear hK K
              try simp only [Act.put, List.setIfInBounds_toArray, List.set_cons_zero, List.set_cons_succ]
              refine wpAnyW_ready (rs := [8]) (by kernel_rfl) (by simp) ?_
              refine (AllReadyW.cons (o := { dst := some 12, op := Op.call { callee := Callee.value (Operand.func 59), args := #[Operand.tmp 11], argTypes := #[58] }, type := 57, pos := "statement.go:62", after := #[{ on := 7, ground := Ground.data }, { on := 6, ground := Ground.chain }], guard := none }) rfl (fun K hK => ?_) AllReadyW.nil)
              go_simp
              refine (HBK.out _ _ _ (HS.out.ri.bw (by repeat (first | exact Bw.refl _ | apply Bw.alloc | apply Bw.drewN | apply Bw.drew))) ho HNE2.out).mono ?_
              intro e wy h2
              rw [HQ2.out] at h2
              obtain ⟨by_, he2, hp2, hr2, hk2⟩ := h2
              subst he2
              have HS := hid ((HS.out.bw (by repeat (first | exact Bw.refl _ | apply Bw.alloc | apply Bw.drewN | apply Bw.drew))).add hr2 hk2 hp2)
              clear hp2 hr2 hk2
              refine hK.out _ _ (HS.out.ri.k.cell 3) ?_
              clear hK K
              try simp only [Act.put, List.setIfInBounds_toArray, List.set_cons_zero, List.set_cons_succ]
              refine wpAnyW_ready (rs := [9]) (by kernel_rfl) (by simp) ?_
              refine (AllReadyW.cons (o := { dst := some 13, op := Op.buildSlice 81 2 #[(0, Operand.tmp 10), (1, Operand.tmp 12)], type := 81, pos := "statement.go:62", after := #[{ on := 6, ground := Ground.data }, { on := 8, ground := Ground.data }], guard := none }) rfl (fun K hK => ?_) AllReadyW.nil)
              go_simp
              refine hK.out _ _ ((HS.out.bw (Bw.alloc (Bw.refl _) _)).ri.k.cell 3) ?_
              clear hK K
              try simp only [Act.put, List.setIfInBounds_toArray, List.set_cons_zero, List.set_cons_succ]
              refine wpAnyW_ready (rs := [10]) (by kernel_rfl) (by simp) ?_
              refine (AllReadyW.cons (o := { dst := some 14, op := Op.call { callee := Callee.value (Operand.func 43), args := #[Operand.const (Value.int IntKind.i64 5), Operand.tmp 5, Operand.tmp 13], argTypes := #[3, 3, 81] }, type := 57, pos := "statement.go:62", after := #[{ on := 1, ground := Ground.data }, { on := 9, ground := Ground.data }, { on := 8, ground := Ground.chain }], guard := none }) rfl (fun K hK => ?_) AllReadyW.nil)
              go_simp
              refine (made_any _ _ _ [x1, x2] [bx, by_] _ _ (HS.out.row2 (x := x1) (y := x2) (b := bx) (c := by_) (by simp) (by simp)).1 (HS.out.row2 (x := x1) (y := x2) (b := bx) (c := by_) (by simp) (by simp)).2).mono ?_
              rintro e w3 ⟨b3, he3, hp3, hb3, hn3, hc3⟩
              subst he3
              have HX := hid (XI.of2 (x := x1) (y := x2) (b := bx) (c := by_) HS.out (by simp) (by simp) hb3 hn3 hc3)
              have HS := hid ((HS.out.bw (Bw.alloc (Bw.refl _) _)).put hb3 hp3).drop
              have x5 := HX.out.2.1.cell 5
              have xl := HX.out.2.1.lt
              have zz := HS.out.ri.k.cell
              have zf := HS.out.ri.k.free
              have zl := HS.out.ri.k.lt
              clear hp3 hb3 hn3 hc3
              refine hK.out _ _ (zz 3) ?_
              clear hK K
              try simp only [Act.put, List.setIfInBounds_toArray, List.set_cons_zero, List.set_cons_succ]
              refine wpAnyW_take (i := 11) (oi := { dst := some 3, op := Op.assign (Operand.tmp 14), type := 57, pos := "statement.go:62", after := #[{ on := 10, ground := Ground.data }, { on := 10, ground := Ground.chain }, { on := 0, ground := Ground.phase }, { on := 1, ground := Ground.phase }, { on := 2, ground := Ground.phase }, { on := 3, ground := Ground.phase }, { on := 4, ground := Ground.phase }, { on := 5, ground := Ground.phase }, { on := 6, ground := Ground.phase }, { on := 7, ground := Ground.phase }, { on := 8, ground := Ground.phase }, { on := 9, ground := Ground.phase }, { on := 10, ground := Ground.phase }], guard := none }) (v := ?_) rfl (by kernel_rfl) (by kernel_rfl) (by kernel_rfl) (by kernel_rfl) (fun _ _ _ h => h) (Or.inl ⟨by rfl, fun w _ => ?_⟩) ?_
              rotate_left
              · (go_simp; first | done | with_reducible rfl)
              try simp only [Act.put, List.setIfInBounds_toArray, List.set_cons_zero, List.set_cons_succ]
              refine wpAnyW_done (by kernel_rfl) ?_ _
              go_upto_region 7 with (first
                | (go_at_call 58; refine (is_any _ (HS.out.ri.bw (by repeat (first | exact Bw.refl _ | apply Bw.alloc | apply Bw.drewN | apply Bw.drew)))).mono ?_; rintro e w1 ⟨rfl, hb1⟩; have HX := hid (HX.out.bw (Bw.trans (by repeat (first | exact Bw.refl _ | apply Bw.alloc | apply Bw.drewN | apply Bw.drew)) hb1)); have x5 := HX.out.2.1.cell 5; have xl := HX.out.2.1.lt; have HS := hid (HS.out.bw (Bw.trans (by repeat (first | exact Bw.refl _ | apply Bw.alloc | apply Bw.drewN | apply Bw.drew)) hb1)); have zz := HS.out.ri.k.cell; have zf := HS.out.ri.k.free; have zl := HS.out.ri.k.lt; clear hb1)
                | (go_at_call 81; refine (take_any (HS.out.ri.bw (by repeat (first | exact Bw.refl _ | apply Bw.alloc | apply Bw.drewN | apply Bw.drew))) HN.out).mono ?_; unfold tokV; rintro e w1 ⟨rfl, hr1, hk1⟩; have HX := hid ((HX.out.bw (by repeat (first | exact Bw.refl _ | apply Bw.alloc | apply Bw.drewN | apply Bw.drew))).kp hk1 HR0.out); have x5 := HX.out.2.1.cell 5; have xl := HX.out.2.1.lt; have HS := hid ((HS.out.bw (by repeat (first | exact Bw.refl _ | apply Bw.alloc | apply Bw.drewN | apply Bw.drew))).go hr1 hk1); have zz := HS.out.ri.k.cell; have zf := HS.out.ri.k.free; have zl := HS.out.ri.k.lt; clear hr1 hk1)
                | fail)
              refine wp_region_W (fun w' => w'.cell? ⟨b3, 5, none⟩ = some (.slice (some ⟨wy.heap.size, 0, none⟩) 2 2)) (fun j => if j == 6 || j == 7 then 0 else if j == 8 || j == 11 then 2 else 1) (by kernel_rfl) ?_
              refine wpAnyW_take (i := 0) (oi := { dst := some 34, op := Op.move (Operand.tmp 3), type := 57, pos := "statement.go:70", after := #[], guard := none }) (v := ?_) rfl (by kernel_rfl) (by kernel_rfl) (by kernel_rfl) (by kernel_rfl) (fun _ _ _ h => h) (Or.inl ⟨by rfl, fun w _ => ?_⟩) ?_
              rotate_left
              · (go_simp; first | done | with_reducible rfl)
              try simp only [Act.put, List.setIfInBounds_toArray, List.set_cons_zero, List.set_cons_succ]
              refine wpAnyW_take (i := 1) (oi := { dst := some 35, op := Op.move (Operand.tmp 3), type := 57, pos := "statement.go:70", after := #[], guard := none }) (v := ?_) rfl (by kernel_rfl) (by kernel_rfl) (by kernel_rfl) (by kernel_rfl) (fun _ _ _ h => h) (Or.inl ⟨by rfl, fun w _ => ?_⟩) ?_
              rotate_left
              · (go_simp; first | done | with_reducible rfl)
              try simp only [Act.put, List.setIfInBounds_toArray, List.set_cons_zero, List.set_cons_succ]
              refine wpAnyW_take (i := 2) (oi := { dst := some 36, op := Op.nilCheck (Operand.tmp 35), type := 0, pos := "statement.go:70", after := #[{ on := 1, ground := Ground.data }], guard := none }) (v := ?_) rfl (by kernel_rfl) (by kernel_rfl) (by kernel_rfl) (by kernel_rfl) (fun _ _ _ h => h) (Or.inl ⟨by rfl, fun w _ => ?_⟩) ?_
              rotate_left
              · (go_simp; first | done | with_reducible rfl)
              try simp only [Act.put, List.setIfInBounds_toArray, List.set_cons_zero, List.set_cons_succ]
              refine wpAnyW_take (i := 3) (oi := { dst := some 37, op := Op.fieldAddr 83 (Operand.tmp 36) 1, type := 0, pos := "statement.go:70", after := #[{ on := 2, ground := Ground.data }], guard := none }) (v := ?_) rfl (by kernel_rfl) (by kernel_rfl) (by kernel_rfl) (by kernel_rfl) (fun _ _ _ h => h) (Or.inl ⟨by rfl, fun w _ => ?_⟩) ?_
              rotate_left
              · (go_simp; first | done | with_reducible rfl)
              try simp only [Act.put, List.setIfInBounds_toArray, List.set_cons_zero, List.set_cons_succ]
              refine wpAnyW_load (i := 4) (oi := { dst := some 38, op := Op.load 81 (Operand.tmp 37), type := 81, pos := "statement.go:70", after := #[{ on := 3, ground := Ground.data }], guard := none }) (v := ?_) rfl (by kernel_rfl) (by kernel_rfl) (by kernel_rfl) (by kernel_rfl) (by kernel_rfl) (fun _ _ _ h => h) (Or.inl ⟨by rfl, fun w hS => ?_⟩) (by first | exact x5 | (simp [go_sem]; done) | (simp [go_sem, *]; done)) ?_
              rotate_left
              · (skip; go_simp; first | done | with_reducible rfl)
              try simp only [Act.put, List.setIfInBounds_toArray, List.set_cons_zero, List.set_cons_succ]
              refine wpAnyW_take (i := 5) (oi := { dst := some 39, op := Op.move (Operand.tmp 0), type := 58, pos := "statement.go:70", after := #[], guard := none }) (v := ?_) rfl (by kernel_rfl) (by kernel_rfl) (by kernel_rfl) (by kernel_rfl) (fun _ _ _ h => h) (Or.inl ⟨by rfl, fun w _ => ?_⟩) ?_
              rotate_left
              · (go_simp; first | done | with_reducible rfl)
              try simp only [Act.put, List.setIfInBounds_toArray, List.set_cons_zero, List.set_cons_succ]
              refine wpAnyW_ready (rs := [6]) (by kernel_rfl) (by simp) ?_
              refine (AllReadyW.cons (o := { dst := some 40, op := Op.call { callee := Callee.value (Operand.func 59), args := #[Operand.tmp 39], argTypes := #[58] }, type := 57, pos := "statement.go:70", after := #[{ on := 5, ground := Ground.data }], guard := none }) rfl (fun K hK => ?_) AllReadyW.nil)
              go_simp
              refine (HBK.out _ _ _ (HS.out.ri.bw (by repeat (first | exact Bw.refl _ | apply Bw.alloc | apply Bw.drewN | apply Bw.drew))) ho HNE3.out).mono ?_
              intro e w2 h2
              rw [HQ3.out] at h2
              obtain ⟨b2, he2, hp2, hr2, hk2⟩ := h2
              subst he2
              obtain ⟨bs, ho2, hbk, hpush⟩ := (HX.out.bw (by repeat (first | exact Bw.refl _ | apply Bw.alloc | apply Bw.drewN | apply Bw.drew))).app (HS.out.kp.bw (by repeat (first | exact Bw.refl _ | apply Bw.alloc | apply Bw.drewN | apply Bw.drew))).size hk2 HR0.out hp2
              have HO2 := hid ho2
              have HPU := hid hpush
              have HBK := hid hbk
              have HX2 := hid ((HX.out.bw (by repeat (first | exact Bw.refl _ | apply Bw.alloc | apply Bw.drewN | apply Bw.drew))).kp hk2 HR0.out)
              have HS := hid ((HS.out.bw (by repeat (first | exact Bw.refl _ | apply Bw.alloc | apply Bw.drewN | apply Bw.drew))).go hr2 hk2)
              clear hp2 hr2 hk2 ho2 hpush hbk
              refine hK.out _ _ (HX2.out.2.1.cell 5) ?_
              clear hK K
              try simp only [Act.put, List.setIfInBounds_toArray, List.set_cons_zero, List.set_cons_succ]
              refine wpAnyW_ready (rs := [7]) (by kernel_rfl) (by simp) ?_
              refine (AllReadyW.cons (o := { dst := some 41, op := Op.buildSlice 81 1 #[(0, Operand.tmp 40)], type := 81, pos := "statement.go:70", after := #[{ on := 6, ground := Ground.data }], guard := none }) rfl (fun K hK => ?_) AllReadyW.nil)
              go_simp
              refine hK.out _ _ ((HX2.out.bw (Bw.alloc (Bw.refl _) _)).2.1.cell 5) ?_
              clear hK K
              try simp only [Act.put, List.setIfInBounds_toArray, List.set_cons_zero, List.set_cons_succ]
              refine wpAnyW_ready (rs := [8]) (by kernel_rfl) (by simp) ?_
              refine (AllReadyW.cons (o := { dst := some 42, op := Op.call { callee := Callee.builtin Builtin.append, args := #[Operand.tmp 38, Operand.tmp 41], argTypes := #[81, 81] }, type := 81, pos := "statement.go:70", after := #[{ on := 4, ground := Ground.data }, { on := 7, ground := Ground.data }, { on := 6, ground := Ground.chain }], guard := none }) rfl (fun K hK => ?_) AllReadyW.nil)
              refine step_append_row (by rfl) (.tmp 38) (.tmp 41) 81 (by rfl) 57 i1 _ 1 8 underPps I1.out.1 I1.out.2.1 I1.out.2.2.1 I1.out.2.2.2 (by rfl) (by decide) (.slice (some ⟨wy.heap.size, 0, none⟩) 2 2) 2 _ (by rfl) HO2.out ⟨w2.heap.size, 0, none⟩ 1 1 [.pointer (some ⟨b2, 0, none⟩)] (by rfl) (by rfl) (one_new w2 _ _) (by intro u hu; rw [List.mem_singleton] at hu; subst hu; rfl) (by unfold maxLen; omega) (by omega) ?_
              intro v4 w4 ho4 hg4 hv4
              obtain ⟨a4, c4, e4⟩ := own_form ho4
              subst e4
              obtain ⟨e1, hx4⟩ := HPU.out _ _ ho4 hg4 hv4
              have HX := hid hx4
              have y5 := e1.cell
              have yf := e1.free
              have yl := e1.lt
              have HS := hid ((HS.out.bw (Bw.alloc (Bw.refl w2) _)).grown HBB.out hg4 (fun k e => (HBK.out k e).1))
              have z3 := HS.out.ri.k.cell 3
              have HS := hid (HS.out.setNew (j := 5) HBB.out HX2.out.1 (.slice a4 (2 + 1) c4))
              clear ho4 hg4 hv4 e1 hx4
              refine hK.out _ _ trivial ?_
              clear hK K
              try simp only [Act.put, List.setIfInBounds_toArray, List.set_cons_zero, List.set_cons_succ]
              refine wpAnyW_take (i := 9) (oi := { dst := some 43, op := Op.nilCheck (Operand.tmp 34), type := 0, pos := "statement.go:70", after := #[{ on := 0, ground := Ground.data }, { on := 0, ground := Ground.phase }, { on := 1, ground := Ground.phase }, { on := 2, ground := Ground.phase }, { on := 3, ground := Ground.phase }, { on := 4, ground := Ground.phase }, { on := 5, ground := Ground.phase }, { on := 6, ground := Ground.phase }, { on := 7, ground := Ground.phase }, { on := 8, ground := Ground.phase }], guard := none }) (v := ?_) rfl (by kernel_rfl) (by kernel_rfl) (by kernel_rfl) (by kernel_rfl) (fun _ _ _ h => h) (Or.inl ⟨by rfl, fun w _ => ?_⟩) ?_
              rotate_left
              · (go_simp; first | done | with_reducible rfl)
              try simp only [Act.put, List.setIfInBounds_toArray, List.set_cons_zero, List.set_cons_succ]
              refine wpAnyW_take (i := 10) (oi := { dst := some 44, op := Op.fieldAddr 83 (Operand.tmp 43) 1, type := 0, pos := "statement.go:70", after := #[{ on := 9, ground := Ground.data }, { on := 0, ground := Ground.phase }, { on := 1, ground := Ground.phase }, { on := 2, ground := Ground.phase }, { on := 3, ground := Ground.phase }, { on := 4, ground := Ground.phase }, { on := 5, ground := Ground.phase }, { on := 6, ground := Ground.phase }, { on := 7, ground := Ground.phase }, { on := 8, ground := Ground.phase }], guard := none }) (v := ?_) rfl (by kernel_rfl) (by kernel_rfl) (by kernel_rfl) (by kernel_rfl) (fun _ _ _ h => h) (Or.inl ⟨by rfl, fun w _ => ?_⟩) ?_
              rotate_left
              · (go_simp; first | done | with_reducible rfl)
              try simp only [Act.put, List.setIfInBounds_toArray, List.set_cons_zero, List.set_cons_succ]
              refine wpAnyW_ready (rs := [11]) (by kernel_rfl) (by simp) ?_
              refine (AllReadyW.cons (o := { dst := none, op := Op.store 81 (Operand.tmp 44) (Operand.tmp 42), type := 0, pos := "statement.go:70", after := #[{ on := 10, ground := Ground.data }, { on := 8, ground := Ground.data }, { on := 8, ground := Ground.chain }, { on := 0, ground := Ground.phase }, { on := 1, ground := Ground.phase }, { on := 2, ground := Ground.phase }, { on := 3, ground := Ground.phase }, { on := 4, ground := Ground.phase }, { on := 5, ground := Ground.phase }, { on := 6, ground := Ground.phase }, { on := 7, ground := Ground.phase }, { on := 8, ground := Ground.phase }], guard := none }) rfl (fun K hK => ?_) AllReadyW.nil)
              go_simp
              refine hK.out _ _ trivial ?_
              clear hK K
              try simp only [Act.put, List.setIfInBounds_toArray, List.set_cons_zero, List.set_cons_succ]
              refine wpAnyW_done (by kernel_rfl) ?_ _
              go_wp2
              all_goals go_ret
              all_goals exact ⟨_, rfl, HX.out.part, HS.out.ri, HS.out.kp⟩
          · rw [hi2, if_pos rfl] at hne
            rw [if_pos rfl]
            have HNE3 := hid (show pP T f .choice (j2 + 1) o ≠ .out from fun q => hne (by rw [q]))
            clear hne
            generalize hq3 : pP T f .choice (j2 + 1) o = R3
            have HQ3 := hid hq3
            clear hq3
            cases R3 with
            | out => exact absurd HQ3.out HNE3.out
            | bad n3 m3 =>
              go_enter Tryd.func61, Tryd.ntmps61
              go_upto_region 1 with fail
              refine wp_region_W (fun w' => w'.cell? ⟨r, 3, none⟩ = some (ex 0)) (fun j => if j == 1 || j == 6 || j == 8 || j == 9 || j == 10 then 0 else 1) (by kernel_rfl) ?_
              refine wpAnyW_take (i := 0) (oi := { dst := some 4, op := Op.move (Operand.tmp 0), type := 58, pos := "statement.go:62", after := #[], guard := none }) (v := ?_) rfl (by kernel_rfl) (by kernel_rfl) (by kernel_rfl) (by kernel_rfl) (fun _ _ _ h => h) (Or.inl ⟨by rfl, fun w _ => ?_⟩) ?_
              rotate_left
              · (go_simp; first | done | with_reducible rfl)
              try simp only [Act.put, List.setIfInBounds_toArray, List.set_cons_zero, List.set_cons_succ]
              refine wpAnyW_take (i := 2) (oi := { dst := some 6, op := Op.move (Operand.tmp 0), type := 58, pos := "statement.go:62", after := #[], guard := none }) (v := ?_) rfl (by kernel_rfl) (by kernel_rfl) (by kernel_rfl) (by kernel_rfl) (fun _ _ _ h => h) (Or.inl ⟨by rfl, fun w _ => ?_⟩) ?_
              rotate_left
              · (go_simp; first | done | with_reducible rfl)
              try simp only [Act.put, List.setIfInBounds_toArray, List.set_cons_zero, List.set_cons_succ]
              refine wpAnyW_take (i := 3) (oi := { dst := some 7, op := Op.nilCheck (Operand.tmp 6), type := 0, pos := "statement.go:62", after := #[{ on := 2, ground := Ground.data }], guard := none }) (v := ?_) rfl (by kernel_rfl) (by kernel_rfl) (by kernel_rfl) (by kernel_rfl) (fun _ _ _ h => h) (Or.inl ⟨by rfl, fun w _ => ?_⟩) ?_
              rotate_left
              · (go_simp; first | done | with_reducible rfl)
              try simp only [Act.put, List.setIfInBounds_toArray, List.set_cons_zero, List.set_cons_succ]
              refine wpAnyW_take (i := 4) (oi := { dst := some 8, op := Op.fieldAddr 77 (Operand.tmp 7) 3, type := 0, pos := "statement.go:62", after := #[{ on := 3, ground := Ground.data }], guard := none }) (v := ?_) rfl (by kernel_rfl) (by kernel_rfl) (by kernel_rfl) (by kernel_rfl) (fun _ _ _ h => h) (Or.inl ⟨by rfl, fun w _ => ?_⟩) ?_
              rotate_left
              · (go_simp; first | done | with_reducible rfl)
              try simp only [Act.put, List.setIfInBounds_toArray, List.set_cons_zero, List.set_cons_succ]
              refine wpAnyW_load (i := 5) (oi := { dst := some 9, op := Op.load 75 (Operand.tmp 8), type := 75, pos := "statement.go:62", after := #[{ on := 4, ground := Ground.data }], guard := none }) (v := ?_) rfl (by kernel_rfl) (by kernel_rfl) (by kernel_rfl) (by kernel_rfl) (by kernel_rfl) (fun _ _ _ h => h) (Or.inl ⟨by rfl, fun w hS => ?_⟩) (by first | exact zz 3 | (simp [go_sem]; done) | (simp [go_sem, *]; done)) ?_
              rotate_left
              · (skip; go_simp; first | done | with_reducible rfl)
              try simp only [Act.put, List.setIfInBounds_toArray, List.set_cons_zero, List.set_cons_succ]
              refine wpAnyW_take (i := 7) (oi := { dst := some 11, op := Op.move (Operand.tmp 0), type := 58, pos := "statement.go:62", after := #[], guard := none }) (v := ?_) rfl (by kernel_rfl) (by kernel_rfl) (by kernel_rfl) (by kernel_rfl) (fun _ _ _ h => h) (Or.inl ⟨by rfl, fun w _ => ?_⟩) ?_
              rotate_left
              · (go_simp; first | done | with_reducible rfl)
              try simp only [Act.put, List.setIfInBounds_toArray, List.set_cons_zero, List.set_cons_succ]
              refine wpAnyW_ready (rs := [1]) (by kernel_rfl) (by simp) ?_
              refine (AllReadyW.cons (o := { dst := some 5, op := Op.call { callee := Callee.value (Operand.func 62), args := #[Operand.tmp 4, Operand.const (Value.string { data := #[105, 102] })], argTypes := #[58, 9] }, type := 3, pos := "statement.go:62", after := #[{ on := 0, ground := Ground.data }], guard := none }) rfl (fun K hK => ?_) AllReadyW.nil)
              go_simp
              refine (want_yes _ (HS.out.ri.bw (by repeat (first | exact Bw.refl _ | apply Bw.alloc | apply Bw.drewN | apply Bw.drew))) HI.out).mono ?_
              rintro e w1 ⟨he1, hr1, hk1⟩
              subst he1
              have HS := hid ((HS.out.bw (by repeat (first | exact Bw.refl _ | apply Bw.alloc | apply Bw.drewN | apply Bw.drew))).go hr1 hk1)
              clear hr1 hk1
              refine hK.out _ _ (HS.out.ri.k.cell 3) ?_
              clear hK K
              try simp only [Act.put, List.setIfInBounds_toArray, List.set_cons_zero, List.set_cons_succ]
              refine wpAnyW_ready (rs := [6]) (by kernel_rfl) (by simp) ?_
              refine (AllReadyW.cons (o := { dst := some 10, op := Op.call { callee := Callee.value (Operand.tmp 9), args := #[], argTypes := #[] }, type := 57, pos := "statement.go:62", after := #[{ on := 5, ground := Ground.data }, { on := 1, ground := Ground.chain }], guard := none }) rfl (fun K hK => ?_) AllReadyW.nil)
              go_simp
              refine (HE.out _ _ _ (HS.out.ri.bw (by repeat (first | exact Bw.refl _ | apply Bw.alloc | apply Bw.drewN | apply Bw.drew))) ho HNE1.out).mono ?_
              intro e w2 h2
              rw [HQ1.out] at h2
              obtain ⟨bx, he2, hp2, hr2, hk2⟩ := h2
              subst he2
              have HS := hid ((HS.out.bw (by repeat (first | exact Bw.refl _ | apply Bw.alloc | apply Bw.drewN | apply Bw.drew))).add hr2 hk2 hp2)
              clear hp2 hr2 hk2
              refine hK.out _ _ (HS.out.ri.k.cell 3) ?_
              clear hK K
              try simp only [Act.put, List.setIfInBounds_toArray, List.set_cons_zero, List.set_cons_succ]
              refine wpAnyW_ready (rs := [8]) (by kernel_rfl) (by simp) ?_
              refine (AllReadyW.cons (o := { dst := some 12, op := Op.call { callee := Callee.value (Operand.func 59), args := #[Operand.tmp 11], argTypes := #[58] }, type := 57, pos := "statement.go:62", after := #[{ on := 7, ground := Ground.data }, { on := 6, ground := Ground.chain }], guard := none }) rfl (fun K hK => ?_) AllReadyW.nil)
              go_simp
              refine (HBK.out _ _ _ (HS.out.ri.bw (by repeat (first | exact Bw.refl _ | apply Bw.alloc | apply Bw.drewN | apply Bw.drew))) ho HNE2.out).mono ?_
              intro e wy h2
              rw [HQ2.out] at h2
              obtain ⟨by_, he2, hp2, hr2, hk2⟩ := h2
              subst he2
              have HS := hid ((HS.out.bw (by repeat (first | exact Bw.refl _ | apply Bw.alloc | apply Bw.drewN | apply Bw.drew))).add hr2 hk2 hp2)
              clear hp2 hr2 hk2
              refine hK.out _ _ (HS.out.ri.k.cell 3) ?_
              clear hK K
              try simp only [Act.put, List.setIfInBounds_toArray, List.set_cons_zero, List.set_cons_succ]
              refine wpAnyW_ready (rs := [9]) (by kernel_rfl) (by simp) ?_
              refine (AllReadyW.cons (o := { dst := some 13, op := Op.buildSlice 81 2 #[(0, Operand.tmp 10), (1, Operand.tmp 12)], type := 81, pos := "statement.go:62", after := #[{ on := 6, ground := Ground.data }, { on := 8, ground := Ground.data }], guard := none }) rfl (fun K hK => ?_) AllReadyW.nil)
              go_simp
              refine hK.out _ _ ((HS.out.bw (Bw.alloc (Bw.refl _) _)).ri.k.cell 3) ?_
              clear hK K
              try simp only [Act.put, List.setIfInBounds_toArray, List.set_cons_zero, List.set_cons_succ]
              refine wpAnyW_ready (rs := [10]) (by kernel_rfl) (by simp) ?_
              refine (AllReadyW.cons (o := { dst := some 14, op := Op.call { callee := Callee.value (Operand.func 43), args := #[Operand.const (Value.int IntKind.i64 5), Operand.tmp 5, Operand.tmp 13], argTypes := #[3, 3, 81] }, type := 57, pos := "statement.go:62", after := #[{ on := 1, ground := Ground.data }, { on := 9, ground := Ground.data }, { on := 8, ground := Ground.chain }], guard := none }) rfl (fun K hK => ?_) AllReadyW.nil)
              go_simp
              refine (made_any _ _ _ [x1, x2] [bx, by_] _ _ (HS.out.row2 (x := x1) (y := x2) (b := bx) (c := by_) (by simp) (by simp)).1 (HS.out.row2 (x := x1) (y := x2) (b := bx) (c := by_) (by simp) (by simp)).2).mono ?_
              rintro e w3 ⟨b3, he3, hp3, hb3, hn3, hc3⟩
              subst he3
              have HX := hid (XI.of2 (x := x1) (y := x2) (b := bx) (c := by_) HS.out (by simp) (by simp) hb3 hn3 hc3)
              have HS := hid ((HS.out.bw (Bw.alloc (Bw.refl _) _)).put hb3 hp3).drop
              have x5 := HX.out.2.1.cell 5
              have xl := HX.out.2.1.lt
              have zz := HS.out.ri.k.cell
              have zf := HS.out.ri.k.free
              have zl := HS.out.ri.k.lt
              clear hp3 hb3 hn3 hc3
              refine hK.out _ _ (zz 3) ?_
              clear hK K
              try simp only [Act.put, List.setIfInBounds_toArray, List.set_cons_zero, List.set_cons_succ]
              refine wpAnyW_take (i := 11) (oi := { dst := some 3, op := Op.assign (Operand.tmp 14), type := 57, pos := "statement.go:62", after := #[{ on := 10, ground := Ground.data }, { on := 10, ground := Ground.chain }, { on := 0, ground := Ground.phase }, { on := 1, ground := Ground.phase }, { on := 2, ground := Ground.phase }, { on := 3, ground := Ground.phase }, { on := 4, ground := Ground.phase }, { on := 5, ground := Ground.phase }, { on := 6, ground := Ground.phase }, { on := 7, ground := Ground.phase }, { on := 8, ground := Ground.phase }, { on := 9, ground := Ground.phase }, { on := 10, ground := Ground.phase }], guard := none }) (v := ?_) rfl (by kernel_rfl) (by kernel_rfl) (by kernel_rfl) (by kernel_rfl) (fun _ _ _ h => h) (Or.inl ⟨by rfl, fun w _ => ?_⟩) ?_
              rotate_left
              · (go_simp; first | done | with_reducible rfl)
              try simp only [Act.put, List.setIfInBounds_toArray, List.set_cons_zero, List.set_cons_succ]
              refine wpAnyW_done (by kernel_rfl) ?_ _
              go_upto_region 6 with (first
                | (go_at_call 58; refine (is_any _ (HS.out.ri.bw (by repeat (first | exact Bw.refl _ | apply Bw.alloc | apply Bw.drewN | apply Bw.drew)))).mono ?_; rintro e w1 ⟨rfl, hb1⟩; have HX := hid (HX.out.bw (Bw.trans (by repeat (first | exact Bw.refl _ | apply Bw.alloc | apply Bw.drewN | apply Bw.drew)) hb1)); have x5 := HX.out.2.1.cell 5; have xl := HX.out.2.1.lt; have HS := hid (HS.out.bw (Bw.trans (by repeat (first | exact Bw.refl _ | apply Bw.alloc | apply Bw.drewN | apply Bw.drew)) hb1)); have zz := HS.out.ri.k.cell; have zf := HS.out.ri.k.free; have zl := HS.out.ri.k.lt; clear hb1)
                | (go_at_call 81; refine (take_any (HS.out.ri.bw (by repeat (first | exact Bw.refl _ | apply Bw.alloc | apply Bw.drewN | apply Bw.drew))) HN.out).mono ?_; unfold tokV; rintro e w1 ⟨rfl, hr1, hk1⟩; have HX := hid ((HX.out.bw (by repeat (first | exact Bw.refl _ | apply Bw.alloc | apply Bw.drewN | apply Bw.drew))).kp hk1 HR0.out); have x5 := HX.out.2.1.cell 5; have xl := HX.out.2.1.lt; have HS := hid ((HS.out.bw (by repeat (first | exact Bw.refl _ | apply Bw.alloc | apply Bw.drewN | apply Bw.drew))).go hr1 hk1); have zz := HS.out.ri.k.cell; have zf := HS.out.ri.k.free; have zl := HS.out.ri.k.lt; clear hr1 hk1)
                | fail)
              refine wp_region_W (fun w' => w'.cell? ⟨b3, 5, none⟩ = some (.slice (some ⟨wy.heap.size, 0, none⟩) 2 2)) (fun j => if j == 6 then 0 else 1) (by kernel_rfl) ?_
              refine wpAnyW_take (i := 0) (oi := { dst := some 23, op := Op.move (Operand.tmp 3), type := 57, pos := "statement.go:68", after := #[], guard := none }) (v := ?_) rfl (by kernel_rfl) (by kernel_rfl) (by kernel_rfl) (by kernel_rfl) (fun _ _ _ h => h) (Or.inl ⟨by rfl, fun w _ => ?_⟩) ?_
              rotate_left
              · (go_simp; first | done | with_reducible rfl)
              try simp only [Act.put, List.setIfInBounds_toArray, List.set_cons_zero, List.set_cons_succ]
              refine wpAnyW_take (i := 1) (oi := { dst := some 24, op := Op.move (Operand.tmp 3), type := 57, pos := "statement.go:68", after := #[], guard := none }) (v := ?_) rfl (by kernel_rfl) (by kernel_rfl) (by kernel_rfl) (by kernel_rfl) (fun _ _ _ h => h) (Or.inl ⟨by rfl, fun w _ => ?_⟩) ?_
              rotate_left
              · (go_simp; first | done | with_reducible rfl)
              try simp only [Act.put, List.setIfInBounds_toArray, List.set_cons_zero, List.set_cons_succ]
              refine wpAnyW_take (i := 2) (oi := { dst := some 25, op := Op.nilCheck (Operand.tmp 24), type := 0, pos := "statement.go:68", after := #[{ on := 1, ground := Ground.data }], guard := none }) (v := ?_) rfl (by kernel_rfl) (by kernel_rfl) (by kernel_rfl) (by kernel_rfl) (fun _ _ _ h => h) (Or.inl ⟨by rfl, fun w _ => ?_⟩) ?_
              rotate_left
              · (go_simp; first | done | with_reducible rfl)
              try simp only [Act.put, List.setIfInBounds_toArray, List.set_cons_zero, List.set_cons_succ]
              refine wpAnyW_take (i := 3) (oi := { dst := some 26, op := Op.fieldAddr 83 (Operand.tmp 25) 1, type := 0, pos := "statement.go:68", after := #[{ on := 2, ground := Ground.data }], guard := none }) (v := ?_) rfl (by kernel_rfl) (by kernel_rfl) (by kernel_rfl) (by kernel_rfl) (fun _ _ _ h => h) (Or.inl ⟨by rfl, fun w _ => ?_⟩) ?_
              rotate_left
              · (go_simp; first | done | with_reducible rfl)
              try simp only [Act.put, List.setIfInBounds_toArray, List.set_cons_zero, List.set_cons_succ]
              refine wpAnyW_load (i := 4) (oi := { dst := some 27, op := Op.load 81 (Operand.tmp 26), type := 81, pos := "statement.go:68", after := #[{ on := 3, ground := Ground.data }], guard := none }) (v := ?_) rfl (by kernel_rfl) (by kernel_rfl) (by kernel_rfl) (by kernel_rfl) (by kernel_rfl) (fun _ _ _ h => h) (Or.inl ⟨by rfl, fun w hS => ?_⟩) (by first | exact x5 | (simp [go_sem]; done) | (simp [go_sem, *]; done)) ?_
              rotate_left
              · (skip; go_simp; first | done | with_reducible rfl)
              try simp only [Act.put, List.setIfInBounds_toArray, List.set_cons_zero, List.set_cons_succ]
              refine wpAnyW_take (i := 5) (oi := { dst := some 28, op := Op.move (Operand.tmp 0), type := 58, pos := "statement.go:68", after := #[], guard := none }) (v := ?_) rfl (by kernel_rfl) (by kernel_rfl) (by kernel_rfl) (by kernel_rfl) (fun _ _ _ h => h) (Or.inl ⟨by rfl, fun w _ => ?_⟩) ?_
              rotate_left
              · (go_simp; first | done | with_reducible rfl)
              try simp only [Act.put, List.setIfInBounds_toArray, List.set_cons_zero, List.set_cons_succ]
              refine wpAnyW_ready (rs := [6]) (by kernel_rfl) (by simp) ?_
              refine (AllReadyW.cons (o := { dst := some 29, op := Op.call { callee := Callee.value (Operand.func 61), args := #[Operand.tmp 28], argTypes := #[58] }, type := 57, pos := "statement.go:68", after := #[{ on := 5, ground := Ground.data }], guard := none }) rfl (fun K hK => ?_) AllReadyW.nil)
              go_simp
              refine (HCH.out _ _ _ (HS.out.ri.bw (by repeat (first | exact Bw.refl _ | apply Bw.alloc | apply Bw.drewN | apply Bw.drew))) ho HNE3.out).mono ?_
              intro e w2 h2
              rw [HQ3.out] at h2
              obtain ⟨he2, hk2⟩ := h2
              subst he2
              exact ⟨rfl, rfl, (HS.out.kp.bw (by repeat (first | exact Bw.refl _ | apply Bw.alloc | apply Bw.drewN | apply Bw.drew))).trans hk2⟩
            | ok x3 c3 j3 =>
              go_enter Tryd.func61, Tryd.ntmps61
              go_upto_region 1 with fail
              refine wp_region_W (fun w' => w'.cell? ⟨r, 3, none⟩ = some (ex 0)) (fun j => if j == 1 || j == 6 || j == 8 || j == 9 || j == 10 then 0 else 1) (by kernel_rfl) ?_
              refine wpAnyW_take (i := 0) (oi := { dst := some 4, op := Op.move (Operand.tmp 0), type := 58, pos := "statement.go:62", after := #[], guard := none }) (v := ?_) rfl (by kernel_rfl) (by kernel_rfl) (by kernel_rfl) (by kernel_rfl) (fun _ _ _ h => h) (Or.inl ⟨by rfl, fun w _ => ?_⟩) ?_
              rotate_left
              · (go_simp; first | done | with_reducible rfl)
              try simp only [Act.put, List.setIfInBounds_toArray, List.set_cons_zero, List.set_cons_succ]
              refine wpAnyW_take (i := 2) (oi := { dst := some 6, op := Op.move (Operand.tmp 0), type := 58, pos := "statement.go:62", after := #[], guard := none }) (v := ?_) rfl (by kernel_rfl) (by kernel_rfl) (by kernel_rfl) (by kernel_rfl) (fun _ _ _ h => h) (Or.inl ⟨by rfl, fun w _ => ?_⟩) ?_
              rotate_left
              · (go_simp; first | done | with_reducible rfl)
              try simp only [Act.put, List.setIfInBounds_toArray, List.set_cons_zero, List.set_cons_succ]
              refine wpAnyW_take (i := 3) (oi := { dst := some 7, op := Op.nilCheck (Operand.tmp 6), type := 0, pos := "statement.go:62", after := #[{ on := 2, ground := Ground.data }], guard := none }) (v := ?_) rfl (by kernel_rfl) (by kernel_rfl) (by kernel_rfl) (by kernel_rfl) (fun _ _ _ h => h) (Or.inl ⟨by rfl, fun w _ => ?_⟩) ?_
              rotate_left
              · (go_simp; first | done | with_reducible rfl)
              try simp only [Act.put, List.setIfInBounds_toArray, List.set_cons_zero, List.set_cons_succ]
              refine wpAnyW_take (i := 4) (oi := { dst := some 8, op := Op.fieldAddr 77 (Operand.tmp 7) 3, type := 0, pos := "statement.go:62", after := #[{ on := 3, ground := Ground.data }], guard := none }) (v := ?_) rfl (by kernel_rfl) (by kernel_rfl) (by kernel_rfl) (by kernel_rfl) (fun _ _ _ h => h) (Or.inl ⟨by rfl, fun w _ => ?_⟩) ?_
              rotate_left
              · (go_simp; first | done | with_reducible rfl)
              try simp only [Act.put, List.setIfInBounds_toArray, List.set_cons_zero, List.set_cons_succ]
              refine wpAnyW_load (i := 5) (oi := { dst := some 9, op := Op.load 75 (Operand.tmp 8), type := 75, pos := "statement.go:62", after := #[{ on := 4, ground := Ground.data }], guard := none }) (v := ?_) rfl (by kernel_rfl) (by kernel_rfl) (by kernel_rfl) (by kernel_rfl) (by kernel_rfl) (fun _ _ _ h => h) (Or.inl ⟨by rfl, fun w hS => ?_⟩) (by first | exact zz 3 | (simp [go_sem]; done) | (simp [go_sem, *]; done)) ?_
              rotate_left
              · (skip; go_simp; first | done | with_reducible rfl)
              try simp only [Act.put, List.setIfInBounds_toArray, List.set_cons_zero, List.set_cons_succ]
              refine wpAnyW_take (i := 7) (oi := { dst := some 11, op := Op.move (Operand.tmp 0), type := 58, pos := "statement.go:62", after := #[], guard := none }) (v := ?_) rfl (by kernel_rfl) (by kernel_rfl) (by kernel_rfl) (by kernel_rfl) (fun _ _ _ h => h) (Or.inl ⟨by rfl, fun w _ => ?_⟩) ?_
              rotate_left
              · (go_simp; first | done | with_reducible rfl)
              try simp only [Act.put, List.setIfInBounds_toArray, List.set_cons_zero, List.set_cons_succ]
              refine wpAnyW_ready (rs := [1]) (by kernel_rfl) (by simp) ?_
              refine (AllReadyW.cons (o := { dst := some 5, op := Op.call { callee := Callee.value (Operand.func 62), args := #[Operand.tmp 4, Operand.const (Value.string { data := #[105, 102] })], argTypes := #[58, 9] }, type := 3, pos := "statement.go:62", after := #[{ on := 0, ground := Ground.data }], guard := none }) rfl (fun K hK => ?_) AllReadyW.nil)
              go_simp
              refine (want_yes _ (HS.out.ri.bw (by repeat (first | exact Bw.refl _ | apply Bw.alloc | apply Bw.drewN | apply Bw.drew))) HI.out).mono ?_
              rintro e w1 ⟨he1, hr1, hk1⟩
              subst he1
              have HS := hid ((HS.out.bw (by repeat (first | exact Bw.refl _ | apply Bw.alloc | apply Bw.drewN | apply Bw.drew))).go hr1 hk1)
              clear hr1 hk1
              refine hK.out _ _ (HS.out.ri.k.cell 3) ?_
              clear hK K
              try simp only [Act.put, List.setIfInBounds_toArray, List.set_cons_zero, List.set_cons_succ]
              refine wpAnyW_ready (rs := [6]) (by kernel_rfl) (by simp) ?_
              refine (AllReadyW.cons (o := { dst := some 10, op := Op.call { callee := Callee.value (Operand.tmp 9), args := #[], argTypes := #[] }, type := 57, pos := "statement.go:62", after := #[{ on := 5, ground := Ground.data }, { on := 1, ground := Ground.chain }], guard := none }) rfl (fun K hK => ?_) AllReadyW.nil)
              go_simp
              refine (HE.out _ _ _ (HS.out.ri.bw (by repeat (first | exact Bw.refl _ | apply Bw.alloc | apply Bw.drewN | apply Bw.drew))) ho HNE1.out).mono ?_
              intro e w2 h2
              rw [HQ1.out] at h2
              obtain ⟨bx, he2, hp2, hr2, hk2⟩ := h2
              subst he2
              have HS := hid ((HS.out.bw (by repeat (first | exact Bw.refl _ | apply Bw.alloc | apply Bw.drewN | apply Bw.drew))).add hr2 hk2 hp2)
              clear hp2 hr2 hk2
              refine hK.out _ _ (HS.out.ri.k.cell 3) ?_
              clear hK K
              try simp only [Act.put, List.setIfInBounds_toArray, List.set_cons_zero, List.set_cons_succ]
              refine wpAnyW_ready (rs := [8]) (by kernel_rfl) (by simp) ?_
              refine (AllReadyW.cons (o := { dst := some 12, op := Op.call { callee := Callee.value (Operand.func 59), args := #[Operand.tmp 11], argTypes := #[58] }, type := 57, pos := "statement.go:62", after := #[{ on := 7, ground := Ground.data }, { on := 6, ground := Ground.chain }], guard := none }) rfl (fun K hK => ?_) AllReadyW.nil)
              go_simp
              refine (HBK.out _ _ _ (HS.out.ri.bw (by repeat (first | exact Bw.refl _ | apply Bw.alloc | apply Bw.drewN | apply Bw.drew))) ho HNE2.out).mono ?_
              intro e wy h2
              rw [HQ2.out] at h2
              obtain ⟨by_, he2, hp2, hr2, hk2⟩ := h2
              subst he2
              have HS := hid ((HS.out.bw (by repeat (first | exact Bw.refl _ | apply Bw.alloc | apply Bw.drewN | apply Bw.drew))).add hr2 hk2 hp2)
              clear hp2 hr2 hk2
              refine hK.out _ _ (HS.out.ri.k.cell 3) ?_
              clear hK K
              try simp only [Act.put, List.setIfInBounds_toArray, List.set_cons_zero, List.set_cons_succ]
              refine wpAnyW_ready (rs := [9]) (by kernel_rfl) (by simp) ?_
              refine (AllReadyW.cons (o := { dst := some 13, op := Op.buildSlice 81 2 #[(0, Operand.tmp 10), (1, Operand.tmp 12)], type := 81, pos := "statement.go:62", after := #[{ on := 6, ground := Ground.data }, { on := 8, ground := Ground.data }], guard := none }) rfl (fun K hK => ?_) AllReadyW.nil)
              go_simp
              refine hK.out _ _ ((HS.out.bw (Bw.alloc (Bw.refl _) _)).ri.k.cell 3) ?_
              clear hK K
              try simp only [Act.put, List.setIfInBounds_toArray, List.set_cons_zero, List.set_cons_succ]
              refine wpAnyW_ready (rs := [10]) (by kernel_rfl) (by simp) ?_
              refine (AllReadyW.cons (o := { dst := some 14, op := Op.call { callee := Callee.value (Operand.func 43), args := #[Operand.const (Value.int IntKind.i64 5), Operand.tmp 5, Operand.tmp 13], argTypes := #[3, 3, 81] }, type := 57, pos := "statement.go:62", after := #[{ on := 1, ground := Ground.data }, { on := 9, ground := Ground.data }, { on := 8, ground := Ground.chain }], guard := none }) rfl (fun K hK => ?_) AllReadyW.nil)
              go_simp
              refine (made_any _ _ _ [x1, x2] [bx, by_] _ _ (HS.out.row2 (x := x1) (y := x2) (b := bx) (c := by_) (by simp) (by simp)).1 (HS.out.row2 (x := x1) (y := x2) (b := bx) (c := by_) (by simp) (by simp)).2).mono ?_
              rintro e w3 ⟨b3, he3, hp3, hb3, hn3, hc3⟩
              subst he3
              have HX := hid (XI.of2 (x := x1) (y := x2) (b := bx) (c := by_) HS.out (by simp) (by simp) hb3 hn3 hc3)
              have HS := hid ((HS.out.bw (Bw.alloc (Bw.refl _) _)).put hb3 hp3).drop
              have x5 := HX.out.2.1.cell 5
              have xl := HX.out.2.1.lt
              have zz := HS.out.ri.k.cell
              have zf := HS.out.ri.k.free
              have zl := HS.out.ri.k.lt
              clear hp3 hb3 hn3 hc3
              refine hK.out _ _ (zz 3) ?_
              clear hK K
              try simp only [Act.put, List.setIfInBounds_toArray, List.set_cons_zero, List.set_cons_succ]
              refine wpAnyW_take (i := 11) (oi := { dst := some 3, op := Op.assign (Operand.tmp 14), type := 57, pos := "statement.go:62", after := #[{ on := 10, ground := Ground.data }, { on := 10, ground := Ground.chain }, { on := 0, ground := Ground.phase }, { on := 1, ground := Ground.phase }, { on := 2, ground := Ground.phase }, { on := 3, ground := Ground.phase }, { on := 4, ground := Ground.phase }, { on := 5, ground := Ground.phase }, { on := 6, ground := Ground.phase }, { on := 7, ground := Ground.phase }, { on := 8, ground := Ground.phase }, { on := 9, ground := Ground.phase }, { on := 10, ground := Ground.phase }], guard := none }) (v := ?_) rfl (by kernel_rfl) (by kernel_rfl) (by kernel_rfl) (by kernel_rfl) (fun _ _ _ h => h) (Or.inl ⟨by rfl, fun w _ => ?_⟩) ?_
              rotate_left
              · (go_simp; first | done | with_reducible rfl)
              try simp only [Act.put, List.setIfInBounds_toArray, List.set_cons_zero, List.set_cons_succ]
              refine wpAnyW_done (by kernel_rfl) ?_ _
              go_upto_region 6 with (first
                | (go_at_call 58; refine (is_any _ (HS.out.ri.bw (by repeat (first | exact Bw.refl _ | apply Bw.alloc | apply Bw.drewN | apply Bw.drew)))).mono ?_; rintro e w1 ⟨rfl, hb1⟩; have HX := hid (HX.out.bw (Bw.trans (by repeat (first | exact Bw.refl _ | apply Bw.alloc | apply Bw.drewN | apply Bw.drew)) hb1)); have x5 := HX.out.2.1.cell 5; have xl := HX.out.2.1.lt; have HS := hid (HS.out.bw (Bw.trans (by repeat (first | exact Bw.refl _ | apply Bw.alloc | apply Bw.drewN | apply Bw.drew)) hb1)); have zz := HS.out.ri.k.cell; have zf := HS.out.ri.k.free; have zl := HS.out.ri.k.lt; clear hb1)
                | (go_at_call 81; refine (take_any (HS.out.ri.bw (by repeat (first | exact Bw.refl _ | apply Bw.alloc | apply Bw.drewN | apply Bw.drew))) HN.out).mono ?_; unfold tokV; rintro e w1 ⟨rfl, hr1, hk1⟩; have HX := hid ((HX.out.bw (by repeat (first | exact Bw.refl _ | apply Bw.alloc | apply Bw.drewN | apply Bw.drew))).kp hk1 HR0.out); have x5 := HX.out.2.1.cell 5; have xl := HX.out.2.1.lt; have HS := hid ((HS.out.bw (by repeat (first | exact Bw.refl _ | apply Bw.alloc | apply Bw.drewN | apply Bw.drew))).go hr1 hk1); have zz := HS.out.ri.k.cell; have zf := HS.out.ri.k.free; have zl := HS.out.ri.k.lt; clear hr1 hk1)
                | fail)
              refine wp_region_W (fun w' => w'.cell? ⟨b3, 5, none⟩ = some (.slice (some ⟨wy.heap.size, 0, none⟩) 2 2)) (fun j => if j == 6 || j == 7 then 0 else if j == 8 || j == 11 then 2 else 1) (by kernel_rfl) ?_
              refine wpAnyW_take (i := 0) (oi := { dst := some 23, op := Op.move (Operand.tmp 3), type := 57, pos := "statement.go:68", after := #[], guard := none }) (v := ?_) rfl (by kernel_rfl) (by kernel_rfl) (by kernel_rfl) (by kernel_rfl) (fun _ _ _ h => h) (Or.inl ⟨by rfl, fun w _ => ?_⟩) ?_
              rotate_left
              · (go_simp; first | done | with_reducible rfl)
              try simp only [Act.put, List.setIfInBounds_toArray, List.set_cons_zero, List.set_cons_succ]
              refine wpAnyW_take (i := 1) (oi := { dst := some 24, op := Op.move (Operand.tmp 3), type := 57, pos := "statement.go:68", after := #[], guard := none }) (v := ?_) rfl (by kernel_rfl) (by kernel_rfl) (by kernel_rfl) (by kernel_rfl) (fun _ _ _ h => h) (Or.inl ⟨by rfl, fun w _ => ?_⟩) ?_
              rotate_left
              · (go_simp; first | done | with_reducible rfl)
              try simp only [Act.put, List.setIfInBounds_toArray, List.set_cons_zero, List.set_cons_succ]
              refine wpAnyW_take (i := 2) (oi := { dst := some 25, op := Op.nilCheck (Operand.tmp 24), type := 0, pos := "statement.go:68", after := #[{ on := 1, ground := Ground.data }], guard := none }) (v := ?_) rfl (by kernel_rfl) (by kernel_rfl) (by kernel_rfl) (by kernel_rfl) (fun _ _ _ h => h) (Or.inl ⟨by rfl, fun w _ => ?_⟩) ?_
              rotate_left
              · (go_simp; first | done | with_reducible rfl)
              try simp only [Act.put, List.setIfInBounds_toArray, List.set_cons_zero, List.set_cons_succ]
              refine wpAnyW_take (i := 3) (oi := { dst := some 26, op := Op.fieldAddr 83 (Operand.tmp 25) 1, type := 0, pos := "statement.go:68", after := #[{ on := 2, ground := Ground.data }], guard := none }) (v := ?_) rfl (by kernel_rfl) (by kernel_rfl) (by kernel_rfl) (by kernel_rfl) (fun _ _ _ h => h) (Or.inl ⟨by rfl, fun w _ => ?_⟩) ?_
              rotate_left
              · (go_simp; first | done | with_reducible rfl)
              try simp only [Act.put, List.setIfInBounds_toArray, List.set_cons_zero, List.set_cons_succ]
              refine wpAnyW_load (i := 4) (oi := { dst := some 27, op := Op.load 81 (Operand.tmp 26), type := 81, pos := "statement.go:68", after := #[{ on := 3, ground := Ground.data }], guard := none }) (v := ?_) rfl (by kernel_rfl) (by kernel_rfl) (by kernel_rfl) (by kernel_rfl) (by kernel_rfl) (fun _ _ _ h => h) (Or.inl ⟨by rfl, fun w hS => ?_⟩) (by first | exact x5 | (simp [go_sem]; done) | (simp [go_sem, *]; done)) ?_
              rotate_left
              · (skip; go_simp; first | done | with_reducible rfl)
              try simp only [Act.put, List.setIfInBounds_toArray, List.set_cons_zero, List.set_cons_succ]
              refine wpAnyW_take (i := 5) (oi := { dst := some 28, op := Op.move (Operand.tmp 0), type := 58, pos := "statement.go:68", after := #[], guard := none }) (v := ?_) rfl (by kernel_rfl) (by kernel_rfl) (by kernel_rfl) (by kernel_rfl) (fun _ _ _ h => h) (Or.inl ⟨by rfl, fun w _ => ?_⟩) ?_
              rotate_left
              · (go_simp; first | done | with_reducible rfl)
              try simp only [Act.put, List.setIfInBounds_toArray, List.set_cons_zero, List.set_cons_succ]
              refine wpAnyW_ready (rs := [6]) (by kernel_rfl) (by simp) ?_
              refine (AllReadyW.cons (o := { dst := some 29, op := Op.call { callee := Callee.value (Operand.func 61), args := #[Operand.tmp 28], argTypes := #[58] }, type := 57, pos := "statement.go:68", after := #[{ on := 5, ground := Ground.data }], guard := none }) rfl (fun K hK => ?_) AllReadyW.nil)
              go_simp
              refine (HCH.out _ _ _ (HS.out.ri.bw (by repeat (first | exact Bw.refl _ | apply Bw.alloc | apply Bw.drewN | apply Bw.drew))) ho HNE3.out).mono ?_
              intro e w2 h2
              rw [HQ3.out] at h2
              obtain ⟨b2, he2, hp2, hr2, hk2⟩ := h2
              subst he2
              obtain ⟨bs, ho2, hbk, hpush⟩ := (HX.out.bw (by repeat (first | exact Bw.refl _ | apply Bw.alloc | apply Bw.drewN | apply Bw.drew))).app (HS.out.kp.bw (by repeat (first | exact Bw.refl _ | apply Bw.alloc | apply Bw.drewN | apply Bw.drew))).size hk2 HR0.out hp2
              have HO2 := hid ho2
              have HPU := hid hpush
              have HBK := hid hbk
              have HX2 := hid ((HX.out.bw (by repeat (first | exact Bw.refl _ | apply Bw.alloc | apply Bw.drewN | apply Bw.drew))).kp hk2 HR0.out)
              have HS := hid ((HS.out.bw (by repeat (first | exact Bw.refl _ | apply Bw.alloc | apply Bw.drewN | apply Bw.drew))).go hr2 hk2)
              clear hp2 hr2 hk2 ho2 hpush hbk
              refine hK.out _ _ (HX2.out.2.1.cell 5) ?_
              clear hK K
              try simp only [Act.put, List.setIfInBounds_toArray, List.set_cons_zero, List.set_cons_succ]
              refine wpAnyW_ready (rs := [7]) (by kernel_rfl) (by simp) ?_
              refine (AllReadyW.cons (o := { dst := some 30, op := Op.buildSlice 81 1 #[(0, Operand.tmp 29)], type := 81, pos := "statement.go:68", after := #[{ on := 6, ground := Ground.data }], guard := none }) rfl (fun K hK => ?_) AllReadyW.nil)
              go_simp
              refine hK.out _ _ ((HX2.out.bw (Bw.alloc (Bw.refl _) _)).2.1.cell 5) ?_
              clear hK K
              try simp only [Act.put, List.setIfInBounds_toArray, List.set_cons_zero, List.set_cons_succ]
              refine wpAnyW_ready (rs := [8]) (by kernel_rfl) (by simp) ?_
              refine (AllReadyW.cons (o := { dst := some 31, op := Op.call { callee := Callee.builtin Builtin.append, args := #[Operand.tmp 27, Operand.tmp 30], argTypes := #[81, 81] }, type := 81, pos := "statement.go:68", after := #[{ on := 4, ground := Ground.data }, { on := 7, ground := Ground.data }, { on := 6, ground := Ground.chain }], guard := none }) rfl (fun K hK => ?_) AllReadyW.nil)
              refine step_append_row (by rfl) (.tmp 27) (.tmp 30) 81 (by rfl) 57 i1 _ 1 8 underPps I1.out.1 I1.out.2.1 I1.out.2.2.1 I1.out.2.2.2 (by rfl) (by decide) (.slice (some ⟨wy.heap.size, 0, none⟩) 2 2) 2 _ (by rfl) HO2.out ⟨w2.heap.size, 0, none⟩ 1 1 [.pointer (some ⟨b2, 0, none⟩)] (by rfl) (by rfl) (one_new w2 _ _) (by intro u hu; rw [List.mem_singleton] at hu; subst hu; rfl) (by unfold maxLen; omega) (by omega) ?_
              intro v4 w4 ho4 hg4 hv4
              obtain ⟨a4, c4, e4⟩ := own_form ho4
              subst e4
              obtain ⟨e1, hx4⟩ := HPU.out _ _ ho4 hg4 hv4
              have HX := hid hx4
              have y5 := e1.cell
              have yf := e1.free
              have yl := e1.lt
              have HS := hid ((HS.out.bw (Bw.alloc (Bw.refl w2) _)).grown HBB.out hg4 (fun k e => (HBK.out k e).1))
              have z3 := HS.out.ri.k.cell 3
              have HS := hid (HS.out.setNew (j := 5) HBB.out HX2.out.1 (.slice a4 (2 + 1) c4))
              clear ho4 hg4 hv4 e1 hx4
              refine hK.out _ _ trivial ?_
              clear hK K
              try simp only [Act.put, List.setIfInBounds_toArray, List.set_cons_zero, List.set_cons_succ]
              refine wpAnyW_take (i := 9) (oi := { dst := some 32, op := Op.nilCheck (Operand.tmp 23), type := 0, pos := "statement.go:68", after := #[{ on := 0, ground := Ground.data }, { on := 0, ground := Ground.phase }, { on := 1, ground := Ground.phase }, { on := 2, ground := Ground.phase }, { on := 3, ground := Ground.phase }, { on := 4, ground := Ground.phase }, { on := 5, ground := Ground.phase }, { on := 6, ground := Ground.phase }, { on := 7, ground := Ground.phase }, { on := 8, ground := Ground.phase }], guard := none }) (v := ?_) rfl (by kernel_rfl) (by kernel_rfl) (by kernel_rfl) (by kernel_rfl) (fun _ _ _ h => h) (Or.inl ⟨by rfl, fun w _ => ?_⟩) ?_
              rotate_left
              · (go_simp; first | done | with_reducible rfl)
              try simp only [Act.put, List.setIfInBounds_toArray, List.set_cons_zero, List.set_cons_succ]
              refine wpAnyW_take (i := 10) (oi := { dst := some 33, op := Op.fieldAddr 83 (Operand.tmp 32) 1, type := 0, pos := "statement.go:68", after := #[{ on := 9, ground := Ground.data }, { on := 0, ground := Ground.phase }, { on := 1, ground := Ground.phase }, { on := 2, ground := Ground.phase }, { on := 3, ground := Ground.phase }, { on := 4, ground := Ground.phase }, { on := 5, ground := Ground.phase }, { on := 6, ground := Ground.phase }, { on := 7, ground := Ground.phase }, { on := 8, ground := Ground.phase }], guard := none }) (v := ?_) rfl (by kernel_rfl) (by kernel_rfl) (by kernel_rfl) (by kernel_rfl) (fun _ _ _ h => h) (Or.inl ⟨by rfl, fun w _ => ?_⟩) ?_
              rotate_left
              · (go_simp; first | done | with_reducible rfl)
              try simp only [Act.put, List.setIfInBounds_toArray, List.set_cons_zero, List.set_cons_succ]
              refine wpAnyW_ready (rs := [11]) (by kernel_rfl) (by simp) ?_
              refine (AllReadyW.cons (o := { dst := none, op := Op.store 81 (Operand.tmp 33) (Operand.tmp 31), type := 0, pos := "statement.go:68", after := #[{ on := 10, ground := Ground.data }, { on := 8, ground := Ground.data }, { on := 8, ground := Ground.chain }, { on := 0, ground := Ground.phase }, { on := 1, ground := Ground.phase }, { on := 2, ground := Ground.phase }, { on := 3, ground := Ground.phase }, { on := 4, ground := Ground.phase }, { on := 5, ground := Ground.phase }, { on := 6, ground := Ground.phase }, { on := 7, ground := Ground.phase }, { on := 8, ground := Ground.phase }], guard := none }) rfl (fun K hK => ?_) AllReadyW.nil)
              go_simp
              refine hK.out _ _ trivial ?_
              clear hK K
              try simp only [Act.put, List.setIfInBounds_toArray, List.set_cons_zero, List.set_cons_succ]
              refine wpAnyW_done (by kernel_rfl) ?_ _
              go_wp2
              all_goals go_ret
              all_goals exact ⟨_, rfl, HX.out.part, HS.out.ri, HS.out.kp⟩

end

end Go.Proofs.YtlcieebneclmpaaDoor

