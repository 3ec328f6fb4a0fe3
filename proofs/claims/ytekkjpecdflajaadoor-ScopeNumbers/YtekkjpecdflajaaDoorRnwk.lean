/- newResolver. -/
import Derived.Test.YtekkjpecdflajaaDoorM17
set_option linter.unusedSimpArgs false
set_option linter.unusedVariables false
namespace Go.Proofs.YtekkjpecdflajaaDoor
open Go Go.RowKit
open List (setIfInBounds_toArray set_cons_zero set_cons_succ)

@[go_sem] def of0 : Oper := { dst := some 3, op := Op.move (Operand.tmp 0), type := 32, pos := "resolver.go:48", after := #[], guard := none }
@[go_sem] def of1 : Oper := { dst := some 4, op := Op.build 93 #[], type := 93, pos := "resolver.go:48", after := #[], guard := none }
@[go_sem] def of2 : Oper := { dst := some 6, op := Op.move (Operand.tmp 0), type := 32, pos := "resolver.go:48", after := #[], guard := none }
@[go_sem] def of3 : Oper := { dst := some 7, op := Op.call { callee := Callee.builtin Builtin.len, args := #[Operand.tmp 6], argTypes := #[32] }, type := 3, pos := "resolver.go:48", after := #[{ on := 3, ground := Ground.data }], guard := none }
@[go_sem] def of4 : Oper := { dst := some 9, op := Op.move (Operand.tmp 0), type := 32, pos := "resolver.go:48", after := #[], guard := none }
@[go_sem] def of5 : Oper := { dst := some 5, op := Op.buildSlice 68 1 #[(0, Operand.tmp 4)], type := 68, pos := "resolver.go:48", after := #[{ on := 1, ground := Ground.data }], guard := none }
@[go_sem] def of6 : Oper := { dst := some 8, op := Op.makeSlice 37 (Operand.tmp 7) (Operand.tmp 7), type := 37, pos := "resolver.go:48", after := #[{ on := 4, ground := Ground.data }, { on := 4, ground := Ground.data }], guard := none }
@[go_sem] def of7 : Oper := { dst := some 10, op := Op.call { callee := Callee.value (Operand.func 43), args := #[Operand.tmp 9], argTypes := #[32] }, type := 65, pos := "resolver.go:53", after := #[{ on := 6, ground := Ground.data }], guard := none }
@[go_sem] def of8 : Oper := { dst := some 11, op := Op.makeMap 65 none, type := 65, pos := "resolver.go:48", after := #[], guard := none }
@[go_sem] def of9 : Oper := { dst := some 12, op := Op.build 71 #[(1, Operand.tmp 3), (2, Operand.const (Value.int IntKind.i64 1)), (3, Operand.tmp 5), (4, Operand.tmp 8), (6, Operand.tmp 10), (8, Operand.tmp 11)], type := 71, pos := "resolver.go:48", after := #[{ on := 0, ground := Ground.data }, { on := 2, ground := Ground.data }, { on := 5, ground := Ground.data }, { on := 7, ground := Ground.data }, { on := 8, ground := Ground.data }], guard := none }
@[go_sem] def of10 : Oper := { dst := some 13, op := Op.box 71 (Operand.tmp 12), type := 63, pos := "resolver.go:48", after := #[{ on := 9, ground := Ground.data }], guard := none }
@[go_sem] def of11 : Oper := { dst := some 2, op := Op.assign (Operand.tmp 13), type := 63, pos := "resolver.go:48", after := #[{ on := 10, ground := Ground.data }, { on := 7, ground := Ground.chain }, { on := 0, ground := Ground.phase }, { on := 1, ground := Ground.phase }, { on := 2, ground := Ground.phase }, { on := 3, ground := Ground.phase }, { on := 4, ground := Ground.phase }, { on := 5, ground := Ground.phase }, { on := 6, ground := Ground.phase }, { on := 7, ground := Ground.phase }, { on := 8, ground := Ground.phase }, { on := 9, ground := Ground.phase }, { on := 10, ground := Ground.phase }], guard := none }

set_option maxRecDepth 100000 in
set_option maxHeartbeats 16000000 in
theorem newResolver_any {w : World} (g o cap : Nat) (L : List ANode) (h0 : 0 < L.length) (hl : L.length ≤ 500) (n : Nat) (hn : L[0].2.1 = (n : Int)) (hn5 : n ≤ 500) (h : NC w g o L) (hp : PrM w) {A : ByteArray → Option Int} (hg : globA L n 1 (fun _ => none) 0 = some A) :
    Calls Tryd.prog 17 #[.slice (some ⟨g, o, none⟩) L.length cap] w fun e w' => ∃ (r ab : Nat) (B : ZB), e = .returned (.pointer (some ⟨r, 0, none⟩)) ∧ RS w' ⟨r, g, o, cap, ab, n, L, A⟩ (zstart L) B ∧ Bw w w' ∧ ∀ b, b < w.heap.size → B.ρ b = 0 := by
  have HGL := hid (fun (W : World) (hb : Bw w W) => globals_any g o cap L h0 hl n hn hn5 (h.bw hb) hg)
  have HLP := hid h0
  have HLL := hid hl
  have HNC := hid h
  have HPR := hid hp
  have hmu := made_u L.length hl
  have hmm := @run_makeMap Tryd.prog
  clear h0 hl hn hn5 h hp hg
  go_enter Tryd.func17, Tryd.ntmps17
  go_upto_region 1 with fail
  refine wp_region_W (fun _ => True) (fun j => if j == 2 || j == 5 || j == 7 || j == 8 || j == 10 then 2 else 1) (by kernel_rfl) ?_
  refine wpAnyW_take (i := 0) (oi := of0) (v := ?_) rfl (by kernel_rfl) (by kernel_rfl) (by kernel_rfl) (by kernel_rfl) (fun _ _ _ h => h) (Or.inl ⟨by rfl, fun w _ => ?_⟩) ?_
  rotate_left
  · (go_simp; first | done | with_reducible rfl)
  try simp only [of0, Act.put, setIfInBounds_toArray, set_cons_zero, set_cons_succ]
  refine wpAnyW_take (i := 1) (oi := of1) (v := ?_) rfl (by kernel_rfl) (by kernel_rfl) (by kernel_rfl) (by kernel_rfl) (fun _ _ _ h => h) (Or.inl ⟨by rfl, fun w _ => ?_⟩) ?_
  rotate_left
  · (go_simp; first | done | with_reducible rfl)
  try simp only [of1, Act.put, setIfInBounds_toArray, set_cons_zero, set_cons_succ]
  refine wpAnyW_take (i := 3) (oi := of2) (v := ?_) rfl (by kernel_rfl) (by kernel_rfl) (by kernel_rfl) (by kernel_rfl) (fun _ _ _ h => h) (Or.inl ⟨by rfl, fun w _ => ?_⟩) ?_
  rotate_left
  · (go_simp; first | done | with_reducible rfl)
  try simp only [of2, Act.put, setIfInBounds_toArray, set_cons_zero, set_cons_succ]
  refine wpAnyW_take (i := 4) (oi := of3) (v := ?_) rfl (by kernel_rfl) (by kernel_rfl) (by kernel_rfl) (by kernel_rfl) (fun _ _ _ h => h) (Or.inl ⟨by rfl, fun w _ => ?_⟩) ?_
  rotate_left
  · (go_simp; first | done | with_reducible rfl)
  try simp only [of3, Act.put, setIfInBounds_toArray, set_cons_zero, set_cons_succ]
  refine wpAnyW_take (i := 6) (oi := of4) (v := ?_) rfl (by kernel_rfl) (by kernel_rfl) (by kernel_rfl) (by kernel_rfl) (fun _ _ _ h => h) (Or.inl ⟨by rfl, fun w _ => ?_⟩) ?_
  rotate_left
  · (go_simp; first | done | with_reducible rfl)
  try simp only [of4, Act.put, setIfInBounds_toArray, set_cons_zero, set_cons_succ]
  have HB0 := hid (Bw.drew (Bw.refl w))
  generalize World.drew w = x0 at HB0 ⊢
  refine wpAnyW_ready (rs := [2, 5, 7, 8]) (by kernel_rfl) (by simp) ?_
  refine (AllReadyW.cons (o := of5) rfl (fun K hK => ?_) ?_)
  · go_simp
    have F2 := hid (Blk.new x0 _ _ : Blk (x0.alloc (.cells #[.int .i64 0, .int .i64 0, .int .i64 0, .slice none 0 0, .int .i64 0, .map none] 93)) x0.heap.size _ 93)
    have G0 := hid (Bw.alloc (Bw.refl x0) (.cells #[.int .i64 0, .int .i64 0, .int .i64 0, .slice none 0 0, .int .i64 0, .map none] 93))
    refine hK.out _ _ trivial ?_
    clear hK K
    try simp only [of5, Act.put, setIfInBounds_toArray, set_cons_zero, set_cons_succ]
    generalize World.alloc x0 (.cells #[.int .i64 0, .int .i64 0, .int .i64 0, .slice none 0 0, .int .i64 0, .map none] 93) = x1 at F2 G0 ⊢
    generalize hb2 : Array.size (World.heap x0) = b2 at F2 ⊢
    have E2 := hid (show x0.heap.size ≤ b2 by omega)
    have L2 := hid F2.out.lt
    clear hb2
    have HB1 := hid (HB0.out.trans G0.out)
    refine wpAnyW_ready (rs := [5, 7, 8]) (by kernel_rfl) (by simp) ?_
    refine (AllReadyW.cons (o := of6) rfl (fun K hK => ?_) ?_)
    · go_simp
      have F5 := hid (Blk.new x1 _ _ : Blk (x1.alloc (.cells (rowP (List.replicate L.length (0, 0))).toArray 97)) x1.heap.size _ 97)
      have G1 := hid (Bw.alloc (Bw.refl x1) (.cells (rowP (List.replicate L.length (0, 0))).toArray 97))
      refine hK.out _ _ trivial ?_
      clear hK K
      try simp only [of6, Act.put, setIfInBounds_toArray, set_cons_zero, set_cons_succ]
      generalize World.alloc x1 (.cells (rowP (List.replicate L.length (0, 0))).toArray 97) = x2 at F5 G1 ⊢
      generalize hb5 : Array.size (World.heap x1) = b5 at F5 ⊢
      have E5 := hid (show x1.heap.size ≤ b5 by omega)
      have L5 := hid F5.out.lt
      clear hb5
      have HB2 := hid (HB1.out.trans G1.out)
      refine wpAnyW_ready (rs := [7, 8]) (by kernel_rfl) (by simp) ?_
      refine (AllReadyW.cons (o := of7) rfl (fun K hK => ?_) ?_)
      · go_simp
        refine (HGL.out x2 HB2.out).mono ?_
        rintro e' x3 ⟨b7, he', hs7, hm7, hb7⟩
        subst he'
        have F7 := hid hm7
        have G2 := hid hb7
        have E7 := hid hs7
        have L7 := hid hm7.lt
        clear hm7 hb7 hs7
        refine hK.out _ _ trivial ?_
        clear hK K
        try simp only [of7, Act.put, setIfInBounds_toArray, set_cons_zero, set_cons_succ]
        have HB3 := hid (HB2.out.trans G2.out)
        refine wpAnyW_ready (rs := [8]) (by kernel_rfl) (by simp) ?_
        refine (AllReadyW.cons (o := of8) rfl (fun K hK => ?_) AllReadyW.nil)
        go_simp
        have F8 := hid (MS.new x3)
        have G3 := hid (Bw.alloc (Bw.refl x3) (.map #[] 0))
        refine hK.out _ _ trivial ?_
        clear hK K
        try simp only [of8, Act.put, setIfInBounds_toArray, set_cons_zero, set_cons_succ]
        generalize World.alloc x3 (.map #[] 0) = x4 at F8 G3 ⊢
        generalize hb8 : Array.size (World.heap x3) = b8 at F8 ⊢
        have E8 := hid (show x3.heap.size ≤ b8 by omega)
        have L8 := hid F8.out.lt
        clear hb8
        have HB4 := hid (HB3.out.trans G3.out)
        refine wpAnyW_take (i := 9) (oi := of9) (v := ?_) rfl (by kernel_rfl) (by kernel_rfl) (by kernel_rfl) (by kernel_rfl) (fun _ _ _ h => h) (Or.inl ⟨by rfl, fun w _ => ?_⟩) ?_
        rotate_left
        · (go_simp; first | done | with_reducible rfl)
        try simp only [of9, Act.put, setIfInBounds_toArray, set_cons_zero, set_cons_succ]
        have s0 := G0.out.size
        have s1 := G1.out.size
        have s2 := G2.out.size
        have s3 := G3.out.size
        have hx0 := HB0.out.size
        have e2 := E2.out
        have e5 := E5.out
        have e7 := E7.out
        have e8 := E8.out
        have l2 := L2.out
        have l5 := L5.out
        have l7 := L7.out
        have l8 := L8.out
        have NEW := hid (newR (cap := cap) (n := n) HLP.out HLL.out HB4.out HNC.out HPR.out (F2.out.bw (G1.out.trans (G2.out.trans G3.out))) (F5.out.bw (G2.out.trans G3.out)) (F7.out.keep (G3.out.block _ L7.out)) (F8.out.keep ((Bw.refl _).block _ L8.out)) (by omega) (by omega) (by omega) (by omega) ⟨by omega, by omega, by omega, by omega, by omega, by omega⟩)
        clear s0 s1 s2 s3 hx0 e2 e5 e7 e8 l2 l5 l7 l8
        refine wpAnyW_ready (rs := [10]) (by kernel_rfl) (by simp) ?_
        refine (AllReadyW.cons (o := of10) rfl (fun K hK => ?_) AllReadyW.nil)
        go_simp
        refine hK.out _ _ trivial ?_
        clear hK K
        try simp only [of10, Act.put, setIfInBounds_toArray, set_cons_zero, set_cons_succ]
        refine wpAnyW_take (i := 11) (oi := of11) (v := ?_) rfl (by kernel_rfl) (by kernel_rfl) (by kernel_rfl) (by kernel_rfl) (fun _ _ _ h => h) (Or.inl ⟨by rfl, fun w _ => ?_⟩) ?_
        rotate_left
        · (go_simp; first | done | with_reducible rfl)
        try simp only [of11, Act.put, setIfInBounds_toArray, set_cons_zero, set_cons_succ]
        refine wpAnyW_done (by kernel_rfl) ?_ _
        go_wp2
        all_goals go_ret
        all_goals obtain ⟨BN, hBN, hB0⟩ := NEW.out
        all_goals exact ⟨x4.heap.size, b7, BN, rfl, hBN, HB4.out.alloc _, hB0⟩
      refine (AllReadyW.cons (o := of8) rfl (fun K hK => ?_) AllReadyW.nil)
      go_simp
      have F8 := hid (MS.new x2)
      have G2 := hid (Bw.alloc (Bw.refl x2) (.map #[] 0))
      refine hK.out _ _ trivial ?_
      clear hK K
      try simp only [of8, Act.put, setIfInBounds_toArray, set_cons_zero, set_cons_succ]
      generalize World.alloc x2 (.map #[] 0) = x3 at F8 G2 ⊢
      generalize hb8 : Array.size (World.heap x2) = b8 at F8 ⊢
      have E8 := hid (show x2.heap.size ≤ b8 by omega)
      have L8 := hid F8.out.lt
      clear hb8
      have HB3 := hid (HB2.out.trans G2.out)
      refine wpAnyW_ready (rs := [7]) (by kernel_rfl) (by simp) ?_
      refine (AllReadyW.cons (o := of7) rfl (fun K hK => ?_) AllReadyW.nil)
      go_simp
      refine (HGL.out x3 HB3.out).mono ?_
      rintro e' x4 ⟨b7, he', hs7, hm7, hb7⟩
      subst he'
      have F7 := hid hm7
      have G3 := hid hb7
      have E7 := hid hs7
      have L7 := hid hm7.lt
      clear hm7 hb7 hs7
      refine hK.out _ _ trivial ?_
      clear hK K
      try simp only [of7, Act.put, setIfInBounds_toArray, set_cons_zero, set_cons_succ]
      have HB4 := hid (HB3.out.trans G3.out)
      refine wpAnyW_take (i := 9) (oi := of9) (v := ?_) rfl (by kernel_rfl) (by kernel_rfl) (by kernel_rfl) (by kernel_rfl) (fun _ _ _ h => h) (Or.inl ⟨by rfl, fun w _ => ?_⟩) ?_
      rotate_left
      · (go_simp; first | done | with_reducible rfl)
      try simp only [of9, Act.put, setIfInBounds_toArray, set_cons_zero, set_cons_succ]
      have s0 := G0.out.size
      have s1 := G1.out.size
      have s2 := G2.out.size
      have s3 := G3.out.size
      have hx0 := HB0.out.size
      have e2 := E2.out
      have e5 := E5.out
      have e7 := E7.out
      have e8 := E8.out
      have l2 := L2.out
      have l5 := L5.out
      have l7 := L7.out
      have l8 := L8.out
      have NEW := hid (newR (cap := cap) (n := n) HLP.out HLL.out HB4.out HNC.out HPR.out (F2.out.bw (G1.out.trans (G2.out.trans G3.out))) (F5.out.bw (G2.out.trans G3.out)) (F7.out.keep ((Bw.refl _).block _ L7.out)) (F8.out.keep (G3.out.block _ L8.out)) (by omega) (by omega) (by omega) (by omega) ⟨by omega, by omega, by omega, by omega, by omega, by omega⟩)
      clear s0 s1 s2 s3 hx0 e2 e5 e7 e8 l2 l5 l7 l8
      refine wpAnyW_ready (rs := [10]) (by kernel_rfl) (by simp) ?_
      refine (AllReadyW.cons (o := of10) rfl (fun K hK => ?_) AllReadyW.nil)
      go_simp
      refine hK.out _ _ trivial ?_
      clear hK K
      try simp only [of10, Act.put, setIfInBounds_toArray, set_cons_zero, set_cons_succ]
      refine wpAnyW_take (i := 11) (oi := of11) (v := ?_) rfl (by kernel_rfl) (by kernel_rfl) (by kernel_rfl) (by kernel_rfl) (fun _ _ _ h => h) (Or.inl ⟨by rfl, fun w _ => ?_⟩) ?_
      rotate_left
      · (go_simp; first | done | with_reducible rfl)
      try simp only [of11, Act.put, setIfInBounds_toArray, set_cons_zero, set_cons_succ]
      refine wpAnyW_done (by kernel_rfl) ?_ _
      go_wp2
      all_goals go_ret
      all_goals obtain ⟨BN, hBN, hB0⟩ := NEW.out
      all_goals exact ⟨x4.heap.size, b7, BN, rfl, hBN, HB4.out.alloc _, hB0⟩
    refine (AllReadyW.cons (o := of7) rfl (fun K hK => ?_) ?_)
    · go_simp
      refine (HGL.out x1 HB1.out).mono ?_
      rintro e' x2 ⟨b7, he', hs7, hm7, hb7⟩
      subst he'
      have F7 := hid hm7
      have G1 := hid hb7
      have E7 := hid hs7
      have L7 := hid hm7.lt
      clear hm7 hb7 hs7
      refine hK.out _ _ trivial ?_
      clear hK K
      try simp only [of7, Act.put, setIfInBounds_toArray, set_cons_zero, set_cons_succ]
      have HB2 := hid (HB1.out.trans G1.out)
      refine wpAnyW_ready (rs := [5, 8]) (by kernel_rfl) (by simp) ?_
      refine (AllReadyW.cons (o := of6) rfl (fun K hK => ?_) ?_)
      · go_simp
        have F5 := hid (Blk.new x2 _ _ : Blk (x2.alloc (.cells (rowP (List.replicate L.length (0, 0))).toArray 97)) x2.heap.size _ 97)
        have G2 := hid (Bw.alloc (Bw.refl x2) (.cells (rowP (List.replicate L.length (0, 0))).toArray 97))
        refine hK.out _ _ trivial ?_
        clear hK K
        try simp only [of6, Act.put, setIfInBounds_toArray, set_cons_zero, set_cons_succ]
        generalize World.alloc x2 (.cells (rowP (List.replicate L.length (0, 0))).toArray 97) = x3 at F5 G2 ⊢
        generalize hb5 : Array.size (World.heap x2) = b5 at F5 ⊢
        have E5 := hid (show x2.heap.size ≤ b5 by omega)
        have L5 := hid F5.out.lt
        clear hb5
        have HB3 := hid (HB2.out.trans G2.out)
        refine wpAnyW_ready (rs := [8]) (by kernel_rfl) (by simp) ?_
        refine (AllReadyW.cons (o := of8) rfl (fun K hK => ?_) AllReadyW.nil)
        go_simp
        have F8 := hid (MS.new x3)
        have G3 := hid (Bw.alloc (Bw.refl x3) (.map #[] 0))
        refine hK.out _ _ trivial ?_
        clear hK K
        try simp only [of8, Act.put, setIfInBounds_toArray, set_cons_zero, set_cons_succ]
        generalize World.alloc x3 (.map #[] 0) = x4 at F8 G3 ⊢
        generalize hb8 : Array.size (World.heap x3) = b8 at F8 ⊢
        have E8 := hid (show x3.heap.size ≤ b8 by omega)
        have L8 := hid F8.out.lt
        clear hb8
        have HB4 := hid (HB3.out.trans G3.out)
        refine wpAnyW_take (i := 9) (oi := of9) (v := ?_) rfl (by kernel_rfl) (by kernel_rfl) (by kernel_rfl) (by kernel_rfl) (fun _ _ _ h => h) (Or.inl ⟨by rfl, fun w _ => ?_⟩) ?_
        rotate_left
        · (go_simp; first | done | with_reducible rfl)
        try simp only [of9, Act.put, setIfInBounds_toArray, set_cons_zero, set_cons_succ]
        have s0 := G0.out.size
        have s1 := G1.out.size
        have s2 := G2.out.size
        have s3 := G3.out.size
        have hx0 := HB0.out.size
        have e2 := E2.out
        have e5 := E5.out
        have e7 := E7.out
        have e8 := E8.out
        have l2 := L2.out
        have l5 := L5.out
        have l7 := L7.out
        have l8 := L8.out
        have NEW := hid (newR (cap := cap) (n := n) HLP.out HLL.out HB4.out HNC.out HPR.out (F2.out.bw (G1.out.trans (G2.out.trans G3.out))) (F5.out.bw G3.out) (F7.out.keep ((G2.out.trans G3.out).block _ L7.out)) (F8.out.keep ((Bw.refl _).block _ L8.out)) (by omega) (by omega) (by omega) (by omega) ⟨by omega, by omega, by omega, by omega, by omega, by omega⟩)
        clear s0 s1 s2 s3 hx0 e2 e5 e7 e8 l2 l5 l7 l8
        refine wpAnyW_ready (rs := [10]) (by kernel_rfl) (by simp) ?_
        refine (AllReadyW.cons (o := of10) rfl (fun K hK => ?_) AllReadyW.nil)
        go_simp
        refine hK.out _ _ trivial ?_
        clear hK K
        try simp only [of10, Act.put, setIfInBounds_toArray, set_cons_zero, set_cons_succ]
        refine wpAnyW_take (i := 11) (oi := of11) (v := ?_) rfl (by kernel_rfl) (by kernel_rfl) (by kernel_rfl) (by kernel_rfl) (fun _ _ _ h => h) (Or.inl ⟨by rfl, fun w _ => ?_⟩) ?_
        rotate_left
        · (go_simp; first | done | with_reducible rfl)
        try simp only [of11, Act.put, setIfInBounds_toArray, set_cons_zero, set_cons_succ]
        refine wpAnyW_done (by kernel_rfl) ?_ _
        go_wp2
        all_goals go_ret
        all_goals obtain ⟨BN, hBN, hB0⟩ := NEW.out
        all_goals exact ⟨x4.heap.size, b7, BN, rfl, hBN, HB4.out.alloc _, hB0⟩
      refine (AllReadyW.cons (o := of8) rfl (fun K hK => ?_) AllReadyW.nil)
      go_simp
      have F8 := hid (MS.new x2)
      have G2 := hid (Bw.alloc (Bw.refl x2) (.map #[] 0))
      refine hK.out _ _ trivial ?_
      clear hK K
      try simp only [of8, Act.put, setIfInBounds_toArray, set_cons_zero, set_cons_succ]
      generalize World.alloc x2 (.map #[] 0) = x3 at F8 G2 ⊢
      generalize hb8 : Array.size (World.heap x2) = b8 at F8 ⊢
      have E8 := hid (show x2.heap.size ≤ b8 by omega)
      have L8 := hid F8.out.lt
      clear hb8
      have HB3 := hid (HB2.out.trans G2.out)
      refine wpAnyW_ready (rs := [5]) (by kernel_rfl) (by simp) ?_
      refine (AllReadyW.cons (o := of6) rfl (fun K hK => ?_) AllReadyW.nil)
      go_simp
      have F5 := hid (Blk.new x3 _ _ : Blk (x3.alloc (.cells (rowP (List.replicate L.length (0, 0))).toArray 97)) x3.heap.size _ 97)
      have G3 := hid (Bw.alloc (Bw.refl x3) (.cells (rowP (List.replicate L.length (0, 0))).toArray 97))
      refine hK.out _ _ trivial ?_
      clear hK K
      try simp only [of6, Act.put, setIfInBounds_toArray, set_cons_zero, set_cons_succ]
      generalize World.alloc x3 (.cells (rowP (List.replicate L.length (0, 0))).toArray 97) = x4 at F5 G3 ⊢
      generalize hb5 : Array.size (World.heap x3) = b5 at F5 ⊢
      have E5 := hid (show x3.heap.size ≤ b5 by omega)
      have L5 := hid F5.out.lt
      clear hb5
      have HB4 := hid (HB3.out.trans G3.out)
      refine wpAnyW_take (i := 9) (oi := of9) (v := ?_) rfl (by kernel_rfl) (by kernel_rfl) (by kernel_rfl) (by kernel_rfl) (fun _ _ _ h => h) (Or.inl ⟨by rfl, fun w _ => ?_⟩) ?_
      rotate_left
      · (go_simp; first | done | with_reducible rfl)
      try simp only [of9, Act.put, setIfInBounds_toArray, set_cons_zero, set_cons_succ]
      have s0 := G0.out.size
      have s1 := G1.out.size
      have s2 := G2.out.size
      have s3 := G3.out.size
      have hx0 := HB0.out.size
      have e2 := E2.out
      have e5 := E5.out
      have e7 := E7.out
      have e8 := E8.out
      have l2 := L2.out
      have l5 := L5.out
      have l7 := L7.out
      have l8 := L8.out
      have NEW := hid (newR (cap := cap) (n := n) HLP.out HLL.out HB4.out HNC.out HPR.out (F2.out.bw (G1.out.trans (G2.out.trans G3.out))) (F5.out.bw (Bw.refl _)) (F7.out.keep ((G2.out.trans G3.out).block _ L7.out)) (F8.out.keep (G3.out.block _ L8.out)) (by omega) (by omega) (by omega) (by omega) ⟨by omega, by omega, by omega, by omega, by omega, by omega⟩)
      clear s0 s1 s2 s3 hx0 e2 e5 e7 e8 l2 l5 l7 l8
      refine wpAnyW_ready (rs := [10]) (by kernel_rfl) (by simp) ?_
      refine (AllReadyW.cons (o := of10) rfl (fun K hK => ?_) AllReadyW.nil)
      go_simp
      refine hK.out _ _ trivial ?_
      clear hK K
      try simp only [of10, Act.put, setIfInBounds_toArray, set_cons_zero, set_cons_succ]
      refine wpAnyW_take (i := 11) (oi := of11) (v := ?_) rfl (by kernel_rfl) (by kernel_rfl) (by kernel_rfl) (by kernel_rfl) (fun _ _ _ h => h) (Or.inl ⟨by rfl, fun w _ => ?_⟩) ?_
      rotate_left
      · (go_simp; first | done | with_reducible rfl)
      try simp only [of11, Act.put, setIfInBounds_toArray, set_cons_zero, set_cons_succ]
      refine wpAnyW_done (by kernel_rfl) ?_ _
      go_wp2
      all_goals go_ret
      all_goals obtain ⟨BN, hBN, hB0⟩ := NEW.out
      all_goals exact ⟨x4.heap.size, b7, BN, rfl, hBN, HB4.out.alloc _, hB0⟩
    refine (AllReadyW.cons (o := of8) rfl (fun K hK => ?_) AllReadyW.nil)
    go_simp
    have F8 := hid (MS.new x1)
    have G1 := hid (Bw.alloc (Bw.refl x1) (.map #[] 0))
    refine hK.out _ _ trivial ?_
    clear hK K
    try simp only [of8, Act.put, setIfInBounds_toArray, set_cons_zero, set_cons_succ]
    generalize World.alloc x1 (.map #[] 0) = x2 at F8 G1 ⊢
    generalize hb8 : Array.size (World.heap x1) = b8 at F8 ⊢
    have E8 := hid (show x1.heap.size ≤ b8 by omega)
    have L8 := hid F8.out.lt
    clear hb8
    have HB2 := hid (HB1.out.trans G1.out)
    refine wpAnyW_ready (rs := [5, 7]) (by kernel_rfl) (by simp) ?_
    refine (AllReadyW.cons (o := of6) rfl (fun K hK => ?_) ?_)
    · go_simp
      have F5 := hid (Blk.new x2 _ _ : Blk (x2.alloc (.cells (rowP (List.replicate L.length (0, 0))).toArray 97)) x2.heap.size _ 97)
      have G2 := hid (Bw.alloc (Bw.refl x2) (.cells (rowP (List.replicate L.length (0, 0))).toArray 97))
      refine hK.out _ _ trivial ?_
      clear hK K
      try simp only [of6, Act.put, setIfInBounds_toArray, set_cons_zero, set_cons_succ]
      generalize World.alloc x2 (.cells (rowP (List.replicate L.length (0, 0))).toArray 97) = x3 at F5 G2 ⊢
      generalize hb5 : Array.size (World.heap x2) = b5 at F5 ⊢
      have E5 := hid (show x2.heap.size ≤ b5 by omega)
      have L5 := hid F5.out.lt
      clear hb5
      have HB3 := hid (HB2.out.trans G2.out)
      refine wpAnyW_ready (rs := [7]) (by kernel_rfl) (by simp) ?_
      refine (AllReadyW.cons (o := of7) rfl (fun K hK => ?_) AllReadyW.nil)
      go_simp
      refine (HGL.out x3 HB3.out).mono ?_
      rintro e' x4 ⟨b7, he', hs7, hm7, hb7⟩
      subst he'
      have F7 := hid hm7
      have G3 := hid hb7
      have E7 := hid hs7
      have L7 := hid hm7.lt
      clear hm7 hb7 hs7
      refine hK.out _ _ trivial ?_
      clear hK K
      try simp only [of7, Act.put, setIfInBounds_toArray, set_cons_zero, set_cons_succ]
      have HB4 := hid (HB3.out.trans G3.out)
      refine wpAnyW_take (i := 9) (oi := of9) (v := ?_) rfl (by kernel_rfl) (by kernel_rfl) (by kernel_rfl) (by kernel_rfl) (fun _ _ _ h => h) (Or.inl ⟨by rfl, fun w _ => ?_⟩) ?_
      rotate_left
      · (go_simp; first | done | with_reducible rfl)
      try simp only [of9, Act.put, setIfInBounds_toArray, set_cons_zero, set_cons_succ]
      have s0 := G0.out.size
      have s1 := G1.out.size
      have s2 := G2.out.size
      have s3 := G3.out.size
      have hx0 := HB0.out.size
      have e2 := E2.out
      have e5 := E5.out
      have e7 := E7.out
      have e8 := E8.out
      have l2 := L2.out
      have l5 := L5.out
      have l7 := L7.out
      have l8 := L8.out
      have NEW := hid (newR (cap := cap) (n := n) HLP.out HLL.out HB4.out HNC.out HPR.out (F2.out.bw (G1.out.trans (G2.out.trans G3.out))) (F5.out.bw G3.out) (F7.out.keep ((Bw.refl _).block _ L7.out)) (F8.out.keep ((G2.out.trans G3.out).block _ L8.out)) (by omega) (by omega) (by omega) (by omega) ⟨by omega, by omega, by omega, by omega, by omega, by omega⟩)
      clear s0 s1 s2 s3 hx0 e2 e5 e7 e8 l2 l5 l7 l8
      refine wpAnyW_ready (rs := [10]) (by kernel_rfl) (by simp) ?_
      refine (AllReadyW.cons (o := of10) rfl (fun K hK => ?_) AllReadyW.nil)
      go_simp
      refine hK.out _ _ trivial ?_
      clear hK K
      try simp only [of10, Act.put, setIfInBounds_toArray, set_cons_zero, set_cons_succ]
      refine wpAnyW_take (i := 11) (oi := of11) (v := ?_) rfl (by kernel_rfl) (by kernel_rfl) (by kernel_rfl) (by kernel_rfl) (fun _ _ _ h => h) (Or.inl ⟨by rfl, fun w _ => ?_⟩) ?_
      rotate_left
      · (go_simp; first | done | with_reducible rfl)
      try simp only [of11, Act.put, setIfInBounds_toArray, set_cons_zero, set_cons_succ]
      refine wpAnyW_done (by kernel_rfl) ?_ _
      go_wp2
      all_goals go_ret
      all_goals obtain ⟨BN, hBN, hB0⟩ := NEW.out
      all_goals exact ⟨x4.heap.size, b7, BN, rfl, hBN, HB4.out.alloc _, hB0⟩
    refine (AllReadyW.cons (o := of7) rfl (fun K hK => ?_) AllReadyW.nil)
    go_simp
    refine (HGL.out x2 HB2.out).mono ?_
    rintro e' x3 ⟨b7, he', hs7, hm7, hb7⟩
    subst he'
    have F7 := hid hm7
    have G2 := hid hb7
    have E7 := hid hs7
    have L7 := hid hm7.lt
    clear hm7 hb7 hs7
    refine hK.out _ _ trivial ?_
    clear hK K
    try simp only [of7, Act.put, setIfInBounds_toArray, set_cons_zero, set_cons_succ]
    have HB3 := hid (HB2.out.trans G2.out)
    refine wpAnyW_ready (rs := [5]) (by kernel_rfl) (by simp) ?_
    refine (AllReadyW.cons (o := of6) rfl (fun K hK => ?_) AllReadyW.nil)
    go_simp
    have F5 := hid (Blk.new x3 _ _ : Blk (x3.alloc (.cells (rowP (List.replicate L.length (0, 0))).toArray 97)) x3.heap.size _ 97)
    have G3 := hid (Bw.alloc (Bw.refl x3) (.cells (rowP (List.replicate L.length (0, 0))).toArray 97))
    refine hK.out _ _ trivial ?_
    clear hK K
    try simp only [of6, Act.put, setIfInBounds_toArray, set_cons_zero, set_cons_succ]
    generalize World.alloc x3 (.cells (rowP (List.replicate L.length (0, 0))).toArray 97) = x4 at F5 G3 ⊢
    generalize hb5 : Array.size (World.heap x3) = b5 at F5 ⊢
    have E5 := hid (show x3.heap.size ≤ b5 by omega)
    have L5 := hid F5.out.lt
    clear hb5
    have HB4 := hid (HB3.out.trans G3.out)
    refine wpAnyW_take (i := 9) (oi := of9) (v := ?_) rfl (by kernel_rfl) (by kernel_rfl) (by kernel_rfl) (by kernel_rfl) (fun _ _ _ h => h) (Or.inl ⟨by rfl, fun w _ => ?_⟩) ?_
    rotate_left
    · (go_simp; first | done | with_reducible rfl)
    try simp only [of9, Act.put, setIfInBounds_toArray, set_cons_zero, set_cons_succ]
    have s0 := G0.out.size
    have s1 := G1.out.size
    have s2 := G2.out.size
    have s3 := G3.out.size
    have hx0 := HB0.out.size
    have e2 := E2.out
    have e5 := E5.out
    have e7 := E7.out
    have e8 := E8.out
    have l2 := L2.out
    have l5 := L5.out
    have l7 := L7.out
    have l8 := L8.out
    have NEW := hid (newR (cap := cap) (n := n) HLP.out HLL.out HB4.out HNC.out HPR.out (F2.out.bw (G1.out.trans (G2.out.trans G3.out))) (F5.out.bw (Bw.refl _)) (F7.out.keep (G3.out.block _ L7.out)) (F8.out.keep ((G2.out.trans G3.out).block _ L8.out)) (by omega) (by omega) (by omega) (by omega) ⟨by omega, by omega, by omega, by omega, by omega, by omega⟩)
    clear s0 s1 s2 s3 hx0 e2 e5 e7 e8 l2 l5 l7 l8
    refine wpAnyW_ready (rs := [10]) (by kernel_rfl) (by simp) ?_
    refine (AllReadyW.cons (o := of10) rfl (fun K hK => ?_) AllReadyW.nil)
    go_simp
    refine hK.out _ _ trivial ?_
    clear hK K
    try simp only [of10, Act.put, setIfInBounds_toArray, set_cons_zero, set_cons_succ]
    refine wpAnyW_take (i := 11) (oi := of11) (v := ?_) rfl (by kernel_rfl) (by kernel_rfl) (by kernel_rfl) (by kernel_rfl) (fun _ _ _ h => h) (Or.inl ⟨by rfl, fun w _ => ?_⟩) ?_
    rotate_left
    · (go_simp; first | done | with_reducible rfl)
    try simp only [of11, Act.put, setIfInBounds_toArray, set_cons_zero, set_cons_succ]
    refine wpAnyW_done (by kernel_rfl) ?_ _
    go_wp2
    all_goals go_ret
    all_goals obtain ⟨BN, hBN, hB0⟩ := NEW.out
    all_goals exact ⟨x4.heap.size, b7, BN, rfl, hBN, HB4.out.alloc _, hB0⟩
  refine (AllReadyW.cons (o := of6) rfl (fun K hK => ?_) ?_)
  · go_simp
    have F5 := hid (Blk.new x0 _ _ : Blk (x0.alloc (.cells (rowP (List.replicate L.length (0, 0))).toArray 97)) x0.heap.size _ 97)
    have G0 := hid (Bw.alloc (Bw.refl x0) (.cells (rowP (List.replicate L.length (0, 0))).toArray 97))
    refine hK.out _ _ trivial ?_
    clear hK K
    try simp only [of6, Act.put, setIfInBounds_toArray, set_cons_zero, set_cons_succ]
    generalize World.alloc x0 (.cells (rowP (List.replicate L.length (0, 0))).toArray 97) = x1 at F5 G0 ⊢
    generalize hb5 : Array.size (World.heap x0) = b5 at F5 ⊢
    have E5 := hid (show x0.heap.size ≤ b5 by omega)
    have L5 := hid F5.out.lt
    clear hb5
    have HB1 := hid (HB0.out.trans G0.out)
    refine wpAnyW_ready (rs := [2, 7, 8]) (by kernel_rfl) (by simp) ?_
    refine (AllReadyW.cons (o := of5) rfl (fun K hK => ?_) ?_)
    · go_simp
      have F2 := hid (Blk.new x1 _ _ : Blk (x1.alloc (.cells #[.int .i64 0, .int .i64 0, .int .i64 0, .slice none 0 0, .int .i64 0, .map none] 93)) x1.heap.size _ 93)
      have G1 := hid (Bw.alloc (Bw.refl x1) (.cells #[.int .i64 0, .int .i64 0, .int .i64 0, .slice none 0 0, .int .i64 0, .map none] 93))
      refine hK.out _ _ trivial ?_
      clear hK K
      try simp only [of5, Act.put, setIfInBounds_toArray, set_cons_zero, set_cons_succ]
      generalize World.alloc x1 (.cells #[.int .i64 0, .int .i64 0, .int .i64 0, .slice none 0 0, .int .i64 0, .map none] 93) = x2 at F2 G1 ⊢
      generalize hb2 : Array.size (World.heap x1) = b2 at F2 ⊢
      have E2 := hid (show x1.heap.size ≤ b2 by omega)
      have L2 := hid F2.out.lt
      clear hb2
      have HB2 := hid (HB1.out.trans G1.out)
      refine wpAnyW_ready (rs := [7, 8]) (by kernel_rfl) (by simp) ?_
      refine (AllReadyW.cons (o := of7) rfl (fun K hK => ?_) ?_)
      · go_simp
        refine (HGL.out x2 HB2.out).mono ?_
        rintro e' x3 ⟨b7, he', hs7, hm7, hb7⟩
        subst he'
        have F7 := hid hm7
        have G2 := hid hb7
        have E7 := hid hs7
        have L7 := hid hm7.lt
        clear hm7 hb7 hs7
        refine hK.out _ _ trivial ?_
        clear hK K
        try simp only [of7, Act.put, setIfInBounds_toArray, set_cons_zero, set_cons_succ]
        have HB3 := hid (HB2.out.trans G2.out)
        refine wpAnyW_ready (rs := [8]) (by kernel_rfl) (by simp) ?_
        refine (AllReadyW.cons (o := of8) rfl (fun K hK => ?_) AllReadyW.nil)
        go_simp
        have F8 := hid (MS.new x3)
        have G3 := hid (Bw.alloc (Bw.refl x3) (.map #[] 0))
        refine hK.out _ _ trivial ?_
        clear hK K
        try simp only [of8, Act.put, setIfInBounds_toArray, set_cons_zero, set_cons_succ]
        generalize World.alloc x3 (.map #[] 0) = x4 at F8 G3 ⊢
        generalize hb8 : Array.size (World.heap x3) = b8 at F8 ⊢
        have E8 := hid (show x3.heap.size ≤ b8 by omega)
        have L8 := hid F8.out.lt
        clear hb8
        have HB4 := hid (HB3.out.trans G3.out)
        refine wpAnyW_take (i := 9) (oi := of9) (v := ?_) rfl (by kernel_rfl) (by kernel_rfl) (by kernel_rfl) (by kernel_rfl) (fun _ _ _ h => h) (Or.inl ⟨by rfl, fun w _ => ?_⟩) ?_
        rotate_left
        · (go_simp; first | done | with_reducible rfl)
        try simp only [of9, Act.put, setIfInBounds_toArray, set_cons_zero, set_cons_succ]
        have s0 := G0.out.size
        have s1 := G1.out.size
        have s2 := G2.out.size
        have s3 := G3.out.size
        have hx0 := HB0.out.size
        have e2 := E2.out
        have e5 := E5.out
        have e7 := E7.out
        have e8 := E8.out
        have l2 := L2.out
        have l5 := L5.out
        have l7 := L7.out
        have l8 := L8.out
        have NEW := hid (newR (cap := cap) (n := n) HLP.out HLL.out HB4.out HNC.out HPR.out (F2.out.bw (G2.out.trans G3.out)) (F5.out.bw (G1.out.trans (G2.out.trans G3.out))) (F7.out.keep (G3.out.block _ L7.out)) (F8.out.keep ((Bw.refl _).block _ L8.out)) (by omega) (by omega) (by omega) (by omega) ⟨by omega, by omega, by omega, by omega, by omega, by omega⟩)
        clear s0 s1 s2 s3 hx0 e2 e5 e7 e8 l2 l5 l7 l8
        refine wpAnyW_ready (rs := [10]) (by kernel_rfl) (by simp) ?_
        refine (AllReadyW.cons (o := of10) rfl (fun K hK => ?_) AllReadyW.nil)
        go_simp
        refine hK.out _ _ trivial ?_
        clear hK K
        try simp only [of10, Act.put, setIfInBounds_toArray, set_cons_zero, set_cons_succ]
        refine wpAnyW_take (i := 11) (oi := of11) (v := ?_) rfl (by kernel_rfl) (by kernel_rfl) (by kernel_rfl) (by kernel_rfl) (fun _ _ _ h => h) (Or.inl ⟨by rfl, fun w _ => ?_⟩) ?_
        rotate_left
        · (go_simp; first | done | with_reducible rfl)
        try simp only [of11, Act.put, setIfInBounds_toArray, set_cons_zero, set_cons_succ]
        refine wpAnyW_done (by kernel_rfl) ?_ _
        go_wp2
        all_goals go_ret
        all_goals obtain ⟨BN, hBN, hB0⟩ := NEW.out
        all_goals exact ⟨x4.heap.size, b7, BN, rfl, hBN, HB4.out.alloc _, hB0⟩
      refine (AllReadyW.cons (o := of8) rfl (fun K hK => ?_) AllReadyW.nil)
      go_simp
      have F8 := hid (MS.new x2)
      have G2 := hid (Bw.alloc (Bw.refl x2) (.map #[] 0))
      refine hK.out _ _ trivial ?_
      clear hK K
      try simp only [of8, Act.put, setIfInBounds_toArray, set_cons_zero, set_cons_succ]
      generalize World.alloc x2 (.map #[] 0) = x3 at F8 G2 ⊢
      generalize hb8 : Array.size (World.heap x2) = b8 at F8 ⊢
      have E8 := hid (show x2.heap.size ≤ b8 by omega)
      have L8 := hid F8.out.lt
      clear hb8
      have HB3 := hid (HB2.out.trans G2.out)
      refine wpAnyW_ready (rs := [7]) (by kernel_rfl) (by simp) ?_
      refine (AllReadyW.cons (o := of7) rfl (fun K hK => ?_) AllReadyW.nil)
      go_simp
      refine (HGL.out x3 HB3.out).mono ?_
      rintro e' x4 ⟨b7, he', hs7, hm7, hb7⟩
      subst he'
      have F7 := hid hm7
      have G3 := hid hb7
      have E7 := hid hs7
      have L7 := hid hm7.lt
      clear hm7 hb7 hs7
      refine hK.out _ _ trivial ?_
      clear hK K
      try simp only [of7, Act.put, setIfInBounds_toArray, set_cons_zero, set_cons_succ]
      have HB4 := hid (HB3.out.trans G3.out)
      refine wpAnyW_take (i := 9) (oi := of9) (v := ?_) rfl (by kernel_rfl) (by kernel_rfl) (by kernel_rfl) (by kernel_rfl) (fun _ _ _ h => h) (Or.inl ⟨by rfl, fun w _ => ?_⟩) ?_
      rotate_left
      · (go_simp; first | done | with_reducible rfl)
      try simp only [of9, Act.put, setIfInBounds_toArray, set_cons_zero, set_cons_succ]
      have s0 := G0.out.size
      have s1 := G1.out.size
      have s2 := G2.out.size
      have s3 := G3.out.size
      have hx0 := HB0.out.size
      have e2 := E2.out
      have e5 := E5.out
      have e7 := E7.out
      have e8 := E8.out
      have l2 := L2.out
      have l5 := L5.out
      have l7 := L7.out
      have l8 := L8.out
      have NEW := hid (newR (cap := cap) (n := n) HLP.out HLL.out HB4.out HNC.out HPR.out (F2.out.bw (G2.out.trans G3.out)) (F5.out.bw (G1.out.trans (G2.out.trans G3.out))) (F7.out.keep ((Bw.refl _).block _ L7.out)) (F8.out.keep (G3.out.block _ L8.out)) (by omega) (by omega) (by omega) (by omega) ⟨by omega, by omega, by omega, by omega, by omega, by omega⟩)
      clear s0 s1 s2 s3 hx0 e2 e5 e7 e8 l2 l5 l7 l8
      refine wpAnyW_ready (rs := [10]) (by kernel_rfl) (by simp) ?_
      refine (AllReadyW.cons (o := of10) rfl (fun K hK => ?_) AllReadyW.nil)
      go_simp
      refine hK.out _ _ trivial ?_
      clear hK K
      try simp only [of10, Act.put, setIfInBounds_toArray, set_cons_zero, set_cons_succ]
      refine wpAnyW_take (i := 11) (oi := of11) (v := ?_) rfl (by kernel_rfl) (by kernel_rfl) (by kernel_rfl) (by kernel_rfl) (fun _ _ _ h => h) (Or.inl ⟨by rfl, fun w _ => ?_⟩) ?_
      rotate_left
      · (go_simp; first | done | with_reducible rfl)
      try simp only [of11, Act.put, setIfInBounds_toArray, set_cons_zero, set_cons_succ]
      refine wpAnyW_done (by kernel_rfl) ?_ _
      go_wp2
      all_goals go_ret
      all_goals obtain ⟨BN, hBN, hB0⟩ := NEW.out
      all_goals exact ⟨x4.heap.size, b7, BN, rfl, hBN, HB4.out.alloc _, hB0⟩
    refine (AllReadyW.cons (o := of7) rfl (fun K hK => ?_) ?_)
    · go_simp
      refine (HGL.out x1 HB1.out).mono ?_
      rintro e' x2 ⟨b7, he', hs7, hm7, hb7⟩
      subst he'
      have F7 := hid hm7
      have G1 := hid hb7
      have E7 := hid hs7
      have L7 := hid hm7.lt
      clear hm7 hb7 hs7
      refine hK.out _ _ trivial ?_
      clear hK K
      try simp only [of7, Act.put, setIfInBounds_toArray, set_cons_zero, set_cons_succ]
      have HB2 := hid (HB1.out.trans G1.out)
      refine wpAnyW_ready (rs := [2, 8]) (by kernel_rfl) (by simp) ?_
      refine (AllReadyW.cons (o := of5) rfl (fun K hK => ?_) ?_)
      · go_simp
        have F2 := hid (Blk.new x2 _ _ : Blk (x2.alloc (.cells #[.int .i64 0, .int .i64 0, .int .i64 0, .slice none 0 0, .int .i64 0, .map none] 93)) x2.heap.size _ 93)
        have G2 := hid (Bw.alloc (Bw.refl x2) (.cells #[.int .i64 0, .int .i64 0, .int .i64 0, .slice none 0 0, .int .i64 0, .map none] 93))
        refine hK.out _ _ trivial ?_
        clear hK K
        try simp only [of5, Act.put, setIfInBounds_toArray, set_cons_zero, set_cons_succ]
        generalize World.alloc x2 (.cells #[.int .i64 0, .int .i64 0, .int .i64 0, .slice none 0 0, .int .i64 0, .map none] 93) = x3 at F2 G2 ⊢
        generalize hb2 : Array.size (World.heap x2) = b2 at F2 ⊢
        have E2 := hid (show x2.heap.size ≤ b2 by omega)
        have L2 := hid F2.out.lt
        clear hb2
        have HB3 := hid (HB2.out.trans G2.out)
        refine wpAnyW_ready (rs := [8]) (by kernel_rfl) (by simp) ?_
        refine (AllReadyW.cons (o := of8) rfl (fun K hK => ?_) AllReadyW.nil)
        go_simp
        have F8 := hid (MS.new x3)
        have G3 := hid (Bw.alloc (Bw.refl x3) (.map #[] 0))
        refine hK.out _ _ trivial ?_
        clear hK K
        try simp only [of8, Act.put, setIfInBounds_toArray, set_cons_zero, set_cons_succ]
        generalize World.alloc x3 (.map #[] 0) = x4 at F8 G3 ⊢
        generalize hb8 : Array.size (World.heap x3) = b8 at F8 ⊢
        have E8 := hid (show x3.heap.size ≤ b8 by omega)
        have L8 := hid F8.out.lt
        clear hb8
        have HB4 := hid (HB3.out.trans G3.out)
        refine wpAnyW_take (i := 9) (oi := of9) (v := ?_) rfl (by kernel_rfl) (by kernel_rfl) (by kernel_rfl) (by kernel_rfl) (fun _ _ _ h => h) (Or.inl ⟨by rfl, fun w _ => ?_⟩) ?_
        rotate_left
        · (go_simp; first | done | with_reducible rfl)
        try simp only [of9, Act.put, setIfInBounds_toArray, set_cons_zero, set_cons_succ]
        have s0 := G0.out.size
        have s1 := G1.out.size
        have s2 := G2.out.size
        have s3 := G3.out.size
        have hx0 := HB0.out.size
        have e2 := E2.out
        have e5 := E5.out
        have e7 := E7.out
        have e8 := E8.out
        have l2 := L2.out
        have l5 := L5.out
        have l7 := L7.out
        have l8 := L8.out
        have NEW := hid (newR (cap := cap) (n := n) HLP.out HLL.out HB4.out HNC.out HPR.out (F2.out.bw G3.out) (F5.out.bw (G1.out.trans (G2.out.trans G3.out))) (F7.out.keep ((G2.out.trans G3.out).block _ L7.out)) (F8.out.keep ((Bw.refl _).block _ L8.out)) (by omega) (by omega) (by omega) (by omega) ⟨by omega, by omega, by omega, by omega, by omega, by omega⟩)
        clear s0 s1 s2 s3 hx0 e2 e5 e7 e8 l2 l5 l7 l8
        refine wpAnyW_ready (rs := [10]) (by kernel_rfl) (by simp) ?_
        refine (AllReadyW.cons (o := of10) rfl (fun K hK => ?_) AllReadyW.nil)
        go_simp
        refine hK.out _ _ trivial ?_
        clear hK K
        try simp only [of10, Act.put, setIfInBounds_toArray, set_cons_zero, set_cons_succ]
        refine wpAnyW_take (i := 11) (oi := of11) (v := ?_) rfl (by kernel_rfl) (by kernel_rfl) (by kernel_rfl) (by kernel_rfl) (fun _ _ _ h => h) (Or.inl ⟨by rfl, fun w _ => ?_⟩) ?_
        rotate_left
        · (go_simp; first | done | with_reducible rfl)
        try simp only [of11, Act.put, setIfInBounds_toArray, set_cons_zero, set_cons_succ]
        refine wpAnyW_done (by kernel_rfl) ?_ _
        go_wp2
        all_goals go_ret
        all_goals obtain ⟨BN, hBN, hB0⟩ := NEW.out
        all_goals exact ⟨x4.heap.size, b7, BN, rfl, hBN, HB4.out.alloc _, hB0⟩
      refine (AllReadyW.cons (o := of8) rfl (fun K hK => ?_) AllReadyW.nil)
      go_simp
      have F8 := hid (MS.new x2)
      have G2 := hid (Bw.alloc (Bw.refl x2) (.map #[] 0))
      refine hK.out _ _ trivial ?_
      clear hK K
      try simp only [of8, Act.put, setIfInBounds_toArray, set_cons_zero, set_cons_succ]
      generalize World.alloc x2 (.map #[] 0) = x3 at F8 G2 ⊢
      generalize hb8 : Array.size (World.heap x2) = b8 at F8 ⊢
      have E8 := hid (show x2.heap.size ≤ b8 by omega)
      have L8 := hid F8.out.lt
      clear hb8
      have HB3 := hid (HB2.out.trans G2.out)
      refine wpAnyW_ready (rs := [2]) (by kernel_rfl) (by simp) ?_
      refine (AllReadyW.cons (o := of5) rfl (fun K hK => ?_) AllReadyW.nil)
      go_simp
      have F2 := hid (Blk.new x3 _ _ : Blk (x3.alloc (.cells #[.int .i64 0, .int .i64 0, .int .i64 0, .slice none 0 0, .int .i64 0, .map none] 93)) x3.heap.size _ 93)
      have G3 := hid (Bw.alloc (Bw.refl x3) (.cells #[.int .i64 0, .int .i64 0, .int .i64 0, .slice none 0 0, .int .i64 0, .map none] 93))
      refine hK.out _ _ trivial ?_
      clear hK K
      try simp only [of5, Act.put, setIfInBounds_toArray, set_cons_zero, set_cons_succ]
      generalize World.alloc x3 (.cells #[.int .i64 0, .int .i64 0, .int .i64 0, .slice none 0 0, .int .i64 0, .map none] 93) = x4 at F2 G3 ⊢
      generalize hb2 : Array.size (World.heap x3) = b2 at F2 ⊢
      have E2 := hid (show x3.heap.size ≤ b2 by omega)
      have L2 := hid F2.out.lt
      clear hb2
      have HB4 := hid (HB3.out.trans G3.out)
      refine wpAnyW_take (i := 9) (oi := of9) (v := ?_) rfl (by kernel_rfl) (by kernel_rfl) (by kernel_rfl) (by kernel_rfl) (fun _ _ _ h => h) (Or.inl ⟨by rfl, fun w _ => ?_⟩) ?_
      rotate_left
      · (go_simp; first | done | with_reducible rfl)
      try simp only [of9, Act.put, setIfInBounds_toArray, set_cons_zero, set_cons_succ]
      have s0 := G0.out.size
      have s1 := G1.out.size
      have s2 := G2.out.size
      have s3 := G3.out.size
      have hx0 := HB0.out.size
      have e2 := E2.out
      have e5 := E5.out
      have e7 := E7.out
      have e8 := E8.out
      have l2 := L2.out
      have l5 := L5.out
      have l7 := L7.out
      have l8 := L8.out
      have NEW := hid (newR (cap := cap) (n := n) HLP.out HLL.out HB4.out HNC.out HPR.out (F2.out.bw (Bw.refl _)) (F5.out.bw (G1.out.trans (G2.out.trans G3.out))) (F7.out.keep ((G2.out.trans G3.out).block _ L7.out)) (F8.out.keep (G3.out.block _ L8.out)) (by omega) (by omega) (by omega) (by omega) ⟨by omega, by omega, by omega, by omega, by omega, by omega⟩)
      clear s0 s1 s2 s3 hx0 e2 e5 e7 e8 l2 l5 l7 l8
      refine wpAnyW_ready (rs := [10]) (by kernel_rfl) (by simp) ?_
      refine (AllReadyW.cons (o := of10) rfl (fun K hK => ?_) AllReadyW.nil)
      go_simp
      refine hK.out _ _ trivial ?_
      clear hK K
      try simp only [of10, Act.put, setIfInBounds_toArray, set_cons_zero, set_cons_succ]
      refine wpAnyW_take (i := 11) (oi := of11) (v := ?_) rfl (by kernel_rfl) (by kernel_rfl) (by kernel_rfl) (by kernel_rfl) (fun _ _ _ h => h) (Or.inl ⟨by rfl, fun w _ => ?_⟩) ?_
      rotate_left
      · (go_simp; first | done | with_reducible rfl)
      try simp only [of11, Act.put, setIfInBounds_toArray, set_cons_zero, set_cons_succ]
      refine wpAnyW_done (by kernel_rfl) ?_ _
      go_wp2
      all_goals go_ret
      all_goals obtain ⟨BN, hBN, hB0⟩ := NEW.out
      all_goals exact ⟨x4.heap.size, b7, BN, rfl, hBN, HB4.out.alloc _, hB0⟩
    refine (AllReadyW.cons (o := of8) rfl (fun K hK => ?_) AllReadyW.nil)
    go_simp
    have F8 := hid (MS.new x1)
    have G1 := hid (Bw.alloc (Bw.refl x1) (.map #[] 0))
    refine hK.out _ _ trivial ?_
    clear hK K
    try simp only [of8, Act.put, setIfInBounds_toArray, set_cons_zero, set_cons_succ]
    generalize World.alloc x1 (.map #[] 0) = x2 at F8 G1 ⊢
    generalize hb8 : Array.size (World.heap x1) = b8 at F8 ⊢
    have E8 := hid (show x1.heap.size ≤ b8 by omega)
    have L8 := hid F8.out.lt
    clear hb8
    have HB2 := hid (HB1.out.trans G1.out)
    refine wpAnyW_ready (rs := [2, 7]) (by kernel_rfl) (by simp) ?_
    refine (AllReadyW.cons (o := of5) rfl (fun K hK => ?_) ?_)
    · go_simp
      have F2 := hid (Blk.new x2 _ _ : Blk (x2.alloc (.cells #[.int .i64 0, .int .i64 0, .int .i64 0, .slice none 0 0, .int .i64 0, .map none] 93)) x2.heap.size _ 93)
      have G2 := hid (Bw.alloc (Bw.refl x2) (.cells #[.int .i64 0, .int .i64 0, .int .i64 0, .slice none 0 0, .int .i64 0, .map none] 93))
      refine hK.out _ _ trivial ?_
      clear hK K
      try simp only [of5, Act.put, setIfInBounds_toArray, set_cons_zero, set_cons_succ]
      generalize World.alloc x2 (.cells #[.int .i64 0, .int .i64 0, .int .i64 0, .slice none 0 0, .int .i64 0, .map none] 93) = x3 at F2 G2 ⊢
      generalize hb2 : Array.size (World.heap x2) = b2 at F2 ⊢
      have E2 := hid (show x2.heap.size ≤ b2 by omega)
      have L2 := hid F2.out.lt
      clear hb2
      have HB3 := hid (HB2.out.trans G2.out)
      refine wpAnyW_ready (rs := [7]) (by kernel_rfl) (by simp) ?_
      refine (AllReadyW.cons (o := of7) rfl (fun K hK => ?_) AllReadyW.nil)
      go_simp
      refine (HGL.out x3 HB3.out).mono ?_
      rintro e' x4 ⟨b7, he', hs7, hm7, hb7⟩
      subst he'
      have F7 := hid hm7
      have G3 := hid hb7
      have E7 := hid hs7
      have L7 := hid hm7.lt
      clear hm7 hb7 hs7
      refine hK.out _ _ trivial ?_
      clear hK K
      try simp only [of7, Act.put, setIfInBounds_toArray, set_cons_zero, set_cons_succ]
      have HB4 := hid (HB3.out.trans G3.out)
      refine wpAnyW_take (i := 9) (oi := of9) (v := ?_) rfl (by kernel_rfl) (by kernel_rfl) (by kernel_rfl) (by kernel_rfl) (fun _ _ _ h => h) (Or.inl ⟨by rfl, fun w _ => ?_⟩) ?_
      rotate_left
      · (go_simp; first | done | with_reducible rfl)
      try simp only [of9, Act.put, setIfInBounds_toArray, set_cons_zero, set_cons_succ]
      have s0 := G0.out.size
      have s1 := G1.out.size
      have s2 := G2.out.size
      have s3 := G3.out.size
      have hx0 := HB0.out.size
      have e2 := E2.out
      have e5 := E5.out
      have e7 := E7.out
      have e8 := E8.out
      have l2 := L2.out
      have l5 := L5.out
      have l7 := L7.out
      have l8 := L8.out
      have NEW := hid (newR (cap := cap) (n := n) HLP.out HLL.out HB4.out HNC.out HPR.out (F2.out.bw G3.out) (F5.out.bw (G1.out.trans (G2.out.trans G3.out))) (F7.out.keep ((Bw.refl _).block _ L7.out)) (F8.out.keep ((G2.out.trans G3.out).block _ L8.out)) (by omega) (by omega) (by omega) (by omega) ⟨by omega, by omega, by omega, by omega, by omega, by omega⟩)
      clear s0 s1 s2 s3 hx0 e2 e5 e7 e8 l2 l5 l7 l8
      refine wpAnyW_ready (rs := [10]) (by kernel_rfl) (by simp) ?_
      refine (AllReadyW.cons (o := of10) rfl (fun K hK => ?_) AllReadyW.nil)
      go_simp
      refine hK.out _ _ trivial ?_
      clear hK K
      try simp only [of10, Act.put, setIfInBounds_toArray, set_cons_zero, set_cons_succ]
      refine wpAnyW_take (i := 11) (oi := of11) (v := ?_) rfl (by kernel_rfl) (by kernel_rfl) (by kernel_rfl) (by kernel_rfl) (fun _ _ _ h => h) (Or.inl ⟨by rfl, fun w _ => ?_⟩) ?_
      rotate_left
      · (go_simp; first | done | with_reducible rfl)
      try simp only [of11, Act.put, setIfInBounds_toArray, set_cons_zero, set_cons_succ]
      refine wpAnyW_done (by kernel_rfl) ?_ _
      go_wp2
      all_goals go_ret
      all_goals obtain ⟨BN, hBN, hB0⟩ := NEW.out
      all_goals exact ⟨x4.heap.size, b7, BN, rfl, hBN, HB4.out.alloc _, hB0⟩
    refine (AllReadyW.cons (o := of7) rfl (fun K hK => ?_) AllReadyW.nil)
    go_simp
    refine (HGL.out x2 HB2.out).mono ?_
    rintro e' x3 ⟨b7, he', hs7, hm7, hb7⟩
    subst he'
    have F7 := hid hm7
    have G2 := hid hb7
    have E7 := hid hs7
    have L7 := hid hm7.lt
    clear hm7 hb7 hs7
    refine hK.out _ _ trivial ?_
    clear hK K
    try simp only [of7, Act.put, setIfInBounds_toArray, set_cons_zero, set_cons_succ]
    have HB3 := hid (HB2.out.trans G2.out)
    refine wpAnyW_ready (rs := [2]) (by kernel_rfl) (by simp) ?_
    refine (AllReadyW.cons (o := of5) rfl (fun K hK => ?_) AllReadyW.nil)
    go_simp
    have F2 := hid (Blk.new x3 _ _ : Blk (x3.alloc (.cells #[.int .i64 0, .int .i64 0, .int .i64 0, .slice none 0 0, .int .i64 0, .map none] 93)) x3.heap.size _ 93)
    have G3 := hid (Bw.alloc (Bw.refl x3) (.cells #[.int .i64 0, .int .i64 0, .int .i64 0, .slice none 0 0, .int .i64 0, .map none] 93))
    refine hK.out _ _ trivial ?_
    clear hK K
    try simp only [of5, Act.put, setIfInBounds_toArray, set_cons_zero, set_cons_succ]
    generalize World.alloc x3 (.cells #[.int .i64 0, .int .i64 0, .int .i64 0, .slice none 0 0, .int .i64 0, .map none] 93) = x4 at F2 G3 ⊢
    generalize hb2 : Array.size (World.heap x3) = b2 at F2 ⊢
    have E2 := hid (show x3.heap.size ≤ b2 by omega)
    have L2 := hid F2.out.lt
    clear hb2
    have HB4 := hid (HB3.out.trans G3.out)
    refine wpAnyW_take (i := 9) (oi := of9) (v := ?_) rfl (by kernel_rfl) (by kernel_rfl) (by kernel_rfl) (by kernel_rfl) (fun _ _ _ h => h) (Or.inl ⟨by rfl, fun w _ => ?_⟩) ?_
    rotate_left
    · (go_simp; first | done | with_reducible rfl)
    try simp only [of9, Act.put, setIfInBounds_toArray, set_cons_zero, set_cons_succ]
    have s0 := G0.out.size
    have s1 := G1.out.size
    have s2 := G2.out.size
    have s3 := G3.out.size
    have hx0 := HB0.out.size
    have e2 := E2.out
    have e5 := E5.out
    have e7 := E7.out
    have e8 := E8.out
    have l2 := L2.out
    have l5 := L5.out
    have l7 := L7.out
    have l8 := L8.out
    have NEW := hid (newR (cap := cap) (n := n) HLP.out HLL.out HB4.out HNC.out HPR.out (F2.out.bw (Bw.refl _)) (F5.out.bw (G1.out.trans (G2.out.trans G3.out))) (F7.out.keep (G3.out.block _ L7.out)) (F8.out.keep ((G2.out.trans G3.out).block _ L8.out)) (by omega) (by omega) (by omega) (by omega) ⟨by omega, by omega, by omega, by omega, by omega, by omega⟩)
    clear s0 s1 s2 s3 hx0 e2 e5 e7 e8 l2 l5 l7 l8
    refine wpAnyW_ready (rs := [10]) (by kernel_rfl) (by simp) ?_
    refine (AllReadyW.cons (o := of10) rfl (fun K hK => ?_) AllReadyW.nil)
    go_simp
    refine hK.out _ _ trivial ?_
    clear hK K
    try simp only [of10, Act.put, setIfInBounds_toArray, set_cons_zero, set_cons_succ]
    refine wpAnyW_take (i := 11) (oi := of11) (v := ?_) rfl (by kernel_rfl) (by kernel_rfl) (by kernel_rfl) (by kernel_rfl) (fun _ _ _ h => h) (Or.inl ⟨by rfl, fun w _ => ?_⟩) ?_
    rotate_left
    · (go_simp; first | done | with_reducible rfl)
    try simp only [of11, Act.put, setIfInBounds_toArray, set_cons_zero, set_cons_succ]
    refine wpAnyW_done (by kernel_rfl) ?_ _
    go_wp2
    all_goals go_ret
    all_goals obtain ⟨BN, hBN, hB0⟩ := NEW.out
    all_goals exact ⟨x4.heap.size, b7, BN, rfl, hBN, HB4.out.alloc _, hB0⟩
  refine (AllReadyW.cons (o := of7) rfl (fun K hK => ?_) ?_)
  · go_simp
    refine (HGL.out x0 HB0.out).mono ?_
    rintro e' x1 ⟨b7, he', hs7, hm7, hb7⟩
    subst he'
    have F7 := hid hm7
    have G0 := hid hb7
    have E7 := hid hs7
    have L7 := hid hm7.lt
    clear hm7 hb7 hs7
    refine hK.out _ _ trivial ?_
    clear hK K
    try simp only [of7, Act.put, setIfInBounds_toArray, set_cons_zero, set_cons_succ]
    have HB1 := hid (HB0.out.trans G0.out)
    refine wpAnyW_ready (rs := [2, 5, 8]) (by kernel_rfl) (by simp) ?_
    refine (AllReadyW.cons (o := of5) rfl (fun K hK => ?_) ?_)
    · go_simp
      have F2 := hid (Blk.new x1 _ _ : Blk (x1.alloc (.cells #[.int .i64 0, .int .i64 0, .int .i64 0, .slice none 0 0, .int .i64 0, .map none] 93)) x1.heap.size _ 93)
      have G1 := hid (Bw.alloc (Bw.refl x1) (.cells #[.int .i64 0, .int .i64 0, .int .i64 0, .slice none 0 0, .int .i64 0, .map none] 93))
      refine hK.out _ _ trivial ?_
      clear hK K
      try simp only [of5, Act.put, setIfInBounds_toArray, set_cons_zero, set_cons_succ]
      generalize World.alloc x1 (.cells #[.int .i64 0, .int .i64 0, .int .i64 0, .slice none 0 0, .int .i64 0, .map none] 93) = x2 at F2 G1 ⊢
      generalize hb2 : Array.size (World.heap x1) = b2 at F2 ⊢
      have E2 := hid (show x1.heap.size ≤ b2 by omega)
      have L2 := hid F2.out.lt
      clear hb2
      have HB2 := hid (HB1.out.trans G1.out)
      refine wpAnyW_ready (rs := [5, 8]) (by kernel_rfl) (by simp) ?_
      refine (AllReadyW.cons (o := of6) rfl (fun K hK => ?_) ?_)
      · go_simp
        have F5 := hid (Blk.new x2 _ _ : Blk (x2.alloc (.cells (rowP (List.replicate L.length (0, 0))).toArray 97)) x2.heap.size _ 97)
        have G2 := hid (Bw.alloc (Bw.refl x2) (.cells (rowP (List.replicate L.length (0, 0))).toArray 97))
        refine hK.out _ _ trivial ?_
        clear hK K
        try simp only [of6, Act.put, setIfInBounds_toArray, set_cons_zero, set_cons_succ]
        generalize World.alloc x2 (.cells (rowP (List.replicate L.length (0, 0))).toArray 97) = x3 at F5 G2 ⊢
        generalize hb5 : Array.size (World.heap x2) = b5 at F5 ⊢
        have E5 := hid (show x2.heap.size ≤ b5 by omega)
        have L5 := hid F5.out.lt
        clear hb5
        have HB3 := hid (HB2.out.trans G2.out)
        refine wpAnyW_ready (rs := [8]) (by kernel_rfl) (by simp) ?_
        refine (AllReadyW.cons (o := of8) rfl (fun K hK => ?_) AllReadyW.nil)
        go_simp
        have F8 := hid (MS.new x3)
        have G3 := hid (Bw.alloc (Bw.refl x3) (.map #[] 0))
        refine hK.out _ _ trivial ?_
        clear hK K
        try simp only [of8, Act.put, setIfInBounds_toArray, set_cons_zero, set_cons_succ]
        generalize World.alloc x3 (.map #[] 0) = x4 at F8 G3 ⊢
        generalize hb8 : Array.size (World.heap x3) = b8 at F8 ⊢
        have E8 := hid (show x3.heap.size ≤ b8 by omega)
        have L8 := hid F8.out.lt
        clear hb8
        have HB4 := hid (HB3.out.trans G3.out)
        refine wpAnyW_take (i := 9) (oi := of9) (v := ?_) rfl (by kernel_rfl) (by kernel_rfl) (by kernel_rfl) (by kernel_rfl) (fun _ _ _ h => h) (Or.inl ⟨by rfl, fun w _ => ?_⟩) ?_
        rotate_left
        · (go_simp; first | done | with_reducible rfl)
        try simp only [of9, Act.put, setIfInBounds_toArray, set_cons_zero, set_cons_succ]
        have s0 := G0.out.size
        have s1 := G1.out.size
        have s2 := G2.out.size
        have s3 := G3.out.size
        have hx0 := HB0.out.size
        have e2 := E2.out
        have e5 := E5.out
        have e7 := E7.out
        have e8 := E8.out
        have l2 := L2.out
        have l5 := L5.out
        have l7 := L7.out
        have l8 := L8.out
        have NEW := hid (newR (cap := cap) (n := n) HLP.out HLL.out HB4.out HNC.out HPR.out (F2.out.bw (G2.out.trans G3.out)) (F5.out.bw G3.out) (F7.out.keep ((G1.out.trans (G2.out.trans G3.out)).block _ L7.out)) (F8.out.keep ((Bw.refl _).block _ L8.out)) (by omega) (by omega) (by omega) (by omega) ⟨by omega, by omega, by omega, by omega, by omega, by omega⟩)
        clear s0 s1 s2 s3 hx0 e2 e5 e7 e8 l2 l5 l7 l8
        refine wpAnyW_ready (rs := [10]) (by kernel_rfl) (by simp) ?_
        refine (AllReadyW.cons (o := of10) rfl (fun K hK => ?_) AllReadyW.nil)
        go_simp
        refine hK.out _ _ trivial ?_
        clear hK K
        try simp only [of10, Act.put, setIfInBounds_toArray, set_cons_zero, set_cons_succ]
        refine wpAnyW_take (i := 11) (oi := of11) (v := ?_) rfl (by kernel_rfl) (by kernel_rfl) (by kernel_rfl) (by kernel_rfl) (fun _ _ _ h => h) (Or.inl ⟨by rfl, fun w _ => ?_⟩) ?_
        rotate_left
        · (go_simp; first | done | with_reducible rfl)
        try simp only [of11, Act.put, setIfInBounds_toArray, set_cons_zero, set_cons_succ]
        refine wpAnyW_done (by kernel_rfl) ?_ _
        go_wp2
        all_goals go_ret
        all_goals obtain ⟨BN, hBN, hB0⟩ := NEW.out
        all_goals exact ⟨x4.heap.size, b7, BN, rfl, hBN, HB4.out.alloc _, hB0⟩
      refine (AllReadyW.cons (o := of8) rfl (fun K hK => ?_) AllReadyW.nil)
      go_simp
      have F8 := hid (MS.new x2)
      have G2 := hid (Bw.alloc (Bw.refl x2) (.map #[] 0))
      refine hK.out _ _ trivial ?_
      clear hK K
      try simp only [of8, Act.put, setIfInBounds_toArray, set_cons_zero, set_cons_succ]
      generalize World.alloc x2 (.map #[] 0) = x3 at F8 G2 ⊢
      generalize hb8 : Array.size (World.heap x2) = b8 at F8 ⊢
      have E8 := hid (show x2.heap.size ≤ b8 by omega)
      have L8 := hid F8.out.lt
      clear hb8
      have HB3 := hid (HB2.out.trans G2.out)
      refine wpAnyW_ready (rs := [5]) (by kernel_rfl) (by simp) ?_
      refine (AllReadyW.cons (o := of6) rfl (fun K hK => ?_) AllReadyW.nil)
      go_simp
      have F5 := hid (Blk.new x3 _ _ : Blk (x3.alloc (.cells (rowP (List.replicate L.length (0, 0))).toArray 97)) x3.heap.size _ 97)
      have G3 := hid (Bw.alloc (Bw.refl x3) (.cells (rowP (List.replicate L.length (0, 0))).toArray 97))
      refine hK.out _ _ trivial ?_
      clear hK K
      try simp only [of6, Act.put, setIfInBounds_toArray, set_cons_zero, set_cons_succ]
      generalize World.alloc x3 (.cells (rowP (List.replicate L.length (0, 0))).toArray 97) = x4 at F5 G3 ⊢
      generalize hb5 : Array.size (World.heap x3) = b5 at F5 ⊢
      have E5 := hid (show x3.heap.size ≤ b5 by omega)
      have L5 := hid F5.out.lt
      clear hb5
      have HB4 := hid (HB3.out.trans G3.out)
      refine wpAnyW_take (i := 9) (oi := of9) (v := ?_) rfl (by kernel_rfl) (by kernel_rfl) (by kernel_rfl) (by kernel_rfl) (fun _ _ _ h => h) (Or.inl ⟨by rfl, fun w _ => ?_⟩) ?_
      rotate_left
      · (go_simp; first | done | with_reducible rfl)
      try simp only [of9, Act.put, setIfInBounds_toArray, set_cons_zero, set_cons_succ]
      have s0 := G0.out.size
      have s1 := G1.out.size
      have s2 := G2.out.size
      have s3 := G3.out.size
      have hx0 := HB0.out.size
      have e2 := E2.out
      have e5 := E5.out
      have e7 := E7.out
      have e8 := E8.out
      have l2 := L2.out
      have l5 := L5.out
      have l7 := L7.out
      have l8 := L8.out
      have NEW := hid (newR (cap := cap) (n := n) HLP.out HLL.out HB4.out HNC.out HPR.out (F2.out.bw (G2.out.trans G3.out)) (F5.out.bw (Bw.refl _)) (F7.out.keep ((G1.out.trans (G2.out.trans G3.out)).block _ L7.out)) (F8.out.keep (G3.out.block _ L8.out)) (by omega) (by omega) (by omega) (by omega) ⟨by omega, by omega, by omega, by omega, by omega, by omega⟩)
      clear s0 s1 s2 s3 hx0 e2 e5 e7 e8 l2 l5 l7 l8
      refine wpAnyW_ready (rs := [10]) (by kernel_rfl) (by simp) ?_
      refine (AllReadyW.cons (o := of10) rfl (fun K hK => ?_) AllReadyW.nil)
      go_simp
      refine hK.out _ _ trivial ?_
      clear hK K
      try simp only [of10, Act.put, setIfInBounds_toArray, set_cons_zero, set_cons_succ]
      refine wpAnyW_take (i := 11) (oi := of11) (v := ?_) rfl (by kernel_rfl) (by kernel_rfl) (by kernel_rfl) (by kernel_rfl) (fun _ _ _ h => h) (Or.inl ⟨by rfl, fun w _ => ?_⟩) ?_
      rotate_left
      · (go_simp; first | done | with_reducible rfl)
      try simp only [of11, Act.put, setIfInBounds_toArray, set_cons_zero, set_cons_succ]
      refine wpAnyW_done (by kernel_rfl) ?_ _
      go_wp2
      all_goals go_ret
      all_goals obtain ⟨BN, hBN, hB0⟩ := NEW.out
      all_goals exact ⟨x4.heap.size, b7, BN, rfl, hBN, HB4.out.alloc _, hB0⟩
    refine (AllReadyW.cons (o := of6) rfl (fun K hK => ?_) ?_)
    · go_simp
      have F5 := hid (Blk.new x1 _ _ : Blk (x1.alloc (.cells (rowP (List.replicate L.length (0, 0))).toArray 97)) x1.heap.size _ 97)
      have G1 := hid (Bw.alloc (Bw.refl x1) (.cells (rowP (List.replicate L.length (0, 0))).toArray 97))
      refine hK.out _ _ trivial ?_
      clear hK K
      try simp only [of6, Act.put, setIfInBounds_toArray, set_cons_zero, set_cons_succ]
      generalize World.alloc x1 (.cells (rowP (List.replicate L.length (0, 0))).toArray 97) = x2 at F5 G1 ⊢
      generalize hb5 : Array.size (World.heap x1) = b5 at F5 ⊢
      have E5 := hid (show x1.heap.size ≤ b5 by omega)
      have L5 := hid F5.out.lt
      clear hb5
      have HB2 := hid (HB1.out.trans G1.out)
      refine wpAnyW_ready (rs := [2, 8]) (by kernel_rfl) (by simp) ?_
      refine (AllReadyW.cons (o := of5) rfl (fun K hK => ?_) ?_)
      · go_simp
        have F2 := hid (Blk.new x2 _ _ : Blk (x2.alloc (.cells #[.int .i64 0, .int .i64 0, .int .i64 0, .slice none 0 0, .int .i64 0, .map none] 93)) x2.heap.size _ 93)
        have G2 := hid (Bw.alloc (Bw.refl x2) (.cells #[.int .i64 0, .int .i64 0, .int .i64 0, .slice none 0 0, .int .i64 0, .map none] 93))
        refine hK.out _ _ trivial ?_
        clear hK K
        try simp only [of5, Act.put, setIfInBounds_toArray, set_cons_zero, set_cons_succ]
        generalize World.alloc x2 (.cells #[.int .i64 0, .int .i64 0, .int .i64 0, .slice none 0 0, .int .i64 0, .map none] 93) = x3 at F2 G2 ⊢
        generalize hb2 : Array.size (World.heap x2) = b2 at F2 ⊢
        have E2 := hid (show x2.heap.size ≤ b2 by omega)
        have L2 := hid F2.out.lt
        clear hb2
        have HB3 := hid (HB2.out.trans G2.out)
        refine wpAnyW_ready (rs := [8]) (by kernel_rfl) (by simp) ?_
        refine (AllReadyW.cons (o := of8) rfl (fun K hK => ?_) AllReadyW.nil)
        go_simp
        have F8 := hid (MS.new x3)
        have G3 := hid (Bw.alloc (Bw.refl x3) (.map #[] 0))
        refine hK.out _ _ trivial ?_
        clear hK K
        try simp only [of8, Act.put, setIfInBounds_toArray, set_cons_zero, set_cons_succ]
        generalize World.alloc x3 (.map #[] 0) = x4 at F8 G3 ⊢
        generalize hb8 : Array.size (World.heap x3) = b8 at F8 ⊢
        have E8 := hid (show x3.heap.size ≤ b8 by omega)
        have L8 := hid F8.out.lt
        clear hb8
        have HB4 := hid (HB3.out.trans G3.out)
        refine wpAnyW_take (i := 9) (oi := of9) (v := ?_) rfl (by kernel_rfl) (by kernel_rfl) (by kernel_rfl) (by kernel_rfl) (fun _ _ _ h => h) (Or.inl ⟨by rfl, fun w _ => ?_⟩) ?_
        rotate_left
        · (go_simp; first | done | with_reducible rfl)
        try simp only [of9, Act.put, setIfInBounds_toArray, set_cons_zero, set_cons_succ]
        have s0 := G0.out.size
        have s1 := G1.out.size
        have s2 := G2.out.size
        have s3 := G3.out.size
        have hx0 := HB0.out.size
        have e2 := E2.out
        have e5 := E5.out
        have e7 := E7.out
        have e8 := E8.out
        have l2 := L2.out
        have l5 := L5.out
        have l7 := L7.out
        have l8 := L8.out
        have NEW := hid (newR (cap := cap) (n := n) HLP.out HLL.out HB4.out HNC.out HPR.out (F2.out.bw G3.out) (F5.out.bw (G2.out.trans G3.out)) (F7.out.keep ((G1.out.trans (G2.out.trans G3.out)).block _ L7.out)) (F8.out.keep ((Bw.refl _).block _ L8.out)) (by omega) (by omega) (by omega) (by omega) ⟨by omega, by omega, by omega, by omega, by omega, by omega⟩)
        clear s0 s1 s2 s3 hx0 e2 e5 e7 e8 l2 l5 l7 l8
        refine wpAnyW_ready (rs := [10]) (by kernel_rfl) (by simp) ?_
        refine (AllReadyW.cons (o := of10) rfl (fun K hK => ?_) AllReadyW.nil)
        go_simp
        refine hK.out _ _ trivial ?_
        clear hK K
        try simp only [of10, Act.put, setIfInBounds_toArray, set_cons_zero, set_cons_succ]
        refine wpAnyW_take (i := 11) (oi := of11) (v := ?_) rfl (by kernel_rfl) (by kernel_rfl) (by kernel_rfl) (by kernel_rfl) (fun _ _ _ h => h) (Or.inl ⟨by rfl, fun w _ => ?_⟩) ?_
        rotate_left
        · (go_simp; first | done | with_reducible rfl)
        try simp only [of11, Act.put, setIfInBounds_toArray, set_cons_zero, set_cons_succ]
        refine wpAnyW_done (by kernel_rfl) ?_ _
        go_wp2
        all_goals go_ret
        all_goals obtain ⟨BN, hBN, hB0⟩ := NEW.out
        all_goals exact ⟨x4.heap.size, b7, BN, rfl, hBN, HB4.out.alloc _, hB0⟩
      refine (AllReadyW.cons (o := of8) rfl (fun K hK => ?_) AllReadyW.nil)
      go_simp
      have F8 := hid (MS.new x2)
      have G2 := hid (Bw.alloc (Bw.refl x2) (.map #[] 0))
      refine hK.out _ _ trivial ?_
      clear hK K
      try simp only [of8, Act.put, setIfInBounds_toArray, set_cons_zero, set_cons_succ]
      generalize World.alloc x2 (.map #[] 0) = x3 at F8 G2 ⊢
      generalize hb8 : Array.size (World.heap x2) = b8 at F8 ⊢
      have E8 := hid (show x2.heap.size ≤ b8 by omega)
      have L8 := hid F8.out.lt
      clear hb8
      have HB3 := hid (HB2.out.trans G2.out)
      refine wpAnyW_ready (rs := [2]) (by kernel_rfl) (by simp) ?_
      refine (AllReadyW.cons (o := of5) rfl (fun K hK => ?_) AllReadyW.nil)
      go_simp
      have F2 := hid (Blk.new x3 _ _ : Blk (x3.alloc (.cells #[.int .i64 0, .int .i64 0, .int .i64 0, .slice none 0 0, .int .i64 0, .map none] 93)) x3.heap.size _ 93)
      have G3 := hid (Bw.alloc (Bw.refl x3) (.cells #[.int .i64 0, .int .i64 0, .int .i64 0, .slice none 0 0, .int .i64 0, .map none] 93))
      refine hK.out _ _ trivial ?_
      clear hK K
      try simp only [of5, Act.put, setIfInBounds_toArray, set_cons_zero, set_cons_succ]
      generalize World.alloc x3 (.cells #[.int .i64 0, .int .i64 0, .int .i64 0, .slice none 0 0, .int .i64 0, .map none] 93) = x4 at F2 G3 ⊢
      generalize hb2 : Array.size (World.heap x3) = b2 at F2 ⊢
      have E2 := hid (show x3.heap.size ≤ b2 by omega)
      have L2 := hid F2.out.lt
      clear hb2
      have HB4 := hid (HB3.out.trans G3.out)
      refine wpAnyW_take (i := 9) (oi := of9) (v := ?_) rfl (by kernel_rfl) (by kernel_rfl) (by kernel_rfl) (by kernel_rfl) (fun _ _ _ h => h) (Or.inl ⟨by rfl, fun w _ => ?_⟩) ?_
      rotate_left
      · (go_simp; first | done | with_reducible rfl)
      try simp only [of9, Act.put, setIfInBounds_toArray, set_cons_zero, set_cons_succ]
      have s0 := G0.out.size
      have s1 := G1.out.size
      have s2 := G2.out.size
      have s3 := G3.out.size
      have hx0 := HB0.out.size
      have e2 := E2.out
      have e5 := E5.out
      have e7 := E7.out
      have e8 := E8.out
      have l2 := L2.out
      have l5 := L5.out
      have l7 := L7.out
      have l8 := L8.out
      have NEW := hid (newR (cap := cap) (n := n) HLP.out HLL.out HB4.out HNC.out HPR.out (F2.out.bw (Bw.refl _)) (F5.out.bw (G2.out.trans G3.out)) (F7.out.keep ((G1.out.trans (G2.out.trans G3.out)).block _ L7.out)) (F8.out.keep (G3.out.block _ L8.out)) (by omega) (by omega) (by omega) (by omega) ⟨by omega, by omega, by omega, by omega, by omega, by omega⟩)
      clear s0 s1 s2 s3 hx0 e2 e5 e7 e8 l2 l5 l7 l8
      refine wpAnyW_ready (rs := [10]) (by kernel_rfl) (by simp) ?_
      refine (AllReadyW.cons (o := of10) rfl (fun K hK => ?_) AllReadyW.nil)
      go_simp
      refine hK.out _ _ trivial ?_
      clear hK K
      try simp only [of10, Act.put, setIfInBounds_toArray, set_cons_zero, set_cons_succ]
      refine wpAnyW_take (i := 11) (oi := of11) (v := ?_) rfl (by kernel_rfl) (by kernel_rfl) (by kernel_rfl) (by kernel_rfl) (fun _ _ _ h => h) (Or.inl ⟨by rfl, fun w _ => ?_⟩) ?_
      rotate_left
      · (go_simp; first | done | with_reducible rfl)
      try simp only [of11, Act.put, setIfInBounds_toArray, set_cons_zero, set_cons_succ]
      refine wpAnyW_done (by kernel_rfl) ?_ _
      go_wp2
      all_goals go_ret
      all_goals obtain ⟨BN, hBN, hB0⟩ := NEW.out
      all_goals exact ⟨x4.heap.size, b7, BN, rfl, hBN, HB4.out.alloc _, hB0⟩
    refine (AllReadyW.cons (o := of8) rfl (fun K hK => ?_) AllReadyW.nil)
    go_simp
    have F8 := hid (MS.new x1)
    have G1 := hid (Bw.alloc (Bw.refl x1) (.map #[] 0))
    refine hK.out _ _ trivial ?_
    clear hK K
    try simp only [of8, Act.put, setIfInBounds_toArray, set_cons_zero, set_cons_succ]
    generalize World.alloc x1 (.map #[] 0) = x2 at F8 G1 ⊢
    generalize hb8 : Array.size (World.heap x1) = b8 at F8 ⊢
    have E8 := hid (show x1.heap.size ≤ b8 by omega)
    have L8 := hid F8.out.lt
    clear hb8
    have HB2 := hid (HB1.out.trans G1.out)
    refine wpAnyW_ready (rs := [2, 5]) (by kernel_rfl) (by simp) ?_
    refine (AllReadyW.cons (o := of5) rfl (fun K hK => ?_) ?_)
    · go_simp
      have F2 := hid (Blk.new x2 _ _ : Blk (x2.alloc (.cells #[.int .i64 0, .int .i64 0, .int .i64 0, .slice none 0 0, .int .i64 0, .map none] 93)) x2.heap.size _ 93)
      have G2 := hid (Bw.alloc (Bw.refl x2) (.cells #[.int .i64 0, .int .i64 0, .int .i64 0, .slice none 0 0, .int .i64 0, .map none] 93))
      refine hK.out _ _ trivial ?_
      clear hK K
      try simp only [of5, Act.put, setIfInBounds_toArray, set_cons_zero, set_cons_succ]
      generalize World.alloc x2 (.cells #[.int .i64 0, .int .i64 0, .int .i64 0, .slice none 0 0, .int .i64 0, .map none] 93) = x3 at F2 G2 ⊢
      generalize hb2 : Array.size (World.heap x2) = b2 at F2 ⊢
      have E2 := hid (show x2.heap.size ≤ b2 by omega)
      have L2 := hid F2.out.lt
      clear hb2
      have HB3 := hid (HB2.out.trans G2.out)
      refine wpAnyW_ready (rs := [5]) (by kernel_rfl) (by simp) ?_
      refine (AllReadyW.cons (o := of6) rfl (fun K hK => ?_) AllReadyW.nil)
      go_simp
      have F5 := hid (Blk.new x3 _ _ : Blk (x3.alloc (.cells (rowP (List.replicate L.length (0, 0))).toArray 97)) x3.heap.size _ 97)
      have G3 := hid (Bw.alloc (Bw.refl x3) (.cells (rowP (List.replicate L.length (0, 0))).toArray 97))
      refine hK.out _ _ trivial ?_
      clear hK K
      try simp only [of6, Act.put, setIfInBounds_toArray, set_cons_zero, set_cons_succ]
      generalize World.alloc x3 (.cells (rowP (List.replicate L.length (0, 0))).toArray 97) = x4 at F5 G3 ⊢
      generalize hb5 : Array.size (World.heap x3) = b5 at F5 ⊢
      have E5 := hid (show x3.heap.size ≤ b5 by omega)
      have L5 := hid F5.out.lt
      clear hb5
      have HB4 := hid (HB3.out.trans G3.out)
      refine wpAnyW_take (i := 9) (oi := of9) (v := ?_) rfl (by kernel_rfl) (by kernel_rfl) (by kernel_rfl) (by kernel_rfl) (fun _ _ _ h => h) (Or.inl ⟨by rfl, fun w _ => ?_⟩) ?_
      rotate_left
      · (go_simp; first | done | with_reducible rfl)
      try simp only [of9, Act.put, setIfInBounds_toArray, set_cons_zero, set_cons_succ]
      have s0 := G0.out.size
      have s1 := G1.out.size
      have s2 := G2.out.size
      have s3 := G3.out.size
      have hx0 := HB0.out.size
      have e2 := E2.out
      have e5 := E5.out
      have e7 := E7.out
      have e8 := E8.out
      have l2 := L2.out
      have l5 := L5.out
      have l7 := L7.out
      have l8 := L8.out
      have NEW := hid (newR (cap := cap) (n := n) HLP.out HLL.out HB4.out HNC.out HPR.out (F2.out.bw G3.out) (F5.out.bw (Bw.refl _)) (F7.out.keep ((G1.out.trans (G2.out.trans G3.out)).block _ L7.out)) (F8.out.keep ((G2.out.trans G3.out).block _ L8.out)) (by omega) (by omega) (by omega) (by omega) ⟨by omega, by omega, by omega, by omega, by omega, by omega⟩)
      clear s0 s1 s2 s3 hx0 e2 e5 e7 e8 l2 l5 l7 l8
      refine wpAnyW_ready (rs := [10]) (by kernel_rfl) (by simp) ?_
      refine (AllReadyW.cons (o := of10) rfl (fun K hK => ?_) AllReadyW.nil)
      go_simp
      refine hK.out _ _ trivial ?_
      clear hK K
      try simp only [of10, Act.put, setIfInBounds_toArray, set_cons_zero, set_cons_succ]
      refine wpAnyW_take (i := 11) (oi := of11) (v := ?_) rfl (by kernel_rfl) (by kernel_rfl) (by kernel_rfl) (by kernel_rfl) (fun _ _ _ h => h) (Or.inl ⟨by rfl, fun w _ => ?_⟩) ?_
      rotate_left
      · (go_simp; first | done | with_reducible rfl)
      try simp only [of11, Act.put, setIfInBounds_toArray, set_cons_zero, set_cons_succ]
      refine wpAnyW_done (by kernel_rfl) ?_ _
      go_wp2
      all_goals go_ret
      all_goals obtain ⟨BN, hBN, hB0⟩ := NEW.out
      all_goals exact ⟨x4.heap.size, b7, BN, rfl, hBN, HB4.out.alloc _, hB0⟩
    refine (AllReadyW.cons (o := of6) rfl (fun K hK => ?_) AllReadyW.nil)
    go_simp
    have F5 := hid (Blk.new x2 _ _ : Blk (x2.alloc (.cells (rowP (List.replicate L.length (0, 0))).toArray 97)) x2.heap.size _ 97)
    have G2 := hid (Bw.alloc (Bw.refl x2) (.cells (rowP (List.replicate L.length (0, 0))).toArray 97))
    refine hK.out _ _ trivial ?_
    clear hK K
    try simp only [of6, Act.put, setIfInBounds_toArray, set_cons_zero, set_cons_succ]
    generalize World.alloc x2 (.cells (rowP (List.replicate L.length (0, 0))).toArray 97) = x3 at F5 G2 ⊢
    generalize hb5 : Array.size (World.heap x2) = b5 at F5 ⊢
    have E5 := hid (show x2.heap.size ≤ b5 by omega)
    have L5 := hid F5.out.lt
    clear hb5
    have HB3 := hid (HB2.out.trans G2.out)
    refine wpAnyW_ready (rs := [2]) (by kernel_rfl) (by simp) ?_
    refine (AllReadyW.cons (o := of5) rfl (fun K hK => ?_) AllReadyW.nil)
    go_simp
    have F2 := hid (Blk.new x3 _ _ : Blk (x3.alloc (.cells #[.int .i64 0, .int .i64 0, .int .i64 0, .slice none 0 0, .int .i64 0, .map none] 93)) x3.heap.size _ 93)
    have G3 := hid (Bw.alloc (Bw.refl x3) (.cells #[.int .i64 0, .int .i64 0, .int .i64 0, .slice none 0 0, .int .i64 0, .map none] 93))
    refine hK.out _ _ trivial ?_
    clear hK K
    try simp only [of5, Act.put, setIfInBounds_toArray, set_cons_zero, set_cons_succ]
    generalize World.alloc x3 (.cells #[.int .i64 0, .int .i64 0, .int .i64 0, .slice none 0 0, .int .i64 0, .map none] 93) = x4 at F2 G3 ⊢
    generalize hb2 : Array.size (World.heap x3) = b2 at F2 ⊢
    have E2 := hid (show x3.heap.size ≤ b2 by omega)
    have L2 := hid F2.out.lt
    clear hb2
    have HB4 := hid (HB3.out.trans G3.out)
    refine wpAnyW_take (i := 9) (oi := of9) (v := ?_) rfl (by kernel_rfl) (by kernel_rfl) (by kernel_rfl) (by kernel_rfl) (fun _ _ _ h => h) (Or.inl ⟨by rfl, fun w _ => ?_⟩) ?_
    rotate_left
    · (go_simp; first | done | with_reducible rfl)
    try simp only [of9, Act.put, setIfInBounds_toArray, set_cons_zero, set_cons_succ]
    have s0 := G0.out.size
    have s1 := G1.out.size
    have s2 := G2.out.size
    have s3 := G3.out.size
    have hx0 := HB0.out.size
    have e2 := E2.out
    have e5 := E5.out
    have e7 := E7.out
    have e8 := E8.out
    have l2 := L2.out
    have l5 := L5.out
    have l7 := L7.out
    have l8 := L8.out
    have NEW := hid (newR (cap := cap) (n := n) HLP.out HLL.out HB4.out HNC.out HPR.out (F2.out.bw (Bw.refl _)) (F5.out.bw G3.out) (F7.out.keep ((G1.out.trans (G2.out.trans G3.out)).block _ L7.out)) (F8.out.keep ((G2.out.trans G3.out).block _ L8.out)) (by omega) (by omega) (by omega) (by omega) ⟨by omega, by omega, by omega, by omega, by omega, by omega⟩)
    clear s0 s1 s2 s3 hx0 e2 e5 e7 e8 l2 l5 l7 l8
    refine wpAnyW_ready (rs := [10]) (by kernel_rfl) (by simp) ?_
    refine (AllReadyW.cons (o := of10) rfl (fun K hK => ?_) AllReadyW.nil)
    go_simp
    refine hK.out _ _ trivial ?_
    clear hK K
    try simp only [of10, Act.put, setIfInBounds_toArray, set_cons_zero, set_cons_succ]
    refine wpAnyW_take (i := 11) (oi := of11) (v := ?_) rfl (by kernel_rfl) (by kernel_rfl) (by kernel_rfl) (by kernel_rfl) (fun _ _ _ h => h) (Or.inl ⟨by rfl, fun w _ => ?_⟩) ?_
    rotate_left
    · (go_simp; first | done | with_reducible rfl)
    try simp only [of11, Act.put, setIfInBounds_toArray, set_cons_zero, set_cons_succ]
    refine wpAnyW_done (by kernel_rfl) ?_ _
    go_wp2
    all_goals go_ret
    all_goals obtain ⟨BN, hBN, hB0⟩ := NEW.out
    all_goals exact ⟨x4.heap.size, b7, BN, rfl, hBN, HB4.out.alloc _, hB0⟩
  refine (AllReadyW.cons (o := of8) rfl (fun K hK => ?_) AllReadyW.nil)
  go_simp
  have F8 := hid (MS.new x0)
  have G0 := hid (Bw.alloc (Bw.refl x0) (.map #[] 0))
  refine hK.out _ _ trivial ?_
  clear hK K
  try simp only [of8, Act.put, setIfInBounds_toArray, set_cons_zero, set_cons_succ]
  generalize World.alloc x0 (.map #[] 0) = x1 at F8 G0 ⊢
  generalize hb8 : Array.size (World.heap x0) = b8 at F8 ⊢
  have E8 := hid (show x0.heap.size ≤ b8 by omega)
  have L8 := hid F8.out.lt
  clear hb8
  have HB1 := hid (HB0.out.trans G0.out)
  refine wpAnyW_ready (rs := [2, 5, 7]) (by kernel_rfl) (by simp) ?_
  refine (AllReadyW.cons (o := of5) rfl (fun K hK => ?_) ?_)
  · go_simp
    have F2 := hid (Blk.new x1 _ _ : Blk (x1.alloc (.cells #[.int .i64 0, .int .i64 0, .int .i64 0, .slice none 0 0, .int .i64 0, .map none] 93)) x1.heap.size _ 93)
    have G1 := hid (Bw.alloc (Bw.refl x1) (.cells #[.int .i64 0, .int .i64 0, .int .i64 0, .slice none 0 0, .int .i64 0, .map none] 93))
    refine hK.out _ _ trivial ?_
    clear hK K
    try simp only [of5, Act.put, setIfInBounds_toArray, set_cons_zero, set_cons_succ]
    generalize World.alloc x1 (.cells #[.int .i64 0, .int .i64 0, .int .i64 0, .slice none 0 0, .int .i64 0, .map none] 93) = x2 at F2 G1 ⊢
    generalize hb2 : Array.size (World.heap x1) = b2 at F2 ⊢
    have E2 := hid (show x1.heap.size ≤ b2 by omega)
    have L2 := hid F2.out.lt
    clear hb2
    have HB2 := hid (HB1.out.trans G1.out)
    refine wpAnyW_ready (rs := [5, 7]) (by kernel_rfl) (by simp) ?_
    refine (AllReadyW.cons (o := of6) rfl (fun K hK => ?_) ?_)
    · go_simp
      have F5 := hid (Blk.new x2 _ _ : Blk (x2.alloc (.cells (rowP (List.replicate L.length (0, 0))).toArray 97)) x2.heap.size _ 97)
      have G2 := hid (Bw.alloc (Bw.refl x2) (.cells (rowP (List.replicate L.length (0, 0))).toArray 97))
      refine hK.out _ _ trivial ?_
      clear hK K
      try simp only [of6, Act.put, setIfInBounds_toArray, set_cons_zero, set_cons_succ]
      generalize World.alloc x2 (.cells (rowP (List.replicate L.length (0, 0))).toArray 97) = x3 at F5 G2 ⊢
      generalize hb5 : Array.size (World.heap x2) = b5 at F5 ⊢
      have E5 := hid (show x2.heap.size ≤ b5 by omega)
      have L5 := hid F5.out.lt
      clear hb5
      have HB3 := hid (HB2.out.trans G2.out)
      refine wpAnyW_ready (rs := [7]) (by kernel_rfl) (by simp) ?_
      refine (AllReadyW.cons (o := of7) rfl (fun K hK => ?_) AllReadyW.nil)
      go_simp
      refine (HGL.out x3 HB3.out).mono ?_
      rintro e' x4 ⟨b7, he', hs7, hm7, hb7⟩
      subst he'
      have F7 := hid hm7
      have G3 := hid hb7
      have E7 := hid hs7
      have L7 := hid hm7.lt
      clear hm7 hb7 hs7
      refine hK.out _ _ trivial ?_
      clear hK K
      try simp only [of7, Act.put, setIfInBounds_toArray, set_cons_zero, set_cons_succ]
      have HB4 := hid (HB3.out.trans G3.out)
      refine wpAnyW_take (i := 9) (oi := of9) (v := ?_) rfl (by kernel_rfl) (by kernel_rfl) (by kernel_rfl) (by kernel_rfl) (fun _ _ _ h => h) (Or.inl ⟨by rfl, fun w _ => ?_⟩) ?_
      rotate_left
      · (go_simp; first | done | with_reducible rfl)
      try simp only [of9, Act.put, setIfInBounds_toArray, set_cons_zero, set_cons_succ]
      have s0 := G0.out.size
      have s1 := G1.out.size
      have s2 := G2.out.size
      have s3 := G3.out.size
      have hx0 := HB0.out.size
      have e2 := E2.out
      have e5 := E5.out
      have e7 := E7.out
      have e8 := E8.out
      have l2 := L2.out
      have l5 := L5.out
      have l7 := L7.out
      have l8 := L8.out
      have NEW := hid (newR (cap := cap) (n := n) HLP.out HLL.out HB4.out HNC.out HPR.out (F2.out.bw (G2.out.trans G3.out)) (F5.out.bw G3.out) (F7.out.keep ((Bw.refl _).block _ L7.out)) (F8.out.keep ((G1.out.trans (G2.out.trans G3.out)).block _ L8.out)) (by omega) (by omega) (by omega) (by omega) ⟨by omega, by omega, by omega, by omega, by omega, by omega⟩)
      clear s0 s1 s2 s3 hx0 e2 e5 e7 e8 l2 l5 l7 l8
      refine wpAnyW_ready (rs := [10]) (by kernel_rfl) (by simp) ?_
      refine (AllReadyW.cons (o := of10) rfl (fun K hK => ?_) AllReadyW.nil)
      go_simp
      refine hK.out _ _ trivial ?_
      clear hK K
      try simp only [of10, Act.put, setIfInBounds_toArray, set_cons_zero, set_cons_succ]
      refine wpAnyW_take (i := 11) (oi := of11) (v := ?_) rfl (by kernel_rfl) (by kernel_rfl) (by kernel_rfl) (by kernel_rfl) (fun _ _ _ h => h) (Or.inl ⟨by rfl, fun w _ => ?_⟩) ?_
      rotate_left
      · (go_simp; first | done | with_reducible rfl)
      try simp only [of11, Act.put, setIfInBounds_toArray, set_cons_zero, set_cons_succ]
      refine wpAnyW_done (by kernel_rfl) ?_ _
      go_wp2
      all_goals go_ret
      all_goals obtain ⟨BN, hBN, hB0⟩ := NEW.out
      all_goals exact ⟨x4.heap.size, b7, BN, rfl, hBN, HB4.out.alloc _, hB0⟩
    refine (AllReadyW.cons (o := of7) rfl (fun K hK => ?_) AllReadyW.nil)
    go_simp
    refine (HGL.out x2 HB2.out).mono ?_
    rintro e' x3 ⟨b7, he', hs7, hm7, hb7⟩
    subst he'
    have F7 := hid hm7
    have G2 := hid hb7
    have E7 := hid hs7
    have L7 := hid hm7.lt
    clear hm7 hb7 hs7
    refine hK.out _ _ trivial ?_
    clear hK K
    try simp only [of7, Act.put, setIfInBounds_toArray, set_cons_zero, set_cons_succ]
    have HB3 := hid (HB2.out.trans G2.out)
    refine wpAnyW_ready (rs := [5]) (by kernel_rfl) (by simp) ?_
    refine (AllReadyW.cons (o := of6) rfl (fun K hK => ?_) AllReadyW.nil)
    go_simp
    have F5 := hid (Blk.new x3 _ _ : Blk (x3.alloc (.cells (rowP (List.replicate L.length (0, 0))).toArray 97)) x3.heap.size _ 97)
    have G3 := hid (Bw.alloc (Bw.refl x3) (.cells (rowP (List.replicate L.length (0, 0))).toArray 97))
    refine hK.out _ _ trivial ?_
    clear hK K
    try simp only [of6, Act.put, setIfInBounds_toArray, set_cons_zero, set_cons_succ]
    generalize World.alloc x3 (.cells (rowP (List.replicate L.length (0, 0))).toArray 97) = x4 at F5 G3 ⊢
    generalize hb5 : Array.size (World.heap x3) = b5 at F5 ⊢
    have E5 := hid (show x3.heap.size ≤ b5 by omega)
    have L5 := hid F5.out.lt
    clear hb5
    have HB4 := hid (HB3.out.trans G3.out)
    refine wpAnyW_take (i := 9) (oi := of9) (v := ?_) rfl (by kernel_rfl) (by kernel_rfl) (by kernel_rfl) (by kernel_rfl) (fun _ _ _ h => h) (Or.inl ⟨by rfl, fun w _ => ?_⟩) ?_
    rotate_left
    · (go_simp; first | done | with_reducible rfl)
    try simp only [of9, Act.put, setIfInBounds_toArray, set_cons_zero, set_cons_succ]
    have s0 := G0.out.size
    have s1 := G1.out.size
    have s2 := G2.out.size
    have s3 := G3.out.size
    have hx0 := HB0.out.size
    have e2 := E2.out
    have e5 := E5.out
    have e7 := E7.out
    have e8 := E8.out
    have l2 := L2.out
    have l5 := L5.out
    have l7 := L7.out
    have l8 := L8.out
    have NEW := hid (newR (cap := cap) (n := n) HLP.out HLL.out HB4.out HNC.out HPR.out (F2.out.bw (G2.out.trans G3.out)) (F5.out.bw (Bw.refl _)) (F7.out.keep (G3.out.block _ L7.out)) (F8.out.keep ((G1.out.trans (G2.out.trans G3.out)).block _ L8.out)) (by omega) (by omega) (by omega) (by omega) ⟨by omega, by omega, by omega, by omega, by omega, by omega⟩)
    clear s0 s1 s2 s3 hx0 e2 e5 e7 e8 l2 l5 l7 l8
    refine wpAnyW_ready (rs := [10]) (by kernel_rfl) (by simp) ?_
    refine (AllReadyW.cons (o := of10) rfl (fun K hK => ?_) AllReadyW.nil)
    go_simp
    refine hK.out _ _ trivial ?_
    clear hK K
    try simp only [of10, Act.put, setIfInBounds_toArray, set_cons_zero, set_cons_succ]
    refine wpAnyW_take (i := 11) (oi := of11) (v := ?_) rfl (by kernel_rfl) (by kernel_rfl) (by kernel_rfl) (by kernel_rfl) (fun _ _ _ h => h) (Or.inl ⟨by rfl, fun w _ => ?_⟩) ?_
    rotate_left
    · (go_simp; first | done | with_reducible rfl)
    try simp only [of11, Act.put, setIfInBounds_toArray, set_cons_zero, set_cons_succ]
    refine wpAnyW_done (by kernel_rfl) ?_ _
    go_wp2
    all_goals go_ret
    all_goals obtain ⟨BN, hBN, hB0⟩ := NEW.out
    all_goals exact ⟨x4.heap.size, b7, BN, rfl, hBN, HB4.out.alloc _, hB0⟩
  refine (AllReadyW.cons (o := of6) rfl (fun K hK => ?_) ?_)
  · go_simp
    have F5 := hid (Blk.new x1 _ _ : Blk (x1.alloc (.cells (rowP (List.replicate L.length (0, 0))).toArray 97)) x1.heap.size _ 97)
    have G1 := hid (Bw.alloc (Bw.refl x1) (.cells (rowP (List.replicate L.length (0, 0))).toArray 97))
    refine hK.out _ _ trivial ?_
    clear hK K
    try simp only [of6, Act.put, setIfInBounds_toArray, set_cons_zero, set_cons_succ]
    generalize World.alloc x1 (.cells (rowP (List.replicate L.length (0, 0))).toArray 97) = x2 at F5 G1 ⊢
    generalize hb5 : Array.size (World.heap x1) = b5 at F5 ⊢
    have E5 := hid (show x1.heap.size ≤ b5 by omega)
    have L5 := hid F5.out.lt
    clear hb5
    have HB2 := hid (HB1.out.trans G1.out)
    refine wpAnyW_ready (rs := [2, 7]) (by kernel_rfl) (by simp) ?_
    refine (AllReadyW.cons (o := of5) rfl (fun K hK => ?_) ?_)
    · go_simp
      have F2 := hid (Blk.new x2 _ _ : Blk (x2.alloc (.cells #[.int .i64 0, .int .i64 0, .int .i64 0, .slice none 0 0, .int .i64 0, .map none] 93)) x2.heap.size _ 93)
      have G2 := hid (Bw.alloc (Bw.refl x2) (.cells #[.int .i64 0, .int .i64 0, .int .i64 0, .slice none 0 0, .int .i64 0, .map none] 93))
      refine hK.out _ _ trivial ?_
      clear hK K
      try simp only [of5, Act.put, setIfInBounds_toArray, set_cons_zero, set_cons_succ]
      generalize World.alloc x2 (.cells #[.int .i64 0, .int .i64 0, .int .i64 0, .slice none 0 0, .int .i64 0, .map none] 93) = x3 at F2 G2 ⊢
      generalize hb2 : Array.size (World.heap x2) = b2 at F2 ⊢
      have E2 := hid (show x2.heap.size ≤ b2 by omega)
      have L2 := hid F2.out.lt
      clear hb2
      have HB3 := hid (HB2.out.trans G2.out)
      refine wpAnyW_ready (rs := [7]) (by kernel_rfl) (by simp) ?_
      refine (AllReadyW.cons (o := of7) rfl (fun K hK => ?_) AllReadyW.nil)
      go_simp
      refine (HGL.out x3 HB3.out).mono ?_
      rintro e' x4 ⟨b7, he', hs7, hm7, hb7⟩
      subst he'
      have F7 := hid hm7
      have G3 := hid hb7
      have E7 := hid hs7
      have L7 := hid hm7.lt
      clear hm7 hb7 hs7
      refine hK.out _ _ trivial ?_
      clear hK K
      try simp only [of7, Act.put, setIfInBounds_toArray, set_cons_zero, set_cons_succ]
      have HB4 := hid (HB3.out.trans G3.out)
      refine wpAnyW_take (i := 9) (oi := of9) (v := ?_) rfl (by kernel_rfl) (by kernel_rfl) (by kernel_rfl) (by kernel_rfl) (fun _ _ _ h => h) (Or.inl ⟨by rfl, fun w _ => ?_⟩) ?_
      rotate_left
      · (go_simp; first | done | with_reducible rfl)
      try simp only [of9, Act.put, setIfInBounds_toArray, set_cons_zero, set_cons_succ]
      have s0 := G0.out.size
      have s1 := G1.out.size
      have s2 := G2.out.size
      have s3 := G3.out.size
      have hx0 := HB0.out.size
      have e2 := E2.out
      have e5 := E5.out
      have e7 := E7.out
      have e8 := E8.out
      have l2 := L2.out
      have l5 := L5.out
      have l7 := L7.out
      have l8 := L8.out
      have NEW := hid (newR (cap := cap) (n := n) HLP.out HLL.out HB4.out HNC.out HPR.out (F2.out.bw G3.out) (F5.out.bw (G2.out.trans G3.out)) (F7.out.keep ((Bw.refl _).block _ L7.out)) (F8.out.keep ((G1.out.trans (G2.out.trans G3.out)).block _ L8.out)) (by omega) (by omega) (by omega) (by omega) ⟨by omega, by omega, by omega, by omega, by omega, by omega⟩)
      clear s0 s1 s2 s3 hx0 e2 e5 e7 e8 l2 l5 l7 l8
      refine wpAnyW_ready (rs := [10]) (by kernel_rfl) (by simp) ?_
      refine (AllReadyW.cons (o := of10) rfl (fun K hK => ?_) AllReadyW.nil)
      go_simp
      refine hK.out _ _ trivial ?_
      clear hK K
      try simp only [of10, Act.put, setIfInBounds_toArray, set_cons_zero, set_cons_succ]
      refine wpAnyW_take (i := 11) (oi := of11) (v := ?_) rfl (by kernel_rfl) (by kernel_rfl) (by kernel_rfl) (by kernel_rfl) (fun _ _ _ h => h) (Or.inl ⟨by rfl, fun w _ => ?_⟩) ?_
      rotate_left
      · (go_simp; first | done | with_reducible rfl)
      try simp only [of11, Act.put, setIfInBounds_toArray, set_cons_zero, set_cons_succ]
      refine wpAnyW_done (by kernel_rfl) ?_ _
      go_wp2
      all_goals go_ret
      all_goals obtain ⟨BN, hBN, hB0⟩ := NEW.out
      all_goals exact ⟨x4.heap.size, b7, BN, rfl, hBN, HB4.out.alloc _, hB0⟩
    refine (AllReadyW.cons (o := of7) rfl (fun K hK => ?_) AllReadyW.nil)
    go_simp
    refine (HGL.out x2 HB2.out).mono ?_
    rintro e' x3 ⟨b7, he', hs7, hm7, hb7⟩
    subst he'
    have F7 := hid hm7
    have G2 := hid hb7
    have E7 := hid hs7
    have L7 := hid hm7.lt
    clear hm7 hb7 hs7
    refine hK.out _ _ trivial ?_
    clear hK K
    try simp only [of7, Act.put, setIfInBounds_toArray, set_cons_zero, set_cons_succ]
    have HB3 := hid (HB2.out.trans G2.out)
    refine wpAnyW_ready (rs := [2]) (by kernel_rfl) (by simp) ?_
    refine (AllReadyW.cons (o := of5) rfl (fun K hK => ?_) AllReadyW.nil)
    go_simp
    have F2 := hid (Blk.new x3 _ _ : Blk (x3.alloc (.cells #[.int .i64 0, .int .i64 0, .int .i64 0, .slice none 0 0, .int .i64 0, .map none] 93)) x3.heap.size _ 93)
    have G3 := hid (Bw.alloc (Bw.refl x3) (.cells #[.int .i64 0, .int .i64 0, .int .i64 0, .slice none 0 0, .int .i64 0, .map none] 93))
    refine hK.out _ _ trivial ?_
    clear hK K
    try simp only [of5, Act.put, setIfInBounds_toArray, set_cons_zero, set_cons_succ]
    generalize World.alloc x3 (.cells #[.int .i64 0, .int .i64 0, .int .i64 0, .slice none 0 0, .int .i64 0, .map none] 93) = x4 at F2 G3 ⊢
    generalize hb2 : Array.size (World.heap x3) = b2 at F2 ⊢
    have E2 := hid (show x3.heap.size ≤ b2 by omega)
    have L2 := hid F2.out.lt
    clear hb2
    have HB4 := hid (HB3.out.trans G3.out)
    refine wpAnyW_take (i := 9) (oi := of9) (v := ?_) rfl (by kernel_rfl) (by kernel_rfl) (by kernel_rfl) (by kernel_rfl) (fun _ _ _ h => h) (Or.inl ⟨by rfl, fun w _ => ?_⟩) ?_
    rotate_left
    · (go_simp; first | done | with_reducible rfl)
    try simp only [of9, Act.put, setIfInBounds_toArray, set_cons_zero, set_cons_succ]
    have s0 := G0.out.size
    have s1 := G1.out.size
    have s2 := G2.out.size
    have s3 := G3.out.size
    have hx0 := HB0.out.size
    have e2 := E2.out
    have e5 := E5.out
    have e7 := E7.out
    have e8 := E8.out
    have l2 := L2.out
    have l5 := L5.out
    have l7 := L7.out
    have l8 := L8.out
    have NEW := hid (newR (cap := cap) (n := n) HLP.out HLL.out HB4.out HNC.out HPR.out (F2.out.bw (Bw.refl _)) (F5.out.bw (G2.out.trans G3.out)) (F7.out.keep (G3.out.block _ L7.out)) (F8.out.keep ((G1.out.trans (G2.out.trans G3.out)).block _ L8.out)) (by omega) (by omega) (by omega) (by omega) ⟨by omega, by omega, by omega, by omega, by omega, by omega⟩)
    clear s0 s1 s2 s3 hx0 e2 e5 e7 e8 l2 l5 l7 l8
    refine wpAnyW_ready (rs := [10]) (by kernel_rfl) (by simp) ?_
    refine (AllReadyW.cons (o := of10) rfl (fun K hK => ?_) AllReadyW.nil)
    go_simp
    refine hK.out _ _ trivial ?_
    clear hK K
    try simp only [of10, Act.put, setIfInBounds_toArray, set_cons_zero, set_cons_succ]
    refine wpAnyW_take (i := 11) (oi := of11) (v := ?_) rfl (by kernel_rfl) (by kernel_rfl) (by kernel_rfl) (by kernel_rfl) (fun _ _ _ h => h) (Or.inl ⟨by rfl, fun w _ => ?_⟩) ?_
    rotate_left
    · (go_simp; first | done | with_reducible rfl)
    try simp only [of11, Act.put, setIfInBounds_toArray, set_cons_zero, set_cons_succ]
    refine wpAnyW_done (by kernel_rfl) ?_ _
    go_wp2
    all_goals go_ret
    all_goals obtain ⟨BN, hBN, hB0⟩ := NEW.out
    all_goals exact ⟨x4.heap.size, b7, BN, rfl, hBN, HB4.out.alloc _, hB0⟩
  refine (AllReadyW.cons (o := of7) rfl (fun K hK => ?_) AllReadyW.nil)
  go_simp
  refine (HGL.out x1 HB1.out).mono ?_
  rintro e' x2 ⟨b7, he', hs7, hm7, hb7⟩
  subst he'
  have F7 := hid hm7
  have G1 := hid hb7
  have E7 := hid hs7
  have L7 := hid hm7.lt
  clear hm7 hb7 hs7
  refine hK.out _ _ trivial ?_
  clear hK K
  try simp only [of7, Act.put, setIfInBounds_toArray, set_cons_zero, set_cons_succ]
  have HB2 := hid (HB1.out.trans G1.out)
  refine wpAnyW_ready (rs := [2, 5]) (by kernel_rfl) (by simp) ?_
  refine (AllReadyW.cons (o := of5) rfl (fun K hK => ?_) ?_)
  · go_simp
    have F2 := hid (Blk.new x2 _ _ : Blk (x2.alloc (.cells #[.int .i64 0, .int .i64 0, .int .i64 0, .slice none 0 0, .int .i64 0, .map none] 93)) x2.heap.size _ 93)
    have G2 := hid (Bw.alloc (Bw.refl x2) (.cells #[.int .i64 0, .int .i64 0, .int .i64 0, .slice none 0 0, .int .i64 0, .map none] 93))
    refine hK.out _ _ trivial ?_
    clear hK K
    try simp only [of5, Act.put, setIfInBounds_toArray, set_cons_zero, set_cons_succ]
    generalize World.alloc x2 (.cells #[.int .i64 0, .int .i64 0, .int .i64 0, .slice none 0 0, .int .i64 0, .map none] 93) = x3 at F2 G2 ⊢
    generalize hb2 : Array.size (World.heap x2) = b2 at F2 ⊢
    have E2 := hid (show x2.heap.size ≤ b2 by omega)
    have L2 := hid F2.out.lt
    clear hb2
    have HB3 := hid (HB2.out.trans G2.out)
    refine wpAnyW_ready (rs := [5]) (by kernel_rfl) (by simp) ?_
    refine (AllReadyW.cons (o := of6) rfl (fun K hK => ?_) AllReadyW.nil)
    go_simp
    have F5 := hid (Blk.new x3 _ _ : Blk (x3.alloc (.cells (rowP (List.replicate L.length (0, 0))).toArray 97)) x3.heap.size _ 97)
    have G3 := hid (Bw.alloc (Bw.refl x3) (.cells (rowP (List.replicate L.length (0, 0))).toArray 97))
    refine hK.out _ _ trivial ?_
    clear hK K
    try simp only [of6, Act.put, setIfInBounds_toArray, set_cons_zero, set_cons_succ]
    generalize World.alloc x3 (.cells (rowP (List.replicate L.length (0, 0))).toArray 97) = x4 at F5 G3 ⊢
    generalize hb5 : Array.size (World.heap x3) = b5 at F5 ⊢
    have E5 := hid (show x3.heap.size ≤ b5 by omega)
    have L5 := hid F5.out.lt
    clear hb5
    have HB4 := hid (HB3.out.trans G3.out)
    refine wpAnyW_take (i := 9) (oi := of9) (v := ?_) rfl (by kernel_rfl) (by kernel_rfl) (by kernel_rfl) (by kernel_rfl) (fun _ _ _ h => h) (Or.inl ⟨by rfl, fun w _ => ?_⟩) ?_
    rotate_left
    · (go_simp; first | done | with_reducible rfl)
    try simp only [of9, Act.put, setIfInBounds_toArray, set_cons_zero, set_cons_succ]
    have s0 := G0.out.size
    have s1 := G1.out.size
    have s2 := G2.out.size
    have s3 := G3.out.size
    have hx0 := HB0.out.size
    have e2 := E2.out
    have e5 := E5.out
    have e7 := E7.out
    have e8 := E8.out
    have l2 := L2.out
    have l5 := L5.out
    have l7 := L7.out
    have l8 := L8.out
    have NEW := hid (newR (cap := cap) (n := n) HLP.out HLL.out HB4.out HNC.out HPR.out (F2.out.bw G3.out) (F5.out.bw (Bw.refl _)) (F7.out.keep ((G2.out.trans G3.out).block _ L7.out)) (F8.out.keep ((G1.out.trans (G2.out.trans G3.out)).block _ L8.out)) (by omega) (by omega) (by omega) (by omega) ⟨by omega, by omega, by omega, by omega, by omega, by omega⟩)
    clear s0 s1 s2 s3 hx0 e2 e5 e7 e8 l2 l5 l7 l8
    refine wpAnyW_ready (rs := [10]) (by kernel_rfl) (by simp) ?_
    refine (AllReadyW.cons (o := of10) rfl (fun K hK => ?_) AllReadyW.nil)
    go_simp
    refine hK.out _ _ trivial ?_
    clear hK K
    try simp only [of10, Act.put, setIfInBounds_toArray, set_cons_zero, set_cons_succ]
    refine wpAnyW_take (i := 11) (oi := of11) (v := ?_) rfl (by kernel_rfl) (by kernel_rfl) (by kernel_rfl) (by kernel_rfl) (fun _ _ _ h => h) (Or.inl ⟨by rfl, fun w _ => ?_⟩) ?_
    rotate_left
    · (go_simp; first | done | with_reducible rfl)
    try simp only [of11, Act.put, setIfInBounds_toArray, set_cons_zero, set_cons_succ]
    refine wpAnyW_done (by kernel_rfl) ?_ _
    go_wp2
    all_goals go_ret
    all_goals obtain ⟨BN, hBN, hB0⟩ := NEW.out
    all_goals exact ⟨x4.heap.size, b7, BN, rfl, hBN, HB4.out.alloc _, hB0⟩
  refine (AllReadyW.cons (o := of6) rfl (fun K hK => ?_) AllReadyW.nil)
  go_simp
  have F5 := hid (Blk.new x2 _ _ : Blk (x2.alloc (.cells (rowP (List.replicate L.length (0, 0))).toArray 97)) x2.heap.size _ 97)
  have G2 := hid (Bw.alloc (Bw.refl x2) (.cells (rowP (List.replicate L.length (0, 0))).toArray 97))
  refine hK.out _ _ trivial ?_
  clear hK K
  try simp only [of6, Act.put, setIfInBounds_toArray, set_cons_zero, set_cons_succ]
  generalize World.alloc x2 (.cells (rowP (List.replicate L.length (0, 0))).toArray 97) = x3 at F5 G2 ⊢
  generalize hb5 : Array.size (World.heap x2) = b5 at F5 ⊢
  have E5 := hid (show x2.heap.size ≤ b5 by omega)
  have L5 := hid F5.out.lt
  clear hb5
  have HB3 := hid (HB2.out.trans G2.out)
  refine wpAnyW_ready (rs := [2]) (by kernel_rfl) (by simp) ?_
  refine (AllReadyW.cons (o := of5) rfl (fun K hK => ?_) AllReadyW.nil)
  go_simp
  have F2 := hid (Blk.new x3 _ _ : Blk (x3.alloc (.cells #[.int .i64 0, .int .i64 0, .int .i64 0, .slice none 0 0, .int .i64 0, .map none] 93)) x3.heap.size _ 93)
  have G3 := hid (Bw.alloc (Bw.refl x3) (.cells #[.int .i64 0, .int .i64 0, .int .i64 0, .slice none 0 0, .int .i64 0, .map none] 93))
  refine hK.out _ _ trivial ?_
  clear hK K
  try simp only [of5, Act.put, setIfInBounds_toArray, set_cons_zero, set_cons_succ]
  generalize World.alloc x3 (.cells #[.int .i64 0, .int .i64 0, .int .i64 0, .slice none 0 0, .int .i64 0, .map none] 93) = x4 at F2 G3 ⊢
  generalize hb2 : Array.size (World.heap x3) = b2 at F2 ⊢
  have E2 := hid (show x3.heap.size ≤ b2 by omega)
  have L2 := hid F2.out.lt
  clear hb2
  have HB4 := hid (HB3.out.trans G3.out)
  refine wpAnyW_take (i := 9) (oi := of9) (v := ?_) rfl (by kernel_rfl) (by kernel_rfl) (by kernel_rfl) (by kernel_rfl) (fun _ _ _ h => h) (Or.inl ⟨by rfl, fun w _ => ?_⟩) ?_
  rotate_left
  · (go_simp; first | done | with_reducible rfl)
  try simp only [of9, Act.put, setIfInBounds_toArray, set_cons_zero, set_cons_succ]
  have s0 := G0.out.size
  have s1 := G1.out.size
  have s2 := G2.out.size
  have s3 := G3.out.size
  have hx0 := HB0.out.size
  have e2 := E2.out
  have e5 := E5.out
  have e7 := E7.out
  have e8 := E8.out
  have l2 := L2.out
  have l5 := L5.out
  have l7 := L7.out
  have l8 := L8.out
  have NEW := hid (newR (cap := cap) (n := n) HLP.out HLL.out HB4.out HNC.out HPR.out (F2.out.bw (Bw.refl _)) (F5.out.bw G3.out) (F7.out.keep ((G2.out.trans G3.out).block _ L7.out)) (F8.out.keep ((G1.out.trans (G2.out.trans G3.out)).block _ L8.out)) (by omega) (by omega) (by omega) (by omega) ⟨by omega, by omega, by omega, by omega, by omega, by omega⟩)
  clear s0 s1 s2 s3 hx0 e2 e5 e7 e8 l2 l5 l7 l8
  refine wpAnyW_ready (rs := [10]) (by kernel_rfl) (by simp) ?_
  refine (AllReadyW.cons (o := of10) rfl (fun K hK => ?_) AllReadyW.nil)
  go_simp
  refine hK.out _ _ trivial ?_
  clear hK K
  try simp only [of10, Act.put, setIfInBounds_toArray, set_cons_zero, set_cons_succ]
  refine wpAnyW_take (i := 11) (oi := of11) (v := ?_) rfl (by kernel_rfl) (by kernel_rfl) (by kernel_rfl) (by kernel_rfl) (fun _ _ _ h => h) (Or.inl ⟨by rfl, fun w _ => ?_⟩) ?_
  rotate_left
  · (go_simp; first | done | with_reducible rfl)
  try simp only [of11, Act.put, setIfInBounds_toArray, set_cons_zero, set_cons_succ]
  refine wpAnyW_done (by kernel_rfl) ?_ _
  go_wp2
  all_goals go_ret
  all_goals obtain ⟨BN, hBN, hB0⟩ := NEW.out
  all_goals exact ⟨x4.heap.size, b7, BN, rfl, hBN, HB4.out.alloc _, hB0⟩

end Go.Proofs.YtekkjpecdflajaaDoor
