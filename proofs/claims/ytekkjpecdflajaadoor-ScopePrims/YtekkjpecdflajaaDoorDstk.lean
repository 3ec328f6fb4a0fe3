/- The document's parser: statement, all ways but fn: contracts, by steps. -/
import Derived.Test.YtekkjpecdflajaaDoorM7
import Derived.Test.YtekkjpecdflajaaDoorM11
set_option linter.unusedSimpArgs false
set_option linter.unusedVariables false
namespace Go.Proofs.YtekkjpecdflajaaDoor
open Go Go.RowKit
open List (setIfInBounds_toArray set_cons_zero set_cons_succ)

@[go_sem] def oa0 : Oper := { dst := some 23, op := Op.move (Operand.tmp 0), type := 52, pos := "ref.go:158", after := #[], guard := none }
@[go_sem] def oa1 : Oper := { dst := some 24, op := Op.call { callee := Callee.value (Operand.func 28), args := #[Operand.tmp 23, Operand.const (Value.string { data := #[102, 110] })], argTypes := #[52, 9] }, type := 4, pos := "ref.go:158", after := #[{ on := 0, ground := Ground.data }], guard := none }
@[go_sem] def oa2 : Oper := { dst := some 25, op := Op.move (Operand.tmp 24), type := 4, pos := "ref.go:158", after := #[{ on := 1, ground := Ground.data }, { on := 1, ground := Ground.chain }], guard := none }
@[go_sem] def oa3 : Oper := { dst := some 26, op := Op.move (Operand.tmp 0), type := 52, pos := "ref.go:158", after := #[{ on := 2, ground := Ground.guard }], guard := some (2, true) }
@[go_sem] def oa4 : Oper := { dst := some 27, op := Op.nilCheck (Operand.tmp 26), type := 0, pos := "ref.go:158", after := #[{ on := 3, ground := Ground.data }, { on := 2, ground := Ground.guard }], guard := some (2, true) }
@[go_sem] def oa5 : Oper := { dst := some 28, op := Op.fieldAddr 54 (Operand.tmp 27) 0, type := 0, pos := "ref.go:158", after := #[{ on := 4, ground := Ground.data }, { on := 2, ground := Ground.guard }], guard := some (2, true) }
@[go_sem] def oa6 : Oper := { dst := some 29, op := Op.load 49 (Operand.tmp 28), type := 49, pos := "ref.go:158", after := #[{ on := 5, ground := Ground.data }, { on := 2, ground := Ground.guard }], guard := some (2, true) }
@[go_sem] def oa7 : Oper := { dst := some 30, op := Op.move (Operand.tmp 0), type := 52, pos := "ref.go:158", after := #[{ on := 2, ground := Ground.guard }], guard := some (2, true) }
@[go_sem] def oa8 : Oper := { dst := some 31, op := Op.nilCheck (Operand.tmp 30), type := 0, pos := "ref.go:158", after := #[{ on := 7, ground := Ground.data }, { on := 2, ground := Ground.guard }], guard := some (2, true) }
@[go_sem] def oa9 : Oper := { dst := some 32, op := Op.fieldAddr 54 (Operand.tmp 31) 1, type := 0, pos := "ref.go:158", after := #[{ on := 8, ground := Ground.data }, { on := 2, ground := Ground.guard }], guard := some (2, true) }
@[go_sem] def oa10 : Oper := { dst := some 33, op := Op.load 3 (Operand.tmp 32), type := 3, pos := "ref.go:158", after := #[{ on := 9, ground := Ground.data }, { on := 2, ground := Ground.guard }], guard := some (2, true) }
@[go_sem] def oa11 : Oper := { dst := some 34, op := Op.binOp BinOp.add 3 (Operand.tmp 33) (Operand.const (Value.int IntKind.i64 1)) 3, type := 3, pos := "ref.go:158", after := #[{ on := 10, ground := Ground.data }, { on := 2, ground := Ground.guard }], guard := some (2, true) }
@[go_sem] def oa12 : Oper := { dst := some 35, op := Op.indexAddr 49 (Operand.tmp 29) (Operand.tmp 34), type := 0, pos := "ref.go:158", after := #[{ on := 6, ground := Ground.data }, { on := 11, ground := Ground.data }, { on := 2, ground := Ground.guard }], guard := some (2, true) }
@[go_sem] def oa13 : Oper := { dst := some 36, op := Op.fieldAddr 56 (Operand.tmp 35) 0, type := 0, pos := "ref.go:158", after := #[{ on := 12, ground := Ground.data }, { on := 2, ground := Ground.guard }], guard := some (2, true) }
@[go_sem] def oa14 : Oper := { dst := some 37, op := Op.load 3 (Operand.tmp 36), type := 3, pos := "ref.go:158", after := #[{ on := 13, ground := Ground.data }, { on := 2, ground := Ground.guard }], guard := some (2, true) }
@[go_sem] def oa15 : Oper := { dst := some 38, op := Op.binOp BinOp.eql 3 (Operand.tmp 37) (Operand.const (Value.int IntKind.i64 1)) 3, type := 4, pos := "ref.go:158", after := #[{ on := 14, ground := Ground.data }, { on := 2, ground := Ground.guard }], guard := some (2, true) }
@[go_sem] def oa16 : Oper := { dst := some 39, op := Op.pick (Operand.tmp 25) (Operand.tmp 38) (Operand.const (Value.bool false)), type := 4, pos := "ref.go:158", after := #[{ on := 2, ground := Ground.data }, { on := 15, ground := Ground.data }], guard := none }
@[go_sem] def oa17 : Oper := { dst := some 22, op := Op.assign (Operand.tmp 39), type := 4, pos := "ref.go:158", after := #[{ on := 16, ground := Ground.data }, { on := 2, ground := Ground.chain }], guard := none }

section
attribute [local irreducible] dIs
variable {w w' : World} {r f : Nat} {T : List ATok} {o : Int} {s s' : DS} {l : List ANode} {k : Int}

set_option maxRecDepth 100000 in
set_option maxHeartbeats 8000000 in
theorem stmt_block  (y : dIs T s ⟨#[123]⟩ = true) (HV : ∀ w1 : World, RdM w1 r T o s → Calls Tryd.prog 29 #[.pointer (some ⟨r, 0, none⟩)] w1 (DG w1 r T o l s')) (hr : RdM w r T o s) : Calls Tryd.prog 14 #[.pointer (some ⟨r, 0, none⟩)] w (DG w r T o l s') := by
  have HR := hid hr
  have hrl := hr.lt
  have HAT := hid (fun w1 (hw : Bw w w1) => dat_any (hr.bw hw))
  have y := hid y
  have HV := hid HV
  clear hr
  unfold DG at *
  generalize dAt T s = p0 at *
  go_enter Tryd.func14, Tryd.ntmps14
  go_wp2_with (first
    | (go_at_call 27; (fail_if_success (have _g := B1)); refine (HAT.out _ (Bw.refl _)).mono ?_; rintro e wa ⟨rfl, hb1⟩; have B1 := hid hb1; have hra : w.heap.size ≤ wa.heap.size := hb1.size; have R := hid (HR.out.bw hb1); have KP := hid (Kp.of_bw (r := r) hb1); clear hb1)
    | (go_at_call 28; (fail_if_success (have _g := m0)); have m0 := hid trivial; refine (is_yes ⟨#[123]⟩ (R.out.bw (by repeat (first | exact Bw.refl _ | apply Bw.alloc | apply Bw.drewN | apply Bw.drew))) y.out).mono ?_; rintro e w1 ⟨rfl, hr1, hk1⟩; have KP := hid (show Kp r w w1 from KP.out.trans (Kp.trans (Kp.of_bw (by repeat (first | exact Bw.refl _ | apply Bw.alloc | apply Bw.drewN | apply Bw.drew))) hk1)); have R := hid hr1; have P := hid (show Blk w1 wa.heap.size #[.int .i64 0, .int .i64 0, .string { data := #[] }, .int .i64 0, .int .i64 p0] 60 from (Blk.new wa _ _).kp hk1 (by omega)); have ul := P.out.lt; have uc := P.out.cell; have uf := P.out.free; have ur : r < w1.heap.size := R.out.lt; clear hr1 hk1)
    | (go_at_call 29; (fail_if_success (have _g := m20)); have m20 := hid trivial; refine (HV.out _ (R.out.bw (by repeat (first | exact Bw.refl _ | apply Bw.alloc | apply Bw.drewN | apply Bw.drew)))).mono ?_; rintro e w2 ⟨a2, c2, rfl, hn2, hr2, hk2, hl2⟩; have N := hid (hn2.low (b' := w.heap.size) (Nat.le_trans KP.out.size (by first | (simp; done) | exact Nat.le_refl _))); have KP := hid (show Kp r w w2 from KP.out.trans (Kp.trans (Kp.of_bw (by repeat (first | exact Bw.refl _ | apply Bw.alloc | apply Bw.drewN | apply Bw.drew))) hk2)); have R := hid hr2; have L := hid hl2; clear hn2 hr2 hk2 hl2)
    | fail)
  all_goals go_ret
  all_goals exact ⟨_, _, rfl, N.out, R.out, KP.out, L.out⟩

set_option maxRecDepth 100000 in
set_option maxHeartbeats 8000000 in
theorem stmt_choice (i0 : dIs T s ⟨#[123]⟩ = false) (y : dIs T s ⟨#[105, 102]⟩ = true) (HV : ∀ w1 : World, RdM w1 r T o s → Calls Tryd.prog 30 #[.pointer (some ⟨r, 0, none⟩)] w1 (DG w1 r T o l s')) (hr : RdM w r T o s) : Calls Tryd.prog 14 #[.pointer (some ⟨r, 0, none⟩)] w (DG w r T o l s') := by
  have HR := hid hr
  have hrl := hr.lt
  have HAT := hid (fun w1 (hw : Bw w w1) => dat_any (hr.bw hw))
  have i0 := hid i0
  have y := hid y
  have HV := hid HV
  clear hr
  unfold DG at *
  generalize dAt T s = p0 at *
  go_enter Tryd.func14, Tryd.ntmps14
  go_wp2_with (first
    | (go_at_call 27; (fail_if_success (have _g := B1)); refine (HAT.out _ (Bw.refl _)).mono ?_; rintro e wa ⟨rfl, hb1⟩; have B1 := hid hb1; have hra : w.heap.size ≤ wa.heap.size := hb1.size; have R := hid (HR.out.bw hb1); have KP := hid (Kp.of_bw (r := r) hb1); clear hb1)
    | (go_at_call 28; (fail_if_success (have _g := m0)); have m0 := hid trivial; refine (is_no ⟨#[123]⟩ (R.out.bw (by repeat (first | exact Bw.refl _ | apply Bw.alloc | apply Bw.drewN | apply Bw.drew))) i0.out).mono ?_; rintro e w1 ⟨rfl, hr1, hk1⟩; have KP := hid (show Kp r w w1 from KP.out.trans (Kp.trans (Kp.of_bw (by repeat (first | exact Bw.refl _ | apply Bw.alloc | apply Bw.drewN | apply Bw.drew))) hk1)); have R := hid hr1; have P := hid (show Blk w1 wa.heap.size #[.int .i64 0, .int .i64 0, .string { data := #[] }, .int .i64 0, .int .i64 p0] 60 from (Blk.new wa _ _).kp hk1 (by omega)); have ul := P.out.lt; have uc := P.out.cell; have uf := P.out.free; have ur : r < w1.heap.size := R.out.lt; clear hr1 hk1)
    | (go_at_call 28; have _g := m0; clear _g; (fail_if_success (have _g := m1)); have m1 := hid trivial; refine (is_yes ⟨#[105, 102]⟩ (R.out.bw (by repeat (first | exact Bw.refl _ | apply Bw.alloc | apply Bw.drewN | apply Bw.drew))) y.out).mono ?_; clear ul uc uf ur; rintro e w1 ⟨rfl, hr1, hk1⟩; have KP := hid (show Kp r w w1 from KP.out.trans (Kp.trans (Kp.of_bw (by repeat (first | exact Bw.refl _ | apply Bw.alloc | apply Bw.drewN | apply Bw.drew))) hk1)); have P := hid (show Blk w1 wa.heap.size #[.int .i64 0, .int .i64 0, .string { data := #[] }, .int .i64 0, .int .i64 p0] 60 from P.out.kp (Kp.trans (Kp.of_bw (by repeat (first | exact Bw.refl _ | apply Bw.alloc | apply Bw.drewN | apply Bw.drew))) hk1) (by omega)); have R := hid hr1; have ul := P.out.lt; have uc := P.out.cell; have uf := P.out.free; have ur : r < w1.heap.size := R.out.lt; clear hr1 hk1)
    | (go_at_call 30; (fail_if_success (have _g := m20)); have m20 := hid trivial; refine (HV.out _ (R.out.bw (by repeat (first | exact Bw.refl _ | apply Bw.alloc | apply Bw.drewN | apply Bw.drew)))).mono ?_; rintro e w2 ⟨a2, c2, rfl, hn2, hr2, hk2, hl2⟩; have N := hid (hn2.low (b' := w.heap.size) (Nat.le_trans KP.out.size (by first | (simp; done) | exact Nat.le_refl _))); have KP := hid (show Kp r w w2 from KP.out.trans (Kp.trans (Kp.of_bw (by repeat (first | exact Bw.refl _ | apply Bw.alloc | apply Bw.drewN | apply Bw.drew))) hk2)); have R := hid hr2; have L := hid hl2; clear hn2 hr2 hk2 hl2)
    | fail)
  all_goals go_ret
  all_goals exact ⟨_, _, rfl, N.out, R.out, KP.out, L.out⟩

set_option maxRecDepth 100000 in
set_option maxHeartbeats 8000000 in
theorem stmt_plain (i0 : dIs T s ⟨#[123]⟩ = false) (i1 : dIs T s ⟨#[105, 102]⟩ = false) (i2 : dIs T s ⟨#[102, 110]⟩ = false) (i3 : dIs T s ⟨#[118, 97, 114]⟩ = false) (i4 : dIs T s ⟨#[119, 104, 105, 108, 101]⟩ = false) (i5 : dIs T s ⟨#[98, 114, 101, 97, 107]⟩ = false) (i6 : dIs T s ⟨#[99, 111, 110, 116, 105, 110, 117, 101]⟩ = false) (i7 : dIs T s ⟨#[114, 101, 116, 117, 114, 110]⟩ = false) (i8 : dIs T s ⟨#[116, 104, 114, 111, 119]⟩ = false) (i9 : dIs T s ⟨#[116, 114, 121]⟩ = false) (HV : ∀ w1 : World, RdM w1 r T o s → Calls Tryd.prog 37 #[.pointer (some ⟨r, 0, none⟩)] w1 (DG w1 r T o l s')) (hr : RdM w r T o s) : Calls Tryd.prog 14 #[.pointer (some ⟨r, 0, none⟩)] w (DG w r T o l s') := by
  have HR := hid hr
  have hrl := hr.lt
  have HAT := hid (fun w1 (hw : Bw w w1) => dat_any (hr.bw hw))
  have i0 := hid i0
  have i1 := hid i1
  have i2 := hid i2
  have i3 := hid i3
  have i4 := hid i4
  have i5 := hid i5
  have i6 := hid i6
  have i7 := hid i7
  have i8 := hid i8
  have i9 := hid i9
  have HV := hid HV
  clear hr
  unfold DG at *
  generalize dAt T s = p0 at *
  go_enter Tryd.func14, Tryd.ntmps14
  go_wp2_with (first
    | (go_at_call 27; (fail_if_success (have _g := B1)); refine (HAT.out _ (Bw.refl _)).mono ?_; rintro e wa ⟨rfl, hb1⟩; have B1 := hid hb1; have hra : w.heap.size ≤ wa.heap.size := hb1.size; have R := hid (HR.out.bw hb1); have KP := hid (Kp.of_bw (r := r) hb1); clear hb1)
    | (go_at_call 28; (fail_if_success (have _g := m0)); have m0 := hid trivial; refine (is_no ⟨#[123]⟩ (R.out.bw (by repeat (first | exact Bw.refl _ | apply Bw.alloc | apply Bw.drewN | apply Bw.drew))) i0.out).mono ?_; rintro e w1 ⟨rfl, hr1, hk1⟩; have KP := hid (show Kp r w w1 from KP.out.trans (Kp.trans (Kp.of_bw (by repeat (first | exact Bw.refl _ | apply Bw.alloc | apply Bw.drewN | apply Bw.drew))) hk1)); have R := hid hr1; have P := hid (show Blk w1 wa.heap.size #[.int .i64 0, .int .i64 0, .string { data := #[] }, .int .i64 0, .int .i64 p0] 60 from (Blk.new wa _ _).kp hk1 (by omega)); have ul := P.out.lt; have uc := P.out.cell; have uf := P.out.free; have ur : r < w1.heap.size := R.out.lt; clear hr1 hk1)
    | (go_at_call 28; have _g := m0; clear _g; (fail_if_success (have _g := m1)); have m1 := hid trivial; refine (is_no ⟨#[105, 102]⟩ (R.out.bw (by repeat (first | exact Bw.refl _ | apply Bw.alloc | apply Bw.drewN | apply Bw.drew))) i1.out).mono ?_; clear ul uc uf ur; rintro e w1 ⟨rfl, hr1, hk1⟩; have KP := hid (show Kp r w w1 from KP.out.trans (Kp.trans (Kp.of_bw (by repeat (first | exact Bw.refl _ | apply Bw.alloc | apply Bw.drewN | apply Bw.drew))) hk1)); have P := hid (show Blk w1 wa.heap.size #[.int .i64 0, .int .i64 0, .string { data := #[] }, .int .i64 0, .int .i64 p0] 60 from P.out.kp (Kp.trans (Kp.of_bw (by repeat (first | exact Bw.refl _ | apply Bw.alloc | apply Bw.drewN | apply Bw.drew))) hk1) (by omega)); have R := hid hr1; have ul := P.out.lt; have uc := P.out.cell; have uf := P.out.free; have ur : r < w1.heap.size := R.out.lt; clear hr1 hk1)
    | fail)
  refine wp_region_W (fun _ => True) (fun j => if j == 1 then 0 else 1) (by kernel_rfl) ?_
  refine wpAnyW_take (i := 0) (oi := oa0) (v := ?_) rfl (by kernel_rfl) (by kernel_rfl) (by kernel_rfl) (by kernel_rfl) (fun _ _ _ h => h) (Or.inl ⟨by rfl, fun w _ => ?_⟩) ?_
  rotate_left
  · (go_simp; first | done | with_reducible rfl)
  try simp only [oa0, Act.put, setIfInBounds_toArray, set_cons_zero, set_cons_succ]
  refine wpAnyW_ready (rs := [1]) (by kernel_rfl) (by simp) ?_
  refine (AllReadyW.cons (o := oa1) rfl (fun K hK => ?_) AllReadyW.nil)
  go_simp
  have m2 := hid trivial
  refine (is_no ⟨#[102, 110]⟩ (R.out.bw (by repeat (first | exact Bw.refl _ | apply Bw.alloc | apply Bw.drewN | apply Bw.drew))) i2.out).mono ?_
  clear ul uc uf ur
  rintro e w1 ⟨he1, hr1, hk1⟩
  subst he1
  have KP := hid (show Kp r w w1 from KP.out.trans (Kp.trans (Kp.of_bw (by repeat (first | exact Bw.refl _ | apply Bw.alloc | apply Bw.drewN | apply Bw.drew))) hk1))
  have P := hid (show Blk w1 wa.heap.size #[.int .i64 0, .int .i64 0, .string { data := #[] }, .int .i64 0, .int .i64 p0] 60 from P.out.kp (Kp.trans (Kp.of_bw (by repeat (first | exact Bw.refl _ | apply Bw.alloc | apply Bw.drewN | apply Bw.drew))) hk1) (by omega))
  have R := hid hr1
  have ul := P.out.lt
  have uc := P.out.cell
  have uf := P.out.free
  have ur : r < w1.heap.size := R.out.lt
  clear hr1 hk1
  refine hK.out _ _ trivial ?_
  clear hK K
  try simp only [oa1, Act.put, setIfInBounds_toArray, set_cons_zero, set_cons_succ]
  refine wpAnyW_take (i := 2) (oi := oa2) (v := ?_) rfl (by kernel_rfl) (by kernel_rfl) (by kernel_rfl) (by kernel_rfl) (fun _ _ _ h => h) (Or.inl ⟨by rfl, fun w _ => ?_⟩) ?_
  rotate_left
  · (go_simp; first | done | with_reducible rfl)
  try simp only [oa2, Act.put, setIfInBounds_toArray, set_cons_zero, set_cons_succ]
  refine wpAnyW_take (i := 3) (oi := oa3) (v := undef) rfl (by kernel_rfl) (by kernel_rfl) (by kernel_rfl) (by kernel_rfl) (fun _ _ _ h => h) (Or.inr ⟨by rfl, rfl⟩) ?_
  try simp only [oa3, Act.put, setIfInBounds_toArray, set_cons_zero, set_cons_succ]
  refine wpAnyW_take (i := 4) (oi := oa4) (v := undef) rfl (by kernel_rfl) (by kernel_rfl) (by kernel_rfl) (by kernel_rfl) (fun _ _ _ h => h) (Or.inr ⟨by rfl, rfl⟩) ?_
  try simp only [oa4, Act.put, setIfInBounds_toArray, set_cons_zero, set_cons_succ]
  refine wpAnyW_take (i := 5) (oi := oa5) (v := undef) rfl (by kernel_rfl) (by kernel_rfl) (by kernel_rfl) (by kernel_rfl) (fun _ _ _ h => h) (Or.inr ⟨by rfl, rfl⟩) ?_
  try simp only [oa5, Act.put, setIfInBounds_toArray, set_cons_zero, set_cons_succ]
  refine wpAnyW_take (i := 6) (oi := oa6) (v := undef) rfl (by kernel_rfl) (by kernel_rfl) (by kernel_rfl) (by kernel_rfl) (fun _ _ _ h => h) (Or.inr ⟨by rfl, rfl⟩) ?_
  try simp only [oa6, Act.put, setIfInBounds_toArray, set_cons_zero, set_cons_succ]
  refine wpAnyW_take (i := 7) (oi := oa7) (v := undef) rfl (by kernel_rfl) (by kernel_rfl) (by kernel_rfl) (by kernel_rfl) (fun _ _ _ h => h) (Or.inr ⟨by rfl, rfl⟩) ?_
  try simp only [oa7, Act.put, setIfInBounds_toArray, set_cons_zero, set_cons_succ]
  refine wpAnyW_take (i := 8) (oi := oa8) (v := undef) rfl (by kernel_rfl) (by kernel_rfl) (by kernel_rfl) (by kernel_rfl) (fun _ _ _ h => h) (Or.inr ⟨by rfl, rfl⟩) ?_
  try simp only [oa8, Act.put, setIfInBounds_toArray, set_cons_zero, set_cons_succ]
  refine wpAnyW_take (i := 9) (oi := oa9) (v := undef) rfl (by kernel_rfl) (by kernel_rfl) (by kernel_rfl) (by kernel_rfl) (fun _ _ _ h => h) (Or.inr ⟨by rfl, rfl⟩) ?_
  try simp only [oa9, Act.put, setIfInBounds_toArray, set_cons_zero, set_cons_succ]
  refine wpAnyW_take (i := 10) (oi := oa10) (v := undef) rfl (by kernel_rfl) (by kernel_rfl) (by kernel_rfl) (by kernel_rfl) (fun _ _ _ h => h) (Or.inr ⟨by rfl, rfl⟩) ?_
  try simp only [oa10, Act.put, setIfInBounds_toArray, set_cons_zero, set_cons_succ]
  refine wpAnyW_take (i := 11) (oi := oa11) (v := undef) rfl (by kernel_rfl) (by kernel_rfl) (by kernel_rfl) (by kernel_rfl) (fun _ _ _ h => h) (Or.inr ⟨by rfl, rfl⟩) ?_
  try simp only [oa11, Act.put, setIfInBounds_toArray, set_cons_zero, set_cons_succ]
  refine wpAnyW_take (i := 12) (oi := oa12) (v := undef) rfl (by kernel_rfl) (by kernel_rfl) (by kernel_rfl) (by kernel_rfl) (fun _ _ _ h => h) (Or.inr ⟨by rfl, rfl⟩) ?_
  try simp only [oa12, Act.put, setIfInBounds_toArray, set_cons_zero, set_cons_succ]
  refine wpAnyW_take (i := 13) (oi := oa13) (v := undef) rfl (by kernel_rfl) (by kernel_rfl) (by kernel_rfl) (by kernel_rfl) (fun _ _ _ h => h) (Or.inr ⟨by rfl, rfl⟩) ?_
  try simp only [oa13, Act.put, setIfInBounds_toArray, set_cons_zero, set_cons_succ]
  refine wpAnyW_take (i := 14) (oi := oa14) (v := undef) rfl (by kernel_rfl) (by kernel_rfl) (by kernel_rfl) (by kernel_rfl) (fun _ _ _ h => h) (Or.inr ⟨by rfl, rfl⟩) ?_
  try simp only [oa14, Act.put, setIfInBounds_toArray, set_cons_zero, set_cons_succ]
  refine wpAnyW_take (i := 15) (oi := oa15) (v := undef) rfl (by kernel_rfl) (by kernel_rfl) (by kernel_rfl) (by kernel_rfl) (fun _ _ _ h => h) (Or.inr ⟨by rfl, rfl⟩) ?_
  try simp only [oa15, Act.put, setIfInBounds_toArray, set_cons_zero, set_cons_succ]
  refine wpAnyW_take (i := 16) (oi := oa16) (v := ?_) rfl (by kernel_rfl) (by kernel_rfl) (by kernel_rfl) (by kernel_rfl) (fun _ _ _ h => h) (Or.inl ⟨by rfl, fun w _ => ?_⟩) ?_
  rotate_left
  · (go_simp; first | done | with_reducible rfl)
  try simp only [oa16, Act.put, setIfInBounds_toArray, set_cons_zero, set_cons_succ]
  refine wpAnyW_take (i := 17) (oi := oa17) (v := ?_) rfl (by kernel_rfl) (by kernel_rfl) (by kernel_rfl) (by kernel_rfl) (fun _ _ _ h => h) (Or.inl ⟨by rfl, fun w _ => ?_⟩) ?_
  rotate_left
  · (go_simp; first | done | with_reducible rfl)
  try simp only [oa17, Act.put, setIfInBounds_toArray, set_cons_zero, set_cons_succ]
  refine wpAnyW_done (by kernel_rfl) ?_ _
  all_goals go_wp2_with (first
    | (go_at_call 33; have _g := m2; clear _g; (fail_if_success (have _g := m3)); have m3 := hid trivial; refine (eat_no ⟨#[118, 97, 114]⟩ (R.out.bw (by repeat (first | exact Bw.refl _ | apply Bw.alloc | apply Bw.drewN | apply Bw.drew))) i3.out).mono ?_; clear ul uc uf ur; rintro e w1 ⟨rfl, hr1, hk1⟩; have KP := hid (show Kp r w w1 from KP.out.trans (Kp.trans (Kp.of_bw (by repeat (first | exact Bw.refl _ | apply Bw.alloc | apply Bw.drewN | apply Bw.drew))) hk1)); have P := hid (show Blk w1 wa.heap.size #[.int .i64 0, .int .i64 0, .string { data := #[] }, .int .i64 0, .int .i64 p0] 60 from P.out.kp (Kp.trans (Kp.of_bw (by repeat (first | exact Bw.refl _ | apply Bw.alloc | apply Bw.drewN | apply Bw.drew))) hk1) (by omega)); have R := hid hr1; have ul := P.out.lt; have uc := P.out.cell; have uf := P.out.free; have ur : r < w1.heap.size := R.out.lt; clear hr1 hk1)
    | (go_at_call 33; have _g := m3; clear _g; (fail_if_success (have _g := m4)); have m4 := hid trivial; refine (eat_no ⟨#[119, 104, 105, 108, 101]⟩ (R.out.bw (by repeat (first | exact Bw.refl _ | apply Bw.alloc | apply Bw.drewN | apply Bw.drew))) i4.out).mono ?_; clear ul uc uf ur; rintro e w1 ⟨rfl, hr1, hk1⟩; have KP := hid (show Kp r w w1 from KP.out.trans (Kp.trans (Kp.of_bw (by repeat (first | exact Bw.refl _ | apply Bw.alloc | apply Bw.drewN | apply Bw.drew))) hk1)); have P := hid (show Blk w1 wa.heap.size #[.int .i64 0, .int .i64 0, .string { data := #[] }, .int .i64 0, .int .i64 p0] 60 from P.out.kp (Kp.trans (Kp.of_bw (by repeat (first | exact Bw.refl _ | apply Bw.alloc | apply Bw.drewN | apply Bw.drew))) hk1) (by omega)); have R := hid hr1; have ul := P.out.lt; have uc := P.out.cell; have uf := P.out.free; have ur : r < w1.heap.size := R.out.lt; clear hr1 hk1)
    | (go_at_call 33; have _g := m4; clear _g; (fail_if_success (have _g := m5)); have m5 := hid trivial; refine (eat_no ⟨#[98, 114, 101, 97, 107]⟩ (R.out.bw (by repeat (first | exact Bw.refl _ | apply Bw.alloc | apply Bw.drewN | apply Bw.drew))) i5.out).mono ?_; clear ul uc uf ur; rintro e w1 ⟨rfl, hr1, hk1⟩; have KP := hid (show Kp r w w1 from KP.out.trans (Kp.trans (Kp.of_bw (by repeat (first | exact Bw.refl _ | apply Bw.alloc | apply Bw.drewN | apply Bw.drew))) hk1)); have P := hid (show Blk w1 wa.heap.size #[.int .i64 0, .int .i64 0, .string { data := #[] }, .int .i64 0, .int .i64 p0] 60 from P.out.kp (Kp.trans (Kp.of_bw (by repeat (first | exact Bw.refl _ | apply Bw.alloc | apply Bw.drewN | apply Bw.drew))) hk1) (by omega)); have R := hid hr1; have ul := P.out.lt; have uc := P.out.cell; have uf := P.out.free; have ur : r < w1.heap.size := R.out.lt; clear hr1 hk1)
    | (go_at_call 33; have _g := m5; clear _g; (fail_if_success (have _g := m6)); have m6 := hid trivial; refine (eat_no ⟨#[99, 111, 110, 116, 105, 110, 117, 101]⟩ (R.out.bw (by repeat (first | exact Bw.refl _ | apply Bw.alloc | apply Bw.drewN | apply Bw.drew))) i6.out).mono ?_; clear ul uc uf ur; rintro e w1 ⟨rfl, hr1, hk1⟩; have KP := hid (show Kp r w w1 from KP.out.trans (Kp.trans (Kp.of_bw (by repeat (first | exact Bw.refl _ | apply Bw.alloc | apply Bw.drewN | apply Bw.drew))) hk1)); have P := hid (show Blk w1 wa.heap.size #[.int .i64 0, .int .i64 0, .string { data := #[] }, .int .i64 0, .int .i64 p0] 60 from P.out.kp (Kp.trans (Kp.of_bw (by repeat (first | exact Bw.refl _ | apply Bw.alloc | apply Bw.drewN | apply Bw.drew))) hk1) (by omega)); have R := hid hr1; have ul := P.out.lt; have uc := P.out.cell; have uf := P.out.free; have ur : r < w1.heap.size := R.out.lt; clear hr1 hk1)
    | (go_at_call 33; have _g := m6; clear _g; (fail_if_success (have _g := m7)); have m7 := hid trivial; refine (eat_no ⟨#[114, 101, 116, 117, 114, 110]⟩ (R.out.bw (by repeat (first | exact Bw.refl _ | apply Bw.alloc | apply Bw.drewN | apply Bw.drew))) i7.out).mono ?_; clear ul uc uf ur; rintro e w1 ⟨rfl, hr1, hk1⟩; have KP := hid (show Kp r w w1 from KP.out.trans (Kp.trans (Kp.of_bw (by repeat (first | exact Bw.refl _ | apply Bw.alloc | apply Bw.drewN | apply Bw.drew))) hk1)); have P := hid (show Blk w1 wa.heap.size #[.int .i64 0, .int .i64 0, .string { data := #[] }, .int .i64 0, .int .i64 p0] 60 from P.out.kp (Kp.trans (Kp.of_bw (by repeat (first | exact Bw.refl _ | apply Bw.alloc | apply Bw.drewN | apply Bw.drew))) hk1) (by omega)); have R := hid hr1; have ul := P.out.lt; have uc := P.out.cell; have uf := P.out.free; have ur : r < w1.heap.size := R.out.lt; clear hr1 hk1)
    | (go_at_call 33; have _g := m7; clear _g; (fail_if_success (have _g := m8)); have m8 := hid trivial; refine (eat_no ⟨#[116, 104, 114, 111, 119]⟩ (R.out.bw (by repeat (first | exact Bw.refl _ | apply Bw.alloc | apply Bw.drewN | apply Bw.drew))) i8.out).mono ?_; clear ul uc uf ur; rintro e w1 ⟨rfl, hr1, hk1⟩; have KP := hid (show Kp r w w1 from KP.out.trans (Kp.trans (Kp.of_bw (by repeat (first | exact Bw.refl _ | apply Bw.alloc | apply Bw.drewN | apply Bw.drew))) hk1)); have P := hid (show Blk w1 wa.heap.size #[.int .i64 0, .int .i64 0, .string { data := #[] }, .int .i64 0, .int .i64 p0] 60 from P.out.kp (Kp.trans (Kp.of_bw (by repeat (first | exact Bw.refl _ | apply Bw.alloc | apply Bw.drewN | apply Bw.drew))) hk1) (by omega)); have R := hid hr1; have ul := P.out.lt; have uc := P.out.cell; have uf := P.out.free; have ur : r < w1.heap.size := R.out.lt; clear hr1 hk1)
    | (go_at_call 33; have _g := m8; clear _g; (fail_if_success (have _g := m9)); have m9 := hid trivial; refine (eat_no ⟨#[116, 114, 121]⟩ (R.out.bw (by repeat (first | exact Bw.refl _ | apply Bw.alloc | apply Bw.drewN | apply Bw.drew))) i9.out).mono ?_; clear ul uc uf ur; rintro e w1 ⟨rfl, hr1, hk1⟩; have KP := hid (show Kp r w w1 from KP.out.trans (Kp.trans (Kp.of_bw (by repeat (first | exact Bw.refl _ | apply Bw.alloc | apply Bw.drewN | apply Bw.drew))) hk1)); have P := hid (show Blk w1 wa.heap.size #[.int .i64 0, .int .i64 0, .string { data := #[] }, .int .i64 0, .int .i64 p0] 60 from P.out.kp (Kp.trans (Kp.of_bw (by repeat (first | exact Bw.refl _ | apply Bw.alloc | apply Bw.drewN | apply Bw.drew))) hk1) (by omega)); have R := hid hr1; have ul := P.out.lt; have uc := P.out.cell; have uf := P.out.free; have ur : r < w1.heap.size := R.out.lt; clear hr1 hk1)
    | (go_at_call 37; (fail_if_success (have _g := m20)); have m20 := hid trivial; refine (HV.out _ (R.out.bw (by repeat (first | exact Bw.refl _ | apply Bw.alloc | apply Bw.drewN | apply Bw.drew)))).mono ?_; rintro e w2 ⟨a2, c2, rfl, hn2, hr2, hk2, hl2⟩; have N := hid (hn2.low (b' := w.heap.size) (Nat.le_trans KP.out.size (by first | (simp; done) | exact Nat.le_refl _))); have KP := hid (show Kp r w w2 from KP.out.trans (Kp.trans (Kp.of_bw (by repeat (first | exact Bw.refl _ | apply Bw.alloc | apply Bw.drewN | apply Bw.drew))) hk2)); have R := hid hr2; have L := hid hl2; clear hn2 hr2 hk2 hl2)
    | fail)
  all_goals go_ret
  all_goals exact ⟨_, _, rfl, N.out, R.out, KP.out, L.out⟩

set_option maxRecDepth 100000 in
set_option maxHeartbeats 8000000 in
theorem stmt_break (i0 : dIs T s ⟨#[123]⟩ = false) (i1 : dIs T s ⟨#[105, 102]⟩ = false) (i2 : dIs T s ⟨#[102, 110]⟩ = false) (i3 : dIs T s ⟨#[118, 97, 114]⟩ = false) (i4 : dIs T s ⟨#[119, 104, 105, 108, 101]⟩ = false) (y : dIs T s ⟨#[98, 114, 101, 97, 107]⟩ = true) (hr : RdM w r T o s) : Calls Tryd.prog 14 #[.pointer (some ⟨r, 0, none⟩)] w (DG w r T o (dJoin (7, 0, [], 0, dAt T s) 0 []) (dWant T (dNx s) ⟨#[59]⟩)) := by
  have HR := hid hr
  have hrl := hr.lt
  have HAT := hid (fun w1 (hw : Bw w w1) => dat_any (hr.bw hw))
  have i0 := hid i0
  have i1 := hid i1
  have i2 := hid i2
  have i3 := hid i3
  have i4 := hid i4
  have y := hid y
  have HW := hid (fun w1 (hw : RdM w1 r T o (dNx s)) => dwant_any ⟨#[59]⟩ hw)
  generalize dWant T (dNx s) ⟨#[59]⟩ = B at *
  clear hr
  unfold DG at *
  generalize dAt T s = p0 at *
  go_enter Tryd.func14, Tryd.ntmps14
  go_wp2_with (first
    | (go_at_call 27; (fail_if_success (have _g := B1)); refine (HAT.out _ (Bw.refl _)).mono ?_; rintro e wa ⟨rfl, hb1⟩; have B1 := hid hb1; have hra : w.heap.size ≤ wa.heap.size := hb1.size; have R := hid (HR.out.bw hb1); have KP := hid (Kp.of_bw (r := r) hb1); clear hb1)
    | (go_at_call 28; (fail_if_success (have _g := m0)); have m0 := hid trivial; refine (is_no ⟨#[123]⟩ (R.out.bw (by repeat (first | exact Bw.refl _ | apply Bw.alloc | apply Bw.drewN | apply Bw.drew))) i0.out).mono ?_; rintro e w1 ⟨rfl, hr1, hk1⟩; have KP := hid (show Kp r w w1 from KP.out.trans (Kp.trans (Kp.of_bw (by repeat (first | exact Bw.refl _ | apply Bw.alloc | apply Bw.drewN | apply Bw.drew))) hk1)); have R := hid hr1; have P := hid (show Blk w1 wa.heap.size #[.int .i64 0, .int .i64 0, .string { data := #[] }, .int .i64 0, .int .i64 p0] 60 from (Blk.new wa _ _).kp hk1 (by omega)); have ul := P.out.lt; have uc := P.out.cell; have uf := P.out.free; have ur : r < w1.heap.size := R.out.lt; clear hr1 hk1)
    | (go_at_call 28; have _g := m0; clear _g; (fail_if_success (have _g := m1)); have m1 := hid trivial; refine (is_no ⟨#[105, 102]⟩ (R.out.bw (by repeat (first | exact Bw.refl _ | apply Bw.alloc | apply Bw.drewN | apply Bw.drew))) i1.out).mono ?_; clear ul uc uf ur; rintro e w1 ⟨rfl, hr1, hk1⟩; have KP := hid (show Kp r w w1 from KP.out.trans (Kp.trans (Kp.of_bw (by repeat (first | exact Bw.refl _ | apply Bw.alloc | apply Bw.drewN | apply Bw.drew))) hk1)); have P := hid (show Blk w1 wa.heap.size #[.int .i64 0, .int .i64 0, .string { data := #[] }, .int .i64 0, .int .i64 p0] 60 from P.out.kp (Kp.trans (Kp.of_bw (by repeat (first | exact Bw.refl _ | apply Bw.alloc | apply Bw.drewN | apply Bw.drew))) hk1) (by omega)); have R := hid hr1; have ul := P.out.lt; have uc := P.out.cell; have uf := P.out.free; have ur : r < w1.heap.size := R.out.lt; clear hr1 hk1)
    | fail)
  refine wp_region_W (fun _ => True) (fun j => if j == 1 then 0 else 1) (by kernel_rfl) ?_
  refine wpAnyW_take (i := 0) (oi := oa0) (v := ?_) rfl (by kernel_rfl) (by kernel_rfl) (by kernel_rfl) (by kernel_rfl) (fun _ _ _ h => h) (Or.inl ⟨by rfl, fun w _ => ?_⟩) ?_
  rotate_left
  · (go_simp; first | done | with_reducible rfl)
  try simp only [oa0, Act.put, setIfInBounds_toArray, set_cons_zero, set_cons_succ]
  refine wpAnyW_ready (rs := [1]) (by kernel_rfl) (by simp) ?_
  refine (AllReadyW.cons (o := oa1) rfl (fun K hK => ?_) AllReadyW.nil)
  go_simp
  have m2 := hid trivial
  refine (is_no ⟨#[102, 110]⟩ (R.out.bw (by repeat (first | exact Bw.refl _ | apply Bw.alloc | apply Bw.drewN | apply Bw.drew))) i2.out).mono ?_
  clear ul uc uf ur
  rintro e w1 ⟨he1, hr1, hk1⟩
  subst he1
  have KP := hid (show Kp r w w1 from KP.out.trans (Kp.trans (Kp.of_bw (by repeat (first | exact Bw.refl _ | apply Bw.alloc | apply Bw.drewN | apply Bw.drew))) hk1))
  have P := hid (show Blk w1 wa.heap.size #[.int .i64 0, .int .i64 0, .string { data := #[] }, .int .i64 0, .int .i64 p0] 60 from P.out.kp (Kp.trans (Kp.of_bw (by repeat (first | exact Bw.refl _ | apply Bw.alloc | apply Bw.drewN | apply Bw.drew))) hk1) (by omega))
  have R := hid hr1
  have ul := P.out.lt
  have uc := P.out.cell
  have uf := P.out.free
  have ur : r < w1.heap.size := R.out.lt
  clear hr1 hk1
  refine hK.out _ _ trivial ?_
  clear hK K
  try simp only [oa1, Act.put, setIfInBounds_toArray, set_cons_zero, set_cons_succ]
  refine wpAnyW_take (i := 2) (oi := oa2) (v := ?_) rfl (by kernel_rfl) (by kernel_rfl) (by kernel_rfl) (by kernel_rfl) (fun _ _ _ h => h) (Or.inl ⟨by rfl, fun w _ => ?_⟩) ?_
  rotate_left
  · (go_simp; first | done | with_reducible rfl)
  try simp only [oa2, Act.put, setIfInBounds_toArray, set_cons_zero, set_cons_succ]
  refine wpAnyW_take (i := 3) (oi := oa3) (v := undef) rfl (by kernel_rfl) (by kernel_rfl) (by kernel_rfl) (by kernel_rfl) (fun _ _ _ h => h) (Or.inr ⟨by rfl, rfl⟩) ?_
  try simp only [oa3, Act.put, setIfInBounds_toArray, set_cons_zero, set_cons_succ]
  refine wpAnyW_take (i := 4) (oi := oa4) (v := undef) rfl (by kernel_rfl) (by kernel_rfl) (by kernel_rfl) (by kernel_rfl) (fun _ _ _ h => h) (Or.inr ⟨by rfl, rfl⟩) ?_
  try simp only [oa4, Act.put, setIfInBounds_toArray, set_cons_zero, set_cons_succ]
  refine wpAnyW_take (i := 5) (oi := oa5) (v := undef) rfl (by kernel_rfl) (by kernel_rfl) (by kernel_rfl) (by kernel_rfl) (fun _ _ _ h => h) (Or.inr ⟨by rfl, rfl⟩) ?_
  try simp only [oa5, Act.put, setIfInBounds_toArray, set_cons_zero, set_cons_succ]
  refine wpAnyW_take (i := 6) (oi := oa6) (v := undef) rfl (by kernel_rfl) (by kernel_rfl) (by kernel_rfl) (by kernel_rfl) (fun _ _ _ h => h) (Or.inr ⟨by rfl, rfl⟩) ?_
  try simp only [oa6, Act.put, setIfInBounds_toArray, set_cons_zero, set_cons_succ]
  refine wpAnyW_take (i := 7) (oi := oa7) (v := undef) rfl (by kernel_rfl) (by kernel_rfl) (by kernel_rfl) (by kernel_rfl) (fun _ _ _ h => h) (Or.inr ⟨by rfl, rfl⟩) ?_
  try simp only [oa7, Act.put, setIfInBounds_toArray, set_cons_zero, set_cons_succ]
  refine wpAnyW_take (i := 8) (oi := oa8) (v := undef) rfl (by kernel_rfl) (by kernel_rfl) (by kernel_rfl) (by kernel_rfl) (fun _ _ _ h => h) (Or.inr ⟨by rfl, rfl⟩) ?_
  try simp only [oa8, Act.put, setIfInBounds_toArray, set_cons_zero, set_cons_succ]
  refine wpAnyW_take (i := 9) (oi := oa9) (v := undef) rfl (by kernel_rfl) (by kernel_rfl) (by kernel_rfl) (by kernel_rfl) (fun _ _ _ h => h) (Or.inr ⟨by rfl, rfl⟩) ?_
  try simp only [oa9, Act.put, setIfInBounds_toArray, set_cons_zero, set_cons_succ]
  refine wpAnyW_take (i := 10) (oi := oa10) (v := undef) rfl (by kernel_rfl) (by kernel_rfl) (by kernel_rfl) (by kernel_rfl) (fun _ _ _ h => h) (Or.inr ⟨by rfl, rfl⟩) ?_
  try simp only [oa10, Act.put, setIfInBounds_toArray, set_cons_zero, set_cons_succ]
  refine wpAnyW_take (i := 11) (oi := oa11) (v := undef) rfl (by kernel_rfl) (by kernel_rfl) (by kernel_rfl) (by kernel_rfl) (fun _ _ _ h => h) (Or.inr ⟨by rfl, rfl⟩) ?_
  try simp only [oa11, Act.put, setIfInBounds_toArray, set_cons_zero, set_cons_succ]
  refine wpAnyW_take (i := 12) (oi := oa12) (v := undef) rfl (by kernel_rfl) (by kernel_rfl) (by kernel_rfl) (by kernel_rfl) (fun _ _ _ h => h) (Or.inr ⟨by rfl, rfl⟩) ?_
  try simp only [oa12, Act.put, setIfInBounds_toArray, set_cons_zero, set_cons_succ]
  refine wpAnyW_take (i := 13) (oi := oa13) (v := undef) rfl (by kernel_rfl) (by kernel_rfl) (by kernel_rfl) (by kernel_rfl) (fun _ _ _ h => h) (Or.inr ⟨by rfl, rfl⟩) ?_
  try simp only [oa13, Act.put, setIfInBounds_toArray, set_cons_zero, set_cons_succ]
  refine wpAnyW_take (i := 14) (oi := oa14) (v := undef) rfl (by kernel_rfl) (by kernel_rfl) (by kernel_rfl) (by kernel_rfl) (fun _ _ _ h => h) (Or.inr ⟨by rfl, rfl⟩) ?_
  try simp only [oa14, Act.put, setIfInBounds_toArray, set_cons_zero, set_cons_succ]
  refine wpAnyW_take (i := 15) (oi := oa15) (v := undef) rfl (by kernel_rfl) (by kernel_rfl) (by kernel_rfl) (by kernel_rfl) (fun _ _ _ h => h) (Or.inr ⟨by rfl, rfl⟩) ?_
  try simp only [oa15, Act.put, setIfInBounds_toArray, set_cons_zero, set_cons_succ]
  refine wpAnyW_take (i := 16) (oi := oa16) (v := ?_) rfl (by kernel_rfl) (by kernel_rfl) (by kernel_rfl) (by kernel_rfl) (fun _ _ _ h => h) (Or.inl ⟨by rfl, fun w _ => ?_⟩) ?_
  rotate_left
  · (go_simp; first | done | with_reducible rfl)
  try simp only [oa16, Act.put, setIfInBounds_toArray, set_cons_zero, set_cons_succ]
  refine wpAnyW_take (i := 17) (oi := oa17) (v := ?_) rfl (by kernel_rfl) (by kernel_rfl) (by kernel_rfl) (by kernel_rfl) (fun _ _ _ h => h) (Or.inl ⟨by rfl, fun w _ => ?_⟩) ?_
  rotate_left
  · (go_simp; first | done | with_reducible rfl)
  try simp only [oa17, Act.put, setIfInBounds_toArray, set_cons_zero, set_cons_succ]
  refine wpAnyW_done (by kernel_rfl) ?_ _
  all_goals go_wp2_with (first
    | (go_at_call 33; have _g := m2; clear _g; (fail_if_success (have _g := m3)); have m3 := hid trivial; refine (eat_no ⟨#[118, 97, 114]⟩ (R.out.bw (by repeat (first | exact Bw.refl _ | apply Bw.alloc | apply Bw.drewN | apply Bw.drew))) i3.out).mono ?_; clear ul uc uf ur; rintro e w1 ⟨rfl, hr1, hk1⟩; have KP := hid (show Kp r w w1 from KP.out.trans (Kp.trans (Kp.of_bw (by repeat (first | exact Bw.refl _ | apply Bw.alloc | apply Bw.drewN | apply Bw.drew))) hk1)); have P := hid (show Blk w1 wa.heap.size #[.int .i64 0, .int .i64 0, .string { data := #[] }, .int .i64 0, .int .i64 p0] 60 from P.out.kp (Kp.trans (Kp.of_bw (by repeat (first | exact Bw.refl _ | apply Bw.alloc | apply Bw.drewN | apply Bw.drew))) hk1) (by omega)); have R := hid hr1; have ul := P.out.lt; have uc := P.out.cell; have uf := P.out.free; have ur : r < w1.heap.size := R.out.lt; clear hr1 hk1)
    | (go_at_call 33; have _g := m3; clear _g; (fail_if_success (have _g := m4)); have m4 := hid trivial; refine (eat_no ⟨#[119, 104, 105, 108, 101]⟩ (R.out.bw (by repeat (first | exact Bw.refl _ | apply Bw.alloc | apply Bw.drewN | apply Bw.drew))) i4.out).mono ?_; clear ul uc uf ur; rintro e w1 ⟨rfl, hr1, hk1⟩; have KP := hid (show Kp r w w1 from KP.out.trans (Kp.trans (Kp.of_bw (by repeat (first | exact Bw.refl _ | apply Bw.alloc | apply Bw.drewN | apply Bw.drew))) hk1)); have P := hid (show Blk w1 wa.heap.size #[.int .i64 0, .int .i64 0, .string { data := #[] }, .int .i64 0, .int .i64 p0] 60 from P.out.kp (Kp.trans (Kp.of_bw (by repeat (first | exact Bw.refl _ | apply Bw.alloc | apply Bw.drewN | apply Bw.drew))) hk1) (by omega)); have R := hid hr1; have ul := P.out.lt; have uc := P.out.cell; have uf := P.out.free; have ur : r < w1.heap.size := R.out.lt; clear hr1 hk1)
    | (go_at_call 33; have _g := m4; clear _g; (fail_if_success (have _g := m5)); have m5 := hid trivial; refine (eat_yes ⟨#[98, 114, 101, 97, 107]⟩ (R.out.bw (by repeat (first | exact Bw.refl _ | apply Bw.alloc | apply Bw.drewN | apply Bw.drew))) y.out).mono ?_; clear ul uc uf ur; rintro e w1 ⟨rfl, hr1, hk1⟩; have KP := hid (show Kp r w w1 from KP.out.trans (Kp.trans (Kp.of_bw (by repeat (first | exact Bw.refl _ | apply Bw.alloc | apply Bw.drewN | apply Bw.drew))) hk1)); have P := hid (show Blk w1 wa.heap.size #[.int .i64 0, .int .i64 0, .string { data := #[] }, .int .i64 0, .int .i64 p0] 60 from P.out.kp (Kp.trans (Kp.of_bw (by repeat (first | exact Bw.refl _ | apply Bw.alloc | apply Bw.drewN | apply Bw.drew))) hk1) (by omega)); have R := hid hr1; have ul := P.out.lt; have uc := P.out.cell; have uf := P.out.free; have ur : r < w1.heap.size := R.out.lt; clear hr1 hk1)
    | (go_at_call 34; (fail_if_success (have _g := m21)); have m21 := hid trivial; refine (HW.out _ (R.out.setO P.out 0 _)).mono ?_; clear ul uc uf ur; rintro e w1 ⟨rfl, hr1, hk1⟩; have KP := hid (show Kp r w w1 from Kp.trans (KP.out.setNew hra 0 _) hk1); have P := hid (show Blk w1 wa.heap.size #[.int .i64 7, .int .i64 0, .string { data := #[] }, .int .i64 0, .int .i64 p0] 60 from (P.out.set 0 _).kp hk1 (by omega)); have R := hid hr1; have ul := P.out.lt; have uc := P.out.cell; have uf := P.out.free; have ur : r < w1.heap.size := R.out.lt; clear hr1 hk1)
    | (go_at_call 15; refine (djoin_any (7, 0, [], 0, p0) 0 _ [] (Nd.nil w1 0).sl (Nat.zero_le _)).mono ?_; rintro e w9 ⟨a9, c9, rfl, hn9, hb9⟩; have N9 := hid hn9; have B9 := hid hb9; clear hn9 hb9)
    | fail)
  all_goals go_ret
  all_goals exact ⟨_, _, rfl, N9.out.low KP.out.size, R.out.bw B9.out, KP.out.bw B9.out, (show 1 ≤ 1000000 by decide)⟩

set_option maxRecDepth 100000 in
set_option maxHeartbeats 8000000 in
theorem stmt_continue (i0 : dIs T s ⟨#[123]⟩ = false) (i1 : dIs T s ⟨#[105, 102]⟩ = false) (i2 : dIs T s ⟨#[102, 110]⟩ = false) (i3 : dIs T s ⟨#[118, 97, 114]⟩ = false) (i4 : dIs T s ⟨#[119, 104, 105, 108, 101]⟩ = false) (i5 : dIs T s ⟨#[98, 114, 101, 97, 107]⟩ = false) (y : dIs T s ⟨#[99, 111, 110, 116, 105, 110, 117, 101]⟩ = true) (hr : RdM w r T o s) : Calls Tryd.prog 14 #[.pointer (some ⟨r, 0, none⟩)] w (DG w r T o (dJoin (8, 0, [], 0, dAt T s) 0 []) (dWant T (dNx s) ⟨#[59]⟩)) := by
  have HR := hid hr
  have hrl := hr.lt
  have HAT := hid (fun w1 (hw : Bw w w1) => dat_any (hr.bw hw))
  have i0 := hid i0
  have i1 := hid i1
  have i2 := hid i2
  have i3 := hid i3
  have i4 := hid i4
  have i5 := hid i5
  have y := hid y
  have HW := hid (fun w1 (hw : RdM w1 r T o (dNx s)) => dwant_any ⟨#[59]⟩ hw)
  generalize dWant T (dNx s) ⟨#[59]⟩ = B at *
  clear hr
  unfold DG at *
  generalize dAt T s = p0 at *
  go_enter Tryd.func14, Tryd.ntmps14
  go_wp2_with (first
    | (go_at_call 27; (fail_if_success (have _g := B1)); refine (HAT.out _ (Bw.refl _)).mono ?_; rintro e wa ⟨rfl, hb1⟩; have B1 := hid hb1; have hra : w.heap.size ≤ wa.heap.size := hb1.size; have R := hid (HR.out.bw hb1); have KP := hid (Kp.of_bw (r := r) hb1); clear hb1)
    | (go_at_call 28; (fail_if_success (have _g := m0)); have m0 := hid trivial; refine (is_no ⟨#[123]⟩ (R.out.bw (by repeat (first | exact Bw.refl _ | apply Bw.alloc | apply Bw.drewN | apply Bw.drew))) i0.out).mono ?_; rintro e w1 ⟨rfl, hr1, hk1⟩; have KP := hid (show Kp r w w1 from KP.out.trans (Kp.trans (Kp.of_bw (by repeat (first | exact Bw.refl _ | apply Bw.alloc | apply Bw.drewN | apply Bw.drew))) hk1)); have R := hid hr1; have P := hid (show Blk w1 wa.heap.size #[.int .i64 0, .int .i64 0, .string { data := #[] }, .int .i64 0, .int .i64 p0] 60 from (Blk.new wa _ _).kp hk1 (by omega)); have ul := P.out.lt; have uc := P.out.cell; have uf := P.out.free; have ur : r < w1.heap.size := R.out.lt; clear hr1 hk1)
    | (go_at_call 28; have _g := m0; clear _g; (fail_if_success (have _g := m1)); have m1 := hid trivial; refine (is_no ⟨#[105, 102]⟩ (R.out.bw (by repeat (first | exact Bw.refl _ | apply Bw.alloc | apply Bw.drewN | apply Bw.drew))) i1.out).mono ?_; clear ul uc uf ur; rintro e w1 ⟨rfl, hr1, hk1⟩; have KP := hid (show Kp r w w1 from KP.out.trans (Kp.trans (Kp.of_bw (by repeat (first | exact Bw.refl _ | apply Bw.alloc | apply Bw.drewN | apply Bw.drew))) hk1)); have P := hid (show Blk w1 wa.heap.size #[.int .i64 0, .int .i64 0, .string { data := #[] }, .int .i64 0, .int .i64 p0] 60 from P.out.kp (Kp.trans (Kp.of_bw (by repeat (first | exact Bw.refl _ | apply Bw.alloc | apply Bw.drewN | apply Bw.drew))) hk1) (by omega)); have R := hid hr1; have ul := P.out.lt; have uc := P.out.cell; have uf := P.out.free; have ur : r < w1.heap.size := R.out.lt; clear hr1 hk1)
    | fail)
  refine wp_region_W (fun _ => True) (fun j => if j == 1 then 0 else 1) (by kernel_rfl) ?_
  refine wpAnyW_take (i := 0) (oi := oa0) (v := ?_) rfl (by kernel_rfl) (by kernel_rfl) (by kernel_rfl) (by kernel_rfl) (fun _ _ _ h => h) (Or.inl ⟨by rfl, fun w _ => ?_⟩) ?_
  rotate_left
  · (go_simp; first | done | with_reducible rfl)
  try simp only [oa0, Act.put, setIfInBounds_toArray, set_cons_zero, set_cons_succ]
  refine wpAnyW_ready (rs := [1]) (by kernel_rfl) (by simp) ?_
  refine (AllReadyW.cons (o := oa1) rfl (fun K hK => ?_) AllReadyW.nil)
  go_simp
  have m2 := hid trivial
  refine (is_no ⟨#[102, 110]⟩ (R.out.bw (by repeat (first | exact Bw.refl _ | apply Bw.alloc | apply Bw.drewN | apply Bw.drew))) i2.out).mono ?_
  clear ul uc uf ur
  rintro e w1 ⟨he1, hr1, hk1⟩
  subst he1
  have KP := hid (show Kp r w w1 from KP.out.trans (Kp.trans (Kp.of_bw (by repeat (first | exact Bw.refl _ | apply Bw.alloc | apply Bw.drewN | apply Bw.drew))) hk1))
  have P := hid (show Blk w1 wa.heap.size #[.int .i64 0, .int .i64 0, .string { data := #[] }, .int .i64 0, .int .i64 p0] 60 from P.out.kp (Kp.trans (Kp.of_bw (by repeat (first | exact Bw.refl _ | apply Bw.alloc | apply Bw.drewN | apply Bw.drew))) hk1) (by omega))
  have R := hid hr1
  have ul := P.out.lt
  have uc := P.out.cell
  have uf := P.out.free
  have ur : r < w1.heap.size := R.out.lt
  clear hr1 hk1
  refine hK.out _ _ trivial ?_
  clear hK K
  try simp only [oa1, Act.put, setIfInBounds_toArray, set_cons_zero, set_cons_succ]
  refine wpAnyW_take (i := 2) (oi := oa2) (v := ?_) rfl (by kernel_rfl) (by kernel_rfl) (by kernel_rfl) (by kernel_rfl) (fun _ _ _ h => h) (Or.inl ⟨by rfl, fun w _ => ?_⟩) ?_
  rotate_left
  · (go_simp; first | done | with_reducible rfl)
  try simp only [oa2, Act.put, setIfInBounds_toArray, set_cons_zero, set_cons_succ]
  refine wpAnyW_take (i := 3) (oi := oa3) (v := undef) rfl (by kernel_rfl) (by kernel_rfl) (by kernel_rfl) (by kernel_rfl) (fun _ _ _ h => h) (Or.inr ⟨by rfl, rfl⟩) ?_
  try simp only [oa3, Act.put, setIfInBounds_toArray, set_cons_zero, set_cons_succ]
  refine wpAnyW_take (i := 4) (oi := oa4) (v := undef) rfl (by kernel_rfl) (by kernel_rfl) (by kernel_rfl) (by kernel_rfl) (fun _ _ _ h => h) (Or.inr ⟨by rfl, rfl⟩) ?_
  try simp only [oa4, Act.put, setIfInBounds_toArray, set_cons_zero, set_cons_succ]
  refine wpAnyW_take (i := 5) (oi := oa5) (v := undef) rfl (by kernel_rfl) (by kernel_rfl) (by kernel_rfl) (by kernel_rfl) (fun _ _ _ h => h) (Or.inr ⟨by rfl, rfl⟩) ?_
  try simp only [oa5, Act.put, setIfInBounds_toArray, set_cons_zero, set_cons_succ]
  refine wpAnyW_take (i := 6) (oi := oa6) (v := undef) rfl (by kernel_rfl) (by kernel_rfl) (by kernel_rfl) (by kernel_rfl) (fun _ _ _ h => h) (Or.inr ⟨by rfl, rfl⟩) ?_
  try simp only [oa6, Act.put, setIfInBounds_toArray, set_cons_zero, set_cons_succ]
  refine wpAnyW_take (i := 7) (oi := oa7) (v := undef) rfl (by kernel_rfl) (by kernel_rfl) (by kernel_rfl) (by kernel_rfl) (fun _ _ _ h => h) (Or.inr ⟨by rfl, rfl⟩) ?_
  try simp only [oa7, Act.put, setIfInBounds_toArray, set_cons_zero, set_cons_succ]
  refine wpAnyW_take (i := 8) (oi := oa8) (v := undef) rfl (by kernel_rfl) (by kernel_rfl) (by kernel_rfl) (by kernel_rfl) (fun _ _ _ h => h) (Or.inr ⟨by rfl, rfl⟩) ?_
  try simp only [oa8, Act.put, setIfInBounds_toArray, set_cons_zero, set_cons_succ]
  refine wpAnyW_take (i := 9) (oi := oa9) (v := undef) rfl (by kernel_rfl) (by kernel_rfl) (by kernel_rfl) (by kernel_rfl) (fun _ _ _ h => h) (Or.inr ⟨by rfl, rfl⟩) ?_
  try simp only [oa9, Act.put, setIfInBounds_toArray, set_cons_zero, set_cons_succ]
  refine wpAnyW_take (i := 10) (oi := oa10) (v := undef) rfl (by kernel_rfl) (by kernel_rfl) (by kernel_rfl) (by kernel_rfl) (fun _ _ _ h => h) (Or.inr ⟨by rfl, rfl⟩) ?_
  try simp only [oa10, Act.put, setIfInBounds_toArray, set_cons_zero, set_cons_succ]
  refine wpAnyW_take (i := 11) (oi := oa11) (v := undef) rfl (by kernel_rfl) (by kernel_rfl) (by kernel_rfl) (by kernel_rfl) (fun _ _ _ h => h) (Or.inr ⟨by rfl, rfl⟩) ?_
  try simp only [oa11, Act.put, setIfInBounds_toArray, set_cons_zero, set_cons_succ]
  refine wpAnyW_take (i := 12) (oi := oa12) (v := undef) rfl (by kernel_rfl) (by kernel_rfl) (by kernel_rfl) (by kernel_rfl) (fun _ _ _ h => h) (Or.inr ⟨by rfl, rfl⟩) ?_
  try simp only [oa12, Act.put, setIfInBounds_toArray, set_cons_zero, set_cons_succ]
  refine wpAnyW_take (i := 13) (oi := oa13) (v := undef) rfl (by kernel_rfl) (by kernel_rfl) (by kernel_rfl) (by kernel_rfl) (fun _ _ _ h => h) (Or.inr ⟨by rfl, rfl⟩) ?_
  try simp only [oa13, Act.put, setIfInBounds_toArray, set_cons_zero, set_cons_succ]
  refine wpAnyW_take (i := 14) (oi := oa14) (v := undef) rfl (by kernel_rfl) (by kernel_rfl) (by kernel_rfl) (by kernel_rfl) (fun _ _ _ h => h) (Or.inr ⟨by rfl, rfl⟩) ?_
  try simp only [oa14, Act.put, setIfInBounds_toArray, set_cons_zero, set_cons_succ]
  refine wpAnyW_take (i := 15) (oi := oa15) (v := undef) rfl (by kernel_rfl) (by kernel_rfl) (by kernel_rfl) (by kernel_rfl) (fun _ _ _ h => h) (Or.inr ⟨by rfl, rfl⟩) ?_
  try simp only [oa15, Act.put, setIfInBounds_toArray, set_cons_zero, set_cons_succ]
  refine wpAnyW_take (i := 16) (oi := oa16) (v := ?_) rfl (by kernel_rfl) (by kernel_rfl) (by kernel_rfl) (by kernel_rfl) (fun _ _ _ h => h) (Or.inl ⟨by rfl, fun w _ => ?_⟩) ?_
  rotate_left
  · (go_simp; first | done | with_reducible rfl)
  try simp only [oa16, Act.put, setIfInBounds_toArray, set_cons_zero, set_cons_succ]
  refine wpAnyW_take (i := 17) (oi := oa17) (v := ?_) rfl (by kernel_rfl) (by kernel_rfl) (by kernel_rfl) (by kernel_rfl) (fun _ _ _ h => h) (Or.inl ⟨by rfl, fun w _ => ?_⟩) ?_
  rotate_left
  · (go_simp; first | done | with_reducible rfl)
  try simp only [oa17, Act.put, setIfInBounds_toArray, set_cons_zero, set_cons_succ]
  refine wpAnyW_done (by kernel_rfl) ?_ _
  all_goals go_wp2_with (first
    | (go_at_call 33; have _g := m2; clear _g; (fail_if_success (have _g := m3)); have m3 := hid trivial; refine (eat_no ⟨#[118, 97, 114]⟩ (R.out.bw (by repeat (first | exact Bw.refl _ | apply Bw.alloc | apply Bw.drewN | apply Bw.drew))) i3.out).mono ?_; clear ul uc uf ur; rintro e w1 ⟨rfl, hr1, hk1⟩; have KP := hid (show Kp r w w1 from KP.out.trans (Kp.trans (Kp.of_bw (by repeat (first | exact Bw.refl _ | apply Bw.alloc | apply Bw.drewN | apply Bw.drew))) hk1)); have P := hid (show Blk w1 wa.heap.size #[.int .i64 0, .int .i64 0, .string { data := #[] }, .int .i64 0, .int .i64 p0] 60 from P.out.kp (Kp.trans (Kp.of_bw (by repeat (first | exact Bw.refl _ | apply Bw.alloc | apply Bw.drewN | apply Bw.drew))) hk1) (by omega)); have R := hid hr1; have ul := P.out.lt; have uc := P.out.cell; have uf := P.out.free; have ur : r < w1.heap.size := R.out.lt; clear hr1 hk1)
    | (go_at_call 33; have _g := m3; clear _g; (fail_if_success (have _g := m4)); have m4 := hid trivial; refine (eat_no ⟨#[119, 104, 105, 108, 101]⟩ (R.out.bw (by repeat (first | exact Bw.refl _ | apply Bw.alloc | apply Bw.drewN | apply Bw.drew))) i4.out).mono ?_; clear ul uc uf ur; rintro e w1 ⟨rfl, hr1, hk1⟩; have KP := hid (show Kp r w w1 from KP.out.trans (Kp.trans (Kp.of_bw (by repeat (first | exact Bw.refl _ | apply Bw.alloc | apply Bw.drewN | apply Bw.drew))) hk1)); have P := hid (show Blk w1 wa.heap.size #[.int .i64 0, .int .i64 0, .string { data := #[] }, .int .i64 0, .int .i64 p0] 60 from P.out.kp (Kp.trans (Kp.of_bw (by repeat (first | exact Bw.refl _ | apply Bw.alloc | apply Bw.drewN | apply Bw.drew))) hk1) (by omega)); have R := hid hr1; have ul := P.out.lt; have uc := P.out.cell; have uf := P.out.free; have ur : r < w1.heap.size := R.out.lt; clear hr1 hk1)
    | (go_at_call 33; have _g := m4; clear _g; (fail_if_success (have _g := m5)); have m5 := hid trivial; refine (eat_no ⟨#[98, 114, 101, 97, 107]⟩ (R.out.bw (by repeat (first | exact Bw.refl _ | apply Bw.alloc | apply Bw.drewN | apply Bw.drew))) i5.out).mono ?_; clear ul uc uf ur; rintro e w1 ⟨rfl, hr1, hk1⟩; have KP := hid (show Kp r w w1 from KP.out.trans (Kp.trans (Kp.of_bw (by repeat (first | exact Bw.refl _ | apply Bw.alloc | apply Bw.drewN | apply Bw.drew))) hk1)); have P := hid (show Blk w1 wa.heap.size #[.int .i64 0, .int .i64 0, .string { data := #[] }, .int .i64 0, .int .i64 p0] 60 from P.out.kp (Kp.trans (Kp.of_bw (by repeat (first | exact Bw.refl _ | apply Bw.alloc | apply Bw.drewN | apply Bw.drew))) hk1) (by omega)); have R := hid hr1; have ul := P.out.lt; have uc := P.out.cell; have uf := P.out.free; have ur : r < w1.heap.size := R.out.lt; clear hr1 hk1)
    | (go_at_call 33; have _g := m5; clear _g; (fail_if_success (have _g := m6)); have m6 := hid trivial; refine (eat_yes ⟨#[99, 111, 110, 116, 105, 110, 117, 101]⟩ (R.out.bw (by repeat (first | exact Bw.refl _ | apply Bw.alloc | apply Bw.drewN | apply Bw.drew))) y.out).mono ?_; clear ul uc uf ur; rintro e w1 ⟨rfl, hr1, hk1⟩; have KP := hid (show Kp r w w1 from KP.out.trans (Kp.trans (Kp.of_bw (by repeat (first | exact Bw.refl _ | apply Bw.alloc | apply Bw.drewN | apply Bw.drew))) hk1)); have P := hid (show Blk w1 wa.heap.size #[.int .i64 0, .int .i64 0, .string { data := #[] }, .int .i64 0, .int .i64 p0] 60 from P.out.kp (Kp.trans (Kp.of_bw (by repeat (first | exact Bw.refl _ | apply Bw.alloc | apply Bw.drewN | apply Bw.drew))) hk1) (by omega)); have R := hid hr1; have ul := P.out.lt; have uc := P.out.cell; have uf := P.out.free; have ur : r < w1.heap.size := R.out.lt; clear hr1 hk1)
    | (go_at_call 34; (fail_if_success (have _g := m21)); have m21 := hid trivial; refine (HW.out _ (R.out.setO P.out 0 _)).mono ?_; clear ul uc uf ur; rintro e w1 ⟨rfl, hr1, hk1⟩; have KP := hid (show Kp r w w1 from Kp.trans (KP.out.setNew hra 0 _) hk1); have P := hid (show Blk w1 wa.heap.size #[.int .i64 8, .int .i64 0, .string { data := #[] }, .int .i64 0, .int .i64 p0] 60 from (P.out.set 0 _).kp hk1 (by omega)); have R := hid hr1; have ul := P.out.lt; have uc := P.out.cell; have uf := P.out.free; have ur : r < w1.heap.size := R.out.lt; clear hr1 hk1)
    | (go_at_call 15; refine (djoin_any (8, 0, [], 0, p0) 0 _ [] (Nd.nil w1 0).sl (Nat.zero_le _)).mono ?_; rintro e w9 ⟨a9, c9, rfl, hn9, hb9⟩; have N9 := hid hn9; have B9 := hid hb9; clear hn9 hb9)
    | fail)
  all_goals go_ret
  all_goals exact ⟨_, _, rfl, N9.out.low KP.out.size, R.out.bw B9.out, KP.out.bw B9.out, (show 1 ≤ 1000000 by decide)⟩

set_option maxRecDepth 100000 in
set_option maxHeartbeats 8000000 in
theorem stmt_throw (i0 : dIs T s ⟨#[123]⟩ = false) (i1 : dIs T s ⟨#[105, 102]⟩ = false) (i2 : dIs T s ⟨#[102, 110]⟩ = false) (i3 : dIs T s ⟨#[118, 97, 114]⟩ = false) (i4 : dIs T s ⟨#[119, 104, 105, 108, 101]⟩ = false) (i5 : dIs T s ⟨#[98, 114, 101, 97, 107]⟩ = false) (i6 : dIs T s ⟨#[99, 111, 110, 116, 105, 110, 117, 101]⟩ = false) (i7 : dIs T s ⟨#[114, 101, 116, 117, 114, 110]⟩ = false) (y : dIs T s ⟨#[116, 104, 114, 111, 119]⟩ = true) {l1 : List ANode} {s1 : DS} (HV : ∀ w1 : World, RdM w1 r T o (dNx s) → Calls Tryd.prog 35 #[.pointer (some ⟨r, 0, none⟩), .int .i64 0] w1 (DG w1 r T o l1 s1)) (HLJ : (dJoin (10, 0, [], 0, dAt T s) 1 l1).length ≤ 1000000) (hr : RdM w r T o s) : Calls Tryd.prog 14 #[.pointer (some ⟨r, 0, none⟩)] w (DG w r T o (dJoin (10, 0, [], 0, dAt T s) 1 l1) (dWant T s1 ⟨#[59]⟩)) := by
  have HR := hid hr
  have hrl := hr.lt
  have HAT := hid (fun w1 (hw : Bw w w1) => dat_any (hr.bw hw))
  have i0 := hid i0
  have i1 := hid i1
  have i2 := hid i2
  have i3 := hid i3
  have i4 := hid i4
  have i5 := hid i5
  have i6 := hid i6
  have i7 := hid i7
  have y := hid y
  have HV := hid HV
  have HLJ := hid HLJ
  have HW := hid (fun w1 (hw : RdM w1 r T o s1) => dwant_any ⟨#[59]⟩ hw)
  generalize dWant T s1 ⟨#[59]⟩ = B at *
  clear hr
  unfold DG at *
  generalize dAt T s = p0 at *
  go_enter Tryd.func14, Tryd.ntmps14
  go_wp2_with (first
    | (go_at_call 27; (fail_if_success (have _g := B1)); refine (HAT.out _ (Bw.refl _)).mono ?_; rintro e wa ⟨rfl, hb1⟩; have B1 := hid hb1; have hra : w.heap.size ≤ wa.heap.size := hb1.size; have R := hid (HR.out.bw hb1); have KP := hid (Kp.of_bw (r := r) hb1); clear hb1)
    | (go_at_call 28; (fail_if_success (have _g := m0)); have m0 := hid trivial; refine (is_no ⟨#[123]⟩ (R.out.bw (by repeat (first | exact Bw.refl _ | apply Bw.alloc | apply Bw.drewN | apply Bw.drew))) i0.out).mono ?_; rintro e w1 ⟨rfl, hr1, hk1⟩; have KP := hid (show Kp r w w1 from KP.out.trans (Kp.trans (Kp.of_bw (by repeat (first | exact Bw.refl _ | apply Bw.alloc | apply Bw.drewN | apply Bw.drew))) hk1)); have R := hid hr1; have P := hid (show Blk w1 wa.heap.size #[.int .i64 0, .int .i64 0, .string { data := #[] }, .int .i64 0, .int .i64 p0] 60 from (Blk.new wa _ _).kp hk1 (by omega)); have ul := P.out.lt; have uc := P.out.cell; have uf := P.out.free; have ur : r < w1.heap.size := R.out.lt; clear hr1 hk1)
    | (go_at_call 28; have _g := m0; clear _g; (fail_if_success (have _g := m1)); have m1 := hid trivial; refine (is_no ⟨#[105, 102]⟩ (R.out.bw (by repeat (first | exact Bw.refl _ | apply Bw.alloc | apply Bw.drewN | apply Bw.drew))) i1.out).mono ?_; clear ul uc uf ur; rintro e w1 ⟨rfl, hr1, hk1⟩; have KP := hid (show Kp r w w1 from KP.out.trans (Kp.trans (Kp.of_bw (by repeat (first | exact Bw.refl _ | apply Bw.alloc | apply Bw.drewN | apply Bw.drew))) hk1)); have P := hid (show Blk w1 wa.heap.size #[.int .i64 0, .int .i64 0, .string { data := #[] }, .int .i64 0, .int .i64 p0] 60 from P.out.kp (Kp.trans (Kp.of_bw (by repeat (first | exact Bw.refl _ | apply Bw.alloc | apply Bw.drewN | apply Bw.drew))) hk1) (by omega)); have R := hid hr1; have ul := P.out.lt; have uc := P.out.cell; have uf := P.out.free; have ur : r < w1.heap.size := R.out.lt; clear hr1 hk1)
    | fail)
  refine wp_region_W (fun _ => True) (fun j => if j == 1 then 0 else 1) (by kernel_rfl) ?_
  refine wpAnyW_take (i := 0) (oi := oa0) (v := ?_) rfl (by kernel_rfl) (by kernel_rfl) (by kernel_rfl) (by kernel_rfl) (fun _ _ _ h => h) (Or.inl ⟨by rfl, fun w _ => ?_⟩) ?_
  rotate_left
  · (go_simp; first | done | with_reducible rfl)
  try simp only [oa0, Act.put, setIfInBounds_toArray, set_cons_zero, set_cons_succ]
  refine wpAnyW_ready (rs := [1]) (by kernel_rfl) (by simp) ?_
  refine (AllReadyW.cons (o := oa1) rfl (fun K hK => ?_) AllReadyW.nil)
  go_simp
  have m2 := hid trivial
  refine (is_no ⟨#[102, 110]⟩ (R.out.bw (by repeat (first | exact Bw.refl _ | apply Bw.alloc | apply Bw.drewN | apply Bw.drew))) i2.out).mono ?_
  clear ul uc uf ur
  rintro e w1 ⟨he1, hr1, hk1⟩
  subst he1
  have KP := hid (show Kp r w w1 from KP.out.trans (Kp.trans (Kp.of_bw (by repeat (first | exact Bw.refl _ | apply Bw.alloc | apply Bw.drewN | apply Bw.drew))) hk1))
  have P := hid (show Blk w1 wa.heap.size #[.int .i64 0, .int .i64 0, .string { data := #[] }, .int .i64 0, .int .i64 p0] 60 from P.out.kp (Kp.trans (Kp.of_bw (by repeat (first | exact Bw.refl _ | apply Bw.alloc | apply Bw.drewN | apply Bw.drew))) hk1) (by omega))
  have R := hid hr1
  have ul := P.out.lt
  have uc := P.out.cell
  have uf := P.out.free
  have ur : r < w1.heap.size := R.out.lt
  clear hr1 hk1
  refine hK.out _ _ trivial ?_
  clear hK K
  try simp only [oa1, Act.put, setIfInBounds_toArray, set_cons_zero, set_cons_succ]
  refine wpAnyW_take (i := 2) (oi := oa2) (v := ?_) rfl (by kernel_rfl) (by kernel_rfl) (by kernel_rfl) (by kernel_rfl) (fun _ _ _ h => h) (Or.inl ⟨by rfl, fun w _ => ?_⟩) ?_
  rotate_left
  · (go_simp; first | done | with_reducible rfl)
  try simp only [oa2, Act.put, setIfInBounds_toArray, set_cons_zero, set_cons_succ]
  refine wpAnyW_take (i := 3) (oi := oa3) (v := undef) rfl (by kernel_rfl) (by kernel_rfl) (by kernel_rfl) (by kernel_rfl) (fun _ _ _ h => h) (Or.inr ⟨by rfl, rfl⟩) ?_
  try simp only [oa3, Act.put, setIfInBounds_toArray, set_cons_zero, set_cons_succ]
  refine wpAnyW_take (i := 4) (oi := oa4) (v := undef) rfl (by kernel_rfl) (by kernel_rfl) (by kernel_rfl) (by kernel_rfl) (fun _ _ _ h => h) (Or.inr ⟨by rfl, rfl⟩) ?_
  try simp only [oa4, Act.put, setIfInBounds_toArray, set_cons_zero, set_cons_succ]
  refine wpAnyW_take (i := 5) (oi := oa5) (v := undef) rfl (by kernel_rfl) (by kernel_rfl) (by kernel_rfl) (by kernel_rfl) (fun _ _ _ h => h) (Or.inr ⟨by rfl, rfl⟩) ?_
  try simp only [oa5, Act.put, setIfInBounds_toArray, set_cons_zero, set_cons_succ]
  refine wpAnyW_take (i := 6) (oi := oa6) (v := undef) rfl (by kernel_rfl) (by kernel_rfl) (by kernel_rfl) (by kernel_rfl) (fun _ _ _ h => h) (Or.inr ⟨by rfl, rfl⟩) ?_
  try simp only [oa6, Act.put, setIfInBounds_toArray, set_cons_zero, set_cons_succ]
  refine wpAnyW_take (i := 7) (oi := oa7) (v := undef) rfl (by kernel_rfl) (by kernel_rfl) (by kernel_rfl) (by kernel_rfl) (fun _ _ _ h => h) (Or.inr ⟨by rfl, rfl⟩) ?_
  try simp only [oa7, Act.put, setIfInBounds_toArray, set_cons_zero, set_cons_succ]
  refine wpAnyW_take (i := 8) (oi := oa8) (v := undef) rfl (by kernel_rfl) (by kernel_rfl) (by kernel_rfl) (by kernel_rfl) (fun _ _ _ h => h) (Or.inr ⟨by rfl, rfl⟩) ?_
  try simp only [oa8, Act.put, setIfInBounds_toArray, set_cons_zero, set_cons_succ]
  refine wpAnyW_take (i := 9) (oi := oa9) (v := undef) rfl (by kernel_rfl) (by kernel_rfl) (by kernel_rfl) (by kernel_rfl) (fun _ _ _ h => h) (Or.inr ⟨by rfl, rfl⟩) ?_
  try simp only [oa9, Act.put, setIfInBounds_toArray, set_cons_zero, set_cons_succ]
  refine wpAnyW_take (i := 10) (oi := oa10) (v := undef) rfl (by kernel_rfl) (by kernel_rfl) (by kernel_rfl) (by kernel_rfl) (fun _ _ _ h => h) (Or.inr ⟨by rfl, rfl⟩) ?_
  try simp only [oa10, Act.put, setIfInBounds_toArray, set_cons_zero, set_cons_succ]
  refine wpAnyW_take (i := 11) (oi := oa11) (v := undef) rfl (by kernel_rfl) (by kernel_rfl) (by kernel_rfl) (by kernel_rfl) (fun _ _ _ h => h) (Or.inr ⟨by rfl, rfl⟩) ?_
  try simp only [oa11, Act.put, setIfInBounds_toArray, set_cons_zero, set_cons_succ]
  refine wpAnyW_take (i := 12) (oi := oa12) (v := undef) rfl (by kernel_rfl) (by kernel_rfl) (by kernel_rfl) (by kernel_rfl) (fun _ _ _ h => h) (Or.inr ⟨by rfl, rfl⟩) ?_
  try simp only [oa12, Act.put, setIfInBounds_toArray, set_cons_zero, set_cons_succ]
  refine wpAnyW_take (i := 13) (oi := oa13) (v := undef) rfl (by kernel_rfl) (by kernel_rfl) (by kernel_rfl) (by kernel_rfl) (fun _ _ _ h => h) (Or.inr ⟨by rfl, rfl⟩) ?_
  try simp only [oa13, Act.put, setIfInBounds_toArray, set_cons_zero, set_cons_succ]
  refine wpAnyW_take (i := 14) (oi := oa14) (v := undef) rfl (by kernel_rfl) (by kernel_rfl) (by kernel_rfl) (by kernel_rfl) (fun _ _ _ h => h) (Or.inr ⟨by rfl, rfl⟩) ?_
  try simp only [oa14, Act.put, setIfInBounds_toArray, set_cons_zero, set_cons_succ]
  refine wpAnyW_take (i := 15) (oi := oa15) (v := undef) rfl (by kernel_rfl) (by kernel_rfl) (by kernel_rfl) (by kernel_rfl) (fun _ _ _ h => h) (Or.inr ⟨by rfl, rfl⟩) ?_
  try simp only [oa15, Act.put, setIfInBounds_toArray, set_cons_zero, set_cons_succ]
  refine wpAnyW_take (i := 16) (oi := oa16) (v := ?_) rfl (by kernel_rfl) (by kernel_rfl) (by kernel_rfl) (by kernel_rfl) (fun _ _ _ h => h) (Or.inl ⟨by rfl, fun w _ => ?_⟩) ?_
  rotate_left
  · (go_simp; first | done | with_reducible rfl)
  try simp only [oa16, Act.put, setIfInBounds_toArray, set_cons_zero, set_cons_succ]
  refine wpAnyW_take (i := 17) (oi := oa17) (v := ?_) rfl (by kernel_rfl) (by kernel_rfl) (by kernel_rfl) (by kernel_rfl) (fun _ _ _ h => h) (Or.inl ⟨by rfl, fun w _ => ?_⟩) ?_
  rotate_left
  · (go_simp; first | done | with_reducible rfl)
  try simp only [oa17, Act.put, setIfInBounds_toArray, set_cons_zero, set_cons_succ]
  refine wpAnyW_done (by kernel_rfl) ?_ _
  all_goals go_wp2_with (first
    | (go_at_call 33; have _g := m2; clear _g; (fail_if_success (have _g := m3)); have m3 := hid trivial; refine (eat_no ⟨#[118, 97, 114]⟩ (R.out.bw (by repeat (first | exact Bw.refl _ | apply Bw.alloc | apply Bw.drewN | apply Bw.drew))) i3.out).mono ?_; clear ul uc uf ur; rintro e w1 ⟨rfl, hr1, hk1⟩; have KP := hid (show Kp r w w1 from KP.out.trans (Kp.trans (Kp.of_bw (by repeat (first | exact Bw.refl _ | apply Bw.alloc | apply Bw.drewN | apply Bw.drew))) hk1)); have P := hid (show Blk w1 wa.heap.size #[.int .i64 0, .int .i64 0, .string { data := #[] }, .int .i64 0, .int .i64 p0] 60 from P.out.kp (Kp.trans (Kp.of_bw (by repeat (first | exact Bw.refl _ | apply Bw.alloc | apply Bw.drewN | apply Bw.drew))) hk1) (by omega)); have R := hid hr1; have ul := P.out.lt; have uc := P.out.cell; have uf := P.out.free; have ur : r < w1.heap.size := R.out.lt; clear hr1 hk1)
    | (go_at_call 33; have _g := m3; clear _g; (fail_if_success (have _g := m4)); have m4 := hid trivial; refine (eat_no ⟨#[119, 104, 105, 108, 101]⟩ (R.out.bw (by repeat (first | exact Bw.refl _ | apply Bw.alloc | apply Bw.drewN | apply Bw.drew))) i4.out).mono ?_; clear ul uc uf ur; rintro e w1 ⟨rfl, hr1, hk1⟩; have KP := hid (show Kp r w w1 from KP.out.trans (Kp.trans (Kp.of_bw (by repeat (first | exact Bw.refl _ | apply Bw.alloc | apply Bw.drewN | apply Bw.drew))) hk1)); have P := hid (show Blk w1 wa.heap.size #[.int .i64 0, .int .i64 0, .string { data := #[] }, .int .i64 0, .int .i64 p0] 60 from P.out.kp (Kp.trans (Kp.of_bw (by repeat (first | exact Bw.refl _ | apply Bw.alloc | apply Bw.drewN | apply Bw.drew))) hk1) (by omega)); have R := hid hr1; have ul := P.out.lt; have uc := P.out.cell; have uf := P.out.free; have ur : r < w1.heap.size := R.out.lt; clear hr1 hk1)
    | (go_at_call 33; have _g := m4; clear _g; (fail_if_success (have _g := m5)); have m5 := hid trivial; refine (eat_no ⟨#[98, 114, 101, 97, 107]⟩ (R.out.bw (by repeat (first | exact Bw.refl _ | apply Bw.alloc | apply Bw.drewN | apply Bw.drew))) i5.out).mono ?_; clear ul uc uf ur; rintro e w1 ⟨rfl, hr1, hk1⟩; have KP := hid (show Kp r w w1 from KP.out.trans (Kp.trans (Kp.of_bw (by repeat (first | exact Bw.refl _ | apply Bw.alloc | apply Bw.drewN | apply Bw.drew))) hk1)); have P := hid (show Blk w1 wa.heap.size #[.int .i64 0, .int .i64 0, .string { data := #[] }, .int .i64 0, .int .i64 p0] 60 from P.out.kp (Kp.trans (Kp.of_bw (by repeat (first | exact Bw.refl _ | apply Bw.alloc | apply Bw.drewN | apply Bw.drew))) hk1) (by omega)); have R := hid hr1; have ul := P.out.lt; have uc := P.out.cell; have uf := P.out.free; have ur : r < w1.heap.size := R.out.lt; clear hr1 hk1)
    | (go_at_call 33; have _g := m5; clear _g; (fail_if_success (have _g := m6)); have m6 := hid trivial; refine (eat_no ⟨#[99, 111, 110, 116, 105, 110, 117, 101]⟩ (R.out.bw (by repeat (first | exact Bw.refl _ | apply Bw.alloc | apply Bw.drewN | apply Bw.drew))) i6.out).mono ?_; clear ul uc uf ur; rintro e w1 ⟨rfl, hr1, hk1⟩; have KP := hid (show Kp r w w1 from KP.out.trans (Kp.trans (Kp.of_bw (by repeat (first | exact Bw.refl _ | apply Bw.alloc | apply Bw.drewN | apply Bw.drew))) hk1)); have P := hid (show Blk w1 wa.heap.size #[.int .i64 0, .int .i64 0, .string { data := #[] }, .int .i64 0, .int .i64 p0] 60 from P.out.kp (Kp.trans (Kp.of_bw (by repeat (first | exact Bw.refl _ | apply Bw.alloc | apply Bw.drewN | apply Bw.drew))) hk1) (by omega)); have R := hid hr1; have ul := P.out.lt; have uc := P.out.cell; have uf := P.out.free; have ur : r < w1.heap.size := R.out.lt; clear hr1 hk1)
    | (go_at_call 33; have _g := m6; clear _g; (fail_if_success (have _g := m7)); have m7 := hid trivial; refine (eat_no ⟨#[114, 101, 116, 117, 114, 110]⟩ (R.out.bw (by repeat (first | exact Bw.refl _ | apply Bw.alloc | apply Bw.drewN | apply Bw.drew))) i7.out).mono ?_; clear ul uc uf ur; rintro e w1 ⟨rfl, hr1, hk1⟩; have KP := hid (show Kp r w w1 from KP.out.trans (Kp.trans (Kp.of_bw (by repeat (first | exact Bw.refl _ | apply Bw.alloc | apply Bw.drewN | apply Bw.drew))) hk1)); have P := hid (show Blk w1 wa.heap.size #[.int .i64 0, .int .i64 0, .string { data := #[] }, .int .i64 0, .int .i64 p0] 60 from P.out.kp (Kp.trans (Kp.of_bw (by repeat (first | exact Bw.refl _ | apply Bw.alloc | apply Bw.drewN | apply Bw.drew))) hk1) (by omega)); have R := hid hr1; have ul := P.out.lt; have uc := P.out.cell; have uf := P.out.free; have ur : r < w1.heap.size := R.out.lt; clear hr1 hk1)
    | (go_at_call 33; have _g := m7; clear _g; (fail_if_success (have _g := m8)); have m8 := hid trivial; refine (eat_yes ⟨#[116, 104, 114, 111, 119]⟩ (R.out.bw (by repeat (first | exact Bw.refl _ | apply Bw.alloc | apply Bw.drewN | apply Bw.drew))) y.out).mono ?_; clear ul uc uf ur; rintro e w1 ⟨rfl, hr1, hk1⟩; have KP := hid (show Kp r w w1 from KP.out.trans (Kp.trans (Kp.of_bw (by repeat (first | exact Bw.refl _ | apply Bw.alloc | apply Bw.drewN | apply Bw.drew))) hk1)); have P := hid (show Blk w1 wa.heap.size #[.int .i64 0, .int .i64 0, .string { data := #[] }, .int .i64 0, .int .i64 p0] 60 from P.out.kp (Kp.trans (Kp.of_bw (by repeat (first | exact Bw.refl _ | apply Bw.alloc | apply Bw.drewN | apply Bw.drew))) hk1) (by omega)); have R := hid hr1; have ul := P.out.lt; have uc := P.out.cell; have uf := P.out.free; have ur : r < w1.heap.size := R.out.lt; clear hr1 hk1)
    | (go_at_call 35; (fail_if_success (have _g := m21)); have m21 := hid trivial; refine (HV.out _ (R.out.setO P.out 0 _)).mono ?_; clear ul uc uf ur; rintro e w1 ⟨a2, c2, rfl, hn2, hr1, hk1, hl2⟩; have KP := hid (show Kp r w w1 from Kp.trans (KP.out.setNew hra 0 _) hk1); have PZ := P.out.lt; have P := hid (show Blk w1 wa.heap.size #[.int .i64 10, .int .i64 0, .string { data := #[] }, .int .i64 0, .int .i64 p0] 60 from (P.out.set 0 _).kp hk1 (by omega)); have N := hid (hn2.low (b' := wa.heap.size + 1) (by first | omega | (simp only [World.size_setCell]; omega) | (simp; omega))); have L := hid hl2; clear hn2 hl2; have R := hid hr1; have ul := P.out.lt; have uc := P.out.cell; have uf := P.out.free; have ur : r < w1.heap.size := R.out.lt; clear hr1 hk1)
    | (go_at_call 34; have _g := m21; clear _g; (fail_if_success (have _g := m22)); have m22 := hid trivial; refine (HW.out _ (R.out.bw (by repeat (first | exact Bw.refl _ | apply Bw.alloc | apply Bw.drewN | apply Bw.drew)))).mono ?_; clear ul uc uf ur; rintro e w1 ⟨rfl, hr1, hk1⟩; have KP := hid (show Kp r w w1 from KP.out.trans (Kp.trans (Kp.of_bw (by repeat (first | exact Bw.refl _ | apply Bw.alloc | apply Bw.drewN | apply Bw.drew))) hk1)); have P := hid (show Blk w1 wa.heap.size #[.int .i64 10, .int .i64 0, .string { data := #[] }, .int .i64 0, .int .i64 p0] 60 from P.out.kp (Kp.trans (Kp.of_bw (by repeat (first | exact Bw.refl _ | apply Bw.alloc | apply Bw.drewN | apply Bw.drew))) hk1) (by omega)); have N := hid (N.out.kp (Kp.trans (Kp.of_bw (by repeat (first | exact Bw.refl _ | apply Bw.alloc | apply Bw.drewN | apply Bw.drew))) hk1) (by omega)); have R := hid hr1; have ul := P.out.lt; have uc := P.out.cell; have uf := P.out.free; have ur : r < w1.heap.size := R.out.lt; clear hr1 hk1)
    | (go_at_call 15; refine (djoin_any (10, 0, [], 0, p0) 1 _ l1 N.out.sl (by have := L.out; omega)).mono ?_; rintro e w9 ⟨a9, c9, rfl, hn9, hb9⟩; have N9 := hid hn9; have B9 := hid hb9; clear hn9 hb9)
    | fail)
  all_goals go_ret
  all_goals exact ⟨_, _, rfl, N9.out.low KP.out.size, R.out.bw B9.out, KP.out.bw B9.out, HLJ.out⟩

set_option maxRecDepth 100000 in
set_option maxHeartbeats 8000000 in
theorem stmt_ret0 (i0 : dIs T s ⟨#[123]⟩ = false) (i1 : dIs T s ⟨#[105, 102]⟩ = false) (i2 : dIs T s ⟨#[102, 110]⟩ = false) (i3 : dIs T s ⟨#[118, 97, 114]⟩ = false) (i4 : dIs T s ⟨#[119, 104, 105, 108, 101]⟩ = false) (i5 : dIs T s ⟨#[98, 114, 101, 97, 107]⟩ = false) (i6 : dIs T s ⟨#[99, 111, 110, 116, 105, 110, 117, 101]⟩ = false) (y : dIs T s ⟨#[114, 101, 116, 117, 114, 110]⟩ = true) (y2 : dIs T (dNx s) ⟨#[59]⟩ = true) (hr : RdM w r T o s) : Calls Tryd.prog 14 #[.pointer (some ⟨r, 0, none⟩)] w (DG w r T o (dJoin (9, 0, [], 0, dAt T s) 0 []) (dNx (dNx s))) := by
  have HR := hid hr
  have hrl := hr.lt
  have HAT := hid (fun w1 (hw : Bw w w1) => dat_any (hr.bw hw))
  have i0 := hid i0
  have i1 := hid i1
  have i2 := hid i2
  have i3 := hid i3
  have i4 := hid i4
  have i5 := hid i5
  have i6 := hid i6
  have y := hid y
  have HW := hid (fun w1 (hw : RdM w1 r T o (dNx s)) => eat_yes ⟨#[59]⟩ hw y2)
  clear y2
  clear hr
  unfold DG at *
  generalize dAt T s = p0 at *
  go_enter Tryd.func14, Tryd.ntmps14
  go_wp2_with (first
    | (go_at_call 27; (fail_if_success (have _g := B1)); refine (HAT.out _ (Bw.refl _)).mono ?_; rintro e wa ⟨rfl, hb1⟩; have B1 := hid hb1; have hra : w.heap.size ≤ wa.heap.size := hb1.size; have R := hid (HR.out.bw hb1); have KP := hid (Kp.of_bw (r := r) hb1); clear hb1)
    | (go_at_call 28; (fail_if_success (have _g := m0)); have m0 := hid trivial; refine (is_no ⟨#[123]⟩ (R.out.bw (by repeat (first | exact Bw.refl _ | apply Bw.alloc | apply Bw.drewN | apply Bw.drew))) i0.out).mono ?_; rintro e w1 ⟨rfl, hr1, hk1⟩; have KP := hid (show Kp r w w1 from KP.out.trans (Kp.trans (Kp.of_bw (by repeat (first | exact Bw.refl _ | apply Bw.alloc | apply Bw.drewN | apply Bw.drew))) hk1)); have R := hid hr1; have P := hid (show Blk w1 wa.heap.size #[.int .i64 0, .int .i64 0, .string { data := #[] }, .int .i64 0, .int .i64 p0] 60 from (Blk.new wa _ _).kp hk1 (by omega)); have ul := P.out.lt; have uc := P.out.cell; have uf := P.out.free; have ur : r < w1.heap.size := R.out.lt; clear hr1 hk1)
    | (go_at_call 28; have _g := m0; clear _g; (fail_if_success (have _g := m1)); have m1 := hid trivial; refine (is_no ⟨#[105, 102]⟩ (R.out.bw (by repeat (first | exact Bw.refl _ | apply Bw.alloc | apply Bw.drewN | apply Bw.drew))) i1.out).mono ?_; clear ul uc uf ur; rintro e w1 ⟨rfl, hr1, hk1⟩; have KP := hid (show Kp r w w1 from KP.out.trans (Kp.trans (Kp.of_bw (by repeat (first | exact Bw.refl _ | apply Bw.alloc | apply Bw.drewN | apply Bw.drew))) hk1)); have P := hid (show Blk w1 wa.heap.size #[.int .i64 0, .int .i64 0, .string { data := #[] }, .int .i64 0, .int .i64 p0] 60 from P.out.kp (Kp.trans (Kp.of_bw (by repeat (first | exact Bw.refl _ | apply Bw.alloc | apply Bw.drewN | apply Bw.drew))) hk1) (by omega)); have R := hid hr1; have ul := P.out.lt; have uc := P.out.cell; have uf := P.out.free; have ur : r < w1.heap.size := R.out.lt; clear hr1 hk1)
    | fail)
  refine wp_region_W (fun _ => True) (fun j => if j == 1 then 0 else 1) (by kernel_rfl) ?_
  refine wpAnyW_take (i := 0) (oi := oa0) (v := ?_) rfl (by kernel_rfl) (by kernel_rfl) (by kernel_rfl) (by kernel_rfl) (fun _ _ _ h => h) (Or.inl ⟨by rfl, fun w _ => ?_⟩) ?_
  rotate_left
  · (go_simp; first | done | with_reducible rfl)
  try simp only [oa0, Act.put, setIfInBounds_toArray, set_cons_zero, set_cons_succ]
  refine wpAnyW_ready (rs := [1]) (by kernel_rfl) (by simp) ?_
  refine (AllReadyW.cons (o := oa1) rfl (fun K hK => ?_) AllReadyW.nil)
  go_simp
  have m2 := hid trivial
  refine (is_no ⟨#[102, 110]⟩ (R.out.bw (by repeat (first | exact Bw.refl _ | apply Bw.alloc | apply Bw.drewN | apply Bw.drew))) i2.out).mono ?_
  clear ul uc uf ur
  rintro e w1 ⟨he1, hr1, hk1⟩
  subst he1
  have KP := hid (show Kp r w w1 from KP.out.trans (Kp.trans (Kp.of_bw (by repeat (first | exact Bw.refl _ | apply Bw.alloc | apply Bw.drewN | apply Bw.drew))) hk1))
  have P := hid (show Blk w1 wa.heap.size #[.int .i64 0, .int .i64 0, .string { data := #[] }, .int .i64 0, .int .i64 p0] 60 from P.out.kp (Kp.trans (Kp.of_bw (by repeat (first | exact Bw.refl _ | apply Bw.alloc | apply Bw.drewN | apply Bw.drew))) hk1) (by omega))
  have R := hid hr1
  have ul := P.out.lt
  have uc := P.out.cell
  have uf := P.out.free
  have ur : r < w1.heap.size := R.out.lt
  clear hr1 hk1
  refine hK.out _ _ trivial ?_
  clear hK K
  try simp only [oa1, Act.put, setIfInBounds_toArray, set_cons_zero, set_cons_succ]
  refine wpAnyW_take (i := 2) (oi := oa2) (v := ?_) rfl (by kernel_rfl) (by kernel_rfl) (by kernel_rfl) (by kernel_rfl) (fun _ _ _ h => h) (Or.inl ⟨by rfl, fun w _ => ?_⟩) ?_
  rotate_left
  · (go_simp; first | done | with_reducible rfl)
  try simp only [oa2, Act.put, setIfInBounds_toArray, set_cons_zero, set_cons_succ]
  refine wpAnyW_take (i := 3) (oi := oa3) (v := undef) rfl (by kernel_rfl) (by kernel_rfl) (by kernel_rfl) (by kernel_rfl) (fun _ _ _ h => h) (Or.inr ⟨by rfl, rfl⟩) ?_
  try simp only [oa3, Act.put, setIfInBounds_toArray, set_cons_zero, set_cons_succ]
  refine wpAnyW_take (i := 4) (oi := oa4) (v := undef) rfl (by kernel_rfl) (by kernel_rfl) (by kernel_rfl) (by kernel_rfl) (fun _ _ _ h => h) (Or.inr ⟨by rfl, rfl⟩) ?_
  try simp only [oa4, Act.put, setIfInBounds_toArray, set_cons_zero, set_cons_succ]
  refine wpAnyW_take (i := 5) (oi := oa5) (v := undef) rfl (by kernel_rfl) (by kernel_rfl) (by kernel_rfl) (by kernel_rfl) (fun _ _ _ h => h) (Or.inr ⟨by rfl, rfl⟩) ?_
  try simp only [oa5, Act.put, setIfInBounds_toArray, set_cons_zero, set_cons_succ]
  refine wpAnyW_take (i := 6) (oi := oa6) (v := undef) rfl (by kernel_rfl) (by kernel_rfl) (by kernel_rfl) (by kernel_rfl) (fun _ _ _ h => h) (Or.inr ⟨by rfl, rfl⟩) ?_
  try simp only [oa6, Act.put, setIfInBounds_toArray, set_cons_zero, set_cons_succ]
  refine wpAnyW_take (i := 7) (oi := oa7) (v := undef) rfl (by kernel_rfl) (by kernel_rfl) (by kernel_rfl) (by kernel_rfl) (fun _ _ _ h => h) (Or.inr ⟨by rfl, rfl⟩) ?_
  try simp only [oa7, Act.put, setIfInBounds_toArray, set_cons_zero, set_cons_succ]
  refine wpAnyW_take (i := 8) (oi := oa8) (v := undef) rfl (by kernel_rfl) (by kernel_rfl) (by kernel_rfl) (by kernel_rfl) (fun _ _ _ h => h) (Or.inr ⟨by rfl, rfl⟩) ?_
  try simp only [oa8, Act.put, setIfInBounds_toArray, set_cons_zero, set_cons_succ]
  refine wpAnyW_take (i := 9) (oi := oa9) (v := undef) rfl (by kernel_rfl) (by kernel_rfl) (by kernel_rfl) (by kernel_rfl) (fun _ _ _ h => h) (Or.inr ⟨by rfl, rfl⟩) ?_
  try simp only [oa9, Act.put, setIfInBounds_toArray, set_cons_zero, set_cons_succ]
  refine wpAnyW_take (i := 10) (oi := oa10) (v := undef) rfl (by kernel_rfl) (by kernel_rfl) (by kernel_rfl) (by kernel_rfl) (fun _ _ _ h => h) (Or.inr ⟨by rfl, rfl⟩) ?_
  try simp only [oa10, Act.put, setIfInBounds_toArray, set_cons_zero, set_cons_succ]
  refine wpAnyW_take (i := 11) (oi := oa11) (v := undef) rfl (by kernel_rfl) (by kernel_rfl) (by kernel_rfl) (by kernel_rfl) (fun _ _ _ h => h) (Or.inr ⟨by rfl, rfl⟩) ?_
  try simp only [oa11, Act.put, setIfInBounds_toArray, set_cons_zero, set_cons_succ]
  refine wpAnyW_take (i := 12) (oi := oa12) (v := undef) rfl (by kernel_rfl) (by kernel_rfl) (by kernel_rfl) (by kernel_rfl) (fun _ _ _ h => h) (Or.inr ⟨by rfl, rfl⟩) ?_
  try simp only [oa12, Act.put, setIfInBounds_toArray, set_cons_zero, set_cons_succ]
  refine wpAnyW_take (i := 13) (oi := oa13) (v := undef) rfl (by kernel_rfl) (by kernel_rfl) (by kernel_rfl) (by kernel_rfl) (fun _ _ _ h => h) (Or.inr ⟨by rfl, rfl⟩) ?_
  try simp only [oa13, Act.put, setIfInBounds_toArray, set_cons_zero, set_cons_succ]
  refine wpAnyW_take (i := 14) (oi := oa14) (v := undef) rfl (by kernel_rfl) (by kernel_rfl) (by kernel_rfl) (by kernel_rfl) (fun _ _ _ h => h) (Or.inr ⟨by rfl, rfl⟩) ?_
  try simp only [oa14, Act.put, setIfInBounds_toArray, set_cons_zero, set_cons_succ]
  refine wpAnyW_take (i := 15) (oi := oa15) (v := undef) rfl (by kernel_rfl) (by kernel_rfl) (by kernel_rfl) (by kernel_rfl) (fun _ _ _ h => h) (Or.inr ⟨by rfl, rfl⟩) ?_
  try simp only [oa15, Act.put, setIfInBounds_toArray, set_cons_zero, set_cons_succ]
  refine wpAnyW_take (i := 16) (oi := oa16) (v := ?_) rfl (by kernel_rfl) (by kernel_rfl) (by kernel_rfl) (by kernel_rfl) (fun _ _ _ h => h) (Or.inl ⟨by rfl, fun w _ => ?_⟩) ?_
  rotate_left
  · (go_simp; first | done | with_reducible rfl)
  try simp only [oa16, Act.put, setIfInBounds_toArray, set_cons_zero, set_cons_succ]
  refine wpAnyW_take (i := 17) (oi := oa17) (v := ?_) rfl (by kernel_rfl) (by kernel_rfl) (by kernel_rfl) (by kernel_rfl) (fun _ _ _ h => h) (Or.inl ⟨by rfl, fun w _ => ?_⟩) ?_
  rotate_left
  · (go_simp; first | done | with_reducible rfl)
  try simp only [oa17, Act.put, setIfInBounds_toArray, set_cons_zero, set_cons_succ]
  refine wpAnyW_done (by kernel_rfl) ?_ _
  all_goals go_wp2_with (first
    | (go_at_call 33; have _g := m2; clear _g; (fail_if_success (have _g := m3)); have m3 := hid trivial; refine (eat_no ⟨#[118, 97, 114]⟩ (R.out.bw (by repeat (first | exact Bw.refl _ | apply Bw.alloc | apply Bw.drewN | apply Bw.drew))) i3.out).mono ?_; clear ul uc uf ur; rintro e w1 ⟨rfl, hr1, hk1⟩; have KP := hid (show Kp r w w1 from KP.out.trans (Kp.trans (Kp.of_bw (by repeat (first | exact Bw.refl _ | apply Bw.alloc | apply Bw.drewN | apply Bw.drew))) hk1)); have P := hid (show Blk w1 wa.heap.size #[.int .i64 0, .int .i64 0, .string { data := #[] }, .int .i64 0, .int .i64 p0] 60 from P.out.kp (Kp.trans (Kp.of_bw (by repeat (first | exact Bw.refl _ | apply Bw.alloc | apply Bw.drewN | apply Bw.drew))) hk1) (by omega)); have R := hid hr1; have ul := P.out.lt; have uc := P.out.cell; have uf := P.out.free; have ur : r < w1.heap.size := R.out.lt; clear hr1 hk1)
    | (go_at_call 33; have _g := m3; clear _g; (fail_if_success (have _g := m4)); have m4 := hid trivial; refine (eat_no ⟨#[119, 104, 105, 108, 101]⟩ (R.out.bw (by repeat (first | exact Bw.refl _ | apply Bw.alloc | apply Bw.drewN | apply Bw.drew))) i4.out).mono ?_; clear ul uc uf ur; rintro e w1 ⟨rfl, hr1, hk1⟩; have KP := hid (show Kp r w w1 from KP.out.trans (Kp.trans (Kp.of_bw (by repeat (first | exact Bw.refl _ | apply Bw.alloc | apply Bw.drewN | apply Bw.drew))) hk1)); have P := hid (show Blk w1 wa.heap.size #[.int .i64 0, .int .i64 0, .string { data := #[] }, .int .i64 0, .int .i64 p0] 60 from P.out.kp (Kp.trans (Kp.of_bw (by repeat (first | exact Bw.refl _ | apply Bw.alloc | apply Bw.drewN | apply Bw.drew))) hk1) (by omega)); have R := hid hr1; have ul := P.out.lt; have uc := P.out.cell; have uf := P.out.free; have ur : r < w1.heap.size := R.out.lt; clear hr1 hk1)
    | (go_at_call 33; have _g := m4; clear _g; (fail_if_success (have _g := m5)); have m5 := hid trivial; refine (eat_no ⟨#[98, 114, 101, 97, 107]⟩ (R.out.bw (by repeat (first | exact Bw.refl _ | apply Bw.alloc | apply Bw.drewN | apply Bw.drew))) i5.out).mono ?_; clear ul uc uf ur; rintro e w1 ⟨rfl, hr1, hk1⟩; have KP := hid (show Kp r w w1 from KP.out.trans (Kp.trans (Kp.of_bw (by repeat (first | exact Bw.refl _ | apply Bw.alloc | apply Bw.drewN | apply Bw.drew))) hk1)); have P := hid (show Blk w1 wa.heap.size #[.int .i64 0, .int .i64 0, .string { data := #[] }, .int .i64 0, .int .i64 p0] 60 from P.out.kp (Kp.trans (Kp.of_bw (by repeat (first | exact Bw.refl _ | apply Bw.alloc | apply Bw.drewN | apply Bw.drew))) hk1) (by omega)); have R := hid hr1; have ul := P.out.lt; have uc := P.out.cell; have uf := P.out.free; have ur : r < w1.heap.size := R.out.lt; clear hr1 hk1)
    | (go_at_call 33; have _g := m5; clear _g; (fail_if_success (have _g := m6)); have m6 := hid trivial; refine (eat_no ⟨#[99, 111, 110, 116, 105, 110, 117, 101]⟩ (R.out.bw (by repeat (first | exact Bw.refl _ | apply Bw.alloc | apply Bw.drewN | apply Bw.drew))) i6.out).mono ?_; clear ul uc uf ur; rintro e w1 ⟨rfl, hr1, hk1⟩; have KP := hid (show Kp r w w1 from KP.out.trans (Kp.trans (Kp.of_bw (by repeat (first | exact Bw.refl _ | apply Bw.alloc | apply Bw.drewN | apply Bw.drew))) hk1)); have P := hid (show Blk w1 wa.heap.size #[.int .i64 0, .int .i64 0, .string { data := #[] }, .int .i64 0, .int .i64 p0] 60 from P.out.kp (Kp.trans (Kp.of_bw (by repeat (first | exact Bw.refl _ | apply Bw.alloc | apply Bw.drewN | apply Bw.drew))) hk1) (by omega)); have R := hid hr1; have ul := P.out.lt; have uc := P.out.cell; have uf := P.out.free; have ur : r < w1.heap.size := R.out.lt; clear hr1 hk1)
    | (go_at_call 33; have _g := m6; clear _g; (fail_if_success (have _g := m7)); have m7 := hid trivial; refine (eat_yes ⟨#[114, 101, 116, 117, 114, 110]⟩ (R.out.bw (by repeat (first | exact Bw.refl _ | apply Bw.alloc | apply Bw.drewN | apply Bw.drew))) y.out).mono ?_; clear ul uc uf ur; rintro e w1 ⟨rfl, hr1, hk1⟩; have KP := hid (show Kp r w w1 from KP.out.trans (Kp.trans (Kp.of_bw (by repeat (first | exact Bw.refl _ | apply Bw.alloc | apply Bw.drewN | apply Bw.drew))) hk1)); have P := hid (show Blk w1 wa.heap.size #[.int .i64 0, .int .i64 0, .string { data := #[] }, .int .i64 0, .int .i64 p0] 60 from P.out.kp (Kp.trans (Kp.of_bw (by repeat (first | exact Bw.refl _ | apply Bw.alloc | apply Bw.drewN | apply Bw.drew))) hk1) (by omega)); have R := hid hr1; have ul := P.out.lt; have uc := P.out.cell; have uf := P.out.free; have ur : r < w1.heap.size := R.out.lt; clear hr1 hk1)
    | (go_at_call 33; have _g := m7; clear _g; (fail_if_success (have _g := m21)); have m21 := hid trivial; refine (HW.out _ (R.out.setO P.out 0 _)).mono ?_; clear ul uc uf ur; rintro e w1 ⟨rfl, hr1, hk1⟩; have KP := hid (show Kp r w w1 from Kp.trans (KP.out.setNew hra 0 _) hk1); have P := hid (show Blk w1 wa.heap.size #[.int .i64 9, .int .i64 0, .string { data := #[] }, .int .i64 0, .int .i64 p0] 60 from (P.out.set 0 _).kp hk1 (by omega)); have R := hid hr1; have ul := P.out.lt; have uc := P.out.cell; have uf := P.out.free; have ur : r < w1.heap.size := R.out.lt; clear hr1 hk1)
    | (go_at_call 15; refine (djoin_any (9, 0, [], 0, p0) 0 _ [] (Nd.nil w1 0).sl (Nat.zero_le _)).mono ?_; rintro e w9 ⟨a9, c9, rfl, hn9, hb9⟩; have N9 := hid hn9; have B9 := hid hb9; clear hn9 hb9)
    | fail)
  all_goals go_ret
  all_goals exact ⟨_, _, rfl, N9.out.low KP.out.size, R.out.bw B9.out, KP.out.bw B9.out, (show 1 ≤ 1000000 by decide)⟩

set_option maxRecDepth 100000 in
set_option maxHeartbeats 8000000 in
theorem stmt_ret1 (i0 : dIs T s ⟨#[123]⟩ = false) (i1 : dIs T s ⟨#[105, 102]⟩ = false) (i2 : dIs T s ⟨#[102, 110]⟩ = false) (i3 : dIs T s ⟨#[118, 97, 114]⟩ = false) (i4 : dIs T s ⟨#[119, 104, 105, 108, 101]⟩ = false) (i5 : dIs T s ⟨#[98, 114, 101, 97, 107]⟩ = false) (i6 : dIs T s ⟨#[99, 111, 110, 116, 105, 110, 117, 101]⟩ = false) (y : dIs T s ⟨#[114, 101, 116, 117, 114, 110]⟩ = true) {l1 : List ANode} {s1 : DS} (HV : ∀ w1 : World, RdM w1 r T o (dNx s) → Calls Tryd.prog 35 #[.pointer (some ⟨r, 0, none⟩), .int .i64 0] w1 (DG w1 r T o l1 s1)) (y2 : dIs T (dNx s) ⟨#[59]⟩ = false) (HLJ : (dJoin (9, 0, [], 0, dAt T s) 1 l1).length ≤ 1000000) (hr : RdM w r T o s) : Calls Tryd.prog 14 #[.pointer (some ⟨r, 0, none⟩)] w (DG w r T o (dJoin (9, 0, [], 0, dAt T s) 1 l1) (dWant T s1 ⟨#[59]⟩)) := by
  have HR := hid hr
  have hrl := hr.lt
  have HAT := hid (fun w1 (hw : Bw w w1) => dat_any (hr.bw hw))
  have i0 := hid i0
  have i1 := hid i1
  have i2 := hid i2
  have i3 := hid i3
  have i4 := hid i4
  have i5 := hid i5
  have i6 := hid i6
  have y := hid y
  have HV := hid HV
  have HLJ := hid HLJ
  have HE := hid (fun w1 (hw : RdM w1 r T o (dNx s)) => eat_no ⟨#[59]⟩ hw y2)
  clear y2
  have HW := hid (fun w1 (hw : RdM w1 r T o s1) => dwant_any ⟨#[59]⟩ hw)
  generalize dWant T s1 ⟨#[59]⟩ = B at *
  clear hr
  unfold DG at *
  generalize dAt T s = p0 at *
  go_enter Tryd.func14, Tryd.ntmps14
  go_wp2_with (first
    | (go_at_call 27; (fail_if_success (have _g := B1)); refine (HAT.out _ (Bw.refl _)).mono ?_; rintro e wa ⟨rfl, hb1⟩; have B1 := hid hb1; have hra : w.heap.size ≤ wa.heap.size := hb1.size; have R := hid (HR.out.bw hb1); have KP := hid (Kp.of_bw (r := r) hb1); clear hb1)
    | (go_at_call 28; (fail_if_success (have _g := m0)); have m0 := hid trivial; refine (is_no ⟨#[123]⟩ (R.out.bw (by repeat (first | exact Bw.refl _ | apply Bw.alloc | apply Bw.drewN | apply Bw.drew))) i0.out).mono ?_; rintro e w1 ⟨rfl, hr1, hk1⟩; have KP := hid (show Kp r w w1 from KP.out.trans (Kp.trans (Kp.of_bw (by repeat (first | exact Bw.refl _ | apply Bw.alloc | apply Bw.drewN | apply Bw.drew))) hk1)); have R := hid hr1; have P := hid (show Blk w1 wa.heap.size #[.int .i64 0, .int .i64 0, .string { data := #[] }, .int .i64 0, .int .i64 p0] 60 from (Blk.new wa _ _).kp hk1 (by omega)); have ul := P.out.lt; have uc := P.out.cell; have uf := P.out.free; have ur : r < w1.heap.size := R.out.lt; clear hr1 hk1)
    | (go_at_call 28; have _g := m0; clear _g; (fail_if_success (have _g := m1)); have m1 := hid trivial; refine (is_no ⟨#[105, 102]⟩ (R.out.bw (by repeat (first | exact Bw.refl _ | apply Bw.alloc | apply Bw.drewN | apply Bw.drew))) i1.out).mono ?_; clear ul uc uf ur; rintro e w1 ⟨rfl, hr1, hk1⟩; have KP := hid (show Kp r w w1 from KP.out.trans (Kp.trans (Kp.of_bw (by repeat (first | exact Bw.refl _ | apply Bw.alloc | apply Bw.drewN | apply Bw.drew))) hk1)); have P := hid (show Blk w1 wa.heap.size #[.int .i64 0, .int .i64 0, .string { data := #[] }, .int .i64 0, .int .i64 p0] 60 from P.out.kp (Kp.trans (Kp.of_bw (by repeat (first | exact Bw.refl _ | apply Bw.alloc | apply Bw.drewN | apply Bw.drew))) hk1) (by omega)); have R := hid hr1; have ul := P.out.lt; have uc := P.out.cell; have uf := P.out.free; have ur : r < w1.heap.size := R.out.lt; clear hr1 hk1)
    | fail)
  refine wp_region_W (fun _ => True) (fun j => if j == 1 then 0 else 1) (by kernel_rfl) ?_
  refine wpAnyW_take (i := 0) (oi := oa0) (v := ?_) rfl (by kernel_rfl) (by kernel_rfl) (by kernel_rfl) (by kernel_rfl) (fun _ _ _ h => h) (Or.inl ⟨by rfl, fun w _ => ?_⟩) ?_
  rotate_left
  · (go_simp; first | done | with_reducible rfl)
  try simp only [oa0, Act.put, setIfInBounds_toArray, set_cons_zero, set_cons_succ]
  refine wpAnyW_ready (rs := [1]) (by kernel_rfl) (by simp) ?_
  refine (AllReadyW.cons (o := oa1) rfl (fun K hK => ?_) AllReadyW.nil)
  go_simp
  have m2 := hid trivial
  refine (is_no ⟨#[102, 110]⟩ (R.out.bw (by repeat (first | exact Bw.refl _ | apply Bw.alloc | apply Bw.drewN | apply Bw.drew))) i2.out).mono ?_
  clear ul uc uf ur
  rintro e w1 ⟨he1, hr1, hk1⟩
  subst he1
  have KP := hid (show Kp r w w1 from KP.out.trans (Kp.trans (Kp.of_bw (by repeat (first | exact Bw.refl _ | apply Bw.alloc | apply Bw.drewN | apply Bw.drew))) hk1))
  have P := hid (show Blk w1 wa.heap.size #[.int .i64 0, .int .i64 0, .string { data := #[] }, .int .i64 0, .int .i64 p0] 60 from P.out.kp (Kp.trans (Kp.of_bw (by repeat (first | exact Bw.refl _ | apply Bw.alloc | apply Bw.drewN | apply Bw.drew))) hk1) (by omega))
  have R := hid hr1
  have ul := P.out.lt
  have uc := P.out.cell
  have uf := P.out.free
  have ur : r < w1.heap.size := R.out.lt
  clear hr1 hk1
  refine hK.out _ _ trivial ?_
  clear hK K
  try simp only [oa1, Act.put, setIfInBounds_toArray, set_cons_zero, set_cons_succ]
  refine wpAnyW_take (i := 2) (oi := oa2) (v := ?_) rfl (by kernel_rfl) (by kernel_rfl) (by kernel_rfl) (by kernel_rfl) (fun _ _ _ h => h) (Or.inl ⟨by rfl, fun w _ => ?_⟩) ?_
  rotate_left
  · (go_simp; first | done | with_reducible rfl)
  try simp only [oa2, Act.put, setIfInBounds_toArray, set_cons_zero, set_cons_succ]
  refine wpAnyW_take (i := 3) (oi := oa3) (v := undef) rfl (by kernel_rfl) (by kernel_rfl) (by kernel_rfl) (by kernel_rfl) (fun _ _ _ h => h) (Or.inr ⟨by rfl, rfl⟩) ?_
  try simp only [oa3, Act.put, setIfInBounds_toArray, set_cons_zero, set_cons_succ]
  refine wpAnyW_take (i := 4) (oi := oa4) (v := undef) rfl (by kernel_rfl) (by kernel_rfl) (by kernel_rfl) (by kernel_rfl) (fun _ _ _ h => h) (Or.inr ⟨by rfl, rfl⟩) ?_
  try simp only [oa4, Act.put, setIfInBounds_toArray, set_cons_zero, set_cons_succ]
  refine wpAnyW_take (i := 5) (oi := oa5) (v := undef) rfl (by kernel_rfl) (by kernel_rfl) (by kernel_rfl) (by kernel_rfl) (fun _ _ _ h => h) (Or.inr ⟨by rfl, rfl⟩) ?_
  try simp only [oa5, Act.put, setIfInBounds_toArray, set_cons_zero, set_cons_succ]
  refine wpAnyW_take (i := 6) (oi := oa6) (v := undef) rfl (by kernel_rfl) (by kernel_rfl) (by kernel_rfl) (by kernel_rfl) (fun _ _ _ h => h) (Or.inr ⟨by rfl, rfl⟩) ?_
  try simp only [oa6, Act.put, setIfInBounds_toArray, set_cons_zero, set_cons_succ]
  refine wpAnyW_take (i := 7) (oi := oa7) (v := undef) rfl (by kernel_rfl) (by kernel_rfl) (by kernel_rfl) (by kernel_rfl) (fun _ _ _ h => h) (Or.inr ⟨by rfl, rfl⟩) ?_
  try simp only [oa7, Act.put, setIfInBounds_toArray, set_cons_zero, set_cons_succ]
  refine wpAnyW_take (i := 8) (oi := oa8) (v := undef) rfl (by kernel_rfl) (by kernel_rfl) (by kernel_rfl) (by kernel_rfl) (fun _ _ _ h => h) (Or.inr ⟨by rfl, rfl⟩) ?_
  try simp only [oa8, Act.put, setIfInBounds_toArray, set_cons_zero, set_cons_succ]
  refine wpAnyW_take (i := 9) (oi := oa9) (v := undef) rfl (by kernel_rfl) (by kernel_rfl) (by kernel_rfl) (by kernel_rfl) (fun _ _ _ h => h) (Or.inr ⟨by rfl, rfl⟩) ?_
  try simp only [oa9, Act.put, setIfInBounds_toArray, set_cons_zero, set_cons_succ]
  refine wpAnyW_take (i := 10) (oi := oa10) (v := undef) rfl (by kernel_rfl) (by kernel_rfl) (by kernel_rfl) (by kernel_rfl) (fun _ _ _ h => h) (Or.inr ⟨by rfl, rfl⟩) ?_
  try simp only [oa10, Act.put, setIfInBounds_toArray, set_cons_zero, set_cons_succ]
  refine wpAnyW_take (i := 11) (oi := oa11) (v := undef) rfl (by kernel_rfl) (by kernel_rfl) (by kernel_rfl) (by kernel_rfl) (fun _ _ _ h => h) (Or.inr ⟨by rfl, rfl⟩) ?_
  try simp only [oa11, Act.put, setIfInBounds_toArray, set_cons_zero, set_cons_succ]
  refine wpAnyW_take (i := 12) (oi := oa12) (v := undef) rfl (by kernel_rfl) (by kernel_rfl) (by kernel_rfl) (by kernel_rfl) (fun _ _ _ h => h) (Or.inr ⟨by rfl, rfl⟩) ?_
  try simp only [oa12, Act.put, setIfInBounds_toArray, set_cons_zero, set_cons_succ]
  refine wpAnyW_take (i := 13) (oi := oa13) (v := undef) rfl (by kernel_rfl) (by kernel_rfl) (by kernel_rfl) (by kernel_rfl) (fun _ _ _ h => h) (Or.inr ⟨by rfl, rfl⟩) ?_
  try simp only [oa13, Act.put, setIfInBounds_toArray, set_cons_zero, set_cons_succ]
  refine wpAnyW_take (i := 14) (oi := oa14) (v := undef) rfl (by kernel_rfl) (by kernel_rfl) (by kernel_rfl) (by kernel_rfl) (fun _ _ _ h => h) (Or.inr ⟨by rfl, rfl⟩) ?_
  try simp only [oa14, Act.put, setIfInBounds_toArray, set_cons_zero, set_cons_succ]
  refine wpAnyW_take (i := 15) (oi := oa15) (v := undef) rfl (by kernel_rfl) (by kernel_rfl) (by kernel_rfl) (by kernel_rfl) (fun _ _ _ h => h) (Or.inr ⟨by rfl, rfl⟩) ?_
  try simp only [oa15, Act.put, setIfInBounds_toArray, set_cons_zero, set_cons_succ]
  refine wpAnyW_take (i := 16) (oi := oa16) (v := ?_) rfl (by kernel_rfl) (by kernel_rfl) (by kernel_rfl) (by kernel_rfl) (fun _ _ _ h => h) (Or.inl ⟨by rfl, fun w _ => ?_⟩) ?_
  rotate_left
  · (go_simp; first | done | with_reducible rfl)
  try simp only [oa16, Act.put, setIfInBounds_toArray, set_cons_zero, set_cons_succ]
  refine wpAnyW_take (i := 17) (oi := oa17) (v := ?_) rfl (by kernel_rfl) (by kernel_rfl) (by kernel_rfl) (by kernel_rfl) (fun _ _ _ h => h) (Or.inl ⟨by rfl, fun w _ => ?_⟩) ?_
  rotate_left
  · (go_simp; first | done | with_reducible rfl)
  try simp only [oa17, Act.put, setIfInBounds_toArray, set_cons_zero, set_cons_succ]
  refine wpAnyW_done (by kernel_rfl) ?_ _
  all_goals go_wp2_with (first
    | (go_at_call 33; have _g := m2; clear _g; (fail_if_success (have _g := m3)); have m3 := hid trivial; refine (eat_no ⟨#[118, 97, 114]⟩ (R.out.bw (by repeat (first | exact Bw.refl _ | apply Bw.alloc | apply Bw.drewN | apply Bw.drew))) i3.out).mono ?_; clear ul uc uf ur; rintro e w1 ⟨rfl, hr1, hk1⟩; have KP := hid (show Kp r w w1 from KP.out.trans (Kp.trans (Kp.of_bw (by repeat (first | exact Bw.refl _ | apply Bw.alloc | apply Bw.drewN | apply Bw.drew))) hk1)); have P := hid (show Blk w1 wa.heap.size #[.int .i64 0, .int .i64 0, .string { data := #[] }, .int .i64 0, .int .i64 p0] 60 from P.out.kp (Kp.trans (Kp.of_bw (by repeat (first | exact Bw.refl _ | apply Bw.alloc | apply Bw.drewN | apply Bw.drew))) hk1) (by omega)); have R := hid hr1; have ul := P.out.lt; have uc := P.out.cell; have uf := P.out.free; have ur : r < w1.heap.size := R.out.lt; clear hr1 hk1)
    | (go_at_call 33; have _g := m3; clear _g; (fail_if_success (have _g := m4)); have m4 := hid trivial; refine (eat_no ⟨#[119, 104, 105, 108, 101]⟩ (R.out.bw (by repeat (first | exact Bw.refl _ | apply Bw.alloc | apply Bw.drewN | apply Bw.drew))) i4.out).mono ?_; clear ul uc uf ur; rintro e w1 ⟨rfl, hr1, hk1⟩; have KP := hid (show Kp r w w1 from KP.out.trans (Kp.trans (Kp.of_bw (by repeat (first | exact Bw.refl _ | apply Bw.alloc | apply Bw.drewN | apply Bw.drew))) hk1)); have P := hid (show Blk w1 wa.heap.size #[.int .i64 0, .int .i64 0, .string { data := #[] }, .int .i64 0, .int .i64 p0] 60 from P.out.kp (Kp.trans (Kp.of_bw (by repeat (first | exact Bw.refl _ | apply Bw.alloc | apply Bw.drewN | apply Bw.drew))) hk1) (by omega)); have R := hid hr1; have ul := P.out.lt; have uc := P.out.cell; have uf := P.out.free; have ur : r < w1.heap.size := R.out.lt; clear hr1 hk1)
    | (go_at_call 33; have _g := m4; clear _g; (fail_if_success (have _g := m5)); have m5 := hid trivial; refine (eat_no ⟨#[98, 114, 101, 97, 107]⟩ (R.out.bw (by repeat (first | exact Bw.refl _ | apply Bw.alloc | apply Bw.drewN | apply Bw.drew))) i5.out).mono ?_; clear ul uc uf ur; rintro e w1 ⟨rfl, hr1, hk1⟩; have KP := hid (show Kp r w w1 from KP.out.trans (Kp.trans (Kp.of_bw (by repeat (first | exact Bw.refl _ | apply Bw.alloc | apply Bw.drewN | apply Bw.drew))) hk1)); have P := hid (show Blk w1 wa.heap.size #[.int .i64 0, .int .i64 0, .string { data := #[] }, .int .i64 0, .int .i64 p0] 60 from P.out.kp (Kp.trans (Kp.of_bw (by repeat (first | exact Bw.refl _ | apply Bw.alloc | apply Bw.drewN | apply Bw.drew))) hk1) (by omega)); have R := hid hr1; have ul := P.out.lt; have uc := P.out.cell; have uf := P.out.free; have ur : r < w1.heap.size := R.out.lt; clear hr1 hk1)
    | (go_at_call 33; have _g := m5; clear _g; (fail_if_success (have _g := m6)); have m6 := hid trivial; refine (eat_no ⟨#[99, 111, 110, 116, 105, 110, 117, 101]⟩ (R.out.bw (by repeat (first | exact Bw.refl _ | apply Bw.alloc | apply Bw.drewN | apply Bw.drew))) i6.out).mono ?_; clear ul uc uf ur; rintro e w1 ⟨rfl, hr1, hk1⟩; have KP := hid (show Kp r w w1 from KP.out.trans (Kp.trans (Kp.of_bw (by repeat (first | exact Bw.refl _ | apply Bw.alloc | apply Bw.drewN | apply Bw.drew))) hk1)); have P := hid (show Blk w1 wa.heap.size #[.int .i64 0, .int .i64 0, .string { data := #[] }, .int .i64 0, .int .i64 p0] 60 from P.out.kp (Kp.trans (Kp.of_bw (by repeat (first | exact Bw.refl _ | apply Bw.alloc | apply Bw.drewN | apply Bw.drew))) hk1) (by omega)); have R := hid hr1; have ul := P.out.lt; have uc := P.out.cell; have uf := P.out.free; have ur : r < w1.heap.size := R.out.lt; clear hr1 hk1)
    | (go_at_call 33; have _g := m6; clear _g; (fail_if_success (have _g := m7)); have m7 := hid trivial; refine (eat_yes ⟨#[114, 101, 116, 117, 114, 110]⟩ (R.out.bw (by repeat (first | exact Bw.refl _ | apply Bw.alloc | apply Bw.drewN | apply Bw.drew))) y.out).mono ?_; clear ul uc uf ur; rintro e w1 ⟨rfl, hr1, hk1⟩; have KP := hid (show Kp r w w1 from KP.out.trans (Kp.trans (Kp.of_bw (by repeat (first | exact Bw.refl _ | apply Bw.alloc | apply Bw.drewN | apply Bw.drew))) hk1)); have P := hid (show Blk w1 wa.heap.size #[.int .i64 0, .int .i64 0, .string { data := #[] }, .int .i64 0, .int .i64 p0] 60 from P.out.kp (Kp.trans (Kp.of_bw (by repeat (first | exact Bw.refl _ | apply Bw.alloc | apply Bw.drewN | apply Bw.drew))) hk1) (by omega)); have R := hid hr1; have ul := P.out.lt; have uc := P.out.cell; have uf := P.out.free; have ur : r < w1.heap.size := R.out.lt; clear hr1 hk1)
    | (go_at_call 33; have _g := m7; clear _g; (fail_if_success (have _g := m21)); have m21 := hid trivial; refine (HE.out _ (R.out.setO P.out 0 _)).mono ?_; clear ul uc uf ur; rintro e w1 ⟨rfl, hr1, hk1⟩; have KP := hid (show Kp r w w1 from Kp.trans (KP.out.setNew hra 0 _) hk1); have P := hid (show Blk w1 wa.heap.size #[.int .i64 9, .int .i64 0, .string { data := #[] }, .int .i64 0, .int .i64 p0] 60 from (P.out.set 0 _).kp hk1 (by omega)); have R := hid hr1; have ul := P.out.lt; have uc := P.out.cell; have uf := P.out.free; have ur : r < w1.heap.size := R.out.lt; clear hr1 hk1)
    | (go_at_call 35; have _g := m21; clear _g; (fail_if_success (have _g := m22)); have m22 := hid trivial; refine (HV.out _ (R.out.bw (by repeat (first | exact Bw.refl _ | apply Bw.alloc | apply Bw.drewN | apply Bw.drew)))).mono ?_; clear ul uc uf ur; rintro e w1 ⟨a2, c2, rfl, hn2, hr1, hk1, hl2⟩; have KP := hid (show Kp r w w1 from KP.out.trans (Kp.trans (Kp.of_bw (by repeat (first | exact Bw.refl _ | apply Bw.alloc | apply Bw.drewN | apply Bw.drew))) hk1)); have PZ := P.out.lt; have P := hid (show Blk w1 wa.heap.size #[.int .i64 9, .int .i64 0, .string { data := #[] }, .int .i64 0, .int .i64 p0] 60 from P.out.kp (Kp.trans (Kp.of_bw (by repeat (first | exact Bw.refl _ | apply Bw.alloc | apply Bw.drewN | apply Bw.drew))) hk1) (by omega)); have N := hid (hn2.low (b' := wa.heap.size + 1) (by first | omega | (simp only [World.size_setCell]; omega) | (simp; omega))); have L := hid hl2; clear hn2 hl2; have R := hid hr1; have ul := P.out.lt; have uc := P.out.cell; have uf := P.out.free; have ur : r < w1.heap.size := R.out.lt; clear hr1 hk1)
    | (go_at_call 34; have _g := m22; clear _g; (fail_if_success (have _g := m23)); have m23 := hid trivial; refine (HW.out _ (R.out.bw (by repeat (first | exact Bw.refl _ | apply Bw.alloc | apply Bw.drewN | apply Bw.drew)))).mono ?_; clear ul uc uf ur; rintro e w1 ⟨rfl, hr1, hk1⟩; have KP := hid (show Kp r w w1 from KP.out.trans (Kp.trans (Kp.of_bw (by repeat (first | exact Bw.refl _ | apply Bw.alloc | apply Bw.drewN | apply Bw.drew))) hk1)); have P := hid (show Blk w1 wa.heap.size #[.int .i64 9, .int .i64 0, .string { data := #[] }, .int .i64 0, .int .i64 p0] 60 from P.out.kp (Kp.trans (Kp.of_bw (by repeat (first | exact Bw.refl _ | apply Bw.alloc | apply Bw.drewN | apply Bw.drew))) hk1) (by omega)); have N := hid (N.out.kp (Kp.trans (Kp.of_bw (by repeat (first | exact Bw.refl _ | apply Bw.alloc | apply Bw.drewN | apply Bw.drew))) hk1) (by omega)); have R := hid hr1; have ul := P.out.lt; have uc := P.out.cell; have uf := P.out.free; have ur : r < w1.heap.size := R.out.lt; clear hr1 hk1)
    | (go_at_call 15; refine (djoin_any (9, 0, [], 0, p0) 1 _ l1 N.out.sl (by have := L.out; omega)).mono ?_; rintro e w9 ⟨a9, c9, rfl, hn9, hb9⟩; have N9 := hid hn9; have B9 := hid hb9; clear hn9 hb9)
    | fail)
  all_goals go_ret
  all_goals exact ⟨_, _, rfl, N9.out.low KP.out.size, R.out.bw B9.out, KP.out.bw B9.out, HLJ.out⟩

set_option maxRecDepth 100000 in
set_option maxHeartbeats 8000000 in
theorem stmt_var (i0 : dIs T s ⟨#[123]⟩ = false) (i1 : dIs T s ⟨#[105, 102]⟩ = false) (i2 : dIs T s ⟨#[102, 110]⟩ = false) (y : dIs T s ⟨#[118, 97, 114]⟩ = true) {l1 : List ANode} {s1 : DS} (HV : ∀ w1 : World, RdM w1 r T o (dWant T (dNameS T (dNx s)) ⟨#[61]⟩) → Calls Tryd.prog 35 #[.pointer (some ⟨r, 0, none⟩), .int .i64 0] w1 (DG w1 r T o l1 s1)) (HLJ : (dJoin (3, 0, dNameT T (dNx s), 0, dAt T s) 1 l1).length ≤ 1000000) (hr : RdM w r T o s) : Calls Tryd.prog 14 #[.pointer (some ⟨r, 0, none⟩)] w (DG w r T o (dJoin (3, 0, dNameT T (dNx s), 0, dAt T s) 1 l1) (dWant T s1 ⟨#[59]⟩)) := by
  have HR := hid hr
  have hrl := hr.lt
  have HAT := hid (fun w1 (hw : Bw w w1) => dat_any (hr.bw hw))
  have i0 := hid i0
  have i1 := hid i1
  have i2 := hid i2
  have y := hid y
  have HV := hid HV
  have HLJ := hid HLJ
  have HNM := hid (fun w1 (hw : RdM w1 r T o (dNx s)) => dname_any hw)
  have HQ := hid (fun w1 (hw : RdM w1 r T o (dNameS T (dNx s))) => dwant_any ⟨#[61]⟩ hw)
  have HW := hid (fun w1 (hw : RdM w1 r T o s1) => dwant_any ⟨#[59]⟩ hw)
  generalize dWant T s1 ⟨#[59]⟩ = B at *
  generalize dWant T (dNameS T (dNx s)) ⟨#[61]⟩ = A at *
  generalize dNameS T (dNx s) = D at *
  generalize dNameT T (dNx s) = nx at *
  clear hr
  unfold DG at *
  generalize dAt T s = p0 at *
  go_enter Tryd.func14, Tryd.ntmps14
  go_wp2_with (first
    | (go_at_call 27; (fail_if_success (have _g := B1)); refine (HAT.out _ (Bw.refl _)).mono ?_; rintro e wa ⟨rfl, hb1⟩; have B1 := hid hb1; have hra : w.heap.size ≤ wa.heap.size := hb1.size; have R := hid (HR.out.bw hb1); have KP := hid (Kp.of_bw (r := r) hb1); clear hb1)
    | (go_at_call 28; (fail_if_success (have _g := m0)); have m0 := hid trivial; refine (is_no ⟨#[123]⟩ (R.out.bw (by repeat (first | exact Bw.refl _ | apply Bw.alloc | apply Bw.drewN | apply Bw.drew))) i0.out).mono ?_; rintro e w1 ⟨rfl, hr1, hk1⟩; have KP := hid (show Kp r w w1 from KP.out.trans (Kp.trans (Kp.of_bw (by repeat (first | exact Bw.refl _ | apply Bw.alloc | apply Bw.drewN | apply Bw.drew))) hk1)); have R := hid hr1; have P := hid (show Blk w1 wa.heap.size #[.int .i64 0, .int .i64 0, .string { data := #[] }, .int .i64 0, .int .i64 p0] 60 from (Blk.new wa _ _).kp hk1 (by omega)); have ul := P.out.lt; have uc := P.out.cell; have uf := P.out.free; have ur : r < w1.heap.size := R.out.lt; clear hr1 hk1)
    | (go_at_call 28; have _g := m0; clear _g; (fail_if_success (have _g := m1)); have m1 := hid trivial; refine (is_no ⟨#[105, 102]⟩ (R.out.bw (by repeat (first | exact Bw.refl _ | apply Bw.alloc | apply Bw.drewN | apply Bw.drew))) i1.out).mono ?_; clear ul uc uf ur; rintro e w1 ⟨rfl, hr1, hk1⟩; have KP := hid (show Kp r w w1 from KP.out.trans (Kp.trans (Kp.of_bw (by repeat (first | exact Bw.refl _ | apply Bw.alloc | apply Bw.drewN | apply Bw.drew))) hk1)); have P := hid (show Blk w1 wa.heap.size #[.int .i64 0, .int .i64 0, .string { data := #[] }, .int .i64 0, .int .i64 p0] 60 from P.out.kp (Kp.trans (Kp.of_bw (by repeat (first | exact Bw.refl _ | apply Bw.alloc | apply Bw.drewN | apply Bw.drew))) hk1) (by omega)); have R := hid hr1; have ul := P.out.lt; have uc := P.out.cell; have uf := P.out.free; have ur : r < w1.heap.size := R.out.lt; clear hr1 hk1)
    | fail)
  refine wp_region_W (fun _ => True) (fun j => if j == 1 then 0 else 1) (by kernel_rfl) ?_
  refine wpAnyW_take (i := 0) (oi := oa0) (v := ?_) rfl (by kernel_rfl) (by kernel_rfl) (by kernel_rfl) (by kernel_rfl) (fun _ _ _ h => h) (Or.inl ⟨by rfl, fun w _ => ?_⟩) ?_
  rotate_left
  · (go_simp; first | done | with_reducible rfl)
  try simp only [oa0, Act.put, setIfInBounds_toArray, set_cons_zero, set_cons_succ]
  refine wpAnyW_ready (rs := [1]) (by kernel_rfl) (by simp) ?_
  refine (AllReadyW.cons (o := oa1) rfl (fun K hK => ?_) AllReadyW.nil)
  go_simp
  have m2 := hid trivial
  refine (is_no ⟨#[102, 110]⟩ (R.out.bw (by repeat (first | exact Bw.refl _ | apply Bw.alloc | apply Bw.drewN | apply Bw.drew))) i2.out).mono ?_
  clear ul uc uf ur
  rintro e w1 ⟨he1, hr1, hk1⟩
  subst he1
  have KP := hid (show Kp r w w1 from KP.out.trans (Kp.trans (Kp.of_bw (by repeat (first | exact Bw.refl _ | apply Bw.alloc | apply Bw.drewN | apply Bw.drew))) hk1))
  have P := hid (show Blk w1 wa.heap.size #[.int .i64 0, .int .i64 0, .string { data := #[] }, .int .i64 0, .int .i64 p0] 60 from P.out.kp (Kp.trans (Kp.of_bw (by repeat (first | exact Bw.refl _ | apply Bw.alloc | apply Bw.drewN | apply Bw.drew))) hk1) (by omega))
  have R := hid hr1
  have ul := P.out.lt
  have uc := P.out.cell
  have uf := P.out.free
  have ur : r < w1.heap.size := R.out.lt
  clear hr1 hk1
  refine hK.out _ _ trivial ?_
  clear hK K
  try simp only [oa1, Act.put, setIfInBounds_toArray, set_cons_zero, set_cons_succ]
  refine wpAnyW_take (i := 2) (oi := oa2) (v := ?_) rfl (by kernel_rfl) (by kernel_rfl) (by kernel_rfl) (by kernel_rfl) (fun _ _ _ h => h) (Or.inl ⟨by rfl, fun w _ => ?_⟩) ?_
  rotate_left
  · (go_simp; first | done | with_reducible rfl)
  try simp only [oa2, Act.put, setIfInBounds_toArray, set_cons_zero, set_cons_succ]
  refine wpAnyW_take (i := 3) (oi := oa3) (v := undef) rfl (by kernel_rfl) (by kernel_rfl) (by kernel_rfl) (by kernel_rfl) (fun _ _ _ h => h) (Or.inr ⟨by rfl, rfl⟩) ?_
  try simp only [oa3, Act.put, setIfInBounds_toArray, set_cons_zero, set_cons_succ]
  refine wpAnyW_take (i := 4) (oi := oa4) (v := undef) rfl (by kernel_rfl) (by kernel_rfl) (by kernel_rfl) (by kernel_rfl) (fun _ _ _ h => h) (Or.inr ⟨by rfl, rfl⟩) ?_
  try simp only [oa4, Act.put, setIfInBounds_toArray, set_cons_zero, set_cons_succ]
  refine wpAnyW_take (i := 5) (oi := oa5) (v := undef) rfl (by kernel_rfl) (by kernel_rfl) (by kernel_rfl) (by kernel_rfl) (fun _ _ _ h => h) (Or.inr ⟨by rfl, rfl⟩) ?_
  try simp only [oa5, Act.put, setIfInBounds_toArray, set_cons_zero, set_cons_succ]
  refine wpAnyW_take (i := 6) (oi := oa6) (v := undef) rfl (by kernel_rfl) (by kernel_rfl) (by kernel_rfl) (by kernel_rfl) (fun _ _ _ h => h) (Or.inr ⟨by rfl, rfl⟩) ?_
  try simp only [oa6, Act.put, setIfInBounds_toArray, set_cons_zero, set_cons_succ]
  refine wpAnyW_take (i := 7) (oi := oa7) (v := undef) rfl (by kernel_rfl) (by kernel_rfl) (by kernel_rfl) (by kernel_rfl) (fun _ _ _ h => h) (Or.inr ⟨by rfl, rfl⟩) ?_
  try simp only [oa7, Act.put, setIfInBounds_toArray, set_cons_zero, set_cons_succ]
  refine wpAnyW_take (i := 8) (oi := oa8) (v := undef) rfl (by kernel_rfl) (by kernel_rfl) (by kernel_rfl) (by kernel_rfl) (fun _ _ _ h => h) (Or.inr ⟨by rfl, rfl⟩) ?_
  try simp only [oa8, Act.put, setIfInBounds_toArray, set_cons_zero, set_cons_succ]
  refine wpAnyW_take (i := 9) (oi := oa9) (v := undef) rfl (by kernel_rfl) (by kernel_rfl) (by kernel_rfl) (by kernel_rfl) (fun _ _ _ h => h) (Or.inr ⟨by rfl, rfl⟩) ?_
  try simp only [oa9, Act.put, setIfInBounds_toArray, set_cons_zero, set_cons_succ]
  refine wpAnyW_take (i := 10) (oi := oa10) (v := undef) rfl (by kernel_rfl) (by kernel_rfl) (by kernel_rfl) (by kernel_rfl) (fun _ _ _ h => h) (Or.inr ⟨by rfl, rfl⟩) ?_
  try simp only [oa10, Act.put, setIfInBounds_toArray, set_cons_zero, set_cons_succ]
  refine wpAnyW_take (i := 11) (oi := oa11) (v := undef) rfl (by kernel_rfl) (by kernel_rfl) (by kernel_rfl) (by kernel_rfl) (fun _ _ _ h => h) (Or.inr ⟨by rfl, rfl⟩) ?_
  try simp only [oa11, Act.put, setIfInBounds_toArray, set_cons_zero, set_cons_succ]
  refine wpAnyW_take (i := 12) (oi := oa12) (v := undef) rfl (by kernel_rfl) (by kernel_rfl) (by kernel_rfl) (by kernel_rfl) (fun _ _ _ h => h) (Or.inr ⟨by rfl, rfl⟩) ?_
  try simp only [oa12, Act.put, setIfInBounds_toArray, set_cons_zero, set_cons_succ]
  refine wpAnyW_take (i := 13) (oi := oa13) (v := undef) rfl (by kernel_rfl) (by kernel_rfl) (by kernel_rfl) (by kernel_rfl) (fun _ _ _ h => h) (Or.inr ⟨by rfl, rfl⟩) ?_
  try simp only [oa13, Act.put, setIfInBounds_toArray, set_cons_zero, set_cons_succ]
  refine wpAnyW_take (i := 14) (oi := oa14) (v := undef) rfl (by kernel_rfl) (by kernel_rfl) (by kernel_rfl) (by kernel_rfl) (fun _ _ _ h => h) (Or.inr ⟨by rfl, rfl⟩) ?_
  try simp only [oa14, Act.put, setIfInBounds_toArray, set_cons_zero, set_cons_succ]
  refine wpAnyW_take (i := 15) (oi := oa15) (v := undef) rfl (by kernel_rfl) (by kernel_rfl) (by kernel_rfl) (by kernel_rfl) (fun _ _ _ h => h) (Or.inr ⟨by rfl, rfl⟩) ?_
  try simp only [oa15, Act.put, setIfInBounds_toArray, set_cons_zero, set_cons_succ]
  refine wpAnyW_take (i := 16) (oi := oa16) (v := ?_) rfl (by kernel_rfl) (by kernel_rfl) (by kernel_rfl) (by kernel_rfl) (fun _ _ _ h => h) (Or.inl ⟨by rfl, fun w _ => ?_⟩) ?_
  rotate_left
  · (go_simp; first | done | with_reducible rfl)
  try simp only [oa16, Act.put, setIfInBounds_toArray, set_cons_zero, set_cons_succ]
  refine wpAnyW_take (i := 17) (oi := oa17) (v := ?_) rfl (by kernel_rfl) (by kernel_rfl) (by kernel_rfl) (by kernel_rfl) (fun _ _ _ h => h) (Or.inl ⟨by rfl, fun w _ => ?_⟩) ?_
  rotate_left
  · (go_simp; first | done | with_reducible rfl)
  try simp only [oa17, Act.put, setIfInBounds_toArray, set_cons_zero, set_cons_succ]
  refine wpAnyW_done (by kernel_rfl) ?_ _
  all_goals go_wp2_with (first
    | (go_at_call 33; have _g := m2; clear _g; (fail_if_success (have _g := m3)); have m3 := hid trivial; refine (eat_yes ⟨#[118, 97, 114]⟩ (R.out.bw (by repeat (first | exact Bw.refl _ | apply Bw.alloc | apply Bw.drewN | apply Bw.drew))) y.out).mono ?_; clear ul uc uf ur; rintro e w1 ⟨rfl, hr1, hk1⟩; have KP := hid (show Kp r w w1 from KP.out.trans (Kp.trans (Kp.of_bw (by repeat (first | exact Bw.refl _ | apply Bw.alloc | apply Bw.drewN | apply Bw.drew))) hk1)); have P := hid (show Blk w1 wa.heap.size #[.int .i64 0, .int .i64 0, .string { data := #[] }, .int .i64 0, .int .i64 p0] 60 from P.out.kp (Kp.trans (Kp.of_bw (by repeat (first | exact Bw.refl _ | apply Bw.alloc | apply Bw.drewN | apply Bw.drew))) hk1) (by omega)); have R := hid hr1; have ul := P.out.lt; have uc := P.out.cell; have uf := P.out.free; have ur : r < w1.heap.size := R.out.lt; clear hr1 hk1)
    | (go_at_call 31; have _g := m3; clear _g; (fail_if_success (have _g := m21)); have m21 := hid trivial; refine (HNM.out _ (R.out.bw (by repeat (first | exact Bw.refl _ | apply Bw.alloc | apply Bw.drewN | apply Bw.drew)))).mono ?_; clear ul uc uf ur; rintro e w1 ⟨rfl, hr1, hk1⟩; have KP := hid (show Kp r w w1 from KP.out.trans (Kp.trans (Kp.of_bw (by repeat (first | exact Bw.refl _ | apply Bw.alloc | apply Bw.drewN | apply Bw.drew))) hk1)); have P := hid (show Blk w1 wa.heap.size #[.int .i64 0, .int .i64 0, .string { data := #[] }, .int .i64 0, .int .i64 p0] 60 from P.out.kp (Kp.trans (Kp.of_bw (by repeat (first | exact Bw.refl _ | apply Bw.alloc | apply Bw.drewN | apply Bw.drew))) hk1) (by omega)); have R := hid hr1; have ul := P.out.lt; have uc := P.out.cell; have uf := P.out.free; have ur : r < w1.heap.size := R.out.lt; clear hr1 hk1)
    | (go_at_call 34; have _g := m21; clear _g; (fail_if_success (have _g := m22)); have m22 := hid trivial; refine (HQ.out _ ((R.out.setO P.out 0 _).setO (P.out.set 0 _) 2 _)).mono ?_; clear ul uc uf ur; rintro e w1 ⟨rfl, hr1, hk1⟩; have KP := hid (show Kp r w w1 from Kp.trans ((KP.out.setNew hra 0 _).setNew hra 2 _) hk1); have P := hid (show Blk w1 wa.heap.size #[.int .i64 3, .int .i64 0, .string (strOfNums nx), .int .i64 0, .int .i64 p0] 60 from ((P.out.set 0 _).set 2 _).kp hk1 (by omega)); have R := hid hr1; have ul := P.out.lt; have uc := P.out.cell; have uf := P.out.free; have ur : r < w1.heap.size := R.out.lt; clear hr1 hk1)
    | (go_at_call 35; have _g := m22; clear _g; (fail_if_success (have _g := m23)); have m23 := hid trivial; refine (HV.out _ (R.out.bw (by repeat (first | exact Bw.refl _ | apply Bw.alloc | apply Bw.drewN | apply Bw.drew)))).mono ?_; clear ul uc uf ur; rintro e w1 ⟨a2, c2, rfl, hn2, hr1, hk1, hl2⟩; have KP := hid (show Kp r w w1 from KP.out.trans (Kp.trans (Kp.of_bw (by repeat (first | exact Bw.refl _ | apply Bw.alloc | apply Bw.drewN | apply Bw.drew))) hk1)); have PZ := P.out.lt; have P := hid (show Blk w1 wa.heap.size #[.int .i64 3, .int .i64 0, .string (strOfNums nx), .int .i64 0, .int .i64 p0] 60 from P.out.kp (Kp.trans (Kp.of_bw (by repeat (first | exact Bw.refl _ | apply Bw.alloc | apply Bw.drewN | apply Bw.drew))) hk1) (by omega)); have N := hid (hn2.low (b' := wa.heap.size + 1) (by first | omega | (simp only [World.size_setCell]; omega) | (simp; omega))); have L := hid hl2; clear hn2 hl2; have R := hid hr1; have ul := P.out.lt; have uc := P.out.cell; have uf := P.out.free; have ur : r < w1.heap.size := R.out.lt; clear hr1 hk1)
    | (go_at_call 34; have _g := m23; clear _g; (fail_if_success (have _g := m24)); have m24 := hid trivial; refine (HW.out _ (R.out.bw (by repeat (first | exact Bw.refl _ | apply Bw.alloc | apply Bw.drewN | apply Bw.drew)))).mono ?_; clear ul uc uf ur; rintro e w1 ⟨rfl, hr1, hk1⟩; have KP := hid (show Kp r w w1 from KP.out.trans (Kp.trans (Kp.of_bw (by repeat (first | exact Bw.refl _ | apply Bw.alloc | apply Bw.drewN | apply Bw.drew))) hk1)); have P := hid (show Blk w1 wa.heap.size #[.int .i64 3, .int .i64 0, .string (strOfNums nx), .int .i64 0, .int .i64 p0] 60 from P.out.kp (Kp.trans (Kp.of_bw (by repeat (first | exact Bw.refl _ | apply Bw.alloc | apply Bw.drewN | apply Bw.drew))) hk1) (by omega)); have N := hid (N.out.kp (Kp.trans (Kp.of_bw (by repeat (first | exact Bw.refl _ | apply Bw.alloc | apply Bw.drewN | apply Bw.drew))) hk1) (by omega)); have R := hid hr1; have ul := P.out.lt; have uc := P.out.cell; have uf := P.out.free; have ur : r < w1.heap.size := R.out.lt; clear hr1 hk1)
    | (go_at_call 15; refine (djoin_any (3, 0, nx, 0, p0) 1 _ l1 N.out.sl (by have := L.out; omega)).mono ?_; rintro e w9 ⟨a9, c9, rfl, hn9, hb9⟩; have N9 := hid hn9; have B9 := hid hb9; clear hn9 hb9)
    | fail)
  all_goals go_ret
  all_goals exact ⟨_, _, rfl, N9.out.low KP.out.size, R.out.bw B9.out, KP.out.bw B9.out, HLJ.out⟩

set_option maxRecDepth 100000 in
set_option maxHeartbeats 8000000 in
theorem stmt_while (i0 : dIs T s ⟨#[123]⟩ = false) (i1 : dIs T s ⟨#[105, 102]⟩ = false) (i2 : dIs T s ⟨#[102, 110]⟩ = false) (i3 : dIs T s ⟨#[118, 97, 114]⟩ = false) (y : dIs T s ⟨#[119, 104, 105, 108, 101]⟩ = true) {l1 l2 : List ANode} {s1 s2 : DS} (HV : ∀ w1 : World, RdM w1 r T o (dNx s) → Calls Tryd.prog 35 #[.pointer (some ⟨r, 0, none⟩), .int .i64 0] w1 (DG w1 r T o l1 s1)) (HB : ∀ w1 : World, RdM w1 r T o s1 → Calls Tryd.prog 29 #[.pointer (some ⟨r, 0, none⟩)] w1 (DG w1 r T o l2 s2)) (la : l1.length ≤ 1000000) (lb : l2.length ≤ 1000000) (HLJ : (dJoin (6, 0, [], 0, dAt T s) 2 (l1 ++ l2)).length ≤ 1000000) (hr : RdM w r T o s) : Calls Tryd.prog 14 #[.pointer (some ⟨r, 0, none⟩)] w (DG w r T o (dJoin (6, 0, [], 0, dAt T s) 2 (l1 ++ l2)) s2) := by
  have HR := hid hr
  have hrl := hr.lt
  have HAT := hid (fun w1 (hw : Bw w w1) => dat_any (hr.bw hw))
  have i0 := hid i0
  have i1 := hid i1
  have i2 := hid i2
  have i3 := hid i3
  have y := hid y
  have HV := hid HV
  have HB := hid HB
  have LJ := hid (show (l1 ++ l2).length ≤ 2000000 by rw [List.length_append]; omega)
  obtain ⟨J, hJ⟩ : ∃ J, l1 ++ l2 = J := ⟨_, rfl⟩
  rw [hJ] at HLJ LJ ⊢
  have HLJ := hid HLJ
  have HJ := hid hJ
  clear hJ la lb
  clear hr
  unfold DG at *
  generalize dAt T s = p0 at *
  go_enter Tryd.func14, Tryd.ntmps14
  go_wp2_with (first
    | (go_at_call 27; (fail_if_success (have _g := B1)); refine (HAT.out _ (Bw.refl _)).mono ?_; rintro e wa ⟨rfl, hb1⟩; have B1 := hid hb1; have hra : w.heap.size ≤ wa.heap.size := hb1.size; have R := hid (HR.out.bw hb1); have KP := hid (Kp.of_bw (r := r) hb1); clear hb1)
    | (go_at_call 28; (fail_if_success (have _g := m0)); have m0 := hid trivial; refine (is_no ⟨#[123]⟩ (R.out.bw (by repeat (first | exact Bw.refl _ | apply Bw.alloc | apply Bw.drewN | apply Bw.drew))) i0.out).mono ?_; rintro e w1 ⟨rfl, hr1, hk1⟩; have KP := hid (show Kp r w w1 from KP.out.trans (Kp.trans (Kp.of_bw (by repeat (first | exact Bw.refl _ | apply Bw.alloc | apply Bw.drewN | apply Bw.drew))) hk1)); have R := hid hr1; have P := hid (show Blk w1 wa.heap.size #[.int .i64 0, .int .i64 0, .string { data := #[] }, .int .i64 0, .int .i64 p0] 60 from (Blk.new wa _ _).kp hk1 (by omega)); have ul := P.out.lt; have uc := P.out.cell; have uf := P.out.free; have ur : r < w1.heap.size := R.out.lt; clear hr1 hk1)
    | (go_at_call 28; have _g := m0; clear _g; (fail_if_success (have _g := m1)); have m1 := hid trivial; refine (is_no ⟨#[105, 102]⟩ (R.out.bw (by repeat (first | exact Bw.refl _ | apply Bw.alloc | apply Bw.drewN | apply Bw.drew))) i1.out).mono ?_; clear ul uc uf ur; rintro e w1 ⟨rfl, hr1, hk1⟩; have KP := hid (show Kp r w w1 from KP.out.trans (Kp.trans (Kp.of_bw (by repeat (first | exact Bw.refl _ | apply Bw.alloc | apply Bw.drewN | apply Bw.drew))) hk1)); have P := hid (show Blk w1 wa.heap.size #[.int .i64 0, .int .i64 0, .string { data := #[] }, .int .i64 0, .int .i64 p0] 60 from P.out.kp (Kp.trans (Kp.of_bw (by repeat (first | exact Bw.refl _ | apply Bw.alloc | apply Bw.drewN | apply Bw.drew))) hk1) (by omega)); have R := hid hr1; have ul := P.out.lt; have uc := P.out.cell; have uf := P.out.free; have ur : r < w1.heap.size := R.out.lt; clear hr1 hk1)
    | fail)
  refine wp_region_W (fun _ => True) (fun j => if j == 1 then 0 else 1) (by kernel_rfl) ?_
  refine wpAnyW_take (i := 0) (oi := oa0) (v := ?_) rfl (by kernel_rfl) (by kernel_rfl) (by kernel_rfl) (by kernel_rfl) (fun _ _ _ h => h) (Or.inl ⟨by rfl, fun w _ => ?_⟩) ?_
  rotate_left
  · (go_simp; first | done | with_reducible rfl)
  try simp only [oa0, Act.put, setIfInBounds_toArray, set_cons_zero, set_cons_succ]
  refine wpAnyW_ready (rs := [1]) (by kernel_rfl) (by simp) ?_
  refine (AllReadyW.cons (o := oa1) rfl (fun K hK => ?_) AllReadyW.nil)
  go_simp
  have m2 := hid trivial
  refine (is_no ⟨#[102, 110]⟩ (R.out.bw (by repeat (first | exact Bw.refl _ | apply Bw.alloc | apply Bw.drewN | apply Bw.drew))) i2.out).mono ?_
  clear ul uc uf ur
  rintro e w1 ⟨he1, hr1, hk1⟩
  subst he1
  have KP := hid (show Kp r w w1 from KP.out.trans (Kp.trans (Kp.of_bw (by repeat (first | exact Bw.refl _ | apply Bw.alloc | apply Bw.drewN | apply Bw.drew))) hk1))
  have P := hid (show Blk w1 wa.heap.size #[.int .i64 0, .int .i64 0, .string { data := #[] }, .int .i64 0, .int .i64 p0] 60 from P.out.kp (Kp.trans (Kp.of_bw (by repeat (first | exact Bw.refl _ | apply Bw.alloc | apply Bw.drewN | apply Bw.drew))) hk1) (by omega))
  have R := hid hr1
  have ul := P.out.lt
  have uc := P.out.cell
  have uf := P.out.free
  have ur : r < w1.heap.size := R.out.lt
  clear hr1 hk1
  refine hK.out _ _ trivial ?_
  clear hK K
  try simp only [oa1, Act.put, setIfInBounds_toArray, set_cons_zero, set_cons_succ]
  refine wpAnyW_take (i := 2) (oi := oa2) (v := ?_) rfl (by kernel_rfl) (by kernel_rfl) (by kernel_rfl) (by kernel_rfl) (fun _ _ _ h => h) (Or.inl ⟨by rfl, fun w _ => ?_⟩) ?_
  rotate_left
  · (go_simp; first | done | with_reducible rfl)
  try simp only [oa2, Act.put, setIfInBounds_toArray, set_cons_zero, set_cons_succ]
  refine wpAnyW_take (i := 3) (oi := oa3) (v := undef) rfl (by kernel_rfl) (by kernel_rfl) (by kernel_rfl) (by kernel_rfl) (fun _ _ _ h => h) (Or.inr ⟨by rfl, rfl⟩) ?_
  try simp only [oa3, Act.put, setIfInBounds_toArray, set_cons_zero, set_cons_succ]
  refine wpAnyW_take (i := 4) (oi := oa4) (v := undef) rfl (by kernel_rfl) (by kernel_rfl) (by kernel_rfl) (by kernel_rfl) (fun _ _ _ h => h) (Or.inr ⟨by rfl, rfl⟩) ?_
  try simp only [oa4, Act.put, setIfInBounds_toArray, set_cons_zero, set_cons_succ]
  refine wpAnyW_take (i := 5) (oi := oa5) (v := undef) rfl (by kernel_rfl) (by kernel_rfl) (by kernel_rfl) (by kernel_rfl) (fun _ _ _ h => h) (Or.inr ⟨by rfl, rfl⟩) ?_
  try simp only [oa5, Act.put, setIfInBounds_toArray, set_cons_zero, set_cons_succ]
  refine wpAnyW_take (i := 6) (oi := oa6) (v := undef) rfl (by kernel_rfl) (by kernel_rfl) (by kernel_rfl) (by kernel_rfl) (fun _ _ _ h => h) (Or.inr ⟨by rfl, rfl⟩) ?_
  try simp only [oa6, Act.put, setIfInBounds_toArray, set_cons_zero, set_cons_succ]
  refine wpAnyW_take (i := 7) (oi := oa7) (v := undef) rfl (by kernel_rfl) (by kernel_rfl) (by kernel_rfl) (by kernel_rfl) (fun _ _ _ h => h) (Or.inr ⟨by rfl, rfl⟩) ?_
  try simp only [oa7, Act.put, setIfInBounds_toArray, set_cons_zero, set_cons_succ]
  refine wpAnyW_take (i := 8) (oi := oa8) (v := undef) rfl (by kernel_rfl) (by kernel_rfl) (by kernel_rfl) (by kernel_rfl) (fun _ _ _ h => h) (Or.inr ⟨by rfl, rfl⟩) ?_
  try simp only [oa8, Act.put, setIfInBounds_toArray, set_cons_zero, set_cons_succ]
  refine wpAnyW_take (i := 9) (oi := oa9) (v := undef) rfl (by kernel_rfl) (by kernel_rfl) (by kernel_rfl) (by kernel_rfl) (fun _ _ _ h => h) (Or.inr ⟨by rfl, rfl⟩) ?_
  try simp only [oa9, Act.put, setIfInBounds_toArray, set_cons_zero, set_cons_succ]
  refine wpAnyW_take (i := 10) (oi := oa10) (v := undef) rfl (by kernel_rfl) (by kernel_rfl) (by kernel_rfl) (by kernel_rfl) (fun _ _ _ h => h) (Or.inr ⟨by rfl, rfl⟩) ?_
  try simp only [oa10, Act.put, setIfInBounds_toArray, set_cons_zero, set_cons_succ]
  refine wpAnyW_take (i := 11) (oi := oa11) (v := undef) rfl (by kernel_rfl) (by kernel_rfl) (by kernel_rfl) (by kernel_rfl) (fun _ _ _ h => h) (Or.inr ⟨by rfl, rfl⟩) ?_
  try simp only [oa11, Act.put, setIfInBounds_toArray, set_cons_zero, set_cons_succ]
  refine wpAnyW_take (i := 12) (oi := oa12) (v := undef) rfl (by kernel_rfl) (by kernel_rfl) (by kernel_rfl) (by kernel_rfl) (fun _ _ _ h => h) (Or.inr ⟨by rfl, rfl⟩) ?_
  try simp only [oa12, Act.put, setIfInBounds_toArray, set_cons_zero, set_cons_succ]
  refine wpAnyW_take (i := 13) (oi := oa13) (v := undef) rfl (by kernel_rfl) (by kernel_rfl) (by kernel_rfl) (by kernel_rfl) (fun _ _ _ h => h) (Or.inr ⟨by rfl, rfl⟩) ?_
  try simp only [oa13, Act.put, setIfInBounds_toArray, set_cons_zero, set_cons_succ]
  refine wpAnyW_take (i := 14) (oi := oa14) (v := undef) rfl (by kernel_rfl) (by kernel_rfl) (by kernel_rfl) (by kernel_rfl) (fun _ _ _ h => h) (Or.inr ⟨by rfl, rfl⟩) ?_
  try simp only [oa14, Act.put, setIfInBounds_toArray, set_cons_zero, set_cons_succ]
  refine wpAnyW_take (i := 15) (oi := oa15) (v := undef) rfl (by kernel_rfl) (by kernel_rfl) (by kernel_rfl) (by kernel_rfl) (fun _ _ _ h => h) (Or.inr ⟨by rfl, rfl⟩) ?_
  try simp only [oa15, Act.put, setIfInBounds_toArray, set_cons_zero, set_cons_succ]
  refine wpAnyW_take (i := 16) (oi := oa16) (v := ?_) rfl (by kernel_rfl) (by kernel_rfl) (by kernel_rfl) (by kernel_rfl) (fun _ _ _ h => h) (Or.inl ⟨by rfl, fun w _ => ?_⟩) ?_
  rotate_left
  · (go_simp; first | done | with_reducible rfl)
  try simp only [oa16, Act.put, setIfInBounds_toArray, set_cons_zero, set_cons_succ]
  refine wpAnyW_take (i := 17) (oi := oa17) (v := ?_) rfl (by kernel_rfl) (by kernel_rfl) (by kernel_rfl) (by kernel_rfl) (fun _ _ _ h => h) (Or.inl ⟨by rfl, fun w _ => ?_⟩) ?_
  rotate_left
  · (go_simp; first | done | with_reducible rfl)
  try simp only [oa17, Act.put, setIfInBounds_toArray, set_cons_zero, set_cons_succ]
  refine wpAnyW_done (by kernel_rfl) ?_ _
  all_goals go_wp2_with (first
    | (go_at_call 33; have _g := m2; clear _g; (fail_if_success (have _g := m3)); have m3 := hid trivial; refine (eat_no ⟨#[118, 97, 114]⟩ (R.out.bw (by repeat (first | exact Bw.refl _ | apply Bw.alloc | apply Bw.drewN | apply Bw.drew))) i3.out).mono ?_; clear ul uc uf ur; rintro e w1 ⟨rfl, hr1, hk1⟩; have KP := hid (show Kp r w w1 from KP.out.trans (Kp.trans (Kp.of_bw (by repeat (first | exact Bw.refl _ | apply Bw.alloc | apply Bw.drewN | apply Bw.drew))) hk1)); have P := hid (show Blk w1 wa.heap.size #[.int .i64 0, .int .i64 0, .string { data := #[] }, .int .i64 0, .int .i64 p0] 60 from P.out.kp (Kp.trans (Kp.of_bw (by repeat (first | exact Bw.refl _ | apply Bw.alloc | apply Bw.drewN | apply Bw.drew))) hk1) (by omega)); have R := hid hr1; have ul := P.out.lt; have uc := P.out.cell; have uf := P.out.free; have ur : r < w1.heap.size := R.out.lt; clear hr1 hk1)
    | (go_at_call 33; have _g := m3; clear _g; (fail_if_success (have _g := m4)); have m4 := hid trivial; refine (eat_yes ⟨#[119, 104, 105, 108, 101]⟩ (R.out.bw (by repeat (first | exact Bw.refl _ | apply Bw.alloc | apply Bw.drewN | apply Bw.drew))) y.out).mono ?_; clear ul uc uf ur; rintro e w1 ⟨rfl, hr1, hk1⟩; have KP := hid (show Kp r w w1 from KP.out.trans (Kp.trans (Kp.of_bw (by repeat (first | exact Bw.refl _ | apply Bw.alloc | apply Bw.drewN | apply Bw.drew))) hk1)); have P := hid (show Blk w1 wa.heap.size #[.int .i64 0, .int .i64 0, .string { data := #[] }, .int .i64 0, .int .i64 p0] 60 from P.out.kp (Kp.trans (Kp.of_bw (by repeat (first | exact Bw.refl _ | apply Bw.alloc | apply Bw.drewN | apply Bw.drew))) hk1) (by omega)); have R := hid hr1; have ul := P.out.lt; have uc := P.out.cell; have uf := P.out.free; have ur : r < w1.heap.size := R.out.lt; clear hr1 hk1)
    | (go_at_call 35; have _g := m4; clear _g; (fail_if_success (have _g := m21)); have m21 := hid trivial; refine (HV.out _ (R.out.setO P.out 0 _)).mono ?_; clear ul uc uf ur; rintro e w1 ⟨a2, c2, rfl, hn2, hr1, hk1, hl2⟩; have KP := hid (show Kp r w w1 from Kp.trans (KP.out.setNew hra 0 _) hk1); have PZ := P.out.lt; have P := hid (show Blk w1 wa.heap.size #[.int .i64 6, .int .i64 0, .string { data := #[] }, .int .i64 0, .int .i64 p0] 60 from (P.out.set 0 _).kp hk1 (by omega)); have N := hid (hn2.low (b' := wa.heap.size + 1) (by first | omega | (simp only [World.size_setCell]; omega) | (simp; omega))); have L := hid hl2; clear hn2 hl2; have R := hid hr1; have ul := P.out.lt; have uc := P.out.cell; have uf := P.out.free; have ur : r < w1.heap.size := R.out.lt; clear hr1 hk1)
    | fail)
  all_goals go_region_held3 (fun w' => w'.cell? ⟨wa.heap.size, 0, none⟩ = some (.int .i64 6) ∧ w'.cell? ⟨wa.heap.size, 1, none⟩ = some (.int .i64 0) ∧ w'.cell? ⟨wa.heap.size, 2, none⟩ = some (.string { data := #[] }) ∧ w'.cell? ⟨wa.heap.size, 3, none⟩ = some (.int .i64 0) ∧ w'.cell? ⟨wa.heap.size, 4, none⟩ = some (.int .i64 p0)) (first | (simp [go_sem, *]; done)) (first
    | (go_at_call 29; have _g := N; clear _g; (fail_if_success (have _g := N8)); refine (HB.out _ (R.out.bw (by repeat (first | exact Bw.refl _ | apply Bw.alloc | apply Bw.drewN | apply Bw.drew)))).mono ?_; rintro e w8 ⟨a8, c8, rfl, hn8, hr8, hk8, hl8⟩; have N8 := hid (hn8.low (b' := wa.heap.size + 1) (by have := P.out.lt; first | omega | (simp only [World.size_setCell]; omega) | (simp; omega))); have N78 := hid (N.out.kp (Kp.trans (Kp.of_bw (by repeat (first | exact Bw.refl _ | apply Bw.alloc | apply Bw.drewN | apply Bw.drew))) hk8) (by omega)); have R8 := hid hr8; have K8 := hid (show Kp r w w8 from KP.out.trans (Kp.trans (Kp.of_bw (by repeat (first | exact Bw.refl _ | apply Bw.alloc | apply Bw.drewN | apply Bw.drew))) hk8)); have P8 := hid (show Blk w8 wa.heap.size #[.int .i64 6, .int .i64 0, .string { data := #[] }, .int .i64 0, .int .i64 p0] 60 from P.out.kp (Kp.trans (Kp.of_bw (by repeat (first | exact Bw.refl _ | apply Bw.alloc | apply Bw.drewN | apply Bw.drew))) hk8) (by omega)); have L8 := hid hl8; have v5 := P8.out.cell; have v6 := P8.out.lt; clear hn8 hr8 hk8 hl8)
    | (go_at_call 36; refine (dboth_as J _ _ l1 l2 HJ.out (N78.out.bw (by repeat (first | exact Bw.refl _ | apply Bw.alloc | apply Bw.drewN | apply Bw.drew))).sl (N8.out.bw (by repeat (first | exact Bw.refl _ | apply Bw.alloc | apply Bw.drewN | apply Bw.drew))).sl (by have := L.out; omega) (by have := L8.out; omega)).mono ?_; rintro e w10 ⟨a10, c10, rfl, hn10, hb10⟩; have N10 := hid hn10; have R10 := hid (R8.out.bw (Bw.trans (by repeat (first | exact Bw.refl _ | apply Bw.alloc | apply Bw.drewN | apply Bw.drew)) hb10)); have K10 := hid (K8.out.bw (Bw.trans (by repeat (first | exact Bw.refl _ | apply Bw.alloc | apply Bw.drewN | apply Bw.drew)) hb10)); have P10 := hid (P8.out.bw (Bw.trans (by repeat (first | exact Bw.refl _ | apply Bw.alloc | apply Bw.drewN | apply Bw.drew)) hb10)); have v7 := P10.out.cell; have v8 := P10.out.lt; clear hn10 hb10)
    | (go_at_call 15; refine (djoin_any (6, 0, [], 0, p0) 2 _ J (N10.out.bw (by repeat (first | exact Bw.refl _ | apply Bw.alloc | apply Bw.drewN | apply Bw.drew))).sl (by have := LJ.out; omega)).mono ?_; rintro e w9 ⟨a9, c9, rfl, hn9, hb9⟩; have N9 := hid hn9; have B9 := hid (show Bw w10 w9 from Bw.trans (by repeat (first | exact Bw.refl _ | apply Bw.alloc | apply Bw.drewN | apply Bw.drew)) hb9); have P9 := hid (P10.out.bw B9.out); have v9 := P9.out.cell; have v10 := P9.out.lt; clear hn9 hb9)
    | fail)
  all_goals go_wp2
  all_goals go_ret
  all_goals exact ⟨_, _, rfl, N9.out.low K10.out.size, R10.out.bw B9.out, K10.out.bw B9.out, HLJ.out⟩

set_option maxRecDepth 100000 in
set_option maxHeartbeats 8000000 in
theorem stmt_try (i0 : dIs T s ⟨#[123]⟩ = false) (i1 : dIs T s ⟨#[105, 102]⟩ = false) (i2 : dIs T s ⟨#[102, 110]⟩ = false) (i3 : dIs T s ⟨#[118, 97, 114]⟩ = false) (i4 : dIs T s ⟨#[119, 104, 105, 108, 101]⟩ = false) (i5 : dIs T s ⟨#[98, 114, 101, 97, 107]⟩ = false) (i6 : dIs T s ⟨#[99, 111, 110, 116, 105, 110, 117, 101]⟩ = false) (i7 : dIs T s ⟨#[114, 101, 116, 117, 114, 110]⟩ = false) (i8 : dIs T s ⟨#[116, 104, 114, 111, 119]⟩ = false) (y : dIs T s ⟨#[116, 114, 121]⟩ = true) {l1 l2 : List ANode} {s1 s2 : DS} (HV : ∀ w1 : World, RdM w1 r T o (dNx s) → Calls Tryd.prog 29 #[.pointer (some ⟨r, 0, none⟩)] w1 (DG w1 r T o l1 s1)) (HB : ∀ w1 : World, RdM w1 r T o (dNameS T (dWant T s1 ⟨#[99, 97, 116, 99, 104]⟩)) → Calls Tryd.prog 29 #[.pointer (some ⟨r, 0, none⟩)] w1 (DG w1 r T o l2 s2)) (la : l1.length ≤ 1000000) (lb : l2.length ≤ 1000000) (HLJ : (dJoin (11, 0, dNameT T (dWant T s1 ⟨#[99, 97, 116, 99, 104]⟩), 0, dAt T s) 2 (l1 ++ l2)).length ≤ 1000000) (hr : RdM w r T o s) : Calls Tryd.prog 14 #[.pointer (some ⟨r, 0, none⟩)] w (DG w r T o (dJoin (11, 0, dNameT T (dWant T s1 ⟨#[99, 97, 116, 99, 104]⟩), 0, dAt T s) 2 (l1 ++ l2)) s2) := by
  have HR := hid hr
  have hrl := hr.lt
  have HAT := hid (fun w1 (hw : Bw w w1) => dat_any (hr.bw hw))
  have i0 := hid i0
  have i1 := hid i1
  have i2 := hid i2
  have i3 := hid i3
  have i4 := hid i4
  have i5 := hid i5
  have i6 := hid i6
  have i7 := hid i7
  have i8 := hid i8
  have y := hid y
  have HV := hid HV
  have HB := hid HB
  have HW := hid (fun w1 (hw : RdM w1 r T o s1) => dwant_any ⟨#[99, 97, 116, 99, 104]⟩ hw)
  have HNM := hid (fun w1 (hw : RdM w1 r T o (dWant T s1 ⟨#[99, 97, 116, 99, 104]⟩)) => dname_any hw)
  have LJ := hid (show (l1 ++ l2).length ≤ 2000000 by rw [List.length_append]; omega)
  obtain ⟨J, hJ⟩ : ∃ J, l1 ++ l2 = J := ⟨_, rfl⟩
  rw [hJ] at HLJ LJ ⊢
  have HLJ := hid HLJ
  have HJ := hid hJ
  clear hJ la lb
  generalize dNameS T (dWant T s1 ⟨#[99, 97, 116, 99, 104]⟩) = D at *
  generalize dNameT T (dWant T s1 ⟨#[99, 97, 116, 99, 104]⟩) = nx at *
  generalize dWant T s1 ⟨#[99, 97, 116, 99, 104]⟩ = A at *
  clear hr
  unfold DG at *
  generalize dAt T s = p0 at *
  go_enter Tryd.func14, Tryd.ntmps14
  go_wp2_with (first
    | (go_at_call 27; (fail_if_success (have _g := B1)); refine (HAT.out _ (Bw.refl _)).mono ?_; rintro e wa ⟨rfl, hb1⟩; have B1 := hid hb1; have hra : w.heap.size ≤ wa.heap.size := hb1.size; have R := hid (HR.out.bw hb1); have KP := hid (Kp.of_bw (r := r) hb1); clear hb1)
    | (go_at_call 28; (fail_if_success (have _g := m0)); have m0 := hid trivial; refine (is_no ⟨#[123]⟩ (R.out.bw (by repeat (first | exact Bw.refl _ | apply Bw.alloc | apply Bw.drewN | apply Bw.drew))) i0.out).mono ?_; rintro e w1 ⟨rfl, hr1, hk1⟩; have KP := hid (show Kp r w w1 from KP.out.trans (Kp.trans (Kp.of_bw (by repeat (first | exact Bw.refl _ | apply Bw.alloc | apply Bw.drewN | apply Bw.drew))) hk1)); have R := hid hr1; have P := hid (show Blk w1 wa.heap.size #[.int .i64 0, .int .i64 0, .string { data := #[] }, .int .i64 0, .int .i64 p0] 60 from (Blk.new wa _ _).kp hk1 (by omega)); have ul := P.out.lt; have uc := P.out.cell; have uf := P.out.free; have ur : r < w1.heap.size := R.out.lt; clear hr1 hk1)
    | (go_at_call 28; have _g := m0; clear _g; (fail_if_success (have _g := m1)); have m1 := hid trivial; refine (is_no ⟨#[105, 102]⟩ (R.out.bw (by repeat (first | exact Bw.refl _ | apply Bw.alloc | apply Bw.drewN | apply Bw.drew))) i1.out).mono ?_; clear ul uc uf ur; rintro e w1 ⟨rfl, hr1, hk1⟩; have KP := hid (show Kp r w w1 from KP.out.trans (Kp.trans (Kp.of_bw (by repeat (first | exact Bw.refl _ | apply Bw.alloc | apply Bw.drewN | apply Bw.drew))) hk1)); have P := hid (show Blk w1 wa.heap.size #[.int .i64 0, .int .i64 0, .string { data := #[] }, .int .i64 0, .int .i64 p0] 60 from P.out.kp (Kp.trans (Kp.of_bw (by repeat (first | exact Bw.refl _ | apply Bw.alloc | apply Bw.drewN | apply Bw.drew))) hk1) (by omega)); have R := hid hr1; have ul := P.out.lt; have uc := P.out.cell; have uf := P.out.free; have ur : r < w1.heap.size := R.out.lt; clear hr1 hk1)
    | fail)
  refine wp_region_W (fun _ => True) (fun j => if j == 1 then 0 else 1) (by kernel_rfl) ?_
  refine wpAnyW_take (i := 0) (oi := oa0) (v := ?_) rfl (by kernel_rfl) (by kernel_rfl) (by kernel_rfl) (by kernel_rfl) (fun _ _ _ h => h) (Or.inl ⟨by rfl, fun w _ => ?_⟩) ?_
  rotate_left
  · (go_simp; first | done | with_reducible rfl)
  try simp only [oa0, Act.put, setIfInBounds_toArray, set_cons_zero, set_cons_succ]
  refine wpAnyW_ready (rs := [1]) (by kernel_rfl) (by simp) ?_
  refine (AllReadyW.cons (o := oa1) rfl (fun K hK => ?_) AllReadyW.nil)
  go_simp
  have m2 := hid trivial
  refine (is_no ⟨#[102, 110]⟩ (R.out.bw (by repeat (first | exact Bw.refl _ | apply Bw.alloc | apply Bw.drewN | apply Bw.drew))) i2.out).mono ?_
  clear ul uc uf ur
  rintro e w1 ⟨he1, hr1, hk1⟩
  subst he1
  have KP := hid (show Kp r w w1 from KP.out.trans (Kp.trans (Kp.of_bw (by repeat (first | exact Bw.refl _ | apply Bw.alloc | apply Bw.drewN | apply Bw.drew))) hk1))
  have P := hid (show Blk w1 wa.heap.size #[.int .i64 0, .int .i64 0, .string { data := #[] }, .int .i64 0, .int .i64 p0] 60 from P.out.kp (Kp.trans (Kp.of_bw (by repeat (first | exact Bw.refl _ | apply Bw.alloc | apply Bw.drewN | apply Bw.drew))) hk1) (by omega))
  have R := hid hr1
  have ul := P.out.lt
  have uc := P.out.cell
  have uf := P.out.free
  have ur : r < w1.heap.size := R.out.lt
  clear hr1 hk1
  refine hK.out _ _ trivial ?_
  clear hK K
  try simp only [oa1, Act.put, setIfInBounds_toArray, set_cons_zero, set_cons_succ]
  refine wpAnyW_take (i := 2) (oi := oa2) (v := ?_) rfl (by kernel_rfl) (by kernel_rfl) (by kernel_rfl) (by kernel_rfl) (fun _ _ _ h => h) (Or.inl ⟨by rfl, fun w _ => ?_⟩) ?_
  rotate_left
  · (go_simp; first | done | with_reducible rfl)
  try simp only [oa2, Act.put, setIfInBounds_toArray, set_cons_zero, set_cons_succ]
  refine wpAnyW_take (i := 3) (oi := oa3) (v := undef) rfl (by kernel_rfl) (by kernel_rfl) (by kernel_rfl) (by kernel_rfl) (fun _ _ _ h => h) (Or.inr ⟨by rfl, rfl⟩) ?_
  try simp only [oa3, Act.put, setIfInBounds_toArray, set_cons_zero, set_cons_succ]
  refine wpAnyW_take (i := 4) (oi := oa4) (v := undef) rfl (by kernel_rfl) (by kernel_rfl) (by kernel_rfl) (by kernel_rfl) (fun _ _ _ h => h) (Or.inr ⟨by rfl, rfl⟩) ?_
  try simp only [oa4, Act.put, setIfInBounds_toArray, set_cons_zero, set_cons_succ]
  refine wpAnyW_take (i := 5) (oi := oa5) (v := undef) rfl (by kernel_rfl) (by kernel_rfl) (by kernel_rfl) (by kernel_rfl) (fun _ _ _ h => h) (Or.inr ⟨by rfl, rfl⟩) ?_
  try simp only [oa5, Act.put, setIfInBounds_toArray, set_cons_zero, set_cons_succ]
  refine wpAnyW_take (i := 6) (oi := oa6) (v := undef) rfl (by kernel_rfl) (by kernel_rfl) (by kernel_rfl) (by kernel_rfl) (fun _ _ _ h => h) (Or.inr ⟨by rfl, rfl⟩) ?_
  try simp only [oa6, Act.put, setIfInBounds_toArray, set_cons_zero, set_cons_succ]
  refine wpAnyW_take (i := 7) (oi := oa7) (v := undef) rfl (by kernel_rfl) (by kernel_rfl) (by kernel_rfl) (by kernel_rfl) (fun _ _ _ h => h) (Or.inr ⟨by rfl, rfl⟩) ?_
  try simp only [oa7, Act.put, setIfInBounds_toArray, set_cons_zero, set_cons_succ]
  refine wpAnyW_take (i := 8) (oi := oa8) (v := undef) rfl (by kernel_rfl) (by kernel_rfl) (by kernel_rfl) (by kernel_rfl) (fun _ _ _ h => h) (Or.inr ⟨by rfl, rfl⟩) ?_
  try simp only [oa8, Act.put, setIfInBounds_toArray, set_cons_zero, set_cons_succ]
  refine wpAnyW_take (i := 9) (oi := oa9) (v := undef) rfl (by kernel_rfl) (by kernel_rfl) (by kernel_rfl) (by kernel_rfl) (fun _ _ _ h => h) (Or.inr ⟨by rfl, rfl⟩) ?_
  try simp only [oa9, Act.put, setIfInBounds_toArray, set_cons_zero, set_cons_succ]
  refine wpAnyW_take (i := 10) (oi := oa10) (v := undef) rfl (by kernel_rfl) (by kernel_rfl) (by kernel_rfl) (by kernel_rfl) (fun _ _ _ h => h) (Or.inr ⟨by rfl, rfl⟩) ?_
  try simp only [oa10, Act.put, setIfInBounds_toArray, set_cons_zero, set_cons_succ]
  refine wpAnyW_take (i := 11) (oi := oa11) (v := undef) rfl (by kernel_rfl) (by kernel_rfl) (by kernel_rfl) (by kernel_rfl) (fun _ _ _ h => h) (Or.inr ⟨by rfl, rfl⟩) ?_
  try simp only [oa11, Act.put, setIfInBounds_toArray, set_cons_zero, set_cons_succ]
  refine wpAnyW_take (i := 12) (oi := oa12) (v := undef) rfl (by kernel_rfl) (by kernel_rfl) (by kernel_rfl) (by kernel_rfl) (fun _ _ _ h => h) (Or.inr ⟨by rfl, rfl⟩) ?_
  try simp only [oa12, Act.put, setIfInBounds_toArray, set_cons_zero, set_cons_succ]
  refine wpAnyW_take (i := 13) (oi := oa13) (v := undef) rfl (by kernel_rfl) (by kernel_rfl) (by kernel_rfl) (by kernel_rfl) (fun _ _ _ h => h) (Or.inr ⟨by rfl, rfl⟩) ?_
  try simp only [oa13, Act.put, setIfInBounds_toArray, set_cons_zero, set_cons_succ]
  refine wpAnyW_take (i := 14) (oi := oa14) (v := undef) rfl (by kernel_rfl) (by kernel_rfl) (by kernel_rfl) (by kernel_rfl) (fun _ _ _ h => h) (Or.inr ⟨by rfl, rfl⟩) ?_
  try simp only [oa14, Act.put, setIfInBounds_toArray, set_cons_zero, set_cons_succ]
  refine wpAnyW_take (i := 15) (oi := oa15) (v := undef) rfl (by kernel_rfl) (by kernel_rfl) (by kernel_rfl) (by kernel_rfl) (fun _ _ _ h => h) (Or.inr ⟨by rfl, rfl⟩) ?_
  try simp only [oa15, Act.put, setIfInBounds_toArray, set_cons_zero, set_cons_succ]
  refine wpAnyW_take (i := 16) (oi := oa16) (v := ?_) rfl (by kernel_rfl) (by kernel_rfl) (by kernel_rfl) (by kernel_rfl) (fun _ _ _ h => h) (Or.inl ⟨by rfl, fun w _ => ?_⟩) ?_
  rotate_left
  · (go_simp; first | done | with_reducible rfl)
  try simp only [oa16, Act.put, setIfInBounds_toArray, set_cons_zero, set_cons_succ]
  refine wpAnyW_take (i := 17) (oi := oa17) (v := ?_) rfl (by kernel_rfl) (by kernel_rfl) (by kernel_rfl) (by kernel_rfl) (fun _ _ _ h => h) (Or.inl ⟨by rfl, fun w _ => ?_⟩) ?_
  rotate_left
  · (go_simp; first | done | with_reducible rfl)
  try simp only [oa17, Act.put, setIfInBounds_toArray, set_cons_zero, set_cons_succ]
  refine wpAnyW_done (by kernel_rfl) ?_ _
  all_goals go_wp2_with (first
    | (go_at_call 33; have _g := m2; clear _g; (fail_if_success (have _g := m3)); have m3 := hid trivial; refine (eat_no ⟨#[118, 97, 114]⟩ (R.out.bw (by repeat (first | exact Bw.refl _ | apply Bw.alloc | apply Bw.drewN | apply Bw.drew))) i3.out).mono ?_; clear ul uc uf ur; rintro e w1 ⟨rfl, hr1, hk1⟩; have KP := hid (show Kp r w w1 from KP.out.trans (Kp.trans (Kp.of_bw (by repeat (first | exact Bw.refl _ | apply Bw.alloc | apply Bw.drewN | apply Bw.drew))) hk1)); have P := hid (show Blk w1 wa.heap.size #[.int .i64 0, .int .i64 0, .string { data := #[] }, .int .i64 0, .int .i64 p0] 60 from P.out.kp (Kp.trans (Kp.of_bw (by repeat (first | exact Bw.refl _ | apply Bw.alloc | apply Bw.drewN | apply Bw.drew))) hk1) (by omega)); have R := hid hr1; have ul := P.out.lt; have uc := P.out.cell; have uf := P.out.free; have ur : r < w1.heap.size := R.out.lt; clear hr1 hk1)
    | (go_at_call 33; have _g := m3; clear _g; (fail_if_success (have _g := m4)); have m4 := hid trivial; refine (eat_no ⟨#[119, 104, 105, 108, 101]⟩ (R.out.bw (by repeat (first | exact Bw.refl _ | apply Bw.alloc | apply Bw.drewN | apply Bw.drew))) i4.out).mono ?_; clear ul uc uf ur; rintro e w1 ⟨rfl, hr1, hk1⟩; have KP := hid (show Kp r w w1 from KP.out.trans (Kp.trans (Kp.of_bw (by repeat (first | exact Bw.refl _ | apply Bw.alloc | apply Bw.drewN | apply Bw.drew))) hk1)); have P := hid (show Blk w1 wa.heap.size #[.int .i64 0, .int .i64 0, .string { data := #[] }, .int .i64 0, .int .i64 p0] 60 from P.out.kp (Kp.trans (Kp.of_bw (by repeat (first | exact Bw.refl _ | apply Bw.alloc | apply Bw.drewN | apply Bw.drew))) hk1) (by omega)); have R := hid hr1; have ul := P.out.lt; have uc := P.out.cell; have uf := P.out.free; have ur : r < w1.heap.size := R.out.lt; clear hr1 hk1)
    | (go_at_call 33; have _g := m4; clear _g; (fail_if_success (have _g := m5)); have m5 := hid trivial; refine (eat_no ⟨#[98, 114, 101, 97, 107]⟩ (R.out.bw (by repeat (first | exact Bw.refl _ | apply Bw.alloc | apply Bw.drewN | apply Bw.drew))) i5.out).mono ?_; clear ul uc uf ur; rintro e w1 ⟨rfl, hr1, hk1⟩; have KP := hid (show Kp r w w1 from KP.out.trans (Kp.trans (Kp.of_bw (by repeat (first | exact Bw.refl _ | apply Bw.alloc | apply Bw.drewN | apply Bw.drew))) hk1)); have P := hid (show Blk w1 wa.heap.size #[.int .i64 0, .int .i64 0, .string { data := #[] }, .int .i64 0, .int .i64 p0] 60 from P.out.kp (Kp.trans (Kp.of_bw (by repeat (first | exact Bw.refl _ | apply Bw.alloc | apply Bw.drewN | apply Bw.drew))) hk1) (by omega)); have R := hid hr1; have ul := P.out.lt; have uc := P.out.cell; have uf := P.out.free; have ur : r < w1.heap.size := R.out.lt; clear hr1 hk1)
    | (go_at_call 33; have _g := m5; clear _g; (fail_if_success (have _g := m6)); have m6 := hid trivial; refine (eat_no ⟨#[99, 111, 110, 116, 105, 110, 117, 101]⟩ (R.out.bw (by repeat (first | exact Bw.refl _ | apply Bw.alloc | apply Bw.drewN | apply Bw.drew))) i6.out).mono ?_; clear ul uc uf ur; rintro e w1 ⟨rfl, hr1, hk1⟩; have KP := hid (show Kp r w w1 from KP.out.trans (Kp.trans (Kp.of_bw (by repeat (first | exact Bw.refl _ | apply Bw.alloc | apply Bw.drewN | apply Bw.drew))) hk1)); have P := hid (show Blk w1 wa.heap.size #[.int .i64 0, .int .i64 0, .string { data := #[] }, .int .i64 0, .int .i64 p0] 60 from P.out.kp (Kp.trans (Kp.of_bw (by repeat (first | exact Bw.refl _ | apply Bw.alloc | apply Bw.drewN | apply Bw.drew))) hk1) (by omega)); have R := hid hr1; have ul := P.out.lt; have uc := P.out.cell; have uf := P.out.free; have ur : r < w1.heap.size := R.out.lt; clear hr1 hk1)
    | (go_at_call 33; have _g := m6; clear _g; (fail_if_success (have _g := m7)); have m7 := hid trivial; refine (eat_no ⟨#[114, 101, 116, 117, 114, 110]⟩ (R.out.bw (by repeat (first | exact Bw.refl _ | apply Bw.alloc | apply Bw.drewN | apply Bw.drew))) i7.out).mono ?_; clear ul uc uf ur; rintro e w1 ⟨rfl, hr1, hk1⟩; have KP := hid (show Kp r w w1 from KP.out.trans (Kp.trans (Kp.of_bw (by repeat (first | exact Bw.refl _ | apply Bw.alloc | apply Bw.drewN | apply Bw.drew))) hk1)); have P := hid (show Blk w1 wa.heap.size #[.int .i64 0, .int .i64 0, .string { data := #[] }, .int .i64 0, .int .i64 p0] 60 from P.out.kp (Kp.trans (Kp.of_bw (by repeat (first | exact Bw.refl _ | apply Bw.alloc | apply Bw.drewN | apply Bw.drew))) hk1) (by omega)); have R := hid hr1; have ul := P.out.lt; have uc := P.out.cell; have uf := P.out.free; have ur : r < w1.heap.size := R.out.lt; clear hr1 hk1)
    | (go_at_call 33; have _g := m7; clear _g; (fail_if_success (have _g := m8)); have m8 := hid trivial; refine (eat_no ⟨#[116, 104, 114, 111, 119]⟩ (R.out.bw (by repeat (first | exact Bw.refl _ | apply Bw.alloc | apply Bw.drewN | apply Bw.drew))) i8.out).mono ?_; clear ul uc uf ur; rintro e w1 ⟨rfl, hr1, hk1⟩; have KP := hid (show Kp r w w1 from KP.out.trans (Kp.trans (Kp.of_bw (by repeat (first | exact Bw.refl _ | apply Bw.alloc | apply Bw.drewN | apply Bw.drew))) hk1)); have P := hid (show Blk w1 wa.heap.size #[.int .i64 0, .int .i64 0, .string { data := #[] }, .int .i64 0, .int .i64 p0] 60 from P.out.kp (Kp.trans (Kp.of_bw (by repeat (first | exact Bw.refl _ | apply Bw.alloc | apply Bw.drewN | apply Bw.drew))) hk1) (by omega)); have R := hid hr1; have ul := P.out.lt; have uc := P.out.cell; have uf := P.out.free; have ur : r < w1.heap.size := R.out.lt; clear hr1 hk1)
    | (go_at_call 33; have _g := m8; clear _g; (fail_if_success (have _g := m9)); have m9 := hid trivial; refine (eat_yes ⟨#[116, 114, 121]⟩ (R.out.bw (by repeat (first | exact Bw.refl _ | apply Bw.alloc | apply Bw.drewN | apply Bw.drew))) y.out).mono ?_; clear ul uc uf ur; rintro e w1 ⟨rfl, hr1, hk1⟩; have KP := hid (show Kp r w w1 from KP.out.trans (Kp.trans (Kp.of_bw (by repeat (first | exact Bw.refl _ | apply Bw.alloc | apply Bw.drewN | apply Bw.drew))) hk1)); have P := hid (show Blk w1 wa.heap.size #[.int .i64 0, .int .i64 0, .string { data := #[] }, .int .i64 0, .int .i64 p0] 60 from P.out.kp (Kp.trans (Kp.of_bw (by repeat (first | exact Bw.refl _ | apply Bw.alloc | apply Bw.drewN | apply Bw.drew))) hk1) (by omega)); have R := hid hr1; have ul := P.out.lt; have uc := P.out.cell; have uf := P.out.free; have ur : r < w1.heap.size := R.out.lt; clear hr1 hk1)
    | (go_at_call 29; have _g := m9; clear _g; (fail_if_success (have _g := m21)); have m21 := hid trivial; refine (HV.out _ (R.out.setO P.out 0 _)).mono ?_; clear ul uc uf ur; rintro e w1 ⟨a2, c2, rfl, hn2, hr1, hk1, hl2⟩; have KP := hid (show Kp r w w1 from Kp.trans (KP.out.setNew hra 0 _) hk1); have PZ := P.out.lt; have P := hid (show Blk w1 wa.heap.size #[.int .i64 11, .int .i64 0, .string { data := #[] }, .int .i64 0, .int .i64 p0] 60 from (P.out.set 0 _).kp hk1 (by omega)); have N := hid (hn2.low (b' := wa.heap.size + 1) (by first | omega | (simp only [World.size_setCell]; omega) | (simp; omega))); have L := hid hl2; clear hn2 hl2; have R := hid hr1; have ul := P.out.lt; have uc := P.out.cell; have uf := P.out.free; have ur : r < w1.heap.size := R.out.lt; clear hr1 hk1)
    | (go_at_call 34; have _g := m21; clear _g; (fail_if_success (have _g := m22)); have m22 := hid trivial; refine (HW.out _ (R.out.bw (by repeat (first | exact Bw.refl _ | apply Bw.alloc | apply Bw.drewN | apply Bw.drew)))).mono ?_; clear ul uc uf ur; rintro e w1 ⟨rfl, hr1, hk1⟩; have KP := hid (show Kp r w w1 from KP.out.trans (Kp.trans (Kp.of_bw (by repeat (first | exact Bw.refl _ | apply Bw.alloc | apply Bw.drewN | apply Bw.drew))) hk1)); have P := hid (show Blk w1 wa.heap.size #[.int .i64 11, .int .i64 0, .string { data := #[] }, .int .i64 0, .int .i64 p0] 60 from P.out.kp (Kp.trans (Kp.of_bw (by repeat (first | exact Bw.refl _ | apply Bw.alloc | apply Bw.drewN | apply Bw.drew))) hk1) (by omega)); have N := hid (N.out.kp (Kp.trans (Kp.of_bw (by repeat (first | exact Bw.refl _ | apply Bw.alloc | apply Bw.drewN | apply Bw.drew))) hk1) (by omega)); have R := hid hr1; have ul := P.out.lt; have uc := P.out.cell; have uf := P.out.free; have ur : r < w1.heap.size := R.out.lt; clear hr1 hk1)
    | (go_at_call 31; have _g := m22; clear _g; (fail_if_success (have _g := m23)); have m23 := hid trivial; refine (HNM.out _ (R.out.bw (by repeat (first | exact Bw.refl _ | apply Bw.alloc | apply Bw.drewN | apply Bw.drew)))).mono ?_; clear ul uc uf ur; rintro e w1 ⟨rfl, hr1, hk1⟩; have KP := hid (show Kp r w w1 from KP.out.trans (Kp.trans (Kp.of_bw (by repeat (first | exact Bw.refl _ | apply Bw.alloc | apply Bw.drewN | apply Bw.drew))) hk1)); have P := hid (show Blk w1 wa.heap.size #[.int .i64 11, .int .i64 0, .string { data := #[] }, .int .i64 0, .int .i64 p0] 60 from P.out.kp (Kp.trans (Kp.of_bw (by repeat (first | exact Bw.refl _ | apply Bw.alloc | apply Bw.drewN | apply Bw.drew))) hk1) (by omega)); have N := hid (N.out.kp (Kp.trans (Kp.of_bw (by repeat (first | exact Bw.refl _ | apply Bw.alloc | apply Bw.drewN | apply Bw.drew))) hk1) (by omega)); have R := hid hr1; have ul := P.out.lt; have uc := P.out.cell; have uf := P.out.free; have ur : r < w1.heap.size := R.out.lt; clear hr1 hk1)
    | fail)
  all_goals
    have R := hid (R.out.setO P.out 2 (.string (strOfNums nx)))
    have N := hid (N.out.setO (g := wa.heap.size) (fun e => by have := (N.out.lt _ e).1; omega) 2 (.string (strOfNums nx)))
    have KP := hid (KP.out.setNew hra 2 (.string (strOfNums nx)))
    have P := hid (show Blk (w1.setCell ⟨wa.heap.size, 2, none⟩ (.string (strOfNums nx))) wa.heap.size #[.int .i64 11, .int .i64 0, .string (strOfNums nx), .int .i64 0, .int .i64 p0] 60 from P.out.set 2 _)
  all_goals go_region_held3 (fun w' => w'.cell? ⟨wa.heap.size, 0, none⟩ = some (.int .i64 11) ∧ w'.cell? ⟨wa.heap.size, 1, none⟩ = some (.int .i64 0) ∧ w'.cell? ⟨wa.heap.size, 2, none⟩ = some (.string (strOfNums nx)) ∧ w'.cell? ⟨wa.heap.size, 3, none⟩ = some (.int .i64 0) ∧ w'.cell? ⟨wa.heap.size, 4, none⟩ = some (.int .i64 p0)) (first | (simp [go_sem, *]; done)) (first
    | (go_at_call 29; have _g := N; clear _g; (fail_if_success (have _g := N8)); refine (HB.out _ (R.out.bw (by repeat (first | exact Bw.refl _ | apply Bw.alloc | apply Bw.drewN | apply Bw.drew)))).mono ?_; rintro e w8 ⟨a8, c8, rfl, hn8, hr8, hk8, hl8⟩; have N8 := hid (hn8.low (b' := wa.heap.size + 1) (by have := P.out.lt; first | omega | (simp only [World.size_setCell]; omega) | (simp; omega))); have N78 := hid (N.out.kp (Kp.trans (Kp.of_bw (by repeat (first | exact Bw.refl _ | apply Bw.alloc | apply Bw.drewN | apply Bw.drew))) hk8) (by omega)); have R8 := hid hr8; have K8 := hid (show Kp r w w8 from KP.out.trans (Kp.trans (Kp.of_bw (by repeat (first | exact Bw.refl _ | apply Bw.alloc | apply Bw.drewN | apply Bw.drew))) hk8)); have P8 := hid (show Blk w8 wa.heap.size #[.int .i64 11, .int .i64 0, .string (strOfNums nx), .int .i64 0, .int .i64 p0] 60 from P.out.kp (Kp.trans (Kp.of_bw (by repeat (first | exact Bw.refl _ | apply Bw.alloc | apply Bw.drewN | apply Bw.drew))) hk8) (by omega)); have L8 := hid hl8; have v5 := P8.out.cell; have v6 := P8.out.lt; clear hn8 hr8 hk8 hl8)
    | (go_at_call 36; refine (dboth_as J _ _ l1 l2 HJ.out (N78.out.bw (by repeat (first | exact Bw.refl _ | apply Bw.alloc | apply Bw.drewN | apply Bw.drew))).sl (N8.out.bw (by repeat (first | exact Bw.refl _ | apply Bw.alloc | apply Bw.drewN | apply Bw.drew))).sl (by have := L.out; omega) (by have := L8.out; omega)).mono ?_; rintro e w10 ⟨a10, c10, rfl, hn10, hb10⟩; have N10 := hid hn10; have R10 := hid (R8.out.bw (Bw.trans (by repeat (first | exact Bw.refl _ | apply Bw.alloc | apply Bw.drewN | apply Bw.drew)) hb10)); have K10 := hid (K8.out.bw (Bw.trans (by repeat (first | exact Bw.refl _ | apply Bw.alloc | apply Bw.drewN | apply Bw.drew)) hb10)); have P10 := hid (P8.out.bw (Bw.trans (by repeat (first | exact Bw.refl _ | apply Bw.alloc | apply Bw.drewN | apply Bw.drew)) hb10)); have v7 := P10.out.cell; have v8 := P10.out.lt; clear hn10 hb10)
    | (go_at_call 15; refine (djoin_any (11, 0, nx, 0, p0) 2 _ J (N10.out.bw (by repeat (first | exact Bw.refl _ | apply Bw.alloc | apply Bw.drewN | apply Bw.drew))).sl (by have := LJ.out; omega)).mono ?_; rintro e w9 ⟨a9, c9, rfl, hn9, hb9⟩; have N9 := hid hn9; have B9 := hid (show Bw w10 w9 from Bw.trans (by repeat (first | exact Bw.refl _ | apply Bw.alloc | apply Bw.drewN | apply Bw.drew)) hb9); have P9 := hid (P10.out.bw B9.out); have v9 := P9.out.cell; have v10 := P9.out.lt; clear hn9 hb9)
    | fail)
  all_goals go_wp2
  all_goals go_ret
  all_goals exact ⟨_, _, rfl, N9.out.low K10.out.size, R10.out.bw B9.out, K10.out.bw B9.out, HLJ.out⟩

end

end Go.Proofs.YtekkjpecdflajaaDoor
