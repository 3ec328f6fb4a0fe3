/- The document's parser: statement, all ways but fn: contracts, by steps. · The document's parser: statement, whole: contracts, by steps. -/
import Derived.Test.YtdhkcdehedbpcaaDoorM16
set_option linter.unusedSimpArgs false
set_option linter.unusedVariables false
namespace Go.Proofs.YtdhkcdehedbpcaaDoor
open Go Go.RowKit

@[go_sem] def oDst0 : Oper := { dst := some 23, op := Op.move (Operand.tmp 0), type := 66, pos := "ref.go:158", after := #[], guard := none }
@[go_sem] def oDst1 : Oper := { dst := some 24, op := Op.call { callee := Callee.value (Operand.func 42), args := #[Operand.tmp 23, Operand.const (Value.string { data := #[102, 110] })], argTypes := #[66, 9] }, type := 4, pos := "ref.go:158", after := #[{ on := 0, ground := Ground.data }], guard := none }
@[go_sem] def oDst2 : Oper := { dst := some 25, op := Op.move (Operand.tmp 24), type := 4, pos := "ref.go:158", after := #[{ on := 1, ground := Ground.data }, { on := 1, ground := Ground.chain }], guard := none }
@[go_sem] def oDst3 : Oper := { dst := some 26, op := Op.move (Operand.tmp 0), type := 66, pos := "ref.go:158", after := #[{ on := 2, ground := Ground.guard }], guard := some (2, true) }
@[go_sem] def oDst4 : Oper := { dst := some 27, op := Op.nilCheck (Operand.tmp 26), type := 0, pos := "ref.go:158", after := #[{ on := 3, ground := Ground.data }, { on := 2, ground := Ground.guard }], guard := some (2, true) }
@[go_sem] def oDst5 : Oper := { dst := some 28, op := Op.fieldAddr 68 (Operand.tmp 27) 0, type := 0, pos := "ref.go:158", after := #[{ on := 4, ground := Ground.data }, { on := 2, ground := Ground.guard }], guard := some (2, true) }
@[go_sem] def oDst6 : Oper := { dst := some 29, op := Op.load 63 (Operand.tmp 28), type := 63, pos := "ref.go:158", after := #[{ on := 5, ground := Ground.data }, { on := 2, ground := Ground.guard }], guard := some (2, true) }
@[go_sem] def oDst7 : Oper := { dst := some 30, op := Op.move (Operand.tmp 0), type := 66, pos := "ref.go:158", after := #[{ on := 2, ground := Ground.guard }], guard := some (2, true) }
@[go_sem] def oDst8 : Oper := { dst := some 31, op := Op.nilCheck (Operand.tmp 30), type := 0, pos := "ref.go:158", after := #[{ on := 7, ground := Ground.data }, { on := 2, ground := Ground.guard }], guard := some (2, true) }
@[go_sem] def oDst9 : Oper := { dst := some 32, op := Op.fieldAddr 68 (Operand.tmp 31) 1, type := 0, pos := "ref.go:158", after := #[{ on := 8, ground := Ground.data }, { on := 2, ground := Ground.guard }], guard := some (2, true) }
@[go_sem] def oDst10 : Oper := { dst := some 33, op := Op.load 3 (Operand.tmp 32), type := 3, pos := "ref.go:158", after := #[{ on := 9, ground := Ground.data }, { on := 2, ground := Ground.guard }], guard := some (2, true) }
@[go_sem] def oDst11 : Oper := { dst := some 34, op := Op.binOp BinOp.add 3 (Operand.tmp 33) (Operand.const (Value.int IntKind.i64 1)) 3, type := 3, pos := "ref.go:158", after := #[{ on := 10, ground := Ground.data }, { on := 2, ground := Ground.guard }], guard := some (2, true) }
@[go_sem] def oDst12 : Oper := { dst := some 35, op := Op.indexAddr 63 (Operand.tmp 29) (Operand.tmp 34), type := 0, pos := "ref.go:158", after := #[{ on := 6, ground := Ground.data }, { on := 11, ground := Ground.data }, { on := 2, ground := Ground.guard }], guard := some (2, true) }
@[go_sem] def oDst13 : Oper := { dst := some 36, op := Op.fieldAddr 70 (Operand.tmp 35) 0, type := 0, pos := "ref.go:158", after := #[{ on := 12, ground := Ground.data }, { on := 2, ground := Ground.guard }], guard := some (2, true) }
@[go_sem] def oDst14 : Oper := { dst := some 37, op := Op.load 3 (Operand.tmp 36), type := 3, pos := "ref.go:158", after := #[{ on := 13, ground := Ground.data }, { on := 2, ground := Ground.guard }], guard := some (2, true) }
@[go_sem] def oDst15 : Oper := { dst := some 38, op := Op.binOp BinOp.eql 3 (Operand.tmp 37) (Operand.const (Value.int IntKind.i64 1)) 3, type := 4, pos := "ref.go:158", after := #[{ on := 14, ground := Ground.data }, { on := 2, ground := Ground.guard }], guard := some (2, true) }
@[go_sem] def oDst16 : Oper := { dst := some 39, op := Op.pick (Operand.tmp 25) (Operand.tmp 38) (Operand.const (Value.bool false)), type := 4, pos := "ref.go:158", after := #[{ on := 2, ground := Ground.data }, { on := 15, ground := Ground.data }], guard := none }
@[go_sem] def oDst17 : Oper := { dst := some 22, op := Op.assign (Operand.tmp 39), type := 4, pos := "ref.go:158", after := #[{ on := 16, ground := Ground.data }, { on := 2, ground := Ground.chain }], guard := none }

section
attribute [local irreducible] dIs
variable {w w' : World} {r f : Nat} {T : List ATok} {o : Int} {s s' : DS} {l : List ANode} {k : Int}

set_option maxRecDepth 100000 in
set_option maxHeartbeats 8000000 in
theorem stmt_block  (y : dIs T s ⟨#[123]⟩ = true) (HV : ∀ w1 : World, RdM w1 r T o s → Calls Tryd.prog 43 #[.pointer (some ⟨r, 0, none⟩)] w1 (DG w1 r T o l s')) (hr : RdM w r T o s) : Calls Tryd.prog 21 #[.pointer (some ⟨r, 0, none⟩)] w (DG w r T o l s') := by
 have HR := hid hr
 have hrl := hr.lt
 have HAT := hid (fun w1 (hw : Bw w w1) => dat_any (hr.bw hw))
 have y := hid y
 have HV := hid HV
 clear hr
 unfold DG at *
 generalize dAt T s = p0 at *
 go_enter Tryd.func21, Tryd.ntmps21
 go_wp2_with (first
  | (go_at_call 41; (fail_if_success (have _g := B1)); refine (HAT.out _ (Bw.refl _)).mono ?_; rintro e wa ⟨rfl, hb1⟩; have B1 := hid hb1; have hra : w.heap.size ≤ wa.heap.size := hb1.size; have R := hid (HR.out.bw hb1); have KP := hid (Kp.of_bw (r := r) hb1); clear hb1)
  | (go_at_call 42; (fail_if_success (have _g := m0)); have m0 := hid trivial; refine (is_yes ⟨#[123]⟩ (R.out.bw bq) y.out).mono ?_; rintro e w1 ⟨rfl, hr1, hk1⟩; have KP := hid (show Kp r w w1 from KP.out.trans (Kp.trans (Kp.of_bw bq) hk1)); have R := hid hr1; have P := hid (show Blk w1 wa.heap.size #[.int .i64 0, .int .i64 0, .string ⟨#[]⟩, .int .i64 0, .int .i64 p0] 43 from (Blk.new wa _ _).kp hk1 (by omega)); have ul := P.out.lt; have uc := P.out.cell; have uf := P.out.free; have ur : r < w1.heap.size := R.out.lt; clear hr1 hk1)
  | (go_at_call 43; (fail_if_success (have _g := m20)); have m20 := hid trivial; refine (HV.out _ (R.out.bw bq)).mono ?_; rintro e w2 ⟨a2, c2, rfl, hn2, hr2, hk2, hl2⟩; have N := hid (hn2.low (b' := w.heap.size) (Nat.le_trans KP.out.size (by first | (simp; done) | exact Nat.le_refl _))); have KP := hid (show Kp r w w2 from KP.out.trans (Kp.trans (Kp.of_bw bq) hk2)); have R := hid hr2; have L := hid hl2; clear hn2 hr2 hk2 hl2)
  | fail)
 all_goals go_ret
 all_goals exact ⟨_, _, rfl, N.out, R.out, KP.out, L.out⟩

set_option maxRecDepth 100000 in
set_option maxHeartbeats 8000000 in
theorem stmt_choice (i0 : dIs T s ⟨#[123]⟩ = false) (y : dIs T s ⟨#[105, 102]⟩ = true) (HV : ∀ w1 : World, RdM w1 r T o s → Calls Tryd.prog 44 #[.pointer (some ⟨r, 0, none⟩)] w1 (DG w1 r T o l s')) (hr : RdM w r T o s) : Calls Tryd.prog 21 #[.pointer (some ⟨r, 0, none⟩)] w (DG w r T o l s') := by
 have HR := hid hr
 have hrl := hr.lt
 have HAT := hid (fun w1 (hw : Bw w w1) => dat_any (hr.bw hw))
 have i0 := hid i0
 have y := hid y
 have HV := hid HV
 clear hr
 unfold DG at *
 generalize dAt T s = p0 at *
 go_enter Tryd.func21, Tryd.ntmps21
 go_wp2_with (first
  | (go_at_call 41; (fail_if_success (have _g := B1)); refine (HAT.out _ (Bw.refl _)).mono ?_; rintro e wa ⟨rfl, hb1⟩; have B1 := hid hb1; have hra : w.heap.size ≤ wa.heap.size := hb1.size; have R := hid (HR.out.bw hb1); have KP := hid (Kp.of_bw (r := r) hb1); clear hb1)
  | (go_at_call 42; (fail_if_success (have _g := m0)); have m0 := hid trivial; refine (is_no ⟨#[123]⟩ (R.out.bw bq) i0.out).mono ?_; rintro e w1 ⟨rfl, hr1, hk1⟩; have KP := hid (show Kp r w w1 from KP.out.trans (Kp.trans (Kp.of_bw bq) hk1)); have R := hid hr1; have P := hid (show Blk w1 wa.heap.size #[.int .i64 0, .int .i64 0, .string ⟨#[]⟩, .int .i64 0, .int .i64 p0] 43 from (Blk.new wa _ _).kp hk1 (by omega)); have ul := P.out.lt; have uc := P.out.cell; have uf := P.out.free; have ur : r < w1.heap.size := R.out.lt; clear hr1 hk1)
  | (go_at_call 42; have _g := m0; clear _g; (fail_if_success (have _g := m1)); have m1 := hid trivial; refine (is_yes ⟨#[105, 102]⟩ (R.out.bw bq) y.out).mono ?_; clear ul uc uf ur; rintro e w1 ⟨rfl, hr1, hk1⟩; have KP := hid (show Kp r w w1 from KP.out.trans (Kp.trans (Kp.of_bw bq) hk1)); have P := hid (show Blk w1 wa.heap.size #[.int .i64 0, .int .i64 0, .string ⟨#[]⟩, .int .i64 0, .int .i64 p0] 43 from P.out.kp (Kp.trans (Kp.of_bw bq) hk1) (by omega)); have R := hid hr1; have ul := P.out.lt; have uc := P.out.cell; have uf := P.out.free; have ur : r < w1.heap.size := R.out.lt; clear hr1 hk1)
  | (go_at_call 44; (fail_if_success (have _g := m20)); have m20 := hid trivial; refine (HV.out _ (R.out.bw bq)).mono ?_; rintro e w2 ⟨a2, c2, rfl, hn2, hr2, hk2, hl2⟩; have N := hid (hn2.low (b' := w.heap.size) (Nat.le_trans KP.out.size (by first | (simp; done) | exact Nat.le_refl _))); have KP := hid (show Kp r w w2 from KP.out.trans (Kp.trans (Kp.of_bw bq) hk2)); have R := hid hr2; have L := hid hl2; clear hn2 hr2 hk2 hl2)
  | fail)
 all_goals go_ret
 all_goals exact ⟨_, _, rfl, N.out, R.out, KP.out, L.out⟩

set_option maxRecDepth 100000 in
set_option maxHeartbeats 8000000 in
theorem stmt_plain (i0 : dIs T s ⟨#[123]⟩ = false) (i1 : dIs T s ⟨#[105, 102]⟩ = false) (i2 : dIs T s ⟨#[102, 110]⟩ = false) (i3 : dIs T s ⟨#[118, 97, 114]⟩ = false) (i4 : dIs T s ⟨#[119, 104, 105, 108, 101]⟩ = false) (i5 : dIs T s ⟨#[98, 114, 101, 97, 107]⟩ = false) (i6 : dIs T s ⟨#[99, 111, 110, 116, 105, 110, 117, 101]⟩ = false) (i7 : dIs T s ⟨#[114, 101, 116, 117, 114, 110]⟩ = false) (i8 : dIs T s ⟨#[116, 104, 114, 111, 119]⟩ = false) (i9 : dIs T s ⟨#[116, 114, 121]⟩ = false) (HV : ∀ w1 : World, RdM w1 r T o s → Calls Tryd.prog 51 #[.pointer (some ⟨r, 0, none⟩)] w1 (DG w1 r T o l s')) (hr : RdM w r T o s) : Calls Tryd.prog 21 #[.pointer (some ⟨r, 0, none⟩)] w (DG w r T o l s') := by
 have HR := hid hr
 have hrl := hr.lt
 have HAT := hid (fun w1 (hw : Bw w w1) => dat_any (hr.bw hw))
 have i0 := hid i0
 have i1 := hid i1
 have i2 := hid i2
 have i3 := hid i3
 have i4 := hid i4
 have i5 := hid i5
 have i6 := hid i6
 have i7 := hid i7
 have i8 := hid i8
 have i9 := hid i9
 have HV := hid HV
 clear hr
 unfold DG at *
 generalize dAt T s = p0 at *
 go_enter Tryd.func21, Tryd.ntmps21
 go_wp2_with (first
  | (go_at_call 41; (fail_if_success (have _g := B1)); refine (HAT.out _ (Bw.refl _)).mono ?_; rintro e wa ⟨rfl, hb1⟩; have B1 := hid hb1; have hra : w.heap.size ≤ wa.heap.size := hb1.size; have R := hid (HR.out.bw hb1); have KP := hid (Kp.of_bw (r := r) hb1); clear hb1)
  | (go_at_call 42; (fail_if_success (have _g := m0)); have m0 := hid trivial; refine (is_no ⟨#[123]⟩ (R.out.bw bq) i0.out).mono ?_; rintro e w1 ⟨rfl, hr1, hk1⟩; have KP := hid (show Kp r w w1 from KP.out.trans (Kp.trans (Kp.of_bw bq) hk1)); have R := hid hr1; have P := hid (show Blk w1 wa.heap.size #[.int .i64 0, .int .i64 0, .string ⟨#[]⟩, .int .i64 0, .int .i64 p0] 43 from (Blk.new wa _ _).kp hk1 (by omega)); have ul := P.out.lt; have uc := P.out.cell; have uf := P.out.free; have ur : r < w1.heap.size := R.out.lt; clear hr1 hk1)
  | (go_at_call 42; have _g := m0; clear _g; (fail_if_success (have _g := m1)); have m1 := hid trivial; refine (is_no ⟨#[105, 102]⟩ (R.out.bw bq) i1.out).mono ?_; clear ul uc uf ur; rintro e w1 ⟨rfl, hr1, hk1⟩; have KP := hid (show Kp r w w1 from KP.out.trans (Kp.trans (Kp.of_bw bq) hk1)); have P := hid (show Blk w1 wa.heap.size #[.int .i64 0, .int .i64 0, .string ⟨#[]⟩, .int .i64 0, .int .i64 p0] 43 from P.out.kp (Kp.trans (Kp.of_bw bq) hk1) (by omega)); have R := hid hr1; have ul := P.out.lt; have uc := P.out.cell; have uf := P.out.free; have ur : r < w1.heap.size := R.out.lt; clear hr1 hk1)
  | fail)
 refine wp_region_W (fun _ => True) (fun j => if j == 1 then 0 else 1) (by kernel_rfl) ?_
 refine tkW (i := 0) (oi := oDst0) (v := ?_) rfl (Or.inl ⟨by rfl, fun w _ => ?_⟩) ?_
 rotate_left
 ·(go_simp; first | done | with_reducible rfl)
 try simp only [oDst0, Act.put, sqA, sqZ, sqS]
 refine wpAnyW_ready (rs := [1]) (by kernel_rfl) (by simp) ?_
 refine (AllReadyW.cons (o := oDst1) rfl (fun K hK => ?_) AllReadyW.nil)
 go_simp
 have m2 := hid trivial
 refine (is_no ⟨#[102, 110]⟩ (R.out.bw bq) i2.out).mono ?_
 clear ul uc uf ur
 rintro e w1 ⟨he1, hr1, hk1⟩
 subst he1
 have KP := hid (show Kp r w w1 from KP.out.trans (Kp.trans (Kp.of_bw bq) hk1))
 have P := hid (show Blk w1 wa.heap.size #[.int .i64 0, .int .i64 0, .string ⟨#[]⟩, .int .i64 0, .int .i64 p0] 43 from P.out.kp (Kp.trans (Kp.of_bw bq) hk1) (by omega))
 have R := hid hr1
 have ul := P.out.lt
 have uc := P.out.cell
 have uf := P.out.free
 have ur : r < w1.heap.size := R.out.lt
 clear hr1 hk1
 refine hK.out _ _ trivial ?_
 clear hK K
 try simp only [oDst1, Act.put, sqA, sqZ, sqS]
 refine tkW (i := 2) (oi := oDst2) (v := ?_) rfl (Or.inl ⟨by rfl, fun w _ => ?_⟩) ?_
 rotate_left
 ·(go_simp; first | done | with_reducible rfl)
 try simp only [oDst2, Act.put, sqA, sqZ, sqS]
 refine tkW (i := 3) (oi := oDst3) (v := undef) rfl (Or.inr ⟨by rfl, rfl⟩) ?_
 try simp only [oDst3, Act.put, sqA, sqZ, sqS]
 refine tkW (i := 4) (oi := oDst4) (v := undef) rfl (Or.inr ⟨by rfl, rfl⟩) ?_
 try simp only [oDst4, Act.put, sqA, sqZ, sqS]
 refine tkW (i := 5) (oi := oDst5) (v := undef) rfl (Or.inr ⟨by rfl, rfl⟩) ?_
 try simp only [oDst5, Act.put, sqA, sqZ, sqS]
 refine tkW (i := 6) (oi := oDst6) (v := undef) rfl (Or.inr ⟨by rfl, rfl⟩) ?_
 try simp only [oDst6, Act.put, sqA, sqZ, sqS]
 refine tkW (i := 7) (oi := oDst7) (v := undef) rfl (Or.inr ⟨by rfl, rfl⟩) ?_
 try simp only [oDst7, Act.put, sqA, sqZ, sqS]
 refine tkW (i := 8) (oi := oDst8) (v := undef) rfl (Or.inr ⟨by rfl, rfl⟩) ?_
 try simp only [oDst8, Act.put, sqA, sqZ, sqS]
 refine tkW (i := 9) (oi := oDst9) (v := undef) rfl (Or.inr ⟨by rfl, rfl⟩) ?_
 try simp only [oDst9, Act.put, sqA, sqZ, sqS]
 refine tkW (i := 10) (oi := oDst10) (v := undef) rfl (Or.inr ⟨by rfl, rfl⟩) ?_
 try simp only [oDst10, Act.put, sqA, sqZ, sqS]
 refine tkW (i := 11) (oi := oDst11) (v := undef) rfl (Or.inr ⟨by rfl, rfl⟩) ?_
 try simp only [oDst11, Act.put, sqA, sqZ, sqS]
 refine tkW (i := 12) (oi := oDst12) (v := undef) rfl (Or.inr ⟨by rfl, rfl⟩) ?_
 try simp only [oDst12, Act.put, sqA, sqZ, sqS]
 refine tkW (i := 13) (oi := oDst13) (v := undef) rfl (Or.inr ⟨by rfl, rfl⟩) ?_
 try simp only [oDst13, Act.put, sqA, sqZ, sqS]
 refine tkW (i := 14) (oi := oDst14) (v := undef) rfl (Or.inr ⟨by rfl, rfl⟩) ?_
 try simp only [oDst14, Act.put, sqA, sqZ, sqS]
 refine tkW (i := 15) (oi := oDst15) (v := undef) rfl (Or.inr ⟨by rfl, rfl⟩) ?_
 try simp only [oDst15, Act.put, sqA, sqZ, sqS]
 refine tkW (i := 16) (oi := oDst16) (v := ?_) rfl (Or.inl ⟨by rfl, fun w _ => ?_⟩) ?_
 rotate_left
 ·(go_simp; first | done | with_reducible rfl)
 try simp only [oDst16, Act.put, sqA, sqZ, sqS]
 refine tkW (i := 17) (oi := oDst17) (v := ?_) rfl (Or.inl ⟨by rfl, fun w _ => ?_⟩) ?_
 rotate_left
 ·(go_simp; first | done | with_reducible rfl)
 try simp only [oDst17, Act.put, sqA, sqZ, sqS]
 refine wpAnyW_done (by kernel_rfl) ?_ _
 all_goals go_wp2_with (first
  | (go_at_call 47; have _g := m2; clear _g; (fail_if_success (have _g := m3)); have m3 := hid trivial; refine (eat_no ⟨#[118, 97, 114]⟩ (R.out.bw bq) i3.out).mono ?_; clear ul uc uf ur; rintro e w1 ⟨rfl, hr1, hk1⟩; have KP := hid (show Kp r w w1 from KP.out.trans (Kp.trans (Kp.of_bw bq) hk1)); have P := hid (show Blk w1 wa.heap.size #[.int .i64 0, .int .i64 0, .string ⟨#[]⟩, .int .i64 0, .int .i64 p0] 43 from P.out.kp (Kp.trans (Kp.of_bw bq) hk1) (by omega)); have R := hid hr1; have ul := P.out.lt; have uc := P.out.cell; have uf := P.out.free; have ur : r < w1.heap.size := R.out.lt; clear hr1 hk1)
  | (go_at_call 47; have _g := m3; clear _g; (fail_if_success (have _g := m4)); have m4 := hid trivial; refine (eat_no ⟨#[119, 104, 105, 108, 101]⟩ (R.out.bw bq) i4.out).mono ?_; clear ul uc uf ur; rintro e w1 ⟨rfl, hr1, hk1⟩; have KP := hid (show Kp r w w1 from KP.out.trans (Kp.trans (Kp.of_bw bq) hk1)); have P := hid (show Blk w1 wa.heap.size #[.int .i64 0, .int .i64 0, .string ⟨#[]⟩, .int .i64 0, .int .i64 p0] 43 from P.out.kp (Kp.trans (Kp.of_bw bq) hk1) (by omega)); have R := hid hr1; have ul := P.out.lt; have uc := P.out.cell; have uf := P.out.free; have ur : r < w1.heap.size := R.out.lt; clear hr1 hk1)
  | (go_at_call 47; have _g := m4; clear _g; (fail_if_success (have _g := m5)); have m5 := hid trivial; refine (eat_no ⟨#[98, 114, 101, 97, 107]⟩ (R.out.bw bq) i5.out).mono ?_; clear ul uc uf ur; rintro e w1 ⟨rfl, hr1, hk1⟩; have KP := hid (show Kp r w w1 from KP.out.trans (Kp.trans (Kp.of_bw bq) hk1)); have P := hid (show Blk w1 wa.heap.size #[.int .i64 0, .int .i64 0, .string ⟨#[]⟩, .int .i64 0, .int .i64 p0] 43 from P.out.kp (Kp.trans (Kp.of_bw bq) hk1) (by omega)); have R := hid hr1; have ul := P.out.lt; have uc := P.out.cell; have uf := P.out.free; have ur : r < w1.heap.size := R.out.lt; clear hr1 hk1)
  | (go_at_call 47; have _g := m5; clear _g; (fail_if_success (have _g := m6)); have m6 := hid trivial; refine (eat_no ⟨#[99, 111, 110, 116, 105, 110, 117, 101]⟩ (R.out.bw bq) i6.out).mono ?_; clear ul uc uf ur; rintro e w1 ⟨rfl, hr1, hk1⟩; have KP := hid (show Kp r w w1 from KP.out.trans (Kp.trans (Kp.of_bw bq) hk1)); have P := hid (show Blk w1 wa.heap.size #[.int .i64 0, .int .i64 0, .string ⟨#[]⟩, .int .i64 0, .int .i64 p0] 43 from P.out.kp (Kp.trans (Kp.of_bw bq) hk1) (by omega)); have R := hid hr1; have ul := P.out.lt; have uc := P.out.cell; have uf := P.out.free; have ur : r < w1.heap.size := R.out.lt; clear hr1 hk1)
  | (go_at_call 47; have _g := m6; clear _g; (fail_if_success (have _g := m7)); have m7 := hid trivial; refine (eat_no ⟨#[114, 101, 116, 117, 114, 110]⟩ (R.out.bw bq) i7.out).mono ?_; clear ul uc uf ur; rintro e w1 ⟨rfl, hr1, hk1⟩; have KP := hid (show Kp r w w1 from KP.out.trans (Kp.trans (Kp.of_bw bq) hk1)); have P := hid (show Blk w1 wa.heap.size #[.int .i64 0, .int .i64 0, .string ⟨#[]⟩, .int .i64 0, .int .i64 p0] 43 from P.out.kp (Kp.trans (Kp.of_bw bq) hk1) (by omega)); have R := hid hr1; have ul := P.out.lt; have uc := P.out.cell; have uf := P.out.free; have ur : r < w1.heap.size := R.out.lt; clear hr1 hk1)
  | (go_at_call 47; have _g := m7; clear _g; (fail_if_success (have _g := m8)); have m8 := hid trivial; refine (eat_no ⟨#[116, 104, 114, 111, 119]⟩ (R.out.bw bq) i8.out).mono ?_; clear ul uc uf ur; rintro e w1 ⟨rfl, hr1, hk1⟩; have KP := hid (show Kp r w w1 from KP.out.trans (Kp.trans (Kp.of_bw bq) hk1)); have P := hid (show Blk w1 wa.heap.size #[.int .i64 0, .int .i64 0, .string ⟨#[]⟩, .int .i64 0, .int .i64 p0] 43 from P.out.kp (Kp.trans (Kp.of_bw bq) hk1) (by omega)); have R := hid hr1; have ul := P.out.lt; have uc := P.out.cell; have uf := P.out.free; have ur : r < w1.heap.size := R.out.lt; clear hr1 hk1)
  | (go_at_call 47; have _g := m8; clear _g; (fail_if_success (have _g := m9)); have m9 := hid trivial; refine (eat_no ⟨#[116, 114, 121]⟩ (R.out.bw bq) i9.out).mono ?_; clear ul uc uf ur; rintro e w1 ⟨rfl, hr1, hk1⟩; have KP := hid (show Kp r w w1 from KP.out.trans (Kp.trans (Kp.of_bw bq) hk1)); have P := hid (show Blk w1 wa.heap.size #[.int .i64 0, .int .i64 0, .string ⟨#[]⟩, .int .i64 0, .int .i64 p0] 43 from P.out.kp (Kp.trans (Kp.of_bw bq) hk1) (by omega)); have R := hid hr1; have ul := P.out.lt; have uc := P.out.cell; have uf := P.out.free; have ur : r < w1.heap.size := R.out.lt; clear hr1 hk1)
  | (go_at_call 51; (fail_if_success (have _g := m20)); have m20 := hid trivial; refine (HV.out _ (R.out.bw bq)).mono ?_; rintro e w2 ⟨a2, c2, rfl, hn2, hr2, hk2, hl2⟩; have N := hid (hn2.low (b' := w.heap.size) (Nat.le_trans KP.out.size (by first | (simp; done) | exact Nat.le_refl _))); have KP := hid (show Kp r w w2 from KP.out.trans (Kp.trans (Kp.of_bw bq) hk2)); have R := hid hr2; have L := hid hl2; clear hn2 hr2 hk2 hl2)
  | fail)
 all_goals go_ret
 all_goals exact ⟨_, _, rfl, N.out, R.out, KP.out, L.out⟩

set_option maxRecDepth 100000 in
set_option maxHeartbeats 8000000 in
theorem stmt_break (i0 : dIs T s ⟨#[123]⟩ = false) (i1 : dIs T s ⟨#[105, 102]⟩ = false) (i2 : dIs T s ⟨#[102, 110]⟩ = false) (i3 : dIs T s ⟨#[118, 97, 114]⟩ = false) (i4 : dIs T s ⟨#[119, 104, 105, 108, 101]⟩ = false) (y : dIs T s ⟨#[98, 114, 101, 97, 107]⟩ = true) (hr : RdM w r T o s) : Calls Tryd.prog 21 #[.pointer (some ⟨r, 0, none⟩)] w (DG w r T o (dJoin (7, 0, [], 0, dAt T s) 0 []) (dWant T (dNx s) ⟨#[59]⟩)) := by
 have HR := hid hr
 have hrl := hr.lt
 have HAT := hid (fun w1 (hw : Bw w w1) => dat_any (hr.bw hw))
 have i0 := hid i0
 have i1 := hid i1
 have i2 := hid i2
 have i3 := hid i3
 have i4 := hid i4
 have y := hid y
 have HW := hid (fun w1 (hw : RdM w1 r T o (dNx s)) => dwant_any ⟨#[59]⟩ hw)
 generalize dWant T (dNx s) ⟨#[59]⟩ = B at *
 clear hr
 unfold DG at *
 generalize dAt T s = p0 at *
 go_enter Tryd.func21, Tryd.ntmps21
 go_wp2_with (first
  | (go_at_call 41; (fail_if_success (have _g := B1)); refine (HAT.out _ (Bw.refl _)).mono ?_; rintro e wa ⟨rfl, hb1⟩; have B1 := hid hb1; have hra : w.heap.size ≤ wa.heap.size := hb1.size; have R := hid (HR.out.bw hb1); have KP := hid (Kp.of_bw (r := r) hb1); clear hb1)
  | (go_at_call 42; (fail_if_success (have _g := m0)); have m0 := hid trivial; refine (is_no ⟨#[123]⟩ (R.out.bw bq) i0.out).mono ?_; rintro e w1 ⟨rfl, hr1, hk1⟩; have KP := hid (show Kp r w w1 from KP.out.trans (Kp.trans (Kp.of_bw bq) hk1)); have R := hid hr1; have P := hid (show Blk w1 wa.heap.size #[.int .i64 0, .int .i64 0, .string ⟨#[]⟩, .int .i64 0, .int .i64 p0] 43 from (Blk.new wa _ _).kp hk1 (by omega)); have ul := P.out.lt; have uc := P.out.cell; have uf := P.out.free; have ur : r < w1.heap.size := R.out.lt; clear hr1 hk1)
  | (go_at_call 42; have _g := m0; clear _g; (fail_if_success (have _g := m1)); have m1 := hid trivial; refine (is_no ⟨#[105, 102]⟩ (R.out.bw bq) i1.out).mono ?_; clear ul uc uf ur; rintro e w1 ⟨rfl, hr1, hk1⟩; have KP := hid (show Kp r w w1 from KP.out.trans (Kp.trans (Kp.of_bw bq) hk1)); have P := hid (show Blk w1 wa.heap.size #[.int .i64 0, .int .i64 0, .string ⟨#[]⟩, .int .i64 0, .int .i64 p0] 43 from P.out.kp (Kp.trans (Kp.of_bw bq) hk1) (by omega)); have R := hid hr1; have ul := P.out.lt; have uc := P.out.cell; have uf := P.out.free; have ur : r < w1.heap.size := R.out.lt; clear hr1 hk1)
  | fail)
 refine wp_region_W (fun _ => True) (fun j => if j == 1 then 0 else 1) (by kernel_rfl) ?_
 refine tkW (i := 0) (oi := oDst0) (v := ?_) rfl (Or.inl ⟨by rfl, fun w _ => ?_⟩) ?_
 rotate_left
 ·(go_simp; first | done | with_reducible rfl)
 try simp only [oDst0, Act.put, sqA, sqZ, sqS]
 refine wpAnyW_ready (rs := [1]) (by kernel_rfl) (by simp) ?_
 refine (AllReadyW.cons (o := oDst1) rfl (fun K hK => ?_) AllReadyW.nil)
 go_simp
 have m2 := hid trivial
 refine (is_no ⟨#[102, 110]⟩ (R.out.bw bq) i2.out).mono ?_
 clear ul uc uf ur
 rintro e w1 ⟨he1, hr1, hk1⟩
 subst he1
 have KP := hid (show Kp r w w1 from KP.out.trans (Kp.trans (Kp.of_bw bq) hk1))
 have P := hid (show Blk w1 wa.heap.size #[.int .i64 0, .int .i64 0, .string ⟨#[]⟩, .int .i64 0, .int .i64 p0] 43 from P.out.kp (Kp.trans (Kp.of_bw bq) hk1) (by omega))
 have R := hid hr1
 have ul := P.out.lt
 have uc := P.out.cell
 have uf := P.out.free
 have ur : r < w1.heap.size := R.out.lt
 clear hr1 hk1
 refine hK.out _ _ trivial ?_
 clear hK K
 try simp only [oDst1, Act.put, sqA, sqZ, sqS]
 refine tkW (i := 2) (oi := oDst2) (v := ?_) rfl (Or.inl ⟨by rfl, fun w _ => ?_⟩) ?_
 rotate_left
 ·(go_simp; first | done | with_reducible rfl)
 try simp only [oDst2, Act.put, sqA, sqZ, sqS]
 refine tkW (i := 3) (oi := oDst3) (v := undef) rfl (Or.inr ⟨by rfl, rfl⟩) ?_
 try simp only [oDst3, Act.put, sqA, sqZ, sqS]
 refine tkW (i := 4) (oi := oDst4) (v := undef) rfl (Or.inr ⟨by rfl, rfl⟩) ?_
 try simp only [oDst4, Act.put, sqA, sqZ, sqS]
 refine tkW (i := 5) (oi := oDst5) (v := undef) rfl (Or.inr ⟨by rfl, rfl⟩) ?_
 try simp only [oDst5, Act.put, sqA, sqZ, sqS]
 refine tkW (i := 6) (oi := oDst6) (v := undef) rfl (Or.inr ⟨by rfl, rfl⟩) ?_
 try simp only [oDst6, Act.put, sqA, sqZ, sqS]
 refine tkW (i := 7) (oi := oDst7) (v := undef) rfl (Or.inr ⟨by rfl, rfl⟩) ?_
 try simp only [oDst7, Act.put, sqA, sqZ, sqS]
 refine tkW (i := 8) (oi := oDst8) (v := undef) rfl (Or.inr ⟨by rfl, rfl⟩) ?_
 try simp only [oDst8, Act.put, sqA, sqZ, sqS]
 refine tkW (i := 9) (oi := oDst9) (v := undef) rfl (Or.inr ⟨by rfl, rfl⟩) ?_
 try simp only [oDst9, Act.put, sqA, sqZ, sqS]
 refine tkW (i := 10) (oi := oDst10) (v := undef) rfl (Or.inr ⟨by rfl, rfl⟩) ?_
 try simp only [oDst10, Act.put, sqA, sqZ, sqS]
 refine tkW (i := 11) (oi := oDst11) (v := undef) rfl (Or.inr ⟨by rfl, rfl⟩) ?_
 try simp only [oDst11, Act.put, sqA, sqZ, sqS]
 refine tkW (i := 12) (oi := oDst12) (v := undef) rfl (Or.inr ⟨by rfl, rfl⟩) ?_
 try simp only [oDst12, Act.put, sqA, sqZ, sqS]
 refine tkW (i := 13) (oi := oDst13) (v := undef) rfl (Or.inr ⟨by rfl, rfl⟩) ?_
 try simp only [oDst13, Act.put, sqA, sqZ, sqS]
 refine tkW (i := 14) (oi := oDst14) (v := undef) rfl (Or.inr ⟨by rfl, rfl⟩) ?_
 try simp only [oDst14, Act.put, sqA, sqZ, sqS]
 refine tkW (i := 15) (oi := oDst15) (v := undef) rfl (Or.inr ⟨by rfl, rfl⟩) ?_
 try simp only [oDst15, Act.put, sqA, sqZ, sqS]
 refine tkW (i := 16) (oi := oDst16) (v := ?_) rfl (Or.inl ⟨by rfl, fun w _ => ?_⟩) ?_
 rotate_left
 ·(go_simp; first | done | with_reducible rfl)
 try simp only [oDst16, Act.put, sqA, sqZ, sqS]
 refine tkW (i := 17) (oi := oDst17) (v := ?_) rfl (Or.inl ⟨by rfl, fun w _ => ?_⟩) ?_
 rotate_left
 ·(go_simp; first | done | with_reducible rfl)
 try simp only [oDst17, Act.put, sqA, sqZ, sqS]
 refine wpAnyW_done (by kernel_rfl) ?_ _
 all_goals go_wp2_with (first
  | (go_at_call 47; have _g := m2; clear _g; (fail_if_success (have _g := m3)); have m3 := hid trivial; refine (eat_no ⟨#[118, 97, 114]⟩ (R.out.bw bq) i3.out).mono ?_; clear ul uc uf ur; rintro e w1 ⟨rfl, hr1, hk1⟩; have KP := hid (show Kp r w w1 from KP.out.trans (Kp.trans (Kp.of_bw bq) hk1)); have P := hid (show Blk w1 wa.heap.size #[.int .i64 0, .int .i64 0, .string ⟨#[]⟩, .int .i64 0, .int .i64 p0] 43 from P.out.kp (Kp.trans (Kp.of_bw bq) hk1) (by omega)); have R := hid hr1; have ul := P.out.lt; have uc := P.out.cell; have uf := P.out.free; have ur : r < w1.heap.size := R.out.lt; clear hr1 hk1)
  | (go_at_call 47; have _g := m3; clear _g; (fail_if_success (have _g := m4)); have m4 := hid trivial; refine (eat_no ⟨#[119, 104, 105, 108, 101]⟩ (R.out.bw bq) i4.out).mono ?_; clear ul uc uf ur; rintro e w1 ⟨rfl, hr1, hk1⟩; have KP := hid (show Kp r w w1 from KP.out.trans (Kp.trans (Kp.of_bw bq) hk1)); have P := hid (show Blk w1 wa.heap.size #[.int .i64 0, .int .i64 0, .string ⟨#[]⟩, .int .i64 0, .int .i64 p0] 43 from P.out.kp (Kp.trans (Kp.of_bw bq) hk1) (by omega)); have R := hid hr1; have ul := P.out.lt; have uc := P.out.cell; have uf := P.out.free; have ur : r < w1.heap.size := R.out.lt; clear hr1 hk1)
  | (go_at_call 47; have _g := m4; clear _g; (fail_if_success (have _g := m5)); have m5 := hid trivial; refine (eat_yes ⟨#[98, 114, 101, 97, 107]⟩ (R.out.bw bq) y.out).mono ?_; clear ul uc uf ur; rintro e w1 ⟨rfl, hr1, hk1⟩; have KP := hid (show Kp r w w1 from KP.out.trans (Kp.trans (Kp.of_bw bq) hk1)); have P := hid (show Blk w1 wa.heap.size #[.int .i64 0, .int .i64 0, .string ⟨#[]⟩, .int .i64 0, .int .i64 p0] 43 from P.out.kp (Kp.trans (Kp.of_bw bq) hk1) (by omega)); have R := hid hr1; have ul := P.out.lt; have uc := P.out.cell; have uf := P.out.free; have ur : r < w1.heap.size := R.out.lt; clear hr1 hk1)
  | (go_at_call 48; (fail_if_success (have _g := m21)); have m21 := hid trivial; refine (HW.out _ (R.out.setO P.out 0 _)).mono ?_; clear ul uc uf ur; rintro e w1 ⟨rfl, hr1, hk1⟩; have KP := hid (show Kp r w w1 from Kp.trans (KP.out.setNew hra 0 _) hk1); have P := hid (show Blk w1 wa.heap.size #[.int .i64 7, .int .i64 0, .string ⟨#[]⟩, .int .i64 0, .int .i64 p0] 43 from (P.out.set 0 _).kp hk1 (by omega)); have R := hid hr1; have ul := P.out.lt; have uc := P.out.cell; have uf := P.out.free; have ur : r < w1.heap.size := R.out.lt; clear hr1 hk1)
  | (go_at_call 22; refine (djoin_any (7, 0, [], 0, p0) 0 _ [] (Nd.nil w1 0).sl (Nat.zero_le _)).mono ?_; rintro e w9 ⟨a9, c9, rfl, hn9, hb9⟩; have N9 := hid hn9; have B9 := hid hb9; clear hn9 hb9)
  | fail)
 all_goals go_ret
 all_goals exact ⟨_, _, rfl, N9.out.low KP.out.size, R.out.bw B9.out, KP.out.bw B9.out, (show 1 ≤ 1000000 by decide)⟩

set_option maxRecDepth 100000 in
set_option maxHeartbeats 8000000 in
theorem stmt_continue (i0 : dIs T s ⟨#[123]⟩ = false) (i1 : dIs T s ⟨#[105, 102]⟩ = false) (i2 : dIs T s ⟨#[102, 110]⟩ = false) (i3 : dIs T s ⟨#[118, 97, 114]⟩ = false) (i4 : dIs T s ⟨#[119, 104, 105, 108, 101]⟩ = false) (i5 : dIs T s ⟨#[98, 114, 101, 97, 107]⟩ = false) (y : dIs T s ⟨#[99, 111, 110, 116, 105, 110, 117, 101]⟩ = true) (hr : RdM w r T o s) : Calls Tryd.prog 21 #[.pointer (some ⟨r, 0, none⟩)] w (DG w r T o (dJoin (8, 0, [], 0, dAt T s) 0 []) (dWant T (dNx s) ⟨#[59]⟩)) := by
 have HR := hid hr
 have hrl := hr.lt
 have HAT := hid (fun w1 (hw : Bw w w1) => dat_any (hr.bw hw))
 have i0 := hid i0
 have i1 := hid i1
 have i2 := hid i2
 have i3 := hid i3
 have i4 := hid i4
 have i5 := hid i5
 have y := hid y
 have HW := hid (fun w1 (hw : RdM w1 r T o (dNx s)) => dwant_any ⟨#[59]⟩ hw)
 generalize dWant T (dNx s) ⟨#[59]⟩ = B at *
 clear hr
 unfold DG at *
 generalize dAt T s = p0 at *
 go_enter Tryd.func21, Tryd.ntmps21
 go_wp2_with (first
  | (go_at_call 41; (fail_if_success (have _g := B1)); refine (HAT.out _ (Bw.refl _)).mono ?_; rintro e wa ⟨rfl, hb1⟩; have B1 := hid hb1; have hra : w.heap.size ≤ wa.heap.size := hb1.size; have R := hid (HR.out.bw hb1); have KP := hid (Kp.of_bw (r := r) hb1); clear hb1)
  | (go_at_call 42; (fail_if_success (have _g := m0)); have m0 := hid trivial; refine (is_no ⟨#[123]⟩ (R.out.bw bq) i0.out).mono ?_; rintro e w1 ⟨rfl, hr1, hk1⟩; have KP := hid (show Kp r w w1 from KP.out.trans (Kp.trans (Kp.of_bw bq) hk1)); have R := hid hr1; have P := hid (show Blk w1 wa.heap.size #[.int .i64 0, .int .i64 0, .string ⟨#[]⟩, .int .i64 0, .int .i64 p0] 43 from (Blk.new wa _ _).kp hk1 (by omega)); have ul := P.out.lt; have uc := P.out.cell; have uf := P.out.free; have ur : r < w1.heap.size := R.out.lt; clear hr1 hk1)
  | (go_at_call 42; have _g := m0; clear _g; (fail_if_success (have _g := m1)); have m1 := hid trivial; refine (is_no ⟨#[105, 102]⟩ (R.out.bw bq) i1.out).mono ?_; clear ul uc uf ur; rintro e w1 ⟨rfl, hr1, hk1⟩; have KP := hid (show Kp r w w1 from KP.out.trans (Kp.trans (Kp.of_bw bq) hk1)); have P := hid (show Blk w1 wa.heap.size #[.int .i64 0, .int .i64 0, .string ⟨#[]⟩, .int .i64 0, .int .i64 p0] 43 from P.out.kp (Kp.trans (Kp.of_bw bq) hk1) (by omega)); have R := hid hr1; have ul := P.out.lt; have uc := P.out.cell; have uf := P.out.free; have ur : r < w1.heap.size := R.out.lt; clear hr1 hk1)
  | fail)
 refine wp_region_W (fun _ => True) (fun j => if j == 1 then 0 else 1) (by kernel_rfl) ?_
 refine tkW (i := 0) (oi := oDst0) (v := ?_) rfl (Or.inl ⟨by rfl, fun w _ => ?_⟩) ?_
 rotate_left
 ·(go_simp; first | done | with_reducible rfl)
 try simp only [oDst0, Act.put, sqA, sqZ, sqS]
 refine wpAnyW_ready (rs := [1]) (by kernel_rfl) (by simp) ?_
 refine (AllReadyW.cons (o := oDst1) rfl (fun K hK => ?_) AllReadyW.nil)
 go_simp
 have m2 := hid trivial
 refine (is_no ⟨#[102, 110]⟩ (R.out.bw bq) i2.out).mono ?_
 clear ul uc uf ur
 rintro e w1 ⟨he1, hr1, hk1⟩
 subst he1
 have KP := hid (show Kp r w w1 from KP.out.trans (Kp.trans (Kp.of_bw bq) hk1))
 have P := hid (show Blk w1 wa.heap.size #[.int .i64 0, .int .i64 0, .string ⟨#[]⟩, .int .i64 0, .int .i64 p0] 43 from P.out.kp (Kp.trans (Kp.of_bw bq) hk1) (by omega))
 have R := hid hr1
 have ul := P.out.lt
 have uc := P.out.cell
 have uf := P.out.free
 have ur : r < w1.heap.size := R.out.lt
 clear hr1 hk1
 refine hK.out _ _ trivial ?_
 clear hK K
 try simp only [oDst1, Act.put, sqA, sqZ, sqS]
 refine tkW (i := 2) (oi := oDst2) (v := ?_) rfl (Or.inl ⟨by rfl, fun w _ => ?_⟩) ?_
 rotate_left
 ·(go_simp; first | done | with_reducible rfl)
 try simp only [oDst2, Act.put, sqA, sqZ, sqS]
 refine tkW (i := 3) (oi := oDst3) (v := undef) rfl (Or.inr ⟨by rfl, rfl⟩) ?_
 try simp only [oDst3, Act.put, sqA, sqZ, sqS]
 refine tkW (i := 4) (oi := oDst4) (v := undef) rfl (Or.inr ⟨by rfl, rfl⟩) ?_
 try simp only [oDst4, Act.put, sqA, sqZ, sqS]
 refine tkW (i := 5) (oi := oDst5) (v := undef) rfl (Or.inr ⟨by rfl, rfl⟩) ?_
 try simp only [oDst5, Act.put, sqA, sqZ, sqS]
 refine tkW (i := 6) (oi := oDst6) (v := undef) rfl (Or.inr ⟨by rfl, rfl⟩) ?_
 try simp only [oDst6, Act.put, sqA, sqZ, sqS]
 refine tkW (i := 7) (oi := oDst7) (v := undef) rfl (Or.inr ⟨by rfl, rfl⟩) ?_
 try simp only [oDst7, Act.put, sqA, sqZ, sqS]
 refine tkW (i := 8) (oi := oDst8) (v := undef) rfl (Or.inr ⟨by rfl, rfl⟩) ?_
 try simp only [oDst8, Act.put, sqA, sqZ, sqS]
 refine tkW (i := 9) (oi := oDst9) (v := undef) rfl (Or.inr ⟨by rfl, rfl⟩) ?_
 try simp only [oDst9, Act.put, sqA, sqZ, sqS]
 refine tkW (i := 10) (oi := oDst10) (v := undef) rfl (Or.inr ⟨by rfl, rfl⟩) ?_
 try simp only [oDst10, Act.put, sqA, sqZ, sqS]
 refine tkW (i := 11) (oi := oDst11) (v := undef) rfl (Or.inr ⟨by rfl, rfl⟩) ?_
 try simp only [oDst11, Act.put, sqA, sqZ, sqS]
 refine tkW (i := 12) (oi := oDst12) (v := undef) rfl (Or.inr ⟨by rfl, rfl⟩) ?_
 try simp only [oDst12, Act.put, sqA, sqZ, sqS]
 refine tkW (i := 13) (oi := oDst13) (v := undef) rfl (Or.inr ⟨by rfl, rfl⟩) ?_
 try simp only [oDst13, Act.put, sqA, sqZ, sqS]
 refine tkW (i := 14) (oi := oDst14) (v := undef) rfl (Or.inr ⟨by rfl, rfl⟩) ?_
 try simp only [oDst14, Act.put, sqA, sqZ, sqS]
 refine tkW (i := 15) (oi := oDst15) (v := undef) rfl (Or.inr ⟨by rfl, rfl⟩) ?_
 try simp only [oDst15, Act.put, sqA, sqZ, sqS]
 refine tkW (i := 16) (oi := oDst16) (v := ?_) rfl (Or.inl ⟨by rfl, fun w _ => ?_⟩) ?_
 rotate_left
 ·(go_simp; first | done | with_reducible rfl)
 try simp only [oDst16, Act.put, sqA, sqZ, sqS]
 refine tkW (i := 17) (oi := oDst17) (v := ?_) rfl (Or.inl ⟨by rfl, fun w _ => ?_⟩) ?_
 rotate_left
 ·(go_simp; first | done | with_reducible rfl)
 try simp only [oDst17, Act.put, sqA, sqZ, sqS]
 refine wpAnyW_done (by kernel_rfl) ?_ _
 all_goals go_wp2_with (first
  | (go_at_call 47; have _g := m2; clear _g; (fail_if_success (have _g := m3)); have m3 := hid trivial; refine (eat_no ⟨#[118, 97, 114]⟩ (R.out.bw bq) i3.out).mono ?_; clear ul uc uf ur; rintro e w1 ⟨rfl, hr1, hk1⟩; have KP := hid (show Kp r w w1 from KP.out.trans (Kp.trans (Kp.of_bw bq) hk1)); have P := hid (show Blk w1 wa.heap.size #[.int .i64 0, .int .i64 0, .string ⟨#[]⟩, .int .i64 0, .int .i64 p0] 43 from P.out.kp (Kp.trans (Kp.of_bw bq) hk1) (by omega)); have R := hid hr1; have ul := P.out.lt; have uc := P.out.cell; have uf := P.out.free; have ur : r < w1.heap.size := R.out.lt; clear hr1 hk1)
  | (go_at_call 47; have _g := m3; clear _g; (fail_if_success (have _g := m4)); have m4 := hid trivial; refine (eat_no ⟨#[119, 104, 105, 108, 101]⟩ (R.out.bw bq) i4.out).mono ?_; clear ul uc uf ur; rintro e w1 ⟨rfl, hr1, hk1⟩; have KP := hid (show Kp r w w1 from KP.out.trans (Kp.trans (Kp.of_bw bq) hk1)); have P := hid (show Blk w1 wa.heap.size #[.int .i64 0, .int .i64 0, .string ⟨#[]⟩, .int .i64 0, .int .i64 p0] 43 from P.out.kp (Kp.trans (Kp.of_bw bq) hk1) (by omega)); have R := hid hr1; have ul := P.out.lt; have uc := P.out.cell; have uf := P.out.free; have ur : r < w1.heap.size := R.out.lt; clear hr1 hk1)
  | (go_at_call 47; have _g := m4; clear _g; (fail_if_success (have _g := m5)); have m5 := hid trivial; refine (eat_no ⟨#[98, 114, 101, 97, 107]⟩ (R.out.bw bq) i5.out).mono ?_; clear ul uc uf ur; rintro e w1 ⟨rfl, hr1, hk1⟩; have KP := hid (show Kp r w w1 from KP.out.trans (Kp.trans (Kp.of_bw bq) hk1)); have P := hid (show Blk w1 wa.heap.size #[.int .i64 0, .int .i64 0, .string ⟨#[]⟩, .int .i64 0, .int .i64 p0] 43 from P.out.kp (Kp.trans (Kp.of_bw bq) hk1) (by omega)); have R := hid hr1; have ul := P.out.lt; have uc := P.out.cell; have uf := P.out.free; have ur : r < w1.heap.size := R.out.lt; clear hr1 hk1)
  | (go_at_call 47; have _g := m5; clear _g; (fail_if_success (have _g := m6)); have m6 := hid trivial; refine (eat_yes ⟨#[99, 111, 110, 116, 105, 110, 117, 101]⟩ (R.out.bw bq) y.out).mono ?_; clear ul uc uf ur; rintro e w1 ⟨rfl, hr1, hk1⟩; have KP := hid (show Kp r w w1 from KP.out.trans (Kp.trans (Kp.of_bw bq) hk1)); have P := hid (show Blk w1 wa.heap.size #[.int .i64 0, .int .i64 0, .string ⟨#[]⟩, .int .i64 0, .int .i64 p0] 43 from P.out.kp (Kp.trans (Kp.of_bw bq) hk1) (by omega)); have R := hid hr1; have ul := P.out.lt; have uc := P.out.cell; have uf := P.out.free; have ur : r < w1.heap.size := R.out.lt; clear hr1 hk1)
  | (go_at_call 48; (fail_if_success (have _g := m21)); have m21 := hid trivial; refine (HW.out _ (R.out.setO P.out 0 _)).mono ?_; clear ul uc uf ur; rintro e w1 ⟨rfl, hr1, hk1⟩; have KP := hid (show Kp r w w1 from Kp.trans (KP.out.setNew hra 0 _) hk1); have P := hid (show Blk w1 wa.heap.size #[.int .i64 8, .int .i64 0, .string ⟨#[]⟩, .int .i64 0, .int .i64 p0] 43 from (P.out.set 0 _).kp hk1 (by omega)); have R := hid hr1; have ul := P.out.lt; have uc := P.out.cell; have uf := P.out.free; have ur : r < w1.heap.size := R.out.lt; clear hr1 hk1)
  | (go_at_call 22; refine (djoin_any (8, 0, [], 0, p0) 0 _ [] (Nd.nil w1 0).sl (Nat.zero_le _)).mono ?_; rintro e w9 ⟨a9, c9, rfl, hn9, hb9⟩; have N9 := hid hn9; have B9 := hid hb9; clear hn9 hb9)
  | fail)
 all_goals go_ret
 all_goals exact ⟨_, _, rfl, N9.out.low KP.out.size, R.out.bw B9.out, KP.out.bw B9.out, (show 1 ≤ 1000000 by decide)⟩

set_option maxRecDepth 100000 in
set_option maxHeartbeats 8000000 in
theorem stmt_throw (i0 : dIs T s ⟨#[123]⟩ = false) (i1 : dIs T s ⟨#[105, 102]⟩ = false) (i2 : dIs T s ⟨#[102, 110]⟩ = false) (i3 : dIs T s ⟨#[118, 97, 114]⟩ = false) (i4 : dIs T s ⟨#[119, 104, 105, 108, 101]⟩ = false) (i5 : dIs T s ⟨#[98, 114, 101, 97, 107]⟩ = false) (i6 : dIs T s ⟨#[99, 111, 110, 116, 105, 110, 117, 101]⟩ = false) (i7 : dIs T s ⟨#[114, 101, 116, 117, 114, 110]⟩ = false) (y : dIs T s ⟨#[116, 104, 114, 111, 119]⟩ = true) {l1 : List ANode} {s1 : DS} (HV : ∀ w1 : World, RdM w1 r T o (dNx s) → Calls Tryd.prog 49 #[.pointer (some ⟨r, 0, none⟩), .int .i64 0] w1 (DG w1 r T o l1 s1)) (HLJ : (dJoin (10, 0, [], 0, dAt T s) 1 l1).length ≤ 1000000) (hr : RdM w r T o s) : Calls Tryd.prog 21 #[.pointer (some ⟨r, 0, none⟩)] w (DG w r T o (dJoin (10, 0, [], 0, dAt T s) 1 l1) (dWant T s1 ⟨#[59]⟩)) := by
 have HR := hid hr
 have hrl := hr.lt
 have HAT := hid (fun w1 (hw : Bw w w1) => dat_any (hr.bw hw))
 have i0 := hid i0
 have i1 := hid i1
 have i2 := hid i2
 have i3 := hid i3
 have i4 := hid i4
 have i5 := hid i5
 have i6 := hid i6
 have i7 := hid i7
 have y := hid y
 have HV := hid HV
 have HLJ := hid HLJ
 have HW := hid (fun w1 (hw : RdM w1 r T o s1) => dwant_any ⟨#[59]⟩ hw)
 generalize dWant T s1 ⟨#[59]⟩ = B at *
 clear hr
 unfold DG at *
 generalize dAt T s = p0 at *
 go_enter Tryd.func21, Tryd.ntmps21
 go_wp2_with (first
  | (go_at_call 41; (fail_if_success (have _g := B1)); refine (HAT.out _ (Bw.refl _)).mono ?_; rintro e wa ⟨rfl, hb1⟩; have B1 := hid hb1; have hra : w.heap.size ≤ wa.heap.size := hb1.size; have R := hid (HR.out.bw hb1); have KP := hid (Kp.of_bw (r := r) hb1); clear hb1)
  | (go_at_call 42; (fail_if_success (have _g := m0)); have m0 := hid trivial; refine (is_no ⟨#[123]⟩ (R.out.bw bq) i0.out).mono ?_; rintro e w1 ⟨rfl, hr1, hk1⟩; have KP := hid (show Kp r w w1 from KP.out.trans (Kp.trans (Kp.of_bw bq) hk1)); have R := hid hr1; have P := hid (show Blk w1 wa.heap.size #[.int .i64 0, .int .i64 0, .string ⟨#[]⟩, .int .i64 0, .int .i64 p0] 43 from (Blk.new wa _ _).kp hk1 (by omega)); have ul := P.out.lt; have uc := P.out.cell; have uf := P.out.free; have ur : r < w1.heap.size := R.out.lt; clear hr1 hk1)
  | (go_at_call 42; have _g := m0; clear _g; (fail_if_success (have _g := m1)); have m1 := hid trivial; refine (is_no ⟨#[105, 102]⟩ (R.out.bw bq) i1.out).mono ?_; clear ul uc uf ur; rintro e w1 ⟨rfl, hr1, hk1⟩; have KP := hid (show Kp r w w1 from KP.out.trans (Kp.trans (Kp.of_bw bq) hk1)); have P := hid (show Blk w1 wa.heap.size #[.int .i64 0, .int .i64 0, .string ⟨#[]⟩, .int .i64 0, .int .i64 p0] 43 from P.out.kp (Kp.trans (Kp.of_bw bq) hk1) (by omega)); have R := hid hr1; have ul := P.out.lt; have uc := P.out.cell; have uf := P.out.free; have ur : r < w1.heap.size := R.out.lt; clear hr1 hk1)
  | fail)
 refine wp_region_W (fun _ => True) (fun j => if j == 1 then 0 else 1) (by kernel_rfl) ?_
 refine tkW (i := 0) (oi := oDst0) (v := ?_) rfl (Or.inl ⟨by rfl, fun w _ => ?_⟩) ?_
 rotate_left
 ·(go_simp; first | done | with_reducible rfl)
 try simp only [oDst0, Act.put, sqA, sqZ, sqS]
 refine wpAnyW_ready (rs := [1]) (by kernel_rfl) (by simp) ?_
 refine (AllReadyW.cons (o := oDst1) rfl (fun K hK => ?_) AllReadyW.nil)
 go_simp
 have m2 := hid trivial
 refine (is_no ⟨#[102, 110]⟩ (R.out.bw bq) i2.out).mono ?_
 clear ul uc uf ur
 rintro e w1 ⟨he1, hr1, hk1⟩
 subst he1
 have KP := hid (show Kp r w w1 from KP.out.trans (Kp.trans (Kp.of_bw bq) hk1))
 have P := hid (show Blk w1 wa.heap.size #[.int .i64 0, .int .i64 0, .string ⟨#[]⟩, .int .i64 0, .int .i64 p0] 43 from P.out.kp (Kp.trans (Kp.of_bw bq) hk1) (by omega))
 have R := hid hr1
 have ul := P.out.lt
 have uc := P.out.cell
 have uf := P.out.free
 have ur : r < w1.heap.size := R.out.lt
 clear hr1 hk1
 refine hK.out _ _ trivial ?_
 clear hK K
 try simp only [oDst1, Act.put, sqA, sqZ, sqS]
 refine tkW (i := 2) (oi := oDst2) (v := ?_) rfl (Or.inl ⟨by rfl, fun w _ => ?_⟩) ?_
 rotate_left
 ·(go_simp; first | done | with_reducible rfl)
 try simp only [oDst2, Act.put, sqA, sqZ, sqS]
 refine tkW (i := 3) (oi := oDst3) (v := undef) rfl (Or.inr ⟨by rfl, rfl⟩) ?_
 try simp only [oDst3, Act.put, sqA, sqZ, sqS]
 refine tkW (i := 4) (oi := oDst4) (v := undef) rfl (Or.inr ⟨by rfl, rfl⟩) ?_
 try simp only [oDst4, Act.put, sqA, sqZ, sqS]
 refine tkW (i := 5) (oi := oDst5) (v := undef) rfl (Or.inr ⟨by rfl, rfl⟩) ?_
 try simp only [oDst5, Act.put, sqA, sqZ, sqS]
 refine tkW (i := 6) (oi := oDst6) (v := undef) rfl (Or.inr ⟨by rfl, rfl⟩) ?_
 try simp only [oDst6, Act.put, sqA, sqZ, sqS]
 refine tkW (i := 7) (oi := oDst7) (v := undef) rfl (Or.inr ⟨by rfl, rfl⟩) ?_
 try simp only [oDst7, Act.put, sqA, sqZ, sqS]
 refine tkW (i := 8) (oi := oDst8) (v := undef) rfl (Or.inr ⟨by rfl, rfl⟩) ?_
 try simp only [oDst8, Act.put, sqA, sqZ, sqS]
 refine tkW (i := 9) (oi := oDst9) (v := undef) rfl (Or.inr ⟨by rfl, rfl⟩) ?_
 try simp only [oDst9, Act.put, sqA, sqZ, sqS]
 refine tkW (i := 10) (oi := oDst10) (v := undef) rfl (Or.inr ⟨by rfl, rfl⟩) ?_
 try simp only [oDst10, Act.put, sqA, sqZ, sqS]
 refine tkW (i := 11) (oi := oDst11) (v := undef) rfl (Or.inr ⟨by rfl, rfl⟩) ?_
 try simp only [oDst11, Act.put, sqA, sqZ, sqS]
 refine tkW (i := 12) (oi := oDst12) (v := undef) rfl (Or.inr ⟨by rfl, rfl⟩) ?_
 try simp only [oDst12, Act.put, sqA, sqZ, sqS]
 refine tkW (i := 13) (oi := oDst13) (v := undef) rfl (Or.inr ⟨by rfl, rfl⟩) ?_
 try simp only [oDst13, Act.put, sqA, sqZ, sqS]
 refine tkW (i := 14) (oi := oDst14) (v := undef) rfl (Or.inr ⟨by rfl, rfl⟩) ?_
 try simp only [oDst14, Act.put, sqA, sqZ, sqS]
 refine tkW (i := 15) (oi := oDst15) (v := undef) rfl (Or.inr ⟨by rfl, rfl⟩) ?_
 try simp only [oDst15, Act.put, sqA, sqZ, sqS]
 refine tkW (i := 16) (oi := oDst16) (v := ?_) rfl (Or.inl ⟨by rfl, fun w _ => ?_⟩) ?_
 rotate_left
 ·(go_simp; first | done | with_reducible rfl)
 try simp only [oDst16, Act.put, sqA, sqZ, sqS]
 refine tkW (i := 17) (oi := oDst17) (v := ?_) rfl (Or.inl ⟨by rfl, fun w _ => ?_⟩) ?_
 rotate_left
 ·(go_simp; first | done | with_reducible rfl)
 try simp only [oDst17, Act.put, sqA, sqZ, sqS]
 refine wpAnyW_done (by kernel_rfl) ?_ _
 all_goals go_wp2_with (first
  | (go_at_call 47; have _g := m2; clear _g; (fail_if_success (have _g := m3)); have m3 := hid trivial; refine (eat_no ⟨#[118, 97, 114]⟩ (R.out.bw bq) i3.out).mono ?_; clear ul uc uf ur; rintro e w1 ⟨rfl, hr1, hk1⟩; have KP := hid (show Kp r w w1 from KP.out.trans (Kp.trans (Kp.of_bw bq) hk1)); have P := hid (show Blk w1 wa.heap.size #[.int .i64 0, .int .i64 0, .string ⟨#[]⟩, .int .i64 0, .int .i64 p0] 43 from P.out.kp (Kp.trans (Kp.of_bw bq) hk1) (by omega)); have R := hid hr1; have ul := P.out.lt; have uc := P.out.cell; have uf := P.out.free; have ur : r < w1.heap.size := R.out.lt; clear hr1 hk1)
  | (go_at_call 47; have _g := m3; clear _g; (fail_if_success (have _g := m4)); have m4 := hid trivial; refine (eat_no ⟨#[119, 104, 105, 108, 101]⟩ (R.out.bw bq) i4.out).mono ?_; clear ul uc uf ur; rintro e w1 ⟨rfl, hr1, hk1⟩; have KP := hid (show Kp r w w1 from KP.out.trans (Kp.trans (Kp.of_bw bq) hk1)); have P := hid (show Blk w1 wa.heap.size #[.int .i64 0, .int .i64 0, .string ⟨#[]⟩, .int .i64 0, .int .i64 p0] 43 from P.out.kp (Kp.trans (Kp.of_bw bq) hk1) (by omega)); have R := hid hr1; have ul := P.out.lt; have uc := P.out.cell; have uf := P.out.free; have ur : r < w1.heap.size := R.out.lt; clear hr1 hk1)
  | (go_at_call 47; have _g := m4; clear _g; (fail_if_success (have _g := m5)); have m5 := hid trivial; refine (eat_no ⟨#[98, 114, 101, 97, 107]⟩ (R.out.bw bq) i5.out).mono ?_; clear ul uc uf ur; rintro e w1 ⟨rfl, hr1, hk1⟩; have KP := hid (show Kp r w w1 from KP.out.trans (Kp.trans (Kp.of_bw bq) hk1)); have P := hid (show Blk w1 wa.heap.size #[.int .i64 0, .int .i64 0, .string ⟨#[]⟩, .int .i64 0, .int .i64 p0] 43 from P.out.kp (Kp.trans (Kp.of_bw bq) hk1) (by omega)); have R := hid hr1; have ul := P.out.lt; have uc := P.out.cell; have uf := P.out.free; have ur : r < w1.heap.size := R.out.lt; clear hr1 hk1)
  | (go_at_call 47; have _g := m5; clear _g; (fail_if_success (have _g := m6)); have m6 := hid trivial; refine (eat_no ⟨#[99, 111, 110, 116, 105, 110, 117, 101]⟩ (R.out.bw bq) i6.out).mono ?_; clear ul uc uf ur; rintro e w1 ⟨rfl, hr1, hk1⟩; have KP := hid (show Kp r w w1 from KP.out.trans (Kp.trans (Kp.of_bw bq) hk1)); have P := hid (show Blk w1 wa.heap.size #[.int .i64 0, .int .i64 0, .string ⟨#[]⟩, .int .i64 0, .int .i64 p0] 43 from P.out.kp (Kp.trans (Kp.of_bw bq) hk1) (by omega)); have R := hid hr1; have ul := P.out.lt; have uc := P.out.cell; have uf := P.out.free; have ur : r < w1.heap.size := R.out.lt; clear hr1 hk1)
  | (go_at_call 47; have _g := m6; clear _g; (fail_if_success (have _g := m7)); have m7 := hid trivial; refine (eat_no ⟨#[114, 101, 116, 117, 114, 110]⟩ (R.out.bw bq) i7.out).mono ?_; clear ul uc uf ur; rintro e w1 ⟨rfl, hr1, hk1⟩; have KP := hid (show Kp r w w1 from KP.out.trans (Kp.trans (Kp.of_bw bq) hk1)); have P := hid (show Blk w1 wa.heap.size #[.int .i64 0, .int .i64 0, .string ⟨#[]⟩, .int .i64 0, .int .i64 p0] 43 from P.out.kp (Kp.trans (Kp.of_bw bq) hk1) (by omega)); have R := hid hr1; have ul := P.out.lt; have uc := P.out.cell; have uf := P.out.free; have ur : r < w1.heap.size := R.out.lt; clear hr1 hk1)
  | (go_at_call 47; have _g := m7; clear _g; (fail_if_success (have _g := m8)); have m8 := hid trivial; refine (eat_yes ⟨#[116, 104, 114, 111, 119]⟩ (R.out.bw bq) y.out).mono ?_; clear ul uc uf ur; rintro e w1 ⟨rfl, hr1, hk1⟩; have KP := hid (show Kp r w w1 from KP.out.trans (Kp.trans (Kp.of_bw bq) hk1)); have P := hid (show Blk w1 wa.heap.size #[.int .i64 0, .int .i64 0, .string ⟨#[]⟩, .int .i64 0, .int .i64 p0] 43 from P.out.kp (Kp.trans (Kp.of_bw bq) hk1) (by omega)); have R := hid hr1; have ul := P.out.lt; have uc := P.out.cell; have uf := P.out.free; have ur : r < w1.heap.size := R.out.lt; clear hr1 hk1)
  | (go_at_call 49; (fail_if_success (have _g := m21)); have m21 := hid trivial; refine (HV.out _ (R.out.setO P.out 0 _)).mono ?_; clear ul uc uf ur; rintro e w1 ⟨a2, c2, rfl, hn2, hr1, hk1, hl2⟩; have KP := hid (show Kp r w w1 from Kp.trans (KP.out.setNew hra 0 _) hk1); have PZ := P.out.lt; have P := hid (show Blk w1 wa.heap.size #[.int .i64 10, .int .i64 0, .string ⟨#[]⟩, .int .i64 0, .int .i64 p0] 43 from (P.out.set 0 _).kp hk1 (by omega)); have N := hid (hn2.low (b' := wa.heap.size + 1) (by first | omega | (simp only [World.size_setCell]; omega) | (simp; omega))); have L := hid hl2; clear hn2 hl2; have R := hid hr1; have ul := P.out.lt; have uc := P.out.cell; have uf := P.out.free; have ur : r < w1.heap.size := R.out.lt; clear hr1 hk1)
  | (go_at_call 48; have _g := m21; clear _g; (fail_if_success (have _g := m22)); have m22 := hid trivial; refine (HW.out _ (R.out.bw bq)).mono ?_; clear ul uc uf ur; rintro e w1 ⟨rfl, hr1, hk1⟩; have KP := hid (show Kp r w w1 from KP.out.trans (Kp.trans (Kp.of_bw bq) hk1)); have P := hid (show Blk w1 wa.heap.size #[.int .i64 10, .int .i64 0, .string ⟨#[]⟩, .int .i64 0, .int .i64 p0] 43 from P.out.kp (Kp.trans (Kp.of_bw bq) hk1) (by omega)); have N := hid (N.out.kp (Kp.trans (Kp.of_bw bq) hk1) (by omega)); have R := hid hr1; have ul := P.out.lt; have uc := P.out.cell; have uf := P.out.free; have ur : r < w1.heap.size := R.out.lt; clear hr1 hk1)
  | (go_at_call 22; refine (djoin_any (10, 0, [], 0, p0) 1 _ l1 N.out.sl (by have := L.out; omega)).mono ?_; rintro e w9 ⟨a9, c9, rfl, hn9, hb9⟩; have N9 := hid hn9; have B9 := hid hb9; clear hn9 hb9)
  | fail)
 all_goals go_ret
 all_goals exact ⟨_, _, rfl, N9.out.low KP.out.size, R.out.bw B9.out, KP.out.bw B9.out, HLJ.out⟩

set_option maxRecDepth 100000 in
set_option maxHeartbeats 8000000 in
theorem stmt_ret0 (i0 : dIs T s ⟨#[123]⟩ = false) (i1 : dIs T s ⟨#[105, 102]⟩ = false) (i2 : dIs T s ⟨#[102, 110]⟩ = false) (i3 : dIs T s ⟨#[118, 97, 114]⟩ = false) (i4 : dIs T s ⟨#[119, 104, 105, 108, 101]⟩ = false) (i5 : dIs T s ⟨#[98, 114, 101, 97, 107]⟩ = false) (i6 : dIs T s ⟨#[99, 111, 110, 116, 105, 110, 117, 101]⟩ = false) (y : dIs T s ⟨#[114, 101, 116, 117, 114, 110]⟩ = true) (y2 : dIs T (dNx s) ⟨#[59]⟩ = true) (hr : RdM w r T o s) : Calls Tryd.prog 21 #[.pointer (some ⟨r, 0, none⟩)] w (DG w r T o (dJoin (9, 0, [], 0, dAt T s) 0 []) (dNx (dNx s))) := by
 have HR := hid hr
 have hrl := hr.lt
 have HAT := hid (fun w1 (hw : Bw w w1) => dat_any (hr.bw hw))
 have i0 := hid i0
 have i1 := hid i1
 have i2 := hid i2
 have i3 := hid i3
 have i4 := hid i4
 have i5 := hid i5
 have i6 := hid i6
 have y := hid y
 have HW := hid (fun w1 (hw : RdM w1 r T o (dNx s)) => eat_yes ⟨#[59]⟩ hw y2)
 clear y2
 clear hr
 unfold DG at *
 generalize dAt T s = p0 at *
 go_enter Tryd.func21, Tryd.ntmps21
 go_wp2_with (first
  | (go_at_call 41; (fail_if_success (have _g := B1)); refine (HAT.out _ (Bw.refl _)).mono ?_; rintro e wa ⟨rfl, hb1⟩; have B1 := hid hb1; have hra : w.heap.size ≤ wa.heap.size := hb1.size; have R := hid (HR.out.bw hb1); have KP := hid (Kp.of_bw (r := r) hb1); clear hb1)
  | (go_at_call 42; (fail_if_success (have _g := m0)); have m0 := hid trivial; refine (is_no ⟨#[123]⟩ (R.out.bw bq) i0.out).mono ?_; rintro e w1 ⟨rfl, hr1, hk1⟩; have KP := hid (show Kp r w w1 from KP.out.trans (Kp.trans (Kp.of_bw bq) hk1)); have R := hid hr1; have P := hid (show Blk w1 wa.heap.size #[.int .i64 0, .int .i64 0, .string ⟨#[]⟩, .int .i64 0, .int .i64 p0] 43 from (Blk.new wa _ _).kp hk1 (by omega)); have ul := P.out.lt; have uc := P.out.cell; have uf := P.out.free; have ur : r < w1.heap.size := R.out.lt; clear hr1 hk1)
  | (go_at_call 42; have _g := m0; clear _g; (fail_if_success (have _g := m1)); have m1 := hid trivial; refine (is_no ⟨#[105, 102]⟩ (R.out.bw bq) i1.out).mono ?_; clear ul uc uf ur; rintro e w1 ⟨rfl, hr1, hk1⟩; have KP := hid (show Kp r w w1 from KP.out.trans (Kp.trans (Kp.of_bw bq) hk1)); have P := hid (show Blk w1 wa.heap.size #[.int .i64 0, .int .i64 0, .string ⟨#[]⟩, .int .i64 0, .int .i64 p0] 43 from P.out.kp (Kp.trans (Kp.of_bw bq) hk1) (by omega)); have R := hid hr1; have ul := P.out.lt; have uc := P.out.cell; have uf := P.out.free; have ur : r < w1.heap.size := R.out.lt; clear hr1 hk1)
  | fail)
 refine wp_region_W (fun _ => True) (fun j => if j == 1 then 0 else 1) (by kernel_rfl) ?_
 refine tkW (i := 0) (oi := oDst0) (v := ?_) rfl (Or.inl ⟨by rfl, fun w _ => ?_⟩) ?_
 rotate_left
 ·(go_simp; first | done | with_reducible rfl)
 try simp only [oDst0, Act.put, sqA, sqZ, sqS]
 refine wpAnyW_ready (rs := [1]) (by kernel_rfl) (by simp) ?_
 refine (AllReadyW.cons (o := oDst1) rfl (fun K hK => ?_) AllReadyW.nil)
 go_simp
 have m2 := hid trivial
 refine (is_no ⟨#[102, 110]⟩ (R.out.bw bq) i2.out).mono ?_
 clear ul uc uf ur
 rintro e w1 ⟨he1, hr1, hk1⟩
 subst he1
 have KP := hid (show Kp r w w1 from KP.out.trans (Kp.trans (Kp.of_bw bq) hk1))
 have P := hid (show Blk w1 wa.heap.size #[.int .i64 0, .int .i64 0, .string ⟨#[]⟩, .int .i64 0, .int .i64 p0] 43 from P.out.kp (Kp.trans (Kp.of_bw bq) hk1) (by omega))
 have R := hid hr1
 have ul := P.out.lt
 have uc := P.out.cell
 have uf := P.out.free
 have ur : r < w1.heap.size := R.out.lt
 clear hr1 hk1
 refine hK.out _ _ trivial ?_
 clear hK K
 try simp only [oDst1, Act.put, sqA, sqZ, sqS]
 refine tkW (i := 2) (oi := oDst2) (v := ?_) rfl (Or.inl ⟨by rfl, fun w _ => ?_⟩) ?_
 rotate_left
 ·(go_simp; first | done | with_reducible rfl)
 try simp only [oDst2, Act.put, sqA, sqZ, sqS]
 refine tkW (i := 3) (oi := oDst3) (v := undef) rfl (Or.inr ⟨by rfl, rfl⟩) ?_
 try simp only [oDst3, Act.put, sqA, sqZ, sqS]
 refine tkW (i := 4) (oi := oDst4) (v := undef) rfl (Or.inr ⟨by rfl, rfl⟩) ?_
 try simp only [oDst4, Act.put, sqA, sqZ, sqS]
 refine tkW (i := 5) (oi := oDst5) (v := undef) rfl (Or.inr ⟨by rfl, rfl⟩) ?_
 try simp only [oDst5, Act.put, sqA, sqZ, sqS]
 refine tkW (i := 6) (oi := oDst6) (v := undef) rfl (Or.inr ⟨by rfl, rfl⟩) ?_
 try simp only [oDst6, Act.put, sqA, sqZ, sqS]
 refine tkW (i := 7) (oi := oDst7) (v := undef) rfl (Or.inr ⟨by rfl, rfl⟩) ?_
 try simp only [oDst7, Act.put, sqA, sqZ, sqS]
 refine tkW (i := 8) (oi := oDst8) (v := undef) rfl (Or.inr ⟨by rfl, rfl⟩) ?_
 try simp only [oDst8, Act.put, sqA, sqZ, sqS]
 refine tkW (i := 9) (oi := oDst9) (v := undef) rfl (Or.inr ⟨by rfl, rfl⟩) ?_
 try simp only [oDst9, Act.put, sqA, sqZ, sqS]
 refine tkW (i := 10) (oi := oDst10) (v := undef) rfl (Or.inr ⟨by rfl, rfl⟩) ?_
 try simp only [oDst10, Act.put, sqA, sqZ, sqS]
 refine tkW (i := 11) (oi := oDst11) (v := undef) rfl (Or.inr ⟨by rfl, rfl⟩) ?_
 try simp only [oDst11, Act.put, sqA, sqZ, sqS]
 refine tkW (i := 12) (oi := oDst12) (v := undef) rfl (Or.inr ⟨by rfl, rfl⟩) ?_
 try simp only [oDst12, Act.put, sqA, sqZ, sqS]
 refine tkW (i := 13) (oi := oDst13) (v := undef) rfl (Or.inr ⟨by rfl, rfl⟩) ?_
 try simp only [oDst13, Act.put, sqA, sqZ, sqS]
 refine tkW (i := 14) (oi := oDst14) (v := undef) rfl (Or.inr ⟨by rfl, rfl⟩) ?_
 try simp only [oDst14, Act.put, sqA, sqZ, sqS]
 refine tkW (i := 15) (oi := oDst15) (v := undef) rfl (Or.inr ⟨by rfl, rfl⟩) ?_
 try simp only [oDst15, Act.put, sqA, sqZ, sqS]
 refine tkW (i := 16) (oi := oDst16) (v := ?_) rfl (Or.inl ⟨by rfl, fun w _ => ?_⟩) ?_
 rotate_left
 ·(go_simp; first | done | with_reducible rfl)
 try simp only [oDst16, Act.put, sqA, sqZ, sqS]
 refine tkW (i := 17) (oi := oDst17) (v := ?_) rfl (Or.inl ⟨by rfl, fun w _ => ?_⟩) ?_
 rotate_left
 ·(go_simp; first | done | with_reducible rfl)
 try simp only [oDst17, Act.put, sqA, sqZ, sqS]
 refine wpAnyW_done (by kernel_rfl) ?_ _
 all_goals go_wp2_with (first
  | (go_at_call 47; have _g := m2; clear _g; (fail_if_success (have _g := m3)); have m3 := hid trivial; refine (eat_no ⟨#[118, 97, 114]⟩ (R.out.bw bq) i3.out).mono ?_; clear ul uc uf ur; rintro e w1 ⟨rfl, hr1, hk1⟩; have KP := hid (show Kp r w w1 from KP.out.trans (Kp.trans (Kp.of_bw bq) hk1)); have P := hid (show Blk w1 wa.heap.size #[.int .i64 0, .int .i64 0, .string ⟨#[]⟩, .int .i64 0, .int .i64 p0] 43 from P.out.kp (Kp.trans (Kp.of_bw bq) hk1) (by omega)); have R := hid hr1; have ul := P.out.lt; have uc := P.out.cell; have uf := P.out.free; have ur : r < w1.heap.size := R.out.lt; clear hr1 hk1)
  | (go_at_call 47; have _g := m3; clear _g; (fail_if_success (have _g := m4)); have m4 := hid trivial; refine (eat_no ⟨#[119, 104, 105, 108, 101]⟩ (R.out.bw bq) i4.out).mono ?_; clear ul uc uf ur; rintro e w1 ⟨rfl, hr1, hk1⟩; have KP := hid (show Kp r w w1 from KP.out.trans (Kp.trans (Kp.of_bw bq) hk1)); have P := hid (show Blk w1 wa.heap.size #[.int .i64 0, .int .i64 0, .string ⟨#[]⟩, .int .i64 0, .int .i64 p0] 43 from P.out.kp (Kp.trans (Kp.of_bw bq) hk1) (by omega)); have R := hid hr1; have ul := P.out.lt; have uc := P.out.cell; have uf := P.out.free; have ur : r < w1.heap.size := R.out.lt; clear hr1 hk1)
  | (go_at_call 47; have _g := m4; clear _g; (fail_if_success (have _g := m5)); have m5 := hid trivial; refine (eat_no ⟨#[98, 114, 101, 97, 107]⟩ (R.out.bw bq) i5.out).mono ?_; clear ul uc uf ur; rintro e w1 ⟨rfl, hr1, hk1⟩; have KP := hid (show Kp r w w1 from KP.out.trans (Kp.trans (Kp.of_bw bq) hk1)); have P := hid (show Blk w1 wa.heap.size #[.int .i64 0, .int .i64 0, .string ⟨#[]⟩, .int .i64 0, .int .i64 p0] 43 from P.out.kp (Kp.trans (Kp.of_bw bq) hk1) (by omega)); have R := hid hr1; have ul := P.out.lt; have uc := P.out.cell; have uf := P.out.free; have ur : r < w1.heap.size := R.out.lt; clear hr1 hk1)
  | (go_at_call 47; have _g := m5; clear _g; (fail_if_success (have _g := m6)); have m6 := hid trivial; refine (eat_no ⟨#[99, 111, 110, 116, 105, 110, 117, 101]⟩ (R.out.bw bq) i6.out).mono ?_; clear ul uc uf ur; rintro e w1 ⟨rfl, hr1, hk1⟩; have KP := hid (show Kp r w w1 from KP.out.trans (Kp.trans (Kp.of_bw bq) hk1)); have P := hid (show Blk w1 wa.heap.size #[.int .i64 0, .int .i64 0, .string ⟨#[]⟩, .int .i64 0, .int .i64 p0] 43 from P.out.kp (Kp.trans (Kp.of_bw bq) hk1) (by omega)); have R := hid hr1; have ul := P.out.lt; have uc := P.out.cell; have uf := P.out.free; have ur : r < w1.heap.size := R.out.lt; clear hr1 hk1)
  | (go_at_call 47; have _g := m6; clear _g; (fail_if_success (have _g := m7)); have m7 := hid trivial; refine (eat_yes ⟨#[114, 101, 116, 117, 114, 110]⟩ (R.out.bw bq) y.out).mono ?_; clear ul uc uf ur; rintro e w1 ⟨rfl, hr1, hk1⟩; have KP := hid (show Kp r w w1 from KP.out.trans (Kp.trans (Kp.of_bw bq) hk1)); have P := hid (show Blk w1 wa.heap.size #[.int .i64 0, .int .i64 0, .string ⟨#[]⟩, .int .i64 0, .int .i64 p0] 43 from P.out.kp (Kp.trans (Kp.of_bw bq) hk1) (by omega)); have R := hid hr1; have ul := P.out.lt; have uc := P.out.cell; have uf := P.out.free; have ur : r < w1.heap.size := R.out.lt; clear hr1 hk1)
  | (go_at_call 47; have _g := m7; clear _g; (fail_if_success (have _g := m21)); have m21 := hid trivial; refine (HW.out _ (R.out.setO P.out 0 _)).mono ?_; clear ul uc uf ur; rintro e w1 ⟨rfl, hr1, hk1⟩; have KP := hid (show Kp r w w1 from Kp.trans (KP.out.setNew hra 0 _) hk1); have P := hid (show Blk w1 wa.heap.size #[.int .i64 9, .int .i64 0, .string ⟨#[]⟩, .int .i64 0, .int .i64 p0] 43 from (P.out.set 0 _).kp hk1 (by omega)); have R := hid hr1; have ul := P.out.lt; have uc := P.out.cell; have uf := P.out.free; have ur : r < w1.heap.size := R.out.lt; clear hr1 hk1)
  | (go_at_call 22; refine (djoin_any (9, 0, [], 0, p0) 0 _ [] (Nd.nil w1 0).sl (Nat.zero_le _)).mono ?_; rintro e w9 ⟨a9, c9, rfl, hn9, hb9⟩; have N9 := hid hn9; have B9 := hid hb9; clear hn9 hb9)
  | fail)
 all_goals go_ret
 all_goals exact ⟨_, _, rfl, N9.out.low KP.out.size, R.out.bw B9.out, KP.out.bw B9.out, (show 1 ≤ 1000000 by decide)⟩

set_option maxRecDepth 100000 in
set_option maxHeartbeats 8000000 in
theorem stmt_ret1 (i0 : dIs T s ⟨#[123]⟩ = false) (i1 : dIs T s ⟨#[105, 102]⟩ = false) (i2 : dIs T s ⟨#[102, 110]⟩ = false) (i3 : dIs T s ⟨#[118, 97, 114]⟩ = false) (i4 : dIs T s ⟨#[119, 104, 105, 108, 101]⟩ = false) (i5 : dIs T s ⟨#[98, 114, 101, 97, 107]⟩ = false) (i6 : dIs T s ⟨#[99, 111, 110, 116, 105, 110, 117, 101]⟩ = false) (y : dIs T s ⟨#[114, 101, 116, 117, 114, 110]⟩ = true) {l1 : List ANode} {s1 : DS} (HV : ∀ w1 : World, RdM w1 r T o (dNx s) → Calls Tryd.prog 49 #[.pointer (some ⟨r, 0, none⟩), .int .i64 0] w1 (DG w1 r T o l1 s1)) (y2 : dIs T (dNx s) ⟨#[59]⟩ = false) (HLJ : (dJoin (9, 0, [], 0, dAt T s) 1 l1).length ≤ 1000000) (hr : RdM w r T o s) : Calls Tryd.prog 21 #[.pointer (some ⟨r, 0, none⟩)] w (DG w r T o (dJoin (9, 0, [], 0, dAt T s) 1 l1) (dWant T s1 ⟨#[59]⟩)) := by
 have HR := hid hr
 have hrl := hr.lt
 have HAT := hid (fun w1 (hw : Bw w w1) => dat_any (hr.bw hw))
 have i0 := hid i0
 have i1 := hid i1
 have i2 := hid i2
 have i3 := hid i3
 have i4 := hid i4
 have i5 := hid i5
 have i6 := hid i6
 have y := hid y
 have HV := hid HV
 have HLJ := hid HLJ
 have HE := hid (fun w1 (hw : RdM w1 r T o (dNx s)) => eat_no ⟨#[59]⟩ hw y2)
 clear y2
 have HW := hid (fun w1 (hw : RdM w1 r T o s1) => dwant_any ⟨#[59]⟩ hw)
 generalize dWant T s1 ⟨#[59]⟩ = B at *
 clear hr
 unfold DG at *
 generalize dAt T s = p0 at *
 go_enter Tryd.func21, Tryd.ntmps21
 go_wp2_with (first
  | (go_at_call 41; (fail_if_success (have _g := B1)); refine (HAT.out _ (Bw.refl _)).mono ?_; rintro e wa ⟨rfl, hb1⟩; have B1 := hid hb1; have hra : w.heap.size ≤ wa.heap.size := hb1.size; have R := hid (HR.out.bw hb1); have KP := hid (Kp.of_bw (r := r) hb1); clear hb1)
  | (go_at_call 42; (fail_if_success (have _g := m0)); have m0 := hid trivial; refine (is_no ⟨#[123]⟩ (R.out.bw bq) i0.out).mono ?_; rintro e w1 ⟨rfl, hr1, hk1⟩; have KP := hid (show Kp r w w1 from KP.out.trans (Kp.trans (Kp.of_bw bq) hk1)); have R := hid hr1; have P := hid (show Blk w1 wa.heap.size #[.int .i64 0, .int .i64 0, .string ⟨#[]⟩, .int .i64 0, .int .i64 p0] 43 from (Blk.new wa _ _).kp hk1 (by omega)); have ul := P.out.lt; have uc := P.out.cell; have uf := P.out.free; have ur : r < w1.heap.size := R.out.lt; clear hr1 hk1)
  | (go_at_call 42; have _g := m0; clear _g; (fail_if_success (have _g := m1)); have m1 := hid trivial; refine (is_no ⟨#[105, 102]⟩ (R.out.bw bq) i1.out).mono ?_; clear ul uc uf ur; rintro e w1 ⟨rfl, hr1, hk1⟩; have KP := hid (show Kp r w w1 from KP.out.trans (Kp.trans (Kp.of_bw bq) hk1)); have P := hid (show Blk w1 wa.heap.size #[.int .i64 0, .int .i64 0, .string ⟨#[]⟩, .int .i64 0, .int .i64 p0] 43 from P.out.kp (Kp.trans (Kp.of_bw bq) hk1) (by omega)); have R := hid hr1; have ul := P.out.lt; have uc := P.out.cell; have uf := P.out.free; have ur : r < w1.heap.size := R.out.lt; clear hr1 hk1)
  | fail)
 refine wp_region_W (fun _ => True) (fun j => if j == 1 then 0 else 1) (by kernel_rfl) ?_
 refine tkW (i := 0) (oi := oDst0) (v := ?_) rfl (Or.inl ⟨by rfl, fun w _ => ?_⟩) ?_
 rotate_left
 ·(go_simp; first | done | with_reducible rfl)
 try simp only [oDst0, Act.put, sqA, sqZ, sqS]
 refine wpAnyW_ready (rs := [1]) (by kernel_rfl) (by simp) ?_
 refine (AllReadyW.cons (o := oDst1) rfl (fun K hK => ?_) AllReadyW.nil)
 go_simp
 have m2 := hid trivial
 refine (is_no ⟨#[102, 110]⟩ (R.out.bw bq) i2.out).mono ?_
 clear ul uc uf ur
 rintro e w1 ⟨he1, hr1, hk1⟩
 subst he1
 have KP := hid (show Kp r w w1 from KP.out.trans (Kp.trans (Kp.of_bw bq) hk1))
 have P := hid (show Blk w1 wa.heap.size #[.int .i64 0, .int .i64 0, .string ⟨#[]⟩, .int .i64 0, .int .i64 p0] 43 from P.out.kp (Kp.trans (Kp.of_bw bq) hk1) (by omega))
 have R := hid hr1
 have ul := P.out.lt
 have uc := P.out.cell
 have uf := P.out.free
 have ur : r < w1.heap.size := R.out.lt
 clear hr1 hk1
 refine hK.out _ _ trivial ?_
 clear hK K
 try simp only [oDst1, Act.put, sqA, sqZ, sqS]
 refine tkW (i := 2) (oi := oDst2) (v := ?_) rfl (Or.inl ⟨by rfl, fun w _ => ?_⟩) ?_
 rotate_left
 ·(go_simp; first | done | with_reducible rfl)
 try simp only [oDst2, Act.put, sqA, sqZ, sqS]
 refine tkW (i := 3) (oi := oDst3) (v := undef) rfl (Or.inr ⟨by rfl, rfl⟩) ?_
 try simp only [oDst3, Act.put, sqA, sqZ, sqS]
 refine tkW (i := 4) (oi := oDst4) (v := undef) rfl (Or.inr ⟨by rfl, rfl⟩) ?_
 try simp only [oDst4, Act.put, sqA, sqZ, sqS]
 refine tkW (i := 5) (oi := oDst5) (v := undef) rfl (Or.inr ⟨by rfl, rfl⟩) ?_
 try simp only [oDst5, Act.put, sqA, sqZ, sqS]
 refine tkW (i := 6) (oi := oDst6) (v := undef) rfl (Or.inr ⟨by rfl, rfl⟩) ?_
 try simp only [oDst6, Act.put, sqA, sqZ, sqS]
 refine tkW (i := 7) (oi := oDst7) (v := undef) rfl (Or.inr ⟨by rfl, rfl⟩) ?_
 try simp only [oDst7, Act.put, sqA, sqZ, sqS]
 refine tkW (i := 8) (oi := oDst8) (v := undef) rfl (Or.inr ⟨by rfl, rfl⟩) ?_
 try simp only [oDst8, Act.put, sqA, sqZ, sqS]
 refine tkW (i := 9) (oi := oDst9) (v := undef) rfl (Or.inr ⟨by rfl, rfl⟩) ?_
 try simp only [oDst9, Act.put, sqA, sqZ, sqS]
 refine tkW (i := 10) (oi := oDst10) (v := undef) rfl (Or.inr ⟨by rfl, rfl⟩) ?_
 try simp only [oDst10, Act.put, sqA, sqZ, sqS]
 refine tkW (i := 11) (oi := oDst11) (v := undef) rfl (Or.inr ⟨by rfl, rfl⟩) ?_
 try simp only [oDst11, Act.put, sqA, sqZ, sqS]
 refine tkW (i := 12) (oi := oDst12) (v := undef) rfl (Or.inr ⟨by rfl, rfl⟩) ?_
 try simp only [oDst12, Act.put, sqA, sqZ, sqS]
 refine tkW (i := 13) (oi := oDst13) (v := undef) rfl (Or.inr ⟨by rfl, rfl⟩) ?_
 try simp only [oDst13, Act.put, sqA, sqZ, sqS]
 refine tkW (i := 14) (oi := oDst14) (v := undef) rfl (Or.inr ⟨by rfl, rfl⟩) ?_
 try simp only [oDst14, Act.put, sqA, sqZ, sqS]
 refine tkW (i := 15) (oi := oDst15) (v := undef) rfl (Or.inr ⟨by rfl, rfl⟩) ?_
 try simp only [oDst15, Act.put, sqA, sqZ, sqS]
 refine tkW (i := 16) (oi := oDst16) (v := ?_) rfl (Or.inl ⟨by rfl, fun w _ => ?_⟩) ?_
 rotate_left
 ·(go_simp; first | done | with_reducible rfl)
 try simp only [oDst16, Act.put, sqA, sqZ, sqS]
 refine tkW (i := 17) (oi := oDst17) (v := ?_) rfl (Or.inl ⟨by rfl, fun w _ => ?_⟩) ?_
 rotate_left
 ·(go_simp; first | done | with_reducible rfl)
 try simp only [oDst17, Act.put, sqA, sqZ, sqS]
 refine wpAnyW_done (by kernel_rfl) ?_ _
 all_goals go_wp2_with (first
  | (go_at_call 47; have _g := m2; clear _g; (fail_if_success (have _g := m3)); have m3 := hid trivial; refine (eat_no ⟨#[118, 97, 114]⟩ (R.out.bw bq) i3.out).mono ?_; clear ul uc uf ur; rintro e w1 ⟨rfl, hr1, hk1⟩; have KP := hid (show Kp r w w1 from KP.out.trans (Kp.trans (Kp.of_bw bq) hk1)); have P := hid (show Blk w1 wa.heap.size #[.int .i64 0, .int .i64 0, .string ⟨#[]⟩, .int .i64 0, .int .i64 p0] 43 from P.out.kp (Kp.trans (Kp.of_bw bq) hk1) (by omega)); have R := hid hr1; have ul := P.out.lt; have uc := P.out.cell; have uf := P.out.free; have ur : r < w1.heap.size := R.out.lt; clear hr1 hk1)
  | (go_at_call 47; have _g := m3; clear _g; (fail_if_success (have _g := m4)); have m4 := hid trivial; refine (eat_no ⟨#[119, 104, 105, 108, 101]⟩ (R.out.bw bq) i4.out).mono ?_; clear ul uc uf ur; rintro e w1 ⟨rfl, hr1, hk1⟩; have KP := hid (show Kp r w w1 from KP.out.trans (Kp.trans (Kp.of_bw bq) hk1)); have P := hid (show Blk w1 wa.heap.size #[.int .i64 0, .int .i64 0, .string ⟨#[]⟩, .int .i64 0, .int .i64 p0] 43 from P.out.kp (Kp.trans (Kp.of_bw bq) hk1) (by omega)); have R := hid hr1; have ul := P.out.lt; have uc := P.out.cell; have uf := P.out.free; have ur : r < w1.heap.size := R.out.lt; clear hr1 hk1)
  | (go_at_call 47; have _g := m4; clear _g; (fail_if_success (have _g := m5)); have m5 := hid trivial; refine (eat_no ⟨#[98, 114, 101, 97, 107]⟩ (R.out.bw bq) i5.out).mono ?_; clear ul uc uf ur; rintro e w1 ⟨rfl, hr1, hk1⟩; have KP := hid (show Kp r w w1 from KP.out.trans (Kp.trans (Kp.of_bw bq) hk1)); have P := hid (show Blk w1 wa.heap.size #[.int .i64 0, .int .i64 0, .string ⟨#[]⟩, .int .i64 0, .int .i64 p0] 43 from P.out.kp (Kp.trans (Kp.of_bw bq) hk1) (by omega)); have R := hid hr1; have ul := P.out.lt; have uc := P.out.cell; have uf := P.out.free; have ur : r < w1.heap.size := R.out.lt; clear hr1 hk1)
  | (go_at_call 47; have _g := m5; clear _g; (fail_if_success (have _g := m6)); have m6 := hid trivial; refine (eat_no ⟨#[99, 111, 110, 116, 105, 110, 117, 101]⟩ (R.out.bw bq) i6.out).mono ?_; clear ul uc uf ur; rintro e w1 ⟨rfl, hr1, hk1⟩; have KP := hid (show Kp r w w1 from KP.out.trans (Kp.trans (Kp.of_bw bq) hk1)); have P := hid (show Blk w1 wa.heap.size #[.int .i64 0, .int .i64 0, .string ⟨#[]⟩, .int .i64 0, .int .i64 p0] 43 from P.out.kp (Kp.trans (Kp.of_bw bq) hk1) (by omega)); have R := hid hr1; have ul := P.out.lt; have uc := P.out.cell; have uf := P.out.free; have ur : r < w1.heap.size := R.out.lt; clear hr1 hk1)
  | (go_at_call 47; have _g := m6; clear _g; (fail_if_success (have _g := m7)); have m7 := hid trivial; refine (eat_yes ⟨#[114, 101, 116, 117, 114, 110]⟩ (R.out.bw bq) y.out).mono ?_; clear ul uc uf ur; rintro e w1 ⟨rfl, hr1, hk1⟩; have KP := hid (show Kp r w w1 from KP.out.trans (Kp.trans (Kp.of_bw bq) hk1)); have P := hid (show Blk w1 wa.heap.size #[.int .i64 0, .int .i64 0, .string ⟨#[]⟩, .int .i64 0, .int .i64 p0] 43 from P.out.kp (Kp.trans (Kp.of_bw bq) hk1) (by omega)); have R := hid hr1; have ul := P.out.lt; have uc := P.out.cell; have uf := P.out.free; have ur : r < w1.heap.size := R.out.lt; clear hr1 hk1)
  | (go_at_call 47; have _g := m7; clear _g; (fail_if_success (have _g := m21)); have m21 := hid trivial; refine (HE.out _ (R.out.setO P.out 0 _)).mono ?_; clear ul uc uf ur; rintro e w1 ⟨rfl, hr1, hk1⟩; have KP := hid (show Kp r w w1 from Kp.trans (KP.out.setNew hra 0 _) hk1); have P := hid (show Blk w1 wa.heap.size #[.int .i64 9, .int .i64 0, .string ⟨#[]⟩, .int .i64 0, .int .i64 p0] 43 from (P.out.set 0 _).kp hk1 (by omega)); have R := hid hr1; have ul := P.out.lt; have uc := P.out.cell; have uf := P.out.free; have ur : r < w1.heap.size := R.out.lt; clear hr1 hk1)
  | (go_at_call 49; have _g := m21; clear _g; (fail_if_success (have _g := m22)); have m22 := hid trivial; refine (HV.out _ (R.out.bw bq)).mono ?_; clear ul uc uf ur; rintro e w1 ⟨a2, c2, rfl, hn2, hr1, hk1, hl2⟩; have KP := hid (show Kp r w w1 from KP.out.trans (Kp.trans (Kp.of_bw bq) hk1)); have PZ := P.out.lt; have P := hid (show Blk w1 wa.heap.size #[.int .i64 9, .int .i64 0, .string ⟨#[]⟩, .int .i64 0, .int .i64 p0] 43 from P.out.kp (Kp.trans (Kp.of_bw bq) hk1) (by omega)); have N := hid (hn2.low (b' := wa.heap.size + 1) (by first | omega | (simp only [World.size_setCell]; omega) | (simp; omega))); have L := hid hl2; clear hn2 hl2; have R := hid hr1; have ul := P.out.lt; have uc := P.out.cell; have uf := P.out.free; have ur : r < w1.heap.size := R.out.lt; clear hr1 hk1)
  | (go_at_call 48; have _g := m22; clear _g; (fail_if_success (have _g := m23)); have m23 := hid trivial; refine (HW.out _ (R.out.bw bq)).mono ?_; clear ul uc uf ur; rintro e w1 ⟨rfl, hr1, hk1⟩; have KP := hid (show Kp r w w1 from KP.out.trans (Kp.trans (Kp.of_bw bq) hk1)); have P := hid (show Blk w1 wa.heap.size #[.int .i64 9, .int .i64 0, .string ⟨#[]⟩, .int .i64 0, .int .i64 p0] 43 from P.out.kp (Kp.trans (Kp.of_bw bq) hk1) (by omega)); have N := hid (N.out.kp (Kp.trans (Kp.of_bw bq) hk1) (by omega)); have R := hid hr1; have ul := P.out.lt; have uc := P.out.cell; have uf := P.out.free; have ur : r < w1.heap.size := R.out.lt; clear hr1 hk1)
  | (go_at_call 22; refine (djoin_any (9, 0, [], 0, p0) 1 _ l1 N.out.sl (by have := L.out; omega)).mono ?_; rintro e w9 ⟨a9, c9, rfl, hn9, hb9⟩; have N9 := hid hn9; have B9 := hid hb9; clear hn9 hb9)
  | fail)
 all_goals go_ret
 all_goals exact ⟨_, _, rfl, N9.out.low KP.out.size, R.out.bw B9.out, KP.out.bw B9.out, HLJ.out⟩

set_option maxRecDepth 100000 in
set_option maxHeartbeats 8000000 in
theorem stmt_var (i0 : dIs T s ⟨#[123]⟩ = false) (i1 : dIs T s ⟨#[105, 102]⟩ = false) (i2 : dIs T s ⟨#[102, 110]⟩ = false) (y : dIs T s ⟨#[118, 97, 114]⟩ = true) {l1 : List ANode} {s1 : DS} (HV : ∀ w1 : World, RdM w1 r T o (dWant T (dNameS T (dNx s)) ⟨#[61]⟩) → Calls Tryd.prog 49 #[.pointer (some ⟨r, 0, none⟩), .int .i64 0] w1 (DG w1 r T o l1 s1)) (HLJ : (dJoin (3, 0, dNameT T (dNx s), 0, dAt T s) 1 l1).length ≤ 1000000) (hr : RdM w r T o s) : Calls Tryd.prog 21 #[.pointer (some ⟨r, 0, none⟩)] w (DG w r T o (dJoin (3, 0, dNameT T (dNx s), 0, dAt T s) 1 l1) (dWant T s1 ⟨#[59]⟩)) := by
 have HR := hid hr
 have hrl := hr.lt
 have HAT := hid (fun w1 (hw : Bw w w1) => dat_any (hr.bw hw))
 have i0 := hid i0
 have i1 := hid i1
 have i2 := hid i2
 have y := hid y
 have HV := hid HV
 have HLJ := hid HLJ
 have HNM := hid (fun w1 (hw : RdM w1 r T o (dNx s)) => dname_any hw)
 have HQ := hid (fun w1 (hw : RdM w1 r T o (dNameS T (dNx s))) => dwant_any ⟨#[61]⟩ hw)
 have HW := hid (fun w1 (hw : RdM w1 r T o s1) => dwant_any ⟨#[59]⟩ hw)
 generalize dWant T s1 ⟨#[59]⟩ = B at *
 generalize dWant T (dNameS T (dNx s)) ⟨#[61]⟩ = A at *
 generalize dNameS T (dNx s) = D at *
 generalize dNameT T (dNx s) = nx at *
 clear hr
 unfold DG at *
 generalize dAt T s = p0 at *
 go_enter Tryd.func21, Tryd.ntmps21
 go_wp2_with (first
  | (go_at_call 41; (fail_if_success (have _g := B1)); refine (HAT.out _ (Bw.refl _)).mono ?_; rintro e wa ⟨rfl, hb1⟩; have B1 := hid hb1; have hra : w.heap.size ≤ wa.heap.size := hb1.size; have R := hid (HR.out.bw hb1); have KP := hid (Kp.of_bw (r := r) hb1); clear hb1)
  | (go_at_call 42; (fail_if_success (have _g := m0)); have m0 := hid trivial; refine (is_no ⟨#[123]⟩ (R.out.bw bq) i0.out).mono ?_; rintro e w1 ⟨rfl, hr1, hk1⟩; have KP := hid (show Kp r w w1 from KP.out.trans (Kp.trans (Kp.of_bw bq) hk1)); have R := hid hr1; have P := hid (show Blk w1 wa.heap.size #[.int .i64 0, .int .i64 0, .string ⟨#[]⟩, .int .i64 0, .int .i64 p0] 43 from (Blk.new wa _ _).kp hk1 (by omega)); have ul := P.out.lt; have uc := P.out.cell; have uf := P.out.free; have ur : r < w1.heap.size := R.out.lt; clear hr1 hk1)
  | (go_at_call 42; have _g := m0; clear _g; (fail_if_success (have _g := m1)); have m1 := hid trivial; refine (is_no ⟨#[105, 102]⟩ (R.out.bw bq) i1.out).mono ?_; clear ul uc uf ur; rintro e w1 ⟨rfl, hr1, hk1⟩; have KP := hid (show Kp r w w1 from KP.out.trans (Kp.trans (Kp.of_bw bq) hk1)); have P := hid (show Blk w1 wa.heap.size #[.int .i64 0, .int .i64 0, .string ⟨#[]⟩, .int .i64 0, .int .i64 p0] 43 from P.out.kp (Kp.trans (Kp.of_bw bq) hk1) (by omega)); have R := hid hr1; have ul := P.out.lt; have uc := P.out.cell; have uf := P.out.free; have ur : r < w1.heap.size := R.out.lt; clear hr1 hk1)
  | fail)
 refine wp_region_W (fun _ => True) (fun j => if j == 1 then 0 else 1) (by kernel_rfl) ?_
 refine tkW (i := 0) (oi := oDst0) (v := ?_) rfl (Or.inl ⟨by rfl, fun w _ => ?_⟩) ?_
 rotate_left
 ·(go_simp; first | done | with_reducible rfl)
 try simp only [oDst0, Act.put, sqA, sqZ, sqS]
 refine wpAnyW_ready (rs := [1]) (by kernel_rfl) (by simp) ?_
 refine (AllReadyW.cons (o := oDst1) rfl (fun K hK => ?_) AllReadyW.nil)
 go_simp
 have m2 := hid trivial
 refine (is_no ⟨#[102, 110]⟩ (R.out.bw bq) i2.out).mono ?_
 clear ul uc uf ur
 rintro e w1 ⟨he1, hr1, hk1⟩
 subst he1
 have KP := hid (show Kp r w w1 from KP.out.trans (Kp.trans (Kp.of_bw bq) hk1))
 have P := hid (show Blk w1 wa.heap.size #[.int .i64 0, .int .i64 0, .string ⟨#[]⟩, .int .i64 0, .int .i64 p0] 43 from P.out.kp (Kp.trans (Kp.of_bw bq) hk1) (by omega))
 have R := hid hr1
 have ul := P.out.lt
 have uc := P.out.cell
 have uf := P.out.free
 have ur : r < w1.heap.size := R.out.lt
 clear hr1 hk1
 refine hK.out _ _ trivial ?_
 clear hK K
 try simp only [oDst1, Act.put, sqA, sqZ, sqS]
 refine tkW (i := 2) (oi := oDst2) (v := ?_) rfl (Or.inl ⟨by rfl, fun w _ => ?_⟩) ?_
 rotate_left
 ·(go_simp; first | done | with_reducible rfl)
 try simp only [oDst2, Act.put, sqA, sqZ, sqS]
 refine tkW (i := 3) (oi := oDst3) (v := undef) rfl (Or.inr ⟨by rfl, rfl⟩) ?_
 try simp only [oDst3, Act.put, sqA, sqZ, sqS]
 refine tkW (i := 4) (oi := oDst4) (v := undef) rfl (Or.inr ⟨by rfl, rfl⟩) ?_
 try simp only [oDst4, Act.put, sqA, sqZ, sqS]
 refine tkW (i := 5) (oi := oDst5) (v := undef) rfl (Or.inr ⟨by rfl, rfl⟩) ?_
 try simp only [oDst5, Act.put, sqA, sqZ, sqS]
 refine tkW (i := 6) (oi := oDst6) (v := undef) rfl (Or.inr ⟨by rfl, rfl⟩) ?_
 try simp only [oDst6, Act.put, sqA, sqZ, sqS]
 refine tkW (i := 7) (oi := oDst7) (v := undef) rfl (Or.inr ⟨by rfl, rfl⟩) ?_
 try simp only [oDst7, Act.put, sqA, sqZ, sqS]
 refine tkW (i := 8) (oi := oDst8) (v := undef) rfl (Or.inr ⟨by rfl, rfl⟩) ?_
 try simp only [oDst8, Act.put, sqA, sqZ, sqS]
 refine tkW (i := 9) (oi := oDst9) (v := undef) rfl (Or.inr ⟨by rfl, rfl⟩) ?_
 try simp only [oDst9, Act.put, sqA, sqZ, sqS]
 refine tkW (i := 10) (oi := oDst10) (v := undef) rfl (Or.inr ⟨by rfl, rfl⟩) ?_
 try simp only [oDst10, Act.put, sqA, sqZ, sqS]
 refine tkW (i := 11) (oi := oDst11) (v := undef) rfl (Or.inr ⟨by rfl, rfl⟩) ?_
 try simp only [oDst11, Act.put, sqA, sqZ, sqS]
 refine tkW (i := 12) (oi := oDst12) (v := undef) rfl (Or.inr ⟨by rfl, rfl⟩) ?_
 try simp only [oDst12, Act.put, sqA, sqZ, sqS]
 refine tkW (i := 13) (oi := oDst13) (v := undef) rfl (Or.inr ⟨by rfl, rfl⟩) ?_
 try simp only [oDst13, Act.put, sqA, sqZ, sqS]
 refine tkW (i := 14) (oi := oDst14) (v := undef) rfl (Or.inr ⟨by rfl, rfl⟩) ?_
 try simp only [oDst14, Act.put, sqA, sqZ, sqS]
 refine tkW (i := 15) (oi := oDst15) (v := undef) rfl (Or.inr ⟨by rfl, rfl⟩) ?_
 try simp only [oDst15, Act.put, sqA, sqZ, sqS]
 refine tkW (i := 16) (oi := oDst16) (v := ?_) rfl (Or.inl ⟨by rfl, fun w _ => ?_⟩) ?_
 rotate_left
 ·(go_simp; first | done | with_reducible rfl)
 try simp only [oDst16, Act.put, sqA, sqZ, sqS]
 refine tkW (i := 17) (oi := oDst17) (v := ?_) rfl (Or.inl ⟨by rfl, fun w _ => ?_⟩) ?_
 rotate_left
 ·(go_simp; first | done | with_reducible rfl)
 try simp only [oDst17, Act.put, sqA, sqZ, sqS]
 refine wpAnyW_done (by kernel_rfl) ?_ _
 all_goals go_wp2_with (first
  | (go_at_call 47; have _g := m2; clear _g; (fail_if_success (have _g := m3)); have m3 := hid trivial; refine (eat_yes ⟨#[118, 97, 114]⟩ (R.out.bw bq) y.out).mono ?_; clear ul uc uf ur; rintro e w1 ⟨rfl, hr1, hk1⟩; have KP := hid (show Kp r w w1 from KP.out.trans (Kp.trans (Kp.of_bw bq) hk1)); have P := hid (show Blk w1 wa.heap.size #[.int .i64 0, .int .i64 0, .string ⟨#[]⟩, .int .i64 0, .int .i64 p0] 43 from P.out.kp (Kp.trans (Kp.of_bw bq) hk1) (by omega)); have R := hid hr1; have ul := P.out.lt; have uc := P.out.cell; have uf := P.out.free; have ur : r < w1.heap.size := R.out.lt; clear hr1 hk1)
  | (go_at_call 45; have _g := m3; clear _g; (fail_if_success (have _g := m21)); have m21 := hid trivial; refine (HNM.out _ (R.out.bw bq)).mono ?_; clear ul uc uf ur; rintro e w1 ⟨rfl, hr1, hk1⟩; have KP := hid (show Kp r w w1 from KP.out.trans (Kp.trans (Kp.of_bw bq) hk1)); have P := hid (show Blk w1 wa.heap.size #[.int .i64 0, .int .i64 0, .string ⟨#[]⟩, .int .i64 0, .int .i64 p0] 43 from P.out.kp (Kp.trans (Kp.of_bw bq) hk1) (by omega)); have R := hid hr1; have ul := P.out.lt; have uc := P.out.cell; have uf := P.out.free; have ur : r < w1.heap.size := R.out.lt; clear hr1 hk1)
  | (go_at_call 48; have _g := m21; clear _g; (fail_if_success (have _g := m22)); have m22 := hid trivial; refine (HQ.out _ ((R.out.setO P.out 0 _).setO (P.out.set 0 _) 2 _)).mono ?_; clear ul uc uf ur; rintro e w1 ⟨rfl, hr1, hk1⟩; have KP := hid (show Kp r w w1 from Kp.trans ((KP.out.setNew hra 0 _).setNew hra 2 _) hk1); have P := hid (show Blk w1 wa.heap.size #[.int .i64 3, .int .i64 0, .string (strOfNums nx), .int .i64 0, .int .i64 p0] 43 from ((P.out.set 0 _).set 2 _).kp hk1 (by omega)); have R := hid hr1; have ul := P.out.lt; have uc := P.out.cell; have uf := P.out.free; have ur : r < w1.heap.size := R.out.lt; clear hr1 hk1)
  | (go_at_call 49; have _g := m22; clear _g; (fail_if_success (have _g := m23)); have m23 := hid trivial; refine (HV.out _ (R.out.bw bq)).mono ?_; clear ul uc uf ur; rintro e w1 ⟨a2, c2, rfl, hn2, hr1, hk1, hl2⟩; have KP := hid (show Kp r w w1 from KP.out.trans (Kp.trans (Kp.of_bw bq) hk1)); have PZ := P.out.lt; have P := hid (show Blk w1 wa.heap.size #[.int .i64 3, .int .i64 0, .string (strOfNums nx), .int .i64 0, .int .i64 p0] 43 from P.out.kp (Kp.trans (Kp.of_bw bq) hk1) (by omega)); have N := hid (hn2.low (b' := wa.heap.size + 1) (by first | omega | (simp only [World.size_setCell]; omega) | (simp; omega))); have L := hid hl2; clear hn2 hl2; have R := hid hr1; have ul := P.out.lt; have uc := P.out.cell; have uf := P.out.free; have ur : r < w1.heap.size := R.out.lt; clear hr1 hk1)
  | (go_at_call 48; have _g := m23; clear _g; (fail_if_success (have _g := m24)); have m24 := hid trivial; refine (HW.out _ (R.out.bw bq)).mono ?_; clear ul uc uf ur; rintro e w1 ⟨rfl, hr1, hk1⟩; have KP := hid (show Kp r w w1 from KP.out.trans (Kp.trans (Kp.of_bw bq) hk1)); have P := hid (show Blk w1 wa.heap.size #[.int .i64 3, .int .i64 0, .string (strOfNums nx), .int .i64 0, .int .i64 p0] 43 from P.out.kp (Kp.trans (Kp.of_bw bq) hk1) (by omega)); have N := hid (N.out.kp (Kp.trans (Kp.of_bw bq) hk1) (by omega)); have R := hid hr1; have ul := P.out.lt; have uc := P.out.cell; have uf := P.out.free; have ur : r < w1.heap.size := R.out.lt; clear hr1 hk1)
  | (go_at_call 22; refine (djoin_any (3, 0, nx, 0, p0) 1 _ l1 N.out.sl (by have := L.out; omega)).mono ?_; rintro e w9 ⟨a9, c9, rfl, hn9, hb9⟩; have N9 := hid hn9; have B9 := hid hb9; clear hn9 hb9)
  | fail)
 all_goals go_ret
 all_goals exact ⟨_, _, rfl, N9.out.low KP.out.size, R.out.bw B9.out, KP.out.bw B9.out, HLJ.out⟩

set_option maxRecDepth 100000 in
set_option maxHeartbeats 8000000 in
theorem stmt_while (i0 : dIs T s ⟨#[123]⟩ = false) (i1 : dIs T s ⟨#[105, 102]⟩ = false) (i2 : dIs T s ⟨#[102, 110]⟩ = false) (i3 : dIs T s ⟨#[118, 97, 114]⟩ = false) (y : dIs T s ⟨#[119, 104, 105, 108, 101]⟩ = true) {l1 l2 : List ANode} {s1 s2 : DS} (HV : ∀ w1 : World, RdM w1 r T o (dNx s) → Calls Tryd.prog 49 #[.pointer (some ⟨r, 0, none⟩), .int .i64 0] w1 (DG w1 r T o l1 s1)) (HB : ∀ w1 : World, RdM w1 r T o s1 → Calls Tryd.prog 43 #[.pointer (some ⟨r, 0, none⟩)] w1 (DG w1 r T o l2 s2)) (la : l1.length ≤ 1000000) (lb : l2.length ≤ 1000000) (HLJ : (dJoin (6, 0, [], 0, dAt T s) 2 (l1 ++ l2)).length ≤ 1000000) (hr : RdM w r T o s) : Calls Tryd.prog 21 #[.pointer (some ⟨r, 0, none⟩)] w (DG w r T o (dJoin (6, 0, [], 0, dAt T s) 2 (l1 ++ l2)) s2) := by
 have HR := hid hr
 have hrl := hr.lt
 have HAT := hid (fun w1 (hw : Bw w w1) => dat_any (hr.bw hw))
 have i0 := hid i0
 have i1 := hid i1
 have i2 := hid i2
 have i3 := hid i3
 have y := hid y
 have HV := hid HV
 have HB := hid HB
 have LJ := hid (show (l1 ++ l2).length ≤ 2000000 by rw [List.length_append]; omega)
 obtain ⟨J, hJ⟩ : ∃ J, l1 ++ l2 = J := ⟨_, rfl⟩
 rw [hJ] at HLJ LJ ⊢
 have HLJ := hid HLJ
 have HJ := hid hJ
 clear hJ la lb
 clear hr
 unfold DG at *
 generalize dAt T s = p0 at *
 go_enter Tryd.func21, Tryd.ntmps21
 go_wp2_with (first
  | (go_at_call 41; (fail_if_success (have _g := B1)); refine (HAT.out _ (Bw.refl _)).mono ?_; rintro e wa ⟨rfl, hb1⟩; have B1 := hid hb1; have hra : w.heap.size ≤ wa.heap.size := hb1.size; have R := hid (HR.out.bw hb1); have KP := hid (Kp.of_bw (r := r) hb1); clear hb1)
  | (go_at_call 42; (fail_if_success (have _g := m0)); have m0 := hid trivial; refine (is_no ⟨#[123]⟩ (R.out.bw bq) i0.out).mono ?_; rintro e w1 ⟨rfl, hr1, hk1⟩; have KP := hid (show Kp r w w1 from KP.out.trans (Kp.trans (Kp.of_bw bq) hk1)); have R := hid hr1; have P := hid (show Blk w1 wa.heap.size #[.int .i64 0, .int .i64 0, .string ⟨#[]⟩, .int .i64 0, .int .i64 p0] 43 from (Blk.new wa _ _).kp hk1 (by omega)); have ul := P.out.lt; have uc := P.out.cell; have uf := P.out.free; have ur : r < w1.heap.size := R.out.lt; clear hr1 hk1)
  | (go_at_call 42; have _g := m0; clear _g; (fail_if_success (have _g := m1)); have m1 := hid trivial; refine (is_no ⟨#[105, 102]⟩ (R.out.bw bq) i1.out).mono ?_; clear ul uc uf ur; rintro e w1 ⟨rfl, hr1, hk1⟩; have KP := hid (show Kp r w w1 from KP.out.trans (Kp.trans (Kp.of_bw bq) hk1)); have P := hid (show Blk w1 wa.heap.size #[.int .i64 0, .int .i64 0, .string ⟨#[]⟩, .int .i64 0, .int .i64 p0] 43 from P.out.kp (Kp.trans (Kp.of_bw bq) hk1) (by omega)); have R := hid hr1; have ul := P.out.lt; have uc := P.out.cell; have uf := P.out.free; have ur : r < w1.heap.size := R.out.lt; clear hr1 hk1)
  | fail)
 refine wp_region_W (fun _ => True) (fun j => if j == 1 then 0 else 1) (by kernel_rfl) ?_
 refine tkW (i := 0) (oi := oDst0) (v := ?_) rfl (Or.inl ⟨by rfl, fun w _ => ?_⟩) ?_
 rotate_left
 ·(go_simp; first | done | with_reducible rfl)
 try simp only [oDst0, Act.put, sqA, sqZ, sqS]
 refine wpAnyW_ready (rs := [1]) (by kernel_rfl) (by simp) ?_
 refine (AllReadyW.cons (o := oDst1) rfl (fun K hK => ?_) AllReadyW.nil)
 go_simp
 have m2 := hid trivial
 refine (is_no ⟨#[102, 110]⟩ (R.out.bw bq) i2.out).mono ?_
 clear ul uc uf ur
 rintro e w1 ⟨he1, hr1, hk1⟩
 subst he1
 have KP := hid (show Kp r w w1 from KP.out.trans (Kp.trans (Kp.of_bw bq) hk1))
 have P := hid (show Blk w1 wa.heap.size #[.int .i64 0, .int .i64 0, .string ⟨#[]⟩, .int .i64 0, .int .i64 p0] 43 from P.out.kp (Kp.trans (Kp.of_bw bq) hk1) (by omega))
 have R := hid hr1
 have ul := P.out.lt
 have uc := P.out.cell
 have uf := P.out.free
 have ur : r < w1.heap.size := R.out.lt
 clear hr1 hk1
 refine hK.out _ _ trivial ?_
 clear hK K
 try simp only [oDst1, Act.put, sqA, sqZ, sqS]
 refine tkW (i := 2) (oi := oDst2) (v := ?_) rfl (Or.inl ⟨by rfl, fun w _ => ?_⟩) ?_
 rotate_left
 ·(go_simp; first | done | with_reducible rfl)
 try simp only [oDst2, Act.put, sqA, sqZ, sqS]
 refine tkW (i := 3) (oi := oDst3) (v := undef) rfl (Or.inr ⟨by rfl, rfl⟩) ?_
 try simp only [oDst3, Act.put, sqA, sqZ, sqS]
 refine tkW (i := 4) (oi := oDst4) (v := undef) rfl (Or.inr ⟨by rfl, rfl⟩) ?_
 try simp only [oDst4, Act.put, sqA, sqZ, sqS]
 refine tkW (i := 5) (oi := oDst5) (v := undef) rfl (Or.inr ⟨by rfl, rfl⟩) ?_
 try simp only [oDst5, Act.put, sqA, sqZ, sqS]
 refine tkW (i := 6) (oi := oDst6) (v := undef) rfl (Or.inr ⟨by rfl, rfl⟩) ?_
 try simp only [oDst6, Act.put, sqA, sqZ, sqS]
 refine tkW (i := 7) (oi := oDst7) (v := undef) rfl (Or.inr ⟨by rfl, rfl⟩) ?_
 try simp only [oDst7, Act.put, sqA, sqZ, sqS]
 refine tkW (i := 8) (oi := oDst8) (v := undef) rfl (Or.inr ⟨by rfl, rfl⟩) ?_
 try simp only [oDst8, Act.put, sqA, sqZ, sqS]
 refine tkW (i := 9) (oi := oDst9) (v := undef) rfl (Or.inr ⟨by rfl, rfl⟩) ?_
 try simp only [oDst9, Act.put, sqA, sqZ, sqS]
 refine tkW (i := 10) (oi := oDst10) (v := undef) rfl (Or.inr ⟨by rfl, rfl⟩) ?_
 try simp only [oDst10, Act.put, sqA, sqZ, sqS]
 refine tkW (i := 11) (oi := oDst11) (v := undef) rfl (Or.inr ⟨by rfl, rfl⟩) ?_
 try simp only [oDst11, Act.put, sqA, sqZ, sqS]
 refine tkW (i := 12) (oi := oDst12) (v := undef) rfl (Or.inr ⟨by rfl, rfl⟩) ?_
 try simp only [oDst12, Act.put, sqA, sqZ, sqS]
 refine tkW (i := 13) (oi := oDst13) (v := undef) rfl (Or.inr ⟨by rfl, rfl⟩) ?_
 try simp only [oDst13, Act.put, sqA, sqZ, sqS]
 refine tkW (i := 14) (oi := oDst14) (v := undef) rfl (Or.inr ⟨by rfl, rfl⟩) ?_
 try simp only [oDst14, Act.put, sqA, sqZ, sqS]
 refine tkW (i := 15) (oi := oDst15) (v := undef) rfl (Or.inr ⟨by rfl, rfl⟩) ?_
 try simp only [oDst15, Act.put, sqA, sqZ, sqS]
 refine tkW (i := 16) (oi := oDst16) (v := ?_) rfl (Or.inl ⟨by rfl, fun w _ => ?_⟩) ?_
 rotate_left
 ·(go_simp; first | done | with_reducible rfl)
 try simp only [oDst16, Act.put, sqA, sqZ, sqS]
 refine tkW (i := 17) (oi := oDst17) (v := ?_) rfl (Or.inl ⟨by rfl, fun w _ => ?_⟩) ?_
 rotate_left
 ·(go_simp; first | done | with_reducible rfl)
 try simp only [oDst17, Act.put, sqA, sqZ, sqS]
 refine wpAnyW_done (by kernel_rfl) ?_ _
 all_goals go_wp2_with (first
  | (go_at_call 47; have _g := m2; clear _g; (fail_if_success (have _g := m3)); have m3 := hid trivial; refine (eat_no ⟨#[118, 97, 114]⟩ (R.out.bw bq) i3.out).mono ?_; clear ul uc uf ur; rintro e w1 ⟨rfl, hr1, hk1⟩; have KP := hid (show Kp r w w1 from KP.out.trans (Kp.trans (Kp.of_bw bq) hk1)); have P := hid (show Blk w1 wa.heap.size #[.int .i64 0, .int .i64 0, .string ⟨#[]⟩, .int .i64 0, .int .i64 p0] 43 from P.out.kp (Kp.trans (Kp.of_bw bq) hk1) (by omega)); have R := hid hr1; have ul := P.out.lt; have uc := P.out.cell; have uf := P.out.free; have ur : r < w1.heap.size := R.out.lt; clear hr1 hk1)
  | (go_at_call 47; have _g := m3; clear _g; (fail_if_success (have _g := m4)); have m4 := hid trivial; refine (eat_yes ⟨#[119, 104, 105, 108, 101]⟩ (R.out.bw bq) y.out).mono ?_; clear ul uc uf ur; rintro e w1 ⟨rfl, hr1, hk1⟩; have KP := hid (show Kp r w w1 from KP.out.trans (Kp.trans (Kp.of_bw bq) hk1)); have P := hid (show Blk w1 wa.heap.size #[.int .i64 0, .int .i64 0, .string ⟨#[]⟩, .int .i64 0, .int .i64 p0] 43 from P.out.kp (Kp.trans (Kp.of_bw bq) hk1) (by omega)); have R := hid hr1; have ul := P.out.lt; have uc := P.out.cell; have uf := P.out.free; have ur : r < w1.heap.size := R.out.lt; clear hr1 hk1)
  | (go_at_call 49; have _g := m4; clear _g; (fail_if_success (have _g := m21)); have m21 := hid trivial; refine (HV.out _ (R.out.setO P.out 0 _)).mono ?_; clear ul uc uf ur; rintro e w1 ⟨a2, c2, rfl, hn2, hr1, hk1, hl2⟩; have KP := hid (show Kp r w w1 from Kp.trans (KP.out.setNew hra 0 _) hk1); have PZ := P.out.lt; have P := hid (show Blk w1 wa.heap.size #[.int .i64 6, .int .i64 0, .string ⟨#[]⟩, .int .i64 0, .int .i64 p0] 43 from (P.out.set 0 _).kp hk1 (by omega)); have N := hid (hn2.low (b' := wa.heap.size + 1) (by first | omega | (simp only [World.size_setCell]; omega) | (simp; omega))); have L := hid hl2; clear hn2 hl2; have R := hid hr1; have ul := P.out.lt; have uc := P.out.cell; have uf := P.out.free; have ur : r < w1.heap.size := R.out.lt; clear hr1 hk1)
  | fail)
 all_goals go_region_held3 (fun w' => w'.cell? ⟨wa.heap.size, 0, none⟩ = some (.int .i64 6) ∧ w'.cell? ⟨wa.heap.size, 1, none⟩ = some (.int .i64 0) ∧ w'.cell? ⟨wa.heap.size, 2, none⟩ = some (.string ⟨#[]⟩) ∧ w'.cell? ⟨wa.heap.size, 3, none⟩ = some (.int .i64 0) ∧ w'.cell? ⟨wa.heap.size, 4, none⟩ = some (.int .i64 p0)) (first | (simp [go_sem, *]; done)) (first
  | (go_at_call 43; have _g := N; clear _g; (fail_if_success (have _g := N8)); refine (HB.out _ (R.out.bw bq)).mono ?_; rintro e w8 ⟨a8, c8, rfl, hn8, hr8, hk8, hl8⟩; have N8 := hid (hn8.low (b' := wa.heap.size + 1) (by have := P.out.lt; first | omega | (simp only [World.size_setCell]; omega) | (simp; omega))); have N78 := hid (N.out.kp (Kp.trans (Kp.of_bw bq) hk8) (by omega)); have R8 := hid hr8; have K8 := hid (show Kp r w w8 from KP.out.trans (Kp.trans (Kp.of_bw bq) hk8)); have P8 := hid (show Blk w8 wa.heap.size #[.int .i64 6, .int .i64 0, .string ⟨#[]⟩, .int .i64 0, .int .i64 p0] 43 from P.out.kp (Kp.trans (Kp.of_bw bq) hk8) (by omega)); have L8 := hid hl8; have v5 := P8.out.cell; have v6 := P8.out.lt; clear hn8 hr8 hk8 hl8)
  | (go_at_call 50; refine (dboth_as J _ _ l1 l2 HJ.out (N78.out.bw bq).sl (N8.out.bw bq).sl (by have := L.out; omega) (by have := L8.out; omega)).mono ?_; rintro e w10 ⟨a10, c10, rfl, hn10, hb10⟩; have N10 := hid hn10; have R10 := hid (R8.out.bw (Bw.trans bq hb10)); have K10 := hid (K8.out.bw (Bw.trans bq hb10)); have P10 := hid (P8.out.bw (Bw.trans bq hb10)); have v7 := P10.out.cell; have v8 := P10.out.lt; clear hn10 hb10)
  | (go_at_call 22; refine (djoin_any (6, 0, [], 0, p0) 2 _ J (N10.out.bw bq).sl (by have := LJ.out; omega)).mono ?_; rintro e w9 ⟨a9, c9, rfl, hn9, hb9⟩; have N9 := hid hn9; have B9 := hid (show Bw w10 w9 from Bw.trans bq hb9); have P9 := hid (P10.out.bw B9.out); have v9 := P9.out.cell; have v10 := P9.out.lt; clear hn9 hb9)
  | fail)
 all_goals go_wp2
 all_goals go_ret
 all_goals exact ⟨_, _, rfl, N9.out.low K10.out.size, R10.out.bw B9.out, K10.out.bw B9.out, HLJ.out⟩

set_option maxRecDepth 100000 in
set_option maxHeartbeats 8000000 in
theorem stmt_try (i0 : dIs T s ⟨#[123]⟩ = false) (i1 : dIs T s ⟨#[105, 102]⟩ = false) (i2 : dIs T s ⟨#[102, 110]⟩ = false) (i3 : dIs T s ⟨#[118, 97, 114]⟩ = false) (i4 : dIs T s ⟨#[119, 104, 105, 108, 101]⟩ = false) (i5 : dIs T s ⟨#[98, 114, 101, 97, 107]⟩ = false) (i6 : dIs T s ⟨#[99, 111, 110, 116, 105, 110, 117, 101]⟩ = false) (i7 : dIs T s ⟨#[114, 101, 116, 117, 114, 110]⟩ = false) (i8 : dIs T s ⟨#[116, 104, 114, 111, 119]⟩ = false) (y : dIs T s ⟨#[116, 114, 121]⟩ = true) {l1 l2 : List ANode} {s1 s2 : DS} (HV : ∀ w1 : World, RdM w1 r T o (dNx s) → Calls Tryd.prog 43 #[.pointer (some ⟨r, 0, none⟩)] w1 (DG w1 r T o l1 s1)) (HB : ∀ w1 : World, RdM w1 r T o (dNameS T (dWant T s1 ⟨#[99, 97, 116, 99, 104]⟩)) → Calls Tryd.prog 43 #[.pointer (some ⟨r, 0, none⟩)] w1 (DG w1 r T o l2 s2)) (la : l1.length ≤ 1000000) (lb : l2.length ≤ 1000000) (HLJ : (dJoin (11, 0, dNameT T (dWant T s1 ⟨#[99, 97, 116, 99, 104]⟩), 0, dAt T s) 2 (l1 ++ l2)).length ≤ 1000000) (hr : RdM w r T o s) : Calls Tryd.prog 21 #[.pointer (some ⟨r, 0, none⟩)] w (DG w r T o (dJoin (11, 0, dNameT T (dWant T s1 ⟨#[99, 97, 116, 99, 104]⟩), 0, dAt T s) 2 (l1 ++ l2)) s2) := by
 have HR := hid hr
 have hrl := hr.lt
 have HAT := hid (fun w1 (hw : Bw w w1) => dat_any (hr.bw hw))
 have i0 := hid i0
 have i1 := hid i1
 have i2 := hid i2
 have i3 := hid i3
 have i4 := hid i4
 have i5 := hid i5
 have i6 := hid i6
 have i7 := hid i7
 have i8 := hid i8
 have y := hid y
 have HV := hid HV
 have HB := hid HB
 have HW := hid (fun w1 (hw : RdM w1 r T o s1) => dwant_any ⟨#[99, 97, 116, 99, 104]⟩ hw)
 have HNM := hid (fun w1 (hw : RdM w1 r T o (dWant T s1 ⟨#[99, 97, 116, 99, 104]⟩)) => dname_any hw)
 have LJ := hid (show (l1 ++ l2).length ≤ 2000000 by rw [List.length_append]; omega)
 obtain ⟨J, hJ⟩ : ∃ J, l1 ++ l2 = J := ⟨_, rfl⟩
 rw [hJ] at HLJ LJ ⊢
 have HLJ := hid HLJ
 have HJ := hid hJ
 clear hJ la lb
 generalize dNameS T (dWant T s1 ⟨#[99, 97, 116, 99, 104]⟩) = D at *
 generalize dNameT T (dWant T s1 ⟨#[99, 97, 116, 99, 104]⟩) = nx at *
 generalize dWant T s1 ⟨#[99, 97, 116, 99, 104]⟩ = A at *
 clear hr
 unfold DG at *
 generalize dAt T s = p0 at *
 go_enter Tryd.func21, Tryd.ntmps21
 go_wp2_with (first
  | (go_at_call 41; (fail_if_success (have _g := B1)); refine (HAT.out _ (Bw.refl _)).mono ?_; rintro e wa ⟨rfl, hb1⟩; have B1 := hid hb1; have hra : w.heap.size ≤ wa.heap.size := hb1.size; have R := hid (HR.out.bw hb1); have KP := hid (Kp.of_bw (r := r) hb1); clear hb1)
  | (go_at_call 42; (fail_if_success (have _g := m0)); have m0 := hid trivial; refine (is_no ⟨#[123]⟩ (R.out.bw bq) i0.out).mono ?_; rintro e w1 ⟨rfl, hr1, hk1⟩; have KP := hid (show Kp r w w1 from KP.out.trans (Kp.trans (Kp.of_bw bq) hk1)); have R := hid hr1; have P := hid (show Blk w1 wa.heap.size #[.int .i64 0, .int .i64 0, .string ⟨#[]⟩, .int .i64 0, .int .i64 p0] 43 from (Blk.new wa _ _).kp hk1 (by omega)); have ul := P.out.lt; have uc := P.out.cell; have uf := P.out.free; have ur : r < w1.heap.size := R.out.lt; clear hr1 hk1)
  | (go_at_call 42; have _g := m0; clear _g; (fail_if_success (have _g := m1)); have m1 := hid trivial; refine (is_no ⟨#[105, 102]⟩ (R.out.bw bq) i1.out).mono ?_; clear ul uc uf ur; rintro e w1 ⟨rfl, hr1, hk1⟩; have KP := hid (show Kp r w w1 from KP.out.trans (Kp.trans (Kp.of_bw bq) hk1)); have P := hid (show Blk w1 wa.heap.size #[.int .i64 0, .int .i64 0, .string ⟨#[]⟩, .int .i64 0, .int .i64 p0] 43 from P.out.kp (Kp.trans (Kp.of_bw bq) hk1) (by omega)); have R := hid hr1; have ul := P.out.lt; have uc := P.out.cell; have uf := P.out.free; have ur : r < w1.heap.size := R.out.lt; clear hr1 hk1)
  | fail)
 refine wp_region_W (fun _ => True) (fun j => if j == 1 then 0 else 1) (by kernel_rfl) ?_
 refine tkW (i := 0) (oi := oDst0) (v := ?_) rfl (Or.inl ⟨by rfl, fun w _ => ?_⟩) ?_
 rotate_left
 ·(go_simp; first | done | with_reducible rfl)
 try simp only [oDst0, Act.put, sqA, sqZ, sqS]
 refine wpAnyW_ready (rs := [1]) (by kernel_rfl) (by simp) ?_
 refine (AllReadyW.cons (o := oDst1) rfl (fun K hK => ?_) AllReadyW.nil)
 go_simp
 have m2 := hid trivial
 refine (is_no ⟨#[102, 110]⟩ (R.out.bw bq) i2.out).mono ?_
 clear ul uc uf ur
 rintro e w1 ⟨he1, hr1, hk1⟩
 subst he1
 have KP := hid (show Kp r w w1 from KP.out.trans (Kp.trans (Kp.of_bw bq) hk1))
 have P := hid (show Blk w1 wa.heap.size #[.int .i64 0, .int .i64 0, .string ⟨#[]⟩, .int .i64 0, .int .i64 p0] 43 from P.out.kp (Kp.trans (Kp.of_bw bq) hk1) (by omega))
 have R := hid hr1
 have ul := P.out.lt
 have uc := P.out.cell
 have uf := P.out.free
 have ur : r < w1.heap.size := R.out.lt
 clear hr1 hk1
 refine hK.out _ _ trivial ?_
 clear hK K
 try simp only [oDst1, Act.put, sqA, sqZ, sqS]
 refine tkW (i := 2) (oi := oDst2) (v := ?_) rfl (Or.inl ⟨by rfl, fun w _ => ?_⟩) ?_
 rotate_left
 ·(go_simp; first | done | with_reducible rfl)
 try simp only [oDst2, Act.put, sqA, sqZ, sqS]
 refine tkW (i := 3) (oi := oDst3) (v := undef) rfl (Or.inr ⟨by rfl, rfl⟩) ?_
 try simp only [oDst3, Act.put, sqA, sqZ, sqS]
 refine tkW (i := 4) (oi := oDst4) (v := undef) rfl (Or.inr ⟨by rfl, rfl⟩) ?_
 try simp only [oDst4, Act.put, sqA, sqZ, sqS]
 refine tkW (i := 5) (oi := oDst5) (v := undef) rfl (Or.inr ⟨by rfl, rfl⟩) ?_
 try simp only [oDst5, Act.put, sqA, sqZ, sqS]
 refine tkW (i := 6) (oi := oDst6) (v := undef) rfl (Or.inr ⟨by rfl, rfl⟩) ?_
 try simp only [oDst6, Act.put, sqA, sqZ, sqS]
 refine tkW (i := 7) (oi := oDst7) (v := undef) rfl (Or.inr ⟨by rfl, rfl⟩) ?_
 try simp only [oDst7, Act.put, sqA, sqZ, sqS]
 refine tkW (i := 8) (oi := oDst8) (v := undef) rfl (Or.inr ⟨by rfl, rfl⟩) ?_
 try simp only [oDst8, Act.put, sqA, sqZ, sqS]
 refine tkW (i := 9) (oi := oDst9) (v := undef) rfl (Or.inr ⟨by rfl, rfl⟩) ?_
 try simp only [oDst9, Act.put, sqA, sqZ, sqS]
 refine tkW (i := 10) (oi := oDst10) (v := undef) rfl (Or.inr ⟨by rfl, rfl⟩) ?_
 try simp only [oDst10, Act.put, sqA, sqZ, sqS]
 refine tkW (i := 11) (oi := oDst11) (v := undef) rfl (Or.inr ⟨by rfl, rfl⟩) ?_
 try simp only [oDst11, Act.put, sqA, sqZ, sqS]
 refine tkW (i := 12) (oi := oDst12) (v := undef) rfl (Or.inr ⟨by rfl, rfl⟩) ?_
 try simp only [oDst12, Act.put, sqA, sqZ, sqS]
 refine tkW (i := 13) (oi := oDst13) (v := undef) rfl (Or.inr ⟨by rfl, rfl⟩) ?_
 try simp only [oDst13, Act.put, sqA, sqZ, sqS]
 refine tkW (i := 14) (oi := oDst14) (v := undef) rfl (Or.inr ⟨by rfl, rfl⟩) ?_
 try simp only [oDst14, Act.put, sqA, sqZ, sqS]
 refine tkW (i := 15) (oi := oDst15) (v := undef) rfl (Or.inr ⟨by rfl, rfl⟩) ?_
 try simp only [oDst15, Act.put, sqA, sqZ, sqS]
 refine tkW (i := 16) (oi := oDst16) (v := ?_) rfl (Or.inl ⟨by rfl, fun w _ => ?_⟩) ?_
 rotate_left
 ·(go_simp; first | done | with_reducible rfl)
 try simp only [oDst16, Act.put, sqA, sqZ, sqS]
 refine tkW (i := 17) (oi := oDst17) (v := ?_) rfl (Or.inl ⟨by rfl, fun w _ => ?_⟩) ?_
 rotate_left
 ·(go_simp; first | done | with_reducible rfl)
 try simp only [oDst17, Act.put, sqA, sqZ, sqS]
 refine wpAnyW_done (by kernel_rfl) ?_ _
 all_goals go_wp2_with (first
  | (go_at_call 47; have _g := m2; clear _g; (fail_if_success (have _g := m3)); have m3 := hid trivial; refine (eat_no ⟨#[118, 97, 114]⟩ (R.out.bw bq) i3.out).mono ?_; clear ul uc uf ur; rintro e w1 ⟨rfl, hr1, hk1⟩; have KP := hid (show Kp r w w1 from KP.out.trans (Kp.trans (Kp.of_bw bq) hk1)); have P := hid (show Blk w1 wa.heap.size #[.int .i64 0, .int .i64 0, .string ⟨#[]⟩, .int .i64 0, .int .i64 p0] 43 from P.out.kp (Kp.trans (Kp.of_bw bq) hk1) (by omega)); have R := hid hr1; have ul := P.out.lt; have uc := P.out.cell; have uf := P.out.free; have ur : r < w1.heap.size := R.out.lt; clear hr1 hk1)
  | (go_at_call 47; have _g := m3; clear _g; (fail_if_success (have _g := m4)); have m4 := hid trivial; refine (eat_no ⟨#[119, 104, 105, 108, 101]⟩ (R.out.bw bq) i4.out).mono ?_; clear ul uc uf ur; rintro e w1 ⟨rfl, hr1, hk1⟩; have KP := hid (show Kp r w w1 from KP.out.trans (Kp.trans (Kp.of_bw bq) hk1)); have P := hid (show Blk w1 wa.heap.size #[.int .i64 0, .int .i64 0, .string ⟨#[]⟩, .int .i64 0, .int .i64 p0] 43 from P.out.kp (Kp.trans (Kp.of_bw bq) hk1) (by omega)); have R := hid hr1; have ul := P.out.lt; have uc := P.out.cell; have uf := P.out.free; have ur : r < w1.heap.size := R.out.lt; clear hr1 hk1)
  | (go_at_call 47; have _g := m4; clear _g; (fail_if_success (have _g := m5)); have m5 := hid trivial; refine (eat_no ⟨#[98, 114, 101, 97, 107]⟩ (R.out.bw bq) i5.out).mono ?_; clear ul uc uf ur; rintro e w1 ⟨rfl, hr1, hk1⟩; have KP := hid (show Kp r w w1 from KP.out.trans (Kp.trans (Kp.of_bw bq) hk1)); have P := hid (show Blk w1 wa.heap.size #[.int .i64 0, .int .i64 0, .string ⟨#[]⟩, .int .i64 0, .int .i64 p0] 43 from P.out.kp (Kp.trans (Kp.of_bw bq) hk1) (by omega)); have R := hid hr1; have ul := P.out.lt; have uc := P.out.cell; have uf := P.out.free; have ur : r < w1.heap.size := R.out.lt; clear hr1 hk1)
  | (go_at_call 47; have _g := m5; clear _g; (fail_if_success (have _g := m6)); have m6 := hid trivial; refine (eat_no ⟨#[99, 111, 110, 116, 105, 110, 117, 101]⟩ (R.out.bw bq) i6.out).mono ?_; clear ul uc uf ur; rintro e w1 ⟨rfl, hr1, hk1⟩; have KP := hid (show Kp r w w1 from KP.out.trans (Kp.trans (Kp.of_bw bq) hk1)); have P := hid (show Blk w1 wa.heap.size #[.int .i64 0, .int .i64 0, .string ⟨#[]⟩, .int .i64 0, .int .i64 p0] 43 from P.out.kp (Kp.trans (Kp.of_bw bq) hk1) (by omega)); have R := hid hr1; have ul := P.out.lt; have uc := P.out.cell; have uf := P.out.free; have ur : r < w1.heap.size := R.out.lt; clear hr1 hk1)
  | (go_at_call 47; have _g := m6; clear _g; (fail_if_success (have _g := m7)); have m7 := hid trivial; refine (eat_no ⟨#[114, 101, 116, 117, 114, 110]⟩ (R.out.bw bq) i7.out).mono ?_; clear ul uc uf ur; rintro e w1 ⟨rfl, hr1, hk1⟩; have KP := hid (show Kp r w w1 from KP.out.trans (Kp.trans (Kp.of_bw bq) hk1)); have P := hid (show Blk w1 wa.heap.size #[.int .i64 0, .int .i64 0, .string ⟨#[]⟩, .int .i64 0, .int .i64 p0] 43 from P.out.kp (Kp.trans (Kp.of_bw bq) hk1) (by omega)); have R := hid hr1; have ul := P.out.lt; have uc := P.out.cell; have uf := P.out.free; have ur : r < w1.heap.size := R.out.lt; clear hr1 hk1)
  | (go_at_call 47; have _g := m7; clear _g; (fail_if_success (have _g := m8)); have m8 := hid trivial; refine (eat_no ⟨#[116, 104, 114, 111, 119]⟩ (R.out.bw bq) i8.out).mono ?_; clear ul uc uf ur; rintro e w1 ⟨rfl, hr1, hk1⟩; have KP := hid (show Kp r w w1 from KP.out.trans (Kp.trans (Kp.of_bw bq) hk1)); have P := hid (show Blk w1 wa.heap.size #[.int .i64 0, .int .i64 0, .string ⟨#[]⟩, .int .i64 0, .int .i64 p0] 43 from P.out.kp (Kp.trans (Kp.of_bw bq) hk1) (by omega)); have R := hid hr1; have ul := P.out.lt; have uc := P.out.cell; have uf := P.out.free; have ur : r < w1.heap.size := R.out.lt; clear hr1 hk1)
  | (go_at_call 47; have _g := m8; clear _g; (fail_if_success (have _g := m9)); have m9 := hid trivial; refine (eat_yes ⟨#[116, 114, 121]⟩ (R.out.bw bq) y.out).mono ?_; clear ul uc uf ur; rintro e w1 ⟨rfl, hr1, hk1⟩; have KP := hid (show Kp r w w1 from KP.out.trans (Kp.trans (Kp.of_bw bq) hk1)); have P := hid (show Blk w1 wa.heap.size #[.int .i64 0, .int .i64 0, .string ⟨#[]⟩, .int .i64 0, .int .i64 p0] 43 from P.out.kp (Kp.trans (Kp.of_bw bq) hk1) (by omega)); have R := hid hr1; have ul := P.out.lt; have uc := P.out.cell; have uf := P.out.free; have ur : r < w1.heap.size := R.out.lt; clear hr1 hk1)
  | (go_at_call 43; have _g := m9; clear _g; (fail_if_success (have _g := m21)); have m21 := hid trivial; refine (HV.out _ (R.out.setO P.out 0 _)).mono ?_; clear ul uc uf ur; rintro e w1 ⟨a2, c2, rfl, hn2, hr1, hk1, hl2⟩; have KP := hid (show Kp r w w1 from Kp.trans (KP.out.setNew hra 0 _) hk1); have PZ := P.out.lt; have P := hid (show Blk w1 wa.heap.size #[.int .i64 11, .int .i64 0, .string ⟨#[]⟩, .int .i64 0, .int .i64 p0] 43 from (P.out.set 0 _).kp hk1 (by omega)); have N := hid (hn2.low (b' := wa.heap.size + 1) (by first | omega | (simp only [World.size_setCell]; omega) | (simp; omega))); have L := hid hl2; clear hn2 hl2; have R := hid hr1; have ul := P.out.lt; have uc := P.out.cell; have uf := P.out.free; have ur : r < w1.heap.size := R.out.lt; clear hr1 hk1)
  | (go_at_call 48; have _g := m21; clear _g; (fail_if_success (have _g := m22)); have m22 := hid trivial; refine (HW.out _ (R.out.bw bq)).mono ?_; clear ul uc uf ur; rintro e w1 ⟨rfl, hr1, hk1⟩; have KP := hid (show Kp r w w1 from KP.out.trans (Kp.trans (Kp.of_bw bq) hk1)); have P := hid (show Blk w1 wa.heap.size #[.int .i64 11, .int .i64 0, .string ⟨#[]⟩, .int .i64 0, .int .i64 p0] 43 from P.out.kp (Kp.trans (Kp.of_bw bq) hk1) (by omega)); have N := hid (N.out.kp (Kp.trans (Kp.of_bw bq) hk1) (by omega)); have R := hid hr1; have ul := P.out.lt; have uc := P.out.cell; have uf := P.out.free; have ur : r < w1.heap.size := R.out.lt; clear hr1 hk1)
  | (go_at_call 45; have _g := m22; clear _g; (fail_if_success (have _g := m23)); have m23 := hid trivial; refine (HNM.out _ (R.out.bw bq)).mono ?_; clear ul uc uf ur; rintro e w1 ⟨rfl, hr1, hk1⟩; have KP := hid (show Kp r w w1 from KP.out.trans (Kp.trans (Kp.of_bw bq) hk1)); have P := hid (show Blk w1 wa.heap.size #[.int .i64 11, .int .i64 0, .string ⟨#[]⟩, .int .i64 0, .int .i64 p0] 43 from P.out.kp (Kp.trans (Kp.of_bw bq) hk1) (by omega)); have N := hid (N.out.kp (Kp.trans (Kp.of_bw bq) hk1) (by omega)); have R := hid hr1; have ul := P.out.lt; have uc := P.out.cell; have uf := P.out.free; have ur : r < w1.heap.size := R.out.lt; clear hr1 hk1)
  | fail)
 all_goals
  have R := hid (R.out.setO P.out 2 (.string (strOfNums nx)))
  have N := hid (N.out.setO (g := wa.heap.size) (fun e => by have := (N.out.lt _ e).1; omega) 2 (.string (strOfNums nx)))
  have KP := hid (KP.out.setNew hra 2 (.string (strOfNums nx)))
  have P := hid (show Blk (w1.setCell ⟨wa.heap.size, 2, none⟩ (.string (strOfNums nx))) wa.heap.size #[.int .i64 11, .int .i64 0, .string (strOfNums nx), .int .i64 0, .int .i64 p0] 43 from P.out.set 2 _)
 all_goals go_region_held3 (fun w' => w'.cell? ⟨wa.heap.size, 0, none⟩ = some (.int .i64 11) ∧ w'.cell? ⟨wa.heap.size, 1, none⟩ = some (.int .i64 0) ∧ w'.cell? ⟨wa.heap.size, 2, none⟩ = some (.string (strOfNums nx)) ∧ w'.cell? ⟨wa.heap.size, 3, none⟩ = some (.int .i64 0) ∧ w'.cell? ⟨wa.heap.size, 4, none⟩ = some (.int .i64 p0)) (first | (simp [go_sem, *]; done)) (first
  | (go_at_call 43; have _g := N; clear _g; (fail_if_success (have _g := N8)); refine (HB.out _ (R.out.bw bq)).mono ?_; rintro e w8 ⟨a8, c8, rfl, hn8, hr8, hk8, hl8⟩; have N8 := hid (hn8.low (b' := wa.heap.size + 1) (by have := P.out.lt; first | omega | (simp only [World.size_setCell]; omega) | (simp; omega))); have N78 := hid (N.out.kp (Kp.trans (Kp.of_bw bq) hk8) (by omega)); have R8 := hid hr8; have K8 := hid (show Kp r w w8 from KP.out.trans (Kp.trans (Kp.of_bw bq) hk8)); have P8 := hid (show Blk w8 wa.heap.size #[.int .i64 11, .int .i64 0, .string (strOfNums nx), .int .i64 0, .int .i64 p0] 43 from P.out.kp (Kp.trans (Kp.of_bw bq) hk8) (by omega)); have L8 := hid hl8; have v5 := P8.out.cell; have v6 := P8.out.lt; clear hn8 hr8 hk8 hl8)
  | (go_at_call 50; refine (dboth_as J _ _ l1 l2 HJ.out (N78.out.bw bq).sl (N8.out.bw bq).sl (by have := L.out; omega) (by have := L8.out; omega)).mono ?_; rintro e w10 ⟨a10, c10, rfl, hn10, hb10⟩; have N10 := hid hn10; have R10 := hid (R8.out.bw (Bw.trans bq hb10)); have K10 := hid (K8.out.bw (Bw.trans bq hb10)); have P10 := hid (P8.out.bw (Bw.trans bq hb10)); have v7 := P10.out.cell; have v8 := P10.out.lt; clear hn10 hb10)
  | (go_at_call 22; refine (djoin_any (11, 0, nx, 0, p0) 2 _ J (N10.out.bw bq).sl (by have := LJ.out; omega)).mono ?_; rintro e w9 ⟨a9, c9, rfl, hn9, hb9⟩; have N9 := hid hn9; have B9 := hid (show Bw w10 w9 from Bw.trans bq hb9); have P9 := hid (P10.out.bw B9.out); have v9 := P9.out.cell; have v10 := P9.out.lt; clear hn9 hb9)
  | fail)
 all_goals go_wp2
 all_goals go_ret
 all_goals exact ⟨_, _, rfl, N9.out.low K10.out.size, R10.out.bw B9.out, K10.out.bw B9.out, HLJ.out⟩

end

end Go.Proofs.YtdhkcdehedbpcaaDoor

namespace Go.Proofs.YtdhkcdehedbpcaaDoor
open Go Go.RowKit

section
variable {w w' : World} {r f : Nat} {T : List ATok} {o : Int} {s s' : DS} {l : List ANode} {k : Int}

theorem dIs_other {t t' : ByteArray} (h : dIs T s t = true) (hn : t ≠ t') : dIs T s t' = false := by
 cases e : dIs T s t'
 ·rfl
 ·unfold dIs at h e
  simp only [Bool.and_eq_true, decide_eq_true_eq] at h e
  exact absurd (h.2.symm.trans e.2) hn
theorem stmt_step (hc : ∀ g, g ≤ f → Con T r g) (h : dR T (f + 1) .stmt o s = some (l, k, s')) (hr : RdM w r T o s) : Calls Tryd.prog 21 #[.pointer (some ⟨r, 0, none⟩)] w (DG w r T o l s') := by
 have hf := hc f (Nat.le_refl _)
 unfold dR at h
 rcases ite_some h with ⟨y, h⟩ | ⟨y0, h⟩
 ·exact stmt_block y (fun w1 hw => hf.block h hw) hr
 have i0 : dIs T s ⟨#[123]⟩ = false := by simpa using y0
 clear y0
 rcases ite_some h with ⟨y, h⟩ | ⟨y1, h⟩
 ·exact stmt_choice i0 y (fun w1 hw => hf.choice h hw) hr
 have i1 : dIs T s ⟨#[105, 102]⟩ = false := by simpa using y1
 clear y1
 rcases ite_some h with ⟨⟨y, k1⟩, h⟩ | ⟨y2, h⟩
 ·exact stmt_fn i0 i1 y k1 (fun w1 hw => hf.func _ h hw) hr
 rcases ite_some h with ⟨y, h⟩ | ⟨y3, h⟩
 ·have i2 : dIs T s ⟨#[102, 110]⟩ = false := dIs_other y (by decide)
  obtain ⟨⟨l1, k1, s1⟩, h1, h2⟩ := bnd h
  obtain ⟨rfl, rfl, hlen⟩ := rete3 h2
  exact stmt_var i0 i1 i2 y (fun w1 hw => hf.expr 0 h1 hw) hlen hr
 have i3 : dIs T s ⟨#[118, 97, 114]⟩ = false := by simpa using y3
 clear y3
 rcases ite_some h with ⟨y, h⟩ | ⟨y4, h⟩
 ·have i2 : dIs T s ⟨#[102, 110]⟩ = false := dIs_other y (by decide)
  obtain ⟨⟨l1, k1, s1⟩, h1, h2⟩ := bnd h
  obtain ⟨⟨l2, k2, s2⟩, h3, h4⟩ := bnd h2
  obtain ⟨rfl, rfl, hlen⟩ := rete3 h4
  exact stmt_while i0 i1 i2 i3 y (fun w1 hw => hf.expr 0 h1 hw) (fun w1 hw => hf.block h3 hw) (dR_len h1) (dR_len h3) hlen hr
 have i4 : dIs T s ⟨#[119, 104, 105, 108, 101]⟩ = false := by simpa using y4
 clear y4
 rcases ite_some h with ⟨y, h⟩ | ⟨y5, h⟩
 ·have i2 : dIs T s ⟨#[102, 110]⟩ = false := dIs_other y (by decide)
  obtain ⟨rfl, rfl, hlen⟩ := rete3 h
  exact stmt_break i0 i1 i2 i3 i4 y hr
 have i5 : dIs T s ⟨#[98, 114, 101, 97, 107]⟩ = false := by simpa using y5
 clear y5
 rcases ite_some h with ⟨y, h⟩ | ⟨y6, h⟩
 ·have i2 : dIs T s ⟨#[102, 110]⟩ = false := dIs_other y (by decide)
  obtain ⟨rfl, rfl, hlen⟩ := rete3 h
  exact stmt_continue i0 i1 i2 i3 i4 i5 y hr
 have i6 : dIs T s ⟨#[99, 111, 110, 116, 105, 110, 117, 101]⟩ = false := by simpa using y6
 clear y6
 rcases ite_some h with ⟨y, h⟩ | ⟨y7, h⟩
 ·have i2 : dIs T s ⟨#[102, 110]⟩ = false := dIs_other y (by decide)
  rcases ite_some h with ⟨y2, h⟩ | ⟨y2, h⟩
  ·obtain ⟨rfl, rfl, hlen⟩ := rete3 h
   exact stmt_ret0 i0 i1 i2 i3 i4 i5 i6 y y2 hr
  ·obtain ⟨⟨l1, k1, s1⟩, h1, h2⟩ := bnd h
   obtain ⟨rfl, rfl, hlen⟩ := rete3 h2
   exact stmt_ret1 i0 i1 i2 i3 i4 i5 i6 y (fun w1 hw => hf.expr 0 h1 hw) (by simpa using y2) hlen hr
 have i7 : dIs T s ⟨#[114, 101, 116, 117, 114, 110]⟩ = false := by simpa using y7
 clear y7
 rcases ite_some h with ⟨y, h⟩ | ⟨y8, h⟩
 ·have i2 : dIs T s ⟨#[102, 110]⟩ = false := dIs_other y (by decide)
  obtain ⟨⟨l1, k1, s1⟩, h1, h2⟩ := bnd h
  obtain ⟨rfl, rfl, hlen⟩ := rete3 h2
  exact stmt_throw i0 i1 i2 i3 i4 i5 i6 i7 y (fun w1 hw => hf.expr 0 h1 hw) hlen hr
 have i8 : dIs T s ⟨#[116, 104, 114, 111, 119]⟩ = false := by simpa using y8
 clear y8
 rcases ite_some h with ⟨y, h⟩ | ⟨y9, h⟩
 ·have i2 : dIs T s ⟨#[102, 110]⟩ = false := dIs_other y (by decide)
  obtain ⟨⟨l1, k1, s1⟩, h1, h2⟩ := bnd h
  obtain ⟨⟨l2, k2, s2⟩, h3, h4⟩ := bnd h2
  obtain ⟨rfl, rfl, hlen⟩ := rete3 h4
  exact stmt_try i0 i1 i2 i3 i4 i5 i6 i7 i8 y (fun w1 hw => hf.block h1 hw) (fun w1 hw => hf.block h3 hw) (dR_len h1) (dR_len h3) hlen hr
 have i9 : dIs T s ⟨#[116, 114, 121]⟩ = false := by simpa using y9
 clear y9
 cases yf : dIs T s ⟨#[102, 110]⟩
 ·exact stmt_plain i0 i1 yf i3 i4 i5 i6 i7 i8 i9 (fun w1 hw => hf.plain h hw) hr
 ·exact stmt_plain2 i0 i1 i3 i4 i5 i6 i7 i8 i9 yf (fun e => y2 ⟨yf, e⟩) (fun w1 hw => hf.plain h hw) hr

end

end Go.Proofs.YtdhkcdehedbpcaaDoor

