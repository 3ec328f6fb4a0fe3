/- The document's parser: statement: contracts, by steps. · The document's parser: statement, whole: contracts, by steps. -/
import Derived.Test.YtdhkcdehedbpcaaDoorM8
import Derived.Test.YtdhkcdehedbpcaaDoorM10
set_option linter.unusedSimpArgs false
set_option linter.unusedVariables false
namespace Go.Proofs.YtdhkcdehedbpcaaDoor
open Go Go.RowKit

@[go_sem] def oDfn0 : Oper := { dst := some 23, op := Op.move (Operand.tmp 0), type := 66, pos := "ref.go:158", after := #[], guard := none }
@[go_sem] def oDfn1 : Oper := { dst := some 24, op := Op.call { callee := Callee.value (Operand.func 42), args := #[Operand.tmp 23, Operand.const (Value.string { data := #[102, 110] })], argTypes := #[66, 9] }, type := 4, pos := "ref.go:158", after := #[{ on := 0, ground := Ground.data }], guard := none }
@[go_sem] def oDfn2 : Oper := { dst := some 25, op := Op.move (Operand.tmp 24), type := 4, pos := "ref.go:158", after := #[{ on := 1, ground := Ground.data }, { on := 1, ground := Ground.chain }], guard := none }
@[go_sem] def oDfn3 : Oper := { dst := some 26, op := Op.move (Operand.tmp 0), type := 66, pos := "ref.go:158", after := #[{ on := 2, ground := Ground.guard }], guard := some (2, true) }
@[go_sem] def oDfn4 : Oper := { dst := some 27, op := Op.nilCheck (Operand.tmp 26), type := 0, pos := "ref.go:158", after := #[{ on := 3, ground := Ground.data }, { on := 2, ground := Ground.guard }], guard := some (2, true) }
@[go_sem] def oDfn5 : Oper := { dst := some 28, op := Op.fieldAddr 68 (Operand.tmp 27) 0, type := 0, pos := "ref.go:158", after := #[{ on := 4, ground := Ground.data }, { on := 2, ground := Ground.guard }], guard := some (2, true) }
@[go_sem] def oDfn6 : Oper := { dst := some 29, op := Op.load 63 (Operand.tmp 28), type := 63, pos := "ref.go:158", after := #[{ on := 5, ground := Ground.data }, { on := 2, ground := Ground.guard }], guard := some (2, true) }
@[go_sem] def oDfn7 : Oper := { dst := some 30, op := Op.move (Operand.tmp 0), type := 66, pos := "ref.go:158", after := #[{ on := 2, ground := Ground.guard }], guard := some (2, true) }
@[go_sem] def oDfn8 : Oper := { dst := some 31, op := Op.nilCheck (Operand.tmp 30), type := 0, pos := "ref.go:158", after := #[{ on := 7, ground := Ground.data }, { on := 2, ground := Ground.guard }], guard := some (2, true) }
@[go_sem] def oDfn9 : Oper := { dst := some 32, op := Op.fieldAddr 68 (Operand.tmp 31) 1, type := 0, pos := "ref.go:158", after := #[{ on := 8, ground := Ground.data }, { on := 2, ground := Ground.guard }], guard := some (2, true) }
@[go_sem] def oDfn10 : Oper := { dst := some 33, op := Op.load 3 (Operand.tmp 32), type := 3, pos := "ref.go:158", after := #[{ on := 9, ground := Ground.data }, { on := 2, ground := Ground.guard }], guard := some (2, true) }
@[go_sem] def oDfn11 : Oper := { dst := some 34, op := Op.binOp BinOp.add 3 (Operand.tmp 33) (Operand.const (Value.int IntKind.i64 1)) 3, type := 3, pos := "ref.go:158", after := #[{ on := 10, ground := Ground.data }, { on := 2, ground := Ground.guard }], guard := some (2, true) }
@[go_sem] def oDfn12 : Oper := { dst := some 35, op := Op.indexAddr 63 (Operand.tmp 29) (Operand.tmp 34), type := 0, pos := "ref.go:158", after := #[{ on := 6, ground := Ground.data }, { on := 11, ground := Ground.data }, { on := 2, ground := Ground.guard }], guard := some (2, true) }
@[go_sem] def oDfn13 : Oper := { dst := some 36, op := Op.fieldAddr 70 (Operand.tmp 35) 0, type := 0, pos := "ref.go:158", after := #[{ on := 12, ground := Ground.data }, { on := 2, ground := Ground.guard }], guard := some (2, true) }
@[go_sem] def oDfn14 : Oper := { dst := some 37, op := Op.load 3 (Operand.tmp 36), type := 3, pos := "ref.go:158", after := #[{ on := 13, ground := Ground.data }, { on := 2, ground := Ground.guard }], guard := some (2, true) }
@[go_sem] def oDfn15 : Oper := { dst := some 38, op := Op.binOp BinOp.eql 3 (Operand.tmp 37) (Operand.const (Value.int IntKind.i64 1)) 3, type := 4, pos := "ref.go:158", after := #[{ on := 14, ground := Ground.data }, { on := 2, ground := Ground.guard }], guard := some (2, true) }
@[go_sem] def oDfn16 : Oper := { dst := some 39, op := Op.pick (Operand.tmp 25) (Operand.tmp 38) (Operand.const (Value.bool false)), type := 4, pos := "ref.go:158", after := #[{ on := 2, ground := Ground.data }, { on := 15, ground := Ground.data }], guard := none }
@[go_sem] def oDfn17 : Oper := { dst := some 22, op := Op.assign (Operand.tmp 39), type := 4, pos := "ref.go:158", after := #[{ on := 16, ground := Ground.data }, { on := 2, ground := Ground.chain }], guard := none }

section
attribute [local irreducible] dIs
variable {w w' : World} {r f : Nat} {T : List ATok} {o : Int} {s s' : DS} {l : List ANode} {k : Int}

theorem dIs_kind {t : ByteArray} (h : dIs T s t = true) : (dtk T s.i).1 ≠ 0 := by
  unfold dIs at h
  intro e
  rw [e] at h
  simp at h
theorem is_ahead {g c : Nat} {q : Int} {w0 : World} (t : ByteArray) (h0 : RdM w0 r T o s) (x : Rdx w0 r g c q T o s) (hb0 : Bw w0 w) (hi : dIs T s t = true) : Calls Tryd.prog 42 #[.pointer (some ⟨r, 0, none⟩), .string t] w fun e w' => e = .returned (.bool true) ∧ RdM w' r T o s ∧ Kp r w w' ∧ (w'.cell? ⟨r, 0, none⟩ = some (.slice (some ⟨g, 0, none⟩) T.length c) ∧ w'.cell? ⟨r, 1, none⟩ = some (.int .i64 s.i) ∧ ∀ i, i < T.length → w'.cell? ⟨g, i * 4, none⟩ = some (.int .i64 (dtk T i).1)) := by
  have h := h0.bw hb0
  refine (dis_any t h).mono ?_
  rintro e w1 ⟨rfl, hb⟩
  rw [hi]
  obtain ⟨g', c', q', x'⟩ := (h.bw hb).x
  have e0 := (x.b.bw (hb0.trans hb)).cell 0
  have e1 := x'.b.cell 0
  rw [e0] at e1
  cases e1
  exact ⟨rfl, h.bw hb, Kp.of_bw hb, (x.b.bw (hb0.trans hb)).cell 0, (x.b.bw (hb0.trans hb)).cell 1, x'.c0⟩

set_option maxRecDepth 100000 in
set_option maxHeartbeats 8000000 in
theorem stmt_plain2 (i0 : dIs T s ⟨#[123]⟩ = false) (i1 : dIs T s ⟨#[105, 102]⟩ = false) (i3 : dIs T s ⟨#[118, 97, 114]⟩ = false) (i4 : dIs T s ⟨#[119, 104, 105, 108, 101]⟩ = false) (i5 : dIs T s ⟨#[98, 114, 101, 97, 107]⟩ = false) (i6 : dIs T s ⟨#[99, 111, 110, 116, 105, 110, 117, 101]⟩ = false) (i7 : dIs T s ⟨#[114, 101, 116, 117, 114, 110]⟩ = false) (i8 : dIs T s ⟨#[116, 104, 114, 111, 119]⟩ = false) (i9 : dIs T s ⟨#[116, 114, 121]⟩ = false) (y : dIs T s ⟨#[102, 110]⟩ = true) (k1 : (dtk T (s.i + 1)).1 ≠ 1) (HV : ∀ w1 : World, RdM w1 r T o s → Calls Tryd.prog 51 #[.pointer (some ⟨r, 0, none⟩)] w1 (DG w1 r T o l s')) (hr : RdM w r T o s) : Calls Tryd.prog 21 #[.pointer (some ⟨r, 0, none⟩)] w (DG w r T o l s') := by
  have HR := hid hr
  have hrl := hr.lt
  have HAT := hid (fun w1 (hw : Bw w w1) => dat_any (hr.bw hw))
  have hn := hr.n s.i hr.i (dIs_kind y)
  have HN := hid hn
  have hi1 : (0 : Int) ≤ (s.i : Int) := by omega
  obtain ⟨gz, cz, qz, xz⟩ := hr.x
  have hl1 := xz.l
  have hi2 : (s.i : Int) + 1 < (T.length : Int) := by omega
  have hi3 : (0 : Int) ≤ (s.i : Int) + 1 := by omega
  have WR : IntKind.i64.wrap ((s.i : Int) + 1) = (s.i : Int) + 1 := by rw [IntKind.wrap_i64]; omega
  have hto : ((s.i : Int) + 1).toNat = s.i + 1 := by omega
  obtain ⟨kn, hkn⟩ : ∃ kn, (dtk T (s.i + 1)).1 = kn := ⟨_, rfl⟩
  rw [hkn] at k1
  have KN := hid hkn
  have ek : (kn == 1) = false := by simpa using k1
  clear k1
  have i0 := hid i0
  have i1 := hid i1
  have i3 := hid i3
  have i4 := hid i4
  have i5 := hid i5
  have i6 := hid i6
  have i7 := hid i7
  have i8 := hid i8
  have i9 := hid i9
  have y := hid y
  have HV := hid HV
  clear hr hkn xz hn
  unfold DG at *
  generalize dAt T s = p0 at *
  go_enter Tryd.func21, Tryd.ntmps21
  go_wp2_with (first
    | (go_at_call 41; (fail_if_success (have _g := B1)); refine (HAT.out _ (Bw.refl _)).mono ?_; rintro e wa ⟨rfl, hb1⟩; have B1 := hid hb1; have hra : w.heap.size ≤ wa.heap.size := hb1.size; have R := hid (HR.out.bw hb1); have KP := hid (Kp.of_bw (r := r) hb1); clear hb1)
    | (go_at_call 42; (fail_if_success (have _g := m0)); have m0 := hid trivial; refine (is_no ⟨#[123]⟩ (R.out.bw bq) i0.out).mono ?_; rintro e w1 ⟨rfl, hr1, hk1⟩; have KP := hid (show Kp r w w1 from KP.out.trans (Kp.trans (Kp.of_bw bq) hk1)); have R := hid hr1; have P := hid (show Blk w1 wa.heap.size #[.int .i64 0, .int .i64 0, .string { data := #[] }, .int .i64 0, .int .i64 p0] 43 from (Blk.new wa _ _).kp hk1 (by omega)); have ul := P.out.lt; have uc := P.out.cell; have uf := P.out.free; have ur : r < w1.heap.size := R.out.lt; clear hr1 hk1)
    | (go_at_call 42; have _g := m0; clear _g; (fail_if_success (have _g := m1)); have m1 := hid trivial; refine (is_no ⟨#[105, 102]⟩ (R.out.bw bq) i1.out).mono ?_; clear ul uc uf ur; rintro e w1 ⟨rfl, hr1, hk1⟩; have KP := hid (show Kp r w w1 from KP.out.trans (Kp.trans (Kp.of_bw bq) hk1)); have P := hid (show Blk w1 wa.heap.size #[.int .i64 0, .int .i64 0, .string { data := #[] }, .int .i64 0, .int .i64 p0] 43 from P.out.kp (Kp.trans (Kp.of_bw bq) hk1) (by omega)); have R := hid hr1; have ul := P.out.lt; have uc := P.out.cell; have uf := P.out.free; have ur : r < w1.heap.size := R.out.lt; clear hr1 hk1)
    | fail)
  obtain ⟨g, c, q, x⟩ := R.out.x
  have X := hid x
  have gl := x.gl
  clear x
  refine wp_region_W (fun w' => w'.cell? ⟨r, 0, none⟩ = some (.slice (some ⟨g, 0, none⟩) T.length c) ∧ w'.cell? ⟨r, 1, none⟩ = some (.int .i64 s.i) ∧ w'.cell? ⟨g, (s.i + 1) * 4, none⟩ = some (.int .i64 kn)) (fun j => if j == 1 then 0 else 1) (by kernel_rfl) ?_
  refine tkW (i := 0) (oi := oDfn0) (v := ?_) rfl (Or.inl ⟨by rfl, fun w _ => ?_⟩) ?_
  rotate_left
  · (go_simp; first | done | with_reducible rfl)
  try simp only [oDfn0, Act.put, sqA, sqZ, sqS]
  refine wpAnyW_ready (rs := [1]) (by kernel_rfl) (by simp) ?_
  refine (AllReadyW.cons (o := oDfn1) rfl (fun K hK => ?_) AllReadyW.nil)
  go_simp
  have m2 := hid trivial
  refine (is_ahead ⟨#[102, 110]⟩ R.out X.out bq y.out).mono ?_
  clear ul uc uf ur
  rintro e w1 ⟨he1, hr1, hk1, f0, f1, f2⟩
  subst he1
  have f3 := f2 (s.i + 1) HN.out
  rw [KN.out] at f3
  clear f2
  have KP := hid (show Kp r w w1 from KP.out.trans (Kp.trans (Kp.of_bw bq) hk1))
  have P := hid (show Blk w1 wa.heap.size #[.int .i64 0, .int .i64 0, .string { data := #[] }, .int .i64 0, .int .i64 p0] 43 from P.out.kp (Kp.trans (Kp.of_bw bq) hk1) (by omega))
  have R := hid hr1
  have ul := P.out.lt
  have uc := P.out.cell
  have uf := P.out.free
  have ur : r < w1.heap.size := R.out.lt
  clear hr1 hk1
  refine hK.out _ _ (show _ ∧ _ ∧ _ from ⟨f0, f1, f3⟩) ?_
  clear hK K
  try simp only [oDfn1, Act.put, sqA, sqZ, sqS]
  refine tkW (i := 2) (oi := oDfn2) (v := ?_) rfl (Or.inl ⟨by rfl, fun w _ => ?_⟩) ?_
  rotate_left
  · (go_simp; first | done | with_reducible rfl)
  try simp only [oDfn2, Act.put, sqA, sqZ, sqS]
  refine tkW (i := 3) (oi := oDfn3) (v := ?_) rfl (Or.inl ⟨by rfl, fun w _ => ?_⟩) ?_
  rotate_left
  · (go_simp; first | done | with_reducible rfl)
  try simp only [oDfn3, Act.put, sqA, sqZ, sqS]
  refine tkW (i := 4) (oi := oDfn4) (v := ?_) rfl (Or.inl ⟨by rfl, fun w _ => ?_⟩) ?_
  rotate_left
  · (go_simp; first | done | with_reducible rfl)
  try simp only [oDfn4, Act.put, sqA, sqZ, sqS]
  refine tkW (i := 5) (oi := oDfn5) (v := ?_) rfl (Or.inl ⟨by rfl, fun w _ => ?_⟩) ?_
  rotate_left
  · (go_simp; first | done | with_reducible rfl)
  try simp only [oDfn5, Act.put, sqA, sqZ, sqS]
  refine ldW (i := 6) (oi := oDfn6) (v := ?_) rfl (Or.inl ⟨by rfl, fun w hS => ?_⟩) (show _ ∧ _ ∧ _ from ⟨f0, f1, f3⟩) ?_
  rotate_left
  · (obtain ⟨hs0, hs1, hs2⟩ := hS; go_simp; first | done | with_reducible rfl)
  try simp only [oDfn6, Act.put, sqA, sqZ, sqS]
  refine tkW (i := 7) (oi := oDfn7) (v := ?_) rfl (Or.inl ⟨by rfl, fun w _ => ?_⟩) ?_
  rotate_left
  · (go_simp; first | done | with_reducible rfl)
  try simp only [oDfn7, Act.put, sqA, sqZ, sqS]
  refine tkW (i := 8) (oi := oDfn8) (v := ?_) rfl (Or.inl ⟨by rfl, fun w _ => ?_⟩) ?_
  rotate_left
  · (go_simp; first | done | with_reducible rfl)
  try simp only [oDfn8, Act.put, sqA, sqZ, sqS]
  refine tkW (i := 9) (oi := oDfn9) (v := ?_) rfl (Or.inl ⟨by rfl, fun w _ => ?_⟩) ?_
  rotate_left
  · (go_simp; first | done | with_reducible rfl)
  try simp only [oDfn9, Act.put, sqA, sqZ, sqS]
  refine ldW (i := 10) (oi := oDfn10) (v := ?_) rfl (Or.inl ⟨by rfl, fun w hS => ?_⟩) (show _ ∧ _ ∧ _ from ⟨f0, f1, f3⟩) ?_
  rotate_left
  · (obtain ⟨hs0, hs1, hs2⟩ := hS; go_simp; first | done | with_reducible rfl)
  try simp only [oDfn10, Act.put, sqA, sqZ, sqS]
  refine tkW (i := 11) (oi := oDfn11) (v := ?_) rfl (Or.inl ⟨by rfl, fun w _ => ?_⟩) ?_
  rotate_left
  · (go_simp; first | done | with_reducible rfl)
  try simp only [oDfn11, Act.put, sqA, sqZ, sqS]
  try simp only [WR]
  refine tkW (i := 12) (oi := oDfn12) (v := ?_) rfl (Or.inl ⟨by rfl, fun w _ => ?_⟩) ?_
  rotate_left
  · (go_simp; first | done | with_reducible rfl)
  try simp only [oDfn12, Act.put, sqA, sqZ, sqS]
  try simp only [hto]
  refine tkW (i := 13) (oi := oDfn13) (v := ?_) rfl (Or.inl ⟨by rfl, fun w _ => ?_⟩) ?_
  rotate_left
  · (go_simp; first | done | with_reducible rfl)
  try simp only [oDfn13, Act.put, sqA, sqZ, sqS]
  refine ldW (i := 14) (oi := oDfn14) (v := ?_) rfl (Or.inl ⟨by rfl, fun w hS => ?_⟩) (show _ ∧ _ ∧ _ from ⟨f0, f1, f3⟩) ?_
  rotate_left
  · (obtain ⟨hs0, hs1, hs2⟩ := hS; go_simp; first | done | with_reducible rfl)
  try simp only [oDfn14, Act.put, sqA, sqZ, sqS]
  refine tkW (i := 15) (oi := oDfn15) (v := ?_) rfl (Or.inl ⟨by rfl, fun w _ => ?_⟩) ?_
  rotate_left
  · (go_simp; first | done | with_reducible rfl)
  try simp only [oDfn15, Act.put, sqA, sqZ, sqS]
  refine tkW (i := 16) (oi := oDfn16) (v := ?_) rfl (Or.inl ⟨by rfl, fun w _ => ?_⟩) ?_
  rotate_left
  · (go_simp; first | done | with_reducible rfl)
  try simp only [oDfn16, Act.put, sqA, sqZ, sqS]
  refine tkW (i := 17) (oi := oDfn17) (v := ?_) rfl (Or.inl ⟨by rfl, fun w _ => ?_⟩) ?_
  rotate_left
  · (go_simp; first | done | with_reducible rfl)
  try simp only [oDfn17, Act.put, sqA, sqZ, sqS]
  refine wpAnyW_done (by kernel_rfl) ?_ _
  all_goals go_wp2_with (first
    | (go_at_call 47; have _g := m2; clear _g; (fail_if_success (have _g := m3)); have m3 := hid trivial; refine (eat_no ⟨#[118, 97, 114]⟩ (R.out.bw bq) i3.out).mono ?_; clear ul uc uf ur; rintro e w1 ⟨rfl, hr1, hk1⟩; have KP := hid (show Kp r w w1 from KP.out.trans (Kp.trans (Kp.of_bw bq) hk1)); have P := hid (show Blk w1 wa.heap.size #[.int .i64 0, .int .i64 0, .string { data := #[] }, .int .i64 0, .int .i64 p0] 43 from P.out.kp (Kp.trans (Kp.of_bw bq) hk1) (by omega)); have R := hid hr1; have ul := P.out.lt; have uc := P.out.cell; have uf := P.out.free; have ur : r < w1.heap.size := R.out.lt; clear hr1 hk1)
    | (go_at_call 47; have _g := m3; clear _g; (fail_if_success (have _g := m4)); have m4 := hid trivial; refine (eat_no ⟨#[119, 104, 105, 108, 101]⟩ (R.out.bw bq) i4.out).mono ?_; clear ul uc uf ur; rintro e w1 ⟨rfl, hr1, hk1⟩; have KP := hid (show Kp r w w1 from KP.out.trans (Kp.trans (Kp.of_bw bq) hk1)); have P := hid (show Blk w1 wa.heap.size #[.int .i64 0, .int .i64 0, .string { data := #[] }, .int .i64 0, .int .i64 p0] 43 from P.out.kp (Kp.trans (Kp.of_bw bq) hk1) (by omega)); have R := hid hr1; have ul := P.out.lt; have uc := P.out.cell; have uf := P.out.free; have ur : r < w1.heap.size := R.out.lt; clear hr1 hk1)
    | (go_at_call 47; have _g := m4; clear _g; (fail_if_success (have _g := m5)); have m5 := hid trivial; refine (eat_no ⟨#[98, 114, 101, 97, 107]⟩ (R.out.bw bq) i5.out).mono ?_; clear ul uc uf ur; rintro e w1 ⟨rfl, hr1, hk1⟩; have KP := hid (show Kp r w w1 from KP.out.trans (Kp.trans (Kp.of_bw bq) hk1)); have P := hid (show Blk w1 wa.heap.size #[.int .i64 0, .int .i64 0, .string { data := #[] }, .int .i64 0, .int .i64 p0] 43 from P.out.kp (Kp.trans (Kp.of_bw bq) hk1) (by omega)); have R := hid hr1; have ul := P.out.lt; have uc := P.out.cell; have uf := P.out.free; have ur : r < w1.heap.size := R.out.lt; clear hr1 hk1)
    | (go_at_call 47; have _g := m5; clear _g; (fail_if_success (have _g := m6)); have m6 := hid trivial; refine (eat_no ⟨#[99, 111, 110, 116, 105, 110, 117, 101]⟩ (R.out.bw bq) i6.out).mono ?_; clear ul uc uf ur; rintro e w1 ⟨rfl, hr1, hk1⟩; have KP := hid (show Kp r w w1 from KP.out.trans (Kp.trans (Kp.of_bw bq) hk1)); have P := hid (show Blk w1 wa.heap.size #[.int .i64 0, .int .i64 0, .string { data := #[] }, .int .i64 0, .int .i64 p0] 43 from P.out.kp (Kp.trans (Kp.of_bw bq) hk1) (by omega)); have R := hid hr1; have ul := P.out.lt; have uc := P.out.cell; have uf := P.out.free; have ur : r < w1.heap.size := R.out.lt; clear hr1 hk1)
    | (go_at_call 47; have _g := m6; clear _g; (fail_if_success (have _g := m7)); have m7 := hid trivial; refine (eat_no ⟨#[114, 101, 116, 117, 114, 110]⟩ (R.out.bw bq) i7.out).mono ?_; clear ul uc uf ur; rintro e w1 ⟨rfl, hr1, hk1⟩; have KP := hid (show Kp r w w1 from KP.out.trans (Kp.trans (Kp.of_bw bq) hk1)); have P := hid (show Blk w1 wa.heap.size #[.int .i64 0, .int .i64 0, .string { data := #[] }, .int .i64 0, .int .i64 p0] 43 from P.out.kp (Kp.trans (Kp.of_bw bq) hk1) (by omega)); have R := hid hr1; have ul := P.out.lt; have uc := P.out.cell; have uf := P.out.free; have ur : r < w1.heap.size := R.out.lt; clear hr1 hk1)
    | (go_at_call 47; have _g := m7; clear _g; (fail_if_success (have _g := m8)); have m8 := hid trivial; refine (eat_no ⟨#[116, 104, 114, 111, 119]⟩ (R.out.bw bq) i8.out).mono ?_; clear ul uc uf ur; rintro e w1 ⟨rfl, hr1, hk1⟩; have KP := hid (show Kp r w w1 from KP.out.trans (Kp.trans (Kp.of_bw bq) hk1)); have P := hid (show Blk w1 wa.heap.size #[.int .i64 0, .int .i64 0, .string { data := #[] }, .int .i64 0, .int .i64 p0] 43 from P.out.kp (Kp.trans (Kp.of_bw bq) hk1) (by omega)); have R := hid hr1; have ul := P.out.lt; have uc := P.out.cell; have uf := P.out.free; have ur : r < w1.heap.size := R.out.lt; clear hr1 hk1)
    | (go_at_call 47; have _g := m8; clear _g; (fail_if_success (have _g := m9)); have m9 := hid trivial; refine (eat_no ⟨#[116, 114, 121]⟩ (R.out.bw bq) i9.out).mono ?_; clear ul uc uf ur; rintro e w1 ⟨rfl, hr1, hk1⟩; have KP := hid (show Kp r w w1 from KP.out.trans (Kp.trans (Kp.of_bw bq) hk1)); have P := hid (show Blk w1 wa.heap.size #[.int .i64 0, .int .i64 0, .string { data := #[] }, .int .i64 0, .int .i64 p0] 43 from P.out.kp (Kp.trans (Kp.of_bw bq) hk1) (by omega)); have R := hid hr1; have ul := P.out.lt; have uc := P.out.cell; have uf := P.out.free; have ur : r < w1.heap.size := R.out.lt; clear hr1 hk1)
    | (go_at_call 51; (fail_if_success (have _g := m20)); have m20 := hid trivial; refine (HV.out _ (R.out.bw bq)).mono ?_; rintro e w2 ⟨a2, c2, rfl, hn2, hr2, hk2, hl2⟩; have N := hid (hn2.low (b' := w.heap.size) (Nat.le_trans KP.out.size (by first | (simp; done) | exact Nat.le_refl _))); have KP := hid (show Kp r w w2 from KP.out.trans (Kp.trans (Kp.of_bw bq) hk2)); have R := hid hr2; have L := hid hl2; clear hn2 hr2 hk2 hl2)
    | fail)
  all_goals go_ret
  all_goals exact ⟨_, _, rfl, N.out, R.out, KP.out, L.out⟩

theorem RdM.nx3 (h : RdM w r T o s) (hk : (dtk T s.i).1 ≠ 0) : RdM (w.setCell ⟨r, 1, none⟩ (.int .i64 ((s.i : Int) + 1))) r T o (dNx s) := h.nx2 hk

set_option maxRecDepth 100000 in
set_option maxHeartbeats 8000000 in
theorem stmt_fn (i0 : dIs T s ⟨#[123]⟩ = false) (i1 : dIs T s ⟨#[105, 102]⟩ = false) (y : dIs T s ⟨#[102, 110]⟩ = true) (k1 : (dtk T (s.i + 1)).1 = 1) (HV : ∀ w1 : World, RdM w1 r T o (dNameS T (dNx s)) → Calls Tryd.prog 46 #[.pointer (some ⟨r, 0, none⟩), nodeV (12, 0, dNameT T (dNx s), 0, dAt T s)] w1 (DG w1 r T o l s')) (hr : RdM w r T o s) : Calls Tryd.prog 21 #[.pointer (some ⟨r, 0, none⟩)] w (DG w r T o l s') := by
  have HR := hid hr
  have hrl := hr.lt
  have HAT := hid (fun w1 (hw : Bw w w1) => dat_any (hr.bw hw))
  have hn := hr.n s.i hr.i (dIs_kind y)
  have HN := hid hn
  have hi1 : (0 : Int) ≤ (s.i : Int) := by omega
  obtain ⟨gz, cz, qz, xz⟩ := hr.x
  have hl1 := xz.l
  have hi2 : (s.i : Int) + 1 < (T.length : Int) := by omega
  have hi3 : (0 : Int) ≤ (s.i : Int) + 1 := by omega
  have WR : IntKind.i64.wrap ((s.i : Int) + 1) = (s.i : Int) + 1 := by rw [IntKind.wrap_i64]; omega
  have hto : ((s.i : Int) + 1).toNat = s.i + 1 := by omega
  obtain ⟨kn, hkn⟩ : ∃ kn, (dtk T (s.i + 1)).1 = kn := ⟨_, rfl⟩
  rw [hkn] at k1
  have KN := hid hkn
  have ek : (kn == 1) = true := by simpa using k1
  have HK0 := hid (dIs_kind y)
  clear k1
  have i0 := hid i0
  have i1 := hid i1
  have y := hid y
  have HV := hid HV
  have HNM := hid (fun w1 (hw : RdM w1 r T o (dNx s)) => dname_any hw)
  simp only [nodeV] at HV
  generalize dNameS T (dNx s) = D at *
  generalize dNameT T (dNx s) = nx at *
  clear hr hkn xz hn
  unfold DG at *
  generalize dAt T s = p0 at *
  go_enter Tryd.func21, Tryd.ntmps21
  go_wp2_with (first
    | (go_at_call 41; (fail_if_success (have _g := B1)); refine (HAT.out _ (Bw.refl _)).mono ?_; rintro e wa ⟨rfl, hb1⟩; have B1 := hid hb1; have hra : w.heap.size ≤ wa.heap.size := hb1.size; have R := hid (HR.out.bw hb1); have KP := hid (Kp.of_bw (r := r) hb1); clear hb1)
    | (go_at_call 42; (fail_if_success (have _g := m0)); have m0 := hid trivial; refine (is_no ⟨#[123]⟩ (R.out.bw bq) i0.out).mono ?_; rintro e w1 ⟨rfl, hr1, hk1⟩; have KP := hid (show Kp r w w1 from KP.out.trans (Kp.trans (Kp.of_bw bq) hk1)); have R := hid hr1; have P := hid (show Blk w1 wa.heap.size #[.int .i64 0, .int .i64 0, .string { data := #[] }, .int .i64 0, .int .i64 p0] 43 from (Blk.new wa _ _).kp hk1 (by omega)); have ul := P.out.lt; have uc := P.out.cell; have uf := P.out.free; have ur : r < w1.heap.size := R.out.lt; clear hr1 hk1)
    | (go_at_call 42; have _g := m0; clear _g; (fail_if_success (have _g := m1)); have m1 := hid trivial; refine (is_no ⟨#[105, 102]⟩ (R.out.bw bq) i1.out).mono ?_; clear ul uc uf ur; rintro e w1 ⟨rfl, hr1, hk1⟩; have KP := hid (show Kp r w w1 from KP.out.trans (Kp.trans (Kp.of_bw bq) hk1)); have P := hid (show Blk w1 wa.heap.size #[.int .i64 0, .int .i64 0, .string { data := #[] }, .int .i64 0, .int .i64 p0] 43 from P.out.kp (Kp.trans (Kp.of_bw bq) hk1) (by omega)); have R := hid hr1; have ul := P.out.lt; have uc := P.out.cell; have uf := P.out.free; have ur : r < w1.heap.size := R.out.lt; clear hr1 hk1)
    | fail)
  obtain ⟨g, c, q, x⟩ := R.out.x
  have X := hid x
  have gl := x.gl
  clear x
  refine wp_region_W (fun w' => w'.cell? ⟨r, 0, none⟩ = some (.slice (some ⟨g, 0, none⟩) T.length c) ∧ w'.cell? ⟨r, 1, none⟩ = some (.int .i64 s.i) ∧ w'.cell? ⟨g, (s.i + 1) * 4, none⟩ = some (.int .i64 kn)) (fun j => if j == 1 then 0 else 1) (by kernel_rfl) ?_
  refine tkW (i := 0) (oi := oDfn0) (v := ?_) rfl (Or.inl ⟨by rfl, fun w _ => ?_⟩) ?_
  rotate_left
  · (go_simp; first | done | with_reducible rfl)
  try simp only [oDfn0, Act.put, sqA, sqZ, sqS]
  refine wpAnyW_ready (rs := [1]) (by kernel_rfl) (by simp) ?_
  refine (AllReadyW.cons (o := oDfn1) rfl (fun K hK => ?_) AllReadyW.nil)
  go_simp
  have m2 := hid trivial
  refine (is_ahead ⟨#[102, 110]⟩ R.out X.out bq y.out).mono ?_
  clear ul uc uf ur
  rintro e w1 ⟨he1, hr1, hk1, f0, f1, f2⟩
  subst he1
  have fr : w1.frozen? ⟨r, 1, none⟩ = false := (by (obtain ⟨_, _, _, x2⟩ := hr1.x); exact x2.b.free 1)
  have f3 := f2 (s.i + 1) HN.out
  rw [KN.out] at f3
  clear f2
  have KP := hid (show Kp r w w1 from KP.out.trans (Kp.trans (Kp.of_bw bq) hk1))
  have P := hid (show Blk w1 wa.heap.size #[.int .i64 0, .int .i64 0, .string { data := #[] }, .int .i64 0, .int .i64 p0] 43 from P.out.kp (Kp.trans (Kp.of_bw bq) hk1) (by omega))
  have R := hid hr1
  have ul := P.out.lt
  have uc := P.out.cell
  have uf := P.out.free
  have ur : r < w1.heap.size := R.out.lt
  clear hr1 hk1
  refine hK.out _ _ (show _ ∧ _ ∧ _ from ⟨f0, f1, f3⟩) ?_
  clear hK K
  try simp only [oDfn1, Act.put, sqA, sqZ, sqS]
  refine tkW (i := 2) (oi := oDfn2) (v := ?_) rfl (Or.inl ⟨by rfl, fun w _ => ?_⟩) ?_
  rotate_left
  · (go_simp; first | done | with_reducible rfl)
  try simp only [oDfn2, Act.put, sqA, sqZ, sqS]
  refine tkW (i := 3) (oi := oDfn3) (v := ?_) rfl (Or.inl ⟨by rfl, fun w _ => ?_⟩) ?_
  rotate_left
  · (go_simp; first | done | with_reducible rfl)
  try simp only [oDfn3, Act.put, sqA, sqZ, sqS]
  refine tkW (i := 4) (oi := oDfn4) (v := ?_) rfl (Or.inl ⟨by rfl, fun w _ => ?_⟩) ?_
  rotate_left
  · (go_simp; first | done | with_reducible rfl)
  try simp only [oDfn4, Act.put, sqA, sqZ, sqS]
  refine tkW (i := 5) (oi := oDfn5) (v := ?_) rfl (Or.inl ⟨by rfl, fun w _ => ?_⟩) ?_
  rotate_left
  · (go_simp; first | done | with_reducible rfl)
  try simp only [oDfn5, Act.put, sqA, sqZ, sqS]
  refine ldW (i := 6) (oi := oDfn6) (v := ?_) rfl (Or.inl ⟨by rfl, fun w hS => ?_⟩) (show _ ∧ _ ∧ _ from ⟨f0, f1, f3⟩) ?_
  rotate_left
  · (obtain ⟨hs0, hs1, hs2⟩ := hS; go_simp; first | done | with_reducible rfl)
  try simp only [oDfn6, Act.put, sqA, sqZ, sqS]
  refine tkW (i := 7) (oi := oDfn7) (v := ?_) rfl (Or.inl ⟨by rfl, fun w _ => ?_⟩) ?_
  rotate_left
  · (go_simp; first | done | with_reducible rfl)
  try simp only [oDfn7, Act.put, sqA, sqZ, sqS]
  refine tkW (i := 8) (oi := oDfn8) (v := ?_) rfl (Or.inl ⟨by rfl, fun w _ => ?_⟩) ?_
  rotate_left
  · (go_simp; first | done | with_reducible rfl)
  try simp only [oDfn8, Act.put, sqA, sqZ, sqS]
  refine tkW (i := 9) (oi := oDfn9) (v := ?_) rfl (Or.inl ⟨by rfl, fun w _ => ?_⟩) ?_
  rotate_left
  · (go_simp; first | done | with_reducible rfl)
  try simp only [oDfn9, Act.put, sqA, sqZ, sqS]
  refine ldW (i := 10) (oi := oDfn10) (v := ?_) rfl (Or.inl ⟨by rfl, fun w hS => ?_⟩) (show _ ∧ _ ∧ _ from ⟨f0, f1, f3⟩) ?_
  rotate_left
  · (obtain ⟨hs0, hs1, hs2⟩ := hS; go_simp; first | done | with_reducible rfl)
  try simp only [oDfn10, Act.put, sqA, sqZ, sqS]
  refine tkW (i := 11) (oi := oDfn11) (v := ?_) rfl (Or.inl ⟨by rfl, fun w _ => ?_⟩) ?_
  rotate_left
  · (go_simp; first | done | with_reducible rfl)
  try simp only [oDfn11, Act.put, sqA, sqZ, sqS]
  try simp only [WR]
  refine tkW (i := 12) (oi := oDfn12) (v := ?_) rfl (Or.inl ⟨by rfl, fun w _ => ?_⟩) ?_
  rotate_left
  · (go_simp; first | done | with_reducible rfl)
  try simp only [oDfn12, Act.put, sqA, sqZ, sqS]
  try simp only [hto]
  refine tkW (i := 13) (oi := oDfn13) (v := ?_) rfl (Or.inl ⟨by rfl, fun w _ => ?_⟩) ?_
  rotate_left
  · (go_simp; first | done | with_reducible rfl)
  try simp only [oDfn13, Act.put, sqA, sqZ, sqS]
  refine ldW (i := 14) (oi := oDfn14) (v := ?_) rfl (Or.inl ⟨by rfl, fun w hS => ?_⟩) (show _ ∧ _ ∧ _ from ⟨f0, f1, f3⟩) ?_
  rotate_left
  · (obtain ⟨hs0, hs1, hs2⟩ := hS; go_simp; first | done | with_reducible rfl)
  try simp only [oDfn14, Act.put, sqA, sqZ, sqS]
  refine tkW (i := 15) (oi := oDfn15) (v := ?_) rfl (Or.inl ⟨by rfl, fun w _ => ?_⟩) ?_
  rotate_left
  · (go_simp; first | done | with_reducible rfl)
  try simp only [oDfn15, Act.put, sqA, sqZ, sqS]
  refine tkW (i := 16) (oi := oDfn16) (v := ?_) rfl (Or.inl ⟨by rfl, fun w _ => ?_⟩) ?_
  rotate_left
  · (go_simp; first | done | with_reducible rfl)
  try simp only [oDfn16, Act.put, sqA, sqZ, sqS]
  refine tkW (i := 17) (oi := oDfn17) (v := ?_) rfl (Or.inl ⟨by rfl, fun w _ => ?_⟩) ?_
  rotate_left
  · (go_simp; first | done | with_reducible rfl)
  try simp only [oDfn17, Act.put, sqA, sqZ, sqS]
  refine wpAnyW_done (by kernel_rfl) ?_ _
  all_goals go_wp2_with (first
    | (go_at_call 45; refine (HNM.out _ (R.out.nx3 HK0.out)).mono ?_; clear ul uc uf ur; rintro e w1 ⟨rfl, hr1, hk1⟩; have KP := hid (show Kp r w w1 from Kp.trans (KP.out.set 1 _) hk1); have P := hid (show Blk w1 wa.heap.size #[.int .i64 0, .int .i64 0, .string { data := #[] }, .int .i64 0, .int .i64 p0] 43 from (P.out.kp ((Kp.refl r _).set 1 _) (by omega)).kp hk1 (by omega)); have R := hid hr1; have ul := P.out.lt; have uc := P.out.cell; have uf := P.out.free; have ur : r < w1.heap.size := R.out.lt; clear hr1 hk1)
    | (go_at_call 46; refine (HV.out _ ((R.out.setO P.out 0 _).setO (P.out.set 0 _) 2 _)).mono ?_; rintro e w2 ⟨a2, c2, rfl, hn2, hr2, hk2, hl2⟩; have N := hid (hn2.low (b' := w.heap.size) (by simp only [World.size_setCell]; omega)); have KP := hid (show Kp r w w2 from Kp.trans ((KP.out.setNew hra 0 _).setNew hra 2 _) hk2); have R := hid hr2; have L := hid hl2; clear hn2 hr2 hk2 hl2)
    | fail)
  all_goals go_ret
  all_goals exact ⟨_, _, rfl, N.out, R.out, KP.out, L.out⟩

end

end Go.Proofs.YtdhkcdehedbpcaaDoor

set_option linter.unusedSimpArgs false
set_option linter.unusedVariables false
namespace Go.Proofs.YtdhkcdehedbpcaaDoor
open Go Go.RowKit

section
variable {w w' : World} {r f : Nat} {T : List ATok} {o : Int} {s s' : DS} {l : List ANode} {k : Int}

theorem dIs_other {t t' : ByteArray} (h : dIs T s t = true) (hn : t ≠ t') : dIs T s t' = false := by
  cases e : dIs T s t'
  · rfl
  · unfold dIs at h e
    simp only [Bool.and_eq_true, decide_eq_true_eq] at h e
    exact absurd (h.2.symm.trans e.2) hn
theorem stmt_step (hc : ∀ g, g ≤ f → Con T r g) (h : dR T (f + 1) .stmt o s = some (l, k, s')) (hr : RdM w r T o s) : Calls Tryd.prog 21 #[.pointer (some ⟨r, 0, none⟩)] w (DG w r T o l s') := by
  have hf := hc f (Nat.le_refl _)
  unfold dR at h
  rcases ite_some h with ⟨y, h⟩ | ⟨y0, h⟩
  · exact stmt_block y (fun w1 hw => hf.block h hw) hr
  have i0 : dIs T s ⟨#[123]⟩ = false := by simpa using y0
  clear y0
  rcases ite_some h with ⟨y, h⟩ | ⟨y1, h⟩
  · exact stmt_choice i0 y (fun w1 hw => hf.choice h hw) hr
  have i1 : dIs T s ⟨#[105, 102]⟩ = false := by simpa using y1
  clear y1
  rcases ite_some h with ⟨⟨y, k1⟩, h⟩ | ⟨y2, h⟩
  · exact stmt_fn i0 i1 y k1 (fun w1 hw => hf.func _ h hw) hr
  rcases ite_some h with ⟨y, h⟩ | ⟨y3, h⟩
  · have i2 : dIs T s ⟨#[102, 110]⟩ = false := dIs_other y (by decide)
    obtain ⟨⟨l1, k1, s1⟩, h1, h2⟩ := bnd h
    obtain ⟨rfl, rfl, hlen⟩ := rete3 h2
    exact stmt_var i0 i1 i2 y (fun w1 hw => hf.expr 0 h1 hw) hlen hr
  have i3 : dIs T s ⟨#[118, 97, 114]⟩ = false := by simpa using y3
  clear y3
  rcases ite_some h with ⟨y, h⟩ | ⟨y4, h⟩
  · have i2 : dIs T s ⟨#[102, 110]⟩ = false := dIs_other y (by decide)
    obtain ⟨⟨l1, k1, s1⟩, h1, h2⟩ := bnd h
    obtain ⟨⟨l2, k2, s2⟩, h3, h4⟩ := bnd h2
    obtain ⟨rfl, rfl, hlen⟩ := rete3 h4
    exact stmt_while i0 i1 i2 i3 y (fun w1 hw => hf.expr 0 h1 hw) (fun w1 hw => hf.block h3 hw) (dR_len h1) (dR_len h3) hlen hr
  have i4 : dIs T s ⟨#[119, 104, 105, 108, 101]⟩ = false := by simpa using y4
  clear y4
  rcases ite_some h with ⟨y, h⟩ | ⟨y5, h⟩
  · have i2 : dIs T s ⟨#[102, 110]⟩ = false := dIs_other y (by decide)
    obtain ⟨rfl, rfl, hlen⟩ := rete3 h
    exact stmt_break i0 i1 i2 i3 i4 y hr
  have i5 : dIs T s ⟨#[98, 114, 101, 97, 107]⟩ = false := by simpa using y5
  clear y5
  rcases ite_some h with ⟨y, h⟩ | ⟨y6, h⟩
  · have i2 : dIs T s ⟨#[102, 110]⟩ = false := dIs_other y (by decide)
    obtain ⟨rfl, rfl, hlen⟩ := rete3 h
    exact stmt_continue i0 i1 i2 i3 i4 i5 y hr
  have i6 : dIs T s ⟨#[99, 111, 110, 116, 105, 110, 117, 101]⟩ = false := by simpa using y6
  clear y6
  rcases ite_some h with ⟨y, h⟩ | ⟨y7, h⟩
  · have i2 : dIs T s ⟨#[102, 110]⟩ = false := dIs_other y (by decide)
    rcases ite_some h with ⟨y2, h⟩ | ⟨y2, h⟩
    · obtain ⟨rfl, rfl, hlen⟩ := rete3 h
      exact stmt_ret0 i0 i1 i2 i3 i4 i5 i6 y y2 hr
    · obtain ⟨⟨l1, k1, s1⟩, h1, h2⟩ := bnd h
      obtain ⟨rfl, rfl, hlen⟩ := rete3 h2
      exact stmt_ret1 i0 i1 i2 i3 i4 i5 i6 y (fun w1 hw => hf.expr 0 h1 hw) (by simpa using y2) hlen hr
  have i7 : dIs T s ⟨#[114, 101, 116, 117, 114, 110]⟩ = false := by simpa using y7
  clear y7
  rcases ite_some h with ⟨y, h⟩ | ⟨y8, h⟩
  · have i2 : dIs T s ⟨#[102, 110]⟩ = false := dIs_other y (by decide)
    obtain ⟨⟨l1, k1, s1⟩, h1, h2⟩ := bnd h
    obtain ⟨rfl, rfl, hlen⟩ := rete3 h2
    exact stmt_throw i0 i1 i2 i3 i4 i5 i6 i7 y (fun w1 hw => hf.expr 0 h1 hw) hlen hr
  have i8 : dIs T s ⟨#[116, 104, 114, 111, 119]⟩ = false := by simpa using y8
  clear y8
  rcases ite_some h with ⟨y, h⟩ | ⟨y9, h⟩
  · have i2 : dIs T s ⟨#[102, 110]⟩ = false := dIs_other y (by decide)
    obtain ⟨⟨l1, k1, s1⟩, h1, h2⟩ := bnd h
    obtain ⟨⟨l2, k2, s2⟩, h3, h4⟩ := bnd h2
    obtain ⟨rfl, rfl, hlen⟩ := rete3 h4
    exact stmt_try i0 i1 i2 i3 i4 i5 i6 i7 i8 y (fun w1 hw => hf.block h1 hw) (fun w1 hw => hf.block h3 hw) (dR_len h1) (dR_len h3) hlen hr
  have i9 : dIs T s ⟨#[116, 114, 121]⟩ = false := by simpa using y9
  clear y9
  cases yf : dIs T s ⟨#[102, 110]⟩
  · exact stmt_plain i0 i1 yf i3 i4 i5 i6 i7 i8 i9 (fun w1 hw => hf.plain h hw) hr
  · exact stmt_plain2 i0 i1 i3 i4 i5 i6 i7 i8 i9 yf (fun e => y2 ⟨yf, e⟩) (fun w1 hw => hf.plain h hw) hr

end

end Go.Proofs.YtdhkcdehedbpcaaDoor

