/- The document's parser: statement: contracts, by steps. -/
import Derived.Test.YtekkjpecdflajaaDoorM7
import Derived.Test.YtekkjpecdflajaaDoorM11
set_option linter.unusedSimpArgs false
set_option linter.unusedVariables false
namespace Go.Proofs.YtekkjpecdflajaaDoor
open Go Go.RowKit
open List (setIfInBounds_toArray set_cons_zero set_cons_succ)

@[go_sem] def od0 : Oper := { dst := some 23, op := Op.move (Operand.tmp 0), type := 52, pos := "ref.go:158", after := #[], guard := none }
@[go_sem] def od1 : Oper := { dst := some 24, op := Op.call { callee := Callee.value (Operand.func 28), args := #[Operand.tmp 23, Operand.const (Value.string { data := #[102, 110] })], argTypes := #[52, 9] }, type := 4, pos := "ref.go:158", after := #[{ on := 0, ground := Ground.data }], guard := none }
@[go_sem] def od2 : Oper := { dst := some 25, op := Op.move (Operand.tmp 24), type := 4, pos := "ref.go:158", after := #[{ on := 1, ground := Ground.data }, { on := 1, ground := Ground.chain }], guard := none }
@[go_sem] def od3 : Oper := { dst := some 26, op := Op.move (Operand.tmp 0), type := 52, pos := "ref.go:158", after := #[{ on := 2, ground := Ground.guard }], guard := some (2, true) }
@[go_sem] def od4 : Oper := { dst := some 27, op := Op.nilCheck (Operand.tmp 26), type := 0, pos := "ref.go:158", after := #[{ on := 3, ground := Ground.data }, { on := 2, ground := Ground.guard }], guard := some (2, true) }
@[go_sem] def od5 : Oper := { dst := some 28, op := Op.fieldAddr 54 (Operand.tmp 27) 0, type := 0, pos := "ref.go:158", after := #[{ on := 4, ground := Ground.data }, { on := 2, ground := Ground.guard }], guard := some (2, true) }
@[go_sem] def od6 : Oper := { dst := some 29, op := Op.load 49 (Operand.tmp 28), type := 49, pos := "ref.go:158", after := #[{ on := 5, ground := Ground.data }, { on := 2, ground := Ground.guard }], guard := some (2, true) }
@[go_sem] def od7 : Oper := { dst := some 30, op := Op.move (Operand.tmp 0), type := 52, pos := "ref.go:158", after := #[{ on := 2, ground := Ground.guard }], guard := some (2, true) }
@[go_sem] def od8 : Oper := { dst := some 31, op := Op.nilCheck (Operand.tmp 30), type := 0, pos := "ref.go:158", after := #[{ on := 7, ground := Ground.data }, { on := 2, ground := Ground.guard }], guard := some (2, true) }
@[go_sem] def od9 : Oper := { dst := some 32, op := Op.fieldAddr 54 (Operand.tmp 31) 1, type := 0, pos := "ref.go:158", after := #[{ on := 8, ground := Ground.data }, { on := 2, ground := Ground.guard }], guard := some (2, true) }
@[go_sem] def od10 : Oper := { dst := some 33, op := Op.load 3 (Operand.tmp 32), type := 3, pos := "ref.go:158", after := #[{ on := 9, ground := Ground.data }, { on := 2, ground := Ground.guard }], guard := some (2, true) }
@[go_sem] def od11 : Oper := { dst := some 34, op := Op.binOp BinOp.add 3 (Operand.tmp 33) (Operand.const (Value.int IntKind.i64 1)) 3, type := 3, pos := "ref.go:158", after := #[{ on := 10, ground := Ground.data }, { on := 2, ground := Ground.guard }], guard := some (2, true) }
@[go_sem] def od12 : Oper := { dst := some 35, op := Op.indexAddr 49 (Operand.tmp 29) (Operand.tmp 34), type := 0, pos := "ref.go:158", after := #[{ on := 6, ground := Ground.data }, { on := 11, ground := Ground.data }, { on := 2, ground := Ground.guard }], guard := some (2, true) }
@[go_sem] def od13 : Oper := { dst := some 36, op := Op.fieldAddr 56 (Operand.tmp 35) 0, type := 0, pos := "ref.go:158", after := #[{ on := 12, ground := Ground.data }, { on := 2, ground := Ground.guard }], guard := some (2, true) }
@[go_sem] def od14 : Oper := { dst := some 37, op := Op.load 3 (Operand.tmp 36), type := 3, pos := "ref.go:158", after := #[{ on := 13, ground := Ground.data }, { on := 2, ground := Ground.guard }], guard := some (2, true) }
@[go_sem] def od15 : Oper := { dst := some 38, op := Op.binOp BinOp.eql 3 (Operand.tmp 37) (Operand.const (Value.int IntKind.i64 1)) 3, type := 4, pos := "ref.go:158", after := #[{ on := 14, ground := Ground.data }, { on := 2, ground := Ground.guard }], guard := some (2, true) }
@[go_sem] def od16 : Oper := { dst := some 39, op := Op.pick (Operand.tmp 25) (Operand.tmp 38) (Operand.const (Value.bool false)), type := 4, pos := "ref.go:158", after := #[{ on := 2, ground := Ground.data }, { on := 15, ground := Ground.data }], guard := none }
@[go_sem] def od17 : Oper := { dst := some 22, op := Op.assign (Operand.tmp 39), type := 4, pos := "ref.go:158", after := #[{ on := 16, ground := Ground.data }, { on := 2, ground := Ground.chain }], guard := none }

section
attribute [local irreducible] dIs
variable {w w' : World} {r f : Nat} {T : List ATok} {o : Int} {s s' : DS} {l : List ANode} {k : Int}

theorem dIs_kind {t : ByteArray} (h : dIs T s t = true) : (dtk T s.i).1 ≠ 0 := by
  unfold dIs at h
  intro e
  rw [e] at h
  simp at h
theorem is_ahead {g c : Nat} {q : Int} {w0 : World} (t : ByteArray) (h0 : RdM w0 r T o s) (x : Rdx w0 r g c q T o s) (hb0 : Bw w0 w) (hi : dIs T s t = true) : Calls Tryd.prog 28 #[.pointer (some ⟨r, 0, none⟩), .string t] w fun e w' => e = .returned (.bool true) ∧ RdM w' r T o s ∧ Kp r w w' ∧ (w'.cell? ⟨r, 0, none⟩ = some (.slice (some ⟨g, 0, none⟩) T.length c) ∧ w'.cell? ⟨r, 1, none⟩ = some (.int .i64 s.i) ∧ ∀ i, i < T.length → w'.cell? ⟨g, i * 4, none⟩ = some (.int .i64 (dtk T i).1)) := by
  have h := h0.bw hb0
  refine (dis_any t h).mono ?_
  rintro e w1 ⟨rfl, hb⟩
  rw [hi]
  obtain ⟨g', c', q', x'⟩ := (h.bw hb).x
  have e0 := (x.b.bw (hb0.trans hb)).cell 0
  have e1 := x'.b.cell 0
  rw [e0] at e1
  cases e1
  exact ⟨rfl, h.bw hb, Kp.of_bw hb, (x.b.bw (hb0.trans hb)).cell 0, (x.b.bw (hb0.trans hb)).cell 1, x'.c0⟩

set_option maxRecDepth 100000 in
set_option maxHeartbeats 8000000 in
theorem stmt_plain2 (i0 : dIs T s ⟨#[123]⟩ = false) (i1 : dIs T s ⟨#[105, 102]⟩ = false) (i3 : dIs T s ⟨#[118, 97, 114]⟩ = false) (i4 : dIs T s ⟨#[119, 104, 105, 108, 101]⟩ = false) (i5 : dIs T s ⟨#[98, 114, 101, 97, 107]⟩ = false) (i6 : dIs T s ⟨#[99, 111, 110, 116, 105, 110, 117, 101]⟩ = false) (i7 : dIs T s ⟨#[114, 101, 116, 117, 114, 110]⟩ = false) (i8 : dIs T s ⟨#[116, 104, 114, 111, 119]⟩ = false) (i9 : dIs T s ⟨#[116, 114, 121]⟩ = false) (y : dIs T s ⟨#[102, 110]⟩ = true) (k1 : (dtk T (s.i + 1)).1 ≠ 1) (HV : ∀ w1 : World, RdM w1 r T o s → Calls Tryd.prog 37 #[.pointer (some ⟨r, 0, none⟩)] w1 (DG w1 r T o l s')) (hr : RdM w r T o s) : Calls Tryd.prog 14 #[.pointer (some ⟨r, 0, none⟩)] w (DG w r T o l s') := by
  have HR := hid hr
  have hrl := hr.lt
  have HAT := hid (fun w1 (hw : Bw w w1) => dat_any (hr.bw hw))
  have hn := hr.n s.i hr.i (dIs_kind y)
  have HN := hid hn
  have hi1 : (0 : Int) ≤ (s.i : Int) := by omega
  obtain ⟨gz, cz, qz, xz⟩ := hr.x
  have hl1 := xz.l
  have hi2 : (s.i : Int) + 1 < (T.length : Int) := by omega
  have hi3 : (0 : Int) ≤ (s.i : Int) + 1 := by omega
  have WR : IntKind.i64.wrap ((s.i : Int) + 1) = (s.i : Int) + 1 := by rw [IntKind.wrap_i64]; omega
  have hto : ((s.i : Int) + 1).toNat = s.i + 1 := by omega
  obtain ⟨kn, hkn⟩ : ∃ kn, (dtk T (s.i + 1)).1 = kn := ⟨_, rfl⟩
  rw [hkn] at k1
  have KN := hid hkn
  have ek : (kn == 1) = false := by simpa using k1
  clear k1
  have i0 := hid i0
  have i1 := hid i1
  have i3 := hid i3
  have i4 := hid i4
  have i5 := hid i5
  have i6 := hid i6
  have i7 := hid i7
  have i8 := hid i8
  have i9 := hid i9
  have y := hid y
  have HV := hid HV
  clear hr hkn xz hn
  unfold DG at *
  generalize dAt T s = p0 at *
  go_enter Tryd.func14, Tryd.ntmps14
  go_wp2_with (first
    | (go_at_call 27; (fail_if_success (have _g := B1)); refine (HAT.out _ (Bw.refl _)).mono ?_; rintro e wa ⟨rfl, hb1⟩; have B1 := hid hb1; have hra : w.heap.size ≤ wa.heap.size := hb1.size; have R := hid (HR.out.bw hb1); have KP := hid (Kp.of_bw (r := r) hb1); clear hb1)
    | (go_at_call 28; (fail_if_success (have _g := m0)); have m0 := hid trivial; refine (is_no ⟨#[123]⟩ (R.out.bw (by repeat (first | exact Bw.refl _ | apply Bw.alloc | apply Bw.drewN | apply Bw.drew))) i0.out).mono ?_; rintro e w1 ⟨rfl, hr1, hk1⟩; have KP := hid (show Kp r w w1 from KP.out.trans (Kp.trans (Kp.of_bw (by repeat (first | exact Bw.refl _ | apply Bw.alloc | apply Bw.drewN | apply Bw.drew))) hk1)); have R := hid hr1; have P := hid (show Blk w1 wa.heap.size #[.int .i64 0, .int .i64 0, .string { data := #[] }, .int .i64 0, .int .i64 p0] 60 from (Blk.new wa _ _).kp hk1 (by omega)); have ul := P.out.lt; have uc := P.out.cell; have uf := P.out.free; have ur : r < w1.heap.size := R.out.lt; clear hr1 hk1)
    | (go_at_call 28; have _g := m0; clear _g; (fail_if_success (have _g := m1)); have m1 := hid trivial; refine (is_no ⟨#[105, 102]⟩ (R.out.bw (by repeat (first | exact Bw.refl _ | apply Bw.alloc | apply Bw.drewN | apply Bw.drew))) i1.out).mono ?_; clear ul uc uf ur; rintro e w1 ⟨rfl, hr1, hk1⟩; have KP := hid (show Kp r w w1 from KP.out.trans (Kp.trans (Kp.of_bw (by repeat (first | exact Bw.refl _ | apply Bw.alloc | apply Bw.drewN | apply Bw.drew))) hk1)); have P := hid (show Blk w1 wa.heap.size #[.int .i64 0, .int .i64 0, .string { data := #[] }, .int .i64 0, .int .i64 p0] 60 from P.out.kp (Kp.trans (Kp.of_bw (by repeat (first | exact Bw.refl _ | apply Bw.alloc | apply Bw.drewN | apply Bw.drew))) hk1) (by omega)); have R := hid hr1; have ul := P.out.lt; have uc := P.out.cell; have uf := P.out.free; have ur : r < w1.heap.size := R.out.lt; clear hr1 hk1)
    | fail)
  obtain ⟨g, c, q, x⟩ := R.out.x
  have X := hid x
  have gl := x.gl
  clear x
  refine wp_region_W (fun w' => w'.cell? ⟨r, 0, none⟩ = some (.slice (some ⟨g, 0, none⟩) T.length c) ∧ w'.cell? ⟨r, 1, none⟩ = some (.int .i64 s.i) ∧ w'.cell? ⟨g, (s.i + 1) * 4, none⟩ = some (.int .i64 kn)) (fun j => if j == 1 then 0 else 1) (by kernel_rfl) ?_
  refine wpAnyW_take (i := 0) (oi := od0) (v := ?_) rfl (by kernel_rfl) (by kernel_rfl) (by kernel_rfl) (by kernel_rfl) (fun _ _ _ h => h) (Or.inl ⟨by rfl, fun w _ => ?_⟩) ?_
  rotate_left
  · (go_simp; first | done | with_reducible rfl)
  try simp only [od0, Act.put, setIfInBounds_toArray, set_cons_zero, set_cons_succ]
  refine wpAnyW_ready (rs := [1]) (by kernel_rfl) (by simp) ?_
  refine (AllReadyW.cons (o := od1) rfl (fun K hK => ?_) AllReadyW.nil)
  go_simp
  have m2 := hid trivial
  refine (is_ahead ⟨#[102, 110]⟩ R.out X.out (by repeat (first | exact Bw.refl _ | apply Bw.alloc | apply Bw.drewN | apply Bw.drew)) y.out).mono ?_
  clear ul uc uf ur
  rintro e w1 ⟨he1, hr1, hk1, f0, f1, f2⟩
  subst he1
  have f3 := f2 (s.i + 1) HN.out
  rw [KN.out] at f3
  clear f2
  have KP := hid (show Kp r w w1 from KP.out.trans (Kp.trans (Kp.of_bw (by repeat (first | exact Bw.refl _ | apply Bw.alloc | apply Bw.drewN | apply Bw.drew))) hk1))
  have P := hid (show Blk w1 wa.heap.size #[.int .i64 0, .int .i64 0, .string { data := #[] }, .int .i64 0, .int .i64 p0] 60 from P.out.kp (Kp.trans (Kp.of_bw (by repeat (first | exact Bw.refl _ | apply Bw.alloc | apply Bw.drewN | apply Bw.drew))) hk1) (by omega))
  have R := hid hr1
  have ul := P.out.lt
  have uc := P.out.cell
  have uf := P.out.free
  have ur : r < w1.heap.size := R.out.lt
  clear hr1 hk1
  refine hK.out _ _ (show _ ∧ _ ∧ _ from ⟨f0, f1, f3⟩) ?_
  clear hK K
  try simp only [od1, Act.put, setIfInBounds_toArray, set_cons_zero, set_cons_succ]
  refine wpAnyW_take (i := 2) (oi := od2) (v := ?_) rfl (by kernel_rfl) (by kernel_rfl) (by kernel_rfl) (by kernel_rfl) (fun _ _ _ h => h) (Or.inl ⟨by rfl, fun w _ => ?_⟩) ?_
  rotate_left
  · (go_simp; first | done | with_reducible rfl)
  try simp only [od2, Act.put, setIfInBounds_toArray, set_cons_zero, set_cons_succ]
  refine wpAnyW_take (i := 3) (oi := od3) (v := ?_) rfl (by kernel_rfl) (by kernel_rfl) (by kernel_rfl) (by kernel_rfl) (fun _ _ _ h => h) (Or.inl ⟨by rfl, fun w _ => ?_⟩) ?_
  rotate_left
  · (go_simp; first | done | with_reducible rfl)
  try simp only [od3, Act.put, setIfInBounds_toArray, set_cons_zero, set_cons_succ]
  refine wpAnyW_take (i := 4) (oi := od4) (v := ?_) rfl (by kernel_rfl) (by kernel_rfl) (by kernel_rfl) (by kernel_rfl) (fun _ _ _ h => h) (Or.inl ⟨by rfl, fun w _ => ?_⟩) ?_
  rotate_left
  · (go_simp; first | done | with_reducible rfl)
  try simp only [od4, Act.put, setIfInBounds_toArray, set_cons_zero, set_cons_succ]
  refine wpAnyW_take (i := 5) (oi := od5) (v := ?_) rfl (by kernel_rfl) (by kernel_rfl) (by kernel_rfl) (by kernel_rfl) (fun _ _ _ h => h) (Or.inl ⟨by rfl, fun w _ => ?_⟩) ?_
  rotate_left
  · (go_simp; first | done | with_reducible rfl)
  try simp only [od5, Act.put, setIfInBounds_toArray, set_cons_zero, set_cons_succ]
  refine wpAnyW_load (i := 6) (oi := od6) (v := ?_) rfl (by kernel_rfl) (by kernel_rfl) (by kernel_rfl) (by kernel_rfl) (by kernel_rfl) (fun _ _ _ h => h) (Or.inl ⟨by rfl, fun w hS => ?_⟩) (show _ ∧ _ ∧ _ from ⟨f0, f1, f3⟩) ?_
  rotate_left
  · (obtain ⟨hs0, hs1, hs2⟩ := hS; go_simp; first | done | with_reducible rfl)
  try simp only [od6, Act.put, setIfInBounds_toArray, set_cons_zero, set_cons_succ]
  refine wpAnyW_take (i := 7) (oi := od7) (v := ?_) rfl (by kernel_rfl) (by kernel_rfl) (by kernel_rfl) (by kernel_rfl) (fun _ _ _ h => h) (Or.inl ⟨by rfl, fun w _ => ?_⟩) ?_
  rotate_left
  · (go_simp; first | done | with_reducible rfl)
  try simp only [od7, Act.put, setIfInBounds_toArray, set_cons_zero, set_cons_succ]
  refine wpAnyW_take (i := 8) (oi := od8) (v := ?_) rfl (by kernel_rfl) (by kernel_rfl) (by kernel_rfl) (by kernel_rfl) (fun _ _ _ h => h) (Or.inl ⟨by rfl, fun w _ => ?_⟩) ?_
  rotate_left
  · (go_simp; first | done | with_reducible rfl)
  try simp only [od8, Act.put, setIfInBounds_toArray, set_cons_zero, set_cons_succ]
  refine wpAnyW_take (i := 9) (oi := od9) (v := ?_) rfl (by kernel_rfl) (by kernel_rfl) (by kernel_rfl) (by kernel_rfl) (fun _ _ _ h => h) (Or.inl ⟨by rfl, fun w _ => ?_⟩) ?_
  rotate_left
  · (go_simp; first | done | with_reducible rfl)
  try simp only [od9, Act.put, setIfInBounds_toArray, set_cons_zero, set_cons_succ]
  refine wpAnyW_load (i := 10) (oi := od10) (v := ?_) rfl (by kernel_rfl) (by kernel_rfl) (by kernel_rfl) (by kernel_rfl) (by kernel_rfl) (fun _ _ _ h => h) (Or.inl ⟨by rfl, fun w hS => ?_⟩) (show _ ∧ _ ∧ _ from ⟨f0, f1, f3⟩) ?_
  rotate_left
  · (obtain ⟨hs0, hs1, hs2⟩ := hS; go_simp; first | done | with_reducible rfl)
  try simp only [od10, Act.put, setIfInBounds_toArray, set_cons_zero, set_cons_succ]
  refine wpAnyW_take (i := 11) (oi := od11) (v := ?_) rfl (by kernel_rfl) (by kernel_rfl) (by kernel_rfl) (by kernel_rfl) (fun _ _ _ h => h) (Or.inl ⟨by rfl, fun w _ => ?_⟩) ?_
  rotate_left
  · (go_simp; first | done | with_reducible rfl)
  try simp only [od11, Act.put, setIfInBounds_toArray, set_cons_zero, set_cons_succ]
  try simp only [WR]
  refine wpAnyW_take (i := 12) (oi := od12) (v := ?_) rfl (by kernel_rfl) (by kernel_rfl) (by kernel_rfl) (by kernel_rfl) (fun _ _ _ h => h) (Or.inl ⟨by rfl, fun w _ => ?_⟩) ?_
  rotate_left
  · (go_simp; first | done | with_reducible rfl)
  try simp only [od12, Act.put, setIfInBounds_toArray, set_cons_zero, set_cons_succ]
  try simp only [hto]
  refine wpAnyW_take (i := 13) (oi := od13) (v := ?_) rfl (by kernel_rfl) (by kernel_rfl) (by kernel_rfl) (by kernel_rfl) (fun _ _ _ h => h) (Or.inl ⟨by rfl, fun w _ => ?_⟩) ?_
  rotate_left
  · (go_simp; first | done | with_reducible rfl)
  try simp only [od13, Act.put, setIfInBounds_toArray, set_cons_zero, set_cons_succ]
  refine wpAnyW_load (i := 14) (oi := od14) (v := ?_) rfl (by kernel_rfl) (by kernel_rfl) (by kernel_rfl) (by kernel_rfl) (by kernel_rfl) (fun _ _ _ h => h) (Or.inl ⟨by rfl, fun w hS => ?_⟩) (show _ ∧ _ ∧ _ from ⟨f0, f1, f3⟩) ?_
  rotate_left
  · (obtain ⟨hs0, hs1, hs2⟩ := hS; go_simp; first | done | with_reducible rfl)
  try simp only [od14, Act.put, setIfInBounds_toArray, set_cons_zero, set_cons_succ]
  refine wpAnyW_take (i := 15) (oi := od15) (v := ?_) rfl (by kernel_rfl) (by kernel_rfl) (by kernel_rfl) (by kernel_rfl) (fun _ _ _ h => h) (Or.inl ⟨by rfl, fun w _ => ?_⟩) ?_
  rotate_left
  · (go_simp; first | done | with_reducible rfl)
  try simp only [od15, Act.put, setIfInBounds_toArray, set_cons_zero, set_cons_succ]
  refine wpAnyW_take (i := 16) (oi := od16) (v := ?_) rfl (by kernel_rfl) (by kernel_rfl) (by kernel_rfl) (by kernel_rfl) (fun _ _ _ h => h) (Or.inl ⟨by rfl, fun w _ => ?_⟩) ?_
  rotate_left
  · (go_simp; first | done | with_reducible rfl)
  try simp only [od16, Act.put, setIfInBounds_toArray, set_cons_zero, set_cons_succ]
  refine wpAnyW_take (i := 17) (oi := od17) (v := ?_) rfl (by kernel_rfl) (by kernel_rfl) (by kernel_rfl) (by kernel_rfl) (fun _ _ _ h => h) (Or.inl ⟨by rfl, fun w _ => ?_⟩) ?_
  rotate_left
  · (go_simp; first | done | with_reducible rfl)
  try simp only [od17, Act.put, setIfInBounds_toArray, set_cons_zero, set_cons_succ]
  refine wpAnyW_done (by kernel_rfl) ?_ _
  all_goals go_wp2_with (first
    | (go_at_call 33; have _g := m2; clear _g; (fail_if_success (have _g := m3)); have m3 := hid trivial; refine (eat_no ⟨#[118, 97, 114]⟩ (R.out.bw (by repeat (first | exact Bw.refl _ | apply Bw.alloc | apply Bw.drewN | apply Bw.drew))) i3.out).mono ?_; clear ul uc uf ur; rintro e w1 ⟨rfl, hr1, hk1⟩; have KP := hid (show Kp r w w1 from KP.out.trans (Kp.trans (Kp.of_bw (by repeat (first | exact Bw.refl _ | apply Bw.alloc | apply Bw.drewN | apply Bw.drew))) hk1)); have P := hid (show Blk w1 wa.heap.size #[.int .i64 0, .int .i64 0, .string { data := #[] }, .int .i64 0, .int .i64 p0] 60 from P.out.kp (Kp.trans (Kp.of_bw (by repeat (first | exact Bw.refl _ | apply Bw.alloc | apply Bw.drewN | apply Bw.drew))) hk1) (by omega)); have R := hid hr1; have ul := P.out.lt; have uc := P.out.cell; have uf := P.out.free; have ur : r < w1.heap.size := R.out.lt; clear hr1 hk1)
    | (go_at_call 33; have _g := m3; clear _g; (fail_if_success (have _g := m4)); have m4 := hid trivial; refine (eat_no ⟨#[119, 104, 105, 108, 101]⟩ (R.out.bw (by repeat (first | exact Bw.refl _ | apply Bw.alloc | apply Bw.drewN | apply Bw.drew))) i4.out).mono ?_; clear ul uc uf ur; rintro e w1 ⟨rfl, hr1, hk1⟩; have KP := hid (show Kp r w w1 from KP.out.trans (Kp.trans (Kp.of_bw (by repeat (first | exact Bw.refl _ | apply Bw.alloc | apply Bw.drewN | apply Bw.drew))) hk1)); have P := hid (show Blk w1 wa.heap.size #[.int .i64 0, .int .i64 0, .string { data := #[] }, .int .i64 0, .int .i64 p0] 60 from P.out.kp (Kp.trans (Kp.of_bw (by repeat (first | exact Bw.refl _ | apply Bw.alloc | apply Bw.drewN | apply Bw.drew))) hk1) (by omega)); have R := hid hr1; have ul := P.out.lt; have uc := P.out.cell; have uf := P.out.free; have ur : r < w1.heap.size := R.out.lt; clear hr1 hk1)
    | (go_at_call 33; have _g := m4; clear _g; (fail_if_success (have _g := m5)); have m5 := hid trivial; refine (eat_no ⟨#[98, 114, 101, 97, 107]⟩ (R.out.bw (by repeat (first | exact Bw.refl _ | apply Bw.alloc | apply Bw.drewN | apply Bw.drew))) i5.out).mono ?_; clear ul uc uf ur; rintro e w1 ⟨rfl, hr1, hk1⟩; have KP := hid (show Kp r w w1 from KP.out.trans (Kp.trans (Kp.of_bw (by repeat (first | exact Bw.refl _ | apply Bw.alloc | apply Bw.drewN | apply Bw.drew))) hk1)); have P := hid (show Blk w1 wa.heap.size #[.int .i64 0, .int .i64 0, .string { data := #[] }, .int .i64 0, .int .i64 p0] 60 from P.out.kp (Kp.trans (Kp.of_bw (by repeat (first | exact Bw.refl _ | apply Bw.alloc | apply Bw.drewN | apply Bw.drew))) hk1) (by omega)); have R := hid hr1; have ul := P.out.lt; have uc := P.out.cell; have uf := P.out.free; have ur : r < w1.heap.size := R.out.lt; clear hr1 hk1)
    | (go_at_call 33; have _g := m5; clear _g; (fail_if_success (have _g := m6)); have m6 := hid trivial; refine (eat_no ⟨#[99, 111, 110, 116, 105, 110, 117, 101]⟩ (R.out.bw (by repeat (first | exact Bw.refl _ | apply Bw.alloc | apply Bw.drewN | apply Bw.drew))) i6.out).mono ?_; clear ul uc uf ur; rintro e w1 ⟨rfl, hr1, hk1⟩; have KP := hid (show Kp r w w1 from KP.out.trans (Kp.trans (Kp.of_bw (by repeat (first | exact Bw.refl _ | apply Bw.alloc | apply Bw.drewN | apply Bw.drew))) hk1)); have P := hid (show Blk w1 wa.heap.size #[.int .i64 0, .int .i64 0, .string { data := #[] }, .int .i64 0, .int .i64 p0] 60 from P.out.kp (Kp.trans (Kp.of_bw (by repeat (first | exact Bw.refl _ | apply Bw.alloc | apply Bw.drewN | apply Bw.drew))) hk1) (by omega)); have R := hid hr1; have ul := P.out.lt; have uc := P.out.cell; have uf := P.out.free; have ur : r < w1.heap.size := R.out.lt; clear hr1 hk1)
    | (go_at_call 33; have _g := m6; clear _g; (fail_if_success (have _g := m7)); have m7 := hid trivial; refine (eat_no ⟨#[114, 101, 116, 117, 114, 110]⟩ (R.out.bw (by repeat (first | exact Bw.refl _ | apply Bw.alloc | apply Bw.drewN | apply Bw.drew))) i7.out).mono ?_; clear ul uc uf ur; rintro e w1 ⟨rfl, hr1, hk1⟩; have KP := hid (show Kp r w w1 from KP.out.trans (Kp.trans (Kp.of_bw (by repeat (first | exact Bw.refl _ | apply Bw.alloc | apply Bw.drewN | apply Bw.drew))) hk1)); have P := hid (show Blk w1 wa.heap.size #[.int .i64 0, .int .i64 0, .string { data := #[] }, .int .i64 0, .int .i64 p0] 60 from P.out.kp (Kp.trans (Kp.of_bw (by repeat (first | exact Bw.refl _ | apply Bw.alloc | apply Bw.drewN | apply Bw.drew))) hk1) (by omega)); have R := hid hr1; have ul := P.out.lt; have uc := P.out.cell; have uf := P.out.free; have ur : r < w1.heap.size := R.out.lt; clear hr1 hk1)
    | (go_at_call 33; have _g := m7; clear _g; (fail_if_success (have _g := m8)); have m8 := hid trivial; refine (eat_no ⟨#[116, 104, 114, 111, 119]⟩ (R.out.bw (by repeat (first | exact Bw.refl _ | apply Bw.alloc | apply Bw.drewN | apply Bw.drew))) i8.out).mono ?_; clear ul uc uf ur; rintro e w1 ⟨rfl, hr1, hk1⟩; have KP := hid (show Kp r w w1 from KP.out.trans (Kp.trans (Kp.of_bw (by repeat (first | exact Bw.refl _ | apply Bw.alloc | apply Bw.drewN | apply Bw.drew))) hk1)); have P := hid (show Blk w1 wa.heap.size #[.int .i64 0, .int .i64 0, .string { data := #[] }, .int .i64 0, .int .i64 p0] 60 from P.out.kp (Kp.trans (Kp.of_bw (by repeat (first | exact Bw.refl _ | apply Bw.alloc | apply Bw.drewN | apply Bw.drew))) hk1) (by omega)); have R := hid hr1; have ul := P.out.lt; have uc := P.out.cell; have uf := P.out.free; have ur : r < w1.heap.size := R.out.lt; clear hr1 hk1)
    | (go_at_call 33; have _g := m8; clear _g; (fail_if_success (have _g := m9)); have m9 := hid trivial; refine (eat_no ⟨#[116, 114, 121]⟩ (R.out.bw (by repeat (first | exact Bw.refl _ | apply Bw.alloc | apply Bw.drewN | apply Bw.drew))) i9.out).mono ?_; clear ul uc uf ur; rintro e w1 ⟨rfl, hr1, hk1⟩; have KP := hid (show Kp r w w1 from KP.out.trans (Kp.trans (Kp.of_bw (by repeat (first | exact Bw.refl _ | apply Bw.alloc | apply Bw.drewN | apply Bw.drew))) hk1)); have P := hid (show Blk w1 wa.heap.size #[.int .i64 0, .int .i64 0, .string { data := #[] }, .int .i64 0, .int .i64 p0] 60 from P.out.kp (Kp.trans (Kp.of_bw (by repeat (first | exact Bw.refl _ | apply Bw.alloc | apply Bw.drewN | apply Bw.drew))) hk1) (by omega)); have R := hid hr1; have ul := P.out.lt; have uc := P.out.cell; have uf := P.out.free; have ur : r < w1.heap.size := R.out.lt; clear hr1 hk1)
    | (go_at_call 37; (fail_if_success (have _g := m20)); have m20 := hid trivial; refine (HV.out _ (R.out.bw (by repeat (first | exact Bw.refl _ | apply Bw.alloc | apply Bw.drewN | apply Bw.drew)))).mono ?_; rintro e w2 ⟨a2, c2, rfl, hn2, hr2, hk2, hl2⟩; have N := hid (hn2.low (b' := w.heap.size) (Nat.le_trans KP.out.size (by first | (simp; done) | exact Nat.le_refl _))); have KP := hid (show Kp r w w2 from KP.out.trans (Kp.trans (Kp.of_bw (by repeat (first | exact Bw.refl _ | apply Bw.alloc | apply Bw.drewN | apply Bw.drew))) hk2)); have R := hid hr2; have L := hid hl2; clear hn2 hr2 hk2 hl2)
    | fail)
  all_goals go_ret
  all_goals exact ⟨_, _, rfl, N.out, R.out, KP.out, L.out⟩

theorem RdM.nx3 (h : RdM w r T o s) (hk : (dtk T s.i).1 ≠ 0) : RdM (w.setCell ⟨r, 1, none⟩ (.int .i64 ((s.i : Int) + 1))) r T o (dNx s) := h.nx2 hk

set_option maxRecDepth 100000 in
set_option maxHeartbeats 8000000 in
theorem stmt_fn (i0 : dIs T s ⟨#[123]⟩ = false) (i1 : dIs T s ⟨#[105, 102]⟩ = false) (y : dIs T s ⟨#[102, 110]⟩ = true) (k1 : (dtk T (s.i + 1)).1 = 1) (HV : ∀ w1 : World, RdM w1 r T o (dNameS T (dNx s)) → Calls Tryd.prog 32 #[.pointer (some ⟨r, 0, none⟩), nodeV (12, 0, dNameT T (dNx s), 0, dAt T s)] w1 (DG w1 r T o l s')) (hr : RdM w r T o s) : Calls Tryd.prog 14 #[.pointer (some ⟨r, 0, none⟩)] w (DG w r T o l s') := by
  have HR := hid hr
  have hrl := hr.lt
  have HAT := hid (fun w1 (hw : Bw w w1) => dat_any (hr.bw hw))
  have hn := hr.n s.i hr.i (dIs_kind y)
  have HN := hid hn
  have hi1 : (0 : Int) ≤ (s.i : Int) := by omega
  obtain ⟨gz, cz, qz, xz⟩ := hr.x
  have hl1 := xz.l
  have hi2 : (s.i : Int) + 1 < (T.length : Int) := by omega
  have hi3 : (0 : Int) ≤ (s.i : Int) + 1 := by omega
  have WR : IntKind.i64.wrap ((s.i : Int) + 1) = (s.i : Int) + 1 := by rw [IntKind.wrap_i64]; omega
  have hto : ((s.i : Int) + 1).toNat = s.i + 1 := by omega
  obtain ⟨kn, hkn⟩ : ∃ kn, (dtk T (s.i + 1)).1 = kn := ⟨_, rfl⟩
  rw [hkn] at k1
  have KN := hid hkn
  have ek : (kn == 1) = true := by simpa using k1
  have HK0 := hid (dIs_kind y)
  clear k1
  have i0 := hid i0
  have i1 := hid i1
  have y := hid y
  have HV := hid HV
  have HNM := hid (fun w1 (hw : RdM w1 r T o (dNx s)) => dname_any hw)
  simp only [nodeV] at HV
  generalize dNameS T (dNx s) = D at *
  generalize dNameT T (dNx s) = nx at *
  clear hr hkn xz hn
  unfold DG at *
  generalize dAt T s = p0 at *
  go_enter Tryd.func14, Tryd.ntmps14
  go_wp2_with (first
    | (go_at_call 27; (fail_if_success (have _g := B1)); refine (HAT.out _ (Bw.refl _)).mono ?_; rintro e wa ⟨rfl, hb1⟩; have B1 := hid hb1; have hra : w.heap.size ≤ wa.heap.size := hb1.size; have R := hid (HR.out.bw hb1); have KP := hid (Kp.of_bw (r := r) hb1); clear hb1)
    | (go_at_call 28; (fail_if_success (have _g := m0)); have m0 := hid trivial; refine (is_no ⟨#[123]⟩ (R.out.bw (by repeat (first | exact Bw.refl _ | apply Bw.alloc | apply Bw.drewN | apply Bw.drew))) i0.out).mono ?_; rintro e w1 ⟨rfl, hr1, hk1⟩; have KP := hid (show Kp r w w1 from KP.out.trans (Kp.trans (Kp.of_bw (by repeat (first | exact Bw.refl _ | apply Bw.alloc | apply Bw.drewN | apply Bw.drew))) hk1)); have R := hid hr1; have P := hid (show Blk w1 wa.heap.size #[.int .i64 0, .int .i64 0, .string { data := #[] }, .int .i64 0, .int .i64 p0] 60 from (Blk.new wa _ _).kp hk1 (by omega)); have ul := P.out.lt; have uc := P.out.cell; have uf := P.out.free; have ur : r < w1.heap.size := R.out.lt; clear hr1 hk1)
    | (go_at_call 28; have _g := m0; clear _g; (fail_if_success (have _g := m1)); have m1 := hid trivial; refine (is_no ⟨#[105, 102]⟩ (R.out.bw (by repeat (first | exact Bw.refl _ | apply Bw.alloc | apply Bw.drewN | apply Bw.drew))) i1.out).mono ?_; clear ul uc uf ur; rintro e w1 ⟨rfl, hr1, hk1⟩; have KP := hid (show Kp r w w1 from KP.out.trans (Kp.trans (Kp.of_bw (by repeat (first | exact Bw.refl _ | apply Bw.alloc | apply Bw.drewN | apply Bw.drew))) hk1)); have P := hid (show Blk w1 wa.heap.size #[.int .i64 0, .int .i64 0, .string { data := #[] }, .int .i64 0, .int .i64 p0] 60 from P.out.kp (Kp.trans (Kp.of_bw (by repeat (first | exact Bw.refl _ | apply Bw.alloc | apply Bw.drewN | apply Bw.drew))) hk1) (by omega)); have R := hid hr1; have ul := P.out.lt; have uc := P.out.cell; have uf := P.out.free; have ur : r < w1.heap.size := R.out.lt; clear hr1 hk1)
    | fail)
  obtain ⟨g, c, q, x⟩ := R.out.x
  have X := hid x
  have gl := x.gl
  clear x
  refine wp_region_W (fun w' => w'.cell? ⟨r, 0, none⟩ = some (.slice (some ⟨g, 0, none⟩) T.length c) ∧ w'.cell? ⟨r, 1, none⟩ = some (.int .i64 s.i) ∧ w'.cell? ⟨g, (s.i + 1) * 4, none⟩ = some (.int .i64 kn)) (fun j => if j == 1 then 0 else 1) (by kernel_rfl) ?_
  refine wpAnyW_take (i := 0) (oi := od0) (v := ?_) rfl (by kernel_rfl) (by kernel_rfl) (by kernel_rfl) (by kernel_rfl) (fun _ _ _ h => h) (Or.inl ⟨by rfl, fun w _ => ?_⟩) ?_
  rotate_left
  · (go_simp; first | done | with_reducible rfl)
  try simp only [od0, Act.put, setIfInBounds_toArray, set_cons_zero, set_cons_succ]
  refine wpAnyW_ready (rs := [1]) (by kernel_rfl) (by simp) ?_
  refine (AllReadyW.cons (o := od1) rfl (fun K hK => ?_) AllReadyW.nil)
  go_simp
  have m2 := hid trivial
  refine (is_ahead ⟨#[102, 110]⟩ R.out X.out (by repeat (first | exact Bw.refl _ | apply Bw.alloc | apply Bw.drewN | apply Bw.drew)) y.out).mono ?_
  clear ul uc uf ur
  rintro e w1 ⟨he1, hr1, hk1, f0, f1, f2⟩
  subst he1
  have fr : w1.frozen? ⟨r, 1, none⟩ = false := (by (obtain ⟨_, _, _, x2⟩ := hr1.x); exact x2.b.free 1)
  have f3 := f2 (s.i + 1) HN.out
  rw [KN.out] at f3
  clear f2
  have KP := hid (show Kp r w w1 from KP.out.trans (Kp.trans (Kp.of_bw (by repeat (first | exact Bw.refl _ | apply Bw.alloc | apply Bw.drewN | apply Bw.drew))) hk1))
  have P := hid (show Blk w1 wa.heap.size #[.int .i64 0, .int .i64 0, .string { data := #[] }, .int .i64 0, .int .i64 p0] 60 from P.out.kp (Kp.trans (Kp.of_bw (by repeat (first | exact Bw.refl _ | apply Bw.alloc | apply Bw.drewN | apply Bw.drew))) hk1) (by omega))
  have R := hid hr1
  have ul := P.out.lt
  have uc := P.out.cell
  have uf := P.out.free
  have ur : r < w1.heap.size := R.out.lt
  clear hr1 hk1
  refine hK.out _ _ (show _ ∧ _ ∧ _ from ⟨f0, f1, f3⟩) ?_
  clear hK K
  try simp only [od1, Act.put, setIfInBounds_toArray, set_cons_zero, set_cons_succ]
  refine wpAnyW_take (i := 2) (oi := od2) (v := ?_) rfl (by kernel_rfl) (by kernel_rfl) (by kernel_rfl) (by kernel_rfl) (fun _ _ _ h => h) (Or.inl ⟨by rfl, fun w _ => ?_⟩) ?_
  rotate_left
  · (go_simp; first | done | with_reducible rfl)
  try simp only [od2, Act.put, setIfInBounds_toArray, set_cons_zero, set_cons_succ]
  refine wpAnyW_take (i := 3) (oi := od3) (v := ?_) rfl (by kernel_rfl) (by kernel_rfl) (by kernel_rfl) (by kernel_rfl) (fun _ _ _ h => h) (Or.inl ⟨by rfl, fun w _ => ?_⟩) ?_
  rotate_left
  · (go_simp; first | done | with_reducible rfl)
  try simp only [od3, Act.put, setIfInBounds_toArray, set_cons_zero, set_cons_succ]
  refine wpAnyW_take (i := 4) (oi := od4) (v := ?_) rfl (by kernel_rfl) (by kernel_rfl) (by kernel_rfl) (by kernel_rfl) (fun _ _ _ h => h) (Or.inl ⟨by rfl, fun w _ => ?_⟩) ?_
  rotate_left
  · (go_simp; first | done | with_reducible rfl)
  try simp only [od4, Act.put, setIfInBounds_toArray, set_cons_zero, set_cons_succ]
  refine wpAnyW_take (i := 5) (oi := od5) (v := ?_) rfl (by kernel_rfl) (by kernel_rfl) (by kernel_rfl) (by kernel_rfl) (fun _ _ _ h => h) (Or.inl ⟨by rfl, fun w _ => ?_⟩) ?_
  rotate_left
  · (go_simp; first | done | with_reducible rfl)
  try simp only [od5, Act.put, setIfInBounds_toArray, set_cons_zero, set_cons_succ]
  refine wpAnyW_load (i := 6) (oi := od6) (v := ?_) rfl (by kernel_rfl) (by kernel_rfl) (by kernel_rfl) (by kernel_rfl) (by kernel_rfl) (fun _ _ _ h => h) (Or.inl ⟨by rfl, fun w hS => ?_⟩) (show _ ∧ _ ∧ _ from ⟨f0, f1, f3⟩) ?_
  rotate_left
  · (obtain ⟨hs0, hs1, hs2⟩ := hS; go_simp; first | done | with_reducible rfl)
  try simp only [od6, Act.put, setIfInBounds_toArray, set_cons_zero, set_cons_succ]
  refine wpAnyW_take (i := 7) (oi := od7) (v := ?_) rfl (by kernel_rfl) (by kernel_rfl) (by kernel_rfl) (by kernel_rfl) (fun _ _ _ h => h) (Or.inl ⟨by rfl, fun w _ => ?_⟩) ?_
  rotate_left
  · (go_simp; first | done | with_reducible rfl)
  try simp only [od7, Act.put, setIfInBounds_toArray, set_cons_zero, set_cons_succ]
  refine wpAnyW_take (i := 8) (oi := od8) (v := ?_) rfl (by kernel_rfl) (by kernel_rfl) (by kernel_rfl) (by kernel_rfl) (fun _ _ _ h => h) (Or.inl ⟨by rfl, fun w _ => ?_⟩) ?_
  rotate_left
  · (go_simp; first | done | with_reducible rfl)
  try simp only [od8, Act.put, setIfInBounds_toArray, set_cons_zero, set_cons_succ]
  refine wpAnyW_take (i := 9) (oi := od9) (v := ?_) rfl (by kernel_rfl) (by kernel_rfl) (by kernel_rfl) (by kernel_rfl) (fun _ _ _ h => h) (Or.inl ⟨by rfl, fun w _ => ?_⟩) ?_
  rotate_left
  · (go_simp; first | done | with_reducible rfl)
  try simp only [od9, Act.put, setIfInBounds_toArray, set_cons_zero, set_cons_succ]
  refine wpAnyW_load (i := 10) (oi := od10) (v := ?_) rfl (by kernel_rfl) (by kernel_rfl) (by kernel_rfl) (by kernel_rfl) (by kernel_rfl) (fun _ _ _ h => h) (Or.inl ⟨by rfl, fun w hS => ?_⟩) (show _ ∧ _ ∧ _ from ⟨f0, f1, f3⟩) ?_
  rotate_left
  · (obtain ⟨hs0, hs1, hs2⟩ := hS; go_simp; first | done | with_reducible rfl)
  try simp only [od10, Act.put, setIfInBounds_toArray, set_cons_zero, set_cons_succ]
  refine wpAnyW_take (i := 11) (oi := od11) (v := ?_) rfl (by kernel_rfl) (by kernel_rfl) (by kernel_rfl) (by kernel_rfl) (fun _ _ _ h => h) (Or.inl ⟨by rfl, fun w _ => ?_⟩) ?_
  rotate_left
  · (go_simp; first | done | with_reducible rfl)
  try simp only [od11, Act.put, setIfInBounds_toArray, set_cons_zero, set_cons_succ]
  try simp only [WR]
  refine wpAnyW_take (i := 12) (oi := od12) (v := ?_) rfl (by kernel_rfl) (by kernel_rfl) (by kernel_rfl) (by kernel_rfl) (fun _ _ _ h => h) (Or.inl ⟨by rfl, fun w _ => ?_⟩) ?_
  rotate_left
  · (go_simp; first | done | with_reducible rfl)
  try simp only [od12, Act.put, setIfInBounds_toArray, set_cons_zero, set_cons_succ]
  try simp only [hto]
  refine wpAnyW_take (i := 13) (oi := od13) (v := ?_) rfl (by kernel_rfl) (by kernel_rfl) (by kernel_rfl) (by kernel_rfl) (fun _ _ _ h => h) (Or.inl ⟨by rfl, fun w _ => ?_⟩) ?_
  rotate_left
  · (go_simp; first | done | with_reducible rfl)
  try simp only [od13, Act.put, setIfInBounds_toArray, set_cons_zero, set_cons_succ]
  refine wpAnyW_load (i := 14) (oi := od14) (v := ?_) rfl (by kernel_rfl) (by kernel_rfl) (by kernel_rfl) (by kernel_rfl) (by kernel_rfl) (fun _ _ _ h => h) (Or.inl ⟨by rfl, fun w hS => ?_⟩) (show _ ∧ _ ∧ _ from ⟨f0, f1, f3⟩) ?_
  rotate_left
  · (obtain ⟨hs0, hs1, hs2⟩ := hS; go_simp; first | done | with_reducible rfl)
  try simp only [od14, Act.put, setIfInBounds_toArray, set_cons_zero, set_cons_succ]
  refine wpAnyW_take (i := 15) (oi := od15) (v := ?_) rfl (by kernel_rfl) (by kernel_rfl) (by kernel_rfl) (by kernel_rfl) (fun _ _ _ h => h) (Or.inl ⟨by rfl, fun w _ => ?_⟩) ?_
  rotate_left
  · (go_simp; first | done | with_reducible rfl)
  try simp only [od15, Act.put, setIfInBounds_toArray, set_cons_zero, set_cons_succ]
  refine wpAnyW_take (i := 16) (oi := od16) (v := ?_) rfl (by kernel_rfl) (by kernel_rfl) (by kernel_rfl) (by kernel_rfl) (fun _ _ _ h => h) (Or.inl ⟨by rfl, fun w _ => ?_⟩) ?_
  rotate_left
  · (go_simp; first | done | with_reducible rfl)
  try simp only [od16, Act.put, setIfInBounds_toArray, set_cons_zero, set_cons_succ]
  refine wpAnyW_take (i := 17) (oi := od17) (v := ?_) rfl (by kernel_rfl) (by kernel_rfl) (by kernel_rfl) (by kernel_rfl) (fun _ _ _ h => h) (Or.inl ⟨by rfl, fun w _ => ?_⟩) ?_
  rotate_left
  · (go_simp; first | done | with_reducible rfl)
  try simp only [od17, Act.put, setIfInBounds_toArray, set_cons_zero, set_cons_succ]
  refine wpAnyW_done (by kernel_rfl) ?_ _
  all_goals go_wp2_with (first
    | (go_at_call 31; refine (HNM.out _ (R.out.nx3 HK0.out)).mono ?_; clear ul uc uf ur; rintro e w1 ⟨rfl, hr1, hk1⟩; have KP := hid (show Kp r w w1 from Kp.trans (KP.out.set 1 _) hk1); have P := hid (show Blk w1 wa.heap.size #[.int .i64 0, .int .i64 0, .string { data := #[] }, .int .i64 0, .int .i64 p0] 60 from (P.out.kp ((Kp.refl r _).set 1 _) (by omega)).kp hk1 (by omega)); have R := hid hr1; have ul := P.out.lt; have uc := P.out.cell; have uf := P.out.free; have ur : r < w1.heap.size := R.out.lt; clear hr1 hk1)
    | (go_at_call 32; refine (HV.out _ ((R.out.setO P.out 0 _).setO (P.out.set 0 _) 2 _)).mono ?_; rintro e w2 ⟨a2, c2, rfl, hn2, hr2, hk2, hl2⟩; have N := hid (hn2.low (b' := w.heap.size) (by simp only [World.size_setCell]; omega)); have KP := hid (show Kp r w w2 from Kp.trans ((KP.out.setNew hra 0 _).setNew hra 2 _) hk2); have R := hid hr2; have L := hid hl2; clear hn2 hr2 hk2 hl2)
    | fail)
  all_goals go_ret
  all_goals exact ⟨_, _, rfl, N.out, R.out, KP.out, L.out⟩

end

end Go.Proofs.YtekkjpecdflajaaDoor
