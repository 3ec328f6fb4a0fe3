/- The document's parser: expr's loop, plain. · The document's parser: level. · The document's parser: expr, level 2: contracts, by steps. -/
import Derived.Test.YtdhkcdehedbpcaaDoorM7
import Derived.Test.YtdhkcdehedbpcaaDoorM5
import Derived.Test.YtdhkcdehedbpcaaDoorM8
import Derived.Test.YtdhkcdehedbpcaaDoorM10
set_option linter.unusedVariables false
namespace Go.Proofs.YtdhkcdehedbpcaaDoor
open Go Go.RowKit

/-- The node that expr's loop makes of its list x at the token of s. -/
def exN (T : List ATok) (lev : Int) (x : List ANode) (s : DS) : ANode := if lev < 2 then (25 - lev, 0, [], 0, dAt0 x) else (23, 0, (dtk T s.i).2.1, 0, dAt0 x)

theorem exprL_inv {T : List ATok} {f : Nat} {lev o : Int} {x l : List ANode} {k : Int} {s s' : DS} (h : dR T f (.exprL lev x) o s = some (l, k, s')) : ∃ g, f = g + 1 ∧ x.length ≤ 1000000 ∧
    ((s.e = 0 ∧ lev ≠ 2 ∧ dLev (dtk T s.i) = lev ∧ ∃ l1 k1 s1, dR T g (.expr (lev + 1)) o (dNx s) = some (l1, k1, s1) ∧
      ((lev = 3 ∧ l = dJoin (exN T lev x s) 2 (x ++ l1) ∧ s' = s1 ∧ l.length ≤ 1000000) ∨ (lev ≠ 3 ∧ dR T g (.exprL lev (dJoin (exN T lev x s) 2 (x ++ l1))) o s1 = some (l, k, s'))))
    ∨ (¬ (s.e = 0 ∧ lev ≠ 2 ∧ dLev (dtk T s.i) = lev) ∧ l = x ∧ s' = s)) := by
  cases f with
  | zero => cases h
  | succ g =>
    unfold dR at h
    obtain ⟨h, h1, _⟩ := gde h
    refine ⟨g, rfl, h1, ?_⟩
    rcases ite_some h with ⟨hi, h⟩ | ⟨hn, h⟩
    · obtain ⟨⟨l1, k1, s1⟩, h3, h4⟩ := bnd h
      refine .inl ⟨hi.1, hi.2.1, hi.2.2, l1, k1, s1, h3, ?_⟩
      rcases ite_some h4 with ⟨h5, h4⟩ | ⟨h5, h4⟩
      · exact .inl ⟨h5, (rete3 h4).1, (rete3 h4).2.1, (rete3 h4).1 ▸ (rete3 h4).2.2⟩
      · exact .inr ⟨h5, h4⟩
    · exact .inr ⟨hn, (rete3 h).1, (rete3 h).2.1⟩

end Go.Proofs.YtdhkcdehedbpcaaDoor

set_option linter.unusedSimpArgs false
set_option linter.unusedVariables false
namespace Go.Proofs.YtdhkcdehedbpcaaDoor
open Go Go.RowKit

theorem lit_eq (u b : ByteArray) (l : List UInt8) (hb : b.toList = l) : (u = b) = ((u.toList == l) = true) := by rw [← hb, str_dec]; simp
theorem ret_i {x y : Int} (h : x = y) : Ending.returned (.int .i64 x) = Ending.returned (.int .i64 y) := by rw [h]
set_option maxRecDepth 100000 in
set_option maxHeartbeats 4000000 in
theorem dlevel_any (w : World) (t : ATok) : Calls Tryd.prog 72 #[.agg #[.int .i64 t.1, .string (strOfNums t.2.1), .int .i64 t.2.2.1, .int .i64 t.2.2.2]] w fun e w' => e = .returned (.int .i64 (dLev t)) ∧ Bw w w' := by
  obtain ⟨k0, k1, k2, k3⟩ := t
  have HD := hid (show dLev (k0, k1, k2, k3) = dLev (k0, k1, k2, k3) from rfl)
  generalize hd : dLev (k0, k1, k2, k3) = d at HD ⊢
  unfold dLev at hd
  simp only at hd ⊢
  generalize strOfNums k1 = u at hd ⊢
  have q0 := lit_eq u ⟨#[111, 114]⟩ [111, 114] (by first | (simp; done) | (simp [go_sem]; done) | decide +kernel)
  have q1 := lit_eq u ⟨#[97, 110, 100]⟩ [97, 110, 100] (by first | (simp; done) | (simp [go_sem]; done) | decide +kernel)
  have q2 := lit_eq u ⟨#[61, 61]⟩ [61, 61] (by first | (simp; done) | (simp [go_sem]; done) | decide +kernel)
  have q3 := lit_eq u ⟨#[33, 61]⟩ [33, 61] (by first | (simp; done) | (simp [go_sem]; done) | decide +kernel)
  have q4 := lit_eq u ⟨#[60]⟩ [60] (by first | (simp; done) | (simp [go_sem]; done) | decide +kernel)
  have q5 := lit_eq u ⟨#[60, 61]⟩ [60, 61] (by first | (simp; done) | (simp [go_sem]; done) | decide +kernel)
  have q6 := lit_eq u ⟨#[62]⟩ [62] (by first | (simp; done) | (simp [go_sem]; done) | decide +kernel)
  have q7 := lit_eq u ⟨#[62, 61]⟩ [62, 61] (by first | (simp; done) | (simp [go_sem]; done) | decide +kernel)
  have q8 := lit_eq u ⟨#[43]⟩ [43] (by first | (simp; done) | (simp [go_sem]; done) | decide +kernel)
  have q9 := lit_eq u ⟨#[45]⟩ [45] (by first | (simp; done) | (simp [go_sem]; done) | decide +kernel)
  have q10 := lit_eq u ⟨#[42]⟩ [42] (by first | (simp; done) | (simp [go_sem]; done) | decide +kernel)
  have q11 := lit_eq u ⟨#[47]⟩ [47] (by first | (simp; done) | (simp [go_sem]; done) | decide +kernel)
  have q12 := lit_eq u ⟨#[37]⟩ [37] (by first | (simp; done) | (simp [go_sem]; done) | decide +kernel)
  simp only [q0, q1, q2, q3, q4, q5, q6, q7, q8, q9, q10, q11, q12] at hd
  clear q0 q1 q2 q3 q4 q5 q6 q7 q8 q9 q10 q11 q12
  have HE := hid hd
  clear hd
  go_enter Tryd.func72, Tryd.ntmps72
  go_wp2
  all_goals go_ret
  all_goals refine ⟨ret_i ?_, by repeat (first | exact Bw.refl _ | apply Bw.alloc | apply Bw.drewN | apply Bw.drew)⟩
  all_goals rw [← HE.out]
  all_goals first | (simp [*]; done) | (clear HE; simp_all; done)

end Go.Proofs.YtdhkcdehedbpcaaDoor

set_option linter.unusedSimpArgs false
set_option linter.unusedVariables false
namespace Go.Proofs.YtdhkcdehedbpcaaDoor
open Go Go.RowKit

@[go_sem] def oDxc0 : Oper := { dst := some 32, op := Op.move (Operand.tmp 0), type := 66, pos := "ref.go:268", after := #[], guard := none }
@[go_sem] def oDxc1 : Oper := { dst := some 33, op := Op.nilCheck (Operand.tmp 32), type := 0, pos := "ref.go:268", after := #[{ on := 0, ground := Ground.data }], guard := none }
@[go_sem] def oDxc2 : Oper := { dst := some 34, op := Op.fieldAddr 68 (Operand.tmp 33) 3, type := 0, pos := "ref.go:268", after := #[{ on := 1, ground := Ground.data }], guard := none }
@[go_sem] def oDxc3 : Oper := { dst := some 35, op := Op.load 3 (Operand.tmp 34), type := 3, pos := "ref.go:268", after := #[{ on := 2, ground := Ground.data }], guard := none }
@[go_sem] def oDxc4 : Oper := { dst := some 36, op := Op.binOp BinOp.eql 3 (Operand.tmp 35) (Operand.const (Value.int IntKind.i64 0)) 3, type := 4, pos := "ref.go:268", after := #[{ on := 3, ground := Ground.data }], guard := none }
@[go_sem] def oDxc5 : Oper := { dst := some 37, op := Op.move (Operand.tmp 36), type := 4, pos := "ref.go:268", after := #[{ on := 4, ground := Ground.data }], guard := none }
@[go_sem] def oDxc6 : Oper := { dst := some 38, op := Op.move (Operand.tmp 1), type := 3, pos := "ref.go:268", after := #[{ on := 5, ground := Ground.guard }], guard := some (5, true) }
@[go_sem] def oDxc7 : Oper := { dst := some 39, op := Op.binOp BinOp.neq 3 (Operand.tmp 38) (Operand.const (Value.int IntKind.i64 2)) 3, type := 4, pos := "ref.go:268", after := #[{ on := 6, ground := Ground.data }, { on := 5, ground := Ground.guard }], guard := some (5, true) }
@[go_sem] def oDxc8 : Oper := { dst := some 40, op := Op.pick (Operand.tmp 37) (Operand.tmp 39) (Operand.const (Value.bool false)), type := 4, pos := "ref.go:268", after := #[{ on := 5, ground := Ground.data }, { on := 7, ground := Ground.data }], guard := none }
@[go_sem] def oDxc9 : Oper := { dst := some 41, op := Op.move (Operand.tmp 40), type := 4, pos := "ref.go:268", after := #[{ on := 8, ground := Ground.data }, { on := 5, ground := Ground.chain }], guard := none }
@[go_sem] def oDxc10 : Oper := { dst := some 42, op := Op.move (Operand.tmp 0), type := 66, pos := "ref.go:268", after := #[{ on := 9, ground := Ground.guard }], guard := some (9, true) }
@[go_sem] def oDxc11 : Oper := { dst := some 43, op := Op.nilCheck (Operand.tmp 42), type := 0, pos := "ref.go:268", after := #[{ on := 10, ground := Ground.data }, { on := 9, ground := Ground.guard }], guard := some (9, true) }
@[go_sem] def oDxc12 : Oper := { dst := some 44, op := Op.fieldAddr 68 (Operand.tmp 43) 0, type := 0, pos := "ref.go:268", after := #[{ on := 11, ground := Ground.data }, { on := 9, ground := Ground.guard }], guard := some (9, true) }
@[go_sem] def oDxc13 : Oper := { dst := some 45, op := Op.load 63 (Operand.tmp 44), type := 63, pos := "ref.go:268", after := #[{ on := 12, ground := Ground.data }, { on := 9, ground := Ground.guard }], guard := some (9, true) }
@[go_sem] def oDxc14 : Oper := { dst := some 46, op := Op.move (Operand.tmp 0), type := 66, pos := "ref.go:268", after := #[{ on := 9, ground := Ground.guard }], guard := some (9, true) }
@[go_sem] def oDxc15 : Oper := { dst := some 47, op := Op.nilCheck (Operand.tmp 46), type := 0, pos := "ref.go:268", after := #[{ on := 14, ground := Ground.data }, { on := 9, ground := Ground.guard }], guard := some (9, true) }
@[go_sem] def oDxc16 : Oper := { dst := some 48, op := Op.fieldAddr 68 (Operand.tmp 47) 1, type := 0, pos := "ref.go:268", after := #[{ on := 15, ground := Ground.data }, { on := 9, ground := Ground.guard }], guard := some (9, true) }
@[go_sem] def oDxc17 : Oper := { dst := some 49, op := Op.load 3 (Operand.tmp 48), type := 3, pos := "ref.go:268", after := #[{ on := 16, ground := Ground.data }, { on := 9, ground := Ground.guard }], guard := some (9, true) }
@[go_sem] def oDxc18 : Oper := { dst := some 50, op := Op.indexAddr 63 (Operand.tmp 45) (Operand.tmp 49), type := 0, pos := "ref.go:268", after := #[{ on := 13, ground := Ground.data }, { on := 17, ground := Ground.data }, { on := 9, ground := Ground.guard }], guard := some (9, true) }
@[go_sem] def oDxc19 : Oper := { dst := some 51, op := Op.load 70 (Operand.tmp 50), type := 70, pos := "ref.go:268", after := #[{ on := 18, ground := Ground.data }, { on := 9, ground := Ground.guard }], guard := some (9, true) }
@[go_sem] def oDxc20 : Oper := { dst := some 52, op := Op.call { callee := Callee.value (Operand.func 72), args := #[Operand.tmp 51], argTypes := #[70] }, type := 3, pos := "ref.go:268", after := #[{ on := 19, ground := Ground.data }, { on := 9, ground := Ground.chain }, { on := 9, ground := Ground.guard }], guard := some (9, true) }
@[go_sem] def oDxc21 : Oper := { dst := some 53, op := Op.move (Operand.tmp 1), type := 3, pos := "ref.go:268", after := #[{ on := 9, ground := Ground.guard }], guard := some (9, true) }
@[go_sem] def oDxc22 : Oper := { dst := some 54, op := Op.binOp BinOp.eql 3 (Operand.tmp 52) (Operand.tmp 53) 3, type := 4, pos := "ref.go:268", after := #[{ on := 20, ground := Ground.data }, { on := 21, ground := Ground.data }, { on := 9, ground := Ground.guard }], guard := some (9, true) }
@[go_sem] def oDxc23 : Oper := { dst := some 55, op := Op.pick (Operand.tmp 41) (Operand.tmp 54) (Operand.const (Value.bool false)), type := 4, pos := "ref.go:268", after := #[{ on := 9, ground := Ground.data }, { on := 22, ground := Ground.data }], guard := none }

section
attribute [local irreducible] dIs
variable {w w' : World} {r f : Nat} {T : List ATok} {o : Int} {s s' : DS} {l : List ANode} {k : Int}

set_option maxRecDepth 100000 in
set_option maxHeartbeats 8000000 in
theorem expr_two (hc : ∀ g, g ≤ f → Con T r g) {l1 : List ANode} {k1 : Int} {s1 : DS} (he : s.e = 0) (hi : dIs T s ⟨#[110, 111, 116]⟩ = false) (h1 : dR T f (.expr 3) o s = some (l1, k1, s1)) (h2 : dR T f (.exprL 2 l1) o s1 = some (l, k, s')) (hr : RdM w r T o s) : Calls Tryd.prog 49 #[.pointer (some ⟨r, 0, none⟩), .int .i64 2] w (DG w r T o l s') := by
  obtain ⟨f2, rfl, hx0, hcase⟩ := exprL_inv h2
  rcases hcase with ⟨_, hq, _⟩ | ⟨_, hl, hs⟩
  · exact absurd rfl hq
  subst hl hs
  have HR := hid hr
  have hrl := hr.lt
  have HX := hid (fun w1 (hw : RdM w1 r T o s) => (hc _ (Nat.le_refl _)).expr 3 h1 hw)
  have HI := hid (fun w1 (hw : RdM w1 r T o s) => dis_any ⟨#[110, 111, 116]⟩ hw)
  rw [hi] at HI
  obtain ⟨g, c, q, x⟩ := hr.x
  have z0 : w.cell? ⟨r, 3, none⟩ = some (.int .i64 s.e) := x.b.cell 3
  have q1 : (s.e == 0) = true := by simpa using he
  have q2 : (s.e != 0) = false := by simpa using he
  unfold DG at HX ⊢
  clear x hr he hc h1 h2 hi hx0
  go_enter Tryd.func49, Tryd.ntmps49
  go_wp2_with (first
    | (go_at_call 42; (fail_if_success (have _g := R1)); refine (HI.out _ (HR.out.bw bq)).mono ?_; rintro e w1 ⟨rfl, hb1⟩; have B1 := hid (show Bw w w1 from Bw.trans bq hb1); have R1 := hid (HR.out.bw B1.out); clear hb1)
    | (go_at_call 49; refine (HX.out _ (R1.out.bw bq)).mono ?_; rintro e w2 ⟨a2, c2, rfl, hn2, hr2, hk2, hl2⟩; have K2 := hid (show Kp r w w2 from Kp.trans (Kp.of_bw (Bw.trans B1.out bq)) hk2); have N2 := hid (hn2.low (b' := w.heap.size) (Nat.le_trans B1.out.size (by first | (simp; done) | exact Nat.le_refl _))); have R2 := hid hr2; have L2 := hid hl2; clear hn2 hr2 hk2 hl2)
    | fail)
  go_loopw [5] (fun v5 wr => wr = w2 ∧ v5 = .slice a2 l.length c2) (fun _ _ => 0)
  case atStart => exact ⟨rfl, rfl⟩
  case round =>
    obtain ⟨rfl, rfl⟩ := hrel
    obtain ⟨s0, hs0⟩ : ∃ s0, s' = s0 := ⟨_, rfl⟩
    have HS := hid hs0
    obtain ⟨g2, c2', q2', x2⟩ := R2.out.x
    have z3 : wr.cell? ⟨r, 3, none⟩ = some (.int .i64 s0.e) := hs0 ▸ x2.b.cell 3
    have zl : r < wr.heap.size := x2.b.lt
    clear x2 hs0
    by_cases h0 : s0.e = 0
    · have e1 : (s0.e == 0) = true := by simpa using h0
      have e3 : ((2 : Int) != 2) = false := by decide
      clear h0
      go_wp2_with (first
        | fail)
      refine wp_region_W (fun w' => w'.cell? ⟨r, 3, none⟩ = some (.int .i64 s0.e)) (fun j => 1) (by kernel_rfl) ?_
      refine tkW (i := 0) (oi := oDxc0) (v := ?_) rfl (Or.inl ⟨by rfl, fun w _ => ?_⟩) ?_
      rotate_left
      · (go_simp; first | done | with_reducible rfl)
      try simp only [oDxc0, Act.put, sqA, sqZ, sqS]
      refine tkW (i := 1) (oi := oDxc1) (v := ?_) rfl (Or.inl ⟨by rfl, fun w _ => ?_⟩) ?_
      rotate_left
      · (go_simp; first | done | with_reducible rfl)
      try simp only [oDxc1, Act.put, sqA, sqZ, sqS]
      refine tkW (i := 2) (oi := oDxc2) (v := ?_) rfl (Or.inl ⟨by rfl, fun w _ => ?_⟩) ?_
      rotate_left
      · (go_simp; first | done | with_reducible rfl)
      try simp only [oDxc2, Act.put, sqA, sqZ, sqS]
      refine ldW (i := 3) (oi := oDxc3) (v := ?_) rfl (Or.inl ⟨by rfl, fun w hS => ?_⟩) z3 ?_
      rotate_left
      · (skip; go_simp; first | done | with_reducible rfl)
      try simp only [oDxc3, Act.put, sqA, sqZ, sqS]
      refine tkW (i := 4) (oi := oDxc4) (v := ?_) rfl (Or.inl ⟨by rfl, fun w _ => ?_⟩) ?_
      rotate_left
      · (go_simp; first | done | with_reducible rfl)
      try simp only [oDxc4, Act.put, sqA, sqZ, sqS]
      try rw [e1]
      refine tkW (i := 5) (oi := oDxc5) (v := ?_) rfl (Or.inl ⟨by rfl, fun w _ => ?_⟩) ?_
      rotate_left
      · (go_simp; first | done | with_reducible rfl)
      try simp only [oDxc5, Act.put, sqA, sqZ, sqS]
      refine tkW (i := 6) (oi := oDxc6) (v := ?_) rfl (Or.inl ⟨by rfl, fun w _ => ?_⟩) ?_
      rotate_left
      · (go_simp; first | done | with_reducible rfl)
      try simp only [oDxc6, Act.put, sqA, sqZ, sqS]
      refine tkW (i := 7) (oi := oDxc7) (v := ?_) rfl (Or.inl ⟨by rfl, fun w _ => ?_⟩) ?_
      rotate_left
      · (go_simp; first | done | with_reducible rfl)
      try simp only [oDxc7, Act.put, sqA, sqZ, sqS]
      try rw [e3]
      refine tkW (i := 8) (oi := oDxc8) (v := ?_) rfl (Or.inl ⟨by rfl, fun w _ => ?_⟩) ?_
      rotate_left
      · (go_simp; first | done | with_reducible rfl)
      try simp only [oDxc8, Act.put, sqA, sqZ, sqS]
      refine tkW (i := 9) (oi := oDxc9) (v := ?_) rfl (Or.inl ⟨by rfl, fun w _ => ?_⟩) ?_
      rotate_left
      · (go_simp; first | done | with_reducible rfl)
      try simp only [oDxc9, Act.put, sqA, sqZ, sqS]
      refine tkW (i := 10) (oi := oDxc10) (v := undef) rfl (Or.inr ⟨by rfl, rfl⟩) ?_
      try simp only [oDxc10, Act.put, sqA, sqZ, sqS]
      refine tkW (i := 11) (oi := oDxc11) (v := undef) rfl (Or.inr ⟨by rfl, rfl⟩) ?_
      try simp only [oDxc11, Act.put, sqA, sqZ, sqS]
      refine tkW (i := 12) (oi := oDxc12) (v := undef) rfl (Or.inr ⟨by rfl, rfl⟩) ?_
      try simp only [oDxc12, Act.put, sqA, sqZ, sqS]
      refine tkW (i := 13) (oi := oDxc13) (v := undef) rfl (Or.inr ⟨by rfl, rfl⟩) ?_
      try simp only [oDxc13, Act.put, sqA, sqZ, sqS]
      refine tkW (i := 14) (oi := oDxc14) (v := undef) rfl (Or.inr ⟨by rfl, rfl⟩) ?_
      try simp only [oDxc14, Act.put, sqA, sqZ, sqS]
      refine tkW (i := 15) (oi := oDxc15) (v := undef) rfl (Or.inr ⟨by rfl, rfl⟩) ?_
      try simp only [oDxc15, Act.put, sqA, sqZ, sqS]
      refine tkW (i := 16) (oi := oDxc16) (v := undef) rfl (Or.inr ⟨by rfl, rfl⟩) ?_
      try simp only [oDxc16, Act.put, sqA, sqZ, sqS]
      refine tkW (i := 17) (oi := oDxc17) (v := undef) rfl (Or.inr ⟨by rfl, rfl⟩) ?_
      try simp only [oDxc17, Act.put, sqA, sqZ, sqS]
      refine tkW (i := 18) (oi := oDxc18) (v := undef) rfl (Or.inr ⟨by rfl, rfl⟩) ?_
      try simp only [oDxc18, Act.put, sqA, sqZ, sqS]
      refine tkW (i := 19) (oi := oDxc19) (v := undef) rfl (Or.inr ⟨by rfl, rfl⟩) ?_
      try simp only [oDxc19, Act.put, sqA, sqZ, sqS]
      refine tkW (i := 20) (oi := oDxc20) (v := undef) rfl (Or.inr ⟨by rfl, rfl⟩) ?_
      try simp only [oDxc20, Act.put, sqA, sqZ, sqS]
      refine tkW (i := 21) (oi := oDxc21) (v := undef) rfl (Or.inr ⟨by rfl, rfl⟩) ?_
      try simp only [oDxc21, Act.put, sqA, sqZ, sqS]
      refine tkW (i := 22) (oi := oDxc22) (v := undef) rfl (Or.inr ⟨by rfl, rfl⟩) ?_
      try simp only [oDxc22, Act.put, sqA, sqZ, sqS]
      refine tkW (i := 23) (oi := oDxc23) (v := ?_) rfl (Or.inl ⟨by rfl, fun w _ => ?_⟩) ?_
      rotate_left
      · (go_simp; first | done | with_reducible rfl)
      try simp only [oDxc23, Act.put, sqA, sqZ, sqS]
      refine wpAnyW_done (by kernel_rfl) ?_ _
      all_goals go_wp2
      all_goals go_ret
      all_goals exact ⟨_, _, rfl, N2.out, R2.out.bw bq, K2.out.bw bq, L2.out⟩
    · have e1 : (s0.e == 0) = false := by simpa using h0
      clear h0
      go_wp2_with (first
        | fail)
      refine wp_region_W (fun w' => w'.cell? ⟨r, 3, none⟩ = some (.int .i64 s0.e)) (fun j => 1) (by kernel_rfl) ?_
      refine tkW (i := 0) (oi := oDxc0) (v := ?_) rfl (Or.inl ⟨by rfl, fun w _ => ?_⟩) ?_
      rotate_left
      · (go_simp; first | done | with_reducible rfl)
      try simp only [oDxc0, Act.put, sqA, sqZ, sqS]
      refine tkW (i := 1) (oi := oDxc1) (v := ?_) rfl (Or.inl ⟨by rfl, fun w _ => ?_⟩) ?_
      rotate_left
      · (go_simp; first | done | with_reducible rfl)
      try simp only [oDxc1, Act.put, sqA, sqZ, sqS]
      refine tkW (i := 2) (oi := oDxc2) (v := ?_) rfl (Or.inl ⟨by rfl, fun w _ => ?_⟩) ?_
      rotate_left
      · (go_simp; first | done | with_reducible rfl)
      try simp only [oDxc2, Act.put, sqA, sqZ, sqS]
      refine ldW (i := 3) (oi := oDxc3) (v := ?_) rfl (Or.inl ⟨by rfl, fun w hS => ?_⟩) z3 ?_
      rotate_left
      · (skip; go_simp; first | done | with_reducible rfl)
      try simp only [oDxc3, Act.put, sqA, sqZ, sqS]
      refine tkW (i := 4) (oi := oDxc4) (v := ?_) rfl (Or.inl ⟨by rfl, fun w _ => ?_⟩) ?_
      rotate_left
      · (go_simp; first | done | with_reducible rfl)
      try simp only [oDxc4, Act.put, sqA, sqZ, sqS]
      try rw [e1]
      refine tkW (i := 5) (oi := oDxc5) (v := ?_) rfl (Or.inl ⟨by rfl, fun w _ => ?_⟩) ?_
      rotate_left
      · (go_simp; first | done | with_reducible rfl)
      try simp only [oDxc5, Act.put, sqA, sqZ, sqS]
      refine tkW (i := 6) (oi := oDxc6) (v := undef) rfl (Or.inr ⟨by rfl, rfl⟩) ?_
      try simp only [oDxc6, Act.put, sqA, sqZ, sqS]
      refine tkW (i := 7) (oi := oDxc7) (v := undef) rfl (Or.inr ⟨by rfl, rfl⟩) ?_
      try simp only [oDxc7, Act.put, sqA, sqZ, sqS]
      refine tkW (i := 8) (oi := oDxc8) (v := ?_) rfl (Or.inl ⟨by rfl, fun w _ => ?_⟩) ?_
      rotate_left
      · (go_simp; first | done | with_reducible rfl)
      try simp only [oDxc8, Act.put, sqA, sqZ, sqS]
      refine tkW (i := 9) (oi := oDxc9) (v := ?_) rfl (Or.inl ⟨by rfl, fun w _ => ?_⟩) ?_
      rotate_left
      · (go_simp; first | done | with_reducible rfl)
      try simp only [oDxc9, Act.put, sqA, sqZ, sqS]
      refine tkW (i := 10) (oi := oDxc10) (v := undef) rfl (Or.inr ⟨by rfl, rfl⟩) ?_
      try simp only [oDxc10, Act.put, sqA, sqZ, sqS]
      refine tkW (i := 11) (oi := oDxc11) (v := undef) rfl (Or.inr ⟨by rfl, rfl⟩) ?_
      try simp only [oDxc11, Act.put, sqA, sqZ, sqS]
      refine tkW (i := 12) (oi := oDxc12) (v := undef) rfl (Or.inr ⟨by rfl, rfl⟩) ?_
      try simp only [oDxc12, Act.put, sqA, sqZ, sqS]
      refine tkW (i := 13) (oi := oDxc13) (v := undef) rfl (Or.inr ⟨by rfl, rfl⟩) ?_
      try simp only [oDxc13, Act.put, sqA, sqZ, sqS]
      refine tkW (i := 14) (oi := oDxc14) (v := undef) rfl (Or.inr ⟨by rfl, rfl⟩) ?_
      try simp only [oDxc14, Act.put, sqA, sqZ, sqS]
      refine tkW (i := 15) (oi := oDxc15) (v := undef) rfl (Or.inr ⟨by rfl, rfl⟩) ?_
      try simp only [oDxc15, Act.put, sqA, sqZ, sqS]
      refine tkW (i := 16) (oi := oDxc16) (v := undef) rfl (Or.inr ⟨by rfl, rfl⟩) ?_
      try simp only [oDxc16, Act.put, sqA, sqZ, sqS]
      refine tkW (i := 17) (oi := oDxc17) (v := undef) rfl (Or.inr ⟨by rfl, rfl⟩) ?_
      try simp only [oDxc17, Act.put, sqA, sqZ, sqS]
      refine tkW (i := 18) (oi := oDxc18) (v := undef) rfl (Or.inr ⟨by rfl, rfl⟩) ?_
      try simp only [oDxc18, Act.put, sqA, sqZ, sqS]
      refine tkW (i := 19) (oi := oDxc19) (v := undef) rfl (Or.inr ⟨by rfl, rfl⟩) ?_
      try simp only [oDxc19, Act.put, sqA, sqZ, sqS]
      refine tkW (i := 20) (oi := oDxc20) (v := undef) rfl (Or.inr ⟨by rfl, rfl⟩) ?_
      try simp only [oDxc20, Act.put, sqA, sqZ, sqS]
      refine tkW (i := 21) (oi := oDxc21) (v := undef) rfl (Or.inr ⟨by rfl, rfl⟩) ?_
      try simp only [oDxc21, Act.put, sqA, sqZ, sqS]
      refine tkW (i := 22) (oi := oDxc22) (v := undef) rfl (Or.inr ⟨by rfl, rfl⟩) ?_
      try simp only [oDxc22, Act.put, sqA, sqZ, sqS]
      refine tkW (i := 23) (oi := oDxc23) (v := ?_) rfl (Or.inl ⟨by rfl, fun w _ => ?_⟩) ?_
      rotate_left
      · (go_simp; first | done | with_reducible rfl)
      try simp only [oDxc23, Act.put, sqA, sqZ, sqS]
      refine wpAnyW_done (by kernel_rfl) ?_ _
      all_goals go_wp2
      all_goals go_ret
      all_goals exact ⟨_, _, rfl, N2.out, R2.out.bw bq, K2.out.bw bq, L2.out⟩

end

end Go.Proofs.YtdhkcdehedbpcaaDoor

