/- The document's parser: expr, level 2: contracts, by steps. · The document's parser: expr, its loop: contracts, by steps. · The document's parser: expr, whole. -/
import Derived.Test.YtdhkcdehedbpcaaDoorM16
import Derived.Test.YtdhkcdehedbpcaaDoorM14
import Derived.Test.YtdhkcdehedbpcaaDoorM8
import Derived.Test.YtdhkcdehedbpcaaDoorM15
import Derived.Test.YtdhkcdehedbpcaaDoorDxak
set_option linter.unusedSimpArgs false
set_option linter.unusedVariables false
namespace Go.Proofs.YtdhkcdehedbpcaaDoor
open Go Go.RowKit

@[go_sem] def oDxc0 : Oper := { dst := some 32, op := Op.move (Operand.tmp 0), type := 66, pos := "ref.go:268", after := #[], guard := none }
@[go_sem] def oDxc1 : Oper := { dst := some 33, op := Op.nilCheck (Operand.tmp 32), type := 0, pos := "ref.go:268", after := #[{ on := 0, ground := Ground.data }], guard := none }
@[go_sem] def oDxc2 : Oper := { dst := some 34, op := Op.fieldAddr 68 (Operand.tmp 33) 3, type := 0, pos := "ref.go:268", after := #[{ on := 1, ground := Ground.data }], guard := none }
@[go_sem] def oDxc3 : Oper := { dst := some 35, op := Op.load 3 (Operand.tmp 34), type := 3, pos := "ref.go:268", after := #[{ on := 2, ground := Ground.data }], guard := none }
@[go_sem] def oDxc4 : Oper := { dst := some 36, op := Op.binOp BinOp.eql 3 (Operand.tmp 35) (Operand.const (Value.int IntKind.i64 0)) 3, type := 4, pos := "ref.go:268", after := #[{ on := 3, ground := Ground.data }], guard := none }
@[go_sem] def oDxc5 : Oper := { dst := some 37, op := Op.move (Operand.tmp 36), type := 4, pos := "ref.go:268", after := #[{ on := 4, ground := Ground.data }], guard := none }
@[go_sem] def oDxc6 : Oper := { dst := some 38, op := Op.move (Operand.tmp 1), type := 3, pos := "ref.go:268", after := #[{ on := 5, ground := Ground.guard }], guard := some (5, true) }
@[go_sem] def oDxc7 : Oper := { dst := some 39, op := Op.binOp BinOp.neq 3 (Operand.tmp 38) (Operand.const (Value.int IntKind.i64 2)) 3, type := 4, pos := "ref.go:268", after := #[{ on := 6, ground := Ground.data }, { on := 5, ground := Ground.guard }], guard := some (5, true) }
@[go_sem] def oDxc8 : Oper := { dst := some 40, op := Op.pick (Operand.tmp 37) (Operand.tmp 39) (Operand.const (Value.bool false)), type := 4, pos := "ref.go:268", after := #[{ on := 5, ground := Ground.data }, { on := 7, ground := Ground.data }], guard := none }
@[go_sem] def oDxc9 : Oper := { dst := some 41, op := Op.move (Operand.tmp 40), type := 4, pos := "ref.go:268", after := #[{ on := 8, ground := Ground.data }, { on := 5, ground := Ground.chain }], guard := none }
@[go_sem] def oDxc10 : Oper := { dst := some 42, op := Op.move (Operand.tmp 0), type := 66, pos := "ref.go:268", after := #[{ on := 9, ground := Ground.guard }], guard := some (9, true) }
@[go_sem] def oDxc11 : Oper := { dst := some 43, op := Op.nilCheck (Operand.tmp 42), type := 0, pos := "ref.go:268", after := #[{ on := 10, ground := Ground.data }, { on := 9, ground := Ground.guard }], guard := some (9, true) }
@[go_sem] def oDxc12 : Oper := { dst := some 44, op := Op.fieldAddr 68 (Operand.tmp 43) 0, type := 0, pos := "ref.go:268", after := #[{ on := 11, ground := Ground.data }, { on := 9, ground := Ground.guard }], guard := some (9, true) }
@[go_sem] def oDxc13 : Oper := { dst := some 45, op := Op.load 63 (Operand.tmp 44), type := 63, pos := "ref.go:268", after := #[{ on := 12, ground := Ground.data }, { on := 9, ground := Ground.guard }], guard := some (9, true) }
@[go_sem] def oDxc14 : Oper := { dst := some 46, op := Op.move (Operand.tmp 0), type := 66, pos := "ref.go:268", after := #[{ on := 9, ground := Ground.guard }], guard := some (9, true) }
@[go_sem] def oDxc15 : Oper := { dst := some 47, op := Op.nilCheck (Operand.tmp 46), type := 0, pos := "ref.go:268", after := #[{ on := 14, ground := Ground.data }, { on := 9, ground := Ground.guard }], guard := some (9, true) }
@[go_sem] def oDxc16 : Oper := { dst := some 48, op := Op.fieldAddr 68 (Operand.tmp 47) 1, type := 0, pos := "ref.go:268", after := #[{ on := 15, ground := Ground.data }, { on := 9, ground := Ground.guard }], guard := some (9, true) }
@[go_sem] def oDxc17 : Oper := { dst := some 49, op := Op.load 3 (Operand.tmp 48), type := 3, pos := "ref.go:268", after := #[{ on := 16, ground := Ground.data }, { on := 9, ground := Ground.guard }], guard := some (9, true) }
@[go_sem] def oDxc18 : Oper := { dst := some 50, op := Op.indexAddr 63 (Operand.tmp 45) (Operand.tmp 49), type := 0, pos := "ref.go:268", after := #[{ on := 13, ground := Ground.data }, { on := 17, ground := Ground.data }, { on := 9, ground := Ground.guard }], guard := some (9, true) }
@[go_sem] def oDxc19 : Oper := { dst := some 51, op := Op.load 70 (Operand.tmp 50), type := 70, pos := "ref.go:268", after := #[{ on := 18, ground := Ground.data }, { on := 9, ground := Ground.guard }], guard := some (9, true) }
@[go_sem] def oDxc20 : Oper := { dst := some 52, op := Op.call { callee := Callee.value (Operand.func 72), args := #[Operand.tmp 51], argTypes := #[70] }, type := 3, pos := "ref.go:268", after := #[{ on := 19, ground := Ground.data }, { on := 9, ground := Ground.chain }, { on := 9, ground := Ground.guard }], guard := some (9, true) }
@[go_sem] def oDxc21 : Oper := { dst := some 53, op := Op.move (Operand.tmp 1), type := 3, pos := "ref.go:268", after := #[{ on := 9, ground := Ground.guard }], guard := some (9, true) }
@[go_sem] def oDxc22 : Oper := { dst := some 54, op := Op.binOp BinOp.eql 3 (Operand.tmp 52) (Operand.tmp 53) 3, type := 4, pos := "ref.go:268", after := #[{ on := 20, ground := Ground.data }, { on := 21, ground := Ground.data }, { on := 9, ground := Ground.guard }], guard := some (9, true) }
@[go_sem] def oDxc23 : Oper := { dst := some 55, op := Op.pick (Operand.tmp 41) (Operand.tmp 54) (Operand.const (Value.bool false)), type := 4, pos := "ref.go:268", after := #[{ on := 9, ground := Ground.data }, { on := 22, ground := Ground.data }], guard := none }

section
attribute [local irreducible] dIs
variable {w w' : World} {r f : Nat} {T : List ATok} {o : Int} {s s' : DS} {l : List ANode} {k : Int}

set_option maxRecDepth 100000 in
set_option maxHeartbeats 8000000 in
theorem expr_two (hc : ∀ g, g ≤ f → Con T r g) {l1 : List ANode} {k1 : Int} {s1 : DS} (he : s.e = 0) (hi : dIs T s ⟨#[110, 111, 116]⟩ = false) (h1 : dR T f (.expr 3) o s = some (l1, k1, s1)) (h2 : dR T f (.exprL 2 l1) o s1 = some (l, k, s')) (hr : RdM w r T o s) : Calls Tryd.prog 49 #[.pointer (some ⟨r, 0, none⟩), .int .i64 2] w (DG w r T o l s') := by
 obtain ⟨f2, rfl, hx0, hcase⟩ := exprL_inv h2
 rcases hcase with ⟨_, hq, _⟩ | ⟨_, hl, hs⟩
 ·exact absurd rfl hq
 subst hl hs
 have HR := hid hr
 have hrl := hr.lt
 have HX := hid (fun w1 (hw : RdM w1 r T o s) => (hc _ (Nat.le_refl _)).expr 3 h1 hw)
 have HI := hid (fun w1 (hw : RdM w1 r T o s) => dis_any ⟨#[110, 111, 116]⟩ hw)
 rw [hi] at HI
 obtain ⟨g, c, q, x⟩ := hr.x
 have z0 : w.cell? ⟨r, 3, none⟩ = some (.int .i64 s.e) := x.b.cell 3
 have q1 : (s.e == 0) = true := by simpa using he
 have q2 : (s.e != 0) = false := by simpa using he
 unfold DG at HX ⊢
 clear x hr he hc h1 h2 hi hx0
 go_enter Tryd.func49, Tryd.ntmps49
 go_wp2_with (first
  | (go_at_call 42; (fail_if_success (have _g := R1)); refine (HI.out _ (HR.out.bw bq)).mono ?_; rintro e w1 ⟨rfl, hb1⟩; have B1 := hid (show Bw w w1 from Bw.trans bq hb1); have R1 := hid (HR.out.bw B1.out); clear hb1)
  | (go_at_call 49; refine (HX.out _ (R1.out.bw bq)).mono ?_; rintro e w2 ⟨a2, c2, rfl, hn2, hr2, hk2, hl2⟩; have K2 := hid (show Kp r w w2 from Kp.trans (Kp.of_bw (Bw.trans B1.out bq)) hk2); have N2 := hid (hn2.low (b' := w.heap.size) (Nat.le_trans B1.out.size (by first | (simp; done) | exact Nat.le_refl _))); have R2 := hid hr2; have L2 := hid hl2; clear hn2 hr2 hk2 hl2)
  | fail)
 go_loopw [5] (fun v5 wr => wr = w2 ∧ v5 = .slice a2 l.length c2) (fun _ _ => 0)
 case atStart => exact ⟨rfl, rfl⟩
 case round =>
  obtain ⟨rfl, rfl⟩ := hrel
  obtain ⟨s0, hs0⟩ : ∃ s0, s' = s0 := ⟨_, rfl⟩
  have HS := hid hs0
  obtain ⟨g2, c2', q2', x2⟩ := R2.out.x
  have z3 : wr.cell? ⟨r, 3, none⟩ = some (.int .i64 s0.e) := hs0 ▸ x2.b.cell 3
  have zl : r < wr.heap.size := x2.b.lt
  clear x2 hs0
  by_cases h0 : s0.e = 0
  ·have e1 : (s0.e == 0) = true := by simpa using h0
   have e3 : ((2 : Int) != 2) = false := by decide
   clear h0
   go_wp2_with (first
    | fail)
   refine wp_region_W (fun w' => w'.cell? ⟨r, 3, none⟩ = some (.int .i64 s0.e)) (fun j => 1) (by kernel_rfl) ?_
   refine tkW (i := 0) (oi := oDxc0) (v := ?_) rfl (Or.inl ⟨by rfl, fun w _ => ?_⟩) ?_
   rotate_left
   ·(go_simp; first | done | with_reducible rfl)
   try simp only [oDxc0, Act.put, sqA, sqZ, sqS]
   refine tkW (i := 1) (oi := oDxc1) (v := ?_) rfl (Or.inl ⟨by rfl, fun w _ => ?_⟩) ?_
   rotate_left
   ·(go_simp; first | done | with_reducible rfl)
   try simp only [oDxc1, Act.put, sqA, sqZ, sqS]
   refine tkW (i := 2) (oi := oDxc2) (v := ?_) rfl (Or.inl ⟨by rfl, fun w _ => ?_⟩) ?_
   rotate_left
   ·(go_simp; first | done | with_reducible rfl)
   try simp only [oDxc2, Act.put, sqA, sqZ, sqS]
   refine ldW (i := 3) (oi := oDxc3) (v := ?_) rfl (Or.inl ⟨by rfl, fun w hS => ?_⟩) z3 ?_
   rotate_left
   ·(skip; go_simp; first | done | with_reducible rfl)
   try simp only [oDxc3, Act.put, sqA, sqZ, sqS]
   refine tkW (i := 4) (oi := oDxc4) (v := ?_) rfl (Or.inl ⟨by rfl, fun w _ => ?_⟩) ?_
   rotate_left
   ·(go_simp; first | done | with_reducible rfl)
   try simp only [oDxc4, Act.put, sqA, sqZ, sqS]
   try rw [e1]
   refine tkW (i := 5) (oi := oDxc5) (v := ?_) rfl (Or.inl ⟨by rfl, fun w _ => ?_⟩) ?_
   rotate_left
   ·(go_simp; first | done | with_reducible rfl)
   try simp only [oDxc5, Act.put, sqA, sqZ, sqS]
   refine tkW (i := 6) (oi := oDxc6) (v := ?_) rfl (Or.inl ⟨by rfl, fun w _ => ?_⟩) ?_
   rotate_left
   ·(go_simp; first | done | with_reducible rfl)
   try simp only [oDxc6, Act.put, sqA, sqZ, sqS]
   refine tkW (i := 7) (oi := oDxc7) (v := ?_) rfl (Or.inl ⟨by rfl, fun w _ => ?_⟩) ?_
   rotate_left
   ·(go_simp; first | done | with_reducible rfl)
   try simp only [oDxc7, Act.put, sqA, sqZ, sqS]
   try rw [e3]
   refine tkW (i := 8) (oi := oDxc8) (v := ?_) rfl (Or.inl ⟨by rfl, fun w _ => ?_⟩) ?_
   rotate_left
   ·(go_simp; first | done | with_reducible rfl)
   try simp only [oDxc8, Act.put, sqA, sqZ, sqS]
   refine tkW (i := 9) (oi := oDxc9) (v := ?_) rfl (Or.inl ⟨by rfl, fun w _ => ?_⟩) ?_
   rotate_left
   ·(go_simp; first | done | with_reducible rfl)
   try simp only [oDxc9, Act.put, sqA, sqZ, sqS]
   refine tkW (i := 10) (oi := oDxc10) (v := undef) rfl (Or.inr ⟨by rfl, rfl⟩) ?_
   try simp only [oDxc10, Act.put, sqA, sqZ, sqS]
   refine tkW (i := 11) (oi := oDxc11) (v := undef) rfl (Or.inr ⟨by rfl, rfl⟩) ?_
   try simp only [oDxc11, Act.put, sqA, sqZ, sqS]
   refine tkW (i := 12) (oi := oDxc12) (v := undef) rfl (Or.inr ⟨by rfl, rfl⟩) ?_
   try simp only [oDxc12, Act.put, sqA, sqZ, sqS]
   refine tkW (i := 13) (oi := oDxc13) (v := undef) rfl (Or.inr ⟨by rfl, rfl⟩) ?_
   try simp only [oDxc13, Act.put, sqA, sqZ, sqS]
   refine tkW (i := 14) (oi := oDxc14) (v := undef) rfl (Or.inr ⟨by rfl, rfl⟩) ?_
   try simp only [oDxc14, Act.put, sqA, sqZ, sqS]
   refine tkW (i := 15) (oi := oDxc15) (v := undef) rfl (Or.inr ⟨by rfl, rfl⟩) ?_
   try simp only [oDxc15, Act.put, sqA, sqZ, sqS]
   refine tkW (i := 16) (oi := oDxc16) (v := undef) rfl (Or.inr ⟨by rfl, rfl⟩) ?_
   try simp only [oDxc16, Act.put, sqA, sqZ, sqS]
   refine tkW (i := 17) (oi := oDxc17) (v := undef) rfl (Or.inr ⟨by rfl, rfl⟩) ?_
   try simp only [oDxc17, Act.put, sqA, sqZ, sqS]
   refine tkW (i := 18) (oi := oDxc18) (v := undef) rfl (Or.inr ⟨by rfl, rfl⟩) ?_
   try simp only [oDxc18, Act.put, sqA, sqZ, sqS]
   refine tkW (i := 19) (oi := oDxc19) (v := undef) rfl (Or.inr ⟨by rfl, rfl⟩) ?_
   try simp only [oDxc19, Act.put, sqA, sqZ, sqS]
   refine tkW (i := 20) (oi := oDxc20) (v := undef) rfl (Or.inr ⟨by rfl, rfl⟩) ?_
   try simp only [oDxc20, Act.put, sqA, sqZ, sqS]
   refine tkW (i := 21) (oi := oDxc21) (v := undef) rfl (Or.inr ⟨by rfl, rfl⟩) ?_
   try simp only [oDxc21, Act.put, sqA, sqZ, sqS]
   refine tkW (i := 22) (oi := oDxc22) (v := undef) rfl (Or.inr ⟨by rfl, rfl⟩) ?_
   try simp only [oDxc22, Act.put, sqA, sqZ, sqS]
   refine tkW (i := 23) (oi := oDxc23) (v := ?_) rfl (Or.inl ⟨by rfl, fun w _ => ?_⟩) ?_
   rotate_left
   ·(go_simp; first | done | with_reducible rfl)
   try simp only [oDxc23, Act.put, sqA, sqZ, sqS]
   refine wpAnyW_done (by kernel_rfl) ?_ _
   all_goals go_wp2
   all_goals go_ret
   all_goals exact ⟨_, _, rfl, N2.out, R2.out.bw bq, K2.out.bw bq, L2.out⟩
  ·have e1 : (s0.e == 0) = false := by simpa using h0
   clear h0
   go_wp2_with (first
    | fail)
   refine wp_region_W (fun w' => w'.cell? ⟨r, 3, none⟩ = some (.int .i64 s0.e)) (fun j => 1) (by kernel_rfl) ?_
   refine tkW (i := 0) (oi := oDxc0) (v := ?_) rfl (Or.inl ⟨by rfl, fun w _ => ?_⟩) ?_
   rotate_left
   ·(go_simp; first | done | with_reducible rfl)
   try simp only [oDxc0, Act.put, sqA, sqZ, sqS]
   refine tkW (i := 1) (oi := oDxc1) (v := ?_) rfl (Or.inl ⟨by rfl, fun w _ => ?_⟩) ?_
   rotate_left
   ·(go_simp; first | done | with_reducible rfl)
   try simp only [oDxc1, Act.put, sqA, sqZ, sqS]
   refine tkW (i := 2) (oi := oDxc2) (v := ?_) rfl (Or.inl ⟨by rfl, fun w _ => ?_⟩) ?_
   rotate_left
   ·(go_simp; first | done | with_reducible rfl)
   try simp only [oDxc2, Act.put, sqA, sqZ, sqS]
   refine ldW (i := 3) (oi := oDxc3) (v := ?_) rfl (Or.inl ⟨by rfl, fun w hS => ?_⟩) z3 ?_
   rotate_left
   ·(skip; go_simp; first | done | with_reducible rfl)
   try simp only [oDxc3, Act.put, sqA, sqZ, sqS]
   refine tkW (i := 4) (oi := oDxc4) (v := ?_) rfl (Or.inl ⟨by rfl, fun w _ => ?_⟩) ?_
   rotate_left
   ·(go_simp; first | done | with_reducible rfl)
   try simp only [oDxc4, Act.put, sqA, sqZ, sqS]
   try rw [e1]
   refine tkW (i := 5) (oi := oDxc5) (v := ?_) rfl (Or.inl ⟨by rfl, fun w _ => ?_⟩) ?_
   rotate_left
   ·(go_simp; first | done | with_reducible rfl)
   try simp only [oDxc5, Act.put, sqA, sqZ, sqS]
   refine tkW (i := 6) (oi := oDxc6) (v := undef) rfl (Or.inr ⟨by rfl, rfl⟩) ?_
   try simp only [oDxc6, Act.put, sqA, sqZ, sqS]
   refine tkW (i := 7) (oi := oDxc7) (v := undef) rfl (Or.inr ⟨by rfl, rfl⟩) ?_
   try simp only [oDxc7, Act.put, sqA, sqZ, sqS]
   refine tkW (i := 8) (oi := oDxc8) (v := ?_) rfl (Or.inl ⟨by rfl, fun w _ => ?_⟩) ?_
   rotate_left
   ·(go_simp; first | done | with_reducible rfl)
   try simp only [oDxc8, Act.put, sqA, sqZ, sqS]
   refine tkW (i := 9) (oi := oDxc9) (v := ?_) rfl (Or.inl ⟨by rfl, fun w _ => ?_⟩) ?_
   rotate_left
   ·(go_simp; first | done | with_reducible rfl)
   try simp only [oDxc9, Act.put, sqA, sqZ, sqS]
   refine tkW (i := 10) (oi := oDxc10) (v := undef) rfl (Or.inr ⟨by rfl, rfl⟩) ?_
   try simp only [oDxc10, Act.put, sqA, sqZ, sqS]
   refine tkW (i := 11) (oi := oDxc11) (v := undef) rfl (Or.inr ⟨by rfl, rfl⟩) ?_
   try simp only [oDxc11, Act.put, sqA, sqZ, sqS]
   refine tkW (i := 12) (oi := oDxc12) (v := undef) rfl (Or.inr ⟨by rfl, rfl⟩) ?_
   try simp only [oDxc12, Act.put, sqA, sqZ, sqS]
   refine tkW (i := 13) (oi := oDxc13) (v := undef) rfl (Or.inr ⟨by rfl, rfl⟩) ?_
   try simp only [oDxc13, Act.put, sqA, sqZ, sqS]
   refine tkW (i := 14) (oi := oDxc14) (v := undef) rfl (Or.inr ⟨by rfl, rfl⟩) ?_
   try simp only [oDxc14, Act.put, sqA, sqZ, sqS]
   refine tkW (i := 15) (oi := oDxc15) (v := undef) rfl (Or.inr ⟨by rfl, rfl⟩) ?_
   try simp only [oDxc15, Act.put, sqA, sqZ, sqS]
   refine tkW (i := 16) (oi := oDxc16) (v := undef) rfl (Or.inr ⟨by rfl, rfl⟩) ?_
   try simp only [oDxc16, Act.put, sqA, sqZ, sqS]
   refine tkW (i := 17) (oi := oDxc17) (v := undef) rfl (Or.inr ⟨by rfl, rfl⟩) ?_
   try simp only [oDxc17, Act.put, sqA, sqZ, sqS]
   refine tkW (i := 18) (oi := oDxc18) (v := undef) rfl (Or.inr ⟨by rfl, rfl⟩) ?_
   try simp only [oDxc18, Act.put, sqA, sqZ, sqS]
   refine tkW (i := 19) (oi := oDxc19) (v := undef) rfl (Or.inr ⟨by rfl, rfl⟩) ?_
   try simp only [oDxc19, Act.put, sqA, sqZ, sqS]
   refine tkW (i := 20) (oi := oDxc20) (v := undef) rfl (Or.inr ⟨by rfl, rfl⟩) ?_
   try simp only [oDxc20, Act.put, sqA, sqZ, sqS]
   refine tkW (i := 21) (oi := oDxc21) (v := undef) rfl (Or.inr ⟨by rfl, rfl⟩) ?_
   try simp only [oDxc21, Act.put, sqA, sqZ, sqS]
   refine tkW (i := 22) (oi := oDxc22) (v := undef) rfl (Or.inr ⟨by rfl, rfl⟩) ?_
   try simp only [oDxc22, Act.put, sqA, sqZ, sqS]
   refine tkW (i := 23) (oi := oDxc23) (v := ?_) rfl (Or.inl ⟨by rfl, fun w _ => ?_⟩) ?_
   rotate_left
   ·(go_simp; first | done | with_reducible rfl)
   try simp only [oDxc23, Act.put, sqA, sqZ, sqS]
   refine wpAnyW_done (by kernel_rfl) ?_ _
   all_goals go_wp2
   all_goals go_ret
   all_goals exact ⟨_, _, rfl, N2.out, R2.out.bw bq, K2.out.bw bq, L2.out⟩

end

end Go.Proofs.YtdhkcdehedbpcaaDoor

namespace Go.Proofs.YtdhkcdehedbpcaaDoor
open Go Go.RowKit

@[go_sem] def oDxd0 : Oper := { dst := some 32, op := Op.move (Operand.tmp 0), type := 66, pos := "ref.go:268", after := #[], guard := none }
@[go_sem] def oDxd1 : Oper := { dst := some 33, op := Op.nilCheck (Operand.tmp 32), type := 0, pos := "ref.go:268", after := #[{ on := 0, ground := Ground.data }], guard := none }
@[go_sem] def oDxd2 : Oper := { dst := some 34, op := Op.fieldAddr 68 (Operand.tmp 33) 3, type := 0, pos := "ref.go:268", after := #[{ on := 1, ground := Ground.data }], guard := none }
@[go_sem] def oDxd3 : Oper := { dst := some 35, op := Op.load 3 (Operand.tmp 34), type := 3, pos := "ref.go:268", after := #[{ on := 2, ground := Ground.data }], guard := none }
@[go_sem] def oDxd4 : Oper := { dst := some 36, op := Op.binOp BinOp.eql 3 (Operand.tmp 35) (Operand.const (Value.int IntKind.i64 0)) 3, type := 4, pos := "ref.go:268", after := #[{ on := 3, ground := Ground.data }], guard := none }
@[go_sem] def oDxd5 : Oper := { dst := some 37, op := Op.move (Operand.tmp 36), type := 4, pos := "ref.go:268", after := #[{ on := 4, ground := Ground.data }], guard := none }
@[go_sem] def oDxd6 : Oper := { dst := some 38, op := Op.move (Operand.tmp 1), type := 3, pos := "ref.go:268", after := #[{ on := 5, ground := Ground.guard }], guard := some (5, true) }
@[go_sem] def oDxd7 : Oper := { dst := some 39, op := Op.binOp BinOp.neq 3 (Operand.tmp 38) (Operand.const (Value.int IntKind.i64 2)) 3, type := 4, pos := "ref.go:268", after := #[{ on := 6, ground := Ground.data }, { on := 5, ground := Ground.guard }], guard := some (5, true) }
@[go_sem] def oDxd8 : Oper := { dst := some 40, op := Op.pick (Operand.tmp 37) (Operand.tmp 39) (Operand.const (Value.bool false)), type := 4, pos := "ref.go:268", after := #[{ on := 5, ground := Ground.data }, { on := 7, ground := Ground.data }], guard := none }
@[go_sem] def oDxd9 : Oper := { dst := some 41, op := Op.move (Operand.tmp 40), type := 4, pos := "ref.go:268", after := #[{ on := 8, ground := Ground.data }, { on := 5, ground := Ground.chain }], guard := none }
@[go_sem] def oDxd10 : Oper := { dst := some 42, op := Op.move (Operand.tmp 0), type := 66, pos := "ref.go:268", after := #[{ on := 9, ground := Ground.guard }], guard := some (9, true) }
@[go_sem] def oDxd11 : Oper := { dst := some 43, op := Op.nilCheck (Operand.tmp 42), type := 0, pos := "ref.go:268", after := #[{ on := 10, ground := Ground.data }, { on := 9, ground := Ground.guard }], guard := some (9, true) }
@[go_sem] def oDxd12 : Oper := { dst := some 44, op := Op.fieldAddr 68 (Operand.tmp 43) 0, type := 0, pos := "ref.go:268", after := #[{ on := 11, ground := Ground.data }, { on := 9, ground := Ground.guard }], guard := some (9, true) }
@[go_sem] def oDxd13 : Oper := { dst := some 45, op := Op.load 63 (Operand.tmp 44), type := 63, pos := "ref.go:268", after := #[{ on := 12, ground := Ground.data }, { on := 9, ground := Ground.guard }], guard := some (9, true) }
@[go_sem] def oDxd14 : Oper := { dst := some 46, op := Op.move (Operand.tmp 0), type := 66, pos := "ref.go:268", after := #[{ on := 9, ground := Ground.guard }], guard := some (9, true) }
@[go_sem] def oDxd15 : Oper := { dst := some 47, op := Op.nilCheck (Operand.tmp 46), type := 0, pos := "ref.go:268", after := #[{ on := 14, ground := Ground.data }, { on := 9, ground := Ground.guard }], guard := some (9, true) }
@[go_sem] def oDxd16 : Oper := { dst := some 48, op := Op.fieldAddr 68 (Operand.tmp 47) 1, type := 0, pos := "ref.go:268", after := #[{ on := 15, ground := Ground.data }, { on := 9, ground := Ground.guard }], guard := some (9, true) }
@[go_sem] def oDxd17 : Oper := { dst := some 49, op := Op.load 3 (Operand.tmp 48), type := 3, pos := "ref.go:268", after := #[{ on := 16, ground := Ground.data }, { on := 9, ground := Ground.guard }], guard := some (9, true) }
@[go_sem] def oDxd18 : Oper := { dst := some 50, op := Op.indexAddr 63 (Operand.tmp 45) (Operand.tmp 49), type := 0, pos := "ref.go:268", after := #[{ on := 13, ground := Ground.data }, { on := 17, ground := Ground.data }, { on := 9, ground := Ground.guard }], guard := some (9, true) }
@[go_sem] def oDxd19 : Oper := { dst := some 51, op := Op.load 70 (Operand.tmp 50), type := 70, pos := "ref.go:268", after := #[{ on := 18, ground := Ground.data }, { on := 9, ground := Ground.guard }], guard := some (9, true) }
@[go_sem] def oDxd20 : Oper := { dst := some 53, op := Op.move (Operand.tmp 1), type := 3, pos := "ref.go:268", after := #[{ on := 9, ground := Ground.guard }], guard := some (9, true) }
@[go_sem] def oDxd21 : Oper := { dst := some 52, op := Op.call { callee := Callee.value (Operand.func 72), args := #[Operand.tmp 51], argTypes := #[70] }, type := 3, pos := "ref.go:268", after := #[{ on := 19, ground := Ground.data }, { on := 9, ground := Ground.chain }, { on := 9, ground := Ground.guard }], guard := some (9, true) }
@[go_sem] def oDxd22 : Oper := { dst := some 54, op := Op.binOp BinOp.eql 3 (Operand.tmp 52) (Operand.tmp 53) 3, type := 4, pos := "ref.go:268", after := #[{ on := 20, ground := Ground.data }, { on := 21, ground := Ground.data }, { on := 9, ground := Ground.guard }], guard := some (9, true) }
@[go_sem] def oDxd23 : Oper := { dst := some 55, op := Op.pick (Operand.tmp 41) (Operand.tmp 54) (Operand.const (Value.bool false)), type := 4, pos := "ref.go:268", after := #[{ on := 9, ground := Ground.data }, { on := 22, ground := Ground.data }], guard := none }

section
attribute [local irreducible] dIs
variable {w w' : World} {r f : Nat} {T : List ATok} {o : Int} {s s' : DS} {l : List ANode} {k : Int}

set_option maxRecDepth 100000 in
set_option maxHeartbeats 8000000 in
theorem expr_loop (hc : ∀ g, g ≤ f → Con T r g) (lev : Int) {l1 : List ANode} {k1 : Int} {s1 : DS} (hb0 : 0 ≤ lev) (hb6 : lev < 6) (hb2 : ¬ lev = 2) (he : s.e = 0) (h1 : dR T f (.expr (lev + 1)) o s = some (l1, k1, s1)) (h2 : dR T f (.exprL lev l1) o s1 = some (l, k, s')) (hr : RdM w r T o s) : Calls Tryd.prog 49 #[.pointer (some ⟨r, 0, none⟩), .int .i64 lev] w (DG w r T o l s') := by
 have HC := hid hc
 have HR := hid hr
 have hrl := hr.lt
 have hwp : IntKind.i64.wrap (lev + 1) = lev + 1 := by rw [IntKind.wrap_i64]; omega
 have hxp := fun w1 (hw : RdM w1 r T o s) => (hc f (Nat.le_refl _)).expr (lev + 1) h1 hw
 unfold DG at hxp ⊢
 have HX := hid hxp
 have HWP := hid hwp
 have HL := hid h2
 have HNE := hid (fun e => (dR_goes _ _ _ _ _ _ _ h1).ne rfl e)
 have HLL := hid (dR_len h2)
 obtain ⟨g, c, q, x⟩ := hr.x
 have z0 : w.cell? ⟨r, 3, none⟩ = some (.int .i64 s.e) := x.b.cell 3
 have q1 : (s.e == 0) = true := by simpa using he
 have q2 : (s.e != 0) = false := by simpa using he
 have g2 : (lev == 2) = false := by simpa using hb2
 have g3 : (lev != 2) = true := by simpa using hb2
 have g6 : (lev == 6) = false := by simpa using (show ¬ lev = 6 by omega)
 clear x hr he hc h1 h2 hxp hwp
 go_enter Tryd.func49, Tryd.ntmps49
 go_wp2_with (first
  | (go_at_call 49; refine (HX.out _ (HR.out.bw bq)).mono ?_; rintro e w2 ⟨a2, c2, rfl, hn2, hr2, hk2, hl2⟩; have K2 := hid (show Kp r w w2 from Kp.trans (Kp.of_bw bq) hk2); have N2 := hid (hn2.low (b' := w.heap.size) (by first | (simp; done) | exact Nat.le_refl _)); have R2 := hid hr2; clear hn2 hr2 hk2 hl2)
  | fail)
 go_loopw [5] (fun v5 wr => ∃ (f' : Nat) (x0 : List ANode) (s0 : DS), f' ≤ f ∧ dR T f' (.exprL lev x0) o s0 = some (l, k, s') ∧ (∃ a c, v5 = .slice a x0.length c) ∧ Nd wr w.heap.size v5 x0 ∧ (s0.e = 0 → x0 ≠ []) ∧ RdM wr r T o s0 ∧ Kp r w wr) (fun _ wr => rdL T.length wr r)
 case atStart => exact ⟨f, l1, s1, Nat.le_refl _, HL.out, ⟨_, _, rfl⟩, N2.out, HNE.out, R2.out, K2.out⟩
 case round =>
  obtain ⟨f', x0, s0, hf, hd, ⟨a3, c3', rfl⟩, hn, hne, hrd, hkp⟩ := hrel
  have R3 := hid hrd
  have N3 := hid hn
  have K3 := hid hkp
  obtain ⟨gx, cx, qx, xx⟩ := hrd.x
  have gl := xx.gl
  have TL := hid xx.l
  have zl : r < wr.heap.size := xx.b.lt
  have hti := hrd.i
  have hti2 : (s0.i : Int) < (T.length : Int) := by omega
  have v3 : wr.cell? ⟨r, 3, none⟩ = some (.int .i64 s0.e) := xx.b.cell 3
  have v0 : wr.cell? ⟨r, 0, none⟩ = some (.slice (some ⟨gx, 0, none⟩) T.length cx) := xx.b.cell 0
  have v1 : wr.cell? ⟨r, 1, none⟩ = some (.int .i64 s0.i) := xx.b.cell 1
  have c0 := xx.c0 s0.i hti
  have c1 := xx.c1 s0.i hti
  have c2 := xx.c2 s0.i hti
  have c3 := xx.c3 s0.i hti
  have hlv := fun (w1 : World) => dlevel_any w1 (dtk T s0.i)
  obtain ⟨f2, rfl, hx0, hcase⟩ := exprL_inv hd
  obtain ⟨dv, hdv⟩ : ∃ dv, dLev (dtk T s0.i) = dv := ⟨_, rfl⟩
  rw [hdv] at hlv hcase
  generalize h_t0 : (dtk T s0.i).1 = t0 at c0 hlv
  generalize h_tu : strOfNums (dtk T s0.i).2.1 = tu at c1 hlv
  generalize h_t2 : (dtk T s0.i).2.2.1 = t2 at c2 hlv
  generalize h_t3 : (dtk T s0.i).2.2.2 = t3 at c3 hlv
  have HLV := hid hlv
  have HDV := hid hdv
  have HTU := hid h_tu
  have HX0 := hid hx0
  have HF := hid hf
  clear xx hkp hrd hd hx0 hf HL hlv hdv h_t0 h_tu h_t2 h_t3
  by_cases h0 : s0.e = 0
  ·have e1 : (s0.e == 0) = true := by simpa using h0
   by_cases hq : dv = lev
   ·have dq : (dv == lev) = true := by simpa using hq
    rcases hcase with ⟨_, _, _, l2, k2, s2, h4, h5⟩ | ⟨hbad, _⟩
    rotate_left
    ·exact absurd ⟨h0, hb2, hq⟩ hbad
    obtain ⟨g3_, e3_, gb3, gl3, gp3, p0, p4, pf0, pf4⟩ := hn.head (hne h0)
    subst e3_
    have HV := hid (fun w1 (hw : RdM w1 r T o (dNx s0)) => (HC.out f2 (by have := HF.out; omega)).expr (lev + 1) h4 hw)
    unfold DG at HV
    have HKD := hid (show (dtk T s0.i).1 ≠ 0 from fun e => by have h9 := HDV.out; unfold dLev at h9; rw [if_neg (by rw [e]; decide)] at h9; omega)
    have H5 := hid h5
    obtain ⟨J, hJ⟩ : ∃ J, x0 ++ l2 = J := ⟨_, rfl⟩
    have HJ := hid hJ
    have LJ := hid (show J.length ≤ 2000000 by have a : l2.length ≤ 1000000 := dR_len h4; have := HX0.out; rw [← hJ, List.length_append]; omega)
    clear hJ
    have HFL := hid (fun (e : s2.e = 0) => (show s0.i < s2.i from Nat.lt_of_succ_lt (((dR_goes _ _ _ _ _ _ _ h4).fs rfl).2 e).2))
    have HL2 := hid (dR_len h4)
    have HE0 := hid h0
    clear h4 h5 h0 hq hn hne
    go_wp2_with (first
     | fail)
    refine wp_region_W (fun w' => w'.cell? ⟨r, 3, none⟩ = some (.int .i64 s0.e) ∧ w'.cell? ⟨r, 0, none⟩ = some (.slice (some ⟨gx, 0, none⟩) T.length cx) ∧ w'.cell? ⟨r, 1, none⟩ = some (.int .i64 s0.i) ∧ w'.cell? ⟨gx, s0.i * 4, none⟩ = some (.int .i64 t0) ∧ w'.cell? ⟨gx, s0.i * 4 + 1, none⟩ = some (.string tu) ∧ w'.cell? ⟨gx, s0.i * 4 + 2, none⟩ = some (.int .i64 t2) ∧ w'.cell? ⟨gx, s0.i * 4 + 3, none⟩ = some (.int .i64 t3)) (fun j => if j == 20 then 0 else 1) (by kernel_rfl) ?_
    refine tkW (i := 0) (oi := oDxd0) (v := ?_) rfl (Or.inl ⟨by rfl, fun w _ => ?_⟩) ?_
    rotate_left
    ·(go_simp; first | done | with_reducible rfl)
    try simp only [oDxd0, Act.put, sqA, sqZ, sqS]
    refine tkW (i := 1) (oi := oDxd1) (v := ?_) rfl (Or.inl ⟨by rfl, fun w _ => ?_⟩) ?_
    rotate_left
    ·(go_simp; first | done | with_reducible rfl)
    try simp only [oDxd1, Act.put, sqA, sqZ, sqS]
    refine tkW (i := 2) (oi := oDxd2) (v := ?_) rfl (Or.inl ⟨by rfl, fun w _ => ?_⟩) ?_
    rotate_left
    ·(go_simp; first | done | with_reducible rfl)
    try simp only [oDxd2, Act.put, sqA, sqZ, sqS]
    refine ldW (i := 3) (oi := oDxd3) (v := ?_) rfl (Or.inl ⟨by rfl, fun w hS => ?_⟩) ⟨v3, v0, v1, c0, c1, c2, c3⟩ ?_
    rotate_left
    ·(obtain ⟨s1_, s2_, s3_, s4_, s5_, s6_, s7_⟩ := hS; go_simp; first | done | with_reducible rfl)
    try simp only [oDxd3, Act.put, sqA, sqZ, sqS]
    refine tkW (i := 4) (oi := oDxd4) (v := ?_) rfl (Or.inl ⟨by rfl, fun w _ => ?_⟩) ?_
    rotate_left
    ·(go_simp; first | done | with_reducible rfl)
    try simp only [oDxd4, Act.put, sqA, sqZ, sqS]
    try rw [e1]
    refine tkW (i := 5) (oi := oDxd5) (v := ?_) rfl (Or.inl ⟨by rfl, fun w _ => ?_⟩) ?_
    rotate_left
    ·(go_simp; first | done | with_reducible rfl)
    try simp only [oDxd5, Act.put, sqA, sqZ, sqS]
    refine tkW (i := 6) (oi := oDxd6) (v := ?_) rfl (Or.inl ⟨by rfl, fun w _ => ?_⟩) ?_
    rotate_left
    ·(go_simp; first | done | with_reducible rfl)
    try simp only [oDxd6, Act.put, sqA, sqZ, sqS]
    refine tkW (i := 7) (oi := oDxd7) (v := ?_) rfl (Or.inl ⟨by rfl, fun w _ => ?_⟩) ?_
    rotate_left
    ·(go_simp; first | done | with_reducible rfl)
    try simp only [oDxd7, Act.put, sqA, sqZ, sqS]
    try rw [g3]
    refine tkW (i := 8) (oi := oDxd8) (v := ?_) rfl (Or.inl ⟨by rfl, fun w _ => ?_⟩) ?_
    rotate_left
    ·(go_simp; first | done | with_reducible rfl)
    try simp only [oDxd8, Act.put, sqA, sqZ, sqS]
    refine tkW (i := 9) (oi := oDxd9) (v := ?_) rfl (Or.inl ⟨by rfl, fun w _ => ?_⟩) ?_
    rotate_left
    ·(go_simp; first | done | with_reducible rfl)
    try simp only [oDxd9, Act.put, sqA, sqZ, sqS]
    refine tkW (i := 10) (oi := oDxd10) (v := ?_) rfl (Or.inl ⟨by rfl, fun w _ => ?_⟩) ?_
    rotate_left
    ·(go_simp; first | done | with_reducible rfl)
    try simp only [oDxd10, Act.put, sqA, sqZ, sqS]
    refine tkW (i := 11) (oi := oDxd11) (v := ?_) rfl (Or.inl ⟨by rfl, fun w _ => ?_⟩) ?_
    rotate_left
    ·(go_simp; first | done | with_reducible rfl)
    try simp only [oDxd11, Act.put, sqA, sqZ, sqS]
    refine tkW (i := 12) (oi := oDxd12) (v := ?_) rfl (Or.inl ⟨by rfl, fun w _ => ?_⟩) ?_
    rotate_left
    ·(go_simp; first | done | with_reducible rfl)
    try simp only [oDxd12, Act.put, sqA, sqZ, sqS]
    refine ldW (i := 13) (oi := oDxd13) (v := ?_) rfl (Or.inl ⟨by rfl, fun w hS => ?_⟩) ⟨v3, v0, v1, c0, c1, c2, c3⟩ ?_
    rotate_left
    ·(obtain ⟨s1_, s2_, s3_, s4_, s5_, s6_, s7_⟩ := hS; go_simp; first | done | with_reducible rfl)
    try simp only [oDxd13, Act.put, sqA, sqZ, sqS]
    refine tkW (i := 14) (oi := oDxd14) (v := ?_) rfl (Or.inl ⟨by rfl, fun w _ => ?_⟩) ?_
    rotate_left
    ·(go_simp; first | done | with_reducible rfl)
    try simp only [oDxd14, Act.put, sqA, sqZ, sqS]
    refine tkW (i := 15) (oi := oDxd15) (v := ?_) rfl (Or.inl ⟨by rfl, fun w _ => ?_⟩) ?_
    rotate_left
    ·(go_simp; first | done | with_reducible rfl)
    try simp only [oDxd15, Act.put, sqA, sqZ, sqS]
    refine tkW (i := 16) (oi := oDxd16) (v := ?_) rfl (Or.inl ⟨by rfl, fun w _ => ?_⟩) ?_
    rotate_left
    ·(go_simp; first | done | with_reducible rfl)
    try simp only [oDxd16, Act.put, sqA, sqZ, sqS]
    refine ldW (i := 17) (oi := oDxd17) (v := ?_) rfl (Or.inl ⟨by rfl, fun w hS => ?_⟩) ⟨v3, v0, v1, c0, c1, c2, c3⟩ ?_
    rotate_left
    ·(obtain ⟨s1_, s2_, s3_, s4_, s5_, s6_, s7_⟩ := hS; go_simp; first | done | with_reducible rfl)
    try simp only [oDxd17, Act.put, sqA, sqZ, sqS]
    refine tkW (i := 18) (oi := oDxd18) (v := ?_) rfl (Or.inl ⟨by rfl, fun w _ => ?_⟩) ?_
    rotate_left
    ·(go_simp; first | done | with_reducible rfl)
    try simp only [oDxd18, Act.put, sqA, sqZ, sqS]
    refine ldW (i := 19) (oi := oDxd19) (v := ?_) rfl (Or.inl ⟨by rfl, fun w hS => ?_⟩) ⟨v3, v0, v1, c0, c1, c2, c3⟩ ?_
    rotate_left
    ·(obtain ⟨s1_, s2_, s3_, s4_, s5_, s6_, s7_⟩ := hS; go_simp; first | done | with_reducible rfl)
    try simp only [oDxd19, Act.put, sqA, sqZ, sqS]
    refine tkW (i := 21) (oi := oDxd20) (v := ?_) rfl (Or.inl ⟨by rfl, fun w _ => ?_⟩) ?_
    rotate_left
    ·(go_simp; first | done | with_reducible rfl)
    try simp only [oDxd20, Act.put, sqA, sqZ, sqS]
    refine wpAnyW_ready (rs := [20]) (by kernel_rfl) (by simp) ?_
    refine (AllReadyW.cons (o := oDxd21) rfl (fun K hK => ?_) AllReadyW.nil)
    go_simp
    refine (HLV.out _).mono ?_
    rintro e w4 ⟨he4, hb4⟩
    subst he4
    have B4 := hid (show Bw wr w4 from Bw.trans bq hb4)
    have hz4 : r < w4.heap.size := Nat.lt_of_lt_of_le zl B4.out.size
    have hg4 : gx < w4.heap.size := Nat.lt_of_lt_of_le gl B4.out.size
    obtain ⟨y3, y0, y1, d0, d1, d2, d3⟩ : w4.cell? ⟨r, 3, none⟩ = some (.int .i64 s0.e) ∧ w4.cell? ⟨r, 0, none⟩ = some (.slice (some ⟨gx, 0, none⟩) T.length cx) ∧ w4.cell? ⟨r, 1, none⟩ = some (.int .i64 s0.i) ∧ w4.cell? ⟨gx, s0.i * 4, none⟩ = some (.int .i64 t0) ∧ w4.cell? ⟨gx, s0.i * 4 + 1, none⟩ = some (.string tu) ∧ w4.cell? ⟨gx, s0.i * 4 + 2, none⟩ = some (.int .i64 t2) ∧ w4.cell? ⟨gx, s0.i * 4 + 3, none⟩ = some (.int .i64 t3) := ⟨(B4.out.cell zl).trans v3, (B4.out.cell zl).trans v0, (B4.out.cell zl).trans v1, (B4.out.cell gl).trans c0, (B4.out.cell gl).trans c1, (B4.out.cell gl).trans c2, (B4.out.cell gl).trans c3⟩
    clear hb4
    refine hK.out _ _ (show w4.cell? ⟨r, 3, none⟩ = some (.int .i64 s0.e) ∧ w4.cell? ⟨r, 0, none⟩ = some (.slice (some ⟨gx, 0, none⟩) T.length cx) ∧ w4.cell? ⟨r, 1, none⟩ = some (.int .i64 s0.i) ∧ w4.cell? ⟨gx, s0.i * 4, none⟩ = some (.int .i64 t0) ∧ w4.cell? ⟨gx, s0.i * 4 + 1, none⟩ = some (.string tu) ∧ w4.cell? ⟨gx, s0.i * 4 + 2, none⟩ = some (.int .i64 t2) ∧ w4.cell? ⟨gx, s0.i * 4 + 3, none⟩ = some (.int .i64 t3) from ⟨y3, y0, y1, d0, d1, d2, d3⟩) ?_
    clear hK K
    try simp only [oDxd21, Act.put, sqA, sqZ, sqS]
    refine tkW (i := 22) (oi := oDxd22) (v := ?_) rfl (Or.inl ⟨by rfl, fun w _ => ?_⟩) ?_
    rotate_left
    ·(go_simp; first | done | with_reducible rfl)
    try simp only [oDxd22, Act.put, sqA, sqZ, sqS]
    try rw [dq]
    refine tkW (i := 23) (oi := oDxd23) (v := ?_) rfl (Or.inl ⟨by rfl, fun w _ => ?_⟩) ?_
    rotate_left
    ·(go_simp; first | done | with_reducible rfl)
    try simp only [oDxd23, Act.put, sqA, sqZ, sqS]
    refine wpAnyW_done (by kernel_rfl) ?_ _
    have N4 := hid (N3.out.bw B4.out)
    have R4 := hid (R3.out.bw B4.out)
    have K4 := hid (K3.out.bw B4.out)
    have p4' := (B4.out.cell gl3).trans p4
    have gl4 : g3_ < w4.heap.size := Nat.lt_of_lt_of_le gl3 B4.out.size
    clear v3 v0 v1 c0 c1 c2 c3 p0 p4 pf0 pf4
    go_wp2_with (first
     | fail)
    go_region
    have WR : IntKind.i64.wrap ((s0.i : Int) + 1) = (s0.i : Int) + 1 := by rw [IntKind.wrap_i64]; have := TL.out; omega
    obtain ⟨gy, cy, qy, xy⟩ := R4.out.x
    have yfr := xy.b.free
    clear xy
    by_cases hl2 : lev < 2
    ·have d2_ : decide (lev < 2) = true := by simpa using hl2
     have d3_ : (lev == 3) = false := by simpa using (show ¬ lev = 3 by omega)
     have HNX := hid (show dR T f2 (.exprL lev (dJoin (25 - lev, 0, [], 0, dAt0 x0) 2 J)) o s2 = some (l, k, s') from by
      rcases H5.out with ⟨h9, _⟩ | ⟨_, h9⟩
      ·omega
      ·unfold exN at h9; rw [if_pos hl2, HJ.out] at h9; exact h9)
     go_wp2_with (first
      | fail)
     have RN := hid (show RdM (w4.setCell ⟨r, 1, none⟩ (.int .i64 ((s0.i : Int) + 1))) r T o (dNx s0) from R4.out.nx2 HKD.out)
     have NN := hid (N4.out.kp ((Kp.refl r w4).set 1 (.int .i64 ((s0.i : Int) + 1))) hrl)
     have KN := hid (K4.out.set 1 (.int .i64 ((s0.i : Int) + 1)))
     have pn := Blk.new (w4.setCell ⟨r, 1, none⟩ (.int .i64 ((s0.i : Int) + 1))) #[.int .i64 (25 - lev), .int .i64 0, .string ⟨#[]⟩, .int .i64 0, .int .i64 (dAt0 x0)] 43
     rw [World.size_setCell] at pn
     have PN := hid pn
     have pc := pn.cell
     have pl := pn.lt
     clear pn
     go_region_held3 (fun w' => w'.cell? ⟨w4.heap.size, 0, none⟩ = some (.int .i64 (25 - lev)) ∧ w'.cell? ⟨w4.heap.size, 1, none⟩ = some (.int .i64 0) ∧ w'.cell? ⟨w4.heap.size, 2, none⟩ = some (.string ⟨#[]⟩) ∧ w'.cell? ⟨w4.heap.size, 3, none⟩ = some (.int .i64 0) ∧ w'.cell? ⟨w4.heap.size, 4, none⟩ = some (.int .i64 (dAt0 x0))) (first | (simp [go_sem, *]; done)) (first
      | (go_at_call 49; (fail_if_success (have _g := N8)); (try rw [HWP.out]); refine (HV.out _ (RN.out.bw bq)).mono ?_; rintro e w8 ⟨a8, c8, rfl, hn8, hr8, hk8, hl8⟩; have N8 := hid (hn8.low (b' := w.heap.size) (Nat.le_trans KN.out.size (by first | (simp; done) | (simp; omega) | exact Nat.le_refl _))); have N78 := hid (NN.out.kp (Kp.trans (Kp.of_bw bq) hk8) hrl); have R8 := hid hr8; have K8 := hid (show Kp r w w8 from KN.out.trans (Kp.trans (Kp.of_bw bq) hk8)); have P8 := hid (show Blk w8 w4.heap.size #[.int .i64 (25 - lev), .int .i64 0, .string ⟨#[]⟩, .int .i64 0, .int .i64 (dAt0 x0)] 43 from PN.out.kp (Kp.trans (Kp.of_bw bq) hk8) (by omega)); have L8 := hid hl8; have v5 := P8.out.cell; have v6 := P8.out.lt; clear hn8 hr8 hk8 hl8)
      | (go_at_call 50; refine (dboth_as J _ _ x0 l2 HJ.out (N78.out.bw bq).sl (N8.out.bw bq).sl (by have := HX0.out; omega) (by have := L8.out; omega)).mono ?_; rintro e w10 ⟨a10, c10, rfl, hn10, hb10⟩; have N10 := hid hn10; have R10 := hid (R8.out.bw (Bw.trans bq hb10)); have K10 := hid (K8.out.bw (Bw.trans bq hb10)); have P10 := hid (P8.out.bw (Bw.trans bq hb10)); have v7 := P10.out.cell; have v8 := P10.out.lt; clear hn10 hb10)
      | (go_at_call 22; refine (djoin_any (25 - lev, 0, [], 0, dAt0 x0) 2 _ J (N10.out.bw bq).sl (by have := LJ.out; omega)).mono ?_; rintro e w9 ⟨a9, c9, rfl, hn9, hb9⟩; have N9 := hid hn9; have B9 := hid (show Bw w10 w9 from Bw.trans bq hb9); have P9 := hid (P10.out.bw B9.out); have v9 := P9.out.cell; have v10 := P9.out.lt; clear hn9 hb9)
      | fail)
     all_goals go_wp2
     case roundEnd =>
      exact ⟨⟨f2, dJoin (25 - lev, 0, [], 0, dAt0 x0) 2 J, s2, by have := HF.out; omega, HNX.out, ⟨_, _, rfl⟩, N9.out.low K10.out.size, fun _ => dJoin_ne _ _ _, R10.out.bw B9.out, K10.out.bw B9.out⟩, left_lt R3.out (R10.out.bw B9.out) HE0.out HFL.out⟩
    ·have d2_ : decide (lev < 2) = false := by simpa using hl2
     obtain ⟨tl, htl⟩ : ∃ tl, (dtk T s0.i).2.1 = tl := ⟨_, rfl⟩
     have htu : strOfNums tl = tu := by rw [← htl]; exact HTU.out
     have hj0 := fun (w1 : World) (v : Value) (hsl : Sl w1 (fun _ => True) v J.length 5 (J.flatMap ndV)) (hl : J.length ≤ 10000000) => djoin_any (23, 0, tl, 0, dAt0 x0) 2 v J hsl hl
     simp only [nodeV, htu] at hj0
     have HJ0 := hid hj0
     have HEX := hid (show exN T lev x0 s0 = (23, 0, tl, 0, dAt0 x0) from by unfold exN; rw [if_neg hl2, htl])
     clear hj0 htl htu
     by_cases hl3 : lev = 3
     ·have d3_ : (lev == 3) = true := by simpa using hl3
      obtain ⟨hla, hsa⟩ : l = dJoin (23, 0, tl, 0, dAt0 x0) 2 J ∧ s' = s2 := by
       rcases H5.out with ⟨_, h8, h9, _⟩ | ⟨h9, _⟩
       ·rw [HEX.out, HJ.out] at h8; exact ⟨h8, h9⟩
       ·exact absurd hl3 h9
      clear H5 hl3
      subst l
      subst s'
      go_wp2_with (first
       | fail)
      have RN := hid (show RdM (w4.setCell ⟨r, 1, none⟩ (.int .i64 ((s0.i : Int) + 1))) r T o (dNx s0) from R4.out.nx2 HKD.out)
      have NN := hid (N4.out.kp ((Kp.refl r w4).set 1 (.int .i64 ((s0.i : Int) + 1))) hrl)
      have KN := hid (K4.out.set 1 (.int .i64 ((s0.i : Int) + 1)))
      have pn := Blk.new (w4.setCell ⟨r, 1, none⟩ (.int .i64 ((s0.i : Int) + 1))) #[.int .i64 23, .int .i64 0, .string tu, .int .i64 0, .int .i64 (dAt0 x0)] 43
      rw [World.size_setCell] at pn
      have PN := hid pn
      have pc := pn.cell
      have pl := pn.lt
      clear pn
      go_region_held3 (fun w' => w'.cell? ⟨w4.heap.size, 0, none⟩ = some (.int .i64 23) ∧ w'.cell? ⟨w4.heap.size, 1, none⟩ = some (.int .i64 0) ∧ w'.cell? ⟨w4.heap.size, 2, none⟩ = some (.string tu) ∧ w'.cell? ⟨w4.heap.size, 3, none⟩ = some (.int .i64 0) ∧ w'.cell? ⟨w4.heap.size, 4, none⟩ = some (.int .i64 (dAt0 x0))) (first | (simp [go_sem, *]; done)) (first
       | (go_at_call 49; (fail_if_success (have _g := N8)); (try rw [HWP.out]); refine (HV.out _ (RN.out.bw bq)).mono ?_; rintro e w8 ⟨a8, c8, rfl, hn8, hr8, hk8, hl8⟩; have N8 := hid (hn8.low (b' := w.heap.size) (Nat.le_trans KN.out.size (by first | (simp; done) | (simp; omega) | exact Nat.le_refl _))); have N78 := hid (NN.out.kp (Kp.trans (Kp.of_bw bq) hk8) hrl); have R8 := hid hr8; have K8 := hid (show Kp r w w8 from KN.out.trans (Kp.trans (Kp.of_bw bq) hk8)); have P8 := hid (show Blk w8 w4.heap.size #[.int .i64 23, .int .i64 0, .string tu, .int .i64 0, .int .i64 (dAt0 x0)] 43 from PN.out.kp (Kp.trans (Kp.of_bw bq) hk8) (by omega)); have L8 := hid hl8; have v5 := P8.out.cell; have v6 := P8.out.lt; clear hn8 hr8 hk8 hl8)
       | (go_at_call 50; refine (dboth_as J _ _ x0 l2 HJ.out (N78.out.bw bq).sl (N8.out.bw bq).sl (by have := HX0.out; omega) (by have := L8.out; omega)).mono ?_; rintro e w10 ⟨a10, c10, rfl, hn10, hb10⟩; have N10 := hid hn10; have R10 := hid (R8.out.bw (Bw.trans bq hb10)); have K10 := hid (K8.out.bw (Bw.trans bq hb10)); have P10 := hid (P8.out.bw (Bw.trans bq hb10)); have v7 := P10.out.cell; have v8 := P10.out.lt; clear hn10 hb10)
       | (go_at_call 22; refine (HJ0.out _ _ (N10.out.bw bq).sl (by have := LJ.out; omega)).mono ?_; rintro e w9 ⟨a9, c9, rfl, hn9, hb9⟩; have N9 := hid hn9; have B9 := hid (show Bw w10 w9 from Bw.trans bq hb9); have P9 := hid (P10.out.bw B9.out); have v9 := P9.out.cell; have v10 := P9.out.lt; clear hn9 hb9)
       | fail)
      all_goals go_wp2
      all_goals go_ret
      all_goals exact ⟨_, _, rfl, N9.out.low K10.out.size, R10.out.bw B9.out, K10.out.bw B9.out, HLL.out⟩
     ·have d3_ : (lev == 3) = false := by simpa using hl3
      have HNX := hid (show dR T f2 (.exprL lev (dJoin (23, 0, tl, 0, dAt0 x0) 2 J)) o s2 = some (l, k, s') from by
       rcases H5.out with ⟨h9, _⟩ | ⟨_, h9⟩
       ·exact absurd h9 hl3
       ·rw [HEX.out, HJ.out] at h9; exact h9)
      clear H5 hl3
      go_wp2_with (first
       | fail)
      have RN := hid (show RdM (w4.setCell ⟨r, 1, none⟩ (.int .i64 ((s0.i : Int) + 1))) r T o (dNx s0) from R4.out.nx2 HKD.out)
      have NN := hid (N4.out.kp ((Kp.refl r w4).set 1 (.int .i64 ((s0.i : Int) + 1))) hrl)
      have KN := hid (K4.out.set 1 (.int .i64 ((s0.i : Int) + 1)))
      have pn := Blk.new (w4.setCell ⟨r, 1, none⟩ (.int .i64 ((s0.i : Int) + 1))) #[.int .i64 23, .int .i64 0, .string tu, .int .i64 0, .int .i64 (dAt0 x0)] 43
      rw [World.size_setCell] at pn
      have PN := hid pn
      have pc := pn.cell
      have pl := pn.lt
      clear pn
      go_region_held3 (fun w' => w'.cell? ⟨w4.heap.size, 0, none⟩ = some (.int .i64 23) ∧ w'.cell? ⟨w4.heap.size, 1, none⟩ = some (.int .i64 0) ∧ w'.cell? ⟨w4.heap.size, 2, none⟩ = some (.string tu) ∧ w'.cell? ⟨w4.heap.size, 3, none⟩ = some (.int .i64 0) ∧ w'.cell? ⟨w4.heap.size, 4, none⟩ = some (.int .i64 (dAt0 x0))) (first | (simp [go_sem, *]; done)) (first
       | (go_at_call 49; (fail_if_success (have _g := N8)); (try rw [HWP.out]); refine (HV.out _ (RN.out.bw bq)).mono ?_; rintro e w8 ⟨a8, c8, rfl, hn8, hr8, hk8, hl8⟩; have N8 := hid (hn8.low (b' := w.heap.size) (Nat.le_trans KN.out.size (by first | (simp; done) | (simp; omega) | exact Nat.le_refl _))); have N78 := hid (NN.out.kp (Kp.trans (Kp.of_bw bq) hk8) hrl); have R8 := hid hr8; have K8 := hid (show Kp r w w8 from KN.out.trans (Kp.trans (Kp.of_bw bq) hk8)); have P8 := hid (show Blk w8 w4.heap.size #[.int .i64 23, .int .i64 0, .string tu, .int .i64 0, .int .i64 (dAt0 x0)] 43 from PN.out.kp (Kp.trans (Kp.of_bw bq) hk8) (by omega)); have L8 := hid hl8; have v5 := P8.out.cell; have v6 := P8.out.lt; clear hn8 hr8 hk8 hl8)
       | (go_at_call 50; refine (dboth_as J _ _ x0 l2 HJ.out (N78.out.bw bq).sl (N8.out.bw bq).sl (by have := HX0.out; omega) (by have := L8.out; omega)).mono ?_; rintro e w10 ⟨a10, c10, rfl, hn10, hb10⟩; have N10 := hid hn10; have R10 := hid (R8.out.bw (Bw.trans bq hb10)); have K10 := hid (K8.out.bw (Bw.trans bq hb10)); have P10 := hid (P8.out.bw (Bw.trans bq hb10)); have v7 := P10.out.cell; have v8 := P10.out.lt; clear hn10 hb10)
       | (go_at_call 22; refine (HJ0.out _ _ (N10.out.bw bq).sl (by have := LJ.out; omega)).mono ?_; rintro e w9 ⟨a9, c9, rfl, hn9, hb9⟩; have N9 := hid hn9; have B9 := hid (show Bw w10 w9 from Bw.trans bq hb9); have P9 := hid (P10.out.bw B9.out); have v9 := P9.out.cell; have v10 := P9.out.lt; clear hn9 hb9)
       | fail)
      all_goals go_wp2
      case roundEnd =>
       exact ⟨⟨f2, dJoin (23, 0, tl, 0, dAt0 x0) 2 J, s2, by have := HF.out; omega, HNX.out, ⟨_, _, rfl⟩, N9.out.low K10.out.size, fun _ => dJoin_ne _ _ _, R10.out.bw B9.out, K10.out.bw B9.out⟩, left_lt R3.out (R10.out.bw B9.out) HE0.out HFL.out⟩
   ·have dq : (dv == lev) = false := by simpa using hq
    rcases hcase with ⟨_, _, hq2, _⟩ | ⟨_, hl, hs⟩
    ·exact absurd hq2 hq
    subst l; subst s'
    clear h0 hq hn hne
    go_wp2_with (first
     | fail)
    refine wp_region_W (fun w' => w'.cell? ⟨r, 3, none⟩ = some (.int .i64 s0.e) ∧ w'.cell? ⟨r, 0, none⟩ = some (.slice (some ⟨gx, 0, none⟩) T.length cx) ∧ w'.cell? ⟨r, 1, none⟩ = some (.int .i64 s0.i) ∧ w'.cell? ⟨gx, s0.i * 4, none⟩ = some (.int .i64 t0) ∧ w'.cell? ⟨gx, s0.i * 4 + 1, none⟩ = some (.string tu) ∧ w'.cell? ⟨gx, s0.i * 4 + 2, none⟩ = some (.int .i64 t2) ∧ w'.cell? ⟨gx, s0.i * 4 + 3, none⟩ = some (.int .i64 t3)) (fun j => if j == 20 then 0 else 1) (by kernel_rfl) ?_
    refine tkW (i := 0) (oi := oDxd0) (v := ?_) rfl (Or.inl ⟨by rfl, fun w _ => ?_⟩) ?_
    rotate_left
    ·(go_simp; first | done | with_reducible rfl)
    try simp only [oDxd0, Act.put, sqA, sqZ, sqS]
    refine tkW (i := 1) (oi := oDxd1) (v := ?_) rfl (Or.inl ⟨by rfl, fun w _ => ?_⟩) ?_
    rotate_left
    ·(go_simp; first | done | with_reducible rfl)
    try simp only [oDxd1, Act.put, sqA, sqZ, sqS]
    refine tkW (i := 2) (oi := oDxd2) (v := ?_) rfl (Or.inl ⟨by rfl, fun w _ => ?_⟩) ?_
    rotate_left
    ·(go_simp; first | done | with_reducible rfl)
    try simp only [oDxd2, Act.put, sqA, sqZ, sqS]
    refine ldW (i := 3) (oi := oDxd3) (v := ?_) rfl (Or.inl ⟨by rfl, fun w hS => ?_⟩) ⟨v3, v0, v1, c0, c1, c2, c3⟩ ?_
    rotate_left
    ·(obtain ⟨s1_, s2_, s3_, s4_, s5_, s6_, s7_⟩ := hS; go_simp; first | done | with_reducible rfl)
    try simp only [oDxd3, Act.put, sqA, sqZ, sqS]
    refine tkW (i := 4) (oi := oDxd4) (v := ?_) rfl (Or.inl ⟨by rfl, fun w _ => ?_⟩) ?_
    rotate_left
    ·(go_simp; first | done | with_reducible rfl)
    try simp only [oDxd4, Act.put, sqA, sqZ, sqS]
    try rw [e1]
    refine tkW (i := 5) (oi := oDxd5) (v := ?_) rfl (Or.inl ⟨by rfl, fun w _ => ?_⟩) ?_
    rotate_left
    ·(go_simp; first | done | with_reducible rfl)
    try simp only [oDxd5, Act.put, sqA, sqZ, sqS]
    refine tkW (i := 6) (oi := oDxd6) (v := ?_) rfl (Or.inl ⟨by rfl, fun w _ => ?_⟩) ?_
    rotate_left
    ·(go_simp; first | done | with_reducible rfl)
    try simp only [oDxd6, Act.put, sqA, sqZ, sqS]
    refine tkW (i := 7) (oi := oDxd7) (v := ?_) rfl (Or.inl ⟨by rfl, fun w _ => ?_⟩) ?_
    rotate_left
    ·(go_simp; first | done | with_reducible rfl)
    try simp only [oDxd7, Act.put, sqA, sqZ, sqS]
    try rw [g3]
    refine tkW (i := 8) (oi := oDxd8) (v := ?_) rfl (Or.inl ⟨by rfl, fun w _ => ?_⟩) ?_
    rotate_left
    ·(go_simp; first | done | with_reducible rfl)
    try simp only [oDxd8, Act.put, sqA, sqZ, sqS]
    refine tkW (i := 9) (oi := oDxd9) (v := ?_) rfl (Or.inl ⟨by rfl, fun w _ => ?_⟩) ?_
    rotate_left
    ·(go_simp; first | done | with_reducible rfl)
    try simp only [oDxd9, Act.put, sqA, sqZ, sqS]
    refine tkW (i := 10) (oi := oDxd10) (v := ?_) rfl (Or.inl ⟨by rfl, fun w _ => ?_⟩) ?_
    rotate_left
    ·(go_simp; first | done | with_reducible rfl)
    try simp only [oDxd10, Act.put, sqA, sqZ, sqS]
    refine tkW (i := 11) (oi := oDxd11) (v := ?_) rfl (Or.inl ⟨by rfl, fun w _ => ?_⟩) ?_
    rotate_left
    ·(go_simp; first | done | with_reducible rfl)
    try simp only [oDxd11, Act.put, sqA, sqZ, sqS]
    refine tkW (i := 12) (oi := oDxd12) (v := ?_) rfl (Or.inl ⟨by rfl, fun w _ => ?_⟩) ?_
    rotate_left
    ·(go_simp; first | done | with_reducible rfl)
    try simp only [oDxd12, Act.put, sqA, sqZ, sqS]
    refine ldW (i := 13) (oi := oDxd13) (v := ?_) rfl (Or.inl ⟨by rfl, fun w hS => ?_⟩) ⟨v3, v0, v1, c0, c1, c2, c3⟩ ?_
    rotate_left
    ·(obtain ⟨s1_, s2_, s3_, s4_, s5_, s6_, s7_⟩ := hS; go_simp; first | done | with_reducible rfl)
    try simp only [oDxd13, Act.put, sqA, sqZ, sqS]
    refine tkW (i := 14) (oi := oDxd14) (v := ?_) rfl (Or.inl ⟨by rfl, fun w _ => ?_⟩) ?_
    rotate_left
    ·(go_simp; first | done | with_reducible rfl)
    try simp only [oDxd14, Act.put, sqA, sqZ, sqS]
    refine tkW (i := 15) (oi := oDxd15) (v := ?_) rfl (Or.inl ⟨by rfl, fun w _ => ?_⟩) ?_
    rotate_left
    ·(go_simp; first | done | with_reducible rfl)
    try simp only [oDxd15, Act.put, sqA, sqZ, sqS]
    refine tkW (i := 16) (oi := oDxd16) (v := ?_) rfl (Or.inl ⟨by rfl, fun w _ => ?_⟩) ?_
    rotate_left
    ·(go_simp; first | done | with_reducible rfl)
    try simp only [oDxd16, Act.put, sqA, sqZ, sqS]
    refine ldW (i := 17) (oi := oDxd17) (v := ?_) rfl (Or.inl ⟨by rfl, fun w hS => ?_⟩) ⟨v3, v0, v1, c0, c1, c2, c3⟩ ?_
    rotate_left
    ·(obtain ⟨s1_, s2_, s3_, s4_, s5_, s6_, s7_⟩ := hS; go_simp; first | done | with_reducible rfl)
    try simp only [oDxd17, Act.put, sqA, sqZ, sqS]
    refine tkW (i := 18) (oi := oDxd18) (v := ?_) rfl (Or.inl ⟨by rfl, fun w _ => ?_⟩) ?_
    rotate_left
    ·(go_simp; first | done | with_reducible rfl)
    try simp only [oDxd18, Act.put, sqA, sqZ, sqS]
    refine ldW (i := 19) (oi := oDxd19) (v := ?_) rfl (Or.inl ⟨by rfl, fun w hS => ?_⟩) ⟨v3, v0, v1, c0, c1, c2, c3⟩ ?_
    rotate_left
    ·(obtain ⟨s1_, s2_, s3_, s4_, s5_, s6_, s7_⟩ := hS; go_simp; first | done | with_reducible rfl)
    try simp only [oDxd19, Act.put, sqA, sqZ, sqS]
    refine tkW (i := 21) (oi := oDxd20) (v := ?_) rfl (Or.inl ⟨by rfl, fun w _ => ?_⟩) ?_
    rotate_left
    ·(go_simp; first | done | with_reducible rfl)
    try simp only [oDxd20, Act.put, sqA, sqZ, sqS]
    refine wpAnyW_ready (rs := [20]) (by kernel_rfl) (by simp) ?_
    refine (AllReadyW.cons (o := oDxd21) rfl (fun K hK => ?_) AllReadyW.nil)
    go_simp
    refine (HLV.out _).mono ?_
    rintro e w4 ⟨he4, hb4⟩
    subst he4
    have B4 := hid (show Bw wr w4 from Bw.trans bq hb4)
    have hz4 : r < w4.heap.size := Nat.lt_of_lt_of_le zl B4.out.size
    have hg4 : gx < w4.heap.size := Nat.lt_of_lt_of_le gl B4.out.size
    obtain ⟨y3, y0, y1, d0, d1, d2, d3⟩ : w4.cell? ⟨r, 3, none⟩ = some (.int .i64 s0.e) ∧ w4.cell? ⟨r, 0, none⟩ = some (.slice (some ⟨gx, 0, none⟩) T.length cx) ∧ w4.cell? ⟨r, 1, none⟩ = some (.int .i64 s0.i) ∧ w4.cell? ⟨gx, s0.i * 4, none⟩ = some (.int .i64 t0) ∧ w4.cell? ⟨gx, s0.i * 4 + 1, none⟩ = some (.string tu) ∧ w4.cell? ⟨gx, s0.i * 4 + 2, none⟩ = some (.int .i64 t2) ∧ w4.cell? ⟨gx, s0.i * 4 + 3, none⟩ = some (.int .i64 t3) := ⟨(B4.out.cell zl).trans v3, (B4.out.cell zl).trans v0, (B4.out.cell zl).trans v1, (B4.out.cell gl).trans c0, (B4.out.cell gl).trans c1, (B4.out.cell gl).trans c2, (B4.out.cell gl).trans c3⟩
    clear hb4
    refine hK.out _ _ (show w4.cell? ⟨r, 3, none⟩ = some (.int .i64 s0.e) ∧ w4.cell? ⟨r, 0, none⟩ = some (.slice (some ⟨gx, 0, none⟩) T.length cx) ∧ w4.cell? ⟨r, 1, none⟩ = some (.int .i64 s0.i) ∧ w4.cell? ⟨gx, s0.i * 4, none⟩ = some (.int .i64 t0) ∧ w4.cell? ⟨gx, s0.i * 4 + 1, none⟩ = some (.string tu) ∧ w4.cell? ⟨gx, s0.i * 4 + 2, none⟩ = some (.int .i64 t2) ∧ w4.cell? ⟨gx, s0.i * 4 + 3, none⟩ = some (.int .i64 t3) from ⟨y3, y0, y1, d0, d1, d2, d3⟩) ?_
    clear hK K
    try simp only [oDxd21, Act.put, sqA, sqZ, sqS]
    refine tkW (i := 22) (oi := oDxd22) (v := ?_) rfl (Or.inl ⟨by rfl, fun w _ => ?_⟩) ?_
    rotate_left
    ·(go_simp; first | done | with_reducible rfl)
    try simp only [oDxd22, Act.put, sqA, sqZ, sqS]
    try rw [dq]
    refine tkW (i := 23) (oi := oDxd23) (v := ?_) rfl (Or.inl ⟨by rfl, fun w _ => ?_⟩) ?_
    rotate_left
    ·(go_simp; first | done | with_reducible rfl)
    try simp only [oDxd23, Act.put, sqA, sqZ, sqS]
    refine wpAnyW_done (by kernel_rfl) ?_ _
    all_goals go_wp2
    all_goals go_ret
    all_goals exact ⟨_, _, rfl, N3.out.bw (B4.out.trans bq), R3.out.bw (B4.out.trans bq), K3.out.bw (B4.out.trans bq), HLL.out⟩
  ·have e1 : (s0.e == 0) = false := by simpa using h0
   rcases hcase with ⟨hq, _⟩ | ⟨_, hl, hs⟩
   ·exact absurd hq h0
   subst l; subst s'
   clear h0 hn hne
   go_wp2_with (first
    | fail)
   refine wp_region_W (fun w' => w'.cell? ⟨r, 3, none⟩ = some (.int .i64 s0.e) ∧ w'.cell? ⟨r, 0, none⟩ = some (.slice (some ⟨gx, 0, none⟩) T.length cx) ∧ w'.cell? ⟨r, 1, none⟩ = some (.int .i64 s0.i) ∧ w'.cell? ⟨gx, s0.i * 4, none⟩ = some (.int .i64 t0) ∧ w'.cell? ⟨gx, s0.i * 4 + 1, none⟩ = some (.string tu) ∧ w'.cell? ⟨gx, s0.i * 4 + 2, none⟩ = some (.int .i64 t2) ∧ w'.cell? ⟨gx, s0.i * 4 + 3, none⟩ = some (.int .i64 t3)) (fun j => 1) (by kernel_rfl) ?_
   refine tkW (i := 0) (oi := oDxd0) (v := ?_) rfl (Or.inl ⟨by rfl, fun w _ => ?_⟩) ?_
   rotate_left
   ·(go_simp; first | done | with_reducible rfl)
   try simp only [oDxd0, Act.put, sqA, sqZ, sqS]
   refine tkW (i := 1) (oi := oDxd1) (v := ?_) rfl (Or.inl ⟨by rfl, fun w _ => ?_⟩) ?_
   rotate_left
   ·(go_simp; first | done | with_reducible rfl)
   try simp only [oDxd1, Act.put, sqA, sqZ, sqS]
   refine tkW (i := 2) (oi := oDxd2) (v := ?_) rfl (Or.inl ⟨by rfl, fun w _ => ?_⟩) ?_
   rotate_left
   ·(go_simp; first | done | with_reducible rfl)
   try simp only [oDxd2, Act.put, sqA, sqZ, sqS]
   refine ldW (i := 3) (oi := oDxd3) (v := ?_) rfl (Or.inl ⟨by rfl, fun w hS => ?_⟩) ⟨v3, v0, v1, c0, c1, c2, c3⟩ ?_
   rotate_left
   ·(obtain ⟨s1_, s2_, s3_, s4_, s5_, s6_, s7_⟩ := hS; go_simp; first | done | with_reducible rfl)
   try simp only [oDxd3, Act.put, sqA, sqZ, sqS]
   refine tkW (i := 4) (oi := oDxd4) (v := ?_) rfl (Or.inl ⟨by rfl, fun w _ => ?_⟩) ?_
   rotate_left
   ·(go_simp; first | done | with_reducible rfl)
   try simp only [oDxd4, Act.put, sqA, sqZ, sqS]
   try rw [e1]
   refine tkW (i := 5) (oi := oDxd5) (v := ?_) rfl (Or.inl ⟨by rfl, fun w _ => ?_⟩) ?_
   rotate_left
   ·(go_simp; first | done | with_reducible rfl)
   try simp only [oDxd5, Act.put, sqA, sqZ, sqS]
   refine tkW (i := 6) (oi := oDxd6) (v := undef) rfl (Or.inr ⟨by rfl, rfl⟩) ?_
   try simp only [oDxd6, Act.put, sqA, sqZ, sqS]
   refine tkW (i := 7) (oi := oDxd7) (v := undef) rfl (Or.inr ⟨by rfl, rfl⟩) ?_
   try simp only [oDxd7, Act.put, sqA, sqZ, sqS]
   refine tkW (i := 8) (oi := oDxd8) (v := ?_) rfl (Or.inl ⟨by rfl, fun w _ => ?_⟩) ?_
   rotate_left
   ·(go_simp; first | done | with_reducible rfl)
   try simp only [oDxd8, Act.put, sqA, sqZ, sqS]
   refine tkW (i := 9) (oi := oDxd9) (v := ?_) rfl (Or.inl ⟨by rfl, fun w _ => ?_⟩) ?_
   rotate_left
   ·(go_simp; first | done | with_reducible rfl)
   try simp only [oDxd9, Act.put, sqA, sqZ, sqS]
   refine tkW (i := 10) (oi := oDxd10) (v := undef) rfl (Or.inr ⟨by rfl, rfl⟩) ?_
   try simp only [oDxd10, Act.put, sqA, sqZ, sqS]
   refine tkW (i := 11) (oi := oDxd11) (v := undef) rfl (Or.inr ⟨by rfl, rfl⟩) ?_
   try simp only [oDxd11, Act.put, sqA, sqZ, sqS]
   refine tkW (i := 12) (oi := oDxd12) (v := undef) rfl (Or.inr ⟨by rfl, rfl⟩) ?_
   try simp only [oDxd12, Act.put, sqA, sqZ, sqS]
   refine tkW (i := 13) (oi := oDxd13) (v := undef) rfl (Or.inr ⟨by rfl, rfl⟩) ?_
   try simp only [oDxd13, Act.put, sqA, sqZ, sqS]
   refine tkW (i := 14) (oi := oDxd14) (v := undef) rfl (Or.inr ⟨by rfl, rfl⟩) ?_
   try simp only [oDxd14, Act.put, sqA, sqZ, sqS]
   refine tkW (i := 15) (oi := oDxd15) (v := undef) rfl (Or.inr ⟨by rfl, rfl⟩) ?_
   try simp only [oDxd15, Act.put, sqA, sqZ, sqS]
   refine tkW (i := 16) (oi := oDxd16) (v := undef) rfl (Or.inr ⟨by rfl, rfl⟩) ?_
   try simp only [oDxd16, Act.put, sqA, sqZ, sqS]
   refine tkW (i := 17) (oi := oDxd17) (v := undef) rfl (Or.inr ⟨by rfl, rfl⟩) ?_
   try simp only [oDxd17, Act.put, sqA, sqZ, sqS]
   refine tkW (i := 18) (oi := oDxd18) (v := undef) rfl (Or.inr ⟨by rfl, rfl⟩) ?_
   try simp only [oDxd18, Act.put, sqA, sqZ, sqS]
   refine tkW (i := 19) (oi := oDxd19) (v := undef) rfl (Or.inr ⟨by rfl, rfl⟩) ?_
   try simp only [oDxd19, Act.put, sqA, sqZ, sqS]
   refine tkW (i := 20) (oi := oDxd21) (v := undef) rfl (Or.inr ⟨by rfl, rfl⟩) ?_
   try simp only [oDxd21, Act.put, sqA, sqZ, sqS]
   refine tkW (i := 21) (oi := oDxd20) (v := undef) rfl (Or.inr ⟨by rfl, rfl⟩) ?_
   try simp only [oDxd20, Act.put, sqA, sqZ, sqS]
   refine tkW (i := 22) (oi := oDxd22) (v := undef) rfl (Or.inr ⟨by rfl, rfl⟩) ?_
   try simp only [oDxd22, Act.put, sqA, sqZ, sqS]
   refine tkW (i := 23) (oi := oDxd23) (v := ?_) rfl (Or.inl ⟨by rfl, fun w _ => ?_⟩) ?_
   rotate_left
   ·(go_simp; first | done | with_reducible rfl)
   try simp only [oDxd23, Act.put, sqA, sqZ, sqS]
   refine wpAnyW_done (by kernel_rfl) ?_ _
   all_goals go_wp2
   all_goals go_ret
   all_goals exact ⟨_, _, rfl, N3.out.bw bq, R3.out.bw bq, K3.out.bw bq, HLL.out⟩

end

end Go.Proofs.YtdhkcdehedbpcaaDoor

namespace Go.Proofs.YtdhkcdehedbpcaaDoor
open Go Go.RowKit

theorem expr_step {w : World} {r f : Nat} {T : List ATok} {o : Int} {s s' : DS} {l : List ANode} {k : Int} (hc : ∀ g, g ≤ f → Con T r g) (lev : Int) (h : dR T (f + 1) (.expr lev) o s = some (l, k, s')) (hr : RdM w r T o s) : Calls Tryd.prog 49 #[.pointer (some ⟨r, 0, none⟩), .int .i64 lev] w (DG w r T o l s') := by
 unfold dR at h
 rcases ite_some h with ⟨_, ha⟩ | ⟨hb, ha⟩
 ·cases ha
 clear h
 rcases ite_some ha with ⟨he, hd⟩ | ⟨he, hd⟩
 ·obtain ⟨rfl, rfl, _⟩ := rete3 hd
  exact expr_bad lev he hr
 clear ha
 have he0 := Classical.not_not.1 he
 rcases ite_some hd with ⟨h2, hf⟩ | ⟨h2, hf⟩
 ·obtain ⟨rfl, hi⟩ := h2
  exact expr_not he0 hi (fun w1 hw => (hc f (Nat.le_refl _)).ahead _ _ _ hf hw) hr
 clear hd
 rcases ite_some hf with ⟨h6, hg⟩ | ⟨h6, hg⟩
 ·subst h6
  rcases ite_some hg with ⟨hi, hk⟩ | ⟨hi, hk⟩
  ·exact expr_neg he0 hi (fun w1 hw => (hc f (Nat.le_refl _)).ahead _ _ _ hk hw) hr
  ·exact expr_thing he0 (by simpa using hi) (fun w1 hw => (hc f (Nat.le_refl _)).thing hk hw) hr
 ·obtain ⟨⟨l1, k1, s1⟩, h3, h4⟩ := bnd hg
  by_cases hl : lev = 2
  ·subst hl
   refine expr_two hc he0 ?_ h3 h4 hr
   cases hq : dIs T s ⟨#[110, 111, 116]⟩
   ·rfl
   ·exact absurd ⟨rfl, hq⟩ h2
  ·exact expr_loop hc lev (by omega) (by omega) hl he0 h3 h4 hr

end Go.Proofs.YtdhkcdehedbpcaaDoor

