/- The document's parser: expr, its first ways: contracts, by steps. · The document's parser: expr, level 2: contracts, by steps. · The document's parser: expr, whole. -/
import Derived.Test.YtekkjpecdflajaaDoorM7
import Derived.Test.YtekkjpecdflajaaDoorM1
import Derived.Test.YtekkjpecdflajaaDoorDlvk
import Derived.Test.YtekkjpecdflajaaDoorM11
import Derived.Test.YtekkjpecdflajaaDoorDxdk
set_option linter.unusedSimpArgs false
set_option linter.unusedVariables false
namespace Go.Proofs.YtekkjpecdflajaaDoor
open Go Go.RowKit

section
attribute [local irreducible] dIs
variable {w w' : World} {r f : Nat} {T : List ATok} {o : Int} {s s' : DS} {l : List ANode} {k : Int}

set_option maxRecDepth 100000 in
set_option maxHeartbeats 8000000 in
theorem expr_bad (lev : Int) (he : ¬ s.e = 0) (hr : RdM w r T o s) : Calls Tryd.prog 35 #[.pointer (some ⟨r, 0, none⟩), .int .i64 lev] w (DG w r T o [] s) := by
  have HR := hid hr
  have hrl := hr.lt
  obtain ⟨g, c, q, x⟩ := hr.x
  have z3 : w.cell? ⟨r, 3, none⟩ = some (.int .i64 s.e) := x.b.cell 3
  have e1 : (s.e == 0) = false := by simpa using he
  have e2 : (s.e != 0) = true := by simpa using he
  unfold DG at *
  clear x hr he
  go_enter Tryd.func35, Tryd.ntmps35
  go_wp2
  all_goals go_ret
  all_goals exact ⟨none, 0, rfl, Nd.nil _ _, HR.out.bw (by repeat (first | exact Bw.refl _ | apply Bw.alloc | apply Bw.drewN | apply Bw.drew)), Kp.of_bw (by repeat (first | exact Bw.refl _ | apply Bw.alloc | apply Bw.drewN | apply Bw.drew)), by simp⟩

set_option maxRecDepth 100000 in
set_option maxHeartbeats 8000000 in
theorem expr_not (he : s.e = 0) (hi : dIs T s ⟨#[110, 111, 116]⟩ = true) (HV : ∀ w1 : World, RdM w1 r T o s → Calls Tryd.prog 49 #[.pointer (some ⟨r, 0, none⟩), .string ⟨#[110, 111, 116]⟩, .int .i64 26, .int .i64 2] w1 (DG w1 r T o l s')) (hr : RdM w r T o s) : Calls Tryd.prog 35 #[.pointer (some ⟨r, 0, none⟩), .int .i64 2] w (DG w r T o l s') := by
  have HR := hid hr
  have hrl := hr.lt
  have HV := hid HV
  have HI := hid (fun w1 (hw : RdM w1 r T o s) => dis_any ⟨#[110, 111, 116]⟩ hw)
  rw [hi] at HI
  clear hi
  obtain ⟨g, c, q, x⟩ := hr.x
  have z3 : w.cell? ⟨r, 3, none⟩ = some (.int .i64 s.e) := x.b.cell 3
  have e1 : (s.e == 0) = true := by simpa using he
  have e2 : (s.e != 0) = false := by simpa using he
  unfold DG at *
  clear x hr he
  go_enter Tryd.func35, Tryd.ntmps35
  go_wp2_with (first
    | (go_at_call 28; (fail_if_success (have _g := R1)); refine (HI.out _ (HR.out.bw (by repeat (first | exact Bw.refl _ | apply Bw.alloc | apply Bw.drewN | apply Bw.drew)))).mono ?_; rintro e w1 ⟨rfl, hb1⟩; have B1 := hid (show Bw w w1 from Bw.trans (by repeat (first | exact Bw.refl _ | apply Bw.alloc | apply Bw.drewN | apply Bw.drew)) hb1); have R1 := hid (HR.out.bw B1.out); clear hb1)
    | (go_at_call 49; refine (HV.out _ (R1.out.bw (by repeat (first | exact Bw.refl _ | apply Bw.alloc | apply Bw.drewN | apply Bw.drew)))).mono ?_; rintro e w2 ⟨a2, c2, rfl, hn2, hr2, hk2, hl2⟩; have K2 := hid (show Kp r w w2 from Kp.trans (Kp.of_bw (Bw.trans B1.out (by repeat (first | exact Bw.refl _ | apply Bw.alloc | apply Bw.drewN | apply Bw.drew)))) hk2); have N2 := hid (hn2.low (b' := w.heap.size) (Nat.le_trans B1.out.size (by first | (simp; done) | exact Nat.le_refl _))); have R2 := hid hr2; have L2 := hid hl2; clear hn2 hr2 hk2 hl2)
    | fail)
  all_goals go_ret
  all_goals exact ⟨_, _, rfl, N2.out, R2.out, K2.out, L2.out⟩

set_option maxRecDepth 100000 in
set_option maxHeartbeats 8000000 in
theorem expr_neg (he : s.e = 0) (hi : dIs T s ⟨#[45]⟩ = true) (HV : ∀ w1 : World, RdM w1 r T o s → Calls Tryd.prog 49 #[.pointer (some ⟨r, 0, none⟩), .string ⟨#[45]⟩, .int .i64 27, .int .i64 6] w1 (DG w1 r T o l s')) (hr : RdM w r T o s) : Calls Tryd.prog 35 #[.pointer (some ⟨r, 0, none⟩), .int .i64 6] w (DG w r T o l s') := by
  have HR := hid hr
  have hrl := hr.lt
  have HV := hid HV
  have HI := hid (fun w1 (hw : RdM w1 r T o s) => dis_any ⟨#[45]⟩ hw)
  rw [hi] at HI
  clear hi
  obtain ⟨g, c, q, x⟩ := hr.x
  have z3 : w.cell? ⟨r, 3, none⟩ = some (.int .i64 s.e) := x.b.cell 3
  have e1 : (s.e == 0) = true := by simpa using he
  have e2 : (s.e != 0) = false := by simpa using he
  unfold DG at *
  clear x hr he
  go_enter Tryd.func35, Tryd.ntmps35
  go_wp2_with (first
    | (go_at_call 28; (fail_if_success (have _g := R1)); refine (HI.out _ (HR.out.bw (by repeat (first | exact Bw.refl _ | apply Bw.alloc | apply Bw.drewN | apply Bw.drew)))).mono ?_; rintro e w1 ⟨rfl, hb1⟩; have B1 := hid (show Bw w w1 from Bw.trans (by repeat (first | exact Bw.refl _ | apply Bw.alloc | apply Bw.drewN | apply Bw.drew)) hb1); have R1 := hid (HR.out.bw B1.out); clear hb1)
    | (go_at_call 49; refine (HV.out _ (R1.out.bw (by repeat (first | exact Bw.refl _ | apply Bw.alloc | apply Bw.drewN | apply Bw.drew)))).mono ?_; rintro e w2 ⟨a2, c2, rfl, hn2, hr2, hk2, hl2⟩; have K2 := hid (show Kp r w w2 from Kp.trans (Kp.of_bw (Bw.trans B1.out (by repeat (first | exact Bw.refl _ | apply Bw.alloc | apply Bw.drewN | apply Bw.drew)))) hk2); have N2 := hid (hn2.low (b' := w.heap.size) (Nat.le_trans B1.out.size (by first | (simp; done) | exact Nat.le_refl _))); have R2 := hid hr2; have L2 := hid hl2; clear hn2 hr2 hk2 hl2)
    | fail)
  all_goals go_ret
  all_goals exact ⟨_, _, rfl, N2.out, R2.out, K2.out, L2.out⟩

set_option maxRecDepth 100000 in
set_option maxHeartbeats 8000000 in
theorem expr_thing (he : s.e = 0) (hi : dIs T s ⟨#[45]⟩ = false) (HV : ∀ w1 : World, RdM w1 r T o s → Calls Tryd.prog 50 #[.pointer (some ⟨r, 0, none⟩)] w1 (DG w1 r T o l s')) (hr : RdM w r T o s) : Calls Tryd.prog 35 #[.pointer (some ⟨r, 0, none⟩), .int .i64 6] w (DG w r T o l s') := by
  have HR := hid hr
  have hrl := hr.lt
  have HV := hid HV
  have HI := hid (fun w1 (hw : RdM w1 r T o s) => dis_any ⟨#[45]⟩ hw)
  rw [hi] at HI
  clear hi
  obtain ⟨g, c, q, x⟩ := hr.x
  have z3 : w.cell? ⟨r, 3, none⟩ = some (.int .i64 s.e) := x.b.cell 3
  have e1 : (s.e == 0) = true := by simpa using he
  have e2 : (s.e != 0) = false := by simpa using he
  unfold DG at *
  clear x hr he
  go_enter Tryd.func35, Tryd.ntmps35
  go_wp2_with (first
    | (go_at_call 28; (fail_if_success (have _g := R1)); refine (HI.out _ (HR.out.bw (by repeat (first | exact Bw.refl _ | apply Bw.alloc | apply Bw.drewN | apply Bw.drew)))).mono ?_; rintro e w1 ⟨rfl, hb1⟩; have B1 := hid (show Bw w w1 from Bw.trans (by repeat (first | exact Bw.refl _ | apply Bw.alloc | apply Bw.drewN | apply Bw.drew)) hb1); have R1 := hid (HR.out.bw B1.out); clear hb1)
    | (go_at_call 50; refine (HV.out _ (R1.out.bw (by repeat (first | exact Bw.refl _ | apply Bw.alloc | apply Bw.drewN | apply Bw.drew)))).mono ?_; rintro e w2 ⟨a2, c2, rfl, hn2, hr2, hk2, hl2⟩; have K2 := hid (show Kp r w w2 from Kp.trans (Kp.of_bw (Bw.trans B1.out (by repeat (first | exact Bw.refl _ | apply Bw.alloc | apply Bw.drewN | apply Bw.drew)))) hk2); have N2 := hid (hn2.low (b' := w.heap.size) (Nat.le_trans B1.out.size (by first | (simp; done) | exact Nat.le_refl _))); have R2 := hid hr2; have L2 := hid hl2; clear hn2 hr2 hk2 hl2)
    | fail)
  all_goals go_ret
  all_goals exact ⟨_, _, rfl, N2.out, R2.out, K2.out, L2.out⟩

end

end Go.Proofs.YtekkjpecdflajaaDoor

set_option linter.unusedSimpArgs false
set_option linter.unusedVariables false
namespace Go.Proofs.YtekkjpecdflajaaDoor
open Go Go.RowKit
open List (setIfInBounds_toArray set_cons_zero set_cons_succ)

@[go_sem] def oe0 : Oper := { dst := some 32, op := Op.move (Operand.tmp 0), type := 52, pos := "ref.go:268", after := #[], guard := none }
@[go_sem] def oe1 : Oper := { dst := some 33, op := Op.nilCheck (Operand.tmp 32), type := 0, pos := "ref.go:268", after := #[{ on := 0, ground := Ground.data }], guard := none }
@[go_sem] def oe2 : Oper := { dst := some 34, op := Op.fieldAddr 54 (Operand.tmp 33) 3, type := 0, pos := "ref.go:268", after := #[{ on := 1, ground := Ground.data }], guard := none }
@[go_sem] def oe3 : Oper := { dst := some 35, op := Op.load 3 (Operand.tmp 34), type := 3, pos := "ref.go:268", after := #[{ on := 2, ground := Ground.data }], guard := none }
@[go_sem] def oe4 : Oper := { dst := some 36, op := Op.binOp BinOp.eql 3 (Operand.tmp 35) (Operand.const (Value.int IntKind.i64 0)) 3, type := 4, pos := "ref.go:268", after := #[{ on := 3, ground := Ground.data }], guard := none }
@[go_sem] def oe5 : Oper := { dst := some 37, op := Op.move (Operand.tmp 36), type := 4, pos := "ref.go:268", after := #[{ on := 4, ground := Ground.data }], guard := none }
@[go_sem] def oe6 : Oper := { dst := some 38, op := Op.move (Operand.tmp 1), type := 3, pos := "ref.go:268", after := #[{ on := 5, ground := Ground.guard }], guard := some (5, true) }
@[go_sem] def oe7 : Oper := { dst := some 39, op := Op.binOp BinOp.neq 3 (Operand.tmp 38) (Operand.const (Value.int IntKind.i64 2)) 3, type := 4, pos := "ref.go:268", after := #[{ on := 6, ground := Ground.data }, { on := 5, ground := Ground.guard }], guard := some (5, true) }
@[go_sem] def oe8 : Oper := { dst := some 40, op := Op.pick (Operand.tmp 37) (Operand.tmp 39) (Operand.const (Value.bool false)), type := 4, pos := "ref.go:268", after := #[{ on := 5, ground := Ground.data }, { on := 7, ground := Ground.data }], guard := none }
@[go_sem] def oe9 : Oper := { dst := some 41, op := Op.move (Operand.tmp 40), type := 4, pos := "ref.go:268", after := #[{ on := 8, ground := Ground.data }, { on := 5, ground := Ground.chain }], guard := none }
@[go_sem] def oe10 : Oper := { dst := some 42, op := Op.move (Operand.tmp 0), type := 52, pos := "ref.go:268", after := #[{ on := 9, ground := Ground.guard }], guard := some (9, true) }
@[go_sem] def oe11 : Oper := { dst := some 43, op := Op.nilCheck (Operand.tmp 42), type := 0, pos := "ref.go:268", after := #[{ on := 10, ground := Ground.data }, { on := 9, ground := Ground.guard }], guard := some (9, true) }
@[go_sem] def oe12 : Oper := { dst := some 44, op := Op.fieldAddr 54 (Operand.tmp 43) 0, type := 0, pos := "ref.go:268", after := #[{ on := 11, ground := Ground.data }, { on := 9, ground := Ground.guard }], guard := some (9, true) }
@[go_sem] def oe13 : Oper := { dst := some 45, op := Op.load 49 (Operand.tmp 44), type := 49, pos := "ref.go:268", after := #[{ on := 12, ground := Ground.data }, { on := 9, ground := Ground.guard }], guard := some (9, true) }
@[go_sem] def oe14 : Oper := { dst := some 46, op := Op.move (Operand.tmp 0), type := 52, pos := "ref.go:268", after := #[{ on := 9, ground := Ground.guard }], guard := some (9, true) }
@[go_sem] def oe15 : Oper := { dst := some 47, op := Op.nilCheck (Operand.tmp 46), type := 0, pos := "ref.go:268", after := #[{ on := 14, ground := Ground.data }, { on := 9, ground := Ground.guard }], guard := some (9, true) }
@[go_sem] def oe16 : Oper := { dst := some 48, op := Op.fieldAddr 54 (Operand.tmp 47) 1, type := 0, pos := "ref.go:268", after := #[{ on := 15, ground := Ground.data }, { on := 9, ground := Ground.guard }], guard := some (9, true) }
@[go_sem] def oe17 : Oper := { dst := some 49, op := Op.load 3 (Operand.tmp 48), type := 3, pos := "ref.go:268", after := #[{ on := 16, ground := Ground.data }, { on := 9, ground := Ground.guard }], guard := some (9, true) }
@[go_sem] def oe18 : Oper := { dst := some 50, op := Op.indexAddr 49 (Operand.tmp 45) (Operand.tmp 49), type := 0, pos := "ref.go:268", after := #[{ on := 13, ground := Ground.data }, { on := 17, ground := Ground.data }, { on := 9, ground := Ground.guard }], guard := some (9, true) }
@[go_sem] def oe19 : Oper := { dst := some 51, op := Op.load 56 (Operand.tmp 50), type := 56, pos := "ref.go:268", after := #[{ on := 18, ground := Ground.data }, { on := 9, ground := Ground.guard }], guard := some (9, true) }
@[go_sem] def oe20 : Oper := { dst := some 52, op := Op.call { callee := Callee.value (Operand.func 51), args := #[Operand.tmp 51], argTypes := #[56] }, type := 3, pos := "ref.go:268", after := #[{ on := 19, ground := Ground.data }, { on := 9, ground := Ground.chain }, { on := 9, ground := Ground.guard }], guard := some (9, true) }
@[go_sem] def oe21 : Oper := { dst := some 53, op := Op.move (Operand.tmp 1), type := 3, pos := "ref.go:268", after := #[{ on := 9, ground := Ground.guard }], guard := some (9, true) }
@[go_sem] def oe22 : Oper := { dst := some 54, op := Op.binOp BinOp.eql 3 (Operand.tmp 52) (Operand.tmp 53) 3, type := 4, pos := "ref.go:268", after := #[{ on := 20, ground := Ground.data }, { on := 21, ground := Ground.data }, { on := 9, ground := Ground.guard }], guard := some (9, true) }
@[go_sem] def oe23 : Oper := { dst := some 55, op := Op.pick (Operand.tmp 41) (Operand.tmp 54) (Operand.const (Value.bool false)), type := 4, pos := "ref.go:268", after := #[{ on := 9, ground := Ground.data }, { on := 22, ground := Ground.data }], guard := none }

section
attribute [local irreducible] dIs
variable {w w' : World} {r f : Nat} {T : List ATok} {o : Int} {s s' : DS} {l : List ANode} {k : Int}

set_option maxRecDepth 100000 in
set_option maxHeartbeats 8000000 in
theorem expr_two (hc : ∀ g, g ≤ f → Con T r g) {l1 : List ANode} {k1 : Int} {s1 : DS} (he : s.e = 0) (hi : dIs T s ⟨#[110, 111, 116]⟩ = false) (h1 : dR T f (.expr 3) o s = some (l1, k1, s1)) (h2 : dR T f (.exprL 2 l1) o s1 = some (l, k, s')) (hr : RdM w r T o s) : Calls Tryd.prog 35 #[.pointer (some ⟨r, 0, none⟩), .int .i64 2] w (DG w r T o l s') := by
  obtain ⟨f2, rfl, hx0, hcase⟩ := exprL_inv h2
  rcases hcase with ⟨_, hq, _⟩ | ⟨_, hl, hs⟩
  · exact absurd rfl hq
  subst hl hs
  have HR := hid hr
  have hrl := hr.lt
  have HX := hid (fun w1 (hw : RdM w1 r T o s) => (hc _ (Nat.le_refl _)).expr 3 h1 hw)
  have HI := hid (fun w1 (hw : RdM w1 r T o s) => dis_any ⟨#[110, 111, 116]⟩ hw)
  rw [hi] at HI
  obtain ⟨g, c, q, x⟩ := hr.x
  have z0 : w.cell? ⟨r, 3, none⟩ = some (.int .i64 s.e) := x.b.cell 3
  have q1 : (s.e == 0) = true := by simpa using he
  have q2 : (s.e != 0) = false := by simpa using he
  unfold DG at HX ⊢
  clear x hr he hc h1 h2 hi hx0
  go_enter Tryd.func35, Tryd.ntmps35
  go_wp2_with (first
    | (go_at_call 28; (fail_if_success (have _g := R1)); refine (HI.out _ (HR.out.bw (by repeat (first | exact Bw.refl _ | apply Bw.alloc | apply Bw.drewN | apply Bw.drew)))).mono ?_; rintro e w1 ⟨rfl, hb1⟩; have B1 := hid (show Bw w w1 from Bw.trans (by repeat (first | exact Bw.refl _ | apply Bw.alloc | apply Bw.drewN | apply Bw.drew)) hb1); have R1 := hid (HR.out.bw B1.out); clear hb1)
    | (go_at_call 35; refine (HX.out _ (R1.out.bw (by repeat (first | exact Bw.refl _ | apply Bw.alloc | apply Bw.drewN | apply Bw.drew)))).mono ?_; rintro e w2 ⟨a2, c2, rfl, hn2, hr2, hk2, hl2⟩; have K2 := hid (show Kp r w w2 from Kp.trans (Kp.of_bw (Bw.trans B1.out (by repeat (first | exact Bw.refl _ | apply Bw.alloc | apply Bw.drewN | apply Bw.drew)))) hk2); have N2 := hid (hn2.low (b' := w.heap.size) (Nat.le_trans B1.out.size (by first | (simp; done) | exact Nat.le_refl _))); have R2 := hid hr2; have L2 := hid hl2; clear hn2 hr2 hk2 hl2)
    | fail)
  go_loopw [5] (fun v5 wr => wr = w2 ∧ v5 = .slice a2 l.length c2) (fun _ _ => 0)
  case atStart => exact ⟨rfl, rfl⟩
  case round =>
    obtain ⟨rfl, rfl⟩ := hrel
    obtain ⟨s0, hs0⟩ : ∃ s0, s' = s0 := ⟨_, rfl⟩
    have HS := hid hs0
    obtain ⟨g2, c2', q2', x2⟩ := R2.out.x
    have z3 : wr.cell? ⟨r, 3, none⟩ = some (.int .i64 s0.e) := hs0 ▸ x2.b.cell 3
    have zl : r < wr.heap.size := x2.b.lt
    clear x2 hs0
    by_cases h0 : s0.e = 0
    · have e1 : (s0.e == 0) = true := by simpa using h0
      have e3 : ((2 : Int) != 2) = false := by decide
      clear h0
      go_wp2_with (first
        | fail)
      refine wp_region_W (fun w' => w'.cell? ⟨r, 3, none⟩ = some (.int .i64 s0.e)) (fun j => 1) (by kernel_rfl) ?_
      refine wpAnyW_take (i := 0) (oi := oe0) (v := ?_) rfl (by kernel_rfl) (by kernel_rfl) (by kernel_rfl) (by kernel_rfl) (fun _ _ _ h => h) (Or.inl ⟨by rfl, fun w _ => ?_⟩) ?_
      rotate_left
      · (go_simp; first | done | with_reducible rfl)
      try simp only [oe0, Act.put, setIfInBounds_toArray, set_cons_zero, set_cons_succ]
      refine wpAnyW_take (i := 1) (oi := oe1) (v := ?_) rfl (by kernel_rfl) (by kernel_rfl) (by kernel_rfl) (by kernel_rfl) (fun _ _ _ h => h) (Or.inl ⟨by rfl, fun w _ => ?_⟩) ?_
      rotate_left
      · (go_simp; first | done | with_reducible rfl)
      try simp only [oe1, Act.put, setIfInBounds_toArray, set_cons_zero, set_cons_succ]
      refine wpAnyW_take (i := 2) (oi := oe2) (v := ?_) rfl (by kernel_rfl) (by kernel_rfl) (by kernel_rfl) (by kernel_rfl) (fun _ _ _ h => h) (Or.inl ⟨by rfl, fun w _ => ?_⟩) ?_
      rotate_left
      · (go_simp; first | done | with_reducible rfl)
      try simp only [oe2, Act.put, setIfInBounds_toArray, set_cons_zero, set_cons_succ]
      refine wpAnyW_load (i := 3) (oi := oe3) (v := ?_) rfl (by kernel_rfl) (by kernel_rfl) (by kernel_rfl) (by kernel_rfl) (by kernel_rfl) (fun _ _ _ h => h) (Or.inl ⟨by rfl, fun w hS => ?_⟩) z3 ?_
      rotate_left
      · (skip; go_simp; first | done | with_reducible rfl)
      try simp only [oe3, Act.put, setIfInBounds_toArray, set_cons_zero, set_cons_succ]
      refine wpAnyW_take (i := 4) (oi := oe4) (v := ?_) rfl (by kernel_rfl) (by kernel_rfl) (by kernel_rfl) (by kernel_rfl) (fun _ _ _ h => h) (Or.inl ⟨by rfl, fun w _ => ?_⟩) ?_
      rotate_left
      · (go_simp; first | done | with_reducible rfl)
      try simp only [oe4, Act.put, setIfInBounds_toArray, set_cons_zero, set_cons_succ]
      try rw [e1]
      refine wpAnyW_take (i := 5) (oi := oe5) (v := ?_) rfl (by kernel_rfl) (by kernel_rfl) (by kernel_rfl) (by kernel_rfl) (fun _ _ _ h => h) (Or.inl ⟨by rfl, fun w _ => ?_⟩) ?_
      rotate_left
      · (go_simp; first | done | with_reducible rfl)
      try simp only [oe5, Act.put, setIfInBounds_toArray, set_cons_zero, set_cons_succ]
      refine wpAnyW_take (i := 6) (oi := oe6) (v := ?_) rfl (by kernel_rfl) (by kernel_rfl) (by kernel_rfl) (by kernel_rfl) (fun _ _ _ h => h) (Or.inl ⟨by rfl, fun w _ => ?_⟩) ?_
      rotate_left
      · (go_simp; first | done | with_reducible rfl)
      try simp only [oe6, Act.put, setIfInBounds_toArray, set_cons_zero, set_cons_succ]
      refine wpAnyW_take (i := 7) (oi := oe7) (v := ?_) rfl (by kernel_rfl) (by kernel_rfl) (by kernel_rfl) (by kernel_rfl) (fun _ _ _ h => h) (Or.inl ⟨by rfl, fun w _ => ?_⟩) ?_
      rotate_left
      · (go_simp; first | done | with_reducible rfl)
      try simp only [oe7, Act.put, setIfInBounds_toArray, set_cons_zero, set_cons_succ]
      try rw [e3]
      refine wpAnyW_take (i := 8) (oi := oe8) (v := ?_) rfl (by kernel_rfl) (by kernel_rfl) (by kernel_rfl) (by kernel_rfl) (fun _ _ _ h => h) (Or.inl ⟨by rfl, fun w _ => ?_⟩) ?_
      rotate_left
      · (go_simp; first | done | with_reducible rfl)
      try simp only [oe8, Act.put, setIfInBounds_toArray, set_cons_zero, set_cons_succ]
      refine wpAnyW_take (i := 9) (oi := oe9) (v := ?_) rfl (by kernel_rfl) (by kernel_rfl) (by kernel_rfl) (by kernel_rfl) (fun _ _ _ h => h) (Or.inl ⟨by rfl, fun w _ => ?_⟩) ?_
      rotate_left
      · (go_simp; first | done | with_reducible rfl)
      try simp only [oe9, Act.put, setIfInBounds_toArray, set_cons_zero, set_cons_succ]
      refine wpAnyW_take (i := 10) (oi := oe10) (v := undef) rfl (by kernel_rfl) (by kernel_rfl) (by kernel_rfl) (by kernel_rfl) (fun _ _ _ h => h) (Or.inr ⟨by rfl, rfl⟩) ?_
      try simp only [oe10, Act.put, setIfInBounds_toArray, set_cons_zero, set_cons_succ]
      refine wpAnyW_take (i := 11) (oi := oe11) (v := undef) rfl (by kernel_rfl) (by kernel_rfl) (by kernel_rfl) (by kernel_rfl) (fun _ _ _ h => h) (Or.inr ⟨by rfl, rfl⟩) ?_
      try simp only [oe11, Act.put, setIfInBounds_toArray, set_cons_zero, set_cons_succ]
      refine wpAnyW_take (i := 12) (oi := oe12) (v := undef) rfl (by kernel_rfl) (by kernel_rfl) (by kernel_rfl) (by kernel_rfl) (fun _ _ _ h => h) (Or.inr ⟨by rfl, rfl⟩) ?_
      try simp only [oe12, Act.put, setIfInBounds_toArray, set_cons_zero, set_cons_succ]
      refine wpAnyW_take (i := 13) (oi := oe13) (v := undef) rfl (by kernel_rfl) (by kernel_rfl) (by kernel_rfl) (by kernel_rfl) (fun _ _ _ h => h) (Or.inr ⟨by rfl, rfl⟩) ?_
      try simp only [oe13, Act.put, setIfInBounds_toArray, set_cons_zero, set_cons_succ]
      refine wpAnyW_take (i := 14) (oi := oe14) (v := undef) rfl (by kernel_rfl) (by kernel_rfl) (by kernel_rfl) (by kernel_rfl) (fun _ _ _ h => h) (Or.inr ⟨by rfl, rfl⟩) ?_
      try simp only [oe14, Act.put, setIfInBounds_toArray, set_cons_zero, set_cons_succ]
      refine wpAnyW_take (i := 15) (oi := oe15) (v := undef) rfl (by kernel_rfl) (by kernel_rfl) (by kernel_rfl) (by kernel_rfl) (fun _ _ _ h => h) (Or.inr ⟨by rfl, rfl⟩) ?_
      try simp only [oe15, Act.put, setIfInBounds_toArray, set_cons_zero, set_cons_succ]
      refine wpAnyW_take (i := 16) (oi := oe16) (v := undef) rfl (by kernel_rfl) (by kernel_rfl) (by kernel_rfl) (by kernel_rfl) (fun _ _ _ h => h) (Or.inr ⟨by rfl, rfl⟩) ?_
      try simp only [oe16, Act.put, setIfInBounds_toArray, set_cons_zero, set_cons_succ]
      refine wpAnyW_take (i := 17) (oi := oe17) (v := undef) rfl (by kernel_rfl) (by kernel_rfl) (by kernel_rfl) (by kernel_rfl) (fun _ _ _ h => h) (Or.inr ⟨by rfl, rfl⟩) ?_
      try simp only [oe17, Act.put, setIfInBounds_toArray, set_cons_zero, set_cons_succ]
      refine wpAnyW_take (i := 18) (oi := oe18) (v := undef) rfl (by kernel_rfl) (by kernel_rfl) (by kernel_rfl) (by kernel_rfl) (fun _ _ _ h => h) (Or.inr ⟨by rfl, rfl⟩) ?_
      try simp only [oe18, Act.put, setIfInBounds_toArray, set_cons_zero, set_cons_succ]
      refine wpAnyW_take (i := 19) (oi := oe19) (v := undef) rfl (by kernel_rfl) (by kernel_rfl) (by kernel_rfl) (by kernel_rfl) (fun _ _ _ h => h) (Or.inr ⟨by rfl, rfl⟩) ?_
      try simp only [oe19, Act.put, setIfInBounds_toArray, set_cons_zero, set_cons_succ]
      refine wpAnyW_take (i := 20) (oi := oe20) (v := undef) rfl (by kernel_rfl) (by kernel_rfl) (by kernel_rfl) (by kernel_rfl) (fun _ _ _ h => h) (Or.inr ⟨by rfl, rfl⟩) ?_
      try simp only [oe20, Act.put, setIfInBounds_toArray, set_cons_zero, set_cons_succ]
      refine wpAnyW_take (i := 21) (oi := oe21) (v := undef) rfl (by kernel_rfl) (by kernel_rfl) (by kernel_rfl) (by kernel_rfl) (fun _ _ _ h => h) (Or.inr ⟨by rfl, rfl⟩) ?_
      try simp only [oe21, Act.put, setIfInBounds_toArray, set_cons_zero, set_cons_succ]
      refine wpAnyW_take (i := 22) (oi := oe22) (v := undef) rfl (by kernel_rfl) (by kernel_rfl) (by kernel_rfl) (by kernel_rfl) (fun _ _ _ h => h) (Or.inr ⟨by rfl, rfl⟩) ?_
      try simp only [oe22, Act.put, setIfInBounds_toArray, set_cons_zero, set_cons_succ]
      refine wpAnyW_take (i := 23) (oi := oe23) (v := ?_) rfl (by kernel_rfl) (by kernel_rfl) (by kernel_rfl) (by kernel_rfl) (fun _ _ _ h => h) (Or.inl ⟨by rfl, fun w _ => ?_⟩) ?_
      rotate_left
      · (go_simp; first | done | with_reducible rfl)
      try simp only [oe23, Act.put, setIfInBounds_toArray, set_cons_zero, set_cons_succ]
      refine wpAnyW_done (by kernel_rfl) ?_ _
      all_goals go_wp2
      all_goals go_ret
      all_goals exact ⟨_, _, rfl, N2.out, R2.out.bw (by repeat (first | exact Bw.refl _ | apply Bw.alloc | apply Bw.drewN | apply Bw.drew)), K2.out.bw (by repeat (first | exact Bw.refl _ | apply Bw.alloc | apply Bw.drewN | apply Bw.drew)), L2.out⟩
    · have e1 : (s0.e == 0) = false := by simpa using h0
      clear h0
      go_wp2_with (first
        | fail)
      refine wp_region_W (fun w' => w'.cell? ⟨r, 3, none⟩ = some (.int .i64 s0.e)) (fun j => 1) (by kernel_rfl) ?_
      refine wpAnyW_take (i := 0) (oi := oe0) (v := ?_) rfl (by kernel_rfl) (by kernel_rfl) (by kernel_rfl) (by kernel_rfl) (fun _ _ _ h => h) (Or.inl ⟨by rfl, fun w _ => ?_⟩) ?_
      rotate_left
      · (go_simp; first | done | with_reducible rfl)
      try simp only [oe0, Act.put, setIfInBounds_toArray, set_cons_zero, set_cons_succ]
      refine wpAnyW_take (i := 1) (oi := oe1) (v := ?_) rfl (by kernel_rfl) (by kernel_rfl) (by kernel_rfl) (by kernel_rfl) (fun _ _ _ h => h) (Or.inl ⟨by rfl, fun w _ => ?_⟩) ?_
      rotate_left
      · (go_simp; first | done | with_reducible rfl)
      try simp only [oe1, Act.put, setIfInBounds_toArray, set_cons_zero, set_cons_succ]
      refine wpAnyW_take (i := 2) (oi := oe2) (v := ?_) rfl (by kernel_rfl) (by kernel_rfl) (by kernel_rfl) (by kernel_rfl) (fun _ _ _ h => h) (Or.inl ⟨by rfl, fun w _ => ?_⟩) ?_
      rotate_left
      · (go_simp; first | done | with_reducible rfl)
      try simp only [oe2, Act.put, setIfInBounds_toArray, set_cons_zero, set_cons_succ]
      refine wpAnyW_load (i := 3) (oi := oe3) (v := ?_) rfl (by kernel_rfl) (by kernel_rfl) (by kernel_rfl) (by kernel_rfl) (by kernel_rfl) (fun _ _ _ h => h) (Or.inl ⟨by rfl, fun w hS => ?_⟩) z3 ?_
      rotate_left
      · (skip; go_simp; first | done | with_reducible rfl)
      try simp only [oe3, Act.put, setIfInBounds_toArray, set_cons_zero, set_cons_succ]
      refine wpAnyW_take (i := 4) (oi := oe4) (v := ?_) rfl (by kernel_rfl) (by kernel_rfl) (by kernel_rfl) (by kernel_rfl) (fun _ _ _ h => h) (Or.inl ⟨by rfl, fun w _ => ?_⟩) ?_
      rotate_left
      · (go_simp; first | done | with_reducible rfl)
      try simp only [oe4, Act.put, setIfInBounds_toArray, set_cons_zero, set_cons_succ]
      try rw [e1]
      refine wpAnyW_take (i := 5) (oi := oe5) (v := ?_) rfl (by kernel_rfl) (by kernel_rfl) (by kernel_rfl) (by kernel_rfl) (fun _ _ _ h => h) (Or.inl ⟨by rfl, fun w _ => ?_⟩) ?_
      rotate_left
      · (go_simp; first | done | with_reducible rfl)
      try simp only [oe5, Act.put, setIfInBounds_toArray, set_cons_zero, set_cons_succ]
      refine wpAnyW_take (i := 6) (oi := oe6) (v := undef) rfl (by kernel_rfl) (by kernel_rfl) (by kernel_rfl) (by kernel_rfl) (fun _ _ _ h => h) (Or.inr ⟨by rfl, rfl⟩) ?_
      try simp only [oe6, Act.put, setIfInBounds_toArray, set_cons_zero, set_cons_succ]
      refine wpAnyW_take (i := 7) (oi := oe7) (v := undef) rfl (by kernel_rfl) (by kernel_rfl) (by kernel_rfl) (by kernel_rfl) (fun _ _ _ h => h) (Or.inr ⟨by rfl, rfl⟩) ?_
      try simp only [oe7, Act.put, setIfInBounds_toArray, set_cons_zero, set_cons_succ]
      refine wpAnyW_take (i := 8) (oi := oe8) (v := ?_) rfl (by kernel_rfl) (by kernel_rfl) (by kernel_rfl) (by kernel_rfl) (fun _ _ _ h => h) (Or.inl ⟨by rfl, fun w _ => ?_⟩) ?_
      rotate_left
      · (go_simp; first | done | with_reducible rfl)
      try simp only [oe8, Act.put, setIfInBounds_toArray, set_cons_zero, set_cons_succ]
      refine wpAnyW_take (i := 9) (oi := oe9) (v := ?_) rfl (by kernel_rfl) (by kernel_rfl) (by kernel_rfl) (by kernel_rfl) (fun _ _ _ h => h) (Or.inl ⟨by rfl, fun w _ => ?_⟩) ?_
      rotate_left
      · (go_simp; first | done | with_reducible rfl)
      try simp only [oe9, Act.put, setIfInBounds_toArray, set_cons_zero, set_cons_succ]
      refine wpAnyW_take (i := 10) (oi := oe10) (v := undef) rfl (by kernel_rfl) (by kernel_rfl) (by kernel_rfl) (by kernel_rfl) (fun _ _ _ h => h) (Or.inr ⟨by rfl, rfl⟩) ?_
      try simp only [oe10, Act.put, setIfInBounds_toArray, set_cons_zero, set_cons_succ]
      refine wpAnyW_take (i := 11) (oi := oe11) (v := undef) rfl (by kernel_rfl) (by kernel_rfl) (by kernel_rfl) (by kernel_rfl) (fun _ _ _ h => h) (Or.inr ⟨by rfl, rfl⟩) ?_
      try simp only [oe11, Act.put, setIfInBounds_toArray, set_cons_zero, set_cons_succ]
      refine wpAnyW_take (i := 12) (oi := oe12) (v := undef) rfl (by kernel_rfl) (by kernel_rfl) (by kernel_rfl) (by kernel_rfl) (fun _ _ _ h => h) (Or.inr ⟨by rfl, rfl⟩) ?_
      try simp only [oe12, Act.put, setIfInBounds_toArray, set_cons_zero, set_cons_succ]
      refine wpAnyW_take (i := 13) (oi := oe13) (v := undef) rfl (by kernel_rfl) (by kernel_rfl) (by kernel_rfl) (by kernel_rfl) (fun _ _ _ h => h) (Or.inr ⟨by rfl, rfl⟩) ?_
      try simp only [oe13, Act.put, setIfInBounds_toArray, set_cons_zero, set_cons_succ]
      refine wpAnyW_take (i := 14) (oi := oe14) (v := undef) rfl (by kernel_rfl) (by kernel_rfl) (by kernel_rfl) (by kernel_rfl) (fun _ _ _ h => h) (Or.inr ⟨by rfl, rfl⟩) ?_
      try simp only [oe14, Act.put, setIfInBounds_toArray, set_cons_zero, set_cons_succ]
      refine wpAnyW_take (i := 15) (oi := oe15) (v := undef) rfl (by kernel_rfl) (by kernel_rfl) (by kernel_rfl) (by kernel_rfl) (fun _ _ _ h => h) (Or.inr ⟨by rfl, rfl⟩) ?_
      try simp only [oe15, Act.put, setIfInBounds_toArray, set_cons_zero, set_cons_succ]
      refine wpAnyW_take (i := 16) (oi := oe16) (v := undef) rfl (by kernel_rfl) (by kernel_rfl) (by kernel_rfl) (by kernel_rfl) (fun _ _ _ h => h) (Or.inr ⟨by rfl, rfl⟩) ?_
      try simp only [oe16, Act.put, setIfInBounds_toArray, set_cons_zero, set_cons_succ]
      refine wpAnyW_take (i := 17) (oi := oe17) (v := undef) rfl (by kernel_rfl) (by kernel_rfl) (by kernel_rfl) (by kernel_rfl) (fun _ _ _ h => h) (Or.inr ⟨by rfl, rfl⟩) ?_
      try simp only [oe17, Act.put, setIfInBounds_toArray, set_cons_zero, set_cons_succ]
      refine wpAnyW_take (i := 18) (oi := oe18) (v := undef) rfl (by kernel_rfl) (by kernel_rfl) (by kernel_rfl) (by kernel_rfl) (fun _ _ _ h => h) (Or.inr ⟨by rfl, rfl⟩) ?_
      try simp only [oe18, Act.put, setIfInBounds_toArray, set_cons_zero, set_cons_succ]
      refine wpAnyW_take (i := 19) (oi := oe19) (v := undef) rfl (by kernel_rfl) (by kernel_rfl) (by kernel_rfl) (by kernel_rfl) (fun _ _ _ h => h) (Or.inr ⟨by rfl, rfl⟩) ?_
      try simp only [oe19, Act.put, setIfInBounds_toArray, set_cons_zero, set_cons_succ]
      refine wpAnyW_take (i := 20) (oi := oe20) (v := undef) rfl (by kernel_rfl) (by kernel_rfl) (by kernel_rfl) (by kernel_rfl) (fun _ _ _ h => h) (Or.inr ⟨by rfl, rfl⟩) ?_
      try simp only [oe20, Act.put, setIfInBounds_toArray, set_cons_zero, set_cons_succ]
      refine wpAnyW_take (i := 21) (oi := oe21) (v := undef) rfl (by kernel_rfl) (by kernel_rfl) (by kernel_rfl) (by kernel_rfl) (fun _ _ _ h => h) (Or.inr ⟨by rfl, rfl⟩) ?_
      try simp only [oe21, Act.put, setIfInBounds_toArray, set_cons_zero, set_cons_succ]
      refine wpAnyW_take (i := 22) (oi := oe22) (v := undef) rfl (by kernel_rfl) (by kernel_rfl) (by kernel_rfl) (by kernel_rfl) (fun _ _ _ h => h) (Or.inr ⟨by rfl, rfl⟩) ?_
      try simp only [oe22, Act.put, setIfInBounds_toArray, set_cons_zero, set_cons_succ]
      refine wpAnyW_take (i := 23) (oi := oe23) (v := ?_) rfl (by kernel_rfl) (by kernel_rfl) (by kernel_rfl) (by kernel_rfl) (fun _ _ _ h => h) (Or.inl ⟨by rfl, fun w _ => ?_⟩) ?_
      rotate_left
      · (go_simp; first | done | with_reducible rfl)
      try simp only [oe23, Act.put, setIfInBounds_toArray, set_cons_zero, set_cons_succ]
      refine wpAnyW_done (by kernel_rfl) ?_ _
      all_goals go_wp2
      all_goals go_ret
      all_goals exact ⟨_, _, rfl, N2.out, R2.out.bw (by repeat (first | exact Bw.refl _ | apply Bw.alloc | apply Bw.drewN | apply Bw.drew)), K2.out.bw (by repeat (first | exact Bw.refl _ | apply Bw.alloc | apply Bw.drewN | apply Bw.drew)), L2.out⟩

end

end Go.Proofs.YtekkjpecdflajaaDoor

set_option linter.unusedVariables false
namespace Go.Proofs.YtekkjpecdflajaaDoor
open Go Go.RowKit

theorem expr_step {w : World} {r f : Nat} {T : List ATok} {o : Int} {s s' : DS} {l : List ANode} {k : Int} (hc : ∀ g, g ≤ f → Con T r g) (lev : Int) (h : dR T (f + 1) (.expr lev) o s = some (l, k, s')) (hr : RdM w r T o s) : Calls Tryd.prog 35 #[.pointer (some ⟨r, 0, none⟩), .int .i64 lev] w (DG w r T o l s') := by
  unfold dR at h
  rcases ite_some h with ⟨_, ha⟩ | ⟨hb, ha⟩
  · cases ha
  clear h
  rcases ite_some ha with ⟨he, hd⟩ | ⟨he, hd⟩
  · obtain ⟨rfl, rfl, _⟩ := rete3 hd
    exact expr_bad lev he hr
  clear ha
  have he0 := Classical.not_not.1 he
  rcases ite_some hd with ⟨h2, hf⟩ | ⟨h2, hf⟩
  · obtain ⟨rfl, hi⟩ := h2
    exact expr_not he0 hi (fun w1 hw => (hc f (Nat.le_refl _)).ahead _ _ _ hf hw) hr
  clear hd
  rcases ite_some hf with ⟨h6, hg⟩ | ⟨h6, hg⟩
  · subst h6
    rcases ite_some hg with ⟨hi, hk⟩ | ⟨hi, hk⟩
    · exact expr_neg he0 hi (fun w1 hw => (hc f (Nat.le_refl _)).ahead _ _ _ hk hw) hr
    · exact expr_thing he0 (by simpa using hi) (fun w1 hw => (hc f (Nat.le_refl _)).thing hk hw) hr
  · obtain ⟨⟨l1, k1, s1⟩, h3, h4⟩ := bnd hg
    by_cases hl : lev = 2
    · subst hl
      refine expr_two hc he0 ?_ h3 h4 hr
      cases hq : dIs T s ⟨#[110, 111, 116]⟩
      · rfl
      · exact absurd ⟨rfl, hq⟩ h2
    · exact expr_loop hc lev (by omega) (by omega) hl he0 h3 h4 hr

end Go.Proofs.YtekkjpecdflajaaDoor

