/- The program's registry and the document's, side by side: all that can be asked. -/
import Derived.Test.YtaeifhfhahcoiaaQf
set_option linter.unusedSimpArgs false
set_option linter.unusedVariables false
namespace Go.Proofs.Ytaeifhfhahcoiaa
open Go Go.RowKit

theorem all_none {F : Nat} {K : List VV} (h : Good F K) {n : Int} (hn : oneOf n F = false) : all (vof n) K = [] := by
  rw [List.eq_nil_iff_forall_not_mem]
  intro i hi
  obtain ⟨x, hx, hp⟩ := mem_all.1 hi
  have hf := h.fr x (List.mem_of_getElem? hx)
  have e : x.f = n := by simp [vof] at hp; exact hp.2
  rw [e] at hf
  rw [oneOf_yes hf.1 hf.2] at hn
  cases hn
theorem all_few {F : Nat} {K : List VV} (h : Good F K) (n : Int) : all (vof n) K = [] ∨ ∃ i, all (vof n) K = [i] := by
  have h1 := h.one n
  rw [← all_count] at h1
  match hl : all (vof n) K, h1 with
  | [], _ => exact .inl rfl
  | [i], _ => exact .inr ⟨i, rfl⟩
  | _ :: _ :: _, h2 => simp at h2

section
variable {w0 wr : World} {p F G k : Nat} {B : Nat → Prop} {bs : List Nat} {rv v : Value} {L LR : List (VV × Value)}

set_option maxRecDepth 100000 in
set_option maxHeartbeats 2000000 in
theorem asks_neg (h : PW w0 wr p bs F G rv L v LR k B) (n : Int) (hn : n < 0) : Calls Try.prog 14 #[.pointer (some ⟨p, 0, none⟩), rV F G v, .int .i64 n] wr fun e w' => e = .returned (.bool true) ∧ Bw wr w' := by
  unfold rV
  obtain ⟨av, cv, ev⟩ := h.rs.form
  subst ev
  have HW := hid h
  have HEQ := hid h.eq
  have hll : LR.length = L.length := by have := congrArg List.length h.eq; simpa using this
  have hlm : (L.map Prod.fst).length = L.length := by simp
  have HLL := hid hll
  have hlk := h.rs.big.1
  have HNO := hid (show oneOf n L.length = false from oneOf_no (by omega))
  have hvl : validL (L.map Prod.fst) n = false := validL_no (by rw [hlm]; exact HNO.out)
  have z0 : decide (0 ≤ n) = false := decide_eq_false (by omega)
  have HV := hid (Valid_any (h.ms.ds.bw (Bw.alloc (Bw.refl wr) (.cells #[.int .i64 F, .int .i64 G, .slice av LR.length cv] 31))) n)
  rw [hvl] at HV
  obtain ⟨C, hC⟩ : ∃ C : Nat, cnt n (L.map Prod.fst) = C := ⟨_, rfl⟩
  have HC := hid hC
  have zC : ((C : Int) != (C : Int)) = false := by simp
  have HF := hid (show oneOf n F = false from oneOf_no (by omega))
  have HAL := hid (all_none h.good HF.out)
  have HOF := hid (show ofL (L.map Prod.fst) n = .tuple #[.int .i64 0, .bool false] by unfold ofL; rw [HAL.out])
  have HLI := hid (show lastI (all (vof n) (L.map Prod.fst)) = -1 by rw [HAL.out]; rfl)
  clear h hvl hC hlm hll
  go_enter Try.func14, Try.ntmps14
  go_wp2_with (first
    | (go_at_call 15; refine HV.out.mono ?_; rintro e w4 ⟨rfl, hw4⟩; subst w4)
    | fail)
  refine wp_region_W (fun w' => True) (fun j => if j == 20 then 0 else 1) (by kernel_rfl) ?_
  have hb0 : Bw wr (wr.alloc (.cells #[.int .i64 F, .int .i64 G, .slice av LR.length cv] 31)).drew := Bw.drew (Bw.alloc (Bw.refl _) _)
  have bp : Blk (wr.alloc (.cells #[.int .i64 F, .int .i64 G, .slice av LR.length cv] 31)).drew wr.heap.size #[.int .i64 F, .int .i64 G, .slice av LR.length cv] 31 := Blk.drewN (Blk.new wr _ _) 1
  generalize hW0 : (wr.alloc (.cells #[.int .i64 F, .int .i64 G, .slice av LR.length cv] 31)).drew = W0 at hb0 bp
  have HB0 := hid hb0
  have HBP0 := hid bp
  have hS := hid (show ∀ W', Bw W0 W' → True from fun _ _ => trivial)
  clear hb0 hW0 bp
  refine wpAnyW_take (i := 0) (oi := { dst := some 37, op := Op.move (Operand.tmp 7), type := 4, pos := "law.go:73", after := #[], guard := none }) (v := ?_) rfl (by kernel_rfl) (by kernel_rfl) (by kernel_rfl) (by kernel_rfl) (fun _ _ _ h => h) (Or.inl ⟨by rfl, fun w _ => ?_⟩) ?_
  rotate_left
  · (go_simp; first | done | with_reducible rfl)
  try simp only [Act.put, List.setIfInBounds_toArray, List.set_cons_zero, List.set_cons_succ]
  refine wpAnyW_take (i := 1) (oi := { dst := some 38, op := Op.move (Operand.tmp 37), type := 4, pos := "law.go:73", after := #[{ on := 0, ground := Ground.data }], guard := none }) (v := ?_) rfl (by kernel_rfl) (by kernel_rfl) (by kernel_rfl) (by kernel_rfl) (fun _ _ _ h => h) (Or.inl ⟨by rfl, fun w _ => ?_⟩) ?_
  rotate_left
  · (go_simp; first | done | with_reducible rfl)
  try simp only [Act.put, List.setIfInBounds_toArray, List.set_cons_zero, List.set_cons_succ]
  refine wpAnyW_take (i := 2) (oi := { dst := some 39, op := Op.move (Operand.tmp 0), type := 25, pos := "law.go:73", after := #[{ on := 1, ground := Ground.guard }], guard := some (1, true) }) (v := undef) rfl (by kernel_rfl) (by kernel_rfl) (by kernel_rfl) (by kernel_rfl) (fun _ _ _ h => h) (Or.inr ⟨by rfl, rfl⟩) ?_
  try simp only [Act.put, List.setIfInBounds_toArray, List.set_cons_zero, List.set_cons_succ]
  refine wpAnyW_take (i := 3) (oi := { dst := some 40, op := Op.move (Operand.tmp 2), type := 3, pos := "law.go:73", after := #[{ on := 1, ground := Ground.guard }], guard := some (1, true) }) (v := undef) rfl (by kernel_rfl) (by kernel_rfl) (by kernel_rfl) (by kernel_rfl) (fun _ _ _ h => h) (Or.inr ⟨by rfl, rfl⟩) ?_
  try simp only [Act.put, List.setIfInBounds_toArray, List.set_cons_zero, List.set_cons_succ]
  refine wpAnyW_take (i := 4) (oi := { dst := some 41, op := Op.call { callee := Callee.value (Operand.func 20), args := #[Operand.tmp 39, Operand.tmp 40], argTypes := #[25, 3] }, type := 37, pos := "law.go:73", after := #[{ on := 2, ground := Ground.data }, { on := 3, ground := Ground.data }, { on := 1, ground := Ground.chain }, { on := 1, ground := Ground.guard }], guard := some (1, true) }) (v := undef) rfl (by kernel_rfl) (by kernel_rfl) (by kernel_rfl) (by kernel_rfl) (fun _ _ _ h => h) (Or.inr ⟨by rfl, rfl⟩) ?_
  try simp only [Act.put, List.setIfInBounds_toArray, List.set_cons_zero, List.set_cons_succ]
  refine wpAnyW_take (i := 5) (oi := { dst := some 42, op := Op.fieldAddr 31 (Operand.tmp 4) 2, type := 0, pos := "law.go:73", after := #[{ on := 1, ground := Ground.guard }], guard := some (1, true) }) (v := undef) rfl (by kernel_rfl) (by kernel_rfl) (by kernel_rfl) (by kernel_rfl) (fun _ _ _ h => h) (Or.inr ⟨by rfl, rfl⟩) ?_
  try simp only [Act.put, List.setIfInBounds_toArray, List.set_cons_zero, List.set_cons_succ]
  refine wpAnyW_take (i := 6) (oi := { dst := some 43, op := Op.load 29 (Operand.tmp 42), type := 29, pos := "law.go:73", after := #[{ on := 5, ground := Ground.data }, { on := 1, ground := Ground.guard }], guard := some (1, true) }) (v := undef) rfl (by kernel_rfl) (by kernel_rfl) (by kernel_rfl) (by kernel_rfl) (fun _ _ _ h => h) (Or.inr ⟨by rfl, rfl⟩) ?_
  try simp only [Act.put, List.setIfInBounds_toArray, List.set_cons_zero, List.set_cons_succ]
  refine wpAnyW_take (i := 7) (oi := { dst := some 44, op := Op.move (Operand.tmp 2), type := 3, pos := "law.go:73", after := #[{ on := 1, ground := Ground.guard }], guard := some (1, true) }) (v := undef) rfl (by kernel_rfl) (by kernel_rfl) (by kernel_rfl) (by kernel_rfl) (fun _ _ _ h => h) (Or.inr ⟨by rfl, rfl⟩) ?_
  try simp only [Act.put, List.setIfInBounds_toArray, List.set_cons_zero, List.set_cons_succ]
  refine wpAnyW_take (i := 8) (oi := { dst := some 45, op := Op.indexAddr 29 (Operand.tmp 43) (Operand.tmp 44), type := 0, pos := "law.go:73", after := #[{ on := 6, ground := Ground.data }, { on := 7, ground := Ground.data }, { on := 1, ground := Ground.guard }], guard := some (1, true) }) (v := undef) rfl (by kernel_rfl) (by kernel_rfl) (by kernel_rfl) (by kernel_rfl) (fun _ _ _ h => h) (Or.inr ⟨by rfl, rfl⟩) ?_
  try simp only [Act.put, List.setIfInBounds_toArray, List.set_cons_zero, List.set_cons_succ]
  refine wpAnyW_take (i := 9) (oi := { dst := some 46, op := Op.fieldAddr 45 (Operand.tmp 45) 1, type := 0, pos := "law.go:73", after := #[{ on := 8, ground := Ground.data }, { on := 1, ground := Ground.guard }], guard := some (1, true) }) (v := undef) rfl (by kernel_rfl) (by kernel_rfl) (by kernel_rfl) (by kernel_rfl) (fun _ _ _ h => h) (Or.inr ⟨by rfl, rfl⟩) ?_
  try simp only [Act.put, List.setIfInBounds_toArray, List.set_cons_zero, List.set_cons_succ]
  refine wpAnyW_take (i := 10) (oi := { dst := some 47, op := Op.load 37 (Operand.tmp 46), type := 37, pos := "law.go:73", after := #[{ on := 9, ground := Ground.data }, { on := 1, ground := Ground.guard }], guard := some (1, true) }) (v := undef) rfl (by kernel_rfl) (by kernel_rfl) (by kernel_rfl) (by kernel_rfl) (fun _ _ _ h => h) (Or.inr ⟨by rfl, rfl⟩) ?_
  try simp only [Act.put, List.setIfInBounds_toArray, List.set_cons_zero, List.set_cons_succ]
  refine wpAnyW_take (i := 11) (oi := { dst := some 48, op := Op.call { callee := Callee.value (Operand.func 22), args := #[Operand.tmp 41, Operand.tmp 47], argTypes := #[37, 37] }, type := 4, pos := "law.go:73", after := #[{ on := 4, ground := Ground.data }, { on := 10, ground := Ground.data }, { on := 4, ground := Ground.chain }, { on := 1, ground := Ground.guard }], guard := some (1, true) }) (v := undef) rfl (by kernel_rfl) (by kernel_rfl) (by kernel_rfl) (by kernel_rfl) (fun _ _ _ h => h) (Or.inr ⟨by rfl, rfl⟩) ?_
  try simp only [Act.put, List.setIfInBounds_toArray, List.set_cons_zero, List.set_cons_succ]
  refine wpAnyW_take (i := 12) (oi := { dst := some 49, op := Op.unOp UnOp.not 4 (Operand.tmp 48), type := 4, pos := "law.go:73", after := #[{ on := 11, ground := Ground.data }, { on := 1, ground := Ground.guard }], guard := some (1, true) }) (v := undef) rfl (by kernel_rfl) (by kernel_rfl) (by kernel_rfl) (by kernel_rfl) (fun _ _ _ h => h) (Or.inr ⟨by rfl, rfl⟩) ?_
  try simp only [Act.put, List.setIfInBounds_toArray, List.set_cons_zero, List.set_cons_succ]
  refine wpAnyW_take (i := 13) (oi := { dst := some 50, op := Op.pick (Operand.tmp 38) (Operand.tmp 49) (Operand.const (Value.bool false)), type := 4, pos := "law.go:73", after := #[{ on := 1, ground := Ground.data }, { on := 12, ground := Ground.data }], guard := none }) (v := ?_) rfl (by kernel_rfl) (by kernel_rfl) (by kernel_rfl) (by kernel_rfl) (fun _ _ _ h => h) (Or.inl ⟨by rfl, fun w _ => ?_⟩) ?_
  rotate_left
  · (go_simp; first | done | with_reducible rfl)
  try simp only [Act.put, List.setIfInBounds_toArray, List.set_cons_zero, List.set_cons_succ]
  refine wpAnyW_take (i := 14) (oi := { dst := some 51, op := Op.move (Operand.tmp 50), type := 4, pos := "law.go:73", after := #[{ on := 13, ground := Ground.data }, { on := 11, ground := Ground.chain }], guard := none }) (v := ?_) rfl (by kernel_rfl) (by kernel_rfl) (by kernel_rfl) (by kernel_rfl) (fun _ _ _ h => h) (Or.inl ⟨by rfl, fun w _ => ?_⟩) ?_
  rotate_left
  · (go_simp; first | done | with_reducible rfl)
  try simp only [Act.put, List.setIfInBounds_toArray, List.set_cons_zero, List.set_cons_succ]
  refine wpAnyW_take (i := 15) (oi := { dst := some 52, op := Op.move (Operand.tmp 7), type := 4, pos := "law.go:73", after := #[{ on := 14, ground := Ground.guard }], guard := some (14, false) }) (v := ?_) rfl (by kernel_rfl) (by kernel_rfl) (by kernel_rfl) (by kernel_rfl) (fun _ _ _ h => h) (Or.inl ⟨by rfl, fun w _ => ?_⟩) ?_
  rotate_left
  · (go_simp; first | done | with_reducible rfl)
  try simp only [Act.put, List.setIfInBounds_toArray, List.set_cons_zero, List.set_cons_succ]
  refine wpAnyW_take (i := 16) (oi := { dst := some 53, op := Op.unOp UnOp.not 4 (Operand.tmp 52), type := 4, pos := "law.go:73", after := #[{ on := 15, ground := Ground.data }, { on := 14, ground := Ground.guard }], guard := some (14, false) }) (v := ?_) rfl (by kernel_rfl) (by kernel_rfl) (by kernel_rfl) (by kernel_rfl) (fun _ _ _ h => h) (Or.inl ⟨by rfl, fun w _ => ?_⟩) ?_
  rotate_left
  · (go_simp; first | done | with_reducible rfl)
  try simp only [Act.put, List.setIfInBounds_toArray, List.set_cons_zero, List.set_cons_succ]
  refine wpAnyW_take (i := 17) (oi := { dst := some 54, op := Op.move (Operand.tmp 53), type := 4, pos := "law.go:73", after := #[{ on := 16, ground := Ground.data }, { on := 14, ground := Ground.chain }, { on := 14, ground := Ground.guard }], guard := some (14, false) }) (v := ?_) rfl (by kernel_rfl) (by kernel_rfl) (by kernel_rfl) (by kernel_rfl) (fun _ _ _ h => h) (Or.inl ⟨by rfl, fun w _ => ?_⟩) ?_
  rotate_left
  · (go_simp; first | done | with_reducible rfl)
  try simp only [Act.put, List.setIfInBounds_toArray, List.set_cons_zero, List.set_cons_succ]
  refine wpAnyW_take (i := 18) (oi := { dst := some 55, op := Op.move (Operand.tmp 0), type := 25, pos := "law.go:73", after := #[{ on := 17, ground := Ground.guard }], guard := some (17, true) }) (v := ?_) rfl (by kernel_rfl) (by kernel_rfl) (by kernel_rfl) (by kernel_rfl) (fun _ _ _ h => h) (Or.inl ⟨by rfl, fun w _ => ?_⟩) ?_
  rotate_left
  · (go_simp; first | done | with_reducible rfl)
  try simp only [Act.put, List.setIfInBounds_toArray, List.set_cons_zero, List.set_cons_succ]
  refine wpAnyW_take (i := 19) (oi := { dst := some 56, op := Op.move (Operand.tmp 2), type := 3, pos := "law.go:73", after := #[{ on := 17, ground := Ground.guard }], guard := some (17, true) }) (v := ?_) rfl (by kernel_rfl) (by kernel_rfl) (by kernel_rfl) (by kernel_rfl) (fun _ _ _ h => h) (Or.inl ⟨by rfl, fun w _ => ?_⟩) ?_
  rotate_left
  · (go_simp; first | done | with_reducible rfl)
  try simp only [Act.put, List.setIfInBounds_toArray, List.set_cons_zero, List.set_cons_succ]
  refine wpAnyW_ready (rs := [20]) (by kernel_rfl) (by simp) ?_
  refine (AllReadyW.cons (o := { dst := some 57, op := Op.call { callee := Callee.value (Operand.func 20), args := #[Operand.tmp 55, Operand.tmp 56], argTypes := #[25, 3] }, type := 37, pos := "law.go:73", after := #[{ on := 18, ground := Ground.data }, { on := 19, ground := Ground.data }, { on := 17, ground := Ground.chain }, { on := 17, ground := Ground.guard }], guard := some (17, true) }) rfl (fun K hK => ?_) AllReadyW.nil)
  go_simp
  refine (On_any (HW.out.ms.ds.bw HB0.out) _).mono ?_
  rintro e w5 ⟨r5, l5, rfl, ho5, hb5, hm5, hl5, _⟩
  have hl5 := hl5 HNO.out
  subst hl5
  obtain ⟨a5, c5, e5⟩ := own_form ho5
  simp only [List.length_nil] at e5
  subst e5
  have HB6 := hid hb5
  clear ho5 hb5
  refine hK.out _ _ (hS.out _ HB6.out) ?_
  clear hK K
  try simp only [Act.put, List.setIfInBounds_toArray, List.set_cons_zero, List.set_cons_succ]
  refine wpAnyW_take (i := 21) (oi := { dst := some 58, op := Op.call { callee := Callee.builtin Builtin.len, args := #[Operand.tmp 57], argTypes := #[37] }, type := 3, pos := "law.go:73", after := #[{ on := 20, ground := Ground.data }, { on := 17, ground := Ground.guard }], guard := some (17, true) }) (v := ?_) rfl (by kernel_rfl) (by kernel_rfl) (by kernel_rfl) (by kernel_rfl) (fun _ _ _ h => h) (Or.inl ⟨by rfl, fun w _ => ?_⟩) ?_
  rotate_left
  · (go_simp; first | done | with_reducible rfl)
  try simp only [Act.put, List.setIfInBounds_toArray, List.set_cons_zero, List.set_cons_succ]
  refine wpAnyW_take (i := 22) (oi := { dst := some 59, op := Op.binOp BinOp.neq 3 (Operand.tmp 58) (Operand.const (Value.int IntKind.i64 0)) 3, type := 4, pos := "law.go:73", after := #[{ on := 21, ground := Ground.data }, { on := 17, ground := Ground.guard }], guard := some (17, true) }) (v := ?_) rfl (by kernel_rfl) (by kernel_rfl) (by kernel_rfl) (by kernel_rfl) (fun _ _ _ h => h) (Or.inl ⟨by rfl, fun w _ => ?_⟩) ?_
  rotate_left
  · (go_simp; first | done | with_reducible rfl)
  try simp only [Act.put, List.setIfInBounds_toArray, List.set_cons_zero, List.set_cons_succ]
  refine wpAnyW_take (i := 23) (oi := { dst := some 60, op := Op.pick (Operand.tmp 54) (Operand.tmp 59) (Operand.const (Value.bool false)), type := 4, pos := "law.go:73", after := #[{ on := 17, ground := Ground.data }, { on := 22, ground := Ground.data }, { on := 14, ground := Ground.guard }], guard := some (14, false) }) (v := ?_) rfl (by kernel_rfl) (by kernel_rfl) (by kernel_rfl) (by kernel_rfl) (fun _ _ _ h => h) (Or.inl ⟨by rfl, fun w _ => ?_⟩) ?_
  rotate_left
  · (go_simp; first | done | with_reducible rfl)
  try simp only [Act.put, List.setIfInBounds_toArray, List.set_cons_zero, List.set_cons_succ]
  refine wpAnyW_take (i := 24) (oi := { dst := some 61, op := Op.pick (Operand.tmp 51) (Operand.const (Value.bool true)) (Operand.tmp 60), type := 4, pos := "law.go:73", after := #[{ on := 14, ground := Ground.data }, { on := 23, ground := Ground.data }], guard := none }) (v := ?_) rfl (by kernel_rfl) (by kernel_rfl) (by kernel_rfl) (by kernel_rfl) (fun _ _ _ h => h) (Or.inl ⟨by rfl, fun w _ => ?_⟩) ?_
  rotate_left
  · (go_simp; first | done | with_reducible rfl)
  try simp only [Act.put, List.setIfInBounds_toArray, List.set_cons_zero, List.set_cons_succ]
  refine wpAnyW_done (by kernel_rfl) ?_ _
  obtain ⟨p0, p1, p2, pl⟩ := box3 (HBP0.out.bw HB6.out)
  have HBX := hid (HB0.out.trans HB6.out)
  go_wp2_with (first
    | (go_at_call 27; refine (rVersions_any (HW.out.rs.bw HBX.out) n).mono ?_; rw [HEQ.out, HC.out, HLI.out]; rintro e w7 ⟨rfl, hb7⟩; have HB7 := hid (HBX.out.trans hb7); clear hb7)
    | (go_at_call 18; refine (Versions_any (HW.out.ms.ds.bw HB7.out) n).mono ?_; rw [HF.out, HC.out]; rintro e w8 ⟨he, hb8⟩; obtain rfl : e = .returned (.tuple #[.int .i64 0, .int .i64 1]) := he; have HB8 := hid (HB7.out.trans hb8); clear hb8)
    | (go_at_call 19; refine (Of_any (HW.out.ms.ds.bw HB8.out) n).mono ?_; rw [HOF.out]; rintro e w9 ⟨rfl, hb9⟩; have HB9 := hid (HB8.out.trans hb9); clear hb9)
    | (go_at_call 12; refine (num_any _ _).mono ?_; rintro e wa ⟨rfl, hwa⟩; subst wa)
    | fail)
  all_goals go_ret
  all_goals exact ⟨rfl, HB9.out⟩

set_option maxRecDepth 100000 in
set_option maxHeartbeats 2000000 in
theorem asks_hno (h : PW w0 wr p bs F G rv L v LR k B) (n : Nat) (hnl : n < LR.length) (hF : ¬ n < F) : Calls Try.prog 14 #[.pointer (some ⟨p, 0, none⟩), rV F G v, .int .i64 (n : Int)] wr fun e w' => e = .returned (.bool true) ∧ Bw wr w' := by
  unfold rV
  obtain ⟨av, cv, ev⟩ := h.rs.form
  subst ev
  have HW := hid h
  have HEQ := hid h.eq
  have hll : LR.length = L.length := by have := congrArg List.length h.eq; simpa using this
  have hlm : (L.map Prod.fst).length = L.length := by simp
  have HLL := hid hll
  have hlk := h.rs.big.1
  have hnL : n < L.length := by omega
  obtain ⟨b, o, e, hlb, t0, t1, t2⟩ := h.rs.at hnl
  subst e
  have hKn : LR[n].1 = L[n].1 := by
    have := congrArg (·[n]?) h.eq
    simp only [List.getElem?_map, List.getElem?_eq_getElem hnl, List.getElem?_eq_getElem hnL, Option.map_some, Option.some.injEq] at this
    exact this
  have hvl : validL (L.map Prod.fst) n = LR[n].1.ok := by rw [validL_nat (by simpa using hnL), hKn]; simp
  have HQL := hid (show L[n].1.on = LR[n].1.on by rw [hKn])
  have HQS := hid (h.rs.ons _ (List.getElem_mem hnl))
  have hbg := h.rs.big.2 _ (List.getElem_mem hnl)
  have HQE0 := hid (show LR[n].2 = LR[n].2 from rfl)
  obtain ⟨l1, hl1⟩ : ∃ l1, LR[n].1.on = l1 := ⟨_, rfl⟩
  obtain ⟨u1, hu1⟩ : ∃ u1, LR[n].2 = u1 := ⟨_, rfl⟩
  obtain ⟨ok, hok⟩ : ∃ ok, LR[n].1.ok = ok := ⟨_, rfl⟩
  rw [hl1, hu1] at HQS
  rw [hl1] at HQL hbg
  rw [hu1] at t1
  rw [hok] at t2 hvl
  obtain ⟨a1, c1, e1⟩ := HQS.out.form
  subst e1
  have HQE := hid hu1
  have z0 : decide ((0 : Int) ≤ (n : Int)) = true := decide_eq_true (by omega)
  have z1 : decide ((n : Int) < (LR.length : Int)) = true := decide_eq_true (by omega)
  have z2 : n < LR.length := hnl
  have z3 : (ok != ok) = false := by simp
  clear t0 t1 hKn hl1 hu1 hok HQE0
  have HV := hid (Valid_any (h.ms.ds.bw (Bw.alloc (Bw.refl wr) (.cells #[.int .i64 F, .int .i64 G, .slice (some ⟨b, o, none⟩) LR.length cv] 31))) (n : Int))
  rw [hvl] at HV
  obtain ⟨C, hC⟩ : ∃ C : Nat, cnt (n : Int) (L.map Prod.fst) = C := ⟨_, rfl⟩
  have HC := hid hC
  have zC : ((C : Int) != (C : Int)) = false := by simp
  have HF := hid (show oneOf (n : Int) F = false from oneOf_no (by omega))
  have HAL := hid (all_none h.good HF.out)
  have HOF := hid (show ofL (L.map Prod.fst) (n : Int) = .tuple #[.int .i64 0, .bool false] by unfold ofL; rw [HAL.out])
  have HLI := hid (show lastI (all (vof (n : Int)) (L.map Prod.fst)) = -1 by rw [HAL.out]; rfl)
  have z5 : decide ((n : Int) < (F : Int)) = false := decide_eq_false (by omega)
  have z6 : ¬ n < F := by omega
  clear h hvl hC hlm hll
  go_enter Try.func14, Try.ntmps14
  go_wp2_with (first
    | (go_at_call 15; refine HV.out.mono ?_; rintro e w4 ⟨rfl, hw4⟩; subst w4)
    | fail)
  refine wp_region_W (fun w' => w'.cell? ⟨wr.heap.size, 2, none⟩ = some (.slice (some ⟨b, o, none⟩) LR.length cv) ∧ w'.cell? ⟨b, o + n * 3 + 1, none⟩ = some (.slice a1 l1.length c1)) (fun j => if j == 4 || j == 11 then 0 else 1) (by kernel_rfl) ?_
  have hb0 : Bw wr (wr.alloc (.cells #[.int .i64 F, .int .i64 G, .slice (some ⟨b, o, none⟩) LR.length cv] 31)).drew := Bw.drew (Bw.alloc (Bw.refl _) _)
  have bp : Blk (wr.alloc (.cells #[.int .i64 F, .int .i64 G, .slice (some ⟨b, o, none⟩) LR.length cv] 31)).drew wr.heap.size #[.int .i64 F, .int .i64 G, .slice (some ⟨b, o, none⟩) LR.length cv] 31 := Blk.drewN (Blk.new wr _ _) 1
  generalize hW0 : (wr.alloc (.cells #[.int .i64 F, .int .i64 G, .slice (some ⟨b, o, none⟩) LR.length cv] 31)).drew = W0 at hb0 bp
  have HB0 := hid hb0
  have HBP0 := hid bp
  have hS := hid (show ∀ W', Bw W0 W' → (W'.cell? ⟨wr.heap.size, 2, none⟩ = some (.slice (some ⟨b, o, none⟩) LR.length cv) ∧ W'.cell? ⟨b, o + n * 3 + 1, none⟩ = some (.slice a1 l1.length c1)) from fun W' hb => ⟨(bp.bw hb).cell 2, by have := ((HW.out.rs.bw (HB0.out.trans hb)).at hnl); obtain ⟨b', o', e', _, _, t1, _⟩ := this; cases e'; rw [t1, HQE.out]⟩)
  clear hb0 hW0 bp
  refine wpAnyW_take (i := 0) (oi := { dst := some 37, op := Op.move (Operand.tmp 7), type := 4, pos := "law.go:73", after := #[], guard := none }) (v := ?_) rfl (by kernel_rfl) (by kernel_rfl) (by kernel_rfl) (by kernel_rfl) (fun _ _ _ h => h) (Or.inl ⟨by rfl, fun w _ => ?_⟩) ?_
  rotate_left
  · (go_simp; first | done | with_reducible rfl)
  try simp only [Act.put, List.setIfInBounds_toArray, List.set_cons_zero, List.set_cons_succ]
  refine wpAnyW_take (i := 1) (oi := { dst := some 38, op := Op.move (Operand.tmp 37), type := 4, pos := "law.go:73", after := #[{ on := 0, ground := Ground.data }], guard := none }) (v := ?_) rfl (by kernel_rfl) (by kernel_rfl) (by kernel_rfl) (by kernel_rfl) (fun _ _ _ h => h) (Or.inl ⟨by rfl, fun w _ => ?_⟩) ?_
  rotate_left
  · (go_simp; first | done | with_reducible rfl)
  try simp only [Act.put, List.setIfInBounds_toArray, List.set_cons_zero, List.set_cons_succ]
  refine wpAnyW_take (i := 2) (oi := { dst := some 39, op := Op.move (Operand.tmp 0), type := 25, pos := "law.go:73", after := #[{ on := 1, ground := Ground.guard }], guard := some (1, true) }) (v := ?_) rfl (by kernel_rfl) (by kernel_rfl) (by kernel_rfl) (by kernel_rfl) (fun _ _ _ h => h) (Or.inl ⟨by rfl, fun w _ => ?_⟩) ?_
  rotate_left
  · (go_simp; first | done | with_reducible rfl)
  try simp only [Act.put, List.setIfInBounds_toArray, List.set_cons_zero, List.set_cons_succ]
  refine wpAnyW_take (i := 3) (oi := { dst := some 40, op := Op.move (Operand.tmp 2), type := 3, pos := "law.go:73", after := #[{ on := 1, ground := Ground.guard }], guard := some (1, true) }) (v := ?_) rfl (by kernel_rfl) (by kernel_rfl) (by kernel_rfl) (by kernel_rfl) (fun _ _ _ h => h) (Or.inl ⟨by rfl, fun w _ => ?_⟩) ?_
  rotate_left
  · (go_simp; first | done | with_reducible rfl)
  try simp only [Act.put, List.setIfInBounds_toArray, List.set_cons_zero, List.set_cons_succ]
  refine wpAnyW_take (i := 5) (oi := { dst := some 42, op := Op.fieldAddr 31 (Operand.tmp 4) 2, type := 0, pos := "law.go:73", after := #[{ on := 1, ground := Ground.guard }], guard := some (1, true) }) (v := ?_) rfl (by kernel_rfl) (by kernel_rfl) (by kernel_rfl) (by kernel_rfl) (fun _ _ _ h => h) (Or.inl ⟨by rfl, fun w _ => ?_⟩) ?_
  rotate_left
  · (go_simp; first | done | with_reducible rfl)
  try simp only [Act.put, List.setIfInBounds_toArray, List.set_cons_zero, List.set_cons_succ]
  refine wpAnyW_load (i := 6) (oi := { dst := some 43, op := Op.load 29 (Operand.tmp 42), type := 29, pos := "law.go:73", after := #[{ on := 5, ground := Ground.data }, { on := 1, ground := Ground.guard }], guard := some (1, true) }) (v := ?_) rfl (by kernel_rfl) (by kernel_rfl) (by kernel_rfl) (by kernel_rfl) (by kernel_rfl) (fun _ _ _ h => h) (Or.inl ⟨by rfl, fun w hS => ?_⟩) (hS.out _ (Bw.refl _)) ?_
  rotate_left
  · (obtain ⟨s1, s2⟩ := hS; go_simp; first | done | with_reducible rfl)
  try simp only [Act.put, List.setIfInBounds_toArray, List.set_cons_zero, List.set_cons_succ]
  refine wpAnyW_take (i := 7) (oi := { dst := some 44, op := Op.move (Operand.tmp 2), type := 3, pos := "law.go:73", after := #[{ on := 1, ground := Ground.guard }], guard := some (1, true) }) (v := ?_) rfl (by kernel_rfl) (by kernel_rfl) (by kernel_rfl) (by kernel_rfl) (fun _ _ _ h => h) (Or.inl ⟨by rfl, fun w _ => ?_⟩) ?_
  rotate_left
  · (go_simp; first | done | with_reducible rfl)
  try simp only [Act.put, List.setIfInBounds_toArray, List.set_cons_zero, List.set_cons_succ]
  refine wpAnyW_take (i := 8) (oi := { dst := some 45, op := Op.indexAddr 29 (Operand.tmp 43) (Operand.tmp 44), type := 0, pos := "law.go:73", after := #[{ on := 6, ground := Ground.data }, { on := 7, ground := Ground.data }, { on := 1, ground := Ground.guard }], guard := some (1, true) }) (v := ?_) rfl (by kernel_rfl) (by kernel_rfl) (by kernel_rfl) (by kernel_rfl) (fun _ _ _ h => h) (Or.inl ⟨by rfl, fun w _ => ?_⟩) ?_
  rotate_left
  · (go_simp; first | done | with_reducible rfl)
  try simp only [Act.put, List.setIfInBounds_toArray, List.set_cons_zero, List.set_cons_succ]
  refine wpAnyW_take (i := 9) (oi := { dst := some 46, op := Op.fieldAddr 45 (Operand.tmp 45) 1, type := 0, pos := "law.go:73", after := #[{ on := 8, ground := Ground.data }, { on := 1, ground := Ground.guard }], guard := some (1, true) }) (v := ?_) rfl (by kernel_rfl) (by kernel_rfl) (by kernel_rfl) (by kernel_rfl) (fun _ _ _ h => h) (Or.inl ⟨by rfl, fun w _ => ?_⟩) ?_
  rotate_left
  · (go_simp; first | done | with_reducible rfl)
  try simp only [Act.put, List.setIfInBounds_toArray, List.set_cons_zero, List.set_cons_succ]
  refine wpAnyW_load (i := 10) (oi := { dst := some 47, op := Op.load 37 (Operand.tmp 46), type := 37, pos := "law.go:73", after := #[{ on := 9, ground := Ground.data }, { on := 1, ground := Ground.guard }], guard := some (1, true) }) (v := ?_) rfl (by kernel_rfl) (by kernel_rfl) (by kernel_rfl) (by kernel_rfl) (by kernel_rfl) (fun _ _ _ h => h) (Or.inl ⟨by rfl, fun w hS => ?_⟩) (hS.out _ (Bw.refl _)) ?_
  rotate_left
  · (obtain ⟨s1, s2⟩ := hS; go_simp; first | done | with_reducible rfl)
  try simp only [Act.put, List.setIfInBounds_toArray, List.set_cons_zero, List.set_cons_succ]
  refine wpAnyW_ready (rs := [4]) (by kernel_rfl) (by simp) ?_
  refine (AllReadyW.cons (o := { dst := some 41, op := Op.call { callee := Callee.value (Operand.func 20), args := #[Operand.tmp 39, Operand.tmp 40], argTypes := #[25, 3] }, type := 37, pos := "law.go:73", after := #[{ on := 2, ground := Ground.data }, { on := 3, ground := Ground.data }, { on := 1, ground := Ground.chain }, { on := 1, ground := Ground.guard }], guard := some (1, true) }) rfl (fun K hK => ?_) AllReadyW.nil)
  go_simp
  refine (On_any (HW.out.ms.ds.bw HB0.out) (n : Int)).mono ?_
  rintro e w5 ⟨r5, l5, rfl, ho5, hb5, hm5, _, hl5⟩
  have hl5 := hl5 n hnL rfl
  rw [HQL.out] at hl5
  rw [hl5] at ho5
  obtain ⟨a5, c5, e5⟩ := own_form ho5
  subst e5
  have HO5 := hid (own_sl (G := fun _ => True) ho5 (fun _ _ => trivial))
  have HB5 := hid hb5
  clear ho5 hb5
  refine hK.out _ _ (hS.out _ HB5.out) ?_
  clear hK K
  try simp only [Act.put, List.setIfInBounds_toArray, List.set_cons_zero, List.set_cons_succ]
  refine wpAnyW_ready (rs := [11]) (by kernel_rfl) (by simp) ?_
  refine (AllReadyW.cons (o := { dst := some 48, op := Op.call { callee := Callee.value (Operand.func 22), args := #[Operand.tmp 41, Operand.tmp 47], argTypes := #[37, 37] }, type := 4, pos := "law.go:73", after := #[{ on := 4, ground := Ground.data }, { on := 10, ground := Ground.data }, { on := 4, ground := Ground.chain }, { on := 1, ground := Ground.guard }], guard := some (1, true) }) rfl (fun K hK => ?_) AllReadyW.nil)
  go_simp
  refine (sameDeps_any _ _ l1 HO5.out (HQS.out.below (HB0.out.trans HB5.out)) (by omega)).mono ?_
  rintro e w6 ⟨rfl, hd6⟩
  have HB6 := hid (HB5.out.trans hd6.bw)
  clear hd6
  refine hK.out _ _ (hS.out _ HB6.out) ?_
  clear hK K
  try simp only [Act.put, List.setIfInBounds_toArray, List.set_cons_zero, List.set_cons_succ]
  refine wpAnyW_take (i := 12) (oi := { dst := some 49, op := Op.unOp UnOp.not 4 (Operand.tmp 48), type := 4, pos := "law.go:73", after := #[{ on := 11, ground := Ground.data }, { on := 1, ground := Ground.guard }], guard := some (1, true) }) (v := ?_) rfl (by kernel_rfl) (by kernel_rfl) (by kernel_rfl) (by kernel_rfl) (fun _ _ _ h => h) (Or.inl ⟨by rfl, fun w _ => ?_⟩) ?_
  rotate_left
  · (go_simp; first | done | with_reducible rfl)
  try simp only [Act.put, List.setIfInBounds_toArray, List.set_cons_zero, List.set_cons_succ]
  refine wpAnyW_take (i := 13) (oi := { dst := some 50, op := Op.pick (Operand.tmp 38) (Operand.tmp 49) (Operand.const (Value.bool false)), type := 4, pos := "law.go:73", after := #[{ on := 1, ground := Ground.data }, { on := 12, ground := Ground.data }], guard := none }) (v := ?_) rfl (by kernel_rfl) (by kernel_rfl) (by kernel_rfl) (by kernel_rfl) (fun _ _ _ h => h) (Or.inl ⟨by rfl, fun w _ => ?_⟩) ?_
  rotate_left
  · (go_simp; first | done | with_reducible rfl)
  try simp only [Act.put, List.setIfInBounds_toArray, List.set_cons_zero, List.set_cons_succ]
  refine wpAnyW_take (i := 14) (oi := { dst := some 51, op := Op.move (Operand.tmp 50), type := 4, pos := "law.go:73", after := #[{ on := 13, ground := Ground.data }, { on := 11, ground := Ground.chain }], guard := none }) (v := ?_) rfl (by kernel_rfl) (by kernel_rfl) (by kernel_rfl) (by kernel_rfl) (fun _ _ _ h => h) (Or.inl ⟨by rfl, fun w _ => ?_⟩) ?_
  rotate_left
  · (go_simp; first | done | with_reducible rfl)
  try simp only [Act.put, List.setIfInBounds_toArray, List.set_cons_zero, List.set_cons_succ]
  refine wpAnyW_take (i := 15) (oi := { dst := some 52, op := Op.move (Operand.tmp 7), type := 4, pos := "law.go:73", after := #[{ on := 14, ground := Ground.guard }], guard := some (14, false) }) (v := ?_) rfl (by kernel_rfl) (by kernel_rfl) (by kernel_rfl) (by kernel_rfl) (fun _ _ _ h => h) (Or.inl ⟨by rfl, fun w _ => ?_⟩) ?_
  rotate_left
  · (go_simp; first | done | with_reducible rfl)
  try simp only [Act.put, List.setIfInBounds_toArray, List.set_cons_zero, List.set_cons_succ]
  refine wpAnyW_take (i := 16) (oi := { dst := some 53, op := Op.unOp UnOp.not 4 (Operand.tmp 52), type := 4, pos := "law.go:73", after := #[{ on := 15, ground := Ground.data }, { on := 14, ground := Ground.guard }], guard := some (14, false) }) (v := ?_) rfl (by kernel_rfl) (by kernel_rfl) (by kernel_rfl) (by kernel_rfl) (fun _ _ _ h => h) (Or.inl ⟨by rfl, fun w _ => ?_⟩) ?_
  rotate_left
  · (go_simp; first | done | with_reducible rfl)
  try simp only [Act.put, List.setIfInBounds_toArray, List.set_cons_zero, List.set_cons_succ]
  refine wpAnyW_take (i := 17) (oi := { dst := some 54, op := Op.move (Operand.tmp 53), type := 4, pos := "law.go:73", after := #[{ on := 16, ground := Ground.data }, { on := 14, ground := Ground.chain }, { on := 14, ground := Ground.guard }], guard := some (14, false) }) (v := ?_) rfl (by kernel_rfl) (by kernel_rfl) (by kernel_rfl) (by kernel_rfl) (fun _ _ _ h => h) (Or.inl ⟨by rfl, fun w _ => ?_⟩) ?_
  rotate_left
  · (go_simp; first | done | with_reducible rfl)
  try simp only [Act.put, List.setIfInBounds_toArray, List.set_cons_zero, List.set_cons_succ]
  refine wpAnyW_take (i := 18) (oi := { dst := some 55, op := Op.move (Operand.tmp 0), type := 25, pos := "law.go:73", after := #[{ on := 17, ground := Ground.guard }], guard := some (17, true) }) (v := undef) rfl (by kernel_rfl) (by kernel_rfl) (by kernel_rfl) (by kernel_rfl) (fun _ _ _ h => h) (Or.inr ⟨by rfl, rfl⟩) ?_
  try simp only [Act.put, List.setIfInBounds_toArray, List.set_cons_zero, List.set_cons_succ]
  refine wpAnyW_take (i := 19) (oi := { dst := some 56, op := Op.move (Operand.tmp 2), type := 3, pos := "law.go:73", after := #[{ on := 17, ground := Ground.guard }], guard := some (17, true) }) (v := undef) rfl (by kernel_rfl) (by kernel_rfl) (by kernel_rfl) (by kernel_rfl) (fun _ _ _ h => h) (Or.inr ⟨by rfl, rfl⟩) ?_
  try simp only [Act.put, List.setIfInBounds_toArray, List.set_cons_zero, List.set_cons_succ]
  refine wpAnyW_take (i := 20) (oi := { dst := some 57, op := Op.call { callee := Callee.value (Operand.func 20), args := #[Operand.tmp 55, Operand.tmp 56], argTypes := #[25, 3] }, type := 37, pos := "law.go:73", after := #[{ on := 18, ground := Ground.data }, { on := 19, ground := Ground.data }, { on := 17, ground := Ground.chain }, { on := 17, ground := Ground.guard }], guard := some (17, true) }) (v := undef) rfl (by kernel_rfl) (by kernel_rfl) (by kernel_rfl) (by kernel_rfl) (fun _ _ _ h => h) (Or.inr ⟨by rfl, rfl⟩) ?_
  try simp only [Act.put, List.setIfInBounds_toArray, List.set_cons_zero, List.set_cons_succ]
  refine wpAnyW_take (i := 21) (oi := { dst := some 58, op := Op.call { callee := Callee.builtin Builtin.len, args := #[Operand.tmp 57], argTypes := #[37] }, type := 3, pos := "law.go:73", after := #[{ on := 20, ground := Ground.data }, { on := 17, ground := Ground.guard }], guard := some (17, true) }) (v := undef) rfl (by kernel_rfl) (by kernel_rfl) (by kernel_rfl) (by kernel_rfl) (fun _ _ _ h => h) (Or.inr ⟨by rfl, rfl⟩) ?_
  try simp only [Act.put, List.setIfInBounds_toArray, List.set_cons_zero, List.set_cons_succ]
  refine wpAnyW_take (i := 22) (oi := { dst := some 59, op := Op.binOp BinOp.neq 3 (Operand.tmp 58) (Operand.const (Value.int IntKind.i64 0)) 3, type := 4, pos := "law.go:73", after := #[{ on := 21, ground := Ground.data }, { on := 17, ground := Ground.guard }], guard := some (17, true) }) (v := undef) rfl (by kernel_rfl) (by kernel_rfl) (by kernel_rfl) (by kernel_rfl) (fun _ _ _ h => h) (Or.inr ⟨by rfl, rfl⟩) ?_
  try simp only [Act.put, List.setIfInBounds_toArray, List.set_cons_zero, List.set_cons_succ]
  refine wpAnyW_take (i := 23) (oi := { dst := some 60, op := Op.pick (Operand.tmp 54) (Operand.tmp 59) (Operand.const (Value.bool false)), type := 4, pos := "law.go:73", after := #[{ on := 17, ground := Ground.data }, { on := 22, ground := Ground.data }, { on := 14, ground := Ground.guard }], guard := some (14, false) }) (v := ?_) rfl (by kernel_rfl) (by kernel_rfl) (by kernel_rfl) (by kernel_rfl) (fun _ _ _ h => h) (Or.inl ⟨by rfl, fun w _ => ?_⟩) ?_
  rotate_left
  · (go_simp; first | done | with_reducible rfl)
  try simp only [Act.put, List.setIfInBounds_toArray, List.set_cons_zero, List.set_cons_succ]
  refine wpAnyW_take (i := 24) (oi := { dst := some 61, op := Op.pick (Operand.tmp 51) (Operand.const (Value.bool true)) (Operand.tmp 60), type := 4, pos := "law.go:73", after := #[{ on := 14, ground := Ground.data }, { on := 23, ground := Ground.data }], guard := none }) (v := ?_) rfl (by kernel_rfl) (by kernel_rfl) (by kernel_rfl) (by kernel_rfl) (fun _ _ _ h => h) (Or.inl ⟨by rfl, fun w _ => ?_⟩) ?_
  rotate_left
  · (go_simp; first | done | with_reducible rfl)
  try simp only [Act.put, List.setIfInBounds_toArray, List.set_cons_zero, List.set_cons_succ]
  refine wpAnyW_done (by kernel_rfl) ?_ _
  obtain ⟨p0, p1, p2, pl⟩ := box3 (HBP0.out.bw HB6.out)
  have HBX := hid (HB0.out.trans HB6.out)
  go_wp2_with (first
    | (go_at_call 27; refine (rVersions_any (HW.out.rs.bw HBX.out) (n : Int)).mono ?_; rw [HEQ.out, HC.out, HLI.out]; rintro e w7 ⟨rfl, hb7⟩; have HB7 := hid (HBX.out.trans hb7); clear hb7)
    | (go_at_call 18; refine (Versions_any (HW.out.ms.ds.bw HB7.out) (n : Int)).mono ?_; rw [HF.out, HC.out]; rintro e w8 ⟨he, hb8⟩; obtain rfl : e = .returned (.tuple #[.int .i64 0, .int .i64 1]) := he; have HB8 := hid (HB7.out.trans hb8); clear hb8)
    | (go_at_call 19; refine (Of_any (HW.out.ms.ds.bw HB8.out) (n : Int)).mono ?_; rw [HOF.out]; rintro e w9 ⟨rfl, hb9⟩; have HB9 := hid (HB8.out.trans hb9); clear hb9)
    | (go_at_call 12; refine (num_any _ _).mono ?_; rintro e wa ⟨rfl, hwa⟩; subst wa)
    | fail)
  all_goals go_ret
  all_goals exact ⟨rfl, HB9.out⟩

set_option maxRecDepth 100000 in
set_option maxHeartbeats 2000000 in
theorem asks_hnone (h : PW w0 wr p bs F G rv L v LR k B) (n : Nat) (hnl : n < LR.length) (hF : n < F) (hal : all (vof (n : Int)) (L.map Prod.fst) = []) : Calls Try.prog 14 #[.pointer (some ⟨p, 0, none⟩), rV F G v, .int .i64 (n : Int)] wr fun e w' => e = .returned (.bool true) ∧ Bw wr w' := by
  unfold rV
  obtain ⟨av, cv, ev⟩ := h.rs.form
  subst ev
  have HW := hid h
  have HEQ := hid h.eq
  have hll : LR.length = L.length := by have := congrArg List.length h.eq; simpa using this
  have hlm : (L.map Prod.fst).length = L.length := by simp
  have HLL := hid hll
  have hlk := h.rs.big.1
  have hnL : n < L.length := by omega
  obtain ⟨b, o, e, hlb, t0, t1, t2⟩ := h.rs.at hnl
  subst e
  have hKn : LR[n].1 = L[n].1 := by
    have := congrArg (·[n]?) h.eq
    simp only [List.getElem?_map, List.getElem?_eq_getElem hnl, List.getElem?_eq_getElem hnL, Option.map_some, Option.some.injEq] at this
    exact this
  have hvl : validL (L.map Prod.fst) n = LR[n].1.ok := by rw [validL_nat (by simpa using hnL), hKn]; simp
  have HQL := hid (show L[n].1.on = LR[n].1.on by rw [hKn])
  have HQS := hid (h.rs.ons _ (List.getElem_mem hnl))
  have hbg := h.rs.big.2 _ (List.getElem_mem hnl)
  have HQE0 := hid (show LR[n].2 = LR[n].2 from rfl)
  obtain ⟨l1, hl1⟩ : ∃ l1, LR[n].1.on = l1 := ⟨_, rfl⟩
  obtain ⟨u1, hu1⟩ : ∃ u1, LR[n].2 = u1 := ⟨_, rfl⟩
  obtain ⟨ok, hok⟩ : ∃ ok, LR[n].1.ok = ok := ⟨_, rfl⟩
  rw [hl1, hu1] at HQS
  rw [hl1] at HQL hbg
  rw [hu1] at t1
  rw [hok] at t2 hvl
  obtain ⟨a1, c1, e1⟩ := HQS.out.form
  subst e1
  have HQE := hid hu1
  have z0 : decide ((0 : Int) ≤ (n : Int)) = true := decide_eq_true (by omega)
  have z1 : decide ((n : Int) < (LR.length : Int)) = true := decide_eq_true (by omega)
  have z2 : n < LR.length := hnl
  have z3 : (ok != ok) = false := by simp
  clear t0 t1 hKn hl1 hu1 hok HQE0
  have HV := hid (Valid_any (h.ms.ds.bw (Bw.alloc (Bw.refl wr) (.cells #[.int .i64 F, .int .i64 G, .slice (some ⟨b, o, none⟩) LR.length cv] 31))) (n : Int))
  rw [hvl] at HV
  obtain ⟨C, hC⟩ : ∃ C : Nat, cnt (n : Int) (L.map Prod.fst) = C := ⟨_, rfl⟩
  have HC := hid hC
  have zC : ((C : Int) != (C : Int)) = false := by simp
  have HF := hid (show oneOf (n : Int) F = true from oneOf_yes (by omega) (by omega))
  have z5 : decide ((n : Int) < (F : Int)) = true := decide_eq_true (by omega)
  have z6 : n < F := by omega
  have HOF := hid (show ofL (L.map Prod.fst) (n : Int) = .tuple #[.int .i64 0, .bool false] by unfold ofL; rw [hal])
  have HLI := hid (show lastI (all (vof (n : Int)) (L.map Prod.fst)) = -1 by rw [hal]; rfl)
  clear hal
  clear h hvl hC hlm hll
  go_enter Try.func14, Try.ntmps14
  go_wp2_with (first
    | (go_at_call 15; refine HV.out.mono ?_; rintro e w4 ⟨rfl, hw4⟩; subst w4)
    | fail)
  refine wp_region_W (fun w' => w'.cell? ⟨wr.heap.size, 2, none⟩ = some (.slice (some ⟨b, o, none⟩) LR.length cv) ∧ w'.cell? ⟨b, o + n * 3 + 1, none⟩ = some (.slice a1 l1.length c1)) (fun j => if j == 4 || j == 11 then 0 else 1) (by kernel_rfl) ?_
  have hb0 : Bw wr (wr.alloc (.cells #[.int .i64 F, .int .i64 G, .slice (some ⟨b, o, none⟩) LR.length cv] 31)).drew := Bw.drew (Bw.alloc (Bw.refl _) _)
  have bp : Blk (wr.alloc (.cells #[.int .i64 F, .int .i64 G, .slice (some ⟨b, o, none⟩) LR.length cv] 31)).drew wr.heap.size #[.int .i64 F, .int .i64 G, .slice (some ⟨b, o, none⟩) LR.length cv] 31 := Blk.drewN (Blk.new wr _ _) 1
  generalize hW0 : (wr.alloc (.cells #[.int .i64 F, .int .i64 G, .slice (some ⟨b, o, none⟩) LR.length cv] 31)).drew = W0 at hb0 bp
  have HB0 := hid hb0
  have HBP0 := hid bp
  have hS := hid (show ∀ W', Bw W0 W' → (W'.cell? ⟨wr.heap.size, 2, none⟩ = some (.slice (some ⟨b, o, none⟩) LR.length cv) ∧ W'.cell? ⟨b, o + n * 3 + 1, none⟩ = some (.slice a1 l1.length c1)) from fun W' hb => ⟨(bp.bw hb).cell 2, by have := ((HW.out.rs.bw (HB0.out.trans hb)).at hnl); obtain ⟨b', o', e', _, _, t1, _⟩ := this; cases e'; rw [t1, HQE.out]⟩)
  clear hb0 hW0 bp
  refine wpAnyW_take (i := 0) (oi := { dst := some 37, op := Op.move (Operand.tmp 7), type := 4, pos := "law.go:73", after := #[], guard := none }) (v := ?_) rfl (by kernel_rfl) (by kernel_rfl) (by kernel_rfl) (by kernel_rfl) (fun _ _ _ h => h) (Or.inl ⟨by rfl, fun w _ => ?_⟩) ?_
  rotate_left
  · (go_simp; first | done | with_reducible rfl)
  try simp only [Act.put, List.setIfInBounds_toArray, List.set_cons_zero, List.set_cons_succ]
  refine wpAnyW_take (i := 1) (oi := { dst := some 38, op := Op.move (Operand.tmp 37), type := 4, pos := "law.go:73", after := #[{ on := 0, ground := Ground.data }], guard := none }) (v := ?_) rfl (by kernel_rfl) (by kernel_rfl) (by kernel_rfl) (by kernel_rfl) (fun _ _ _ h => h) (Or.inl ⟨by rfl, fun w _ => ?_⟩) ?_
  rotate_left
  · (go_simp; first | done | with_reducible rfl)
  try simp only [Act.put, List.setIfInBounds_toArray, List.set_cons_zero, List.set_cons_succ]
  refine wpAnyW_take (i := 2) (oi := { dst := some 39, op := Op.move (Operand.tmp 0), type := 25, pos := "law.go:73", after := #[{ on := 1, ground := Ground.guard }], guard := some (1, true) }) (v := ?_) rfl (by kernel_rfl) (by kernel_rfl) (by kernel_rfl) (by kernel_rfl) (fun _ _ _ h => h) (Or.inl ⟨by rfl, fun w _ => ?_⟩) ?_
  rotate_left
  · (go_simp; first | done | with_reducible rfl)
  try simp only [Act.put, List.setIfInBounds_toArray, List.set_cons_zero, List.set_cons_succ]
  refine wpAnyW_take (i := 3) (oi := { dst := some 40, op := Op.move (Operand.tmp 2), type := 3, pos := "law.go:73", after := #[{ on := 1, ground := Ground.guard }], guard := some (1, true) }) (v := ?_) rfl (by kernel_rfl) (by kernel_rfl) (by kernel_rfl) (by kernel_rfl) (fun _ _ _ h => h) (Or.inl ⟨by rfl, fun w _ => ?_⟩) ?_
  rotate_left
  · (go_simp; first | done | with_reducible rfl)
  try simp only [Act.put, List.setIfInBounds_toArray, List.set_cons_zero, List.set_cons_succ]
  refine wpAnyW_take (i := 5) (oi := { dst := some 42, op := Op.fieldAddr 31 (Operand.tmp 4) 2, type := 0, pos := "law.go:73", after := #[{ on := 1, ground := Ground.guard }], guard := some (1, true) }) (v := ?_) rfl (by kernel_rfl) (by kernel_rfl) (by kernel_rfl) (by kernel_rfl) (fun _ _ _ h => h) (Or.inl ⟨by rfl, fun w _ => ?_⟩) ?_
  rotate_left
  · (go_simp; first | done | with_reducible rfl)
  try simp only [Act.put, List.setIfInBounds_toArray, List.set_cons_zero, List.set_cons_succ]
  refine wpAnyW_load (i := 6) (oi := { dst := some 43, op := Op.load 29 (Operand.tmp 42), type := 29, pos := "law.go:73", after := #[{ on := 5, ground := Ground.data }, { on := 1, ground := Ground.guard }], guard := some (1, true) }) (v := ?_) rfl (by kernel_rfl) (by kernel_rfl) (by kernel_rfl) (by kernel_rfl) (by kernel_rfl) (fun _ _ _ h => h) (Or.inl ⟨by rfl, fun w hS => ?_⟩) (hS.out _ (Bw.refl _)) ?_
  rotate_left
  · (obtain ⟨s1, s2⟩ := hS; go_simp; first | done | with_reducible rfl)
  try simp only [Act.put, List.setIfInBounds_toArray, List.set_cons_zero, List.set_cons_succ]
  refine wpAnyW_take (i := 7) (oi := { dst := some 44, op := Op.move (Operand.tmp 2), type := 3, pos := "law.go:73", after := #[{ on := 1, ground := Ground.guard }], guard := some (1, true) }) (v := ?_) rfl (by kernel_rfl) (by kernel_rfl) (by kernel_rfl) (by kernel_rfl) (fun _ _ _ h => h) (Or.inl ⟨by rfl, fun w _ => ?_⟩) ?_
  rotate_left
  · (go_simp; first | done | with_reducible rfl)
  try simp only [Act.put, List.setIfInBounds_toArray, List.set_cons_zero, List.set_cons_succ]
  refine wpAnyW_take (i := 8) (oi := { dst := some 45, op := Op.indexAddr 29 (Operand.tmp 43) (Operand.tmp 44), type := 0, pos := "law.go:73", after := #[{ on := 6, ground := Ground.data }, { on := 7, ground := Ground.data }, { on := 1, ground := Ground.guard }], guard := some (1, true) }) (v := ?_) rfl (by kernel_rfl) (by kernel_rfl) (by kernel_rfl) (by kernel_rfl) (fun _ _ _ h => h) (Or.inl ⟨by rfl, fun w _ => ?_⟩) ?_
  rotate_left
  · (go_simp; first | done | with_reducible rfl)
  try simp only [Act.put, List.setIfInBounds_toArray, List.set_cons_zero, List.set_cons_succ]
  refine wpAnyW_take (i := 9) (oi := { dst := some 46, op := Op.fieldAddr 45 (Operand.tmp 45) 1, type := 0, pos := "law.go:73", after := #[{ on := 8, ground := Ground.data }, { on := 1, ground := Ground.guard }], guard := some (1, true) }) (v := ?_) rfl (by kernel_rfl) (by kernel_rfl) (by kernel_rfl) (by kernel_rfl) (fun _ _ _ h => h) (Or.inl ⟨by rfl, fun w _ => ?_⟩) ?_
  rotate_left
  · (go_simp; first | done | with_reducible rfl)
  try simp only [Act.put, List.setIfInBounds_toArray, List.set_cons_zero, List.set_cons_succ]
  refine wpAnyW_load (i := 10) (oi := { dst := some 47, op := Op.load 37 (Operand.tmp 46), type := 37, pos := "law.go:73", after := #[{ on := 9, ground := Ground.data }, { on := 1, ground := Ground.guard }], guard := some (1, true) }) (v := ?_) rfl (by kernel_rfl) (by kernel_rfl) (by kernel_rfl) (by kernel_rfl) (by kernel_rfl) (fun _ _ _ h => h) (Or.inl ⟨by rfl, fun w hS => ?_⟩) (hS.out _ (Bw.refl _)) ?_
  rotate_left
  · (obtain ⟨s1, s2⟩ := hS; go_simp; first | done | with_reducible rfl)
  try simp only [Act.put, List.setIfInBounds_toArray, List.set_cons_zero, List.set_cons_succ]
  refine wpAnyW_ready (rs := [4]) (by kernel_rfl) (by simp) ?_
  refine (AllReadyW.cons (o := { dst := some 41, op := Op.call { callee := Callee.value (Operand.func 20), args := #[Operand.tmp 39, Operand.tmp 40], argTypes := #[25, 3] }, type := 37, pos := "law.go:73", after := #[{ on := 2, ground := Ground.data }, { on := 3, ground := Ground.data }, { on := 1, ground := Ground.chain }, { on := 1, ground := Ground.guard }], guard := some (1, true) }) rfl (fun K hK => ?_) AllReadyW.nil)
  go_simp
  refine (On_any (HW.out.ms.ds.bw HB0.out) (n : Int)).mono ?_
  rintro e w5 ⟨r5, l5, rfl, ho5, hb5, hm5, _, hl5⟩
  have hl5 := hl5 n hnL rfl
  rw [HQL.out] at hl5
  rw [hl5] at ho5
  obtain ⟨a5, c5, e5⟩ := own_form ho5
  subst e5
  have HO5 := hid (own_sl (G := fun _ => True) ho5 (fun _ _ => trivial))
  have HB5 := hid hb5
  clear ho5 hb5
  refine hK.out _ _ (hS.out _ HB5.out) ?_
  clear hK K
  try simp only [Act.put, List.setIfInBounds_toArray, List.set_cons_zero, List.set_cons_succ]
  refine wpAnyW_ready (rs := [11]) (by kernel_rfl) (by simp) ?_
  refine (AllReadyW.cons (o := { dst := some 48, op := Op.call { callee := Callee.value (Operand.func 22), args := #[Operand.tmp 41, Operand.tmp 47], argTypes := #[37, 37] }, type := 4, pos := "law.go:73", after := #[{ on := 4, ground := Ground.data }, { on := 10, ground := Ground.data }, { on := 4, ground := Ground.chain }, { on := 1, ground := Ground.guard }], guard := some (1, true) }) rfl (fun K hK => ?_) AllReadyW.nil)
  go_simp
  refine (sameDeps_any _ _ l1 HO5.out (HQS.out.below (HB0.out.trans HB5.out)) (by omega)).mono ?_
  rintro e w6 ⟨rfl, hd6⟩
  have HB6 := hid (HB5.out.trans hd6.bw)
  clear hd6
  refine hK.out _ _ (hS.out _ HB6.out) ?_
  clear hK K
  try simp only [Act.put, List.setIfInBounds_toArray, List.set_cons_zero, List.set_cons_succ]
  refine wpAnyW_take (i := 12) (oi := { dst := some 49, op := Op.unOp UnOp.not 4 (Operand.tmp 48), type := 4, pos := "law.go:73", after := #[{ on := 11, ground := Ground.data }, { on := 1, ground := Ground.guard }], guard := some (1, true) }) (v := ?_) rfl (by kernel_rfl) (by kernel_rfl) (by kernel_rfl) (by kernel_rfl) (fun _ _ _ h => h) (Or.inl ⟨by rfl, fun w _ => ?_⟩) ?_
  rotate_left
  · (go_simp; first | done | with_reducible rfl)
  try simp only [Act.put, List.setIfInBounds_toArray, List.set_cons_zero, List.set_cons_succ]
  refine wpAnyW_take (i := 13) (oi := { dst := some 50, op := Op.pick (Operand.tmp 38) (Operand.tmp 49) (Operand.const (Value.bool false)), type := 4, pos := "law.go:73", after := #[{ on := 1, ground := Ground.data }, { on := 12, ground := Ground.data }], guard := none }) (v := ?_) rfl (by kernel_rfl) (by kernel_rfl) (by kernel_rfl) (by kernel_rfl) (fun _ _ _ h => h) (Or.inl ⟨by rfl, fun w _ => ?_⟩) ?_
  rotate_left
  · (go_simp; first | done | with_reducible rfl)
  try simp only [Act.put, List.setIfInBounds_toArray, List.set_cons_zero, List.set_cons_succ]
  refine wpAnyW_take (i := 14) (oi := { dst := some 51, op := Op.move (Operand.tmp 50), type := 4, pos := "law.go:73", after := #[{ on := 13, ground := Ground.data }, { on := 11, ground := Ground.chain }], guard := none }) (v := ?_) rfl (by kernel_rfl) (by kernel_rfl) (by kernel_rfl) (by kernel_rfl) (fun _ _ _ h => h) (Or.inl ⟨by rfl, fun w _ => ?_⟩) ?_
  rotate_left
  · (go_simp; first | done | with_reducible rfl)
  try simp only [Act.put, List.setIfInBounds_toArray, List.set_cons_zero, List.set_cons_succ]
  refine wpAnyW_take (i := 15) (oi := { dst := some 52, op := Op.move (Operand.tmp 7), type := 4, pos := "law.go:73", after := #[{ on := 14, ground := Ground.guard }], guard := some (14, false) }) (v := ?_) rfl (by kernel_rfl) (by kernel_rfl) (by kernel_rfl) (by kernel_rfl) (fun _ _ _ h => h) (Or.inl ⟨by rfl, fun w _ => ?_⟩) ?_
  rotate_left
  · (go_simp; first | done | with_reducible rfl)
  try simp only [Act.put, List.setIfInBounds_toArray, List.set_cons_zero, List.set_cons_succ]
  refine wpAnyW_take (i := 16) (oi := { dst := some 53, op := Op.unOp UnOp.not 4 (Operand.tmp 52), type := 4, pos := "law.go:73", after := #[{ on := 15, ground := Ground.data }, { on := 14, ground := Ground.guard }], guard := some (14, false) }) (v := ?_) rfl (by kernel_rfl) (by kernel_rfl) (by kernel_rfl) (by kernel_rfl) (fun _ _ _ h => h) (Or.inl ⟨by rfl, fun w _ => ?_⟩) ?_
  rotate_left
  · (go_simp; first | done | with_reducible rfl)
  try simp only [Act.put, List.setIfInBounds_toArray, List.set_cons_zero, List.set_cons_succ]
  refine wpAnyW_take (i := 17) (oi := { dst := some 54, op := Op.move (Operand.tmp 53), type := 4, pos := "law.go:73", after := #[{ on := 16, ground := Ground.data }, { on := 14, ground := Ground.chain }, { on := 14, ground := Ground.guard }], guard := some (14, false) }) (v := ?_) rfl (by kernel_rfl) (by kernel_rfl) (by kernel_rfl) (by kernel_rfl) (fun _ _ _ h => h) (Or.inl ⟨by rfl, fun w _ => ?_⟩) ?_
  rotate_left
  · (go_simp; first | done | with_reducible rfl)
  try simp only [Act.put, List.setIfInBounds_toArray, List.set_cons_zero, List.set_cons_succ]
  refine wpAnyW_take (i := 18) (oi := { dst := some 55, op := Op.move (Operand.tmp 0), type := 25, pos := "law.go:73", after := #[{ on := 17, ground := Ground.guard }], guard := some (17, true) }) (v := undef) rfl (by kernel_rfl) (by kernel_rfl) (by kernel_rfl) (by kernel_rfl) (fun _ _ _ h => h) (Or.inr ⟨by rfl, rfl⟩) ?_
  try simp only [Act.put, List.setIfInBounds_toArray, List.set_cons_zero, List.set_cons_succ]
  refine wpAnyW_take (i := 19) (oi := { dst := some 56, op := Op.move (Operand.tmp 2), type := 3, pos := "law.go:73", after := #[{ on := 17, ground := Ground.guard }], guard := some (17, true) }) (v := undef) rfl (by kernel_rfl) (by kernel_rfl) (by kernel_rfl) (by kernel_rfl) (fun _ _ _ h => h) (Or.inr ⟨by rfl, rfl⟩) ?_
  try simp only [Act.put, List.setIfInBounds_toArray, List.set_cons_zero, List.set_cons_succ]
  refine wpAnyW_take (i := 20) (oi := { dst := some 57, op := Op.call { callee := Callee.value (Operand.func 20), args := #[Operand.tmp 55, Operand.tmp 56], argTypes := #[25, 3] }, type := 37, pos := "law.go:73", after := #[{ on := 18, ground := Ground.data }, { on := 19, ground := Ground.data }, { on := 17, ground := Ground.chain }, { on := 17, ground := Ground.guard }], guard := some (17, true) }) (v := undef) rfl (by kernel_rfl) (by kernel_rfl) (by kernel_rfl) (by kernel_rfl) (fun _ _ _ h => h) (Or.inr ⟨by rfl, rfl⟩) ?_
  try simp only [Act.put, List.setIfInBounds_toArray, List.set_cons_zero, List.set_cons_succ]
  refine wpAnyW_take (i := 21) (oi := { dst := some 58, op := Op.call { callee := Callee.builtin Builtin.len, args := #[Operand.tmp 57], argTypes := #[37] }, type := 3, pos := "law.go:73", after := #[{ on := 20, ground := Ground.data }, { on := 17, ground := Ground.guard }], guard := some (17, true) }) (v := undef) rfl (by kernel_rfl) (by kernel_rfl) (by kernel_rfl) (by kernel_rfl) (fun _ _ _ h => h) (Or.inr ⟨by rfl, rfl⟩) ?_
  try simp only [Act.put, List.setIfInBounds_toArray, List.set_cons_zero, List.set_cons_succ]
  refine wpAnyW_take (i := 22) (oi := { dst := some 59, op := Op.binOp BinOp.neq 3 (Operand.tmp 58) (Operand.const (Value.int IntKind.i64 0)) 3, type := 4, pos := "law.go:73", after := #[{ on := 21, ground := Ground.data }, { on := 17, ground := Ground.guard }], guard := some (17, true) }) (v := undef) rfl (by kernel_rfl) (by kernel_rfl) (by kernel_rfl) (by kernel_rfl) (fun _ _ _ h => h) (Or.inr ⟨by rfl, rfl⟩) ?_
  try simp only [Act.put, List.setIfInBounds_toArray, List.set_cons_zero, List.set_cons_succ]
  refine wpAnyW_take (i := 23) (oi := { dst := some 60, op := Op.pick (Operand.tmp 54) (Operand.tmp 59) (Operand.const (Value.bool false)), type := 4, pos := "law.go:73", after := #[{ on := 17, ground := Ground.data }, { on := 22, ground := Ground.data }, { on := 14, ground := Ground.guard }], guard := some (14, false) }) (v := ?_) rfl (by kernel_rfl) (by kernel_rfl) (by kernel_rfl) (by kernel_rfl) (fun _ _ _ h => h) (Or.inl ⟨by rfl, fun w _ => ?_⟩) ?_
  rotate_left
  · (go_simp; first | done | with_reducible rfl)
  try simp only [Act.put, List.setIfInBounds_toArray, List.set_cons_zero, List.set_cons_succ]
  refine wpAnyW_take (i := 24) (oi := { dst := some 61, op := Op.pick (Operand.tmp 51) (Operand.const (Value.bool true)) (Operand.tmp 60), type := 4, pos := "law.go:73", after := #[{ on := 14, ground := Ground.data }, { on := 23, ground := Ground.data }], guard := none }) (v := ?_) rfl (by kernel_rfl) (by kernel_rfl) (by kernel_rfl) (by kernel_rfl) (fun _ _ _ h => h) (Or.inl ⟨by rfl, fun w _ => ?_⟩) ?_
  rotate_left
  · (go_simp; first | done | with_reducible rfl)
  try simp only [Act.put, List.setIfInBounds_toArray, List.set_cons_zero, List.set_cons_succ]
  refine wpAnyW_done (by kernel_rfl) ?_ _
  obtain ⟨p0, p1, p2, pl⟩ := box3 (HBP0.out.bw HB6.out)
  have HBX := hid (HB0.out.trans HB6.out)
  go_wp2_with (first
    | (go_at_call 27; refine (rVersions_any (HW.out.rs.bw HBX.out) (n : Int)).mono ?_; rw [HEQ.out, HC.out, HLI.out]; rintro e w7 ⟨rfl, hb7⟩; have HB7 := hid (HBX.out.trans hb7); clear hb7)
    | (go_at_call 18; refine (Versions_any (HW.out.ms.ds.bw HB7.out) (n : Int)).mono ?_; rw [HF.out, HC.out]; rintro e w8 ⟨he, hb8⟩; obtain rfl : e = .returned (.tuple #[.int .i64 (C : Nat), .int .i64 0]) := he; have HB8 := hid (HB7.out.trans hb8); clear hb8)
    | (go_at_call 19; refine (Of_any (HW.out.ms.ds.bw HB8.out) (n : Int)).mono ?_; rw [HOF.out]; rintro e w9 ⟨rfl, hb9⟩; have HB9 := hid (HB8.out.trans hb9); clear hb9)
    | (go_at_call 12; refine (num_any _ _).mono ?_; rintro e wa ⟨rfl, hwa⟩; subst wa)
    | fail)
  all_goals go_ret
  all_goals exact ⟨rfl, HB9.out⟩

set_option maxRecDepth 100000 in
set_option maxHeartbeats 2000000 in
theorem asks_hsome (h : PW w0 wr p bs F G rv L v LR k B) (n : Nat) (hnl : n < LR.length) (hF : n < F) (i : Nat) (hal : all (vof (n : Int)) (L.map Prod.fst) = [i]) : Calls Try.prog 14 #[.pointer (some ⟨p, 0, none⟩), rV F G v, .int .i64 (n : Int)] wr fun e w' => e = .returned (.bool true) ∧ Bw wr w' := by
  unfold rV
  obtain ⟨av, cv, ev⟩ := h.rs.form
  subst ev
  have HW := hid h
  have HEQ := hid h.eq
  have hll : LR.length = L.length := by have := congrArg List.length h.eq; simpa using this
  have hlm : (L.map Prod.fst).length = L.length := by simp
  have HLL := hid hll
  have hlk := h.rs.big.1
  have hnL : n < L.length := by omega
  obtain ⟨b, o, e, hlb, t0, t1, t2⟩ := h.rs.at hnl
  subst e
  have hKn : LR[n].1 = L[n].1 := by
    have := congrArg (·[n]?) h.eq
    simp only [List.getElem?_map, List.getElem?_eq_getElem hnl, List.getElem?_eq_getElem hnL, Option.map_some, Option.some.injEq] at this
    exact this
  have hvl : validL (L.map Prod.fst) n = LR[n].1.ok := by rw [validL_nat (by simpa using hnL), hKn]; simp
  have HQL := hid (show L[n].1.on = LR[n].1.on by rw [hKn])
  have HQS := hid (h.rs.ons _ (List.getElem_mem hnl))
  have hbg := h.rs.big.2 _ (List.getElem_mem hnl)
  have HQE0 := hid (show LR[n].2 = LR[n].2 from rfl)
  obtain ⟨l1, hl1⟩ : ∃ l1, LR[n].1.on = l1 := ⟨_, rfl⟩
  obtain ⟨u1, hu1⟩ : ∃ u1, LR[n].2 = u1 := ⟨_, rfl⟩
  obtain ⟨ok, hok⟩ : ∃ ok, LR[n].1.ok = ok := ⟨_, rfl⟩
  rw [hl1, hu1] at HQS
  rw [hl1] at HQL hbg
  rw [hu1] at t1
  rw [hok] at t2 hvl
  obtain ⟨a1, c1, e1⟩ := HQS.out.form
  subst e1
  have HQE := hid hu1
  have z0 : decide ((0 : Int) ≤ (n : Int)) = true := decide_eq_true (by omega)
  have z1 : decide ((n : Int) < (LR.length : Int)) = true := decide_eq_true (by omega)
  have z2 : n < LR.length := hnl
  have z3 : (ok != ok) = false := by simp
  clear t0 t1 hKn hl1 hu1 hok HQE0
  have HV := hid (Valid_any (h.ms.ds.bw (Bw.alloc (Bw.refl wr) (.cells #[.int .i64 F, .int .i64 G, .slice (some ⟨b, o, none⟩) LR.length cv] 31))) (n : Int))
  rw [hvl] at HV
  obtain ⟨C, hC⟩ : ∃ C : Nat, cnt (n : Int) (L.map Prod.fst) = C := ⟨_, rfl⟩
  have HC := hid hC
  have zC : ((C : Int) != (C : Int)) = false := by simp
  have HF := hid (show oneOf (n : Int) F = true from oneOf_yes (by omega) (by omega))
  have z5 : decide ((n : Int) < (F : Int)) = true := decide_eq_true (by omega)
  have z6 : n < F := by omega
  have HOF := hid (show ofL (L.map Prod.fst) (n : Int) = .tuple #[.int .i64 (i : Nat), .bool true] by unfold ofL; rw [hal])
  have HLI := hid (show lastI (all (vof (n : Int)) (L.map Prod.fst)) = (i : Nat) by rw [hal]; rfl)
  have zi : ((i : Int) == (i : Int)) = true := by simp
  have zj : decide ((0 : Int) ≤ (i : Int)) = true := decide_eq_true (by omega)
  clear hal
  clear h hvl hC hlm hll
  go_enter Try.func14, Try.ntmps14
  go_wp2_with (first
    | (go_at_call 15; refine HV.out.mono ?_; rintro e w4 ⟨rfl, hw4⟩; subst w4)
    | fail)
  refine wp_region_W (fun w' => w'.cell? ⟨wr.heap.size, 2, none⟩ = some (.slice (some ⟨b, o, none⟩) LR.length cv) ∧ w'.cell? ⟨b, o + n * 3 + 1, none⟩ = some (.slice a1 l1.length c1)) (fun j => if j == 4 || j == 11 then 0 else 1) (by kernel_rfl) ?_
  have hb0 : Bw wr (wr.alloc (.cells #[.int .i64 F, .int .i64 G, .slice (some ⟨b, o, none⟩) LR.length cv] 31)).drew := Bw.drew (Bw.alloc (Bw.refl _) _)
  have bp : Blk (wr.alloc (.cells #[.int .i64 F, .int .i64 G, .slice (some ⟨b, o, none⟩) LR.length cv] 31)).drew wr.heap.size #[.int .i64 F, .int .i64 G, .slice (some ⟨b, o, none⟩) LR.length cv] 31 := Blk.drewN (Blk.new wr _ _) 1
  generalize hW0 : (wr.alloc (.cells #[.int .i64 F, .int .i64 G, .slice (some ⟨b, o, none⟩) LR.length cv] 31)).drew = W0 at hb0 bp
  have HB0 := hid hb0
  have HBP0 := hid bp
  have hS := hid (show ∀ W', Bw W0 W' → (W'.cell? ⟨wr.heap.size, 2, none⟩ = some (.slice (some ⟨b, o, none⟩) LR.length cv) ∧ W'.cell? ⟨b, o + n * 3 + 1, none⟩ = some (.slice a1 l1.length c1)) from fun W' hb => ⟨(bp.bw hb).cell 2, by have := ((HW.out.rs.bw (HB0.out.trans hb)).at hnl); obtain ⟨b', o', e', _, _, t1, _⟩ := this; cases e'; rw [t1, HQE.out]⟩)
  clear hb0 hW0 bp
  refine wpAnyW_take (i := 0) (oi := { dst := some 37, op := Op.move (Operand.tmp 7), type := 4, pos := "law.go:73", after := #[], guard := none }) (v := ?_) rfl (by kernel_rfl) (by kernel_rfl) (by kernel_rfl) (by kernel_rfl) (fun _ _ _ h => h) (Or.inl ⟨by rfl, fun w _ => ?_⟩) ?_
  rotate_left
  · (go_simp; first | done | with_reducible rfl)
  try simp only [Act.put, List.setIfInBounds_toArray, List.set_cons_zero, List.set_cons_succ]
  refine wpAnyW_take (i := 1) (oi := { dst := some 38, op := Op.move (Operand.tmp 37), type := 4, pos := "law.go:73", after := #[{ on := 0, ground := Ground.data }], guard := none }) (v := ?_) rfl (by kernel_rfl) (by kernel_rfl) (by kernel_rfl) (by kernel_rfl) (fun _ _ _ h => h) (Or.inl ⟨by rfl, fun w _ => ?_⟩) ?_
  rotate_left
  · (go_simp; first | done | with_reducible rfl)
  try simp only [Act.put, List.setIfInBounds_toArray, List.set_cons_zero, List.set_cons_succ]
  refine wpAnyW_take (i := 2) (oi := { dst := some 39, op := Op.move (Operand.tmp 0), type := 25, pos := "law.go:73", after := #[{ on := 1, ground := Ground.guard }], guard := some (1, true) }) (v := ?_) rfl (by kernel_rfl) (by kernel_rfl) (by kernel_rfl) (by kernel_rfl) (fun _ _ _ h => h) (Or.inl ⟨by rfl, fun w _ => ?_⟩) ?_
  rotate_left
  · (go_simp; first | done | with_reducible rfl)
  try simp only [Act.put, List.setIfInBounds_toArray, List.set_cons_zero, List.set_cons_succ]
  refine wpAnyW_take (i := 3) (oi := { dst := some 40, op := Op.move (Operand.tmp 2), type := 3, pos := "law.go:73", after := #[{ on := 1, ground := Ground.guard }], guard := some (1, true) }) (v := ?_) rfl (by kernel_rfl) (by kernel_rfl) (by kernel_rfl) (by kernel_rfl) (fun _ _ _ h => h) (Or.inl ⟨by rfl, fun w _ => ?_⟩) ?_
  rotate_left
  · (go_simp; first | done | with_reducible rfl)
  try simp only [Act.put, List.setIfInBounds_toArray, List.set_cons_zero, List.set_cons_succ]
  refine wpAnyW_take (i := 5) (oi := { dst := some 42, op := Op.fieldAddr 31 (Operand.tmp 4) 2, type := 0, pos := "law.go:73", after := #[{ on := 1, ground := Ground.guard }], guard := some (1, true) }) (v := ?_) rfl (by kernel_rfl) (by kernel_rfl) (by kernel_rfl) (by kernel_rfl) (fun _ _ _ h => h) (Or.inl ⟨by rfl, fun w _ => ?_⟩) ?_
  rotate_left
  · (go_simp; first | done | with_reducible rfl)
  try simp only [Act.put, List.setIfInBounds_toArray, List.set_cons_zero, List.set_cons_succ]
  refine wpAnyW_load (i := 6) (oi := { dst := some 43, op := Op.load 29 (Operand.tmp 42), type := 29, pos := "law.go:73", after := #[{ on := 5, ground := Ground.data }, { on := 1, ground := Ground.guard }], guard := some (1, true) }) (v := ?_) rfl (by kernel_rfl) (by kernel_rfl) (by kernel_rfl) (by kernel_rfl) (by kernel_rfl) (fun _ _ _ h => h) (Or.inl ⟨by rfl, fun w hS => ?_⟩) (hS.out _ (Bw.refl _)) ?_
  rotate_left
  · (obtain ⟨s1, s2⟩ := hS; go_simp; first | done | with_reducible rfl)
  try simp only [Act.put, List.setIfInBounds_toArray, List.set_cons_zero, List.set_cons_succ]
  refine wpAnyW_take (i := 7) (oi := { dst := some 44, op := Op.move (Operand.tmp 2), type := 3, pos := "law.go:73", after := #[{ on := 1, ground := Ground.guard }], guard := some (1, true) }) (v := ?_) rfl (by kernel_rfl) (by kernel_rfl) (by kernel_rfl) (by kernel_rfl) (fun _ _ _ h => h) (Or.inl ⟨by rfl, fun w _ => ?_⟩) ?_
  rotate_left
  · (go_simp; first | done | with_reducible rfl)
  try simp only [Act.put, List.setIfInBounds_toArray, List.set_cons_zero, List.set_cons_succ]
  refine wpAnyW_take (i := 8) (oi := { dst := some 45, op := Op.indexAddr 29 (Operand.tmp 43) (Operand.tmp 44), type := 0, pos := "law.go:73", after := #[{ on := 6, ground := Ground.data }, { on := 7, ground := Ground.data }, { on := 1, ground := Ground.guard }], guard := some (1, true) }) (v := ?_) rfl (by kernel_rfl) (by kernel_rfl) (by kernel_rfl) (by kernel_rfl) (fun _ _ _ h => h) (Or.inl ⟨by rfl, fun w _ => ?_⟩) ?_
  rotate_left
  · (go_simp; first | done | with_reducible rfl)
  try simp only [Act.put, List.setIfInBounds_toArray, List.set_cons_zero, List.set_cons_succ]
  refine wpAnyW_take (i := 9) (oi := { dst := some 46, op := Op.fieldAddr 45 (Operand.tmp 45) 1, type := 0, pos := "law.go:73", after := #[{ on := 8, ground := Ground.data }, { on := 1, ground := Ground.guard }], guard := some (1, true) }) (v := ?_) rfl (by kernel_rfl) (by kernel_rfl) (by kernel_rfl) (by kernel_rfl) (fun _ _ _ h => h) (Or.inl ⟨by rfl, fun w _ => ?_⟩) ?_
  rotate_left
  · (go_simp; first | done | with_reducible rfl)
  try simp only [Act.put, List.setIfInBounds_toArray, List.set_cons_zero, List.set_cons_succ]
  refine wpAnyW_load (i := 10) (oi := { dst := some 47, op := Op.load 37 (Operand.tmp 46), type := 37, pos := "law.go:73", after := #[{ on := 9, ground := Ground.data }, { on := 1, ground := Ground.guard }], guard := some (1, true) }) (v := ?_) rfl (by kernel_rfl) (by kernel_rfl) (by kernel_rfl) (by kernel_rfl) (by kernel_rfl) (fun _ _ _ h => h) (Or.inl ⟨by rfl, fun w hS => ?_⟩) (hS.out _ (Bw.refl _)) ?_
  rotate_left
  · (obtain ⟨s1, s2⟩ := hS; go_simp; first | done | with_reducible rfl)
  try simp only [Act.put, List.setIfInBounds_toArray, List.set_cons_zero, List.set_cons_succ]
  refine wpAnyW_ready (rs := [4]) (by kernel_rfl) (by simp) ?_
  refine (AllReadyW.cons (o := { dst := some 41, op := Op.call { callee := Callee.value (Operand.func 20), args := #[Operand.tmp 39, Operand.tmp 40], argTypes := #[25, 3] }, type := 37, pos := "law.go:73", after := #[{ on := 2, ground := Ground.data }, { on := 3, ground := Ground.data }, { on := 1, ground := Ground.chain }, { on := 1, ground := Ground.guard }], guard := some (1, true) }) rfl (fun K hK => ?_) AllReadyW.nil)
  go_simp
  refine (On_any (HW.out.ms.ds.bw HB0.out) (n : Int)).mono ?_
  rintro e w5 ⟨r5, l5, rfl, ho5, hb5, hm5, _, hl5⟩
  have hl5 := hl5 n hnL rfl
  rw [HQL.out] at hl5
  rw [hl5] at ho5
  obtain ⟨a5, c5, e5⟩ := own_form ho5
  subst e5
  have HO5 := hid (own_sl (G := fun _ => True) ho5 (fun _ _ => trivial))
  have HB5 := hid hb5
  clear ho5 hb5
  refine hK.out _ _ (hS.out _ HB5.out) ?_
  clear hK K
  try simp only [Act.put, List.setIfInBounds_toArray, List.set_cons_zero, List.set_cons_succ]
  refine wpAnyW_ready (rs := [11]) (by kernel_rfl) (by simp) ?_
  refine (AllReadyW.cons (o := { dst := some 48, op := Op.call { callee := Callee.value (Operand.func 22), args := #[Operand.tmp 41, Operand.tmp 47], argTypes := #[37, 37] }, type := 4, pos := "law.go:73", after := #[{ on := 4, ground := Ground.data }, { on := 10, ground := Ground.data }, { on := 4, ground := Ground.chain }, { on := 1, ground := Ground.guard }], guard := some (1, true) }) rfl (fun K hK => ?_) AllReadyW.nil)
  go_simp
  refine (sameDeps_any _ _ l1 HO5.out (HQS.out.below (HB0.out.trans HB5.out)) (by omega)).mono ?_
  rintro e w6 ⟨rfl, hd6⟩
  have HB6 := hid (HB5.out.trans hd6.bw)
  clear hd6
  refine hK.out _ _ (hS.out _ HB6.out) ?_
  clear hK K
  try simp only [Act.put, List.setIfInBounds_toArray, List.set_cons_zero, List.set_cons_succ]
  refine wpAnyW_take (i := 12) (oi := { dst := some 49, op := Op.unOp UnOp.not 4 (Operand.tmp 48), type := 4, pos := "law.go:73", after := #[{ on := 11, ground := Ground.data }, { on := 1, ground := Ground.guard }], guard := some (1, true) }) (v := ?_) rfl (by kernel_rfl) (by kernel_rfl) (by kernel_rfl) (by kernel_rfl) (fun _ _ _ h => h) (Or.inl ⟨by rfl, fun w _ => ?_⟩) ?_
  rotate_left
  · (go_simp; first | done | with_reducible rfl)
  try simp only [Act.put, List.setIfInBounds_toArray, List.set_cons_zero, List.set_cons_succ]
  refine wpAnyW_take (i := 13) (oi := { dst := some 50, op := Op.pick (Operand.tmp 38) (Operand.tmp 49) (Operand.const (Value.bool false)), type := 4, pos := "law.go:73", after := #[{ on := 1, ground := Ground.data }, { on := 12, ground := Ground.data }], guard := none }) (v := ?_) rfl (by kernel_rfl) (by kernel_rfl) (by kernel_rfl) (by kernel_rfl) (fun _ _ _ h => h) (Or.inl ⟨by rfl, fun w _ => ?_⟩) ?_
  rotate_left
  · (go_simp; first | done | with_reducible rfl)
  try simp only [Act.put, List.setIfInBounds_toArray, List.set_cons_zero, List.set_cons_succ]
  refine wpAnyW_take (i := 14) (oi := { dst := some 51, op := Op.move (Operand.tmp 50), type := 4, pos := "law.go:73", after := #[{ on := 13, ground := Ground.data }, { on := 11, ground := Ground.chain }], guard := none }) (v := ?_) rfl (by kernel_rfl) (by kernel_rfl) (by kernel_rfl) (by kernel_rfl) (fun _ _ _ h => h) (Or.inl ⟨by rfl, fun w _ => ?_⟩) ?_
  rotate_left
  · (go_simp; first | done | with_reducible rfl)
  try simp only [Act.put, List.setIfInBounds_toArray, List.set_cons_zero, List.set_cons_succ]
  refine wpAnyW_take (i := 15) (oi := { dst := some 52, op := Op.move (Operand.tmp 7), type := 4, pos := "law.go:73", after := #[{ on := 14, ground := Ground.guard }], guard := some (14, false) }) (v := ?_) rfl (by kernel_rfl) (by kernel_rfl) (by kernel_rfl) (by kernel_rfl) (fun _ _ _ h => h) (Or.inl ⟨by rfl, fun w _ => ?_⟩) ?_
  rotate_left
  · (go_simp; first | done | with_reducible rfl)
  try simp only [Act.put, List.setIfInBounds_toArray, List.set_cons_zero, List.set_cons_succ]
  refine wpAnyW_take (i := 16) (oi := { dst := some 53, op := Op.unOp UnOp.not 4 (Operand.tmp 52), type := 4, pos := "law.go:73", after := #[{ on := 15, ground := Ground.data }, { on := 14, ground := Ground.guard }], guard := some (14, false) }) (v := ?_) rfl (by kernel_rfl) (by kernel_rfl) (by kernel_rfl) (by kernel_rfl) (fun _ _ _ h => h) (Or.inl ⟨by rfl, fun w _ => ?_⟩) ?_
  rotate_left
  · (go_simp; first | done | with_reducible rfl)
  try simp only [Act.put, List.setIfInBounds_toArray, List.set_cons_zero, List.set_cons_succ]
  refine wpAnyW_take (i := 17) (oi := { dst := some 54, op := Op.move (Operand.tmp 53), type := 4, pos := "law.go:73", after := #[{ on := 16, ground := Ground.data }, { on := 14, ground := Ground.chain }, { on := 14, ground := Ground.guard }], guard := some (14, false) }) (v := ?_) rfl (by kernel_rfl) (by kernel_rfl) (by kernel_rfl) (by kernel_rfl) (fun _ _ _ h => h) (Or.inl ⟨by rfl, fun w _ => ?_⟩) ?_
  rotate_left
  · (go_simp; first | done | with_reducible rfl)
  try simp only [Act.put, List.setIfInBounds_toArray, List.set_cons_zero, List.set_cons_succ]
  refine wpAnyW_take (i := 18) (oi := { dst := some 55, op := Op.move (Operand.tmp 0), type := 25, pos := "law.go:73", after := #[{ on := 17, ground := Ground.guard }], guard := some (17, true) }) (v := undef) rfl (by kernel_rfl) (by kernel_rfl) (by kernel_rfl) (by kernel_rfl) (fun _ _ _ h => h) (Or.inr ⟨by rfl, rfl⟩) ?_
  try simp only [Act.put, List.setIfInBounds_toArray, List.set_cons_zero, List.set_cons_succ]
  refine wpAnyW_take (i := 19) (oi := { dst := some 56, op := Op.move (Operand.tmp 2), type := 3, pos := "law.go:73", after := #[{ on := 17, ground := Ground.guard }], guard := some (17, true) }) (v := undef) rfl (by kernel_rfl) (by kernel_rfl) (by kernel_rfl) (by kernel_rfl) (fun _ _ _ h => h) (Or.inr ⟨by rfl, rfl⟩) ?_
  try simp only [Act.put, List.setIfInBounds_toArray, List.set_cons_zero, List.set_cons_succ]
  refine wpAnyW_take (i := 20) (oi := { dst := some 57, op := Op.call { callee := Callee.value (Operand.func 20), args := #[Operand.tmp 55, Operand.tmp 56], argTypes := #[25, 3] }, type := 37, pos := "law.go:73", after := #[{ on := 18, ground := Ground.data }, { on := 19, ground := Ground.data }, { on := 17, ground := Ground.chain }, { on := 17, ground := Ground.guard }], guard := some (17, true) }) (v := undef) rfl (by kernel_rfl) (by kernel_rfl) (by kernel_rfl) (by kernel_rfl) (fun _ _ _ h => h) (Or.inr ⟨by rfl, rfl⟩) ?_
  try simp only [Act.put, List.setIfInBounds_toArray, List.set_cons_zero, List.set_cons_succ]
  refine wpAnyW_take (i := 21) (oi := { dst := some 58, op := Op.call { callee := Callee.builtin Builtin.len, args := #[Operand.tmp 57], argTypes := #[37] }, type := 3, pos := "law.go:73", after := #[{ on := 20, ground := Ground.data }, { on := 17, ground := Ground.guard }], guard := some (17, true) }) (v := undef) rfl (by kernel_rfl) (by kernel_rfl) (by kernel_rfl) (by kernel_rfl) (fun _ _ _ h => h) (Or.inr ⟨by rfl, rfl⟩) ?_
  try simp only [Act.put, List.setIfInBounds_toArray, List.set_cons_zero, List.set_cons_succ]
  refine wpAnyW_take (i := 22) (oi := { dst := some 59, op := Op.binOp BinOp.neq 3 (Operand.tmp 58) (Operand.const (Value.int IntKind.i64 0)) 3, type := 4, pos := "law.go:73", after := #[{ on := 21, ground := Ground.data }, { on := 17, ground := Ground.guard }], guard := some (17, true) }) (v := undef) rfl (by kernel_rfl) (by kernel_rfl) (by kernel_rfl) (by kernel_rfl) (fun _ _ _ h => h) (Or.inr ⟨by rfl, rfl⟩) ?_
  try simp only [Act.put, List.setIfInBounds_toArray, List.set_cons_zero, List.set_cons_succ]
  refine wpAnyW_take (i := 23) (oi := { dst := some 60, op := Op.pick (Operand.tmp 54) (Operand.tmp 59) (Operand.const (Value.bool false)), type := 4, pos := "law.go:73", after := #[{ on := 17, ground := Ground.data }, { on := 22, ground := Ground.data }, { on := 14, ground := Ground.guard }], guard := some (14, false) }) (v := ?_) rfl (by kernel_rfl) (by kernel_rfl) (by kernel_rfl) (by kernel_rfl) (fun _ _ _ h => h) (Or.inl ⟨by rfl, fun w _ => ?_⟩) ?_
  rotate_left
  · (go_simp; first | done | with_reducible rfl)
  try simp only [Act.put, List.setIfInBounds_toArray, List.set_cons_zero, List.set_cons_succ]
  refine wpAnyW_take (i := 24) (oi := { dst := some 61, op := Op.pick (Operand.tmp 51) (Operand.const (Value.bool true)) (Operand.tmp 60), type := 4, pos := "law.go:73", after := #[{ on := 14, ground := Ground.data }, { on := 23, ground := Ground.data }], guard := none }) (v := ?_) rfl (by kernel_rfl) (by kernel_rfl) (by kernel_rfl) (by kernel_rfl) (fun _ _ _ h => h) (Or.inl ⟨by rfl, fun w _ => ?_⟩) ?_
  rotate_left
  · (go_simp; first | done | with_reducible rfl)
  try simp only [Act.put, List.setIfInBounds_toArray, List.set_cons_zero, List.set_cons_succ]
  refine wpAnyW_done (by kernel_rfl) ?_ _
  obtain ⟨p0, p1, p2, pl⟩ := box3 (HBP0.out.bw HB6.out)
  have HBX := hid (HB0.out.trans HB6.out)
  go_wp2_with (first
    | (go_at_call 27; refine (rVersions_any (HW.out.rs.bw HBX.out) (n : Int)).mono ?_; rw [HEQ.out, HC.out, HLI.out]; rintro e w7 ⟨rfl, hb7⟩; have HB7 := hid (HBX.out.trans hb7); clear hb7)
    | (go_at_call 18; refine (Versions_any (HW.out.ms.ds.bw HB7.out) (n : Int)).mono ?_; rw [HF.out, HC.out]; rintro e w8 ⟨he, hb8⟩; obtain rfl : e = .returned (.tuple #[.int .i64 (C : Nat), .int .i64 0]) := he; have HB8 := hid (HB7.out.trans hb8); clear hb8)
    | (go_at_call 19; refine (Of_any (HW.out.ms.ds.bw HB8.out) (n : Int)).mono ?_; rw [HOF.out]; rintro e w9 ⟨rfl, hb9⟩; have HB9 := hid (HB8.out.trans hb9); clear hb9)
    | (go_at_call 12; refine (num_any _ _).mono ?_; rintro e wa ⟨rfl, hwa⟩; subst wa)
    | fail)
  all_goals go_ret
  all_goals exact ⟨rfl, HB9.out⟩

set_option maxRecDepth 100000 in
set_option maxHeartbeats 2000000 in
theorem asks_xno (h : PW w0 wr p bs F G rv L v LR k B) (n : Nat) (hnl : ¬ n < LR.length) (hF : ¬ n < F) : Calls Try.prog 14 #[.pointer (some ⟨p, 0, none⟩), rV F G v, .int .i64 (n : Int)] wr fun e w' => e = .returned (.bool true) ∧ Bw wr w' := by
  unfold rV
  obtain ⟨av, cv, ev⟩ := h.rs.form
  subst ev
  have HW := hid h
  have HEQ := hid h.eq
  have hll : LR.length = L.length := by have := congrArg List.length h.eq; simpa using this
  have hlm : (L.map Prod.fst).length = L.length := by simp
  have HLL := hid hll
  have hlk := h.rs.big.1
  have HNO := hid (show oneOf (n : Int) L.length = false from oneOf_no (by omega))
  have hvl : validL (L.map Prod.fst) (n : Int) = false := validL_no (by rw [hlm]; exact HNO.out)
  have z0 : decide ((0 : Int) ≤ (n : Int)) = true := decide_eq_true (by omega)
  have z1 : decide ((n : Int) < (LR.length : Int)) = false := decide_eq_false (by omega)
  have z2 : ¬ n < LR.length := by omega
  have HV := hid (Valid_any (h.ms.ds.bw (Bw.alloc (Bw.refl wr) (.cells #[.int .i64 F, .int .i64 G, .slice av LR.length cv] 31))) (n : Int))
  rw [hvl] at HV
  obtain ⟨C, hC⟩ : ∃ C : Nat, cnt (n : Int) (L.map Prod.fst) = C := ⟨_, rfl⟩
  have HC := hid hC
  have zC : ((C : Int) != (C : Int)) = false := by simp
  have HF := hid (show oneOf (n : Int) F = false from oneOf_no (by omega))
  have HAL := hid (all_none h.good HF.out)
  have HOF := hid (show ofL (L.map Prod.fst) (n : Int) = .tuple #[.int .i64 0, .bool false] by unfold ofL; rw [HAL.out])
  have HLI := hid (show lastI (all (vof (n : Int)) (L.map Prod.fst)) = -1 by rw [HAL.out]; rfl)
  have z5 : decide ((n : Int) < (F : Int)) = false := decide_eq_false (by omega)
  have z6 : ¬ n < F := by omega
  clear h hvl hC hlm hll
  go_enter Try.func14, Try.ntmps14
  go_wp2_with (first
    | (go_at_call 15; refine HV.out.mono ?_; rintro e w4 ⟨rfl, hw4⟩; subst w4)
    | fail)
  refine wp_region_W (fun w' => True) (fun j => if j == 20 then 0 else 1) (by kernel_rfl) ?_
  have hb0 : Bw wr (wr.alloc (.cells #[.int .i64 F, .int .i64 G, .slice av LR.length cv] 31)).drew := Bw.drew (Bw.alloc (Bw.refl _) _)
  have bp : Blk (wr.alloc (.cells #[.int .i64 F, .int .i64 G, .slice av LR.length cv] 31)).drew wr.heap.size #[.int .i64 F, .int .i64 G, .slice av LR.length cv] 31 := Blk.drewN (Blk.new wr _ _) 1
  generalize hW0 : (wr.alloc (.cells #[.int .i64 F, .int .i64 G, .slice av LR.length cv] 31)).drew = W0 at hb0 bp
  have HB0 := hid hb0
  have HBP0 := hid bp
  have hS := hid (show ∀ W', Bw W0 W' → True from fun _ _ => trivial)
  clear hb0 hW0 bp
  refine wpAnyW_take (i := 0) (oi := { dst := some 37, op := Op.move (Operand.tmp 7), type := 4, pos := "law.go:73", after := #[], guard := none }) (v := ?_) rfl (by kernel_rfl) (by kernel_rfl) (by kernel_rfl) (by kernel_rfl) (fun _ _ _ h => h) (Or.inl ⟨by rfl, fun w _ => ?_⟩) ?_
  rotate_left
  · (go_simp; first | done | with_reducible rfl)
  try simp only [Act.put, List.setIfInBounds_toArray, List.set_cons_zero, List.set_cons_succ]
  refine wpAnyW_take (i := 1) (oi := { dst := some 38, op := Op.move (Operand.tmp 37), type := 4, pos := "law.go:73", after := #[{ on := 0, ground := Ground.data }], guard := none }) (v := ?_) rfl (by kernel_rfl) (by kernel_rfl) (by kernel_rfl) (by kernel_rfl) (fun _ _ _ h => h) (Or.inl ⟨by rfl, fun w _ => ?_⟩) ?_
  rotate_left
  · (go_simp; first | done | with_reducible rfl)
  try simp only [Act.put, List.setIfInBounds_toArray, List.set_cons_zero, List.set_cons_succ]
  refine wpAnyW_take (i := 2) (oi := { dst := some 39, op := Op.move (Operand.tmp 0), type := 25, pos := "law.go:73", after := #[{ on := 1, ground := Ground.guard }], guard := some (1, true) }) (v := undef) rfl (by kernel_rfl) (by kernel_rfl) (by kernel_rfl) (by kernel_rfl) (fun _ _ _ h => h) (Or.inr ⟨by rfl, rfl⟩) ?_
  try simp only [Act.put, List.setIfInBounds_toArray, List.set_cons_zero, List.set_cons_succ]
  refine wpAnyW_take (i := 3) (oi := { dst := some 40, op := Op.move (Operand.tmp 2), type := 3, pos := "law.go:73", after := #[{ on := 1, ground := Ground.guard }], guard := some (1, true) }) (v := undef) rfl (by kernel_rfl) (by kernel_rfl) (by kernel_rfl) (by kernel_rfl) (fun _ _ _ h => h) (Or.inr ⟨by rfl, rfl⟩) ?_
  try simp only [Act.put, List.setIfInBounds_toArray, List.set_cons_zero, List.set_cons_succ]
  refine wpAnyW_take (i := 4) (oi := { dst := some 41, op := Op.call { callee := Callee.value (Operand.func 20), args := #[Operand.tmp 39, Operand.tmp 40], argTypes := #[25, 3] }, type := 37, pos := "law.go:73", after := #[{ on := 2, ground := Ground.data }, { on := 3, ground := Ground.data }, { on := 1, ground := Ground.chain }, { on := 1, ground := Ground.guard }], guard := some (1, true) }) (v := undef) rfl (by kernel_rfl) (by kernel_rfl) (by kernel_rfl) (by kernel_rfl) (fun _ _ _ h => h) (Or.inr ⟨by rfl, rfl⟩) ?_
  try simp only [Act.put, List.setIfInBounds_toArray, List.set_cons_zero, List.set_cons_succ]
  refine wpAnyW_take (i := 5) (oi := { dst := some 42, op := Op.fieldAddr 31 (Operand.tmp 4) 2, type := 0, pos := "law.go:73", after := #[{ on := 1, ground := Ground.guard }], guard := some (1, true) }) (v := undef) rfl (by kernel_rfl) (by kernel_rfl) (by kernel_rfl) (by kernel_rfl) (fun _ _ _ h => h) (Or.inr ⟨by rfl, rfl⟩) ?_
  try simp only [Act.put, List.setIfInBounds_toArray, List.set_cons_zero, List.set_cons_succ]
  refine wpAnyW_take (i := 6) (oi := { dst := some 43, op := Op.load 29 (Operand.tmp 42), type := 29, pos := "law.go:73", after := #[{ on := 5, ground := Ground.data }, { on := 1, ground := Ground.guard }], guard := some (1, true) }) (v := undef) rfl (by kernel_rfl) (by kernel_rfl) (by kernel_rfl) (by kernel_rfl) (fun _ _ _ h => h) (Or.inr ⟨by rfl, rfl⟩) ?_
  try simp only [Act.put, List.setIfInBounds_toArray, List.set_cons_zero, List.set_cons_succ]
  refine wpAnyW_take (i := 7) (oi := { dst := some 44, op := Op.move (Operand.tmp 2), type := 3, pos := "law.go:73", after := #[{ on := 1, ground := Ground.guard }], guard := some (1, true) }) (v := undef) rfl (by kernel_rfl) (by kernel_rfl) (by kernel_rfl) (by kernel_rfl) (fun _ _ _ h => h) (Or.inr ⟨by rfl, rfl⟩) ?_
  try simp only [Act.put, List.setIfInBounds_toArray, List.set_cons_zero, List.set_cons_succ]
  refine wpAnyW_take (i := 8) (oi := { dst := some 45, op := Op.indexAddr 29 (Operand.tmp 43) (Operand.tmp 44), type := 0, pos := "law.go:73", after := #[{ on := 6, ground := Ground.data }, { on := 7, ground := Ground.data }, { on := 1, ground := Ground.guard }], guard := some (1, true) }) (v := undef) rfl (by kernel_rfl) (by kernel_rfl) (by kernel_rfl) (by kernel_rfl) (fun _ _ _ h => h) (Or.inr ⟨by rfl, rfl⟩) ?_
  try simp only [Act.put, List.setIfInBounds_toArray, List.set_cons_zero, List.set_cons_succ]
  refine wpAnyW_take (i := 9) (oi := { dst := some 46, op := Op.fieldAddr 45 (Operand.tmp 45) 1, type := 0, pos := "law.go:73", after := #[{ on := 8, ground := Ground.data }, { on := 1, ground := Ground.guard }], guard := some (1, true) }) (v := undef) rfl (by kernel_rfl) (by kernel_rfl) (by kernel_rfl) (by kernel_rfl) (fun _ _ _ h => h) (Or.inr ⟨by rfl, rfl⟩) ?_
  try simp only [Act.put, List.setIfInBounds_toArray, List.set_cons_zero, List.set_cons_succ]
  refine wpAnyW_take (i := 10) (oi := { dst := some 47, op := Op.load 37 (Operand.tmp 46), type := 37, pos := "law.go:73", after := #[{ on := 9, ground := Ground.data }, { on := 1, ground := Ground.guard }], guard := some (1, true) }) (v := undef) rfl (by kernel_rfl) (by kernel_rfl) (by kernel_rfl) (by kernel_rfl) (fun _ _ _ h => h) (Or.inr ⟨by rfl, rfl⟩) ?_
  try simp only [Act.put, List.setIfInBounds_toArray, List.set_cons_zero, List.set_cons_succ]
  refine wpAnyW_take (i := 11) (oi := { dst := some 48, op := Op.call { callee := Callee.value (Operand.func 22), args := #[Operand.tmp 41, Operand.tmp 47], argTypes := #[37, 37] }, type := 4, pos := "law.go:73", after := #[{ on := 4, ground := Ground.data }, { on := 10, ground := Ground.data }, { on := 4, ground := Ground.chain }, { on := 1, ground := Ground.guard }], guard := some (1, true) }) (v := undef) rfl (by kernel_rfl) (by kernel_rfl) (by kernel_rfl) (by kernel_rfl) (fun _ _ _ h => h) (Or.inr ⟨by rfl, rfl⟩) ?_
  try simp only [Act.put, List.setIfInBounds_toArray, List.set_cons_zero, List.set_cons_succ]
  refine wpAnyW_take (i := 12) (oi := { dst := some 49, op := Op.unOp UnOp.not 4 (Operand.tmp 48), type := 4, pos := "law.go:73", after := #[{ on := 11, ground := Ground.data }, { on := 1, ground := Ground.guard }], guard := some (1, true) }) (v := undef) rfl (by kernel_rfl) (by kernel_rfl) (by kernel_rfl) (by kernel_rfl) (fun _ _ _ h => h) (Or.inr ⟨by rfl, rfl⟩) ?_
  try simp only [Act.put, List.setIfInBounds_toArray, List.set_cons_zero, List.set_cons_succ]
  refine wpAnyW_take (i := 13) (oi := { dst := some 50, op := Op.pick (Operand.tmp 38) (Operand.tmp 49) (Operand.const (Value.bool false)), type := 4, pos := "law.go:73", after := #[{ on := 1, ground := Ground.data }, { on := 12, ground := Ground.data }], guard := none }) (v := ?_) rfl (by kernel_rfl) (by kernel_rfl) (by kernel_rfl) (by kernel_rfl) (fun _ _ _ h => h) (Or.inl ⟨by rfl, fun w _ => ?_⟩) ?_
  rotate_left
  · (go_simp; first | done | with_reducible rfl)
  try simp only [Act.put, List.setIfInBounds_toArray, List.set_cons_zero, List.set_cons_succ]
  refine wpAnyW_take (i := 14) (oi := { dst := some 51, op := Op.move (Operand.tmp 50), type := 4, pos := "law.go:73", after := #[{ on := 13, ground := Ground.data }, { on := 11, ground := Ground.chain }], guard := none }) (v := ?_) rfl (by kernel_rfl) (by kernel_rfl) (by kernel_rfl) (by kernel_rfl) (fun _ _ _ h => h) (Or.inl ⟨by rfl, fun w _ => ?_⟩) ?_
  rotate_left
  · (go_simp; first | done | with_reducible rfl)
  try simp only [Act.put, List.setIfInBounds_toArray, List.set_cons_zero, List.set_cons_succ]
  refine wpAnyW_take (i := 15) (oi := { dst := some 52, op := Op.move (Operand.tmp 7), type := 4, pos := "law.go:73", after := #[{ on := 14, ground := Ground.guard }], guard := some (14, false) }) (v := ?_) rfl (by kernel_rfl) (by kernel_rfl) (by kernel_rfl) (by kernel_rfl) (fun _ _ _ h => h) (Or.inl ⟨by rfl, fun w _ => ?_⟩) ?_
  rotate_left
  · (go_simp; first | done | with_reducible rfl)
  try simp only [Act.put, List.setIfInBounds_toArray, List.set_cons_zero, List.set_cons_succ]
  refine wpAnyW_take (i := 16) (oi := { dst := some 53, op := Op.unOp UnOp.not 4 (Operand.tmp 52), type := 4, pos := "law.go:73", after := #[{ on := 15, ground := Ground.data }, { on := 14, ground := Ground.guard }], guard := some (14, false) }) (v := ?_) rfl (by kernel_rfl) (by kernel_rfl) (by kernel_rfl) (by kernel_rfl) (fun _ _ _ h => h) (Or.inl ⟨by rfl, fun w _ => ?_⟩) ?_
  rotate_left
  · (go_simp; first | done | with_reducible rfl)
  try simp only [Act.put, List.setIfInBounds_toArray, List.set_cons_zero, List.set_cons_succ]
  refine wpAnyW_take (i := 17) (oi := { dst := some 54, op := Op.move (Operand.tmp 53), type := 4, pos := "law.go:73", after := #[{ on := 16, ground := Ground.data }, { on := 14, ground := Ground.chain }, { on := 14, ground := Ground.guard }], guard := some (14, false) }) (v := ?_) rfl (by kernel_rfl) (by kernel_rfl) (by kernel_rfl) (by kernel_rfl) (fun _ _ _ h => h) (Or.inl ⟨by rfl, fun w _ => ?_⟩) ?_
  rotate_left
  · (go_simp; first | done | with_reducible rfl)
  try simp only [Act.put, List.setIfInBounds_toArray, List.set_cons_zero, List.set_cons_succ]
  refine wpAnyW_take (i := 18) (oi := { dst := some 55, op := Op.move (Operand.tmp 0), type := 25, pos := "law.go:73", after := #[{ on := 17, ground := Ground.guard }], guard := some (17, true) }) (v := ?_) rfl (by kernel_rfl) (by kernel_rfl) (by kernel_rfl) (by kernel_rfl) (fun _ _ _ h => h) (Or.inl ⟨by rfl, fun w _ => ?_⟩) ?_
  rotate_left
  · (go_simp; first | done | with_reducible rfl)
  try simp only [Act.put, List.setIfInBounds_toArray, List.set_cons_zero, List.set_cons_succ]
  refine wpAnyW_take (i := 19) (oi := { dst := some 56, op := Op.move (Operand.tmp 2), type := 3, pos := "law.go:73", after := #[{ on := 17, ground := Ground.guard }], guard := some (17, true) }) (v := ?_) rfl (by kernel_rfl) (by kernel_rfl) (by kernel_rfl) (by kernel_rfl) (fun _ _ _ h => h) (Or.inl ⟨by rfl, fun w _ => ?_⟩) ?_
  rotate_left
  · (go_simp; first | done | with_reducible rfl)
  try simp only [Act.put, List.setIfInBounds_toArray, List.set_cons_zero, List.set_cons_succ]
  refine wpAnyW_ready (rs := [20]) (by kernel_rfl) (by simp) ?_
  refine (AllReadyW.cons (o := { dst := some 57, op := Op.call { callee := Callee.value (Operand.func 20), args := #[Operand.tmp 55, Operand.tmp 56], argTypes := #[25, 3] }, type := 37, pos := "law.go:73", after := #[{ on := 18, ground := Ground.data }, { on := 19, ground := Ground.data }, { on := 17, ground := Ground.chain }, { on := 17, ground := Ground.guard }], guard := some (17, true) }) rfl (fun K hK => ?_) AllReadyW.nil)
  go_simp
  refine (On_any (HW.out.ms.ds.bw HB0.out) _).mono ?_
  rintro e w5 ⟨r5, l5, rfl, ho5, hb5, hm5, hl5, _⟩
  have hl5 := hl5 HNO.out
  subst hl5
  obtain ⟨a5, c5, e5⟩ := own_form ho5
  simp only [List.length_nil] at e5
  subst e5
  have HB6 := hid hb5
  clear ho5 hb5
  refine hK.out _ _ (hS.out _ HB6.out) ?_
  clear hK K
  try simp only [Act.put, List.setIfInBounds_toArray, List.set_cons_zero, List.set_cons_succ]
  refine wpAnyW_take (i := 21) (oi := { dst := some 58, op := Op.call { callee := Callee.builtin Builtin.len, args := #[Operand.tmp 57], argTypes := #[37] }, type := 3, pos := "law.go:73", after := #[{ on := 20, ground := Ground.data }, { on := 17, ground := Ground.guard }], guard := some (17, true) }) (v := ?_) rfl (by kernel_rfl) (by kernel_rfl) (by kernel_rfl) (by kernel_rfl) (fun _ _ _ h => h) (Or.inl ⟨by rfl, fun w _ => ?_⟩) ?_
  rotate_left
  · (go_simp; first | done | with_reducible rfl)
  try simp only [Act.put, List.setIfInBounds_toArray, List.set_cons_zero, List.set_cons_succ]
  refine wpAnyW_take (i := 22) (oi := { dst := some 59, op := Op.binOp BinOp.neq 3 (Operand.tmp 58) (Operand.const (Value.int IntKind.i64 0)) 3, type := 4, pos := "law.go:73", after := #[{ on := 21, ground := Ground.data }, { on := 17, ground := Ground.guard }], guard := some (17, true) }) (v := ?_) rfl (by kernel_rfl) (by kernel_rfl) (by kernel_rfl) (by kernel_rfl) (fun _ _ _ h => h) (Or.inl ⟨by rfl, fun w _ => ?_⟩) ?_
  rotate_left
  · (go_simp; first | done | with_reducible rfl)
  try simp only [Act.put, List.setIfInBounds_toArray, List.set_cons_zero, List.set_cons_succ]
  refine wpAnyW_take (i := 23) (oi := { dst := some 60, op := Op.pick (Operand.tmp 54) (Operand.tmp 59) (Operand.const (Value.bool false)), type := 4, pos := "law.go:73", after := #[{ on := 17, ground := Ground.data }, { on := 22, ground := Ground.data }, { on := 14, ground := Ground.guard }], guard := some (14, false) }) (v := ?_) rfl (by kernel_rfl) (by kernel_rfl) (by kernel_rfl) (by kernel_rfl) (fun _ _ _ h => h) (Or.inl ⟨by rfl, fun w _ => ?_⟩) ?_
  rotate_left
  · (go_simp; first | done | with_reducible rfl)
  try simp only [Act.put, List.setIfInBounds_toArray, List.set_cons_zero, List.set_cons_succ]
  refine wpAnyW_take (i := 24) (oi := { dst := some 61, op := Op.pick (Operand.tmp 51) (Operand.const (Value.bool true)) (Operand.tmp 60), type := 4, pos := "law.go:73", after := #[{ on := 14, ground := Ground.data }, { on := 23, ground := Ground.data }], guard := none }) (v := ?_) rfl (by kernel_rfl) (by kernel_rfl) (by kernel_rfl) (by kernel_rfl) (fun _ _ _ h => h) (Or.inl ⟨by rfl, fun w _ => ?_⟩) ?_
  rotate_left
  · (go_simp; first | done | with_reducible rfl)
  try simp only [Act.put, List.setIfInBounds_toArray, List.set_cons_zero, List.set_cons_succ]
  refine wpAnyW_done (by kernel_rfl) ?_ _
  obtain ⟨p0, p1, p2, pl⟩ := box3 (HBP0.out.bw HB6.out)
  have HBX := hid (HB0.out.trans HB6.out)
  go_wp2_with (first
    | (go_at_call 27; refine (rVersions_any (HW.out.rs.bw HBX.out) (n : Int)).mono ?_; rw [HEQ.out, HC.out, HLI.out]; rintro e w7 ⟨rfl, hb7⟩; have HB7 := hid (HBX.out.trans hb7); clear hb7)
    | (go_at_call 18; refine (Versions_any (HW.out.ms.ds.bw HB7.out) (n : Int)).mono ?_; rw [HF.out, HC.out]; rintro e w8 ⟨he, hb8⟩; obtain rfl : e = .returned (.tuple #[.int .i64 0, .int .i64 1]) := he; have HB8 := hid (HB7.out.trans hb8); clear hb8)
    | (go_at_call 19; refine (Of_any (HW.out.ms.ds.bw HB8.out) (n : Int)).mono ?_; rw [HOF.out]; rintro e w9 ⟨rfl, hb9⟩; have HB9 := hid (HB8.out.trans hb9); clear hb9)
    | (go_at_call 12; refine (num_any _ _).mono ?_; rintro e wa ⟨rfl, hwa⟩; subst wa)
    | fail)
  all_goals go_ret
  all_goals exact ⟨rfl, HB9.out⟩

set_option maxRecDepth 100000 in
set_option maxHeartbeats 2000000 in
theorem asks_xnone (h : PW w0 wr p bs F G rv L v LR k B) (n : Nat) (hnl : ¬ n < LR.length) (hF : n < F) (hal : all (vof (n : Int)) (L.map Prod.fst) = []) : Calls Try.prog 14 #[.pointer (some ⟨p, 0, none⟩), rV F G v, .int .i64 (n : Int)] wr fun e w' => e = .returned (.bool true) ∧ Bw wr w' := by
  unfold rV
  obtain ⟨av, cv, ev⟩ := h.rs.form
  subst ev
  have HW := hid h
  have HEQ := hid h.eq
  have hll : LR.length = L.length := by have := congrArg List.length h.eq; simpa using this
  have hlm : (L.map Prod.fst).length = L.length := by simp
  have HLL := hid hll
  have hlk := h.rs.big.1
  have HNO := hid (show oneOf (n : Int) L.length = false from oneOf_no (by omega))
  have hvl : validL (L.map Prod.fst) (n : Int) = false := validL_no (by rw [hlm]; exact HNO.out)
  have z0 : decide ((0 : Int) ≤ (n : Int)) = true := decide_eq_true (by omega)
  have z1 : decide ((n : Int) < (LR.length : Int)) = false := decide_eq_false (by omega)
  have z2 : ¬ n < LR.length := by omega
  have HV := hid (Valid_any (h.ms.ds.bw (Bw.alloc (Bw.refl wr) (.cells #[.int .i64 F, .int .i64 G, .slice av LR.length cv] 31))) (n : Int))
  rw [hvl] at HV
  obtain ⟨C, hC⟩ : ∃ C : Nat, cnt (n : Int) (L.map Prod.fst) = C := ⟨_, rfl⟩
  have HC := hid hC
  have zC : ((C : Int) != (C : Int)) = false := by simp
  have HF := hid (show oneOf (n : Int) F = true from oneOf_yes (by omega) (by omega))
  have z5 : decide ((n : Int) < (F : Int)) = true := decide_eq_true (by omega)
  have z6 : n < F := by omega
  have HOF := hid (show ofL (L.map Prod.fst) (n : Int) = .tuple #[.int .i64 0, .bool false] by unfold ofL; rw [hal])
  have HLI := hid (show lastI (all (vof (n : Int)) (L.map Prod.fst)) = -1 by rw [hal]; rfl)
  clear hal
  clear h hvl hC hlm hll
  go_enter Try.func14, Try.ntmps14
  go_wp2_with (first
    | (go_at_call 15; refine HV.out.mono ?_; rintro e w4 ⟨rfl, hw4⟩; subst w4)
    | fail)
  refine wp_region_W (fun w' => True) (fun j => if j == 20 then 0 else 1) (by kernel_rfl) ?_
  have hb0 : Bw wr (wr.alloc (.cells #[.int .i64 F, .int .i64 G, .slice av LR.length cv] 31)).drew := Bw.drew (Bw.alloc (Bw.refl _) _)
  have bp : Blk (wr.alloc (.cells #[.int .i64 F, .int .i64 G, .slice av LR.length cv] 31)).drew wr.heap.size #[.int .i64 F, .int .i64 G, .slice av LR.length cv] 31 := Blk.drewN (Blk.new wr _ _) 1
  generalize hW0 : (wr.alloc (.cells #[.int .i64 F, .int .i64 G, .slice av LR.length cv] 31)).drew = W0 at hb0 bp
  have HB0 := hid hb0
  have HBP0 := hid bp
  have hS := hid (show ∀ W', Bw W0 W' → True from fun _ _ => trivial)
  clear hb0 hW0 bp
  refine wpAnyW_take (i := 0) (oi := { dst := some 37, op := Op.move (Operand.tmp 7), type := 4, pos := "law.go:73", after := #[], guard := none }) (v := ?_) rfl (by kernel_rfl) (by kernel_rfl) (by kernel_rfl) (by kernel_rfl) (fun _ _ _ h => h) (Or.inl ⟨by rfl, fun w _ => ?_⟩) ?_
  rotate_left
  · (go_simp; first | done | with_reducible rfl)
  try simp only [Act.put, List.setIfInBounds_toArray, List.set_cons_zero, List.set_cons_succ]
  refine wpAnyW_take (i := 1) (oi := { dst := some 38, op := Op.move (Operand.tmp 37), type := 4, pos := "law.go:73", after := #[{ on := 0, ground := Ground.data }], guard := none }) (v := ?_) rfl (by kernel_rfl) (by kernel_rfl) (by kernel_rfl) (by kernel_rfl) (fun _ _ _ h => h) (Or.inl ⟨by rfl, fun w _ => ?_⟩) ?_
  rotate_left
  · (go_simp; first | done | with_reducible rfl)
  try simp only [Act.put, List.setIfInBounds_toArray, List.set_cons_zero, List.set_cons_succ]
  refine wpAnyW_take (i := 2) (oi := { dst := some 39, op := Op.move (Operand.tmp 0), type := 25, pos := "law.go:73", after := #[{ on := 1, ground := Ground.guard }], guard := some (1, true) }) (v := undef) rfl (by kernel_rfl) (by kernel_rfl) (by kernel_rfl) (by kernel_rfl) (fun _ _ _ h => h) (Or.inr ⟨by rfl, rfl⟩) ?_
  try simp only [Act.put, List.setIfInBounds_toArray, List.set_cons_zero, List.set_cons_succ]
  refine wpAnyW_take (i := 3) (oi := { dst := some 40, op := Op.move (Operand.tmp 2), type := 3, pos := "law.go:73", after := #[{ on := 1, ground := Ground.guard }], guard := some (1, true) }) (v := undef) rfl (by kernel_rfl) (by kernel_rfl) (by kernel_rfl) (by kernel_rfl) (fun _ _ _ h => h) (Or.inr ⟨by rfl, rfl⟩) ?_
  try simp only [Act.put, List.setIfInBounds_toArray, List.set_cons_zero, List.set_cons_succ]
  refine wpAnyW_take (i := 4) (oi := { dst := some 41, op := Op.call { callee := Callee.value (Operand.func 20), args := #[Operand.tmp 39, Operand.tmp 40], argTypes := #[25, 3] }, type := 37, pos := "law.go:73", after := #[{ on := 2, ground := Ground.data }, { on := 3, ground := Ground.data }, { on := 1, ground := Ground.chain }, { on := 1, ground := Ground.guard }], guard := some (1, true) }) (v := undef) rfl (by kernel_rfl) (by kernel_rfl) (by kernel_rfl) (by kernel_rfl) (fun _ _ _ h => h) (Or.inr ⟨by rfl, rfl⟩) ?_
  try simp only [Act.put, List.setIfInBounds_toArray, List.set_cons_zero, List.set_cons_succ]
  refine wpAnyW_take (i := 5) (oi := { dst := some 42, op := Op.fieldAddr 31 (Operand.tmp 4) 2, type := 0, pos := "law.go:73", after := #[{ on := 1, ground := Ground.guard }], guard := some (1, true) }) (v := undef) rfl (by kernel_rfl) (by kernel_rfl) (by kernel_rfl) (by kernel_rfl) (fun _ _ _ h => h) (Or.inr ⟨by rfl, rfl⟩) ?_
  try simp only [Act.put, List.setIfInBounds_toArray, List.set_cons_zero, List.set_cons_succ]
  refine wpAnyW_take (i := 6) (oi := { dst := some 43, op := Op.load 29 (Operand.tmp 42), type := 29, pos := "law.go:73", after := #[{ on := 5, ground := Ground.data }, { on := 1, ground := Ground.guard }], guard := some (1, true) }) (v := undef) rfl (by kernel_rfl) (by kernel_rfl) (by kernel_rfl) (by kernel_rfl) (fun _ _ _ h => h) (Or.inr ⟨by rfl, rfl⟩) ?_
  try simp only [Act.put, List.setIfInBounds_toArray, List.set_cons_zero, List.set_cons_succ]
  refine wpAnyW_take (i := 7) (oi := { dst := some 44, op := Op.move (Operand.tmp 2), type := 3, pos := "law.go:73", after := #[{ on := 1, ground := Ground.guard }], guard := some (1, true) }) (v := undef) rfl (by kernel_rfl) (by kernel_rfl) (by kernel_rfl) (by kernel_rfl) (fun _ _ _ h => h) (Or.inr ⟨by rfl, rfl⟩) ?_
  try simp only [Act.put, List.setIfInBounds_toArray, List.set_cons_zero, List.set_cons_succ]
  refine wpAnyW_take (i := 8) (oi := { dst := some 45, op := Op.indexAddr 29 (Operand.tmp 43) (Operand.tmp 44), type := 0, pos := "law.go:73", after := #[{ on := 6, ground := Ground.data }, { on := 7, ground := Ground.data }, { on := 1, ground := Ground.guard }], guard := some (1, true) }) (v := undef) rfl (by kernel_rfl) (by kernel_rfl) (by kernel_rfl) (by kernel_rfl) (fun _ _ _ h => h) (Or.inr ⟨by rfl, rfl⟩) ?_
  try simp only [Act.put, List.setIfInBounds_toArray, List.set_cons_zero, List.set_cons_succ]
  refine wpAnyW_take (i := 9) (oi := { dst := some 46, op := Op.fieldAddr 45 (Operand.tmp 45) 1, type := 0, pos := "law.go:73", after := #[{ on := 8, ground := Ground.data }, { on := 1, ground := Ground.guard }], guard := some (1, true) }) (v := undef) rfl (by kernel_rfl) (by kernel_rfl) (by kernel_rfl) (by kernel_rfl) (fun _ _ _ h => h) (Or.inr ⟨by rfl, rfl⟩) ?_
  try simp only [Act.put, List.setIfInBounds_toArray, List.set_cons_zero, List.set_cons_succ]
  refine wpAnyW_take (i := 10) (oi := { dst := some 47, op := Op.load 37 (Operand.tmp 46), type := 37, pos := "law.go:73", after := #[{ on := 9, ground := Ground.data }, { on := 1, ground := Ground.guard }], guard := some (1, true) }) (v := undef) rfl (by kernel_rfl) (by kernel_rfl) (by kernel_rfl) (by kernel_rfl) (fun _ _ _ h => h) (Or.inr ⟨by rfl, rfl⟩) ?_
  try simp only [Act.put, List.setIfInBounds_toArray, List.set_cons_zero, List.set_cons_succ]
  refine wpAnyW_take (i := 11) (oi := { dst := some 48, op := Op.call { callee := Callee.value (Operand.func 22), args := #[Operand.tmp 41, Operand.tmp 47], argTypes := #[37, 37] }, type := 4, pos := "law.go:73", after := #[{ on := 4, ground := Ground.data }, { on := 10, ground := Ground.data }, { on := 4, ground := Ground.chain }, { on := 1, ground := Ground.guard }], guard := some (1, true) }) (v := undef) rfl (by kernel_rfl) (by kernel_rfl) (by kernel_rfl) (by kernel_rfl) (fun _ _ _ h => h) (Or.inr ⟨by rfl, rfl⟩) ?_
  try simp only [Act.put, List.setIfInBounds_toArray, List.set_cons_zero, List.set_cons_succ]
  refine wpAnyW_take (i := 12) (oi := { dst := some 49, op := Op.unOp UnOp.not 4 (Operand.tmp 48), type := 4, pos := "law.go:73", after := #[{ on := 11, ground := Ground.data }, { on := 1, ground := Ground.guard }], guard := some (1, true) }) (v := undef) rfl (by kernel_rfl) (by kernel_rfl) (by kernel_rfl) (by kernel_rfl) (fun _ _ _ h => h) (Or.inr ⟨by rfl, rfl⟩) ?_
  try simp only [Act.put, List.setIfInBounds_toArray, List.set_cons_zero, List.set_cons_succ]
  refine wpAnyW_take (i := 13) (oi := { dst := some 50, op := Op.pick (Operand.tmp 38) (Operand.tmp 49) (Operand.const (Value.bool false)), type := 4, pos := "law.go:73", after := #[{ on := 1, ground := Ground.data }, { on := 12, ground := Ground.data }], guard := none }) (v := ?_) rfl (by kernel_rfl) (by kernel_rfl) (by kernel_rfl) (by kernel_rfl) (fun _ _ _ h => h) (Or.inl ⟨by rfl, fun w _ => ?_⟩) ?_
  rotate_left
  · (go_simp; first | done | with_reducible rfl)
  try simp only [Act.put, List.setIfInBounds_toArray, List.set_cons_zero, List.set_cons_succ]
  refine wpAnyW_take (i := 14) (oi := { dst := some 51, op := Op.move (Operand.tmp 50), type := 4, pos := "law.go:73", after := #[{ on := 13, ground := Ground.data }, { on := 11, ground := Ground.chain }], guard := none }) (v := ?_) rfl (by kernel_rfl) (by kernel_rfl) (by kernel_rfl) (by kernel_rfl) (fun _ _ _ h => h) (Or.inl ⟨by rfl, fun w _ => ?_⟩) ?_
  rotate_left
  · (go_simp; first | done | with_reducible rfl)
  try simp only [Act.put, List.setIfInBounds_toArray, List.set_cons_zero, List.set_cons_succ]
  refine wpAnyW_take (i := 15) (oi := { dst := some 52, op := Op.move (Operand.tmp 7), type := 4, pos := "law.go:73", after := #[{ on := 14, ground := Ground.guard }], guard := some (14, false) }) (v := ?_) rfl (by kernel_rfl) (by kernel_rfl) (by kernel_rfl) (by kernel_rfl) (fun _ _ _ h => h) (Or.inl ⟨by rfl, fun w _ => ?_⟩) ?_
  rotate_left
  · (go_simp; first | done | with_reducible rfl)
  try simp only [Act.put, List.setIfInBounds_toArray, List.set_cons_zero, List.set_cons_succ]
  refine wpAnyW_take (i := 16) (oi := { dst := some 53, op := Op.unOp UnOp.not 4 (Operand.tmp 52), type := 4, pos := "law.go:73", after := #[{ on := 15, ground := Ground.data }, { on := 14, ground := Ground.guard }], guard := some (14, false) }) (v := ?_) rfl (by kernel_rfl) (by kernel_rfl) (by kernel_rfl) (by kernel_rfl) (fun _ _ _ h => h) (Or.inl ⟨by rfl, fun w _ => ?_⟩) ?_
  rotate_left
  · (go_simp; first | done | with_reducible rfl)
  try simp only [Act.put, List.setIfInBounds_toArray, List.set_cons_zero, List.set_cons_succ]
  refine wpAnyW_take (i := 17) (oi := { dst := some 54, op := Op.move (Operand.tmp 53), type := 4, pos := "law.go:73", after := #[{ on := 16, ground := Ground.data }, { on := 14, ground := Ground.chain }, { on := 14, ground := Ground.guard }], guard := some (14, false) }) (v := ?_) rfl (by kernel_rfl) (by kernel_rfl) (by kernel_rfl) (by kernel_rfl) (fun _ _ _ h => h) (Or.inl ⟨by rfl, fun w _ => ?_⟩) ?_
  rotate_left
  · (go_simp; first | done | with_reducible rfl)
  try simp only [Act.put, List.setIfInBounds_toArray, List.set_cons_zero, List.set_cons_succ]
  refine wpAnyW_take (i := 18) (oi := { dst := some 55, op := Op.move (Operand.tmp 0), type := 25, pos := "law.go:73", after := #[{ on := 17, ground := Ground.guard }], guard := some (17, true) }) (v := ?_) rfl (by kernel_rfl) (by kernel_rfl) (by kernel_rfl) (by kernel_rfl) (fun _ _ _ h => h) (Or.inl ⟨by rfl, fun w _ => ?_⟩) ?_
  rotate_left
  · (go_simp; first | done | with_reducible rfl)
  try simp only [Act.put, List.setIfInBounds_toArray, List.set_cons_zero, List.set_cons_succ]
  refine wpAnyW_take (i := 19) (oi := { dst := some 56, op := Op.move (Operand.tmp 2), type := 3, pos := "law.go:73", after := #[{ on := 17, ground := Ground.guard }], guard := some (17, true) }) (v := ?_) rfl (by kernel_rfl) (by kernel_rfl) (by kernel_rfl) (by kernel_rfl) (fun _ _ _ h => h) (Or.inl ⟨by rfl, fun w _ => ?_⟩) ?_
  rotate_left
  · (go_simp; first | done | with_reducible rfl)
  try simp only [Act.put, List.setIfInBounds_toArray, List.set_cons_zero, List.set_cons_succ]
  refine wpAnyW_ready (rs := [20]) (by kernel_rfl) (by simp) ?_
  refine (AllReadyW.cons (o := { dst := some 57, op := Op.call { callee := Callee.value (Operand.func 20), args := #[Operand.tmp 55, Operand.tmp 56], argTypes := #[25, 3] }, type := 37, pos := "law.go:73", after := #[{ on := 18, ground := Ground.data }, { on := 19, ground := Ground.data }, { on := 17, ground := Ground.chain }, { on := 17, ground := Ground.guard }], guard := some (17, true) }) rfl (fun K hK => ?_) AllReadyW.nil)
  go_simp
  refine (On_any (HW.out.ms.ds.bw HB0.out) _).mono ?_
  rintro e w5 ⟨r5, l5, rfl, ho5, hb5, hm5, hl5, _⟩
  have hl5 := hl5 HNO.out
  subst hl5
  obtain ⟨a5, c5, e5⟩ := own_form ho5
  simp only [List.length_nil] at e5
  subst e5
  have HB6 := hid hb5
  clear ho5 hb5
  refine hK.out _ _ (hS.out _ HB6.out) ?_
  clear hK K
  try simp only [Act.put, List.setIfInBounds_toArray, List.set_cons_zero, List.set_cons_succ]
  refine wpAnyW_take (i := 21) (oi := { dst := some 58, op := Op.call { callee := Callee.builtin Builtin.len, args := #[Operand.tmp 57], argTypes := #[37] }, type := 3, pos := "law.go:73", after := #[{ on := 20, ground := Ground.data }, { on := 17, ground := Ground.guard }], guard := some (17, true) }) (v := ?_) rfl (by kernel_rfl) (by kernel_rfl) (by kernel_rfl) (by kernel_rfl) (fun _ _ _ h => h) (Or.inl ⟨by rfl, fun w _ => ?_⟩) ?_
  rotate_left
  · (go_simp; first | done | with_reducible rfl)
  try simp only [Act.put, List.setIfInBounds_toArray, List.set_cons_zero, List.set_cons_succ]
  refine wpAnyW_take (i := 22) (oi := { dst := some 59, op := Op.binOp BinOp.neq 3 (Operand.tmp 58) (Operand.const (Value.int IntKind.i64 0)) 3, type := 4, pos := "law.go:73", after := #[{ on := 21, ground := Ground.data }, { on := 17, ground := Ground.guard }], guard := some (17, true) }) (v := ?_) rfl (by kernel_rfl) (by kernel_rfl) (by kernel_rfl) (by kernel_rfl) (fun _ _ _ h => h) (Or.inl ⟨by rfl, fun w _ => ?_⟩) ?_
  rotate_left
  · (go_simp; first | done | with_reducible rfl)
  try simp only [Act.put, List.setIfInBounds_toArray, List.set_cons_zero, List.set_cons_succ]
  refine wpAnyW_take (i := 23) (oi := { dst := some 60, op := Op.pick (Operand.tmp 54) (Operand.tmp 59) (Operand.const (Value.bool false)), type := 4, pos := "law.go:73", after := #[{ on := 17, ground := Ground.data }, { on := 22, ground := Ground.data }, { on := 14, ground := Ground.guard }], guard := some (14, false) }) (v := ?_) rfl (by kernel_rfl) (by kernel_rfl) (by kernel_rfl) (by kernel_rfl) (fun _ _ _ h => h) (Or.inl ⟨by rfl, fun w _ => ?_⟩) ?_
  rotate_left
  · (go_simp; first | done | with_reducible rfl)
  try simp only [Act.put, List.setIfInBounds_toArray, List.set_cons_zero, List.set_cons_succ]
  refine wpAnyW_take (i := 24) (oi := { dst := some 61, op := Op.pick (Operand.tmp 51) (Operand.const (Value.bool true)) (Operand.tmp 60), type := 4, pos := "law.go:73", after := #[{ on := 14, ground := Ground.data }, { on := 23, ground := Ground.data }], guard := none }) (v := ?_) rfl (by kernel_rfl) (by kernel_rfl) (by kernel_rfl) (by kernel_rfl) (fun _ _ _ h => h) (Or.inl ⟨by rfl, fun w _ => ?_⟩) ?_
  rotate_left
  · (go_simp; first | done | with_reducible rfl)
  try simp only [Act.put, List.setIfInBounds_toArray, List.set_cons_zero, List.set_cons_succ]
  refine wpAnyW_done (by kernel_rfl) ?_ _
  obtain ⟨p0, p1, p2, pl⟩ := box3 (HBP0.out.bw HB6.out)
  have HBX := hid (HB0.out.trans HB6.out)
  go_wp2_with (first
    | (go_at_call 27; refine (rVersions_any (HW.out.rs.bw HBX.out) (n : Int)).mono ?_; rw [HEQ.out, HC.out, HLI.out]; rintro e w7 ⟨rfl, hb7⟩; have HB7 := hid (HBX.out.trans hb7); clear hb7)
    | (go_at_call 18; refine (Versions_any (HW.out.ms.ds.bw HB7.out) (n : Int)).mono ?_; rw [HF.out, HC.out]; rintro e w8 ⟨he, hb8⟩; obtain rfl : e = .returned (.tuple #[.int .i64 (C : Nat), .int .i64 0]) := he; have HB8 := hid (HB7.out.trans hb8); clear hb8)
    | (go_at_call 19; refine (Of_any (HW.out.ms.ds.bw HB8.out) (n : Int)).mono ?_; rw [HOF.out]; rintro e w9 ⟨rfl, hb9⟩; have HB9 := hid (HB8.out.trans hb9); clear hb9)
    | (go_at_call 12; refine (num_any _ _).mono ?_; rintro e wa ⟨rfl, hwa⟩; subst wa)
    | fail)
  all_goals go_ret
  all_goals exact ⟨rfl, HB9.out⟩

set_option maxRecDepth 100000 in
set_option maxHeartbeats 2000000 in
theorem asks_xsome (h : PW w0 wr p bs F G rv L v LR k B) (n : Nat) (hnl : ¬ n < LR.length) (hF : n < F) (i : Nat) (hal : all (vof (n : Int)) (L.map Prod.fst) = [i]) : Calls Try.prog 14 #[.pointer (some ⟨p, 0, none⟩), rV F G v, .int .i64 (n : Int)] wr fun e w' => e = .returned (.bool true) ∧ Bw wr w' := by
  unfold rV
  obtain ⟨av, cv, ev⟩ := h.rs.form
  subst ev
  have HW := hid h
  have HEQ := hid h.eq
  have hll : LR.length = L.length := by have := congrArg List.length h.eq; simpa using this
  have hlm : (L.map Prod.fst).length = L.length := by simp
  have HLL := hid hll
  have hlk := h.rs.big.1
  have HNO := hid (show oneOf (n : Int) L.length = false from oneOf_no (by omega))
  have hvl : validL (L.map Prod.fst) (n : Int) = false := validL_no (by rw [hlm]; exact HNO.out)
  have z0 : decide ((0 : Int) ≤ (n : Int)) = true := decide_eq_true (by omega)
  have z1 : decide ((n : Int) < (LR.length : Int)) = false := decide_eq_false (by omega)
  have z2 : ¬ n < LR.length := by omega
  have HV := hid (Valid_any (h.ms.ds.bw (Bw.alloc (Bw.refl wr) (.cells #[.int .i64 F, .int .i64 G, .slice av LR.length cv] 31))) (n : Int))
  rw [hvl] at HV
  obtain ⟨C, hC⟩ : ∃ C : Nat, cnt (n : Int) (L.map Prod.fst) = C := ⟨_, rfl⟩
  have HC := hid hC
  have zC : ((C : Int) != (C : Int)) = false := by simp
  have HF := hid (show oneOf (n : Int) F = true from oneOf_yes (by omega) (by omega))
  have z5 : decide ((n : Int) < (F : Int)) = true := decide_eq_true (by omega)
  have z6 : n < F := by omega
  have HOF := hid (show ofL (L.map Prod.fst) (n : Int) = .tuple #[.int .i64 (i : Nat), .bool true] by unfold ofL; rw [hal])
  have HLI := hid (show lastI (all (vof (n : Int)) (L.map Prod.fst)) = (i : Nat) by rw [hal]; rfl)
  have zi : ((i : Int) == (i : Int)) = true := by simp
  have zj : decide ((0 : Int) ≤ (i : Int)) = true := decide_eq_true (by omega)
  clear hal
  clear h hvl hC hlm hll
  go_enter Try.func14, Try.ntmps14
  go_wp2_with (first
    | (go_at_call 15; refine HV.out.mono ?_; rintro e w4 ⟨rfl, hw4⟩; subst w4)
    | fail)
  refine wp_region_W (fun w' => True) (fun j => if j == 20 then 0 else 1) (by kernel_rfl) ?_
  have hb0 : Bw wr (wr.alloc (.cells #[.int .i64 F, .int .i64 G, .slice av LR.length cv] 31)).drew := Bw.drew (Bw.alloc (Bw.refl _) _)
  have bp : Blk (wr.alloc (.cells #[.int .i64 F, .int .i64 G, .slice av LR.length cv] 31)).drew wr.heap.size #[.int .i64 F, .int .i64 G, .slice av LR.length cv] 31 := Blk.drewN (Blk.new wr _ _) 1
  generalize hW0 : (wr.alloc (.cells #[.int .i64 F, .int .i64 G, .slice av LR.length cv] 31)).drew = W0 at hb0 bp
  have HB0 := hid hb0
  have HBP0 := hid bp
  have hS := hid (show ∀ W', Bw W0 W' → True from fun _ _ => trivial)
  clear hb0 hW0 bp
  refine wpAnyW_take (i := 0) (oi := { dst := some 37, op := Op.move (Operand.tmp 7), type := 4, pos := "law.go:73", after := #[], guard := none }) (v := ?_) rfl (by kernel_rfl) (by kernel_rfl) (by kernel_rfl) (by kernel_rfl) (fun _ _ _ h => h) (Or.inl ⟨by rfl, fun w _ => ?_⟩) ?_
  rotate_left
  · (go_simp; first | done | with_reducible rfl)
  try simp only [Act.put, List.setIfInBounds_toArray, List.set_cons_zero, List.set_cons_succ]
  refine wpAnyW_take (i := 1) (oi := { dst := some 38, op := Op.move (Operand.tmp 37), type := 4, pos := "law.go:73", after := #[{ on := 0, ground := Ground.data }], guard := none }) (v := ?_) rfl (by kernel_rfl) (by kernel_rfl) (by kernel_rfl) (by kernel_rfl) (fun _ _ _ h => h) (Or.inl ⟨by rfl, fun w _ => ?_⟩) ?_
  rotate_left
  · (go_simp; first | done | with_reducible rfl)
  try simp only [Act.put, List.setIfInBounds_toArray, List.set_cons_zero, List.set_cons_succ]
  refine wpAnyW_take (i := 2) (oi := { dst := some 39, op := Op.move (Operand.tmp 0), type := 25, pos := "law.go:73", after := #[{ on := 1, ground := Ground.guard }], guard := some (1, true) }) (v := undef) rfl (by kernel_rfl) (by kernel_rfl) (by kernel_rfl) (by kernel_rfl) (fun _ _ _ h => h) (Or.inr ⟨by rfl, rfl⟩) ?_
  try simp only [Act.put, List.setIfInBounds_toArray, List.set_cons_zero, List.set_cons_succ]
  refine wpAnyW_take (i := 3) (oi := { dst := some 40, op := Op.move (Operand.tmp 2), type := 3, pos := "law.go:73", after := #[{ on := 1, ground := Ground.guard }], guard := some (1, true) }) (v := undef) rfl (by kernel_rfl) (by kernel_rfl) (by kernel_rfl) (by kernel_rfl) (fun _ _ _ h => h) (Or.inr ⟨by rfl, rfl⟩) ?_
  try simp only [Act.put, List.setIfInBounds_toArray, List.set_cons_zero, List.set_cons_succ]
  refine wpAnyW_take (i := 4) (oi := { dst := some 41, op := Op.call { callee := Callee.value (Operand.func 20), args := #[Operand.tmp 39, Operand.tmp 40], argTypes := #[25, 3] }, type := 37, pos := "law.go:73", after := #[{ on := 2, ground := Ground.data }, { on := 3, ground := Ground.data }, { on := 1, ground := Ground.chain }, { on := 1, ground := Ground.guard }], guard := some (1, true) }) (v := undef) rfl (by kernel_rfl) (by kernel_rfl) (by kernel_rfl) (by kernel_rfl) (fun _ _ _ h => h) (Or.inr ⟨by rfl, rfl⟩) ?_
  try simp only [Act.put, List.setIfInBounds_toArray, List.set_cons_zero, List.set_cons_succ]
  refine wpAnyW_take (i := 5) (oi := { dst := some 42, op := Op.fieldAddr 31 (Operand.tmp 4) 2, type := 0, pos := "law.go:73", after := #[{ on := 1, ground := Ground.guard }], guard := some (1, true) }) (v := undef) rfl (by kernel_rfl) (by kernel_rfl) (by kernel_rfl) (by kernel_rfl) (fun _ _ _ h => h) (Or.inr ⟨by rfl, rfl⟩) ?_
  try simp only [Act.put, List.setIfInBounds_toArray, List.set_cons_zero, List.set_cons_succ]
  refine wpAnyW_take (i := 6) (oi := { dst := some 43, op := Op.load 29 (Operand.tmp 42), type := 29, pos := "law.go:73", after := #[{ on := 5, ground := Ground.data }, { on := 1, ground := Ground.guard }], guard := some (1, true) }) (v := undef) rfl (by kernel_rfl) (by kernel_rfl) (by kernel_rfl) (by kernel_rfl) (fun _ _ _ h => h) (Or.inr ⟨by rfl, rfl⟩) ?_
  try simp only [Act.put, List.setIfInBounds_toArray, List.set_cons_zero, List.set_cons_succ]
  refine wpAnyW_take (i := 7) (oi := { dst := some 44, op := Op.move (Operand.tmp 2), type := 3, pos := "law.go:73", after := #[{ on := 1, ground := Ground.guard }], guard := some (1, true) }) (v := undef) rfl (by kernel_rfl) (by kernel_rfl) (by kernel_rfl) (by kernel_rfl) (fun _ _ _ h => h) (Or.inr ⟨by rfl, rfl⟩) ?_
  try simp only [Act.put, List.setIfInBounds_toArray, List.set_cons_zero, List.set_cons_succ]
  refine wpAnyW_take (i := 8) (oi := { dst := some 45, op := Op.indexAddr 29 (Operand.tmp 43) (Operand.tmp 44), type := 0, pos := "law.go:73", after := #[{ on := 6, ground := Ground.data }, { on := 7, ground := Ground.data }, { on := 1, ground := Ground.guard }], guard := some (1, true) }) (v := undef) rfl (by kernel_rfl) (by kernel_rfl) (by kernel_rfl) (by kernel_rfl) (fun _ _ _ h => h) (Or.inr ⟨by rfl, rfl⟩) ?_
  try simp only [Act.put, List.setIfInBounds_toArray, List.set_cons_zero, List.set_cons_succ]
  refine wpAnyW_take (i := 9) (oi := { dst := some 46, op := Op.fieldAddr 45 (Operand.tmp 45) 1, type := 0, pos := "law.go:73", after := #[{ on := 8, ground := Ground.data }, { on := 1, ground := Ground.guard }], guard := some (1, true) }) (v := undef) rfl (by kernel_rfl) (by kernel_rfl) (by kernel_rfl) (by kernel_rfl) (fun _ _ _ h => h) (Or.inr ⟨by rfl, rfl⟩) ?_
  try simp only [Act.put, List.setIfInBounds_toArray, List.set_cons_zero, List.set_cons_succ]
  refine wpAnyW_take (i := 10) (oi := { dst := some 47, op := Op.load 37 (Operand.tmp 46), type := 37, pos := "law.go:73", after := #[{ on := 9, ground := Ground.data }, { on := 1, ground := Ground.guard }], guard := some (1, true) }) (v := undef) rfl (by kernel_rfl) (by kernel_rfl) (by kernel_rfl) (by kernel_rfl) (fun _ _ _ h => h) (Or.inr ⟨by rfl, rfl⟩) ?_
  try simp only [Act.put, List.setIfInBounds_toArray, List.set_cons_zero, List.set_cons_succ]
  refine wpAnyW_take (i := 11) (oi := { dst := some 48, op := Op.call { callee := Callee.value (Operand.func 22), args := #[Operand.tmp 41, Operand.tmp 47], argTypes := #[37, 37] }, type := 4, pos := "law.go:73", after := #[{ on := 4, ground := Ground.data }, { on := 10, ground := Ground.data }, { on := 4, ground := Ground.chain }, { on := 1, ground := Ground.guard }], guard := some (1, true) }) (v := undef) rfl (by kernel_rfl) (by kernel_rfl) (by kernel_rfl) (by kernel_rfl) (fun _ _ _ h => h) (Or.inr ⟨by rfl, rfl⟩) ?_
  try simp only [Act.put, List.setIfInBounds_toArray, List.set_cons_zero, List.set_cons_succ]
  refine wpAnyW_take (i := 12) (oi := { dst := some 49, op := Op.unOp UnOp.not 4 (Operand.tmp 48), type := 4, pos := "law.go:73", after := #[{ on := 11, ground := Ground.data }, { on := 1, ground := Ground.guard }], guard := some (1, true) }) (v := undef) rfl (by kernel_rfl) (by kernel_rfl) (by kernel_rfl) (by kernel_rfl) (fun _ _ _ h => h) (Or.inr ⟨by rfl, rfl⟩) ?_
  try simp only [Act.put, List.setIfInBounds_toArray, List.set_cons_zero, List.set_cons_succ]
  refine wpAnyW_take (i := 13) (oi := { dst := some 50, op := Op.pick (Operand.tmp 38) (Operand.tmp 49) (Operand.const (Value.bool false)), type := 4, pos := "law.go:73", after := #[{ on := 1, ground := Ground.data }, { on := 12, ground := Ground.data }], guard := none }) (v := ?_) rfl (by kernel_rfl) (by kernel_rfl) (by kernel_rfl) (by kernel_rfl) (fun _ _ _ h => h) (Or.inl ⟨by rfl, fun w _ => ?_⟩) ?_
  rotate_left
  · (go_simp; first | done | with_reducible rfl)
  try simp only [Act.put, List.setIfInBounds_toArray, List.set_cons_zero, List.set_cons_succ]
  refine wpAnyW_take (i := 14) (oi := { dst := some 51, op := Op.move (Operand.tmp 50), type := 4, pos := "law.go:73", after := #[{ on := 13, ground := Ground.data }, { on := 11, ground := Ground.chain }], guard := none }) (v := ?_) rfl (by kernel_rfl) (by kernel_rfl) (by kernel_rfl) (by kernel_rfl) (fun _ _ _ h => h) (Or.inl ⟨by rfl, fun w _ => ?_⟩) ?_
  rotate_left
  · (go_simp; first | done | with_reducible rfl)
  try simp only [Act.put, List.setIfInBounds_toArray, List.set_cons_zero, List.set_cons_succ]
  refine wpAnyW_take (i := 15) (oi := { dst := some 52, op := Op.move (Operand.tmp 7), type := 4, pos := "law.go:73", after := #[{ on := 14, ground := Ground.guard }], guard := some (14, false) }) (v := ?_) rfl (by kernel_rfl) (by kernel_rfl) (by kernel_rfl) (by kernel_rfl) (fun _ _ _ h => h) (Or.inl ⟨by rfl, fun w _ => ?_⟩) ?_
  rotate_left
  · (go_simp; first | done | with_reducible rfl)
  try simp only [Act.put, List.setIfInBounds_toArray, List.set_cons_zero, List.set_cons_succ]
  refine wpAnyW_take (i := 16) (oi := { dst := some 53, op := Op.unOp UnOp.not 4 (Operand.tmp 52), type := 4, pos := "law.go:73", after := #[{ on := 15, ground := Ground.data }, { on := 14, ground := Ground.guard }], guard := some (14, false) }) (v := ?_) rfl (by kernel_rfl) (by kernel_rfl) (by kernel_rfl) (by kernel_rfl) (fun _ _ _ h => h) (Or.inl ⟨by rfl, fun w _ => ?_⟩) ?_
  rotate_left
  · (go_simp; first | done | with_reducible rfl)
  try simp only [Act.put, List.setIfInBounds_toArray, List.set_cons_zero, List.set_cons_succ]
  refine wpAnyW_take (i := 17) (oi := { dst := some 54, op := Op.move (Operand.tmp 53), type := 4, pos := "law.go:73", after := #[{ on := 16, ground := Ground.data }, { on := 14, ground := Ground.chain }, { on := 14, ground := Ground.guard }], guard := some (14, false) }) (v := ?_) rfl (by kernel_rfl) (by kernel_rfl) (by kernel_rfl) (by kernel_rfl) (fun _ _ _ h => h) (Or.inl ⟨by rfl, fun w _ => ?_⟩) ?_
  rotate_left
  · (go_simp; first | done | with_reducible rfl)
  try simp only [Act.put, List.setIfInBounds_toArray, List.set_cons_zero, List.set_cons_succ]
  refine wpAnyW_take (i := 18) (oi := { dst := some 55, op := Op.move (Operand.tmp 0), type := 25, pos := "law.go:73", after := #[{ on := 17, ground := Ground.guard }], guard := some (17, true) }) (v := ?_) rfl (by kernel_rfl) (by kernel_rfl) (by kernel_rfl) (by kernel_rfl) (fun _ _ _ h => h) (Or.inl ⟨by rfl, fun w _ => ?_⟩) ?_
  rotate_left
  · (go_simp; first | done | with_reducible rfl)
  try simp only [Act.put, List.setIfInBounds_toArray, List.set_cons_zero, List.set_cons_succ]
  refine wpAnyW_take (i := 19) (oi := { dst := some 56, op := Op.move (Operand.tmp 2), type := 3, pos := "law.go:73", after := #[{ on := 17, ground := Ground.guard }], guard := some (17, true) }) (v := ?_) rfl (by kernel_rfl) (by kernel_rfl) (by kernel_rfl) (by kernel_rfl) (fun _ _ _ h => h) (Or.inl ⟨by rfl, fun w _ => ?_⟩) ?_
  rotate_left
  · (go_simp; first | done | with_reducible rfl)
  try simp only [Act.put, List.setIfInBounds_toArray, List.set_cons_zero, List.set_cons_succ]
  refine wpAnyW_ready (rs := [20]) (by kernel_rfl) (by simp) ?_
  refine (AllReadyW.cons (o := { dst := some 57, op := Op.call { callee := Callee.value (Operand.func 20), args := #[Operand.tmp 55, Operand.tmp 56], argTypes := #[25, 3] }, type := 37, pos := "law.go:73", after := #[{ on := 18, ground := Ground.data }, { on := 19, ground := Ground.data }, { on := 17, ground := Ground.chain }, { on := 17, ground := Ground.guard }], guard := some (17, true) }) rfl (fun K hK => ?_) AllReadyW.nil)
  go_simp
  refine (On_any (HW.out.ms.ds.bw HB0.out) _).mono ?_
  rintro e w5 ⟨r5, l5, rfl, ho5, hb5, hm5, hl5, _⟩
  have hl5 := hl5 HNO.out
  subst hl5
  obtain ⟨a5, c5, e5⟩ := own_form ho5
  simp only [List.length_nil] at e5
  subst e5
  have HB6 := hid hb5
  clear ho5 hb5
  refine hK.out _ _ (hS.out _ HB6.out) ?_
  clear hK K
  try simp only [Act.put, List.setIfInBounds_toArray, List.set_cons_zero, List.set_cons_succ]
  refine wpAnyW_take (i := 21) (oi := { dst := some 58, op := Op.call { callee := Callee.builtin Builtin.len, args := #[Operand.tmp 57], argTypes := #[37] }, type := 3, pos := "law.go:73", after := #[{ on := 20, ground := Ground.data }, { on := 17, ground := Ground.guard }], guard := some (17, true) }) (v := ?_) rfl (by kernel_rfl) (by kernel_rfl) (by kernel_rfl) (by kernel_rfl) (fun _ _ _ h => h) (Or.inl ⟨by rfl, fun w _ => ?_⟩) ?_
  rotate_left
  · (go_simp; first | done | with_reducible rfl)
  try simp only [Act.put, List.setIfInBounds_toArray, List.set_cons_zero, List.set_cons_succ]
  refine wpAnyW_take (i := 22) (oi := { dst := some 59, op := Op.binOp BinOp.neq 3 (Operand.tmp 58) (Operand.const (Value.int IntKind.i64 0)) 3, type := 4, pos := "law.go:73", after := #[{ on := 21, ground := Ground.data }, { on := 17, ground := Ground.guard }], guard := some (17, true) }) (v := ?_) rfl (by kernel_rfl) (by kernel_rfl) (by kernel_rfl) (by kernel_rfl) (fun _ _ _ h => h) (Or.inl ⟨by rfl, fun w _ => ?_⟩) ?_
  rotate_left
  · (go_simp; first | done | with_reducible rfl)
  try simp only [Act.put, List.setIfInBounds_toArray, List.set_cons_zero, List.set_cons_succ]
  refine wpAnyW_take (i := 23) (oi := { dst := some 60, op := Op.pick (Operand.tmp 54) (Operand.tmp 59) (Operand.const (Value.bool false)), type := 4, pos := "law.go:73", after := #[{ on := 17, ground := Ground.data }, { on := 22, ground := Ground.data }, { on := 14, ground := Ground.guard }], guard := some (14, false) }) (v := ?_) rfl (by kernel_rfl) (by kernel_rfl) (by kernel_rfl) (by kernel_rfl) (fun _ _ _ h => h) (Or.inl ⟨by rfl, fun w _ => ?_⟩) ?_
  rotate_left
  · (go_simp; first | done | with_reducible rfl)
  try simp only [Act.put, List.setIfInBounds_toArray, List.set_cons_zero, List.set_cons_succ]
  refine wpAnyW_take (i := 24) (oi := { dst := some 61, op := Op.pick (Operand.tmp 51) (Operand.const (Value.bool true)) (Operand.tmp 60), type := 4, pos := "law.go:73", after := #[{ on := 14, ground := Ground.data }, { on := 23, ground := Ground.data }], guard := none }) (v := ?_) rfl (by kernel_rfl) (by kernel_rfl) (by kernel_rfl) (by kernel_rfl) (fun _ _ _ h => h) (Or.inl ⟨by rfl, fun w _ => ?_⟩) ?_
  rotate_left
  · (go_simp; first | done | with_reducible rfl)
  try simp only [Act.put, List.setIfInBounds_toArray, List.set_cons_zero, List.set_cons_succ]
  refine wpAnyW_done (by kernel_rfl) ?_ _
  obtain ⟨p0, p1, p2, pl⟩ := box3 (HBP0.out.bw HB6.out)
  have HBX := hid (HB0.out.trans HB6.out)
  go_wp2_with (first
    | (go_at_call 27; refine (rVersions_any (HW.out.rs.bw HBX.out) (n : Int)).mono ?_; rw [HEQ.out, HC.out, HLI.out]; rintro e w7 ⟨rfl, hb7⟩; have HB7 := hid (HBX.out.trans hb7); clear hb7)
    | (go_at_call 18; refine (Versions_any (HW.out.ms.ds.bw HB7.out) (n : Int)).mono ?_; rw [HF.out, HC.out]; rintro e w8 ⟨he, hb8⟩; obtain rfl : e = .returned (.tuple #[.int .i64 (C : Nat), .int .i64 0]) := he; have HB8 := hid (HB7.out.trans hb8); clear hb8)
    | (go_at_call 19; refine (Of_any (HW.out.ms.ds.bw HB8.out) (n : Int)).mono ?_; rw [HOF.out]; rintro e w9 ⟨rfl, hb9⟩; have HB9 := hid (HB8.out.trans hb9); clear hb9)
    | (go_at_call 12; refine (num_any _ _).mono ?_; rintro e wa ⟨rfl, hwa⟩; subst wa)
    | fail)
  all_goals go_ret
  all_goals exact ⟨rfl, HB9.out⟩

theorem asks_any (h : PW w0 wr p bs F G rv L v LR k B) (n : Int) : Calls Try.prog 14 #[.pointer (some ⟨p, 0, none⟩), rV F G v, .int .i64 n] wr fun e w' => e = .returned (.bool true) ∧ Bw wr w' := by
  by_cases hn : n < 0
  · exact asks_neg h n hn
  obtain ⟨m, rfl⟩ : ∃ m : Nat, n = m := ⟨n.toNat, by omega⟩
  by_cases hl : m < LR.length
  · by_cases hF : m < F
    · rcases all_few h.good (m : Int) with e | ⟨i, e⟩
      · exact asks_hnone h m hl hF e
      · exact asks_hsome h m hl hF i e
    · exact asks_hno h m hl hF
  · by_cases hF : m < F
    · rcases all_few h.good (m : Int) with e | ⟨i, e⟩
      · exact asks_xnone h m hl hF e
      · exact asks_xsome h m hl hF i e
    · exact asks_xno h m hl hF

end

end Go.Proofs.Ytaeifhfhahcoiaa
