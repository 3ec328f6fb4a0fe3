/- The instructions' table; Name, Safe, Effect: contracts; the page's examples. -/
import Derived.Test.YtcljlmjcjfmppaaDoorMb
set_option linter.unusedSimpArgs false
set_option linter.unusedVariables false
namespace Go.Proofs.YtcljlmjcjfmppaaDoor
open Go Go.RowKit

/-- The table of instructions: name, what it takes, what it puts, whether it is safe. -/
def opsL : List (List Int × Int × Int × Bool) := [([105, 110, 116], 0, 1, false), ([97, 116, 111, 109], 0, 1, false), ([115, 116, 114], 0, 1, false), ([112, 114, 105, 109], 0, 1, false), ([112, 111, 112], 1, 0, false), ([108, 111, 97, 100], 0, 1, false), ([115, 116, 111, 114, 101], 1, 0, false), ([98, 111, 120], 0, 0, false), ([108, 111, 97, 100, 99, 101, 108, 108], 0, 1, false), ([115, 116, 111, 114, 101, 99, 101, 108, 108], 1, 0, false), ([108, 111, 97, 100, 99, 97, 112], 0, 1, false), ([115, 116, 111, 114, 101, 99, 97, 112], 1, 0, false), ([108, 111, 97, 100, 103, 108, 111, 98, 97, 108], 0, 1, false), ([115, 116, 111, 114, 101, 103, 108, 111, 98, 97, 108], 1, 0, true), ([108, 105, 115, 116], 0, 1, false), ([114, 101, 99], 0, 1, false), ([102, 117, 110], 0, 1, false), ([98, 105, 110], 2, 1, false), ([110, 111, 116], 1, 1, false), ([110, 101, 103], 1, 1, false), ([106, 117, 109, 112], 0, 0, false), ([102, 97, 108, 115, 101], 1, 0, false), ([107, 101, 101, 112, 102, 97, 108, 115, 101], 1, 0, false), ([107, 101, 101, 112, 116, 114, 117, 101], 1, 0, false), ([108, 111, 111, 112], 0, 0, true), ([99, 97, 108, 108], 1, 1, true), ([115, 112, 97, 119, 110], 1, 1, true), ([114, 101, 116, 117, 114, 110], 1, 0, true), ([116, 104, 114, 111, 119], 1, 0, false), ([105, 110, 100, 101, 120], 2, 1, false), ([115, 101, 116, 105, 110, 100, 101, 120], 3, 0, false), ([102, 105, 101, 108, 100], 1, 1, false), ([115, 101, 116, 102, 105, 101, 108, 100], 2, 0, false)]

/-- The program's table holds it. -/
def Og (w : World) : Prop := 0 < w.heap.size ∧ ∀ i x, opsL[i]? = some x → w.cell? ⟨0, i * 4, none⟩ = some (.string (strOfNums x.1)) ∧ w.cell? ⟨0, i * 4 + 1, none⟩ = some (.int .i64 x.2.1) ∧ w.cell? ⟨0, i * 4 + 2, none⟩ = some (.int .i64 x.2.2.1) ∧ w.cell? ⟨0, i * 4 + 3, none⟩ = some (.bool x.2.2.2)

theorem Og.bw {w w' : World} (h : Og w) (hb : Bw w w') : Og w' := by
  refine ⟨Nat.lt_of_lt_of_le h.1 hb.size, fun i x hx => ?_⟩
  have e := fun j => World.cell?_of_block (w := w) (w' := w') (a := ⟨0, j, none⟩) (hb.block 0 h.1)
  rw [e, e, e, e]
  exact h.2 i x hx

def isOp (op : Int) : Bool := decide (0 ≤ op ∧ op < 33)
def opAt (op : Int) : List Int × Int × Int × Bool := opsL.getD op.toNat ([], 0, 0, false)
def nameM (op : Int) : List Int := if isOp op then (opAt op).1 else []
def safeM (op : Int) : Bool := isOp op && (opAt op).2.2.2
/-- What an instruction takes by its A. -/
def takenM (ks : List (List Int)) (op a : Int) : Option Int :=
  if op = 14 ∨ op = 25 ∨ op = 26 then (if 0 ≤ a ∧ a ≤ 255 then some a else none)
  else if op = 15 then (if 0 ≤ a ∧ a < ks.length then some ((ks.getD a.toNat []).length : Int) else none)
  else some 0
def effM (ks : List (List Int)) (op a : Int) : Int × Int × Int :=
  if isOp op then match takenM ks op a with
    | some m => ((opAt op).2.1 + m, (opAt op).2.2.1, 0)
    | none => (0, 0, 1)
  else (0, 0, 8)

theorem opsL_len : opsL.length = 33 := rfl
theorem opAt_get {op : Int} (h : isOp op = true) : ∃ k : Nat, op = k ∧ k < 33 ∧ opsL[k]? = some (opAt op) := by
  unfold isOp at h
  rw [decide_eq_true_eq] at h
  refine ⟨op.toNat, by omega, by omega, ?_⟩
  unfold opAt
  rw [List.getD_eq_getElem?_getD, List.getElem?_eq_getElem (by rw [opsL_len]; omega)]
  rfl
theorem opAt_bd (op : Int) : (0 ≤ (opAt op).2.1 ∧ (opAt op).2.1 ≤ 3) ∧ 0 ≤ (opAt op).2.2.1 ∧ (opAt op).2.2.1 ≤ 1 := by
  have h : ∀ x ∈ opsL, (0 ≤ x.2.1 ∧ x.2.1 ≤ 3) ∧ 0 ≤ x.2.2.1 ∧ x.2.2.1 ≤ 1 := by decide
  unfold opAt
  rw [List.getD_eq_getElem?_getD]
  cases hx : opsL[op.toNat]? with
  | none => decide
  | some x => exact h x (List.mem_of_getElem? hx)

section
variable {w w' : World}

set_option maxRecDepth 100000 in
set_option maxHeartbeats 8000000 in
theorem isOperation_any (op : Int) (w : World) :
    Calls Tryd.prog 32 #[.int .i64 op] w fun e w' => e = .returned (.bool (isOp op)) ∧ w' = w := by
  by_cases h0 : 0 ≤ op
  · by_cases h1 : op < 33
    · have e : isOp op = true := decide_eq_true ⟨h0, h1⟩
      rw [e]
      go_enter Tryd.func32, Tryd.ntmps32
      go_wp2
      all_goals go_ret
      all_goals exact ⟨rfl, rfl⟩
    · have e : isOp op = false := decide_eq_false (by omega)
      have h1b : decide (op < 33) = false := decide_eq_false h1
      rw [e]
      go_enter Tryd.func32, Tryd.ntmps32
      go_wp2
      all_goals go_ret
      all_goals exact ⟨rfl, rfl⟩
  · have e : isOp op = false := decide_eq_false (by omega)
    have h0b : decide (0 ≤ op) = false := decide_eq_false h0
    rw [e]
    go_enter Tryd.func32, Tryd.ntmps32
    go_wp2
    all_goals go_ret
    all_goals exact ⟨rfl, rfl⟩

set_option maxRecDepth 100000 in
set_option maxHeartbeats 8000000 in
theorem name_any (op : Int) (ho : Og w) :
    Calls Tryd.prog 27 #[.int .i64 op] w fun e w' => e = .returned (.string (strOfNums (nameM op))) ∧ w' = w := by
  unfold nameM
  cases hq : isOp op
  · have HQ := hid hq
    rw [if_neg (by decide)]
    go_enter Tryd.func27, Tryd.ntmps27
    go_wp2_with (first
      | (go_at_call 32; refine (isOperation_any _ _).mono ?_; rintro e w1 ⟨rfl, hw1⟩; subst w1; rw [HQ.out])
      | fail)
    all_goals go_ret
    all_goals exact ⟨rfl, rfl⟩
  · have HQ := hid hq
    rw [if_pos rfl]
    obtain ⟨k, hk, hk33, hg⟩ := opAt_get hq
    obtain ⟨c0, c1, c2, c3⟩ := ho.2 k _ hg
    generalize strOfNums (opAt op).1 = ss at *
    generalize opAt op = oa at *
    have h0 := ho.1
    clear hq hg
    subst hk
    go_enter Tryd.func27, Tryd.ntmps27
    go_wp2_with (first
      | (go_at_call 32; refine (isOperation_any _ _).mono ?_; rintro e w1 ⟨rfl, hw1⟩; subst w1; rw [HQ.out])
      | fail)
    all_goals go_ret
    all_goals exact ⟨rfl, rfl⟩



end

end Go.Proofs.YtcljlmjcjfmppaaDoor
