/- The statements' maker of objects, of nil heaps: the contract. -/
import Derived.Test.YtjemhdepgeecjaaPIb
import Derived.Test.YtjemhdepgeecjaaPV
import Derived.Test.YtjemhdepgeecjaaFa
set_option linter.unusedSimpArgs false
set_option linter.unusedVariables false
namespace Go.Proofs.Ytjemhdepgeecjaa
open Go Go.RowKit

theorem infoRO : (Try.prog.info? 55).map (fun i => i.zero) = some (some (.agg #[.int .i64 0, .slice none 0 0, .slice none 0 0, .slice none 0 0, .int .i64 0, .int .u64 0, .int .u64 0])) := by kernel_rfl

/-- A value that is an object of the document, with slices for its lists. -/
def IsObj (v : Value) : Prop := ∃ (k n r i : Int) (a1 a2 a3 : Option Addr) (n1 n2 n3 c1 c2 c3 : Nat), v = .agg #[.int .i64 k, .slice a1 n1 c1, .slice a2 n2 c2, .slice a3 n3 c3, .int .i64 n, .int .u64 r, .int .u64 i]

set_option maxHeartbeats 16000000 in
set_option maxRecDepth 100000 in
theorem make1_nil0 (a : AAct) (a1 a2 a3 : Option Addr) (n1 n2 n3 c1 c2 c3 : Nat) (w : World) (hre : U a.Re) (hd : a.Do = 0) :
    Calls Try.prog 21 #[.pointer none, actV a (.slice a1 n1 c1, .slice a2 n2 c2, .slice a3 n3 c3)] w fun e w' => ∃ v, e = .returned (.tuple #[.int .u64 0, .int .i64 5, v]) ∧ IsObj v ∧ Ly w w' := by
  go_enter Try.func21, Try.ntmps21
  go_wp2_with (first
    | (go_at_call 32; refine (str_nil _ _ _ _).mono ?_; rintro e w' ⟨rfl, os, m, rfl⟩))
  go_region
  all_goals go_wp2
  all_goals
    refine bodyPost_ret (v := .tuple #[.int .u64 0, .int .i64 5, .agg #[.int .i64 1, .slice a1 n1 c1, .slice none 0 0, .slice none 0 0, .int .i64 0, .int .u64 0, .int .u64 0]]) (by simp [results, Try.results21, go_sem]) rfl ?_
    exact ⟨_, rfl, ⟨_, _, _, _, _, _, _, _, _, _, _, _, _, rfl⟩, by repeat (first | exact Ly.refl _ | apply Ly.lay | apply Ly.alloc | apply Ly.drewN | apply Ly.drew)⟩

set_option maxHeartbeats 16000000 in
set_option maxRecDepth 100000 in
theorem make1_nil1 (a : AAct) (a1 a2 a3 : Option Addr) (n1 n2 n3 c1 c2 c3 : Nat) (w : World) (hre : U a.Re) (hd : a.Do = 1) :
    Calls Try.prog 21 #[.pointer none, actV a (.slice a1 n1 c1, .slice a2 n2 c2, .slice a3 n3 c3)] w fun e w' => ∃ v, e = .returned (.tuple #[.int .u64 0, .int .i64 5, v]) ∧ IsObj v ∧ Ly w w' := by
  go_enter Try.func21, Try.ntmps21
  go_wp2_with (first
    | (go_at_call 33; refine (arr_nil _ _ _ _).mono ?_; rintro e w' ⟨rfl, os, m, rfl⟩))
  go_region
  all_goals go_wp2
  all_goals
    refine bodyPost_ret (v := .tuple #[.int .u64 0, .int .i64 5, .agg #[.int .i64 2, .slice none 0 0, .slice a2 n2 c2, .slice none 0 0, .int .i64 0, .int .u64 0, .int .u64 0]]) (by simp [results, Try.results21, go_sem]) rfl ?_
    exact ⟨_, rfl, ⟨_, _, _, _, _, _, _, _, _, _, _, _, _, rfl⟩, by repeat (first | exact Ly.refl _ | apply Ly.lay | apply Ly.alloc | apply Ly.drewN | apply Ly.drew)⟩

set_option maxHeartbeats 16000000 in
set_option maxRecDepth 100000 in
theorem make1_nil2 (a : AAct) (a1 a2 a3 : Option Addr) (n1 n2 n3 c1 c2 c3 : Nat) (w : World) (hre : U a.Re) (hd : a.Do = 2) :
    Calls Try.prog 21 #[.pointer none, actV a (.slice a1 n1 c1, .slice a2 n2 c2, .slice a3 n3 c3)] w fun e w' => ∃ v, e = .returned (.tuple #[.int .u64 0, .int .i64 5, v]) ∧ IsObj v ∧ Ly w w' := by
  go_enter Try.func21, Try.ntmps21
  go_wp2_with (first
    | (go_at_call 35; refine (rec_nil _ _ _ _ _ _ _).mono ?_; rintro e w' ⟨rfl, os, m, rfl⟩))
  go_region
  all_goals go_wp2
  all_goals
    refine bodyPost_ret (v := .tuple #[.int .u64 0, .int .i64 5, .agg #[.int .i64 3, .slice none 0 0, .slice a2 n2 c2, .slice a3 n3 c3, .int .i64 0, .int .u64 0, .int .u64 0]]) (by simp [results, Try.results21, go_sem]) rfl ?_
    exact ⟨_, rfl, ⟨_, _, _, _, _, _, _, _, _, _, _, _, _, rfl⟩, by repeat (first | exact Ly.refl _ | apply Ly.lay | apply Ly.alloc | apply Ly.drewN | apply Ly.drew)⟩

set_option maxHeartbeats 16000000 in
set_option maxRecDepth 100000 in
theorem make1_nil3 (a : AAct) (a1 a2 a3 : Option Addr) (n1 n2 n3 c1 c2 c3 : Nat) (w : World) (hre : U a.Re) (hd : a.Do = 3) :
    Calls Try.prog 21 #[.pointer none, actV a (.slice a1 n1 c1, .slice a2 n2 c2, .slice a3 n3 c3)] w fun e w' => ∃ v, e = .returned (.tuple #[.int .u64 0, .int .i64 5, v]) ∧ IsObj v ∧ Ly w w' := by
  go_enter Try.func21, Try.ntmps21
  go_wp2_with (first
    | (go_at_call 38; refine (cell_nil _ _).mono ?_; rintro e w' ⟨rfl, os, m, rfl⟩))
  go_region
  all_goals go_wp2
  all_goals
    refine bodyPost_ret (v := .tuple #[.int .u64 0, .int .i64 5, .agg #[.int .i64 4, .slice none 0 0, .slice (some ⟨w.heap.size + 1 + 1 + os.length, 0, none⟩) 1 1, .slice none 0 0, .int .i64 0, .int .u64 0, .int .u64 0]]) (by simp [results, Try.results21, go_sem]) rfl ?_
    exact ⟨_, rfl, ⟨_, _, _, _, _, _, _, _, _, _, _, _, _, rfl⟩, by repeat (first | exact Ly.refl _ | apply Ly.lay | apply Ly.alloc | apply Ly.drewN | apply Ly.drew)⟩

set_option maxHeartbeats 16000000 in
set_option maxRecDepth 100000 in
theorem make1_nil4 (a : AAct) (a1 a2 a3 : Option Addr) (n1 n2 n3 c1 c2 c3 : Nat) (w : World) (hre : U a.Re) (hd : a.Do = 4) :
    Calls Try.prog 21 #[.pointer none, actV a (.slice a1 n1 c1, .slice a2 n2 c2, .slice a3 n3 c3)] w fun e w' => ∃ v, e = .returned (.tuple #[.int .u64 0, .int .i64 5, v]) ∧ IsObj v ∧ Ly w w' := by
  go_enter Try.func21, Try.ntmps21
  go_wp2_with (first
    | (go_at_call 34; refine (fun_nil _ _ _ _ _).mono ?_; rintro e w' ⟨rfl, os, m, rfl⟩))
  go_region
  all_goals go_wp2
  all_goals
    refine bodyPost_ret (v := .tuple #[.int .u64 0, .int .i64 5, .agg #[.int .i64 5, .slice none 0 0, .slice a2 n2 c2, .slice none 0 0, .int .i64 a.I, .int .u64 0, .int .u64 0]]) (by simp [results, Try.results21, go_sem]) rfl ?_
    exact ⟨_, rfl, ⟨_, _, _, _, _, _, _, _, _, _, _, _, _, rfl⟩, by repeat (first | exact Ly.refl _ | apply Ly.lay | apply Ly.alloc | apply Ly.drewN | apply Ly.drew)⟩

set_option maxHeartbeats 16000000 in
set_option maxRecDepth 100000 in
theorem make1_nil5 (a : AAct) (a1 a2 a3 : Option Addr) (n1 n2 n3 c1 c2 c3 : Nat) (w : World) (hre : U a.Re) (hd : a.Do = 5) :
    Calls Try.prog 21 #[.pointer none, actV a (.slice a1 n1 c1, .slice a2 n2 c2, .slice a3 n3 c3)] w fun e w' => ∃ v, e = .returned (.tuple #[.int .u64 0, .int .i64 5, v]) ∧ IsObj v ∧ Ly w w' := by
  go_enter Try.func21, Try.ntmps21
  go_wp2_with (first
    | (go_at_call 50; refine (cplx_nil _ _ _).mono ?_; rintro e w' ⟨rfl, os, m, rfl⟩))
  go_region
  all_goals go_wp2
  all_goals
    refine bodyPost_ret (v := .tuple #[.int .u64 0, .int .i64 5, .agg #[.int .i64 6, .slice none 0 0, .slice none 0 0, .slice none 0 0, .int .i64 0, .int .u64 a.Re, .int .u64 a.Im]]) (by simp [results, Try.results21, go_sem]) rfl ?_
    exact ⟨_, rfl, ⟨_, _, _, _, _, _, _, _, _, _, _, _, _, rfl⟩, by repeat (first | exact Ly.refl _ | apply Ly.lay | apply Ly.alloc | apply Ly.drewN | apply Ly.drew)⟩

set_option maxHeartbeats 16000000 in
set_option maxRecDepth 100000 in
theorem make1_nil6 (a : AAct) (a1 a2 a3 : Option Addr) (n1 n2 n3 c1 c2 c3 : Nat) (w : World) (hre : U a.Re) (hd : a.Do = 6) :
    Calls Try.prog 21 #[.pointer none, actV a (.slice a1 n1 c1, .slice a2 n2 c2, .slice a3 n3 c3)] w fun e w' => ∃ v, e = .returned (.tuple #[.int .u64 0, .int .i64 5, v]) ∧ IsObj v ∧ Ly w w' := by
  have h4 : (7 + (a.Re % 4)) ≤ 10 ∧ 7 ≤ 7 + (a.Re % 4) := by omega
  have h5 : a.Re.tmod 4 = a.Re % 4 := Int.tmod_eq_emod_of_nonneg hre.1
  go_enter Try.func21, Try.ntmps21
  go_wp2_with (first
    | (go_at_call 51; refine (item_nil _ _ _).mono ?_; rintro e w' ⟨rfl, rfl⟩))
  go_region
  all_goals go_wp2
  all_goals
    refine bodyPost_ret (v := .tuple #[.int .u64 0, .int .i64 5, .agg #[.int .i64 (7 + a.Re % 4), .slice none 0 0, .slice none 0 0, .slice none 0 0, .int .i64 a.I, .int .u64 0, .int .u64 0]]) (by simp [results, Try.results21, go_sem]) rfl ?_
    exact ⟨_, rfl, ⟨_, _, _, _, _, _, _, _, _, _, _, _, _, rfl⟩, by repeat (first | exact Ly.refl _ | apply Ly.lay | apply Ly.alloc | apply Ly.drewN | apply Ly.drew)⟩

theorem make1_nil (a : AAct) (a1 a2 a3 : Option Addr) (n1 n2 n3 c1 c2 c3 : Nat) (w : World) (hre : U a.Re) (h0 : 0 ≤ a.Do) (h6 : a.Do ≤ 6) :
    Calls Try.prog 21 #[.pointer none, actV a (.slice a1 n1 c1, .slice a2 n2 c2, .slice a3 n3 c3)] w fun e w' => ∃ v, e = .returned (.tuple #[.int .u64 0, .int .i64 5, v]) ∧ IsObj v ∧ Ly w w' := by
  have h : a.Do = 0 ∨ a.Do = 1 ∨ a.Do = 2 ∨ a.Do = 3 ∨ a.Do = 4 ∨ a.Do = 5 ∨ a.Do = 6 := by omega
  rcases h with h | h | h | h | h | h | h
  · exact make1_nil0 a a1 a2 a3 n1 n2 n3 c1 c2 c3 w hre h
  · exact make1_nil1 a a1 a2 a3 n1 n2 n3 c1 c2 c3 w hre h
  · exact make1_nil2 a a1 a2 a3 n1 n2 n3 c1 c2 c3 w hre h
  · exact make1_nil3 a a1 a2 a3 n1 n2 n3 c1 c2 c3 w hre h
  · exact make1_nil4 a a1 a2 a3 n1 n2 n3 c1 c2 c3 w hre h
  · exact make1_nil5 a a1 a2 a3 n1 n2 n3 c1 c2 c3 w hre h
  · exact make1_nil6 a a1 a2 a3 n1 n2 n3 c1 c2 c3 w hre h

end Go.Proofs.Ytjemhdepgeecjaa
