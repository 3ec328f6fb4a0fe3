/- The program's objects, made, further; of nil heaps: the contracts. -/
import Derived.Test.YtajnpdiepiinjaaDoorPI
set_option linter.unusedSimpArgs false
set_option linter.unusedVariables false
namespace Go.Proofs.YtajnpdiepiinjaaDoor
open Go Go.RowKit





set_option maxHeartbeats 1000000 in
theorem cplx_any {b0 : Nat} {H : AHeap} {bs : List Nat} (x y : Int) (w : World) (hp : HS w b0 H bs) :
    Calls Tryd.prog 72 #[.pointer (some ⟨b0, 0, none⟩), .int .u64 x, .int .u64 y] w fun e w' => e = .returned (.tuple #[.int .u64 (aMakeV H (oCplx x y)), .int .i64 (aMakeE H (oCplx x y))]) ∧ ∃ bs', HS w' b0 (aMakeH H (oCplx x y)) bs' ∧ Nx bs w w' bs' := by
  have HA := hid (add_any (fun _ => True) (oCplx x y) _ w hp (po_num w _ rfl rfl rfl) (shp_cplx))
  clear hp
  go_enter Tryd.func72, Tryd.ntmps72
  go_wp2_with (first | (go_at_call 17; refine HA.out.mono ?_; rintro e w' ⟨rfl, H2⟩))
  all_goals go_ret2
  all_goals exact ⟨rfl, H2⟩







set_option maxHeartbeats 1000000 in
theorem str_nil (a : Option Addr) (n c : Nat) (w : World) :
    Calls Tryd.prog 12 #[.pointer none, .slice a n c] w fun e w' => e = .returned (.tuple #[.int .u64 0, .int .i64 5]) ∧ Ly w w' := by
  go_enter Tryd.func12, Tryd.ntmps12
  go_wp2_with (first | (go_at_call 17; refine (add_nil (1, [], [], [], 0, 0, 0) (.slice a n c) (.slice none 0 0) (.slice none 0 0) _ ⟨_, _, _, rfl⟩ ⟨_, _, _, rfl⟩ ⟨_, _, _, rfl⟩).mono ?_; rintro e w' ⟨rfl, os, m, rfl⟩))
  all_goals go_ret2
  all_goals exact ⟨rfl, by repeat (first | exact Ly.refl _ | apply Ly.lay | apply Ly.alloc | apply Ly.drewN | apply Ly.drew)⟩

set_option maxHeartbeats 1000000 in
theorem arr_nil (a : Option Addr) (n c : Nat) (w : World) :
    Calls Tryd.prog 15 #[.pointer none, .slice a n c] w fun e w' => e = .returned (.tuple #[.int .u64 0, .int .i64 5]) ∧ Ly w w' := by
  go_enter Tryd.func15, Tryd.ntmps15
  go_wp2_with (first | (go_at_call 17; refine (add_nil (2, [], [], [], 0, 0, 0) (.slice none 0 0) (.slice none 0 0) (.slice a n c) _ ⟨_, _, _, rfl⟩ ⟨_, _, _, rfl⟩ ⟨_, _, _, rfl⟩).mono ?_; rintro e w' ⟨rfl, os, m, rfl⟩))
  all_goals go_ret2
  all_goals exact ⟨rfl, by repeat (first | exact Ly.refl _ | apply Ly.lay | apply Ly.alloc | apply Ly.drewN | apply Ly.drew)⟩







set_option maxHeartbeats 1000000 in
theorem cplx_nil (x y : Int) (w : World) :
    Calls Tryd.prog 72 #[.pointer none, .int .u64 x, .int .u64 y] w fun e w' => e = .returned (.tuple #[.int .u64 0, .int .i64 5]) ∧ Ly w w' := by
  go_enter Tryd.func72, Tryd.ntmps72
  go_wp2_with (first | (go_at_call 17; refine (add_nil (6, [], [], [], 0, x, y) (.slice none 0 0) (.slice none 0 0) (.slice none 0 0) _ ⟨_, _, _, rfl⟩ ⟨_, _, _, rfl⟩ ⟨_, _, _, rfl⟩).mono ?_; rintro e w' ⟨rfl, os, m, rfl⟩))
  all_goals go_ret2
  all_goals exact ⟨rfl, by repeat (first | exact Ly.refl _ | apply Ly.lay | apply Ly.alloc | apply Ly.drewN | apply Ly.drew)⟩

end Go.Proofs.YtajnpdiepiinjaaDoor
