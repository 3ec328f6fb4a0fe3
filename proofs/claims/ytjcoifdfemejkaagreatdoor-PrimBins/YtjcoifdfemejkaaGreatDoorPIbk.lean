/- The program's objects, made, further; of nil heaps: the contracts. -/
import Derived.Test.YtjcoifdfemejkaaGreatDoorPIk
set_option linter.unusedSimpArgs false
set_option linter.unusedVariables false
namespace Go.Proofs.YtjcoifdfemejkaaGreatDoor
open Go Go.RowKit

set_option maxHeartbeats 1000000 in
theorem rec_any {b0 : Nat} {H : AHeap} {bs : List Nat} (G : Nat → Prop) (vk v : Value) (k : List ByteArray) (l : List Int) (w : World) (hp : HS w b0 H bs) (hk : Sl w G vk k.length 1 (k.map Value.string)) (h : Sl w G v l.length 1 (l.map (Value.int .u64))) (hu : ∀ x ∈ l, U x) (hm : l.length ≤ 1000000000) (hn : k.length ≤ 1000000000) :
    Calls Tryz.prog 62 #[.pointer (some ⟨b0, 0, none⟩), vk, v] w fun e w' => e = .returned (.tuple #[.int .u64 (aMakeV H (oRec k l)), .int .i64 (aMakeE H (oRec k l))]) ∧ ∃ bs', HS w' b0 (aMakeH H (oRec k l)) bs' ∧ Nx bs w w' bs' := by
  have HA := hid (add_any (fun _ => True) (oRec k l) _ w hp (po_rec hk.any h.any) (shp_rec hu hm hn))
  obtain ⟨a, c, rfl⟩ := h.form
  obtain ⟨a', c', rfl⟩ := hk.form
  clear h hk hp hu
  go_enter Tryz.func62, Tryz.ntmps62
  go_wp2_with (first | (go_at_call 56; refine HA.out.mono ?_; rintro e w' ⟨rfl, H2⟩))
  all_goals go_ret2
  all_goals exact ⟨rfl, H2⟩

set_option maxHeartbeats 1000000 in
theorem fun_any {b0 : Nat} {H : AHeap} {bs : List Nat} (G : Nat → Prop) (n : Int) (v : Value) (l : List Int) (w : World) (hp : HS w b0 H bs) (h : Sl w G v l.length 1 (l.map (Value.int .u64))) (hu : ∀ x ∈ l, U x) (hm : l.length ≤ 1000000000) :
    Calls Tryz.prog 64 #[.pointer (some ⟨b0, 0, none⟩), .int .i64 n, v] w fun e w' => e = .returned (.tuple #[.int .u64 (aMakeV H (oFun n l)), .int .i64 (aMakeE H (oFun n l))]) ∧ ∃ bs', HS w' b0 (aMakeH H (oFun n l)) bs' ∧ Nx bs w w' bs' := by
  have HA := hid (add_any (fun _ => True) (oFun n l) _ w hp (po_fun h.any) (shp_fun hu hm))
  obtain ⟨a, c, rfl⟩ := h.form
  clear h hp hu
  go_enter Tryz.func64, Tryz.ntmps64
  go_wp2_with (first | (go_at_call 56; refine HA.out.mono ?_; rintro e w' ⟨rfl, H2⟩))
  all_goals go_ret2
  all_goals exact ⟨rfl, H2⟩

set_option maxHeartbeats 1000000 in
theorem cplx_any {b0 : Nat} {H : AHeap} {bs : List Nat} (x y : Int) (w : World) (hp : HS w b0 H bs) :
    Calls Tryz.prog 65 #[.pointer (some ⟨b0, 0, none⟩), .int .u64 x, .int .u64 y] w fun e w' => e = .returned (.tuple #[.int .u64 (aMakeV H (oCplx x y)), .int .i64 (aMakeE H (oCplx x y))]) ∧ ∃ bs', HS w' b0 (aMakeH H (oCplx x y)) bs' ∧ Nx bs w w' bs' := by
  have HA := hid (add_any (fun _ => True) (oCplx x y) _ w hp (po_num w _ rfl rfl rfl) (shp_cplx))
  clear hp
  go_enter Tryz.func65, Tryz.ntmps65
  go_wp2_with (first | (go_at_call 56; refine HA.out.mono ?_; rintro e w' ⟨rfl, H2⟩))
  all_goals go_ret2
  all_goals exact ⟨rfl, H2⟩

set_option maxHeartbeats 1000000 in
theorem item_yes {b0 : Nat} {H : AHeap} {bs : List Nat} (k n : Int) (w : World) (hp : HS w b0 H bs) (hk : k = 7 ∨ k = 8 ∨ k = 9) :
    Calls Tryz.prog 66 #[.pointer (some ⟨b0, 0, none⟩), .int .i64 k, .int .i64 n] w fun e w' => e = .returned (.tuple #[.int .u64 (aMakeV H (oItem k n)), .int .i64 (aMakeE H (oItem k n))]) ∧ ∃ bs', HS w' b0 (aMakeH H (oItem k n)) bs' ∧ Nx bs w w' bs' := by
  have HA := hid (add_any (fun _ => True) (oItem k n) _ w hp (po_num w _ rfl rfl rfl) (shp_item hk))
  clear hp
  rcases hk with rfl | rfl | rfl
  all_goals
    go_enter Tryz.func66, Tryz.ntmps66
    go_wp2_with (first | (go_at_call 56; refine HA.out.mono ?_; rintro e w' ⟨rfl, H2⟩))
    all_goals go_ret2
    all_goals exact ⟨rfl, H2⟩

set_option maxHeartbeats 1000000 in
theorem item_no (b0 : Nat) (k n : Int) (w : World) (hk : ¬ (k = 7 ∨ k = 8 ∨ k = 9)) :
    Calls Tryz.prog 66 #[.pointer (some ⟨b0, 0, none⟩), .int .i64 k, .int .i64 n] w fun e w' => e = .returned (.tuple #[.int .u64 0, .int .i64 1]) ∧ w' = w := by
  have h7 : (k != 7) = true := by simp; omega
  have h8 : (k != 8) = true := by simp; omega
  have h9 : (k != 9) = true := by simp; omega
  clear hk
  go_enter Tryz.func66, Tryz.ntmps66
  go_wp2
  all_goals go_ret2
  all_goals exact ⟨rfl, rfl⟩

set_option maxHeartbeats 1000000 in
theorem item_nil (k n : Int) (w : World) :
    Calls Tryz.prog 66 #[.pointer none, .int .i64 k, .int .i64 n] w fun e w' => e = .returned (.tuple #[.int .u64 0, .int .i64 5]) ∧ w' = w := by
  go_enter Tryz.func66, Tryz.ntmps66
  go_wp2
  all_goals go_ret2
  all_goals exact ⟨rfl, rfl⟩

set_option maxHeartbeats 1000000 in
theorem str_nil (a : Option Addr) (n c : Nat) (w : World) :
    Calls Tryz.prog 16 #[.pointer none, .slice a n c] w fun e w' => e = .returned (.tuple #[.int .u64 0, .int .i64 5]) ∧ Ly w w' := by
  go_enter Tryz.func16, Tryz.ntmps16
  go_wp2_with (first | (go_at_call 56; refine (add_nil (1, [], [], [], 0, 0, 0) (.slice a n c) (.slice none 0 0) (.slice none 0 0) _ ⟨_, _, _, rfl⟩ ⟨_, _, _, rfl⟩ ⟨_, _, _, rfl⟩).mono ?_; rintro e w' ⟨rfl, os, m, rfl⟩))
  all_goals go_ret2
  all_goals exact ⟨rfl, by repeat (first | exact Ly.refl _ | apply Ly.lay | apply Ly.alloc | apply Ly.drewN | apply Ly.drew)⟩

set_option maxHeartbeats 1000000 in
theorem arr_nil (a : Option Addr) (n c : Nat) (w : World) :
    Calls Tryz.prog 18 #[.pointer none, .slice a n c] w fun e w' => e = .returned (.tuple #[.int .u64 0, .int .i64 5]) ∧ Ly w w' := by
  go_enter Tryz.func18, Tryz.ntmps18
  go_wp2_with (first | (go_at_call 56; refine (add_nil (2, [], [], [], 0, 0, 0) (.slice none 0 0) (.slice none 0 0) (.slice a n c) _ ⟨_, _, _, rfl⟩ ⟨_, _, _, rfl⟩ ⟨_, _, _, rfl⟩).mono ?_; rintro e w' ⟨rfl, os, m, rfl⟩))
  all_goals go_ret2
  all_goals exact ⟨rfl, by repeat (first | exact Ly.refl _ | apply Ly.lay | apply Ly.alloc | apply Ly.drewN | apply Ly.drew)⟩

set_option maxHeartbeats 1000000 in
theorem rec_nil (a a1 : Option Addr) (n c n1 c1 : Nat) (w : World) :
    Calls Tryz.prog 62 #[.pointer none, .slice a n c, .slice a1 n1 c1] w fun e w' => e = .returned (.tuple #[.int .u64 0, .int .i64 5]) ∧ Ly w w' := by
  go_enter Tryz.func62, Tryz.ntmps62
  go_wp2_with (first | (go_at_call 56; refine (add_nil (3, [], [], [], 0, 0, 0) (.slice none 0 0) (.slice a n c) (.slice a1 n1 c1) _ ⟨_, _, _, rfl⟩ ⟨_, _, _, rfl⟩ ⟨_, _, _, rfl⟩).mono ?_; rintro e w' ⟨rfl, os, m, rfl⟩))
  all_goals go_ret2
  all_goals exact ⟨rfl, by repeat (first | exact Ly.refl _ | apply Ly.lay | apply Ly.alloc | apply Ly.drewN | apply Ly.drew)⟩

set_option maxHeartbeats 1000000 in
theorem cell_nil (x : Int) (w : World) :
    Calls Tryz.prog 63 #[.pointer none, .int .u64 x] w fun e w' => e = .returned (.tuple #[.int .u64 0, .int .i64 5]) ∧ Ly w w' := by
  go_enter Tryz.func63, Tryz.ntmps63
  go_wp2_with (first | (go_at_call 56; refine (add_nil (4, [], [], [], 0, 0, 0) (.slice none 0 0) (.slice none 0 0) (.slice (some ⟨w.heap.size, 0, none⟩) 1 1) _ ⟨_, _, _, rfl⟩ ⟨_, _, _, rfl⟩ ⟨_, _, _, rfl⟩).mono ?_; rintro e w' ⟨rfl, os, m, rfl⟩))
  all_goals go_ret2
  all_goals exact ⟨rfl, by repeat (first | exact Ly.refl _ | apply Ly.lay | apply Ly.alloc | apply Ly.drewN | apply Ly.drew)⟩

set_option maxHeartbeats 1000000 in
theorem fun_nil (f : Int) (a : Option Addr) (n c : Nat) (w : World) :
    Calls Tryz.prog 64 #[.pointer none, .int .i64 f, .slice a n c] w fun e w' => e = .returned (.tuple #[.int .u64 0, .int .i64 5]) ∧ Ly w w' := by
  go_enter Tryz.func64, Tryz.ntmps64
  go_wp2_with (first | (go_at_call 56; refine (add_nil (5, [], [], [], f, 0, 0) (.slice none 0 0) (.slice none 0 0) (.slice a n c) _ ⟨_, _, _, rfl⟩ ⟨_, _, _, rfl⟩ ⟨_, _, _, rfl⟩).mono ?_; rintro e w' ⟨rfl, os, m, rfl⟩))
  all_goals go_ret2
  all_goals exact ⟨rfl, by repeat (first | exact Ly.refl _ | apply Ly.lay | apply Ly.alloc | apply Ly.drewN | apply Ly.drew)⟩

set_option maxHeartbeats 1000000 in
theorem cplx_nil (x y : Int) (w : World) :
    Calls Tryz.prog 65 #[.pointer none, .int .u64 x, .int .u64 y] w fun e w' => e = .returned (.tuple #[.int .u64 0, .int .i64 5]) ∧ Ly w w' := by
  go_enter Tryz.func65, Tryz.ntmps65
  go_wp2_with (first | (go_at_call 56; refine (add_nil (6, [], [], [], 0, x, y) (.slice none 0 0) (.slice none 0 0) (.slice none 0 0) _ ⟨_, _, _, rfl⟩ ⟨_, _, _, rfl⟩ ⟨_, _, _, rfl⟩).mono ?_; rintro e w' ⟨rfl, os, m, rfl⟩))
  all_goals go_ret2
  all_goals exact ⟨rfl, by repeat (first | exact Ly.refl _ | apply Ly.lay | apply Ly.alloc | apply Ly.drewN | apply Ly.drew)⟩

end Go.Proofs.YtjcoifdfemejkaaGreatDoor

