/- The program's objects, asked: what they are made of: the contracts. -/
import Derived.Test.YtolfgkpmcfneiabPJ
import Derived.Deep.RegionWith
set_option linter.unusedSimpArgs false
set_option linter.unusedVariables false
namespace Go.Proofs.Ytolfgkpmcfneiab
open Go Go.RowKit











set_option maxHeartbeats 2000000 in
theorem len_str {b0 : Nat} {H : AHeap} {bs : List Nat} (v : Int) (hU : U v) (w : World) (hp : HS w b0 H bs) (hk : kk H v = 1) :
    Calls Try.prog 11 #[.pointer (some ⟨b0, 0, none⟩), .int .u64 v] w fun e w' => e = .returned (.tuple #[.int .i64 (ob H v).bytes.length, .int .i64 0]) ∧ Ly w w' := by
  obtain ⟨vo, t, hph, rfl⟩ := hp
  have HP := hid (hph.bw ((Bw.refl w).alloc (.cells #[.int .i64 1, .int .i64 2, .int .i64 3] 3)))
  obtain ⟨g, cap, xb, xk, xl, rfl, hx, hl, hg, hkl, q0, q1, q2, q3, q4, q5, q6, hf⟩ := hph.obj hU (by omega)
  have HS0 := hid (sl_new w [.int .i64 1, .int .i64 2, .int .i64 3] 3 3 rfl)
  have hoo := ob_ok (v := v) hph.ok hU (kk_ref (by omega)).2.1
  obtain ⟨ab, cb, rfl⟩ := own_form hl.1
  obtain ⟨al, cl, rfl⟩ := own_form hl.2.2
  clear hph hl hx hf hoo q2 q3 q4 q5 q6
  go_enter Try.func11, Try.ntmps11
  go_wp2_with (first
    | (go_at_call 19; refine (find_yes (fun _ => True) _ hU _ [1, 2, 3] _ HP.out HS0.out (by decide) (by decide) (by simp [hk])).mono ?_; rintro e w' ⟨g', cap', hvo, rfl, rfl⟩; cases hvo))
  all_goals go_ret2
  all_goals exact ⟨rfl, by repeat (first | exact Ly.refl _ | apply Ly.lay | apply Ly.alloc | apply Ly.drewN | apply Ly.drew)⟩

set_option maxHeartbeats 2000000 in
theorem len_list {b0 : Nat} {H : AHeap} {bs : List Nat} (v : Int) (hU : U v) (w : World) (hp : HS w b0 H bs) (hk : kk H v = 2 ∨ kk H v = 3) :
    Calls Try.prog 11 #[.pointer (some ⟨b0, 0, none⟩), .int .u64 v] w fun e w' => e = .returned (.tuple #[.int .i64 (ob H v).vals.length, .int .i64 0]) ∧ Ly w w' := by
  have hkb : (kk H v == 1) = false := by rw [beq_eq_false_iff_ne]; omega
  obtain ⟨vo, t, hph, rfl⟩ := hp
  have HP := hid (hph.bw ((Bw.refl w).alloc (.cells #[.int .i64 1, .int .i64 2, .int .i64 3] 3)))
  obtain ⟨g, cap, xb, xk, xl, rfl, hx, hl, hg, hkl, q0, q1, q2, q3, q4, q5, q6, hf⟩ := hph.obj hU (by omega)
  have HS0 := hid (sl_new w [.int .i64 1, .int .i64 2, .int .i64 3] 3 3 rfl)
  have hoo := ob_ok (v := v) hph.ok hU (kk_ref (by omega)).2.1
  obtain ⟨ab, cb, rfl⟩ := own_form hl.1
  obtain ⟨al, cl, rfl⟩ := own_form hl.2.2
  clear hph hl hx hf hoo q1 q2 q4 q5 q6
  go_enter Try.func11, Try.ntmps11
  go_wp2_with (first
    | (go_at_call 19; refine (find_yes (fun _ => True) _ hU _ [1, 2, 3] _ HP.out HS0.out (by decide) (by decide) (by simp; omega)).mono ?_; rintro e w' ⟨g', cap', hvo, rfl, rfl⟩; cases hvo))
  all_goals go_ret2
  all_goals exact ⟨rfl, by repeat (first | exact Ly.refl _ | apply Ly.lay | apply Ly.alloc | apply Ly.drewN | apply Ly.drew)⟩

end Go.Proofs.Ytolfgkpmcfneiab
