/- The program's objects, asked: what they are made of: the contracts. -/
import Derived.Test.YtjcoifdfemejkaaGreatDoorPJk
import Derived.Deep.RegionWith
set_option linter.unusedSimpArgs false
set_option linter.unusedVariables false
namespace Go.Proofs.YtjcoifdfemejkaaGreatDoor
open Go Go.RowKit

set_option maxHeartbeats 2000000 in
theorem bytes_yes {b0 : Nat} {H : AHeap} {bs : List Nat} (v : Int) (hU : U v) (w : World) (hp : HS w b0 H bs) (hk : kk H v = 1) :
    Calls Tryz.prog 17 #[.pointer (some ⟨b0, 0, none⟩), .int .u64 v] w fun e w' => ∃ r, e = .returned (.tuple #[r, .int .i64 0]) ∧ w'.ownsRow w.heap.size 5 1 r (ob H v).bytes.length ((ob H v).bytes.map (Value.int .u8)) ∧ Bw w w' := by
  obtain ⟨vo, t, hph, rfl⟩ := hp
  have HP := hid (hph.bw ((Bw.refl w).alloc (.cells #[.int .i64 1] 3)))
  obtain ⟨g, cap, xb, xk, xl, rfl, hx, hl, hg, hkl, q0, q1, q2, q3, q4, q5, q6, hf⟩ := hph.obj hU (by omega)
  have HS0 := hid (sl_new w [.int .i64 1] 3 1 rfl)
  have hoo := ob_ok (v := v) hph.ok hU (kk_ref (by omega)).2.1
  have HL := hid (own_sl (G := fun _ => True) hl.1 (fun _ _ => trivial))
  obtain ⟨ab, cb, rfl⟩ := own_form hl.1
  have hm := hoo.2.2.2.2.2.1
  clear hph hl hx hf hoo q0 q2 q3 q4 q5 q6
  go_enter Tryz.func17, Tryz.ntmps17
  go_wp2_with (first
    | (go_at_call 57; refine (find_yes (fun _ => True) _ hU _ [1] _ HP.out HS0.out (by decide) (by decide) (by simp [hk])).mono ?_; rintro e w' ⟨g', cap', hvo, rfl, rfl⟩; cases hvo)
    | (go_at_call 58; refine (cpB_any (fun _ => True) _ _ _ _ (Sl.below HL.out (Bw.alloc (Bw.refl _) _)) (ints_one _ _) (by omega)).mono ?_; rintro e w1 ⟨r, rfl, hown, hbw⟩; obtain ⟨ar, cr, rfl⟩ := own_form hown; have HOW := hid hown; have HBW := hid hbw; clear hown hbw))
  go_ret2
  exact ⟨_, rfl, own_base HOW.out (by simp), Bw.trans (Bw.alloc (Bw.refl _) _) HBW.out⟩

set_option maxHeartbeats 2000000 in
theorem keys_yes {b0 : Nat} {H : AHeap} {bs : List Nat} (v : Int) (hU : U v) (w : World) (hp : HS w b0 H bs) (hk : kk H v = 3) :
    Calls Tryz.prog 101 #[.pointer (some ⟨b0, 0, none⟩), .int .u64 v] w fun e w' => ∃ r, e = .returned (.tuple #[r, .int .i64 0]) ∧ w'.ownsRow w.heap.size 9 1 r (ob H v).keys.length ((ob H v).keys.map Value.string) ∧ Bw w w' := by
  obtain ⟨vo, t, hph, rfl⟩ := hp
  have HP := hid (hph.bw ((Bw.refl w).alloc (.cells #[.int .i64 3] 3)))
  obtain ⟨g, cap, xb, xk, xl, rfl, hx, hl, hg, hkl, q0, q1, q2, q3, q4, q5, q6, hf⟩ := hph.obj hU (by omega)
  have HS0 := hid (sl_new w [.int .i64 3] 3 1 rfl)
  have hoo := ob_ok (v := v) hph.ok hU (kk_ref (by omega)).2.1
  have HL := hid (own_sl (G := fun _ => True) hl.2.1 (fun _ _ => trivial))
  obtain ⟨ab, cb, rfl⟩ := own_form hl.2.1
  have hm := hoo.2.2.2.2.2.2.2
  clear hph hl hx hf hoo q0 q1 q3 q4 q5 q6
  go_enter Tryz.func101, Tryz.ntmps101
  go_wp2_with (first
    | (go_at_call 57; refine (find_yes (fun _ => True) _ hU _ [3] _ HP.out HS0.out (by decide) (by decide) (by simp [hk])).mono ?_; rintro e w' ⟨g', cap', hvo, rfl, rfl⟩; cases hvo)
    | (go_at_call 112; refine (cpS_any (fun _ => True) _ _ _ _ (Sl.below HL.out (Bw.alloc (Bw.refl _) _)) (strs_one _) (by omega)).mono ?_; rintro e w1 ⟨r, rfl, hown, hbw⟩; obtain ⟨ar, cr, rfl⟩ := own_form hown; have HOW := hid hown; have HBW := hid hbw; clear hown hbw))
  go_ret2
  exact ⟨_, rfl, own_base HOW.out (by simp), Bw.trans (Bw.alloc (Bw.refl _) _) HBW.out⟩

set_option maxHeartbeats 4000000 in
theorem funOf_yes {b0 : Nat} {H : AHeap} {bs : List Nat} (v : Int) (hU : U v) (w : World) (hp : HS w b0 H bs) (hk : kk H v = 5) :
    Calls Tryz.prog 102 #[.pointer (some ⟨b0, 0, none⟩), .int .u64 v] w fun e w' => ∃ r, e = .returned (.tuple #[.int .i64 (ob H v).num, r, .int .i64 0]) ∧ w'.ownsRow w.heap.size 27 1 r (ob H v).vals.length ((ob H v).vals.map (Value.int .u64)) ∧ Bw w w' := by
  obtain ⟨vo, t, hph, rfl⟩ := hp
  have HP := hid (hph.bw ((Bw.refl w).alloc (.cells #[.int .i64 5] 3)))
  obtain ⟨g, cap, xb, xk, xl, rfl, hx, hl, hg, hkl, q0, q1, q2, q3, q4, q5, q6, hf⟩ := hph.obj hU (by omega)
  have HS0 := hid (sl_new w [.int .i64 5] 3 1 rfl)
  have hoo := ob_ok (v := v) hph.ok hU (kk_ref (by omega)).2.1
  have HL := hid (own_sl (G := fun _ => True) hl.2.2 (fun _ _ => trivial))
  obtain ⟨ab, cb, rfl⟩ := own_form hl.2.2
  have hm := hoo.2.2.2.2.2.2.1
  clear hph hl hx hf hoo q0 q1 q2 q5 q6
  go_enter Tryz.func102, Tryz.ntmps102
  go_wp2_with (first
    | (go_at_call 57; refine (find_yes (fun _ => True) _ hU _ [5] _ HP.out HS0.out (by decide) (by decide) (by simp [hk])).mono ?_; rintro e w' ⟨g', cap', hvo, rfl, rfl⟩; cases hvo))
  have HQ4 := hid (show (w.alloc (.cells #[.int .i64 5] 3)).cell? ⟨g, (idxV v).toNat * 7 + 4, none⟩ = some (.int .i64 (ob H v).num) by simp [go_sem, hg, q4])
  go_region_with (first
    | (go_at_call 113; refine (cpV_any (fun _ => True) _ _ _ _ (Sl.below HL.out (Bw.drew (Bw.alloc (Bw.refl _) _))) (ints_one _ _) (by omega)).mono ?_; rintro e w1 ⟨r, rfl, hown, hbw⟩; obtain ⟨ar, cr, rfl⟩ := own_form hown; have HOW := hid hown; have HBW := hid hbw; have q4' : w1.cell? ⟨g, (idxV v).toNat * 7 + 4, none⟩ = some (.int .i64 (ob H v).num) := (Below.cell (p := ⟨g, (idxV v).toNat * 7 + 4, none⟩) hbw (by simp; omega)).trans HQ4.out; clear hown hbw))
  all_goals go_wp2
  all_goals go_ret3
  all_goals exact ⟨_, rfl, own_base HOW.out (by simp), Bw.trans (Bw.drew (Bw.alloc (Bw.refl _) _)) HBW.out⟩

set_option maxHeartbeats 2000000 in
theorem cplxOf_yes {b0 : Nat} {H : AHeap} {bs : List Nat} (v : Int) (hU : U v) (w : World) (hp : HS w b0 H bs) (hk : kk H v = 6) :
    Calls Tryz.prog 88 #[.pointer (some ⟨b0, 0, none⟩), .int .u64 v] w fun e w' => e = .returned (.tuple #[.int .u64 (ob H v).re, .int .u64 (ob H v).im, .int .i64 0]) ∧ Ly w w' := by
  obtain ⟨vo, t, hph, rfl⟩ := hp
  have HP := hid (hph.bw ((Bw.refl w).alloc (.cells #[.int .i64 6] 3)))
  obtain ⟨g, cap, xb, xk, xl, rfl, hx, hl, hg, hkl, q0, q1, q2, q3, q4, q5, q6, hf⟩ := hph.obj hU (by omega)
  have HS0 := hid (sl_new w [.int .i64 6] 3 1 rfl)
  have hoo := ob_ok (v := v) hph.ok hU (kk_ref (by omega)).2.1
  clear hph hl hx hf hoo q0 q1 q2 q3 q4
  go_enter Tryz.func88, Tryz.ntmps88
  go_wp2_with (first
    | (go_at_call 57; refine (find_yes (fun _ => True) _ hU _ [6] _ HP.out HS0.out (by decide) (by decide) (by simp [hk])).mono ?_; rintro e w' ⟨g', cap', hvo, rfl, rfl⟩; cases hvo))
  all_goals go_region
  all_goals go_wp2
  all_goals go_ret3
  all_goals exact ⟨rfl, by repeat (first | exact Ly.refl _ | apply Ly.lay | apply Ly.alloc | apply Ly.drewN | apply Ly.drew)⟩

set_option maxHeartbeats 2000000 in
theorem itemOf_yes {b0 : Nat} {H : AHeap} {bs : List Nat} (v : Int) (hU : U v) (w : World) (hp : HS w b0 H bs) (hk : kk H v = 7 ∨ kk H v = 8 ∨ kk H v = 9) :
    Calls Tryz.prog 104 #[.pointer (some ⟨b0, 0, none⟩), .int .u64 v] w fun e w' => e = .returned (.tuple #[.int .i64 (ob H v).num, .int .i64 0]) ∧ Ly w w' := by
  obtain ⟨vo, t, hph, rfl⟩ := hp
  have HP := hid (hph.bw ((Bw.refl w).alloc (.cells #[.int .i64 7, .int .i64 8, .int .i64 9] 3)))
  obtain ⟨g, cap, xb, xk, xl, rfl, hx, hl, hg, hkl, q0, q1, q2, q3, q4, q5, q6, hf⟩ := hph.obj hU (by omega)
  have HS0 := hid (sl_new w [.int .i64 7, .int .i64 8, .int .i64 9] 3 3 rfl)
  have hoo := ob_ok (v := v) hph.ok hU (kk_ref (by omega)).2.1
  clear hph hl hx hf hoo q0 q1 q2 q3 q5 q6
  go_enter Tryz.func104, Tryz.ntmps104
  go_wp2_with (first
    | (go_at_call 57; refine (find_yes (fun _ => True) _ hU _ [7, 8, 9] _ HP.out HS0.out (by decide) (by decide) (by simp [hk])).mono ?_; rintro e w' ⟨g', cap', hvo, rfl, rfl⟩; cases hvo))
  all_goals go_ret2
  all_goals exact ⟨rfl, by repeat (first | exact Ly.refl _ | apply Ly.lay | apply Ly.alloc | apply Ly.drewN | apply Ly.drew)⟩

set_option maxHeartbeats 2000000 in
theorem len_str {b0 : Nat} {H : AHeap} {bs : List Nat} (v : Int) (hU : U v) (w : World) (hp : HS w b0 H bs) (hk : kk H v = 1) :
    Calls Tryz.prog 100 #[.pointer (some ⟨b0, 0, none⟩), .int .u64 v] w fun e w' => e = .returned (.tuple #[.int .i64 (ob H v).bytes.length, .int .i64 0]) ∧ Ly w w' := by
  obtain ⟨vo, t, hph, rfl⟩ := hp
  have HP := hid (hph.bw ((Bw.refl w).alloc (.cells #[.int .i64 1, .int .i64 2, .int .i64 3] 3)))
  obtain ⟨g, cap, xb, xk, xl, rfl, hx, hl, hg, hkl, q0, q1, q2, q3, q4, q5, q6, hf⟩ := hph.obj hU (by omega)
  have HS0 := hid (sl_new w [.int .i64 1, .int .i64 2, .int .i64 3] 3 3 rfl)
  have hoo := ob_ok (v := v) hph.ok hU (kk_ref (by omega)).2.1
  obtain ⟨ab, cb, rfl⟩ := own_form hl.1
  obtain ⟨al, cl, rfl⟩ := own_form hl.2.2
  clear hph hl hx hf hoo q2 q3 q4 q5 q6
  go_enter Tryz.func100, Tryz.ntmps100
  go_wp2_with (first
    | (go_at_call 57; refine (find_yes (fun _ => True) _ hU _ [1, 2, 3] _ HP.out HS0.out (by decide) (by decide) (by simp [hk])).mono ?_; rintro e w' ⟨g', cap', hvo, rfl, rfl⟩; cases hvo))
  all_goals go_ret2
  all_goals exact ⟨rfl, by repeat (first | exact Ly.refl _ | apply Ly.lay | apply Ly.alloc | apply Ly.drewN | apply Ly.drew)⟩

set_option maxHeartbeats 2000000 in
theorem len_list {b0 : Nat} {H : AHeap} {bs : List Nat} (v : Int) (hU : U v) (w : World) (hp : HS w b0 H bs) (hk : kk H v = 2 ∨ kk H v = 3) :
    Calls Tryz.prog 100 #[.pointer (some ⟨b0, 0, none⟩), .int .u64 v] w fun e w' => e = .returned (.tuple #[.int .i64 (ob H v).vals.length, .int .i64 0]) ∧ Ly w w' := by
  have hkb : (kk H v == 1) = false := by rw [beq_eq_false_iff_ne]; omega
  obtain ⟨vo, t, hph, rfl⟩ := hp
  have HP := hid (hph.bw ((Bw.refl w).alloc (.cells #[.int .i64 1, .int .i64 2, .int .i64 3] 3)))
  obtain ⟨g, cap, xb, xk, xl, rfl, hx, hl, hg, hkl, q0, q1, q2, q3, q4, q5, q6, hf⟩ := hph.obj hU (by omega)
  have HS0 := hid (sl_new w [.int .i64 1, .int .i64 2, .int .i64 3] 3 3 rfl)
  have hoo := ob_ok (v := v) hph.ok hU (kk_ref (by omega)).2.1
  obtain ⟨ab, cb, rfl⟩ := own_form hl.1
  obtain ⟨al, cl, rfl⟩ := own_form hl.2.2
  clear hph hl hx hf hoo q1 q2 q4 q5 q6
  go_enter Tryz.func100, Tryz.ntmps100
  go_wp2_with (first
    | (go_at_call 57; refine (find_yes (fun _ => True) _ hU _ [1, 2, 3] _ HP.out HS0.out (by decide) (by decide) (by simp; omega)).mono ?_; rintro e w' ⟨g', cap', hvo, rfl, rfl⟩; cases hvo))
  all_goals go_ret2
  all_goals exact ⟨rfl, by repeat (first | exact Ly.refl _ | apply Ly.lay | apply Ly.alloc | apply Ly.drewN | apply Ly.drew)⟩

end Go.Proofs.YtjcoifdfemejkaaGreatDoor

