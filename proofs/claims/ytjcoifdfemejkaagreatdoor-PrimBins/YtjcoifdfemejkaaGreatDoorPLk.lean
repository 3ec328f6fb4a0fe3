/- The program's objects, asked: entries and fields: the contracts. -/
import Derived.Test.YtjcoifdfemejkaaGreatDoorPKk
import Derived.Deep.RegionWith
set_option linter.unusedSimpArgs false
set_option linter.unusedVariables false
namespace Go.Proofs.YtjcoifdfemejkaaGreatDoor
open Go Go.RowKit

theorem own_at {w : World} {base : Nat} {e : TypeId} {a : Option Addr} {cap n : Nat} {xs : List Value} (h : w.ownsRow base e 1 (.slice a n cap) n xs) {j : Nat} (hj : j < n) :
    ∃ b, a = some ⟨b, 0, none⟩ ∧ b < w.heap.size ∧ w.cell? ⟨b, j, none⟩ = xs[j]? := by
  obtain ⟨b, o, e, hlt, hc⟩ := (own_sl (G := fun _ => True) h (fun _ _ => trivial)).at hj
  rcases h.2 with ⟨h, h0⟩ | ⟨g, cap, cur, hv, hb, hg, hnc, hcm, hcs, ht⟩
  · omega
  · cases hv
    cases e
    exact ⟨_, rfl, hlt, by simpa using hc⟩

set_option maxHeartbeats 4000000 in
theorem at_str {b0 : Nat} {H : AHeap} {bs : List Nat} (v i : Int) (hU : U v) (w : World) (hp : HS w b0 H bs) (hk : kk H v = 1) (hi : 0 ≤ i ∧ i < (ob H v).bytes.length) :
    Calls Tryz.prog 51 #[.pointer (some ⟨b0, 0, none⟩), .int .u64 v, .int .i64 i] w fun e w' => e = .returned (.tuple #[.int .u64 (mk ((ob H v).bytes.getD i.toNat 0)), .int .i64 0]) ∧ Ly w w' := by
  obtain ⟨j, rfl⟩ : ∃ j : Nat, i = j := ⟨i.toNat, by omega⟩
  have hjl : j < (ob H v).bytes.length := by omega
  obtain ⟨vo, t, hph, rfl⟩ := hp
  have HP := hid (hph.bw ((Bw.refl w).alloc (.cells #[.int .i64 1, .int .i64 2, .int .i64 4] 3)))
  obtain ⟨g, cap, xb, xk, xl, rfl, hx, hl, hg, hkl, q0, q1, q2, q3, q4, q5, q6, hf⟩ := hph.obj hU (by omega)
  have HS0 := hid (sl_new w [.int .i64 1, .int .i64 2, .int .i64 4] 3 3 rfl)
  have hoo := ob_ok (v := v) hph.ok hU (kk_ref (by omega)).2.1
  obtain ⟨ab, cb, rfl⟩ := own_form hl.1
  have hbd := hoo.2.2.2.2.1 _ (List.getElem_mem hjl)
  obtain ⟨bb, rfl, hbs, c1⟩ := own_at hl.1 hjl
  have c2 : w.cell? ⟨bb, j, none⟩ = some (.int .u8 (ob H v).bytes[j]) := by rw [c1]; simp [hjl]
  clear hph hl hx hf hoo q2 q3 q4 q5 q6
  clear c1
  generalize hob : ob H v = o at *
  have hi2 : (j : Int) < (o.bytes.length : Int) := hi.2
  go_enter Tryz.func51, Tryz.ntmps51
  go_wp2_with (first
    | (go_at_call 57; refine (find_yes (fun _ => True) _ hU _ [1, 2, 4] _ HP.out HS0.out (by decide) (by decide) (by simp [hk])).mono ?_; rintro e w' ⟨g', cap', hvo, rfl, rfl⟩; cases hvo)
    | (go_at_call 105; refine (int_any _ _).mono ?_; rintro e w' ⟨rfl, rfl⟩))
  all_goals go_ret2
  all_goals refine ⟨?_, by repeat (first | exact Ly.refl _ | apply Ly.lay | apply Ly.alloc | apply Ly.drewN | apply Ly.drew)⟩
  all_goals simp [hjl]

set_option maxHeartbeats 4000000 in
theorem at_strOut {b0 : Nat} {H : AHeap} {bs : List Nat} (v i : Int) (hU : U v) (w : World) (hp : HS w b0 H bs) (hk : kk H v = 1) (hi : ¬ (0 ≤ i ∧ i < (ob H v).bytes.length)) :
    Calls Tryz.prog 51 #[.pointer (some ⟨b0, 0, none⟩), .int .u64 v, .int .i64 i] w fun e w' => e = .returned (.tuple #[.int .u64 0, .int .i64 9]) ∧ Ly w w' := by
  obtain ⟨vo, t, hph, rfl⟩ := hp
  have HP := hid (hph.bw ((Bw.refl w).alloc (.cells #[.int .i64 1, .int .i64 2, .int .i64 4] 3)))
  obtain ⟨g, cap, xb, xk, xl, rfl, hx, hl, hg, hkl, q0, q1, q2, q3, q4, q5, q6, hf⟩ := hph.obj hU (by omega)
  have HS0 := hid (sl_new w [.int .i64 1, .int .i64 2, .int .i64 4] 3 3 rfl)
  have hoo := ob_ok (v := v) hph.ok hU (kk_ref (by omega)).2.1
  obtain ⟨ab, cb, rfl⟩ := own_form hl.1
  clear hph hl hx hf hoo q2 q3 q4 q5 q6
  generalize hob : ob H v = o at *
  have h01 : i < 0 ∨ (¬ i < 0 ∧ (o.bytes.length : Int) ≤ i) := by omega
  clear hi
  rcases h01 with h0 | ⟨h0, h1⟩
  all_goals
    go_enter Tryz.func51, Tryz.ntmps51
    go_wp2_with (first
      | (go_at_call 57; refine (find_yes (fun _ => True) _ hU _ [1, 2, 4] _ HP.out HS0.out (by decide) (by decide) (by simp [hk])).mono ?_; rintro e w' ⟨g', cap', hvo, rfl, rfl⟩; cases hvo))
    all_goals go_ret2
    all_goals exact ⟨rfl, by repeat (first | exact Ly.refl _ | apply Ly.lay | apply Ly.alloc | apply Ly.drewN | apply Ly.drew)⟩

set_option maxHeartbeats 4000000 in
theorem at_arr {b0 : Nat} {H : AHeap} {bs : List Nat} (v i : Int) (hU : U v) (w : World) (hp : HS w b0 H bs) (hk : kk H v = 2 ∨ kk H v = 4) (hi : 0 ≤ i ∧ i < (ob H v).vals.length) :
    Calls Tryz.prog 51 #[.pointer (some ⟨b0, 0, none⟩), .int .u64 v, .int .i64 i] w fun e w' => e = .returned (.tuple #[.int .u64 ((ob H v).vals.getD i.toNat 0), .int .i64 0]) ∧ Ly w w' := by
  obtain ⟨j, rfl⟩ : ∃ j : Nat, i = j := ⟨i.toNat, by omega⟩
  have hjl : j < (ob H v).vals.length := by omega
  have hkb : (kk H v == 1) = false := by rw [beq_eq_false_iff_ne]; omega
  obtain ⟨vo, t, hph, rfl⟩ := hp
  have HP := hid (hph.bw ((Bw.refl w).alloc (.cells #[.int .i64 1, .int .i64 2, .int .i64 4] 3)))
  obtain ⟨g, cap, xb, xk, xl, rfl, hx, hl, hg, hkl, q0, q1, q2, q3, q4, q5, q6, hf⟩ := hph.obj hU (by omega)
  have HS0 := hid (sl_new w [.int .i64 1, .int .i64 2, .int .i64 4] 3 3 rfl)
  have hoo := ob_ok (v := v) hph.ok hU (kk_ref (by omega)).2.1
  obtain ⟨al, cl, rfl⟩ := own_form hl.2.2
  obtain ⟨bb, rfl, hbs, c1⟩ := own_at hl.2.2 hjl
  have c2 : w.cell? ⟨bb, j, none⟩ = some (.int .u64 (ob H v).vals[j]) := by rw [c1]; simp [hjl]
  clear hph hl hx hf hoo q1 q2 q4 q5 q6
  clear c1
  generalize hob : ob H v = o at *
  have hi2 : (j : Int) < (o.vals.length : Int) := hi.2
  go_enter Tryz.func51, Tryz.ntmps51
  go_wp2_with (first
    | (go_at_call 57; refine (find_yes (fun _ => True) _ hU _ [1, 2, 4] _ HP.out HS0.out (by decide) (by decide) (by simp; omega)).mono ?_; rintro e w' ⟨g', cap', hvo, rfl, rfl⟩; cases hvo))
  all_goals go_ret2
  all_goals refine ⟨?_, by repeat (first | exact Ly.refl _ | apply Ly.lay | apply Ly.alloc | apply Ly.drewN | apply Ly.drew)⟩
  all_goals simp [hjl]

set_option maxHeartbeats 4000000 in
theorem at_arrOut {b0 : Nat} {H : AHeap} {bs : List Nat} (v i : Int) (hU : U v) (w : World) (hp : HS w b0 H bs) (hk : kk H v = 2 ∨ kk H v = 4) (hi : ¬ (0 ≤ i ∧ i < (ob H v).vals.length)) :
    Calls Tryz.prog 51 #[.pointer (some ⟨b0, 0, none⟩), .int .u64 v, .int .i64 i] w fun e w' => e = .returned (.tuple #[.int .u64 0, .int .i64 9]) ∧ Ly w w' := by
  have hkb : (kk H v == 1) = false := by rw [beq_eq_false_iff_ne]; omega
  obtain ⟨vo, t, hph, rfl⟩ := hp
  have HP := hid (hph.bw ((Bw.refl w).alloc (.cells #[.int .i64 1, .int .i64 2, .int .i64 4] 3)))
  obtain ⟨g, cap, xb, xk, xl, rfl, hx, hl, hg, hkl, q0, q1, q2, q3, q4, q5, q6, hf⟩ := hph.obj hU (by omega)
  have HS0 := hid (sl_new w [.int .i64 1, .int .i64 2, .int .i64 4] 3 3 rfl)
  have hoo := ob_ok (v := v) hph.ok hU (kk_ref (by omega)).2.1
  obtain ⟨al, cl, rfl⟩ := own_form hl.2.2
  clear hph hl hx hf hoo q1 q2 q4 q5 q6
  generalize hob : ob H v = o at *
  have h01 : i < 0 ∨ (¬ i < 0 ∧ (o.vals.length : Int) ≤ i) := by omega
  clear hi
  rcases h01 with h0 | ⟨h0, h1⟩
  all_goals
    go_enter Tryz.func51, Tryz.ntmps51
    go_wp2_with (first
      | (go_at_call 57; refine (find_yes (fun _ => True) _ hU _ [1, 2, 4] _ HP.out HS0.out (by decide) (by decide) (by simp; omega)).mono ?_; rintro e w' ⟨g', cap', hvo, rfl, rfl⟩; cases hvo))
    all_goals go_ret2
    all_goals exact ⟨rfl, by repeat (first | exact Ly.refl _ | apply Ly.lay | apply Ly.alloc | apply Ly.drewN | apply Ly.drew)⟩

theorem at_any {b0 : Nat} {H : AHeap} {bs : List Nat} (v i : Int) (hU : U v) (w : World) (hp : HS w b0 H bs) :
    Calls Tryz.prog 51 #[.pointer (some ⟨b0, 0, none⟩), .int .u64 v, .int .i64 i] w fun e w' => e = .returned (.tuple #[.int .u64 (aAtV H v i), .int .i64 (aAtE H v i)]) ∧ Ly w w' := by
  unfold aAtV aAtE
  by_cases k1 : kk H v = 1
  · rw [if_pos k1, if_pos k1]
    by_cases hi : 0 ≤ i ∧ i < (ob H v).bytes.length
    · rw [if_pos hi, if_pos hi]; exact at_str v i hU w hp k1 hi
    · rw [if_neg hi, if_neg hi]; exact at_strOut v i hU w hp k1 hi
  · rw [if_neg k1, if_neg k1]
    by_cases k2 : kk H v = 2 ∨ kk H v = 4
    · rw [if_pos k2, if_pos k2]
      by_cases hi : 0 ≤ i ∧ i < (ob H v).vals.length
      · rw [if_pos hi, if_pos hi]; exact at_arr v i hU w hp k2 hi
      · rw [if_neg hi, if_neg hi]; exact at_arrOut v i hU w hp k2 hi
    · rw [if_neg k2, if_neg k2]; exact at_no v i hU w hp (by simp; omega)

set_option maxHeartbeats 4000000 in
theorem field_any {b0 : Nat} {H : AHeap} {bs : List Nat} (v : Int) (s : ByteArray) (hU : U v) (w : World) (hp : HS w b0 H bs) :
    Calls Tryz.prog 116 #[.pointer (some ⟨b0, 0, none⟩), .int .u64 v, .string s] w fun e w' => e = .returned (.tuple #[.int .u64 (aFieldV H v s), .int .i64 (aFieldE H v s)]) ∧ Ly w w' := by
  by_cases hk : kk H v = 3
  · rw [aFieldV, aFieldE, if_pos hk, if_pos hk]
    by_cases h0 : 0 ≤ aKey (ob H v).keys s
    · rw [if_pos h0, if_pos h0]
      have hlt := aKey_lt (ob H v).keys s
      obtain ⟨j, hj⟩ : ∃ j : Nat, aKey (ob H v).keys s = j := ⟨(aKey (ob H v).keys s).toNat, by omega⟩
      obtain ⟨vo, t, hph, rfl⟩ := hp
      have HP := hid (hph.bw ((Bw.refl w).alloc (.cells #[.int .i64 3] 3)))
      obtain ⟨g, cap, xb, xk, xl, rfl, hx, hl, hg, hkl, q0, q1, q2, q3, q4, q5, q6, hf⟩ := hph.obj hU (by omega)
      have HS0 := hid (sl_new w [.int .i64 3] 3 1 rfl)
      have hoo := ob_ok (v := v) hph.ok hU (kk_ref (by omega)).2.1
      obtain ⟨ak, ck, rfl⟩ := own_form hl.2.1
      obtain ⟨al, cl, rfl⟩ := own_form hl.2.2
      have HSK := hid (own_sl (G := fun _ => True) hl.2.1 (fun _ _ => trivial))
      have hkm := hoo.2.2.2.2.2.2.2
      have hlen := hoo.2.2.1 (by have := (kk_ref (H := H) (v := v) (by omega)).2.2; omega)
      have hjl : j < (ob H v).vals.length := by omega
      obtain ⟨bb, rfl, hbs, c1⟩ := own_at hl.2.2 hjl
      have c2 : w.cell? ⟨bb, j, none⟩ = some (.int .u64 (ob H v).vals[j]) := by rw [c1]; simp [hjl]
      clear hph hl hx hf hoo q0 q1 q4 q5 q6
      clear c1 h0 hlt hlen
      generalize hob : ob H v = o at *
      have hi2 : (j : Int) < (o.vals.length : Int) := by omega
      go_enter Tryz.func116, Tryz.ntmps116
      go_wp2_with (first
        | (go_at_call 57; refine (find_yes (fun _ => True) _ hU _ [3] _ HP.out HS0.out (by decide) (by decide) (by simp [hk])).mono ?_; rintro e w' ⟨g', cap', hvo, rfl, rfl⟩; cases hvo)
        | (go_at_call 130; refine (ixS_any (fun _ => True) _ o.keys _ _ (Sl.below HSK.out (Bw.alloc (Bw.refl _) _)) (by omega)).mono ?_; rintro e w' ⟨rfl, rfl⟩))
      all_goals go_ret2
      all_goals refine ⟨?_, by repeat (first | exact Ly.refl _ | apply Ly.lay | apply Ly.alloc | apply Ly.drewN | apply Ly.drew)⟩
      all_goals simp [hj, hjl]
    · rw [if_neg h0, if_neg h0]
      obtain ⟨vo, t, hph, rfl⟩ := hp
      have HP := hid (hph.bw ((Bw.refl w).alloc (.cells #[.int .i64 3] 3)))
      obtain ⟨g, cap, xb, xk, xl, rfl, hx, hl, hg, hkl, q0, q1, q2, q3, q4, q5, q6, hf⟩ := hph.obj hU (by omega)
      have HS0 := hid (sl_new w [.int .i64 3] 3 1 rfl)
      have hoo := ob_ok (v := v) hph.ok hU (kk_ref (by omega)).2.1
      obtain ⟨ak, ck, rfl⟩ := own_form hl.2.1
      obtain ⟨al, cl, rfl⟩ := own_form hl.2.2
      have HSK := hid (own_sl (G := fun _ => True) hl.2.1 (fun _ _ => trivial))
      have hkm := hoo.2.2.2.2.2.2.2
      clear hph hl hx hf hoo q0 q1 q4 q5 q6
      have hneg : aKey (ob H v).keys s < 0 := by omega
      clear h0
      generalize hob : ob H v = o at *
      go_enter Tryz.func116, Tryz.ntmps116
      go_wp2_with (first
        | (go_at_call 57; refine (find_yes (fun _ => True) _ hU _ [3] _ HP.out HS0.out (by decide) (by decide) (by simp [hk])).mono ?_; rintro e w' ⟨g', cap', hvo, rfl, rfl⟩; cases hvo)
        | (go_at_call 130; refine (ixS_any (fun _ => True) _ o.keys _ _ (Sl.below HSK.out (Bw.alloc (Bw.refl _) _)) (by omega)).mono ?_; rintro e w' ⟨rfl, rfl⟩))
      all_goals go_ret2
      all_goals exact ⟨rfl, by repeat (first | exact Ly.refl _ | apply Ly.lay | apply Ly.alloc | apply Ly.drewN | apply Ly.drew)⟩
  · rw [aFieldV, aFieldE, if_neg hk, if_neg hk]
    exact field_no v s hU w hp (by simpa using hk)

end Go.Proofs.YtjcoifdfemejkaaGreatDoor

