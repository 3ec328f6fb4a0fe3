/- The program's objects, asked: of the wrong kind, of a nil heap; bytes, keys, lengths, numbers: the contracts. -/
import Derived.Test.YtjcoifdfemejkaaGreatDoorM3
set_option linter.unusedSimpArgs false
set_option linter.unusedVariables false
namespace Go.Proofs.YtjcoifdfemejkaaGreatDoor
open Go Go.RowKit

set_option maxHeartbeats 1000000 in
theorem find_nil (v : Int) (a : Option Addr) (n c : Nat) (w : World) :
    Calls Tryz.prog 57 #[.pointer none, .int .u64 v, .slice a n c] w fun e w' => e = .returned (.tuple #[.pointer none, .int .i64 5]) ∧ w' = w := by
  go_enter Tryz.func57, Tryz.ntmps57
  go_wp2
  go_ret2
  exact ⟨rfl, rfl⟩

set_option maxHeartbeats 1000000 in
theorem bytes_nil (v : Int) (w : World) :
    Calls Tryz.prog 17 #[.pointer none, .int .u64 v] w fun e w' => e = .returned (.tuple #[.slice none 0 0, .int .i64 5]) ∧ Ly w w' := by
  go_enter Tryz.func17, Tryz.ntmps17
  go_wp2_with (first | (go_at_call 57; refine (find_nil _ _ _ _ _).mono ?_; rintro e w' ⟨rfl, rfl⟩))
  go_ret2
  exact ⟨rfl, by repeat (first | exact Ly.refl _ | apply Ly.lay | apply Ly.alloc | apply Ly.drewN | apply Ly.drew)⟩

set_option maxHeartbeats 1000000 in
theorem bytes_no {b0 : Nat} {H : AHeap} {bs : List Nat} (v : Int) (hU : U v) (w : World) (hp : HS w b0 H bs) (hk : kk H v ∉ ([1] : List Int)) :
    Calls Tryz.prog 17 #[.pointer (some ⟨b0, 0, none⟩), .int .u64 v] w fun e w' => e = .returned (.tuple #[.slice none 0 0, .int .i64 8]) ∧ Ly w w' := by
  obtain ⟨vo, t, hph, rfl⟩ := hp
  have HP := hid (hph.bw ((Bw.refl w).alloc (.cells #[.int .i64 1] 3)))
  have HS0 := hid (sl_new w [.int .i64 1] 3 1 rfl)
  have HK := hid hk
  clear hph hk
  go_enter Tryz.func17, Tryz.ntmps17
  go_wp2_with (first | (go_at_call 57; refine (find_no (fun _ => True) _ hU _ [1] _ HP.out HS0.out (by decide) HK.out).mono ?_; rintro e w' ⟨rfl, rfl⟩))
  go_ret2
  exact ⟨rfl, by repeat (first | exact Ly.refl _ | apply Ly.lay | apply Ly.alloc | apply Ly.drewN | apply Ly.drew)⟩

set_option maxHeartbeats 1000000 in
theorem len_nil (v : Int) (w : World) :
    Calls Tryz.prog 100 #[.pointer none, .int .u64 v] w fun e w' => e = .returned (.tuple #[.int .i64 0, .int .i64 5]) ∧ Ly w w' := by
  go_enter Tryz.func100, Tryz.ntmps100
  go_wp2_with (first | (go_at_call 57; refine (find_nil _ _ _ _ _).mono ?_; rintro e w' ⟨rfl, rfl⟩))
  go_ret2
  exact ⟨rfl, by repeat (first | exact Ly.refl _ | apply Ly.lay | apply Ly.alloc | apply Ly.drewN | apply Ly.drew)⟩

set_option maxHeartbeats 1000000 in
theorem len_no {b0 : Nat} {H : AHeap} {bs : List Nat} (v : Int) (hU : U v) (w : World) (hp : HS w b0 H bs) (hk : kk H v ∉ ([1, 2, 3] : List Int)) :
    Calls Tryz.prog 100 #[.pointer (some ⟨b0, 0, none⟩), .int .u64 v] w fun e w' => e = .returned (.tuple #[.int .i64 0, .int .i64 8]) ∧ Ly w w' := by
  obtain ⟨vo, t, hph, rfl⟩ := hp
  have HP := hid (hph.bw ((Bw.refl w).alloc (.cells #[.int .i64 1, .int .i64 2, .int .i64 3] 3)))
  have HS0 := hid (sl_new w [.int .i64 1, .int .i64 2, .int .i64 3] 3 3 rfl)
  have HK := hid hk
  clear hph hk
  go_enter Tryz.func100, Tryz.ntmps100
  go_wp2_with (first | (go_at_call 57; refine (find_no (fun _ => True) _ hU _ [1, 2, 3] _ HP.out HS0.out (by decide) HK.out).mono ?_; rintro e w' ⟨rfl, rfl⟩))
  go_ret2
  exact ⟨rfl, by repeat (first | exact Ly.refl _ | apply Ly.lay | apply Ly.alloc | apply Ly.drewN | apply Ly.drew)⟩

set_option maxHeartbeats 1000000 in
theorem at_nil (v : Int) (i : Int) (w : World) :
    Calls Tryz.prog 51 #[.pointer none, .int .u64 v, .int .i64 i] w fun e w' => e = .returned (.tuple #[.int .u64 0, .int .i64 5]) ∧ Ly w w' := by
  go_enter Tryz.func51, Tryz.ntmps51
  go_wp2_with (first | (go_at_call 57; refine (find_nil _ _ _ _ _).mono ?_; rintro e w' ⟨rfl, rfl⟩))
  go_ret2
  exact ⟨rfl, by repeat (first | exact Ly.refl _ | apply Ly.lay | apply Ly.alloc | apply Ly.drewN | apply Ly.drew)⟩

set_option maxHeartbeats 1000000 in
theorem at_no {b0 : Nat} {H : AHeap} {bs : List Nat} (v : Int) (i : Int) (hU : U v) (w : World) (hp : HS w b0 H bs) (hk : kk H v ∉ ([1, 2, 4] : List Int)) :
    Calls Tryz.prog 51 #[.pointer (some ⟨b0, 0, none⟩), .int .u64 v, .int .i64 i] w fun e w' => e = .returned (.tuple #[.int .u64 0, .int .i64 8]) ∧ Ly w w' := by
  obtain ⟨vo, t, hph, rfl⟩ := hp
  have HP := hid (hph.bw ((Bw.refl w).alloc (.cells #[.int .i64 1, .int .i64 2, .int .i64 4] 3)))
  have HS0 := hid (sl_new w [.int .i64 1, .int .i64 2, .int .i64 4] 3 3 rfl)
  have HK := hid hk
  clear hph hk
  go_enter Tryz.func51, Tryz.ntmps51
  go_wp2_with (first | (go_at_call 57; refine (find_no (fun _ => True) _ hU _ [1, 2, 4] _ HP.out HS0.out (by decide) HK.out).mono ?_; rintro e w' ⟨rfl, rfl⟩))
  go_ret2
  exact ⟨rfl, by repeat (first | exact Ly.refl _ | apply Ly.lay | apply Ly.alloc | apply Ly.drewN | apply Ly.drew)⟩

set_option maxHeartbeats 1000000 in
theorem set_nil (v : Int) (i x : Int) (w : World) :
    Calls Tryz.prog 25 #[.pointer none, .int .u64 v, .int .i64 i, .int .u64 x] w fun e w' => e = .returned (.int .i64 5) ∧ Ly w w' := by
  go_enter Tryz.func25, Tryz.ntmps25
  go_wp2_with (first | (go_at_call 57; refine (find_nil _ _ _ _ _).mono ?_; rintro e w' ⟨rfl, rfl⟩))
  go_ret
  exact ⟨rfl, by repeat (first | exact Ly.refl _ | apply Ly.lay | apply Ly.alloc | apply Ly.drewN | apply Ly.drew)⟩

set_option maxHeartbeats 1000000 in
theorem set_no {b0 : Nat} {H : AHeap} {bs : List Nat} (v : Int) (i x : Int) (hU : U v) (w : World) (hp : HS w b0 H bs) (hk : kk H v ∉ ([2, 4] : List Int)) :
    Calls Tryz.prog 25 #[.pointer (some ⟨b0, 0, none⟩), .int .u64 v, .int .i64 i, .int .u64 x] w fun e w' => e = .returned (.int .i64 8) ∧ Ly w w' := by
  obtain ⟨vo, t, hph, rfl⟩ := hp
  have HP := hid (hph.bw ((Bw.refl w).alloc (.cells #[.int .i64 2, .int .i64 4] 3)))
  have HS0 := hid (sl_new w [.int .i64 2, .int .i64 4] 3 2 rfl)
  have HK := hid hk
  clear hph hk
  go_enter Tryz.func25, Tryz.ntmps25
  go_wp2_with (first | (go_at_call 57; refine (find_no (fun _ => True) _ hU _ [2, 4] _ HP.out HS0.out (by decide) HK.out).mono ?_; rintro e w' ⟨rfl, rfl⟩))
  go_ret
  exact ⟨rfl, by repeat (first | exact Ly.refl _ | apply Ly.lay | apply Ly.alloc | apply Ly.drewN | apply Ly.drew)⟩









set_option maxHeartbeats 1000000 in
theorem keys_nil (v : Int) (w : World) :
    Calls Tryz.prog 101 #[.pointer none, .int .u64 v] w fun e w' => e = .returned (.tuple #[.slice none 0 0, .int .i64 5]) ∧ Ly w w' := by
  go_enter Tryz.func101, Tryz.ntmps101
  go_wp2_with (first | (go_at_call 57; refine (find_nil _ _ _ _ _).mono ?_; rintro e w' ⟨rfl, rfl⟩))
  go_ret2
  exact ⟨rfl, by repeat (first | exact Ly.refl _ | apply Ly.lay | apply Ly.alloc | apply Ly.drewN | apply Ly.drew)⟩

set_option maxHeartbeats 1000000 in
theorem keys_no {b0 : Nat} {H : AHeap} {bs : List Nat} (v : Int) (hU : U v) (w : World) (hp : HS w b0 H bs) (hk : kk H v ∉ ([3] : List Int)) :
    Calls Tryz.prog 101 #[.pointer (some ⟨b0, 0, none⟩), .int .u64 v] w fun e w' => e = .returned (.tuple #[.slice none 0 0, .int .i64 8]) ∧ Ly w w' := by
  obtain ⟨vo, t, hph, rfl⟩ := hp
  have HP := hid (hph.bw ((Bw.refl w).alloc (.cells #[.int .i64 3] 3)))
  have HS0 := hid (sl_new w [.int .i64 3] 3 1 rfl)
  have HK := hid hk
  clear hph hk
  go_enter Tryz.func101, Tryz.ntmps101
  go_wp2_with (first | (go_at_call 57; refine (find_no (fun _ => True) _ hU _ [3] _ HP.out HS0.out (by decide) HK.out).mono ?_; rintro e w' ⟨rfl, rfl⟩))
  go_ret2
  exact ⟨rfl, by repeat (first | exact Ly.refl _ | apply Ly.lay | apply Ly.alloc | apply Ly.drewN | apply Ly.drew)⟩

set_option maxHeartbeats 1000000 in
theorem field_nil (v : Int) (s : ByteArray) (w : World) :
    Calls Tryz.prog 116 #[.pointer none, .int .u64 v, .string s] w fun e w' => e = .returned (.tuple #[.int .u64 0, .int .i64 5]) ∧ Ly w w' := by
  go_enter Tryz.func116, Tryz.ntmps116
  go_wp2_with (first | (go_at_call 57; refine (find_nil _ _ _ _ _).mono ?_; rintro e w' ⟨rfl, rfl⟩))
  go_ret2
  exact ⟨rfl, by repeat (first | exact Ly.refl _ | apply Ly.lay | apply Ly.alloc | apply Ly.drewN | apply Ly.drew)⟩

set_option maxHeartbeats 1000000 in
theorem field_no {b0 : Nat} {H : AHeap} {bs : List Nat} (v : Int) (s : ByteArray) (hU : U v) (w : World) (hp : HS w b0 H bs) (hk : kk H v ∉ ([3] : List Int)) :
    Calls Tryz.prog 116 #[.pointer (some ⟨b0, 0, none⟩), .int .u64 v, .string s] w fun e w' => e = .returned (.tuple #[.int .u64 0, .int .i64 8]) ∧ Ly w w' := by
  obtain ⟨vo, t, hph, rfl⟩ := hp
  have HP := hid (hph.bw ((Bw.refl w).alloc (.cells #[.int .i64 3] 3)))
  have HS0 := hid (sl_new w [.int .i64 3] 3 1 rfl)
  have HK := hid hk
  clear hph hk
  go_enter Tryz.func116, Tryz.ntmps116
  go_wp2_with (first | (go_at_call 57; refine (find_no (fun _ => True) _ hU _ [3] _ HP.out HS0.out (by decide) HK.out).mono ?_; rintro e w' ⟨rfl, rfl⟩))
  go_ret2
  exact ⟨rfl, by repeat (first | exact Ly.refl _ | apply Ly.lay | apply Ly.alloc | apply Ly.drewN | apply Ly.drew)⟩





set_option maxHeartbeats 1000000 in
theorem funOf_nil (v : Int) (w : World) :
    Calls Tryz.prog 102 #[.pointer none, .int .u64 v] w fun e w' => e = .returned (.tuple #[.int .i64 0, .slice none 0 0, .int .i64 5]) ∧ Ly w w' := by
  go_enter Tryz.func102, Tryz.ntmps102
  go_wp2_with (first | (go_at_call 57; refine (find_nil _ _ _ _ _).mono ?_; rintro e w' ⟨rfl, rfl⟩))
  go_ret3
  exact ⟨rfl, by repeat (first | exact Ly.refl _ | apply Ly.lay | apply Ly.alloc | apply Ly.drewN | apply Ly.drew)⟩

set_option maxHeartbeats 1000000 in
theorem funOf_no {b0 : Nat} {H : AHeap} {bs : List Nat} (v : Int) (hU : U v) (w : World) (hp : HS w b0 H bs) (hk : kk H v ∉ ([5] : List Int)) :
    Calls Tryz.prog 102 #[.pointer (some ⟨b0, 0, none⟩), .int .u64 v] w fun e w' => e = .returned (.tuple #[.int .i64 0, .slice none 0 0, .int .i64 8]) ∧ Ly w w' := by
  obtain ⟨vo, t, hph, rfl⟩ := hp
  have HP := hid (hph.bw ((Bw.refl w).alloc (.cells #[.int .i64 5] 3)))
  have HS0 := hid (sl_new w [.int .i64 5] 3 1 rfl)
  have HK := hid hk
  clear hph hk
  go_enter Tryz.func102, Tryz.ntmps102
  go_wp2_with (first | (go_at_call 57; refine (find_no (fun _ => True) _ hU _ [5] _ HP.out HS0.out (by decide) HK.out).mono ?_; rintro e w' ⟨rfl, rfl⟩))
  go_ret3
  exact ⟨rfl, by repeat (first | exact Ly.refl _ | apply Ly.lay | apply Ly.alloc | apply Ly.drewN | apply Ly.drew)⟩

set_option maxHeartbeats 1000000 in
theorem cplxOf_nil (v : Int) (w : World) :
    Calls Tryz.prog 88 #[.pointer none, .int .u64 v] w fun e w' => e = .returned (.tuple #[.int .u64 0, .int .u64 0, .int .i64 5]) ∧ Ly w w' := by
  go_enter Tryz.func88, Tryz.ntmps88
  go_wp2_with (first | (go_at_call 57; refine (find_nil _ _ _ _ _).mono ?_; rintro e w' ⟨rfl, rfl⟩))
  go_ret3
  exact ⟨rfl, by repeat (first | exact Ly.refl _ | apply Ly.lay | apply Ly.alloc | apply Ly.drewN | apply Ly.drew)⟩

set_option maxHeartbeats 1000000 in
theorem cplxOf_no {b0 : Nat} {H : AHeap} {bs : List Nat} (v : Int) (hU : U v) (w : World) (hp : HS w b0 H bs) (hk : kk H v ∉ ([6] : List Int)) :
    Calls Tryz.prog 88 #[.pointer (some ⟨b0, 0, none⟩), .int .u64 v] w fun e w' => e = .returned (.tuple #[.int .u64 0, .int .u64 0, .int .i64 8]) ∧ Ly w w' := by
  obtain ⟨vo, t, hph, rfl⟩ := hp
  have HP := hid (hph.bw ((Bw.refl w).alloc (.cells #[.int .i64 6] 3)))
  have HS0 := hid (sl_new w [.int .i64 6] 3 1 rfl)
  have HK := hid hk
  clear hph hk
  go_enter Tryz.func88, Tryz.ntmps88
  go_wp2_with (first | (go_at_call 57; refine (find_no (fun _ => True) _ hU _ [6] _ HP.out HS0.out (by decide) HK.out).mono ?_; rintro e w' ⟨rfl, rfl⟩))
  go_ret3
  exact ⟨rfl, by repeat (first | exact Ly.refl _ | apply Ly.lay | apply Ly.alloc | apply Ly.drewN | apply Ly.drew)⟩

set_option maxHeartbeats 1000000 in
theorem itemOf_nil (v : Int) (w : World) :
    Calls Tryz.prog 104 #[.pointer none, .int .u64 v] w fun e w' => e = .returned (.tuple #[.int .i64 0, .int .i64 5]) ∧ Ly w w' := by
  go_enter Tryz.func104, Tryz.ntmps104
  go_wp2_with (first | (go_at_call 57; refine (find_nil _ _ _ _ _).mono ?_; rintro e w' ⟨rfl, rfl⟩))
  go_ret2
  exact ⟨rfl, by repeat (first | exact Ly.refl _ | apply Ly.lay | apply Ly.alloc | apply Ly.drewN | apply Ly.drew)⟩

set_option maxHeartbeats 1000000 in
theorem itemOf_no {b0 : Nat} {H : AHeap} {bs : List Nat} (v : Int) (hU : U v) (w : World) (hp : HS w b0 H bs) (hk : kk H v ∉ ([7, 8, 9] : List Int)) :
    Calls Tryz.prog 104 #[.pointer (some ⟨b0, 0, none⟩), .int .u64 v] w fun e w' => e = .returned (.tuple #[.int .i64 0, .int .i64 8]) ∧ Ly w w' := by
  obtain ⟨vo, t, hph, rfl⟩ := hp
  have HP := hid (hph.bw ((Bw.refl w).alloc (.cells #[.int .i64 7, .int .i64 8, .int .i64 9] 3)))
  have HS0 := hid (sl_new w [.int .i64 7, .int .i64 8, .int .i64 9] 3 3 rfl)
  have HK := hid hk
  clear hph hk
  go_enter Tryz.func104, Tryz.ntmps104
  go_wp2_with (first | (go_at_call 57; refine (find_no (fun _ => True) _ hU _ [7, 8, 9] _ HP.out HS0.out (by decide) HK.out).mono ?_; rintro e w' ⟨rfl, rfl⟩))
  go_ret2
  exact ⟨rfl, by repeat (first | exact Ly.refl _ | apply Ly.lay | apply Ly.alloc | apply Ly.drewN | apply Ly.drew)⟩

set_option maxHeartbeats 1000000 in
theorem good_nil (v : Int) (w : World) : Calls Tryz.prog 71 #[.pointer none, .int .u64 v] w fun e w' => e = .returned (.bool false) ∧ w' = w := by
  go_enter Tryz.func71, Tryz.ntmps71
  go_wp2
  go_ret
  exact ⟨rfl, rfl⟩

set_option maxHeartbeats 1000000 in
theorem count_nil (w : World) : Calls Tryz.prog 52 #[.pointer none] w fun e w' => e = .returned (.int .i64 0) ∧ w' = w := by
  go_enter Tryz.func52, Tryz.ntmps52
  go_wp2
  go_ret
  exact ⟨rfl, rfl⟩

set_option maxHeartbeats 1000000 in
theorem kind_nil (v : Int) (hU : U v) (w : World) : Calls Tryz.prog 49 #[.pointer none, .int .u64 v] w fun e w' => e = .returned (.int .i64 0) ∧ w' = w := by
  by_cases h2 : kd v = 2
  · go_enter Tryz.func49, Tryz.ntmps49
    go_wp2_with (first
      | (go_at_call 76; refine (kind_any _ hU _).mono ?_; rintro e w' ⟨rfl, rfl⟩)
      | (go_at_call 71; refine (good_nil _ _).mono ?_; rintro e w' ⟨rfl, rfl⟩))
    all_goals go_ret
    all_goals exact ⟨rfl, rfl⟩
  · have h2b : (kd v != 2) = true := by simpa using h2
    clear h2
    go_enter Tryz.func49, Tryz.ntmps49
    go_wp2_with (first
      | (go_at_call 76; refine (kind_any _ hU _).mono ?_; rintro e w' ⟨rfl, rfl⟩))
    all_goals go_ret
    all_goals exact ⟨rfl, rfl⟩

end Go.Proofs.YtjcoifdfemejkaaGreatDoor

