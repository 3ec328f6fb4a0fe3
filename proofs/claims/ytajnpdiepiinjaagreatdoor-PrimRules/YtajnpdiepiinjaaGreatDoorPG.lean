/- The program keeps no object: of a nil heap, of what is too long, wrong, or one too many: the contracts. -/
import Derived.Test.YtajnpdiepiinjaaGreatDoorPF
set_option linter.unusedSimpArgs false
set_option linter.unusedVariables false
namespace Go.Proofs.YtajnpdiepiinjaaGreatDoor
open Go Go.RowKit

set_option maxHeartbeats 2000000 in
theorem add_nil (o : AObj) (vb vk vl : Value) (w : World) (hv : ∃ a n c, vb = .slice a n c) (hk : ∃ a n c, vk = .slice a n c) (hl : ∃ a n c, vl = .slice a n c) :
    Calls Tryz.prog 75 #[.pointer none, pobj o (vb, vk, vl)] w fun e w' => e = .returned (.tuple #[.int .u64 0, .int .i64 5]) ∧ Ly w w' := by
  obtain ⟨a1, n1, c1, rfl⟩ := hv
  obtain ⟨a2, n2, c2, rfl⟩ := hk
  obtain ⟨a3, n3, c3, rfl⟩ := hl
  go_enter Tryz.func75, Tryz.ntmps75
  go_wp2
  go_ret2
  exact ⟨rfl, by repeat (first | exact Ly.refl _ | apply Ly.lay | apply Ly.alloc | apply Ly.drewN | apply Ly.drew)⟩

set_option maxHeartbeats 4000000 in
theorem add_long (G : Nat → Prop) {b0 : Nat} {H : AHeap} {vo : Value} {t : List (Value × Value × Value)} (o : AObj) (x : Value × Value × Value) (w : World) (hp : PH w b0 H vo t) (h : PO w G o x) (m1 : o.bytes.length ≤ 9223372036854775807) (m2 : o.vals.length ≤ 9223372036854775807) (m3 : o.keys.length ≤ 9223372036854775807) (hlong : pLong o = true) :
    Calls Tryz.prog 75 #[.pointer (some ⟨b0, 0, none⟩), pobj o x] w fun e w' => e = .returned (.tuple #[.int .u64 0, .int .i64 2]) ∧ Ly w w' := by
  obtain ⟨vb, vk, vl⟩ := x
  have HO := hid h
  obtain ⟨ab, cb, rfl⟩ := h.1.form
  obtain ⟨ak, ck, rfl⟩ := h.2.1.form
  obtain ⟨al, cl, rfl⟩ := h.2.2.form
  clear h hp
  go_enter Tryz.func75, Tryz.ntmps75
  go_wp2_with (first
    | (go_at_call 135; refine (tooLong_any G o _ _ (PO.bw HO.out (Bw.alloc (Bw.refl _) _)) (by omega) (by omega) (by omega)).mono ?_; rintro e w' ⟨rfl, os1, m1, rfl⟩))
  go_ret2
  exact ⟨rfl, by repeat (first | exact Ly.refl _ | apply Ly.lay | apply Ly.alloc | apply Ly.drewN | apply Ly.drew)⟩

set_option maxHeartbeats 4000000 in
theorem add_arg (G : Nat → Prop) {b0 : Nat} {H : AHeap} {vo : Value} {t : List (Value × Value × Value)} (o : AObj) (x : Value × Value × Value) (w : World) (hp : PH w b0 H vo t) (h : PO w G o x) (hU : ∀ v ∈ o.vals, U v) (m1 : o.bytes.length ≤ 1000000000) (m2 : o.vals.length ≤ 1000000000) (m3 : o.keys.length ≤ 1000000000) (hlong : pLong o = false) (hs : pSound H.2.length o = false) :
    Calls Tryz.prog 75 #[.pointer (some ⟨b0, 0, none⟩), pobj o x] w fun e w' => e = .returned (.tuple #[.int .u64 0, .int .i64 1]) ∧ Ly w w' := by
  obtain ⟨vb, vk, vl⟩ := x
  have HO := hid h
  have HP := hid hp
  have HU := hid hU
  obtain ⟨ab, cb, rfl⟩ := h.1.form
  obtain ⟨ak, ck, rfl⟩ := h.2.1.form
  obtain ⟨al, cl, rfl⟩ := h.2.2.form
  clear h hp hU
  go_enter Tryz.func75, Tryz.ntmps75
  go_wp2_with (first
    | (go_at_call 135; refine (tooLong_any G o _ _ (PO.bw HO.out (Bw.alloc (Bw.refl _) _)) (by omega) (by omega) (by omega)).mono ?_; rintro e w' ⟨rfl, os1, m1, rfl⟩)
    | (go_at_call 136; refine (sound_any G o _ _ (PH.ly HP.out (by repeat (first | exact Ly.refl _ | apply Ly.lay | apply Ly.alloc | apply Ly.drewN | apply Ly.drew))) (PO.bw HO.out (Ly.bw (by repeat (first | exact Ly.refl _ | apply Ly.lay | apply Ly.alloc | apply Ly.drewN | apply Ly.drew)))) HU.out (by omega) (by omega) (by omega)).mono ?_; rintro e w' ⟨rfl, os2, m2, rfl⟩))
  go_ret2
  exact ⟨rfl, by repeat (first | exact Ly.refl _ | apply Ly.lay | apply Ly.alloc | apply Ly.drewN | apply Ly.drew)⟩

set_option maxHeartbeats 4000000 in
theorem add_many (G : Nat → Prop) {b0 : Nat} {H : AHeap} {vo : Value} {t : List (Value × Value × Value)} (o : AObj) (x : Value × Value × Value) (w : World) (hp : PH w b0 H vo t) (h : PO w G o x) (hU : ∀ v ∈ o.vals, U v) (m1 : o.bytes.length ≤ 1000000000) (m2 : o.vals.length ≤ 1000000000) (m3 : o.keys.length ≤ 1000000000) (hlong : pLong o = false) (hs : pSound H.2.length o = true) (hmost : H.1 ≤ (H.2.length : Int)) :
    Calls Tryz.prog 75 #[.pointer (some ⟨b0, 0, none⟩), pobj o x] w fun e w' => e = .returned (.tuple #[.int .u64 0, .int .i64 3]) ∧ Ly w w' := by
  obtain ⟨vb, vk, vl⟩ := x
  have HO := hid h
  have HP := hid hp
  have HU := hid hU
  obtain ⟨ab, cb, rfl⟩ := h.1.form
  obtain ⟨ak, ck, rfl⟩ := h.2.1.form
  obtain ⟨al, cl, rfl⟩ := h.2.2.form
  obtain ⟨ao, co, rfl⟩ := own_form hp.row
  have z0 := hp.blk.cell
  have hb0 : b0 < w.heap.size := hp.blk.lt
  have hll := hp.most
  have hlt := hp.top
  clear h hp hU
  go_enter Tryz.func75, Tryz.ntmps75
  go_upto_region 7 with (first
    | (go_at_call 135; refine (tooLong_any G o _ _ (PO.bw HO.out (Bw.alloc (Bw.refl _) _)) (by omega) (by omega) (by omega)).mono ?_; rintro e w' ⟨rfl, os1, m1, rfl⟩)
    | (go_at_call 136; refine (sound_any G o _ _ (PH.ly HP.out (by repeat (first | exact Ly.refl _ | apply Ly.lay | apply Ly.alloc | apply Ly.drewN | apply Ly.drew))) (PO.bw HO.out (Ly.bw (by repeat (first | exact Ly.refl _ | apply Ly.lay | apply Ly.alloc | apply Ly.drewN | apply Ly.drew)))) HU.out (by omega) (by omega) (by omega)).mono ?_; rintro e w' ⟨rfl, os2, m2, rfl⟩))
  go_region
  all_goals go_wp2
  all_goals go_ret2
  all_goals exact ⟨rfl, by repeat (first | exact Ly.refl _ | apply Ly.lay | apply Ly.alloc | apply Ly.drewN | apply Ly.drew)⟩

end Go.Proofs.YtajnpdiepiinjaaGreatDoor
