/- The page's example holds: the contract of 'live'. -/
import Derived.Test.YtjemhdepgeecjaaPI
import Derived.Test.YtjemhdepgeecjaaPL
import Derived.Lib.SmallJoins
set_option linter.unusedSimpArgs false
set_option linter.unusedVariables false
namespace Go.Proofs.Ytjemhdepgeecjaa
open Go Go.RowKit

theorem Nx.bw {w w1 w2 : World} {bs bs' : List Nat} (k : Nx bs w1 w2 bs') (h : Bw w w1) (hs : ∀ b ∈ bs, w.heap.size ≤ b) : Bw w w2 ∧ ∀ b ∈ bs', w.heap.size ≤ b :=
  ⟨k.1.below h h.size hs, fun b hb => (k.2 b hb).elim (hs b) (fun hh => Nat.le_trans h.size hh)⟩

set_option maxHeartbeats 400000 in
theorem num_any (n : Int) (w : World) : Calls Try.prog 13 #[.int .i64 n] w fun e w' => e = .returned (.int .i64 n) ∧ w' = w := by
  go_enter Try.func13, Try.ntmps13
  go_wp2
  go_ret
  exact ⟨rfl, rfl⟩

/-- A list that was just laid, with marks. -/
theorem sl_new' (w : World) (l : List Value) (e : TypeId) (fr : Nat × Nat) (n : Nat) (hn : l.length = n) : Sl (w.alloc (.cells l.toArray e fr)) (fun _ => True) (.slice (some ⟨w.heap.size, 0, none⟩) n n) n 1 l := by
  refine ⟨by omega, _, n, rfl, ⟨Nat.le_refl _, fun h => by cases h⟩, .inr ⟨_, 0, rfl, by simp, trivial, fun i hi => ?_⟩⟩
  have h := heap_alloc_new w (.cells l.toArray e fr)
  rw [cell_of_row _ _ _ _ _ _ h]
  simp

theorem lv1 : aMakeE (2, []) (oStr [97]) = 0 := by decide
theorem lv2 : aMakeV (2, []) (oStr [97]) = 2 := by decide
theorem lv3 : aMakeH (2, []) (oStr [97]) = (2, [oStr [97]]) := by simp [aMakeH, lv1]
theorem lv4 : aMakeE (2, [oStr [97]]) (oArr [2]) = 0 := by decide
theorem lv5 : aMakeV (2, [oStr [97]]) (oArr [2]) = 6 := by decide
theorem lv6 : aMakeH (2, [oStr [97]]) (oArr [2]) = (2, [oStr [97], oArr [2]]) := by simp [aMakeH, lv4]
theorem lv7 : aMakeE (2, [oStr [97], oArr [2]]) (oCell 1) = 3 := by decide
theorem lv8 : aMakeV (2, [oStr [97], oArr [2]]) (oCell 1) = 0 := by simp [aMakeV, lv7]
theorem lv9 : aMakeH (2, [oStr [97], oArr [2]]) (oCell 1) = (2, [oStr [97], oArr [2]]) := by simp [aMakeH, lv7]
theorem lv10 : aAtV (2, [oStr [97], oArr [2]]) 2 0 = 388 := by decide
theorem lv11 : aAtE (2, [oStr [97], oArr [2]]) 2 0 = 0 := by decide

theorem count_hs {b0 : Nat} {H : AHeap} {bs : List Nat} (w : World) (h : HS w b0 H bs) :
    Calls Try.prog 29 #[.pointer (some ⟨b0, 0, none⟩)] w fun e w' => e = .returned (.int .i64 H.2.length) ∧ w' = w := by
  obtain ⟨vo, t, h, _⟩ := h
  exact count_any w h
theorem good_hs {b0 : Nat} {H : AHeap} {bs : List Nat} (v : Int) (hU : U v) (w : World) (h : HS w b0 H bs) :
    Calls Try.prog 31 #[.pointer (some ⟨b0, 0, none⟩), .int .u64 v] w fun e w' => e = .returned (.bool (gd H.2.length v)) ∧ w' = w := by
  obtain ⟨vo, t, h, _⟩ := h
  exact good_any v hU w h
theorem kind_hs {b0 : Nat} {H : AHeap} {bs : List Nat} (v : Int) (hU : U v) (w : World) (h : HS w b0 H bs) :
    Calls Try.prog 30 #[.pointer (some ⟨b0, 0, none⟩), .int .u64 v] w fun e w' => e = .returned (.int .i64 (kk H v)) ∧ w' = w := by
  obtain ⟨vo, t, h, _⟩ := h
  exact kind_h v hU w h

set_option maxHeartbeats 4000000 in
set_option maxRecDepth 100000 in
theorem live_any (w : World) : Calls Try.prog 10 #[] w fun e w' => e = .returned (.bool true) ∧ Bw w w' := by
  have hu1 : U 1 := ⟨by decide, by decide⟩
  have hu2 : ∀ x ∈ ([2] : List Int), U x := by intro x hx; rw [List.mem_singleton] at hx; subst hx; exact ⟨by decide, by decide⟩
  have hu97 : ∀ x ∈ ([97] : List Int), 0 ≤ x ∧ x ≤ 255 := by intro x hx; rw [List.mem_singleton] at hx; subst hx; exact ⟨by decide, by decide⟩
  have HU := hid (And.intro hu1 (And.intro hu2 hu97))
  have hcv := fun w => Lib.run_convert_bytes_const (P := Try.prog) w 39 5 #[.int .u8 97] 1 1 Try.underlying39 (by kernel_rfl)
  simp only [List.size_toArray, List.length_cons, List.length_nil] at hcv
  clear hu1 hu2 hu97
  go_enter Try.func10, Try.ntmps10
  go_wp2_with (first
    | (go_at_call 11; refine (new_ok 2 _ (by decide) (by decide)).mono ?_; rintro e w1 ⟨rfl, hs1, hb1, hl1⟩; have S1 := hid hs1; have B1 := hid (And.intro hb1 (show ∀ b ∈ [w.heap.size], w.heap.size ≤ b by simp)); clear hs1 hb1 hl1)
    | (go_at_call 13; refine (num_any _ _).mono ?_; rintro e w' ⟨rfl, rfl⟩)
    | (go_at_call 32; refine (str_any (fun _ => True) _ [97] _ (S1.out.bw (Bw.alloc (Bw.refl _) _)) (sl_new' _ [.int .u8 97] 5 _ 1 rfl) HU.out.2.2 (by decide)).mono ?_; rw [lv1, lv2, lv3]; rintro e w2 ⟨rfl, bs2, hs2, hn2⟩; have S2 := hid hs2; have B2 := hid (hn2.bw (Bw.alloc B1.out.1 _) B1.out.2); clear hs2 hn2)
    | (go_at_call 33; refine (arr_any (fun _ => True) _ [2] _ (S2.out.bw (Bw.alloc (Bw.refl _) _)) (sl_new _ [.int .u64 2] 38 1 rfl) HU.out.2.1 (by decide)).mono ?_; rw [lv4, lv5, lv6]; rintro e w3 ⟨rfl, bs3, hs3, hn3⟩; have S3 := hid hs3; have B3 := hid (hn3.bw (Bw.alloc B2.out.1 _) B2.out.2); clear hs3 hn3)
    | (go_at_call 38; refine (cell_any _ _ S3.out HU.out.1).mono ?_; rw [lv7, lv8, lv9]; rintro e w4 ⟨rfl, bs4, hs4, hn4⟩; have S4 := hid hs4; have B4 := hid (hn4.bw B3.out.1 B3.out.2); clear hs4 hn4)
    | (go_at_call 18; refine (at_any _ _ ⟨by decide, by decide⟩ _ S4.out).mono ?_; rw [lv10, lv11]; rintro e w5 ⟨rfl, hly⟩; have S5 := hid (S4.out.ly hly); have B5 := hid (Bw.trans B4.out.1 hly.bw); clear hly)
    | (go_at_call 29; refine (count_hs _ S5.out).mono ?_; rintro e w' ⟨rfl, rfl⟩))
  all_goals go_ret
  all_goals exact ⟨rfl, B5.out⟩

end Go.Proofs.Ytjemhdepgeecjaa
