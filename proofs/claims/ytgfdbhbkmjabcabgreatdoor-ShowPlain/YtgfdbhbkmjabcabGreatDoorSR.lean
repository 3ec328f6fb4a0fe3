/- The page's examples hold: the contract of 'live'. -/
import Derived.Test.YtgfdbhbkmjabcabGreatDoorSQ
import Derived.Test.YtgfdbhbkmjabcabGreatDoorPQ
set_option linter.unusedSimpArgs false
set_option linter.unusedVariables false
namespace Go.Proofs.YtgfdbhbkmjabcabGreatDoor
open Go Go.RowKit

set_option maxHeartbeats 4000000 in
theorem equal_self (b0 : Nat) (v : Int) (w : World) : Calls Tryz.prog 9 #[.pointer (some ⟨b0, 0, none⟩), .int .u64 v, .int .u64 v] w fun e w' => e = .returned (.bool true) ∧ w' = w := by
  go_enter Tryz.func9, Tryz.ntmps9
  go_wp2
  all_goals go_ret
  all_goals exact ⟨rfl, rfl⟩

set_option maxHeartbeats 400000 in
theorem lnum_any (n : Int) (w : World) : Calls Tryz.prog 6 #[.int .i64 n] w fun e w' => e = .returned (.int .i64 n) ∧ w' = w := by
  go_enter Tryz.func6, Tryz.ntmps6
  go_wp2
  go_ret
  exact ⟨rfl, rfl⟩

/-- The heap of the page's examples. -/
def lvH : AHeap := (3, [oStr [97], oArr [4, 2, 1], oArr [10]])
def lvPl (v : Int) : Option ByteArray := if v = 4 then some ⟨#[49]⟩ else if v = 2 then some (strOfNums (qStr [97])) else if v = 1 then some (atomS 1) else none
def lvIt (n : Nat) : Option ByteArray := if n = 1 then some ⟨#[49]⟩ else none
def lvA : List Int := [91, 49, 44, 32, 34, 97, 34, 44, 32, 110, 105, 108, 93]
def lvO : List Int := [91, 94, 49, 93]

theorem lvA_lk : lk lvH lvPl lvIt 2 [] 6 = some (lvA.map (Value.int .u8)) := by rfl
theorem lvO_lk : lk lvH lvPl lvIt 2 [] 10 = some (lvO.map (Value.int .u8)) := by rfl

theorem lv_pl (X : World → Prop) (b0 : Nat) (bs : List Nat) : PlOK X b0 lvH bs lvPl := by
  intro v s hs _ w1 _ hw
  unfold lvPl at hs
  by_cases h4 : v = 4
  · subst h4
    rw [if_pos rfl] at hs
    cases hs
    exact (plain_one _ w1).mono (fun e w2 h => ⟨h.1, by rw [h.2]; exact Bw.refl _⟩)
  · rw [if_neg h4] at hs
    by_cases h2 : v = 2
    · subst h2
      rw [if_pos rfl] at hs
      cases hs
      exact plain_str 2 ⟨by decide, by decide⟩ w1 hw (by decide) (by decide) (by decide)
    · rw [if_neg h2] at hs
      by_cases h1 : v = 1
      · subst h1
        rw [if_pos rfl] at hs
        cases hs
        exact (plain_atom _ 1 ⟨by decide, by decide⟩ w1 (by decide)).mono (fun e w2 h => ⟨h.1, by rw [h.2]; exact Bw.refl _⟩)
      · rw [if_neg h1] at hs; cases hs

theorem lv_it (X : World → Prop) : ItOK X lvIt := by
  intro n s hs _ w1 _
  unfold lvIt at hs
  by_cases h1 : n = 1
  · subst h1
    rw [if_pos rfl] at hs
    cases hs
    exact (itoa_one w1).mono (fun e w2 h => ⟨h.1, by rw [h.2]; exact Bw.refl _⟩)
  · rw [if_neg h1] at hs; cases hs

theorem lw1 : aMakeE (3, []) (oStr [97]) = 0 := by decide
theorem lw2 : aMakeV (3, []) (oStr [97]) = 2 := by decide
theorem lw3 : aMakeH (3, []) (oStr [97]) = (3, [oStr [97]]) := by simp [aMakeH, lw1]
theorem lw4 : aMakeE (3, [oStr [97]]) (oArr [4, 2, 1]) = 0 := by decide
theorem lw5 : aMakeV (3, [oStr [97]]) (oArr [4, 2, 1]) = 6 := by decide
theorem lw6 : aMakeH (3, [oStr [97]]) (oArr [4, 2, 1]) = (3, [oStr [97], oArr [4, 2, 1]]) := by simp [aMakeH, lw4]
theorem lw7 : aMakeE (3, [oStr [97], oArr [4, 2, 1]]) (oArr [0]) = 0 := by decide
theorem lw8 : aMakeV (3, [oStr [97], oArr [4, 2, 1]]) (oArr [0]) = 10 := by decide
theorem lw9 : aMakeH (3, [oStr [97], oArr [4, 2, 1]]) (oArr [0]) = (3, [oStr [97], oArr [4, 2, 1], oArr [0]]) := by simp [aMakeH, lw7]
theorem lw10 : aSetH (3, [oStr [97], oArr [4, 2, 1], oArr [0]]) 10 0 10 = lvH := by rfl
theorem lw11 : aSetE (3, [oStr [97], oArr [4, 2, 1], oArr [0]]) 10 0 10 = 0 := by decide

theorem conv_own {w : World} {base : Nat} {v : Value} {b : List Int} (h : w.ownsRow base 5 1 v b.length (b.map (Value.int .u8))) (hb : ∀ c ∈ b, 0 ≤ c ∧ c ≤ 255) (hl : b.length ≤ 1000000) :
    (convert 34 9 v).run Tryz.prog w = .ok (.string (strOfNums b)) w := by
  have h1 := by_own h hb (by omega)
  obtain ⟨a, c, rfl⟩ := own_form h
  exact By.conv0 h1

set_option maxHeartbeats 8000000 in
set_option maxRecDepth 100000 in
theorem live4_any (w : World) : Calls Tryz.prog 10 #[] w fun e w' => e = .returned (.bool true) ∧ Bw w w' := by
  have hu3 : ∀ x ∈ ([4, 2, 1] : List Int), U x := by intro x hx; simp only [List.mem_cons, List.not_mem_nil, or_false] at hx; rcases hx with rfl | rfl | rfl <;> exact ⟨by decide, by decide⟩
  have hu0 : ∀ x ∈ ([0] : List Int), U x := by intro x hx; rw [List.mem_singleton] at hx; subst hx; exact ⟨by decide, by decide⟩
  have hu97 : ∀ x ∈ ([97] : List Int), 0 ≤ x ∧ x ≤ 255 := by decide
  have huq : ∀ x ∈ ([65, 10, 255] : List Int), 0 ≤ x ∧ x ≤ 255 := by decide
  have HU := hid (And.intro hu3 (And.intro hu0 (And.intro hu97 huq)))
  have hcv := fun w => Lib.run_convert_bytes_const (P := Tryz.prog) w 34 5 #[.int .u8 97] 1 1 Tryz.underlying34 (by kernel_rfl)
  simp only [List.size_toArray, List.length_cons, List.length_nil] at hcv
  clear hu3 hu0 hu97 huq
  go_enter Tryz.func10, Tryz.ntmps10
  go_wp2_with (first
    | (go_at_call 4; refine (new_ok 3 _ (by decide) (by decide)).mono ?_; rintro e w1 ⟨rfl, hs1, hb1, hl1⟩; have S1 := hid hs1; have B1 := hid (And.intro hb1 (show ∀ b ∈ [w.heap.size], w.heap.size ≤ b by simp)); clear hs1 hb1 hl1)
    | (go_at_call 6; refine (lnum_any _ _).mono ?_; rintro e w' ⟨rfl, rfl⟩)
    | (go_at_call 17; refine (str_any (fun _ => True) _ [97] _ (S1.out.bw (Bw.alloc (Bw.refl _) _)) (sl_new' _ [.int .u8 97] 5 _ 1 rfl) HU.out.2.2.1 (by decide)).mono ?_; rw [lw1, lw2, lw3]; rintro e w2 ⟨rfl, bs2, hs2, hn2⟩; have S2 := hid hs2; have B2 := hid (hn2.bw (Bw.alloc B1.out.1 _) B1.out.2); clear hs2 hn2)
    | (go_at_call_of 18 (Value.slice (some ⟨w2.heap.size, 0, none⟩) 3 3); refine (arr_any (fun _ => True) _ [4, 2, 1] _ (S2.out.bw (Bw.alloc (Bw.refl _) _)) (sl_new _ [.int .u64 4, .int .u64 2, .int .u64 1] 23 3 rfl) HU.out.1 (by decide)).mono ?_; rw [lw4, lw5, lw6]; rintro e w3 ⟨rfl, bs3, hs3, hn3⟩; have S3 := hid hs3; have B3 := hid (hn3.bw (Bw.alloc B2.out.1 _) B2.out.2); clear hs3 hn3)
    | (go_at_call_of 18 (Value.slice (some ⟨w3.heap.size, 0, none⟩) 1 1); refine (arr_any (fun _ => True) _ [0] _ (S3.out.bw (Bw.alloc (Bw.refl _) _)) (sl_new _ [.int .u64 0] 23 1 rfl) HU.out.2.1 (by decide)).mono ?_; rw [lw7, lw8, lw9]; rintro e w4 ⟨rfl, bs4, hs4, hn4⟩; have S4 := hid hs4; have B4 := hid (hn4.bw (Bw.alloc B3.out.1 _) B3.out.2); clear hs4 hn4)
    | (go_at_call 19; refine (set_any 10 0 10 ⟨by decide, by decide⟩ ⟨by decide, by decide⟩ _ S4.out).mono ?_; rw [lw10, lw11]; rintro e w5 ⟨rfl, bs5, hs5, hn5⟩; have S5 := hid hs5; have B5 := hid (hn5.bw B4.out.1 B4.out.2); clear hs5 hn5)
    | (go_at_call_of 7 (Value.int .u64 6); refine (text_ok _ (lv_pl _ _ _) (lv_it _) 2 6 _ lvA_lk ⟨by decide, by decide⟩ (by decide) (by decide) S5.out).mono ?_; rintro e w6 ⟨r6, rfl, ho6, hb6⟩; have O6 := hid ho6; have B6 := hid (Bw.trans B5.out.1 hb6); have S6 := hid (S5.out.bw hb6); clear ho6 hb6)
    | (go_at_call_of 7 (Value.int .u64 10); refine (text_ok _ (lv_pl _ _ _) (lv_it _) 2 10 _ lvO_lk ⟨by decide, by decide⟩ (by decide) (by decide) S6.out).mono ?_; rintro e w7 ⟨r7, rfl, ho7, hb7⟩; have B7 := hid (Bw.trans B6.out hb7); have q6 := conv_own (b := lvA) (own_bw O6.out hb7) (by decide) (by decide); have q7 := conv_own (b := lvO) ho7 (by decide) (by decide); rw [show strOfNums lvA = ⟨#[91, 49, 44, 32, 34, 97, 34, 44, 32, 110, 105, 108, 93]⟩ from rfl] at q6; rw [show strOfNums lvO = ⟨#[91, 94, 49, 93]⟩ from rfl] at q7; clear ho7 hb7)
    | (go_at_call 20; refine (wQuote_any _ [65, 10, 255] _ ⟨sl_new _ [.int .u8 65, .int .u8 10, .int .u8 255] 5 3 rfl, HU.out.2.2.2, by decide⟩ (by decide)).mono ?_; rintro e w8 ⟨r8, rfl, ho8, hb8⟩; have B8 := hid (Bw.trans (Bw.alloc B7.out _) hb8); have q8 := conv_own (b := qStr [65, 10, 255]) ho8 (by decide) (by decide); rw [show strOfNums (qStr [65, 10, 255]) = ⟨#[34, 65, 92, 110, 92, 120, 102, 102, 34]⟩ from rfl] at q8; clear ho8 hb8)
    | (go_at_call 9; refine (equal_self _ _ _).mono ?_; rintro e w' ⟨rfl, hw'⟩; subst w')
    | fail)
  all_goals go_ret
  all_goals exact ⟨rfl, B8.out⟩

end Go.Proofs.YtgfdbhbkmjabcabGreatDoor
