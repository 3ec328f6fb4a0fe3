/- The page's examples hold: the contract of 'live'. · Whether two words are the same: the program's Equal. -/
import Derived.Test.YtlhgdknmgdohkaaGreatDoorK8
import Derived.Test.YtlhgdknmgdohkaaGreatDoorK6
import Derived.Test.YtlhgdknmgdohkaaGreatDoorPIbk
set_option linter.unusedSimpArgs false
set_option linter.unusedVariables false
namespace Go.Proofs.YtlhgdknmgdohkaaGreatDoor
open Go Go.RowKit

set_option maxHeartbeats 4000000 in
theorem equal_self (b0 : Nat) (v : Int) (w : World) : Calls Tryz.prog 12 #[.pointer (some ⟨b0, 0, none⟩), .int .u64 v, .int .u64 v] w fun e w' => e = .returned (.bool true) ∧ w' = w := by
  go_enter Tryz.func12, Tryz.ntmps12
  go_wp2
  all_goals go_ret
  all_goals exact ⟨rfl, rfl⟩

set_option maxHeartbeats 400000 in
theorem lnum_any (n : Int) (w : World) : Calls Tryz.prog 14 #[.int .i64 n] w fun e w' => e = .returned (.int .i64 n) ∧ w' = w := by
  go_enter Tryz.func14, Tryz.ntmps14
  go_wp2
  go_ret
  exact ⟨rfl, rfl⟩

/-- The heap of the page's examples. -/
def lvH : AHeap := (3, [oStr [97], oArr [4, 2, 1], oArr [10]])
def lvPl (v : Int) : Option ByteArray := if v = 4 then some ⟨#[49]⟩ else if v = 2 then some (strOfNums (qStr [97])) else if v = 1 then some (atomS 1) else none
def lvIt (n : Nat) : Option ByteArray := if n = 1 then some ⟨#[49]⟩ else none
def lvA : List Int := [91, 49, 44, 32, 34, 97, 34, 44, 32, 110, 105, 108, 93]
def lvO : List Int := [91, 94, 49, 93]

theorem lvA_lk : lk lvH lvPl lvIt 2 [] 6 = some (lvA.map (Value.int .u8)) := by rfl
theorem lvO_lk : lk lvH lvPl lvIt 2 [] 10 = some (lvO.map (Value.int .u8)) := by rfl

theorem lv_pl (X : World → Prop) (b0 : Nat) (bs : List Nat) : PlOK X b0 lvH bs lvPl := by
  intro v s hs _ w1 _ hw
  unfold lvPl at hs
  by_cases h4 : v = 4
  · subst h4
    rw [if_pos rfl] at hs
    cases hs
    exact (plain_one _ w1).mono (fun e w2 h => ⟨h.1, by rw [h.2]; exact Bw.refl _⟩)
  · rw [if_neg h4] at hs
    by_cases h2 : v = 2
    · subst h2
      rw [if_pos rfl] at hs
      cases hs
      exact plain_str 2 ⟨by decide, by decide⟩ w1 hw (by decide) (by decide) (by decide)
    · rw [if_neg h2] at hs
      by_cases h1 : v = 1
      · subst h1
        rw [if_pos rfl] at hs
        cases hs
        exact (plain_atom _ 1 ⟨by decide, by decide⟩ w1 (by decide)).mono (fun e w2 h => ⟨h.1, by rw [h.2]; exact Bw.refl _⟩)
      · rw [if_neg h1] at hs; cases hs

theorem lv_it (X : World → Prop) : ItOK X lvIt := by
  intro n s hs _ w1 _
  unfold lvIt at hs
  by_cases h1 : n = 1
  · subst h1
    rw [if_pos rfl] at hs
    cases hs
    exact (itoa_one w1).mono (fun e w2 h => ⟨h.1, by rw [h.2]; exact Bw.refl _⟩)
  · rw [if_neg h1] at hs; cases hs

theorem lw1 : aMakeE (3, []) (oStr [97]) = 0 := by decide
theorem lw2 : aMakeV (3, []) (oStr [97]) = 2 := by decide
theorem lw3 : aMakeH (3, []) (oStr [97]) = (3, [oStr [97]]) := by simp [aMakeH, lw1]
theorem lw4 : aMakeE (3, [oStr [97]]) (oArr [4, 2, 1]) = 0 := by decide
theorem lw5 : aMakeV (3, [oStr [97]]) (oArr [4, 2, 1]) = 6 := by decide
theorem lw6 : aMakeH (3, [oStr [97]]) (oArr [4, 2, 1]) = (3, [oStr [97], oArr [4, 2, 1]]) := by simp [aMakeH, lw4]
theorem lw7 : aMakeE (3, [oStr [97], oArr [4, 2, 1]]) (oArr [0]) = 0 := by decide
theorem lw8 : aMakeV (3, [oStr [97], oArr [4, 2, 1]]) (oArr [0]) = 10 := by decide
theorem lw9 : aMakeH (3, [oStr [97], oArr [4, 2, 1]]) (oArr [0]) = (3, [oStr [97], oArr [4, 2, 1], oArr [0]]) := by simp [aMakeH, lw7]
theorem lw10 : aSetH (3, [oStr [97], oArr [4, 2, 1], oArr [0]]) 10 0 10 = lvH := by rfl
theorem lw11 : aSetE (3, [oStr [97], oArr [4, 2, 1], oArr [0]]) 10 0 10 = 0 := by decide

theorem conv_own {w : World} {base : Nat} {v : Value} {b : List Int} (h : w.ownsRow base 5 1 v b.length (b.map (Value.int .u8))) (hb : ∀ c ∈ b, 0 ≤ c ∧ c ≤ 255) (hl : b.length ≤ 1000000) :
    (convert 44 9 v).run Tryz.prog w = .ok (.string (strOfNums b)) w := by
  have h1 := by_own h hb (by omega)
  obtain ⟨a, c, rfl⟩ := own_form h
  exact By.conv0 h1

set_option maxHeartbeats 8000000 in
set_option maxRecDepth 100000 in
theorem live4_any (w : World) : Calls Tryz.prog 8 #[] w fun e w' => e = .returned (.bool true) ∧ Bw w w' := by
  have hu3 : ∀ x ∈ ([4, 2, 1] : List Int), U x := by intro x hx; simp only [List.mem_cons, List.not_mem_nil, or_false] at hx; rcases hx with rfl | rfl | rfl <;> exact ⟨by decide, by decide⟩
  have hu0 : ∀ x ∈ ([0] : List Int), U x := by intro x hx; rw [List.mem_singleton] at hx; subst hx; exact ⟨by decide, by decide⟩
  have hu97 : ∀ x ∈ ([97] : List Int), 0 ≤ x ∧ x ≤ 255 := by decide
  have huq : ∀ x ∈ ([65, 10, 255] : List Int), 0 ≤ x ∧ x ≤ 255 := by decide
  have HU := hid (And.intro hu3 (And.intro hu0 (And.intro hu97 huq)))
  have hcv := fun w => Lib.run_convert_bytes_const (P := Tryz.prog) w 44 5 #[.int .u8 97] 1 1 Tryz.underlying44 (by kernel_rfl)
  simp only [List.size_toArray, List.length_cons, List.length_nil] at hcv
  clear hu3 hu0 hu97 huq
  go_enter Tryz.func8, Tryz.ntmps8
  go_wp2_with (first
    | (go_at_call 21; refine (new_ok 3 _ (by decide) (by decide)).mono ?_; rintro e w1 ⟨rfl, hs1, hb1, hl1⟩; have S1 := hid hs1; have B1 := hid (And.intro hb1 (show ∀ b ∈ [w.heap.size], w.heap.size ≤ b by simp)); clear hs1 hb1 hl1)
    | (go_at_call 14; refine (lnum_any _ _).mono ?_; rintro e w' ⟨rfl, rfl⟩)
    | (go_at_call 22; refine (str_any (fun _ => True) _ [97] _ (S1.out.bw (Bw.alloc (Bw.refl _) _)) (sl_new' _ [.int .u8 97] 5 _ 1 rfl) HU.out.2.2.1 (by decide)).mono ?_; rw [lw1, lw2, lw3]; rintro e w2 ⟨rfl, bs2, hs2, hn2⟩; have S2 := hid hs2; have B2 := hid (hn2.bw (Bw.alloc B1.out.1 _) B1.out.2); clear hs2 hn2)
    | (go_at_call_of 23 (Value.slice (some ⟨w2.heap.size, 0, none⟩) 3 3); refine (arr_any (fun _ => True) _ [4, 2, 1] _ (S2.out.bw (Bw.alloc (Bw.refl _) _)) (sl_new _ [.int .u64 4, .int .u64 2, .int .u64 1] 27 3 rfl) HU.out.1 (by decide)).mono ?_; rw [lw4, lw5, lw6]; rintro e w3 ⟨rfl, bs3, hs3, hn3⟩; have S3 := hid hs3; have B3 := hid (hn3.bw (Bw.alloc B2.out.1 _) B2.out.2); clear hs3 hn3)
    | (go_at_call_of 23 (Value.slice (some ⟨w3.heap.size, 0, none⟩) 1 1); refine (arr_any (fun _ => True) _ [0] _ (S3.out.bw (Bw.alloc (Bw.refl _) _)) (sl_new _ [.int .u64 0] 27 1 rfl) HU.out.2.1 (by decide)).mono ?_; rw [lw7, lw8, lw9]; rintro e w4 ⟨rfl, bs4, hs4, hn4⟩; have S4 := hid hs4; have B4 := hid (hn4.bw (Bw.alloc B3.out.1 _) B3.out.2); clear hs4 hn4)
    | (go_at_call 24; refine (set_any 10 0 10 ⟨by decide, by decide⟩ ⟨by decide, by decide⟩ _ S4.out).mono ?_; rw [lw10, lw11]; rintro e w5 ⟨rfl, bs5, hs5, hn5⟩; have S5 := hid hs5; have B5 := hid (hn5.bw B4.out.1 B4.out.2); clear hs5 hn5)
    | (go_at_call_of 16 (Value.int .u64 6); refine (text_ok _ (lv_pl _ _ _) (lv_it _) 2 6 _ lvA_lk ⟨by decide, by decide⟩ (by decide) (by decide) S5.out).mono ?_; rintro e w6 ⟨r6, rfl, ho6, hb6⟩; have O6 := hid ho6; have B6 := hid (Bw.trans B5.out.1 hb6); have S6 := hid (S5.out.bw hb6); clear ho6 hb6)
    | (go_at_call_of 16 (Value.int .u64 10); refine (text_ok _ (lv_pl _ _ _) (lv_it _) 2 10 _ lvO_lk ⟨by decide, by decide⟩ (by decide) (by decide) S6.out).mono ?_; rintro e w7 ⟨r7, rfl, ho7, hb7⟩; have B7 := hid (Bw.trans B6.out hb7); have q6 := conv_own (b := lvA) (own_bw O6.out hb7) (by decide) (by decide); have q7 := conv_own (b := lvO) ho7 (by decide) (by decide); rw [show strOfNums lvA = ⟨#[91, 49, 44, 32, 34, 97, 34, 44, 32, 110, 105, 108, 93]⟩ from rfl] at q6; rw [show strOfNums lvO = ⟨#[91, 94, 49, 93]⟩ from rfl] at q7; clear ho7 hb7)
    | (go_at_call 25; refine (wQuote_any _ [65, 10, 255] _ ⟨sl_new _ [.int .u8 65, .int .u8 10, .int .u8 255] 5 3 rfl, HU.out.2.2.2, by decide⟩ (by decide)).mono ?_; rintro e w8 ⟨r8, rfl, ho8, hb8⟩; have B8 := hid (Bw.trans (Bw.alloc B7.out _) hb8); have q8 := conv_own (b := qStr [65, 10, 255]) ho8 (by decide) (by decide); rw [show strOfNums (qStr [65, 10, 255]) = ⟨#[34, 65, 92, 110, 92, 120, 102, 102, 34]⟩ from rfl] at q8; clear ho8 hb8)
    | (go_at_call 12; refine (equal_self _ _ _).mono ?_; rintro e w' ⟨rfl, hw'⟩; subst w')
    | fail)
  all_goals go_ret
  all_goals exact ⟨rfl, B8.out⟩

end Go.Proofs.YtlhgdknmgdohkaaGreatDoor

set_option linter.unusedSimpArgs false
set_option linter.unusedVariables false
namespace Go.Proofs.YtlhgdknmgdohkaaGreatDoor
open Go Go.RowKit

theorem nums_back (l : List Int) (h : ∀ c ∈ l, 0 ≤ c ∧ c ≤ 255) : (strOfNums l).data.toList.map (fun u => (u.toNat : Int)) = l := by
  unfold strOfNums
  simp only [List.map_map]
  conv => rhs; rw [← List.map_id l]
  apply List.map_congr_left
  intro c hc
  have := h c hc
  simp only [Function.comp, id]
  rw [UInt8.toNat_ofNat_of_lt' (by show c.toNat < 256; omega)]
  omega

theorem nums_inj {a b : List Int} (ha : ∀ c ∈ a, 0 ≤ c ∧ c ≤ 255) (hb : ∀ c ∈ b, 0 ≤ c ∧ c ≤ 255) (h : strOfNums a = strOfNums b) : a = b := by
  rw [← nums_back a ha, ← nums_back b hb, h]

/-- Are two words the same? -/
def eqW (H : AHeap) (a b : Int) : Bool :=
  decide (a = b) || (decide (kk H a = kk H b) && ((decide (kk H a = 1) && decide ((ob H a).bytes = (ob H b).bytes)) || (decide (kk H a = 6) && (decide ((ob H a).re = (ob H b).re) && decide ((ob H a).im = (ob H b).im)))))

set_option maxRecDepth 100000 in
set_option maxHeartbeats 4000000 in
theorem bEq_any (u v : Value) (s t : ByteArray) (w : World) (hu : (convert 44 9 u).run Tryz.prog w = .ok (.string s) w) (hv : (convert 44 9 v).run Tryz.prog w = .ok (.string t) w) :
    Calls Tryz.prog 64 #[u, v] w fun e w' => e = .returned (.bool (decide (s = t))) ∧ w' = w := by
  by_cases h : s = t
  · subst h
    rw [decide_eq_true rfl]
    go_enter Tryz.func64, Tryz.ntmps64
    go_wp2
    all_goals go_ret
    all_goals exact ⟨rfl, rfl⟩
  · have hn := str_ne h
    rw [decide_eq_false h]
    go_enter Tryz.func64, Tryz.ntmps64
    go_wp2
    all_goals go_ret
    all_goals exact ⟨rfl, rfl⟩

set_option maxRecDepth 100000 in
set_option maxHeartbeats 4000000 in
theorem sameBytes_any {b0 : Nat} {H : AHeap} {bs : List Nat} (a b : Int) (ha : U a) (hb : U b) (w : World) (hp : HS w b0 H bs) (ka : kk H a = 1) (kb : kk H b = 1) :
    Calls Tryz.prog 34 #[.pointer (some ⟨b0, 0, none⟩), .int .u64 a, .int .u64 b] w fun e w' => e = .returned (.bool (decide ((ob H a).bytes = (ob H b).bytes))) ∧ Bw w w' := by
  have hoa := ob_ok (v := a) hp.ok ha (kk_ref (by omega)).2.1
  have hob := ob_ok (v := b) hp.ok hb (kk_ref (by omega)).2.1
  have HBA := hid hoa.2.2.2.2.1
  have HBB := hid hob.2.2.2.2.1
  have HLA := hid hoa.2.2.2.2.2.1
  have HLB := hid hob.2.2.2.2.2.1
  have HA := hid ha
  have HB := hid hb
  have HP := hid hp
  have KA := hid ka
  have KB := hid kb
  have HLena := hid (fun w h => len_str (b0 := b0) (H := H) (bs := bs) a ha w h ka)
  have HLenb := hid (fun w h => len_str (b0 := b0) (H := H) (bs := bs) b hb w h kb)
  have HBya := hid (fun w h => bytes_yes (b0 := b0) (H := H) (bs := bs) a ha w h ka)
  have HByb := hid (fun w h => bytes_yes (b0 := b0) (H := H) (bs := bs) b hb w h kb)
  clear hoa hob ha hb hp ka kb
  generalize (ob H a).bytes = x at HBA HLA HLena HBya
  generalize (ob H b).bytes = y at HBB HLB HLenb HByb
  by_cases hl : x.length = y.length
  · have hne : ((y.length : Int) != (x.length : Int)) = false := by rw [bne_eq_false_iff_eq]; omega
    have HD : Hid (decide (strOfNums x = strOfNums y) = decide (x = y)) := by
      show decide (strOfNums x = strOfNums y) = decide (x = y)
      by_cases h : x = y
      · rw [h]; simp
      · rw [decide_eq_false h, decide_eq_false (fun k => h (nums_inj HBA.out HBB.out k))]
    rw [← HD.out]
    clear hl
    go_enter Tryz.func34, Tryz.ntmps34
    go_wp2_with (first
      | (go_at_call_of 62 (Value.int .u64 a); refine (HLena.out _ HP.out).mono ?_; rintro e w1 ⟨rfl, hl1⟩; have HP1 := hid (HP.out.bw hl1.bw); have B1 := hid hl1.bw; clear hl1)
      | (go_at_call_of 62 (Value.int .u64 b); refine (HLenb.out _ HP1.out).mono ?_; rintro e w2 ⟨rfl, hl2⟩; have HP2 := hid (HP1.out.bw hl2.bw); have B2 := hid (Bw.trans B1.out hl2.bw); clear hl2)
      | (go_at_call_of 63 (Value.int .u64 a); refine (HBya.out _ HP2.out).mono ?_; rintro e w3 ⟨r3, rfl, ho3, hb3⟩; have HP3 := hid (HP2.out.bw hb3); have B3 := hid (Bw.trans B2.out hb3); have O3 := hid ho3; clear ho3 hb3)
      | (go_at_call_of 63 (Value.int .u64 b); refine (HByb.out _ HP3.out).mono ?_; rintro e w4 ⟨r4, rfl, ho4, hb4⟩; have B4 := hid (Bw.trans B3.out hb4); have c3 := conv_own (own_bw O3.out hb4) HBA.out HLA.out; have c4 := conv_own ho4 HBB.out HLB.out; have C3 := hid c3; have C4 := hid c4; clear ho4 hb4 c3 c4)
      | (go_at_call 64; refine (bEq_any _ _ _ _ _ C3.out C4.out).mono ?_; rintro e w' ⟨rfl, hw'⟩; subst w')
      | fail)
    all_goals go_ret
    all_goals exact ⟨rfl, B4.out⟩
  · have hne : ((y.length : Int) != (x.length : Int)) = true := by rw [bne_iff_ne]; omega
    have HD : Hid (decide (x = y) = false) := decide_eq_false (fun h => hl (by rw [h]))
    rw [HD.out]
    clear hl
    go_enter Tryz.func34, Tryz.ntmps34
    go_wp2_with (first
      | (go_at_call_of 62 (Value.int .u64 a); refine (HLena.out _ HP.out).mono ?_; rintro e w1 ⟨rfl, hl1⟩; have HP1 := hid (HP.out.bw hl1.bw); have B1 := hid hl1.bw; clear hl1)
      | (go_at_call_of 62 (Value.int .u64 b); refine (HLenb.out _ HP1.out).mono ?_; rintro e w2 ⟨rfl, hl2⟩; have B2 := hid (Bw.trans B1.out hl2.bw); clear hl2)
      | fail)
    all_goals go_ret
    all_goals exact ⟨rfl, B2.out⟩

set_option maxRecDepth 100000 in
set_option maxHeartbeats 4000000 in
theorem sameBits_any {b0 : Nat} {H : AHeap} {bs : List Nat} (a b : Int) (ha : U a) (hb : U b) (w : World) (hp : HS w b0 H bs) (ka : kk H a = 6) (kb : kk H b = 6) :
    Calls Tryz.prog 35 #[.pointer (some ⟨b0, 0, none⟩), .int .u64 a, .int .u64 b] w fun e w' => e = .returned (.bool (decide ((ob H a).re = (ob H b).re) && decide ((ob H a).im = (ob H b).im))) ∧ Bw w w' := by
  have HP := hid hp
  have HCa := hid (fun w h => cplxOf_yes (b0 := b0) (H := H) (bs := bs) a ha w h ka)
  have HCb := hid (fun w h => cplxOf_yes (b0 := b0) (H := H) (bs := bs) b hb w h kb)
  clear ha hb hp ka kb
  generalize (ob H a).re = x at HCa
  generalize (ob H a).im = y at HCa
  generalize (ob H b).re = z at HCb
  generalize (ob H b).im = t at HCb
  obtain ⟨r, hr⟩ : ∃ r, r = decide (x = z) := ⟨_, rfl⟩
  obtain ⟨q, hq⟩ : ∃ q, q = decide (y = t) := ⟨_, rfl⟩
  have h1 : (x == z) = r := by rw [hr]; by_cases h : x = z <;> simp [h]
  have h2 : (y == t) = q := by rw [hq]; by_cases h : y = t <;> simp [h]
  rw [← hr, ← hq]
  clear hr hq
  cases r <;> cases q
  all_goals
    go_enter Tryz.func35, Tryz.ntmps35
    go_wp2_with (first
      | (go_at_call_of 65 (Value.int .u64 a); refine (HCa.out _ HP.out).mono ?_; rintro e w1 ⟨rfl, hl1⟩; have HP1 := hid (HP.out.bw hl1.bw); have B1 := hid hl1.bw; clear hl1)
      | (go_at_call_of 65 (Value.int .u64 b); refine (HCb.out _ HP1.out).mono ?_; rintro e w2 ⟨rfl, hl2⟩; have B2 := hid (Bw.trans B1.out hl2.bw); clear hl2)
      | fail)
    all_goals go_ret
    all_goals exact ⟨rfl, B2.out⟩

set_option maxRecDepth 100000 in
set_option maxHeartbeats 4000000 in
theorem equal_any {b0 : Nat} {H : AHeap} {bs : List Nat} (a b : Int) (ha : U a) (hb : U b) (w : World) (hp : HS w b0 H bs) :
    Calls Tryz.prog 12 #[.pointer (some ⟨b0, 0, none⟩), .int .u64 a, .int .u64 b] w fun e w' => e = .returned (.bool (eqW H a b)) ∧ Bw w w' := by
  by_cases hab : a = b
  · subst hab
    have : eqW H a a = true := by unfold eqW; simp
    rw [this]
    exact (equal_self b0 a w).mono (fun e w' h => ⟨h.1, by rw [h.2]; exact Bw.refl _⟩)
  · have hab1 : (a == b) = false := by rw [beq_eq_false_iff_ne]; exact hab
    have HA := hid ha
    have HB := hid hb
    have HP := hid hp
    by_cases hk : kk H a = kk H b
    · have hk1 : (kk H a != kk H b) = false := by rw [bne_eq_false_iff_eq]; exact hk
      by_cases k1 : kk H a = 1
      · have e : eqW H a b = decide ((ob H a).bytes = (ob H b).bytes) := by unfold eqW; rw [decide_eq_false hab, decide_eq_true hk, decide_eq_true k1, decide_eq_false (show ¬ kk H a = 6 by omega)]; simp
        rw [e]
        have HS1 := hid (sameBytes_any a b ha hb w hp k1 (hk ▸ k1))
        have t1 : (kk H a == 1) = true := by rw [k1]; rfl
        generalize decide ((ob H a).bytes = (ob H b).bytes) = r at HS1
        clear ha hb hp hab hk k1 e
        go_enter Tryz.func12, Tryz.ntmps12
        go_wp2_with (first
          | (go_at_call_of 33 (Value.int .u64 a); refine (kind_hs4 _ HA.out _ HP.out).mono ?_; rintro e w' ⟨rfl, hw'⟩; subst w')
          | (go_at_call_of 33 (Value.int .u64 b); refine (kind_hs4 _ HB.out _ HP.out).mono ?_; rintro e w' ⟨rfl, hw'⟩; subst w')
          | (go_at_call 34; refine HS1.out.mono ?_; rintro e w1 ⟨rfl, hb1⟩; have B1 := hid hb1; clear hb1)
          | fail)
        all_goals go_ret
        all_goals exact ⟨rfl, B1.out⟩
      · have t1 : (kk H a == 1) = false := by rw [beq_eq_false_iff_ne]; exact k1
        by_cases k6 : kk H a = 6
        · have e : eqW H a b = (decide ((ob H a).re = (ob H b).re) && decide ((ob H a).im = (ob H b).im)) := by unfold eqW; rw [decide_eq_false hab, decide_eq_true hk, decide_eq_false k1, decide_eq_true k6]; simp
          rw [e]
          have HS1 := hid (sameBits_any a b ha hb w hp k6 (hk ▸ k6))
          have t6 : (kk H a == 6) = true := by rw [k6]; rfl
          generalize (decide ((ob H a).re = (ob H b).re) && decide ((ob H a).im = (ob H b).im)) = r at HS1
          clear ha hb hp hab hk k1 k6 e
          go_enter Tryz.func12, Tryz.ntmps12
          go_wp2_with (first
            | (go_at_call_of 33 (Value.int .u64 a); refine (kind_hs4 _ HA.out _ HP.out).mono ?_; rintro e w' ⟨rfl, hw'⟩; subst w')
            | (go_at_call_of 33 (Value.int .u64 b); refine (kind_hs4 _ HB.out _ HP.out).mono ?_; rintro e w' ⟨rfl, hw'⟩; subst w')
            | (go_at_call 35; refine HS1.out.mono ?_; rintro e w1 ⟨rfl, hb1⟩; have B1 := hid hb1; clear hb1)
            | fail)
          all_goals go_ret
          all_goals exact ⟨rfl, B1.out⟩
        · have t6 : (kk H a == 6) = false := by rw [beq_eq_false_iff_ne]; exact k6
          have e : eqW H a b = false := by unfold eqW; rw [decide_eq_false hab, decide_eq_false k1, decide_eq_false k6]; simp
          rw [e]
          clear ha hb hp hab hk k1 k6 e
          go_enter Tryz.func12, Tryz.ntmps12
          go_wp2_with (first
            | (go_at_call_of 33 (Value.int .u64 a); refine (kind_hs4 _ HA.out _ HP.out).mono ?_; rintro e w' ⟨rfl, hw'⟩; subst w')
            | (go_at_call_of 33 (Value.int .u64 b); refine (kind_hs4 _ HB.out _ HP.out).mono ?_; rintro e w' ⟨rfl, hw'⟩; subst w')
            | fail)
          all_goals go_ret
          all_goals exact ⟨rfl, Bw.refl _⟩
    · have hk1 : (kk H a != kk H b) = true := by rw [bne_iff_ne]; exact hk
      have e : eqW H a b = false := by unfold eqW; rw [decide_eq_false hab, decide_eq_false hk]; simp
      rw [e]
      clear ha hb hp hab hk e
      go_enter Tryz.func12, Tryz.ntmps12
      go_wp2_with (first
        | (go_at_call_of 33 (Value.int .u64 a); refine (kind_hs4 _ HA.out _ HP.out).mono ?_; rintro e w' ⟨rfl, hw'⟩; subst w')
        | (go_at_call_of 33 (Value.int .u64 b); refine (kind_hs4 _ HB.out _ HP.out).mono ?_; rintro e w' ⟨rfl, hw'⟩; subst w')
        | fail)
      all_goals go_ret
      all_goals exact ⟨rfl, Bw.refl _⟩

end Go.Proofs.YtlhgdknmgdohkaaGreatDoor

