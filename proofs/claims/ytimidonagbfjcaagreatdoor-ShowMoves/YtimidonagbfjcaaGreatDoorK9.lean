/- What a word looks like: the program's value, Text, while there is room. · The page's examples hold: the contract of 'live'. -/
import Derived.Test.YtimidonagbfjcaaGreatDoorSPnk
import Derived.Laws.EntriesVeiled
import Derived.Test.YtimidonagbfjcaaGreatDoorPQk
set_option linter.unusedSimpArgs false
set_option linter.unusedVariables false
namespace Go.Proofs.YtimidonagbfjcaaGreatDoor
open Go Go.RowKit

set_option maxHeartbeats 8000000 in
theorem value_nest {b0 : Nat} {H : AHeap} {bs : List Nat} {sb mb bt base : Nat} {W : List Int} {xs t : List Value} (v : Int) (hU : U v) (w : World) (h : SI w b0 H bs sb mb bt base W xs)
    (hk : (kk H v == 2 || kk H v == 3 || kk H v == 4) = true)
    (hn : Calls Tryz.prog 46 #[.pointer (some ⟨sb, 0, none⟩), .int .u64 v] w fun e w2 => e = .returned (.bool true) ∧ SI w2 b0 H bs sb mb bt base W (xs ++ t) ∧ St mb bt base w w2) :
    Calls Tryz.prog 27 #[.pointer (some ⟨sb, 0, none⟩), .int .u64 v] w fun e w' => e = .returned (.bool true) ∧ SI w' b0 H bs sb mb bt base W (xs ++ t) ∧ St mb bt base w w' := by
  have HI := hid h
  have HU := hid hU
  have HN := hid hn
  have z0 := h.c0
  clear h hU hn
  go_enter Tryz.func27, Tryz.ntmps27
  go_wp2_with (first
    | (go_at_call 31; refine (kind_hs4 _ HU.out _ HI.out.hs).mono ?_; rintro e w' ⟨rfl, hw'⟩; subst w')
    | (go_at_call 45; refine (hasParts_any _ _).mono ?_; rintro e w' ⟨rfl, hw'⟩; subst w'; rw [hk])
    | (go_at_call 46; refine HN.out.mono ?_; rintro e w1 ⟨rfl, hi1, hs1⟩; have HI1 := hid hi1; have HT1 := hid hs1; clear hi1 hs1)
    | fail)
  all_goals go_ret
  all_goals exact ⟨rfl, HI1.out, HT1.out⟩

/-- The texts of words without parts that are known (X: what is besides asked of the world). -/
def PlOK (X : World → Prop) (b0 : Nat) (H : AHeap) (bs : List Nat) (pl : Int → Option ByteArray) : Prop :=
  ∀ v s, pl v = some s → U v → ∀ w1, X w1 → HS w1 b0 H bs → Calls Tryz.prog 47 #[.pointer (some ⟨b0, 0, none⟩), .int .u64 v] w1 fun e w2 => e = .returned (.string s) ∧ Bw w1 w2
/-- The numbers whose digits are known. -/
def ItOK (X : World → Prop) (it : Nat → Option ByteArray) : Prop :=
  ∀ n s, it n = some s → n ≤ 1000000 → ∀ w1, X w1 → Calls Tryz.prog 61 #[.int .i64 (n : Int)] w1 fun e w2 => e = .returned (.string s) ∧ Bw w1 w2

theorem value_lk {X : World → Prop} {b0 : Nat} {H : AHeap} {bs : List Nat} {sb mb bt base : Nat} {pl : Int → Option ByteArray} {it : Nat → Option ByteArray} (hpl : PlOK X b0 H bs pl) (hit : ItOK X it) (hX : ∀ w w', base ≤ w.heap.size → St mb bt base w w' → X w → X w') :
    ∀ (n : Nat) (W : List Int) (v : Int) (t : List Value), lk H pl it n W v = some t → U v → W.length + n ≤ 1000000 → ∀ (w : World) (xs : List Value), X w → SI w b0 H bs sb mb bt base W xs → xs.length + t.length ≤ 65536 →
      Calls Tryz.prog 27 #[.pointer (some ⟨sb, 0, none⟩), .int .u64 v] w fun e w' => e = .returned (.bool true) ∧ SI w' b0 H bs sb mb bt base W (xs ++ t) ∧ St mb bt base w w'
  | 0, W, v, t, h, _, _, _, _, _, _, _ => by simp [lk] at h
  | n + 1, W, v, t, h, hU, hW, w, xs, hx, hi, hr => by
    rw [lk] at h
    by_cases hk : (kk H v == 2 || kk H v == 3 || kk H v == 4) = true
    · rw [if_pos hk] at h
      refine value_nest v hU w hi hk ?_
      by_cases hv : v ∈ W
      · rw [if_pos hv] at h
        cases hs : it (W.length - W.idxOf v) with
        | none => rw [hs] at h; simp at h
        | some s =>
          rw [hs] at h
          simp only [Option.map_some, Option.some.injEq] at h
          subst h
          have hlt : W.idxOf v < W.length := List.idxOf_lt_length_iff.2 hv
          refine nested_in v hU w hi (W.idxOf v) (by rw [List.getElem?_eq_getElem hlt]; simp) (by omega) s (by rw [Lib.strCells_length] at hr; exact hr) (fun w1 hb1 => ?_)
          have := hit _ _ hs (by omega) w1 (hX w w1 hi.top (hi.st hb1) hx)
          rw [show ((W.length - W.idxOf v : Nat) : Int) = (W.length : Int) - (W.idxOf v : Int) by omega] at this
          exact this
      · rw [if_neg hv] at h
        by_cases hk2 : kk H v = 2
        · rw [if_pos hk2] at h
          cases hl : lks (lk H pl it n (W ++ [v])) 0 (ob H v).vals with
          | none => rw [hl] at h; simp at h
          | some T =>
            rw [hl] at h
            simp only [Option.map_some, Option.some.injEq] at h
            subst h
            simp only [List.length_append, List.length_cons, List.length_nil] at hr
            refine nested_out v hU w hi hv (by omega) (fun w1 hs1 hi1 => ?_)
            refine parts_arr v hU w1 hi1 hk2 (by omega) (fun w2 hs2 hi2 => ?_)
            exact entries_any (lk H pl it n (W ++ [v])) v hU w2 hi2 hk2 T hl (by simp only [List.length_append, List.length_cons, List.length_nil]; omega)
              (fun x tx hfx hUx w3 ys hs3 hi3 hr3 => value_lk hpl hit hX n (W ++ [v]) x tx hfx hUx (by simp; omega) w3 ys (hX w w3 hi.top ((hs1.trans hs2).trans hs3) hx) hi3 hr3)
        · rw [if_neg hk2] at h; simp at h
    · rw [if_neg hk] at h
      cases hs : pl v with
      | none => rw [hs] at h; simp at h
      | some s =>
        rw [hs] at h
        simp only [Option.map_some, Option.some.injEq] at h
        subst h
        exact value_pl v hU w hi (by simpa using hk) s (by rw [Lib.strCells_length] at hr; exact hr) (fun w1 hb1 => hpl v s hs hU w1 (hX w w1 hi.top (hi.st hb1) hx) (hi.hs.bw hb1))

theorem SI.begin {w : World} {b0 : Nat} {H : AHeap} {bs : List Nat} (h : HS w b0 H bs) :
    SI ((((w.alloc (.cells #[.slice none 0 0] 30)).alloc (.map #[] 0)).alloc (.cells (shv b0 (w.heap.size + 1) w.heap.size) 72))) b0 H bs (w.heap.size + 2) (w.heap.size + 1) w.heap.size (w.heap.size + 3) [] [] where
  hs := h.bw ((((Bw.refl w).alloc _).alloc _).alloc _)
  lo := fun k hk => by have := h.lt hk; omega
  sbn := by omega
  mbn := by omega
  btn := by omega
  top := by simp
  sh := by
    have := Blk.new ((w.alloc (.cells #[.slice none 0 0] 30)).alloc (.map #[] 0)) (shv b0 (w.heap.size + 1) w.heap.size) 72
    simpa using this
  mp := by
    have := World.ownsMap_made (w.alloc (.cells #[.slice none 0 0] 30)) Tryz.prog 27 (plainElem (H := Unit) Tryz.prog 3)
    simp only [World.size_alloc] at this
    exact ⟨_, this.alloc _, RowD.nil⟩
  tx := ⟨.slice none 0 0, ((Blk.new w #[.slice none 0 0] 30).alloc _).alloc _, ⟨rfl, .inl ⟨rfl, rfl⟩⟩⟩

set_option maxHeartbeats 8000000 in
theorem text_ok {b0 : Nat} {H : AHeap} {bs : List Nat} {pl : Int → Option ByteArray} {it : Nat → Option ByteArray} (w : World) (hpl : PlOK (Bw w) b0 H bs pl) (hit : ItOK (Bw w) it) (n : Nat) (v : Int) (t : List Value) (ht : lk H pl it n [] v = some t) (hU : U v) (hn : n ≤ 1000000) (hl : t.length ≤ 65536)
    (h : HS w b0 H bs) :
    Calls Tryz.prog 11 #[.pointer (some ⟨b0, 0, none⟩), .int .u64 v] w fun e w' => ∃ r, e = .returned (.tuple #[r, .int .i64 0]) ∧ w'.ownsRow w.heap.size 5 1 r t.length t ∧ Bw w w' := by
  have HB := hid (SI.begin h)
  have hX : ∀ w1 w2 : World, w.heap.size + 3 ≤ w1.heap.size → St (w.heap.size + 1) w.heap.size (w.heap.size + 3) w1 w2 → Bw w w1 → Bw w w2 := fun w1 w2 _ hs hb =>
    ⟨hs.os.trans hb.os, hs.tape.trans hb.tape, hs.output.trans hb.output, Nat.le_trans hb.size hs.size, fun b h1 => (hs.block b (by omega) (by omega) (by omega)).trans (hb.block b h1)⟩
  have HV := hid (fun w1 h0 h1 => value_lk (sb := w.heap.size + 2) (mb := w.heap.size + 1) (bt := w.heap.size) (base := w.heap.size + 3) hpl hit hX n [] v t ht hU (by simpa using hn) w1 [] h0 h1 (by simpa using hl))
  clear h hpl hit ht hX
  have hmm := @run_makeMap Tryz.prog
  go_enter Tryz.func11, Tryz.ntmps11
  go_wp2_with (first
    | (go_at_call 27; refine (HV.out _ ((((Bw.refl w).alloc _).alloc _).alloc _) HB.out).mono ?_; rintro e w1 ⟨rfl, hi1, hs1⟩; obtain ⟨r, hb1, ho1⟩ := hi1.tx; have y0 := hb1.cell 0; have HO1 := hid ho1; have HT1 := hid hs1; clear hi1 hs1 hb1 ho1)
    | fail)
  all_goals go_ret2
  all_goals refine ⟨_, rfl, own_base (by simpa using HO1.out) (by omega), ?_⟩
  all_goals exact ⟨HT1.out.os, HT1.out.tape, HT1.out.output, by have := HT1.out.size; simp at this; omega, fun b hb => (HT1.out.block b (by omega) (by omega) (by omega)).trans (((((Bw.refl w).alloc _).alloc _).alloc _).block b hb)⟩

end Go.Proofs.YtimidonagbfjcaaGreatDoor

set_option linter.unusedSimpArgs false
set_option linter.unusedVariables false
namespace Go.Proofs.YtimidonagbfjcaaGreatDoor
open Go Go.RowKit

set_option maxHeartbeats 4000000 in
theorem equal_self (b0 : Nat) (v : Int) (w : World) : Calls Tryz.prog 18 #[.pointer (some ⟨b0, 0, none⟩), .int .u64 v, .int .u64 v] w fun e w' => e = .returned (.bool true) ∧ w' = w := by
  go_enter Tryz.func18, Tryz.ntmps18
  go_wp2
  all_goals go_ret
  all_goals exact ⟨rfl, rfl⟩

set_option maxHeartbeats 400000 in
theorem lnum_any (n : Int) (w : World) : Calls Tryz.prog 12 #[.int .i64 n] w fun e w' => e = .returned (.int .i64 n) ∧ w' = w := by
  go_enter Tryz.func12, Tryz.ntmps12
  go_wp2
  go_ret
  exact ⟨rfl, rfl⟩

/-- The heap of the page's examples. -/
def lvH : AHeap := (3, [oStr [97], oArr [4, 2, 1], oArr [10]])
def lvPl (v : Int) : Option ByteArray := if v = 4 then some ⟨#[49]⟩ else if v = 2 then some (strOfNums (qStr [97])) else if v = 1 then some (atomS 1) else none
def lvIt (n : Nat) : Option ByteArray := if n = 1 then some ⟨#[49]⟩ else none
def lvA : List Int := [91, 49, 44, 32, 34, 97, 34, 44, 32, 110, 105, 108, 93]
def lvO : List Int := [91, 94, 49, 93]

theorem lvA_lk : lk lvH lvPl lvIt 2 [] 6 = some (lvA.map (Value.int .u8)) := by rfl
theorem lvO_lk : lk lvH lvPl lvIt 2 [] 10 = some (lvO.map (Value.int .u8)) := by rfl

theorem lv_pl (X : World → Prop) (b0 : Nat) (bs : List Nat) : PlOK X b0 lvH bs lvPl := by
  intro v s hs _ w1 _ hw
  unfold lvPl at hs
  by_cases h4 : v = 4
  · subst h4
    rw [if_pos rfl] at hs
    cases hs
    exact (plain_one _ w1).mono (fun e w2 h => ⟨h.1, by rw [h.2]; exact Bw.refl _⟩)
  · rw [if_neg h4] at hs
    by_cases h2 : v = 2
    · subst h2
      rw [if_pos rfl] at hs
      cases hs
      exact plain_str 2 ⟨by decide, by decide⟩ w1 hw (by decide) (by decide) (by decide)
    · rw [if_neg h2] at hs
      by_cases h1 : v = 1
      · subst h1
        rw [if_pos rfl] at hs
        cases hs
        exact (plain_atom _ 1 ⟨by decide, by decide⟩ w1 (by decide)).mono (fun e w2 h => ⟨h.1, by rw [h.2]; exact Bw.refl _⟩)
      · rw [if_neg h1] at hs; cases hs

theorem lv_it (X : World → Prop) : ItOK X lvIt := by
  intro n s hs _ w1 _
  unfold lvIt at hs
  by_cases h1 : n = 1
  · subst h1
    rw [if_pos rfl] at hs
    cases hs
    exact (itoa_one w1).mono (fun e w2 h => ⟨h.1, by rw [h.2]; exact Bw.refl _⟩)
  · rw [if_neg h1] at hs; cases hs

theorem lw1 : aMakeE (3, []) (oStr [97]) = 0 := by decide
theorem lw2 : aMakeV (3, []) (oStr [97]) = 2 := by decide
theorem lw3 : aMakeH (3, []) (oStr [97]) = (3, [oStr [97]]) := by simp [aMakeH, lw1]
theorem lw4 : aMakeE (3, [oStr [97]]) (oArr [4, 2, 1]) = 0 := by decide
theorem lw5 : aMakeV (3, [oStr [97]]) (oArr [4, 2, 1]) = 6 := by decide
theorem lw6 : aMakeH (3, [oStr [97]]) (oArr [4, 2, 1]) = (3, [oStr [97], oArr [4, 2, 1]]) := by simp [aMakeH, lw4]
theorem lw7 : aMakeE (3, [oStr [97], oArr [4, 2, 1]]) (oArr [0]) = 0 := by decide
theorem lw8 : aMakeV (3, [oStr [97], oArr [4, 2, 1]]) (oArr [0]) = 10 := by decide
theorem lw9 : aMakeH (3, [oStr [97], oArr [4, 2, 1]]) (oArr [0]) = (3, [oStr [97], oArr [4, 2, 1], oArr [0]]) := by simp [aMakeH, lw7]
theorem lw10 : aSetH (3, [oStr [97], oArr [4, 2, 1], oArr [0]]) 10 0 10 = lvH := by rfl
theorem lw11 : aSetE (3, [oStr [97], oArr [4, 2, 1], oArr [0]]) 10 0 10 = 0 := by decide

theorem conv_own {w : World} {base : Nat} {v : Value} {b : List Int} (h : w.ownsRow base 5 1 v b.length (b.map (Value.int .u8))) (hb : ∀ c ∈ b, 0 ≤ c ∧ c ≤ 255) (hl : b.length ≤ 1000000) :
    (convert 30 9 v).run Tryz.prog w = .ok (.string (strOfNums b)) w := by
  have h1 := by_own h hb (by omega)
  obtain ⟨a, c, rfl⟩ := own_form h
  exact By.conv0 h1

set_option maxHeartbeats 8000000 in
set_option maxRecDepth 100000 in
theorem live4_any (w : World) : Calls Tryz.prog 6 #[] w fun e w' => e = .returned (.bool true) ∧ Bw w w' := by
  have hu3 : ∀ x ∈ ([4, 2, 1] : List Int), U x := by intro x hx; simp only [List.mem_cons, List.not_mem_nil, or_false] at hx; rcases hx with rfl | rfl | rfl <;> exact ⟨by decide, by decide⟩
  have hu0 : ∀ x ∈ ([0] : List Int), U x := by intro x hx; rw [List.mem_singleton] at hx; subst hx; exact ⟨by decide, by decide⟩
  have hu97 : ∀ x ∈ ([97] : List Int), 0 ≤ x ∧ x ≤ 255 := by decide
  have huq : ∀ x ∈ ([65, 10, 255] : List Int), 0 ≤ x ∧ x ≤ 255 := by decide
  have HU := hid (And.intro hu3 (And.intro hu0 (And.intro hu97 huq)))
  have hcv := fun w => Lib.run_convert_bytes_const (P := Tryz.prog) w 30 5 #[.int .u8 97] 1 1 Tryz.underlying30 (by kernel_rfl)
  simp only [List.size_toArray, List.length_cons, List.length_nil] at hcv
  clear hu3 hu0 hu97 huq
  go_enter Tryz.func6, Tryz.ntmps6
  go_wp2_with (first
    | (go_at_call 13; refine (new_ok 3 _ (by decide) (by decide)).mono ?_; rintro e w1 ⟨rfl, hs1, hb1, hl1⟩; have S1 := hid hs1; have B1 := hid (And.intro hb1 (show ∀ b ∈ [w.heap.size], w.heap.size ≤ b by simp)); clear hs1 hb1 hl1)
    | (go_at_call 12; refine (lnum_any _ _).mono ?_; rintro e w' ⟨rfl, rfl⟩)
    | (go_at_call 14; refine (str_any (fun _ => True) _ [97] _ (S1.out.bw (Bw.alloc (Bw.refl _) _)) (sl_new' _ [.int .u8 97] 5 _ 1 rfl) HU.out.2.2.1 (by decide)).mono ?_; rw [lw1, lw2, lw3]; rintro e w2 ⟨rfl, bs2, hs2, hn2⟩; have S2 := hid hs2; have B2 := hid (hn2.bw (Bw.alloc B1.out.1 _) B1.out.2); clear hs2 hn2)
    | (go_at_call_of 15 (Value.slice (some ⟨w2.heap.size, 0, none⟩) 3 3); refine (arr_any (fun _ => True) _ [4, 2, 1] _ (S2.out.bw (Bw.alloc (Bw.refl _) _)) (sl_new _ [.int .u64 4, .int .u64 2, .int .u64 1] 27 3 rfl) HU.out.1 (by decide)).mono ?_; rw [lw4, lw5, lw6]; rintro e w3 ⟨rfl, bs3, hs3, hn3⟩; have S3 := hid hs3; have B3 := hid (hn3.bw (Bw.alloc B2.out.1 _) B2.out.2); clear hs3 hn3)
    | (go_at_call_of 15 (Value.slice (some ⟨w3.heap.size, 0, none⟩) 1 1); refine (arr_any (fun _ => True) _ [0] _ (S3.out.bw (Bw.alloc (Bw.refl _) _)) (sl_new _ [.int .u64 0] 27 1 rfl) HU.out.2.1 (by decide)).mono ?_; rw [lw7, lw8, lw9]; rintro e w4 ⟨rfl, bs4, hs4, hn4⟩; have S4 := hid hs4; have B4 := hid (hn4.bw (Bw.alloc B3.out.1 _) B3.out.2); clear hs4 hn4)
    | (go_at_call 16; refine (set_any 10 0 10 ⟨by decide, by decide⟩ ⟨by decide, by decide⟩ _ S4.out).mono ?_; rw [lw10, lw11]; rintro e w5 ⟨rfl, bs5, hs5, hn5⟩; have S5 := hid hs5; have B5 := hid (hn5.bw B4.out.1 B4.out.2); clear hs5 hn5)
    | (go_at_call_of 11 (Value.int .u64 6); refine (text_ok _ (lv_pl _ _ _) (lv_it _) 2 6 _ lvA_lk ⟨by decide, by decide⟩ (by decide) (by decide) S5.out).mono ?_; rintro e w6 ⟨r6, rfl, ho6, hb6⟩; have O6 := hid ho6; have B6 := hid (Bw.trans B5.out.1 hb6); have S6 := hid (S5.out.bw hb6); clear ho6 hb6)
    | (go_at_call_of 11 (Value.int .u64 10); refine (text_ok _ (lv_pl _ _ _) (lv_it _) 2 10 _ lvO_lk ⟨by decide, by decide⟩ (by decide) (by decide) S6.out).mono ?_; rintro e w7 ⟨r7, rfl, ho7, hb7⟩; have B7 := hid (Bw.trans B6.out hb7); have q6 := conv_own (b := lvA) (own_bw O6.out hb7) (by decide) (by decide); have q7 := conv_own (b := lvO) ho7 (by decide) (by decide); rw [show strOfNums lvA = ⟨#[91, 49, 44, 32, 34, 97, 34, 44, 32, 110, 105, 108, 93]⟩ from rfl] at q6; rw [show strOfNums lvO = ⟨#[91, 94, 49, 93]⟩ from rfl] at q7; clear ho7 hb7)
    | (go_at_call 17; refine (wQuote_any _ [65, 10, 255] _ ⟨sl_new _ [.int .u8 65, .int .u8 10, .int .u8 255] 5 3 rfl, HU.out.2.2.2, by decide⟩ (by decide)).mono ?_; rintro e w8 ⟨r8, rfl, ho8, hb8⟩; have B8 := hid (Bw.trans (Bw.alloc B7.out _) hb8); have q8 := conv_own (b := qStr [65, 10, 255]) ho8 (by decide) (by decide); rw [show strOfNums (qStr [65, 10, 255]) = ⟨#[34, 65, 92, 110, 92, 120, 102, 102, 34]⟩ from rfl] at q8; clear ho8 hb8)
    | (go_at_call 18; refine (equal_self _ _ _).mono ?_; rintro e w' ⟨rfl, hw'⟩; subst w')
    | fail)
  all_goals go_ret
  all_goals exact ⟨rfl, B8.out⟩

end Go.Proofs.YtimidonagbfjcaaGreatDoor

