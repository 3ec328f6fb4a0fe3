/- For every number and either choice, the statement LexBounds of layer 5 answers true: texts as long as may be, and longer, as many tokens as may be, and more, are answered by the program as the document asks; no condition beyond the program's own table of signs, which the card ties to its text. -/
import Derived.Test.YtkeijgafmbdnlaaDoorXL
import Derived.Test.YtkeijgafmbdnlaaDoorFr
set_option linter.unusedVariables false
set_option linter.unusedSimpArgs false
namespace Go.Proofs.YtkeijgafmbdnlaaDoor.lexBounds
open Go.ChangeShapes Go.WideShapes Go.ChangeAt Go.RowKit

theorem bw_none {w w' : World} (h : w.grownBy w' none) : Bw w w' := Below.grown (Below.refl _ _) h (Nat.le_refl _) (fun k e => by cases e)

theorem made_row {w : World} {base g n : Nat} {e : TypeId} {xs : List Value} (h : w.ownsRow base e 1 (.slice (some ⟨g, 0, none⟩) n n) n xs) :
    ∃ L : List Value, w.heap[g]? = some (.cells L.toArray e (0, 0)) ∧ L.length = n := by
  rcases h.2 with ⟨h, _⟩ | ⟨g', cap, cur, hv, _, hg, _, _, hs, _⟩
  · cases h
  · cases hv
    exact ⟨cur.toList, by simpa using hg, by simpa using hs⟩

theorem take_set {L : List Value} {i : Nat} {v : Value} (hi : i < L.length) (h : L.take i = List.replicate i v) : (L.set i v).take (i + 1) = List.replicate (i + 1) v := by
  rw [List.take_succ_eq_append_getElem (by simpa using hi), List.take_set_of_le (Nat.le_refl _), h, List.getElem_set_self]
  rw [List.replicate_succ']

theorem by_rep {w : World} {g n : Nat} {c : Int} {L : List Value} (hb : Blk w g L.toArray 5) (hl : L.length = n) (h : L.take n = List.replicate n (.int .u8 c)) (hc : 0 ≤ c ∧ c ≤ 255) (hn : n ≤ 1000000) : By w (.slice (some ⟨g, 0, none⟩) n n) (List.replicate n c) := by
  have hL : L = (List.replicate n c).map (Value.int .u8) := by rw [List.map_replicate, ← h, List.take_of_length_le (by omega)]
  refine ⟨⟨by simp, some ⟨g, 0, none⟩, n, by simp, ⟨by simp, fun h => by cases h⟩, ?_⟩, fun x hx => ?_, by simp; omega⟩
  · by_cases h0 : n = 0
    · left; simp [h0]
    · right
      refine ⟨g, 0, rfl, hb.lt, trivial, fun i hi => ?_⟩
      rw [Nat.zero_add, hb.cell, List.getElem?_toArray, hL]
  · rw [List.mem_replicate] at hx
    rw [hx.2]; exact hc

theorem lexB (n : Nat) (hn : n ≤ 65536) : lexA (List.replicate n 32) = ([(0, [], 0, (n : Int))], 0, n) := by
  unfold lexA
  rw [if_neg (by simp; omega), List.length_replicate, lex_blanks n (n + 1) 0 [] (by omega)]
  simp

theorem lexL (n : Nat) (hn : 65536 < n) (c : Int) : lexA (List.replicate n c) = ([], 2, 0) := by
  unfold lexA
  rw [if_pos (by simp; omega)]

theorem lexS (n : Nat) (hn : n ≤ 16384) : ∃ l, lexA (List.replicate n 59) = (l, 0, n) ∧ l.length = n + 1 := by
  unfold lexA
  rw [if_neg (by simp; omega), List.length_replicate]
  obtain ⟨l, h1, h2⟩ := lex_semis n (n + 1) 0 [] (by omega) (by simp; omega)
  exact ⟨l, by rw [h1]; simp, by simpa using h2⟩

theorem lexM (n : Nat) (hn : 16384 < n) (h : n ≤ 65536) : lexA (List.replicate n 59) = ([], 3, 16384) := by
  unfold lexA
  rw [if_neg (by simp; omega), List.length_replicate, lex_many n (n + 1) 0 [] (by omega) (by simp) (by simp; omega)]
  simp

set_option maxHeartbeats 8000000 in
theorem coreB (n : Nat) (h0 : 65530 ≤ n) (h1 : n ≤ 65540) (w : World) (hs : Sg w) :
    Calls Tryd.prog 5 #[.int .i64 (n : Nat), .bool true] w fun e w' => e = .returned (.bool true) ∧ Bw w w' := by
  have HS := hid hs
  obtain ⟨i1, hi1, hz1, hs1, hy1⟩ := info_parts infoU8
  have I1 := hid (And.intro hi1 (And.intro hz1 (And.intro hs1 hy1)))
  have HN := hid (And.intro h0 h1)
  have d1 : decide ((n : Int) < 65530) = false := decide_eq_false (by omega)
  have d2 : decide ((65540 : Int) < (n : Int)) = false := decide_eq_false (by omega)
  have hm : n ≤ 9223372036854775807 := by omega
  clear hs hi1 hz1 hs1 hy1 h0 h1
  go_enter Tryd.func5, Tryd.ntmps5
  go_wp2_with (first
    | (at_make; refine wpList_make_full _ rfl _ _ 22 rfl w.heap.size 5 i1 (.int .u8 0) 1 under22 I1.out.1 I1.out.2.1 I1.out.2.2.1 _ _ _ _ n rfl rfl rfl rfl ?c4 ?c5 (Nat.le_refl _) ?_)
    | go_in)
  case c4 => have := HN.out; rw [I1.out.2.2.2]; omega
  case c5 => have := HN.out; unfold maxLen; omega
  intro W hrow0 hgr
  have hbel := hid (bw_none hgr)
  obtain ⟨L, hL, hLl⟩ := made_row hrow0
  have HL := hid hL
  have HLl := hid hLl
  clear hrow0 hgr hL hLl
  go_wp2
  go_loopw [6] (fun j wr => ∃ (i : Nat) (L : List Value), i ≤ n ∧ j = .int .i64 (i : Nat) ∧ Blk wr w.heap.size L.toArray 5 ∧ L.length = n ∧ L.take i = List.replicate i (.int .u8 32) ∧ Bw w wr) (fun j _ => n - (intOf j).toNat)
  case atStart => exact ⟨0, L, Nat.zero_le _, rfl, HL.out, HLl.out, by simp, hbel.out⟩
  case round =>
    obtain ⟨i, L, hi, rfl, hbk, hll, htk, hbw⟩ := hrel
    have HBK := hid hbk
    have HLL := hid hll
    have HTK := hid htk
    have HBW := hid hbw
    clear hbk hll htk hbw
    by_cases hlt : i < n
    · have hlt2 : (i : Int) < (n : Int) := by omega
      have hiL : i < L.length := by rw [HLL.out]; exact hlt
      have kc : wr.cell? ⟨w.heap.size, i, none⟩ = some L[i] := by rw [HBK.out.cell]; simp [hiL]
      have kf := HBK.out.free
      have HBK2 := hid (HBK.out.set i (.int .u8 32))
      generalize L[i] = u at kc
      clear hiL
      go_wp2
      go_roundw
      case rel => exact ⟨i + 1, L.set i (.int .u8 32), by omega, by go_num, by simpa using HBK2.out, by simp [HLL.out], take_set (by rw [HLL.out]; exact hlt) HTK.out, HBW.out.setCell (Nat.le_refl _) _⟩
      case measure => simp [intOf]; omega
    · obtain rfl : i = n := by omega
      have HY := hid (by_rep HBK.out HLL.out HTK.out (by decide) (by have := HN.out; omega))
      have HLN : (List.replicate i (32 : Int)).length = i := List.length_replicate
      by_cases hlong : i ≤ 65536
      · have d3 : decide ((65536 : Int) < (i : Int)) = false := decide_eq_false (by omega)
        have LX := hid (lexB i hlong)
        clear hlong
        go_wp2_with (first
          | (go_at_call 10; refine (xLex_any _ _ _ HY.out (HS.out.bw HBW.out) (by have := HN.out; rw [HLN]; omega)).mono ?_; rw [LX.out]; rintro e w1 ⟨r1, rfl, ht1, hb1⟩; have HB1 := hid (Bw.trans HBW.out hb1); obtain ⟨a1, c1, e1⟩ := ht1.form; subst e1; clear ht1 hb1)
          | (go_at_call 13; refine (num_any _ _).mono ?_; rintro e w' ⟨rfl, hw'⟩; subst w')
          | (go_at_call 9; refine (live_any _ (HS.out.bw HB1.out)).mono ?_; rintro e wl ⟨rfl, hbl⟩; have BL := hid (Bw.trans HB1.out hbl); clear hbl))
        all_goals go_ret
        all_goals exact ⟨rfl, BL.out⟩
      · have d3 : decide ((65536 : Int) < (i : Int)) = true := decide_eq_true (by omega)
        have LX := hid (lexL i (by omega) 32)
        clear hlong
        go_wp2_with (first
          | (go_at_call 10; refine (xLex_any _ _ _ HY.out (HS.out.bw HBW.out) (by have := HN.out; rw [HLN]; omega)).mono ?_; rw [LX.out]; rintro e w1 ⟨r1, rfl, ht1, hb1⟩; have HB1 := hid (Bw.trans HBW.out hb1); obtain ⟨a1, c1, e1⟩ := ht1.form; subst e1; clear ht1 hb1)
          | (go_at_call 13; refine (num_any _ _).mono ?_; rintro e w' ⟨rfl, hw'⟩; subst w')
          | (go_at_call 9; refine (live_any _ (HS.out.bw HB1.out)).mono ?_; rintro e wl ⟨rfl, hbl⟩; have BL := hid (Bw.trans HB1.out hbl); clear hbl))
        all_goals go_ret
        all_goals exact ⟨rfl, BL.out⟩

set_option maxRecDepth 100000 in
set_option maxHeartbeats 8000000 in
theorem coreS (n : Nat) (h0 : 16380 ≤ n) (h1 : n ≤ 16390) (w : World) (hs : Sg w) :
    Calls Tryd.prog 5 #[.int .i64 (n : Nat), .bool false] w fun e w' => e = .returned (.bool true) ∧ Bw w w' := by
  have HS := hid hs
  obtain ⟨i1, hi1, hz1, hs1, hy1⟩ := info_parts infoU8
  have I1 := hid (And.intro hi1 (And.intro hz1 (And.intro hs1 hy1)))
  have HN := hid (And.intro h0 h1)
  have d1 : decide ((n : Int) < 16380) = false := decide_eq_false (by omega)
  have d2 : decide ((16390 : Int) < (n : Int)) = false := decide_eq_false (by omega)
  have hm : n ≤ 1000000 := by omega
  clear hs hi1 hz1 hs1 hy1 h0 h1
  go_enter Tryd.func5, Tryd.ntmps5
  go_wp2_with (first
    | (at_make; refine wpList_make_full _ rfl _ _ 22 rfl w.heap.size 5 i1 (.int .u8 0) 1 under22 I1.out.1 I1.out.2.1 I1.out.2.2.1 _ _ _ _ n rfl rfl rfl rfl ?c4 ?c5 (Nat.le_refl _) ?_)
    | go_in)
  case c4 => have := HN.out; rw [I1.out.2.2.2]; omega
  case c5 => have := HN.out; unfold maxLen; omega
  intro W hrow0 hgr
  have hbel := hid (bw_none hgr)
  obtain ⟨L, hL, hLl⟩ := made_row hrow0
  have HL := hid hL
  have HLl := hid hLl
  clear hrow0 hgr hL hLl
  go_wp2
  go_loopw [6] (fun j wr => ∃ (i : Nat) (L : List Value), i ≤ n ∧ j = .int .i64 (i : Nat) ∧ Blk wr w.heap.size L.toArray 5 ∧ L.length = n ∧ L.take i = List.replicate i (.int .u8 59) ∧ Bw w wr) (fun j _ => n - (intOf j).toNat)
  case atStart => exact ⟨0, L, Nat.zero_le _, rfl, HL.out, HLl.out, by simp, hbel.out⟩
  case round =>
    obtain ⟨i, L, hi, rfl, hbk, hll, htk, hbw⟩ := hrel
    have HBK := hid hbk
    have HLL := hid hll
    have HTK := hid htk
    have HBW := hid hbw
    clear hbk hll htk hbw
    by_cases hlt : i < n
    · have hlt2 : (i : Int) < (n : Int) := by omega
      have hiL : i < L.length := by rw [HLL.out]; exact hlt
      have kc : wr.cell? ⟨w.heap.size, i, none⟩ = some L[i] := by rw [HBK.out.cell]; simp [hiL]
      have kf := HBK.out.free
      have HBK1 := HBK.out.set i (.int .u8 32)
      have HBK2 := hid (HBK1.set i (.int .u8 59))
      have kf1 := HBK1.free
      have kc1 : (wr.setCell ⟨w.heap.size, i, none⟩ (.int .u8 32)).cell? ⟨w.heap.size, i, none⟩ = some (.int .u8 32) := by rw [HBK1.cell]; simp [hiL]
      generalize L[i] = u at kc
      clear hiL HBK1
      go_wp2
      go_roundw
      case rel => exact ⟨i + 1, L.set i (.int .u8 59), by omega, by go_num, by simpa using HBK2.out, by simp [HLL.out], take_set (by rw [HLL.out]; exact hlt) HTK.out, (HBW.out.setCell (Nat.le_refl _) _).setCell (Nat.le_refl _) _⟩
      case measure => simp [intOf]; omega
    · obtain rfl : i = n := by omega
      have HY := hid (by_rep HBK.out HLL.out HTK.out (by decide) (by have := HN.out; omega))
      have HLN : (List.replicate i (59 : Int)).length = i := List.length_replicate
      by_cases hlong : i ≤ 16384
      · have d3 : decide ((16384 : Int) < (i : Int)) = false := decide_eq_false (by omega)
        obtain ⟨l, lx1, lx2⟩ := lexS i hlong
        have LX := hid lx1
        have LN := hid lx2
        clear hlong lx1 lx2
        go_wp2_with (first
          | (go_at_call 10; refine (xLex_any _ _ _ HY.out (HS.out.bw HBW.out) (by have := HN.out; rw [HLN]; omega)).mono ?_; rw [LX.out]; rintro e w1 ⟨r1, rfl, ht1, hb1⟩; have HB1 := hid (Bw.trans HBW.out hb1); obtain ⟨a1, c1, e1⟩ := ht1.form; rw [LN.out] at e1; subst e1; clear ht1 hb1)
          | (go_at_call 13; refine (num_any _ _).mono ?_; rintro e w' ⟨rfl, hw'⟩; subst w')
          | (go_at_call 9; refine (live_any _ (HS.out.bw HB1.out)).mono ?_; rintro e wl ⟨rfl, hbl⟩; have BL := hid (Bw.trans HB1.out hbl); clear hbl))
        all_goals go_ret
        all_goals exact ⟨rfl, BL.out⟩
      · have d3 : decide ((16384 : Int) < (i : Int)) = true := decide_eq_true (by omega)
        have HX : Hid (Calls Tryd.prog 10 #[.slice (some ⟨w.heap.size, 0, none⟩) i i] wr fun e w' => ∃ r, e = .returned (.tuple #[r, .int .i64 3, .int .i64 16384]) ∧ Tk w' wr.heap.size r [] ∧ Bw wr w') := by
          have hx := xLex_any _ _ _ HY.out (HS.out.bw HBW.out) (by have := HN.out; rw [HLN]; omega)
          rw [lexM i (by omega) (by have := HN.out; omega)] at hx
          exact hid hx
        clear hlong
        go_wp2_with (first
          | (go_at_call 10; refine (HX.out).mono ?_; rintro e w1 ⟨r1, rfl, ht1, hb1⟩; have HB1 := hid (Bw.trans HBW.out hb1); obtain ⟨a1, c1, e1⟩ := ht1.form; subst e1; clear ht1 hb1)
          | (go_at_call 13; refine (num_any _ _).mono ?_; rintro e w' ⟨rfl, hw'⟩; subst w')
          | (go_at_call 9; refine (live_any _ (HS.out.bw HB1.out)).mono ?_; rintro e wl ⟨rfl, hbl⟩; have BL := hid (Bw.trans HB1.out hbl); clear hbl))
        all_goals go_ret
        all_goals exact ⟨rfl, BL.out⟩

set_option maxHeartbeats 4000000 in
theorem coreO (a0 : Int) (a1 : Bool) (h : (a1 = true ∧ (a0 < 65530 ∨ 65540 < a0)) ∨ (a1 = false ∧ (a0 < 16380 ∨ 16390 < a0))) (w : World) (hs : Sg w) :
    Calls Tryd.prog 5 #[.int .i64 a0, .bool a1] w fun e w' => e = .returned (.bool true) ∧ Bw w w' := by
  have HS := hid hs
  clear hs
  rcases h with ⟨rfl, h | h⟩ | ⟨rfl, h | h⟩
  · have d1 : decide (a0 < 65530) = true := decide_eq_true h
    clear h
    go_enter Tryd.func5, Tryd.ntmps5
    go_wp2_with (first
      | (go_at_call 9; refine (live_any _ HS.out).mono ?_; rintro e wl ⟨rfl, hbl⟩; have BL := hid hbl; clear hbl))
    all_goals go_ret
    all_goals exact ⟨rfl, BL.out⟩
  · have d1 : decide (a0 < 65530) = false := decide_eq_false (by omega)
    have d2 : decide (65540 < a0) = true := decide_eq_true h
    clear h
    go_enter Tryd.func5, Tryd.ntmps5
    go_wp2_with (first
      | (go_at_call 9; refine (live_any _ HS.out).mono ?_; rintro e wl ⟨rfl, hbl⟩; have BL := hid hbl; clear hbl))
    all_goals go_ret
    all_goals exact ⟨rfl, BL.out⟩
  · have d1 : decide (a0 < 16380) = true := decide_eq_true h
    clear h
    go_enter Tryd.func5, Tryd.ntmps5
    go_wp2_with (first
      | (go_at_call 9; refine (live_any _ HS.out).mono ?_; rintro e wl ⟨rfl, hbl⟩; have BL := hid hbl; clear hbl))
    all_goals go_ret
    all_goals exact ⟨rfl, BL.out⟩
  · have d1 : decide (a0 < 16380) = false := decide_eq_false (by omega)
    have d2 : decide (16390 < a0) = true := decide_eq_true h
    clear h
    go_enter Tryd.func5, Tryd.ntmps5
    go_wp2_with (first
      | (go_at_call 9; refine (live_any _ HS.out).mono ?_; rintro e wl ⟨rfl, hbl⟩; have BL := hid hbl; clear hbl))
    all_goals go_ret
    all_goals exact ⟨rfl, BL.out⟩

theorem walk (a0 : Int) (w0 : -9223372036854775808 ≤ a0 ∧ a0 ≤ 9223372036854775807) (a1 : Bool) (w : World) (hs : Sg w) :
    Calls Tryd.prog 5 #[.int .i64 a0, .bool a1] w fun e w' => e = .returned (.bool true) ∧ Bw w w' := by
  by_cases ho : (a1 = true ∧ (a0 < 65530 ∨ 65540 < a0)) ∨ (a1 = false ∧ (a0 < 16380 ∨ 16390 < a0))
  · exact coreO a0 a1 ho w hs
  · cases a1
    · obtain ⟨n, rfl⟩ : ∃ n : Nat, a0 = n := ⟨a0.toNat, by simp at ho; omega⟩
      exact coreS n (by simp at ho; omega) (by simp at ho; omega) w hs
    · obtain ⟨n, rfl⟩ : ∃ n : Nat, a0 = n := ⟨a0.toNat, by simp at ho; omega⟩
      exact coreB n (by simp at ho; omega) (by simp at ho; omega) w hs

set_option maxRecDepth 100000 in
theorem lifted (os : Os) (started : os.Started) (H : Type) (enc : TypeId × Value → H) :
    ReturnsInHanded {} Tryd.checked os 5 .any (fun w args => (Rows.lexBoundsSpec.pre enc Tryd.prog Tryd.f5 [] false w args ∧ laidMetH Tryd.prog laidS w) ∧ sizedMet enc Tryd.prog Tryd.f5 (OpenSpec.ofChange Rows.lexBoundsSpec) false w args)
      (Rows.lexBoundsSpec.post enc Tryd.prog Tryd.f5 false true false false) := by
  refine returnsInHanded_of_change_and (C := Tryd.checked) (X := fun w _ => laidMetH Tryd.prog laidS w) (fun _ _ _ hh h => h.of_heap hh) ownK started (by kernel_rfl) Tryd.func5
    (ChangeSpec.witness_shaped (enc := enc) (C := Tryd.checked) (os := os) (X := fun w _ => laidMetH Tryd.prog laidS w) false (World.doorLaid Tryd.prog 400 os) #[.int .i64 0, .bool false] 8 rfl (World.shaped_of_RefB (by kernel_rfl) (by kernel_rfl)) (by kernel_rfl) (by kernel_rfl) (by kernel_rfl) (door_met os _)) ?_
  intro W base args ds gs before hval0 hW _ _ hL _
  have hval : ∀ (j : Nat) t v, Tryd.f5.params[j]? = some t → args[j]? = some v → Value.okWide Tryd.prog W .any base t v := hval0
  have hW' := hW
  obtain ⟨p, q, hA0, hV, rfl, hfz, hnd⟩ := hW
  have hA : DataW.TrodAll enc Tryd.prog W 0 (fun _ => true) true Tryd.f5.params.toList args.toList ds p := hA0
  rw [Tryd.params5] at hA hval
  obtain ⟨v0, vs0, d0, ds0, p0, q0, hargs, rfl, rfl, h0, r0⟩ := trodAll_cons hA
  obtain ⟨v1, vs1, d1, ds1, p1, q1, rfl, rfl, rfl, h1, r1⟩ := trodAll_cons r0
  obtain ⟨rfl, rfl, rfl⟩ := trodAll_nil r1
  obtain rfl : args = #[v0, v1] := by cases args; simp_all
  obtain ⟨rfl, rfl⟩ := trodVars_none hV
  have k0 := h0
  have lt0 : ∀ x ∈ p0, x.block < W.heap.size := by obtain ⟨m, hm⟩ := k0; exact DataW.trod_lt m _ _ _ hm
  have k1 := h1
  have lt1 : ∀ x ∈ p1, x.block < W.heap.size := by obtain ⟨m, hm⟩ := k1; exact DataW.trod_lt m _ _ _ hm
  obtain ⟨a0, rfl, rfl, rfl, w00⟩ := open_int Tryd.underlying3 (hval 0 3 v0 rfl rfl) h0
  have w0 := bounds_i64 w00
  obtain ⟨a1, rfl⟩ := okWide_bool Tryd.underlying4 (hval 1 4 v1 rfl rfl)
  have hs := sg_of_laid hL
  clear hA0 hval0
  refine (walk a0 w0 a1 W hs).mono fun e W' ⟨he, bel⟩ => ?_
  subst he
  exact ⟨_, rfl, _, _, _, [], _, [], hW', trodAll_mk1 (shut_bool Tryd.underlying4 _), (trodAll_cons_mk (Below.trod laidOut (by kernel_rfl) (of_decide_eq_true (by kernel_rfl)) k0 bel lt0) (trodAll_cons_mk (Below.trod laidOut (by kernel_rfl) (of_decide_eq_true (by kernel_rfl)) k1 bel lt1) trodAll_mk0)), rfl, Below.frame bel _, fun h => by cases h⟩

theorem over : Rows.lexBoundsRow.holds Tryd.pinned (OpenSpec.ofChange Rows.lexBoundsSpec) :=
  OpenClaim.holds_of_wide 5 Tryd.f5 rfl rfl rfl rfl rfl rfl rfl ⟨rfl, rfl, rfl, rfl, rfl⟩ rfl rfl rfl rfl rfl (by kernel_rfl) Tryd.func5 (by kernel_rfl)
    (of_decide_eq_true (by kernel_rfl)) (by unfold Func.isWrapper; first | (rw [if_pos (by decide +kernel)]; kernel_rfl) | (rw [if_neg (by decide +kernel)]; exact ⟨rfl, rfl⟩))
    (fun os started H enc _ => lifted os started H enc)

theorem card : Rows.LexBoundsCardSaid :=
  Claim7.holds_tied_plain_at .later [] [.data] true (true, "f567e925df362bb1c81fa80b70b27c1e22dd2cd5e13d10c4e7a29f1846822db2") false
    over (fun _ h => by cases h) (by kernel_rfl) (fun _ h => by cases h) lexBounds_row_tie rfl ⟨rfl, rfl⟩ (by kernel_rfl) rfl
    (fun f fn hf hfn => by
      obtain rfl : f = 5 := Option.some.inj ((show Tryd.prog.funcNamed "jacquard/jacquardlaw05.LexBounds" = some 5 by kernel_rfl).symm.trans hf) |>.symm
      obtain rfl : fn = Tryd.f5 := (Option.some.inj (Tryd.func5.symm.trans hfn)).symm
      exact ⟨by kernel_rfl, fun j t ht => by
        rw [Tryd.params5] at ht
        have hm : t ∈ [3, 4] := by simpa using Array.mem_of_getElem? ht
        have hall : ([3, 4].all fun u => !Tryd.prog.wantsStandIn u) = true := by kernel_rfl
        exact (show Tryd.prog.wantsStandIn t = false by simpa using List.all_eq_true.1 hall t hm)⟩)
    (by kernel_rfl)
end Go.Proofs.YtkeijgafmbdnlaaDoor.lexBounds
namespace Go.Proofs.YtkeijgafmbdnlaaDoor
theorem lexBounds_holds : Rows.LexBoundsCardSaid := lexBounds.card
#print axioms lexBounds_holds
end Go.Proofs.YtkeijgafmbdnlaaDoor
