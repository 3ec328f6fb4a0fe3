/- For every two numbers, the statement HeapBounds of layer 3 answers true: strings, arrays, records and functions of the program are made as long as they may be and no longer, and one entry or field more is refused just there; no condition. -/
import Derived.Test.YtolfgkpmcfneiaaPZ
import Derived.Test.YtolfgkpmcfneiaaFb
set_option linter.unusedVariables false
set_option linter.unusedSimpArgs false
namespace Go.Proofs.Ytolfgkpmcfneiaa.heapBounds
open Go.ChangeShapes Go.WideShapes Go.ChangeAt Go.RowKit

/-- What is answered where there is a bound: 2 beyond it. -/
def ern (k : Int) (n : Nat) : Int := if k < (n : Int) then 2 else 0

theorem ern_of (k : Int) (n : Nat) : (if decide (k < (n : Int)) = true then (2 : Int) else 0) = ern k n := by simp [ern]

def H1 (n : Nat) : AHeap := aMakeH (20, []) (oStr (zs n))

def H2 (n : Nat) : AHeap := aMakeH (H1 n) (oArr (zs n))

def H3 (n m : Nat) : AHeap := aMakeH (H2 n) (oFun 0 (zs m))

def H4 (n m : Nat) : AHeap := aMakeH (H3 n m) (oRec (kbs m) (zs m))

theorem h4_cap (n m : Nat) : Capped (H4 n m) := ((((Capped.nil 20).str _).arr _).fun _ _).rec _ _

theorem h1_len (n : Nat) : (H1 n).2.length ≤ 1 := (make_len _ _).2.2

theorem h2_len (n : Nat) : (H2 n).2.length ≤ 2 := by have h := (make_len (H1 n) (oArr (zs n))).2.2; have := h1_len n; unfold H2; omega

theorem h3_len (n m : Nat) : (H3 n m).2.length ≤ 3 := by have h := (make_len (H2 n) (oFun 0 (zs m))).2.2; have := h2_len n; unfold H3; omega

theorem most_make (H : AHeap) (o : AObj) : (aMakeH H o).1 = H.1 := by unfold aMakeH; split <;> rfl

theorem mk_E {H : AHeap} {o : AObj} {b : Bool} (hl : pLong o = b) (hs : pSound H.2.length o = true) (hm : (H.2.length : Int) < H.1) : aMakeE H o = if b = true then 2 else 0 := by
  unfold aMakeE
  rw [hl, hs]
  cases b
  · rw [if_neg (by simp), if_neg (by simp), if_neg (by omega)]; rfl
  · rw [if_pos rfl]; rfl

theorem e1 (n : Nat) : aMakeE (20, []) (oStr (zs n)) = ern 65536 n := by
  rw [← ern_of]; exact mk_E (show decide ((65536 : Int) < ((zs n).length : Int)) = _ by rw [zs_len]) rfl (by decide)

theorem e2 (n : Nat) : aMakeE (H1 n) (oArr (zs n)) = ern 65536 n := by
  rw [← ern_of]; exact mk_E (show decide ((65536 : Int) < ((zs n).length : Int)) = _ by rw [zs_len]) (zs_good _ _) (by have := h1_len n; rw [show (H1 n).1 = 20 from most_make _ _]; omega)

theorem e3 (n m : Nat) : aMakeE (H2 n) (oFun 0 (zs m)) = ern 256 m := by
  rw [← ern_of]; exact mk_E (show decide ((256 : Int) < ((zs m).length : Int)) = _ by rw [zs_len]) (by show ((zs m).all (gd _) && decide ((0 : Int) ≤ 0)) = true; rw [zs_good]; rfl) (by have := h2_len n; rw [show (H2 n).1 = 20 from (most_make _ _).trans (most_make _ _)]; omega)

theorem e4 (n m : Nat) (hm : m ≤ 65536) : aMakeE (H3 n m) (oRec (kbs m) (zs m)) = ern 256 m := by
  rw [← ern_of]; exact mk_E (show decide ((256 : Int) < ((kbs m).length : Int)) = _ by rw [kbs_len]) (by
    show (decide ((kbs m).length = (zs m).length) && decide (kbs m).Nodup && (zs m).all (gd _)) = true
    rw [zs_good, kbs_len, zs_len, decide_eq_true (kbs_nodup hm)]; simp) (by have := h3_len n m; rw [show (H3 n m).1 = 20 from (most_make _ _).trans ((most_make _ _).trans (most_make _ _))]; omega)

theorem arrAt (n m : Nat) (h : ¬ (65536 : Int) < (n : Int)) : aMakeV (H1 n) (oArr (zs n)) = 4 * ((H1 n).2.length : Int) + 2 ∧ (H1 n).2.length < (H3 n m).2.length ∧ kk (H4 n m) (4 * ((H1 n).2.length : Int) + 2) = 2 ∧ ob (H4 n m) (4 * ((H1 n).2.length : Int) + 2) = oArr (zs n) := by
  have l1 := h1_len n
  have hE : aMakeE (H1 n) (oArr (zs n)) = 0 := by rw [e2]; exact if_neg h
  have hn := make_new hE (by omega)
  have hl2 : (H2 n).2.length = (H1 n).2.length + 1 := (make_len _ _).2.1 hE
  have hl3 := (make_len (H2 n) (oFun 0 (zs m))).1
  have h3 := make_old (H2 n) (oFun 0 (zs m)) (k := (H1 n).2.length) (by omega) (by omega)
  have h4 := make_old (H3 n m) (oRec (kbs m) (zs m)) (k := (H1 n).2.length) (by unfold H3; omega) (by omega)
  refine ⟨hn.1, by unfold H3; omega, ?_, ?_⟩
  · exact h4.1.trans (h3.1.trans hn.2.1)
  · exact h4.2.trans (h3.2.trans hn.2.2)

theorem recAt (n m : Nat) (hm : m ≤ 65536) (h : ¬ (256 : Int) < (m : Int)) : aMakeV (H3 n m) (oRec (kbs m) (zs m)) = 4 * ((H3 n m).2.length : Int) + 2 ∧ kk (H4 n m) (4 * ((H3 n m).2.length : Int) + 2) = 3 ∧ ob (H4 n m) (4 * ((H3 n m).2.length : Int) + 2) = oRec (kbs m) (zs m) := by
  have l3 := h3_len n m
  have hE : aMakeE (H3 n m) (oRec (kbs m) (zs m)) = 0 := by rw [e4 n m hm]; exact if_neg h
  exact make_new hE (by omega)

theorem pushes {H : AHeap} {v : Int} {l : List Int} (h : kk H v = 2 ∧ ob H v = oArr l) : (aPushE H v 0 == 2) = ((l.length : Int) == 65536) := by
  unfold aPushE
  rw [if_pos h.1, if_pos (gd_zero _), h.2, oArr_vals]
  by_cases hl : l.length = 65536
  · rw [if_neg (by simpa using hl), hl]; rfl
  · rw [if_pos hl]
    have : ((l.length : Int) == 65536) = false := by rw [beq_eq_false_iff_ne]; omega
    rw [this]; rfl

theorem puts {H : AHeap} {v : Int} {m : Nat} (h : kk H v = 3 ∧ ob H v = oRec (kbs m) (zs m)) : (aPutE H v ⟨#[108, 111, 110, 103, 32, 107, 101, 121]⟩ 0 == 2) = ((m : Int) == 256) := by
  unfold aPutE
  have hk : (ob H v).keys = kbs m := by rw [h.2]; rfl
  rw [if_pos h.1, if_pos (gd_zero _), hk, kbs_long, if_neg (by decide), kbs_len]
  by_cases hl : m = 256
  · rw [if_pos hl, hl]; rfl
  · rw [if_neg hl]
    have : ((m : Int) == 256) = false := by rw [beq_eq_false_iff_ne]; omega
    rw [this]; rfl

set_option maxHeartbeats 32000000 in
set_option maxRecDepth 100000 in
theorem core (w : World) (a0 : Int) (w0 : -9223372036854775808 ≤ a0 ∧ a0 ≤ 9223372036854775807) (a1 : Int) (w1 : -9223372036854775808 ≤ a1 ∧ a1 ≤ 9223372036854775807) :
    Calls Try.prog 5 #[.int .i64 a0, .int .i64 a1] w fun e w' => e = .returned (.bool true) ∧ Bw w w' := by
  by_cases hr : 65530 ≤ a0 ∧ a0 ≤ 65540 ∧ 250 ≤ a1 ∧ a1 ≤ 260
  · obtain ⟨n, rfl⟩ : ∃ n : Nat, a0 = n := ⟨a0.toNat, by omega⟩
    obtain ⟨m, rfl⟩ : ∃ m : Nat, a1 = m := ⟨a1.toNat, by omega⟩
    have d1 : decide ((n : Int) < 65530) = false := decide_eq_false (by omega)
    have d2 : decide ((65540 : Int) < (n : Int)) = false := decide_eq_false (by omega)
    have d3 : decide ((m : Int) < 250) = false := decide_eq_false (by omega)
    have d4 : decide ((260 : Int) < (m : Int)) = false := decide_eq_false (by omega)
    have HR := hid hr
    clear hr
    obtain ⟨i1, hi1, hz1, hs1, hy1⟩ := info_parts infoU8
    have I1 := hid (And.intro hi1 (And.intro hz1 (And.intro hs1 hy1)))
    obtain ⟨i2, hi2, hz2, hs2, hy2⟩ := info_parts infoV
    have I2 := hid (And.intro hi2 (And.intro hz2 (And.intro hs2 hy2)))
    obtain ⟨i3, hi3, hz3, hs3, hy3⟩ := info_parts infoS
    have I3 := hid (And.intro hi3 (And.intro hz3 (And.intro hs3 hy3)))
    clear hi1 hz1 hs1 hy1 hi2 hz2 hs2 hy2 hi3 hz3 hs3 hy3
    go_enter Try.func5, Try.ntmps5
    go_wp2_with (first
      | (go_at_call 11; refine (new_ok 20 _ (by decide) (by decide)).mono ?_; rintro e wn ⟨rfl, hs1, hb1, hl1⟩; have S1 := hid hs1; have B1 := hid (And.intro hb1 (show ∀ b ∈ [w.heap.size], w.heap.size ≤ b by simp)); clear hs1 hb1 hl1)
      | (go_at_call 13; refine (num_any _ _).mono ?_; rintro e wq ⟨rfl, hwq⟩; subst wq)
      | (at_make; refine wpList_make_full _ rfl _ _ 39 rfl 0 5 i1 (.int .u8 0) 1 Try.underlying39 I1.out.1 I1.out.2.1 I1.out.2.2.1 _ _ _ _ n rfl rfl rfl rfl ?c4 ?c5 (Nat.zero_le _) ?_)
      | go_in)
    case c4 => rw [I1.out.2.2.2]; have := HR.out; omega
    case c5 => have := HR.out; unfold maxLen; omega
    intro W1 hrow hgr
    rw [zs_u8] at hrow
    have SL1 := hid (show Sl W1 (fun _ => True) _ (zs n).length 1 ((zs n).map (Value.int .u8)) by rw [zs_len]; exact own_sl hrow (fun _ _ => trivial))
    have T1 := hid (S1.out.bw (bw_none hgr))
    have C1 := hid (Bw.trans B1.out.1 (bw_none hgr))
    clear hrow hgr
    go_wp2_with (first
      | (go_at_call 32; refine (str_any (fun _ => True) _ (zs n) _ T1.out SL1.out (zs_B n) (by rw [zs_len]; have := HR.out; omega)).mono ?_; rw [e1 n]; rintro e w2 ⟨rfl, bs2, hs2, hn2⟩; have S2 := hid (show HS w2 w.heap.size (H1 n) bs2 from hs2); have B2 := hid (hn2.bw C1.out B1.out.2); clear hs2 hn2)
      | (at_make; refine wpList_make_full _ rfl _ _ 40 rfl 0 38 i2 (.int .u64 0) 1 Try.underlying40 I2.out.1 I2.out.2.1 I2.out.2.2.1 _ _ _ _ n rfl rfl rfl rfl ?c4 ?c5 (Nat.zero_le _) ?_)
      | go_in)
    case c4 => rw [I2.out.2.2.2]; have := HR.out; omega
    case c5 => have := HR.out; unfold maxLen; omega
    intro W2 hrow hgr
    rw [zs_u64] at hrow
    have SL2 := hid (show Sl W2 (fun _ => True) _ (zs n).length 1 ((zs n).map (Value.int .u64)) by rw [zs_len]; exact own_sl hrow (fun _ _ => trivial))
    have T2 := hid (S2.out.bw (bw_none hgr))
    have C2 := hid (Bw.trans B2.out.1 (bw_none hgr))
    clear hrow hgr
    go_wp2_with (first
      | (go_at_call 33; refine (arr_any (fun _ => True) _ (zs n) _ T2.out SL2.out (zs_U n) (by rw [zs_len]; have := HR.out; omega)).mono ?_; rw [e2 n]; rintro e w3 ⟨rfl, bs3, hs3, hn3⟩; have S3 := hid (show HS w3 w.heap.size (H2 n) bs3 from hs3); have B3 := hid (hn3.bw C2.out B2.out.2); clear hs3 hn3)
      | (at_make; refine wpList_make_full _ rfl _ _ 40 rfl 0 38 i2 (.int .u64 0) 1 Try.underlying40 I2.out.1 I2.out.2.1 I2.out.2.2.1 _ _ _ _ m rfl rfl rfl rfl ?c4 ?c5 (Nat.zero_le _) ?_)
      | go_in)
    case c4 => rw [I2.out.2.2.2]; have := HR.out; omega
    case c5 => have := HR.out; unfold maxLen; omega
    intro W3 hrow hgr
    rw [zs_u64] at hrow
    have SL3 := hid (show Sl W3 (fun _ => True) _ (zs m).length 1 ((zs m).map (Value.int .u64)) by rw [zs_len]; exact own_sl hrow (fun _ _ => trivial))
    have T3 := hid (S3.out.bw (bw_none hgr))
    have C3 := hid (Bw.trans B3.out.1 (bw_none hgr))
    clear hrow hgr
    go_wp2_with (first
      | (go_at_call 34; refine (fun_any (fun _ => True) _ _ (zs m) _ T3.out SL3.out (zs_U m) (by rw [zs_len]; have := HR.out; omega)).mono ?_; rw [e3 n m]; rintro e w4 ⟨rfl, bs4, hs4, hn4⟩; have S4 := hid (show HS w4 w.heap.size (H3 n m) bs4 from hs4); have B4 := hid (hn4.bw C3.out B3.out.2); clear hs4 hn4))
    rename_i w4 _ _
    go_loopw [11, 12] (fun o j wr => ∃ (k : Nat), k ≤ m ∧ j = .int .i64 k ∧ wr.ownsRow w4.heap.size 9 1 o k ((kbs k).map Value.string) ∧ Bw w4 wr) (fun o j _ => m - (intOf j).toNat)
    case atStart => exact ⟨0, Nat.zero_le _, rfl, World.ownsRow_nil _ _ _ _, Bw.refl _⟩
    case round =>
      obtain ⟨k, hk, rfl, hown, hbw⟩ := hrel
      obtain ⟨ao, co, e⟩ := own_form hown
      subst e
      have HO := hid hown
      have HB := hid hbw
      have hsz := hbw.size
      clear hown hbw
      by_cases hlt : k < m
      · have hlt' : (k : Int) < (m : Int) := by omega
        have hcv : (convert 39 9 (.slice (some ⟨wr.heap.size, 0, none⟩) 2 2)).run Try.prog (wr.alloc (.cells #[.int .u8 ((k : Int) % 256), .int .u8 ((k : Int) / 256 % 256)] 5)) = .ok (.string (kb k)) (wr.alloc (.cells #[.int .u8 ((k : Int) % 256), .int .u8 ((k : Int) / 256 % 256)] 5)) := by
          have h := run_convert_bytes_arg (P := Try.prog) (wr.alloc (.cells #[.int .u8 ((k : Int) % 256), .int .u8 ((k : Int) / 256 % 256)] 5)) 39 5 Try.underlying39 (by kernel_rfl) wr.heap.size 0 2 2 [(k : Int) % 256, (k : Int) / 256 % 256] rfl (fun i hi => by
            match i, hi with
            | 0, _ => simp [go_sem]
            | 1, _ => simp [go_sem]) 9 (by kernel_rfl)
          have e : strOfNums [(k : Int) % 256, (k : Int) / 256 % 256] = kb k := by
            have e1 : (k : Int) % 256 = ((k % 256 : Nat) : Int) := by omega
            have e2 : (k : Int) / 256 % 256 = ((k / 256 : Nat) : Int) := by have := HR.out; omega
            unfold kb
            rw [e1, e2]
          rw [e] at h
          exact h
        go_wp2_with (first
          | (at_builtin; refine wpList_append_own _ rfl _ _ 41 rfl w4.heap.size 9 i3 (.string ByteArray.empty) 1 16 Try.underlying41 I3.out.1 I3.out.2.1 I3.out.2.2.1 I3.out.2.2.2 rfl (by decide) (.slice ao k co) k ((kbs k).map Value.string) rfl ((HO.out.alloc _).alloc _) ⟨wr.heap.size + 1, 0, none⟩ 1 1 [.string (kb k)] rfl rfl ?c1 ?c2 ?c3 ?c4 ?c5 ?_)
          | go_in)
        case c1 =>
          intro j u hj
          match j, hj with
          | 0, hj => simp at hj; subst hj; simp [Addr.add, go_sem]
        case c2 => intro u hu; simp at hu; subst hu; rfl
        case c3 => have := HR.out; unfold maxLen; omega
        case c4 => have := HR.out; omega
        case c5 => simp only [World.size_alloc]; omega
        intro v' w5 hown hgr _
        obtain ⟨av', cv', e⟩ := own_form hown
        subst e
        have HW1 := hid (bw_grown (Bw.alloc (Bw.alloc HB.out _) _) (Nat.le_refl _) ((HO.out.alloc _).alloc _) hgr)
        have hks : (kbs k).map Value.string ++ [.string (kb k)] = (kbs (k + 1)).map Value.string := by simp [kbs, List.range_succ]
        rw [hks] at hown
        have HO1 := hid hown
        clear hgr hown hcv hks
        go_wp2
        go_roundw
        case rel => exact ⟨k + 1, by omega, by go_num, HO1.out, HW1.out⟩
        case measure => simp [intOf]; omega
      · obtain rfl : k = m := by omega
        have hge : ¬ (k : Int) < (k : Int) := by omega
        have U0 : U 0 := ⟨by decide, by decide⟩
        have HK6 := hid (show k ≤ 65536 by have := HR.out; omega)
        have E4 := hid (e4 n k HK6.out)
        go_wp2_with (first
          | (at_make; refine wpList_make_full _ rfl _ _ 40 rfl 0 38 i2 (.int .u64 0) 1 Try.underlying40 I2.out.1 I2.out.2.1 I2.out.2.2.1 _ _ _ _ k rfl rfl rfl rfl ?c4 ?c5 (Nat.zero_le _) ?_)
          | go_in)
        case c4 => rw [I2.out.2.2.2]; have := HR.out; omega
        case c5 => have := HR.out; unfold maxLen; omega
        intro W5 hrow hgr
        rw [zs_u64] at hrow
        have SL5 := hid (show Sl W5 (fun _ => True) _ (zs k).length 1 ((zs k).map (Value.int .u64)) by rw [zs_len]; exact own_sl hrow (fun _ _ => trivial))
        have KL5 := hid (show Sl W5 (fun _ => True) (.slice ao k co) (kbs k).length 1 ((kbs k).map Value.string) by rw [kbs_len]; exact own_sl (own_bw HO.out (bw_none hgr)) (fun _ _ => trivial))
        have T5 := hid (S4.out.bw (Bw.trans HB.out (bw_none hgr)))
        have C5 := hid (Bw.trans B4.out.1 (Bw.trans HB.out (bw_none hgr)))
        clear hrow hgr
        by_cases hn : (65536 : Int) < (n : Int)
        · have hn' : decide ((65536 : Int) < (n : Int)) = true := decide_eq_true hn
          have en : ern 65536 n = 2 := if_pos hn
          clear hn
          by_cases hm : (256 : Int) < (k : Int)
          · have hm' : decide ((256 : Int) < (k : Int)) = true := decide_eq_true hm
            have em : ern 256 k = 2 := if_pos hm
            clear hm
            go_wp2_with (first
              | (go_at_call 35; refine (rec_any (fun _ => True) _ _ (kbs k) (zs k) _ T5.out KL5.out SL5.out (zs_U k) (by rw [zs_len]; have := HR.out; omega) (by rw [kbs_len]; have := HR.out; omega)).mono ?_; rw [E4.out]; rintro e w6 ⟨rfl, bs6, hs6, hn6⟩; have S6 := hid (show HS w6 w.heap.size (H4 n k) bs6 from hs6); have B6 := hid (hn6.bw C5.out B4.out.2); clear hs6 hn6)
              | (go_at_call 13; refine (num_any _ _).mono ?_; rintro e wq ⟨rfl, hwq⟩; subst wq)
              | (go_at_call 10; refine (live_any _).mono ?_; rintro e wl ⟨rfl, hbl⟩; have BL := hid hbl; clear hbl))
            all_goals go_ret
            all_goals exact ⟨rfl, Bw.trans B6.out.1 BL.out⟩
          · have hm' : decide ((256 : Int) < (k : Int)) = false := decide_eq_false hm
            have em : ern 256 k = 0 := if_neg hm
            have RA := hid (recAt n k HK6.out hm)
            have RU := hid (show U (aMakeV (H3 n k) (oRec (kbs k) (zs k))) by rw [RA.out.1]; exact U_ref (by have := h3_len n k; omega))
            have pt : (aPutE (H4 n k) (aMakeV (H3 n k) (oRec (kbs k) (zs k))) ⟨#[108, 111, 110, 103, 32, 107, 101, 121]⟩ 0 == 2) = ((k : Int) == 256) := puts (by rw [RA.out.1]; exact RA.out.2)
            clear hm
            go_wp2_with (first
              | (go_at_call 35; refine (rec_any (fun _ => True) _ _ (kbs k) (zs k) _ T5.out KL5.out SL5.out (zs_U k) (by rw [zs_len]; have := HR.out; omega) (by rw [kbs_len]; have := HR.out; omega)).mono ?_; rw [E4.out]; rintro e w6 ⟨rfl, bs6, hs6, hn6⟩; have S6 := hid (show HS w6 w.heap.size (H4 n k) bs6 from hs6); have B6 := hid (hn6.bw C5.out B4.out.2); clear hs6 hn6)
              | (go_at_call 13; refine (num_any _ _).mono ?_; rintro e wq ⟨rfl, hwq⟩; subst wq)
              | (go_at_call 28; refine (put_any _ _ 0 RU.out U0 _ S6.out (fun o ho => (h4_cap n k o ho).2)).mono ?_; rintro e w8 ⟨rfl, bs8, hs8, hn8⟩; have S8 := hid hs8; have B8 := hid (hn8.bw B6.out.1 B6.out.2); clear hs8 hn8)
              | (go_at_call 10; refine (live_any _).mono ?_; rintro e wl ⟨rfl, hbl⟩; have BL := hid hbl; clear hbl))
            all_goals go_ret
            all_goals exact ⟨rfl, Bw.trans B8.out.1 BL.out⟩
        · have hn' : decide ((65536 : Int) < (n : Int)) = false := decide_eq_false hn
          have en : ern 65536 n = 0 := if_neg hn
          have AR := hid (arrAt n k hn)
          have AU := hid (show U (aMakeV (H1 n) (oArr (zs n))) by rw [AR.out.1]; exact U_ref (by have := h1_len n; omega))
          have ps : (aPushE (H4 n k) (aMakeV (H1 n) (oArr (zs n))) 0 == 2) = ((n : Int) == 65536) := by
            have := pushes (H := H4 n k) (v := aMakeV (H1 n) (oArr (zs n))) (l := zs n) (by rw [AR.out.1]; exact AR.out.2.2)
            rw [zs_len] at this
            exact this
          clear hn
          by_cases hm : (256 : Int) < (k : Int)
          · have hm' : decide ((256 : Int) < (k : Int)) = true := decide_eq_true hm
            have em : ern 256 k = 2 := if_pos hm
            clear hm
            go_wp2_with (first
              | (go_at_call 35; refine (rec_any (fun _ => True) _ _ (kbs k) (zs k) _ T5.out KL5.out SL5.out (zs_U k) (by rw [zs_len]; have := HR.out; omega) (by rw [kbs_len]; have := HR.out; omega)).mono ?_; rw [E4.out]; rintro e w6 ⟨rfl, bs6, hs6, hn6⟩; have S6 := hid (show HS w6 w.heap.size (H4 n k) bs6 from hs6); have B6 := hid (hn6.bw C5.out B4.out.2); clear hs6 hn6)
              | (go_at_call 13; refine (num_any _ _).mono ?_; rintro e wq ⟨rfl, hwq⟩; subst wq)
              | (go_at_call 27; refine (push_any _ 0 AU.out U0 _ S6.out (fun o ho => (h4_cap n k o ho).1)).mono ?_; rintro e w7 ⟨rfl, bs7, hs7, hn7⟩; have S7 := hid hs7; have B7 := hid (hn7.bw B6.out.1 B6.out.2); clear hs7 hn7)
              | (go_at_call 10; refine (live_any _).mono ?_; rintro e wl ⟨rfl, hbl⟩; have BL := hid hbl; clear hbl))
            all_goals go_ret
            all_goals exact ⟨rfl, Bw.trans B7.out.1 BL.out⟩
          · have hm' : decide ((256 : Int) < (k : Int)) = false := decide_eq_false hm
            have em : ern 256 k = 0 := if_neg hm
            have RA := hid (recAt n k HK6.out hm)
            have RU := hid (show U (aMakeV (H3 n k) (oRec (kbs k) (zs k))) by rw [RA.out.1]; exact U_ref (by have := h3_len n k; omega))
            have PO := hid (push_other (H := H4 n k) (x := 0) (i := (H1 n).2.length) (k := (H3 n k).2.length) (by have := h1_len n; omega) (by have := h3_len n k; omega) (by have := AR.out.2.1; omega))
            have pt : (aPutE (aPushH (H4 n k) (aMakeV (H1 n) (oArr (zs n))) 0) (aMakeV (H3 n k) (oRec (kbs k) (zs k))) ⟨#[108, 111, 110, 103, 32, 107, 101, 121]⟩ 0 == 2) = ((k : Int) == 256) := puts (by rw [RA.out.1, AR.out.1]; exact ⟨PO.out.1.trans RA.out.2.1, PO.out.2.trans RA.out.2.2⟩)
            clear hm
            go_wp2_with (first
              | (go_at_call 35; refine (rec_any (fun _ => True) _ _ (kbs k) (zs k) _ T5.out KL5.out SL5.out (zs_U k) (by rw [zs_len]; have := HR.out; omega) (by rw [kbs_len]; have := HR.out; omega)).mono ?_; rw [E4.out]; rintro e w6 ⟨rfl, bs6, hs6, hn6⟩; have S6 := hid (show HS w6 w.heap.size (H4 n k) bs6 from hs6); have B6 := hid (hn6.bw C5.out B4.out.2); clear hs6 hn6)
              | (go_at_call 13; refine (num_any _ _).mono ?_; rintro e wq ⟨rfl, hwq⟩; subst wq)
              | (go_at_call 27; refine (push_any _ 0 AU.out U0 _ S6.out (fun o ho => (h4_cap n k o ho).1)).mono ?_; rintro e w7 ⟨rfl, bs7, hs7, hn7⟩; have S7 := hid hs7; have B7 := hid (hn7.bw B6.out.1 B6.out.2); clear hs7 hn7)
              | (go_at_call 28; refine (put_any _ _ 0 RU.out U0 _ S7.out (fun o ho => ((h4_cap n k).push _ 0 o ho).2)).mono ?_; rintro e w8 ⟨rfl, bs8, hs8, hn8⟩; have S8 := hid hs8; have B8 := hid (hn8.bw B7.out.1 B7.out.2); clear hs8 hn8)
              | (go_at_call 10; refine (live_any _).mono ?_; rintro e wl ⟨rfl, hbl⟩; have BL := hid hbl; clear hbl))
            all_goals go_ret
            all_goals exact ⟨rfl, Bw.trans B8.out.1 BL.out⟩
  · have h3 : (decide (a0 < 65530) = true) ∨ (decide (a0 < 65530) = false ∧ decide ((65540 : Int) < a0) = true) ∨ (decide (a0 < 65530) = false ∧ decide ((65540 : Int) < a0) = false ∧ decide (a1 < 250) = true) ∨ (decide (a0 < 65530) = false ∧ decide ((65540 : Int) < a0) = false ∧ decide (a1 < 250) = false ∧ decide ((260 : Int) < a1) = true) := by
      simp only [decide_eq_true_iff, decide_eq_false_iff_not]; omega
    clear hr
    rcases h3 with l1 | ⟨l1, l2⟩ | ⟨l1, l2, l3⟩ | ⟨l1, l2, l3, l4⟩
    all_goals
      go_enter Try.func5, Try.ntmps5
      go_wp2_with (first
        | (go_at_call 10; refine (live_any _).mono ?_; rintro e wl ⟨rfl, hbl⟩; have BL := hid hbl; clear hbl))
      all_goals go_ret
      all_goals exact ⟨rfl, BL.out⟩

theorem walk (a0 : Int) (w0 : -9223372036854775808 ≤ a0 ∧ a0 ≤ 9223372036854775807) (a1 : Int) (w1 : -9223372036854775808 ≤ a1 ∧ a1 ≤ 9223372036854775807) (w : World) :
    Calls Try.prog 5 #[.int .i64 a0, .int .i64 a1] w fun e w' => e = .returned (.bool true) ∧ Bw w w' := by
  exact core w a0 w0 a1 w1

set_option maxRecDepth 100000 in
theorem lifted (os : Os) (started : os.Started) (H : Type) (enc : TypeId × Value → H) :
    ReturnsInHanded {} Try.checked os 5 .any (Rows.heapBoundsSpec.pre6 enc Try.prog Try.f5 Rows.heapBoundsRow.domain false) (Rows.heapBoundsSpec.post enc Try.prog Try.f5 false true false false) := by
  refine returnsInHanded_of_change (C := Try.checked) ownK started (by kernel_rfl) Try.func5
    (ChangeSpec.witness6 (enc := enc) (C := Try.checked) false ⟨#[], #[.int .i64 0, .int .i64 0], []⟩ 8 (by kernel_rfl) (by kernel_rfl) (by kernel_rfl) (by kernel_rfl)) ?_
  intro W base args ds gs before hval0 hW hcnd _
  have hval : ∀ (j : Nat) t v, Try.f5.params[j]? = some t → args[j]? = some v → Value.okWide Try.prog W .any base t v := hval0
  have hW' := hW
  obtain ⟨p, q, hA0, hV, rfl, hfz, hnd⟩ := hW
  have hA : DataW.TrodAll enc Try.prog W 0 (fun _ => true) true Try.f5.params.toList args.toList ds p := hA0
  rw [Try.params5] at hA hval
  obtain ⟨v0, vs0, d0, ds0, p0, q0, hargs, rfl, rfl, h0, r0⟩ := trodAll_cons hA
  obtain ⟨v1, vs1, d1, ds1, p1, q1, rfl, rfl, rfl, h1, r1⟩ := trodAll_cons r0
  obtain ⟨rfl, rfl, rfl⟩ := trodAll_nil r1
  obtain rfl : args = #[v0, v1] := by cases args; simp_all
  obtain ⟨rfl, rfl⟩ := trodVars_none hV
  have k0 := h0
  have lt0 : ∀ x ∈ p0, x.block < W.heap.size := by obtain ⟨m, hm⟩ := k0; exact DataW.trod_lt m _ _ _ hm
  have k1 := h1
  have lt1 : ∀ x ∈ p1, x.block < W.heap.size := by obtain ⟨m, hm⟩ := k1; exact DataW.trod_lt m _ _ _ hm
  obtain ⟨a0, rfl, rfl, rfl, w00⟩ := open_int Try.underlying3 (hval 0 3 v0 rfl rfl) h0
  have w0 := bounds_i64 w00
  obtain ⟨a1, rfl, rfl, rfl, w10⟩ := open_int Try.underlying3 (hval 1 3 v1 rfl rfl) h1
  have w1 := bounds_i64 w10
  clear hA0 hval0
  refine (walk a0 w0 a1 w1 W).mono fun e W' ⟨he, bel⟩ => ?_
  subst he
  exact ⟨_, rfl, _, _, _, [], _, [], hW', trodAll_mk1 (shut_bool Try.underlying4 _), (trodAll_cons_mk (Below.trod laidOut (by kernel_rfl) (of_decide_eq_true (by kernel_rfl)) k0 bel lt0) (trodAll_cons_mk (Below.trod laidOut (by kernel_rfl) (of_decide_eq_true (by kernel_rfl)) k1 bel lt1) trodAll_mk0)), rfl, Below.frame bel _, fun h => by cases h⟩

theorem over : Rows.heapBoundsRow.holds Try.pinned (OpenSpec.ofChange Rows.heapBoundsSpec) :=
  OpenClaim.holds_of_wide 5 Try.f5 rfl rfl rfl rfl rfl rfl rfl ⟨rfl, rfl, rfl, rfl, rfl⟩ rfl rfl rfl rfl rfl (by kernel_rfl) Try.func5 (by kernel_rfl)
    (of_decide_eq_true (by kernel_rfl)) (by unfold Func.isWrapper; first | (rw [if_pos (by decide +kernel)]; kernel_rfl) | (rw [if_neg (by decide +kernel)]; exact ⟨rfl, rfl⟩))
    (fun os started H enc _ => lifted os started H enc)

theorem proved : Rows.HeapBoundsSaid := over
end Go.Proofs.Ytolfgkpmcfneiaa.heapBounds
namespace Go.Proofs.Ytolfgkpmcfneiaa
theorem heapBounds_holds : Rows.HeapBoundsSaid := heapBounds.proved
#print axioms heapBounds_holds
end Go.Proofs.Ytolfgkpmcfneiaa
