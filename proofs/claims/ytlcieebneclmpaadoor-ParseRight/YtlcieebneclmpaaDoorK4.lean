/- What a \ says, by the program: the contracts. · The program's cutter of strings: the contracts. -/
import Derived.Test.YtlcieebneclmpaaDoorXFk
import Derived.Laws.BitsAllLaws
set_option linter.unusedSimpArgs false
set_option linter.unusedVariables false
namespace Go.Proofs.YtlcieebneclmpaaDoor
open Go Go.RowKit

/-- What two digits say: the byte; or how far the fault is. -/
def hex2 (r : List Int) : Int ⊕ Nat :=
  match r with
  | [] => .inr 0
  | x :: u =>
    match hexV x with
    | none => .inr 0
    | some i =>
      match u with
      | [] => .inr 1
      | y :: _ =>
        match hexV y with
        | none => .inr 1
        | some j => .inl (16 * i + j)

def hexT (k : Nat) : Int ⊕ Nat → Value
  | .inl x => .tuple #[.int .u8 x, .int .i64 0, .int .i64 ((k + 2 : Nat) : Int)]
  | .inr m => .tuple #[.int .u8 0, .int .i64 6, .int .i64 ((k + m : Nat) : Int)]

theorem hexV_bd {c i : Int} (h : hexV c = some i) : 0 ≤ i ∧ i ≤ 15 := by
  unfold hexV at h
  repeat' split at h
  all_goals simp at h
  all_goals omega

/-- How far it is with the two digits. -/
def St (r : List Int) (i : Nat) (x : Int) : Prop :=
  (i = 0 ∧ x = 0) ∨ (i = 1 ∧ ∃ c t, r = c :: t ∧ hexV c = some x) ∨ (i = 2 ∧ ∃ c d t p q, r = c :: d :: t ∧ hexV c = some p ∧ hexV d = some q ∧ x = 16 * p + q)

theorem St.end {r : List Int} {x : Int} (h : St r 2 x) : hex2 r = .inl x := by
  rcases h with ⟨h, _⟩ | ⟨h, _⟩ | ⟨_, c, d, t, p, q, rfl, h1, h2, rfl⟩
  · omega
  · omega
  · simp [hex2, h1, h2]

theorem St.short {r : List Int} {i : Nat} {x : Int} (h : St r i x) (hi : i < 2) (hr : r.length = i) : hex2 r = .inr i := by
  rcases h with ⟨rfl, _⟩ | ⟨rfl, c, t, rfl, h1⟩ | ⟨h, _⟩
  · rw [List.eq_nil_of_length_eq_zero hr]; rfl
  · have : t = [] := List.eq_nil_of_length_eq_zero (by simpa using hr)
    subst this
    simp [hex2, h1]
  · omega

theorem St.bad {r : List Int} {i : Nat} {x c : Int} (h : St r i x) (hi : i < 2) (hr : r[i]? = some c) (hc : hexV c = none) : hex2 r = .inr i := by
  rcases h with ⟨rfl, _⟩ | ⟨rfl, d, t, rfl, h1⟩ | ⟨h, _⟩
  · cases r with
    | nil => simp at hr
    | cons d t => simp at hr; subst hr; simp [hex2, hc]
  · cases t with
    | nil => simp at hr
    | cons e u => simp at hr; subst hr; simp [hex2, h1, hc]
  · omega

theorem or16 (x y : Int) (h0 : 0 ≤ x) (h1 : x ≤ 15) (g0 : 0 ≤ y) (g1 : y ≤ 15) : bits .or .u8 (x * 16) y = 16 * x + y := by
  rw [u8_or (x * 16) y (by omega) (by omega) (by omega) (by omega)]
  have h := Nat.two_pow_add_eq_or_of_lt (i := 4) (b := y.toNat) (by omega) x.toNat
  rw [show (x * 16).toNat = 2 ^ 4 * x.toNat by omega, ← h]; omega

theorem St.next {r : List Int} {i : Nat} {x c d : Int} (h : St r i x) (hi : i < 2) (hr : r[i]? = some c) (hc : hexV c = some d) : ∃ y, bits .or .u8 (x * 16 % 256) d = y ∧ bits .or .u8 (x * 16) d = y ∧ St r (i + 1) y ∧ 0 ≤ x ∧ x ≤ 15 := by
  have hd := hexV_bd hc
  rcases h with ⟨rfl, rfl⟩ | ⟨rfl, e, t, rfl, h1⟩ | ⟨h, _⟩
  · have := or16 0 d (by omega) (by omega) hd.1 hd.2
    simp at this
    refine ⟨d, by simpa using this, by simpa using this, .inr (.inl ⟨rfl, ?_⟩), by omega, by omega⟩
    cases r with
    | nil => simp at hr
    | cons f u => simp at hr; subst hr; exact ⟨f, u, rfl, hc⟩
  · have he := hexV_bd h1
    have := or16 x d he.1 he.2 hd.1 hd.2
    refine ⟨16 * x + d, by rw [show x * 16 % 256 = x * 16 by omega]; exact this, this, .inr (.inr ⟨rfl, ?_⟩), he.1, he.2⟩
    cases t with
    | nil => simp at hr
    | cons f u => simp at hr; subst hr; exact ⟨e, f, u, x, d, rfl, h1, hc, rfl⟩
  · omega

set_option maxRecDepth 100000 in
set_option maxHeartbeats 4000000 in
theorem xcutHex_any (v : Value) (b : List Int) (k : Nat) (w : World) (h : By w v b) (hk : k ≤ b.length) (hm : b.length ≤ 1000000) :
    Calls Tryd.prog 85 #[v, .int .i64 (k : Nat)] w fun e w' => e = .returned (hexT k (hex2 (b.drop k))) ∧ w' = w := by
  have HB := hid h
  obtain ⟨a, cap, rfl⟩ := h.form
  clear h
  go_enter Tryd.func85, Tryd.ntmps85
  go_wp2
  go_loopw [1, 7, 10] (fun p s j wr => ∃ i x, i ≤ 2 ∧ j = .int .i64 (i : Nat) ∧ p = .int .i64 ((k + i : Nat) : Int) ∧ k + i ≤ b.length ∧ s = .int .u8 x ∧ wr = w ∧ St (b.drop k) i x) (fun _ _ j _ => 2 - (intOf j).toNat)
  case atStart => exact ⟨0, 0, by omega, rfl, by simp, hk, rfl, rfl, .inl ⟨rfl, rfl⟩⟩
  case round =>
    obtain ⟨i, x, hi, rfl, rfl, hki, rfl, hwr, hst⟩ := hrel
    subst wr
    have HST := hid hst
    clear hst
    by_cases h2 : i < 2
    · have h2i : (i : Int) < 2 := by omega
      by_cases hlt : k + i < b.length
      · obtain ⟨g, o, rfl, hg, hc⟩ := HB.out.at hlt
        have hbd := HB.out.2.1 _ (List.getElem_mem hlt)
        have hr : (b.drop k)[i]? = some b[k + i] := by rw [List.getElem?_drop, List.getElem?_eq_getElem hlt]
        have HR := hid hr
        have hne : (((k + i : Nat) : Int) == (b.length : Int)) = false := by simp; omega
        have hlt2 : ((k + i : Nat) : Int) < (b.length : Int) := by omega
        clear hr
        generalize b[k + i] = c at hc hbd HR
        have HBD := hid hbd
        clear hbd
        cases hx : hexV c with
        | none =>
          have hv : hexT k (hex2 (b.drop k)) = .tuple #[.int .u8 0, .int .i64 6, .int .i64 ((k : Int) + i)] := by rw [HST.out.bad h2 HR.out hx]; simp [hexT]
          have HV := hid hv
          clear hv
          go_wp2_with (first
            | (go_at_call 91; refine (xhexDigit_any _ HBD.out.1 HBD.out.2 _).mono ?_; rw [hx]; rintro e w' ⟨rfl, hw'⟩; subst w'))
          all_goals go_ret3
          all_goals exact ⟨congrArg _ HV.out.symm, rfl⟩
        | some d =>
          obtain ⟨y, hy1, hy2, hy3, hx0, hx1⟩ := HST.out.next h2 HR.out hx
          have hdb := hexV_bd hx
          have HY := hid hy3
          clear hy3
          go_wp2_with (first
            | (go_at_call 91; refine (xhexDigit_any _ HBD.out.1 HBD.out.2 _).mono ?_; rw [hx]; rintro e w' ⟨rfl, hw'⟩; subst w'))
          go_roundw
          case rel => exact ⟨i + 1, y, by omega, by go_num, by go_num, by omega, by first | rfl | simp [hy1, hy2], trivial, HY.out⟩
          case measure => simp [intOf]; omega
      · have hl : (b.drop k).length = i := by rw [List.length_drop]; omega
        have hv : hexT k (hex2 (b.drop k)) = .tuple #[.int .u8 0, .int .i64 6, .int .i64 ((k : Int) + i)] := by rw [HST.out.short h2 hl]; simp [hexT]
        have HV := hid hv
        have heq : (((k + i : Nat) : Int) == (b.length : Int)) = true := by simp; omega
        clear hv hl
        go_wp2
        all_goals go_ret3
        all_goals exact ⟨congrArg _ HV.out.symm, rfl⟩
    · obtain rfl : i = 2 := by omega
      have hv : hexT k (hex2 (b.drop k)) = .tuple #[.int .u8 x, .int .i64 0, .int .i64 ((k : Int) + 2)] := by rw [HST.out.end]; simp [hexT]
      have HV := hid hv
      clear hv
      go_wp2
      all_goals go_ret3
      all_goals exact ⟨congrArg _ HV.out.symm, rfl⟩

end Go.Proofs.YtlcieebneclmpaaDoor

set_option linter.unusedSimpArgs false
set_option linter.unusedVariables false
namespace Go.Proofs.YtlcieebneclmpaaDoor
open Go Go.RowKit

def escT (k : Nat) : (Int × Nat) ⊕ Nat → Value
  | .inl (x, m) => .tuple #[.int .u8 x, .int .i64 0, .int .i64 ((k + m : Nat) : Int)]
  | .inr m => .tuple #[.int .u8 0, .int .i64 6, .int .i64 ((k + m : Nat) : Int)]

theorem esc_hex (t : List Int) : esc (120 :: t) = match hex2 t with | .inl x => .inl (x, 4) | .inr m => .inr (2 + m) := by
  cases t with
  | nil => simp [esc, hex2]
  | cons x u =>
    cases hx : hexV x with
    | none => simp [esc, hex2, hx]
    | some i =>
      cases u with
      | nil => simp [esc, hex2, hx]
      | cons y z => cases hy : hexV y <;> simp [esc, hex2, hx, hy]

set_option maxRecDepth 100000 in
set_option maxHeartbeats 4000000 in
theorem xcutEscape_any (v : Value) (b : List Int) (k : Nat) (w : World) (h : By w v b) (hk : k < b.length) (hm : b.length ≤ 1000000) :
    Calls Tryd.prog 68 #[v, .int .i64 (k : Nat)] w fun e w' => e = .returned (escT k (esc (b.drop (k + 1)))) ∧ w' = w := by
  have HB := hid h
  obtain ⟨a, cap, rfl⟩ := h.form
  clear h
  by_cases hlt : k + 1 < b.length
  · obtain ⟨g, o, rfl, hg, hc⟩ := HB.out.at hlt
    have hr : b.drop (k + 1) = b[k + 1] :: b.drop (k + 2) := List.drop_eq_getElem_cons hlt
    have hne : (((k + 1 : Nat) : Int) == (b.length : Int)) = false := by simp; omega
    have hlt2 : ((k : Int) + 1) < (b.length : Int) := by omega
    rw [hr]
    have HX := hid (xcutHex_any _ b (k + 2) w HB.out (by omega) hm)
    generalize b[k + 1] = c at hc
    clear hr
    cases h34 : (c == 34)
    · cases h92 : (c == 92)
      · cases h110 : (c == 110)
        · cases h116 : (c == 116)
          · cases h120 : (c == 120)
            · have hv : escT k (esc (c :: b.drop (k + 2))) = .tuple #[.int .u8 0, .int .i64 6, .int .i64 ((k : Int) + 1)] := by
                simp only [beq_eq_false_iff_ne] at *
                simp [esc, h34, h92, h110, h116, h120, escT]
              rw [hv]
              clear hv HX
              go_enter Tryd.func68, Tryd.ntmps68
              go_wp2
              all_goals go_ret3
              all_goals exact ⟨rfl, rfl⟩
            · have hv : escT k (esc (c :: b.drop (k + 2))) = hexT (k + 2) (hex2 (b.drop (k + 2))) := by
                rw [beq_iff_eq] at h120
                subst h120
                rw [esc_hex]
                cases hex2 (b.drop (k + 2)) <;> simp [escT, hexT] <;> omega
              rw [hv]
              clear hv
              cases hh : hex2 (b.drop (k + 2)) with
              | inl x =>
                rw [hh] at HX
                go_enter Tryd.func68, Tryd.ntmps68
                go_wp2_with (first
                  | (go_at_call 85; refine (HX.out).mono ?_; rintro e w' ⟨rfl, hw'⟩; subst w'; unfold hexT))
                all_goals go_ret3
                all_goals exact ⟨rfl, rfl⟩
              | inr x =>
                rw [hh] at HX
                go_enter Tryd.func68, Tryd.ntmps68
                go_wp2_with (first
                  | (go_at_call 85; refine (HX.out).mono ?_; rintro e w' ⟨rfl, hw'⟩; subst w'; unfold hexT))
                all_goals go_ret3
                all_goals exact ⟨rfl, rfl⟩
          · have hv : escT k (esc (c :: b.drop (k + 2))) = .tuple #[.int .u8 9, .int .i64 0, .int .i64 ((k : Int) + 1 + 1)] := by
              simp only [beq_eq_false_iff_ne, beq_iff_eq] at *
              simp [esc, h34, h92, h110, h116, escT]; omega
            rw [hv]
            clear hv HX
            go_enter Tryd.func68, Tryd.ntmps68
            go_wp2
            all_goals go_ret3
            all_goals exact ⟨rfl, rfl⟩
        · have hv : escT k (esc (c :: b.drop (k + 2))) = .tuple #[.int .u8 10, .int .i64 0, .int .i64 ((k : Int) + 1 + 1)] := by
            simp only [beq_eq_false_iff_ne, beq_iff_eq] at *
            simp [esc, h34, h92, h110, escT]; omega
          rw [hv]
          clear hv HX
          go_enter Tryd.func68, Tryd.ntmps68
          go_wp2
          all_goals go_ret3
          all_goals exact ⟨rfl, rfl⟩
      · have hv : escT k (esc (c :: b.drop (k + 2))) = .tuple #[.int .u8 c, .int .i64 0, .int .i64 ((k : Int) + 1 + 1)] := by
          simp only [beq_eq_false_iff_ne, beq_iff_eq] at *
          simp [esc, h34, h92, escT]; omega
        rw [hv]
        clear hv HX
        go_enter Tryd.func68, Tryd.ntmps68
        go_wp2
        all_goals go_ret3
        all_goals exact ⟨rfl, rfl⟩
    · have hv : escT k (esc (c :: b.drop (k + 2))) = .tuple #[.int .u8 c, .int .i64 0, .int .i64 ((k : Int) + 1 + 1)] := by
        simp only [beq_eq_false_iff_ne, beq_iff_eq] at *
        simp [esc, h34, escT]; omega
      rw [hv]
      clear hv HX
      go_enter Tryd.func68, Tryd.ntmps68
      go_wp2
      all_goals go_ret3
      all_goals exact ⟨rfl, rfl⟩
  · have hd : b.drop (k + 1) = [] := List.drop_eq_nil_of_le (by omega)
    have heq : (((k + 1 : Nat) : Int) == (b.length : Int)) = true := by simp; omega
    have hv : escT k (esc (b.drop (k + 1))) = .tuple #[.int .u8 0, .int .i64 6, .int .i64 ((k : Int) + 1)] := by rw [hd]; simp [esc, escT]
    rw [hv]
    clear hv hd
    go_enter Tryd.func68, Tryd.ntmps68
    go_wp2
    all_goals go_ret3
    all_goals exact ⟨rfl, rfl⟩

theorem own_conv {w : World} {base n : Nat} {v : Value} {l : List Int} (h : w.ownsRow base 5 1 v n (l.map (Value.int .u8))) :
    (convert 34 9 v).run Tryd.prog w = .ok (.string (strOfNums l)) w := by
  have hl : l.length = n := by have := h.1; simpa using this
  rcases h.2 with ⟨rfl, rfl⟩ | ⟨g, cap, cur, rfl, hb, hg, hnc, hmx, hsz, htake⟩
  · have : l = [] := List.eq_nil_of_length_eq_zero hl
    subst this
    exact run_convert_bytes_nil w 34 5 under22 under5 0 0 9 under9
  · refine run_convert_bytes_arg w 34 5 under22 under5 g 0 n cap l hl (fun i hi => ?_) 9 under9
    rw [Nat.zero_add, cell_of_row w g i cur 5 (0, 0) hg]
    have e : cur.toList[i]? = (l.map (Value.int .u8))[i]? := by rw [← htake, List.getElem?_take, if_pos (by omega)]
    have : cur[i]? = cur.toList[i]? := by simp
    rw [this, e, List.getElem?_map, List.getElem?_eq_getElem (by omega), List.getD_eq_getElem?_getD, List.getElem?_eq_getElem (by omega)]
    rfl

end Go.Proofs.YtlcieebneclmpaaDoor

