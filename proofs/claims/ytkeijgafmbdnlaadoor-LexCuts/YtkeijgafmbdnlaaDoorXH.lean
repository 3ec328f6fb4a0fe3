/- The program's cutter of strings: the contracts. -/
import Derived.Test.YtkeijgafmbdnlaaDoorXG
set_option linter.unusedSimpArgs false
set_option linter.unusedVariables false
namespace Go.Proofs.YtkeijgafmbdnlaaDoor
open Go Go.RowKit

def escT (k : Nat) : (Int × Nat) ⊕ Nat → Value
  | .inl (x, m) => .tuple #[.int .u8 x, .int .i64 0, .int .i64 ((k + m : Nat) : Int)]
  | .inr m => .tuple #[.int .u8 0, .int .i64 6, .int .i64 ((k + m : Nat) : Int)]

theorem esc_hex (t : List Int) : esc (120 :: t) = match hex2 t with | .inl x => .inl (x, 4) | .inr m => .inr (2 + m) := by
  cases t with
  | nil => simp [esc, hex2]
  | cons x u =>
    cases hx : hexV x with
    | none => simp [esc, hex2, hx]
    | some i =>
      cases u with
      | nil => simp [esc, hex2, hx]
      | cons y z => cases hy : hexV y <;> simp [esc, hex2, hx, hy]

set_option maxHeartbeats 4000000 in
theorem xcutEscape_any (v : Value) (b : List Int) (k : Nat) (w : World) (h : By w v b) (hk : k < b.length) (hm : b.length ≤ 1000000) :
    Calls Tryd.prog 37 #[v, .int .i64 (k : Nat)] w fun e w' => e = .returned (escT k (esc (b.drop (k + 1)))) ∧ w' = w := by
  have HB := hid h
  obtain ⟨a, cap, rfl⟩ := h.form
  clear h
  by_cases hlt : k + 1 < b.length
  · obtain ⟨g, o, rfl, hg, hc⟩ := HB.out.at hlt
    have hr : b.drop (k + 1) = b[k + 1] :: b.drop (k + 2) := List.drop_eq_getElem_cons hlt
    have hne : (((k + 1 : Nat) : Int) == (b.length : Int)) = false := by simp; omega
    have hlt2 : ((k : Int) + 1) < (b.length : Int) := by omega
    rw [hr]
    have HX := hid (xcutHex_any _ b (k + 2) w HB.out (by omega) hm)
    generalize b[k + 1] = c at hc
    clear hr
    cases h34 : (c == 34)
    · cases h92 : (c == 92)
      · cases h110 : (c == 110)
        · cases h116 : (c == 116)
          · cases h120 : (c == 120)
            · have hv : escT k (esc (c :: b.drop (k + 2))) = .tuple #[.int .u8 0, .int .i64 6, .int .i64 ((k : Int) + 1)] := by
                simp only [beq_eq_false_iff_ne] at *
                simp [esc, h34, h92, h110, h116, h120, escT]
              rw [hv]
              clear hv HX
              go_enter Tryd.func37, Tryd.ntmps37
              go_wp2
              all_goals go_ret3
              all_goals exact ⟨rfl, rfl⟩
            · have hv : escT k (esc (c :: b.drop (k + 2))) = hexT (k + 2) (hex2 (b.drop (k + 2))) := by
                rw [beq_iff_eq] at h120
                subst h120
                rw [esc_hex]
                cases hex2 (b.drop (k + 2)) <;> simp [escT, hexT] <;> omega
              rw [hv]
              clear hv
              cases hh : hex2 (b.drop (k + 2)) with
              | inl x =>
                rw [hh] at HX
                go_enter Tryd.func37, Tryd.ntmps37
                go_wp2_with (first
                  | (go_at_call 38; refine (HX.out).mono ?_; rintro e w' ⟨rfl, hw'⟩; subst w'; unfold hexT))
                all_goals go_ret3
                all_goals exact ⟨rfl, rfl⟩
              | inr x =>
                rw [hh] at HX
                go_enter Tryd.func37, Tryd.ntmps37
                go_wp2_with (first
                  | (go_at_call 38; refine (HX.out).mono ?_; rintro e w' ⟨rfl, hw'⟩; subst w'; unfold hexT))
                all_goals go_ret3
                all_goals exact ⟨rfl, rfl⟩
          · have hv : escT k (esc (c :: b.drop (k + 2))) = .tuple #[.int .u8 9, .int .i64 0, .int .i64 ((k : Int) + 1 + 1)] := by
              simp only [beq_eq_false_iff_ne, beq_iff_eq] at *
              simp [esc, h34, h92, h110, h116, escT]; omega
            rw [hv]
            clear hv HX
            go_enter Tryd.func37, Tryd.ntmps37
            go_wp2
            all_goals go_ret3
            all_goals exact ⟨rfl, rfl⟩
        · have hv : escT k (esc (c :: b.drop (k + 2))) = .tuple #[.int .u8 10, .int .i64 0, .int .i64 ((k : Int) + 1 + 1)] := by
            simp only [beq_eq_false_iff_ne, beq_iff_eq] at *
            simp [esc, h34, h92, h110, escT]; omega
          rw [hv]
          clear hv HX
          go_enter Tryd.func37, Tryd.ntmps37
          go_wp2
          all_goals go_ret3
          all_goals exact ⟨rfl, rfl⟩
      · have hv : escT k (esc (c :: b.drop (k + 2))) = .tuple #[.int .u8 c, .int .i64 0, .int .i64 ((k : Int) + 1 + 1)] := by
          simp only [beq_eq_false_iff_ne, beq_iff_eq] at *
          simp [esc, h34, h92, escT]; omega
        rw [hv]
        clear hv HX
        go_enter Tryd.func37, Tryd.ntmps37
        go_wp2
        all_goals go_ret3
        all_goals exact ⟨rfl, rfl⟩
    · have hv : escT k (esc (c :: b.drop (k + 2))) = .tuple #[.int .u8 c, .int .i64 0, .int .i64 ((k : Int) + 1 + 1)] := by
        simp only [beq_eq_false_iff_ne, beq_iff_eq] at *
        simp [esc, h34, escT]; omega
      rw [hv]
      clear hv HX
      go_enter Tryd.func37, Tryd.ntmps37
      go_wp2
      all_goals go_ret3
      all_goals exact ⟨rfl, rfl⟩
  · have hd : b.drop (k + 1) = [] := List.drop_eq_nil_of_le (by omega)
    have heq : (((k + 1 : Nat) : Int) == (b.length : Int)) = true := by simp; omega
    have hv : escT k (esc (b.drop (k + 1))) = .tuple #[.int .u8 0, .int .i64 6, .int .i64 ((k : Int) + 1)] := by rw [hd]; simp [esc, escT]
    rw [hv]
    clear hv hd
    go_enter Tryd.func37, Tryd.ntmps37
    go_wp2
    all_goals go_ret3
    all_goals exact ⟨rfl, rfl⟩

theorem own_conv {w : World} {base n : Nat} {v : Value} {l : List Int} (h : w.ownsRow base 5 1 v n (l.map (Value.int .u8))) :
    (convert 22 9 v).run Tryd.prog w = .ok (.string (strOfNums l)) w := by
  have hl : l.length = n := by have := h.1; simpa using this
  rcases h.2 with ⟨rfl, rfl⟩ | ⟨g, cap, cur, rfl, hb, hg, hnc, hmx, hsz, htake⟩
  · have : l = [] := List.eq_nil_of_length_eq_zero hl
    subst this
    exact run_convert_bytes_nil w 22 5 under22 under5 0 0 9 under9
  · refine run_convert_bytes_arg w 22 5 under22 under5 g 0 n cap l hl (fun i hi => ?_) 9 under9
    rw [Nat.zero_add, cell_of_row w g i cur 5 (0, 0) hg]
    have e : cur.toList[i]? = (l.map (Value.int .u8))[i]? := by rw [← htake, List.getElem?_take, if_pos (by omega)]
    have : cur[i]? = cur.toList[i]? := by simp
    rw [this, e, List.getElem?_map, List.getElem?_eq_getElem (by omega), List.getD_eq_getElem?_getD, List.getElem?_eq_getElem (by omega)]
    rfl

end Go.Proofs.YtkeijgafmbdnlaaDoor
