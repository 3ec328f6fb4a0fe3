/- What a \ says, by the program: the contracts. -/
import Derived.Test.YtkeijgafmbdnlaaDoorXF
import Derived.Laws.BitsAllLaws
set_option linter.unusedSimpArgs false
set_option linter.unusedVariables false
namespace Go.Proofs.YtkeijgafmbdnlaaDoor
open Go Go.RowKit

/-- What two digits say: the byte; or how far the fault is. -/
def hex2 (r : List Int) : Int ⊕ Nat :=
  match r with
  | [] => .inr 0
  | x :: u =>
    match hexV x with
    | none => .inr 0
    | some i =>
      match u with
      | [] => .inr 1
      | y :: _ =>
        match hexV y with
        | none => .inr 1
        | some j => .inl (16 * i + j)

def hexT (k : Nat) : Int ⊕ Nat → Value
  | .inl x => .tuple #[.int .u8 x, .int .i64 0, .int .i64 ((k + 2 : Nat) : Int)]
  | .inr m => .tuple #[.int .u8 0, .int .i64 6, .int .i64 ((k + m : Nat) : Int)]

theorem hexV_bd {c i : Int} (h : hexV c = some i) : 0 ≤ i ∧ i ≤ 15 := by
  unfold hexV at h
  repeat' split at h
  all_goals simp at h
  all_goals omega

/-- How far it is with the two digits. -/
def St (r : List Int) (i : Nat) (x : Int) : Prop :=
  (i = 0 ∧ x = 0) ∨ (i = 1 ∧ ∃ c t, r = c :: t ∧ hexV c = some x) ∨ (i = 2 ∧ ∃ c d t p q, r = c :: d :: t ∧ hexV c = some p ∧ hexV d = some q ∧ x = 16 * p + q)

theorem St.end {r : List Int} {x : Int} (h : St r 2 x) : hex2 r = .inl x := by
  rcases h with ⟨h, _⟩ | ⟨h, _⟩ | ⟨_, c, d, t, p, q, rfl, h1, h2, rfl⟩
  · omega
  · omega
  · simp [hex2, h1, h2]

theorem St.short {r : List Int} {i : Nat} {x : Int} (h : St r i x) (hi : i < 2) (hr : r.length = i) : hex2 r = .inr i := by
  rcases h with ⟨rfl, _⟩ | ⟨rfl, c, t, rfl, h1⟩ | ⟨h, _⟩
  · rw [List.eq_nil_of_length_eq_zero hr]; rfl
  · have : t = [] := List.eq_nil_of_length_eq_zero (by simpa using hr)
    subst this
    simp [hex2, h1]
  · omega

theorem St.bad {r : List Int} {i : Nat} {x c : Int} (h : St r i x) (hi : i < 2) (hr : r[i]? = some c) (hc : hexV c = none) : hex2 r = .inr i := by
  rcases h with ⟨rfl, _⟩ | ⟨rfl, d, t, rfl, h1⟩ | ⟨h, _⟩
  · cases r with
    | nil => simp at hr
    | cons d t => simp at hr; subst hr; simp [hex2, hc]
  · cases t with
    | nil => simp at hr
    | cons e u => simp at hr; subst hr; simp [hex2, h1, hc]
  · omega

theorem or16 (x y : Int) (h0 : 0 ≤ x) (h1 : x ≤ 15) (g0 : 0 ≤ y) (g1 : y ≤ 15) : bits .or .u8 (x * 16) y = 16 * x + y := by
  rw [u8_or (x * 16) y (by omega) (by omega) (by omega) (by omega)]
  have h := Nat.two_pow_add_eq_or_of_lt (i := 4) (b := y.toNat) (by omega) x.toNat
  rw [show (x * 16).toNat = 2 ^ 4 * x.toNat by omega, ← h]; omega

theorem St.next {r : List Int} {i : Nat} {x c d : Int} (h : St r i x) (hi : i < 2) (hr : r[i]? = some c) (hc : hexV c = some d) : ∃ y, bits .or .u8 (x * 16 % 256) d = y ∧ bits .or .u8 (x * 16) d = y ∧ St r (i + 1) y ∧ 0 ≤ x ∧ x ≤ 15 := by
  have hd := hexV_bd hc
  rcases h with ⟨rfl, rfl⟩ | ⟨rfl, e, t, rfl, h1⟩ | ⟨h, _⟩
  · have := or16 0 d (by omega) (by omega) hd.1 hd.2
    simp at this
    refine ⟨d, by simpa using this, by simpa using this, .inr (.inl ⟨rfl, ?_⟩), by omega, by omega⟩
    cases r with
    | nil => simp at hr
    | cons f u => simp at hr; subst hr; exact ⟨f, u, rfl, hc⟩
  · have he := hexV_bd h1
    have := or16 x d he.1 he.2 hd.1 hd.2
    refine ⟨16 * x + d, by rw [show x * 16 % 256 = x * 16 by omega]; exact this, this, .inr (.inr ⟨rfl, ?_⟩), he.1, he.2⟩
    cases t with
    | nil => simp at hr
    | cons f u => simp at hr; subst hr; exact ⟨e, f, u, x, d, rfl, h1, hc, rfl⟩
  · omega

set_option maxHeartbeats 4000000 in
theorem xcutHex_any (v : Value) (b : List Int) (k : Nat) (w : World) (h : By w v b) (hk : k ≤ b.length) (hm : b.length ≤ 1000000) :
    Calls Tryd.prog 38 #[v, .int .i64 (k : Nat)] w fun e w' => e = .returned (hexT k (hex2 (b.drop k))) ∧ w' = w := by
  have HB := hid h
  obtain ⟨a, cap, rfl⟩ := h.form
  clear h
  go_enter Tryd.func38, Tryd.ntmps38
  go_wp2
  go_loopw [1, 7, 10] (fun p s j wr => ∃ i x, i ≤ 2 ∧ j = .int .i64 (i : Nat) ∧ p = .int .i64 ((k + i : Nat) : Int) ∧ k + i ≤ b.length ∧ s = .int .u8 x ∧ wr = w ∧ St (b.drop k) i x) (fun _ _ j _ => 2 - (intOf j).toNat)
  case atStart => exact ⟨0, 0, by omega, rfl, by simp, hk, rfl, rfl, .inl ⟨rfl, rfl⟩⟩
  case round =>
    obtain ⟨i, x, hi, rfl, rfl, hki, rfl, hwr, hst⟩ := hrel
    subst wr
    have HST := hid hst
    clear hst
    by_cases h2 : i < 2
    · have h2i : (i : Int) < 2 := by omega
      by_cases hlt : k + i < b.length
      · obtain ⟨g, o, rfl, hg, hc⟩ := HB.out.at hlt
        have hbd := HB.out.2.1 _ (List.getElem_mem hlt)
        have hr : (b.drop k)[i]? = some b[k + i] := by rw [List.getElem?_drop, List.getElem?_eq_getElem hlt]
        have HR := hid hr
        have hne : (((k + i : Nat) : Int) == (b.length : Int)) = false := by simp; omega
        have hlt2 : ((k + i : Nat) : Int) < (b.length : Int) := by omega
        clear hr
        generalize b[k + i] = c at hc hbd HR
        have HBD := hid hbd
        clear hbd
        cases hx : hexV c with
        | none =>
          have hv : hexT k (hex2 (b.drop k)) = .tuple #[.int .u8 0, .int .i64 6, .int .i64 ((k : Int) + i)] := by rw [HST.out.bad h2 HR.out hx]; simp [hexT]
          have HV := hid hv
          clear hv
          go_wp2_with (first
            | (go_at_call 39; refine (xhexDigit_any _ HBD.out.1 HBD.out.2 _).mono ?_; rw [hx]; rintro e w' ⟨rfl, hw'⟩; subst w'))
          all_goals go_ret3
          all_goals exact ⟨congrArg _ HV.out.symm, rfl⟩
        | some d =>
          obtain ⟨y, hy1, hy2, hy3, hx0, hx1⟩ := HST.out.next h2 HR.out hx
          have hdb := hexV_bd hx
          have HY := hid hy3
          clear hy3
          go_wp2_with (first
            | (go_at_call 39; refine (xhexDigit_any _ HBD.out.1 HBD.out.2 _).mono ?_; rw [hx]; rintro e w' ⟨rfl, hw'⟩; subst w'))
          go_roundw
          case rel => exact ⟨i + 1, y, by omega, by go_num, by go_num, by omega, by first | rfl | simp [hy1, hy2], trivial, HY.out⟩
          case measure => simp [intOf]; omega
      · have hl : (b.drop k).length = i := by rw [List.length_drop]; omega
        have hv : hexT k (hex2 (b.drop k)) = .tuple #[.int .u8 0, .int .i64 6, .int .i64 ((k : Int) + i)] := by rw [HST.out.short h2 hl]; simp [hexT]
        have HV := hid hv
        have heq : (((k + i : Nat) : Int) == (b.length : Int)) = true := by simp; omega
        clear hv hl
        go_wp2
        all_goals go_ret3
        all_goals exact ⟨congrArg _ HV.out.symm, rfl⟩
    · obtain rfl : i = 2 := by omega
      have hv : hexT k (hex2 (b.drop k)) = .tuple #[.int .u8 x, .int .i64 0, .int .i64 ((k : Int) + 2)] := by rw [HST.out.end]; simp [hexT]
      have HV := hid hv
      clear hv
      go_wp2
      all_goals go_ret3
      all_goals exact ⟨congrArg _ HV.out.symm, rfl⟩

end Go.Proofs.YtkeijgafmbdnlaaDoor
