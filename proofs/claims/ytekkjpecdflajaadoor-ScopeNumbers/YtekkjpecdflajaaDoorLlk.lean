/- Texts part by part: what is cut ends within the text; a line break ends all; what is behind it is cut as if it stood alone. Nothing of the program is in it. -/
import Derived.Test.YtekkjpecdflajaaDoorM1
set_option linter.unusedSimpArgs false
set_option linter.unusedVariables false
namespace Go.Proofs.YtekkjpecdflajaaDoor
open Go Go.RowKit

theorem cStr_len : ∀ (f : Nat) (r acc : List Int) (k : Nat), (∀ kd x n len, cStr f r acc k = .tok kd x n len → kd = 4 ∧ n = 0 ∧ k + 1 ≤ len ∧ len ≤ k + r.length) ∧ (∀ e off, cStr f r acc k = .bad e off → e = 6 ∧ k ≤ off ∧ off ≤ k + r.length)
  | 0, r, acc, k => by
    refine ⟨fun kd x n len h => by simp [cStr] at h, fun e off h => ?_⟩
    simp [cStr] at h; omega
  | f + 1, [], acc, k => by
    refine ⟨fun kd x n len h => by simp [cStr] at h, fun e off h => ?_⟩
    simp [cStr] at h; omega
  | f + 1, c :: t, acc, k => by
    have ih := fun r acc k => cStr_len f r acc k
    unfold cStr
    by_cases h1 : c = 34
    · simp only [h1, if_true]
      refine ⟨fun kd x n len h => ?_, fun e off h => by simp at h⟩
      simp at h; simp; omega
    by_cases h2 : c = 10
    · simp only [h1, h2, if_true, if_false]
      refine ⟨fun kd x n len h => by simp at h, fun e off h => ?_⟩
      simp at h; simp; omega
    by_cases h3 : c = 92
    · simp only [h1, h2, h3, if_true, if_false]
      cases he : esc t with
      | inr m =>
        have := esc_bad he
        refine ⟨fun kd x n len h => by simp at h, fun e off h => ?_⟩
        simp at h; simp; omega
      | inl q =>
        obtain ⟨x, m⟩ := q
        have hb := esc_bd he
        obtain ⟨i1, i2⟩ := ih ((92 :: t).drop m) (acc ++ [x]) (k + m)
        have hd : ((92 :: t).drop m).length = t.length + 1 - m := by simp
        rw [hd] at i1 i2
        refine ⟨fun kd x n len h => ?_, fun e off h => ?_⟩
        · have := i1 kd x n len (by simpa using h); simp; omega
        · have := i2 e off (by simpa using h); simp; omega
    · simp only [h1, h2, h3, if_true, if_false]
      obtain ⟨i1, i2⟩ := ih t (acc ++ [c]) (k + 1)
      refine ⟨fun kd x n len h => ?_, fun e off h => ?_⟩
      · have := i1 kd x n len h; simp; omega
      · have := i2 e off h; simp; omega

theorem cut_len {r : List Int} {kd n : Int} {x : List Int} {len : Nat} (h : cut r = .tok kd x n len) : 1 ≤ len ∧ len ≤ r.length := by
  cases r with
  | nil => simp [cut] at h
  | cons c t =>
    simp only [cut] at h
    split at h
    · rename_i hc
      simp only [cName, Cut.tok.injEq] at h
      have hn : isNm c = true := by simp [isNm, hc]
      have := twl_le isNm (c :: t)
      have e := twl_cons isNm c t
      rw [if_pos hn] at e
      omega
    · split at h
      · rename_i _ hc
        unfold cNum at h
        split at h
        · cases h
        · split at h
          · cases h
          · split at h
            · cases h
            · simp only [Cut.tok.injEq] at h
              have := twl_le isDg (c :: t)
              have e := twl_cons isDg c t
              rw [if_pos hc] at e
              omega
      · split at h
        · have := (cStr_len _ _ _ _).1 _ _ _ _ h
          simp; omega
        · simp only [cSign] at h
          split at h
          · rename_i h0
            simp only [Cut.tok.injEq] at h
            cases t with
            | nil => simp at h0
            | cons d u => simp; omega
          · split at h
            · simp only [Cut.tok.injEq] at h
              simp; omega
            · cases h

theorem cut_bad {r : List Int} {e : Int} {off : Nat} (h : cut r = .bad e off) : (e = 6 ∨ e = 9) ∧ off ≤ r.length + 1 := by
  cases r with
  | nil => simp [cut] at h; omega
  | cons c t =>
    simp only [cut] at h
    split at h
    · simp [cName] at h
    · split at h
      · have := twl_le isDg (c :: t)
        unfold cNum at h
        split at h
        · simp at h; simp; omega
        · split at h
          · simp at h; omega
          · split at h
            · simp at h; omega
            · cases h
      · split at h
        · have := (cStr_len _ _ _ _).2 _ _ h
          simp; omega
        · simp only [cSign] at h
          split at h
          · cases h
          · split at h
            · cases h
            · simp at h; simp; omega

/-- Fuel enough is fuel enough. -/
theorem lexF_fuel : ∀ (f g : Nat) (r : List Int) (at_ : Nat) (acc : List ATok), r.length < f → r.length < g → lexF f r at_ acc = lexF g r at_ acc
  | 0, _, r, _, _, h, _ => by omega
  | _, 0, r, _, _, _, h => by omega
  | f + 1, g + 1, [], at_, acc, _, _ => rfl
  | f + 1, g + 1, c :: t, at_, acc, h, h' => by
    simp only [List.length_cons] at h h'
    by_cases hb : isBl c = true
    · rw [lexF_blank hb, lexF_blank hb]
      exact lexF_fuel f g t _ _ (by omega) (by omega)
    · have hb' : isBl c = false := by simpa using hb
      by_cases hr : c = 35
      · subst hr
        rw [lexF_rem, lexF_rem]
        exact lexF_fuel f g _ _ _ (by simp; omega) (by simp; omega)
      · cases hg : begn c
        · rw [lexF_form hb' hr hg, lexF_form hb' hr hg]
        · by_cases ha : acc.length = 16384
          · rw [lexF_full hb' hr hg _ _ _ _ ha, lexF_full hb' hr hg _ _ _ _ ha]
          · cases hc : cut (c :: t) with
            | bad e off => rw [lexF_bad hb' hr hg _ _ _ _ ha hc, lexF_bad hb' hr hg _ _ _ _ ha hc]
            | tok k x n len =>
              rw [lexF_tok hb' hr hg _ _ _ _ ha hc, lexF_tok hb' hr hg _ _ _ _ ha hc]
              have := cut_len hc
              exact lexF_fuel f g _ _ _ (by simp at this ⊢; omega) (by simp at this ⊢; omega)

/-! ## a line break ends all -/

theorem esc_stop (b : List Int) : ∀ (t : List Int), esc (t ++ 10 :: b) = esc (t ++ [10]) ∧ ∀ x m, esc (t ++ [10]) = .inl (x, m) → m ≤ t.length + 1
  | [] => by
    refine ⟨by simp [esc], fun x m h => ?_⟩
    simp [esc] at h
  | [c] => by
    by_cases h1 : c = 34 ∨ c = 92
    · simp [esc, h1]
    · by_cases h2 : c = 110
      · simp [esc, h1, h2]
      · by_cases h3 : c = 116
        · simp [esc, h1, h2, h3]
        · by_cases h4 : c = 120
          · subst h4; simp [esc, hexV]
          · simp [esc, h1, h2, h3, h4]
  | [c, d] => by
    by_cases h1 : c = 34 ∨ c = 92
    · simp [esc, h1]
    · by_cases h2 : c = 110
      · simp [esc, h1, h2]
      · by_cases h3 : c = 116
        · simp [esc, h1, h2, h3]
        · by_cases h4 : c = 120
          · subst h4
            have hv : hexV 10 = none := by decide
            cases hd : hexV d <;> simp [esc, hd, hv]
          · simp [esc, h1, h2, h3, h4]
  | c :: d :: e :: u => by
    constructor
    · simp [esc]
    · intro x m h
      have hm : m ≤ 4 := by
        unfold esc at h
        repeat' split at h
        all_goals first | cases h | skip
        all_goals simp
      simp; omega

theorem cStr_stop (b : List Int) : ∀ (f g : Nat) (t acc : List Int) (k : Nat), (t ++ 10 :: b).length < f → (t ++ [10]).length < g → cStr f (t ++ 10 :: b) acc k = cStr g (t ++ [10]) acc k ∧ ∀ kd x n len, cStr g (t ++ [10]) acc k = .tok kd x n len → len ≤ k + t.length
  | 0, _, _, _, _, h, _ => by omega
  | _, 0, _, _, _, _, h => by omega
  | f + 1, g + 1, [], acc, k, _, _ => by simp [cStr]
  | f + 1, g + 1, c :: t, acc, k, h, h' => by
    have ih := fun t acc k h h' => cStr_stop b f g t acc k h h'
    simp only [List.length_append, List.length_cons, List.length_nil] at h h' ih
    rw [List.cons_append, List.cons_append]
    unfold cStr
    by_cases h1 : c = 34
    · simp only [h1, if_true]
      refine ⟨trivial, fun kd x n len h => ?_⟩
      simp at h; simp; omega
    by_cases h2 : c = 10
    · simp only [h1, h2, if_true, if_false]
      exact ⟨trivial, fun kd x n len h => by simp at h⟩
    by_cases h3 : c = 92
    · obtain ⟨e1, e2⟩ := esc_stop b t
      simp only [h1, h2, h3, if_true, if_false, e1]
      cases he : esc (t ++ [10]) with
      | inr m => exact ⟨by simp, fun kd x n len h => by simp at h⟩
      | inl q =>
        obtain ⟨x, m⟩ := q
        have hm := e2 x m he
        have hb := (esc_bd he).1
        have d1 : (92 :: (t ++ 10 :: b)).drop m = t.drop (m - 1) ++ 10 :: b := by
          obtain ⟨j, rfl⟩ : ∃ j, m = j + 1 := ⟨m - 1, by omega⟩
          rw [List.drop_succ_cons, List.drop_append_of_le_length (by omega)]; simp
        have d2 : (92 :: (t ++ [10])).drop m = t.drop (m - 1) ++ [10] := by
          obtain ⟨j, rfl⟩ : ∃ j, m = j + 1 := ⟨m - 1, by omega⟩
          rw [List.drop_succ_cons, List.drop_append_of_le_length (by omega)]; simp
        simp only [d1, d2]
        obtain ⟨i1, i2⟩ := ih (t.drop (m - 1)) (acc ++ [x]) (k + m) (by simp; omega) (by simp; omega)
        refine ⟨by simpa using i1, fun kd x n len h => ?_⟩
        have := i2 kd x n len (by simpa using h)
        simp at this ⊢; omega
    · simp only [h1, h2, h3, if_true, if_false]
      obtain ⟨i1, i2⟩ := ih t (acc ++ [c]) (k + 1) (by omega) (by omega)
      refine ⟨i1, fun kd x n len h => ?_⟩
      have := i2 kd x n len h
      simp; omega

theorem getElem?_stop (t b : List Int) (i : Nat) (h : i ≤ t.length) : (t ++ 10 :: b)[i]? = (t ++ [10])[i]? := by
  by_cases hl : i < t.length
  · rw [List.getElem?_append_left hl, List.getElem?_append_left hl]
  · obtain rfl : i = t.length := by omega
    simp

theorem cut_stop (b : List Int) (c : Int) (t : List Int) : cut (c :: (t ++ 10 :: b)) = cut (c :: (t ++ [10])) ∧ ∀ kd x n len, cut (c :: (t ++ [10])) = .tok kd x n len → len ≤ t.length + 1 := by
  simp only [cut]
  split
  · rename_i hc
    obtain ⟨h1, h2, h3⟩ := twl_stop (p := isNm) 10 (by decide) b (c :: t)
    simp only [List.cons_append, List.length_cons] at h1 h2 h3
    unfold cName
    rw [h1, h2]
    refine ⟨rfl, fun kd x n len h => ?_⟩
    simp only [Cut.tok.injEq] at h; omega
  · split
    · obtain ⟨h1, h2, h3⟩ := twl_stop (p := isDg) 10 (by decide) b (c :: t)
      have h4 := getElem?_stop (c :: t) b _ h3
      simp only [List.cons_append, List.length_cons] at h1 h2 h3 h4
      unfold cNum
      rw [h1, h2, h4]
      refine ⟨rfl, fun kd x n len h => ?_⟩
      split at h
      · cases h
      · split at h
        · cases h
        · split at h
          · cases h
          · simp only [Cut.tok.injEq] at h; omega
    · split
      · obtain ⟨h1, h2⟩ := cStr_stop b ((t ++ 10 :: b).length + 1) ((t ++ [10]).length + 1) t [] 1 (by omega) (by omega)
        refine ⟨h1, fun kd x n len h => ?_⟩
        have := h2 kd x n len h; omega
      · have hh : (t ++ 10 :: b).head? = (t ++ [10]).head? := by cases t <;> simp
        simp only [cSign, hh]
        refine ⟨trivial, fun kd x n len h => ?_⟩
        split at h
        · rename_i h0
          simp only [Cut.tok.injEq] at h
          cases t with
          | nil => simp at h0
          | cons d u => simp; omega
        · split at h
          · simp only [Cut.tok.injEq] at h; omega
          · cases h

/-- A first part that ends with a line break and is cut without a fault: the tokens of the whole are its own, then those of the rest. -/
theorem lex_line (b : List Int) : ∀ (f g : Nat) (a : List Int) (at_ : Nat) (acc l : List ATok) (p : Nat), (a ++ [10]).length < f → (a ++ 10 :: b).length < g → lexF f (a ++ [10]) at_ acc = (l, 0, p) →
    ∃ toks, l = toks ++ [(0, [], 0, (p : Int))] ∧ p = at_ + a.length + 1 ∧ lexF g (a ++ 10 :: b) at_ acc = lexF (b.length + 1) b (at_ + a.length + 1) toks
  | 0, _, _, _, _, _, _, h, _, _ => by omega
  | _, 0, _, _, _, _, _, _, h, _ => by omega
  | f + 1, g + 1, [], at_, acc, l, p, h, h', hl => by
    simp only [List.nil_append, List.length_cons, List.length_nil] at h h' hl
    rw [lexF_blank (by decide)] at hl
    obtain ⟨f', rfl⟩ : ∃ f', f = f' + 1 := ⟨f - 1, by omega⟩
    rw [lexF_nil] at hl
    simp only [Prod.mk.injEq, true_and] at hl
    refine ⟨acc, ?_, by simp; omega, ?_⟩
    · rw [← hl.1, hl.2]
    · rw [List.nil_append, lexF_blank (by decide)]
      exact lexF_fuel _ _ _ _ _ (by omega) (by omega)
  | f + 1, g + 1, c :: t, at_, acc, l, p, h, h', hl => by
    have ih := fun a at_ acc l p h h' hl => lex_line b f g a at_ acc l p h h' hl
    simp only [List.length_append, List.length_cons, List.length_nil] at h h' ih
    rw [List.cons_append] at hl ⊢
    by_cases hb : isBl c = true
    · rw [lexF_blank hb] at hl ⊢
      obtain ⟨toks, h1, h2, h3⟩ := ih t _ _ _ _ (by omega) (by omega) hl
      refine ⟨toks, h1, by simp; omega, ?_⟩
      rw [h3]; simp only [List.length_cons]; congr 1; omega
    · have hb' : isBl c = false := by simpa using hb
      by_cases hr : c = 35
      · subst hr
        rw [lexF_rem] at hl ⊢
        obtain ⟨t1, t2, t3⟩ := twl_stop (p := (· != 10)) 10 (by decide) b t
        rw [t2]
        generalize twl (· != 10) (t ++ [10]) = m at t3 hl
        have d1 : (t ++ 10 :: b).drop m = t.drop m ++ 10 :: b := List.drop_append_of_le_length t3
        have d2 : (t ++ [10]).drop m = t.drop m ++ [10] := List.drop_append_of_le_length t3
        rw [d2] at hl
        rw [d1]
        obtain ⟨toks, h1, h2, h3⟩ := ih (t.drop m) _ _ _ _ (by simp; omega) (by simp; omega) hl
        refine ⟨toks, h1, by simp at h2 ⊢; omega, ?_⟩
        rw [h3]; simp only [List.length_cons, List.length_drop]; congr 1; omega
      · cases hg : begn c
        · rw [lexF_form hb' hr hg] at hl
          simp at hl
        · by_cases ha : acc.length = 16384
          · rw [lexF_full hb' hr hg _ _ _ _ ha] at hl
            simp at hl
          · obtain ⟨c1, c2⟩ := cut_stop b c t
            cases hc : cut (c :: (t ++ [10])) with
            | bad e off =>
              rw [lexF_bad hb' hr hg _ _ _ _ ha hc] at hl
              have := (cut_bad hc).1
              simp at hl; omega
            | tok k x n len =>
              have hlen := c2 k x n len hc
              have hge := (cut_len hc).1
              rw [lexF_tok hb' hr hg _ _ _ _ ha hc] at hl
              rw [lexF_tok hb' hr hg _ _ _ _ ha (c1.trans hc)]
              have d1 : (c :: (t ++ 10 :: b)).drop len = (c :: t).drop len ++ 10 :: b := by
                rw [← List.cons_append]; exact List.drop_append_of_le_length (by simpa using hlen)
              have d2 : (c :: (t ++ [10])).drop len = (c :: t).drop len ++ [10] := by
                rw [← List.cons_append]; exact List.drop_append_of_le_length (by simpa using hlen)
              rw [d2] at hl
              rw [d1]
              obtain ⟨toks, h1, h2, h3⟩ := ih ((c :: t).drop len) _ _ _ _ (by simp; omega) (by simp; omega) hl
              refine ⟨toks, h1, by simp at h2 ⊢; omega, ?_⟩
              rw [h3]; simp only [List.length_cons, List.length_drop]; congr 1; omega

/-! ## what stands behind something is cut as if it stood alone -/

def shT (s : Nat) (t : ATok) : ATok := (t.1, t.2.1, t.2.2.1, t.2.2.2 + (s : Int))
def shR (s : Nat) (pre : List ATok) (R : List ATok × Int × Nat) : List ATok × Int × Nat := if R.2.1 = 0 then (pre ++ R.1.map (shT s), 0, R.2.2 + s) else ([], R.2.1, R.2.2 + s)

theorem lex_shift (s : Nat) (pre : List ATok) : ∀ (f : Nat) (b : List Int) (at_ : Nat) (acc : List ATok), pre.length + acc.length + b.length < 16384 → b.length < f → lexF f b (at_ + s) (pre ++ acc.map (shT s)) = shR s pre (lexF f b at_ acc)
  | 0, _, _, _, _, h => by omega
  | f + 1, [], at_, acc, _, _ => by
    rw [lexF_nil, lexF_nil]
    simp [shR, shT]
  | f + 1, c :: t, at_, acc, hn, h => by
    have ih := fun b at_ acc h h' => lex_shift s pre f b at_ acc h h'
    simp only [List.length_cons] at h hn
    by_cases hb : isBl c = true
    · rw [lexF_blank hb, lexF_blank hb, ← ih t _ _ (by omega) (by omega)]
      congr 1; omega
    · have hb' : isBl c = false := by simpa using hb
      by_cases hr : c = 35
      · subst hr
        rw [lexF_rem, lexF_rem, ← ih _ _ _ (by simp; omega) (by simp; omega)]
        congr 1; omega
      · cases hg : begn c
        · rw [lexF_form hb' hr hg, lexF_form hb' hr hg]
          simp [shR]
        · have ha : acc.length ≠ 16384 := by omega
          have ha' : (pre ++ acc.map (shT s)).length ≠ 16384 := by simp; omega
          cases hc : cut (c :: t) with
          | bad e off =>
            have he := (cut_bad hc).1
            rw [lexF_bad hb' hr hg _ _ _ _ ha hc, lexF_bad hb' hr hg _ _ _ _ ha' hc]
            unfold shR
            rw [if_neg (by simp; omega)]
            simp; omega
          | tok k x n len =>
            have hlen := cut_len hc
            rw [lexF_tok hb' hr hg _ _ _ _ ha hc, lexF_tok hb' hr hg _ _ _ _ ha' hc]
            rw [← ih _ _ _ (by simp at hlen ⊢; omega) (by simp at hlen ⊢; omega)]
            have e : at_ + s + len = at_ + len + s := by omega
            rw [e]
            simp [shT]

/-- Of an error there are no tokens; of none there is the end. -/
theorem lex_res : ∀ (f : Nat) (b : List Int) (at_ : Nat) (acc : List ATok), b.length < f → ((lexF f b at_ acc).2.1 ≠ 0 → (lexF f b at_ acc).1 = []) ∧ ((lexF f b at_ acc).2.1 = 0 → ∃ toks, (lexF f b at_ acc).1 = toks ++ [(0, [], 0, ((lexF f b at_ acc).2.2 : Int))] ∧ toks.length ≤ acc.length + b.length ∧ (lexF f b at_ acc).2.2 = at_ + b.length) ∧ (lexF f b at_ acc).2.2 ≤ at_ + b.length + 1
  | 0, _, _, _, h => by omega
  | f + 1, [], at_, acc, _ => by
    rw [lexF_nil]
    exact ⟨fun h => by simp at h, fun _ => ⟨acc, rfl, by simp, by simp⟩, by simp⟩
  | f + 1, c :: t, at_, acc, h => by
    have ih := fun b at_ acc h => lex_res f b at_ acc h
    simp only [List.length_cons] at h
    by_cases hb : isBl c = true
    · rw [lexF_blank hb]
      obtain ⟨i1, i2, i3⟩ := ih t (at_ + 1) acc (by omega)
      refine ⟨i1, fun h => ?_, by simp; omega⟩
      obtain ⟨toks, j1, j2, j3⟩ := i2 h
      exact ⟨toks, j1, by simp; omega, by simp; omega⟩
    · have hb' : isBl c = false := by simpa using hb
      by_cases hr : c = 35
      · subst hr
        rw [lexF_rem]
        have := twl_le (· != 10) t
        obtain ⟨i1, i2, i3⟩ := ih (t.drop (twl (· != 10) t)) (at_ + 1 + twl (· != 10) t) acc (by simp; omega)
        refine ⟨i1, fun h => ?_, by simp at i3 ⊢; omega⟩
        obtain ⟨toks, j1, j2, j3⟩ := i2 h
        exact ⟨toks, j1, by simp at j2 ⊢; omega, by simp at j3 ⊢; omega⟩
      · cases hg : begn c
        · rw [lexF_form hb' hr hg]
          exact ⟨fun _ => rfl, fun h => by simp at h, by simp; omega⟩
        · by_cases ha : acc.length = 16384
          · rw [lexF_full hb' hr hg _ _ _ _ ha]
            exact ⟨fun _ => rfl, fun h => by simp at h, by simp; omega⟩
          · cases hc : cut (c :: t) with
            | bad e off =>
              have he := cut_bad hc
              rw [lexF_bad hb' hr hg _ _ _ _ ha hc]
              refine ⟨fun _ => rfl, fun h => by simp at h; omega, by simp at he ⊢; omega⟩
            | tok k x n len =>
              have hlen := cut_len hc
              simp only [List.length_cons] at hlen
              rw [lexF_tok hb' hr hg _ _ _ _ ha hc]
              obtain ⟨i1, i2, i3⟩ := ih ((c :: t).drop len) (at_ + len) (acc ++ [(k, x, n, (at_ : Int))]) (by simp; omega)
              simp only [List.length_drop, List.length_cons, List.length_append, List.length_nil] at i2 i3 ⊢
              refine ⟨i1, fun h => ?_, by omega⟩
              obtain ⟨toks, j1, j2, j3⟩ := i2 h
              exact ⟨toks, j1, by omega, by omega⟩

end Go.Proofs.YtekkjpecdflajaaDoor

