/- More steps change nothing; kinds of what is read; tokens have kinds: plain data. -/
import Derived.Test.YtlcieebneclmpaaDoorPsmk
import Derived.Test.YtlcieebneclmpaaDoorLlk
set_option linter.unusedSimpArgs false
set_option linter.unusedVariables false
namespace Go.Proofs.YtlcieebneclmpaaDoor
open Go Go.RowKit

def Lq (r r' : Res) : Prop := r = .out ∨ r = r'

theorem lq_bind {r r' : Res} {k k' : Prt → Bool → Nat → Res} (h : Lq r r') (hk : ∀ x c j, Lq (k x c j) (k' x c j)) : Lq (r.bind k) (r'.bind k') := by
  rcases h with rfl | rfl
  · exact .inl rfl
  · cases r with
    | ok x c j => exact hk x c j
    | bad _ _ => exact .inr rfl
    | out => exact .inr rfl

theorem lq_want {T : List ATok} {s : ByteArray} {i : Nat} {k k' : Nat → Res} (h : Lq (k (i + 1)) (k' (i + 1))) : Lq (want T s i k) (want T s i k') := by
  unfold want
  split
  · exact h
  · exact .inr rfl

theorem lq_wantN {T : List ATok} {i : Nat} {k k' : Nat → Res} (h : Lq (k (i + 1)) (k' (i + 1))) : Lq (wantN T i k) (wantN T i k') := by
  unfold wantN
  split
  · exact h
  · exact .inr rfl

theorem lq_entr {T : List ATok} {s : ByteArray} {i o : Nat} {k k' : Nat → Nat → Res} (h : Lq (k (i + 1) (o + 1)) (k' (i + 1) (o + 1))) : Lq (entr T s i o k) (entr T s i o k') := by
  unfold entr
  split
  · split
    · exact .inr rfl
    · exact h
  · exact .inr rfl

theorem lq_ite {p : Prop} [Decidable p] {a b a' b' : Res} (h1 : Lq a a') (h2 : Lq b b') : Lq (if p then a else b) (if p then a' else b') := by
  split
  · exact h1
  · exact h2

set_option maxHeartbeats 4000000 in
theorem pP_up (T : List ATok) : ∀ (f : Nat) (nt : Nt) (i o : Nat), Lq (pP T f nt i o) (pP T (f + 1) nt i o)
  | 0, nt, i, o => .inl (by cases nt <;> rfl)
  | f + 1, nt, i, o => by
    have IH := fun (nt : Nt) (j o : Nat) => pP_up T f nt j o
    cases nt with
    | read r n => cases r <;> (conv => lhs; simp only [pP]) <;> (conv => rhs; simp only [pP]) <;> (repeat (first | exact .inr rfl | (refine IH _ _ _) | (refine lq_ite ?_ ?_) | (refine lq_want ?_) | (refine lq_wantN ?_) | (refine lq_entr ?_) | (refine lq_bind (IH _ _ _) fun x c j => ?_)))
    | _ => rw [pP, pP.eq_def T (f + 1 + 1)]; dsimp only; (repeat (first | exact .inr rfl | (refine IH _ _ _) | (refine lq_ite ?_ ?_) | (refine lq_want ?_) | (refine lq_wantN ?_) | (refine lq_entr ?_) | (refine lq_bind (IH _ _ _) fun x c j => ?_)))

theorem pP_mono {T : List ATok} {nt : Nt} {i o : Nat} {f : Nat} : ∀ {g : Nat}, f ≤ g → pP T f nt i o ≠ .out → pP T g nt i o = pP T f nt i o
  | g, h, hn => by
    induction g with
    | zero => rw [show f = 0 by omega]
    | succ g ih =>
      by_cases e : f = g + 1
      · rw [e]
      · have q := ih (by omega)
        rcases pP_up T g nt i o with h2 | h2
        · rw [q] at h2; exact absurd h2 hn
        · rw [← h2, q]

theorem stmts_kind {T : List ATok} : ∀ {f : Nat} {a : Int} {acc : List Prt} {i o : Nat} {x : Prt} {c : Bool} {j : Nat}, pP T f (.stmts a acc) i o = .ok x c j → x.kind = 2
  | 0, a, acc, i, o, x, c, j, h => by simp [pP] at h
  | f + 1, a, acc, i, o, x, c, j, h => by
    simp only [pP] at h
    split at h
    · injection h with h1; subst h1; rfl
    · cases hq : pP T f .stmt i o with
      | ok y d m => rw [hq] at h; exact stmts_kind (f := f) h
      | bad _ _ => rw [hq] at h; cases h
      | out => rw [hq] at h; cases h

theorem block_kind {T : List ATok} {f : Nat} {i o : Nat} {x : Prt} {c : Bool} {j : Nat} (h : pP T f .block i o = .ok x c j) : x.kind = 2 := by
  cases f with
  | zero => simp [pP] at h
  | succ f =>
    simp only [pP] at h
    unfold entr here at h
    split at h
    · split at h
      · cases h
      · exact stmts_kind h
    · cases h

theorem bind_ok {r : Res} {k : Prt → Bool → Nat → Res} {x : Prt} {c : Bool} {j : Nat} (h : r.bind k = .ok x c j) : ∃ x1 c1 j1, r = .ok x1 c1 j1 ∧ k x1 c1 j1 = .ok x c j := by
  cases r with
  | ok x1 c1 j1 => exact ⟨x1, c1, j1, rfl, h⟩
  | bad _ _ => cases h
  | out => cases h

theorem want_ok {T : List ATok} {s : ByteArray} {i : Nat} {k : Nat → Res} {x : Prt} {c : Bool} {j : Nat} (h : want T s i k = .ok x c j) : isT T i s = true ∧ k (i + 1) = .ok x c j := by
  unfold want here at h
  split at h
  · exact ⟨by assumption, h⟩
  · cases h

theorem wantN_ok {T : List ATok} {i : Nat} {k : Nat → Res} {x : Prt} {c : Bool} {j : Nat} (h : wantN T i k = .ok x c j) : (tk T i).1 = 1 ∧ k (i + 1) = .ok x c j := by
  unfold wantN here at h
  split at h
  · exact ⟨by assumption, h⟩
  · cases h

theorem semi_ok {T : List ATok} {i : Nat} {y x : Prt} {c : Bool} {j : Nat} (h : semi T i y = .ok x c j) : isT T i ⟨#[59]⟩ = true ∧ x = y ∧ j = i + 1 := by
  obtain ⟨h1, h2⟩ := want_ok h
  cases h2
  exact ⟨h1, rfl, rfl⟩

theorem choice_kind {T : List ATok} {f : Nat} {i o : Nat} {x : Prt} {c : Bool} {j : Nat} (h : pP T f .choice i o = .ok x c j) : x.kind = 5 := by
  cases f with
  | zero => simp [pP] at h
  | succ f =>
    simp only [pP] at h
    obtain ⟨_, h⟩ := want_ok h
    obtain ⟨x1, c1, j1, _, h⟩ := bind_ok h
    obtain ⟨x2, c2, j2, _, h⟩ := bind_ok h
    split at h
    · split at h
      · obtain ⟨x3, c3, j3, _, h⟩ := bind_ok h
        cases h; rfl
      · obtain ⟨x3, c3, j3, _, h⟩ := bind_ok h
        cases h; rfl
    · cases h; rfl

theorem body_kind {T : List ATok} {f : Nat} {k a : Int} {t : List Int} {i o : Nat} {x : Prt} {c : Bool} {j : Nat} (h : pP T f (.body k t a) i o = .ok x c j) : x.kind = k := by
  cases f with
  | zero => simp [pP] at h
  | succ f =>
    simp only [pP] at h
    obtain ⟨x1, c1, j1, _, h⟩ := bind_ok h
    obtain ⟨x2, c2, j2, _, h⟩ := bind_ok h
    cases h; rfl

theorem ite_ok {p : Prop} [Decidable p] {a b : Res} {x : Prt} {c : Bool} {j : Nat} (h : (if p then a else b) = .ok x c j) : (p ∧ a = .ok x c j) ∨ (¬p ∧ b = .ok x c j) := by
  by_cases hp : p
  · rw [if_pos hp] at h; exact .inl ⟨hp, h⟩
  · rw [if_neg hp] at h; exact .inr ⟨hp, h⟩

/-- A statement that is an expression. -/
theorem stmt_expr {T : List ATok} {f : Nat} {i o : Nat} {x : Prt} {c : Bool} {j : Nat} (h : pP T (f + 1) .stmt i o = .ok x c j) (hk : x.kind = 13) :
    ∃ y d m, pP T f (.lev 0) i o = .ok y d m ∧ x = .mk 13 [] 0 y.at_ [y] ∧ j = m + 1 ∧ isT T m ⟨#[59]⟩ = true := by
  rw [pP] at h
  rcases ite_ok h with ⟨_, h⟩ | ⟨_, h⟩
  · exact absurd ((block_kind h).symm.trans hk) (by decide)
  rcases ite_ok h with ⟨_, h⟩ | ⟨_, h⟩
  · obtain ⟨_, h⟩ := wantN_ok h
    obtain ⟨_, h⟩ := want_ok h
    obtain ⟨x1, c1, j1, _, h⟩ := bind_ok h
    obtain ⟨_, rfl, _⟩ := semi_ok h
    exact absurd hk (by simp [Prt.kind])
  rcases ite_ok h with ⟨_, h⟩ | ⟨_, h⟩
  · exact absurd ((choice_kind h).symm.trans hk) (by decide)
  rcases ite_ok h with ⟨_, h⟩ | ⟨_, h⟩
  · obtain ⟨x1, c1, j1, _, h⟩ := bind_ok h
    obtain ⟨x2, c2, j2, _, h⟩ := bind_ok h
    cases h
    exact absurd hk (by simp [Prt.kind])
  rcases ite_ok h with ⟨_, h⟩ | ⟨_, h⟩
  · obtain ⟨_, rfl, _⟩ := semi_ok h
    exact absurd hk (by simp [Prt.kind])
  rcases ite_ok h with ⟨_, h⟩ | ⟨_, h⟩
  · obtain ⟨_, rfl, _⟩ := semi_ok h
    exact absurd hk (by simp [Prt.kind])
  rcases ite_ok h with ⟨_, h⟩ | ⟨_, h⟩
  · rcases ite_ok h with ⟨_, h⟩ | ⟨_, h⟩
    · obtain ⟨_, rfl, _⟩ := semi_ok h
      exact absurd hk (by simp [Prt.kind])
    · obtain ⟨x1, c1, j1, _, h⟩ := bind_ok h
      obtain ⟨_, rfl, _⟩ := semi_ok h
      exact absurd hk (by simp [Prt.kind])
  rcases ite_ok h with ⟨_, h⟩ | ⟨_, h⟩
  · obtain ⟨x1, c1, j1, _, h⟩ := bind_ok h
    obtain ⟨_, rfl, _⟩ := semi_ok h
    exact absurd hk (by simp [Prt.kind])
  rcases ite_ok h with ⟨_, h⟩ | ⟨_, h⟩
  · obtain ⟨x1, c1, j1, _, h⟩ := bind_ok h
    obtain ⟨_, h⟩ := want_ok h
    obtain ⟨_, h⟩ := wantN_ok h
    obtain ⟨x2, c2, j2, _, h⟩ := bind_ok h
    cases h
    exact absurd hk (by simp [Prt.kind])
  rcases ite_ok h with ⟨_, h⟩ | ⟨_, h⟩
  · exact absurd ((body_kind h).symm.trans hk) (by decide)
  obtain ⟨y, d, m, hy, h⟩ := bind_ok h
  rcases ite_ok h with ⟨_, h⟩ | ⟨_, h⟩
  · obtain ⟨x1, c1, j1, _, h⟩ := bind_ok h
    obtain ⟨_, rfl, _⟩ := semi_ok h
    exact absurd hk (by simp [Prt.kind])
  · obtain ⟨h1, rfl, rfl⟩ := semi_ok h
    exact ⟨y, d, m, hy, rfl, rfl, h1⟩

/-- What a program is made of. -/
theorem prog_kids {T : List ATok} : ∀ {f : Nat} {acc : List Prt} {i o : Nat} {x : Prt} {c : Bool} {j : Nat}, pP T f (.prog acc) i o = .ok x c j → ∃ more, x = .mk 1 [] 0 0 (acc ++ more) ∧ (tk T j).1 = 0
  | 0, acc, i, o, x, c, j, h => by simp [pP] at h
  | f + 1, acc, i, o, x, c, j, h => by
    simp only [pP] at h
    split at h
    · cases h
      exact ⟨[], by simp, by assumption⟩
    · obtain ⟨y, d, m, _, h⟩ := bind_ok h
      obtain ⟨more, e, hk⟩ := prog_kids h
      exact ⟨y :: more, by rw [e]; simp, hk⟩

theorem cut_kind {r : List Int} {k n : Int} {x : List Int} {len : Nat} (h : cut r = .tok k x n len) : k ≠ 0 := by
  unfold cut at h
  split at h
  · cases h
  · split at h
    · unfold cName at h
      injection h with h1
      subst h1
      split <;> decide
    · split at h
      · unfold cNum at h
        split at h
        · cases h
        split at h
        · cases h
        split at h
        · cases h
        injection h with h1
        subst h1
        decide
      · split at h
        · have := ((cStr_len _ _ _ _).1 _ _ _ _ h).1
          omega
        · unfold cSign at h
          split at h
          · cases h
          · split at h
            · injection h with h1; subst h1; decide
            · split at h
              · injection h with h1; subst h1; decide
              · cases h

/-- Only the end is of no kind. -/
theorem lex_kinds : ∀ (f : Nat) (b : List Int) (at_ : Nat) (acc toks : List ATok) (p m : Nat), b.length < f → (∀ t ∈ acc, t.1 ≠ 0) → lexF f b at_ acc = (toks ++ [(0, [], 0, (p : Int))], 0, m) → ∀ t ∈ toks, t.1 ≠ 0
  | 0, _, _, _, _, _, _, h, _, _ => by omega
  | f + 1, [], at_, acc, toks, p, m, _, ha, e => by
    rw [lexF_nil] at e
    simp only [Prod.mk.injEq] at e
    obtain ⟨h1, _⟩ := List.append_inj' e.1 rfl
    rw [← h1]
    exact ha
  | f + 1, c :: t, at_, acc, toks, p, m, h, ha, e => by
    have ih := fun b at_ acc toks p m h1 h2 h3 => lex_kinds f b at_ acc toks p m h1 h2 h3
    simp only [List.length_cons] at h
    by_cases hb : isBl c = true
    · rw [lexF_blank hb] at e
      exact ih _ _ _ _ _ _ (by omega) ha e
    · have hb' : isBl c = false := by simpa using hb
      by_cases hr : c = 35
      · subst hr
        rw [lexF_rem] at e
        exact ih _ _ _ _ _ _ (by simp; omega) ha e
      · cases hg : begn c
        · rw [lexF_form hb' hr hg] at e; simp at e
        · by_cases hf : acc.length = 16384
          · rw [lexF_full hb' hr hg _ _ _ _ hf] at e; simp at e
          · cases hc : cut (c :: t) with
            | bad er off =>
              rw [lexF_bad hb' hr hg _ _ _ _ hf hc] at e
              simp at e
            | tok k x nn len =>
              rw [lexF_tok hb' hr hg _ _ _ _ hf hc] at e
              have hlen := cut_len hc
              refine ih _ _ _ _ _ _ (by simp at hlen ⊢; omega) ?_ e
              intro t ht
              rcases List.mem_append.1 ht with ht | ht
              · exact ha t ht
              · simp at ht
                subst ht
                exact cut_kind hc

/-- Where the first part is at fault, so is the whole. -/
theorem lex_line_bad (b : List Int) : ∀ (f g : Nat) (a : List Int) (at_ : Nat) (acc : List ATok), (a ++ [10]).length < f → (a ++ 10 :: b).length < g → (lexF f (a ++ [10]) at_ acc).2.1 ≠ 0 → (lexF g (a ++ 10 :: b) at_ acc).2.1 ≠ 0
  | 0, _, _, _, _, h, _, _ => by omega
  | _, 0, _, _, _, _, h, _ => by omega
  | f + 1, g + 1, [], at_, acc, h, h', hl => by
    simp only [List.nil_append, List.length_cons, List.length_nil] at h h' hl
    rw [lexF_blank (by decide)] at hl
    obtain ⟨f', rfl⟩ : ∃ f', f = f' + 1 := ⟨f - 1, by omega⟩
    rw [lexF_nil] at hl
    simp at hl
  | f + 1, g + 1, c :: t, at_, acc, h, h', hl => by
    have ih := fun a at_ acc h h' hl => lex_line_bad b f g a at_ acc h h' hl
    simp only [List.length_append, List.length_cons, List.length_nil] at h h' ih
    rw [List.cons_append] at hl ⊢
    by_cases hb : isBl c = true
    · rw [lexF_blank hb] at hl ⊢
      exact ih t _ _ (by omega) (by omega) hl
    · have hb' : isBl c = false := by simpa using hb
      by_cases hr : c = 35
      · subst hr
        rw [lexF_rem] at hl ⊢
        obtain ⟨t1, t2, t3⟩ := twl_stop (p := (· != 10)) 10 (by decide) b t
        rw [t2]
        generalize twl (· != 10) (t ++ [10]) = m at t3 hl
        have d1 : (t ++ 10 :: b).drop m = t.drop m ++ 10 :: b := List.drop_append_of_le_length t3
        have d2 : (t ++ [10]).drop m = t.drop m ++ [10] := List.drop_append_of_le_length t3
        rw [d2] at hl
        rw [d1]
        exact ih (t.drop m) _ _ (by simp; omega) (by simp; omega) hl
      · cases hg : begn c
        · rw [lexF_form hb' hr hg]
          simp
        · by_cases ha : acc.length = 16384
          · rw [lexF_full hb' hr hg _ _ _ _ ha]
            simp
          · obtain ⟨c1, c2⟩ := cut_stop b c t
            cases hc : cut (c :: (t ++ [10])) with
            | bad e off =>
              rw [lexF_bad hb' hr hg _ _ _ _ ha (c1.trans hc)]
              have := (cut_bad hc).1
              simp; omega
            | tok k x n len =>
              have hlen := c2 k x n len hc
              have hge := (cut_len hc).1
              rw [lexF_tok hb' hr hg _ _ _ _ ha hc] at hl
              rw [lexF_tok hb' hr hg _ _ _ _ ha (c1.trans hc)]
              have d1 : (c :: (t ++ 10 :: b)).drop len = (c :: t).drop len ++ 10 :: b := by
                rw [← List.cons_append]; exact List.drop_append_of_le_length (by simpa using hlen)
              have d2 : (c :: (t ++ [10])).drop len = (c :: t).drop len ++ [10] := by
                rw [← List.cons_append]; exact List.drop_append_of_le_length (by simpa using hlen)
              rw [d2] at hl
              rw [d1]
              exact ih ((c :: t).drop len) _ _ (by simp; omega) (by simp; omega) hl

end Go.Proofs.YtlcieebneclmpaaDoor
