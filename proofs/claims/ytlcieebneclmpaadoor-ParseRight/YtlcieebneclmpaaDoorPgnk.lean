/- A name that is declared: plain data. -/
import Derived.Test.YtlcieebneclmpaaDoorPgk
import Derived.Test.YtlcieebneclmpaaDoorK2
set_option linter.unusedSimpArgs false
set_option linter.unusedVariables false
namespace Go.Proofs.YtlcieebneclmpaaDoor
open Go Go.RowKit

/-- var, a name, = 1; -/
def varT (s : List Int) : List Int := [118, 97, 114, 32] ++ s ++ [32, 61, 32, 49, 59]

theorem rest_lex (f p : Nat) (acc : List ATok) (ha : acc.length = 2) : lexF (f + 6) [32, 61, 32, 49, 59] p acc = (acc ++ [(5, [61], 0, ((p + 1 : Nat) : Int)), (3, [], 1, ((p + 3 : Nat) : Int)), (5, [59], 0, ((p + 4 : Nat) : Int)), (0, [], 0, ((p + 5 : Nat) : Int))], 0, p + 5) := by
  rw [lexF_blank (by decide), lexF_tok (by decide) (by decide) (by decide) _ _ _ _ (by omega) (show cut [61, 32, 49, 59] = .tok 5 [61] 0 1 by decide +kernel)]
  show lexF (f + 4) [32, 49, 59] _ _ = _
  rw [lexF_blank (by decide), lexF_tok (by decide) (by decide) (by decide) _ _ _ _ (by simp; omega) (show cut [49, 59] = .tok 3 [] 1 1 by decide +kernel)]
  show lexF (f + 2) [59] _ _ = _
  rw [lexF_tok (by decide) (by decide) (by decide) _ _ _ _ (by simp; omega) (show cut [59] = .tok 5 [59] 0 1 by decide +kernel)]
  show lexF (f + 1) [] _ _ = _
  rw [lexF_nil]
  simp
  omega

theorem twl_name (s : List Int) (hs : ∀ c ∈ s, isNm c = true) : (s ++ [32, 61, 32, 49, 59]).takeWhile isNm = s := by
  rw [List.takeWhile_append_of_pos hs]
  simp [isNm, isLt, isDg]

theorem var_lex (s : List Int) (hs : ∀ c ∈ s, isNm c = true) (hl : s.length ≤ 300) :
    lexA (varT s) = lexF (s.length + 7) (s ++ [32, 61, 32, 49, 59]) 4 [(2, [118, 97, 114], 0, 0)] := by
  have hl2 : (varT s).length = s.length + 9 := by simp [varT]
  unfold lexA
  rw [if_neg (by omega), hl2]
  have hc : cut (118 :: 97 :: 114 :: 32 :: (s ++ [32, 61, 32, 49, 59])) = .tok 2 [118, 97, 114] 0 3 := by
    simp [cut, cName, isLt, isNm, isDg, twl, List.takeWhile_cons]
    decide
  show lexF (s.length + 9 + 1) (118 :: 97 :: 114 :: 32 :: (s ++ [32, 61, 32, 49, 59])) 0 [] = _
  rw [lexF_tok (by decide) (by decide) (by decide) _ _ _ _ (by simp) hc]
  show lexF (s.length + 8 + 1) (32 :: (s ++ [32, 61, 32, 49, 59])) 3 _ = _
  rw [lexF_blank (by decide), lexF_fuel _ (s.length + 7) _ _ _ (by simp) (by simp)]
  rfl

theorem isT_w {T : List ATok} {i : Nat} {k n a : Int} {x : List Int} (h : tk T i = (k, x, n, a)) (hk : k = 2 ∨ k = 5) (s : ByteArray) : isT T i s = decide (strOfNums x = s) := by
  unfold isT
  rw [h]
  rcases hk with rfl | rfl <;> simp

theorem isT_no {T : List ATok} {i : Nat} {k n a : Int} {x : List Int} (h : tk T i = (k, x, n, a)) (h2 : k ≠ 2) (h5 : k ≠ 5) (s : ByteArray) : isT T i s = false := by
  unfold isT
  rw [h]
  simp [h2, h5]

theorem isO_no {T : List ATok} {i : Nat} (l : List ByteArray) (h : ∀ s ∈ l, isT T i s = false) : isO T i l = false := by
  unfold isO
  rw [List.any_eq_false]
  intro s hs
  rw [h s hs]
  decide

theorem var_no (T : List ATok) (h0 : tk T 0 = (2, [118, 97, 114], 0, 0)) (h1 : (tk T 1).1 ≠ 1) (ha : (tk T 1).2.2.2 = 4) (f : Nat) : pP T (f + 2) (.prog []) 0 0 = .bad 6 4 := by
  have e := isT_w h0 (.inl rfl)
  simp only [pP]
  rw [if_neg (by rw [h0]; decide), e, e, if_neg (by decide), if_pos (by decide)]
  unfold wantN
  rw [if_neg h1]
  unfold here
  rw [Nat.zero_add, ha]
  rfl

set_option maxHeartbeats 1000000 in
theorem var_yes (T : List ATok) (s : List Int) (a1 a2 a3 : Int) (h0 : tk T 0 = (2, [118, 97, 114], 0, 0)) (h1 : tk T 1 = (1, s, 0, 4)) (h2 : tk T 2 = (5, [61], 0, a1)) (h3 : tk T 3 = (3, [], 1, a2)) (h4 : tk T 4 = (5, [59], 0, a3)) (h5 : (tk T 5).1 = 0) (f : Nat) :
    pP T (f + 20) (.prog []) 0 0 = .ok (.mk 1 [] 0 0 [.mk 3 s 0 0 [.mk 14 [] 1 a2 []]]) false 5 := by
  have e0 := isT_w h0 (.inl rfl)
  have e2 := isT_w h2 (.inr rfl)
  have e3 := isT_no h3 (by decide) (by decide)
  have e4 := isT_w h4 (.inr rfl)
  have o4 : ∀ k, isO T 4 (sgl k) = false := by
    intro k
    refine isO_no _ fun s hs => ?_
    rw [e4]
    match k with
    | 0 => revert s; decide
    | 1 => revert s; decide
    | 2 => cases hs
    | 3 => revert s; decide
    | 4 => revert s; decide
    | 5 => revert s; decide
    | k + 6 => cases hs
  have e2' : isT T 2 ⟨#[61]⟩ = true := by rw [e2]; decide
  have e4' : isT T 4 ⟨#[59]⟩ = true := by rw [e4]; decide
  have v0 : isT T 0 ⟨#[123]⟩ = false := by rw [e0]; decide
  have v1 : isT T 0 ⟨#[118, 97, 114]⟩ = true := by rw [e0]; decide
  have c1 : isT T 4 ⟨#[40]⟩ = false := by rw [e4]; decide
  have c2 : isT T 4 ⟨#[91]⟩ = false := by rw [e4]; decide
  have c3 : isT T 4 ⟨#[46]⟩ = false := by rw [e4]; decide
  have k0 : (tk T 0).1 = 2 := by rw [h0]
  have k1 : (tk T 1).1 = 1 := by rw [h1]
  have k3 : (tk T 3).1 = 3 := by rw [h3]
  simp [pP, k0, k1, k3, h0, h1, h3, h5, v0, v1, wantN, want, e2', e3, o4, c1, c2, c3, e4', semi, Res.bind]

/-- What is parsed of it. -/
theorem names_plain (s : List Int) (hs : ∀ c ∈ s, isNm c = true) (hl : s.length ≤ 300) :
    (isName s = true → parA (varT s) = ([(1, 1, [], 0, 0), (3, 1, s, 0, 0), (14, 0, [], 1, ((4 + s.length + 3 : Nat) : Int))], 0, ((varT s).length : Int))) ∧
    (isName s = false → ∃ e a, parA (varT s) = ([], e, a) ∧ (e = 6 ∨ e = 9)) := by
  cases hc0 : s with
  | nil =>
    refine ⟨fun h => by simp [isName] at h, fun _ => ⟨6, 5, by decide +kernel, .inl rfl⟩⟩
  | cons c t =>
    rw [← hc0]
    have hlex := var_lex s hs hl
    have hcm : isNm c = true := hs c (by rw [hc0]; simp)
    have hbl : isBl c = false ∧ c ≠ 35 := by
      simp [isNm, isLt, isDg, isBl] at hcm ⊢
      omega
    -- one token k x n of the whole s
    have one : ∀ (k n : Int) (x : List Int), begn c = true → cut (s ++ [32, 61, 32, 49, 59]) = .tok k x n s.length →
        lexA (varT s) = ([(2, [118, 97, 114], 0, 0), (k, x, n, 4), (5, [61], 0, ((4 + s.length + 1 : Nat) : Int)), (3, [], 1, ((4 + s.length + 3 : Nat) : Int)), (5, [59], 0, ((4 + s.length + 4 : Nat) : Int)), (0, [], 0, ((4 + s.length + 5 : Nat) : Int))], 0, 4 + s.length + 5) := by
      intro k n x hb hcut
      rw [hlex]
      have e : s ++ [32, 61, 32, 49, 59] = c :: (t ++ [32, 61, 32, 49, 59]) := by rw [hc0]; rfl
      rw [e] at hcut ⊢
      rw [lexF_tok hbl.1 hbl.2 hb _ _ _ _ (by simp) hcut, ← e, List.drop_left, rest_lex _ _ _ (by simp)]
      rfl
    have bad : ∀ (e : Int) (off : Nat), begn c = true → cut (s ++ [32, 61, 32, 49, 59]) = .bad e off → e = 6 ∨ e = 9 → ∃ e a, parA (varT s) = ([], e, a) ∧ (e = 6 ∨ e = 9) := by
      intro e off hb hcut he
      have e1 : s ++ [32, 61, 32, 49, 59] = c :: (t ++ [32, 61, 32, 49, 59]) := by rw [hc0]; rfl
      rw [e1] at hcut hlex
      rw [lexF_bad hbl.1 hbl.2 hb _ _ _ _ (by simp) hcut] at hlex
      refine ⟨e, ((4 + off : Nat) : Int), ?_, he⟩
      unfold parA
      rw [hlex]
      simp
      omega
    have notN : ∀ (k n : Int) (x : List Int), k ≠ 1 → begn c = true → cut (s ++ [32, 61, 32, 49, 59]) = .tok k x n s.length → ∃ e a, parA (varT s) = ([], e, a) ∧ (e = 6 ∨ e = 9) := by
      intro k n x hk hb hcut
      refine ⟨6, 4, ?_, .inl rfl⟩
      unfold parA
      rw [one k n x hb hcut]
      simp only [List.length_cons, List.length_nil]
      rw [show 40 * (0 + 1 + 1 + 1 + 1 + 1 + 1 + 1) = 278 + 2 from rfl, var_no _ rfl (by exact hk) rfl]
      simp
    by_cases hd : isDg c = true
    · have hb : begn c = true := by simp [begn, hd]
      have hlt : isLt c = false := by simp [isDg, isLt] at hd ⊢; omega
      have hn0 : isName s = false := by rw [hc0]; simp [isName, hd]
      refine ⟨fun h => (by rw [hn0] at h; cases h), fun _ => ?_⟩
      have hcut : cut (s ++ [32, 61, 32, 49, 59]) = cNum (s ++ [32, 61, 32, 49, 59]) := by
        rw [hc0]
        simp [cut, hlt, hd]
      have htw : twl isDg (s ++ [32, 61, 32, 49, 59]) ≤ s.length := by
        have q := twl_stop (p := isDg) 32 (by decide) [61, 32, 49, 59] s
        omega
      by_cases hfull : twl isDg (s ++ [32, 61, 32, 49, 59]) = s.length
      · cases hq : cut (s ++ [32, 61, 32, 49, 59]) with
        | bad e off => exact bad e off hb hq (cut_bad hq).1
        | tok k x n len =>
          have hq2 := hq
          rw [hcut] at hq2
          unfold cNum at hq2
          split at hq2
          · cases hq2
          · split at hq2
            · cases hq2
            · split at hq2
              · cases hq2
              · injection hq2 with e1 e2 e3 e4
                subst e1 e2 e3 e4
                rw [hfull] at hq
                exact notN 3 _ _ (by decide) hb hq
      · have hlt2 : twl isDg (s ++ [32, 61, 32, 49, 59]) < s.length := by omega
        have hget : (s ++ [32, 61, 32, 49, 59])[twl isDg (s ++ [32, 61, 32, 49, 59])]? = some s[twl isDg (s ++ [32, 61, 32, 49, 59])] := by
          rw [List.getElem?_append_left hlt2, List.getElem?_eq_getElem hlt2]
        have hnd : isDg s[twl isDg (s ++ [32, 61, 32, 49, 59])] = false := by
          cases hq : isDg s[twl isDg (s ++ [32, 61, 32, 49, 59])] with
          | false => rfl
          | true =>
            have := twl_go (p := isDg) (r := s ++ [32, 61, 32, 49, 59]) (Nat.le_refl _) (by simp; omega) (by rw [List.getElem_append_left hlt2]; exact hq)
            omega
        have hle : isLt s[twl isDg (s ++ [32, 61, 32, 49, 59])] = true := by
          have := hs _ (List.getElem_mem hlt2)
          simpa [isNm, hnd] using this
        have hbad : ∃ off, cut (s ++ [32, 61, 32, 49, 59]) = .bad 6 off := by
          rw [hcut]
          unfold cNum
          split
          · exact ⟨1, rfl⟩
          · rw [if_pos (by rw [hget]; simp [hle])]
            exact ⟨_, rfl⟩
        obtain ⟨off, hbad⟩ := hbad
        exact bad 6 off hb hbad (.inl rfl)
    · have hd' : isDg c = false := by simpa using hd
      have hlt : isLt c = true := by simpa [isNm, hd'] using hcm
      have hb : begn c = true := by simp [begn, hlt]
      have hcut : cut (s ++ [32, 61, 32, 49, 59]) = .tok (if isWord s then 2 else 1) s 0 s.length := by
        have e : cut (s ++ [32, 61, 32, 49, 59]) = cName (s ++ [32, 61, 32, 49, 59]) := by
          rw [hc0]
          simp [cut, hlt]
        rw [e]
        unfold cName twl
        rw [twl_name s hs]
      have hall : s.all isNm = true := List.all_eq_true.2 hs
      have hnm : isName s = !isWord s := by
        rw [hc0] at hall ⊢
        simp only [isName, hd', hall]
        simp
      cases hw : isWord s
      · rw [hw] at hcut hnm
        refine ⟨fun _ => ?_, fun h => (by rw [h] at hnm; cases hnm)⟩
        unfold parA
        rw [one 1 0 s hb hcut]
        simp only [List.length_cons, List.length_nil]
        rw [show 40 * (0 + 1 + 1 + 1 + 1 + 1 + 1 + 1) = 260 + 20 from rfl, var_yes _ s _ _ _ rfl rfl rfl rfl rfl rfl]
        simp [Prt.flat, flats]
      · rw [hw] at hcut hnm
        refine ⟨fun h => (by rw [h] at hnm; cases hnm), fun _ => notN 2 0 s (by decide) hb hcut⟩

end Go.Proofs.YtlcieebneclmpaaDoor

