/- An expression within ( ): plain data. -/
import Derived.Test.YtlcieebneclmpaaDoorPupk
import Derived.Test.YtlcieebneclmpaaDoorPgnk
set_option linter.unusedSimpArgs false
set_option linter.unusedVariables false
namespace Go.Proofs.YtlcieebneclmpaaDoor
open Go Go.RowKit

/-- A node, its place aside. -/
def erN (n : ANode) : ANode := (n.1, n.2.1, n.2.2.1, n.2.2.2.1, 0)

mutual
theorem flat_sh (s : Int) : ∀ x : Prt, (x.sh s).flat.map erN = x.flat.map erN
  | .mk k t n a ks => by
    rw [Prt.sh, Prt.flat, Prt.flat, List.map_cons, List.map_cons, flats_sh s ks, shs_length]
    rfl
theorem flats_sh (s : Int) : ∀ l : List Prt, (flats (shs s l)).map erN = (flats l).map erN
  | [] => rfl
  | p :: r => by
    rw [shs, flats, flats, List.map_append, List.map_append, flat_sh s p, flats_sh s r]
end

def wr1 (b : List Int) : List Int := b ++ [10, 59]
def wr2 (b : List Int) : List Int := [40] ++ b ++ [10, 41, 59]

theorem tk_left {U V : List ATok} {i : Nat} (h : i < U.length) : tk (U ++ V) i = tk U i := by
  unfold tk
  rw [List.getD_eq_getElem?_getD, List.getD_eq_getElem?_getD, List.getElem?_append_left h]

theorem tk_right {U V : List ATok} {i : Nat} (h : U.length ≤ i) : tk (U ++ V) i = tk V (i - U.length) := by
  unfold tk
  rw [List.getD_eq_getElem?_getD, List.getD_eq_getElem?_getD, List.getElem?_append_right h]

theorem tk_map {U : List ATok} {s : Nat} {i : Nat} (h : i < U.length) : tk (U.map (shT s)) i = shT s (tk U i) := by
  unfold tk
  rw [List.getD_eq_getElem?_getD, List.getD_eq_getElem?_getD, List.getElem?_map, List.getElem?_eq_getElem h]
  rfl

/-- Both texts' tokens. -/
theorem wr_lex {b : List Int} (hl : b.length ≤ 3000) {T : List ATok} {m : Nat} (h : lexA (wr1 b) = (T, 0, m)) :
    ∃ U : List ATok, (∀ t ∈ U, t.1 ≠ 0) ∧ U.length ≤ 3001 ∧ T = U ++ [(5, [59], 0, ((b.length + 1 : Nat) : Int)), (0, [], 0, ((b.length + 2 : Nat) : Int))] ∧
      ∃ a1 a2 a3 : Int, ∃ m2, lexA (wr2 b) = ((5, [40], 0, 0) :: (U.map (shT 1) ++ [(5, [41], 0, a1), (5, [59], 0, a2), (0, [], 0, a3)]), 0, m2) := by
  have e1 : (wr1 b).length = b.length + 2 := by simp [wr1]
  have e2 : (wr2 b).length = b.length + 4 := by simp [wr2]
  unfold lexA at h
  rw [if_neg (by omega), e1] at h
  have hb : wr1 b = b ++ 10 :: [59] := rfl
  rw [hb] at h
  have hok : (lexF (b.length + 2) (b ++ [10]) 0 []).2.1 = 0 := by
    apply Classical.byContradiction
    intro hne
    have := lex_line_bad [59] (b.length + 2) (b.length + 2 + 1) b 0 [] (by simp) (by simp) hne
    rw [h] at this
    exact this rfl
  rcases hr : lexF (b.length + 2) (b ++ [10]) 0 [] with ⟨l, e, p⟩
  rw [hr] at hok
  dsimp only at hok
  subst hok
  obtain ⟨U, rfl, hp, hcont⟩ := lex_line [59] (b.length + 2) (b.length + 2 + 1) b 0 [] l p (by simp) (by simp) hr
  have hU : ∀ t ∈ U, t.1 ≠ 0 := lex_kinds (b.length + 2) (b ++ [10]) 0 [] U p p (by simp) (by simp) hr
  have hUl : U.length ≤ 3001 := by
    have q := (lex_res (b.length + 2) (b ++ [10]) 0 [] (by simp)).2.1 (by rw [hr])
    obtain ⟨toks, q1, q2, _⟩ := q
    rw [hr] at q1
    have := congrArg List.length q1
    simp at this q2
    omega
  refine ⟨U, hU, hUl, ?_, ?_⟩
  · rw [hcont] at h
    have hc : cut [59] = .tok 5 [59] 0 1 := by decide +kernel
    have : lexF 2 [59] (0 + b.length + 1) U = (U ++ [(5, [59], 0, ((b.length + 1 : Nat) : Int)), (0, [], 0, ((b.length + 2 : Nat) : Int))], 0, b.length + 2) := by
      rw [lexF_tok (by decide) (by decide) (by decide) _ _ _ _ (by omega) hc]
      show lexF (0 + 1) [] _ _ = _
      rw [lexF_nil]
      simp
      omega
    rw [show ([59] : List Int).length + 1 = 2 from rfl, this] at h
    simp only [Prod.mk.injEq] at h
    exact h.1.symm
  · have hcont2 := (lex_line [41, 59] (b.length + 2) (b.length + 4) b 0 [] _ p (by simp) (by simp) hr)
    obtain ⟨U2, hU2, _, hcont2⟩ := hcont2
    obtain ⟨rfl, _⟩ := List.append_inj' hU2 rfl
    have h3 : lexF 3 [41, 59] (0 + b.length + 1) U = (U ++ [(5, [41], 0, ((b.length + 1 : Nat) : Int)), (5, [59], 0, ((b.length + 2 : Nat) : Int)), (0, [], 0, ((b.length + 3 : Nat) : Int))], 0, b.length + 3) := by
      rw [lexF_tok (by decide) (by decide) (by decide) _ _ _ _ (by omega) (show cut [41, 59] = .tok 5 [41] 0 1 by decide +kernel)]
      show lexF 2 [59] _ _ = _
      rw [lexF_tok (by decide) (by decide) (by decide) _ _ _ _ (by simp; omega) (show cut [59] = .tok 5 [59] 0 1 by decide +kernel)]
      show lexF (0 + 1) [] _ _ = _
      rw [lexF_nil]
      simp
      omega
    have hc : cut (40 :: (b ++ 10 :: [41, 59])) = .tok 5 [40] 0 1 := by
      simp [cut, isLt, isDg, cSign, sg1]
    have hs := lex_shift 1 [(5, [40], 0, 0)] (b.length + 4) (b ++ 10 :: [41, 59]) 0 [] (by simp; omega) (by simp)
    rw [hcont2, show ([41, 59] : List Int).length + 1 = 3 from rfl, h3] at hs
    refine ⟨((b.length + 2 : Nat) : Int), ((b.length + 3 : Nat) : Int), ((b.length + 4 : Nat) : Int), b.length + 3 + 1, ?_⟩
    unfold lexA
    rw [if_neg (by omega), e2]
    show lexF (b.length + 4 + 1) (40 :: (b ++ 10 :: [41, 59])) 0 [] = _
    rw [lexF_tok (by decide) (by decide) (by decide) _ _ _ _ (by simp) hc]
    refine Eq.trans ?_ (hs.trans ?_)
    · rfl
    · simp [shR, shT]
      omega

theorem sgl_no {T : List ATok} {i : Nat} {n a : Int} (h : tk T i = (5, [59], n, a)) : ∀ k, isO T i (sgl k) = false := by
  intro k
  have e := isT_w h (.inr rfl)
  refine isO_no _ fun s hs => ?_
  rw [e]
  match k with
  | 0 => revert s; decide
  | 1 => revert s; decide
  | 2 => cases hs
  | 3 => revert s; decide
  | 4 => revert s; decide
  | 5 => revert s; decide
  | k + 6 => cases hs

set_option maxHeartbeats 2000000 in
theorem wr_yes (T : List ATok) (x : Prt) (c : Bool) (m f : Nat) (a1 a2 : Int) (h0 : tk T 0 = (5, [40], 0, 0)) (hi : pP T f (.lev 0) 1 1 = .ok x c m) (h1 : tk T m = (5, [41], 0, a1)) (h2 : tk T (m + 1) = (5, [59], 0, a2)) (h3 : (tk T (m + 2)).1 = 0) :
    pP T (f + 11) (.prog []) 0 0 = .ok (.mk 1 [] 0 0 [.mk 13 [] 0 x.at_ [x]]) false (m + 2) := by
  have e0 := isT_w h0 (.inr rfl)
  have e1 := isT_w h1 (.inr rfl)
  have e2 := isT_w h2 (.inr rfl)
  have o2 := sgl_no h2
  have k0 : (tk T 0).1 = 5 := by rw [h0]
  have z : ∀ s : ByteArray, s ≠ ⟨#[40]⟩ → isT T 0 s = false := fun s hs => by
    rw [e0]
    exact decide_eq_false (fun h => hs h.symm)
  have y0 : isT T 0 ⟨#[40]⟩ = true := by rw [e0]; decide
  have y1 : isT T m ⟨#[41]⟩ = true := by rw [e1]; decide
  have y2 : isT T (m + 1) ⟨#[59]⟩ = true := by rw [e2]; decide
  have n1 : isT T (m + 1) ⟨#[40]⟩ = false := by rw [e2]; decide
  have n2 : isT T (m + 1) ⟨#[91]⟩ = false := by rw [e2]; decide
  have n3 : isT T (m + 1) ⟨#[46]⟩ = false := by rw [e2]; decide
  have n4 : isT T (m + 1) ⟨#[61]⟩ = false := by rw [e2]; decide
  have s1 : pP T (f + 1) .single 0 0 = .ok x false (m + 1) := by
    simp only [pP]
    rw [k0, if_neg (by decide), if_neg (by decide), if_neg (by decide), z _ (by decide), z _ (by decide), z _ (by decide), z _ (by decide), z _ (by decide), z _ (by decide)]
    simp only [Bool.false_eq_true, if_false, entr, y0, if_true, hi, Res.bind, want, y1, Nat.zero_add]
    simp
  have s2 : pP T (f + 2) .thing 0 0 = .ok x false (m + 1) := by
    rw [pP, s1]
    simp [Res.bind, pP, n1, n2, n3]
  have s3 : pP T (f + 3) (.lev 6) 0 0 = .ok x false (m + 1) := by
    rw [pP, z _ (by decide), s2]
    simp [Res.bind, z ⟨#[115, 112, 97, 119, 110]⟩ (by decide), z ⟨#[45]⟩ (by decide)]
  have s4 : pP T (f + 4) (.lev 5) 0 0 = .ok x false (m + 1) := by
    rw [pP, s3]
    simp [Res.bind, pP, o2]
  have s5 : pP T (f + 5) (.lev 4) 0 0 = .ok x false (m + 1) := by
    rw [pP, s4]
    simp [Res.bind, pP, o2]
  have s6 : pP T (f + 6) (.lev 3) 0 0 = .ok x false (m + 1) := by
    rw [pP, s5]
    simp [Res.bind, o2]
  have s7 : pP T (f + 7) (.lev 2) 0 0 = .ok x false (m + 1) := by
    rw [pP, z _ (by decide), s6]
    simp
  have s8 : pP T (f + 8) (.lev 1) 0 0 = .ok x false (m + 1) := by
    rw [pP, s7]
    simp [Res.bind, pP, o2]
  have s9 : pP T (f + 9) (.lev 0) 0 0 = .ok x false (m + 1) := by
    rw [pP, s8]
    simp [Res.bind, pP, o2]
  have s10 : pP T (f + 10) .stmt 0 0 = .ok (.mk 13 [] 0 x.at_ [x]) false (m + 2) := by
    rw [pP, z _ (by decide), z _ (by decide), z _ (by decide), z _ (by decide), z _ (by decide), z _ (by decide), z _ (by decide), z _ (by decide), z _ (by decide), z _ (by decide), s9]
    simp [Res.bind, n4, semi, want, y2]
  rw [pP, k0, if_neg (by decide), s10]
  simp [Res.bind, pP, h3]

set_option maxHeartbeats 2000000 in
theorem wr_bad (T : List ATok) (f : Nat) (a : Int) (h0 : tk T 0 = (5, [40], 0, 0)) (hi : pP T f (.lev 0) 1 1 = .bad 3 a) :
    pP T (f + 11) (.prog []) 0 0 = .bad 3 a := by
  have e0 := isT_w h0 (.inr rfl)
  have k0 : (tk T 0).1 = 5 := by rw [h0]
  have z : ∀ s : ByteArray, s ≠ ⟨#[40]⟩ → isT T 0 s = false := fun s hs => by
    rw [e0]
    exact decide_eq_false (fun h => hs h.symm)
  have y0 : isT T 0 ⟨#[40]⟩ = true := by rw [e0]; decide
  have s1 : pP T (f + 1) .single 0 0 = .bad 3 a := by
    simp only [pP]
    rw [k0, if_neg (by decide), if_neg (by decide), if_neg (by decide), z _ (by decide), z _ (by decide), z _ (by decide), z _ (by decide), z _ (by decide), z _ (by decide)]
    simp only [Bool.false_eq_true, if_false, entr, y0, if_true, hi, Res.bind, Nat.zero_add]
    simp
  have s2 : pP T (f + 2) .thing 0 0 = .bad 3 a := by rw [pP, s1]; rfl
  have s3 : pP T (f + 3) (.lev 6) 0 0 = .bad 3 a := by
    rw [pP, z _ (by decide), s2]
    simp [Res.bind, z ⟨#[115, 112, 97, 119, 110]⟩ (by decide), z ⟨#[45]⟩ (by decide)]
  have s4 : pP T (f + 4) (.lev 5) 0 0 = .bad 3 a := by rw [pP, s3]; rfl
  have s5 : pP T (f + 5) (.lev 4) 0 0 = .bad 3 a := by rw [pP, s4]; rfl
  have s6 : pP T (f + 6) (.lev 3) 0 0 = .bad 3 a := by rw [pP, s5]; rfl
  have s7 : pP T (f + 7) (.lev 2) 0 0 = .bad 3 a := by
    rw [pP, z _ (by decide), s6]
    simp
  have s8 : pP T (f + 8) (.lev 1) 0 0 = .bad 3 a := by rw [pP, s7]; rfl
  have s9 : pP T (f + 9) (.lev 0) 0 0 = .bad 3 a := by rw [pP, s8]; rfl
  have s10 : pP T (f + 10) .stmt 0 0 = .bad 3 a := by
    rw [pP, z _ (by decide), z _ (by decide), z _ (by decide), z _ (by decide), z _ (by decide), z _ (by decide), z _ (by decide), z _ (by decide), z _ (by decide), z _ (by decide), s9]
    simp [Res.bind]
  rw [pP, k0, if_neg (by decide), s10]
  rfl

/-- What is parsed of both. -/
theorem wraps_plain {b : List Int} (hl : b.length ≤ 3000) {l rest : List ANode} {n0 n1 : ANode} {at_ : Int} (h : parA (wr1 b) = (l, 0, at_)) (hr : l = n0 :: n1 :: rest) (hN : n0.2.1 = 1) (hk : n1.1 = 13) :
    (∃ m a, parA (wr2 b) = (m, 0, a) ∧ m.map erN = l.map erN) ∨ (∃ a, parA (wr2 b) = ([], 3, a)) := by
  rcases hx : lexA (wr1 b) with ⟨T, e, mm⟩
  unfold parA at h
  rw [hx] at h
  dsimp only at h
  by_cases he : e = 0
  · subst he
    rw [if_neg (by simp)] at h
    obtain ⟨U, hU, hUl, hT, a1, a2, a3, m2, hx2⟩ := wr_lex hl hx
    have hTl : T.length = U.length + 2 := by rw [hT]; simp
    cases hp : pP T (40 * (T.length + 1)) (.prog []) 0 0 with
    | bad e a => rw [hp] at h; simp only [Prod.mk.injEq] at h; rw [hr] at h; cases h.1
    | out => rw [hp] at h; simp only [Prod.mk.injEq] at h; rw [hr] at h; cases h.1
    | ok x c j =>
      rw [hp] at h
      simp only [Prod.mk.injEq] at h
      obtain ⟨hfl, _, _⟩ := h
      obtain ⟨F, hF⟩ : ∃ F, 40 * (T.length + 1) = F + 2 := ⟨40 * (T.length + 1) - 2, by omega⟩
      rw [hF, pP] at hp
      rcases ite_ok hp with ⟨_, hp⟩ | ⟨_, hp⟩
      · cases hp
        rw [hr] at hfl
        simp [Prt.flat, flats] at hfl
      · obtain ⟨y, d, j1, hy, hp⟩ := bind_ok hp
        obtain ⟨more, ex, hkj⟩ := prog_kids hp
        subst ex
        have hmore : more = [] := by
          rw [hr] at hfl
          simp only [Prt.flat, List.cons.injEq] at hfl
          have := congrArg (fun z : ANode => z.2.1) hfl.1
          simp only at this
          rw [hN] at this
          cases more with
          | nil => rfl
          | cons _ _ => simp at this; omega
        subst hmore
        have hky : y.kind = 13 := by
          rw [hr] at hfl
          obtain ⟨yk, yt, yn, ya, yks⟩ := y
          simp only [Prt.flat, flats, List.nil_append, List.append_nil, List.cons.injEq] at hfl
          have := congrArg (fun z : ANode => z.1) hfl.2.1
          simp only at this
          rw [← hk]
          exact this
        obtain ⟨z, dz, mz, hz, rfl, rfl, hsemi⟩ := stmt_expr hy hky
        -- where the statement ends
        have hend : ∀ i, (tk T i).1 = 0 → U.length + 1 ≤ i := by
          intro i hi
          apply Classical.byContradiction
          intro hlt
          by_cases h1 : i < U.length
          · rw [hT, tk_left h1] at hi
            have hm : tk U i ∈ U := by
              unfold tk
              rw [List.getD_eq_getElem?_getD, List.getElem?_eq_getElem h1]
              exact List.getElem_mem h1
            exact hU _ hm hi
          · have : i = U.length := by omega
            subst this
            rw [hT, tk_right (Nat.le_refl _), Nat.sub_self] at hi
            simp [tk] at hi
        have hprog : j = mz + 1 ∧ (tk T (mz + 1)).1 = 0 := by
          rw [List.nil_append] at hp
          rw [pP] at hp
          rcases ite_ok hp with ⟨hk0, hp⟩ | ⟨_, hp⟩
          · cases hp
            exact ⟨rfl, hk0⟩
          · obtain ⟨y2, d2, j2, _, hp⟩ := bind_ok hp
            obtain ⟨more2, ex2, _⟩ := prog_kids hp
            simp at ex2
        have hmz : mz = U.length := by
          have h1 := hend _ hprog.2
          have h2 : mz < T.length := isT_lt hsemi
          have h3 : mz ≠ U.length + 1 := by
            intro hc
            rw [hc] at hsemi
            unfold isT at hsemi
            rw [hT, tk_right (by omega), show U.length + 1 - U.length = 1 by omega] at hsemi
            simp [tk] at hsemi
          omega
        subst hmz
        generalize hT2 : ((5, [40], 0, 0) :: (U.map (shT 1) ++ [(5, [41], 0, a1), (5, [59], 0, a2), (0, [], 0, a3)]) : List ATok) = T2 at hx2
        have hT2l : T2.length = U.length + 4 := by rw [← hT2]; simp
        have t0 : tk T2 0 = (5, [40], 0, 0) := by rw [← hT2]; rfl
        have tr : ∀ i, tk T2 (i + 1) = tk (U.map (shT 1) ++ [(5, [41], 0, a1), (5, [59], 0, a2), (0, [], 0, a3)]) i := by
          intro i
          rw [← hT2]
          simp [tk]
        have t1 : tk T2 (U.length + 1) = (5, [41], 0, a1) := by
          rw [tr, tk_right (by simp)]
          simp [tk]
        have t2 : tk T2 (U.length + 1 + 1) = (5, [59], 0, a2) := by
          rw [tr, tk_right (by simp)]
          simp [tk]
        have t3 : (tk T2 (U.length + 1 + 2)).1 = 0 := by
          rw [show U.length + 1 + 2 = (U.length + 2) + 1 by omega, tr, tk_right (by simp)]
          simp [tk]
        have tU : tk T U.length = (5, [59], 0, ((b.length + 1 : Nat) : Int)) := by
          rw [hT, tk_right (Nat.le_refl _), Nat.sub_self]
          rfl
        have AG : Ag T T2 1 U.length U.length 1 := by
          refine ⟨?_, Nat.le_refl _, by omega, ?_, ?_⟩
          · intro i I hI hi
            subst hI
            rw [tr, tk_left (by simpa using hi), tk_map hi, hT, tk_left hi]
            rfl
          · rw [isT_w tU (.inr rfl), isT_w t1 (.inr rfl)]
            decide
          · intro _ cc hcc
            rw [isT_w tU (.inr rfl), isT_w t1 (.inr rfl)]
            revert cc
            decide
        have hsim := pP_sim AG 1 F (.lev 0) 0 0 (by simp [okN]) z dz U.length hz (Nat.le_refl _)
        have hF2 : 40 * (T2.length + 1) = (40 * (T2.length + 1) - 11) + 11 := by omega
        unfold parA
        rw [hx2]
        dsimp only
        rw [if_neg (by simp), hF2]
        rcases hsim with ⟨_, a, hs⟩ | hs
        · have hs2 : pP T2 F (.lev 0) 1 1 = .bad 3 a := hs
          have hs3 := pP_mono (g := 40 * (T2.length + 1) - 11) (by omega) (by rw [hs2]; exact nofun) |>.trans hs2
          rw [wr_bad T2 _ a t0 hs3]
          exact .inr ⟨a, rfl⟩
        · have hs2 : pP T2 F (.lev 0) 1 1 = .ok (z.sh 1) dz (U.length + 1) := hs
          have hs3 := pP_mono (g := 40 * (T2.length + 1) - 11) (by omega) (by rw [hs2]; exact nofun) |>.trans hs2
          rw [wr_yes T2 (z.sh 1) dz (U.length + 1) _ a1 a2 t0 hs3 t1 t2 t3]
          refine .inl ⟨_, _, rfl, ?_⟩
          rw [← hfl]
          simp only [Prt.flat, flats, List.nil_append, List.append_nil, List.map_cons, List.map_append, flat_sh]
          rfl
  · rw [if_pos he] at h
    simp only [Prod.mk.injEq] at h
    exact absurd h.2.1 he

end Go.Proofs.YtlcieebneclmpaaDoor
