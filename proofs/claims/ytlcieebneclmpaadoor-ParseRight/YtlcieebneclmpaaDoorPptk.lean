/- Programs one behind the other: plain data. -/
import Derived.Test.YtlcieebneclmpaaDoorPwrk
set_option linter.unusedSimpArgs false
set_option linter.unusedVariables false
namespace Go.Proofs.YtlcieebneclmpaaDoor
open Go Go.RowKit

mutual
theorem sh_zero : ∀ x : Prt, x.sh 0 = x
  | .mk k t n a ks => by rw [Prt.sh, shs_zero ks, Int.add_zero]
theorem shs_zero : ∀ l : List Prt, shs 0 l = l
  | [] => rfl
  | p :: r => by rw [shs, sh_zero p, shs_zero r]
end

section
variable {T : List ATok} {N : Nat} (hN : ∀ i, N ≤ i → (tk T i).1 = 0)
include hN

theorem kN_lt {i : Nat} (h : (tk T i).1 ≠ 0) : i < N := by
  apply Classical.byContradiction
  intro hc
  exact h (hN i (by omega))

theorem tN_lt {i : Nat} {s : ByteArray} (h : isT T i s = true) : i < N := by
  apply kN_lt hN
  simp only [isT, Bool.and_eq_true, Bool.or_eq_true, beq_iff_eq] at h
  omega

theorem oN_lt {i : Nat} {l : List ByteArray} (h : isO T i l = true) : i < N := by
  simp only [isO, List.any_eq_true] at h
  obtain ⟨s, _, h⟩ := h
  exact tN_lt hN h

theorem wN {s : ByteArray} {i n : Nat} {k : Nat → Res} (h : i < N → (k (i + 1)).le n) : (want T s i k).le n := by
  unfold want
  split
  · exact h (tN_lt hN (by assumption))
  · trivial

theorem wNN {i n : Nat} {k : Nat → Res} (h : i < N → (k (i + 1)).le n) : (wantN T i k).le n := by
  unfold wantN
  split
  · exact h (kN_lt hN (by omega))
  · trivial

theorem eN {s : ByteArray} {i o n : Nat} {k : Nat → Nat → Res} (h : i < N → (k (i + 1) (o + 1)).le n) : (entr T s i o k).le n := by
  unfold entr
  split
  · split
    · trivial
    · exact h (tN_lt hN (by assumption))
  · trivial

theorem sN {i : Nat} {x : Prt} : (semi T i x).le N := wN hN fun h => h

theorem t1N {i : Nat} {s : ByteArray} (h : (isT T i s && (tk T (i + 1)).1 == 1) = true) : i + 1 < N := by
  simp only [Bool.and_eq_true, beq_iff_eq] at h
  exact kN_lt hN (by omega)

theorem pTN {i : Nat} {s : ByteArray} {p : Bool} (h : (p && isT T i s) = true) : i < N := by
  simp only [Bool.and_eq_true] at h
  exact tN_lt hN h.2

set_option maxHeartbeats 2000000 in
theorem pP_inN : ∀ (f : Nat) (nt : Nt) (i o : Nat), i ≤ N → (pP T f nt i o).le N
  | 0, nt, i, o, _ => by cases nt <;> trivial
  | f + 1, nt, i, o, h => by
    have IH := fun (nt : Nt) (j o : Nat) (h : j ≤ N) => pP_inN f nt j o h
    cases nt with
    | read r n => cases r <;> (simp only [pP]; repeat (first | exact le_here | exact sN hN | (refine wN hN fun hlt => ?_) | (refine wNN hN fun hlt => ?_) | (refine eN hN fun hlt => ?_) | (refine le_ite (fun hp => ?_) fun hp => ?_) | (apply IH; omega) | (refine le_bind (IH _ _ _ (by omega)) fun x c j hj => ?_) | (show _ ≤ _; omega) | (have hlt := tN_lt hN (by assumption); refine le_bind (IH _ _ _ (by omega)) fun x c j hj => ?_) | (have hlt := oN_lt hN (by assumption); refine le_bind (IH _ _ _ (by omega)) fun x c j hj => ?_) | (have hlt := pTN hN (by assumption); refine le_bind (IH _ _ _ (by omega)) fun x c j hj => ?_) | (have hlt := t1N hN (by assumption); apply IH; omega) | (have hlt := tN_lt hN (by assumption); apply IH; omega) | (have hlt := tN_lt hN (by assumption); show _ ≤ _; omega) | (have hlt := kN_lt (i := i) hN (by omega); show _ ≤ _; omega)))
    | _ => (simp only [pP]; repeat (first | exact le_here | exact sN hN | (refine wN hN fun hlt => ?_) | (refine wNN hN fun hlt => ?_) | (refine eN hN fun hlt => ?_) | (refine le_ite (fun hp => ?_) fun hp => ?_) | (apply IH; omega) | (refine le_bind (IH _ _ _ (by omega)) fun x c j hj => ?_) | (show _ ≤ _; omega) | (have hlt := tN_lt hN (by assumption); refine le_bind (IH _ _ _ (by omega)) fun x c j hj => ?_) | (have hlt := oN_lt hN (by assumption); refine le_bind (IH _ _ _ (by omega)) fun x c j hj => ?_) | (have hlt := pTN hN (by assumption); refine le_bind (IH _ _ _ (by omega)) fun x c j hj => ?_) | (have hlt := t1N hN (by assumption); apply IH; omega) | (have hlt := tN_lt hN (by assumption); apply IH; omega) | (have hlt := tN_lt hN (by assumption); show _ ≤ _; omega) | (have hlt := kN_lt (i := i) hN (by omega); show _ ≤ _; omega)))
end

/-- What begins with else is no statement. -/
theorem else_ge (T : List ATok) (M : Nat) : ∀ (f : Nat) (nt : Nt) (i o : Nat), isT T i ⟨#[101, 108, 115, 101]⟩ = true → (match nt with | .lev _ => True | .thing => True | .single => True | _ => False) → (pP T f nt i o).ge M
  | 0, nt, i, o, _, _ => by cases nt <;> trivial
  | f + 1, nt, i, o, h, hn => by
    have IH := fun (nt : Nt) h2 => else_ge T M f nt i o h h2
    have hs : strOfNums (tk T i).2.1 = ⟨#[101, 108, 115, 101]⟩ ∧ ((tk T i).1 = 2 ∨ (tk T i).1 = 5) := by
      simp only [isT, Bool.and_eq_true, Bool.or_eq_true, beq_iff_eq, decide_eq_true_eq] at h
      exact ⟨h.2, h.1⟩
    have no : ∀ c : ByteArray, c ≠ ⟨#[101, 108, 115, 101]⟩ → isT T i c = false := by
      intro c hc
      unfold isT
      rw [hs.1]
      simp [Ne.symm hc]
    have BI : ∀ {r : Res} {k : Prt → Bool → Nat → Res}, (∀ M, r.ge M) → (r.bind k).ge M := by
      intro r k hr
      cases r with
      | ok x c j => exact absurd (show j + 1 ≤ j from hr (j + 1)) (by omega)
      | bad _ _ => trivial
      | out => trivial
    have IHM := fun (nt : Nt) h2 M => else_ge T M f nt i o h h2
    cases nt with
    | lev k =>
      simp only [pP]
      rw [no ⟨#[110, 111, 116]⟩ (by decide), no ⟨#[45]⟩ (by decide), no ⟨#[115, 112, 97, 119, 110]⟩ (by decide)]
      simp only [Bool.false_eq_true, if_false]
      repeat (first | apply ge_ite | (refine IH _ True.intro) | (exact BI (IHM _ True.intro)))
    | thing =>
      simp only [pP]
      exact BI (IHM _ True.intro)
    | single =>
      simp only [pP]
      rw [if_neg (by omega), if_neg (by omega), if_neg (by omega), no ⟨#[116, 114, 117, 101]⟩ (by decide), no ⟨#[102, 97, 108, 115, 101]⟩ (by decide), no ⟨#[110, 105, 108]⟩ (by decide), no ⟨#[91]⟩ (by decide), no ⟨#[123]⟩ (by decide), no ⟨#[102, 110]⟩ (by decide)]
      simp only [Bool.false_eq_true, if_false, entr, no ⟨#[40]⟩ (by decide)]
      exact ge_here
    | _ => exact hn.elim

theorem else_stmt {T : List ATok} {f i o : Nat} {x : Prt} {c : Bool} {j : Nat} (h : isT T i ⟨#[101, 108, 115, 101]⟩ = true) (hp : pP T f .stmt i o = .ok x c j) : False := by
  cases f with
  | zero => simp [pP] at hp
  | succ f =>
    have hs : strOfNums (tk T i).2.1 = ⟨#[101, 108, 115, 101]⟩ := by
      simp only [isT, Bool.and_eq_true, decide_eq_true_eq] at h
      exact h.2
    have no : ∀ c : ByteArray, c ≠ ⟨#[101, 108, 115, 101]⟩ → isT T i c = false := by
      intro c hc
      unfold isT
      rw [hs]
      simp [Ne.symm hc]
    rw [pP, no _ (by decide), no _ (by decide), no _ (by decide), no _ (by decide), no _ (by decide), no _ (by decide), no _ (by decide), no _ (by decide), no _ (by decide), no _ (by decide)] at hp
    simp only [Bool.false_eq_true, if_false, Bool.false_and] at hp
    obtain ⟨y, d, m, hy, _⟩ := bind_ok hp
    have q := else_ge T (m + 1) f (.lev 0) i o h True.intro
    rw [hy] at q
    exact absurd (show m + 1 ≤ m from q) (by omega)

/-- The first part's statements. -/
theorem parts_one {T1 T : List ATok} {n : Nat} (h1 : ∀ i, n ≤ i → (tk T1 i).1 = 0) (h2 : ∀ i, i < n → (tk T1 i).1 ≠ 0) (ht : ∀ i, i < n → tk T i = tk T1 i) (he : isT T n ⟨#[101, 108, 115, 101]⟩ = false) (K : List Prt) (G : Nat) (R : Res) (hG : pP T G (.prog K) n 0 = R) (hR : R ≠ .out) :
    ∀ (f : Nat) (acc : List Prt) (i : Nat) (c : Bool) (j : Nat), i ≤ n → pP T1 f (.prog acc) i 0 = .ok (.mk 1 [] 0 0 K) c j → pP T (f + G) (.prog acc) i 0 = R
  | 0, acc, i, c, j, _, h => by simp [pP] at h
  | f + 1, acc, i, c, j, hi, h => by
    rw [pP] at h
    rcases ite_ok h with ⟨hk, h⟩ | ⟨hk, h⟩
    · have hin : i = n := by
        apply Classical.byContradiction
        intro hc
        exact h2 i (by omega) hk
      subst hin
      injection h with h
      injection h with _ _ _ _ h
      subst h
      rw [pP_mono (f := G) (by omega) (by rw [hG]; exact hR), hG]
    · have hin : i < n := by
        apply Classical.byContradiction
        intro hc
        exact hk (h1 i (by omega))
      obtain ⟨y, d, m, hy, h⟩ := bind_ok h
      have hm : m ≤ n := by
        have q := pP_inN h1 f .stmt i 0 hi
        rw [hy] at q
        exact q
      have ih := parts_one h1 h2 ht he K G R hG hR f (acc ++ [y]) m c j hm h
      have A : Ag T1 T 0 n (n - 1) 0 := by
        refine ⟨?_, by omega, by omega, ⟨?_, by simpa using he⟩, fun hc => by omega⟩
        · intro i I hI hi
          subst hI
          rw [Int.add_zero]
          exact ht _ hi
        · unfold isT
          rw [h1 n (Nat.le_refl _)]
          rfl
      have hs := pP_sim A 0 f .stmt i 0 trivial y d m hy hm
      rcases hs with ⟨hq, _⟩ | hs
      · exact absurd rfl hq
      · have hs' : pP T f .stmt i 0 = .ok y d m := by
          have : pP T f .stmt i 0 = .ok (y.sh 0) d m := hs
          rw [sh_zero] at this
          exact this
        have hs2 := (pP_mono (g := f + G) (by omega) (by rw [hs']; exact nofun)).trans hs'
        rw [show f + 1 + G = (f + G) + 1 by omega, pP, ht i hin, if_neg hk, hs2]
        exact ih

/-- The second part's statements. -/
theorem parts_two {T2 T : List ATok} {n d : Nat} {s : Int} (A : Ag T2 T d n n s) (h1 : ∀ i, n ≤ i → (tk T2 i).1 = 0) (h3 : ∀ i, n + d ≤ i → (tk T i).1 = 0) (L1 K : List Prt) :
    ∀ (f : Nat) (acc : List Prt) (i : Nat) (c : Bool) (j : Nat), i ≤ n → pP T2 f (.prog acc) i 0 = .ok (.mk 1 [] 0 0 K) c j → ∃ c' j', pP T f (.prog (L1 ++ shs s acc)) (i + d) 0 = .ok (.mk 1 [] 0 0 (L1 ++ shs s K)) c' j'
  | 0, acc, i, c, j, _, h => by simp [pP] at h
  | f + 1, acc, i, c, j, hi, h => by
    rw [pP] at h
    have hkk : (tk T (i + d)).1 = (tk T2 i).1 := by
      by_cases hin : i < n
      · rw [A.tok i _ rfl hin]
      · rw [h1 i (by omega), h3 _ (by omega)]
    rcases ite_ok h with ⟨hk, h⟩ | ⟨hk, h⟩
    · injection h with h
      injection h with _ _ _ _ h
      subst h
      rw [pP, if_pos (hkk.trans hk)]
      exact ⟨_, _, rfl⟩
    · obtain ⟨y, dd, m, hy, h⟩ := bind_ok h
      have hm : m ≤ n := by
        have q := pP_inN h1 f .stmt i 0 hi
        rw [hy] at q
        exact q
      obtain ⟨c', j', ih⟩ := parts_two A h1 h3 L1 K f (acc ++ [y]) m c j hm h
      have hs := pP_sim A 0 f .stmt i 0 trivial y dd m hy hm
      rcases hs with ⟨hq, _⟩ | hs
      · exact absurd rfl hq
      · have hs' : pP T f .stmt (i + d) 0 = .ok (y.sh s) dd (m + d) := hs
        refine ⟨c', j', ?_⟩
        rw [pP, if_neg (by rw [hkk]; exact hk), hs']
        rw [shs_append, ← List.append_assoc] at ih
        exact ih

/-- What is parsed of both. -/
theorem parts_plain {a b : List Int} (ha : a.length ≤ 3000) (hb : b.length ≤ 3000) {l m : List ANode} {p1 p2 : Int} (h1 : parA (a ++ [10]) = (l, 0, p1)) (h2 : parA b = (m, 0, p2)) (hl : l ≠ []) (hm : m ≠ []) :
    ∃ (K1 K2 : List Prt) (s : Int) (p : Int), l = (Prt.mk 1 [] 0 0 K1).flat ∧ m = (Prt.mk 1 [] 0 0 K2).flat ∧ parA (a ++ [10] ++ b) = ((Prt.mk 1 [] 0 0 (K1 ++ shs s K2)).flat, 0, ((a ++ [10] ++ b).length : Int)) := by
  unfold parA at h1 h2
  rcases x1 : lexA (a ++ [10]) with ⟨T1, e1, q1⟩
  rcases x2 : lexA b with ⟨T2, e2, q2⟩
  rw [x1] at h1
  rw [x2] at h2
  dsimp only at h1 h2
  by_cases he1 : e1 = 0
  · by_cases he2 : e2 = 0
    · subst he1 he2
      rw [if_neg (by simp)] at h1 h2
      cases y1 : pP T1 (40 * (T1.length + 1)) (.prog []) 0 0 with
      | bad e a => rw [y1] at h1; simp only [Prod.mk.injEq] at h1; exact absurd h1.1.symm hl
      | out => rw [y1] at h1; simp only [Prod.mk.injEq] at h1; exact absurd h1.1.symm hl
      | ok z1 c1 j1 =>
      cases y2 : pP T2 (40 * (T2.length + 1)) (.prog []) 0 0 with
      | bad e a => rw [y2] at h2; simp only [Prod.mk.injEq] at h2; exact absurd h2.1.symm hm
      | out => rw [y2] at h2; simp only [Prod.mk.injEq] at h2; exact absurd h2.1.symm hm
      | ok z2 c2 j2 =>
      rw [y1] at h1
      rw [y2] at h2
      simp only [Prod.mk.injEq] at h1 h2
      obtain ⟨K1, rfl, _⟩ := prog_kids y1
      obtain ⟨K2, rfl, _⟩ := prog_kids y2
      simp only [List.nil_append] at y1 y2 h1 h2
      -- tokens
      have n1 : (a ++ [10]).length = a.length + 1 := by simp
      have x1' : lexF (a.length + 2) (a ++ [10]) 0 [] = (T1, 0, q1) := by
        unfold lexA at x1
        rw [if_neg (by omega), n1] at x1
        exact x1
      have x2' : lexF (b.length + 1) b 0 [] = (T2, 0, q2) := by
        unfold lexA at x2
        rw [if_neg (by omega)] at x2
        exact x2
      have nW : (a ++ [10] ++ b).length = a.length + 1 + b.length := by simp; omega
      obtain ⟨U, hT1, hq1, hcont⟩ := lex_line b (a.length + 2) (a.length + 1 + b.length + 1) a 0 [] T1 q1 (by simp) (by simp; omega) x1'
      have hU : ∀ t ∈ U, t.1 ≠ 0 := lex_kinds (a.length + 2) (a ++ [10]) 0 [] U q1 q1 (by simp) (by simp) (by rw [x1', hT1])
      have hUl : U.length ≤ 3001 := by
        obtain ⟨toks, r1, r2, _⟩ := (lex_res (a.length + 2) (a ++ [10]) 0 [] (by simp)).2.1 (by rw [x1'])
        rw [x1', hT1] at r1
        have := congrArg List.length r1
        simp at this r2
        omega
      obtain ⟨V, hT2, hVl, hq2⟩ := (lex_res (b.length + 1) b 0 [] (by omega)).2.1 (by rw [x2'])
      rw [x2'] at hT2 hq2
      dsimp only at hT2 hq2
      have hsh := lex_shift (a.length + 1) U (b.length + 1) b 0 [] (by simp; omega) (by omega)
      rw [x2'] at hsh
      have hlex : lexA (a ++ [10] ++ b) = (U ++ T2.map (shT (a.length + 1)), 0, q2 + (a.length + 1)) := by
        unfold lexA
        rw [if_neg (by omega), nW]
        have e : a ++ [10] ++ b = a ++ 10 :: b := by simp
        rw [e, hcont]
        refine Eq.trans ?_ (hsh.trans ?_)
        · simp
        · rfl
      generalize hT : U ++ T2.map (shT (a.length + 1)) = T at hlex
      have l1 : T1.length = U.length + 1 := by rw [hT1]; simp
      have l0 : T.length = U.length + T2.length := by rw [← hT]; simp
      have k1 : ∀ i, U.length ≤ i → (tk T1 i).1 = 0 := by
        intro i hi
        rw [hT1, tk_right hi]
        by_cases h0 : i = U.length
        · subst h0; simp [tk]
        · unfold tk
          rw [List.getD_eq_getElem?_getD, List.getElem?_eq_none (by simp; omega)]
          rfl
      have k2 : ∀ i, i < U.length → (tk T1 i).1 ≠ 0 := by
        intro i hi
        rw [hT1, tk_left hi]
        unfold tk
        rw [List.getD_eq_getElem?_getD, List.getElem?_eq_getElem hi]
        exact hU _ (List.getElem_mem hi)
      have k3 : ∀ i, i < U.length → tk T i = tk T1 i := by
        intro i hi
        rw [← hT, tk_left hi, hT1, tk_left hi]
      have k4 : ∀ i, T2.length ≤ i → (tk T2 i).1 = 0 := by
        intro i hi
        unfold tk
        rw [List.getD_eq_getElem?_getD, List.getElem?_eq_none hi]
        rfl
      have k5 : ∀ i, T2.length + U.length ≤ i → (tk T i).1 = 0 := by
        intro i hi
        unfold tk
        rw [List.getD_eq_getElem?_getD, List.getElem?_eq_none (by omega)]
        rfl
      have isF : ∀ (X : List ATok) i (c : ByteArray), (tk X i).1 = 0 → isT X i c = false := by
        intro X i c h
        unfold isT
        rw [h]
        rfl
      have A : Ag T2 T U.length T2.length T2.length ((a.length + 1 : Nat) : Int) := by
        refine ⟨?_, Nat.le_refl _, by omega, ⟨isF _ _ _ (k4 _ (Nat.le_refl _)), isF _ _ _ (k5 _ (Nat.le_refl _))⟩, fun _ c _ => ⟨isF _ _ _ (k4 _ (Nat.le_refl _)), isF _ _ _ (k5 _ (Nat.le_refl _))⟩⟩
        intro i I hI hi
        subst hI
        rw [← hT, tk_right (by omega), Nat.add_sub_cancel, tk_map hi]
        rfl
      have hpos : 0 < T2.length := by rw [hT2]; simp
      have helse : isT T U.length ⟨#[101, 108, 115, 101]⟩ = false := by
        have e0 : isT T U.length ⟨#[101, 108, 115, 101]⟩ = isT T2 0 ⟨#[101, 108, 115, 101]⟩ := A.isT (by omega) hpos _
        rw [e0]
        cases hc : isT T2 0 ⟨#[101, 108, 115, 101]⟩ with
        | false => rfl
        | true =>
          exfalso
          obtain ⟨F, hF⟩ : ∃ F, 40 * (T2.length + 1) = F + 1 := ⟨40 * (T2.length + 1) - 1, by omega⟩
          rw [hF, pP] at y2
          rcases ite_ok y2 with ⟨hk, _⟩ | ⟨_, y2⟩
          · rw [isF _ _ _ hk] at hc
            cases hc
          · obtain ⟨y, d, mm, hy, _⟩ := bind_ok y2
            exact else_stmt hc hy
      obtain ⟨c', j', hB⟩ := parts_two A k4 k5 K1 K2 (40 * (T2.length + 1)) [] 0 c2 j2 (Nat.zero_le _) y2
      rw [Nat.zero_add, shs, List.append_nil] at hB
      have hA := parts_one k1 k2 k3 helse K1 (40 * (T2.length + 1)) _ hB nofun (40 * (T1.length + 1)) [] 0 c1 j1 (Nat.zero_le _) y1
      have hno := pP_no T (40 * (T.length + 1)) (.prog []) 0 0 (Nat.zero_le _) trivial (by simp only [rank]; omega)
      have hfin : pP T (40 * (T.length + 1)) (.prog []) 0 0 = .ok (.mk 1 [] 0 0 (K1 ++ shs ((a.length + 1 : Nat) : Int) K2)) c' j' := by
        rw [← hA]
        refine (pP_mono (by omega) ?_).symm
        intro hc
        rw [hc] at hno
        exact hno
      refine ⟨K1, K2, ((a.length + 1 : Nat) : Int), ((a ++ [10] ++ b).length : Int), h1.1.symm, h2.1.symm, ?_⟩
      unfold parA
      rw [hlex]
      dsimp only
      rw [if_neg (by simp), hfin]
    · rw [if_pos he2] at h2
      simp only [Prod.mk.injEq] at h2
      exact absurd h2.2.1 he2
  · rw [if_pos he1] at h1
    simp only [Prod.mk.injEq] at h1
    exact absurd h1.2.1 he1

end Go.Proofs.YtlcieebneclmpaaDoor
