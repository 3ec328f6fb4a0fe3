/- Programs with so many slots: the text, its tokens, its nodes. Plain data. · Programs with so many slots: what the document's parser makes of the text. Plain data. -/
import Derived.Test.YtdhkcdehedbpcaaDoorM35
set_option linter.unusedSimpArgs false
set_option linter.unusedVariables false
namespace Go.Proofs.YtdhkcdehedbpcaaDoor
open Go Go.RowKit

/-- A declaration's text, its tokens from a place on, its nodes. -/
def bS (x y : Int) : List Int := [32, 118, 97, 114, 32, 122, 113, x, y, 32, 61, 32, 49, 59]
def bK (x y : Int) (a : Nat) : List ATok := [(2, [118, 97, 114], 0, ((a + 1 : Nat) : Int)), (1, [122, 113, x, y], 0, ((a + 5 : Nat) : Int)), (5, [61], 0, ((a + 10 : Nat) : Int)), (3, [], 1, ((a + 12 : Nat) : Int)), (5, [59], 0, ((a + 13 : Nat) : Int))]
def bX (i : Nat) : Int := ((97 + i % 26 : Nat) : Int)
def bY (i : Nat) : Int := ((97 + i / 26 : Nat) : Int)
def bN (i : Nat) : List ANode := [(3, 1, [122, 113, bX i, bY i], 0, ((8 + 14 * i + 1 : Nat) : Int)), (14, 0, [], 1, ((8 + 14 * i + 12 : Nat) : Int))]
/-- From one on, so many. -/
def bSs : Nat → Nat → List Int
  | _, 0 => []
  | i, n + 1 => bS (bX i) (bY i) ++ bSs (i + 1) n
def bKs : Nat → Nat → List ATok
  | _, 0 => []
  | i, n + 1 => bK (bX i) (bY i) (8 + 14 * i) ++ bKs (i + 1) n
def bNs : Nat → Nat → List ANode
  | _, 0 => []
  | i, n + 1 => bN i ++ bNs (i + 1) n
def bT (n : Nat) : List Int := [102, 110, 32, 102, 40, 41, 32, 123] ++ (bSs 0 n ++ [32, 125])
def bTk (n : Nat) : List ATok := [(2, [102, 110], 0, 0), (1, [102], 0, 3), (5, [40], 0, 4), (5, [41], 0, 5), (5, [123], 0, 7)] ++ (bKs 0 n ++ [(5, [125], 0, ((8 + 14 * n + 1 : Nat) : Int)), (0, [], 0, ((8 + 14 * n + 2 : Nat) : Int))])
def bL (n : Nat) : List ANode := (12, 1, [102], 0, 0) :: (2, (n : Int), [], 0, 7) :: bNs 0 n

theorem bSs_len : ∀ (n i : Nat), (bSs i n).length = 14 * n
  | 0, _ => rfl
  | n + 1, i => by simp [bSs, bS, bSs_len n]; omega
theorem bKs_len : ∀ (n i : Nat), (bKs i n).length = 5 * n
  | 0, _ => rfl
  | n + 1, i => by simp [bKs, bK, bKs_len n]; omega
theorem bNs_len : ∀ (n i : Nat), (bNs i n).length = 2 * n
  | 0, _ => rfl
  | n + 1, i => by simp [bNs, bN, bNs_len n]; omega
theorem bT_len (n : Nat) : (bT n).length = 14 * n + 10 := by simp [bT, bSs_len]
theorem bX_rng (i : Nat) : 97 ≤ bX i ∧ bX i ≤ 122 := by unfold bX; have := Nat.mod_lt i (show 0 < 26 by decide); omega
theorem bY_rng {i : Nat} (h : i < 300) : 97 ≤ bY i ∧ bY i ≤ 122 := by unfold bY; have := Nat.div_lt_of_lt_mul (show i < 26 * 12 by omega); omega

theorem lt_of_rng {x : Int} (h : 97 ≤ x ∧ x ≤ 122) : isLt x = true ∧ isNm x = true := by
  unfold isNm isLt; simp [h.1, h.2]

set_option maxRecDepth 20000 in
set_option maxHeartbeats 2000000 in
theorem lex_decl (x y : Int) (hx : 97 ≤ x ∧ x ≤ 122) (hy : 97 ≤ y ∧ y ≤ 122) (f : Nat) (r : List Int) (a : Nat) (acc : List ATok) (hl : acc.length + 5 ≤ 16384) :
    lexF (f + 9) (bS x y ++ r) a acc = lexF f r (a + 14) (acc ++ bK x y a) := by
  obtain ⟨hx1, hx2⟩ := lt_of_rng hx
  obtain ⟨hy1, hy2⟩ := lt_of_rng hy
  have n0 : ¬ acc.length = 16384 := by omega
  have n1 : ¬ acc.length + 1 = 16384 := by omega
  have n2 : ¬ acc.length + 1 + 1 = 16384 := by omega
  have n3 : ¬ acc.length + 1 + 1 + 1 = 16384 := by omega
  have n4 : ¬ acc.length + 1 + 1 + 1 + 1 = 16384 := by omega
  have b32 : isBl 32 = true := by decide
  have b118 : isBl 118 = false := by decide
  have b122 : isBl 122 = false := by decide
  have b61 : isBl 61 = false := by decide
  have b49 : isBl 49 = false := by decide
  have b59 : isBl 59 = false := by decide
  have g118 : begn 118 = true := by decide
  have g122 : begn 122 = true := by decide
  have g61 : begn 61 = true := by decide
  have g49 : begn 49 = true := by decide
  have g59 : begn 59 = true := by decide
  have c1 : ∀ r, cut (118 :: 97 :: 114 :: 32 :: r) = .tok 2 [118, 97, 114] 0 3 := fun r => by
    have e : (118 :: 97 :: 114 :: 32 :: r : List Int).takeWhile isNm = [118, 97, 114] := by
      simp [List.takeWhile, show isNm 118 = true by decide, show isNm 97 = true by decide, show isNm 114 = true by decide, show isNm 32 = false by decide]
    unfold cut
    dsimp only
    rw [if_pos (show isLt 118 = true by decide)]
    unfold cName twl
    rw [e]
    rfl
  have c2 : ∀ r, cut (122 :: 113 :: x :: y :: 32 :: r) = .tok 1 [122, 113, x, y] 0 4 := fun r => by
    have e : (122 :: 113 :: x :: y :: 32 :: r : List Int).takeWhile isNm = [122, 113, x, y] := by
      simp [List.takeWhile, show isNm 122 = true by decide, show isNm 113 = true by decide, hx2, hy2, show isNm 32 = false by decide]
    unfold cut
    dsimp only
    rw [if_pos (show isLt 122 = true by decide)]
    unfold cName twl
    rw [e]
    have : isWord [122, 113, x, y] = false := by simp [isWord, words]
    rw [this]
    rfl
  have c3 : ∀ r, cut (61 :: 32 :: r) = .tok 5 [61] 0 1 := fun r => by
    unfold cut
    dsimp only
    rw [if_neg (show ¬ isLt 61 = true by decide), if_neg (show ¬ isDg 61 = true by decide), if_neg (by decide)]
    unfold cSign
    simp [sg1]
  have c4 : ∀ r, cut (49 :: 59 :: r) = .tok 3 [] 1 1 := fun r => by
    have e : (49 :: 59 :: r : List Int).takeWhile isDg = [49] := by
      simp [List.takeWhile, show isDg 49 = true by decide, show isDg 59 = false by decide]
    unfold cut
    dsimp only
    rw [if_neg (show ¬ isLt 49 = true by decide), if_pos (show isDg 49 = true by decide)]
    unfold cNum twl
    rw [e]
    simp [show isLt 59 = false by decide]
    decide
  have c5 : ∀ r, cut (59 :: r) = .tok 5 [59] 0 1 := fun r => by
    unfold cut
    dsimp only
    rw [if_neg (show ¬ isLt 59 = true by decide), if_neg (show ¬ isDg 59 = true by decide), if_neg (by decide)]
    unfold cSign
    simp [sg1]
  simp only [bS, List.cons_append, List.nil_append]
  rw [lexF]; simp only [b32, if_true]
  rw [lexF]; simp only [b118, g118, n0, c1, if_false, Bool.false_eq_true, reduceCtorEq, show ¬ ((118 : Int) = 35) by decide, List.drop_succ_cons, List.drop_zero]
  rw [lexF]; simp only [b32, if_true]
  rw [lexF]; simp only [b122, g122, n1, c2, if_false, Bool.false_eq_true, reduceCtorEq, show ¬ ((122 : Int) = 35) by decide, List.drop_succ_cons, List.drop_zero, List.length_append, List.length_cons, List.length_nil, Nat.zero_add]
  rw [lexF]; simp only [b32, if_true]
  rw [lexF]; simp only [b61, g61, n2, c3, if_false, Bool.false_eq_true, reduceCtorEq, show ¬ ((61 : Int) = 35) by decide, List.drop_succ_cons, List.drop_zero, List.length_append, List.length_cons, List.length_nil, Nat.zero_add]
  rw [lexF]; simp only [b32, if_true]
  rw [lexF]; simp only [b49, g49, n3, c4, if_false, Bool.false_eq_true, reduceCtorEq, show ¬ ((49 : Int) = 35) by decide, List.drop_succ_cons, List.drop_zero, List.length_append, List.length_cons, List.length_nil, Nat.zero_add]
  rw [lexF]; simp only [b59, g59, n4, c5, if_false, Bool.false_eq_true, reduceCtorEq, show ¬ ((59 : Int) = 35) by decide, List.drop_succ_cons, List.drop_zero, List.length_append, List.length_cons, List.length_nil, Nat.zero_add]
  simp only [List.append_assoc, List.cons_append, List.nil_append, bK, Nat.add_assoc, Nat.reduceAdd]

theorem lex_decls : ∀ (n i f : Nat) (r : List Int) (acc : List ATok), i + n ≤ 300 → acc.length + 5 * n ≤ 16384 → lexF (f + 9 * n) (bSs i n ++ r) (8 + 14 * i) acc = lexF f r (8 + 14 * (i + n)) (acc ++ bKs i n)
  | 0, i, f, r, acc, _, _ => by simp [bSs, bKs]
  | n + 1, i, f, r, acc, hi, hl => by
    have e : f + 9 * (n + 1) = (f + 9 * n) + 9 := by omega
    rw [bSs, bKs, List.append_assoc, e, lex_decl _ _ (bX_rng i) (bY_rng (by omega)) _ _ _ _ (by omega)]
    have := lex_decls n (i + 1) f r (acc ++ bK (bX i) (bY i) (8 + 14 * i)) (by omega) (by simp [bK]; omega)
    rw [show 8 + 14 * i + 14 = 8 + 14 * (i + 1) by omega, this, List.append_assoc, show i + 1 + n = i + (n + 1) by omega]

set_option maxRecDepth 20000 in
theorem lex_all (n : Nat) (hn : n ≤ 260) : lexA (bT n) = (bTk n, 0, 14 * n + 10) := by
  unfold lexA
  rw [if_neg (by rw [bT_len]; omega), bT_len]
  have h1 : ∀ (f : Nat) (r : List Int), lexF (f + 7) ([102, 110, 32, 102, 40, 41, 32, 123] ++ r) 0 [] = lexF f r 8 [(2, [102, 110], 0, 0), (1, [102], 0, 3), (5, [40], 0, 4), (5, [41], 0, 5), (5, [123], 0, 7)] := fun f r => by
    have c1 : ∀ r, cut (102 :: 110 :: 32 :: r) = .tok 2 [102, 110] 0 2 := fun r => by
      have e : (102 :: 110 :: 32 :: r : List Int).takeWhile isNm = [102, 110] := by
        simp [List.takeWhile, show isNm 102 = true by decide, show isNm 110 = true by decide, show isNm 32 = false by decide]
      unfold cut
      dsimp only
      rw [if_pos (show isLt 102 = true by decide)]
      unfold cName twl
      rw [e]
      rfl
    have c2 : ∀ r, cut (102 :: 40 :: r) = .tok 1 [102] 0 1 := fun r => by
      have e : (102 :: 40 :: r : List Int).takeWhile isNm = [102] := by
        simp [List.takeWhile, show isNm 102 = true by decide, show isNm 40 = false by decide]
      unfold cut
      dsimp only
      rw [if_pos (show isLt 102 = true by decide)]
      unfold cName twl
      rw [e]
      rfl
    have c3 : ∀ r, cut (40 :: r) = .tok 5 [40] 0 1 := fun r => by
      unfold cut
      dsimp only
      rw [if_neg (show ¬ isLt 40 = true by decide), if_neg (show ¬ isDg 40 = true by decide), if_neg (by decide)]
      unfold cSign
      simp [sg1]
    have c4 : ∀ r, cut (41 :: r) = .tok 5 [41] 0 1 := fun r => by
      unfold cut
      dsimp only
      rw [if_neg (show ¬ isLt 41 = true by decide), if_neg (show ¬ isDg 41 = true by decide), if_neg (by decide)]
      unfold cSign
      simp [sg1]
    have c5 : ∀ r, cut (123 :: r) = .tok 5 [123] 0 1 := fun r => by
      unfold cut
      dsimp only
      rw [if_neg (show ¬ isLt 123 = true by decide), if_neg (show ¬ isDg 123 = true by decide), if_neg (by decide)]
      unfold cSign
      simp [sg1]
    simp only [List.cons_append, List.nil_append]
    rw [lexF]; simp [show isBl 102 = false by decide, show begn 102 = true by decide, c1]
    rw [lexF]; simp [show isBl 32 = true by decide]
    rw [lexF]; simp [show isBl 102 = false by decide, show begn 102 = true by decide, c2]
    rw [lexF]; simp [show isBl 40 = false by decide, show begn 40 = true by decide, c3]
    rw [lexF]; simp [show isBl 41 = false by decide, show begn 41 = true by decide, c4]
    rw [lexF]; simp [show isBl 32 = true by decide]
    rw [lexF]; simp [show isBl 123 = false by decide, show begn 123 = true by decide, c5]
  have h2 : ∀ (f a : Nat) (acc : List ATok), acc.length ≤ 16000 → lexF (f + 3) [32, 125] a acc = (acc ++ [(5, [125], 0, ((a + 1 : Nat) : Int)), (0, [], 0, ((a + 2 : Nat) : Int))], 0, a + 2) := fun f a acc ha => by
    have c5 : ∀ r, cut (125 :: r) = .tok 5 [125] 0 1 := fun r => by
      unfold cut
      dsimp only
      rw [if_neg (show ¬ isLt 125 = true by decide), if_neg (show ¬ isDg 125 = true by decide), if_neg (by decide)]
      unfold cSign
      simp [sg1]
    have n0 : ¬ acc.length = 16384 := by omega
    rw [lexF]; simp [show isBl 32 = true by decide]
    rw [lexF]; simp [show isBl 125 = false by decide, show begn 125 = true by decide, c5, n0]
    rw [lexF]; simp
    omega
  unfold bT
  rw [show 14 * n + 10 + 1 = (14 * n + 4) + 7 by omega, h1, show 14 * n + 4 = (5 * n + 4) + 9 * n by omega]
  have h3 := lex_decls n 0 (5 * n + 4) [32, 125] [(2, [102, 110], 0, 0), (1, [102], 0, 3), (5, [40], 0, 4), (5, [41], 0, 5), (5, [123], 0, 7)] (by omega) (by simp; omega)
  rw [show 8 + 14 * 0 = 8 from rfl] at h3
  rw [h3, show 5 * n + 4 = (5 * n + 1) + 3 by omega, h2 _ _ _ (by simp [bKs_len]; omega)]
  unfold bTk
  simp
  omega
end Go.Proofs.YtdhkcdehedbpcaaDoor

set_option linter.unusedSimpArgs false
set_option linter.unusedVariables false
namespace Go.Proofs.YtdhkcdehedbpcaaDoor
open Go Go.RowKit

theorem dIs_no {T : List ATok} {i : Nat} {e p : Int} {k : Int} {x : List Int} {u v : Int} {t : ByteArray} (h : dtk T i = (k, x, u, v)) (hn : strOfNums x ≠ t) : dIs T ⟨i, e, p⟩ t = false := by
  unfold dIs
  simp only [h, decide_eq_false hn, Bool.and_false]
theorem dIs_kd {T : List ATok} {i : Nat} {e p : Int} {k : Int} {x : List Int} {u v : Int} {t : ByteArray} (h : dtk T i = (k, x, u, v)) (h2 : k ≠ 2) (h5 : k ≠ 5) : dIs T ⟨i, e, p⟩ t = false := by
  unfold dIs
  simp [h, h2, h5]
theorem dIs_yes {T : List ATok} {i : Nat} {p : Int} {k : Int} {x : List Int} {u v : Int} {t : ByteArray} (h : dtk T i = (k, x, u, v)) (hk : k = 2 ∨ k = 5) (hx : strOfNums x = t) : dIs T ⟨i, 0, p⟩ t = true := by
  unfold dIs
  rcases hk with rfl | rfl <;> simp [h, hx]

section
variable {T : List ATok} {i : Nat} {o p : Int} {x y a0 a1 a2 a3 a4 : Int}

/-- The tokens of a declaration stand at i. -/
structure DcT (T : List ATok) (i : Nat) (x y a0 a1 a2 a3 a4 : Int) : Prop where
  t0 : dtk T i = (2, [118, 97, 114], 0, a0)
  t1 : dtk T (i + 1) = (1, [122, 113, x, y], 0, a1)
  t2 : dtk T (i + 2) = (5, [61], 0, a2)
  t3 : dtk T (i + 3) = (3, [], 1, a3)
  t4 : dtk T (i + 4) = (5, [59], 0, a4)

theorem st_prim (h : DcT T i x y a0 a1 a2 a3 a4) (f : Nat) : dR T (f + 1) .prim o ⟨i + 3, 0, p⟩ = some ([(14, 0, [], 1, a3)], 0, ⟨i + 4, 0, p⟩) := by
  rw [dR]
  simp [h.t3, dret, dNx, dAt]
theorem st_thingL (h : DcT T i x y a0 a1 a2 a3 a4) (f : Nat) (l : List ANode) (hl : l.length ≤ 10) : dR T (f + 1) (.thingL l) o ⟨i + 4, 0, p⟩ = some (l, 0, ⟨i + 4, 0, p⟩) := by
  rw [dR]
  rw [dIs_no h.t4 (by decide), dIs_no h.t4 (by decide), dIs_no h.t4 (by decide)]
  simp [dgd, dret]; omega
theorem st_thing (h : DcT T i x y a0 a1 a2 a3 a4) (f : Nat) : dR T (f + 2) .thing o ⟨i + 3, 0, p⟩ = some ([(14, 0, [], 1, a3)], 0, ⟨i + 4, 0, p⟩) := by
  rw [dR, st_prim h]
  simp only [Option.bind_some]
  rw [st_thingL h _ _ (by simp)]
theorem lev_semi (h : DcT T i x y a0 a1 a2 a3 a4) : dLev (dtk T (i + 4)) = -1 := by
  rw [h.t4]
  exact (show dLev (5, [59], 0, a4) = dLev (5, [59], 0, 0) from rfl).trans (by decide)
theorem st_exprL (h : DcT T i x y a0 a1 a2 a3 a4) (f : Nat) (lev : Int) (hv : 0 ≤ lev) (l : List ANode) (hl : l.length ≤ 10) : dR T (f + 1) (.exprL lev l) o ⟨i + 4, 0, p⟩ = some (l, 0, ⟨i + 4, 0, p⟩) := by
  rw [dR]
  have := lev_semi h
  have e : ¬ (({ i := i + 4, e := 0, p := p } : DS).e = 0 ∧ lev ≠ 2 ∧ dLev (dtk T ({ i := i + 4, e := 0, p := p } : DS).i) = lev) := by
    rintro ⟨_, _, h3⟩
    have h3 : dLev (dtk T (i + 4)) = lev := h3
    omega
  rw [if_neg e]
  simp [dgd, dret]; omega
theorem st_expr6 (h : DcT T i x y a0 a1 a2 a3 a4) (f : Nat) : dR T (f + 3) (.expr 6) o ⟨i + 3, 0, p⟩ = some ([(14, 0, [], 1, a3)], 0, ⟨i + 4, 0, p⟩) := by
  rw [dR]
  rw [if_neg (by decide), if_neg (by simp), if_neg (by simp), if_pos rfl, dIs_kd h.t3 (by decide) (by decide), if_neg (by simp)]
  exact st_thing h f
theorem st_exprs (h : DcT T i x y a0 a1 a2 a3 a4) (f : Nat) (lev : Int) (h0 : 0 ≤ lev) (h6 : lev < 6) (hr : dR T (f + 1) (.expr (lev + 1)) o ⟨i + 3, 0, p⟩ = some ([(14, 0, [], 1, a3)], 0, ⟨i + 4, 0, p⟩)) :
    dR T (f + 2) (.expr lev) o ⟨i + 3, 0, p⟩ = some ([(14, 0, [], 1, a3)], 0, ⟨i + 4, 0, p⟩) := by
  rw [dR]
  rw [if_neg (by omega), if_neg (by simp), dIs_kd h.t3 (by decide) (by decide), if_neg (by simp), if_neg (by omega), hr]
  simp only [Option.bind_some]
  exact st_exprL h f lev h0 _ (by simp)
theorem st_expr (h : DcT T i x y a0 a1 a2 a3 a4) (f : Nat) : dR T (f + 9) (.expr 0) o ⟨i + 3, 0, p⟩ = some ([(14, 0, [], 1, a3)], 0, ⟨i + 4, 0, p⟩) := by
  have h6 := st_expr6 (o := o) (p := p) h f
  have h5 := st_exprs h (f + 2) 5 (by decide) (by decide) h6
  have h4 := st_exprs h (f + 3) 4 (by decide) (by decide) h5
  have h3 := st_exprs h (f + 4) 3 (by decide) (by decide) h4
  have h2 := st_exprs h (f + 5) 2 (by decide) (by decide) h3
  have h1 := st_exprs h (f + 6) 1 (by decide) (by decide) h2
  exact st_exprs h (f + 7) 0 (by decide) (by decide) h1
theorem st_stmt (h : DcT T i x y a0 a1 a2 a3 a4) (f : Nat) : dR T (f + 10) .stmt o ⟨i, 0, p⟩ = some ([(3, 1, [122, 113, x, y], 0, a0), (14, 0, [], 1, a3)], 0, ⟨i + 5, 0, p⟩) := by
  rw [dR]
  rw [dIs_no h.t0 (by decide), dIs_no h.t0 (by decide), dIs_no h.t0 (by decide), dIs_yes h.t0 (.inl rfl) (by decide)]
  have e1 : dNameS T (dNx ⟨i, 0, p⟩) = ⟨i + 2, 0, p⟩ := by unfold dNameS dNx; simp [h.t1]
  have e2 : dWant T ⟨i + 2, 0, p⟩ ⟨#[61]⟩ = ⟨i + 3, 0, p⟩ := by unfold dWant; rw [dIs_yes h.t2 (.inr rfl) (by decide)]; simp [dNx]
  have e3 : dNameT T (dNx ⟨i, 0, p⟩) = [122, 113, x, y] := by unfold dNameT dNx; simp [h.t1]
  have e4 : dWant T ⟨i + 4, 0, p⟩ ⟨#[59]⟩ = ⟨i + 5, 0, p⟩ := by unfold dWant; rw [dIs_yes h.t4 (.inr rfl) (by decide)]; simp [dNx]
  have e5 : dAt T ⟨i, 0, p⟩ = a0 := by unfold dAt; rw [h.t0]
  simp only [Bool.false_eq_true, if_false, false_and, if_true]
  rw [e1, e2, st_expr h, e3, e5]
  simp only [Option.bind_some]
  rw [e4]
  simp [dret, dJoin]
end

/-- The tokens of a list from some place on. -/
theorem dtk_app {A B : List ATok} {j : Nat} : dtk (A ++ B) (A.length + j) = dtk B j := by
  unfold dtk
  rw [List.getD_eq_getElem?_getD, List.getD_eq_getElem?_getD, List.getElem?_append_right (by omega), show A.length + j - A.length = j by omega]

theorem block_all (T : List ATok) (p : Int) (o : Int) : ∀ (n i : Nat) (A : List ATok) (B : List ATok) (a : Int) (l : List ANode) (k : Int) (f : Nat), T = A ++ (bKs i n ++ ((5, [125], 0, a) :: B)) → l.length + 2 * n ≤ 1000 → 0 ≤ k → k + n ≤ 1000 →
    dR T (f + n + 11) (.blockL l k) o ⟨A.length, 0, p⟩ = some (l ++ bNs i n, k + n, ⟨A.length + 5 * n, 0, p⟩)
  | 0, i, A, B, a, l, k, f, hT, hl, hk0, hk => by
    have ht : dtk T A.length = (5, [125], 0, a) := by rw [hT]; exact dtk_app (j := 0)
    rw [dR]
    rw [dIs_yes ht (.inr rfl) (by decide), if_neg (by simp)]
    unfold dgd
    rw [if_pos ⟨by omega, by omega, by omega⟩]
    simp [bNs]
  | n + 1, i, A, B, a, l, k, f, hT, hl, hk0, hk => by
    have hT' : T = A ++ (bK (bX i) (bY i) (8 + 14 * i) ++ (bKs (i + 1) n ++ ((5, [125], 0, a) :: B))) := by rw [hT, bKs, List.append_assoc]
    have H : DcT T A.length (bX i) (bY i) ((8 + 14 * i + 1 : Nat) : Int) ((8 + 14 * i + 5 : Nat) : Int) ((8 + 14 * i + 10 : Nat) : Int) ((8 + 14 * i + 12 : Nat) : Int) ((8 + 14 * i + 13 : Nat) : Int) :=
      ⟨by rw [hT']; exact dtk_app (j := 0), by rw [hT']; exact dtk_app (j := 1), by rw [hT']; exact dtk_app (j := 2), by rw [hT']; exact dtk_app (j := 3), by rw [hT']; exact dtk_app (j := 4)⟩
    rw [show f + (n + 1) + 11 = (f + n + 11) + 1 by omega, dR]
    rw [dIs_no H.t0 (by decide), if_pos ⟨rfl, rfl⟩]
    rw [show f + n + 11 = (f + n + 1) + 10 by omega, st_stmt H]
    simp only [Option.bind_some]
    have hT2 : T = (A ++ bK (bX i) (bY i) (8 + 14 * i)) ++ (bKs (i + 1) n ++ ((5, [125], 0, a) :: B)) := by rw [hT', List.append_assoc]
    have ih := block_all T p o n (i + 1) _ B a (l ++ bN i) (k + 1) f hT2 (by simp [bN]; omega) (by omega) (by omega)
    rw [show (A ++ bK (bX i) (bY i) (8 + 14 * i)).length = A.length + 5 by simp [bK]] at ih
    rw [show f + n + 1 + 10 = f + n + 11 by omega]
    have hb : bN i = [(3, 1, [122, 113, bX i, bY i], 0, ((8 + 14 * i + 1 : Nat) : Int)), (14, 0, [], 1, ((8 + 14 * i + 12 : Nat) : Int))] := rfl
    rw [← hb, ih]
    unfold dgd
    rw [if_pos ⟨by omega, by omega, by omega⟩]
    rw [bNs, List.append_assoc, show A.length + 5 + 5 * n = A.length + 5 * (n + 1) by omega, show k + 1 + (n : Int) = k + ((n + 1 : Nat) : Int) by omega]

theorem read_all (n : Nat) (hn : n ≤ 260) : dProgL (bTk n) (n + 19) [] 0 ⟨0, 0, 0⟩ = some (bL n, 1, ⟨5 * n + 6, 0, 0⟩) := by
  have ht0 : dtk (bTk n) 0 = (2, [102, 110], 0, 0) := rfl
  have ht1 : dtk (bTk n) 1 = (1, [102], 0, 3) := rfl
  have ht2 : dtk (bTk n) 2 = (5, [40], 0, 4) := rfl
  have ht3 : dtk (bTk n) 3 = (5, [41], 0, 5) := rfl
  have ht4 : dtk (bTk n) 4 = (5, [123], 0, 7) := rfl
  have hTk : bTk n = [(2, [102, 110], 0, 0), (1, [102], 0, 3), (5, [40], 0, 4), (5, [41], 0, 5), (5, [123], 0, 7)] ++ (bKs 0 n ++ ((5, [125], 0, ((8 + 14 * n + 1 : Nat) : Int)) :: [(0, [], 0, ((8 + 14 * n + 2 : Nat) : Int))])) := rfl
  have ht5 : dtk (bTk n) (5 * n + 5) = (5, [125], 0, ((8 + 14 * n + 1 : Nat) : Int)) := by
    rw [hTk, ← List.append_assoc, show 5 * n + 5 = ([(2, [102, 110], 0, 0), (1, [102], 0, 3), (5, [40], 0, 4), (5, [41], 0, 5), (5, [123], 0, 7)] ++ bKs 0 n : List ATok).length + 0 by rw [List.length_append, bKs_len, List.length_cons, List.length_cons, List.length_cons, List.length_cons, List.length_cons, List.length_nil]; omega]
    exact dtk_app (j := 0)
  have ht6 : dtk (bTk n) (5 * n + 6) = (0, [], 0, ((8 + 14 * n + 2 : Nat) : Int)) := by
    rw [hTk, ← List.append_assoc, show 5 * n + 6 = ([(2, [102, 110], 0, 0), (1, [102], 0, 3), (5, [40], 0, 4), (5, [41], 0, 5), (5, [123], 0, 7)] ++ bKs 0 n : List ATok).length + 1 by rw [List.length_append, bKs_len, List.length_cons, List.length_cons, List.length_cons, List.length_cons, List.length_cons, List.length_nil]; omega]
    exact dtk_app (j := 1)
  have hblk := block_all (bTk n) 0 1 n 0 _ _ _ [] 0 4 hTk (by simp; omega) (by omega) (by omega)
  rw [List.nil_append, Int.zero_add, show ([(2, [102, 110], 0, 0), (1, [102], 0, 3), (5, [40], 0, 4), (5, [41], 0, 5), (5, [123], 0, 7)] : List ATok).length = 5 from rfl] at hblk
  have hblock : dR (bTk n) (4 + n + 12) .block 0 ⟨4, 0, 0⟩ = some ((2, (n : Int), [], 0, 7) :: bNs 0 n, 0, ⟨5 * n + 6, 0, 0⟩) := by
    rw [dR]
    have e1 : dEnter (bTk n) 0 ⟨4, 0, 0⟩ ⟨#[123]⟩ = ⟨5, 0, 0⟩ := by unfold dEnter; rw [dIs_yes ht4 (.inr rfl) (by decide)]; simp [dNx]
    rw [e1, show (0 : Int) + 1 = 1 from rfl, hblk]
    simp only [Option.bind_some]
    have e2 : dWant (bTk n) ⟨5 + 5 * n, 0, 0⟩ ⟨#[125]⟩ = ⟨5 * n + 6, 0, 0⟩ := by
      rw [show 5 + 5 * n = 5 * n + 5 by omega]
      unfold dWant; rw [dIs_yes ht5 (.inr rfl) (by decide)]; simp [dNx]
    rw [e2]
    unfold dret
    rw [if_pos (by simp [dJoin, bNs_len]; omega)]
    simp [dJoin, dAt, ht4]
  have hfunc : dR (bTk n) (4 + n + 13) (.func (12, 0, [102], 0, 0)) 0 ⟨2, 0, 0⟩ = some (bL n, 0, ⟨5 * n + 6, 0, 0⟩) := by
    rw [dR]
    have e1 : dEnter (bTk n) 0 ⟨2, 0, 0⟩ ⟨#[40]⟩ = ⟨3, 0, 0⟩ := by unfold dEnter; rw [dIs_yes ht2 (.inr rfl) (by decide)]; simp [dNx]
    have e2 : dR (bTk n) (4 + n + 12) (.funcL [] 0) 1 ⟨3, 0, 0⟩ = some ([], 0, ⟨3, 0, 0⟩) := by
      rw [dR, dIs_yes ht3 (.inr rfl) (by decide)]
      simp [dgd]
    have e3 : dWant (bTk n) ⟨3, 0, 0⟩ ⟨#[41]⟩ = ⟨4, 0, 0⟩ := by unfold dWant; rw [dIs_yes ht3 (.inr rfl) (by decide)]; simp [dNx]
    rw [e1, show (0 : Int) + 1 = 1 from rfl, e2]
    simp only [Option.bind_some]
    rw [e3, hblock]
    simp only [Option.bind_some]
    unfold dret
    rw [if_pos (by simp [dJoin, bNs_len]; omega)]
    simp [dJoin, bL]
  have hstmt : dR (bTk n) (4 + n + 14) .stmt 0 ⟨0, 0, 0⟩ = some (bL n, 0, ⟨5 * n + 6, 0, 0⟩) := by
    rw [dR]
    rw [dIs_no ht0 (by decide), dIs_no ht0 (by decide), dIs_yes ht0 (.inl rfl) (by decide)]
    have e1 : dNameS (bTk n) (dNx ⟨0, 0, 0⟩) = ⟨2, 0, 0⟩ := by unfold dNameS dNx; simp [ht1]
    have e2 : dNameT (bTk n) (dNx ⟨0, 0, 0⟩) = [102] := by unfold dNameT dNx; simp [ht1]
    have e3 : dAt (bTk n) ⟨0, 0, 0⟩ = 0 := by unfold dAt; simp [ht0]
    simp only [Bool.false_eq_true, if_false, Nat.zero_add, ht1, and_self, if_true, e1, e2, e3]
    exact hfunc
  rw [show n + 19 = (4 + n + 14) + 1 by omega, dProgL]
  rw [if_pos ⟨rfl, by simp [ht0]⟩, hstmt]
  simp only [Option.bind_some, List.nil_append]
  rw [show 4 + n + 14 = (4 + n + 13) + 1 by omega, dProgL]
  rw [if_neg (by simp [ht6])]
  rfl

theorem bTk_end (n : Nat) : EndT8 (bTk n) := by
  have hTk : bTk n = [(2, [102, 110], 0, 0), (1, [102], 0, 3), (5, [40], 0, 4), (5, [41], 0, 5), (5, [123], 0, 7)] ++ (bKs 0 n ++ ((5, [125], 0, ((8 + 14 * n + 1 : Nat) : Int)) :: [(0, [], 0, ((8 + 14 * n + 2 : Nat) : Int))])) := rfl
  have hlen : (bTk n).length = 5 * n + 7 := by rw [hTk]; simp [bKs_len]
  have ht6 : dtk (bTk n) (5 * n + 6) = (0, [], 0, ((8 + 14 * n + 2 : Nat) : Int)) := by
    rw [hTk, ← List.append_assoc, show 5 * n + 6 = ([(2, [102, 110], 0, 0), (1, [102], 0, 3), (5, [40], 0, 4), (5, [41], 0, 5), (5, [123], 0, 7)] ++ bKs 0 n : List ATok).length + 1 by rw [List.length_append, bKs_len, List.length_cons, List.length_cons, List.length_cons, List.length_cons, List.length_cons, List.length_nil]; omega]
    exact dtk_app (j := 1)
  intro i hi hk
  rw [hlen] at hi ⊢
  rcases Nat.lt_or_ge i (5 * n + 6) with h | h
  · omega
  · obtain rfl : i = 5 * n + 6 := by omega
    exact absurd (by rw [ht6]) hk
end Go.Proofs.YtdhkcdehedbpcaaDoor

