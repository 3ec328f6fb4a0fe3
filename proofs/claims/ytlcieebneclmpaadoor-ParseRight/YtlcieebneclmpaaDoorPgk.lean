/- Reading tokens as a program takes no more steps than there are: plain data. -/
import Derived.Test.YtlcieebneclmpaaDoorPtk
import Derived.Test.YtlcieebneclmpaaDoorLlk
set_option linter.unusedSimpArgs false
set_option linter.unusedVariables false
namespace Go.Proofs.YtlcieebneclmpaaDoor
open Go Go.RowKit

/-- No more steps are wanted. -/
def Res.no (r : Res) : Prop := match r with | .out => False | _ => True

theorem tk_lt {T : List ATok} {i : Nat} (h : (tk T i).1 ≠ 0) : i < T.length := by
  rcases Nat.lt_or_ge i T.length with q | q
  · exact q
  · exact absurd (by simp [tk, List.getElem?_eq_none q]) h

theorem isT_lt {T : List ATok} {i : Nat} {s : ByteArray} (h : isT T i s = true) : i < T.length := by
  apply tk_lt
  simp only [isT, Bool.and_eq_true, Bool.or_eq_true, beq_iff_eq] at h
  omega

theorem isO_lt {T : List ATok} {i : Nat} {l : List ByteArray} (h : isO T i l = true) : i < T.length := by
  simp only [isO, List.any_eq_true] at h
  obtain ⟨s, _, h⟩ := h
  exact isT_lt h

/-- The next token is not behind n. -/
def Res.le (r : Res) (n : Nat) : Prop := match r with | .ok _ _ j => j ≤ n | _ => True

theorem no_bind {r : Res} {k : Prt → Bool → Nat → Res} {i n : Nat} (h : r.no) (hg : r.ge i) (hn : r.le n) (hk : ∀ x c j, i ≤ j → j ≤ n → (k x c j).no) : (r.bind k).no := by
  cases r with
  | ok x c j => exact hk x c j hg hn
  | bad _ _ => trivial
  | out => exact h

theorem no_want {T : List ATok} {s : ByteArray} {i : Nat} {k : Nat → Res} (h : i < T.length → (k (i + 1)).no) : (want T s i k).no := by
  unfold want
  split
  · exact h (isT_lt (by assumption))
  · trivial

theorem no_wantN {T : List ATok} {i : Nat} {k : Nat → Res} (h : i < T.length → (k (i + 1)).no) : (wantN T i k).no := by
  unfold wantN
  split
  · exact h (tk_lt (by omega))
  · trivial

theorem no_entr {T : List ATok} {s : ByteArray} {i o : Nat} {k : Nat → Nat → Res} (h : i < T.length → (k (i + 1) (o + 1)).no) : (entr T s i o k).no := by
  unfold entr
  split
  · split
    · trivial
    · exact h (isT_lt (by assumption))
  · trivial

theorem no_iteT {T : List ATok} {i : Nat} {s : ByteArray} {a b : Res} (h1 : i < T.length → a.no) (h2 : b.no) : (if isT T i s = true then a else b).no := by
  split
  · exact h1 (isT_lt (by assumption))
  · exact h2

theorem no_iteT1 {T : List ATok} {i : Nat} {s : ByteArray} {a b : Res} (h1 : i + 1 < T.length → a.no) (h2 : b.no) : (if (isT T i s && (tk T (i + 1)).1 == 1) = true then a else b).no := by
  split
  · rename_i h
    simp only [Bool.and_eq_true, beq_iff_eq] at h
    exact h1 (tk_lt (by omega))
  · exact h2

theorem no_itePT {T : List ATok} {i : Nat} {s : ByteArray} {p : Bool} {a b : Res} (h1 : i < T.length → a.no) (h2 : b.no) : (if (p && isT T i s) = true then a else b).no := by
  split
  · rename_i h
    simp only [Bool.and_eq_true] at h
    exact h1 (isT_lt h.2)
  · exact h2

theorem no_iteO {T : List ATok} {i : Nat} {l : List ByteArray} {a b : Res} (h1 : i < T.length → a.no) (h2 : b.no) : (if isO T i l = true then a else b).no := by
  split
  · exact h1 (isO_lt (by assumption))
  · exact h2

theorem no_ite {p : Prop} [Decidable p] {a b : Res} (h1 : p → a.no) (h2 : ¬p → b.no) : (if p then a else b).no := by
  split
  · exact h1 (by assumption)
  · exact h2 (by assumption)

theorem no_here {T : List ATok} {e : Int} {i : Nat} : (here T e i).no := trivial
theorem no_ok {x : Prt} {c : Bool} {i : Nat} : (Res.ok x c i).no := trivial
theorem no_semi {T : List ATok} {i : Nat} {x : Prt} : (semi T i x).no := no_want fun _ => no_ok

/-- How many steps are wanted till a token is gone over. -/
def rank : Nt → Nat
  | .lev k => 10 - k
  | .more _ _ => 1
  | .thing => 3
  | .things _ _ => 2
  | .single => 2
  | .read _ _ => 11
  | .row _ _ _ => 1
  | .rows _ _ _ => 1
  | .body _ _ _ => 2
  | .block => 1
  | .stmts _ _ => 12
  | .stmt => 11
  | .choice => 1
  | .prog _ => 12

def fair : Nt → Prop
  | .lev k => k ≤ 6
  | .more k _ => k ≤ 5
  | _ => True

theorem row_ge (T : List ATok) (f : Nat) (rd : Rd) (b e : ByteArray) (i o : Nat) : (pP T f (.row rd b e) i o).ge (i + 1) := by
  cases h : pP T f (.row rd b e) i o with
  | ok x c j => exact row_lt h
  | bad _ _ => trivial
  | out => trivial

theorem stmt_ge (T : List ATok) (f : Nat) (i o : Nat) : (pP T f .stmt i o).ge (i + 1) := by
  cases h : pP T f .stmt i o with
  | ok x c j => exact stmt_lt h
  | bad _ _ => trivial
  | out => trivial

theorem le_bind {r : Res} {k : Prt → Bool → Nat → Res} {n : Nat} (h : r.le n) (hk : ∀ x c j, j ≤ n → (k x c j).le n) : (r.bind k).le n := by
  cases r with
  | ok x c j => exact hk x c j h
  | bad _ _ => trivial
  | out => trivial

theorem le_want {T : List ATok} {s : ByteArray} {i n : Nat} {k : Nat → Res} (h : i < T.length → (k (i + 1)).le n) : (want T s i k).le n := by
  unfold want
  split
  · exact h (isT_lt (by assumption))
  · trivial

theorem le_wantN {T : List ATok} {i n : Nat} {k : Nat → Res} (h : i < T.length → (k (i + 1)).le n) : (wantN T i k).le n := by
  unfold wantN
  split
  · exact h (tk_lt (by omega))
  · trivial

theorem le_entr {T : List ATok} {s : ByteArray} {i o n : Nat} {k : Nat → Nat → Res} (h : i < T.length → (k (i + 1) (o + 1)).le n) : (entr T s i o k).le n := by
  unfold entr
  split
  · split
    · trivial
    · exact h (isT_lt (by assumption))
  · trivial

theorem le_ite {p : Prop} [Decidable p] {a b : Res} {n : Nat} (h1 : p → a.le n) (h2 : ¬p → b.le n) : (if p then a else b).le n := by
  split
  · exact h1 (by assumption)
  · exact h2 (by assumption)

theorem le_here {T : List ATok} {e : Int} {i n : Nat} : (here T e i).le n := trivial
theorem le_semi {T : List ATok} {i : Nat} {x : Prt} : (semi T i x).le T.length := le_want fun h => h

theorem tk1_lt {T : List ATok} {i : Nat} {s : ByteArray} (h : (isT T i s && (tk T (i + 1)).1 == 1) = true) : i + 1 < T.length := by
  simp only [Bool.and_eq_true, beq_iff_eq] at h
  exact tk_lt (by omega)

theorem isPT_lt {T : List ATok} {i : Nat} {s : ByteArray} {p : Bool} (h : (p && isT T i s) = true) : i < T.length := by
  simp only [Bool.and_eq_true] at h
  exact isT_lt h.2

set_option maxHeartbeats 2000000 in
theorem pP_in (T : List ATok) : ∀ (f : Nat) (nt : Nt) (i o : Nat), i ≤ T.length → (pP T f nt i o).le T.length
  | 0, nt, i, o, _ => by cases nt <;> trivial
  | f + 1, nt, i, o, h => by
    have IH := fun (nt : Nt) (j o : Nat) (h : j ≤ T.length) => pP_in T f nt j o h
    cases nt with
    | read r n => cases r <;> (simp only [pP]; repeat (first | exact le_here | exact le_semi | (refine le_want fun hlt => ?_) | (refine le_wantN fun hlt => ?_) | (refine le_entr fun hlt => ?_) | (refine le_ite (fun hp => ?_) fun hp => ?_) | (apply IH; omega) | (refine le_bind (IH _ _ _ (by omega)) fun x c j hj => ?_) | (show _ ≤ _; omega)))
    | lev k => (simp only [pP]; repeat (first | exact le_here | exact le_semi | (refine le_want fun hlt => ?_) | (refine le_wantN fun hlt => ?_) | (refine le_entr fun hlt => ?_) | (refine le_ite (fun hp => ?_) fun hp => ?_) | (apply IH; omega) | (refine le_bind (IH _ _ _ (by omega)) fun x c j hj => ?_) | (have hlt := isO_lt (by assumption); apply le_bind (IH _ _ _ (by omega)); intro x c j hj) | (show _ ≤ _; omega)))
    | _ => (simp only [pP]; repeat (first | exact le_here | exact le_semi | (refine le_want fun hlt => ?_) | (refine le_wantN fun hlt => ?_) | (refine le_entr fun hlt => ?_) | (refine le_ite (fun hp => ?_) fun hp => ?_) | (apply IH; omega) | (refine le_bind (IH _ _ _ (by omega)) fun x c j hj => ?_) | (show _ ≤ _; omega) | (have hlt := isT_lt (by assumption); refine le_bind (IH _ _ _ (by omega)) fun x c j hj => ?_) | (have hlt := isO_lt (by assumption); refine le_bind (IH _ _ _ (by omega)) fun x c j hj => ?_) | (have hlt := isPT_lt (by assumption); refine le_bind (IH _ _ _ (by omega)) fun x c j hj => ?_) | (have hlt := tk1_lt (by assumption); apply IH; omega) | (have hlt := isT_lt (by assumption); apply IH; omega) | (have hlt := isT_lt (by assumption); show _ ≤ _; omega) | (have hlt := tk_lt (T := T) (i := i) (by omega); show _ ≤ _; omega)))

set_option maxHeartbeats 4000000 in
theorem pP_no (T : List ATok) : ∀ (f : Nat) (nt : Nt) (i o : Nat), i ≤ T.length → fair nt → 20 * (T.length - i) + rank nt ≤ f → (pP T f nt i o).no
  | 0, nt, i, o, hi, hf, h => by
    cases nt with
    | lev k => simp only [rank, fair] at h hf; omega
    | _ => simp only [rank] at h; omega
  | f + 1, nt, i, o, hi, hf, h => by
    have IH := fun (nt : Nt) (j o : Nat) (h0 : j ≤ T.length) (h1 : fair nt) (h2 : 20 * (T.length - j) + rank nt ≤ f) => pP_no T f nt j o h0 h1 h2
    have GE := fun (nt : Nt) (j o : Nat) => pP_ge T f nt j o
    have IN := fun (nt : Nt) (j o : Nat) (h : j ≤ T.length) => pP_in T f nt j o h
    cases nt with
    | read r n => cases r <;> (simp only [pP]; simp only [rank, fair] at h hf; repeat (first | exact no_here | exact no_ok | exact no_semi | (refine no_want fun hlt => ?_) | (refine no_wantN fun hlt => ?_) | (refine no_entr fun hlt => ?_) | (refine no_iteT (fun hlt => ?_) ?_) | (refine no_iteT1 (fun hlt => ?_) ?_) | (refine no_itePT (fun hlt => ?_) ?_) | (refine no_iteO (fun hlt => ?_) ?_) | (refine no_ite (fun hp => ?_) fun hp => ?_) | (refine IH _ _ _ (by omega) (by first | exact True.intro | (simp only [fair]; omega)) (by simp only [rank]; omega)) | (refine no_bind (IH _ _ _ (by omega) (by first | exact True.intro | (simp only [fair]; omega)) (by simp only [rank]; omega)) (row_ge _ _ _ _ _ _ _) (IN _ _ _ (by omega)) fun x c j hj hj2 => ?_) | (refine no_bind (IH _ _ _ (by omega) (by first | exact True.intro | (simp only [fair]; omega)) (by simp only [rank]; omega)) (stmt_ge _ _ _ _) (IN _ _ _ (by omega)) fun x c j hj hj2 => ?_) | (refine no_bind (IH _ _ _ (by omega) (by first | exact True.intro | (simp only [fair]; omega)) (by simp only [rank]; omega)) (GE _ _ _) (IN _ _ _ (by omega)) fun x c j hj hj2 => ?_)))
    | _ =>
      simp only [pP]; simp only [rank, fair] at h hf
      repeat (first | exact no_here | exact no_ok | exact no_semi | (refine no_want fun hlt => ?_) | (refine no_wantN fun hlt => ?_) | (refine no_entr fun hlt => ?_) | (refine no_iteT (fun hlt => ?_) ?_) | (refine no_iteT1 (fun hlt => ?_) ?_) | (refine no_itePT (fun hlt => ?_) ?_) | (refine no_iteO (fun hlt => ?_) ?_) | (refine no_ite (fun hp => ?_) fun hp => ?_) | (refine IH _ _ _ (by omega) (by first | exact True.intro | (simp only [fair]; omega)) (by simp only [rank]; omega)) | (refine no_bind (IH _ _ _ (by omega) (by first | exact True.intro | (simp only [fair]; omega)) (by simp only [rank]; omega)) (row_ge _ _ _ _ _ _ _) (IN _ _ _ (by omega)) fun x c j hj hj2 => ?_) | (refine no_bind (IH _ _ _ (by omega) (by first | exact True.intro | (simp only [fair]; omega)) (by simp only [rank]; omega)) (stmt_ge _ _ _ _) (IN _ _ _ (by omega)) fun x c j hj hj2 => ?_) | (refine no_bind (IH _ _ _ (by omega) (by first | exact True.intro | (simp only [fair]; omega)) (by simp only [rank]; omega)) (GE _ _ _) (IN _ _ _ (by omega)) fun x c j hj hj2 => ?_))

/-- What is read has no more nodes than tokens were gone over, besides what was there. -/
def Res.sz (r : Res) (i m : Nat) : Prop := match r with | .ok x _ j => x.flat.length + i ≤ j + m | _ => True

theorem sz_mono {r : Res} {i m i' m' : Nat} (h : r.sz i' m') (hm : i + m' ≤ i' + m) : r.sz i m := by
  cases r <;> simp only [Res.sz] at * <;> omega

theorem sz_bind {r : Res} {k : Prt → Bool → Nat → Res} {i m i' m' : Nat} (h : r.sz i' m') (hk : ∀ x c j, x.flat.length + i' ≤ j + m' → (k x c j).sz i m) : (r.bind k).sz i m := by
  cases r with
  | ok x c j => exact hk x c j h
  | bad _ _ => trivial
  | out => trivial

theorem sz_want {T : List ATok} {s : ByteArray} {j i m : Nat} {k : Nat → Res} (h : (k (j + 1)).sz i m) : (want T s j k).sz i m := by
  unfold want
  split
  · exact h
  · trivial

theorem sz_wantN {T : List ATok} {j i m : Nat} {k : Nat → Res} (h : (k (j + 1)).sz i m) : (wantN T j k).sz i m := by
  unfold wantN
  split
  · exact h
  · trivial

theorem sz_entr {T : List ATok} {s : ByteArray} {j o i m : Nat} {k : Nat → Nat → Res} (h : (k (j + 1) (o + 1)).sz i m) : (entr T s j o k).sz i m := by
  unfold entr
  split
  · split
    · trivial
    · exact h
  · trivial

theorem sz_ite {p : Prop} [Decidable p] {a b : Res} {i m : Nat} (h1 : a.sz i m) (h2 : b.sz i m) : (if p then a else b).sz i m := by
  split
  · exact h1
  · exact h2

theorem sz_here {T : List ATok} {e : Int} {j i m : Nat} : (here T e j).sz i m := trivial

theorem flats_append : ∀ (a b : List Prt), flats (a ++ b) = flats a ++ flats b
  | [], b => rfl
  | x :: a, b => by rw [List.cons_append, flats, flats, flats_append a b, List.append_assoc]

theorem flat_kids (x : Prt) : x.flat.length = 1 + (flats x.kids).length := by
  cases x with
  | mk k t n a ks => simp only [Prt.flat, Prt.kids, List.length_cons]; omega

theorem kids_len (x : Prt) : (flats x.kids).length = x.flat.length - 1 := by have := flat_kids x; omega
theorem flat_pos (x : Prt) : 1 ≤ x.flat.length := by have := flat_kids x; omega

theorem mk_len (k : Int) (t : List Int) (n a : Int) (ks : List Prt) : (Prt.mk k t n a ks).flat.length = 1 + (flats ks).length := flat_kids _

theorem jn_len (t : ATok) (x y : Prt) : (jn t x y).flat.length = 1 + (x.flat.length + y.flat.length) := by
  unfold jn
  split
  · simp [mk_len, flats]
  · split <;> simp [mk_len, flats]

/-- How many nodes are there already. -/
def ext : Nt → Nat
  | .more _ x => x.flat.length
  | .things x _ => x.flat.length
  | .rows _ _ acc => (flats acc).length
  | .stmts _ acc => (flats acc).length
  | .prog acc => (flats acc).length + 1
  | _ => 0

set_option maxHeartbeats 4000000 in
theorem pP_sz (T : List ATok) : ∀ (f : Nat) (nt : Nt) (i o : Nat), (pP T f nt i o).sz i (ext nt)
  | 0, nt, i, o => by cases nt <;> trivial
  | f + 1, nt, i, o => by
    have IH := fun (nt : Nt) (j o : Nat) => pP_sz T f nt j o
    have IM := fun (nt : Nt) (j o i m : Nat) (h : i + ext nt ≤ j + m) => sz_mono (pP_sz T f nt j o) h
    cases nt with
    | read r n => cases r <;> (simp only [pP, semi]; repeat (first | exact sz_here | (refine sz_want ?_) | (refine sz_wantN ?_) | (refine sz_entr ?_) | (refine sz_ite ?_ ?_) | (refine IM _ _ _ _ _ ?_; simp only [ext, jn_len, mk_len, flats, flats_append, List.length_append, List.length_nil, kids_len] at *; omega) | (refine sz_bind (IH _ _ _) fun x c j hj => ?_; have hpos := flat_pos x) | (show _ ≤ _; simp only [ext, jn_len, mk_len, flats, flats_append, List.length_append, List.length_nil, kids_len] at *; omega)))
    | things y c => (have hpy := flat_pos y; simp only [pP, semi]; repeat (first | exact sz_here | (refine sz_want ?_) | (refine sz_wantN ?_) | (refine sz_entr ?_) | (refine sz_ite ?_ ?_) | (refine IM _ _ _ _ _ ?_; simp only [ext, jn_len, mk_len, flats, flats_append, List.length_append, List.length_nil, kids_len] at *; omega) | (refine sz_bind (IH _ _ _) fun x c j hj => ?_; have hpos := flat_pos x) | (show _ ≤ _; simp only [ext, jn_len, mk_len, flats, flats_append, List.length_append, List.length_nil, kids_len] at *; omega)))
    | _ => (simp only [pP, semi]; repeat (first | exact sz_here | (refine sz_want ?_) | (refine sz_wantN ?_) | (refine sz_entr ?_) | (refine sz_ite ?_ ?_) | (refine IM _ _ _ _ _ ?_; simp only [ext, jn_len, mk_len, flats, flats_append, List.length_append, List.length_nil, kids_len] at *; omega) | (refine sz_bind (IH _ _ _) fun x c j hj => ?_; have hpos := flat_pos x) | (show _ ≤ _; simp only [ext, jn_len, mk_len, flats, flats_append, List.length_append, List.length_nil, kids_len] at *; omega)))

end Go.Proofs.YtlcieebneclmpaaDoor

