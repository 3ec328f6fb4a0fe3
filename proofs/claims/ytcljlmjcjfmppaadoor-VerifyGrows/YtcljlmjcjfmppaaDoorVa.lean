/- Whether images can be run, as plain data. Nothing of the program is in it. -/
import Derived.Test.YtcljlmjcjfmppaaDoorTb
set_option linter.unusedSimpArgs false
set_option linter.unusedVariables false
namespace Go.Proofs.YtcljlmjcjfmppaaDoor

/-- A place among so many? -/
def isPl (i n : Int) : Bool := decide (0 ≤ i) && decide (i < n)
def boxR (p : Int) : Int → List Int → Bool
  | _, [] => true
  | least, x :: t => if x < least ∨ p ≤ x then false else boxR p (x + 1) t
def ownR (l : List (Int × Int)) : Bool := l.all fun p => p.1 == 0 || p.1 == 1

/-- What is wrong with a function's frame. -/
def frF (f : AFn) (first : Bool) : Int :=
  if f.params < 0 ∨ 16 < f.params ∨ f.slots < f.params ∨ 256 < f.slots ∨ 256 < f.caps.length ∨ f.code.length < 1 ∨ 65536 < f.code.length then 3
  else if boxR f.params 0 f.boxes = false ∨ (first = true ∧ (0 < f.params ∨ 0 < f.caps.length)) ∨ ownR f.caps = false then 1
  else 0

/-- Where an instruction's A must be: from the first on, ahead of the second. -/
def rngM (m : AIm) (f : AFn) (at' : Int) (op : Int) : Int × Int :=
  if op = 0 then (-2305843009213693952, 2305843009213693952)
  else if op = 1 then (0, 3)
  else if op = 2 ∨ op = 31 ∨ op = 32 then (0, m.strs.length)
  else if op = 3 then (0, 30)
  else if op = 5 ∨ op = 6 ∨ op = 7 ∨ op = 8 ∨ op = 9 then (0, f.slots)
  else if op = 10 ∨ op = 11 then (0, f.caps.length)
  else if op = 12 ∨ op = 13 then (0, m.globals)
  else if op = 14 ∨ op = 25 ∨ op = 26 then (0, 256)
  else if op = 15 then (0, m.keys.length)
  else if op = 16 then (1, m.funs.length)
  else if op = 17 then (0, 11)
  else if op = 20 ∨ op = 21 ∨ op = 22 ∨ op = 23 then (at' + 1, f.code.length)
  else if op = 24 then (0, at' + 1)
  else (0, 1)

def capF (f : AFn) (l : List (Int × Int)) : Bool := l.all fun p => isPl p.2 (if p.1 = 1 then f.slots else f.caps.length)
def AFn.none : AFn := ⟨0, 0, [], [], [], []⟩
/-- What is wrong with an instruction. -/
def inF (m : AIm) (f : AFn) (at' : Int) (i : Int × Int × Int) : Int :=
  if isOp i.1 = false then 8
  else if i.2.1 < (rngM m f at' i.1).1 ∨ (rngM m f at' i.1).2 ≤ i.2.1 then 9
  else if i.1 = 16 ∧ capF f (m.funs.getD i.2.1.toNat AFn.none).caps = false then 9
  else if i.2.2 ≠ 0 then 9
  else 0
def tryR (t : Int × Int × Int × Int) (n : Int) : Bool := decide (0 ≤ t.1) && decide (t.1 ≤ t.2.1) && decide (t.2.1 ≤ t.2.2.1) && decide (t.2.2.1 < n) && isPl t.2.2.2 256

/-! ## heights -/

structure HSt where
  h : List Int
  row : List Int
  f : Int

def reachM (s : HSt) (p n : Int) : HSt :=
  if s.h.getD p.toNat 0 = -1 then
    { s with h := s.h.set p.toNat n, row := s.row ++ [p] }
  else if s.h.getD p.toNat 0 = n then s else { s with f := p }

/-- One by one, up to one that is refused. -/
def runL : HSt → List (Int × Int) → HSt × Bool
  | s, [] => (s, true)
  | s, (p, n) :: t => if (reachM s p n).f = -1 then runL (reachM s p n) t else (reachM s p n, false)

def cov (t : Int × Int × Int × Int) (at' : Int) : Bool := decide (t.1 ≤ at') && decide (at' < t.2.1)
def tgts (f : AFn) (at' : Int) (l : List (Int × Int × Int × Int)) : List (Int × Int) := (l.filter fun t => cov t at').map fun t => (t.2.2.1, t.2.2.2 + 1)
def nxt (op : Int) : Bool := !(op == 20 || op == 24 || op == 27 || op == 28)
def leads (f : AFn) (op a at' before after : Int) : List (Int × Int) :=
  if op = 20 ∨ op = 24 then [(a, after)]
  else if op = 27 then []
  else if op = 28 then tgts f at' f.tries
  else if op = 21 then (at' + 1, after) :: (a, after) :: tgts f at' f.tries
  else if op = 22 ∨ op = 23 then (at' + 1, after) :: (a, before) :: tgts f at' f.tries
  else (at' + 1, after) :: tgts f at' f.tries
def fitM (f : AFn) (op at' kept after : Int) : Bool := decide (0 ≤ kept) && decide (after ≤ 256) && !(nxt op && (at' + 1 == (f.code.length : Int)))

/-- One instruction of the row. -/
def oneM (m : AIm) (f : AFn) (s : HSt) (at' : Int) : HSt × Bool :=
  let i := f.code.getD at'.toNat (0, 0, 0)
  let h := s.h.getD at'.toNat 0
  let e := effM m.keys i.1 i.2.1
  if fitM f i.1 at' (h - e.1) (h - e.1 + e.2.1) = true then
    if (f.tries.any fun t => cov t at' && decide (h - e.1 < t.2.2.2)) = true then ({ s with f := at' }, false)
    else runL s (leads f i.1 i.2.1 at' h (h - e.1 + e.2.1))
  else ({ s with f := at' }, false)

def flow (m : AIm) (f : AFn) : Nat → Nat → HSt → HSt
  | 0, _, s => s
  | N + 1, k, s => if k < s.row.length then (if (oneM m f s (s.row.getD k 0)).2 = true then flow m f N (k + 1) (oneM m f s (s.row.getD k 0)).1 else (oneM m f s (s.row.getD k 0)).1) else s
def flow0 (f : AFn) : HSt := reachM ⟨List.replicate f.code.length (-1), [], -1⟩ 0 0

theorem all_snoc {α : Type} {p : α → Bool} {l : List α} {i : Nat} (hi : i < l.length) (h : (l.take i).all p = true) (hp : p l[i] = true) : (l.take (i + 1)).all p = true := by
  rw [List.take_succ_eq_append_getElem hi, List.all_append, h]
  simp [hp]
theorem all_not {α : Type} {p : α → Bool} {l : List α} {i : Nat} (hi : i < l.length) (hp : p l[i] = false) : l.all p = false := by
  rw [List.all_eq_false]
  exact ⟨l[i], List.getElem_mem hi, by simp [hp]⟩

/-! ## what stays -/

/-- So many places; the heights from -1 to 257; each place comes to the row once. -/
structure HOk (n : Nat) (s : HSt) : Prop where
  len : s.h.length = n
  bd : ∀ x ∈ s.h, -1 ≤ x ∧ x ≤ 257
  row : ∀ p ∈ s.row, 0 ≤ p ∧ p < n ∧ s.h.getD p.toNat 0 ≠ -1
  cnt : s.row.length + (s.h.filter fun x => x == -1).length = n
  f : -1 ≤ s.f ∧ s.f < n

theorem filter_set {l : List Int} {i : Nat} {v : Int} (hi : i < l.length) (h : l.getD i 0 = -1) (hv : v ≠ -1) : ((l.set i v).filter fun x => x == -1).length + 1 = (l.filter fun x => x == -1).length := by
  induction l generalizing i with
  | nil => simp at hi
  | cons a t ih =>
    cases i with
    | zero =>
      simp at h
      subst h
      simp [hv]
    | succ i =>
      have := ih (i := i) (by simpa using hi) (by simpa using h)
      simp only [List.set_cons_succ, List.filter_cons]
      split <;> first | omega | (simp only [List.length_cons]; omega)

theorem HOk.reach {n : Nat} {s : HSt} (h : HOk n s) {p v : Int} (hp : 0 ≤ p ∧ p < n) (hv : 0 ≤ v ∧ v ≤ 257) : HOk n (reachM s p v) := by
  have hl : p.toNat < s.h.length := by rw [h.len]; omega
  unfold reachM
  split
  · rename_i h1
    refine ⟨by simpa using h.len, fun x hx => ?_, fun q hq => ?_, ?_, h.f⟩
    · rcases List.mem_or_eq_of_mem_set hx with h2 | h2
      · exact h.bd x h2
      · subst h2; omega
    · rcases List.mem_append.1 hq with h2 | h2
      · have := h.row q h2
        refine ⟨this.1, this.2.1, ?_⟩
        simp only
        by_cases he : p.toNat = q.toNat
        · rw [← he, List.getD_eq_getElem?_getD, List.getElem?_set_self hl]
          simp; omega
        · rw [List.getD_eq_getElem?_getD, List.getElem?_set_ne he, ← List.getD_eq_getElem?_getD]
          exact this.2.2
      · simp at h2
        subst h2
        refine ⟨hp.1, hp.2, ?_⟩
        simp only
        rw [List.getD_eq_getElem?_getD, List.getElem?_set_self hl]
        simp; omega
    · have := filter_set hl h1 (show v ≠ -1 by omega)
      have := h.cnt
      simp only [List.length_append, List.length_cons, List.length_nil]
      omega
  · split
    · exact h
    · exact ⟨h.len, h.bd, h.row, h.cnt, by simp only; omega⟩

theorem HOk.run {n : Nat} : ∀ (l : List (Int × Int)) (s : HSt), HOk n s → (∀ x ∈ l, (0 ≤ x.1 ∧ x.1 < n) ∧ 0 ≤ x.2 ∧ x.2 ≤ 257) → HOk n (runL s l).1
  | [], s, h, _ => h
  | (p, v) :: t, s, h, hl => by
    have h1 := hl (p, v) (by simp)
    have h2 := h.reach h1.1 h1.2
    unfold runL
    split
    · exact HOk.run t _ h2 (fun x hx => hl x (by simp [hx]))
    · exact h2

theorem HOk.init {n : Nat} (hn : 0 < n) : HOk n (reachM ⟨List.replicate n (-1), [], -1⟩ 0 0) := by
  have h : HOk n ⟨List.replicate n (-1), [], -1⟩ := ⟨by simp, fun x hx => by simp at hx; omega, fun p hp => by simp at hp, by simp, by simp; omega⟩
  exact h.reach (by omega) (by omega)
theorem HOk.rowLe {n : Nat} {s : HSt} (h : HOk n s) : s.row.length ≤ n := by have := h.cnt; omega

end Go.Proofs.YtcljlmjcjfmppaaDoor
