/- Images as plain data, their bytes, and how bytes are read. Nothing of the program is in it. -/
set_option linter.unusedSimpArgs false
set_option linter.unusedVariables false
namespace Go.Proofs.YtcljlmjcjfmppaaDoor

/-- A function. -/
structure AFn where
  params : Int
  slots : Int
  boxes : List Int
  caps : List (Int × Int)
  code : List (Int × Int × Int)
  tries : List (Int × Int × Int × Int)

/-- An image; texts by their bytes. -/
structure AIm where
  funs : List AFn
  strs : List (List Int)
  keys : List (List Int)
  globals : Int

/-- A number's bytes. -/
def nb (n : Nat) : List Int := if n < 128 then [(n : Int)] else ((n % 128 + 128 : Nat) : Int) :: nb (n / 128)
termination_by n
decreasing_by omega

def pl (n : Int) : Bool := decide (0 ≤ n ∧ n ≤ 4611686018427387903)
def sg (z : Int) : Bool := decide (-2305843009213693952 ≤ z ∧ z ≤ 2305843009213693951)
def zz (z : Int) : Int := if z < 0 then -2 * z - 1 else 2 * z

/-- What is told: a number, one of either sign, a text. -/
inductive It where
  | N (n : Int)
  | Z (z : Int)
  | T (s : List Int)

def It.b : It → List Int
  | .N n => if pl n then nb n.toNat else []
  | .Z z => if sg z then nb (zz z).toNat else []
  | .T s => s

def It.ok : It → Bool
  | .N n => pl n
  | .Z z => sg z
  | .T _ => true

abbrev byts (l : List It) : List Int := l.flatMap It.b
abbrev oks (l : List It) : Bool := l.all It.ok

def iL {α : Type} (f : α → List It) (l : List α) : List It := .N l.length :: l.flatMap f
def iN (n : Int) : List It := [.N n]
def iStr (s : List Int) : List It := [.N s.length, .T s]
def iCap (p : Int × Int) : List It := [.N p.1, .N p.2]
def iIns (p : Int × Int × Int) : List It := [.N p.1, .Z p.2.1, .Z p.2.2]
def iTry (p : Int × Int × Int × Int) : List It := [.N p.1, .N p.2.1, .N p.2.2.1, .N p.2.2.2]
def iFn (f : AFn) : List It := .N f.params :: .N f.slots :: (iL iN f.boxes ++ (iL iCap f.caps ++ (iL iIns f.code ++ iL iTry f.tries)))
def markL : List Int := [74, 81, 48, 49]
def iIm (m : AIm) : List It := .T markL :: (iL iStr m.strs ++ (iL (iL iN) m.keys ++ (.N m.globals :: iL iFn m.funs)))

/-! ## reading -/

/-- A number's bytes read from the left, i of them taken already: how many in all, and the number; none: ErrForm there. -/
def rd : List Int → Nat → Nat × Option Int
  | [], i => (i, none)
  | c :: t, i =>
    if (0 < i ∧ c = 0) ∨ (i = 8 ∧ 63 < c) then (i, none)
    else if c < 128 then (i + 1, some (c * 128 ^ i))
    else match rd t (i + 1) with
      | (j, some n) => (j, some ((c - 128) * 128 ^ i + n))
      | (j, none) => (j, none)

/-- A place, a fault. -/
abbrev St := Nat × Nat

def failS (s : St) (e at' : Nat) : St := if s.2 = 0 then (at', e) else s

def nM (b : List Int) (s : St) : Int × St :=
  if s.2 = 0 then
    match rd (b.drop s.1) 0 with
    | (j, some n) => (n, (s.1 + j, 0))
    | (j, none) => (0, (s.1 + j, 6))
  else (0, s)

def sz (n : Int) : Int := if n % 2 = 1 then -(n / 2) - 1 else n / 2

def zM (b : List Int) (s : St) : Int × St := (sz (nM b s).1, (nM b s).2)

def cM (b : List Int) (s : St) : Nat × St :=
  if (b.length : Int) - (nM b s).2.1 < (nM b s).1 then (0, failS (nM b s).2 3 s.1) else ((nM b s).1.toNat, (nM b s).2)

def rep {α : Type} (one : St → α × St) : Nat → List α → St → List α × St
  | 0, acc, s => (acc, s)
  | k + 1, acc, s => if (one s).2.2 = 0 then rep one k (acc ++ [(one s).1]) (one s).2 else ([], (one s).2)

def lM {α : Type} (b : List Int) (one : St → α × St) (s : St) : List α × St := rep one (cM b s).1 [] (cM b s).2

def tM (b : List Int) (s : St) : List Int × St := ((b.drop (cM b s).2.1).take (cM b s).1, ((cM b s).2.1 + (cM b s).1, (cM b s).2.2))

def capM (b : List Int) (s : St) : (Int × Int) × St :=
  let r1 := nM b s; let r2 := nM b r1.2
  ((r1.1, r2.1), r2.2)
def insM (b : List Int) (s : St) : (Int × Int × Int) × St :=
  let r1 := nM b s; let r2 := zM b r1.2; let r3 := zM b r2.2
  ((r1.1, r2.1, r3.1), r3.2)
def tryM (b : List Int) (s : St) : (Int × Int × Int × Int) × St :=
  let r1 := nM b s; let r2 := nM b r1.2; let r3 := nM b r2.2; let r4 := nM b r3.2
  ((r1.1, r2.1, r3.1, r4.1), r4.2)
def fnM (b : List Int) (s : St) : AFn × St :=
  let r1 := nM b s; let r2 := nM b r1.2; let r3 := lM b (nM b) r2.2; let r4 := lM b (capM b) r3.2; let r5 := lM b (insM b) r4.2; let r6 := lM b (tryM b) r5.2
  (⟨r1.1, r2.1, r3.1, r4.1, r5.1, r6.1⟩, r6.2)
/-- The four bytes that come first. -/
def mkM (b : List Int) : St :=
  if b[0]? = some 74 then if b[1]? = some 81 then if b[2]? = some 48 then if b[3]? = some 49 then (4, 0) else (3, 6) else (2, 6) else (1, 6) else (0, 6)
def imM (b : List Int) (s : St) : AIm × St :=
  let r1 := lM b (tM b) s; let r2 := lM b (lM b (nM b)) r1.2; let r3 := nM b r2.2; let r4 := lM b (fnM b) r3.2
  (⟨r4.1, r1.1, r2.1, r3.1⟩, r4.2)
def endS (b : List Int) (s : St) : St := if s.1 < b.length then failS s 6 s.1 else s
def AIm.none : AIm := ⟨[], [], [], 0⟩
/-- Decode of bytes that are not too many. -/
def decS (b : List Int) : St := endS b (imM b (mkM b)).2
def decI (b : List Int) : AIm := if (decS b).2 = 0 then (imM b (mkM b)).1 else AIm.none

/-! ## what is read stays within the bytes, and a fault stays -/

theorem rd_le : ∀ (l : List Int) (i : Nat), i ≤ (rd l i).1 ∧ (rd l i).1 ≤ i + l.length
  | [], i => by simp [rd]
  | c :: t, i => by
    have h := rd_le t (i + 1)
    unfold rd
    split
    · exact ⟨Nat.le_refl _, Nat.le_add_right _ _⟩
    · split
      · exact ⟨Nat.le_succ _, by simp only [List.length_cons]; omega⟩
      · split
        · rename_i j n he; rw [he] at h; simp only [List.length_cons] at h ⊢; omega
        · rename_i j he; rw [he] at h; simp only [List.length_cons] at h ⊢; omega

/-- What a reading function keeps. -/
def Ok (b : List Int) {α : Type} (f : St → α × St) : Prop :=
  (∀ s, s.1 ≤ b.length → (f s).2.1 ≤ b.length) ∧ (∀ s, s.2 ≠ 0 → (f s).2 = s) ∧ (∀ s, s.2 = 0 → (f s).2.2 = 0 ∨ (f s).2.2 = 3 ∨ (f s).2.2 = 6) ∧ (∀ s, s.2 = 0 → (f s).2.2 = 0 → s.1 ≤ (f s).2.1)

theorem nM_ok (b : List Int) : Ok b (nM b) := by
  refine ⟨fun s hs => ?_, fun s hs => by simp [nM, hs], fun s hs => ?_, fun s hs _ => ?_⟩
  · unfold nM
    split
    · have h := rd_le (b.drop s.1) 0
      rw [List.length_drop] at h
      split <;> (rename_i he; rw [he] at h; simp at h ⊢; omega)
    · exact hs
  · unfold nM
    rw [if_pos hs]
    split <;> simp
  · unfold nM
    rw [if_pos hs]
    split <;> simp

theorem zM_ok (b : List Int) : Ok b (zM b) := nM_ok b

theorem failS_id {s : St} (h : s.2 ≠ 0) (e a : Nat) : failS s e a = s := by simp [failS, h]

theorem nM_bad (b : List Int) {s : St} (h : s.2 ≠ 0) : nM b s = (0, s) := by simp [nM, h]

theorem cM_bad (b : List Int) {s : St} (h : s.2 ≠ 0) (hl : s.1 ≤ b.length) : cM b s = (0, s) := by
  simp [cM, nM_bad b h]; omega

theorem cM_ok (b : List Int) : (∀ s : St, s.1 ≤ b.length → (cM b s).2.1 + (cM b s).1 ≤ b.length) ∧ (∀ s : St, s.2 ≠ 0 → (cM b s).2 = s) ∧ (∀ s : St, s.2 = 0 → (cM b s).2.2 = 0 ∨ (cM b s).2.2 = 3 ∨ (cM b s).2.2 = 6) ∧ (∀ s : St, s.2 = 0 → (cM b s).2.2 = 0 → s.1 ≤ (cM b s).2.1) := by
  have H := nM_ok b
  refine ⟨fun s hs => ?_, fun s hs => ?_, fun s hs => ?_, fun s hs h0 => ?_⟩
  · have := H.1 s hs
    unfold cM
    split
    · simp only [failS]; split <;> simp <;> omega
    · simp only; omega
  · unfold cM
    rw [nM_bad b hs]
    split
    · simp [failS, hs]
    · rfl
  · have := H.2.2.1 s hs
    unfold cM
    split
    · simp only [failS]; split
      · simp
      · exact this
    · exact this
  · unfold cM at h0 ⊢
    split at h0
    · rename_i hc
      rw [if_pos hc]
      simp only [failS] at h0 ⊢
      split at h0
      · simp at h0
      · rename_i h1; exact absurd h0 h1
    · rename_i hc
      rw [if_neg hc]
      exact H.2.2.2 s hs h0

theorem rep_st (b : List Int) {α : Type} {one : St → α × St} (h : Ok b one) : ∀ (k : Nat) (acc : List α) (s : St),
    (s.1 ≤ b.length → (rep one k acc s).2.1 ≤ b.length) ∧ (s.2 ≠ 0 → (rep one k acc s).2 = s) ∧ (s.2 = 0 → (rep one k acc s).2.2 = 0 ∨ (rep one k acc s).2.2 = 3 ∨ (rep one k acc s).2.2 = 6) ∧ (s.2 = 0 → (rep one k acc s).2.2 = 0 → s.1 ≤ (rep one k acc s).2.1)
  | 0, acc, s => ⟨id, fun _ => rfl, fun h => .inl h, fun _ _ => Nat.le_refl _⟩
  | k + 1, acc, s => by
    have ih := rep_st b h k (acc ++ [(one s).1]) (one s).2
    unfold rep
    split
    · rename_i h0
      refine ⟨fun hs => ih.1 (h.1 s hs), fun hs => ?_, fun hs => ih.2.2.1 h0, fun hs he => Nat.le_trans (h.2.2.2 s hs h0) (ih.2.2.2 h0 he)⟩
      rw [h.2.1 s hs] at h0
      exact absurd h0 hs
    · rename_i h0
      exact ⟨h.1 s, h.2.1 s, h.2.2.1 s, fun hs he => absurd he h0⟩

theorem lM_ok (b : List Int) {α : Type} {one : St → α × St} (h : Ok b one) : Ok b (lM b one) := by
  have C := cM_ok b
  refine ⟨fun s hs => ?_, fun s hs => ?_, fun s hs => ?_, fun s hs h0 => ?_⟩
  · exact (rep_st b h _ _ _).1 (by have := C.1 s hs; omega)
  · have := C.2.1 s hs
    unfold lM
    rw [(rep_st b h _ _ _).2.1 (by rw [this]; exact hs), this]
  · unfold lM
    rcases C.2.2.1 s hs with h1 | h1
    · exact (rep_st b h _ _ _).2.2.1 h1
    · rw [(rep_st b h _ _ _).2.1 (by omega)]; exact .inr h1
  · unfold lM at h0 ⊢
    by_cases h1 : (cM b s).2.2 = 0
    · exact Nat.le_trans (C.2.2.2 s hs h1) ((rep_st b h _ _ _).2.2.2 h1 h0)
    · rw [(rep_st b h _ _ _).2.1 h1] at h0; exact absurd h0 h1

theorem tM_ok (b : List Int) : Ok b (tM b) := by
  have C := cM_ok b
  refine ⟨fun s hs => by have := C.1 s hs; simpa [tM] using this, fun s hs => ?_, fun s hs => C.2.2.1 s hs, fun s hs h0 => ?_⟩
  · have h1 := C.2.1 s hs
    have h2 : (cM b s).1 = 0 := by
      unfold cM
      rw [nM_bad b hs]
      split <;> rfl
    simp [tM, h1, h2]
  · have := C.2.2.2 s hs h0
    simp [tM]; omega

/-- Two readings one behind the other. -/
theorem Ok.then {b : List Int} {α β γ : Type} {f : St → α × St} {g : St → β × St} (hf : Ok b f) (hg : Ok b g) (c : α → β → γ) : Ok b (fun s => (c (f s).1 (g (f s).2).1, (g (f s).2).2)) := by
  refine ⟨fun s hs => hg.1 _ (hf.1 s hs), fun s hs => ?_, fun s hs => ?_, fun s hs h0 => ?_⟩
  · simp only
    rw [hf.2.1 s hs, hg.2.1 s hs]
  · simp only
    rcases hf.2.2.1 s hs with h1 | h1
    · exact hg.2.2.1 _ h1
    · rw [hg.2.1 _ (by omega)]; exact .inr h1
  · simp only at h0 ⊢
    by_cases h1 : (f s).2.2 = 0
    · exact Nat.le_trans (hf.2.2.2 s hs h1) (hg.2.2.2 _ h1 h0)
    · rw [hg.2.1 _ h1] at h0; exact absurd h0 h1

theorem capM_ok (b : List Int) : Ok b (capM b) := (nM_ok b).then (nM_ok b) fun x y => (x, y)
theorem insM_ok (b : List Int) : Ok b (insM b) := (nM_ok b).then ((zM_ok b).then (zM_ok b) fun x y => (x, y)) fun x y => (x, y)
theorem tryM_ok (b : List Int) : Ok b (tryM b) := (nM_ok b).then ((nM_ok b).then ((nM_ok b).then (nM_ok b) fun x y => (x, y)) fun x y => (x, y)) fun x y => (x, y)
theorem Ok.a {b : List Int} {α : Type} {f : St → α × St} (h : Ok b f) {s : St} (hs : s.2 = 0 ∨ s.2 = 3 ∨ s.2 = 6) : (f s).2.2 = 0 ∨ (f s).2.2 = 3 ∨ (f s).2.2 = 6 := by
  rcases hs with h1 | h1
  · exact h.2.2.1 s h1
  · rw [h.2.1 s (by omega)]; exact .inr h1

theorem Ok.z {b : List Int} {α : Type} {f : St → α × St} (h : Ok b f) {s : St} (h0 : (f s).2.2 = 0) : s.2 = 0 ∧ s.1 ≤ (f s).2.1 := by
  by_cases h1 : s.2 = 0
  · exact ⟨h1, h.2.2.2 s h1 h0⟩
  · rw [h.2.1 s h1] at h0; exact absurd h0 h1

theorem fnM_ok (b : List Int) : Ok b (fnM b) := by
  have N := nM_ok b
  have L3 := lM_ok b (nM_ok b)
  have L4 := lM_ok b (capM_ok b)
  have L5 := lM_ok b (insM_ok b)
  have L6 := lM_ok b (tryM_ok b)
  generalize hn : nM b = n0 at N
  generalize h3 : lM b (nM b) = n3 at L3
  generalize h4 : lM b (capM b) = n4 at L4
  generalize h5 : lM b (insM b) = n5 at L5
  generalize h6 : lM b (tryM b) = n6 at L6
  have e : ∀ s, (fnM b s).2 = (n6 (n5 (n4 (n3 (n0 (n0 s).2).2).2).2).2).2 := by intro s; simp only [fnM, h3, h4, h5, h6]; rw [hn]
  clear hn h3 h4 h5 h6
  refine ⟨fun s hs => ?_, fun s hs => ?_, fun s hs => ?_, fun s hs h0 => ?_⟩
  · rw [e]; exact L6.1 _ (L5.1 _ (L4.1 _ (L3.1 _ (N.1 _ (N.1 _ hs)))))
  · rw [e]; simp only [N.2.1 s hs, L3.2.1 s hs, L4.2.1 s hs, L5.2.1 s hs, L6.2.1 s hs]
  · rw [e]; exact L6.a (L5.a (L4.a (L3.a (N.a (N.a (.inl hs))))))
  · rw [e] at h0 ⊢
    have h5 := L6.z h0
    have h4 := L5.z h5.1
    have h3 := L4.z h4.1
    have h2 := L3.z h3.1
    have h1 := N.z h2.1
    have h := N.z h1.1
    exact Nat.le_trans h.2 (Nat.le_trans h1.2 (Nat.le_trans h2.2 (Nat.le_trans h3.2 (Nat.le_trans h4.2 h5.2))))

theorem imM_ok (b : List Int) : Ok b (imM b) := by
  have N := nM_ok b
  have L1 := lM_ok b (tM_ok b)
  have L2 := lM_ok b (lM_ok b (nM_ok b))
  have L4 := lM_ok b (fnM_ok b)
  generalize h1 : lM b (tM b) = n1 at L1
  generalize h2 : lM b (lM b (nM b)) = n2 at L2
  generalize h4 : lM b (fnM b) = n4 at L4
  generalize hn : nM b = n0 at N
  have e : ∀ s, (imM b s).2 = (n4 (n0 (n2 (n1 s).2).2).2).2 := by intro s; simp only [imM, h1, h2, h4]; rw [hn]
  clear hn h1 h2 h4
  refine ⟨fun s hs => ?_, fun s hs => ?_, fun s hs => ?_, fun s hs h0 => ?_⟩
  · rw [e]; exact L4.1 _ (N.1 _ (L2.1 _ (L1.1 _ hs)))
  · rw [e]; simp only [N.2.1 s hs, L1.2.1 s hs, L2.2.1 s hs, L4.2.1 s hs]
  · rw [e]; exact L4.a (N.a (L2.a (L1.a (.inl hs))))
  · rw [e] at h0 ⊢
    have h3 := L4.z h0
    have h2 := N.z h3.1
    have h1 := L2.z h2.1
    have h := L1.z h1.1
    exact Nat.le_trans h.2 (Nat.le_trans h1.2 (Nat.le_trans h2.2 h3.2))

theorem mkM_le (b : List Int) : (mkM b).1 ≤ b.length ∧ ((mkM b).2 = 0 ∨ (mkM b).2 = 6) := by
  have k : ∀ i (c : Int), b[i]? = some c → i < b.length := fun i c h => (List.getElem?_eq_some_iff.1 h).1
  unfold mkM
  (repeat' split) <;> simp <;> first | exact k _ _ (by assumption) | skip

theorem decS_le (b : List Int) : (decS b).1 ≤ b.length ∧ ((decS b).2 = 0 ∨ (decS b).2 = 3 ∨ (decS b).2 = 6) ∧ ((decS b).2 = 0 → (decS b).1 = b.length) := by
  have h1 := mkM_le b
  have h2 := imM_ok b
  have h3 := h2.1 _ h1.1
  have h4 : (imM b (mkM b)).2.2 = 0 ∨ (imM b (mkM b)).2.2 = 3 ∨ (imM b (mkM b)).2.2 = 6 := by
    rcases h1.2 with h | h
    · exact h2.2.2.1 _ h
    · rw [h2.2.1 _ (by omega)]; exact .inr (.inr h)
  unfold decS endS
  split
  · unfold failS
    split
    · simp; omega
    · rename_i h5; exact ⟨h3, h4, fun h => absurd h h5⟩
  · exact ⟨h3, h4, fun _ => by omega⟩

end Go.Proofs.YtcljlmjcjfmppaaDoor
