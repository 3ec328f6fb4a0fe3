/- What VerifyGrows' first region carries, whatever was done so far (J6), and what each of its operations makes of it. Nothing of the program is in it. -/
import Derived.Test.YtcljlmjcjfmppaaDoorGe
import Derived.Test.YtcljlmjcjfmppaaDoorGf
set_option linter.unusedSimpArgs false
set_option linter.unusedVariables false
namespace Go.Proofs.YtcljlmjcjfmppaaDoor
open Go Go.RowKit

theorem Rw.notBlk {W0 w : World} {e eI : TypeId} {size : Nat} {v : Value} {n : Nat} {xs : List Value} {g : Nat} {cur : Array Value} (h : Rw W0 w e size v n xs) (hb : Blk w g cur eI) (hne : e ≠ eI) : v.ownBlock ≠ some g := by
  intro hv
  rcases h.1.2 with h1 | ⟨g', cap, cur', e1, hbb, hg, r⟩
  · rw [h1.1] at hv; cases hv
  · subst e1
    cases hv
    have h2 := hg.symm.trans hb
    injection h2 with h3
    injection h3 with h4 h5 h6
    exact hne h5

/-- D: what is done. x35, x38: the functions; x39, x42, x44: the strings; x43: the one more; x6: the new image. -/
structure J6 (eC eS eI : TypeId) (W0 : World) (fs ss : List Value) (n k : Nat) (mo v46 v49 : Value) (D : Nat → Bool) (x35 x38 x39 x42 x43 x44 x6 : Value) (w : World) : Prop where
  b : Bw W0 w
  c9 : D 9 = true → D 7 = true
  c17 : D 17 = true → D 3 = true ∧ D 9 = true ∧ D 16 = true
  r35 : D 0 = true → D 3 = false → Rw W0 w eC 6 x35 0 []
  r38 : D 3 = true → Rw W0 w eC 6 x38 n fs
  r39 : D 4 = true → D 7 = false → Rw W0 w eS 1 x39 0 []
  r42 : D 7 = true → D 9 = false → Rw W0 w eS 1 x42 k ss
  r43 : D 8 = true → D 9 = false → Rw W0 w eS 1 x43 1 [mo]
  r44 : D 9 = true → Rw W0 w eS 1 x44 (k + 1) (ss ++ [mo])
  a39 : D 4 = true → D 7 = false → D 8 = true → D 9 = false → ∀ b, x39.ownBlock = some b → x43.ownBlock ≠ some b
  a42 : D 7 = true → D 8 = true → D 9 = false → ∀ b, x42.ownBlock = some b → x43.ownBlock ≠ some b
  r6 : D 16 = true → ∃ g cur, x6 = .pointer (some ⟨g, 0, none⟩) ∧ W0.heap.size ≤ g ∧ Blk w g cur eI ∧ cur.size = 4 ∧ (D 17 = true → cur = #[x38, x44, v46, v49])

section
variable {eC eS eI : TypeId} {W0 : World} {fs ss : List Value} {n k : Nat} {mo v46 v49 : Value} {D : Nat → Bool} {x35 x38 x39 x42 x43 x44 x6 : Value} {w w' : World}

theorem J6.start (hb : Bw W0 w) : J6 eC eS eI W0 fs ss n k mo v46 v49 (fun _ => false) x35 x38 x39 x42 x43 x44 x6 w := by
  refine ⟨hb, ?_, ?_, ?_, ?_, ?_, ?_, ?_, ?_, ?_, ?_, ?_⟩ <;> (intro h; cases h)

theorem J6.pure (J : J6 eC eS eI W0 fs ss n k mo v46 v49 D x35 x38 x39 x42 x43 x44 x6 w) (i : Nat) (h0 : i ≠ 0) (h3 : i ≠ 3) (h4 : i ≠ 4) (h7 : i ≠ 7) (h8 : i ≠ 8) (h9 : i ≠ 9) (h16 : i ≠ 16) (h17 : i ≠ 17) :
    J6 eC eS eI W0 fs ss n k mo v46 v49 (updD D i) x35 x38 x39 x42 x43 x44 x6 w := by
  have e : ∀ j, i ≠ j → updD D i j = D j := fun j h => if_neg (fun k => h k.symm)
  obtain ⟨b, c9, c17, r35, r38, r39, r42, r43, r44, a39, a42, r6⟩ := J
  constructor <;> (try simp only [e 0 h0, e 3 h3, e 4 h4, e 7 h7, e 8 h8, e 9 h9, e 16 h16, e 17 h17]) <;> assumption

/-- The world grew by blocks alone. -/
theorem J6.move (J : J6 eC eS eI W0 fs ss n k mo v46 v49 D x35 x38 x39 x42 x43 x44 x6 w) (hb : Bw w w') : J6 eC eS eI W0 fs ss n k mo v46 v49 D x35 x38 x39 x42 x43 x44 x6 w' where
  b := J.b.trans hb
  c9 := J.c9
  c17 := J.c17
  r35 h1 h2 := (J.r35 h1 h2).bw hb
  r38 h1 := (J.r38 h1).bw hb
  r39 h1 h2 := (J.r39 h1 h2).bw hb
  r42 h1 h2 := (J.r42 h1 h2).bw hb
  r43 h1 h2 := (J.r43 h1 h2).bw hb
  r44 h1 := (J.r44 h1).bw hb
  a39 := J.a39
  a42 := J.a42
  r6 h1 := by
    obtain ⟨g, cur, e1, e2, e3, e4⟩ := J.r6 h1
    exact ⟨g, cur, e1, e2, e3.bw hb, e4⟩

theorem J6.set0 (J : J6 eC eS eI W0 fs ss n k mo v46 v49 D x35 x38 x39 x42 x43 x44 x6 w) {y : Value} (hr : Rw W0 w eC 6 y 0 []) : J6 eC eS eI W0 fs ss n k mo v46 v49 (updD D 0) y x38 x39 x42 x43 x44 x6 w where
  b := J.b
  c9 := J.c9
  c17 := J.c17
  r35 h1 h2 := hr
  r38 := J.r38
  r39 := J.r39
  r42 := J.r42
  r43 := J.r43
  r44 := J.r44
  a39 := J.a39
  a42 := J.a42
  r6 := J.r6

theorem J6.set4 (J : J6 eC eS eI W0 fs ss n k mo v46 v49 D x35 x38 x39 x42 x43 x44 x6 w) {y : Value} (hr : Rw W0 w eS 1 y 0 []) (ha : D 8 = true → D 9 = false → ∀ b, y.ownBlock = some b → x43.ownBlock ≠ some b) :
    J6 eC eS eI W0 fs ss n k mo v46 v49 (updD D 4) x35 x38 y x42 x43 x44 x6 w where
  b := J.b
  c9 := J.c9
  c17 := J.c17
  r35 := J.r35
  r38 := J.r38
  r39 h1 h2 := hr
  r42 := J.r42
  r43 := J.r43
  r44 := J.r44
  a39 h1 h2 h3 h4 := ha h3 h4
  a42 := J.a42
  r6 := J.r6

theorem J6.set8 (J : J6 eC eS eI W0 fs ss n k mo v46 v49 D x35 x38 x39 x42 x43 x44 x6 w) {y : Value} (hr : Rw W0 w eS 1 y 1 [mo]) (ha : D 4 = true → D 7 = false → ∀ b, x39.ownBlock = some b → y.ownBlock ≠ some b)
    (hc : D 7 = true → D 9 = false → ∀ b, x42.ownBlock = some b → y.ownBlock ≠ some b) :
    J6 eC eS eI W0 fs ss n k mo v46 v49 (updD D 8) x35 x38 x39 x42 y x44 x6 w where
  b := J.b
  c9 := J.c9
  c17 := J.c17
  r35 := J.r35
  r38 := J.r38
  r39 := J.r39
  r42 := J.r42
  r43 h1 h2 := hr
  r44 := J.r44
  a39 h1 h2 h3 h4 := ha h1 h2
  a42 h1 h2 h3 := hc h1 h3
  r6 := J.r6

theorem J6.set16 (J : J6 eC eS eI W0 fs ss n k mo v46 v49 D x35 x38 x39 x42 x43 x44 x6 w) (hD : D 16 = false) {g : Nat} {cur : Array Value} (hg : W0.heap.size ≤ g) (hb : Blk w g cur eI) (hc : cur.size = 4) :
    J6 eC eS eI W0 fs ss n k mo v46 v49 (updD D 16) x35 x38 x39 x42 x43 x44 (.pointer (some ⟨g, 0, none⟩)) w where
  b := J.b
  c9 := J.c9
  c17 h := absurd (J.c17 h).2.2 (by rw [hD]; decide)
  r35 := J.r35
  r38 := J.r38
  r39 := J.r39
  r42 := J.r42
  r43 := J.r43
  r44 := J.r44
  a39 := J.a39
  a42 := J.a42
  r6 h1 := ⟨g, cur, rfl, hg, hb, hc, fun h => absurd (J.c17 h).2.2 (by rw [hD]; decide)⟩

theorem J6.s0 (J : J6 eC eS eI W0 fs ss n k mo v46 v49 D x35 x38 x39 x42 x43 x44 x6 w) :
    J6 eC eS eI W0 fs ss n k mo v46 v49 (updD D 0) (.slice (some ⟨w.heap.size, 0, none⟩) 0 0) x38 x39 x42 x43 x44 x6 (w.alloc (.cells #[] eC)) :=
  (J.move ((Bw.refl w).alloc _)).set0 (Rw.empty W0 w J.b eC 6)

theorem J6.s4 (J : J6 eC eS eI W0 fs ss n k mo v46 v49 D x35 x38 x39 x42 x43 x44 x6 w) :
    J6 eC eS eI W0 fs ss n k mo v46 v49 (updD D 4) x35 x38 (.slice (some ⟨w.heap.size, 0, none⟩) 0 0) x42 x43 x44 x6 (w.alloc (.cells #[] eS)) :=
  (J.move ((Bw.refl w).alloc _)).set4 (Rw.empty W0 w J.b eS 1) (fun h1 h2 b hb hk => by
    cases hb
    exact Nat.lt_irrefl _ ((J.r43 h1 h2).lt hk))

theorem J6.s8 (J : J6 eC eS eI W0 fs ss n k mo v46 v49 D x35 x38 x39 x42 x43 x44 x6 w) :
    J6 eC eS eI W0 fs ss n k mo v46 v49 (updD D 8) x35 x38 x39 x42 (.slice (some ⟨w.heap.size, 0, none⟩) 1 1) x44 x6 (w.alloc (.cells #[mo] eS)) :=
  (J.move ((Bw.refl w).alloc _)).set8 ⟨World.ownsRow_lit w #[mo] 1 (Nat.zero_le _) (by decide) rfl, fun b e => by cases e; exact J.b.size⟩
    (fun h1 h2 b hb hk => by cases hk; exact Nat.lt_irrefl _ ((J.r39 h1 h2).lt hb))
    (fun h1 h2 b hb hk => by cases hk; exact Nat.lt_irrefl _ ((J.r42 h1 h2).lt hb))

theorem J6.s16 (J : J6 eC eS eI W0 fs ss n k mo v46 v49 D x35 x38 x39 x42 x43 x44 x6 w) (hD : D 16 = false) (cur : Array Value) (hc : cur.size = 4) :
    J6 eC eS eI W0 fs ss n k mo v46 v49 (updD D 16) x35 x38 x39 x42 x43 x44 (.pointer (some ⟨w.heap.size, 0, none⟩)) (w.alloc (.cells cur eI)) :=
  (J.move ((Bw.refl w).alloc _)).set16 hD J.b.size (Blk.new w cur eI) hc

/-- A row grew: the new image's block is beside it. -/
theorem J6.blk (J : J6 eC eS eI W0 fs ss n k mo v46 v49 D x35 x38 x39 x42 x43 x44 x6 w) {e : TypeId} {size : Nat} {v : Value} {m : Nat} {xs : List Value} (hr : Rw W0 w e size v m xs) (hne : e ≠ eI) (hg : w.grownBy w' v.ownBlock) (hD : D 17 = false) {X Y : Value} :
    D 16 = true → ∃ g cur, x6 = .pointer (some ⟨g, 0, none⟩) ∧ W0.heap.size ≤ g ∧ Blk w' g cur eI ∧ cur.size = 4 ∧ (D 17 = true → cur = #[X, Y, v46, v49]) := by
  intro h1
  obtain ⟨g, cur, e1, e2, e3, e4, _⟩ := J.r6 h1
  refine ⟨g, cur, e1, e2, ?_, e4, fun h => ?_⟩
  · exact (hg.block g e3.lt (fun h => hr.notBlk e3 hne h.symm)).trans e3
  · rw [hD] at h; cases h

theorem J6.s3 (J : J6 eC eS eI W0 fs ss n k mo v46 v49 D x35 x38 x39 x42 x43 x44 x6 w) (h0 : D 0 = true) (h3 : D 3 = false) (nCS : eC ≠ eS) (nCI : eC ≠ eI) {v' : Value} (how : w'.ownsRow 0 eC 6 v' n fs) (hg : w.grownBy w' x35.ownBlock)
    (hvb : v'.ownBlock = x35.ownBlock ∨ ∀ k, v'.ownBlock = some k → w.heap.size ≤ k) :
    J6 eC eS eI W0 fs ss n k mo v46 v49 (updD D 3) x35 v' x39 x42 x43 x44 x6 w' := by
  have R := J.r35 h0 h3
  have h17 : D 17 = false := by
    cases h : D 17 with
    | false => rfl
    | true => have := (J.c17 h).1; rw [h3] at this; cases this
  have out : ∀ {v : Value} {m : Nat} {xs : List Value}, Rw W0 w eS 1 v m xs → Rw W0 w' eS 1 v m xs := fun h => h.beside hg (h.apart R (Ne.symm nCS))
  exact {
    b := R.bwGrown J.b hg
    c9 := J.c9
    c17 := fun h => by rw [show updD D 3 17 = D 17 from rfl, h17] at h; cases h
    r35 := fun _ h => Bool.noConfusion (show true = false from h)
    r38 := fun _ => R.grown J.b how hvb
    r39 := fun a b => out (J.r39 a b)
    r42 := fun a b => out (J.r42 a b)
    r43 := fun a b => out (J.r43 a b)
    r44 := fun a => out (J.r44 a)
    a39 := J.a39
    a42 := J.a42
    r6 := J.blk R nCI hg h17 }

theorem J6.s7 (J : J6 eC eS eI W0 fs ss n k mo v46 v49 D x35 x38 x39 x42 x43 x44 x6 w) (h4 : D 4 = true) (h7 : D 7 = false) (nCS : eC ≠ eS) (nSI : eS ≠ eI) {v' : Value} (how : w'.ownsRow 0 eS 1 v' k ss) (hg : w.grownBy w' x39.ownBlock)
    (hvb : v'.ownBlock = x39.ownBlock ∨ ∀ k, v'.ownBlock = some k → w.heap.size ≤ k) :
    J6 eC eS eI W0 fs ss n k mo v46 v49 (updD D 7) x35 x38 x39 v' x43 x44 x6 w' := by
  have R := J.r39 h4 h7
  have h9 : D 9 = false := by
    cases h : D 9 with
    | false => rfl
    | true => have := J.c9 h; rw [h7] at this; cases this
  have h17 : D 17 = false := by
    cases h : D 17 with
    | false => rfl
    | true => have := (J.c17 h).2.1; rw [h9] at this; cases this
  have out : ∀ {v : Value} {m : Nat} {xs : List Value}, Rw W0 w eC 6 v m xs → Rw W0 w' eC 6 v m xs := fun h => h.beside hg (h.apart R nCS)
  exact {
    b := R.bwGrown J.b hg
    c9 := fun _ => rfl
    c17 := fun h => by rw [show updD D 7 17 = D 17 from rfl, h17] at h; cases h
    r35 := fun a b => out (J.r35 a b)
    r38 := fun a => out (J.r38 a)
    r39 := fun _ h => Bool.noConfusion (show true = false from h)
    r42 := fun _ _ => R.grown J.b how hvb
    r43 := fun a b => (J.r43 a b).beside hg (fun c h1 h2 => J.a39 h4 h7 a b c h2 h1)
    r44 := fun a => by rw [show updD D 7 9 = D 9 from rfl, h9] at a; cases a
    a39 := fun _ h => Bool.noConfusion (show true = false from h)
    a42 := fun _ a b c h1 h2 => by
      rcases hvb with h | h
      · exact J.a39 h4 h7 a b c (h ▸ h1) h2
      · exact Nat.lt_irrefl _ (Nat.lt_of_lt_of_le ((J.r43 a b).lt h2) (h c h1))
    r6 := J.blk R nSI hg h17 }

theorem J6.s9 (J : J6 eC eS eI W0 fs ss n k mo v46 v49 D x35 x38 x39 x42 x43 x44 x6 w) (h7 : D 7 = true) (h9 : D 9 = false) (nCS : eC ≠ eS) (nSI : eS ≠ eI) {v' : Value} (how : w'.ownsRow 0 eS 1 v' (k + 1) (ss ++ [mo])) (hg : w.grownBy w' x42.ownBlock)
    (hvb : v'.ownBlock = x42.ownBlock ∨ ∀ k, v'.ownBlock = some k → w.heap.size ≤ k) :
    J6 eC eS eI W0 fs ss n k mo v46 v49 (updD D 9) x35 x38 x39 x42 x43 v' x6 w' := by
  have R := J.r42 h7 h9
  have h17 : D 17 = false := by
    cases h : D 17 with
    | false => rfl
    | true => have := (J.c17 h).2.1; rw [h9] at this; cases this
  have out : ∀ {v : Value} {m : Nat} {xs : List Value}, Rw W0 w eC 6 v m xs → Rw W0 w' eC 6 v m xs := fun h => h.beside hg (h.apart R nCS)
  exact {
    b := R.bwGrown J.b hg
    c9 := fun _ => h7
    c17 := fun h => by rw [show updD D 9 17 = D 17 from rfl, h17] at h; cases h
    r35 := fun a b => out (J.r35 a b)
    r38 := fun a => out (J.r38 a)
    r39 := fun _ h => by rw [show updD D 9 7 = D 7 from rfl, h7] at h; cases h
    r42 := fun _ h => Bool.noConfusion (show true = false from h)
    r43 := fun _ h => Bool.noConfusion (show true = false from h)
    r44 := fun _ => R.grown J.b how hvb
    a39 := fun _ _ _ h => Bool.noConfusion (show true = false from h)
    a42 := fun _ _ h => Bool.noConfusion (show true = false from h)
    r6 := J.blk R nSI hg h17 }

/-- The new image is written. -/
theorem J6.s17 (J : J6 eC eS eI W0 fs ss n k mo v46 v49 D x35 x38 x39 x42 x43 x44 x6 w) (h3 : D 3 = true) (h9 : D 9 = true) (h16 : D 16 = true) (nCI : eC ≠ eI) (nSI : eS ≠ eI) {g : Nat} {cur : Array Value} (e6 : x6 = .pointer (some ⟨g, 0, none⟩)) (hg : W0.heap.size ≤ g) (hb : Blk w g cur eI)
    (hB : Bw W0 w') (hk : ∀ b, b ≠ g → w'.heap[b]? = w.heap[b]?) (hn : Blk w' g #[x38, x44, v46, v49] eI) :
    J6 eC eS eI W0 fs ss n k mo v46 v49 (updD D 17) x35 x38 x39 x42 x43 x44 x6 w' := by
  have out : ∀ {e : TypeId} {size : Nat} {v : Value} {m : Nat} {xs : List Value}, e ≠ eI → Rw W0 w e size v m xs → Rw W0 w' e size v m xs := fun hne h => h.keep (fun b e => hk b (fun hbg => h.notBlk hb hne (hbg ▸ e)))
  exact {
    b := hB
    c9 := J.c9
    c17 := fun _ => ⟨h3, h9, h16⟩
    r35 := fun a b => out nCI (J.r35 a b)
    r38 := fun a => out nCI (J.r38 a)
    r39 := fun a b => out nSI (J.r39 a b)
    r42 := fun a b => out nSI (J.r42 a b)
    r43 := fun a b => out nSI (J.r43 a b)
    r44 := fun a => out nSI (J.r44 a)
    a39 := J.a39
    a42 := J.a42
    r6 := fun _ => ⟨g, _, e6, hg, hn, rfl, fun _ => rfl⟩ }

end

end Go.Proofs.YtcljlmjcjfmppaaDoor
