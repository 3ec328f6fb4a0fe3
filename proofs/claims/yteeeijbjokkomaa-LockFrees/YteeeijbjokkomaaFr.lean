/- How a call, a list of calls, a list of pairs are opened: for the statements' frames. -/
import Derived.Test.YteeeijbjokkomaaPl
import Derived.ProofKit
import Derived.OpenShut
import Derived.ShutString
import Derived.ChangeOld
import Derived.Below
set_option linter.unusedVariables false
set_option linter.unusedSimpArgs false
namespace Go.Proofs.Yteeeijbjokkomaa
open Go.ChangeShapes Go.WideShapes Go.ChangeAt Go.RowKit

theorem ownK : ownKnob Try.prog.godebug = none := by kernel_rfl
theorem laidOut : laidOutB Try.prog = true := by kernel_rfl
theorem underInt : Try.prog.underlying 3 = some (.int .i64) := by kernel_rfl
theorem cellsA : Try.prog.cellsOf 33 = 5 := by kernel_rfl
theorem cellsI : Try.prog.cellsOf 3 = 1 := by kernel_rfl
theorem underBo : Try.prog.underlying 4 = some .bool := by kernel_rfl
theorem cellsB : Try.prog.cellsOf 4 = 1 := by kernel_rfl

theorem list_of {α : Type} (q : Nat → α → Prop) : ∀ (n : Nat), (∀ i, i < n → ∃ a, q i a) → ∃ l : List α, l.length = n ∧ ∀ i (hi : i < l.length), q i l[i]
  | 0, _ => ⟨[], rfl, fun i hi => by simp at hi⟩
  | n + 1, h => by
    obtain ⟨l, hl, hq⟩ := list_of q n (fun i hi => h i (by omega))
    obtain ⟨a, ha⟩ := h n (by omega)
    refine ⟨l ++ [a], by simp [hl], fun i hi => ?_⟩
    by_cases hi2 : i < l.length
    · rw [List.getElem_append_left hi2]; exact hq i hi2
    · have : i = l.length := by simp at hi; omega
      subst this
      rw [List.getElem_append_right (Nat.le_refl _)]
      simpa [hl] using ha

/-- A list: its cells by elements. -/
def RL {α : Type} (w : World) (G : Nat → Prop) (v : Value) (k : Nat) (c : α → List Value) (ok : α → Prop) (l : List α) : Prop :=
  Sl w G v l.length k (l.flatMap c) ∧ (∀ x ∈ l, ok x) ∧ l.length ≤ maxLen ∧ (∀ x, (c x).length = k)

theorem RL.keep {α : Type} {w w' : World} {G G' : Nat → Prop} {v : Value} {k : Nat} {c : α → List Value} {ok : α → Prop} {l : List α} (h : RL w G v k c ok l)
    (hs : w.heap.size ≤ w'.heap.size) (hb : ∀ b, b < w.heap.size → G b → w'.heap[b]? = w.heap[b]?) (hG : ∀ b, b < w.heap.size → G b → G' b) : RL w' G' v k c ok l :=
  ⟨h.1.keep hs hb hG, h.2⟩

theorem flat_at {α : Type} {c : α → List Value} {k : Nat} (hk : ∀ x, (c x).length = k) : ∀ (l : List α) (i j : Nat) (hi : i < l.length), j < k → (l.flatMap c)[i * k + j]? = (c l[i])[j]?
  | x :: l, 0, j, _, hj => by
    have := hk x
    simp only [List.flatMap_cons, Nat.zero_mul, Nat.zero_add, List.getElem_cons_zero]
    rw [List.getElem?_append_left (by omega)]
  | x :: l, i + 1, j, hi, hj => by
    have := hk x
    have ih := flat_at hk l i j (by simpa using hi) hj
    simp only [List.flatMap_cons, List.getElem_cons_succ]
    rw [← ih, List.getElem?_append_right (by rw [hk x, Nat.succ_mul]; omega), hk x, Nat.succ_mul]
    congr 1
    omega

theorem RL.parts {α : Type} {w : World} {G : Nat → Prop} {v : Value} {k : Nat} {c : α → List Value} {ok : α → Prop} {l : List α} (h : RL w G v k c ok l) {i : Nat} (hi : i < l.length) (hk : 0 < k) :
    ∃ g o cap, v = .slice (some ⟨g, o, none⟩) l.length cap ∧ l.length ≤ cap ∧ g < w.heap.size ∧ G g ∧ ∀ j, j < k → w.cell? ⟨g, o + (i * k + j), none⟩ = (c l[i])[j]? := by
  obtain ⟨⟨hl, a, cap, rfl, hn, hc⟩, _, hm, hck⟩ := h
  rcases hc with hc | ⟨g, o, rfl, hg, hG, hc⟩
  · omega
  · refine ⟨g, o, cap, rfl, hn.1, hg, hG, fun j hj => ?_⟩
    rw [hc _ (by
      have : (i + 1) * k ≤ l.length * k := Nat.mul_le_mul_right k hi
      rw [Nat.succ_mul] at this
      omega)]
    exact flat_at hck l i j hi hj

theorem RL.form {α : Type} {w : World} {G : Nat → Prop} {v : Value} {k : Nat} {c : α → List Value} {ok : α → Prop} {l : List α} (h : RL w G v k c ok l) : ∃ a cap, v = .slice a l.length cap := h.1.form

/-- A list of things of 'size' cells each. -/
theorem trod_rl {α H : Type} {enc : TypeId × Value → H} {w : World} {T E : TypeId} {fuel size : Nat} {cs : List Value} {x : DataW H × List MemPlace} (mk : α → List Value) (ok : α → Prop) (hpos : 0 < size)
    (ht : Try.prog.underlying T = some (.slice E)) (hc : Try.prog.cellsOf E = size) (hmk : ∀ a, (mk a).length = size)
    (hel : ∀ n cs x, DataW.trod enc Try.prog w 0 (fun _ => true) true n E cs = some x → ∃ a, cs = mk a ∧ ok a)
    (h : DataW.trod enc Try.prog w 0 (fun _ => true) true fuel T cs = some x) :
    ∃ (v : Value) (l : List α), cs = [v] ∧ RL w (fun _ => True) v size mk ok l := by
  rcases DataW.trod_slice ht h with ⟨rfl, _⟩ | ⟨ad, len, cap, elems, rest, n, _, rfl, _, _, hl, hm, hlen, he, _, _⟩
  · exact ⟨_, [], rfl, Sl.nil _ _ size, fun a ha => by simp at ha, Nat.zero_le _, hmk⟩
  · rw [hc] at he
    have key : ∀ i, i < len → ∃ q : α, (∀ j, j < size → w.cell? ((ad.add (i * size)).add j) = (mk q)[j]?) ∧ ok q := by
      intro i hi
      have h1 := he i hi
      obtain ⟨y, hy⟩ : ∃ y, elems[i]? = some y := ⟨_, List.getElem?_eq_getElem (by omega)⟩
      rw [hy, Option.bind_eq_some_iff] at h1
      obtain ⟨cs', hcs, htr⟩ := h1
      obtain ⟨a, rfl, hok⟩ := hel _ _ _ htr
      exact ⟨a, (World.cells?_some hcs).2.2, hok⟩
    obtain ⟨qs, hql, hq⟩ := list_of _ len key
    have hfl : (qs.flatMap mk).length = qs.length * size := by
      clear hq hql
      induction qs with
      | nil => simp
      | cons a r ih => rw [List.flatMap_cons, List.length_append, ih, hmk, List.length_cons, Nat.succ_mul]; omega
    refine ⟨.slice (some ad) len cap, qs, rfl, ⟨hfl, some ad, cap, by rw [hql], ⟨by omega, fun h => by cases h⟩, ?_⟩, fun a ha => ?_, by omega, hmk⟩
    · by_cases h0 : len = 0
      · exact .inl (by omega)
      · have hc0 := (hq 0 (by omega)).1 0 hpos
        obtain ⟨b, off, spot⟩ := ad
        obtain ⟨v0, hv0⟩ : ∃ v0, (mk (qs[0]'(by omega)))[0]? = some v0 := ⟨(mk (qs[0]'(by omega)))[0]'(by rw [hmk]; exact hpos), List.getElem?_eq_getElem _⟩
        have hsome : w.cell? ⟨b, off, spot⟩ = some v0 := by
          rw [hv0] at hc0
          simpa [Addr.add] using hc0
        have hspot : spot = none := World.cell?_spot hsome
        subst hspot
        have hlt : b < w.heap.size := World.block_lt_of_cell? w _ hsome
        have e1 : ∀ k j, ((⟨b, off, none⟩ : Addr).add k).add j = ⟨b, off + (k + j), none⟩ := by
          intro k j
          simp [Addr.add]
          split <;> split <;> simp_all <;> omega
        refine .inr ⟨b, off, rfl, hlt, trivial, fun i hi => ?_⟩
        have hi1 : i / size < qs.length := Nat.div_lt_of_lt_mul (by rw [Nat.mul_comm]; exact hi)
        have hi2 : i % size < size := Nat.mod_lt _ hpos
        have h1 := (hq (i / size) hi1).1 (i % size) hi2
        rw [e1, ← flat_at hmk qs (i / size) (i % size) hi1 hi2] at h1
        have h2 : i / size * size + i % size = i := by rw [Nat.mul_comm]; exact Nat.div_add_mod i size
        rw [h2] at h1
        exact h1
    · obtain ⟨i, hi, rfl⟩ := List.getElem_of_mem ha
      exact (hq i hi).2


/-- A call: what it does, of which monitor, which thread, until when; all of them? -/
structure AX where
  d : Int
  m : Int
  t : Int
  n : Int
  b : Bool
def actC (x : AX) : List Value := [.int .i64 x.d, .int .i64 x.m, .int .i64 x.t, .int .i64 x.n, .bool x.b]
def actV (x : AX) : Value := .agg #[.int .i64 x.d, .int .i64 x.m, .int .i64 x.t, .int .i64 x.n, .bool x.b]
structure AOK (x : AX) : Prop where
  d : I64 x.d
  m : I64 x.m
  t : I64 x.t
  n : I64 x.n

set_option maxRecDepth 100000 in
theorem trod_act {H : Type} {enc : TypeId × Value → H} {w : World} {fuel : Nat} {cs : List Value} {y : DataW H × List MemPlace} (h : DataW.trod enc Try.prog w 0 (fun _ => true) true fuel 33 cs = some y) :
    ∃ a, cs = actC a ∧ AOK a := by
  obtain ⟨xs, n, _, _, hl, hlen, hf⟩ := DataW.trod_struct Try.underlying33 h
  rw [cellsA] at hl
  match cs, hl with
  | [c0, c1, c2, c3, c4], _ =>
  have hl6 : xs.length = 5 := hlen
  match xs, hl6 with
  | [y0, y1, y2, y3, y4], _ =>
  obtain ⟨a0, e0, _, w0⟩ := DataW.trod_int underInt (hf 0 _ rfl)
  obtain ⟨a1, e1, _, w1⟩ := DataW.trod_int underInt (hf 1 _ rfl)
  obtain ⟨a2, e2, _, w2⟩ := DataW.trod_int underInt (hf 2 _ rfl)
  obtain ⟨a3, e3, _, w3⟩ := DataW.trod_int underInt (hf 3 _ rfl)
  obtain ⟨a4, e4, _⟩ := DataW.trod_bool underBo (hf 4 _ rfl)
  simp [cellsI, cellsB] at e0 e1 e2 e3 e4
  subst e0 e1 e2 e3 e4
  exact ⟨⟨a0, a1, a2, a3, a4⟩, rfl, bounds_i64 w0, bounds_i64 w1, bounds_i64 w2, bounds_i64 w3⟩

set_option maxRecDepth 100000 in
theorem open_act {H : Type} {enc : TypeId × Value → H} {W : World} {base : Nat} {v : Value} {d : DataW H} {ps : List MemPlace}
    (hval : Value.okWide Try.prog W .any base 33 v) (h : DataW.Trod enc Try.prog W 0 (fun _ => true) true 33 v d ps) :
    ∃ a, v = actV a ∧ AOK a := by
  obtain ⟨cs, rfl, hsz⟩ := okWide_struct Try.underlying33 hval
  obtain ⟨fuel, hf⟩ := h
  obtain ⟨a, e, hok⟩ := trod_act hf
  refine ⟨a, ?_, hok⟩
  have e2 : cs.toList = actC a := by simpa [Value.cells] using e
  obtain ⟨l⟩ := cs
  simp only at e2
  subst e2
  rfl

/-- A list of calls that was handed in. -/
def Acts (w : World) (v : Value) (l : List AX) : Prop := Sl w (fun _ => True) v l.length 5 (l.flatMap actC) ∧ (∀ x ∈ l, AOK x) ∧ l.length ≤ maxLen
theorem Acts.bw {w w' : World} {v : Value} {l : List AX} (h : Acts w v l) (hb : Bw w w') : Acts w' v l := ⟨h.1.below hb, h.2.1, h.2.2⟩
theorem Acts.form {w : World} {v : Value} {l : List AX} (h : Acts w v l) : ∃ a cap, v = .slice a l.length cap := h.1.form
theorem Acts.at {w : World} {a : Option Addr} {n cap : Nat} {l : List AX} (h : Acts w (.slice a n cap) l) {i : Nat} (hi : i < l.length) :
    ∃ b o, a = some ⟨b, o, none⟩ ∧ b < w.heap.size ∧ w.cell? ⟨b, o + i * 5, none⟩ = some (.int .i64 l[i].d) ∧ w.cell? ⟨b, o + i * 5 + 1, none⟩ = some (.int .i64 l[i].m) ∧ w.cell? ⟨b, o + i * 5 + 2, none⟩ = some (.int .i64 l[i].t) ∧ w.cell? ⟨b, o + i * 5 + 3, none⟩ = some (.int .i64 l[i].n) ∧ w.cell? ⟨b, o + i * 5 + 4, none⟩ = some (.bool l[i].b) ∧ AOK l[i] := by
  obtain ⟨_, a', cap', e, _, hc⟩ := h.1
  cases e
  rcases hc with h0 | ⟨b, o, e, hlt, _, hc⟩
  · omega
  · have key : ∀ j, j < 5 → w.cell? ⟨b, o + i * 5 + j, none⟩ = (actC l[i])[j]? := by
      intro j hj
      rw [Nat.add_assoc, hc _ (by omega)]
      exact flat_at (k := 5) (c := actC) (fun _ => rfl) l i j hi hj
    exact ⟨b, o, e, hlt, key 0 (by decide), key 1 (by decide), key 2 (by decide), key 3 (by decide), key 4 (by decide), h.2.1 _ (List.getElem_mem hi)⟩

set_option maxRecDepth 100000 in
theorem open_acts {H : Type} {enc : TypeId × Value → H} {W : World} {base : Nat} {v : Value} {d : DataW H} {ps : List MemPlace}
    (hval : Value.okWide Try.prog W .any base 22 v) (h : DataW.Trod enc Try.prog W 0 (fun _ => true) true 22 v d ps) :
    ∃ l : List AX, Acts W v l := by
  obtain ⟨a, len, cap, rfl⟩ := okWide_slice Try.underlying22 hval
  obtain ⟨fuel, hf⟩ := h
  obtain ⟨v, l, e, h1, h2, h3, _⟩ := trod_rl actC (AOK) (by decide) Try.underlying22 cellsA (fun _ => rfl) (fun n cs x h => trod_act h) hf
  simp [Value.cells] at e
  subst e
  exact ⟨l, h1, h2, h3⟩

end Go.Proofs.Yteeeijbjokkomaa
