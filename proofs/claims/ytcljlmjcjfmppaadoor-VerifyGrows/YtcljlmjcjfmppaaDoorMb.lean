/- Images in memory, to be read. Nothing of the program's calls is in it. -/
import Derived.Test.YtcljlmjcjfmppaaDoorDa
import Derived.Test.YtcljlmjcjfmppaaDoorAp
import Derived.Laws.EntriesVeiled
import Derived.Deep.QuietTactic
import Derived.BigRegion
import Derived.BigQuiet
import Derived.Deep.RegionLaw
import Derived.Deep.Draws
set_option linter.unusedSimpArgs false
set_option linter.unusedVariables false
namespace Go.Proofs.YtcljlmjcjfmppaaDoor
open Go Go.RowKit

def I64 (n : Int) : Prop := -9223372036854775808 ≤ n ∧ n ≤ 9223372036854775807

def capC (p : Int × Int) : List Value := [.int .i64 p.1, .int .i64 p.2]
def insC (p : Int × Int × Int) : List Value := [.int .i64 p.1, .int .i64 p.2.1, .int .i64 p.2.2]
def tryC (p : Int × Int × Int × Int) : List Value := [.int .i64 p.1, .int .i64 p.2.1, .int .i64 p.2.2.1, .int .i64 p.2.2.2]

/-- A list: its cells by elements. -/
def RL {α : Type} (w : World) (G : Nat → Prop) (v : Value) (k : Nat) (c : α → List Value) (ok : α → Prop) (l : List α) : Prop :=
  Sl w G v l.length k (l.flatMap c) ∧ (∀ x ∈ l, ok x) ∧ l.length ≤ maxLen ∧ (∀ x, (c x).length = k)

theorem RL.keep {α : Type} {w w' : World} {G G' : Nat → Prop} {v : Value} {k : Nat} {c : α → List Value} {ok : α → Prop} {l : List α} (h : RL w G v k c ok l)
    (hs : w.heap.size ≤ w'.heap.size) (hb : ∀ b, b < w.heap.size → G b → w'.heap[b]? = w.heap[b]?) (hG : ∀ b, b < w.heap.size → G b → G' b) : RL w' G' v k c ok l :=
  ⟨h.1.keep hs hb hG, h.2⟩

theorem flat_at {α : Type} {c : α → List Value} {k : Nat} (hk : ∀ x, (c x).length = k) : ∀ (l : List α) (i j : Nat) (hi : i < l.length), j < k → (l.flatMap c)[i * k + j]? = (c l[i])[j]?
  | x :: l, 0, j, _, hj => by
    have := hk x
    simp only [List.flatMap_cons, Nat.zero_mul, Nat.zero_add, List.getElem_cons_zero]
    rw [List.getElem?_append_left (by omega)]
  | x :: l, i + 1, j, hi, hj => by
    have := hk x
    have ih := flat_at hk l i j (by simpa using hi) hj
    simp only [List.flatMap_cons, List.getElem_cons_succ]
    rw [← ih, List.getElem?_append_right (by rw [hk x, Nat.succ_mul]; omega), hk x, Nat.succ_mul]
    congr 1
    omega

theorem RL.parts {α : Type} {w : World} {G : Nat → Prop} {v : Value} {k : Nat} {c : α → List Value} {ok : α → Prop} {l : List α} (h : RL w G v k c ok l) {i : Nat} (hi : i < l.length) (hk : 0 < k) :
    ∃ g o cap, v = .slice (some ⟨g, o, none⟩) l.length cap ∧ l.length ≤ cap ∧ g < w.heap.size ∧ G g ∧ ∀ j, j < k → w.cell? ⟨g, o + (i * k + j), none⟩ = (c l[i])[j]? := by
  obtain ⟨⟨hl, a, cap, rfl, hn, hc⟩, _, hm, hck⟩ := h
  rcases hc with hc | ⟨g, o, rfl, hg, hG, hc⟩
  · omega
  · refine ⟨g, o, cap, rfl, hn.1, hg, hG, fun j hj => ?_⟩
    rw [hc _ (by
      have : (i + 1) * k ≤ l.length * k := Nat.mul_le_mul_right k hi
      rw [Nat.succ_mul] at this
      omega)]
    exact flat_at hck l i j hi hj

theorem RL.form {α : Type} {w : World} {G : Nat → Prop} {v : Value} {k : Nat} {c : α → List Value} {ok : α → Prop} {l : List α} (h : RL w G v k c ok l) : ∃ a cap, v = .slice a l.length cap := h.1.form

abbrev RInts (w : World) (G : Nat → Prop) (v : Value) (l : List Int) : Prop := RL w G v 1 (fun n => [.int .i64 n]) I64 l
abbrev RStrs (w : World) (G : Nat → Prop) (v : Value) (l : List (List Int)) : Prop := RL w G v 1 (fun s => [.string (strOfNums s)]) (fun s => (∀ c ∈ s, 0 ≤ c ∧ c ≤ 255) ∧ s.length ≤ maxLen) l
abbrev RCaps (w : World) (G : Nat → Prop) (v : Value) (l : List (Int × Int)) : Prop := RL w G v 2 capC (fun p => I64 p.1 ∧ I64 p.2) l
abbrev RIns (w : World) (G : Nat → Prop) (v : Value) (l : List (Int × Int × Int)) : Prop := RL w G v 3 insC (fun p => I64 p.1 ∧ I64 p.2.1 ∧ I64 p.2.2) l
abbrev RTry (w : World) (G : Nat → Prop) (v : Value) (l : List (Int × Int × Int × Int)) : Prop := RL w G v 4 tryC (fun p => I64 p.1 ∧ I64 p.2.1 ∧ I64 p.2.2.1 ∧ I64 p.2.2.2) l

/-- A function, and the values of its four lists. -/
structure MFn where
  f : AFn
  vb : Value
  vc : Value
  vo : Value
  vt : Value

def fnC (x : MFn) : List Value := [.int .i64 x.f.params, .int .i64 x.f.slots, x.vb, x.vc, x.vo, x.vt]

structure RFn (w : World) (G : Nat → Prop) (x : MFn) : Prop where
  p : I64 x.f.params
  s : I64 x.f.slots
  b : RInts w G x.vb x.f.boxes
  c : RCaps w G x.vc x.f.caps
  o : RIns w G x.vo x.f.code
  t : RTry w G x.vt x.f.tries

theorem RFn.keep {w w' : World} {G G' : Nat → Prop} {x : MFn} (h : RFn w G x)
    (hs : w.heap.size ≤ w'.heap.size) (hb : ∀ b, b < w.heap.size → G b → w'.heap[b]? = w.heap[b]?) (hG : ∀ b, b < w.heap.size → G b → G' b) : RFn w' G' x :=
  ⟨h.p, h.s, h.b.keep hs hb hG, h.c.keep hs hb hG, h.o.keep hs hb hG, h.t.keep hs hb hG⟩

/-- Lists of numbers, with their values. -/
def RKeys (w : World) (G : Nat → Prop) (v : Value) (l : List (List Int)) : Prop :=
  ∃ ms : List (List Int × Value), ms.map (·.1) = l ∧ RL w G v 1 (fun m => [m.2]) (fun m => RInts w G m.2 m.1) ms

theorem RKeys.keep {w w' : World} {G G' : Nat → Prop} {v : Value} {l : List (List Int)} (h : RKeys w G v l)
    (hs : w.heap.size ≤ w'.heap.size) (hb : ∀ b, b < w.heap.size → G b → w'.heap[b]? = w.heap[b]?) (hG : ∀ b, b < w.heap.size → G b → G' b) : RKeys w' G' v l := by
  obtain ⟨ms, e, h1, h2, h3, h4⟩ := h
  exact ⟨ms, e, h1.keep hs hb hG, fun x hx => (h2 x hx).keep hs hb hG, h3, h4⟩

def RFuns (w : World) (G : Nat → Prop) (v : Value) (l : List AFn) : Prop :=
  ∃ ms : List MFn, ms.map (·.f) = l ∧ RL w G v 6 fnC (fun m => RFn w G m) ms

theorem RFuns.keep {w w' : World} {G G' : Nat → Prop} {v : Value} {l : List AFn} (h : RFuns w G v l)
    (hs : w.heap.size ≤ w'.heap.size) (hb : ∀ b, b < w.heap.size → G b → w'.heap[b]? = w.heap[b]?) (hG : ∀ b, b < w.heap.size → G b → G' b) : RFuns w' G' v l := by
  obtain ⟨ms, e, h1, h2, h3, h4⟩ := h
  exact ⟨ms, e, h1.keep hs hb hG, fun x hx => (h2 x hx).keep hs hb hG, h3, h4⟩

/-- An image. -/
def RIm (w : World) (G : Nat → Prop) (vf vs vk : Value) (m : AIm) : Prop :=
  RFuns w G vf m.funs ∧ RStrs w G vs m.strs ∧ RKeys w G vk m.keys ∧ I64 m.globals

def imV (vf vs vk : Value) (m : AIm) : Value := .agg #[vf, vs, vk, .int .i64 m.globals]

theorem RIm.keep {w w' : World} {G G' : Nat → Prop} {vf vs vk : Value} {m : AIm} (h : RIm w G vf vs vk m)
    (hs : w.heap.size ≤ w'.heap.size) (hb : ∀ b, b < w.heap.size → G b → w'.heap[b]? = w.heap[b]?) (hG : ∀ b, b < w.heap.size → G b → G' b) : RIm w' G' vf vs vk m :=
  ⟨h.1.keep hs hb hG, h.2.1.keep hs hb hG, h.2.2.1.keep hs hb hG, h.2.2.2⟩

theorem RIm.bw {w w' : World} {G : Nat → Prop} {vf vs vk : Value} {m : AIm} (h : RIm w G vf vs vk m) (hb : Bw w w') : RIm w' G vf vs vk m :=
  h.keep hb.size (fun b hlt _ => hb.block b hlt) (fun _ _ g => g)

theorem RIm.at {w : World} {G : Nat → Prop} {vf vs vk : Value} {m : AIm} (h : RIm w G vf vs vk m) : RIm w (fun b => b < w.heap.size) vf vs vk m :=
  h.keep (Nat.le_refl _) (fun _ _ _ => rfl) (fun b hb _ => hb)

theorem blk_ne {w : World} {g r : Nat} {cur cur' : Array Value} {e e' : TypeId} (h : Blk w g cur e) (h' : Blk w r cur' e') (he : e ≠ e') : g ≠ r := by
  rintro rfl
  have h1 : w.heap[g]? = some (.cells cur e (0, 0)) := h
  have h2 : w.heap[g]? = some (.cells cur' e' (0, 0)) := h'
  rw [h1] at h2
  simp only [Option.some.injEq, Obj.cells.injEq] at h2
  exact he h2.2.1

theorem under9 : Tryd.prog.underlying 9 = some .string := by kernel_rfl

theorem RL.bw {α : Type} {w w' : World} {G : Nat → Prop} {v : Value} {k : Nat} {c : α → List Value} {ok : α → Prop} {l : List α} (h : RL w G v k c ok l) (hb : Bw w w') : RL w' G v k c ok l :=
  h.keep hb.size (fun b hlt _ => hb.block b hlt) (fun _ _ g => g)

theorem RFn.bw {w w' : World} {G : Nat → Prop} {x : MFn} (h : RFn w G x) (hb : Bw w w') : RFn w' G x :=
  h.keep hb.size (fun b hlt _ => hb.block b hlt) (fun _ _ g => g)

abbrev RKs (w : World) (G : Nat → Prop) (v : Value) (l : List (List Int × Value)) : Prop := RL w G v 1 (fun m => [m.2]) (fun m => RInts w G m.2 m.1) l

abbrev RFs (w : World) (G : Nat → Prop) (v : Value) (l : List MFn) : Prop := RL w G v 6 fnC (fun m => RFn w G m) l

theorem RFs.keep {w w' : World} {G G' : Nat → Prop} {v : Value} {l : List MFn} (h : RFs w G v l)
    (hs : w.heap.size ≤ w'.heap.size) (hb : ∀ b, b < w.heap.size → G b → w'.heap[b]? = w.heap[b]?) (hG : ∀ b, b < w.heap.size → G b → G' b) : RFs w' G' v l :=
  ⟨h.1.keep hs hb hG, fun x hx => (h.2.1 x hx).keep hs hb hG, h.2.2⟩

theorem RKs.keep {w w' : World} {G G' : Nat → Prop} {v : Value} {l : List (List Int × Value)} (h : RKs w G v l)
    (hs : w.heap.size ≤ w'.heap.size) (hb : ∀ b, b < w.heap.size → G b → w'.heap[b]? = w.heap[b]?) (hG : ∀ b, b < w.heap.size → G b → G' b) : RKs w' G' v l :=
  ⟨h.1.keep hs hb hG, fun x hx => (h.2.1 x hx).keep hs hb hG, h.2.2⟩

theorem RFs.bw {w w' : World} {G : Nat → Prop} {v : Value} {l : List MFn} (h : RFs w G v l) (hb : Bw w w') : RFs w' G v l :=
  RFs.keep h hb.size (fun b hlt _ => hb.block b hlt) (fun _ _ g => g)

theorem RKs.bw {w w' : World} {G : Nat → Prop} {v : Value} {l : List (List Int × Value)} (h : RKs w G v l) (hb : Bw w w') : RKs w' G v l :=
  RKs.keep h hb.size (fun b hlt _ => hb.block b hlt) (fun _ _ g => g)

theorem own_bw {w w' : World} {base : Nat} {e : TypeId} {size : Nat} {v : Value} {n : Nat} {xs : List Value} (h : w.ownsRow base e size v n xs) (hb : Bw w w') : w'.ownsRow base e size v n xs :=
  h.kept (row := none) ⟨hb.os, hb.tape, hb.output, hb.size, fun n hn _ => hb.block n hn⟩ (by cases v.ownBlock <;> simp)

end Go.Proofs.YtcljlmjcjfmppaaDoor
