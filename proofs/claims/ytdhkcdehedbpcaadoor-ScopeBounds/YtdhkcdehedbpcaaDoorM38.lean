/- What the resolver keeps while it goes over a tree, and that it always goes on: plain data; small steps. · What the resolver keeps while it goes over a tree: what functions take, names, going in and out. -/
import Derived.Test.YtdhkcdehedbpcaaDoorM21
set_option linter.unusedSimpArgs false
set_option linter.unusedVariables false
namespace Go.Proofs.YtdhkcdehedbpcaaDoor
open Go Go.RowKit

def sk (z : ZS) : List (Int × Int × Nat) := z.funs.map fun f => (f.node, f.params, f.about)
def dk (z : ZS) : List (Nat × Int) := z.declared.map fun e => (e.fn, e.slot)
/-- What is seen when the innermost node is left. -/
def under (z : ZS) : ByteArray → Option Int := match z.names with | none => z.seen | some m => unhide m z.seen
/-- A function and those about it. -/
inductive Anc (S : List (Int × Int × Nat)) : Nat → Nat → Prop
  | refl (g : Nat) : Anc S g g
  | up {g x : Nat} {f : Int × Int × Nat} : S[g]? = some f → 0 < g → Anc S f.2.2 x → Anc S g x

theorem pre_get {α : Type} {S T : List α} (h : S <+: T) {i : Nat} {x : α} (hx : S[i]? = some x) : T[i]? = some x := by
  obtain ⟨U, rfl⟩ := h
  rw [List.getElem?_append_left (List.getElem?_eq_some_iff.1 hx).1]; exact hx
theorem Anc.mono {S T : List (Int × Int × Nat)} (h : S <+: T) {g x : Nat} (ha : Anc S g x) : Anc T g x := by
  induction ha with
  | refl g => exact .refl g
  | up h1 h2 _ ih => exact .up (pre_get h h1) h2 ih
theorem sk_len (z : ZS) : (sk z).length = z.funs.length := by simp [sk]
theorem dk_len (z : ZS) : (dk z).length = z.declared.length := by simp [dk]

/-- Is a node a function? -/
def isF (n : ANode) : Bool := n.1 == 12 || n.1 == 31
/-- The functions among the nodes from a place to another, with their parameters. -/
def fnR (L : List ANode) (a b : Nat) : List (Int × Int) := ((List.range' a (b - a)).filter fun i => isF (zN L i)).map fun (i : Nat) => ((i : Int), (zN L i).2.2.2.1)
def skn (z : ZS) : List (Int × Int) := z.funs.map fun f => (f.node, f.params)
theorem fnR_app (L : List ANode) {a b c : Nat} (h1 : a ≤ b) (h2 : b ≤ c) : fnR L a b ++ fnR L b c = fnR L a c := by
  unfold fnR
  rw [← List.map_append, ← List.filter_append]
  congr 2
  have : List.range' b (c - b) = List.range' (a + (b - a)) (c - b) := by rw [show a + (b - a) = b by omega]
  rw [this, List.range'_append_1, show b - a + (c - b) = c - a by omega]
theorem fnR_no {L : List ANode} {i b : Nat} (h : isF (zN L i) = false) (hb : i + 1 ≤ b) : fnR L i b = fnR L (i + 1) b := by
  rw [← fnR_app L (Nat.le_succ i) hb]
  have : fnR L i (i + 1) = [] := by unfold fnR; rw [show i + 1 - i = 1 by omega]; simp [h]
  rw [this, List.nil_append]
theorem fnR_yes {L : List ANode} {i b : Nat} (h : isF (zN L i) = true) (hb : i + 1 ≤ b) : fnR L i b = ((i : Int), (zN L i).2.2.2.1) :: fnR L (i + 1) b := by
  rw [← fnR_app L (Nat.le_succ i) hb]
  have : fnR L i (i + 1) = [((i : Int), (zN L i).2.2.2.1)] := by unfold fnR; rw [show i + 1 - i = 1 by omega]; simp [h]
  rw [this]; rfl
theorem fnR_self (L : List ANode) (a : Nat) : fnR L a a = [] := by unfold fnR; simp

/-- What holds of the resolver, with so many nodes of which nothing is declared yet (c), nothing is shown yet (k). -/
structure Inv (L : List ANode) (c k : Nat) (z : ZS) : Prop where
  ul : z.uses.length = L.length
  un : ∀ j, z.next ≤ j → j < L.length → z.uses[j]? = some (0, 0)
  fn : z.fn < z.funs.length
  ab : ∀ (g : Nat) f, (sk z)[g]? = some f → 0 < g → f.2.2 < g
  se : ∀ s d, z.seen s = some d → ∃ (k : Nat) (e : Nat × Int), d = k ∧ (dk z)[k]? = some e ∧ Anc (sk z) z.fn e.1
  dl : z.declared.length + 1 + c ≤ z.next
  cn : z.cnt + z.nc + 2 + 2 * k ≤ 2 * z.next
  lo : 0 ≤ z.loops ∧ z.loops + 1 + k ≤ z.next
  fy : z.fault ≠ 0 → z.faulty < L.length
  uf : ∀ (j : Nat) u, z.uses[j]? = some u → u.1 = 1 → 0 ≤ u.2 ∧ u.2 < z.declared.length

/-- What a step leaves. st: may names be declared right here? i: the node whose use may be told; c, k: how many more may be declared, seen. -/
structure El (L : List ANode) (st : Bool) (i c k : Nat) (z v : ZS) : Prop where
  fn : v.fn = z.fn
  lo : v.loops = z.loops
  nx : z.next ≤ v.next
  nm : v.names.isSome = z.names.isSome
  un : under v = under z
  ex : st = false → v.names = z.names ∧ v.seen = z.seen
  fs : sk z <+: sk v
  ds : dk z <+: dk v
  dl : v.declared.length + z.next ≤ z.declared.length + v.next + c
  cn : v.cnt + v.nc + 2 * z.next ≤ z.cnt + z.nc + 2 * v.next + 2 * k
  us : ∀ j, j < z.next → j ≠ i → v.uses[j]? = z.uses[j]?
  fa : v.fault = 0 → z.fault = 0
  gs : z.names.isSome = true → v.globals = z.globals

section
variable {L : List ANode} {A : ByteArray → Option Int}

theorem El.refl (z : ZS) (i : Nat) : El L false i 0 0 z z :=
  ⟨rfl, rfl, Nat.le_refl _, rfl, rfl, fun _ => ⟨rfl, rfl⟩, List.prefix_refl _, List.prefix_refl _, by omega, by omega, fun _ _ _ => rfl, fun h => h, fun _ => rfl⟩
theorem El.trans {s1 s2 : Bool} {i c1 k1 c2 k2 : Nat} {z v w : ZS} (h1 : El L s1 i c1 k1 z v) (h2 : El L s2 i c2 k2 v w) : El L (s1 || s2) i (c1 + c2) (k1 + k2) z w where
  fn := h2.fn.trans h1.fn
  lo := h2.lo.trans h1.lo
  nx := Nat.le_trans h1.nx h2.nx
  nm := h2.nm.trans h1.nm
  un := h2.un.trans h1.un
  ex := fun h => by
    rw [Bool.or_eq_false_iff] at h
    exact ⟨(h2.ex h.2).1.trans (h1.ex h.1).1, (h2.ex h.2).2.trans (h1.ex h.1).2⟩
  fs := h1.fs.trans h2.fs
  ds := h1.ds.trans h2.ds
  dl := by have := h1.dl; have := h2.dl; omega
  cn := by have := h1.cn; have := h2.cn; omega
  us := fun j hj hi => (h2.us j (Nat.lt_of_lt_of_le hj h1.nx) hi).trans (h1.us j hj hi)
  fa := fun h => h1.fa (h2.fa h)
  gs := fun h => (h2.gs (h1.nm.trans h)).trans (h1.gs h)
theorem El.weak {s s' : Bool} {i i' c k c' k' : Nat} {z v : ZS} (h : El L s i c k z v) (hs : s = true → s' = true) (hi : i = i' ∨ z.next ≤ i) (hc : c ≤ c') (hk : k ≤ k') : El L s' i' c' k' z v where
  fn := h.fn
  lo := h.lo
  nx := h.nx
  nm := h.nm
  un := h.un
  ex := fun e => h.ex (by cases s with | false => rfl | true => rw [hs rfl] at e; cases e)
  fs := h.fs
  ds := h.ds
  dl := by have := h.dl; omega
  cn := by have := h.cn; omega
  us := fun j hj hi' => h.us j hj (by rcases hi with rfl | hi <;> omega)
  fa := h.fa
  gs := h.gs

theorem Inv.weak {c k c' k' : Nat} {z : ZS} (h : Inv L c k z) (hc : c' ≤ c) (hk : k' ≤ k) : Inv L c' k' z :=
  ⟨h.ul, h.un, h.fn, h.ab, h.se, by have := h.dl; omega, by have := h.cn; omega, ⟨h.lo.1, by have := h.lo.2; omega⟩, h.fy, h.uf⟩
theorem Inv.next {z : ZS} (h : Inv L 0 0 z) : Inv L 1 1 { z with next := z.next + 1 } where
  ul := h.ul
  un := fun j hj hl => h.un j (by have : z.next + 1 ≤ j := hj; omega) hl
  fn := h.fn
  ab := h.ab
  se := h.se
  dl := by have := h.dl; show _ ≤ z.next + 1; simp only; omega
  cn := by have := h.cn; show _ ≤ 2 * (z.next + 1); simp only; omega
  lo := ⟨h.lo.1, by have := h.lo.2; show z.loops + 1 + ((1 : Nat) : Int) ≤ ((z.next + 1 : Nat) : Int); omega⟩
  fy := h.fy
  uf := h.uf

theorem zfail_ne {z : ZS} {i : Nat} {e : Int} (he : e ≠ 0) : (zfail z i e).fault ≠ 0 := by
  unfold zfail; split
  · exact he
  · assumption
theorem zfail_El (z : ZS) (i : Nat) (e : Int) (he : e ≠ 0) (i' : Nat) : El L false i' 0 0 z (zfail z i e) := by
  by_cases h : z.fault = 0
  · have e1 : zfail z i e = { z with fault := e, faulty := i } := by unfold zfail; rw [if_pos h]
    rw [e1]
    exact ⟨rfl, rfl, Nat.le_refl _, rfl, rfl, fun _ => ⟨rfl, rfl⟩, List.prefix_refl _, List.prefix_refl _, by simp, by simp, fun _ _ _ => rfl, fun _ => h, fun _ => rfl⟩
  · have e1 : zfail z i e = z := by unfold zfail; rw [if_neg h]
    rw [e1]; exact El.refl _ _
theorem zfail_Inv {c k : Nat} {z : ZS} {i : Nat} {e : Int} (h : Inv L c k z) (hi : i < L.length) : Inv L c k (zfail z i e) := by
  by_cases hf : z.fault = 0
  · have e1 : zfail z i e = { z with fault := e, faulty := i } := by unfold zfail; rw [if_pos hf]
    rw [e1]
    exact ⟨h.ul, h.un, h.fn, h.ab, h.se, h.dl, h.cn, h.lo, fun _ => hi, h.uf⟩
  · have e1 : zfail z i e = z := by unfold zfail; rw [if_neg hf]
    rw [e1]; exact h
theorem zfail_funs (z : ZS) (i : Nat) (e : Int) : (zfail z i e).funs = z.funs := by unfold zfail; split <;> rfl
theorem zfail_next (z : ZS) (i : Nat) (e : Int) : (zfail z i e).next = z.next := by unfold zfail; split <;> rfl
theorem zfail_uses (z : ZS) (i : Nat) (e : Int) : (zfail z i e).uses = z.uses := by unfold zfail; split <;> rfl

/-- What is told of a node i that was declared: nothing, a global, or a slot that nobody of here has yet. -/
def ShOk (L : List ANode) (z : ZS) (i : Nat) : Prop :=
  ∃ u, z.uses[i]? = some u ∧ (u.1 = 1 → ∃ (m : ByteArray → Option Int) (k : Nat) (e : Nat × Int), z.names = some m ∧ m (zT L i) = none ∧ u.2 = k ∧ (dk z)[k]? = some e ∧ e.1 = z.fn)

theorem set_uf {z : ZS} {c k : Nat} (h : Inv L c k z) {i : Nat} {u : Int × Int} {n : Nat} (hn : z.declared.length ≤ n) (hu : u.1 = 1 → 0 ≤ u.2 ∧ u.2 < n) :
    ∀ (j : Nat) v, (z.uses.set i u)[j]? = some v → v.1 = 1 → 0 ≤ v.2 ∧ v.2 < n := by
  intro j v hv h1
  rw [List.getElem?_set] at hv
  split at hv
  · split at hv
    · cases hv; exact hu h1
    · cases hv
  · have := h.uf j v hv h1; omega
theorem set_un {z : ZS} {c k : Nat} (h : Inv L c k z) {i : Nat} (hi : i < z.next) (u : Int × Int) : ∀ j, z.next ≤ j → j < L.length → (z.uses.set i u)[j]? = some (0, 0) := by
  intro j hj hl
  rw [List.getElem?_set_ne (by omega)]
  exact h.un j hj hl

/-- What declaring a node does. -/
structure DcR (L : List ANode) (i : Nat) (z y : ZS) : Prop where
  el : El L false i 1 0 z y
  sh : ShOk L y i
  nx : y.next = z.next
  nf : skn y = skn z
  dn : z.names = none → y.fault = 0 → y.globals = z.globals ++ [zT L i] ∧ y.uses[i]? = some (4, (z.globals.length : Int))

theorem zdeclare_ok {k : Nat} {z : ZS} {i : Nat} (h : Inv L 1 k z) (hi : i < L.length) (hin : i < z.next) (hl : z.next ≤ 1001) (hz : z.uses[i]? = some (0, 0)) :
    ∃ y, zdeclare L A z i = some y ∧ Inv L 0 k y ∧ DcR L i z y := by
  have h0 : Inv L 0 k z := h.weak (Nat.zero_le _) (Nat.le_refl _)
  have hdl := h.dl
  have hil : i < z.uses.length := by rw [h.ul]; exact hi
  unfold zdeclare
  rw [if_pos hi]
  have fail_case : ∀ e : Int, e ≠ 0 → ∃ y, some (zfail z i e) = some y ∧ Inv L 0 k y ∧ DcR L i z y := by
    intro e he
    exact ⟨_, rfl, zfail_Inv h0 hi, (zfail_El z i e he i).weak (fun x => x) (.inl rfl) (by omega) (Nat.le_refl _), ⟨(0, 0), by rw [zfail_uses]; exact hz, fun k => by cases k⟩, zfail_next _ _ _, by unfold skn; rw [zfail_funs], fun _ k => absurd k (zfail_ne he)⟩
  by_cases hp : (primF (zT L i)).isSome = true
  · rw [if_pos hp]; exact fail_case 8 (by decide)
  rw [if_neg hp]
  cases hnm : z.names with
  | none =>
    dsimp only
    unfold zglobal
    split
    · exact fail_case 80 (by decide)
    split
    · exact fail_case 3 (by decide)
    refine ⟨_, rfl, ⟨by show (z.uses.set i _).length = _; rw [List.length_set]; exact h.ul, set_un h hin _, h.fn, h.ab, h.se, h0.dl, h0.cn, h0.lo, h.fy, set_uf h (Nat.le_refl _) (fun k => by cases k)⟩, ⟨⟨rfl, rfl, Nat.le_refl _, rfl, rfl, fun _ => ⟨rfl, rfl⟩, List.prefix_refl _, List.prefix_refl _, by simp [zuse], by simp [zuse], ?_, fun k => k, fun k => by rw [hnm] at k; cases k⟩, ⟨(4, z.globals.length), ?_, fun k => by cases k⟩, rfl, rfl, fun _ _ => ⟨rfl, ?_⟩⟩⟩
    · intro j hj hji
      show (z.uses.set i _)[j]? = _
      rw [List.getElem?_set_ne (by omega)]
    · show (z.uses.set i _)[i]? = _
      rw [List.getElem?_set_self hil]
    · show (z.uses.set i _)[i]? = _
      rw [List.getElem?_set_self hil]
  | some m =>
    dsimp only
    unfold zslot
    have hfn := h.fn
    rw [List.getElem?_eq_getElem hfn]
    dsimp only
    split
    · exact fail_case 80 (by decide)
    next hm =>
    split
    · exact fail_case 3 (by decide)
    rw [if_pos (by omega)]
    have hm : m (zT L i) = none := by cases e : m (zT L i) with | none => rfl | some x => rw [e] at hm; exact absurd rfl hm
    have e1 : sk { z with uses := z.uses.set i (1, z.declared.length), declared := z.declared ++ [⟨z.fn, z.funs[z.fn].slots, false⟩], funs := z.funs.set z.fn { z.funs[z.fn] with slots := z.funs[z.fn].slots + 1 } } = sk z := by
      unfold sk
      dsimp only
      rw [List.map_set]
      apply List.ext_getElem?
      intro j
      rw [List.getElem?_set]
      split
      · next e => subst e; simp [hfn]
      · rfl
    have e2 : dk { z with uses := z.uses.set i (1, z.declared.length), declared := z.declared ++ [⟨z.fn, z.funs[z.fn].slots, false⟩], funs := z.funs.set z.fn { z.funs[z.fn] with slots := z.funs[z.fn].slots + 1 } } = dk z ++ [(z.fn, z.funs[z.fn].slots)] := by
      unfold dk; simp
    have e3 : skn { z with uses := z.uses.set i (1, z.declared.length), declared := z.declared ++ [⟨z.fn, z.funs[z.fn].slots, false⟩], funs := z.funs.set z.fn { z.funs[z.fn] with slots := z.funs[z.fn].slots + 1 } } = skn z := by
      unfold skn
      dsimp only
      rw [List.map_set]
      apply List.ext_getElem?
      intro j
      rw [List.getElem?_set]
      split
      · next e => subst e; simp [hfn]
      · rfl
    refine ⟨_, rfl, ⟨by show (z.uses.set i _).length = _; rw [List.length_set]; exact h.ul, set_un h hin _, by show z.fn < (z.funs.set _ _).length; rw [List.length_set]; exact hfn, ?_, ?_, ?_, h0.cn, h0.lo, h.fy, ?_⟩, ⟨⟨rfl, rfl, Nat.le_refl _, rfl, rfl, fun _ => ⟨rfl, rfl⟩, ?_, ?_, by simp; omega, by simp, ?_, fun k => k, fun _ => rfl⟩, ⟨(1, z.declared.length), ?_, fun _ => ⟨m, z.declared.length, (z.fn, z.funs[z.fn].slots), hnm, hm, rfl, ?_, rfl⟩⟩, rfl, e3, fun k => by rw [hnm] at k; cases k⟩⟩
    · rw [e1]; exact h.ab
    · intro s d hs
      obtain ⟨j, e, a1, a2, a3⟩ := h.se s d hs
      refine ⟨j, e, a1, ?_, ?_⟩
      · rw [e2, List.getElem?_append_left (List.getElem?_eq_some_iff.1 a2).1]; exact a2
      · rw [e1]; exact a3
    · show (z.declared ++ [_]).length + 1 + 0 ≤ z.next
      simp; omega
    · have := set_uf h (i := i) (u := (1, (z.declared.length : Int))) (n := z.declared.length + 1) (by omega) (fun _ => ⟨by simp, by simp; omega⟩)
      intro j v hv h1
      have := this j v hv h1
      show 0 ≤ v.2 ∧ v.2 < ((z.declared ++ [_]).length : Nat)
      simp; omega
    · rw [e1]; exact List.prefix_refl _
    · rw [e2]; exact List.prefix_append _ _
    · intro j hj hji
      show (z.uses.set i _)[j]? = _
      rw [List.getElem?_set_ne (by omega)]
    · show (z.uses.set i _)[i]? = _
      rw [List.getElem?_set_self hil]
    · rw [e2, ← dk_len, List.getElem?_concat_length]

/-- What is declared is seen. -/
theorem zshow_ok {z : ZS} {i : Nat} {c : Nat} (h : Inv L c 1 z) (hi : i < L.length) (hl : z.next ≤ 1001) (hs : ShOk L z i) :
    ∃ y, zshow L z i = some y ∧ Inv L c 0 y ∧ El L true i 0 1 z y ∧ y.next = z.next ∧ skn y = skn z ∧ y.fault = z.fault ∧ y.globals = z.globals ∧ y.uses = z.uses := by
  have h0 : Inv L c 0 z := h.weak (Nat.le_refl _) (Nat.zero_le _)
  obtain ⟨u, hu, hs⟩ := hs
  have hcn := h.cn
  have hdl := h.dl
  unfold zshow
  rw [hu]
  dsimp only
  by_cases h1 : u.1 = 1
  · obtain ⟨m, k, e, e1, e2, e3, e4, e5⟩ := hs h1
    rw [if_neg (by omega), e1]
    dsimp only
    have hk : k < z.declared.length := by rw [← dk_len]; exact (List.getElem?_eq_some_iff.1 e4).1
    rw [if_pos ⟨⟨by omega, by omega⟩, by omega, by omega⟩]
    refine ⟨_, rfl, ⟨h.ul, h.un, h.fn, h.ab, ?_, h.dl, by show z.cnt + 1 + (z.nc + 1) + 2 + 2 * 0 ≤ 2 * z.next; omega, h0.lo, h.fy, h.uf⟩, ⟨rfl, rfl, Nat.le_refl _, by rw [e1]; rfl, ?_, (fun k => by cases k), List.prefix_refl _, List.prefix_refl _, by simp, by simp; omega, fun _ _ _ => rfl, fun k => k, fun _ => rfl⟩, rfl, rfl, rfl, rfl, rfl⟩
    · intro s d hsd
      have hsd : mput z.seen (zT L i) u.2 s = some d := hsd
      unfold mput at hsd
      split at hsd
      · cases hsd
        exact ⟨k, e, e3, e4, by rw [e5]; exact .refl _⟩
      · exact h.se s d hsd
    · unfold under
      rw [e1]
      funext s
      simp only [unhide, mput]
      by_cases hs2 : s = zT L i
      · rw [if_pos hs2, hs2, e2]
        dsimp only
        cases hsn : z.seen (zT L i) with
        | none => simp
        | some x =>
          obtain ⟨j, _, a1, _⟩ := h.se _ _ hsn
          simp; omega
      · rw [if_neg hs2, if_neg hs2]
  · rw [if_pos (by omega)]
    exact ⟨_, rfl, h0, (El.refl z i).weak (fun k => by cases k) (.inl rfl) (Nat.le_refl _) (by omega), rfl, rfl, rfl, rfl, rfl⟩
end
end Go.Proofs.YtdhkcdehedbpcaaDoor

set_option linter.unusedSimpArgs false
set_option linter.unusedVariables false
namespace Go.Proofs.YtdhkcdehedbpcaaDoor
open Go Go.RowKit
section
variable {L : List ANode} {A : ByteArray → Option Int}

/-- All but what functions take and the first fault is the same. -/
structure Qt (L : List ANode) (i : Nat) (z y : ZS) : Prop where
  fn : y.fn = z.fn
  lo : y.loops = z.loops
  nx : y.next = z.next
  nm : y.names = z.names
  se : y.seen = z.seen
  fs : sk y = sk z
  ds : dk y = dk z
  cn : y.cnt = z.cnt
  nc : y.nc = z.nc
  us : ∀ j, j ≠ i → y.uses[j]? = z.uses[j]?
  ul : y.uses.length = z.uses.length
  fa : y.fault = 0 → z.fault = 0
  gs : y.globals = z.globals
  sn : skn y = skn z
  fy : (z.fault ≠ 0 → z.faulty < L.length) → y.fault ≠ 0 → y.faulty < L.length

theorem Qt.refl (z : ZS) (i : Nat) : Qt L i z z := ⟨rfl, rfl, rfl, rfl, rfl, rfl, rfl, rfl, rfl, fun _ _ => rfl, rfl, fun h => h, rfl, rfl, fun h => h⟩
theorem Qt.trans {i : Nat} {z y x : ZS} (h1 : Qt L i z y) (h2 : Qt L i y x) : Qt L i z x :=
  ⟨h2.fn.trans h1.fn, h2.lo.trans h1.lo, h2.nx.trans h1.nx, h2.nm.trans h1.nm, h2.se.trans h1.se, h2.fs.trans h1.fs, h2.ds.trans h1.ds, h2.cn.trans h1.cn, h2.nc.trans h1.nc, fun j hj => (h2.us j hj).trans (h1.us j hj), h2.ul.trans h1.ul, fun h => h1.fa (h2.fa h), h2.gs.trans h1.gs, h2.sn.trans h1.sn, fun h => h2.fy (h1.fy h)⟩
theorem Qt.fail (z : ZS) {i : Nat} (hi : i < L.length) {e : Int} (he : e ≠ 0) : Qt L i z (zfail z i e) := by
  by_cases h : z.fault = 0
  · have e1 : zfail z i e = { z with fault := e, faulty := i } := by unfold zfail; rw [if_pos h]
    rw [e1]
    exact ⟨rfl, rfl, rfl, rfl, rfl, rfl, rfl, rfl, rfl, fun _ _ => rfl, rfl, fun _ => h, rfl, rfl, fun _ _ => hi⟩
  · have e1 : zfail z i e = z := by unfold zfail; rw [if_neg h]
    rw [e1]; exact .refl _ _
theorem Qt.use (z : ZS) (i : Nat) (u : Int × Int) : Qt L i z (zuse z i u) :=
  ⟨rfl, rfl, rfl, rfl, rfl, rfl, rfl, rfl, rfl, fun j hj => by show (z.uses.set i u)[j]? = _; rw [List.getElem?_set_ne (by omega)], by show (z.uses.set i u).length = _; rw [List.length_set], fun h => h, rfl, rfl, fun h => h⟩
theorem Qt.el {i : Nat} {z y : ZS} (h : Qt L i z y) : El L false i 0 0 z y where
  fn := h.fn
  lo := h.lo
  nx := by rw [h.nx]; exact Nat.le_refl _
  nm := by rw [h.nm]
  un := by unfold under; rw [h.nm, h.se]
  ex := fun _ => ⟨h.nm, h.se⟩
  fs := by rw [h.fs]; exact List.prefix_refl _
  ds := by rw [h.ds]; exact List.prefix_refl _
  dl := by rw [← dk_len, h.ds, dk_len, h.nx]; omega
  cn := by rw [h.cn, h.nc, h.nx]; omega
  us := fun j _ hj => h.us j hj
  fa := h.fa
  gs := fun _ => h.gs
theorem Qt.inv {c k i : Nat} {z y : ZS} (h : Qt L i z y) (hz : Inv L c k z) (hin : i < z.next) (hu : ∀ u, y.uses[i]? = some u → u.1 = 1 → 0 ≤ u.2 ∧ u.2 < z.declared.length) : Inv L c k y where
  ul := h.ul.trans hz.ul
  un := fun j hj hl => by rw [h.nx] at hj; rw [h.us j (by omega)]; exact hz.un j hj hl
  fn := by rw [h.fn, ← sk_len, h.fs, sk_len]; exact hz.fn
  ab := by rw [h.fs]; exact hz.ab
  se := by rw [h.fs, h.ds, h.se, h.fn]; exact hz.se
  dl := by rw [← dk_len, h.ds, dk_len, h.nx]; exact hz.dl
  cn := by rw [h.cn, h.nc, h.nx]; exact hz.cn
  lo := by rw [h.lo, h.nx]; exact hz.lo
  fy := h.fy hz.fy
  uf := fun j u hj h1 => by
    rw [← dk_len, h.ds, dk_len]
    by_cases e : j = i
    · subst e; exact hu u hj h1
    · rw [h.us j e] at hj; exact hz.uf j u hj h1

theorem sk_set {z : ZS} {g : Nat} {f : ZF} (hg : z.funs[g]? = some f) (f' : ZF) (h : (f'.node, f'.params, f'.about) = (f.node, f.params, f.about)) : (z.funs.set g f').map (fun f => (f.node, f.params, f.about)) = z.funs.map fun f => (f.node, f.params, f.about) := by
  apply List.ext_getElem?
  intro j
  rw [List.getElem?_map, List.getElem?_map, List.getElem?_set]
  split
  · next e =>
    subst e
    rw [if_pos (List.getElem?_eq_some_iff.1 hg).1, hg]
    simpa using h
  · rfl
theorem skn_set {z : ZS} {g : Nat} {f : ZF} (hg : z.funs[g]? = some f) (f' : ZF) (h : (f'.node, f'.params) = (f.node, f.params)) : (z.funs.set g f').map (fun f => (f.node, f.params)) = z.funs.map fun f => (f.node, f.params) := by
  apply List.ext_getElem?
  intro j
  rw [List.getElem?_map, List.getElem?_map, List.getElem?_set]
  split
  · next e =>
    subst e
    rw [if_pos (List.getElem?_eq_some_iff.1 hg).1, hg]
    simpa using h
  · rfl

theorem ztake_ok : ∀ (t : Nat) (z : ZS) (i g d : Nat) (e : ZD), g + 1 ≤ t → g < z.funs.length → (∀ (g : Nat) f, (sk z)[g]? = some f → 0 < g → f.2.2 < g) → z.declared[d]? = some e → Anc (sk z) g e.fn → g ≠ e.fn → i < L.length →
    ∃ k y, ztake t z i g d = some (k, y) ∧ Qt L i z y ∧ y.uses = z.uses
  | 0, z, i, g, d, e, ht, _, _, _, _, _, _ => by omega
  | t + 1, z, i, g, d, e, ht, hg, hab, hd, ha, hne, hi => by
    unfold ztake
    rw [List.getElem?_eq_getElem hg, hd]
    dsimp only
    cases hcm : z.funs[g].cm d with
    | some k => exact ⟨k, z, rfl, .refl _ _, rfl⟩
    | none =>
      dsimp only
      have hsg : (sk z)[g]? = some (z.funs[g].node, z.funs[g].params, z.funs[g].about) := by unfold sk; rw [List.getElem?_map, List.getElem?_eq_getElem hg]; rfl
      have h0 : g ≠ 0 ∧ Anc (sk z) z.funs[g].about e.fn := by
        cases ha with
        | refl => exact absurd rfl hne
        | up h1 h2 h3 =>
          rw [hsg] at h1
          cases h1
          exact ⟨by omega, h3⟩
      rw [if_neg h0.1]
      have hlt := hab g _ hsg (by omega)
      have hr : ∃ r : (Int × Int) × ZS, (if z.funs[g].about = e.fn then some (((1 : Int), e.slot), z) else (ztake t z i z.funs[g].about d).map fun r => (((0 : Int), r.1), r.2)) = some r ∧ Qt L i z r.2 ∧ r.2.uses = z.uses := by
        by_cases hae : z.funs[g].about = e.fn
        · rw [if_pos hae]; exact ⟨_, rfl, .refl _ _, rfl⟩
        · rw [if_neg hae]
          obtain ⟨k, y, h1, h2, h3⟩ := ztake_ok t z i z.funs[g].about d e (by simp only at hlt; omega) (by simp only at hlt; omega) hab hd h0.2 hae hi
          rw [h1]; exact ⟨_, rfl, h2, h3⟩
      obtain ⟨⟨c, y⟩, h1, h2, h3⟩ := hr
      rw [h1]
      simp only [Option.bind_some]
      have hgy : g < y.funs.length := by rw [← sk_len, h2.fs, sk_len]; exact hg
      rw [List.getElem?_eq_getElem hgy]
      dsimp only
      split
      · exact ⟨_, _, rfl, h2.trans (.fail _ hi (by decide)), by rw [zfail_uses]; exact h3⟩
      · refine ⟨_, _, rfl, h2.trans ⟨rfl, rfl, rfl, rfl, rfl, ?_, rfl, rfl, rfl, fun _ _ => rfl, rfl, fun h => h, rfl, ?_, fun h => h⟩, h3⟩
        · exact sk_set (z := y) (List.getElem?_eq_getElem hgy) _ rfl
        · exact skn_set (z := y) (List.getElem?_eq_getElem hgy) _ rfl

theorem dk_get {z : ZS} {k : Nat} {e : Nat × Int} (h : (dk z)[k]? = some e) : ∃ d, z.declared[k]? = some d ∧ d.fn = e.1 ∧ d.slot = e.2 := by
  unfold dk at h
  rw [List.getElem?_map] at h
  cases hd : z.declared[k]? with
  | none => rw [hd] at h; cases h
  | some d => rw [hd] at h; cases h; exact ⟨d, rfl, rfl, rfl⟩

theorem zmeans_ok {c k : Nat} {z : ZS} {i : Nat} {d : Int} (h : Inv L c k z) (hi : i < L.length) (hin : i < z.next) (hd : z.seen (zT L i) = some d) :
    ∃ y, zmeans z i d = some y ∧ Inv L c k y ∧ Qt L i z y := by
  obtain ⟨j, e, rfl, h1, h2⟩ := h.se _ _ hd
  obtain ⟨e', h3, h4, h5⟩ := dk_get h1
  have hjl : j < z.declared.length := (List.getElem?_eq_some_iff.1 h3).1
  have hil : i < z.uses.length := by rw [h.ul]; exact hi
  unfold zmeans
  rw [if_neg (by omega), Int.toNat_natCast, h3]
  dsimp only
  by_cases hf : e'.fn = z.fn
  · rw [if_pos hf]
    have hq : Qt L i z (zuse z i (1, (j : Int))) := .use _ _ _
    exact ⟨_, rfl, hq.inv h hin (fun u hu h1 => by
      have : (z.uses.set i (1, (j : Int)))[i]? = some u := hu
      rw [List.getElem?_set_self hil] at this
      cases this; simp; omega), hq⟩
  · rw [if_neg hf]
    have hdk : dk { z with declared := z.declared.set j { e' with taken := true } } = dk z := by
      unfold dk
      apply List.ext_getElem?
      intro x
      rw [List.getElem?_map, List.getElem?_map, List.getElem?_set]
      split
      · next ex => subst ex; rw [h3]; rfl
      · rfl
    have q1 : Qt L i z { z with declared := z.declared.set j { e' with taken := true } } := ⟨rfl, rfl, rfl, rfl, rfl, rfl, hdk, rfl, rfl, fun _ _ => rfl, rfl, fun h => h, rfl, rfl, fun h => h⟩
    obtain ⟨n, y, h6, h7, h8⟩ := ztake_ok (L := L) (z.funs.length + 1) { z with declared := z.declared.set j { e' with taken := true } } i z.fn j { e' with taken := true } (by have := h.fn; omega) h.fn h.ab (by
      show (z.declared.set j _)[j]? = _
      rw [List.getElem?_set_self hjl]) (by rw [← h4] at h2; exact h2) (fun e => hf e.symm) hi
    rw [h6]
    have q : Qt L i z (zuse y i (3, n)) := (q1.trans h7).trans (.use _ _ _)
    refine ⟨_, rfl, q.inv h hin (fun u hu h1 => ?_), q⟩
    have hyl : i < y.uses.length := by rw [h8]; exact hil
    have : (y.uses.set i (3, n))[i]? = some u := hu
    rw [List.getElem?_set_self hyl] at this
    cases this; cases h1

theorem zname_ok {c k : Nat} {z : ZS} {i : Nat} (h : Inv L c k z) (hi : i < L.length) (hin : i < z.next) :
    ∃ y, zname L A z i = some y ∧ Inv L c k y ∧ Qt L i z y := by
  have hil : i < z.uses.length := by rw [h.ul]; exact hi
  have use_case : ∀ (a n : Int), a ≠ 1 → ∃ y, some (zuse z i (a, n)) = some y ∧ Inv L c k y ∧ Qt L i z y := fun a n ha => by
    have hq : Qt L i z (zuse z i (a, n)) := .use _ _ _
    exact ⟨_, rfl, hq.inv h hin (fun u hu h1 => by
      have : (z.uses.set i (a, n))[i]? = some u := hu
      rw [List.getElem?_set_self hil] at this
      cases this; exact absurd h1 ha), hq⟩
  unfold zname
  cases hs : z.seen (zT L i) with
  | some d => exact zmeans_ok h hi hin hs
  | none =>
    dsimp only
    cases hA : A (zT L i) with
    | some n => exact use_case 4 n (by decide)
    | none =>
      dsimp only
      cases hp : primF (zT L i) with
      | some n => exact use_case 5 n (by decide)
      | none => exact ⟨_, rfl, zfail_Inv h hi, .fail _ hi (by decide)⟩

theorem zplain_ok {c k : Nat} {z : ZS} {i : Nat} (h : Inv L c k z) (hi : i < L.length) (hin : i < z.next) (h4 : (zN L i).1 = 4 → i + 1 < L.length) :
    ∃ y, zplain L A z i = some y ∧ Inv L c k y ∧ Qt L i z y := by
  have fail_case : ∀ e : Int, e ≠ 0 → ∃ y, some (zfail z i e) = some y ∧ Inv L c k y ∧ Qt L i z y := fun e he => ⟨_, rfl, zfail_Inv h hi, .fail _ hi he⟩
  have self_case : ∃ y, some z = some y ∧ Inv L c k y ∧ Qt L i z y := ⟨_, rfl, h, .refl _ _⟩
  unfold zplain
  split
  · next e =>
    unfold zset
    rw [if_pos (h4 e)]
    split
    · exact fail_case 8 (by decide)
    · exact self_case
  split
  · split
    · exact fail_case 6 (by decide)
    · exact self_case
  split
  · split
    · exact fail_case 6 (by decide)
    · exact self_case
  split
  · exact zname_ok h hi hin
  · exact self_case

/-- Out of a node that may declare. -/
theorem zleave_ok {st : Bool} {i c k j : Nat} {b e u : ZS} (hb : Inv L j k b) (hn : e.names = some fun _ => none) (hse : e.seen = b.seen) (hnc : e.nc = 0) (hct : e.cnt = b.cnt) (hnx : e.next = b.next) (hsk : sk b <+: sk e) (hdk : dk e = dk b) (hus : e.uses = b.uses) (hfa : e.fault = b.fault) (hgs : e.globals = b.globals)
    (hu : Inv L 0 0 u) (hr : El L st i c k e u) (hl : u.next ≤ 1001) : ∃ v, zleave u b = some v ∧ Inv L 0 0 v ∧ El L false i c k b v ∧ v.next = u.next ∧ v.fault = u.fault ∧ skn v = skn u ∧ v.uses = u.uses ∧ v.globals = u.globals := by
  have hcn := hu.cn
  have hrn := hr.nm
  rw [hn] at hrn
  have hbc := hb.cn
  have hrc := hr.cn
  have hrx := hr.nx
  obtain ⟨m, hm⟩ := Option.isSome_iff_exists.1 hrn
  have hun : unhide m u.seen = b.seen := by
    have h1 : under u = under e := hr.un
    unfold under at h1
    rw [hm, hn] at h1
    rw [← hse]
    exact h1
  unfold zleave
  rw [hm]
  dsimp only
  rw [if_pos (by omega), hun]
  have f1 : sk b <+: sk u := hsk.trans hr.fs
  have f2 : dk b <+: dk u := by rw [← hdk]; exact hr.ds
  refine ⟨_, rfl, ⟨hu.ul, hu.un, ?_, hu.ab, ?_, hu.dl, ?_, ⟨hb.lo.1, ?_⟩, hu.fy, hu.uf⟩, ⟨rfl, rfl, by rw [← hnx]; exact hr.nx, rfl, rfl, fun _ => ⟨rfl, rfl⟩, f1, f2, ?_, ?_, fun x hx hxi => by rw [← hus]; exact hr.us x (by rw [hnx]; exact hx) hxi, fun h => by rw [← hfa]; exact hr.fa h, fun _ => by rw [← hgs]; exact hr.gs (by rw [hn]; rfl)⟩, rfl, rfl, rfl, rfl, rfl⟩
  · have h1 := f1.length_le
    rw [sk_len, sk_len] at h1
    exact Nat.lt_of_lt_of_le hb.fn h1
  · intro s d hs
    obtain ⟨x, y, a1, a2, a3⟩ := hb.se s d hs
    exact ⟨x, y, a1, pre_get f2 a2, a3.mono f1⟩
  · show u.cnt + u.nc + b.nc + 2 + 2 * 0 ≤ 2 * u.next
    omega
  · show b.loops + 1 + ((0 : Nat) : Int) ≤ (u.next : Int)
    have := hb.lo.2
    omega
  · have h1 := hr.dl
    have h2 : e.declared.length = b.declared.length := by rw [← dk_len, hdk, dk_len]
    show u.declared.length + b.next ≤ b.declared.length + u.next + c
    omega
  · show u.cnt + u.nc + b.nc + 2 * b.next ≤ b.cnt + b.nc + 2 * u.next + 2 * k
    omega
end
end Go.Proofs.YtdhkcdehedbpcaaDoor

