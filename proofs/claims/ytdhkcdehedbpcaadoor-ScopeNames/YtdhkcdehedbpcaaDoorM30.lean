/- The resolver in memory: its functions. Nothing of the program's functions is in it. · The resolver in memory: what a function takes. Nothing of the program's functions is in it. · The resolver in memory: a function more. Nothing of the program's functions is in it. -/
import Derived.Test.YtdhkcdehedbpcaaDoorM29
set_option linter.unusedSimpArgs false
set_option linter.unusedVariables false
namespace Go.Proofs.YtdhkcdehedbpcaaDoor
open Go Go.RowKit
section
variable {w w' : World} {X : ZX} {z : ZS} {B : ZB}

structure FuM (w : World) (X : ZX) (B : ZB) (g fb fc : Nat) (k : FK) : Prop where
 kk : B.K[g]? = some k
 fv : B.fv = .slice (some ⟨fb, 0, none⟩) B.K.length fc
 c5 : w.cell? ⟨X.r, 5, none⟩ = some (.slice (some ⟨fb, 0, none⟩) B.K.length fc)
 c : ∀ j, j < 6 → w.cell? ⟨fb, g * 6 + j, none⟩ = (fkC k)[j]?
 lt : fb < w.heap.size
 fz : ∀ j, w.frozen? ⟨fb, j, none⟩ = false
 ρ : B.ρ fb = 2
 ne : fb ≠ X.r
 gl : g < B.K.length

theorem RS.fu (h : RS w X z B) {g : Nat} {f : ZF} (hg : z.funs[g]? = some f) : ∃ fb fc k, FuM w X B g fb fc k ∧ k.f = f := by
 have hkf := h.x.kf
 rw [← hkf, List.getElem?_map] at hg
 obtain ⟨k, hk, rfl⟩ := Option.map_eq_some_iff.1 hg
 have hgl : g < B.K.length := (List.getElem?_eq_some_iff.1 hk).1
 obtain ⟨hu, hr⟩ := h.x.funs (by decide)
 obtain ⟨fb, fc, hue, hul, huf, huc⟩ := own_some hu (by omega)
 have hρ : B.ρ fb = 2 := hr fb (by rw [hue]; rfl)
 refine ⟨fb, fc, k, ⟨hk, hue, ?_, fun j hj => ?_, hul, huf, hρ, (fun e => by rw [e, h.x.rr] at hρ; cases hρ), hgl⟩, rfl⟩
 ·have := h.blk.cell 5
  rw [this]
  exact congrArg some hue
 ·rw [huc _ (by omega)]
  exact flat_get8 fkC 6 fkC_len B.K g j k hk hj

theorem RS.fu2 (h : RS w X z B) {g fb fc n : Nat} {k : FK} (hk : B.K[g]? = some k) (hv : B.fv = .slice (some ⟨fb, 0, none⟩) n fc) : FuM w X B g fb fc k := by
 have hg : z.funs[g]? = some k.f := by rw [← h.x.kf, List.getElem?_map, hk]; rfl
 obtain ⟨fb', fc', k', h1, h2⟩ := h.fu hg
 have e1 := h1.fv
 rw [hv] at e1
 cases e1
 have e2 := h1.kk
 rw [hk] at e2
 cases e2
 exact h1

theorem RS.setF (h : RS w X z B) {g fb fc j : Nat} {k : FK} (hm : FuM w X B g fb fc k) (hj : j < 6) {f' : ZF} {v : Value} (hc : fkC { k with f := f' } = (fkC k).set j v) (h1 : f'.caps = k.f.caps) (h2 : f'.cm = k.f.cm) (h3 : 0 ≤ f'.slots ∧ f'.slots ≤ 256) :
  RS (w.setCell ⟨fb, g * 6 + j, none⟩ v) X { z with funs := z.funs.set g f' } { B with K := B.K.set g { k with f := f' } } ∧ NX B.ρ w (w.setCell ⟨fb, g * 6 + j, none⟩ v) B.ρ := by
 obtain ⟨t1, t2, t3⟩ := h.turn (grown_set w fb (g * 6 + j) v) hm.ρ (by decide) (by decide)
 obtain ⟨hu, hr⟩ := h.x.funs (by decide)
 have hgl := hm.gl
 have hkk := hm.kk
 rw [hm.fv] at hu
 have hrow := own_setIn hu (j := g * 6 + j) (by omega) v
 have e1 : (rowK B.K).set (g * 6 + j) v = rowK (B.K.set g { k with f := f' }) := (flat_set1 fkC 6 fkC_len j hj v B.K g k _ hkk hc).symm
 rw [e1] at hrow
 have hget : ∀ i q, (B.K.set g { k with f := f' })[i]? = some q → (i = g ∧ q = { k with f := f' }) ∨ (i ≠ g ∧ B.K[i]? = some q) := by
  intro i q hq
  by_cases e : i = g
  ·subst e
   rw [List.getElem?_set_self hgl] at hq
   exact .inl ⟨rfl, (Option.some.inj hq).symm⟩
  ·rw [List.getElem?_set_ne (Ne.symm e)] at hq
   exact .inr ⟨e, hq⟩
 refine ⟨⟨t1, ?_⟩, t3⟩
 refine ⟨t2.rr, t2.rl, fun _ => ?_, fun _ => t2.uses (by decide), fun _ => t2.globs (by decide), fun _ => t2.decl (by decide), fun _ => t2.seen (by decide), fun _ => t2.nams (by decide), fun i q hq _ => ?_, fun q hq => ?_, fun i q hq hi _ => ?_, t2.nc, t2.ah, t2.pr, t2.top, ?_, t2.ul, t2.nl, t2.ll, ?_, ?_⟩
 ·refine ⟨?_, hr⟩
  show World.ownsRow _ 0 118 6 B.fv (B.K.set g { k with f := f' }).length _
  rw [List.length_set, hm.fv]
  exact hrow
 ·rcases hget i q hq with ⟨rfl, rfl⟩ | ⟨_, hq'⟩
  ·have := t2.caps i k hkk (by omega)
   simp only
   rw [h1]
   exact this
  ·exact t2.caps i q hq' (by omega)
 ·rcases hget 0 q hq with ⟨e, rfl⟩ | ⟨_, hq'⟩
  ·subst e
   have := t2.map0 k hkk
   simp only
   rw [h2]
   exact this
  ·exact t2.map0 q hq'
 ·rcases hget i q hq with ⟨rfl, rfl⟩ | ⟨_, hq'⟩
  ·have := t2.maps i k hkk hi (by omega)
   simp only
   rw [h1, h2]
   exact this
  ·exact t2.maps i q hq' hi (by omega)
 ·simp only
  rw [List.map_set, t2.kf]
 ·have := t2.bd
  simp only [List.length_set]
  exact this
 ·intro f hf
  rcases List.mem_or_eq_of_mem_set hf with hf | rfl
  ·exact t2.bf f hf
  ·have hmem : k.f ∈ z.funs := by
    rw [← t2.kf]
    exact List.mem_map_of_mem (List.mem_of_getElem? hkk)
   refine ⟨h3.1, h3.2, ?_⟩
   rw [h1]
   exact (t2.bf _ hmem).2.2

structure DeM (w : World) (X : ZX) (z : ZS) (B : ZB) (d db dc : Nat) (e : ZD) : Prop where
 kk : z.declared[d]? = some e
 dv : B.dv = .slice (some ⟨db, 0, none⟩) z.declared.length dc
 c9 : w.cell? ⟨X.r, 9, none⟩ = some (.slice (some ⟨db, 0, none⟩) z.declared.length dc)
 c : ∀ j, j < 3 → w.cell? ⟨db, d * 3 + j, none⟩ = (zdC e)[j]?
 lt : db < w.heap.size
 fz : ∀ j, w.frozen? ⟨db, j, none⟩ = false
 ρ : B.ρ db = 5
 ne : db ≠ X.r
 gl : d < z.declared.length
theorem RS.de (h : RS w X z B) {d : Nat} {e : ZD} (hk : z.declared[d]? = some e) : ∃ db dc, DeM w X z B d db dc e := by
 have hgl : d < z.declared.length := (List.getElem?_eq_some_iff.1 hk).1
 obtain ⟨hu, hr⟩ := h.x.decl (by decide)
 obtain ⟨db, dc, hue, hul, huf, huc⟩ := own_some hu (by omega)
 have hρ : B.ρ db = 5 := hr db (by rw [hue]; rfl)
 refine ⟨db, dc, hk, hue, ?_, fun j hj => ?_, hul, huf, hρ, (fun e => by rw [e, h.x.rr] at hρ; cases hρ), hgl⟩
 ·have := h.blk.cell 9
  rw [this]
  exact congrArg some hue
 ·rw [huc _ (by omega)]
  exact flat_get8 zdC 3 zdC_len z.declared d j e hk hj
theorem RS.taken (h : RS w X z B) {d db dc : Nat} {e : ZD} (hm : DeM w X z B d db dc e) :
  RS (w.setCell ⟨db, d * 3 + 2, none⟩ (.bool true)) X { z with declared := z.declared.set d { e with taken := true } } B ∧ NX B.ρ w (w.setCell ⟨db, d * 3 + 2, none⟩ (.bool true)) B.ρ := by
 obtain ⟨t1, t2, t3⟩ := h.turn (grown_set w db (d * 3 + 2) (.bool true)) hm.ρ (by decide) (by decide)
 obtain ⟨hu, hr⟩ := h.x.decl (by decide)
 have hgl := hm.gl
 have hdv := hm.dv
 rw [hdv] at hu
 have hrow := own_setIn hu (j := d * 3 + 2) (by omega) (.bool true)
 have e1 : (rowD z.declared).set (d * 3 + 2) (.bool true) = rowD (z.declared.set d { e with taken := true }) := (flat_set1 zdC 3 zdC_len 2 (by decide) (.bool true) z.declared d e _ hm.kk rfl).symm
 rw [e1] at hrow
 refine ⟨⟨t1, ?_⟩, t3⟩
 have h4 := t2.declc (ds := z.declared.set d { e with taken := true }) (v := B.dv) (by rw [List.length_set, hdv]; exact hrow) hr (by rw [List.length_set]; exact h.x.bd.2.2.1)
 exact h4

end
end Go.Proofs.YtdhkcdehedbpcaaDoor

namespace Go.Proofs.YtdhkcdehedbpcaaDoor
open Go Go.RowKit

theorem MI.mono {w : World} {b n m : Nat} {M : Int → Option Int} (h : MI w b M n) (e : n ≤ m) : MI w b M m := by
 obtain ⟨D, h1, h2⟩ := h
 exact ⟨D, h1.mono e, h2⟩
theorem MI.look {w : World} {b n : Nat} {M : Int → Option Int} (h : MI w b M n) {t : Int} (ht : (Lit.int .i64 t).wf = true) : (Instr.lookup 116 (.map (some b)) (.int .i64 t) true).run Tryd.prog w = .ok (.tuple #[.int .i64 ((M t).getD 0), .bool (M t).isSome]) w := by
 obtain ⟨D, h1, h2⟩ := h
 obtain ⟨v, ps, hr, hv⟩ := h1.look_ok key3 undMi (zero3 _) (plainElem_int (H := Unit) int3 (by decide)) (key_int ht)
 obtain ⟨c, rfl, hc, hwc⟩ := plainElem_int_inv int3 hv
 rw [hr, h2.has]
 have hat : D.atKey (.int .i64 t) (.lit (.int .i64 0)) = .lit (.int .i64 c) := congrArg Prod.fst hc
 cases hm : M t with
 | none =>
  rw [Maps.atKey_of_not_has (by rw [h2.has, hm]; rfl)] at hat
  cases hat; rfl
 | some x =>
  rw [h2.at_ t x hm] at hat
  cases hat; rfl
theorem MI.store {w : World} {b n : Nat} {M : Int → Option Int} (h : MI w b M n) {t : Int} (ht : (Lit.int .i64 t).wf = true) (hn : n ≤ 1000000) (x : Int) (hx : (Lit.int .i64 x).wf = true) : ∃ w', (Instr.mapUpdate 116 (.map (some b)) (.int .i64 t) (.int .i64 x)).run Tryd.prog w = .ok () w' ∧ MI w' b (mputI M t x) (n + 1) ∧ w.mapTurned w' b := by
 obtain ⟨D, h1, h2⟩ := h
 obtain ⟨w', r1, r2, r3⟩ := h1.store key3 undMi (by unfold maxLen; omega) (key_int ht) (plainElem_int int3 hx)
 exact ⟨w', r1, ⟨_, r2, h2.put t x⟩, r3⟩

theorem flat_setId {α : Type} (f : α → List Value) : ∀ (l : List α) (i : Nat) (a b : α), l[i]? = some a → f b = f a → (l.set i b).flatMap f = l.flatMap f
 | [], i, a, b, h, _ => by simp at h
 | c :: l, 0, a, b, h, hb => by
  simp at h
  subst h
  rw [List.set_cons_zero, List.flatMap_cons, List.flatMap_cons, hb]
 | c :: l, i + 1, a, b, h, hb => by
  simp at h
  rw [List.set_cons_succ, List.flatMap_cons, List.flatMap_cons, flat_setId f l i a b h hb]

theorem set_get {α : Type} {l : List α} {g i : Nat} {k' q : α} (hgl : g < l.length) (hq : (l.set g k')[i]? = some q) : (i = g ∧ q = k') ∨ (i ≠ g ∧ l[i]? = some q) := by
 by_cases e : i = g
 ·subst e
  rw [List.getElem?_set_self hgl] at hq
  exact .inl ⟨rfl, (Option.some.inj hq).symm⟩
 ·rw [List.getElem?_set_ne (Ne.symm e)] at hq
  exact .inr ⟨e, hq⟩

section
variable {w w' : World} {X : ZX} {z : ZS} {B : ZB}

theorem RS.capApp (h : RS w X z B) {g fb fc : Nat} {k : FK} (hm : FuM w X B g fb fc k) {v' : Value} (c : Int × Int) (hl : k.f.caps.length < 256) (ho : w'.ownsRow 0 59 2 v' (k.f.caps.length + 1) (rowP k.f.caps ++ prC c)) (hg : w.grownBy w' k.cv.ownBlock) (hvb : v'.ownBlock = k.cv.ownBlock ∨ ∀ b, v'.ownBlock = some b → w.heap.size ≤ b) :
  RS (w'.setCell ⟨fb, g * 6 + 3, none⟩ v') X { z with funs := z.funs.set g { k.f with caps := k.f.caps ++ [c] } } { B with K := B.K.set g ⟨{ k.f with caps := k.f.caps ++ [c] }, v', k.mv⟩, ρ := upd B.ρ v' (8 + 2 * g) } ∧ NX B.ρ w (w'.setCell ⟨fb, g * 6 + 3, none⟩ v') (upd B.ρ v' (8 + 2 * g)) ∧
  w'.cell? ⟨fb, g * 6 + 3, none⟩ = some k.cv ∧ fb < w'.heap.size ∧ w'.frozen? ⟨fb, g * 6 + 3, none⟩ = false ∧ (∀ b, b < w.heap.size → B.ρ b ≠ 2 → B.ρ b ≠ 8 + 2 * g → (w'.setCell ⟨fb, g * 6 + 3, none⟩ v').heap[b]? = w.heap[b]?) := by
 have hx := h.x
 have hkk := hm.kk
 have hgl := hm.gl
 obtain ⟨hcr, hcρ⟩ := hx.caps g k hkk (by omega)
 have keep : ∀ b, b < w.heap.size → B.ρ b ≠ 8 + 2 * g → w'.heap[b]? = w.heap[b]? := fun b hb hr => hg.block b hb (fun e => hr (hcρ b e.symm))
 have hsz : (w'.setCell ⟨fb, g * 6 + 3, none⟩ v').heap.size = w'.heap.size := by simp
 have same : ∀ b, b < w.heap.size → B.ρ b ≠ 2 → B.ρ b ≠ 8 + 2 * g → (w'.setCell ⟨fb, g * 6 + 3, none⟩ v').heap[b]? = w.heap[b]? := fun b hb h2 h8 =>
  (Below.heap_setCell w' _ v' b (fun e => h2 (by rw [show b = fb from e]; exact hm.ρ))).trans (keep b hb h8)
 have hρ : ∀ b, b < w.heap.size → upd B.ρ v' (8 + 2 * g) b = B.ρ b := fun b hb => by
  unfold upd
  split
  ·rename_i e
   rcases hvb with h2 | h2
   ·exact (hcρ b (h2 ▸ e)).symm
   ·have := h2 b e; omega
  ·rfl
 have row : ∀ {j e size n : Nat} {v : Value} {xs : List Value}, w.ownsRow 0 e size v n xs ∧ (∀ b, v.ownBlock = some b → B.ρ b = j) → j ≠ 2 → j ≠ 8 + 2 * g → (w'.setCell ⟨fb, g * 6 + 3, none⟩ v').ownsRow 0 e size v n xs ∧ (∀ b, v.ownBlock = some b → upd B.ρ v' (8 + 2 * g) b = j) := by
  intro j e size n v xs h1 h2 h8
  exact ⟨own_keep8 h1.1 (fun b hb => same b (h1.1.lt b hb).2 (by rw [h1.2 b hb]; exact h2) (by rw [h1.2 b hb]; exact h8)), fun b hb => (hρ b (h1.1.lt b hb).2).trans (h1.2 b hb)⟩
 have hrow : (w'.setCell ⟨fb, g * 6 + 3, none⟩ v').ownsRow 0 118 6 (.slice (some ⟨fb, 0, none⟩) B.K.length fc) B.K.length (rowK (B.K.set g ⟨{ k.f with caps := k.f.caps ++ [c] }, v', k.mv⟩)) := by
  have h1 := (hx.funs (by decide)).1
  rw [hm.fv] at h1
  have h2 : w'.ownsRow 0 118 6 (.slice (some ⟨fb, 0, none⟩) B.K.length fc) B.K.length (rowK B.K) := own_keep8 h1 (fun b hb => keep b (h1.lt b hb).2 (by cases hb; rw [hm.ρ]; omega))
  have h3 := own_setIn h2 (j := g * 6 + 3) (by omega) v'
  rw [show (rowK B.K).set (g * 6 + 3) v' = rowK (B.K.set g ⟨{ k.f with caps := k.f.caps ++ [c] }, v', k.mv⟩) from (flat_set1 fkC 6 fkC_len 3 (by decide) v' B.K g k _ hkk rfl).symm] at h3
  exact h3
 have hfb : fb ≠ X.r := hm.ne
 have kfb := keep fb hm.lt (by rw [hm.ρ]; omega)
 refine ⟨⟨(h.blk.keep (keep _ hx.rl (by rw [hx.rr]; omega))).other hfb _, ?_⟩, ⟨hg.os, hg.tape, hg.output, by rw [hsz]; exact hg.size, fun b hb h0 => same b hb (by rw [h0]; decide) (by rw [h0]; omega), fun b hb h0 => (hρ b hb).trans h0⟩, ?_, Nat.lt_of_lt_of_le hm.lt hg.size, ?_, same⟩
 ·refine ⟨(hρ _ hx.rl).trans hx.rr, by rw [hsz]; exact Nat.lt_of_lt_of_le hx.rl hg.size, fun _ => ⟨?_, fun b hb => (hρ b ((hx.funs (by decide)).1.lt b hb).2).trans ((hx.funs (by decide)).2 b hb)⟩, fun _ => row (hx.uses (by decide)) (by decide) (by omega), fun _ => row (hx.globs (by decide)) (by decide) (by omega), fun _ => row (hx.decl (by decide)) (by decide) (by omega), fun _ => ?_, fun _ m hmm => ?_, fun i q hq _ => ?_, fun q hq => ?_, fun i q hq hi _ => ?_, ⟨hx.nc.1.keep (by rw [hsz]; exact hg.size) (same _ hx.nc.1.lt (by rw [hx.nc.2]; decide) (by rw [hx.nc.2]; omega)), (hρ _ hx.nc.1.lt).trans hx.nc.2⟩, ⟨hx.ah.1.keep (same _ hx.ah.1.lt (by rw [hx.ah.2]; decide) (by rw [hx.ah.2]; omega)), (hρ _ hx.ah.1.lt).trans hx.ah.2⟩, ⟨hx.pr.1.keep (by rw [hsz]; exact hg.size) (same _ hx.pr.1.1 (by rw [hx.pr.2]; decide) (by rw [hx.pr.2]; omega)), (hρ _ hx.pr.1.1).trans hx.pr.2⟩, fun b hb => ?_, ?_, hx.ul, hx.nl, hx.ll, ?_, ?_⟩
  ·simp only [List.length_set]
   rw [hm.fv]
   exact hrow
  ·obtain ⟨h1, h2⟩ := hx.seen (by decide)
   exact ⟨h1.keep (same _ h1.lt (by rw [h2]; decide) (by rw [h2]; omega)), (hρ _ h1.lt).trans h2⟩
  ·obtain ⟨h1, h2⟩ := hx.nams (by decide) m hmm
   exact ⟨h1.keep (same _ h1.lt (by rw [h2]; decide) (by rw [h2]; omega)), (hρ _ h1.lt).trans h2⟩
  ·rcases set_get hgl hq with ⟨rfl, rfl⟩ | ⟨hi, hq'⟩
   ·refine ⟨?_, fun b hb => upd_own _ _ _ _ hb⟩
    simp only [List.length_append, List.length_cons, List.length_nil]
    have e1 : rowP (k.f.caps ++ [c]) = rowP k.f.caps ++ prC c := by unfold rowP; rw [List.flatMap_append, List.flatMap_singleton]
    rw [e1]
    refine own_keep8 ho (fun b hb => Below.heap_setCell w' _ v' b (fun e => ?_))
    have e : b = fb := e
    rcases hvb with h2 | h2
    ·have := hcρ b (h2 ▸ hb)
     rw [e, hm.ρ] at this
     omega
    ·have := h2 b hb
     have := hm.lt
     omega
   ·exact row (hx.caps i q hq' (by omega)) (by omega) (by omega)
  ·rcases set_get hgl hq with ⟨e, rfl⟩ | ⟨hi, hq'⟩
   ·subst e
    exact hx.map0 k hkk
   ·exact hx.map0 q hq'
  ·have mp : ∀ q', B.K[i]? = some q' → ∃ b, q'.mv = .map (some b) ∧ MI (w'.setCell ⟨fb, g * 6 + 3, none⟩ v') b q'.f.cm q'.f.caps.length ∧ upd B.ρ v' (8 + 2 * g) b = 9 + 2 * i := by
    intro q' hq'
    obtain ⟨b, h1, h2, h3⟩ := hx.maps i q' hq' hi (by omega)
    exact ⟨b, h1, h2.keep (same _ h2.lt (by rw [h3]; omega) (by rw [h3]; omega)), (hρ _ h2.lt).trans h3⟩
   rcases set_get hgl hq with ⟨rfl, rfl⟩ | ⟨hi2, hq'⟩
   ·obtain ⟨b, h1, h2, h3⟩ := mp k hkk
    exact ⟨b, h1, h2.mono (by simp), h3⟩
   ·exact mp q hq'
  ·rw [hsz] at hb
   show upd B.ρ v' (8 + 2 * g) b = 0
   unfold upd
   rw [if_neg (fun e => by have := (ho.lt b e).2; omega)]
   exact hx.top b (Nat.le_trans hg.size hb)
  ·simp only
   rw [List.map_set, hx.kf]
  ·have := hx.bd
   simp only [List.length_set]
   exact this
  ·intro f hf
   rcases List.mem_or_eq_of_mem_set hf with hf | rfl
   ·exact hx.bf f hf
   ·have hmem : k.f ∈ z.funs := by
     rw [← hx.kf]
     exact List.mem_map_of_mem (List.mem_of_getElem? hkk)
    have hb := hx.bf _ hmem
    simp only [List.length_append, List.length_cons, List.length_nil]
    omega
 ·have h1 : w.cell? ⟨fb, g * 6 + 3, none⟩ = some k.cv := hm.c 3 (by decide)
  rw [← h1]
  exact World.cell?_of_block (a := ⟨fb, g * 6 + 3, none⟩) kfb
 ·rw [← hm.fz (g * 6 + 3)]
  exact World.frozen?_of_block (a := ⟨fb, g * 6 + 3, none⟩) kfb

theorem RS.capMap (h : RS w X z B) {g b : Nat} {k : FK} (hkk : B.K[g]? = some k) (hg0 : 0 < g) (hmv : k.mv = .map (some b)) (ht : w.mapTurned w' b) {M : Int → Option Int} (hM : MI w' b M k.f.caps.length) :
  RS w' X { z with funs := z.funs.set g { k.f with cm := M } } { B with K := B.K.set g ⟨{ k.f with cm := M }, k.cv, k.mv⟩ } ∧ NX B.ρ w w' B.ρ := by
 obtain ⟨b', h1, h2, h3⟩ := h.x.maps g k hkk hg0 (by omega)
 rw [hmv] at h1
 cases h1
 obtain ⟨t1, t2, t3⟩ := h.turn ht.grown h3 (by omega) (by omega)
 have hgl : g < B.K.length := (List.getElem?_eq_some_iff.1 hkk).1
 refine ⟨⟨t1, ?_⟩, t3⟩
 refine ⟨t2.rr, t2.rl, fun _ => ?_, fun _ => t2.uses (by omega), fun _ => t2.globs (by omega), fun _ => t2.decl (by omega), fun _ => t2.seen (by omega), fun _ => t2.nams (by omega), fun i q hq _ => ?_, fun q hq => ?_, fun i q hq hi _ => ?_, t2.nc, t2.ah, t2.pr, t2.top, ?_, t2.ul, t2.nl, t2.ll, ?_, ?_⟩
 ·obtain ⟨a1, a2⟩ := t2.funs (by omega)
  refine ⟨?_, a2⟩
  simp only [List.length_set]
  rw [show rowK (B.K.set g ⟨{ k.f with cm := M }, k.cv, k.mv⟩) = rowK B.K from flat_setId fkC B.K g k _ hkk rfl]
  exact a1
 ·rcases set_get hgl hq with ⟨rfl, rfl⟩ | ⟨hi, hq'⟩
  ·exact t2.caps i k hkk (by omega)
  ·exact t2.caps i q hq' (by omega)
 ·rcases set_get hgl hq with ⟨e, rfl⟩ | ⟨hi, hq'⟩
  ·omega
  ·exact t2.map0 q hq'
 ·rcases set_get hgl hq with ⟨rfl, rfl⟩ | ⟨hi2, hq'⟩
  ·exact ⟨b, hmv, hM, h3⟩
  ·exact t2.maps i q hq' hi (by omega)
 ·simp only
  rw [List.map_set, t2.kf]
 ·have := t2.bd
  simp only [List.length_set]
  exact this
 ·intro f hf
  rcases List.mem_or_eq_of_mem_set hf with hf | rfl
  ·exact t2.bf f hf
  ·have hmem : k.f ∈ z.funs := by
    rw [← t2.kf]
    exact List.mem_map_of_mem (List.mem_of_getElem? hkk)
   have := t2.bf k.f hmem
   exact this

end
end Go.Proofs.YtdhkcdehedbpcaaDoor

namespace Go.Proofs.YtdhkcdehedbpcaaDoor
open Go Go.RowKit
section
variable {w0 w w' : World} {X : ZX} {z : ZS} {B : ZB}

def funρ (ρ : Nat → Nat) (v : Value) (mb n : Nat) : Nat → Nat := fun b => if v.ownBlock = some b then 2 else if b = mb then 9 + 2 * n else ρ b

theorem funρ_own (ρ : Nat → Nat) (v : Value) (mb n b : Nat) (h : v.ownBlock = some b) : funρ ρ v mb n b = 2 := by unfold funρ; rw [if_pos h]

theorem RS.funApp (h : RS w X z B) {mb : Nat} (hbw : Bw w0 w) (hmb0 : w0.heap.size ≤ mb) (hM : MI w mb (fun _ => none) 0) (hmρ : B.ρ mb = 0) (hmg : X.g ≠ mb) (hma : X.ab ≠ mb) (hmp : 0 ≠ mb) {v v' : Value} (hv : B.fv = v) (f : ZF) (hfc : f.caps = []) (hfm : f.cm = fun _ => none) (hfs : f.slots = 0) {n : Nat} (hn : B.K.length = n) (hl : n < 1024)
  (ho : w'.ownsRow 0 118 6 v' (n + 1) (rowK B.K ++ fkC ⟨f, .slice none 0 0, .map (some mb)⟩)) (hg : w.grownBy w' v.ownBlock) (hvb : v'.ownBlock = v.ownBlock ∨ ∀ b, v'.ownBlock = some b → w.heap.size ≤ b) (hn0 : 0 < n) :
  RS (w'.setCell ⟨X.r, 5, none⟩ v') X { z with funs := z.funs ++ [f] } { B with K := B.K ++ [⟨f, .slice none 0 0, .map (some mb)⟩], fv := v', ρ := funρ B.ρ v' mb n } ∧ NX B.ρ w0 (w'.setCell ⟨X.r, 5, none⟩ v') (funρ B.ρ v' mb n) ∧
  w'.cell? ⟨X.r, 5, none⟩ = some v ∧ X.r < w'.heap.size ∧ w'.frozen? ⟨X.r, 5, none⟩ = false := by
 subst hv hn
 have hx := h.x
 obtain ⟨hu, hr⟩ := hx.funs (by decide)
 have keep : ∀ b, b < w.heap.size → B.ρ b ≠ 2 → w'.heap[b]? = w.heap[b]? := fun b hb hr2 => hg.block b hb (fun e => hr2 (hr b e.symm))
 have hsz : (w'.setCell ⟨X.r, 5, none⟩ v').heap.size = w'.heap.size := by simp
 have same : ∀ b, b < w.heap.size → B.ρ b ≠ 2 → B.ρ b ≠ 1 → (w'.setCell ⟨X.r, 5, none⟩ v').heap[b]? = w.heap[b]? := fun b hb h2 h1 =>
  (Below.heap_setCell w' _ v' b (fun e => h1 (by rw [show b = X.r from e]; exact hx.rr))).trans (keep b hb h2)
 have hρ : ∀ b, b < w.heap.size → b ≠ mb → funρ B.ρ v' mb B.K.length b = B.ρ b := fun b hb hne => by
  unfold funρ
  split
  ·rename_i e
   rcases hvb with h2 | h2
   ·exact (hr b (h2 ▸ e)).symm
   ·have := h2 b e; omega
  ·first | rfl | rw [if_neg hne]
 have ne : ∀ {b j : Nat}, B.ρ b = j → j ≠ 0 → b ≠ mb := fun e hj k => hj (by rw [← e, k]; exact hmρ)
 have row : ∀ {j e size n : Nat} {v : Value} {xs : List Value}, w.ownsRow 0 e size v n xs ∧ (∀ b, v.ownBlock = some b → B.ρ b = j) → j ≠ 2 → j ≠ 1 → j ≠ 0 → (w'.setCell ⟨X.r, 5, none⟩ v').ownsRow 0 e size v n xs ∧ (∀ b, v.ownBlock = some b → funρ B.ρ v' mb B.K.length b = j) := by
  intro j e size n v xs h1 h2 h8 h0
  exact ⟨own_keep8 h1.1 (fun b hb => same b (h1.1.lt b hb).2 (by rw [h1.2 b hb]; exact h2) (by rw [h1.2 b hb]; exact h8)), fun b hb => (hρ b (h1.1.lt b hb).2 (ne (h1.2 b hb) h0)).trans (h1.2 b hb)⟩
 have hmlt := hM.lt
 have hvm : ∀ b, v'.ownBlock = some b → b ≠ mb := fun b e k => by
  rcases hvb with h2 | h2
  ·have := hr b (h2 ▸ e); rw [k, hmρ] at this; cases this
  ·have := h2 b e; omega
 have hmr : funρ B.ρ v' mb B.K.length mb = 9 + 2 * B.K.length := by
  unfold funρ
  rw [if_neg (fun e => hvm mb e rfl), if_pos rfl]
 have hfl : B.K.length = z.funs.length := by rw [← hx.kf, List.length_map]
 have kr := keep X.r hx.rl (by rw [hx.rr]; decide)
 have hget : ∀ i q, (B.K ++ [⟨f, .slice none 0 0, .map (some mb)⟩])[i]? = some q → (i = B.K.length ∧ q = ⟨f, .slice none 0 0, .map (some mb)⟩) ∨ B.K[i]? = some q := by
  intro i q hq
  by_cases hi : i < B.K.length
  ·rw [List.getElem?_append_left hi] at hq
   exact .inr hq
  ·rw [List.getElem?_append_right (by omega)] at hq
   have hi2 : i - B.K.length < 1 := (List.getElem?_eq_some_iff.1 hq).1
   have : i = B.K.length := by omega
   subst this
   simp at hq
   exact .inl ⟨rfl, hq.symm⟩
 refine ⟨⟨(h.blk.keep kr).set 5 v', ?_⟩, ⟨hg.os.trans hbw.os, hg.tape.trans hbw.tape, hg.output.trans hbw.output, by rw [hsz]; exact Nat.le_trans hbw.size hg.size, fun b hb h0 => ?_, fun b hb h0 => ?_⟩, ?_, Nat.lt_of_lt_of_le hx.rl hg.size, ?_⟩
 ·refine ⟨(hρ _ hx.rl (ne hx.rr (by decide))).trans hx.rr, by rw [hsz]; exact Nat.lt_of_lt_of_le hx.rl hg.size, fun _ => ⟨?_, fun b hb => funρ_own _ _ _ _ _ hb⟩, fun _ => row (hx.uses (by decide)) (by decide) (by decide) (by decide), fun _ => row (hx.globs (by decide)) (by decide) (by decide) (by decide), fun _ => row (hx.decl (by decide)) (by decide) (by decide) (by decide), fun _ => ?_, fun _ m hmm => ?_, fun i q hq _ => ?_, fun q hq => ?_, fun i q hq hi _ => ?_, ⟨hx.nc.1.keep (by rw [hsz]; exact hg.size) (same _ hx.nc.1.lt (by rw [hx.nc.2]; decide) (by rw [hx.nc.2]; decide)), (hρ _ hx.nc.1.lt hmg).trans hx.nc.2⟩, ⟨hx.ah.1.keep (same _ hx.ah.1.lt (by rw [hx.ah.2]; decide) (by rw [hx.ah.2]; decide)), (hρ _ hx.ah.1.lt hma).trans hx.ah.2⟩, ⟨hx.pr.1.keep (by rw [hsz]; exact hg.size) (same _ hx.pr.1.1 (by rw [hx.pr.2]; decide) (by rw [hx.pr.2]; decide)), (hρ _ hx.pr.1.1 hmp).trans hx.pr.2⟩, fun b hb => ?_, ?_, hx.ul, hx.nl, hx.ll, ?_, ?_⟩
  ·simp only [List.length_append, List.length_cons, List.length_nil]
   rw [show rowK (B.K ++ [⟨f, .slice none 0 0, .map (some mb)⟩]) = rowK B.K ++ fkC ⟨f, .slice none 0 0, .map (some mb)⟩ from by unfold rowK; rw [List.flatMap_append, List.flatMap_singleton]]
   refine own_keep8 ho (fun b hb => Below.heap_setCell w' _ v' b (fun e => ?_))
   have e : b = X.r := e
   rcases hvb with h2 | h2
   ·have := hr b (h2 ▸ hb)
    rw [e, hx.rr] at this
    cases this
   ·have := h2 b hb
    have := hx.rl
    omega
  ·obtain ⟨h1, h2⟩ := hx.seen (by decide)
   exact ⟨h1.keep (same _ h1.lt (by rw [h2]; decide) (by rw [h2]; decide)), (hρ _ h1.lt (ne h2 (by decide))).trans h2⟩
  ·obtain ⟨h1, h2⟩ := hx.nams (by decide) m hmm
   exact ⟨h1.keep (same _ h1.lt (by rw [h2]; decide) (by rw [h2]; decide)), (hρ _ h1.lt (ne h2 (by decide))).trans h2⟩
  ·rcases hget i q hq with ⟨rfl, rfl⟩ | hq'
   ·simp only
    rw [hfc]
    exact ⟨World.ownsRow_nil _ 0 59 2, fun b hb => by cases hb⟩
   ·exact row (hx.caps i q hq' (by omega)) (by omega) (by omega) (by omega)
  ·rcases hget 0 q hq with ⟨e, rfl⟩ | hq'
   ·omega
   ·exact hx.map0 q hq'
  ·rcases hget i q hq with ⟨rfl, rfl⟩ | hq'
   ·refine ⟨mb, rfl, ?_, hmr⟩
    simp only
    rw [hfc, hfm]
    exact hM.keep (same _ hmlt (by rw [hmρ]; decide) (by rw [hmρ]; decide))
   ·obtain ⟨b, h1, h2, h3⟩ := hx.maps i q hq' hi (by omega)
    exact ⟨b, h1, h2.keep (same _ h2.lt (by rw [h3]; omega) (by rw [h3]; omega)), (hρ _ h2.lt (ne h3 (by omega))).trans h3⟩
  ·rw [hsz] at hb
   show funρ B.ρ v' mb B.K.length b = 0
   have := hg.size
   unfold funρ
   rw [if_neg (fun e => by have := (ho.lt b e).2; omega), if_neg (by omega)]
   exact hx.top b (by omega)
  ·simp only
   rw [List.map_append, hx.kf]
   rfl
  ·have := hx.bd
   simp only [List.length_append, List.length_cons, List.length_nil]
   exact ⟨by omega, this.2⟩
  ·intro q hq
   rcases List.mem_append.1 hq with hq | hq
   ·exact hx.bf q hq
   ·obtain rfl := List.mem_singleton.1 hq
    rw [hfs, hfc]
    decide
 ·rw [same b (Nat.lt_of_lt_of_le hb hbw.size) (by rw [h0]; decide) (by rw [h0]; decide)]
  exact hbw.block b hb
 ·exact (hρ b (Nat.lt_of_lt_of_le hb hbw.size) (by omega)).trans h0
 ·have h1 : w.cell? ⟨X.r, 5, none⟩ = some B.fv := h.blk.cell 5
  rw [← h1]
  exact World.cell?_of_block (a := ⟨X.r, 5, none⟩) kr
 ·rw [← h.blk.free 5]
  exact World.frozen?_of_block (a := ⟨X.r, 5, none⟩) kr
end
end Go.Proofs.YtdhkcdehedbpcaaDoor

