/- What the resolver keeps while it goes over a tree: what functions take, names, going in and out. · The resolver goes over any tree, and what it leaves: plain data. -/
import Derived.Test.YtdhkcdehedbpcaaDoorM17
set_option linter.unusedSimpArgs false
set_option linter.unusedVariables false
namespace Go.Proofs.YtdhkcdehedbpcaaDoor
open Go Go.RowKit
section
variable {L : List ANode} {A : ByteArray → Option Int}

structure Qt (L : List ANode) (i : Nat) (z y : ZS) : Prop where
 fn : y.fn = z.fn
 lo : y.loops = z.loops
 nx : y.next = z.next
 nm : y.names = z.names
 se : y.seen = z.seen
 fs : sk y = sk z
 ds : dk y = dk z
 cn : y.cnt = z.cnt
 nc : y.nc = z.nc
 us : ∀ j, j ≠ i → y.uses[j]? = z.uses[j]?
 ul : y.uses.length = z.uses.length
 fa : y.fault = 0 → z.fault = 0
 gs : y.globals = z.globals
 sn : skn y = skn z
 fy : (z.fault ≠ 0 → z.faulty < L.length) → y.fault ≠ 0 → y.faulty < L.length

theorem Qt.refl (z : ZS) (i : Nat) : Qt L i z z := ⟨rfl, rfl, rfl, rfl, rfl, rfl, rfl, rfl, rfl, fun _ _ => rfl, rfl, fun h => h, rfl, rfl, fun h => h⟩
theorem Qt.trans {i : Nat} {z y x : ZS} (h1 : Qt L i z y) (h2 : Qt L i y x) : Qt L i z x :=
 ⟨h2.fn.trans h1.fn, h2.lo.trans h1.lo, h2.nx.trans h1.nx, h2.nm.trans h1.nm, h2.se.trans h1.se, h2.fs.trans h1.fs, h2.ds.trans h1.ds, h2.cn.trans h1.cn, h2.nc.trans h1.nc, fun j hj => (h2.us j hj).trans (h1.us j hj), h2.ul.trans h1.ul, fun h => h1.fa (h2.fa h), h2.gs.trans h1.gs, h2.sn.trans h1.sn, fun h => h2.fy (h1.fy h)⟩
theorem Qt.fail (z : ZS) {i : Nat} (hi : i < L.length) {e : Int} (he : e ≠ 0) : Qt L i z (zfail z i e) := by
 by_cases h : z.fault = 0
 ·have e1 : zfail z i e = { z with fault := e, faulty := i } := by unfold zfail; rw [if_pos h]
  rw [e1]
  exact ⟨rfl, rfl, rfl, rfl, rfl, rfl, rfl, rfl, rfl, fun _ _ => rfl, rfl, fun _ => h, rfl, rfl, fun _ _ => hi⟩
 ·have e1 : zfail z i e = z := by unfold zfail; rw [if_neg h]
  rw [e1]; exact .refl _ _
theorem Qt.use (z : ZS) (i : Nat) (u : Int × Int) : Qt L i z (zuse z i u) :=
 ⟨rfl, rfl, rfl, rfl, rfl, rfl, rfl, rfl, rfl, fun j hj => by show (z.uses.set i u)[j]? = _; rw [List.getElem?_set_ne (by omega)], by show (z.uses.set i u).length = _; rw [List.length_set], fun h => h, rfl, rfl, fun h => h⟩
theorem Qt.el {i : Nat} {z y : ZS} (h : Qt L i z y) : El L false i 0 0 z y where
 fn := h.fn
 lo := h.lo
 nx := by rw [h.nx]; exact Nat.le_refl _
 nm := by rw [h.nm]
 un := by unfold under; rw [h.nm, h.se]
 ex := fun _ => ⟨h.nm, h.se⟩
 fs := by rw [h.fs]; exact List.prefix_refl _
 ds := by rw [h.ds]; exact List.prefix_refl _
 dl := by rw [← dk_len, h.ds, dk_len, h.nx]; omega
 cn := by rw [h.cn, h.nc, h.nx]; omega
 us := fun j _ hj => h.us j hj
 fa := h.fa
 gs := fun _ => h.gs
theorem Qt.inv {c k i : Nat} {z y : ZS} (h : Qt L i z y) (hz : Inv L c k z) (hin : i < z.next) (hu : ∀ u, y.uses[i]? = some u → u.1 = 1 → 0 ≤ u.2 ∧ u.2 < z.declared.length) : Inv L c k y where
 ul := h.ul.trans hz.ul
 un := fun j hj hl => by rw [h.nx] at hj; rw [h.us j (by omega)]; exact hz.un j hj hl
 fn := by rw [h.fn, ← sk_len, h.fs, sk_len]; exact hz.fn
 ab := by rw [h.fs]; exact hz.ab
 se := by rw [h.fs, h.ds, h.se, h.fn]; exact hz.se
 dl := by rw [← dk_len, h.ds, dk_len, h.nx]; exact hz.dl
 cn := by rw [h.cn, h.nc, h.nx]; exact hz.cn
 lo := by rw [h.lo, h.nx]; exact hz.lo
 fy := h.fy hz.fy
 uf := fun j u hj h1 => by
  rw [← dk_len, h.ds, dk_len]
  by_cases e : j = i
  ·subst e; exact hu u hj h1
  ·rw [h.us j e] at hj; exact hz.uf j u hj h1

theorem sk_set {z : ZS} {g : Nat} {f : ZF} (hg : z.funs[g]? = some f) (f' : ZF) (h : (f'.node, f'.params, f'.about) = (f.node, f.params, f.about)) : (z.funs.set g f').map (fun f => (f.node, f.params, f.about)) = z.funs.map fun f => (f.node, f.params, f.about) := by
 apply List.ext_getElem?
 intro j
 rw [List.getElem?_map, List.getElem?_map, List.getElem?_set]
 split
 ·next e =>
  subst e
  rw [if_pos (List.getElem?_eq_some_iff.1 hg).1, hg]
  simpa using h
 ·rfl
theorem skn_set {z : ZS} {g : Nat} {f : ZF} (hg : z.funs[g]? = some f) (f' : ZF) (h : (f'.node, f'.params) = (f.node, f.params)) : (z.funs.set g f').map (fun f => (f.node, f.params)) = z.funs.map fun f => (f.node, f.params) := by
 apply List.ext_getElem?
 intro j
 rw [List.getElem?_map, List.getElem?_map, List.getElem?_set]
 split
 ·next e =>
  subst e
  rw [if_pos (List.getElem?_eq_some_iff.1 hg).1, hg]
  simpa using h
 ·rfl

theorem ztake_ok : ∀ (t : Nat) (z : ZS) (i g d : Nat) (e : ZD), g + 1 ≤ t → g < z.funs.length → (∀ (g : Nat) f, (sk z)[g]? = some f → 0 < g → f.2.2 < g) → z.declared[d]? = some e → Anc (sk z) g e.fn → g ≠ e.fn → i < L.length →
  ∃ k y, ztake t z i g d = some (k, y) ∧ Qt L i z y ∧ y.uses = z.uses
 | 0, z, i, g, d, e, ht, _, _, _, _, _, _ => by omega
 | t + 1, z, i, g, d, e, ht, hg, hab, hd, ha, hne, hi => by
  unfold ztake
  rw [List.getElem?_eq_getElem hg, hd]
  dsimp only
  cases hcm : z.funs[g].cm d with
  | some k => exact ⟨k, z, rfl, .refl _ _, rfl⟩
  | none =>
   dsimp only
   have hsg : (sk z)[g]? = some (z.funs[g].node, z.funs[g].params, z.funs[g].about) := by unfold sk; rw [List.getElem?_map, List.getElem?_eq_getElem hg]; rfl
   have h0 : g ≠ 0 ∧ Anc (sk z) z.funs[g].about e.fn := by
    cases ha with
    | refl => exact absurd rfl hne
    | up h1 h2 h3 =>
     rw [hsg] at h1
     cases h1
     exact ⟨by omega, h3⟩
   rw [if_neg h0.1]
   have hlt := hab g _ hsg (by omega)
   have hr : ∃ r : (Int × Int) × ZS, (if z.funs[g].about = e.fn then some (((1 : Int), e.slot), z) else (ztake t z i z.funs[g].about d).map fun r => (((0 : Int), r.1), r.2)) = some r ∧ Qt L i z r.2 ∧ r.2.uses = z.uses := by
    by_cases hae : z.funs[g].about = e.fn
    ·rw [if_pos hae]; exact ⟨_, rfl, .refl _ _, rfl⟩
    ·rw [if_neg hae]
     obtain ⟨k, y, h1, h2, h3⟩ := ztake_ok t z i z.funs[g].about d e (by simp only at hlt; omega) (by simp only at hlt; omega) hab hd h0.2 hae hi
     rw [h1]; exact ⟨_, rfl, h2, h3⟩
   obtain ⟨⟨c, y⟩, h1, h2, h3⟩ := hr
   rw [h1]
   simp only [Option.bind_some]
   have hgy : g < y.funs.length := by rw [← sk_len, h2.fs, sk_len]; exact hg
   rw [List.getElem?_eq_getElem hgy]
   dsimp only
   split
   ·exact ⟨_, _, rfl, h2.trans (.fail _ hi (by decide)), by rw [zfail_uses]; exact h3⟩
   ·refine ⟨_, _, rfl, h2.trans ⟨rfl, rfl, rfl, rfl, rfl, ?_, rfl, rfl, rfl, fun _ _ => rfl, rfl, fun h => h, rfl, ?_, fun h => h⟩, h3⟩
    ·exact sk_set (z := y) (List.getElem?_eq_getElem hgy) _ rfl
    ·exact skn_set (z := y) (List.getElem?_eq_getElem hgy) _ rfl

theorem dk_get {z : ZS} {k : Nat} {e : Nat × Int} (h : (dk z)[k]? = some e) : ∃ d, z.declared[k]? = some d ∧ d.fn = e.1 ∧ d.slot = e.2 := by
 unfold dk at h
 rw [List.getElem?_map] at h
 cases hd : z.declared[k]? with
 | none => rw [hd] at h; cases h
 | some d => rw [hd] at h; cases h; exact ⟨d, rfl, rfl, rfl⟩

theorem zmeans_ok {c k : Nat} {z : ZS} {i : Nat} {d : Int} (h : Inv L c k z) (hi : i < L.length) (hin : i < z.next) (hd : z.seen (zT L i) = some d) :
  ∃ y, zmeans z i d = some y ∧ Inv L c k y ∧ Qt L i z y := by
 obtain ⟨j, e, rfl, h1, h2⟩ := h.se _ _ hd
 obtain ⟨e', h3, h4, h5⟩ := dk_get h1
 have hjl : j < z.declared.length := (List.getElem?_eq_some_iff.1 h3).1
 have hil : i < z.uses.length := by rw [h.ul]; exact hi
 unfold zmeans
 rw [if_neg (by omega), Int.toNat_natCast, h3]
 dsimp only
 by_cases hf : e'.fn = z.fn
 ·rw [if_pos hf]
  have hq : Qt L i z (zuse z i (1, (j : Int))) := .use _ _ _
  exact ⟨_, rfl, hq.inv h hin (fun u hu h1 => by
   have : (z.uses.set i (1, (j : Int)))[i]? = some u := hu
   rw [List.getElem?_set_self hil] at this
   cases this; simp; omega), hq⟩
 ·rw [if_neg hf]
  have hdk : dk { z with declared := z.declared.set j { e' with taken := true } } = dk z := by
   unfold dk
   apply List.ext_getElem?
   intro x
   rw [List.getElem?_map, List.getElem?_map, List.getElem?_set]
   split
   ·next ex => subst ex; rw [h3]; rfl
   ·rfl
  have q1 : Qt L i z { z with declared := z.declared.set j { e' with taken := true } } := ⟨rfl, rfl, rfl, rfl, rfl, rfl, hdk, rfl, rfl, fun _ _ => rfl, rfl, fun h => h, rfl, rfl, fun h => h⟩
  obtain ⟨n, y, h6, h7, h8⟩ := ztake_ok (L := L) (z.funs.length + 1) { z with declared := z.declared.set j { e' with taken := true } } i z.fn j { e' with taken := true } (by have := h.fn; omega) h.fn h.ab (by
   show (z.declared.set j _)[j]? = _
   rw [List.getElem?_set_self hjl]) (by rw [← h4] at h2; exact h2) (fun e => hf e.symm) hi
  rw [h6]
  have q : Qt L i z (zuse y i (3, n)) := (q1.trans h7).trans (.use _ _ _)
  refine ⟨_, rfl, q.inv h hin (fun u hu h1 => ?_), q⟩
  have hyl : i < y.uses.length := by rw [h8]; exact hil
  have : (y.uses.set i (3, n))[i]? = some u := hu
  rw [List.getElem?_set_self hyl] at this
  cases this; cases h1

theorem zname_ok {c k : Nat} {z : ZS} {i : Nat} (h : Inv L c k z) (hi : i < L.length) (hin : i < z.next) :
  ∃ y, zname L A z i = some y ∧ Inv L c k y ∧ Qt L i z y := by
 have hil : i < z.uses.length := by rw [h.ul]; exact hi
 have use_case : ∀ (a n : Int), a ≠ 1 → ∃ y, some (zuse z i (a, n)) = some y ∧ Inv L c k y ∧ Qt L i z y := fun a n ha => by
  have hq : Qt L i z (zuse z i (a, n)) := .use _ _ _
  exact ⟨_, rfl, hq.inv h hin (fun u hu h1 => by
   have : (z.uses.set i (a, n))[i]? = some u := hu
   rw [List.getElem?_set_self hil] at this
   cases this; exact absurd h1 ha), hq⟩
 unfold zname
 cases hs : z.seen (zT L i) with
 | some d => exact zmeans_ok h hi hin hs
 | none =>
  dsimp only
  cases hA : A (zT L i) with
  | some n => exact use_case 4 n (by decide)
  | none =>
   dsimp only
   cases hp : primF (zT L i) with
   | some n => exact use_case 5 n (by decide)
   | none => exact ⟨_, rfl, zfail_Inv h hi, .fail _ hi (by decide)⟩

theorem zplain_ok {c k : Nat} {z : ZS} {i : Nat} (h : Inv L c k z) (hi : i < L.length) (hin : i < z.next) (h4 : (zN L i).1 = 4 → i + 1 < L.length) :
  ∃ y, zplain L A z i = some y ∧ Inv L c k y ∧ Qt L i z y := by
 have fail_case : ∀ e : Int, e ≠ 0 → ∃ y, some (zfail z i e) = some y ∧ Inv L c k y ∧ Qt L i z y := fun e he => ⟨_, rfl, zfail_Inv h hi, .fail _ hi he⟩
 have self_case : ∃ y, some z = some y ∧ Inv L c k y ∧ Qt L i z y := ⟨_, rfl, h, .refl _ _⟩
 unfold zplain
 split
 ·next e =>
  unfold zset
  rw [if_pos (h4 e)]
  split
  ·exact fail_case 8 (by decide)
  ·exact self_case
 split
 ·split
  ·exact fail_case 6 (by decide)
  ·exact self_case
 split
 ·split
  ·exact fail_case 6 (by decide)
  ·exact self_case
 split
 ·exact zname_ok h hi hin
 ·exact self_case

theorem zleave_ok {st : Bool} {i c k j : Nat} {b e u : ZS} (hb : Inv L j k b) (hn : e.names = some fun _ => none) (hse : e.seen = b.seen) (hnc : e.nc = 0) (hct : e.cnt = b.cnt) (hnx : e.next = b.next) (hsk : sk b <+: sk e) (hdk : dk e = dk b) (hus : e.uses = b.uses) (hfa : e.fault = b.fault) (hgs : e.globals = b.globals)
  (hu : Inv L 0 0 u) (hr : El L st i c k e u) (hl : u.next ≤ 1001) : ∃ v, zleave u b = some v ∧ Inv L 0 0 v ∧ El L false i c k b v ∧ v.next = u.next ∧ v.fault = u.fault ∧ skn v = skn u ∧ v.uses = u.uses ∧ v.globals = u.globals := by
 have hcn := hu.cn
 have hrn := hr.nm
 rw [hn] at hrn
 have hbc := hb.cn
 have hrc := hr.cn
 have hrx := hr.nx
 obtain ⟨m, hm⟩ := Option.isSome_iff_exists.1 hrn
 have hun : unhide m u.seen = b.seen := by
  have h1 : under u = under e := hr.un
  unfold under at h1
  rw [hm, hn] at h1
  rw [← hse]
  exact h1
 unfold zleave
 rw [hm]
 dsimp only
 rw [if_pos (by omega), hun]
 have f1 : sk b <+: sk u := hsk.trans hr.fs
 have f2 : dk b <+: dk u := by rw [← hdk]; exact hr.ds
 refine ⟨_, rfl, ⟨hu.ul, hu.un, ?_, hu.ab, ?_, hu.dl, ?_, ⟨hb.lo.1, ?_⟩, hu.fy, hu.uf⟩, ⟨rfl, rfl, by rw [← hnx]; exact hr.nx, rfl, rfl, fun _ => ⟨rfl, rfl⟩, f1, f2, ?_, ?_, fun x hx hxi => by rw [← hus]; exact hr.us x (by rw [hnx]; exact hx) hxi, fun h => by rw [← hfa]; exact hr.fa h, fun _ => by rw [← hgs]; exact hr.gs (by rw [hn]; rfl)⟩, rfl, rfl, rfl, rfl, rfl⟩
 ·have h1 := f1.length_le
  rw [sk_len, sk_len] at h1
  exact Nat.lt_of_lt_of_le hb.fn h1
 ·intro s d hs
  obtain ⟨x, y, a1, a2, a3⟩ := hb.se s d hs
  exact ⟨x, y, a1, pre_get f2 a2, a3.mono f1⟩
 ·show u.cnt + u.nc + b.nc + 2 + 2 * 0 ≤ 2 * u.next
  omega
 ·show b.loops + 1 + ((0 : Nat) : Int) ≤ (u.next : Int)
  have := hb.lo.2
  omega
 ·have h1 := hr.dl
  have h2 : e.declared.length = b.declared.length := by rw [← dk_len, hdk, dk_len]
  show u.declared.length + b.next ≤ b.declared.length + u.next + c
  omega
 ·show u.cnt + u.nc + b.nc + 2 * b.next ≤ b.cnt + b.nc + 2 * u.next + 2 * k
  omega
end
end Go.Proofs.YtdhkcdehedbpcaaDoor

namespace Go.Proofs.YtdhkcdehedbpcaaDoor
open Go Go.RowKit
section
variable {L : List ANode} {A : ByteArray → Option Int}

def rts (L : List ANode) : Nat → Nat → List Nat
 | 0, _ => []
 | n + 1, p => p :: rts L n (bhV L p).1.toNat
def gT (L : List ANode) (n p : Nat) : List Nat := (rts L n p).filter fun i => (zN L i).1 == 3 || (zN L i).1 == 12

theorem rts_app : ∀ {es fs : List Int} {p r : Nat}, Fo L es p r → rts L (es.length + fs.length) p = rts L es.length p ++ rts L fs.length r
 | [], fs, p, r, h => by have : p = r := h; subst this; simp [rts]
 | e :: es, fs, p, r, h => by
  obtain ⟨s, h1, h2⟩ := h
  have hb := h1.behind
  rw [show (e :: es).length + fs.length = (es.length + fs.length) + 1 by simp; omega, rts, hb]
  simp only [Int.toNat_natCast]
  rw [rts_app h2, List.length_cons, rts, hb]
  simp
theorem ft_not {k a : Int} (h : ftP k a = true) (ha : a ≠ 2) : k ≠ 3 ∧ k ≠ 12 := by
 constructor
 ·rintro rfl
  unfold ftP at h
  simp only [shpA] at h
  revert h
  repeat' split
  all_goals simp
  all_goals (try (show ¬ ((2 : Int) = a)); omega)
 ·rintro rfl
  unfold ftP at h
  revert h
  repeat' split
  all_goals simp
  all_goals (try (show ¬ ((2 : Int) = a)); omega)
theorem gT_none : ∀ {es : List Int} {p r : Nat}, Fo L es p r → (∀ a ∈ es, a ≠ 2) → gT L es.length p = []
 | [], p, r, h, ha => rfl
 | e :: es, p, r, h, ha => by
  obtain ⟨s, h1, h2⟩ := h
  have ih := gT_none h2 (fun a h => ha a (List.mem_cons_of_mem _ h))
  unfold gT at ih ⊢
  rw [List.length_cons, rts, h1.behind]
  simp only [Int.toNat_natCast]
  have := ft_not h1.out.2.1 (ha e (List.mem_cons_self))
  rw [List.filter_cons, if_neg (by simp [this]), ih]

structure Run (L : List ANode) (st : Bool) (i from_ c k q : Nat) (z v : ZS) : Prop where
 inv : Inv L 0 0 v
 el : El L st i c k z v
 le : v.next ≤ q
 at_ : v.fault = 0 → v.next = q
 sn : v.fault = 0 → skn v = skn z ++ fnR L from_ q

def Tot (L : List ANode) (A : ByteArray → Option Int) (N : Nat) : Prop :=
 ∀ (es : List Int) (p q t : Nat) (z : ZS), q - p ≤ N → Fo L es p q → (∀ a ∈ es, a ≠ 1) → q ≤ L.length → z.next = p → Inv L 0 0 z → 4 * (q - p) + 1 ≤ t →
  ∃ v, zR L A t (.parts es.length) z = some v ∧ Run L (es.any (· == 2)) p p 0 0 q z v ∧
   (z.names = none → v.fault = 0 → v.globals = z.globals ++ (gT L es.length p).map (zT L) ∧ ∀ (n x : Nat), (gT L es.length p)[n]? = some x → v.uses[x]? = some (4, ((z.globals.length + n : Nat) : Int)))

theorem zR_done {t : Nat} {d : Int} {z : ZS} (ht : 1 ≤ t) (h : ¬ (0 < d ∧ z.fault = 0)) : zR L A t (.parts d) z = some z := by
 cases t with
 | zero => omega
 | succ t => unfold zR; dsimp only; rw [if_neg h]

theorem Tot.one {N : Nat} (H : Tot L A N) {a : Int} {p q t : Nat} {z : ZS} (hN : q - p ≤ N) (h : Tr L a p q) (ha : a ≠ 1) (hz : z.next = p) (hi : Inv L 0 0 z) (ht : 4 * (q - p) + 1 ≤ t) :
  ∃ v, zR L A t (.parts 1) z = some v ∧ Run L (a == 2) p p 0 0 q z v := by
 obtain ⟨v, h1, h2, _⟩ := H [a] p q t z hN (Fo.one h) (fun b hb => by simp at hb; subst hb; exact ha) h.lt.2 hz hi ht
 exact ⟨v, h1, by simpa using h2⟩

theorem Inv.fa_le {z : ZS} {c k : Nat} (h : Inv L c k z) (hl : z.next ≤ L.length) (h5 : L.length ≤ 1000) : z.next ≤ 1001 := by omega

theorem wm_rng {n : ANode} (h : wmP n = true) : (shpA n.1).2.1 ≤ n.2.1 ∧ n.2.1 ≤ (shpA n.1).2.2.1 := by
 unfold wmP at h
 split at h
 ·cases h
 ·next c => omega
theorem wm_fn {n : ANode} (h : wmP n = true) (hk : n.1 = 12 ∨ n.1 = 31) : n.2.2.2.1 = n.2.1 - 1 := by
 unfold wmP at h
 split at h
 ·cases h
 ·repeat' split at h
  all_goals first | omega | simpa using h
theorem ft_rng {k a : Int} (h : ftP k a = true) : 0 < k ∧ k < 33 := by
 unfold ftP at h
 split at h
 ·cases h
 ·omega

theorem Inv.slack {st : Bool} {i : Nat} {y v : ZS} (h : Inv L 0 0 v) (hy : Inv L 0 1 y) (e : El L st i 0 0 y v) : Inv L 0 1 v := by
 refine ⟨h.ul, h.un, h.fn, h.ab, h.se, h.dl, ?_, ⟨h.lo.1, ?_⟩, h.fy, h.uf⟩
 ·have := hy.cn; have := e.cn; omega
 ·have := hy.lo.2; have := e.lo; have := e.nx; omega
theorem ShOk.run {st : Bool} {i j c k : Nat} {y v : ZS} (h : ShOk L y i) (e : El L st j c k y v) (hs : st = false) (hi : i < y.next) (hj : i ≠ j) : ShOk L v i := by
 obtain ⟨u, hu, h1⟩ := h
 refine ⟨u, by rw [e.us i hi hj]; exact hu, fun hu1 => ?_⟩
 obtain ⟨m, k, x, a1, a2, a3, a4, a5⟩ := h1 hu1
 exact ⟨m, k, x, by rw [(e.ex hs).1]; exact a1, a2, a3, pre_get e.ds a4, by rw [e.fn]; exact a5⟩
theorem El.loop {s : Bool} {i c k : Nat} {a : Int} {v x : ZS} (h : El L s i c k { v with loops := a } x) : El L s i c k v { x with loops := v.loops } :=
 ⟨h.fn, rfl, h.nx, h.nm, h.un, h.ex, h.fs, h.ds, h.dl, h.cn, h.us, h.fa, h.gs⟩

variable (h5 : L.length ≤ 1000)
include h5

theorem block_tot {N : Nat} (H : Tot L A N) {i r t : Nat} {z : ZS} (hk : (zN L i).1 = 2) (hf : Fo L (kidsA (zN L i) (zN L i).2.1.toNat 0) (i + 1) r) (h0 : 0 ≤ (zN L i).2.1) (hi : i < L.length) (hr : r ≤ L.length) (hN : r - (i + 1) ≤ N) (hz : z.next = i + 1) (hv : Inv L 1 1 z) (ht : 4 * (r - (i + 1)) + 2 ≤ t) :
  ∃ v, zR L A t (.block i) z = some v ∧ Run L false i i 1 1 r z v ∧ v.globals = z.globals := by
 obtain ⟨s, rfl⟩ : ∃ s, t = s + 1 := ⟨t - 1, by omega⟩
 have he : Inv L 0 0 (zenter z z.fn z.loops) := ⟨hv.ul, hv.un, hv.fn, hv.ab, hv.se, by have := hv.dl; show z.declared.length + 1 + 0 ≤ z.next; omega, by have := hv.cn; show z.cnt + 0 + 2 + 2 * 0 ≤ 2 * z.next; omega, ⟨hv.lo.1, by have := hv.lo.2; show z.loops + 1 + ((0 : Nat) : Int) ≤ z.next; omega⟩, hv.fy, hv.uf⟩
 obtain ⟨u, h1, h2, _⟩ := H _ (i + 1) r s (zenter z z.fn z.loops) hN hf (fun a ha => by
  have : ∀ (k : Nat) (x : Int), ∀ a ∈ kidsA (zN L i) k x, a = 2 := by
   intro k
   induction k with
   | zero => intro x a h; cases h
   | succ k ih =>
    intro x a h
    rcases List.mem_cons.1 h with h | h
    ·rw [h]; unfold stP; rw [if_pos (.inr hk)]
    ·exact ih _ a h
  rw [this _ _ a ha]; decide) hr hz he (by omega)
 rw [kidsA_len, Int.toNat_of_nonneg h0] at h1
 obtain ⟨v, h3, h4, h6, h7, h8, h9, _, h10⟩ := zleave_ok hv (e := zenter z z.fn z.loops) rfl rfl rfl rfl rfl (List.prefix_refl _) rfl rfl rfl rfl h2.inv (h2.el.weak (i' := i) (c' := 1) (k' := 1) (fun x => x) (.inr (by show z.next ≤ i + 1; omega)) (by omega) (by omega)) (h2.inv.fa_le (Nat.le_trans h2.le hr) h5)
 refine ⟨v, ?_, ⟨h4, h6, by rw [h7]; exact h2.le, fun hf => by rw [h7]; exact h2.at_ (by rw [← h8]; exact hf), fun hf => ?_⟩, by rw [h10]; exact h2.el.gs rfl⟩
 ·unfold zR
  dsimp only
  rw [if_pos hi, h1]
  exact h3
 ·rw [h9, h2.sn (by rw [← h8]; exact hf), fnR_no (L := L) (i := i) (b := r) (by unfold isF; rw [hk]; decide) (by have := hf; have := Fo.le ‹Fo L _ (i + 1) r›; omega)]
  rfl

theorem var_tot {N : Nat} (H : Tot L A N) {i r t : Nat} {z : ZS} (hk : (zN L i).1 = 3) (hf : Tr L 3 (i + 1) r) (hi : i < L.length) (hN : r - (i + 1) ≤ N) (hz : z.next = i + 1) (hu : z.uses[i]? = some (0, 0)) (hv : Inv L 1 1 z) (ht : 4 * (r - (i + 1)) + 2 ≤ t) :
  ∃ v, zR L A t (.var i) z = some v ∧ Run L true i i 1 1 r z v ∧ (z.names = none → v.fault = 0 → v.globals = z.globals ++ [zT L i] ∧ v.uses[i]? = some (4, (z.globals.length : Int))) := by
 obtain ⟨s, rfl⟩ : ∃ s, t = s + 1 := ⟨t - 1, by omega⟩
 have hr := hf.lt
 have HT := hf
 have hn5 := hv.fa_le (by omega) h5
 obtain ⟨y, h1, iy, dy⟩ := zdeclare_ok (A := A) hv hi (by omega) hn5 hu
 obtain ⟨v, h2, rv, gv⟩ := H [3] (i + 1) r s y hN (Fo.one hf) (by simp) hf.lt.2 (by rw [dy.nx]; exact hz) (iy.weak (Nat.le_refl _) (Nat.zero_le _)) (by omega)
 have rvF : ([3] : List Int).any (· == 2) = false := by decide
 have hs := rv.el
 rw [rvF] at hs
 have iv := rv.inv.slack iy rv.el
 have hl : v.next ≤ 1001 := by have := rv.le; omega
 have hyn : y.next = i + 1 := by rw [dy.nx]; exact hz
 obtain ⟨w, h3, iw, ew, nw, sw, fw, gw, uw⟩ := zshow_ok iv hi hl (dy.sh.run hs rfl (by omega) (by omega))
 refine ⟨w, ?_, ⟨iw, ?_, by rw [nw]; exact rv.le, fun hf => by rw [nw]; exact rv.at_ (by rw [← fw]; exact hf), fun hf => ?_⟩, fun hn hf => ?_⟩
 ·unfold zR
  dsimp only
  rw [h1]
  simp only [Option.bind_some]
  rw [show ((1 : Int)) = (([3] : List Int).length : Int) from rfl, h2]
  simp only [Option.bind_some]
  exact h3
 ·exact ((dy.el.trans (hs.weak (i' := i) (c' := 0) (k' := 0) (fun x => x) (.inr (by omega)) (Nat.le_refl _) (Nat.le_refl _))).trans ew).weak (fun _ => rfl) (.inl rfl) (by omega) (by omega)
 ·rw [sw, rv.sn (by rw [← fw]; exact hf), dy.nf, fnR_no (L := L) (i := i) (b := r) (by unfold isF; rw [hk]; decide) (by omega)]
 ·have hvf : v.fault = 0 := by rw [← fw]; exact hf
  have hyf := rv.el.fa hvf
  obtain ⟨a1, a2⟩ := dy.dn hn hyf
  have hyn2 : y.names = none := by have := (dy.el.ex rfl).1; rw [this]; exact hn
  have a3 := (gv hyn2 hvf).1
  rw [gT_none (Fo.one HT) (by simp)] at a3
  simp at a3
  refine ⟨by rw [gw, a3, a1], ?_⟩
  rw [uw, rv.el.us i (by omega) (by omega)]
  exact a2

theorem loop_tot {N : Nat} (H : Tot L A N) {i q r t : Nat} {z : ZS} (hk : (zN L i).1 = 6) (hf : Tr L 3 (i + 1) q) (hg : Tr L 6 q r) (hi : i < L.length) (hN : r - (i + 1) ≤ N) (hz : z.next = i + 1) (hv : Inv L 1 1 z) (ht : 4 * (r - (i + 1)) + 2 ≤ t) :
  ∃ v, zR L A t .loop z = some v ∧ Run L false i i 1 1 r z v ∧ (z.names = none → v.fault = 0 → v.globals = z.globals) := by
 obtain ⟨s, rfl⟩ : ∃ s, t = s + 1 := ⟨t - 1, by omega⟩
 have hr := hf.lt
 have hr2 := hg.lt
 obtain ⟨v, h2, rv, gv⟩ := H [3] (i + 1) q s z (by omega) (Fo.one hf) (by simp) hf.lt.2 hz (hv.weak (by omega) (by omega)) (by omega)
 have rvF : ([3] : List Int).any (· == 2) = false := by decide
 have e1 := rv.el
 rw [rvF] at e1
 have gv1 := fun hn hf => (gv hn hf).1
 rw [gT_none (Fo.one hf) (by simp)] at gv1
 simp only [List.map_nil, List.append_nil] at gv1
 have hlo : 0 ≤ v.loops ∧ v.loops + 2 ≤ v.next := by have := e1.lo; have := hv.lo; have := e1.nx; omega
 have hl : v.next ≤ 1001 := by have := rv.le; omega
 have iv1 : Inv L 0 0 { v with loops := v.loops + 1 } := ⟨rv.inv.ul, rv.inv.un, rv.inv.fn, rv.inv.ab, rv.inv.se, rv.inv.dl, rv.inv.cn, ⟨by show 0 ≤ v.loops + 1; omega, by show v.loops + 1 + 1 + ((0 : Nat) : Int) ≤ v.next; omega⟩, rv.inv.fy, rv.inv.uf⟩
 have hx : ∃ x, zR L A s (.parts 1) { v with loops := v.loops + 1 } = some x ∧ Run L false v.next q 0 0 r { v with loops := v.loops + 1 } x ∧ (v.names = none → x.fault = 0 → x.globals = v.globals) := by
  by_cases h0 : v.fault = 0
  ·have hq := rv.at_ h0
   obtain ⟨x, a1, a2, a3⟩ := H [6] q r s { v with loops := v.loops + 1 } (by omega) (Fo.one hg) (by simp) hg.lt.2 hq iv1 (by omega)
   have a4 := fun hn hf => (a3 hn hf).1
   rw [gT_none (Fo.one hg) (by simp)] at a4
   simp only [List.map_nil, List.append_nil] at a4
   exact ⟨x, a1, by rw [← hq] at a2; rw [← hq]; exact a2, a4⟩
  ·exact ⟨_, zR_done (by omega) (fun k => h0 k.2), ⟨iv1, El.refl _ _, Nat.le_trans rv.le (by omega), fun k => absurd k h0, fun k => absurd k h0⟩, fun _ k => absurd k h0⟩
 obtain ⟨x, h3, rx, gx⟩ := hx
 have e2 := rx.el.loop
 have hxl : x.loops = v.loops + 1 := rx.el.lo
 have hxn := rx.el.nx
 have hxn : v.next ≤ x.next := hxn
 have hx5 : x.next ≤ 1001 := by have := rx.le; omega
 refine ⟨{ x with loops := v.loops }, ?_, ⟨⟨rx.inv.ul, rx.inv.un, rx.inv.fn, rx.inv.ab, rx.inv.se, rx.inv.dl, rx.inv.cn, ⟨hlo.1, by show v.loops + 1 + ((0 : Nat) : Int) ≤ x.next; omega⟩, rx.inv.fy, rx.inv.uf⟩, ?_, rx.le, rx.at_, fun hf => ?_⟩, fun hn hf => ?_⟩
 ·unfold zR
  dsimp only
  rw [show ((1 : Int)) = (([3] : List Int).length : Int) from rfl, h2]
  simp only [Option.bind_some]
  rw [if_pos (by omega), show ((([3] : List Int).length : Nat) : Int) = 1 from rfl, h3]
  simp only [Option.bind_some]
  rw [if_pos (by omega), show x.loops - 1 = v.loops by omega]
 ·exact ((e1.weak (i' := i) (c' := 0) (k' := 0) (fun x => x) (.inr (by omega)) (Nat.le_refl _) (Nat.le_refl _)).trans (e2.weak (i' := i) (c' := 0) (k' := 0) (fun x => x) (.inr (Nat.le_refl _)) (Nat.le_refl _) (Nat.le_refl _))).weak (fun x => x) (.inl rfl) (by omega) (by omega)
 ·have hxf : x.fault = 0 := hf
  have hvf : v.fault = 0 := rx.el.fa hxf
  have a1 : skn { x with loops := v.loops } = skn { v with loops := v.loops + 1 } ++ fnR L q r := rx.sn hxf
  have a2 : skn { v with loops := v.loops + 1 } = skn v := rfl
  rw [a1, a2, rv.sn hvf, List.append_assoc, fnR_app L (by omega) (by omega), fnR_no (L := L) (i := i) (b := r) (by unfold isF; rw [hk]; decide) (by omega)]
 ·have hxf : x.fault = 0 := hf
  have hvf : v.fault = 0 := rx.el.fa hxf
  have hvn : v.names = none := by rw [(e1.ex rfl).1]; exact hn
  show x.globals = _
  rw [gx hvn hxf, gv1 hn hvf]

theorem att_tot {N : Nat} (H : Tot L A N) {i q r t : Nat} {z : ZS} (hk : (zN L i).1 = 11) (hf : Tr L 6 (i + 1) q) (hg : Tr L 6 q r) (hi : i < L.length) (hN : r - (i + 1) ≤ N) (hz : z.next = i + 1) (hu : z.uses[i]? = some (0, 0)) (hv : Inv L 1 1 z) (ht : 4 * (r - (i + 1)) + 2 ≤ t) :
  ∃ v, zR L A t (.att i) z = some v ∧ Run L false i i 1 1 r z v ∧ v.globals = z.globals := by
 obtain ⟨s, rfl⟩ : ∃ s, t = s + 1 := ⟨t - 1, by omega⟩
 have hr := hf.lt
 have hr2 := hg.lt
 have ie : Inv L 1 1 (zenter z z.fn z.loops) := ⟨hv.ul, hv.un, hv.fn, hv.ab, hv.se, hv.dl, by have := hv.cn; show z.cnt + 0 + 2 + 2 * 1 ≤ 2 * z.next; omega, hv.lo, hv.fy, hv.uf⟩
 have hen : (zenter z z.fn z.loops).next = i + 1 := hz
 obtain ⟨y, h1, iy, dy⟩ := zdeclare_ok (A := A) ie hi (by omega) (by omega) hu
 have hyn : y.next = i + 1 := by rw [dy.nx]; exact hz
 obtain ⟨v, h2, rv⟩ := H.one (by omega) hf (by decide) hyn (iy.weak (Nat.le_refl _) (Nat.zero_le _)) (t := s) (by omega)
 have hs : El L false (i + 1) 0 0 y v := rv.el
 have iv := rv.inv.slack iy rv.el
 have hl : v.next ≤ 1001 := by have := rv.le; omega
 obtain ⟨x, h3, ix, ex, nx, sx, fx, gx, ux⟩ := zshow_ok iv hi hl (dy.sh.run hs rfl (by omega) (by omega))
 have hw : ∃ w, zR L A s (.parts 1) x = some w ∧ Run L false x.next q 0 0 r x w := by
  by_cases h0 : x.fault = 0
  ·have hq := rv.at_ (by rw [← fx]; exact h0)
   have hxq : x.next = q := by rw [nx]; exact hq
   obtain ⟨w, a1, a2⟩ := H.one (by omega) hg (by decide) hxq ix (t := s) (by omega)
   exact ⟨w, a1, by rw [hxq]; exact a2⟩
  ·exact ⟨_, zR_done (by omega) (fun k => h0 k.2), ⟨ix, El.refl _ _, by rw [nx]; exact Nat.le_trans rv.le (by omega), fun k => absurd k h0, fun k => absurd k h0⟩⟩
 obtain ⟨w, h4, rw_⟩ := hw
 have E : El L true i 1 1 (zenter z z.fn z.loops) w :=
  (((dy.el.trans (hs.weak (i' := i) (c' := 0) (k' := 0) (fun x => x) (.inr (by omega)) (Nat.le_refl _) (Nat.le_refl _))).trans ex).trans (rw_.el.weak (i' := i) (c' := 0) (k' := 0) (fun x => x) (.inr (Nat.le_refl _)) (Nat.le_refl _) (Nat.le_refl _))).weak (fun _ => rfl) (.inl rfl) (by omega) (by omega)
 obtain ⟨u, h5', i6, e6, n6, f6, s6, _, g6⟩ := zleave_ok hv (e := zenter z z.fn z.loops) rfl rfl rfl rfl rfl (List.prefix_refl _) rfl rfl rfl rfl rw_.inv E (by have := rw_.le; omega)
 refine ⟨u, ?_, ⟨i6, e6, by rw [n6]; exact rw_.le, fun hf => by rw [n6]; exact rw_.at_ (by rw [← f6]; exact hf), fun hf => ?_⟩, ?_⟩
 ·unfold zR
  dsimp only
  rw [h1]
  simp only [Option.bind_some]
  rw [h2]
  simp only [Option.bind_some]
  rw [h3]
  simp only [Option.bind_some]
  rw [h4]
  exact h5'
 ·have hwf : w.fault = 0 := by rw [← f6]; exact hf
  have hxf := rw_.el.fa hwf
  have hvf : v.fault = 0 := by rw [← fx]; exact hxf
  rw [s6, rw_.sn hwf, sx, rv.sn hvf, dy.nf, List.append_assoc, fnR_app L (by omega) (by omega), fnR_no (L := L) (i := i) (b := r) (by unfold isF; rw [hk]; decide) (by omega)]
  rfl
 ·rw [g6]
  exact E.gs rfl

omit h5 in
theorem zdeclare_nx {z : ZS} {i n : Nat} : zdeclare L A { z with next := n } i = (zdeclare L A z i).map fun y => { y with next := n } := by
 have hf : ∀ (z : ZS) (e : Int), zfail { z with next := n } i e = { zfail z i e with next := n } := by
  intro z e
  unfold zfail
  by_cases h : z.fault = 0
  ·rw [if_pos h, if_pos (show ({ z with next := n } : ZS).fault = 0 from h)]
  ·rw [if_neg h, if_neg (show ¬ ({ z with next := n } : ZS).fault = 0 from h)]
 obtain ⟨nm, fn, lo, nx, fu, us, gl, de, se, fa, fy, ct, nc⟩ := z
 unfold zdeclare
 split
 ·split
  ·exact congrArg some (hf ⟨nm, fn, lo, nx, fu, us, gl, de, se, fa, fy, ct, nc⟩ 8)
  ·cases nm with
   | none =>
    simp only [zglobal]
    split
    ·exact congrArg some (hf ⟨none, fn, lo, nx, fu, us, gl, de, se, fa, fy, ct, nc⟩ 80)
    split
    ·exact congrArg some (hf ⟨none, fn, lo, nx, fu, us, gl, de, se, fa, fy, ct, nc⟩ 3)
    ·rfl
   | some m =>
    simp only [zslot]
    cases hg : fu[fn]? with
    | none => rfl
    | some f =>
     simp only
     split
     ·exact congrArg some (hf ⟨some m, fn, lo, nx, fu, us, gl, de, se, fa, fy, ct, nc⟩ 80)
     split
     ·exact congrArg some (hf ⟨some m, fn, lo, nx, fu, us, gl, de, se, fa, fy, ct, nc⟩ 3)
     split
     ·rfl
     ·rfl
 ·rfl
omit h5 in
theorem zshow_nx {z : ZS} {i n : Nat} : zshow L { z with next := n } i = (zshow L z i).map fun y => { y with next := n } := by
 obtain ⟨nm, fn, lo, nx, fu, us, gl, de, se, fa, fy, ct, nc⟩ := z
 unfold zshow
 simp only
 cases hu : us[i]? with
 | none => rfl
 | some u =>
  simp only
  split
  ·rfl
  ·cases nm with
   | none => rfl
   | some m =>
    simp only
    split <;> rfl

omit h5 in
theorem name_one {i j : Nat} (h : Tr L 5 i j) : (zN L i).1 = 19 ∧ j = i + 1 := by
 obtain ⟨h1, h2, h3, h4⟩ := h.out
 have hk : (zN L i).1 = 19 := by
  unfold ftP at h2
  split at h2
  ·cases h2
  ·simpa using h2
 have := wm_rng h3
 rw [hk] at this
 have h0 : (zN L i).2.1 = 0 := by
  have e : shpA 19 = (3, 0, 0, 1) := by decide
  rw [e] at this
  simp only at this
  omega
 rw [h0] at h4
 have h4 : i + 1 = j := h4
 exact ⟨hk, h4.symm⟩

theorem params_ok : ∀ (n p q : Nat) (z : ZS), Fo L (List.replicate n 5) p q → q ≤ L.length → z.next = p → z.names.isSome = true → Inv L 0 0 z →
  ∃ v, zparam L A n z = some v ∧ Inv L 0 0 v ∧ El L true p 0 0 z v ∧ v.next = q ∧ skn v = skn z ∧ fnR L p q = []
 | 0, p, q, z, hf, hq, hz, hn, hi => by
  have : p = q := hf
  subst this
  exact ⟨z, rfl, hi, (El.refl z p).weak (fun k => by cases k) (.inl rfl) (Nat.le_refl _) (Nat.le_refl _), hz, rfl, fnR_self _ _⟩
 | n + 1, p, q, z, hf, hq, hz, hn, hi => by
  obtain ⟨r, h1, h2⟩ := hf
  obtain ⟨hk, rfl⟩ := name_one h1
  have hle := Fo.le h2
  have hpl : p < L.length := h1.out.1
  have hu := hi.un p (by omega) hpl
  have hi1 := hi.next
  obtain ⟨y1, a1, iy, dy⟩ := zdeclare_ok (A := A) (i := p) hi1 hpl (by show p < z.next + 1; omega) (by show z.next + 1 ≤ 1001; omega) hu
  have hyn : y1.next = z.next + 1 := dy.nx
  obtain ⟨v1, a2, iv, ev, nv, sv, _⟩ := zshow_ok iy hpl (by omega) dy.sh
  rw [zdeclare_nx] at a1
  obtain ⟨y, b1, b2⟩ := Option.map_eq_some_iff.1 a1
  subst b2
  rw [zshow_nx] at a2
  obtain ⟨v, c1, c2⟩ := Option.map_eq_some_iff.1 a2
  subst c2
  have hn1 : ({ v with next := z.next + 1 } : ZS).names.isSome = true := by rw [ev.nm, dy.el.nm]; exact hn
  obtain ⟨w, d1, iw, ew, nw, sw, fw⟩ := params_ok n (p + 1) q { v with next := z.next + 1 } h2 hq (by show z.next + 1 = p + 1; omega) hn1 iv
  have E1 := dy.el.trans ev
  have hz1 : El L false p 0 0 z z := El.refl _ _
  refine ⟨w, ?_, iw, ?_, nw, by rw [sw, sv, dy.nf]; rfl, by rw [fnR_no (L := L) (i := p) (b := q) (by unfold isF; rw [hk]; decide) (by omega)]; exact fw⟩
  ·unfold zparam
   rw [hz, b1]
   simp only [Option.bind_some]
   rw [c1]
   simp only [Option.bind_some]
   rw [hz] at d1
   exact d1
  ·have E := E1.trans (ew.weak (i' := p) (c' := 0) (k' := 0) (fun x => x) (.inr (by show z.next + 1 ≤ p + 1; omega)) (Nat.le_refl _) (Nat.le_refl _))
   refine ⟨E.fn, E.lo, Nat.le_trans (Nat.le_succ _) E.nx, E.nm, E.un, (fun k => by cases k), E.fs, E.ds, ?_, ?_, fun j hj hji => E.us j (Nat.lt_succ_of_lt hj) hji, E.fa, E.gs⟩
   ·have h : w.declared.length + (z.next + 1) ≤ z.declared.length + w.next + (1 + 0 + 0) := E.dl; omega
   ·have h : w.cnt + w.nc + 2 * (z.next + 1) ≤ z.cnt + z.nc + 2 * w.next + 2 * (0 + 1 + 0) := E.cn; omega

theorem func_tot {N : Nat} (H : Tot L A N) {i r t : Nat} {z : ZS} (hk : (zN L i).1 = 12 ∨ (zN L i).1 = 31) (hf : Fo L (kidsA (zN L i) (zN L i).2.1.toNat 0) (i + 1) r) (hw : wmP (zN L i) = true) (hi : i < L.length) (hr : r ≤ L.length) (hN : r - (i + 1) ≤ N) (hz : z.next = i + 1) (hv : Inv L 0 0 z) (ht : 4 * (r - (i + 1)) + 2 ≤ t) :
  ∃ v, zR L A t (.func i) z = some v ∧ Run L false (i + 1) i 0 0 r z v ∧ v.globals = z.globals := by
 obtain ⟨s, rfl⟩ : ∃ s, t = s + 1 := ⟨t - 1, by omega⟩
 unfold zR
 dsimp only
 by_cases h1 : z.funs.length = 1024
 ·rw [if_pos h1]
  exact ⟨_, rfl, ⟨zfail_Inv hv hi, zfail_El z i 3 (by decide) (i + 1), by rw [zfail_next]; have := hf.le; omega, fun k => absurd k (zfail_ne (by decide)), fun k => absurd k (zfail_ne (by decide))⟩, by unfold zfail; split <;> rfl⟩
 rw [if_neg h1]
 have hnum := wm_fn hw hk
 have hrg := wm_rng hw
 have hrg2 : 1 ≤ (zN L i).2.1 ∧ (zN L i).2.1 ≤ 17 := by
  rcases hk with hk | hk
  ·rw [hk] at hrg; exact hrg
  ·rw [hk] at hrg; exact hrg
 obtain ⟨n, hn⟩ : ∃ n : Nat, (zN L i).2.2.2.1 = n := ⟨(zN L i).2.2.2.1.toNat, by omega⟩
 have hfn := hv.fn
 rw [if_pos ⟨⟨hi, by omega⟩, by omega, by omega⟩]
 have hkids : kidsA (zN L i) (zN L i).2.1.toNat 0 = List.replicate n 5 ++ [6] := by
  have key : ∀ (m : Nat) (x : Nat), x + m = n → kidsA (zN L i) (m + 1) x = List.replicate m 5 ++ [6] := by
   intro m
   induction m with
   | zero =>
    intro x hx
    unfold kidsA stP
    rw [if_neg (by omega), if_neg (by omega), if_neg (by omega), if_neg (by omega), if_neg (by omega), if_pos hk, if_neg (by omega)]
    rfl
   | succ m ih =>
    intro x hx
    unfold kidsA
    have := ih (x + 1) (by omega)
    rw [show (((x + 1 : Nat)) : Int) = (x : Int) + 1 by omega] at this
    rw [this]
    unfold stP
    rw [if_neg (by omega), if_neg (by omega), if_neg (by omega), if_neg (by omega), if_neg (by omega), if_pos hk, if_pos (by omega)]
    rfl
  have := key n 0 (by omega)
  rw [show (zN L i).2.1.toNat = n + 1 by omega]
  exact this
 rw [hkids] at hf
 obtain ⟨p, hp1, hp2⟩ : ∃ p, Fo L (List.replicate n 5) (i + 1) p ∧ Fo L [6] p r := by
  have key : ∀ (m : Nat) (a : Nat), Fo L (List.replicate m 5 ++ [6]) a r → ∃ p, Fo L (List.replicate m 5) a p ∧ Fo L [6] p r := by
   intro m
   induction m with
   | zero => intro a h; exact ⟨a, rfl, h⟩
   | succ m ih =>
    intro a h
    obtain ⟨b, h1, h2⟩ := h
    obtain ⟨p, h3, h4⟩ := ih b h2
    exact ⟨p, ⟨b, h1, h3⟩, h4⟩
  exact key n _ hf
 obtain ⟨r', hp3, hp4⟩ := hp2
 have hp4 : r' = r := hp4
 subst hp4
 have hpl := hp1.le
 have hpr := hp3.lt
 simp only [List.length_replicate] at hpl
 have hsk : sk (zopen L z i) = sk z ++ [((i : Int), (zN L i).2.2.2.1, z.fn)] := by unfold sk zopen zenter; simp
 have hskn : skn (zopen L z i) = skn z ++ [((i : Int), (zN L i).2.2.2.1)] := by unfold skn zopen zenter; simp
 have he : Inv L 0 0 (zopen L z i) := by
  refine ⟨hv.ul, hv.un, ?_, ?_, ?_, hv.dl, by have := hv.cn; show z.cnt + 0 + 2 + 2 * 0 ≤ 2 * z.next; omega, ⟨Int.le_refl _, ?_⟩, hv.fy, hv.uf⟩
  ·show z.funs.length < (z.funs ++ [_]).length; simp
  ·intro g f hg h0
   rw [hsk] at hg
   rcases Nat.lt_or_ge g (sk z).length with hlt | hge
   ·rw [List.getElem?_append_left hlt] at hg; exact hv.ab g f hg h0
   ·rw [List.getElem?_append_right hge] at hg
    have : g - (sk z).length = 0 := by
     rcases Nat.eq_zero_or_pos (g - (sk z).length) with h | h
     ·exact h
     ·rw [List.getElem?_eq_none (by simp; omega)] at hg; cases hg
    rw [this] at hg
    cases hg
    rw [sk_len] at hge
    show z.fn < g
    omega
  ·intro s d hs
   obtain ⟨x, y, a1, a2, a3⟩ := hv.se s d hs
   refine ⟨x, y, a1, a2, .up (f := ((i : Int), (zN L i).2.2.2.1, z.fn)) ?_ (show 0 < z.funs.length by omega) ?_⟩
   ·rw [hsk]
    show (sk z ++ _)[z.funs.length]? = _
    rw [← sk_len, List.getElem?_concat_length]
   ·exact a3.mono (by rw [hsk]; exact List.prefix_append _ _)
  ·have := hv.lo.2; have := hv.lo.1
   show (0 : Int) + 1 + ((0 : Nat) : Int) ≤ z.next
   omega
 obtain ⟨y, a1, iy, ey, ny, sy, fy⟩ := params_ok h5 (A := A) n (i + 1) p (zopen L z i) hp1 (by omega) hz rfl he
 obtain ⟨u, a2, ru⟩ := H.one (by omega) hp3 (by decide) ny iy (t := s) (by omega)
 have hnp : (zN L i).2.2.2.1.toNat = n := by omega
 have hru : El L false p 0 0 y u := ru.el
 have E : El L true (i + 1) 0 0 (zopen L z i) u := ey.trans (hru.weak (i' := i + 1) (c' := 0) (k' := 0) (fun x => x) (.inr (by omega)) (Nat.le_refl _) (Nat.le_refl _))
 obtain ⟨v, b1, b2, b3, b4, b5, b6, _, b7⟩ := zleave_ok (j := 0) (k := 0) hv (e := zopen L z i) rfl rfl rfl rfl rfl (by rw [hsk]; exact List.prefix_append _ _) rfl rfl rfl rfl ru.inv E (by have := ru.le; omega)
 refine ⟨v, ?_, ⟨b2, b3, by rw [b4]; exact ru.le, fun hf => by rw [b4]; exact ru.at_ (by rw [← b5]; exact hf), fun hf => ?_⟩, ?_⟩
 ·rw [hnp, a1]
  simp only [Option.bind_some]
  rw [a2]
  exact b1
 ·rw [b6, ru.sn (by rw [← b5]; exact hf), sy, hskn, fnR_yes (L := L) (i := i) (b := r') (by unfold isF; rcases hk with hk | hk <;> rw [hk] <;> decide) (by omega), ← fnR_app L (a := i + 1) (b := p) (c := r') (by omega) (by omega), fy]
  simp
 ·rw [b7]; exact E.gs rfl

omit h5 in
theorem Run.fold {st : Bool} {c k q : Nat} {z v : ZS} (h : Run L st z.next z.next c k q { z with next := z.next + 1 } v) (hc : c ≤ 1) (hk : k ≤ 1) : Run L st z.next z.next 0 0 q z v where
 inv := h.inv
 el := by
  have E := h.el
  refine ⟨E.fn, E.lo, Nat.le_trans (Nat.le_succ _) E.nx, E.nm, E.un, E.ex, E.fs, E.ds, ?_, ?_, fun j hj hji => E.us j (Nat.lt_succ_of_lt hj) hji, E.fa, E.gs⟩
  ·have h : v.declared.length + (z.next + 1) ≤ z.declared.length + v.next + c := E.dl; omega
  ·have h : v.cnt + v.nc + 2 * (z.next + 1) ≤ z.cnt + z.nc + 2 * v.next + 2 * k := E.cn; omega
 le := h.le
 at_ := h.at_
 sn := h.sn

omit h5 in
theorem ft_one {k a : Int} (h : ftP k a = true) (ha : a ≠ 1) : k ≠ 1 := by
 rintro rfl
 unfold ftP at h
 revert h
 repeat' split
 all_goals simp
 all_goals (try (show ¬ ((1 : Int) = a)); omega)
omit h5 in
theorem kids_not {n : ANode} (h1 : n.1 ≠ 1) (h2 : n.1 ≠ 2) : ∀ (k : Nat) (x : Int), ∀ a ∈ kidsA n k x, a ≠ 1 ∧ a ≠ 2 := by
 intro k
 induction k with
 | zero => intro x a h; cases h
 | succ k ih =>
  intro x a h
  rcases List.mem_cons.1 h with h | h
  ·rw [h]
   unfold stP
   repeat' split
   all_goals omega
  ·exact ih _ a h

theorem node_tot {N : Nat} (H : Tot L A N) {a : Int} {p r t : Nat} {z : ZS} (h : Tr L a p r) (ha : a ≠ 1) (hN : r - p ≤ N + 1) (hz : z.next = p) (hi : Inv L 0 0 z) (ht : 4 * (r - p) ≤ t) :
  ((zN L p).1 = 2 → ∃ v, zR L A t (.block p) { z with next := z.next + 1 } = some v ∧ Run L false p p 0 0 r z v ∧ v.globals = z.globals) ∧
  ((zN L p).1 = 3 → ∃ v, zR L A t (.var p) { z with next := z.next + 1 } = some v ∧ Run L true p p 0 0 r z v ∧ (z.names = none → v.fault = 0 → v.globals = z.globals ++ [zT L p] ∧ v.uses[p]? = some (4, (z.globals.length : Int)))) ∧
  ((zN L p).1 = 6 → ∃ v, zR L A t .loop { z with next := z.next + 1 } = some v ∧ Run L false p p 0 0 r z v ∧ (z.names = none → v.fault = 0 → v.globals = z.globals)) ∧
  ((zN L p).1 = 11 → ∃ v, zR L A t (.att p) { z with next := z.next + 1 } = some v ∧ Run L false p p 0 0 r z v ∧ v.globals = z.globals) ∧
  ((zN L p).1 = 12 → ∃ v, zR L A t (.named p) { z with next := z.next + 1 } = some v ∧ Run L true p p 0 0 r z v ∧ (z.names = none → v.fault = 0 → v.globals = z.globals ++ [zT L p] ∧ v.uses[p]? = some (4, (z.globals.length : Int)))) ∧
  ((zN L p).1 = 31 → ∃ v, zR L A t (.func p) { z with next := z.next + 1 } = some v ∧ Run L false p p 0 0 r z v ∧ v.globals = z.globals) := by
 have hl := h.lt
 obtain ⟨h1, h2, h3, h4⟩ := h.out
 have hrg := wm_rng h3
 have hle := h4.le
 have hv := hi.next
 subst hz
 have hu : ({ z with next := z.next + 1 } : ZS).uses[z.next]? = some (0, 0) := hi.un _ (Nat.le_refl _) h1
 refine ⟨fun hk => ?_, fun hk => ?_, fun hk => ?_, fun hk => ?_, fun hk => ?_, fun hk => ?_⟩
 ·have h0 : 0 ≤ (zN L z.next).2.1 := wm_nonneg h2 h3
  obtain ⟨v, a1, a2, a3⟩ := block_tot h5 H hk h4 h0 h1 hl.2 (by omega) rfl hv (t := t) (by omega)
  exact ⟨v, a1, a2.fold (by omega) (by omega), a3⟩
 ·have e : (zN L z.next).2.1 = 1 := by
   rw [hk, show shpA 3 = (2, 1, 1, 1) from by decide] at hrg; simp only at hrg; omega
  rw [e] at h4
  have h4 : Fo L [stP (zN L z.next) 0] (z.next + 1) r := h4
  rw [show stP (zN L z.next) 0 = 3 from by unfold stP; rw [hk]; simp] at h4
  obtain ⟨r', h6, h7⟩ := h4
  have h7 : r' = r := h7
  subst h7
  obtain ⟨v, a1, a2, a3⟩ := var_tot h5 H hk h6 h1 (by omega) rfl hu hv (t := t) (by omega)
  exact ⟨v, a1, a2.fold (by omega) (by omega), a3⟩
 ·have e : (zN L z.next).2.1 = 2 := by
   rw [hk, show shpA 6 = (2, 2, 2, 0) from by decide] at hrg; simp only at hrg; omega
  rw [e] at h4
  have h4 : Fo L [stP (zN L z.next) 0, stP (zN L z.next) 1] (z.next + 1) r := h4
  rw [show stP (zN L z.next) 0 = 3 from by unfold stP; rw [hk]; simp, show stP (zN L z.next) 1 = 6 from by unfold stP; rw [hk]; simp] at h4
  obtain ⟨q, h6, r', h7, h8⟩ := h4
  have h8 : r' = r := h8
  subst h8
  obtain ⟨v, a1, a2, a3⟩ := loop_tot h5 H hk h6 h7 h1 (by omega) rfl hv (t := t) (by omega)
  exact ⟨v, a1, a2.fold (by omega) (by omega), a3⟩
 ·have e : (zN L z.next).2.1 = 2 := by
   rw [hk, show shpA 11 = (2, 2, 2, 1) from by decide] at hrg; simp only at hrg; omega
  rw [e] at h4
  have h4 : Fo L [stP (zN L z.next) 0, stP (zN L z.next) 1] (z.next + 1) r := h4
  rw [show stP (zN L z.next) 0 = 6 from by unfold stP; rw [hk]; simp, show stP (zN L z.next) 1 = 6 from by unfold stP; rw [hk]; simp] at h4
  obtain ⟨q, h6, r', h7, h8⟩ := h4
  have h8 : r' = r := h8
  subst h8
  obtain ⟨v, a1, a2, a3⟩ := att_tot h5 H hk h6 h7 h1 (by omega) rfl hu hv (t := t) (by omega)
  exact ⟨v, a1, a2.fold (by omega) (by omega), a3⟩
 ·obtain ⟨s, rfl⟩ : ∃ s, t = s + 1 := ⟨t - 1, by omega⟩
  obtain ⟨y, b1, iy, dy⟩ := zdeclare_ok (A := A) hv h1 (by show z.next < z.next + 1; omega) (by show z.next + 1 ≤ 1001; omega) hu
  have hyn : y.next = z.next + 1 := dy.nx
  obtain ⟨x, b2, ix, ex, nx, sx, fx, gx, ux⟩ := zshow_ok iy h1 (by omega) dy.sh
  obtain ⟨v, b3, rv, gv⟩ := func_tot h5 H (.inl hk) h4 h3 h1 hl.2 (by omega) (by rw [nx]; exact hyn) ix (t := s) (by omega)
  have R : Run L true z.next z.next 1 1 r { z with next := z.next + 1 } v :=
   ⟨rv.inv, ((dy.el.trans ex).trans (rv.el.weak (i' := z.next) (c' := 0) (k' := 0) (fun x => x) (.inr (by rw [nx]; omega)) (Nat.le_refl _) (Nat.le_refl _))).weak (fun _ => rfl) (.inl rfl) (by omega) (by omega), rv.le, rv.at_, fun hf => by rw [rv.sn hf, sx, dy.nf]⟩
  refine ⟨v, ?_, R.fold (by omega) (by omega), fun hn hf => ?_⟩
  ·unfold zR
   dsimp only
   rw [b1]
   simp only [Option.bind_some]
   rw [b2]
   exact b3
  ·have hxf := rv.el.fa hf
   obtain ⟨c1, c2⟩ := dy.dn hn (by rw [← fx]; exact hxf)
   refine ⟨by rw [gv, gx, c1], ?_⟩
   rw [rv.el.us z.next (by rw [nx]; omega) (by omega), ux]
   exact c2
 ·obtain ⟨v, a1, a2, a3⟩ := func_tot h5 H (.inr hk) h4 h3 h1 hl.2 (by omega) rfl (hv.weak (by omega) (by omega)) (t := t) (by omega)
  have R : Run L false z.next z.next 1 1 r { z with next := z.next + 1 } v := ⟨a2.inv, a2.el.weak (fun x => x) (.inr (Nat.le_refl _)) (by omega) (by omega), a2.le, a2.at_, a2.sn⟩
  exact ⟨v, a1, R.fold (by omega) (by omega), a3⟩
end
end Go.Proofs.YtdhkcdehedbpcaaDoor

