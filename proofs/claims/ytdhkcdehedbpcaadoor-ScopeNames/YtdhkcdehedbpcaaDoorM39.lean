/- scope.Resolve of any list of at most 1000 nodes. · A scope in memory, cell by cell; plain facts of a program's globals and functions, one by one. · The document's Same of two scopes that are the same (no globals told). -/
import Derived.Test.YtdhkcdehedbpcaaDoorM38
import Derived.Test.YtdhkcdehedbpcaaDoorM19
import Derived.BigQuiet
import Derived.Deep.CutBlock
import Derived.Test.YtdhkcdehedbpcaaDoorM16
import Derived.Deep.DeepCutAuto
set_option linter.unusedSimpArgs false
set_option linter.unusedVariables false
namespace Go.Proofs.YtdhkcdehedbpcaaDoor
open Go Go.RowKit

section
variable (L : List ANode)
def rsN : Nat := (zN L 0).2.1.toNat
def rsA : ByteArray → Option Int := (globA L (rsN L) 1 (fun _ => none) 0).getD fun _ => none
def rsO : Option ZS := zR L (rsA L) (4 * (L.length - 1) + 1) (.parts (rsN L)) (zstart L)
def rsZ : ZS := (rsO L).getD default
end

theorem glob_all {L : List ANode} : ∀ (es : List Int) (p q : Nat) (M : ByteArray → Option Int) (c : Int), Fo L es p q → ∃ A, globA L es.length p M c = some A
 | [], p, q, M, c, h => ⟨M, rfl⟩
 | a :: es, p, q, M, c, h => by
  obtain ⟨r, h1, h2⟩ := h
  have hl := h1.lt
  have hb := h1.behind
  rw [List.length_cons]
  unfold globA
  rw [if_pos (by omega), hb]
  split
  ·exact glob_all es r q _ _ h2
  ·exact glob_all es r q _ _ h2

theorem zstart_inv (L : List ANode) : Inv L 0 0 (zstart L) where
 ul := by show (List.replicate L.length ((0 : Int), (0 : Int))).length = _; rw [List.length_replicate]
 un := fun j _ hl => by show (List.replicate L.length ((0 : Int), (0 : Int)))[j]? = _; rw [List.getElem?_replicate, if_pos hl]
 fn := by show 0 < 1; omega
 ab := fun g f hg h0 => by
  have hg : ([((0 : Int), (0 : Int), 0)] : List (Int × Int × Nat))[g]? = some f := hg
  cases g with
  | zero => omega
  | succ g => simp at hg
 se := fun s d h => by cases h
 dl := by show 0 + 1 + 0 ≤ 1; omega
 cn := by show 0 + 0 + 2 + 2 * 0 ≤ 2 * 1; omega
 lo := ⟨Int.le_refl _, by show (0 : Int) + 1 + ((0 : Nat) : Int) ≤ ((1 : Nat) : Int); omega⟩
 fy := fun h => absurd rfl h
 uf := fun j u hu h1 => by
  have hu : (List.replicate L.length ((0 : Int), (0 : Int)))[j]? = some u := hu
  rw [List.getElem?_replicate] at hu
  split at hu
  ·cases hu; cases h1
  ·cases hu

structure RsOk (L : List ANode) : Prop where
 n0 : (zN L 0).2.1 = (rsN L : Int)
 k0 : (zN L 0).1 = 1
 nl : rsN L + 1 ≤ L.length
 fo : Fo L (kidsA (zN L 0) (rsN L) 0) 1 L.length
 gl : globA L (rsN L) 1 (fun _ => none) 0 = some (rsA L)
 re : zR L (rsA L) (4 * (L.length - 1) + 1) (.parts (rsN L)) (zstart L) = some (rsZ L)
 fy : (rsZ L).fault ≠ 0 → (rsZ L).faulty < L.length
 fit : ∀ u ∈ (rsZ L).uses, zfit (rsZ L) u = true
 sn : (rsZ L).fault = 0 → skn (rsZ L) = (0, 0) :: fnR L 1 L.length
 gg : (rsZ L).fault = 0 → (rsZ L).globals = (gT L (rsN L) 1).map (zT L)
 gu : (rsZ L).fault = 0 → ∀ (n x : Nat), (gT L (rsN L) 1)[n]? = some x → (rsZ L).uses[x]? = some (4, (n : Int))

theorem rs_ok {L : List ANode} (hl : L.length ≤ 1000) (hc : (ckP L).2 = 0) : RsOk L := by
 have ht := tree_of hc
 obtain ⟨h0, h1, h2, h3⟩ := ht.out
 have hn0 := wm_nonneg h1 h2
 have hk : (zN L 0).1 = 1 := by
  have hr := ft_rng h1
  have : ∀ k : Nat, k < 33 → (shpA (k : Int)).1 = 1 → k = 1 := by decide
  have h1' : (shpA (zN L 0).1).1 = 1 := by
   unfold ftP at h1
   rw [if_neg (by omega), if_neg (by decide), if_neg (by decide), if_neg (by decide), if_neg (by decide)] at h1
   simpa using h1
  have := this (zN L 0).1.toNat (by omega) (by rw [Int.toNat_of_nonneg (by omega)]; exact h1')
  omega
 have hle := h3.le
 rw [kidsA_len] at hle
 have hlen : (kidsA (zN L 0) (rsN L) 0).length = rsN L := kidsA_len _ _ _
 have ha1 : ∀ a ∈ kidsA (zN L 0) (rsN L) 0, a ≠ 1 := by
  have key : ∀ (k : Nat) (x : Int), ∀ a ∈ kidsA (zN L 0) k x, a ≠ 1 := by
   intro k
   induction k with
   | zero => intro x a h; cases h
   | succ k ih =>
    intro x a h
    rcases List.mem_cons.1 h with h | h
    ·rw [h]; unfold stP; rw [if_pos (.inl hk)]; decide
    ·exact ih _ a h
  exact key _ _
 obtain ⟨A, hA⟩ := glob_all (L := L) _ 1 L.length (fun _ => none) 0 h3
 rw [kidsA_len] at hA
 have hA : globA L (rsN L) ((1 : Nat) : Int) (fun _ => none) 0 = some (rsA L) := by
  have hA' : globA L (rsN L) 1 (fun _ => none) 0 = some A := hA
  unfold rsA; rw [hA']; exact hA'
 obtain ⟨z, e1, e2, e3⟩ := tot_all (A := rsA L) hl (L.length - 1) (kidsA (zN L 0) (rsN L) 0) 1 L.length (4 * (L.length - 1) + 1) (zstart L) (Nat.le_refl _) h3 ha1 (Nat.le_refl _) rfl (zstart_inv L) (Nat.le_refl _)
 rw [hlen] at e1 e3
 have hz : rsZ L = z := by unfold rsZ rsO; rw [e1]; rfl
 refine ⟨by unfold rsN; omega, hk, by unfold rsN; omega, h3, hA, by rw [hz]; exact e1, by rw [hz]; exact e2.inv.fy, ?_, ?_, ?_, ?_⟩
 ·rw [hz]
  intro u hu
  obtain ⟨j, hj⟩ := List.getElem?_of_mem hu
  unfold zfit
  by_cases h1 : u.1 = 1
  ·obtain ⟨a, b⟩ := e2.inv.uf j u hj h1
   simp; right; exact ⟨a, b⟩
  ·simp [h1]
 ·rw [hz]; intro hf; rw [e2.sn hf]; rfl
 ·rw [hz]; intro hf
  have := (e3 rfl hf).1
  simpa [zstart] using this
 ·rw [hz]; intro hf n x hx
  have := (e3 rfl hf).2 n x hx
  simpa [zstart] using this

section
variable (w : World)
set_option maxRecDepth 100000 in
set_option maxHeartbeats 4000000 in
theorem check_nil' (a : Option Addr) (cap : Nat) : Calls Tryd.prog 23 #[.slice a 0 cap] w fun e w' => e = .returned (.tuple #[.int .i64 0, .int .i64 6]) ∧ Bw w w' := by
 go_enter Tryd.func23, Tryd.ntmps23
 go_wp2
 all_goals go_ret2
 all_goals exact ⟨rfl, by repeat (first | exact Bw.refl _ | apply Bw.alloc | apply Bw.drewN | apply Bw.drew)⟩

set_option maxRecDepth 100000 in
set_option maxHeartbeats 4000000 in
theorem resolve_nil' (a : Option Addr) (cap : Nat) : Calls Tryd.prog 10 #[.slice a 0 cap] w fun e w' => e = .returned (.tuple #[.agg #[.slice none 0 0, .slice none 0 0, .slice none 0 0], .int .i64 6, .int .i64 0]) ∧ Bw w w' := by
 go_enter Tryd.func10, Tryd.ntmps10
 go_wp2_with (first
  | (go_at_call 23; refine (check_nil' _ _ _).mono ?_; rintro e w1 ⟨rfl, hb1⟩; have B1 := hid (show Bw w w1 from Bw.trans bq hb1); have p3 : Blk w1 w.heap.size #[.slice none 0 0, .slice none 0 0, .slice none 0 0] 31 := Blk.bw (w := w.alloc _) (Blk.new w _ _) (Bw.trans bq hb1); have P3 := hid p3; have z := p3.cell; have zf := p3.free; have zl := p3.lt; clear hb1 p3)
  | fail)
 refine bodyPost_ret (v := .tuple #[.agg #[.slice none 0 0, .slice none 0 0, .slice none 0 0], .int .i64 6, .int .i64 0]) (by simp [results, Tryd.results10, go_sem, *]) rfl ?_
 exact ⟨rfl, ((B1.out.setCell (Nat.le_refl _) _).setCell (Nat.le_refl _) _).setCell (Nat.le_refl _) _⟩
end

def rsE (L : List ANode) : Int := if (ckP L).2 ≠ 0 then (ckP L).2 else (rsZ L).fault
def rsP (L : List ANode) : Int := if (ckP L).2 ≠ 0 then 0 else if (rsZ L).fault ≠ 0 then (zN L (rsZ L).faulty).2.2.2.2 else 0

theorem resolve_bad {w : World} {a : Option Addr} {L : List ANode} (h : NA w a L) (hl : L.length ≤ 1000) (cap : Nat) (hh : Sh w) (hp : PrM w) (he : rsE L ≠ 0) :
  Calls Tryd.prog 10 #[.slice a L.length cap] w fun e w' => e = .returned (.tuple #[.agg #[.slice none 0 0, .slice none 0 0, .slice none 0 0], .int .i64 (rsE L), .int .i64 (rsP L)]) ∧ Bw w w' := by
 rcases Nat.eq_zero_or_pos L.length with h0 | h0
 ·have : L = [] := List.length_eq_zero_iff.1 h0
  subst this
  have e1 : rsE [] = 6 := by unfold rsE; rw [if_pos (by decide)]; rfl
  have e2 : rsP [] = 0 := by unfold rsP; rw [if_pos (by decide)]
  rw [e1, e2]
  exact resolve_nil' w a cap
 ·obtain ⟨g, o, rfl, hm⟩ := na_nc h h0
  by_cases hc : (ckP L).2 = 0
  ·have e1 : rsE L = (rsZ L).fault := by unfold rsE; rw [if_neg (by omega)]
   rw [e1] at he ⊢
   have e2 : rsP L = (zN L (rsZ L).faulty).2.2.2.2 := by unfold rsP; rw [if_neg (by omega), if_pos he]
   rw [e2]
   have R := rs_ok hl hc
   exact Resolve_bad h0 hl R.n0 (by have := R.nl; omega) hm hh hp hc R.gl _ _ R.re he (R.fy he)
  ·have e1 : rsE L = (ckP L).2 := by unfold rsE; rw [if_pos hc]
   have e2 : rsP L = 0 := by unfold rsP; rw [if_pos hc]
   rw [e1, e2]
   exact Resolve_no h0 hl hm hh hc

theorem rs_in {L : List ANode} (hl : L.length ≤ 1000) (he : rsE L = 0) : RsOk L ∧ (rsZ L).fault = 0 ∧ (ckP L).2 = 0 ∧ 0 < L.length := by
 unfold rsE at he
 split at he
 ·next h => exact absurd he h
 ·next h =>
  have hc : (ckP L).2 = 0 := by omega
  have h0 := (tree_of hc).lt.1
  exact ⟨rs_ok hl hc, he, hc, h0⟩

theorem resolve_ok {w : World} {a : Option Addr} {L : List ANode} (h : NA w a L) (hl : L.length ≤ 1000) (cap : Nat) (hh : Sh w) (hp : PrM w) (he : rsE L = 0) :
  Calls Tryd.prog 10 #[.slice a L.length cap] w fun e w' => ∃ vf vu vg, e = .returned (.tuple #[.agg #[vf, vu, vg], .int .i64 0, .int .i64 0]) ∧ ScM w' vf vu vg (rsZ L) ∧ (∃ a c, vf = .slice a (rsZ L).funs.length c) ∧ (∃ a c, vu = .slice a L.length c) ∧ (∃ a c, vg = .slice a (rsZ L).globals.length c) ∧ (rsZ L).uses.length = L.length ∧ Bw w w' := by
 obtain ⟨R, hf, hc, h0⟩ := rs_in hl he
 obtain ⟨g, o, rfl, hm⟩ := na_nc h h0
 exact Resolve_ok h0 hl R.n0 (by have := R.nl; omega) hm hh hp hc R.gl _ _ R.re hf R.fit
end Go.Proofs.YtdhkcdehedbpcaaDoor

namespace Go.Proofs.YtdhkcdehedbpcaaDoor
open Go Go.RowKit

theorem own_at {w : World} {base : Nat} {e : TypeId} {size : Nat} {a : Option Addr} {n cap : Nat} {xs : List Value} (h : w.ownsRow base e size (.slice a n cap) n xs) (hn : 0 < n) : ∃ g, a = some ⟨g, 0, none⟩ ∧ g < w.heap.size ∧ ∀ i, i < n * size → w.cell? ⟨g, i, none⟩ = xs[i]? := by
 obtain ⟨g, c, e, hl, _, hc⟩ := own_some (own_base h (Nat.zero_le _)) hn
 injection e with e1 e2 e3
 exact ⟨g, e1, hl, fun i hi => by have := hc i hi; simpa using this⟩

section
variable {w : World} {vf vu vg : Value} {z : ZS} {a : Option Addr} {n cap : Nat}
theorem ScM.fn (h : ScM w (.slice a n cap) vu vg z) (hn : n = z.funs.length) {i : Nat} {f : ZF} (hf : z.funs[i]? = some f) :
  ∃ b, a = some ⟨b, 0, none⟩ ∧ b < w.heap.size ∧ w.cell? ⟨b, i * 4, none⟩ = some (.int .i64 f.node) ∧ w.cell? ⟨b, i * 4 + 1, none⟩ = some (.int .i64 f.params) ∧ w.cell? ⟨b, i * 4 + 2, none⟩ = some (.int .i64 f.slots) ∧
   ∃ cv, w.cell? ⟨b, i * 4 + 3, none⟩ = some cv ∧ w.ownsRow 0 59 2 cv f.caps.length (rowP f.caps) := by
 obtain ⟨K, hK, hr, hc⟩ := h.f
 have hlen : K.length = n := by rw [hn, ← hK, List.length_map]
 rw [hlen] at hr
 have hi : i < n := by rw [hn]; exact (List.getElem?_eq_some_iff.1 hf).1
 obtain ⟨b, e, hl, hcell⟩ := own_at hr (by omega)
 obtain ⟨k, hk⟩ : ∃ k, K[i]? = some k := ⟨_, List.getElem?_eq_getElem (by omega)⟩
 have hkf : k.f = f := by
  have : (K.map FK.f)[i]? = some k.f := by rw [List.getElem?_map, hk]; rfl
  rw [hK, hf] at this
  exact (Option.some.inj this).symm
 have g : ∀ j, j < 4 → w.cell? ⟨b, i * 4 + j, none⟩ = (fnC k)[j]? := fun j hj => by
  rw [hcell _ (by omega)]; exact flat_get8 fnC 4 (fun _ => rfl) K i j k hk hj
 refine ⟨b, e, hl, by have := g 0 (by omega); rw [Nat.add_zero] at this; rw [this, ← hkf]; rfl, by rw [g 1 (by omega), ← hkf]; rfl, by rw [g 2 (by omega), ← hkf]; rfl, k.cv, by rw [g 3 (by omega)]; rfl, ?_⟩
 have := hc i k hk
 rw [← hkf]
 exact this
theorem ScM.use (h : ScM w vf (.slice a n cap) vg z) (hn : n = z.uses.length) {x : Nat} {u : Int × Int} (hu : z.uses[x]? = some u) :
  ∃ b, a = some ⟨b, 0, none⟩ ∧ b < w.heap.size ∧ w.cell? ⟨b, x * 2, none⟩ = some (.int .i64 (zend z u).1) ∧ w.cell? ⟨b, x * 2 + 1, none⟩ = some (.int .i64 (zend z u).2) := by
 have hr := h.u
 rw [← hn] at hr
 have hx : x < n := by rw [hn]; exact (List.getElem?_eq_some_iff.1 hu).1
 obtain ⟨b, e, hl, hcell⟩ := own_at hr (by omega)
 have hm : (z.uses.map (zend z))[x]? = some (zend z u) := by rw [List.getElem?_map, hu]; rfl
 have g : ∀ j, j < 2 → w.cell? ⟨b, x * 2 + j, none⟩ = (prC (zend z u))[j]? := fun j hj => by
  rw [hcell _ (by omega)]; exact flat_get8 prC 2 (fun _ => rfl) _ x j _ hm hj
 exact ⟨b, e, hl, by have := g 0 (by omega); rw [Nat.add_zero] at this; rw [this]; rfl, by rw [g 1 (by omega)]; rfl⟩
theorem ScM.glob (h : ScM w vf vu (.slice a n cap) z) (hn : n = z.globals.length) {x : Nat} {s : ByteArray} (hs : z.globals[x]? = some s) :
  ∃ b, a = some ⟨b, 0, none⟩ ∧ b < w.heap.size ∧ w.cell? ⟨b, x, none⟩ = some (.string s) := by
 have hr := h.g
 rw [← hn] at hr
 have hx : x < n := by rw [hn]; exact (List.getElem?_eq_some_iff.1 hs).1
 obtain ⟨b, e, hl, hcell⟩ := own_at hr (by omega)
 exact ⟨b, e, hl, by rw [hcell _ (by omega), List.getElem?_map, hs]; rfl⟩
end

section
variable {L : List ANode}
theorem rts_lt : ∀ {es : List Int} {p q : Nat}, Fo L es p q → ∀ x ∈ rts L es.length p, p ≤ x ∧ x < L.length
 | [], p, q, h, x, hx => by cases hx
 | a :: es, p, q, h, x, hx => by
  obtain ⟨r, h1, h2⟩ := h
  rw [List.length_cons, rts, h1.behind, Int.toNat_natCast] at hx
  rcases List.mem_cons.1 hx with hx | hx
  ·rw [hx]; exact ⟨Nat.le_refl _, h1.out.1⟩
  ·have := rts_lt h2 x hx; have := h1.lt; omega
end
end Go.Proofs.YtdhkcdehedbpcaaDoor

namespace Go.Proofs.YtdhkcdehedbpcaaDoor
open Go Go.RowKit

theorem pair_at {w : World} {a : Option Addr} {n cap : Nat} {e : TypeId} {us : List (Int × Int)} (h : w.ownsRow 0 e 2 (.slice a n cap) us.length (rowP us)) {i : Nat} {u : Int × Int} (hu : us[i]? = some u) :
  ∃ b, a = some ⟨b, 0, none⟩ ∧ b < w.heap.size ∧ w.cell? ⟨b, i * 2, none⟩ = some (.int .i64 u.1) ∧ w.cell? ⟨b, i * 2 + 1, none⟩ = some (.int .i64 u.2) := by
 have hi := (List.getElem?_eq_some_iff.1 hu).1
 obtain ⟨a', c', e1⟩ := own_form h
 injection e1 with e2 e3 e4
 subst e3
 obtain ⟨b, e5, hl, hc⟩ := own_at h (by omega)
 have g : ∀ j, j < 2 → w.cell? ⟨b, i * 2 + j, none⟩ = (prC u)[j]? := fun j hj => by
  rw [hc _ (by omega)]; exact flat_get8 prC 2 (fun _ => rfl) us i j u hu hj
 exact ⟨b, e5, hl, by have := g 0 (by omega); rw [Nat.add_zero] at this; rw [this]; rfl, by rw [g 1 (by omega)]; rfl⟩

set_option maxRecDepth 100000 in
set_option maxHeartbeats 8000000 in
theorem same_yes {w : World} {z z' : ZS} {fa fb ua ub : Option Addr} {nf fc fd nu uc ud : Nat} {vg vg' : Value} (h : ScM w (.slice fa nf fc) (.slice ua nu uc) vg z) (h' : ScM w (.slice fb nf fd) (.slice ub nu ud) vg' z') (hf : nf = z.funs.length) (hu : nu = z.uses.length) (ef : z'.funs = z.funs) (eu : z'.uses = z.uses) (ed : z'.declared = z.declared) (hn : nf ≤ 100000 ∧ nu ≤ 100000) (hcp : ∀ f ∈ z.funs, f.caps.length ≤ 9223372036854775807) :
  Calls Tryd.prog 12 #[.agg #[.slice fa nf fc, .slice ua nu uc, .slice none 0 0], .agg #[.slice fb nf fd, .slice ub nu ud, .slice none 0 0]] w fun e w' => e = .returned (.bool true) ∧ Bw w w' := by
 have HFN := hid (fun (W : World) (hb : Bw w W) (i : Nat) (hi : i < nf) => (show ∃ (f : ZF) (b b' : Nat) (cv cv' : Value), f.caps.length ≤ 9223372036854775807 ∧ fa = some ⟨b, 0, none⟩ ∧ fb = some ⟨b', 0, none⟩ ∧ b < W.heap.size ∧ b' < W.heap.size ∧ (W.cell? ⟨b, i * 4, none⟩ = some (.int .i64 f.node) ∧ W.cell? ⟨b, i * 4 + 1, none⟩ = some (.int .i64 f.params) ∧ W.cell? ⟨b, i * 4 + 2, none⟩ = some (.int .i64 f.slots) ∧ W.cell? ⟨b, i * 4 + 3, none⟩ = some cv) ∧ (W.cell? ⟨b', i * 4, none⟩ = some (.int .i64 f.node) ∧ W.cell? ⟨b', i * 4 + 1, none⟩ = some (.int .i64 f.params) ∧ W.cell? ⟨b', i * 4 + 2, none⟩ = some (.int .i64 f.slots) ∧ W.cell? ⟨b', i * 4 + 3, none⟩ = some cv') ∧ W.ownsRow 0 59 2 cv f.caps.length (rowP f.caps) ∧ W.ownsRow 0 59 2 cv' f.caps.length (rowP f.caps) from by
  have hi' : i < z.funs.length := by omega
  obtain ⟨f, hfi⟩ : ∃ f, z.funs[i]? = some f := ⟨_, List.getElem?_eq_getElem hi'⟩
  obtain ⟨b, e1, e2, e3, e4, e5, cv, e6, e7⟩ := (h.bw hb).fn hf hfi
  obtain ⟨b', g1, g2, g3, g4, g5, cv', g6, g7⟩ := (h'.bw hb).fn (by rw [ef]; exact hf) (by rw [ef]; exact hfi)
  exact ⟨f, b, b', cv, cv', hcp f (List.mem_of_getElem? hfi), e1, g1, e2, g2, ⟨e3, e4, e5, e6⟩, ⟨g3, g4, g5, g6⟩, e7, g7⟩))
 have HUS := hid (fun (W : World) (hb : Bw w W) (i : Nat) (hi : i < nu) => (show ∃ (u : Int × Int) (b b' : Nat), ua = some ⟨b, 0, none⟩ ∧ ub = some ⟨b', 0, none⟩ ∧ b < W.heap.size ∧ b' < W.heap.size ∧ (W.cell? ⟨b, i * 2, none⟩ = some (.int .i64 u.1) ∧ W.cell? ⟨b, i * 2 + 1, none⟩ = some (.int .i64 u.2)) ∧ (W.cell? ⟨b', i * 2, none⟩ = some (.int .i64 u.1) ∧ W.cell? ⟨b', i * 2 + 1, none⟩ = some (.int .i64 u.2)) from by
  have hi' : i < z.uses.length := by omega
  obtain ⟨u, hui⟩ : ∃ u, z.uses[i]? = some u := ⟨_, List.getElem?_eq_getElem hi'⟩
  obtain ⟨b, e1, e2, e3, e4⟩ := (h.bw hb).use hu hui
  obtain ⟨b', g1, g2, g3, g4⟩ := (h'.bw hb).use (by rw [eu]; exact hu) (by rw [eu]; exact hui)
  have ez : zend z' u = zend z u := by unfold zend; rw [ed]
  rw [ez] at g3 g4
  exact ⟨zend z u, b, b', e1, g1, e2, g2, ⟨e3, e4⟩, ⟨g3, g4⟩⟩))
 have HN := hid hn
 have BX := hid (fun (W : World) (hb : Bw (((w.alloc (.cells #[.slice fa nf fc, .slice ua nu uc, .slice none 0 0] 31)).alloc (.cells #[.slice fb nf fd, .slice ub nu ud, .slice none 0 0] 31))) W) => (And.intro (((Blk.new w #[.slice fa nf fc, .slice ua nu uc, .slice none 0 0] 31).bw (Bw.alloc (Bw.refl _) (.cells #[.slice fb nf fd, .slice ub nu ud, .slice none 0 0] 31))).bw hb) ((Blk.new (w.alloc (.cells #[.slice fa nf fc, .slice ua nu uc, .slice none 0 0] 31)) #[.slice fb nf fd, .slice ub nu ud, .slice none 0 0] 31).bw hb)))
 clear h h' hf hu ef eu ed hn hcp
 go_enter Tryd.func12, Tryd.ntmps12
 go_upto_region 3 with (first | (go_quiet (fail)) | fail)
 go_wp2
 go_loopw [5] (fun v5 wr => ∃ i : Nat, v5 = .int .i64 (i : Int) ∧ i ≤ nu ∧ Bw ((w.alloc (.cells #[.slice fa nf fc, .slice ua nu uc, .slice none 0 0] 31)).alloc (.cells #[.slice fb nf fd, .slice ub nu ud, .slice none 0 0] 31)) wr) (fun v5 _ => nu - (intOf v5).toNat)
 case atStart => exact ⟨0, rfl, Nat.zero_le _, by repeat (first | exact Bw.refl _ | apply Bw.drewN | apply Bw.drew)⟩
 case round =>
  obtain ⟨i, rfl, hi, hbw⟩ := hrel
  have HB := hid hbw
  have HBW := hid (Bw.trans (Bw.alloc (Bw.alloc (Bw.refl w) _) _) hbw)
  have X := BX.out wr hbw
  have p1 := X.1.cell
  have p1f := X.1.free
  have p1l := X.1.lt
  have p2 := X.2.cell
  have p2f := X.2.free
  have p2l := X.2.lt
  simp only [World.size_alloc] at p2 p2f p2l
  by_cases hlt : i < nu
  ·have hlt' : (i : Int) < (nu : Int) := by omega
   obtain ⟨u, b, b', e1, e2, l1, l2, ⟨c1, c2⟩, ⟨d1, d2⟩⟩ := HUS.out wr HBW.out i hlt
   subst e1 e2
   obtain ⟨u0, u1⟩ := u
   simp only at c1 c2 d1 d2
   have hi0 : (0 : Int) ≤ (i : Int) := by omega
   have hw2 : IntKind.i64.wrap ((i : Int) + 1) = ((i + 1 : Nat) : Int) := by have := HN.out; rw [IntKind.wrap_i64]; omega
   clear hbw X
   go_upto_region 6 with fail
   go_quiet (fail)
   go_wp2
   case roundEnd =>
    exact ⟨⟨i + 1, by go_num, by omega, HB.out.trans (by repeat (first | exact Bw.refl _ | apply Bw.drewN | apply Bw.drew))⟩, by simp [intOf]; omega⟩
  ·have hlt' : ¬ (i : Int) < (nu : Int) := by omega
   clear hbw X
   go_wp2
   go_loopw [6] (fun v6 wt => v6 = .int .i64 0 ∧ Bw w wt ∧ Bw ((w.alloc (.cells #[.slice fa nf fc, .slice ua nu uc, .slice none 0 0] 31)).alloc (.cells #[.slice fb nf fd, .slice ub nu ud, .slice none 0 0] 31)) wt) (fun _ _ => 0)
   case atStart => exact ⟨rfl, HBW.out, HB.out⟩
   case round =>
    obtain ⟨rfl, hbw2, hbx⟩ := hrel
    have H2 := hid hbw2
    have HX := hid hbx
    have X := BX.out wr hbx
    have p1 := X.1.cell
    have p1f := X.1.free
    have p1l := X.1.lt
    have p2 := X.2.cell
    have p2f := X.2.free
    have p2l := X.2.lt
    simp only [World.size_alloc] at p2 p2f p2l
    clear hbw2 hbx X
    go_wp2
    go_loopw [7] (fun v7 wt => ∃ i : Nat, v7 = .int .i64 (i : Int) ∧ i ≤ nf ∧ Bw w wt ∧ Bw ((w.alloc (.cells #[.slice fa nf fc, .slice ua nu uc, .slice none 0 0] 31)).alloc (.cells #[.slice fb nf fd, .slice ub nu ud, .slice none 0 0] 31)) wt) (fun v7 _ => nf - (intOf v7).toNat)
    case atStart => exact ⟨0, rfl, Nat.zero_le _, H2.out, HX.out⟩
    case round =>
     obtain ⟨i, rfl, hi, hbw3, hbx3⟩ := hrel
     have H3 := hid hbw3
     have HX3 := hid hbx3
     have X := BX.out wr hbx3
     have p1 := X.1.cell
     have p1f := X.1.free
     have p1l := X.1.lt
     have p2 := X.2.cell
     have p2f := X.2.free
     have p2l := X.2.lt
     simp only [World.size_alloc] at p2 p2f p2l
     by_cases hlt : i < nf
     ·have hlt' : (i : Int) < (nf : Int) := by omega
      obtain ⟨f, b, b', cv, cv', hcl, e1, e2, l1, l2, ⟨c0, c1, c2, c3⟩, ⟨d0, d1, d2, d3⟩, o1, o2⟩ := HFN.out wr hbw3 i hlt
      subst e1 e2
      have hi0 : (0 : Int) ≤ (i : Int) := by omega
      have hw2 : IntKind.i64.wrap ((i : Int) + 1) = ((i + 1 : Nat) : Int) := by have := HN.out; rw [IntKind.wrap_i64]; omega
      obtain ⟨ca, cc, e3⟩ := own_form o1
      obtain ⟨cb, cd, e4⟩ := own_form o2
      subst e3 e4
      have O1 := hid o1
      have O2 := hid o2
      obtain ⟨g0, g1, g2, g3, g4, g5⟩ := f
      simp only at c0 c1 c2 c3 d0 d1 d2 d3 hcl
      have HS := hid (show ∀ W, Bw wr W → (fun W => W.cell? ⟨w.heap.size, 0, none⟩ = some (.slice (some ⟨b, 0, none⟩) nf fc) ∧ W.cell? ⟨w.heap.size + 1, 0, none⟩ = some (.slice (some ⟨b', 0, none⟩) nf fd) ∧ (W.cell? ⟨b, i * 4, none⟩ = some (.int .i64 g0) ∧ W.cell? ⟨b, i * 4 + 1, none⟩ = some (.int .i64 g1) ∧ W.cell? ⟨b, i * 4 + 2, none⟩ = some (.int .i64 g2) ∧ W.cell? ⟨b, i * 4 + 3, none⟩ = some (.slice ca g3.length cc)) ∧ (W.cell? ⟨b', i * 4, none⟩ = some (.int .i64 g0) ∧ W.cell? ⟨b', i * 4 + 1, none⟩ = some (.int .i64 g1) ∧ W.cell? ⟨b', i * 4 + 2, none⟩ = some (.int .i64 g2) ∧ W.cell? ⟨b', i * 4 + 3, none⟩ = some (.slice cb g3.length cd))) W from fun W hb => ⟨(World.cell?_of_block (w := wr) (w' := W) (a := ⟨w.heap.size, 0, none⟩) (hb.block _ p1l)).trans (p1 0), (World.cell?_of_block (w := wr) (w' := W) (a := ⟨w.heap.size + 1, 0, none⟩) (hb.block _ p2l)).trans (p2 0), ⟨(World.cell?_of_block (w := wr) (w' := W) (a := ⟨b, i * 4, none⟩) (hb.block _ l1)).trans c0, (World.cell?_of_block (w := wr) (w' := W) (a := ⟨b, i * 4 + 1, none⟩) (hb.block _ l1)).trans c1, (World.cell?_of_block (w := wr) (w' := W) (a := ⟨b, i * 4 + 2, none⟩) (hb.block _ l1)).trans c2, (World.cell?_of_block (w := wr) (w' := W) (a := ⟨b, i * 4 + 3, none⟩) (hb.block _ l1)).trans c3⟩, ⟨(World.cell?_of_block (w := wr) (w' := W) (a := ⟨b', i * 4, none⟩) (hb.block _ l2)).trans d0, (World.cell?_of_block (w := wr) (w' := W) (a := ⟨b', i * 4 + 1, none⟩) (hb.block _ l2)).trans d1, (World.cell?_of_block (w := wr) (w' := W) (a := ⟨b', i * 4 + 2, none⟩) (hb.block _ l2)).trans d2, (World.cell?_of_block (w := wr) (w' := W) (a := ⟨b', i * 4 + 3, none⟩) (hb.block _ l2)).trans d3⟩⟩)
      clear hbw3 hbx3 X o1 o2
      go_upto_region 16 with fail
      go_cut [8, 9] from 72 to 134 (fun v8 v9 wc => ∃ (p q : Nat), v8 = .pointer (some ⟨p, 0, none⟩) ∧ v9 = .pointer (some ⟨q, 0, none⟩) ∧ wr.heap.size ≤ p ∧ wr.heap.size ≤ q ∧ p ≠ q ∧ Blk wc p #[.int .i64 g0, .int .i64 g1, .int .i64 g2, .slice ca g3.length cc] 49 ∧ Blk wc q #[.int .i64 g0, .int .i64 g1, .int .i64 g2, .slice cb g3.length cd] 49 ∧ Bw wr wc)
      case first =>
       refine wp_region_W (fun W => W.cell? ⟨w.heap.size, 0, none⟩ = some (.slice (some ⟨b, 0, none⟩) nf fc) ∧ W.cell? ⟨w.heap.size + 1, 0, none⟩ = some (.slice (some ⟨b', 0, none⟩) nf fd) ∧ (W.cell? ⟨b, i * 4, none⟩ = some (.int .i64 g0) ∧ W.cell? ⟨b, i * 4 + 1, none⟩ = some (.int .i64 g1) ∧ W.cell? ⟨b, i * 4 + 2, none⟩ = some (.int .i64 g2) ∧ W.cell? ⟨b, i * 4 + 3, none⟩ = some (.slice ca g3.length cc)) ∧ (W.cell? ⟨b', i * 4, none⟩ = some (.int .i64 g0) ∧ W.cell? ⟨b', i * 4 + 1, none⟩ = some (.int .i64 g1) ∧ W.cell? ⟨b', i * 4 + 2, none⟩ = some (.int .i64 g2) ∧ W.cell? ⟨b', i * 4 + 3, none⟩ = some (.slice cb g3.length cd))) (fun j => if j == 10 || j == 11 || j == 12 || j == 13 then 0 else 1) (by kernel_rfl) ?_
       have HB0 := hid (Bw.drew (Bw.refl wr))
       refine wpAnyW_take (i := 0) (oi := _) (v := ?_) rfl (by kernel_rfl) (by kernel_rfl) (by kernel_rfl) (by kernel_rfl) (fun _ _ _ h => h) (Or.inl ⟨by rfl, fun w _ => ?_⟩) ?_
       rotate_left
       ·(go_simp; first | done | with_reducible rfl)
       try simp only [Act.put, sqA, sqZ, sqS]
       refine wpAnyW_load (i := 1) (oi := _) (v := ?_) rfl (by kernel_rfl) (by kernel_rfl) (by kernel_rfl) (by kernel_rfl) (by kernel_rfl) (fun _ _ _ h => h) (Or.inl ⟨by rfl, fun w hS => ?_⟩) (HS.out _ HB0.out) ?_
       rotate_left
       ·(obtain ⟨q0, q1, ⟨q2, q3, q4, q5⟩, q6, q7, q8, q9⟩ := hS; go_simp; first | done | with_reducible rfl)
       try simp only [Act.put, sqA, sqZ, sqS]
       refine wpAnyW_take (i := 2) (oi := _) (v := ?_) rfl (by kernel_rfl) (by kernel_rfl) (by kernel_rfl) (by kernel_rfl) (fun _ _ _ h => h) (Or.inl ⟨by rfl, fun w _ => ?_⟩) ?_
       rotate_left
       ·(go_simp; first | done | with_reducible rfl)
       try simp only [Act.put, sqA, sqZ, sqS]
       refine wpAnyW_take (i := 3) (oi := _) (v := ?_) rfl (by kernel_rfl) (by kernel_rfl) (by kernel_rfl) (by kernel_rfl) (fun _ _ _ h => h) (Or.inl ⟨by rfl, fun w _ => ?_⟩) ?_
       rotate_left
       ·(go_simp; first | done | with_reducible rfl)
       try simp only [Act.put, sqA, sqZ, sqS]
       refine wpAnyW_load (i := 4) (oi := _) (v := ?_) rfl (by kernel_rfl) (by kernel_rfl) (by kernel_rfl) (by kernel_rfl) (by kernel_rfl) (fun _ _ _ h => h) (Or.inl ⟨by rfl, fun w hS => ?_⟩) (HS.out _ HB0.out) ?_
       rotate_left
       ·(obtain ⟨q0, q1, ⟨q2, q3, q4, q5⟩, q6, q7, q8, q9⟩ := hS; go_simp; first | done | with_reducible rfl)
       try simp only [Act.put, sqA, sqZ, sqS]
       refine wpAnyW_take (i := 5) (oi := _) (v := ?_) rfl (by kernel_rfl) (by kernel_rfl) (by kernel_rfl) (by kernel_rfl) (fun _ _ _ h => h) (Or.inl ⟨by rfl, fun w _ => ?_⟩) ?_
       rotate_left
       ·(go_simp; first | done | with_reducible rfl)
       try simp only [Act.put, sqA, sqZ, sqS]
       refine wpAnyW_load (i := 6) (oi := _) (v := ?_) rfl (by kernel_rfl) (by kernel_rfl) (by kernel_rfl) (by kernel_rfl) (by kernel_rfl) (fun _ _ _ h => h) (Or.inl ⟨by rfl, fun w hS => ?_⟩) (HS.out _ HB0.out) ?_
       rotate_left
       ·(obtain ⟨q0, q1, ⟨q2, q3, q4, q5⟩, q6, q7, q8, q9⟩ := hS; go_simp; first | done | with_reducible rfl)
       try simp only [Act.put, sqA, sqZ, sqS]
       refine wpAnyW_take (i := 7) (oi := _) (v := ?_) rfl (by kernel_rfl) (by kernel_rfl) (by kernel_rfl) (by kernel_rfl) (fun _ _ _ h => h) (Or.inl ⟨by rfl, fun w _ => ?_⟩) ?_
       rotate_left
       ·(go_simp; first | done | with_reducible rfl)
       try simp only [Act.put, sqA, sqZ, sqS]
       refine wpAnyW_take (i := 8) (oi := _) (v := ?_) rfl (by kernel_rfl) (by kernel_rfl) (by kernel_rfl) (by kernel_rfl) (fun _ _ _ h => h) (Or.inl ⟨by rfl, fun w _ => ?_⟩) ?_
       rotate_left
       ·(go_simp; first | done | with_reducible rfl)
       try simp only [Act.put, sqA, sqZ, sqS]
       refine wpAnyW_load (i := 9) (oi := _) (v := ?_) rfl (by kernel_rfl) (by kernel_rfl) (by kernel_rfl) (by kernel_rfl) (by kernel_rfl) (fun _ _ _ h => h) (Or.inl ⟨by rfl, fun w hS => ?_⟩) (HS.out _ HB0.out) ?_
       rotate_left
       ·(obtain ⟨q0, q1, ⟨q2, q3, q4, q5⟩, q6, q7, q8, q9⟩ := hS; go_simp; first | done | with_reducible rfl)
       try simp only [Act.put, sqA, sqZ, sqS]
       generalize World.drew wr = x0 at HB0 ⊢
       refine wpAnyW_ready (rs := [10, 11]) (by kernel_rfl) (by simp) ?_
       refine (AllReadyW.cons (o := _) rfl (fun K hK => ?_) ?_)
       ·go_simp
        have F10 := hid (Blk.new x0 #[.int .i64 0, .int .i64 0, .int .i64 0, .slice none 0 0] 49)
        have HB1 := hid (Bw.alloc HB0.out (.cells #[.int .i64 0, .int .i64 0, .int .i64 0, .slice none 0 0] 49))
        have Q10 := hid HB0.out.size
        refine hK.out _ _ (HS.out _ HB1.out) ?_
        clear hK K
        try simp only [Act.put, sqA, sqZ, sqS]
        generalize World.alloc x0 (.cells #[.int .i64 0, .int .i64 0, .int .i64 0, .slice none 0 0] 49) = x1 at F10 HB1  ⊢
        generalize x0.heap.size = b10 at F10 Q10  ⊢
        have P10 := F10
        clear F10
        refine wpAnyW_ready (rs := [11]) (by kernel_rfl) (by simp) ?_
        refine (AllReadyW.cons (o := _) rfl (fun K hK => ?_) AllReadyW.nil)
        go_simp
        have F11 := hid (Blk.new x1 #[.int .i64 0, .int .i64 0, .int .i64 0, .slice none 0 0] 49)
        have N10 := hid (P10.out.alloc (.cells #[.int .i64 0, .int .i64 0, .int .i64 0, .slice none 0 0] 49))
        have L10 := hid P10.out.lt
        have HB2 := hid (Bw.alloc HB1.out (.cells #[.int .i64 0, .int .i64 0, .int .i64 0, .slice none 0 0] 49))
        have Q11 := hid HB1.out.size
        refine hK.out _ _ (HS.out _ HB2.out) ?_
        clear hK K
        try simp only [Act.put, sqA, sqZ, sqS]
        generalize World.alloc x1 (.cells #[.int .i64 0, .int .i64 0, .int .i64 0, .slice none 0 0] 49) = x2 at F11 HB2 N10 ⊢
        generalize x1.heap.size = b11 at F11 Q11 L10 ⊢
        have P11 := F11
        have P10 := N10
        have D10 := hid (show b10 ≠ b11 by have := L10.out; omega)
        clear F11 N10 L10
        have D := hid (show b10 ≠ b11 by have := D10.out; omega)
        refine wpAnyW_ready (rs := [12]) (by kernel_rfl) (by simp) ?_
        refine (AllReadyW.cons (o := _) rfl (fun K hK => ?_) AllReadyW.nil)
        have k := P10.out.cell
        have kf := P10.out.free
        have kl := P10.out.lt
        go_simp
        clear k kf kl
        have N10 := hid (show Blk ((((((((x2).setCell ⟨b10, 0, none⟩ (.int .i64 g0))).setCell ⟨b10, 1, none⟩ (.int .i64 g1))).setCell ⟨b10, 2, none⟩ (.int .i64 g2))).setCell ⟨b10, 3, none⟩ (.slice ca g3.length cc)) b10 #[.int .i64 g0, .int .i64 g1, .int .i64 g2, .slice ca g3.length cc] 49 from by have := (((P10.out.set 0 (.int .i64 g0)).set 1 (.int .i64 g1)).set 2 (.int .i64 g2)).set 3 (.slice ca g3.length cc); simpa using this)
        have N11 := hid (show Blk ((((((((x2).setCell ⟨b10, 0, none⟩ (.int .i64 g0))).setCell ⟨b10, 1, none⟩ (.int .i64 g1))).setCell ⟨b10, 2, none⟩ (.int .i64 g2))).setCell ⟨b10, 3, none⟩ (.slice ca g3.length cc)) b11 #[.int .i64 0, .int .i64 0, .int .i64 0, .slice none 0 0] 49 from P11.out.keep (by rw [Below.heap_setCell _ _ _ b11 D.out.symm, Below.heap_setCell _ _ _ b11 D.out.symm, Below.heap_setCell _ _ _ b11 D.out.symm, Below.heap_setCell _ _ _ b11 D.out.symm]))
        have HB3 := hid (show Bw wr ((((((((x2).setCell ⟨b10, 0, none⟩ (.int .i64 g0))).setCell ⟨b10, 1, none⟩ (.int .i64 g1))).setCell ⟨b10, 2, none⟩ (.int .i64 g2))).setCell ⟨b10, 3, none⟩ (.slice ca g3.length cc)) from (((HB2.out.setCell Q10.out _).setCell Q10.out _).setCell Q10.out _).setCell Q10.out _)
        refine hK.out _ _ (HS.out _ HB3.out) ?_
        clear hK K
        try simp only [Act.put, sqA, sqZ, sqS]
        generalize ((((((((x2).setCell ⟨b10, 0, none⟩ (.int .i64 g0))).setCell ⟨b10, 1, none⟩ (.int .i64 g1))).setCell ⟨b10, 2, none⟩ (.int .i64 g2))).setCell ⟨b10, 3, none⟩ (.slice ca g3.length cc)) = x3 at HB3 N10 N11 ⊢
        have P10 := N10
        have P11 := N11
        clear N10 N11
        refine wpAnyW_ready (rs := [13]) (by kernel_rfl) (by simp) ?_
        refine (AllReadyW.cons (o := _) rfl (fun K hK => ?_) AllReadyW.nil)
        have k := P11.out.cell
        have kf := P11.out.free
        have kl := P11.out.lt
        go_simp
        clear k kf kl
        have N11 := hid (show Blk ((((((((x3).setCell ⟨b11, 0, none⟩ (.int .i64 g0))).setCell ⟨b11, 1, none⟩ (.int .i64 g1))).setCell ⟨b11, 2, none⟩ (.int .i64 g2))).setCell ⟨b11, 3, none⟩ (.slice cb g3.length cd)) b11 #[.int .i64 g0, .int .i64 g1, .int .i64 g2, .slice cb g3.length cd] 49 from by have := (((P11.out.set 0 (.int .i64 g0)).set 1 (.int .i64 g1)).set 2 (.int .i64 g2)).set 3 (.slice cb g3.length cd); simpa using this)
        have N10 := hid (show Blk ((((((((x3).setCell ⟨b11, 0, none⟩ (.int .i64 g0))).setCell ⟨b11, 1, none⟩ (.int .i64 g1))).setCell ⟨b11, 2, none⟩ (.int .i64 g2))).setCell ⟨b11, 3, none⟩ (.slice cb g3.length cd)) b10 #[.int .i64 g0, .int .i64 g1, .int .i64 g2, .slice ca g3.length cc] 49 from P10.out.keep (by rw [Below.heap_setCell _ _ _ b10 D.out, Below.heap_setCell _ _ _ b10 D.out, Below.heap_setCell _ _ _ b10 D.out, Below.heap_setCell _ _ _ b10 D.out]))
        have HB4 := hid (show Bw wr ((((((((x3).setCell ⟨b11, 0, none⟩ (.int .i64 g0))).setCell ⟨b11, 1, none⟩ (.int .i64 g1))).setCell ⟨b11, 2, none⟩ (.int .i64 g2))).setCell ⟨b11, 3, none⟩ (.slice cb g3.length cd)) from (((HB3.out.setCell Q11.out _).setCell Q11.out _).setCell Q11.out _).setCell Q11.out _)
        refine hK.out _ _ (HS.out _ HB4.out) ?_
        clear hK K
        try simp only [Act.put, sqA, sqZ, sqS]
        generalize ((((((((x3).setCell ⟨b11, 0, none⟩ (.int .i64 g0))).setCell ⟨b11, 1, none⟩ (.int .i64 g1))).setCell ⟨b11, 2, none⟩ (.int .i64 g2))).setCell ⟨b11, 3, none⟩ (.slice cb g3.length cd)) = x4 at HB4 N10 N11 ⊢
        have P10 := N10
        have P11 := N11
        clear N10 N11
        refine wpAnyW_done (by kernel_rfl) ?_ _
        go_wp2
        go_meet
        case rel => exact ⟨b10, b11, rfl, rfl, Q10.out, Q11.out, D.out, P10.out, P11.out, HB4.out⟩
       refine (AllReadyW.cons (o := _) rfl (fun K hK => ?_) AllReadyW.nil)
       go_simp
       have F11 := hid (Blk.new x0 #[.int .i64 0, .int .i64 0, .int .i64 0, .slice none 0 0] 49)
       have HB1 := hid (Bw.alloc HB0.out (.cells #[.int .i64 0, .int .i64 0, .int .i64 0, .slice none 0 0] 49))
       have Q11 := hid HB0.out.size
       refine hK.out _ _ (HS.out _ HB1.out) ?_
       clear hK K
       try simp only [Act.put, sqA, sqZ, sqS]
       generalize World.alloc x0 (.cells #[.int .i64 0, .int .i64 0, .int .i64 0, .slice none 0 0] 49) = x1 at F11 HB1  ⊢
       generalize x0.heap.size = b11 at F11 Q11  ⊢
       have P11 := F11
       clear F11
       refine wpAnyW_ready (rs := [10]) (by kernel_rfl) (by simp) ?_
       refine (AllReadyW.cons (o := _) rfl (fun K hK => ?_) AllReadyW.nil)
       go_simp
       have F10 := hid (Blk.new x1 #[.int .i64 0, .int .i64 0, .int .i64 0, .slice none 0 0] 49)
       have N11 := hid (P11.out.alloc (.cells #[.int .i64 0, .int .i64 0, .int .i64 0, .slice none 0 0] 49))
       have L11 := hid P11.out.lt
       have HB2 := hid (Bw.alloc HB1.out (.cells #[.int .i64 0, .int .i64 0, .int .i64 0, .slice none 0 0] 49))
       have Q10 := hid HB1.out.size
       refine hK.out _ _ (HS.out _ HB2.out) ?_
       clear hK K
       try simp only [Act.put, sqA, sqZ, sqS]
       generalize World.alloc x1 (.cells #[.int .i64 0, .int .i64 0, .int .i64 0, .slice none 0 0] 49) = x2 at F10 HB2 N11 ⊢
       generalize x1.heap.size = b10 at F10 Q10 L11 ⊢
       have P10 := F10
       have P11 := N11
       have D11 := hid (show b11 ≠ b10 by have := L11.out; omega)
       clear F10 N11 L11
       have D := hid (show b10 ≠ b11 by have := D11.out; omega)
       refine wpAnyW_ready (rs := [12]) (by kernel_rfl) (by simp) ?_
       refine (AllReadyW.cons (o := _) rfl (fun K hK => ?_) AllReadyW.nil)
       have k := P10.out.cell
       have kf := P10.out.free
       have kl := P10.out.lt
       go_simp
       clear k kf kl
       have N10 := hid (show Blk ((((((((x2).setCell ⟨b10, 0, none⟩ (.int .i64 g0))).setCell ⟨b10, 1, none⟩ (.int .i64 g1))).setCell ⟨b10, 2, none⟩ (.int .i64 g2))).setCell ⟨b10, 3, none⟩ (.slice ca g3.length cc)) b10 #[.int .i64 g0, .int .i64 g1, .int .i64 g2, .slice ca g3.length cc] 49 from by have := (((P10.out.set 0 (.int .i64 g0)).set 1 (.int .i64 g1)).set 2 (.int .i64 g2)).set 3 (.slice ca g3.length cc); simpa using this)
       have N11 := hid (show Blk ((((((((x2).setCell ⟨b10, 0, none⟩ (.int .i64 g0))).setCell ⟨b10, 1, none⟩ (.int .i64 g1))).setCell ⟨b10, 2, none⟩ (.int .i64 g2))).setCell ⟨b10, 3, none⟩ (.slice ca g3.length cc)) b11 #[.int .i64 0, .int .i64 0, .int .i64 0, .slice none 0 0] 49 from P11.out.keep (by rw [Below.heap_setCell _ _ _ b11 D.out.symm, Below.heap_setCell _ _ _ b11 D.out.symm, Below.heap_setCell _ _ _ b11 D.out.symm, Below.heap_setCell _ _ _ b11 D.out.symm]))
       have HB3 := hid (show Bw wr ((((((((x2).setCell ⟨b10, 0, none⟩ (.int .i64 g0))).setCell ⟨b10, 1, none⟩ (.int .i64 g1))).setCell ⟨b10, 2, none⟩ (.int .i64 g2))).setCell ⟨b10, 3, none⟩ (.slice ca g3.length cc)) from (((HB2.out.setCell Q10.out _).setCell Q10.out _).setCell Q10.out _).setCell Q10.out _)
       refine hK.out _ _ (HS.out _ HB3.out) ?_
       clear hK K
       try simp only [Act.put, sqA, sqZ, sqS]
       generalize ((((((((x2).setCell ⟨b10, 0, none⟩ (.int .i64 g0))).setCell ⟨b10, 1, none⟩ (.int .i64 g1))).setCell ⟨b10, 2, none⟩ (.int .i64 g2))).setCell ⟨b10, 3, none⟩ (.slice ca g3.length cc)) = x3 at HB3 N11 N10 ⊢
       have P11 := N11
       have P10 := N10
       clear N11 N10
       refine wpAnyW_ready (rs := [13]) (by kernel_rfl) (by simp) ?_
       refine (AllReadyW.cons (o := _) rfl (fun K hK => ?_) AllReadyW.nil)
       have k := P11.out.cell
       have kf := P11.out.free
       have kl := P11.out.lt
       go_simp
       clear k kf kl
       have N11 := hid (show Blk ((((((((x3).setCell ⟨b11, 0, none⟩ (.int .i64 g0))).setCell ⟨b11, 1, none⟩ (.int .i64 g1))).setCell ⟨b11, 2, none⟩ (.int .i64 g2))).setCell ⟨b11, 3, none⟩ (.slice cb g3.length cd)) b11 #[.int .i64 g0, .int .i64 g1, .int .i64 g2, .slice cb g3.length cd] 49 from by have := (((P11.out.set 0 (.int .i64 g0)).set 1 (.int .i64 g1)).set 2 (.int .i64 g2)).set 3 (.slice cb g3.length cd); simpa using this)
       have N10 := hid (show Blk ((((((((x3).setCell ⟨b11, 0, none⟩ (.int .i64 g0))).setCell ⟨b11, 1, none⟩ (.int .i64 g1))).setCell ⟨b11, 2, none⟩ (.int .i64 g2))).setCell ⟨b11, 3, none⟩ (.slice cb g3.length cd)) b10 #[.int .i64 g0, .int .i64 g1, .int .i64 g2, .slice ca g3.length cc] 49 from P10.out.keep (by rw [Below.heap_setCell _ _ _ b10 D.out, Below.heap_setCell _ _ _ b10 D.out, Below.heap_setCell _ _ _ b10 D.out, Below.heap_setCell _ _ _ b10 D.out]))
       have HB4 := hid (show Bw wr ((((((((x3).setCell ⟨b11, 0, none⟩ (.int .i64 g0))).setCell ⟨b11, 1, none⟩ (.int .i64 g1))).setCell ⟨b11, 2, none⟩ (.int .i64 g2))).setCell ⟨b11, 3, none⟩ (.slice cb g3.length cd)) from (((HB3.out.setCell Q11.out _).setCell Q11.out _).setCell Q11.out _).setCell Q11.out _)
       refine hK.out _ _ (HS.out _ HB4.out) ?_
       clear hK K
       try simp only [Act.put, sqA, sqZ, sqS]
       generalize ((((((((x3).setCell ⟨b11, 0, none⟩ (.int .i64 g0))).setCell ⟨b11, 1, none⟩ (.int .i64 g1))).setCell ⟨b11, 2, none⟩ (.int .i64 g2))).setCell ⟨b11, 3, none⟩ (.slice cb g3.length cd)) = x4 at HB4 N11 N10 ⊢
       have P11 := N11
       have P10 := N10
       clear N11 N10
       refine wpAnyW_done (by kernel_rfl) ?_ _
       go_wp2
       go_meet
       case rel => exact ⟨b10, b11, rfl, rfl, Q10.out, Q11.out, D.out, P10.out, P11.out, HB4.out⟩
      case rest =>
       obtain ⟨p, q, rfl, rfl, hp, hq, hpq, hbp, hbq, hwc⟩ := hcut
       have BP := hid hbp
       have BQ := hid hbq
       have HC := hid hwc
       have r1 := hbp.cell
       have r1l := hbp.lt
       have r1f := hbp.free
       have r2 := hbq.cell
       have r2l := hbq.lt
       have r2f := hbq.free
       clear hbp hbq hwc
       go_wp2
       go_loopw [10] (fun v10 wu => ∃ k : Nat, v10 = .int .i64 (k : Int) ∧ k ≤ g3.length ∧ Bw wr wu ∧ Blk wu p #[.int .i64 g0, .int .i64 g1, .int .i64 g2, .slice ca g3.length cc] 49 ∧ Blk wu q #[.int .i64 g0, .int .i64 g1, .int .i64 g2, .slice cb g3.length cd] 49) (fun v10 _ => g3.length - (intOf v10).toNat)
       case atStart => exact ⟨0, rfl, Nat.zero_le _, HC.out, BP.out, BQ.out⟩
       case round =>
        rename_i wr4 _ _ _
        obtain ⟨k, rfl, hk, hbu, hbp, hbq⟩ := hrel
        have HU := hid hbu
        have BP := hid hbp
        have BQ := hid hbq
        have r1 := hbp.cell
        have r1l := hbp.lt
        have r1f := hbp.free
        have r2 := hbq.cell
        have r2l := hbq.lt
        have r2f := hbq.free
        by_cases hkl : k < g3.length
        ·have hkl' : (k : Int) < (g3.length : Int) := by omega
         obtain ⟨u, hu⟩ : ∃ u, g3[k]? = some u := ⟨_, List.getElem?_eq_getElem hkl⟩
         obtain ⟨x, e5, x1, x2, x3⟩ := pair_at (own_keep8 O1.out (fun b e => hbu.block b (O1.out.lt b e).2)) hu
         obtain ⟨y, e6, y1, y2, y3⟩ := pair_at (own_keep8 O2.out (fun b e => hbu.block b (O2.out.lt b e).2)) hu
         subst e5 e6
         obtain ⟨u0, u1⟩ := u
         simp only at x2 x3 y2 y3
         have hk0 : (0 : Int) ≤ (k : Int) := by omega
         have hw3 : IntKind.i64.wrap ((k : Int) + 1) = ((k + 1 : Nat) : Int) := by rw [IntKind.wrap_i64]; omega
         clear hbu hbp hbq hu
         go_upto_region 22 with fail
         go_quiet (fail)
         go_wp2
         case roundEnd =>
          refine ⟨⟨k + 1, by go_num, by omega, HU.out.trans (by repeat (first | exact Bw.refl _ | apply Bw.drewN | apply Bw.drew)), BP.out.bw (by repeat (first | exact Bw.refl _ | apply Bw.drewN | apply Bw.drew)), BQ.out.bw (by repeat (first | exact Bw.refl _ | apply Bw.drewN | apply Bw.drew))⟩, by simp [intOf]; omega⟩
        ·have hkl' : ¬ (k : Int) < (g3.length : Int) := by omega
         clear hbu hbp hbq
         go_wp2
         all_goals exact ⟨⟨i + 1, by go_num, by omega, H3.out.trans HU.out, HX3.out.trans HU.out⟩, by simp [intOf]; omega⟩
     ·have hlt' : ¬ (i : Int) < (nf : Int) := by omega
      clear hbw3 hbx3 X
      go_wp2
      all_goals go_ret
      all_goals exact ⟨rfl, H3.out⟩
end Go.Proofs.YtdhkcdehedbpcaaDoor

