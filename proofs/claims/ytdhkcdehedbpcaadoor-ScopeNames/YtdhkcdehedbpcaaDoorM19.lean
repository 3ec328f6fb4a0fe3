/- The resolver goes over any tree, whatever its size: plain data. · What a node is made of: the document's Kids. -/
import Derived.Test.YtdhkcdehedbpcaaDoorM18
import Derived.Test.YtdhkcdehedbpcaaDoorM12
import Derived.Test.YtdhkcdehedbpcaaDoorMm
set_option linter.unusedSimpArgs false
set_option linter.unusedVariables false
namespace Go.Proofs.YtdhkcdehedbpcaaDoor
open Go Go.RowKit
section
variable {L : List ANode} {A : ByteArray → Option Int}

set_option maxHeartbeats 1000000 in
theorem tot_all (h5 : L.length ≤ 1000) : ∀ N, Tot L A N := by
 intro N
 induction N with
 | zero =>
  intro es p q t z hN hf ha hq hz hi ht
  have := hf.le
  have he : es = [] := by cases es with | nil => rfl | cons a es => simp at this; omega
  subst he
  have hpq : p = q := hf
  subst hpq
  refine ⟨z, zR_done (by omega) (by simp), ⟨hi, by simpa using (hz ▸ El.refl z z.next : El L false p 0 0 z z), by omega, fun _ => hz, fun _ => by rw [fnR_self]; simp⟩, fun _ _ => ⟨by simp [gT, rts], fun n x h => by simp [gT, rts] at h⟩⟩
 | succ N ih =>
  intro es p q t z hN hf ha hq hz hi ht
  by_cases h0 : z.fault = 0
  case neg =>
   have hle := hf.le
   refine ⟨z, zR_done (by omega) (fun k => h0 k.2), ⟨hi, ?_, by omega, fun k => absurd k h0, fun k => absurd k h0⟩, fun _ k => absurd k h0⟩
   exact (El.refl z p).weak (fun k => by cases k) (.inl rfl) (Nat.le_refl _) (Nat.le_refl _)
  cases es with
  | nil =>
   have hpq : p = q := hf
   subst hpq
   exact ⟨z, zR_done (by omega) (by simp), ⟨hi, by simpa using (hz ▸ El.refl z z.next : El L false p 0 0 z z), by omega, fun _ => hz, fun _ => by rw [fnR_self]; simp⟩, fun _ _ => ⟨by simp [gT, rts], fun n x h => by simp [gT, rts] at h⟩⟩
  | cons a es =>
   obtain ⟨r, h1, h2⟩ := hf
   have hl1 := h1.lt
   have hl2 := h2.le
   obtain ⟨o1, o2, o3, o4⟩ := h1.out
   have hb := h1.behind
   have ha1 := ha a (List.mem_cons_self)
   have hae : ∀ b ∈ es, b ≠ 1 := fun b h => ha b (List.mem_cons_of_mem _ h)
   obtain ⟨s, rfl⟩ : ∃ s, t = s + 1 := ⟨t - 1, by omega⟩
   have hk1 := ft_one o2 ha1
   have hrange := ft_rng o2
   have hN0 := wm_nonneg o2 o3
   obtain ⟨nB, nV, nL, nA, nF, nG⟩ := node_tot h5 ih h1 ha1 (by omega) hz hi (t := s) (by omega)
   -- what is left
   have rest : ∀ (v : ZS) (st : Bool), Run L st p p 0 0 r z v → (st = true → a = 2) → (z.names = none → v.fault = 0 → (v.globals = z.globals ∧ gT L 1 p = []) ∨ (v.globals = z.globals ++ [zT L p] ∧ v.uses[p]? = some (4, (z.globals.length : Int)) ∧ gT L 1 p = [p])) →
     ∃ w, zR L A s (.parts es.length) v = some w ∧ Run L ((a :: es).any (· == 2)) p p 0 0 q z w ∧
      (z.names = none → w.fault = 0 → w.globals = z.globals ++ (gT L (a :: es).length p).map (zT L) ∧ ∀ (n x : Nat), (gT L (a :: es).length p)[n]? = some x → w.uses[x]? = some (4, ((z.globals.length + n : Nat) : Int))) := by
    intro v st rv hst hg
    have hgT : gT L (a :: es).length p = gT L 1 p ++ gT L es.length r := by
     unfold gT
     rw [List.length_cons, show es.length + 1 = [a].length + es.length by simp; omega, rts_app (Fo.one h1), List.filter_append]
     rfl
    have hst2 : st = true → (a :: es).any (· == 2) = true := fun h => by rw [hst h]; simp
    by_cases hv0 : v.fault = 0
    ·have hvr := rv.at_ hv0
     obtain ⟨w, b1, b2, b3⟩ := ih es r q s v (by omega) h2 hae hq hvr rv.inv (by omega)
     refine ⟨w, b1, ⟨b2.inv, ?_, b2.le, b2.at_, fun hf => ?_⟩, fun hn hf => ?_⟩
     ·exact (rv.el.trans (b2.el.weak (i' := p) (c' := 0) (k' := 0) (fun x => x) (.inr (by omega)) (Nat.le_refl _) (Nat.le_refl _))).weak (fun h => by
       rcases Bool.or_eq_true_iff.1 h with h | h
       ·exact hst2 h
       ·simp only [List.any_cons, h, Bool.or_true]) (.inl rfl) (Nat.le_refl _) (Nat.le_refl _)
     ·rw [b2.sn hf, rv.sn hv0, List.append_assoc, fnR_app L (by omega) (by omega)]
     ·have hvn : v.names = none := by
       have := rv.el.nm
       rw [hn] at this
       cases e : v.names with
       | none => rfl
       | some m => rw [e] at this; cases this
      obtain ⟨c1, c2⟩ := b3 hvn hf
      rw [hgT]
      rcases hg hn hv0 with ⟨d1, d2⟩ | ⟨d1, d2, d3⟩
      ·rw [d2, List.nil_append]
       rw [d1] at c1 c2
       exact ⟨c1, c2⟩
      ·rw [d3]
       refine ⟨by rw [c1, d1]; simp, fun n x hx => ?_⟩
       cases n with
       | zero =>
        simp at hx
        subst hx
        rw [b2.el.us p (by omega) (by omega), d2]
        simp
       | succ n =>
        have := c2 n x (by simpa using hx)
        rw [this, d1]
        simp
        omega
    ·refine ⟨v, zR_done (by omega) (fun k => hv0 k.2), ⟨rv.inv, rv.el.weak hst2 (.inl rfl) (Nat.le_refl _) (Nat.le_refl _), Nat.le_trans rv.le (by omega), fun k => absurd k hv0, fun k => absurd k hv0⟩, fun _ k => absurd k hv0⟩
   have gNo : (zN L p).1 ≠ 3 → (zN L p).1 ≠ 12 → gT L 1 p = [] := fun e1 e2 => by unfold gT rts; rw [List.filter_cons, if_neg (by simp [e1, e2])]; rfl
   have gYes : ((zN L p).1 = 3 ∨ (zN L p).1 = 12) → gT L 1 p = [p] := fun e => by unfold gT rts; rw [List.filter_cons, if_pos (by rcases e with e | e <;> simp [e])]; rfl
   have decl2 : ((zN L p).1 = 3 ∨ (zN L p).1 = 12) → a = 2 := fun e => by
    by_cases h : a = 2
    ·exact h
    ·have := ft_not o2 h; omega
   have hdue : (((a :: es).length : Nat) : Int) - 1 = (es.length : Nat) := by rw [List.length_cons]; omega
   have hlen : p + (a :: es).length ≤ q := by rw [List.length_cons]; omega
   have hpz : z.next = p := hz
   unfold zR
   dsimp only
   rw [if_pos ⟨by rw [List.length_cons]; omega, h0⟩, if_pos ⟨by omega, by rw [hpz]; exact o1⟩, hpz]
   rw [hpz] at nB nV nL nA nF nG
   by_cases k2 : (zN L p).1 = 2
   ·rw [if_pos k2]
    obtain ⟨v, a1, a2, a3⟩ := nB k2
    obtain ⟨w, b1, b2, b3⟩ := rest v false a2 (fun h => by cases h) (fun _ _ => .inl ⟨a3, gNo (by omega) (by omega)⟩)
    refine ⟨w, ?_, b2, b3⟩
    rw [a1]; simp only [Option.bind_some]; rw [hdue]; exact b1
   rw [if_neg k2]
   by_cases k3 : (zN L p).1 = 3
   ·rw [if_pos k3]
    obtain ⟨v, a1, a2, a3⟩ := nV k3
    obtain ⟨w, b1, b2, b3⟩ := rest v true a2 (fun _ => decl2 (.inl k3)) (fun hn hf => .inr ⟨(a3 hn hf).1, (a3 hn hf).2, gYes (.inl k3)⟩)
    refine ⟨w, ?_, b2, b3⟩
    rw [a1]; simp only [Option.bind_some]; rw [hdue]; exact b1
   rw [if_neg k3]
   by_cases k6 : (zN L p).1 = 6
   ·rw [if_pos k6]
    obtain ⟨v, a1, a2, a3⟩ := nL k6
    obtain ⟨w, b1, b2, b3⟩ := rest v false a2 (fun h => by cases h) (fun hn hf => .inl ⟨a3 hn hf, gNo (by omega) (by omega)⟩)
    refine ⟨w, ?_, b2, b3⟩
    rw [a1]; simp only [Option.bind_some]; rw [hdue]; exact b1
   rw [if_neg k6]
   by_cases k11 : (zN L p).1 = 11
   ·rw [if_pos k11]
    obtain ⟨v, a1, a2, a3⟩ := nA k11
    obtain ⟨w, b1, b2, b3⟩ := rest v false a2 (fun h => by cases h) (fun hn hf => .inl ⟨a3, gNo (by omega) (by omega)⟩)
    refine ⟨w, ?_, b2, b3⟩
    rw [a1]; simp only [Option.bind_some]; rw [hdue]; exact b1
   rw [if_neg k11]
   by_cases k12 : (zN L p).1 = 12
   ·rw [if_pos k12]
    obtain ⟨v, a1, a2, a3⟩ := nF k12
    obtain ⟨w, b1, b2, b3⟩ := rest v true a2 (fun _ => decl2 (.inr k12)) (fun hn hf => .inr ⟨(a3 hn hf).1, (a3 hn hf).2, gYes (.inr k12)⟩)
    refine ⟨w, ?_, b2, b3⟩
    rw [a1]; simp only [Option.bind_some]; rw [hdue]; exact b1
   rw [if_neg k12]
   by_cases k31 : (zN L p).1 = 31
   ·rw [if_pos k31]
    obtain ⟨v, a1, a2, a3⟩ := nG k31
    obtain ⟨w, b1, b2, b3⟩ := rest v false a2 (fun h => by cases h) (fun hn hf => .inl ⟨a3, gNo (by omega) (by omega)⟩)
    refine ⟨w, ?_, b2, b3⟩
    rw [a1]; simp only [Option.bind_some]; rw [hdue]; exact b1
   rw [if_neg k31]
   have g1 : q - (p + 1) ≤ N := by omega
   have g2 : 4 * (q - (p + 1)) + 1 ≤ s := by omega
   -- a node about whose parts there is nothing to keep
   have hkl := o4.le
   rw [kidsA_len] at hkl
   rw [if_pos ⟨hN0, by omega⟩]
   have h4 : (zN L p).1 = 4 → p + 1 < L.length := fun e => by
    have hrg := wm_rng o3
    rw [e, show shpA 4 = (2, 2, 2, 0) from by decide] at hrg
    simp only at hrg
    omega
   have hi1 := hi.next
   rw [hpz] at hi1
   obtain ⟨y, a1, iy, qy⟩ := zplain_ok (A := A) hi1 o1 (by show p < p + 1; omega) h4
   rw [a1]
   simp only [Option.bind_some]
   have hyn : y.next = p + 1 := qy.nx
   have hfo : Fo L (kidsA (zN L p) (zN L p).2.1.toNat 0 ++ es) (p + 1) q := o4.app h2
   have hkn := kids_not (n := zN L p) hk1 k2 (zN L p).2.1.toNat 0
   obtain ⟨w, b1, b2, b3⟩ := ih (kidsA (zN L p) (zN L p).2.1.toNat 0 ++ es) (p + 1) q s y g1 hfo (fun b hb => by
    rcases List.mem_append.1 hb with hb | hb
    ·exact (hkn b hb).1
    ·exact hae b hb) hq hyn (iy.weak (Nat.zero_le _) (Nat.zero_le _)) g2
   have hany : (kidsA (zN L p) (zN L p).2.1.toNat 0 ++ es).any (· == 2) = es.any (· == 2) := by
    rw [List.any_append]
    have : (kidsA (zN L p) (zN L p).2.1.toNat 0).any (· == 2) = false := by
     rw [List.any_eq_false]
     intro b hb
     simpa using (hkn b hb).2
    rw [this, Bool.false_or]
   refine ⟨w, ?_, ?_, fun hn hf => ?_⟩
   ·have e : (((kidsA (zN L p) (zN L p).2.1.toNat 0 ++ es).length : Nat) : Int) = ((a :: es).length : Nat) + (zN L p).2.1 - 1 := by
     rw [List.length_append, kidsA_len, List.length_cons]; omega
    rw [← e]; exact b1
   ·have hbe := b2.el
    rw [hany] at hbe
    have E1 : El L false p 0 0 { z with next := p + 1 } y := qy.el
    have E2 : El L (es.any (· == 2)) p 0 0 y w := hbe.weak (fun x => x) (.inr (by omega)) (Nat.le_refl _) (Nat.le_refl _)
    have E3 := E1.trans E2
    rw [Bool.false_or] at E3
    have S3 : w.fault = 0 → skn w = skn ({ z with next := p + 1 } : ZS) ++ fnR L p q := fun hf => by
     rw [b2.sn hf, qy.sn, fnR_no (L := L) (i := p) (b := q) (by unfold isF; simp [k12, k31]) (by omega)]
    have F : Run L (es.any (· == 2)) z.next z.next 0 0 q { z with next := z.next + 1 } w := by
     rw [hpz]
     exact ⟨b2.inv, E3, b2.le, b2.at_, S3⟩
    have F2 := F.fold (by omega) (by omega)
    rw [hpz] at F2
    exact ⟨F2.inv, F2.el.weak (fun h => by simp only [List.any_cons, h, Bool.or_true]) (.inl rfl) (Nat.le_refl _) (Nat.le_refl _), F2.le, F2.at_, F2.sn⟩
   ·have hyn2 : y.names = none := by rw [qy.nm]; exact hn
    obtain ⟨c1, c2⟩ := b3 hyn2 hf
    have hgs : y.globals = z.globals := qy.gs
    have e1 : gT L (kidsA (zN L p) (zN L p).2.1.toNat 0 ++ es).length (p + 1) = gT L (a :: es).length p := by
     have e2 := gT_none o4 (fun b hb => (hkn b hb).2)
     have e3 := gNo k3 k12
     unfold gT at e2 e3 ⊢
     rw [List.length_append, rts_app o4, List.filter_append, e2, List.nil_append, List.length_cons, show es.length + 1 = [a].length + es.length by simp; omega, rts_app (Fo.one h1), List.filter_append]
     rw [show ([a] : List Int).length = 1 from rfl, e3, List.nil_append]
    rw [e1, hgs] at c1 c2
    exact ⟨c1, c2⟩
end
end Go.Proofs.YtdhkcdehedbpcaaDoor

namespace Go.Proofs.YtdhkcdehedbpcaaDoor
open Go Go.RowKit

def ints (l : List Nat) : List Value := l.map (fun (i : Nat) => Value.int .i64 (i : Int))
theorem rts_len (L : List ANode) : ∀ (n p : Nat), (rts L n p).length = n
 | 0, _ => rfl
 | n + 1, p => by simp [rts, rts_len L n]

theorem na_nc {w : World} {a : Option Addr} {L : List ANode} (h : NA w a L) (h0 : 0 < L.length) : ∃ g o, a = some ⟨g, o, none⟩ ∧ NC w g o L := by
 obtain ⟨g, off, rfl, hg, _, _⟩ := h 0 h0
 refine ⟨g, off, rfl, hg, fun i hi j hj => ?_, fun i hi => ?_⟩
 ·obtain ⟨b, o, e, _, hc, _⟩ := h i hi
  injection e with e
  injection e with e1 e2
  subst e1 e2
  have := hc j hj
  rw [← Nat.add_assoc] at this
  exact this
 ·obtain ⟨b, o, e, _, _, hk⟩ := h i hi
  exact ⟨hk.2.1, hk.2.2.1.1, by have := hk.2.2.1.2; unfold maxLen at this; omega⟩

theorem zN_get {L : List ANode} {i : Nat} (h : i < L.length) : L[i] = zN L i := by unfold zN; rw [List.getD_eq_getElem?_getD, List.getElem?_eq_getElem h]; rfl

end Go.Proofs.YtdhkcdehedbpcaaDoor

