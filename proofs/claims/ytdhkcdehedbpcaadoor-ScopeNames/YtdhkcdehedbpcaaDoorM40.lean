/- Programs with other names: plain data. · Programs with other names: what is made of them, plain data. · Lists of nodes that were handed in, with the form's own reach: how long their texts can be. · The law's own renaming. -/
import Derived.Test.YtdhkcdehedbpcaaDoorM39
import Derived.Test.YtdhkcdehedbpcaaDoorM12
import Derived.SizedLaws
set_option linter.unusedSimpArgs false
set_option linter.unusedVariables false
namespace Go.Proofs.YtdhkcdehedbpcaaDoor
open Go Go.RowKit

def q9 : ByteArray := ⟨#[95, 113, 57]⟩
def ren (s : ByteArray) : ByteArray := if (primF s).isSome then s else s ++ q9
def isNamed (n : ANode) : Bool := n.1 == 19 || n.1 == 3 || n.1 == 12 || n.1 == 11
def rnN (n : ANode) : ANode := if isNamed n && (primF (strOfNums n.2.2.1)).isNone then (n.1, n.2.1, n.2.2.1 ++ [95, 113, 57], n.2.2.2.1, n.2.2.2.2) else n
def rnL (L : List ANode) : List ANode := L.map rnN

theorem app_size (s t : ByteArray) : (s ++ t).data = s.data ++ t.data := by simp
theorem prim_q (s : ByteArray) : primF (s ++ q9) = none := by
 apply primF_miss
 intro i hi t ht e
 have h0 : ∀ i, i < 30 → ∀ t, prs[i]? = some t → t.data.toList.getLast? ≠ some 57 := by decide
 apply h0 i hi t ht
 rw [e, app_size]
 simp [q9]
theorem q_inj {s t : ByteArray} (h : s ++ q9 = t ++ q9) : s = t := by
 have := congrArg ByteArray.data h
 rw [app_size, app_size] at this
 have h2 := congrArg Array.toList this
 rw [Array.toList_append, Array.toList_append] at h2
 have := List.append_cancel_right h2
 cases s; cases t
 congr 1
 exact Array.toList_inj.1 this
theorem q_not {s p : ByteArray} (hp : (primF p).isSome = true) : s ++ q9 ≠ p := fun e => by rw [← e, prim_q] at hp; cases hp
theorem ren_inj {s t : ByteArray} (h : ren s = ren t) : s = t := by
 unfold ren at h
 by_cases h1 : (primF s).isSome = true
 ·rw [if_pos h1] at h
  by_cases h2 : (primF t).isSome = true
  ·rw [if_pos h2] at h; exact h
  ·rw [if_neg h2] at h; exact absurd h.symm (q_not h1)
 ·rw [if_neg h1] at h
  by_cases h2 : (primF t).isSome = true
  ·rw [if_pos h2] at h; exact absurd h (q_not h2)
  ·rw [if_neg h2] at h; exact q_inj h
theorem ren_prim (s : ByteArray) : primF (ren s) = primF s := by
 unfold ren
 split
 ·rfl
 ·next h =>
  rw [prim_q]
  cases e : primF s with
  | none => rfl
  | some n => rw [e] at h; exact absurd rfl h

section
variable {L : List ANode}
theorem rnL_len : (rnL L).length = L.length := by simp [rnL]
theorem rn_get (i : Nat) : zN (rnL L) i = rnN (zN L i) := by
 unfold zN rnL
 rw [List.getD_eq_getElem?_getD, List.getD_eq_getElem?_getD, List.getElem?_map]
 cases h : L[i]? with
 | none => rfl
 | some n => rfl
theorem rn_kind (n : ANode) : (rnN n).1 = n.1 ∧ (rnN n).2.1 = n.2.1 ∧ (rnN n).2.2.2 = n.2.2.2 := by unfold rnN; split <;> exact ⟨rfl, rfl, rfl⟩
theorem str_cat9 (a b : List Int) : strOfNums a ++ strOfNums b = strOfNums (a ++ b) := by
 apply str_inj
 simp [strOfNums, ByteArray.toList_eq]
theorem rn_text {i : Nat} (h : isNamed (zN L i) = true) : zT (rnL L) i = ren (zT L i) := by
 unfold zT
 rw [rn_get]
 unfold rnN ren
 by_cases hp : (primF (strOfNums (zN L i).2.2.1)).isSome = true
 ·rw [if_pos hp, if_neg (by simp only [Option.isNone_iff_eq_none, Bool.and_eq_true]; intro k; rw [k.2] at hp; cases hp)]
 ·rw [if_neg hp, if_pos (by rw [h]; cases e : primF (strOfNums (zN L i).2.2.1) with | none => rfl | some n => rw [e] at hp; exact absurd rfl hp)]
  rw [← str_cat9]; rfl
theorem bhV_rn (a : Int) : bhV (rnL L) a = bhV L a := by
 unfold bhV bhP
 rw [rnL_len]
 have : kidsN (rnL L) = kidsN L := by
  unfold kidsN rnL
  rw [List.map_map]
  apply List.map_congr_left
  intro n _
  simp [(rn_kind n).2.1]
 rw [this]

def MR (m m' : ByteArray → Option Int) : Prop := ∀ s, m' (ren s) = m s
theorem MR.put {m m' : ByteArray → Option Int} (h : MR m m') (s : ByteArray) (x : Int) : MR (mput m s x) (mput m' (ren s) x) := by
 intro u
 unfold mput
 by_cases e : u = s
 ·rw [if_pos e, if_pos (by rw [e])]
 ·rw [if_neg e, if_neg (fun k => e (ren_inj k))]; exact h u
theorem MR.unhide {m m' s s' : ByteArray → Option Int} (h : MR m m') (g : MR s s') : MR (Go.Proofs.YtdhkcdehedbpcaaDoor.unhide m s) (Go.Proofs.YtdhkcdehedbpcaaDoor.unhide m' s') := by
 intro u
 unfold Go.Proofs.YtdhkcdehedbpcaaDoor.unhide
 rw [h u, g u]
theorem glob_rn : ∀ (k : Nat) (a : Int) (M M' A : ByteArray → Option Int) (c : Int), MR M M' → globA L k a M c = some A → ∃ A', globA (rnL L) k a M' c = some A' ∧ MR A A'
 | 0, a, M, M', A, c, h, hg => by
  unfold globA at hg
  cases hg
  exact ⟨M', rfl, h⟩
 | k + 1, a, M, M', A, c, h, hg => by
  unfold globA at hg ⊢
  rw [rnL_len]
  by_cases ha : 0 ≤ a ∧ a < L.length
  case neg => rw [if_neg ha] at hg; cases hg
  rw [if_pos ha] at hg ⊢
  have e1 : ((rnL L).getD a.toNat (0, 0, [], 0, 0)) = rnN (L.getD a.toNat (0, 0, [], 0, 0)) := rn_get a.toNat
  have e2 := (rn_kind (L.getD a.toNat (0, 0, [], 0, 0))).1
  rw [bhV_rn]
  rw [e1, e2]
  by_cases hd : (L.getD a.toNat (0, 0, [], 0, 0)).1 = 3 ∨ (L.getD a.toNat (0, 0, [], 0, 0)).1 = 12
  ·rw [if_pos hd] at hg ⊢
   have ht : strOfNums (rnN (L.getD a.toNat (0, 0, [], 0, 0))).2.2.1 = ren (strOfNums (L.getD a.toNat (0, 0, [], 0, 0)).2.2.1) := by
    have := rn_text (L := L) (i := a.toNat) (by
    have hd' : (zN L a.toNat).1 = 3 ∨ (zN L a.toNat).1 = 12 := hd
    unfold isNamed; rcases hd' with h | h <;> rw [h] <;> rfl)
    unfold zT at this
    rw [rn_get] at this
    exact this
   rw [ht, h]
   refine glob_rn k _ _ _ _ _ ?_ hg
   split
   ·exact h
   ·exact h.put _ _
  ·rw [if_neg hd] at hg ⊢
   exact glob_rn k _ _ _ _ _ h hg

structure ZRn (z z' : ZS) : Prop where
 nm : ∀ m, z.names = some m → ∃ m', z'.names = some m' ∧ MR m m'
 nn : z.names = none → z'.names = none
 se : MR z.seen z'.seen
 gl : z'.globals = z.globals.map fun s => s ++ q9
 fn : z'.fn = z.fn
 lo : z'.loops = z.loops
 nx : z'.next = z.next
 fu : z'.funs = z.funs
 us : z'.uses = z.uses
 de : z'.declared = z.declared
 fa : z'.fault = z.fault
 fy : z'.faulty = z.faulty
 ct : z'.cnt = z.cnt
 nc : z'.nc = z.nc

theorem ZRn.fail {z z' : ZS} (h : ZRn z z') (i : Nat) (e : Int) : ZRn (zfail z i e) (zfail z' i e) := by
 unfold zfail
 rw [h.fa]
 split
 ·exact { h with fa := rfl, fy := rfl }
 ·exact h
theorem ZRn.use {z z' : ZS} (h : ZRn z z') (i : Nat) (u : Int × Int) : ZRn (zuse z i u) (zuse z' i u) :=
 { h with us := by show z'.uses.set i u = _; rw [h.us]; rfl }

variable {A A' : ByteArray → Option Int}
theorem rn_global {z z' : ZS} (h : ZRn z z') (hA : MR A A') {i : Nat} (hi : isNamed (zN L i) = true) (hnp : ¬ (primF (zT L i)).isSome = true) : ZRn (zglobal L A z i) (zglobal (rnL L) A' z' i) := by
 unfold zglobal
 rw [rn_text hi, hA, h.gl, List.length_map]
 split
 ·exact h.fail _ _
 split
 ·exact h.fail _ _
 ·refine ZRn.use (z := { z with globals := z.globals ++ [zT L i] }) (z' := { z' with globals := z.globals.map (fun s => s ++ q9) ++ [ren (zT L i)] }) { h with gl := ?_ } _ _
  simp [ren, hnp]
theorem rn_slot {z z' : ZS} (h : ZRn z z') {m m' : ByteArray → Option Int} (hm : MR m m') {i : Nat} (hi : isNamed (zN L i) = true) {y : ZS} (hy : zslot L z m i = some y) : ∃ y', zslot (rnL L) z' m' i = some y' ∧ ZRn y y' := by
 unfold zslot at hy ⊢
 rw [h.fu, h.fn]
 cases hf : z.funs[z.fn]? with
 | none => rw [hf] at hy; cases hy
 | some f =>
  rw [hf] at hy
  dsimp only at hy ⊢
  rw [rn_text hi, hm, h.de]
  split at hy
  ·cases hy
   rw [if_pos (by assumption)]
   exact ⟨_, rfl, h.fail _ _⟩
  rw [if_neg (by assumption)]
  split at hy
  ·cases hy
   rw [if_pos (by assumption)]
   exact ⟨_, rfl, h.fail _ _⟩
  rw [if_neg (by assumption)]
  split at hy
  ·cases hy
   rw [if_pos (by assumption)]
   exact ⟨_, rfl, { h with fn := rfl, us := by show z'.uses.set _ _ = _; rw [h.us], de := rfl, fu := by show (z.funs.set _ _) = _; rfl }⟩
  ·cases hy
theorem rn_declare {z z' : ZS} (h : ZRn z z') (hA : MR A A') {i : Nat} (hi : isNamed (zN L i) = true) {y : ZS} (hy : zdeclare L A z i = some y) : ∃ y', zdeclare (rnL L) A' z' i = some y' ∧ ZRn y y' := by
 unfold zdeclare at hy ⊢
 rw [rnL_len, rn_text hi, ren_prim]
 by_cases h1 : i < L.length
 case neg => rw [if_neg h1] at hy; cases hy
 rw [if_pos h1] at hy ⊢
 by_cases h2 : (primF (zT L i)).isSome = true
 ·rw [if_pos h2] at hy ⊢
  cases hy
  exact ⟨_, rfl, h.fail _ _⟩
 rw [if_neg h2] at hy ⊢
 cases hn : z.names with
 | none =>
  rw [hn] at hy
  rw [h.nn hn]
  dsimp only at hy ⊢
  cases hy
  exact ⟨_, rfl, rn_global h hA hi h2⟩
 | some m =>
  rw [hn] at hy
  obtain ⟨m', e1, e2⟩ := h.nm m hn
  rw [e1]
  exact rn_slot h e2 hi hy
theorem rn_show {z z' : ZS} (h : ZRn z z') {i : Nat} (hi : isNamed (zN L i) = true) {y : ZS} (hy : zshow L z i = some y) : ∃ y', zshow (rnL L) z' i = some y' ∧ ZRn y y' := by
 unfold zshow at hy ⊢
 rw [h.us]
 cases hu : z.uses[i]? with
 | none => rw [hu] at hy; cases hy
 | some u =>
  rw [hu] at hy
  dsimp only at hy ⊢
  by_cases h1 : u.1 ≠ 1
  ·rw [if_pos h1] at hy ⊢
   cases hy
   exact ⟨_, rfl, h⟩
  rw [if_neg h1] at hy ⊢
  cases hn : z.names with
  | none => rw [hn] at hy; cases hy
  | some m =>
   rw [hn] at hy
   obtain ⟨m', e1, e2⟩ := h.nm m hn
   rw [e1]
   dsimp only at hy ⊢
   rw [h.ct, h.nc, rn_text hi, h.se]
   split at hy
   ·cases hy
    rw [if_pos (by assumption)]
    refine ⟨_, rfl, { h with nm := fun m0 hm0 => ?_, nn := (fun k => by cases k), se := h.se.put _ _, us := rfl, ct := rfl, nc := rfl }⟩
    cases hm0
    exact ⟨_, rfl, e2.put _ _⟩
   ·cases hy

theorem rn_take : ∀ (t : Nat) {z z' : ZS}, ZRn z z' → ∀ (i g d : Nat) {r : Int × ZS}, ztake t z i g d = some r → ∃ r', ztake t z' i g d = some r' ∧ r'.1 = r.1 ∧ ZRn r.2 r'.2
 | 0, z, z', h, i, g, d, r, hr => by cases hr
 | t + 1, z, z', h, i, g, d, r, hr => by
  unfold ztake at hr ⊢
  rw [h.fu, h.de]
  cases hf : z.funs[g]? with
  | none => rw [hf] at hr; cases hr
  | some f =>
   cases he : z.declared[d]? with
   | none => rw [hf, he] at hr; cases hr
   | some e =>
    rw [hf, he] at hr
    dsimp only at hr ⊢
    cases hc : f.cm d with
    | some k =>
     rw [hc] at hr
     dsimp only at hr ⊢
     cases hr
     exact ⟨_, rfl, rfl, h⟩
    | none =>
     rw [hc] at hr
     dsimp only at hr ⊢
     by_cases hg : g = 0
     ·rw [if_pos hg] at hr; cases hr
     rw [if_neg hg] at hr ⊢
     obtain ⟨c, hc1, hc2⟩ := Option.bind_eq_some_iff.1 hr
     have hx : ∃ c', (if f.about = e.fn then some (((1 : Int), e.slot), z') else (ztake t z' i f.about d).map fun r => (((0 : Int), r.1), r.2)) = some c' ∧ c'.1 = c.1 ∧ ZRn c.2 c'.2 := by
      by_cases ha : f.about = e.fn
      ·rw [if_pos ha] at hc1 ⊢
       cases hc1
       exact ⟨_, rfl, rfl, h⟩
      ·rw [if_neg ha] at hc1 ⊢
       obtain ⟨r0, h1, h2⟩ := Option.map_eq_some_iff.1 hc1
       obtain ⟨r1, h3, h4, h5⟩ := rn_take t h i f.about d h1
       subst h2
       rw [h3]
       exact ⟨_, rfl, by simp [h4], h5⟩
     obtain ⟨c', h1, h2, h3⟩ := hx
     rw [h1]
     simp only [Option.bind_some]
     rw [h3.fu]
     cases hq : c.2.funs[g]? with
     | none => rw [hq] at hc2; cases hc2
     | some q =>
      rw [hq] at hc2
      dsimp only at hc2 ⊢
      split at hc2
      ·cases hc2
       rw [if_pos (by assumption)]
       exact ⟨_, rfl, rfl, h3.fail _ _⟩
      ·cases hc2
       rw [if_neg (by assumption)]
       exact ⟨_, rfl, rfl, { h3 with fu := by show List.set _ _ _ = _; rw [h2] }⟩

theorem rn_name {z z' : ZS} (h : ZRn z z') (hA : MR A A') {i : Nat} (hi : isNamed (zN L i) = true) {y : ZS} (hy : zname L A z i = some y) : ∃ y', zname (rnL L) A' z' i = some y' ∧ ZRn y y' := by
 unfold zname at hy ⊢
 rw [rn_text hi, h.se, hA, ren_prim]
 cases hs : z.seen (zT L i) with
 | some d =>
  rw [hs] at hy
  dsimp only at hy ⊢
  unfold zmeans at hy ⊢
  by_cases hd : d < 0
  ·rw [if_pos hd] at hy; cases hy
  rw [if_neg hd] at hy ⊢
  rw [h.de, h.fn, h.fu]
  cases he : z.declared[d.toNat]? with
  | none => rw [he] at hy; cases hy
  | some e =>
   rw [he] at hy
   dsimp only at hy ⊢
   by_cases hf : e.fn = z.fn
   ·rw [if_pos hf] at hy ⊢
    cases hy
    exact ⟨_, rfl, h.use _ _⟩
   ·rw [if_neg hf] at hy ⊢
    obtain ⟨r, h1, h2⟩ := Option.map_eq_some_iff.1 hy
    obtain ⟨r', h3, h4, h5⟩ := rn_take _ (z := { z with declared := z.declared.set d.toNat { e with taken := true } }) (z' := { z' with fn := z.fn, funs := z.funs, declared := z.declared.set d.toNat { e with taken := true } }) { h with fn := rfl, fu := rfl, de := rfl } i z.fn d.toNat h1
    subst h2
    rw [h3]
    exact ⟨_, rfl, by show ZRn _ (zuse r'.2 i (3, r'.1)); rw [h4]; exact h5.use _ _⟩
 | none =>
  rw [hs] at hy
  dsimp only at hy ⊢
  cases ha : A (zT L i) with
  | some n =>
   rw [ha] at hy
   dsimp only at hy ⊢
   cases hy
   exact ⟨_, rfl, h.use _ _⟩
  | none =>
   rw [ha] at hy
   dsimp only at hy ⊢
   cases hp : primF (zT L i) with
   | some n =>
    rw [hp] at hy
    dsimp only at hy ⊢
    cases hy
    exact ⟨_, rfl, h.use _ _⟩
   | none =>
    rw [hp] at hy
    dsimp only at hy ⊢
    cases hy
    exact ⟨_, rfl, h.fail _ _⟩

theorem rn_plain {z z' : ZS} (h : ZRn z z') (hA : MR A A') {i : Nat} {y : ZS} (hy : zplain L A z i = some y) : ∃ y', zplain (rnL L) A' z' i = some y' ∧ ZRn y y' := by
 unfold zplain at hy ⊢
 rw [show (zN (rnL L) i).1 = (zN L i).1 from by rw [rn_get]; exact (rn_kind _).1, h.lo, h.fn]
 split at hy
 ·rw [if_pos (by assumption)]
  unfold zset at hy ⊢
  rw [rnL_len]
  by_cases hl : i + 1 < L.length
  case neg => rw [if_neg hl] at hy; cases hy
  rw [if_pos hl] at hy ⊢
  have e : ((zN (rnL L) (i + 1)).1 = 19 ∧ (primF (zT (rnL L) (i + 1))).isSome = true) ↔ ((zN L (i + 1)).1 = 19 ∧ (primF (zT L (i + 1))).isSome = true) := by
   rw [show (zN (rnL L) (i + 1)).1 = (zN L (i + 1)).1 from by rw [rn_get]; exact (rn_kind _).1]
   constructor
   ·rintro ⟨h1, h2⟩
    rw [rn_text (by unfold isNamed; rw [h1]; rfl), ren_prim] at h2
    exact ⟨h1, h2⟩
   ·rintro ⟨h1, h2⟩
    rw [rn_text (by unfold isNamed; rw [h1]; rfl), ren_prim]
    exact ⟨h1, h2⟩
  by_cases hs : (zN L (i + 1)).1 = 19 ∧ (primF (zT L (i + 1))).isSome = true
  ·rw [if_pos hs] at hy
   rw [if_pos (e.2 hs)]
   cases hy
   exact ⟨_, rfl, h.fail _ _⟩
  ·rw [if_neg hs] at hy
   rw [if_neg (fun k => hs (e.1 k))]
   cases hy
   exact ⟨_, rfl, h⟩
 rw [if_neg (by assumption)]
 split at hy
 ·rw [if_pos (by assumption)]
  split at hy
  ·rw [if_pos (by assumption)]; cases hy; exact ⟨_, rfl, h.fail _ _⟩
  ·rw [if_neg (by assumption)]; cases hy; exact ⟨_, rfl, h⟩
 rw [if_neg (by assumption)]
 split at hy
 ·rw [if_pos (by assumption)]
  split at hy
  ·rw [if_pos (by assumption)]; cases hy; exact ⟨_, rfl, h.fail _ _⟩
  ·rw [if_neg (by assumption)]; cases hy; exact ⟨_, rfl, h⟩
 rw [if_neg (by assumption)]
 split at hy
 ·next h19 =>
  rw [if_pos h19]
  exact rn_name h hA (by unfold isNamed; rw [h19]; rfl) hy
 ·rw [if_neg (by assumption)]; cases hy; exact ⟨_, rfl, h⟩

theorem rn_leave {z z' b b' : ZS} (h : ZRn z z') (hb : ZRn b b') {y : ZS} (hy : zleave z b = some y) : ∃ y', zleave z' b' = some y' ∧ ZRn y y' := by
 unfold zleave at hy ⊢
 cases hn : z.names with
 | none => rw [hn] at hy; cases hy
 | some m =>
  obtain ⟨m', e1, e2⟩ := h.nm m hn
  rw [hn] at hy
  rw [e1]
  dsimp only at hy ⊢
  rw [h.ct, h.nc]
  split at hy
  ·cases hy
   rw [if_pos (by assumption)]
   exact ⟨_, rfl, { h with nm := hb.nm, nn := hb.nn, se := e2.unhide h.se, fn := hb.fn, lo := hb.lo, ct := rfl, nc := hb.nc }⟩
  ·cases hy
theorem rn_enter {z z' : ZS} (h : ZRn z z') (g : Nat) (n : Int) : ZRn (zenter z g n) (zenter z' g n) :=
 { h with nm := fun m hm => ⟨_, rfl, by cases hm; exact fun _ => rfl⟩, nn := (fun k => by cases k), fn := rfl, lo := rfl, nc := rfl }
theorem rn_param : ∀ (n : Nat) {z z' : ZS}, ZRn z z' → MR A A' → (∀ j, j < n → isNamed (zN L (z.next + j)) = true) → ∀ {y : ZS}, zparam L A n z = some y → ∃ y', zparam (rnL L) A' n z' = some y' ∧ ZRn y y'
 | 0, z, z', h, hA, hp, y, hy => by cases hy; exact ⟨_, rfl, h⟩
 | n + 1, z, z', h, hA, hp, y, hy => by
  unfold zparam at hy ⊢
  obtain ⟨u, h1, h2⟩ := Option.bind_eq_some_iff.1 hy
  obtain ⟨v, h3, h4⟩ := Option.bind_eq_some_iff.1 h2
  have h0 := hp 0 (by omega)
  rw [Nat.add_zero] at h0
  obtain ⟨u', a1, a2⟩ := rn_declare h hA h0 h1
  obtain ⟨v', a3, a4⟩ := rn_show a2 h0 h3
  obtain ⟨y', a5, a6⟩ := rn_param n (z := { v with next := z.next + 1 }) (z' := { v' with next := z.next + 1 }) { a4 with nx := rfl } hA (fun j hj => by have := hp (j + 1) (by omega); rw [show z.next + (j + 1) = z.next + 1 + j by omega] at this; exact this) h4
  refine ⟨y', ?_, a6⟩
  rw [h.nx, a1]
  simp only [Option.bind_some]
  rw [a3]
  exact a5
end
end Go.Proofs.YtdhkcdehedbpcaaDoor

namespace Go.Proofs.YtdhkcdehedbpcaaDoor
open Go Go.RowKit
section
variable {L : List ANode} {A A' : ByteArray → Option Int}

theorem tr_at : ∀ (N : Nat) {es : List Int} {p q : Nat}, q - p ≤ N → Fo L es p q → ∀ i, p ≤ i → i < q → ∃ a j, Tr L a i j
 | N, [], p, q, hN, h, i, h1, h2 => by have : p = q := h; omega
 | 0, a :: es, p, q, hN, h, i, h1, h2 => by have := h.le; simp at this; omega
 | N + 1, a :: es, p, q, hN, h, i, h1, h2 => by
  by_cases e : i = p
  ·subst e
   obtain ⟨r, h3, _⟩ := h
   exact ⟨a, r, h3⟩
  ·exact tr_at N (by omega) h.step.2.2.2 i (by omega) h2
theorem fn_named {i r : Nat} {a : Int} (h : Tr L a i r) (hf : isF (zN L i) = true) : ∀ j, j < (zN L i).2.2.2.1.toNat → isNamed (zN L (i + 1 + j)) = true := by
 obtain ⟨h1, h2, h3, h4⟩ := h.out
 have hk : (zN L i).1 = 12 ∨ (zN L i).1 = 31 := by unfold isF at hf; simpa using hf
 have hnum := wm_fn h3 hk
 have hrg := wm_rng h3
 have hrg2 : 1 ≤ (zN L i).2.1 ∧ (zN L i).2.1 ≤ 17 := by
  rcases hk with hk | hk
  ·rw [hk] at hrg; exact hrg
  ·rw [hk] at hrg; exact hrg
 have hst : ∀ (x : Nat), (x : Int) < (zN L i).2.2.2.1 → stP (zN L i) x = 5 := fun x hx => by
  unfold stP
  rw [if_neg (by omega), if_neg (by omega), if_neg (by omega), if_neg (by omega), if_neg (by omega), if_pos hk, if_pos hx]
 have key : ∀ (m x p : Nat), x + m = (zN L i).2.1.toNat → Fo L (kidsA (zN L i) m x) p r → ∀ j, j + x < (zN L i).2.2.2.1.toNat → isNamed (zN L (p + j)) = true := by
  intro m
  induction m with
  | zero => intro x p hx _ j hj; omega
  | succ m ih =>
   intro x p hx hfo j hj
   obtain ⟨s, hs, hr⟩ := hfo
   rw [hst x (by omega)] at hs
   obtain ⟨e1, e2⟩ := name_one hs
   cases j with
   | zero => unfold isNamed; rw [Nat.add_zero, e1]; rfl
   | succ j =>
    rw [e2] at hr
    have := ih (x + 1) (p + 1) (by omega) (by rw [show (((x + 1 : Nat)) : Int) = (x : Int) + 1 by omega]; exact hr) j (by omega)
    rw [show p + (j + 1) = p + 1 + j by omega]
    exact this
 intro j hj
 exact key _ 0 (i + 1) (by omega) h4 j (by omega)

def QOk (L : List ANode) (q : ZQ) (z : ZS) : Prop :=
 match q with
 | .var i => isNamed (zN L i) = true
 | .att i => isNamed (zN L i) = true
 | .named i => isNamed (zN L i) = true ∧ isF (zN L i) = true ∧ z.next = i + 1
 | .func i => isF (zN L i) = true ∧ z.next = i + 1
 | _ => True

theorem show_next {z y : ZS} {i : Nat} (h : zshow L z i = some y) : y.next = z.next := by
 unfold zshow at h
 cases hu : z.uses[i]? with
 | none => rw [hu] at h; cases h
 | some u =>
  rw [hu] at h
  dsimp only at h
  split at h
  ·cases h; rfl
  ·cases hn : z.names with
   | none => rw [hn] at h; cases h
   | some m =>
    rw [hn] at h
    dsimp only at h
    split at h
    ·cases h; rfl
    ·cases h
theorem declare_next {z y : ZS} {i : Nat} (h : zdeclare L A z i = some y) : y.next = z.next := by
 unfold zdeclare at h
 split at h
 ·split at h
  ·cases h; exact zfail_next _ _ _
  ·cases hn : z.names with
   | none =>
    rw [hn] at h
    dsimp only at h
    cases h
    unfold zglobal
    split
    ·exact zfail_next _ _ _
    split
    ·exact zfail_next _ _ _
    ·rfl
   | some m =>
    rw [hn] at h
    dsimp only at h
    unfold zslot at h
    cases hf : z.funs[z.fn]? with
    | none => rw [hf] at h; cases h
    | some f =>
     rw [hf] at h
     dsimp only at h
     split at h
     ·cases h; exact zfail_next _ _ _
     split at h
     ·cases h; exact zfail_next _ _ _
     split at h
     ·cases h; rfl
     ·cases h
 ·cases h

variable (hA : MR A A') (HK : ∀ i, isF (zN L i) = true → ∀ j, j < (zN L i).2.2.2.1.toNat → isNamed (zN L (i + 1 + j)) = true)
include hA HK

theorem rn_run : ∀ (t : Nat) (q : ZQ) {z z' : ZS}, ZRn z z' → QOk L q z → ∀ {v : ZS}, zR L A t q z = some v → ∃ v', zR (rnL L) A' t q z' = some v' ∧ ZRn v v'
 | 0, q, z, z', h, hq, v, hv => by cases hv
 | t + 1, q, z, z', h, hq, v, hv => by
  have ih := fun (q : ZQ) {z z' : ZS} (h : ZRn z z') (hq : QOk L q z) {v : ZS} (hv : zR L A t q z = some v) => rn_run t q h hq hv
  have kd : ∀ i, (zN (rnL L) i).1 = (zN L i).1 := fun i => by rw [rn_get]; exact (rn_kind _).1
  have kn : ∀ i, (zN (rnL L) i).2.1 = (zN L i).2.1 := fun i => by rw [rn_get]; exact (rn_kind _).2.1
  have km : ∀ i, (zN (rnL L) i).2.2.2.1 = (zN L i).2.2.2.1 := fun i => by rw [rn_get]; rw [(rn_kind _).2.2]
  have bnd : ∀ {q1 : ZQ} {f g : ZS → Option ZS} {z z' : ZS}, ZRn z z' → QOk L q1 z → (zR L A t q1 z).bind f = some v → (∀ {u u' : ZS}, ZRn u u' → f u = some v → ∃ v', g u' = some v' ∧ ZRn v v') → ∃ v', (zR (rnL L) A' t q1 z').bind g = some v' ∧ ZRn v v' := by
   intro q1 f g z z' h hq hv hk
   obtain ⟨u, h1, h2⟩ := Option.bind_eq_some_iff.1 hv
   obtain ⟨u', h3, h4⟩ := ih q1 h hq h1
   obtain ⟨v', h5, h6⟩ := hk h4 h2
   exact ⟨v', by rw [h3]; exact h5, h6⟩
  have nx1 : ZRn { z with next := z.next + 1 } { z' with next := z.next + 1, fault := z.fault } := { h with nx := rfl, fa := rfl }
  cases q with
  | parts due =>
   unfold zR at hv ⊢
   dsimp only at hv ⊢
   rw [h.fa, h.nx, rnL_len]
   by_cases h1 : 0 < due ∧ z.fault = 0
   case neg =>
    rw [if_neg h1] at hv ⊢
    cases hv
    exact ⟨_, rfl, h⟩
   rw [if_pos h1] at hv ⊢
   by_cases h2 : due ≤ 1000000 ∧ z.next < L.length
   case neg => rw [if_neg h2] at hv; cases hv
   rw [if_pos h2] at hv ⊢
   rw [kd, kn]
   have go : ∀ {u u' : ZS}, ZRn u u' → ∀ d : Int, zR L A t (.parts d) u = some v → ∃ v', zR (rnL L) A' t (.parts d) u' = some v' ∧ ZRn v v' := fun hu d hv => ih (.parts d) hu trivial hv
   by_cases k2 : (zN L z.next).1 = 2
   ·rw [if_pos k2] at hv ⊢
    exact bnd (q1 := .block z.next) nx1 trivial hv (fun hu hv => go hu _ hv)
   rw [if_neg k2] at hv ⊢
   by_cases k3 : (zN L z.next).1 = 3
   ·rw [if_pos k3] at hv ⊢
    exact bnd (q1 := .var z.next) nx1 (show isNamed _ = true by unfold isNamed; rw [k3]; rfl) hv (fun hu hv => go hu _ hv)
   rw [if_neg k3] at hv ⊢
   by_cases k6 : (zN L z.next).1 = 6
   ·rw [if_pos k6] at hv ⊢
    exact bnd (q1 := .loop) nx1 trivial hv (fun hu hv => go hu _ hv)
   rw [if_neg k6] at hv ⊢
   by_cases k11 : (zN L z.next).1 = 11
   ·rw [if_pos k11] at hv ⊢
    exact bnd (q1 := .att z.next) nx1 (show isNamed _ = true by unfold isNamed; rw [k11]; rfl) hv (fun hu hv => go hu _ hv)
   rw [if_neg k11] at hv ⊢
   by_cases k12 : (zN L z.next).1 = 12
   ·rw [if_pos k12] at hv ⊢
    exact bnd (q1 := .named z.next) nx1 ⟨by unfold isNamed; rw [k12]; rfl, by unfold isF; rw [k12]; rfl, rfl⟩ hv (fun hu hv => go hu _ hv)
   rw [if_neg k12] at hv ⊢
   by_cases k31 : (zN L z.next).1 = 31
   ·rw [if_pos k31] at hv ⊢
    exact bnd (q1 := .func z.next) nx1 ⟨by unfold isF; rw [k31]; rfl, rfl⟩ hv (fun hu hv => go hu _ hv)
   rw [if_neg k31] at hv ⊢
   by_cases h3 : 0 ≤ (zN L z.next).2.1 ∧ (zN L z.next).2.1 ≤ 1000000
   case neg => rw [if_neg h3] at hv; cases hv
   rw [if_pos h3] at hv ⊢
   obtain ⟨u, h4, h5⟩ := Option.bind_eq_some_iff.1 hv
   obtain ⟨u', h6, h7⟩ := rn_plain nx1 hA h4
   rw [h6]
   exact go h7 _ h5
  | block i =>
   unfold zR at hv ⊢
   dsimp only at hv ⊢
   rw [rnL_len, kn]
   by_cases h1 : i < L.length
   case neg => rw [if_neg h1] at hv; cases hv
   rw [if_pos h1] at hv ⊢
   rw [h.fn, h.lo]
   exact bnd (q1 := .parts _) (rn_enter h _ _) trivial hv (fun hu hv => rn_leave hu h hv)
  | var i =>
   unfold zR at hv ⊢
   dsimp only at hv ⊢
   obtain ⟨y, h1, h2⟩ := Option.bind_eq_some_iff.1 hv
   obtain ⟨y', h3, h4⟩ := rn_declare h hA hq h1
   rw [h3]
   exact bnd (q1 := .parts 1) h4 trivial h2 (fun hu hv => rn_show hu hq hv)
  | loop =>
   unfold zR at hv ⊢
   dsimp only at hv ⊢
   refine bnd (q1 := .parts 1) h trivial hv (fun {u u'} hu hv => ?_)
   rw [hu.lo]
   by_cases h1 : 0 ≤ u.loops ∧ u.loops < 100000
   case neg => rw [if_neg h1] at hv; cases hv
   rw [if_pos h1] at hv ⊢
   refine bnd (q1 := .parts 1) (z := { u with loops := u.loops + 1 }) (z' := { u' with loops := u.loops + 1 }) { hu with lo := rfl } trivial hv (fun {x x'} hx hv => ?_)
   rw [hx.lo]
   by_cases h2 : 1 ≤ x.loops ∧ x.loops ≤ 100000
   case neg => rw [if_neg h2] at hv; cases hv
   rw [if_pos h2] at hv ⊢
   cases hv
   exact ⟨_, rfl, { hx with lo := rfl }⟩
  | att i =>
   unfold zR at hv ⊢
   dsimp only at hv ⊢
   rw [h.fn, h.lo]
   obtain ⟨y, h1, h2⟩ := Option.bind_eq_some_iff.1 hv
   obtain ⟨y', h3, h4⟩ := rn_declare (rn_enter h z.fn z.loops) hA hq h1
   rw [h3]
   refine bnd (q1 := .parts 1) h4 trivial h2 (fun {u u'} hu hv => ?_)
   obtain ⟨x, h5, h6⟩ := Option.bind_eq_some_iff.1 hv
   obtain ⟨x', h7, h8⟩ := rn_show hu hq h5
   rw [h7]
   exact bnd (q1 := .parts 1) h8 trivial h6 (fun hw hv => rn_leave hw h hv)
  | named i =>
   unfold zR at hv ⊢
   dsimp only at hv ⊢
   obtain ⟨y, h1, h2⟩ := Option.bind_eq_some_iff.1 hv
   obtain ⟨y', h3, h4⟩ := rn_declare h hA hq.1 h1
   rw [h3]
   obtain ⟨x, h5, h6⟩ := Option.bind_eq_some_iff.1 h2
   obtain ⟨x', h7, h8⟩ := rn_show h4 hq.1 h5
   simp only [Option.bind_some]
   rw [h7]
   exact ih (.func i) h8 ⟨hq.2.1, by rw [show_next h5, declare_next h1]; exact hq.2.2⟩ h6
  | func i =>
   unfold zR at hv ⊢
   dsimp only at hv ⊢
   rw [h.fu, rnL_len, km]
   by_cases h1 : z.funs.length = 1024
   ·rw [if_pos h1] at hv ⊢
    cases hv
    exact ⟨_, rfl, h.fail _ _⟩
   rw [if_neg h1] at hv ⊢
   by_cases h2 : (i < L.length ∧ 0 < z.funs.length) ∧ 0 ≤ (zN L i).2.2.2.1 ∧ (zN L i).2.2.2.1 ≤ 100000
   case neg => rw [if_neg h2] at hv; cases hv
   rw [if_pos h2] at hv ⊢
   have ho : ZRn (zopen L z i) (zopen (rnL L) z' i) := by
    unfold zopen
    rw [h.fu, km, h.fn]
    exact rn_enter (z := { z with funs := z.funs ++ [⟨i, (zN L i).2.2.2.1, 0, [], z.fn, fun _ => none⟩] }) (z' := { z' with fn := z.fn, funs := z.funs ++ [⟨i, (zN L i).2.2.2.1, 0, [], z.fn, fun _ => none⟩] }) { h with fn := rfl, fu := rfl } _ _
   obtain ⟨y, h3, h4⟩ := Option.bind_eq_some_iff.1 hv
   obtain ⟨y', h5, h6⟩ := rn_param _ ho hA (fun j hj => by
    have e : (zopen L z i).next = i + 1 := hq.2
    rw [e]; exact HK i hq.1 j hj) h3
   rw [h5]
   exact bnd (q1 := .parts 1) h6 trivial h4 (fun hu hv => rn_leave hu h hv)
end

theorem rn_all {L : List ANode} (hl : L.length ≤ 1000) (hc : (ckP L).2 = 0) (hc' : (ckP (rnL L)).2 = 0) : ZRn (rsZ L) (rsZ (rnL L)) := by
 have R := rs_ok hl hc
 have R' := rs_ok (L := rnL L) (by rw [rnL_len]; exact hl) hc'
 have hN : rsN (rnL L) = rsN L := by unfold rsN; rw [rn_get, (rn_kind _).2.1]
 have hgl' := R'.gl
 have hre' := R'.re
 rw [hN] at hgl' hre'
 obtain ⟨A', h1, h2⟩ := glob_rn (L := L) (rsN L) 1 (fun _ => none) (fun _ => none) (rsA L) 0 (fun _ => rfl) R.gl
 have hA : rsA (rnL L) = A' := Option.some.inj (hgl'.symm.trans h1)
 rw [hA, rnL_len] at hre'
 have ht := tree_of hc
 have HK : ∀ i, isF (zN L i) = true → ∀ j, j < (zN L i).2.2.2.1.toNat → isNamed (zN L (i + 1 + j)) = true := fun i hi => by
  by_cases hil : i < L.length
  ·obtain ⟨a, j, hj⟩ := tr_at (L := L) L.length (by omega) (Fo.one ht) i (Nat.zero_le _) hil
   exact fn_named hj hi
  ·exfalso
   have : zN L i = (0, 0, [], 0, 0) := by unfold zN; rw [List.getD_eq_getElem?_getD, List.getElem?_eq_none (by omega)]; rfl
   rw [this] at hi
   cases hi
 have hs : ZRn (zstart L) (zstart (rnL L)) := by
  refine ⟨fun m hm => (by cases hm), fun _ => rfl, fun _ => rfl, rfl, rfl, rfl, rfl, rfl, ?_, rfl, rfl, rfl, rfl, rfl⟩
  show List.replicate (rnL L).length _ = List.replicate L.length _
  rw [rnL_len]
 obtain ⟨v', h3, h4⟩ := rn_run h2 HK _ (.parts (rsN L)) hs trivial R.re
 rw [h3] at hre'
 rw [← Option.some.inj hre']
 exact h4
end Go.Proofs.YtdhkcdehedbpcaaDoor

namespace Go.Proofs.YtdhkcdehedbpcaaDoor
open Go.ChangeShapes Go.WideShapes Go.ChangeAt Go.RowKit

theorem weights_all {H : Type} {P : Program} {e : TypeId} : ∀ {ds : List (DataW H)} {d : DataW H}, d ∈ ds → ∀ n ∈ d.weights P e, n ∈ DataW.weightsAll P e ds
 | d0 :: ds, d, hd, n, hn => by
  simp only [DataW.weightsAll, List.mem_append]
  rcases List.mem_cons.1 hd with h | h
  ·subst h; exact .inl hn
  ·exact .inr (weights_all h n hn)

set_option maxRecDepth 100000 in
theorem trod_nodeS {H : Type} {enc : TypeId × Value → H} {w : World} {fuel : Nat} {cs : List Value} {y : DataW H × List MemPlace} (h : DataW.trod enc Tryd.prog w 0 (fun _ => true) true fuel 43 cs = some y) :
  ∃ n : ANode, cs = ndV n ∧ NdOk n ∧ n.2.2.1.length ∈ y.1.weights Tryd.prog 43 := by
 obtain ⟨xs, n, _, hx, hl, hlen, hf⟩ := DataW.trod_struct Tryd.underlying43 h
 rw [cellsN] at hl
 match cs, hl with
 | [c0, c1, c2, c3, c4], _ =>
 have hl5 : xs.length = 5 := hlen
 match xs, hl5 with
 | [y0, y1, y2, y3, y4], _ =>
 obtain ⟨a0, e0, _, w0⟩ := DataW.trod_int under3' (hf 0 _ rfl)
 obtain ⟨a1, e1, _, w1⟩ := DataW.trod_int under3' (hf 1 _ rfl)
 obtain ⟨s2, e2, g2, w2⟩ := DataW.trod_string under9 (hf 2 _ rfl)
 obtain ⟨a3, e3, _, w3⟩ := DataW.trod_int under3' (hf 3 _ rfl)
 obtain ⟨a4, e4, _, w4⟩ := DataW.trod_int under3' (hf 4 _ rfl)
 simp [cells3, cells9] at e0 e1 e2 e3 e4
 subst e0 e1 e2 e3 e4
 have es : strOfNums (s2.data.toList.map fun u => (u.toNat : Int)) = s2 := by
  cases s2
  simp [strOfNums, List.map_map, Function.comp_def]
 refine ⟨(a0, a1, s2.data.toList.map fun u => (u.toNat : Int), a3, a4), by simp only [ndV, es], ⟨bounds_i64 w0, bounds_i64 w1, ⟨?_, by rw [List.length_map, Array.length_toList]; exact w2⟩, bounds_i64 w3, bounds_i64 w4⟩, ?_⟩
 ·intro c hc
  obtain ⟨u, _, rfl⟩ := List.mem_map.1 hc
  have := u.toNat_lt
  omega
 ·have hy : y.1 = .agg [y0.1, y1.1, y2.1, y3.1, y4.1] := by rw [hx]; rfl
  have h2 : y2.1 = .lit (.string s2.data.toList) := by
   have : some (y2) = some ((DataW.lit (.string s2.data.toList) : DataW H), ([] : List MemPlace)) := by first | exact congrArg some g2 | exact g2
   rw [Option.some.inj this]
  rw [hy, h2]
  simp only [DataW.weights, Tryd.underlying43]
  refine DataW.weights_mem_each (j := 2) (t := 9) (d := .lit (.string s2.data.toList)) (by rfl) (by rfl) _ ?_
  simp [DataW.weights]

set_option maxRecDepth 100000 in
theorem open_nodesS {H : Type} {enc : TypeId × Value → H} {W : World} {base : Nat} {v : Value} {d : DataW H} {ps : List MemPlace}
  (hval : Value.okWide Tryd.prog W .any base 24 v) (h : DataW.Trod enc Tryd.prog W 0 (fun _ => true) true 24 v d ps) (hz : ∀ n ∈ d.weights Tryd.prog 24, n ≤ reachBytes) :
  ∃ a cap L, v = .slice a (L : List ANode).length cap ∧ L.length ≤ maxLen ∧ NA W a L ∧ L.length ≤ cap ∧ (a = none → cap = 0) ∧ ∀ n ∈ L, n.2.2.1.length ≤ 140737488351232 := by
 obtain ⟨a, len, cap, rfl⟩ := okWide_slice Tryd.underlying24 hval
 obtain ⟨fuel, hf⟩ := h
 rcases DataW.trod_slice Tryd.underlying24 hf with ⟨e, _⟩ | ⟨ad, len', cap', elems, rest, n, _, e, hx, _, hlc, hcm, hlen, he, _, _⟩
 ·simp [Value.cells] at e
  obtain ⟨rfl, rfl, rfl⟩ := e
  exact ⟨none, 0, [], rfl, Nat.zero_le _, fun i hi => by simp at hi, Nat.le_refl _, fun _ => rfl, fun n hn => by cases hn⟩
 ·simp [Value.cells] at e
  obtain ⟨rfl, rfl, rfl⟩ := e
  rw [cellsN] at he
  have hd : d = .slice (elems.map (·.1)) (rest.map (·.1)) := congrArg Prod.fst hx
  have key : ∀ i, i < len → ∃ q : ANode, (∀ j, j < 5 → W.cell? ((ad.add (i * 5)).add j) = (ndV q)[j]?) ∧ NdOk q ∧ q.2.2.1.length ≤ 140737488351232 := by
   intro i hi
   have h1 := he i hi
   obtain ⟨y, hy⟩ : ∃ y, elems[i]? = some y := ⟨_, List.getElem?_eq_getElem (by omega)⟩
   rw [hy, Option.bind_eq_some_iff] at h1
   obtain ⟨cs', hcs, htr⟩ := h1
   obtain ⟨a, rfl, hok, hw⟩ := trod_nodeS htr
   refine ⟨a, (World.cells?_some hcs).2.2, hok, ?_⟩
   have h2 : a.2.2.1.length ∈ d.weights Tryd.prog 24 := by
    rw [hd]
    simp only [DataW.weights, Tryd.underlying24, List.mem_cons, List.mem_append]
    refine .inr (.inl (weights_all (List.mem_map.2 ⟨y, List.mem_of_getElem? hy, rfl⟩) _ hw))
   have := hz _ h2
   have e : reachBytes = 140737488351232 := by decide
   omega
  obtain ⟨qs, hql, hq⟩ := list_of _ len key
  have hlm : qs.length ≤ maxLen := by omega
  refine ⟨some ad, cap, qs, by rw [hql], hlm, fun i hi => ?_, by omega, fun k => (by cases k), fun n hn => ?_⟩
  ·obtain ⟨hc1, hok, _⟩ := hq i hi
   have hc0 := (hq 0 (by omega)).1 0 (by omega)
   obtain ⟨b, off, spot⟩ := ad
   have hsome : W.cell? ⟨b, off, spot⟩ = some (.int .i64 (qs[0]'(by omega)).1) := by
    have : (ndV (qs[0]'(by omega)))[0]? = some (.int .i64 (qs[0]'(by omega)).1) := rfl
    rw [this] at hc0
    simpa [Addr.add] using hc0
   have hspot : spot = none := World.cell?_spot hsome
   subst hspot
   have hlt : b < W.heap.size := World.block_lt_of_cell? W _ hsome
   have e1 : ∀ k j, ((⟨b, off, none⟩ : Addr).add k).add j = ⟨b, off + (k + j), none⟩ := by
    intro k j
    simp [Addr.add]
    split <;> split <;> simp_all <;> omega
   exact ⟨b, off, rfl, hlt, fun j hj => by rw [← e1, hc1 j hj], hok⟩
  ·obtain ⟨i, hi, rfl⟩ := List.mem_iff_getElem.1 hn
   exact (hq i hi).2.2
end Go.Proofs.YtdhkcdehedbpcaaDoor

namespace Go.Proofs.YtdhkcdehedbpcaaDoor
open Go Go.RowKit

theorem na_sl {w : World} {a : Option Addr} {L : List ANode} (h : NA w a L) (hm : L.length ≤ maxLen) {cap : Nat} (hc : L.length ≤ cap) (hn : a = none → cap = 0) : Sl w (fun _ => True) (.slice a L.length cap) L.length 5 (L.flatMap ndV) := by
 have hlen : ∀ l : List ANode, (l.flatMap ndV).length = l.length * 5 := by
  intro l
  induction l with
  | nil => rfl
  | cons x l ih => simp [List.flatMap_cons, ih, ndV]; omega
 refine ⟨hlen L, _, _, rfl, ⟨hc, hn⟩, ?_⟩
 rcases Nat.eq_zero_or_pos L.length with h0 | h0
 ·exact .inl h0
 ·obtain ⟨g, o, e, hnc⟩ := na_nc h h0
  subst e
  refine .inr ⟨g, o, rfl, hnc.lt, trivial, fun i hi => ?_⟩
  have hi5 : i / 5 < L.length := Nat.div_lt_of_lt_mul (by omega)
  have := hnc.c (i / 5) hi5 (i % 5) (Nat.mod_lt _ (by decide))
  rw [show o + i / 5 * 5 + i % 5 = o + i by omega] at this
  rw [this]
  have h2 := flat_get8 ndV 5 (fun _ => rfl) L (i / 5) (i % 5) L[i / 5] (List.getElem?_eq_getElem hi5) (Nat.mod_lt _ (by decide))
  rw [show i / 5 * 5 + i % 5 = i by omega] at h2
  exact h2.symm

def rnT (L : List ANode) (i : Nat) : List ANode := (rnL L).take i ++ L.drop i
theorem rnT_len (L : List ANode) (i : Nat) : (rnT L i).length = L.length := by unfold rnT; simp [rnL]; omega
theorem rnT_get {L : List ANode} {i : Nat} (h : i < L.length) : (rnT L i)[i]? = some (zN L i) := by
 unfold rnT
 rw [List.getElem?_append_right (by simp [rnL]; omega)]
 simp only [List.length_take, rnL_len, Nat.min_eq_left (Nat.le_of_lt h), Nat.sub_self]
 rw [List.getElem?_drop, Nat.add_zero, List.getElem?_eq_getElem h, zN_get h]
theorem rnT_next {L : List ANode} {i : Nat} (h : i < L.length) : rnT L (i + 1) = (rnT L i).set i (rnN (zN L i)) := by
 unfold rnT
 have hl : i < (rnL L).length := by rw [rnL_len]; exact h
 rw [List.set_append_right _ _ (by simp [rnL]; omega)]
 simp only [List.length_take, rnL_len, Nat.min_eq_left (Nat.le_of_lt h), Nat.sub_self]
 rw [List.drop_eq_getElem_cons h, List.set_cons_zero, List.take_add_one, List.getElem?_eq_getElem hl]
 have : (rnL L)[i] = rnN (zN L i) := (zN_get hl).trans (rn_get i)
 rw [this]
 simp
theorem rnT_same {L : List ANode} {i : Nat} (h : i < L.length) (hs : rnN (zN L i) = zN L i) : rnT L (i + 1) = rnT L i := by
 rw [rnT_next h, hs]
 apply List.ext_getElem?
 intro j
 by_cases e : j = i
 ·subst e; rw [List.getElem?_set_self (by rw [rnT_len]; exact h), rnT_get h]
 ·rw [List.getElem?_set_ne (Ne.symm e)]
theorem flat_set (l : List ANode) (i : Nat) (n : ANode) (s : List Int) (hn : l[i]? = some n) : (l.flatMap ndV).set (i * 5 + 2) (.string (strOfNums s)) = (l.set i (n.1, n.2.1, s, n.2.2.2.1, n.2.2.2.2)).flatMap ndV := by
 induction l generalizing i with
 | nil => simp at hn
 | cons x l ih =>
  cases i with
  | zero =>
   simp at hn
   subst hn
   simp [List.flatMap_cons, ndV]
  | succ i =>
   simp only [List.getElem?_cons_succ] at hn
   rw [List.set_cons_succ, List.flatMap_cons, List.flatMap_cons, List.set_append_right _ _ (by simp [ndV]; omega)]
   rw [show (i + 1) * 5 + 2 - (ndV x).length = i * 5 + 2 by simp [ndV]; omega, ih i hn]
set_option maxRecDepth 100000 in
set_option maxHeartbeats 8000000 in
theorem renamed_any (a : Option Addr) (cap : Nat) (L : List ANode) (hl : L.length ≤ 1000) (hc : L.length ≤ cap) (hn : a = none → cap = 0) (hs : ∀ n ∈ L, n.2.2.1.length ≤ 140737488351232) (w : World) (h : NA w a L) :
  Calls Tryd.prog 14 #[.slice a L.length cap, .string ⟨#[95, 113, 57]⟩] w fun e w' => ∃ a' c', e = .returned (.slice a' L.length c') ∧ w'.ownsRow w.heap.size 43 5 (.slice a' L.length c') L.length ((rnL L).flatMap ndV) ∧ Bw w w' := by
 have SL := hid (na_sl h (by unfold maxLen; omega) hc hn)
 obtain ⟨i1, hi1, hz1, hs1, hy1⟩ := info_parts infoN8
 have I1 := hid (And.intro hi1 (And.intro hz1 (And.intro hs1 hy1)))
 have HS := hid hs
 have HL := hid hl
 clear h hc hn hs hi1 hz1 hs1 hy1
 go_enter Tryd.func14, Tryd.ntmps14
 go_wp2_with (first
  | (at_builtin; refine wpList_append_sl (G := fun _ => True) _ rfl _ _ 24 rfl w.heap.size 43 i1 (.agg #[.int .i64 0, .int .i64 0, .string ⟨#[]⟩, .int .i64 0, .int .i64 0]) 5 48 undN8 I1.out.1 I1.out.2.1 I1.out.2.2.1 I1.out.2.2.2 rfl (by decide) (.slice (some ⟨w.heap.size, 0, none⟩) 0 0) 0 [] rfl ?c0 (.slice a L.length cap) L.length (L.flatMap ndV) rfl ?c1 ?c2 ?c3 ?c4 ?c5 ?_)
  | fail)
 case c0 => exact own_empty w 43 5 _ _ rfl (Nat.le_refl _)
 case c1 => exact Sl.below SL.out (Bw.alloc (Bw.refl _) _)
 case c2 => exact nd_one _
 case c3 => have := HL.out; unfold maxLen; omega
 case c4 => have := HL.out; omega
 case c5 => simp
 intro va wa hown hgr
 have HWA := hid (bw_grown (Bw.alloc (Bw.refl w) _) (Nat.le_refl _) (own_empty w 43 5 _ _ rfl (Nat.le_refl _)) hgr)
 try rw [Nat.zero_add] at hown
 try rw [List.nil_append] at hown
 obtain ⟨aa, ca, e⟩ := own_form hown
 subst e
 have HOA := hid hown
 clear hown hgr
 go_wp2
 go_loopw [6] (fun v6 wr => ∃ i : Nat, v6 = .int .i64 (i : Int) ∧ i ≤ L.length ∧ wr.ownsRow w.heap.size 43 5 (.slice aa L.length ca) L.length ((rnT L i).flatMap ndV) ∧ Bw w wr) (fun v6 _ => L.length - (intOf v6).toNat)
 case atStart => exact ⟨0, rfl, Nat.zero_le _, by unfold rnT; simpa using HOA.out, HWA.out⟩
 case round =>
  obtain ⟨i, rfl, hi, hown, hbw⟩ := hrel
  have HO := hid hown
  have HB := hid hbw
  by_cases hlt : i < L.length
  ·have hlt' : (i : Int) < (L.length : Int) := by omega
   obtain ⟨b, e, hbl, hcell⟩ := own_at hown (by omega)
   subst e
   have hg := rnT_get hlt
   have cc : ∀ j, j < 5 → wr.cell? ⟨b, i * 5 + j, none⟩ = (ndV (zN L i))[j]? := fun j hj => by
    rw [hcell _ (by omega)]
    exact flat_get8 ndV 5 (fun _ => rfl) _ i j _ hg hj
   have c0 : wr.cell? ⟨b, i * 5, none⟩ = some (.int .i64 (zN L i).1) := cc 0 (by omega)
   have c2 : wr.cell? ⟨b, i * 5 + 2, none⟩ = some (.string (zT L i)) := cc 2 (by omega)
   have hfz : ∀ j, wr.frozen? ⟨b, j, none⟩ = false := by
    obtain ⟨g', c', e1, _, hfr, _⟩ := own_some (own_base hown (Nat.zero_le _)) (by omega)
    cases e1; exact hfr
   have hi0 : (0 : Int) ≤ (i : Int) := by omega
   have hw2 : IntKind.i64.wrap ((i : Int) + 1) = ((i + 1 : Nat) : Int) := by have := HL.out; rw [IntKind.wrap_i64]; omega
   have hsz : (zT L i).size ≤ 140737488351232 := by
    unfold zT
    rw [strOfNums_size, ← zN_get hlt]
    exact HS.out _ (List.getElem_mem hlt)
   have HT := hid (show zT L i = strOfNums (zN L i).2.2.1 from rfl)
   have HLT := hid hlt
   have hbw0 : w.heap.size ≤ b := (hown.lt b rfl).1
   have HB0 := hid hbw0
   have HPR := hid (fun (W : World) (s : ByteArray) => rPrim_any W s)
   have HNM := hid (rfl : isNamed (zN L i) = isNamed (zN L i))
   generalize hk : (zN L i).1 = kd at c0
   generalize ht : zT L i = t at c2 hsz
   have HK := hid hk
   have HTT := hid ht
   clear hown hbw hcell cc hg hlt hbw0 hk ht hi
   by_cases hnm : kd = 19 ∨ kd = 3 ∨ kd = 12 ∨ kd = 11
   ·have hgd : (kd == 19) = true ∨ ((kd == 19) = false ∧ ((kd == 3) = true ∨ ((kd == 3) = false ∧ ((kd == 12) = true ∨ ((kd == 12) = false ∧ (kd == 11) = true))))) := by
     by_cases a1 : kd = 19
     ·exact .inl (by simp [a1])
     ·refine .inr ⟨by simpa using a1, ?_⟩
      by_cases a2 : kd = 3
      ·exact .inl (by simp [a2])
      ·refine .inr ⟨by simpa using a2, ?_⟩
       by_cases a3 : kd = 12
       ·exact .inl (by simp [a3])
       ·refine .inr ⟨by simpa using a3, ?_⟩
        have : kd = 11 := by omega
        simp [this]
    have hnd : isNamed (zN L i) = true := by unfold isNamed; rw [HK.out]; rcases hnm with h | h | h | h <;> simp [h]
    cases hp : primF t with
    | some n =>
     have hpn : primN t = n := primN_some hp
     have hsame : rnN (zN L i) = zN L i := by
      unfold rnN
      rw [if_neg]
      intro k
      rw [Bool.and_eq_true] at k
      have h2 : primF (strOfNums (zN L i).2.2.1) = some n := by rw [← HT.out, HTT.out]; exact hp
      rw [h2] at k
      exact absurd k.2 (by simp)
     have HSM := hid (rnT_same HLT.out hsame)
     have HP1 := hid hpn
     have hn0 : ¬ ((n : Int) < 0) := by omega
     clear hnm hnd hp hpn hsame
     rcases hgd with e1 | ⟨e1, e2 | ⟨e2, e3 | ⟨e3, e4⟩⟩⟩
     all_goals
      go_wp2_with (first
       | (go_at_call 15; refine (HPR.out _ _).mono ?_; rw [HP1.out]; rintro e w3 ⟨rfl, hb3⟩; have B3 := hid hb3; clear hb3)
       | fail)
     all_goals
      exact ⟨⟨i + 1, by go_num, by have := HLT.out; omega, by rw [HSM.out]; exact own_keep8 HO.out (fun b' e => B3.out.block b' (HO.out.lt b' e).2), HB.out.trans B3.out⟩, by have := HLT.out; simp [intOf]; omega⟩
    | none =>
     have hpn : primN t = -1 := primN_none hp
     have hrn : rnN (zN L i) = ((zN L i).1, (zN L i).2.1, (zN L i).2.2.1 ++ [95, 113, 57], (zN L i).2.2.2.1, (zN L i).2.2.2.2) := by
      unfold rnN
      rw [if_pos]
      rw [hnd, ← HT.out, HTT.out, hp]; rfl
     have HNX := hid (rnT_next HLT.out)
     have HRN := hid hrn
     have HTX := hid (show t ++ ⟨#[95, 113, 57]⟩ = strOfNums ((zN L i).2.2.1 ++ [95, 113, 57]) by rw [← str_cat9, ← HT.out, HTT.out]; rfl)
     have HP1 := hid hpn
     clear hnm hnd hp hpn hrn
     rcases hgd with e1 | ⟨e1, e2 | ⟨e2, e3 | ⟨e3, e4⟩⟩⟩
     all_goals
      go_wp2_with (first
       | (go_at_call 15; refine (HPR.out _ _).mono ?_; rw [HP1.out]; rintro e w3 ⟨rfl, hb3⟩; have B3 := hid hb3; have k2 : w3.cell? ⟨b, i * 5 + 2, none⟩ = some (.string t) := (World.cell?_of_block (w := wr) (w' := w3) (a := ⟨b, i * 5 + 2, none⟩) (hb3.block b hbl)).trans c2; have kl : b < w3.heap.size := Nat.lt_of_lt_of_le hbl hb3.size; have kf : ∀ j, w3.frozen? ⟨b, j, none⟩ = false := (fun j => (World.frozen?_of_block (w := wr) (w' := w3) (a := ⟨b, j, none⟩) (hb3.block b hbl)).trans (hfz j)); clear hb3)
       | fail)
     all_goals
      refine ⟨⟨i + 1, by go_num, by have := HLT.out; omega, ?_, (HB.out.trans B3.out).setCell HB0.out _⟩, by have := HLT.out; simp [intOf]; omega⟩
      have h5 := own_setIn (own_keep8 HO.out (fun b' e => B3.out.block b' (HO.out.lt b' e).2)) (j := i * 5 + 2) (by have := HLT.out; omega) (.string (t ++ ⟨#[95, 113, 57]⟩))
      rw [HTX.out, flat_set _ i (zN L i) _ (rnT_get HLT.out), ← HRN.out, ← HNX.out] at h5
      rw [HTX.out]
      exact h5
   ·have e1 : (kd == 19) = false := by simpa using fun e => hnm (.inl e)
    have e2 : (kd == 3) = false := by simpa using fun e => hnm (.inr (.inl e))
    have e3 : (kd == 12) = false := by simpa using fun e => hnm (.inr (.inr (.inl e)))
    have e4 : (kd == 11) = false := by simpa using fun e => hnm (.inr (.inr (.inr e)))
    have hsame : rnN (zN L i) = zN L i := by
     unfold rnN
     rw [if_neg]
     intro k
     rw [Bool.and_eq_true] at k
     have := k.1
     unfold isNamed at this
     rw [HK.out, e1, e2, e3, e4] at this
     cases this
    have HSM := hid (rnT_same HLT.out hsame)
    clear hnm hsame
    go_wp2
    case roundEnd =>
     exact ⟨⟨i + 1, by go_num, by have := HLT.out; omega, by rw [HSM.out]; exact HO.out, HB.out⟩, by have := HLT.out; simp [intOf]; omega⟩
  ·have hlt' : ¬ (i : Int) < (L.length : Int) := by omega
   obtain rfl : i = L.length := by omega
   have hT : rnT L L.length = rnL L := by
    unfold rnT
    rw [List.drop_length, List.append_nil, List.take_of_length_le (by rw [rnL_len]; exact Nat.le_refl _)]
   rw [hT] at hown
   have HO := hid hown
   clear hown hbw hT
   go_wp2
   all_goals go_ret
   all_goals exact ⟨_, _, rfl, HO.out, HB.out⟩
end Go.Proofs.YtdhkcdehedbpcaaDoor

