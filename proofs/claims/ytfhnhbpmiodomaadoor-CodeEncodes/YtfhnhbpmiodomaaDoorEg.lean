/- An image's bytes, part by part; the document's checks ahead of them. Nothing of the program's calls is in it. -/
import Derived.Test.YtfhnhbpmiodomaaDoorEe
import Derived.Test.YtfhnhbpmiodomaaDoorEd
set_option linter.unusedVariables false
set_option linter.unusedSimpArgs false
namespace Go.Proofs.YtfhnhbpmiodomaaDoor
open Go Go.RowKit

theorem pl_nat {n : Nat} (h : n ≤ 1000000) : pl (n : Int) = true := decide_eq_true (by omega)
theorem oks_iff {α : Type} {f : α → List It} {l : List α} : oks (iL f l) = true ↔ pl l.length = true ∧ ∀ x ∈ l, oks (f x) = true := by
  refine ⟨ok_iL, fun h => ?_⟩
  unfold iL
  rw [ok_cons, Bool.and_eq_true]
  refine ⟨h.1, ?_⟩
  unfold oks
  rw [List.all_eq_true]
  intro y hy
  obtain ⟨x, hx, hy⟩ := List.mem_flatMap.1 hy
  exact List.all_eq_true.1 (h.2 x hx) y hy
theorem okN (n : Int) : (It.N n).ok = pl n := rfl
theorem okT (s : List Int) : (It.T s).ok = true := rfl
theorem oks_iN {n : Int} : oks (iN n) = true ↔ pl n = true := by simp [iN, oks, It.ok]
theorem oks_iCap {p : Int × Int} : oks (iCap p) = true ↔ qCap p = true := by simp [iCap, oks, It.ok, qCap]
theorem oks_iIns {p : Int × Int × Int} : oks (iIns p) = true ↔ qIns p = true := by simp [iIns, oks, It.ok, qIns, and_assoc]
theorem oks_iTry {p : Int × Int × Int × Int} : oks (iTry p) = true ↔ qTry p = true := by simp [iTry, oks, It.ok, qTry, and_assoc]
theorem oks_iStr {s : List Int} : oks (iStr s) = true ↔ pl (s.length : Int) = true := by simp [iStr, oks, It.ok]

theorem rgt_oks {f : AFn} (h : SmallF f) : rgt f = oks (iFn f) := by
  obtain ⟨h1, h2, h3, h4⟩ := h
  rw [Bool.eq_iff_iff]
  unfold rgt iFn
  rw [ok_cons, ok_cons, ok_app, ok_app, ok_app]
  simp only [Bool.and_eq_true]
  rw [oks_iff, oks_iff, oks_iff, oks_iff]
  simp only [oks_iN, oks_iCap, oks_iIns, oks_iTry]
  simp only [List.all_eq_true, okN, pl_nat (show f.boxes.length ≤ 1000000 by omega), pl_nat (show f.caps.length ≤ 1000000 by omega), pl_nat (show f.code.length ≤ 1000000 by omega), pl_nat (show f.tries.length ≤ 1000000 by omega), true_and, and_assoc]

theorem oks_im {m : AIm} (h : SmallI m) : oks (iIm m) = (pl m.globals && m.keys.all (fun k => k.all pl) && m.funs.all rgt) := by
  obtain ⟨h1, h2, h3, h4, h5, h6⟩ := h
  rw [Bool.eq_iff_iff]
  unfold iIm
  rw [ok_cons, ok_app, ok_app, ok_cons]
  simp only [Bool.and_eq_true]
  rw [oks_iff, oks_iff, oks_iff]
  simp only [okN, okT, true_and, pl_nat (show m.strs.length ≤ 1000000 by omega), pl_nat (show m.keys.length ≤ 1000000 by omega), pl_nat (show m.funs.length ≤ 1000000 by omega)]
  rw [List.all_eq_true (l := m.keys), List.all_eq_true (l := m.funs)]
  constructor
  · rintro ⟨_, hk, hg, hf⟩
    refine ⟨⟨hg, fun k hk' => List.all_eq_true.2 fun n hn => ?_⟩, fun f hf' => by rw [rgt_oks (h6 f hf')]; exact hf f hf'⟩
    exact oks_iN.1 ((oks_iff.1 (hk k hk')).2 n hn)
  · rintro ⟨⟨hg, hk⟩, hf⟩
    refine ⟨fun s hs => oks_iStr.2 (pl_nat (by have := h4 s hs; omega)), fun k hk' => oks_iff.2 ⟨pl_nat (by have := h5 k hk'; omega), fun n hn => oks_iN.2 (List.all_eq_true.1 (hk k hk') n hn)⟩, hg, fun f hf' => by rw [← rgt_oks (h6 f hf')]; exact hf f hf'⟩

def ep1 (m : AIm) : List Int := markL ++ nb m.strs.length
def ep2 (m : AIm) (i : Nat) : List Int := ep1 m ++ byts ((m.strs.take i).flatMap iStr)
def ep3 (m : AIm) : List Int := ep2 m m.strs.length ++ nb m.keys.length
def ep4 (m : AIm) (i : Nat) : List Int := ep3 m ++ byts ((m.keys.take i).flatMap (iL iN))
def ep5 (m : AIm) : List Int := ep4 m m.keys.length ++ nb m.globals.toNat
def ep6 (m : AIm) : List Int := ep5 m ++ nb m.funs.length
def ep7 (m : AIm) (i : Nat) : List Int := ep6 m ++ byts ((m.funs.take i).flatMap iFn)

theorem oks_im4 {m : AIm} (h : oks (iIm m) = true) : oks (iL iStr m.strs) = true ∧ oks (iL (iL iN) m.keys) = true ∧ pl m.globals = true ∧ oks (iL iFn m.funs) = true := by
  unfold iIm at h
  rw [ok_cons, ok_app, ok_app, ok_cons, Bool.and_eq_true, Bool.and_eq_true, Bool.and_eq_true, Bool.and_eq_true] at h
  exact ⟨h.2.1, h.2.2.1, h.2.2.2.1, h.2.2.2.2⟩

theorem ep_end {m : AIm} (h : oks (iIm m) = true) : ep7 m m.funs.length = byts (iIm m) := by
  obtain ⟨h1, h2, h3, h4⟩ := oks_im4 h
  unfold ep7 ep6 ep5 ep4 ep3 ep2 ep1 iIm
  rw [by_cons, by_app, by_app, by_cons, nb_it h3, by_iL (ok_iL h1).1, by_iL (ok_iL h2).1, by_iL (ok_iL h4).1]
  simp only [List.take_length, List.append_assoc, It.b]

/-- How long the parts are. -/
structure EpL (m : AIm) : Prop where
  l1 : (ep1 m).length ≤ 4000000
  l2 : ∀ i, (ep2 m i).length ≤ 4000000
  l3 : (ep3 m).length ≤ 4000000
  l4 : ∀ i, (ep4 m i).length ≤ 4000000
  l5 : (ep5 m).length ≤ 4000000
  l6 : (ep6 m).length ≤ 4000000
  l7 : ∀ i, (ep7 m i).length ≤ 4000000

theorem ep_len {m : AIm} (h : oks (iIm m) = true) (hl : (byts (iIm m)).length ≤ 4000000) : EpL m := by
  rw [← ep_end h] at hl
  have e7 : (ep7 m m.funs.length).length = (ep6 m).length + (byts (m.funs.flatMap iFn)).length := by unfold ep7; rw [List.length_append, List.take_length]
  have e6 : (ep6 m).length = (ep5 m).length + (nb m.funs.length).length := by unfold ep6; rw [List.length_append]
  have e5 : (ep5 m).length = (ep4 m m.keys.length).length + (nb m.globals.toNat).length := by unfold ep5; rw [List.length_append]
  have e4 : (ep4 m m.keys.length).length = (ep3 m).length + (byts (m.keys.flatMap (iL iN))).length := by unfold ep4; rw [List.length_append, List.take_length]
  have e3 : (ep3 m).length = (ep2 m m.strs.length).length + (nb m.keys.length).length := by unfold ep3; rw [List.length_append]
  have e2 : (ep2 m m.strs.length).length = (ep1 m).length + (byts (m.strs.flatMap iStr)).length := by unfold ep2; rw [List.length_append, List.take_length]
  refine ⟨by omega, fun i => ?_, by omega, fun i => ?_, by omega, by omega, fun i => ?_⟩
  · have := byts_part (f := iStr) (l := m.strs) i
    unfold ep2; rw [List.length_append]; omega
  · have := byts_part (f := iL iN) (l := m.keys) i
    unfold ep4; rw [List.length_append]; omega
  · have := byts_part (f := iFn) (l := m.funs) i
    unfold ep7; rw [List.length_append]; omega

theorem part_le {α : Type} {f : α → List It} {l : List α} {x : α} (hx : x ∈ l) : (byts (f x)).length ≤ (byts (l.flatMap f)).length := by
  obtain ⟨i, hi, rfl⟩ := List.getElem_of_mem hx
  have h1 := byts_part (f := f) (l := l) (i + 1)
  rw [byts_take hi, List.length_append] at h1
  omega

theorem ep2_step {m : AIm} {i : Nat} (hi : i < m.strs.length) {s : List Int} (he : m.strs[i] = s) (h : pl (s.length : Int) = true) : ep2 m i ++ nb s.length ++ s = ep2 m (i + 1) := by
  unfold ep2
  rw [byts_take hi, he]
  simp only [iStr, byts, List.flatMap_cons, List.flatMap_nil, List.append_nil, It.b, List.append_assoc, Int.toNat_natCast]
  rw [if_pos h]
theorem ep4_step {m : AIm} {i : Nat} (hi : i < m.keys.length) {k : List Int} (he : m.keys[i] = k) : ep4 m i ++ byts (iL iN k) = ep4 m (i + 1) := by
  unfold ep4
  rw [byts_take hi, he, List.append_assoc]
theorem ep7_step {m : AIm} {i : Nat} (hi : i < m.funs.length) {f : AFn} (he : m.funs[i] = f) : ep7 m i ++ byts (iFn f) = ep7 m (i + 1) := by
  unfold ep7
  rw [byts_take hi, he, List.append_assoc]

/-! ## a string appended -/

theorem str_app {w : World} {base : Nat} {v : Value} {P Q : List Int} {ss : ByteArray} (h : w.ownsRow base 5 1 v (P.length + ss.size) (P.map (Value.int .u8) ++ Lib.strCells ss)) (hs : ss = strOfNums Q) (hq : ∀ c ∈ Q, 0 ≤ c ∧ c ≤ 255) : OwnB w base v (P ++ Q) := by
  have hc := strCells_nums Q hq
  have hz : ss.size = Q.length := by
    have := Lib.strCells_length ss
    rw [hs, hc, List.length_map] at this
    rw [hs]; exact this.symm
  rw [hz, hs, hc] at h
  exact row_app h

theorem step_appS {ops : Array Oper} {o : Oper} {a : Act} {w : World} {K : Act → World → Prop} {Q : Exit → Act → World → Prop} {E : Prop}
    (hgd : o.guard = none) (s x : Operand) (ho : o.op = Op.call { callee := Callee.builtin Builtin.append, args := #[s, x], argTypes := #[29, 9] })
    (base : Nat) (v : Value) (L : List Int) (hs : a.eval s = v) (hown : OwnB w base v L)
    (ss : ByteArray) (M : List Int) (hx : a.eval x = .string ss) (hss : ss = strOfNums M) (hM : ∀ c ∈ M, 0 ≤ c ∧ c ≤ 255)
    (hlen : L.length + M.length ≤ 100000000) (hbase : base ≤ w.heap.size)
    (h : ∀ v' w', OwnB w' base v' (L ++ M) → w.grownBy w' v.ownBlock → K (a.put o.dst v') w') :
    if Region.wanted o (yielded ops a.tmps) = true then Oper.wp Tryd.prog o a w K Q else E := by
  have hw : Region.wanted o (yielded ops a.tmps) = true := by simp [Region.wanted, hgd]
  rw [if_pos hw]
  obtain ⟨i1, hi1, hz1, hs1, hy1⟩ := info_parts infoU8
  have hz : ss.size = M.length := by
    have := Lib.strCells_length ss
    rw [hss, strCells_nums M hM, List.length_map] at this
    rw [hss]; exact this.symm
  obtain ⟨v', w', hr, h2, h3, _⟩ := Lib.run_append_own_string (P := Tryd.prog) w base 29 9 o.type 5 i1 under22 under9 hi1 hz1 hs1 hy1 v L.length _ hown ss (by unfold maxLen; omega) (by omega) hbase
  unfold Oper.wp execOp
  simp only [ho, resolve, invoke, builtin, Sem.run_bind, Sem.run_pure, Result.andThen_ok, List.map_toArray, List.map_cons, List.map_nil, hs, hx, hr]
  exact h v' w' (str_app h2 hss hM) h3

end Go.Proofs.YtfhnhbpmiodomaaDoor
