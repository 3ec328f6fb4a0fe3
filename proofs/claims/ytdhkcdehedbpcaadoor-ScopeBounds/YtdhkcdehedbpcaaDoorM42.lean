/- Programs with so many slots, resolved: plain data. · Programs with so many slots: read, resolved. -/
import Derived.Test.YtdhkcdehedbpcaaDoorM36
import Derived.Test.YtdhkcdehedbpcaaDoorM40
import Derived.Test.YtdhkcdehedbpcaaDoorM41
import Derived.Test.YtdhkcdehedbpcaaDoorM16
set_option linter.unusedSimpArgs false
set_option linter.unusedVariables false
namespace Go.Proofs.YtdhkcdehedbpcaaDoor
open Go Go.RowKit
def bP (n : Nat) : List ANode := (1, 1, [], 0, 0) :: bL n
theorem bP_len (n : Nat) : (bP n).length = 2 * n + 3 := by simp [bP, bL, bNs_len]
theorem bNs_get : ∀ (n i j : Nat), j < n → (bNs i n)[2 * j]? = (bN (i + j))[0]? ∧ (bNs i n)[2 * j + 1]? = (bN (i + j))[1]?
  | 0, i, j, h => by omega
  | n + 1, i, 0, h => by simp [bNs, bN]
  | n + 1, i, j + 1, h => by
    have ih := bNs_get n (i + 1) j (by omega)
    rw [show i + 1 + j = i + (j + 1) by omega] at ih
    rw [bNs, show 2 * (j + 1) = 2 * j + 2 by omega, show 2 * j + 2 + 1 = (2 * j + 1) + 2 by omega, show (bN i ++ bNs (i + 1) n)[2 * j + 2]? = (bNs (i + 1) n)[2 * j]? from by rw [List.getElem?_append_right (by simp [bN])]; simp [bN], show (bN i ++ bNs (i + 1) n)[2 * j + 1 + 2]? = (bNs (i + 1) n)[2 * j + 1]? from by rw [List.getElem?_append_right (by simp [bN])]; simp [bN]]
    exact ih
theorem zN_of {L : List ANode} {i : Nat} {x : ANode} (h : L[i]? = some x) : zN L i = x := by unfold zN; rw [List.getD_eq_getElem?_getD, h]; rfl
theorem bP_var {n j : Nat} (h : j < n) : zN (bP n) (3 + 2 * j) = (3, 1, [122, 113, bX j, bY j], 0, ((8 + 14 * j + 1 : Nat) : Int)) := by
  apply zN_of
  have := (bNs_get n 0 j h).1
  rw [Nat.zero_add] at this
  unfold bP bL
  rw [show 3 + 2 * j = 2 * j + 1 + 1 + 1 by omega, List.getElem?_cons_succ, List.getElem?_cons_succ, List.getElem?_cons_succ, this]; rfl
theorem bP_num {n j : Nat} (h : j < n) : zN (bP n) (4 + 2 * j) = (14, 0, [], 1, ((8 + 14 * j + 12 : Nat) : Int)) := by
  apply zN_of
  have := (bNs_get n 0 j h).2
  rw [Nat.zero_add] at this
  unfold bP bL
  rw [show 4 + 2 * j = 2 * j + 1 + 1 + 1 + 1 by omega, List.getElem?_cons_succ, List.getElem?_cons_succ, List.getElem?_cons_succ, this]; rfl
theorem strOfNums_inj {l m : List Int} (hl : ∀ c ∈ l, 0 ≤ c ∧ c ≤ 255) (hm : ∀ c ∈ m, 0 ≤ c ∧ c ≤ 255) (h : strOfNums l = strOfNums m) : l = m := by
  have h1 : (l.map fun c => c.toNat.toUInt8) = m.map fun c => c.toNat.toUInt8 := by
    have := congrArg (fun s : ByteArray => s.data.toList) h
    simpa [strOfNums] using this
  have key : ∀ (l m : List Int), (∀ c ∈ l, 0 ≤ c ∧ c ≤ 255) → (∀ c ∈ m, 0 ≤ c ∧ c ≤ 255) → (l.map fun c => c.toNat.toUInt8) = (m.map fun c => c.toNat.toUInt8) → l = m := by
    intro l
    induction l with
    | nil => intro m _ _ h; cases m with | nil => rfl | cons b m => simp at h
    | cons a l ih =>
      intro m hl hm h
      cases m with
      | nil => simp at h
      | cons b m =>
        simp only [List.map_cons, List.cons.injEq] at h
        have ha := hl a List.mem_cons_self
        have hb := hm b List.mem_cons_self
        have hab : a = b := by
          have := congrArg UInt8.toNat h.1
          simp only [Nat.toUInt8, UInt8.toNat_ofNat'] at this
          omega
        rw [hab, ih m (fun c hc => hl c (List.mem_cons_of_mem _ hc)) (fun c hc => hm c (List.mem_cons_of_mem _ hc)) h.2]
  exact key l m hl hm h1
def bNm (j : Nat) : ByteArray := strOfNums [122, 113, bX j, bY j]
theorem bNm_inj {i j : Nat} (hi : i < 300) (hj : j < 300) (h : bNm i = bNm j) : i = j := by
  have hx := bX_rng i
  have hy := bY_rng hi
  have hx2 := bX_rng j
  have hy2 := bY_rng hj
  have := strOfNums_inj (l := [122, 113, bX i, bY i]) (m := [122, 113, bX j, bY j]) (by simp; omega) (by simp; omega) h
  simp [bX, bY] at this
  omega
theorem bNm_prim {j : Nat} (hj : j < 300) : primF (bNm j) = none := by
  apply primF_miss
  intro i hi t ht e
  have hx := bX_rng j
  have hy := bY_rng hj
  have h0 : ∀ i, i < 30 → ∀ t, prs[i]? = some t → t.data[0]? ≠ some 122 := by decide
  apply h0 i hi t ht
  rw [e]
  unfold bNm strOfNums
  simp

/-- So many are declared. -/
structure BS (n j : Nat) (z : ZS) : Prop where
  fa : z.fault = 0
  nx : z.next = 3 + 2 * j
  fn : z.fn = 1
  nm : ∃ m, z.names = some m ∧ ∀ i, j ≤ i → i < 300 → m (bNm i) = none
  fu : z.funs.length = 2 ∧ ∃ f, z.funs[1]? = some f ∧ f.slots = (j : Int)
  de : z.declared.length = j
  ul : z.uses.length = 2 * n + 3
  un : ∀ i, 3 + 2 * j ≤ i → i < 2 * n + 3 → z.uses[i]? = some (0, 0)
  cn : z.cnt ≤ j ∧ z.nc ≤ j

theorem b_step {n j t : Nat} {A : ByteArray → Option Int} {z : ZS} (hj : j < n) (hn : n ≤ 260) (h : BS n j z) :
    (j = 256 → ∃ v, zR (bP n) A (t + 4) (.parts ((n - j : Nat) : Int)) z = some v ∧ v.fault = 3 ∧ v.faulty = 515 ∧ v.names.isSome = true ∧ v.cnt ≤ 260 ∧ v.nc ≤ 260 ∧ v.uses.length = 2 * n + 3) ∧
    (j ≠ 256 → ∃ v, zR (bP n) A (t + 4) (.parts ((n - j : Nat) : Int)) z = zR (bP n) A (t + 3) (.parts ((n - (j + 1) : Nat) : Int)) v ∧ BS n (j + 1) v) := by
  obtain ⟨m, hm, hmn⟩ := h.nm
  obtain ⟨hf2, f, hf, hfs⟩ := h.fu
  have hnx := h.nx
  have hu := h.un (3 + 2 * j) (Nat.le_refl _) (by omega)
  have hul := h.ul
  have hde := h.de
  have hlen := bP_len n
  have hT : zT (bP n) (3 + 2 * j) = bNm j := by unfold zT; rw [bP_var hj]; rfl
  have hstart : zR (bP n) A (t + 4) (.parts ((n - j : Nat) : Int)) z = (zR (bP n) A (t + 3) (.var (3 + 2 * j)) { z with next := z.next + 1 }).bind fun v => zR (bP n) A (t + 3) (.parts ((n - j : Nat) - 1 : Int)) v := by
    conv => lhs; rw [zR]
    rw [if_pos ⟨by omega, h.fa⟩, if_pos ⟨by omega, by omega⟩, hnx, bP_var hj]
    simp
  have hdue : (((n - j : Nat) : Int) - 1) = ((n - (j + 1) : Nat) : Int) := by omega
  rw [hstart, hdue]
  have hdec : zdeclare (bP n) A { z with next := z.next + 1 } (3 + 2 * j) = zslot (bP n) { z with next := z.next + 1 } m (3 + 2 * j) := by
    unfold zdeclare
    rw [if_pos (by omega), hT, bNm_prim (by omega)]
    simp [hm]
  have hvar : ∀ y, zslot (bP n) { z with next := z.next + 1 } m (3 + 2 * j) = some y → zR (bP n) A (t + 3) (.var (3 + 2 * j)) { z with next := z.next + 1 } = (zR (bP n) A (t + 2) (.parts 1) y).bind fun v => zshow (bP n) v (3 + 2 * j) := fun y hy => by
    conv => lhs; rw [zR]
    rw [hdec, hy]; rfl
  constructor
  · intro h256
    have hs : zslot (bP n) { z with next := z.next + 1 } m (3 + 2 * j) = some (zfail { z with next := z.next + 1 } (3 + 2 * j) 3) := by
      unfold zslot
      simp only [h.fn, hf]
      rw [hT, hmn j (Nat.le_refl _) (by omega)]
      simp [hfs, h256]
    have hzf : zfail { z with next := z.next + 1 } (3 + 2 * j) 3 = { z with next := z.next + 1, fault := 3, faulty := 3 + 2 * j } := by
      unfold zfail; rw [if_pos h.fa]
    rw [hzf] at hs
    rw [hvar _ hs, zR_done (by omega) (by simp)]
    simp only [Option.bind_some]
    have hsh : zshow (bP n) { z with next := z.next + 1, fault := 3, faulty := 3 + 2 * j } (3 + 2 * j) = some { z with next := z.next + 1, fault := 3, faulty := 3 + 2 * j } := by
      unfold zshow
      simp only [hu]
      simp
    rw [hsh]
    simp only [Option.bind_some]
    refine ⟨_, zR_done (by omega) (by simp), rfl, by show 3 + 2 * j = 515; omega, by show z.names.isSome = true; rw [hm]; rfl, by have := h.cn.1; show z.cnt ≤ 260; omega, by have := h.cn.2; show z.nc ≤ 260; omega, hul⟩
  · intro h256
    have hs : zslot (bP n) { z with next := z.next + 1 } m (3 + 2 * j) = some { z with next := z.next + 1, uses := z.uses.set (3 + 2 * j) (1, (j : Int)), declared := z.declared ++ [⟨1, j, false⟩], funs := z.funs.set 1 { f with slots := j + 1 } } := by
      unfold zslot
      simp only [h.fn, hf]
      rw [hT, hmn j (Nat.le_refl _) (by omega), hfs, hde]
      have e1 : ¬ ((j : Int) = 256) := by omega
      have e2 : j < 100000 := by omega
      simp [e1, e2]
    rw [hvar _ hs]
    have hp1 : zR (bP n) A (t + 2) (.parts 1) { z with next := z.next + 1, uses := z.uses.set (3 + 2 * j) (1, (j : Int)), declared := z.declared ++ [⟨1, j, false⟩], funs := z.funs.set 1 { f with slots := j + 1 } } = some { z with next := z.next + 1 + 1, uses := z.uses.set (3 + 2 * j) (1, (j : Int)), declared := z.declared ++ [⟨1, j, false⟩], funs := z.funs.set 1 { f with slots := j + 1 } } := by
      rw [zR]
      have e4 : z.next + 1 = 4 + 2 * j := by omega
      simp only [e4]
      rw [if_pos ⟨by decide, h.fa⟩, if_pos ⟨by decide, by omega⟩, bP_num hj]
      simp only [show ¬ ((14 : Int) = 2) by decide, show ¬ ((14 : Int) = 3) by decide, show ¬ ((14 : Int) = 6) by decide, show ¬ ((14 : Int) = 11) by decide, show ¬ ((14 : Int) = 12) by decide, show ¬ ((14 : Int) = 31) by decide, if_false]
      rw [if_pos (by decide)]
      unfold zplain
      rw [bP_num hj]
      simp only [show ¬ ((14 : Int) = 4) by decide, show ¬ ((14 : Int) = 7 ∨ (14 : Int) = 8) by decide, show ¬ ((14 : Int) = 9) by decide, show ¬ ((14 : Int) = 19) by decide, if_false, Option.bind_some]
      exact zR_done (by omega) (by simp)
    rw [hp1]
    simp only [Option.bind_some]
    have hul2 : 3 + 2 * j < z.uses.length := by omega
    have hsh : zshow (bP n) { z with next := z.next + 1 + 1, uses := z.uses.set (3 + 2 * j) (1, (j : Int)), declared := z.declared ++ [⟨1, j, false⟩], funs := z.funs.set 1 { f with slots := j + 1 } } (3 + 2 * j) = some { z with next := z.next + 1 + 1, uses := z.uses.set (3 + 2 * j) (1, (j : Int)), declared := z.declared ++ [⟨1, j, false⟩], funs := z.funs.set 1 { f with slots := j + 1 }, names := some (mput m (bNm j) ((z.seen (bNm j)).getD (-1))), seen := mput z.seen (bNm j) j, cnt := z.cnt + 1, nc := z.nc + 1 } := by
      unfold zshow
      simp only [List.getElem?_set_self hul2, hm]
      have := h.cn
      rw [if_neg (by simp), if_pos ⟨⟨by omega, by omega⟩, by omega, by omega⟩, hT]
    rw [hsh]
    simp only [Option.bind_some]
    refine ⟨_, rfl, h.fa, by show z.next + 1 + 1 = _; omega, h.fn, ⟨_, rfl, fun i hi hi3 => ?_⟩, ⟨by show (z.funs.set 1 _).length = 2; rw [List.length_set]; exact hf2, { f with slots := j + 1 }, by show (z.funs.set 1 _)[1]? = _; rw [List.getElem?_set_self (by omega)], by show (j : Int) + 1 = ((j + 1 : Nat) : Int); omega⟩, by show (z.declared ++ [_]).length = _; simp [hde], by show (z.uses.set _ _).length = _; rw [List.length_set]; exact hul, fun i hi hi3 => ?_, by have := h.cn; exact ⟨by show z.cnt + 1 ≤ j + 1; omega, by show z.nc + 1 ≤ j + 1; omega⟩⟩
    · unfold mput
      rw [if_neg (fun e => by have := bNm_inj hi3 (by omega) e; omega)]
      exact hmn i (by omega) hi3
    · show (z.uses.set _ _)[i]? = _
      rw [List.getElem?_set_ne (by omega)]
      exact h.un i (by omega) hi3

/-- All of them. -/
theorem b_run {n : Nat} {A : ByteArray → Option Int} (hn : n ≤ 260) : ∀ (k j t : Nat) (z : ZS), k + j = n → BS n j z → j ≤ 256 → ∃ v, zR (bP n) A (t + k + 4) (.parts (k : Int)) z = some v ∧ v.names.isSome = true ∧ v.cnt ≤ 260 ∧ v.nc ≤ 260 ∧
      (n ≤ 256 → v.fault = 0 ∧ v.funs.length = 2 ∧ ∃ f, v.funs[1]? = some f ∧ f.slots = (n : Int)) ∧ (256 < n → v.fault = 3 ∧ v.faulty = 515)
  | 0, j, t, z, hk, h, hj => by
    obtain rfl : j = n := by omega
    obtain ⟨m, hm, _⟩ := h.nm
    exact ⟨z, zR_done (by omega) (by simp), by rw [hm]; rfl, by have := h.cn; omega, by have := h.cn; omega, fun _ => ⟨h.fa, h.fu⟩, fun h' => by omega⟩
  | k + 1, j, t, z, hk, h, hj => by
    have hs := b_step (t := t + k + 1) (A := A) (show j < n by omega) hn h
    rw [show ((n - j : Nat) : Int) = ((k + 1 : Nat) : Int) by omega] at hs
    by_cases e : j = 256
    · obtain ⟨v, h1, h2, h3, h4, h5, h6, h7⟩ := hs.1 e
      exact ⟨v, by rw [show t + (k + 1) + 4 = t + k + 1 + 4 by omega]; exact h1, h4, h5, h6, fun h' => by omega, fun _ => ⟨h2, h3⟩⟩
    · obtain ⟨v, h1, h2⟩ := hs.2 e
      obtain ⟨u, h3, h4⟩ := b_run hn k (j + 1) t v (by omega) h2 (by omega)
      refine ⟨u, ?_, h4⟩
      rw [show t + (k + 1) + 4 = t + k + 1 + 4 by omega, h1, show ((n - (j + 1) : Nat) : Int) = (k : Int) by omega, show t + k + 1 + 3 = t + k + 4 by omega]
      exact h3

theorem bP_0 (n : Nat) : zN (bP n) 0 = (1, 1, [], 0, 0) := rfl
theorem bP_1 (n : Nat) : zN (bP n) 1 = (12, 1, [102], 0, 0) := rfl
theorem bP_2 (n : Nat) : zN (bP n) 2 = (2, (n : Int), [], 0, 7) := rfl

/-- What becomes of the whole program. -/
theorem b_all {n : Nat} (h1 : 2 ≤ n) (hn : n ≤ 260) (hc : (ckP (bP n)).2 = 0) : (n ≤ 256 → (rsZ (bP n)).fault = 0 ∧ (rsZ (bP n)).funs.length = 2 ∧ ∃ f, (rsZ (bP n)).funs[1]? = some f ∧ f.slots = (n : Int)) ∧ (256 < n → (rsZ (bP n)).fault = 3 ∧ (rsZ (bP n)).faulty = 515) := by
  have hlen := bP_len n
  have R := rs_ok (L := bP n) (by omega) hc
  have hN : rsN (bP n) = 1 := by unfold rsN; rw [bP_0]; rfl
  have hre := R.re
  have hgl := R.gl
  rw [hN] at hre hgl
  rw [show ((1 : Nat) : Int) = 1 from rfl] at hre
  have hA : (rsA (bP n) (zT (bP n) 1)).getD 0 = 0 := by
    unfold globA at hgl
    rw [if_pos (by omega)] at hgl
    have e : (bP n).getD (1 : Int).toNat (0, 0, [], 0, 0) = (12, 1, [102], 0, 0) := rfl
    rw [e] at hgl
    rw [if_pos (by right; rfl)] at hgl
    unfold globA at hgl
    rw [← Option.some.inj hgl]
    unfold zT
    rw [bP_1]
    simp [mput]
  generalize rsA (bP n) = A at hre hgl hA
  generalize hZ : rsZ (bP n) = Z at hre ⊢
  obtain ⟨t, ht⟩ : ∃ t, 4 * ((bP n).length - 1) + 1 = t + n + 10 := ⟨4 * ((bP n).length - 1) + 1 - n - 10, by omega⟩
  rw [ht] at hre
  clear ht hgl R hN
  -- the one declaration
  have hg0 : zstart (bP n) = ⟨none, 0, 0, 1, [⟨0, 0, 0, [], 0, fun _ => none⟩], List.replicate (bP n).length (0, 0), [], [], fun _ => none, 0, 0, 0, 0⟩ := rfl
  have hs1 : zR (bP n) A (t + n + 10) (.parts 1) (zstart (bP n)) = (zR (bP n) A (t + n + 9) (.named 1) { zstart (bP n) with next := 2 }).bind fun v => zR (bP n) A (t + n + 9) (.parts (1 - 1)) v := by
    conv => lhs; rw [zR]
    rw [if_pos ⟨by decide, rfl⟩, if_pos ⟨by decide, by show 1 < _; omega⟩]
    rw [show (zstart (bP n)).next = 1 from rfl, bP_1]
    rfl
  have hul : 1 < (List.replicate (bP n).length ((0 : Int), (0 : Int))).length := by rw [List.length_replicate]; omega
  have hd1 : zdeclare (bP n) A { zstart (bP n) with next := 2 } 1 = some { zstart (bP n) with next := 2, globals := [zT (bP n) 1], uses := (List.replicate (bP n).length ((0 : Int), (0 : Int))).set 1 (4, 0) } := by
    unfold zdeclare
    rw [if_pos (by omega), show primF (zT (bP n) 1) = none from by unfold zT; rw [bP_1]; decide]
    simp only [Option.isSome_none, Bool.false_eq_true, if_false, hg0]
    unfold zglobal
    rw [hA]
    simp [zuse]
  have hw1 : zshow (bP n) { zstart (bP n) with next := 2, globals := [zT (bP n) 1], uses := (List.replicate (bP n).length ((0 : Int), (0 : Int))).set 1 (4, 0) } 1 = some { zstart (bP n) with next := 2, globals := [zT (bP n) 1], uses := (List.replicate (bP n).length ((0 : Int), (0 : Int))).set 1 (4, 0) } := by
    unfold zshow
    simp only [List.getElem?_set_self hul]
    simp
  have hn1 : zR (bP n) A (t + n + 9) (.named 1) { zstart (bP n) with next := 2 } = zR (bP n) A (t + n + 8) (.func 1) { zstart (bP n) with next := 2, globals := [zT (bP n) 1], uses := (List.replicate (bP n).length ((0 : Int), (0 : Int))).set 1 (4, 0) } := by
    conv => lhs; rw [zR]
    rw [hd1]
    simp only [Option.bind_some]
    rw [hw1]
    rfl
  rw [hs1, hn1] at hre
  generalize hz1 : ({ zstart (bP n) with next := 2, globals := [zT (bP n) 1], uses := (List.replicate (bP n).length ((0 : Int), (0 : Int))).set 1 (4, 0) } : ZS) = z1 at hre
  have hf1 : zR (bP n) A (t + n + 8) (.func 1) z1 = (zR (bP n) A (t + n + 7) (.parts 1) (zopen (bP n) z1 1)).bind fun v => zleave v z1 := by
    conv => lhs; rw [zR]
    rw [bP_1, ← hz1]
    rw [if_neg (by simp [hg0]), if_pos ⟨⟨by omega, by simp [hg0]⟩, by decide, by decide⟩]
    rfl
  have hp1 : zR (bP n) A (t + n + 7) (.parts 1) (zopen (bP n) z1 1) = (zR (bP n) A (t + n + 6) (.block 2) { zopen (bP n) z1 1 with next := 3 }).bind fun v => zR (bP n) A (t + n + 6) (.parts (1 - 1)) v := by
    conv => lhs; rw [zR]
    have e : (zopen (bP n) z1 1).next = 2 := by rw [← hz1]; rfl
    have e2 : (zopen (bP n) z1 1).fault = 0 := by rw [← hz1]; rfl
    rw [if_pos ⟨by decide, e2⟩, if_pos ⟨by decide, by rw [e]; omega⟩, e, bP_2]
    rfl
  have hb1 : zR (bP n) A (t + n + 6) (.block 2) { zopen (bP n) z1 1 with next := 3 } = (zR (bP n) A (t + n + 5) (.parts (n : Int)) (zenter { zopen (bP n) z1 1 with next := 3 } 1 0)).bind fun v => zleave v { zopen (bP n) z1 1 with next := 3 } := by
    conv => lhs; rw [zR]
    rw [if_pos (by omega), bP_2]
    rw [show ({ zopen (bP n) z1 1 with next := 3 } : ZS).fn = 1 from by rw [← hz1]; rfl, show ({ zopen (bP n) z1 1 with next := 3 } : ZS).loops = 0 from by rw [← hz1]; rfl]
  have hBS : BS n 0 (zenter { zopen (bP n) z1 1 with next := 3 } 1 0) := by
    rw [← hz1]
    refine ⟨rfl, rfl, rfl, ⟨_, rfl, fun _ _ _ => rfl⟩, ⟨rfl, _, rfl, rfl⟩, rfl, ?_, fun i hi hi3 => ?_, ⟨Nat.le_refl _, Nat.le_refl _⟩⟩
    · show ((List.replicate (bP n).length ((0 : Int), (0 : Int))).set 1 (4, 0)).length = _
      rw [List.length_set, List.length_replicate, hlen]
    · show ((List.replicate (bP n).length ((0 : Int), (0 : Int))).set 1 (4, 0))[i]? = _
      rw [List.getElem?_set_ne (by omega), List.getElem?_replicate, if_pos (by omega)]
  obtain ⟨v, hv, hnm, hc1, hc2, hlo, hhi⟩ := b_run (A := A) hn n 0 (t + 1) _ (by omega) hBS (by omega)
  rw [show t + 1 + n + 4 = t + n + 5 by omega] at hv
  obtain ⟨m, hm⟩ := Option.isSome_iff_exists.1 hnm
  have hl1 : ∃ v1, zleave v { zopen (bP n) z1 1 with next := 3 } = some v1 ∧ v1.names = some (fun _ => none) ∧ v1.nc = 0 ∧ v1.cnt ≤ 520 ∧ v1.fault = v.fault ∧ v1.faulty = v.faulty ∧ v1.funs = v.funs := by
    unfold zleave
    rw [hm]
    dsimp only
    rw [if_pos (by omega)]
    exact ⟨_, rfl, by rw [← hz1]; rfl, by rw [← hz1]; rfl, by show v.cnt + v.nc ≤ 520; omega, rfl, rfl, rfl⟩
  obtain ⟨v1, hv1, hm1, hnc1, hct1, hfa1, hfy1, hfu1⟩ := hl1
  have hl2 : ∃ v2, zleave v1 z1 = some v2 ∧ v2.fault = v.fault ∧ v2.faulty = v.faulty ∧ v2.funs = v.funs := by
    unfold zleave
    rw [hm1]
    dsimp only
    rw [if_pos (by omega)]
    exact ⟨_, rfl, hfa1, hfy1, hfu1⟩
  obtain ⟨v2, hv2, hfa2, hfy2, hfu2⟩ := hl2
  have hZ2 : Z = v2 := by
    rw [hf1, hp1, hb1, hv] at hre
    simp only [Option.bind_some] at hre
    rw [hv1] at hre
    simp only [Option.bind_some] at hre
    rw [zR_done (by omega) (by simp)] at hre
    simp only [Option.bind_some] at hre
    rw [hv2] at hre
    simp only [Option.bind_some] at hre
    rw [zR_done (by omega) (by simp)] at hre
    exact (Option.some.inj hre).symm
  subst hZ2
  rw [hfa2, hfy2, hfu2]
  exact ⟨hlo, hhi⟩

theorem b_ck : ∀ n, 250 ≤ n → n ≤ 260 → (ckP (bP n)).2 = 0 := by
  intro n h1 h2
  rcases (show n = 250 ∨ n = 251 ∨ n = 252 ∨ n = 253 ∨ n = 254 ∨ n = 255 ∨ n = 256 ∨ n = 257 ∨ n = 258 ∨ n = 259 ∨ n = 260 by omega) with h | h | h | h | h | h | h | h | h | h | h <;> subst h <;> decide +kernel
end Go.Proofs.YtdhkcdehedbpcaaDoor

set_option linter.unusedSimpArgs false
set_option linter.unusedVariables false
namespace Go.Proofs.YtdhkcdehedbpcaaDoor
open Go Go.RowKit

theorem bP_read {w : World} {v : Value} (n : Nat) (hn : n ≤ 260) (h : By w v (bT n)) : Calls Tryd.prog 9 #[v] w fun e w' => ∃ a c, e = .returned (.tuple #[.slice a (2 * n + 3) c, .int .i64 0, .int .i64 ((14 * n + 10 : Nat) : Int)]) ∧ Nd w' w.heap.size (.slice a (2 * n + 3) c) (bP n) ∧ Bw w w' := by
  have LX := lex_all n hn
  have hbl := bT_len n
  have e1 : (lexA (bT n)).2.1 = 0 := by rw [LX]
  have e2 : (lexA (bT n)).1 = bTk n := by rw [LX]
  have h1 := rParse_any (L := bL n) (K := 1) (S := ⟨5 * n + 6, 0, 0⟩) (f := n + 19) h (by omega) e1 (by rw [e2]; simp [bTk]) (by rw [e2]; simp [bTk, bKs_len]; omega) (by rw [e2]; exact bTk_end n) (by rw [e2]; exact read_all n hn) (by simp [bL, bNs_len]; omega) (by decide) rfl
  rw [hbl, show (bL n).length + 1 = 2 * n + 3 by simp [bL, bNs_len]] at h1
  exact h1

theorem bP_nc {w : World} {base n : Nat} {a : Option Addr} {c : Nat} (hn : n ≤ 260) (h : Nd w base (.slice a (2 * n + 3) c) (bP n)) : ∃ g, a = some ⟨g, 0, none⟩ ∧ NC w g 0 (bP n) := by
  have h' : w.ownsRow base 43 5 (.slice a (2 * n + 3) c) (bP n).length ((bP n).flatMap ndV) := h
  have hl := bP_len n
  rw [hl] at h'
  obtain ⟨g, e, hlt, hc⟩ := own_at h' (by omega)
  refine ⟨g, e, hlt, fun i hi j hj => ?_, fun i hi => ?_⟩
  · rw [Nat.zero_add, hc _ (by rw [hl] at hi; omega)]
    exact flat_get8 ndV 5 (fun _ => rfl) (bP n) i j (bP n)[i] (List.getElem?_eq_getElem hi) hj
  · have key : ∀ x ∈ bP n, (-9223372036854775808 ≤ x.2.1 ∧ x.2.1 ≤ 9223372036854775807) ∧ ((∀ c ∈ x.2.2.1, 0 ≤ c ∧ c ≤ 255) ∧ x.2.2.1.length ≤ 9223372036854775807) := by
      have hb : ∀ (m k : Nat), k + m ≤ 300 → ∀ x ∈ bNs k m, (-9223372036854775808 ≤ x.2.1 ∧ x.2.1 ≤ 9223372036854775807) ∧ ((∀ c ∈ x.2.2.1, 0 ≤ c ∧ c ≤ 255) ∧ x.2.2.1.length ≤ 9223372036854775807) := by
        intro m
        induction m with
        | zero => intro k _ x hx; cases hx
        | succ m ih =>
          intro k hk x hx
          rw [bNs] at hx
          rcases List.mem_append.1 hx with hx | hx
          · have h1 := bX_rng k
            have h2 := bY_rng (show k < 300 by omega)
            simp only [bN, List.mem_cons, List.not_mem_nil, or_false] at hx
            rcases hx with rfl | rfl
            · refine ⟨by simp, ⟨fun c hc => ?_, by simp⟩⟩
              simp only [List.mem_cons, List.not_mem_nil, or_false] at hc
              rcases hc with rfl | rfl | rfl | rfl <;> omega
            · exact ⟨by simp, ⟨(fun c hc => by cases hc), by simp⟩⟩
          · exact ih (k + 1) (by omega) x hx
      intro x hx
      simp only [bP, bL, List.mem_cons] at hx
      rcases hx with rfl | rfl | rfl | hx
      · exact ⟨by simp, ⟨(fun c hc => by cases hc), by simp⟩⟩
      · exact ⟨by simp, ⟨(fun c hc => by simp at hc; omega), by simp⟩⟩
      · exact ⟨by simp; omega, ⟨(fun c hc => by cases hc), by simp⟩⟩
      · exact hb n 0 (by omega) x hx
    exact key _ (List.getElem_mem hi)

/-- What the program makes of it. -/
theorem bP_bad {w : World} {g n cap : Nat} (h1 : 256 < n) (hn : n ≤ 260) (h : NC w g 0 (bP n)) (hh : Sh w) (hp : PrM w) : Calls Tryd.prog 10 #[.slice (some ⟨g, 0, none⟩) (2 * n + 3) cap] w fun e w' => e = .returned (.tuple #[.agg #[.slice none 0 0, .slice none 0 0, .slice none 0 0], .int .i64 3, .int .i64 3593]) ∧ Bw w w' := by
  have hc := b_ck n (by omega) hn
  have hl := bP_len n
  obtain ⟨_, hhi⟩ := b_all (by omega) hn hc
  obtain ⟨f1, f2⟩ := hhi h1
  have R := rs_ok (L := bP n) (by omega) hc
  have := Resolve_bad (cap := cap) (by omega) (by omega) R.n0 (by have := R.nl; omega) h hh hp hc R.gl _ _ R.re (by rw [f1]; decide) (R.fy (by rw [f1]; decide))
  rw [f1, f2, hl, show zN (bP n) 515 = _ from bP_var (j := 256) (by omega)] at this
  exact this
theorem bP_ok {w : World} {g n cap : Nat} (h0 : 250 ≤ n) (h1 : n ≤ 256) (h : NC w g 0 (bP n)) (hh : Sh w) (hp : PrM w) : Calls Tryd.prog 10 #[.slice (some ⟨g, 0, none⟩) (2 * n + 3) cap] w fun e w' => ∃ fb fc vu vg, e = .returned (.tuple #[.agg #[.slice (some ⟨fb, 0, none⟩) 2 fc, vu, vg], .int .i64 0, .int .i64 0]) ∧ (∃ a c, vu = .slice a (2 * n + 3) c) ∧ (∃ a m c, vg = .slice a m c) ∧ fb < w'.heap.size ∧ w'.cell? ⟨fb, 6, none⟩ = some (.int .i64 n) ∧ Bw w w' := by
  have hc := b_ck n (by omega) (by omega)
  have hl := bP_len n
  obtain ⟨hlo, _⟩ := b_all (by omega) (by omega) hc
  obtain ⟨f1, f2, f, f3, f4⟩ := hlo h1
  have R := rs_ok (L := bP n) (by omega) hc
  have := Resolve_ok (cap := cap) (by omega) (by omega) R.n0 (by have := R.nl; omega) h hh hp hc R.gl _ _ R.re f1 R.fit
  rw [hl] at this
  refine this.mono ?_
  rintro e w' ⟨vf, vu, vg, rfl, hsc, ⟨fa, fc, e1⟩, ⟨ua, uc, e2⟩, ⟨ga, gc, e3⟩, _, hb⟩
  subst e1 e2 e3
  obtain ⟨b, e4, e5, _, _, e6, _⟩ := hsc.fn rfl f3
  subst e4
  rw [f2]
  exact ⟨b, fc, _, _, rfl, ⟨_, _, rfl⟩, ⟨_, _, _, rfl⟩, e5, by rw [← f4]; exact e6, hb⟩
end Go.Proofs.YtdhkcdehedbpcaaDoor

