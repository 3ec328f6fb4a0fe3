/- The document's Bin of layer 9, whole. · prim: fields and entries written, or not; worlds' heaps: what serves PrimRules. · The document's Neg of layer 9; what holds of the heaps that are made. -/
import Derived.Test.YtjcoifdfemejkaaGreatDoorKdk
import Derived.Test.YtjcoifdfemejkaaGreatDoorM17
import Derived.Test.YtjcoifdfemejkaaGreatDoorKYk
import Derived.Test.YtjcoifdfemejkaaGreatDoorTBk
import Derived.Test.YtjcoifdfemejkaaGreatDoorTCk
import Derived.Test.YtjcoifdfemejkaaGreatDoorQA9k
set_option linter.unusedSimpArgs false
set_option linter.unusedVariables false
namespace Go.Proofs.YtjcoifdfemejkaaGreatDoor
open Go Go.RowKit

theorem cp_out {op : Int} {p q : Bool} (h : ¬ (7 ≤ op ∧ op ≤ 10)) : cpV op p q = 0 ∧ cpF op = 1 := by
  unfold cpV cpF
  rw [if_neg (by omega), if_neg (by omega), if_neg (by omega), if_neg (by omega), if_neg (by omega)]
  exact ⟨rfl, rfl⟩
theorem cp_in {op : Int} (h : 7 ≤ op ∧ op ≤ 10) : cpF op = 0 := by
  unfold cpF
  rw [if_pos (by omega)]
theorem bn_cp {op a b : Int} (h : ¬ (0 ≤ op ∧ op ≤ 4)) : bnV op a b = cpV op (ltB a b) (ltB b a) ∧ bnF op b = cpF op := by
  unfold bnV bnF
  rw [if_neg (by omega), if_neg (by omega), if_neg (by omega), if_neg (by omega), if_neg (by omega), if_neg (by omega), if_neg (by omega), if_neg (by omega), if_neg (by omega), if_neg (by omega)]
  exact ⟨rfl, rfl⟩
theorem bx_out {H : AHeap} {op : Int} {a b c d : Nat} (h : ¬ (0 ≤ op ∧ op ≤ 3)) : bxR H op a b c d = (0, 1, H) := by
  unfold bxR
  rw [if_neg (by omega), if_neg (by omega), if_neg (by omega), if_neg (by omega)]
theorem bi_out {H : AHeap} {op a b : Int} (h : op < 0 ∨ 10 < op) : biR H op a b = (0, 1, H) := by
  unfold biR
  rw [if_neg (by omega), if_neg (by omega)]
  split
  · rw [(bn_cp (by omega)).1, (bn_cp (a := a) (by omega)).2, (cp_out (by omega)).1, (cp_out (p := true) (q := true) (by omega)).2]
  · split
    · exact bx_out (by omega)
    · split
      · unfold bsR
        rw [if_neg (by omega), (cp_out (by omega)).1, (cp_out (p := true) (q := true) (by omega)).2]
      · rfl

section
variable {w w' : World}

theorem kd0_kof {H : AHeap} {v : Int} (hU : U v) (hok : HOK H) (h9 : ∀ o ∈ H.2, o.kind ≤ 9) : kd v = 0 ↔ kof H v = 10 := ⟨kof_num, fun h => kd_num (kof_10 hU hok h h9)⟩
theorem kd0_N {v : Int} (hU : U v) (h : kd v = 0) : N v := by
  unfold kd at h; unfold N; revert h; repeat' split
  all_goals omega

theorem nbin_all (G : Nat → Prop) (hv : Value) (H : AHeap) (op a b : Int) (ha : U a) (hb : U b) (hok : HOK H) (h9 : ∀ o ∈ H.2, o.kind ≤ 9) (hbr : Bare H) (hbl : ∀ o ∈ H.2, o.bytes.length ≤ 100000) (hGn : ∀ b, w.heap.size ≤ b → G b) (h : RdH w G hv H) (hm : H.2.length ≤ 1000000) :
    Calls Tryz.prog 8 #[hv, .int .i64 op, .int .u64 a, .int .u64 b] w (BD G w (biR H op a b)) := by
  by_cases ho : op < 0 ∨ 10 < op
  · rw [bi_out ho]; exact nbin_out G hv H a b op ho hGn h hm
  have hlo : 0 ≤ op := by omega
  have hhi : op ≤ 10 := by omega
  unfold biR
  by_cases h5 : op = 5
  · subst h5; rw [if_pos rfl]; exact nbin_eq G hv H a b ha hb hok hbr hGn h hm
  rw [if_neg h5]
  by_cases h6 : op = 6
  · subst h6; rw [if_pos rfl]; exact nbin_ne G hv H a b ha hb hok hbr hGn h hm
  rw [if_neg h6]
  by_cases hN : kof H a = 10 ∧ kof H b = 10
  · rw [if_pos hN]
    have na := kof_10 ha hok hN.1 h9
    have nb := kof_10 hb hok hN.2 h9
    by_cases h7 : 7 ≤ op
    · rw [(bn_cp (by omega)).1, (bn_cp (a := a) (by omega)).2, cp_in ⟨h7, hhi⟩]
      exact nbin_ncmp G hv H a b ha hb na nb op h7 hhi hGn h hm
    · have hop : op = 0 ∨ op = 1 ∨ op = 2 ∨ op = 3 ∨ op = 4 := by omega
      rcases hop with rfl | rfl | rfl | rfl | rfl
      · exact nbin_nadd G hv H a b ha hb na nb hGn h hm
      · exact nbin_nsub G hv H a b ha hb na nb hGn h hm
      · exact nbin_nmul G hv H a b ha hb na nb hGn h hm
      · by_cases hz : nm b = 0
        · rw [show bnV 3 a b = 0 by simp [bnV, hz], show bnF 3 b = 2 by simp [bnF, hz]]
          exact nbin_zdiv G hv H a b ha hb na nb hz hGn h hm
        · rw [show bnV 3 a b = mk (quo (nm a) (nm b)) by simp [bnV, hz], show bnF 3 b = 0 by simp [bnF, hz]]
          exact nbin_ndiv G hv H a b ha hb na nb hz hGn h hm
      · by_cases hz : nm b = 0
        · rw [show bnV 4 a b = 0 by simp [bnV, hz], show bnF 4 b = 2 by simp [bnF, hz]]
          exact nbin_zmod G hv H a b ha hb na nb hz hGn h hm
        · rw [show bnV 4 a b = mk (rest (nm a) (nm b)) by simp [bnV, hz], show bnF 4 b = 0 by simp [bnF, hz]]
          exact nbin_nmod G hv H a b ha hb na nb hz hGn h hm
  rw [if_neg hN]
  have k0a := kd0_kof ha hok h9
  have k0b := kd0_kof hb hok h9
  have kk1 : ∀ {v : Int}, isC H v → kk H v ≠ 1 := by
    intro v hc h1
    have e := kof_kk (H := H) (v := v) (by omega)
    rcases hc with hc | hc <;> omega
  by_cases hC : isC H a ∧ isC H b
  · rw [if_pos hC]
    have ka1 := kk1 hC.1
    by_cases h3 : op ≤ 3
    · have hop : op = 0 ∨ op = 1 ∨ op = 2 ∨ op = 3 := by omega
      by_cases ha0 : kd a = 0
      · have na := kd0_N ha ha0
        have hb0 : kd b ≠ 0 := fun e => hN ⟨k0a.1 ha0, k0b.1 e⟩
        rcases hop with rfl | rfl | rfl | rfl
        · exact nbin_caddn G hv H a b ha hb hok h9 hC.1 hC.2 na hb0 ka1 hGn h hm
        · exact nbin_csubn G hv H a b ha hb hok h9 hC.1 hC.2 na hb0 ka1 hGn h hm
        · exact nbin_cmuln G hv H a b ha hb hok h9 hC.1 hC.2 na hb0 ka1 hGn h hm
        · show Calls _ _ _ _ (BD G w (if dz (cxr H b) (cxi H b) then (0, 2, H) else _))
          cases hz : dz (cxr H b) (cxi H b)
          · exact nbin_cdivn G hv H a b ha hb hok h9 hC.1 hC.2 na hb0 ka1 hz hGn h hm
          · exact nbin_czeron G hv H a b ha hb hok h9 hC.1 hC.2 na hb0 ka1 hz hGn h hm
      · rcases hop with rfl | rfl | rfl | rfl
        · exact nbin_caddo G hv H a b ha hb hok h9 hC.1 hC.2 ha0 ka1 hGn h hm
        · exact nbin_csubo G hv H a b ha hb hok h9 hC.1 hC.2 ha0 ka1 hGn h hm
        · exact nbin_cmulo G hv H a b ha hb hok h9 hC.1 hC.2 ha0 ka1 hGn h hm
        · show Calls _ _ _ _ (BD G w (if dz (cxr H b) (cxi H b) then (0, 2, H) else _))
          cases hz : dz (cxr H b) (cxi H b)
          · exact nbin_cdivo G hv H a b ha hb hok h9 hC.1 hC.2 ha0 ka1 hz hGn h hm
          · exact nbin_czeroo G hv H a b ha hb hok h9 hC.1 hC.2 ha0 ka1 hz hGn h hm
    · rw [bx_out (by omega)]
      by_cases ha0 : kd a = 0
      · exact nbin_cmodn G hv H a b ha hb hok h9 hC.1 hC.2 (kd0_N ha ha0) (fun e => hN ⟨k0a.1 ha0, k0b.1 e⟩) ka1 op (by omega) hhi h5 h6 hGn h hm
      · exact nbin_cmodo G hv H a b ha hb hok h9 hC.1 hC.2 ha0 ka1 op (by omega) hhi h5 h6 hGn h hm
  rw [if_neg hC]
  by_cases hS : kof H a = 1 ∧ kof H b = 1
  · rw [if_pos hS]
    have k1 := kof_kk6 (.inl rfl) hS.1
    have k2 := kof_kk6 (.inl rfl) hS.2
    have ha0 : kd a ≠ 0 := fun e => by have := k0a.1 e; omega
    have o1 := ob_mem (H := H) ha (by omega)
    have o2 := ob_mem (H := H) hb (by omega)
    unfold bsR
    by_cases h0 : op = 0
    · subst h0
      rw [if_pos rfl]
      exact nbin_sjoin G hv H a b ha hb hok ha0 k1 k2 (by have := hbl _ o1.1; have := hbl _ o2.1; omega) hGn h hm
    · rw [if_neg h0]
      by_cases h7 : 7 ≤ op
      · have hc := bl_cmp (ob H a).bytes (ob H b).bytes (ob_ok hok ha (kk_ref (by omega)).2.1).2.2.2.2.1 (ob_ok hok hb (kk_ref (by omega)).2.1).2.2.2.2.1
        rw [← hc.1, ← hc.2, cp_in ⟨h7, hhi⟩]
        exact nbin_scmp G hv H a b ha hb hok ha0 k1 k2 op h7 hhi hGn h hm
      · rw [(cp_out (by omega)).1, (cp_out (p := true) (q := true) (by omega)).2]
        exact nbin_stype G hv H a b ha hb hok ha0 k1 k2 op (by omega) (by omega) hGn h hm
  rw [if_neg hS]
  by_cases ha0 : kd a = 0
  · have ca : isC H a := .inl (k0a.1 ha0)
    have cb : ¬ isC H b := fun c => hC ⟨ca, c⟩
    exact nbin_tn G hv H a b ha hb hok h9 ca cb (kd0_N ha ha0) (fun e => cb (.inl (k0b.1 e))) (kk1 ca) op hlo hhi h5 h6 hGn h hm
  · by_cases k1 : kk H a = 1
    · have e1 := kof_kk (H := H) (v := a) (by omega)
      refine nbin_ts G hv H a b ha hb hok h9 (fun c => kk1 c k1) ha0 k1 (fun k2 => hS ⟨by omega, ?_⟩) op hlo hhi h5 h6 hGn h hm
      rw [kof_kk (by omega)]; exact k2
    · by_cases ca : isC H a
      · exact nbin_tg G hv H a b ha hb hok h9 ca (fun c => hC ⟨ca, c⟩) ha0 k1 op hlo hhi h5 h6 hGn h hm
      · exact nbin_tf G hv H a b ha hb hok h9 ca ha0 k1 op hlo hhi h5 h6 hGn h hm

end

end Go.Proofs.YtjcoifdfemejkaaGreatDoor

set_option linter.unusedSimpArgs false
set_option linter.unusedVariables false
namespace Go.Proofs.YtjcoifdfemejkaaGreatDoor
open Go Go.RowKit

theorem big_no9 {o : AObj} (h : bigO o = false) : o.bytes.length ≤ 100 ∧ o.vals.length ≤ 12 ∧ o.keys.length ≤ 12 ∧ ∀ s ∈ o.keys, s.size ≤ 50 := by
  unfold bigO at h
  simp only [Bool.or_eq_false_iff, decide_eq_false_iff_not, List.any_eq_false] at h
  obtain ⟨⟨⟨h1, h2⟩, h3⟩, h4⟩ := h
  exact ⟨by omega, by omega, by omega, fun s hs => by have := h4 s hs; simp at this; omega⟩

theorem much_no9 {Os : List AObj} {Ws : List (Int × Int × Int)} (h : muchW Os Ws = false) : Os.length ≤ 30 ∧ Ws.length ≤ 30 ∧ ∀ o ∈ Os, bigO o = false := by
  unfold muchW at h
  simp only [Bool.or_eq_false_iff, decide_eq_false_iff_not, List.any_eq_false] at h
  obtain ⟨⟨h1, h2⟩, h3⟩ := h
  exact ⟨by omega, by omega, fun o ho => by have := h3 o ho; simpa using this⟩

theorem WU.wr9 {w : World} {ao aw : Option Addr} {Os : List AObj} {Ws : List (Int × Int × Int)} (h : WU w ao aw Os Ws) (hm : muchW Os Ws = false) : WR w ao aw Os Ws := by
  refine ⟨fun i hi => ?_, h.2⟩
  obtain ⟨b, off, x, e, hb, hc, ho⟩ := h.1 i hi
  have hg := big_no9 ((much_no9 hm).2.2 _ (List.getElem_mem hi))
  exact ⟨b, off, x, e, hb, hc, ho.ol, ho.u, ho.b, by omega, by omega, by omega⟩

/-- The bounds of what a world's heap holds. -/
def Lim (H : AHeap) : Prop := ∀ o ∈ H.2, o.kind ≤ 9 ∧ o.keys.length ≤ 12
theorem Lim.mk {H : AHeap} (h : Lim H) (o : AObj) (ho : o.keys.length ≤ 12) : Lim (mkH H o) := by
  unfold mkH
  split
  · rename_i hk
    unfold aMakeH
    split
    · intro x hx
      rcases List.mem_append.1 hx with hx | hx
      · exact h x hx
      · rw [List.mem_singleton] at hx
        subst hx
        unfold mkOK at hk
        simp only [Bool.and_eq_true, decide_eq_true_eq] at hk
        unfold plO
        repeat' split
        all_goals first
          | exact ⟨by show (1 : Int) ≤ 9; decide, Nat.zero_le _⟩
          | exact ⟨by show (2 : Int) ≤ 9; decide, Nat.zero_le _⟩
          | exact ⟨by show (4 : Int) ≤ 9; decide, Nat.zero_le _⟩
          | exact ⟨by show (6 : Int) ≤ 9; decide, Nat.zero_le _⟩
          | exact ⟨by show (3 : Int) ≤ 9; decide, ho⟩
          | exact ⟨by show (5 : Int) ≤ 9; decide, Nat.zero_le _⟩
          | exact ⟨hk.1.2, Nat.zero_le _⟩
    · exact h
  · exact h
theorem ob_mem9 {H : AHeap} {v : Int} (hU : U v) (hk : kk H v ≠ 0) : ob H v ∈ H.2 := List.mem_of_getElem? (ob_get (H := H) hU (kk_ref hk).2.1).1
theorem Lim.wr {H : AHeap} (h : Lim H) (x : Int × Int × Int) (hU : U x.1) : Lim (wrH H x) := by
  unfold wrH aSetH
  split
  · rename_i hc
    intro o ho
    rcases List.mem_or_eq_of_mem_set ho with ho | ho
    · exact h o ho
    · subst ho
      exact h (ob H x.1) (ob_mem9 hU (by omega))
  · exact h
theorem made_lim {w : World} {ao aw : Option Addr} {Os : List AObj} {Ws : List (Int × Int × Int)} (hw : WU w ao aw Os Ws) (hm : muchW Os Ws = false) : Lim (madeH Os Ws) := by
  have h1 : ∀ (Os : List AObj) (H : AHeap), (∀ o ∈ Os, o.keys.length ≤ 12) → Lim H → Lim (Os.foldl mkH H) := by
    intro Os
    induction Os with
    | nil => intro H _ h; exact h
    | cons o t ih => intro H ho h; exact ih _ (fun x hx => ho x (by simp [hx])) (h.mk o (ho o (by simp)))
  have h2 : ∀ (Ws : List (Int × Int × Int)) (H : AHeap), (∀ x ∈ Ws, U x.1) → Lim H → Lim (Ws.foldl wrH H) := by
    intro Ws
    induction Ws with
    | nil => intro H _ h; exact h
    | cons o t ih => intro H ho h; exact ih _ (fun x hx => ho x (by simp [hx])) (h.wr o (ho o (by simp)))
  refine h2 Ws _ (fun x hx => ?_) (h1 Os _ (fun o ho => (big_no9 ((much_no9 hm).2.2 o ho)).2.2.1) (fun o ho => by cases ho))
  obtain ⟨i, hi, rfl⟩ := List.getElem_of_mem hx
  obtain ⟨_, _, _, _, _, _, _, hu, _⟩ := hw.2 i hi
  exact hu

theorem putE_ne {H : AHeap} {v : Int} {s : ByteArray} {x : Int} (h : aPutE H v s x ≠ 0) : aPutH H v s x = H := by
  unfold aPutE at h
  unfold aPutH
  split at h
  · rename_i h1
    split at h
    · rename_i h2
      rw [if_pos ⟨h1, h2⟩]
      split at h
      · exact absurd rfl h
      · rename_i h3
        rw [if_neg h3]
        split at h
        · rename_i h4; rw [if_pos h4]
        · exact absurd rfl h
    · rename_i h2; rw [if_neg (fun hh => h2 hh.2)]
  · rename_i h1; rw [if_neg (fun hh => h1 hh.1)]

/-- The object of a word, exchanged. -/
theorem ob_set {H : AHeap} {v : Int} (hU : U v) (hk : kk H v ≠ 0) (o : AObj) : kk (H.1, H.2.set (idxV v).toNat o) v = o.kind ∧ ob (H.1, H.2.set (idxV v).toNat o) v = o := by
  obtain ⟨h1, h2, _⟩ := kk_ref hk
  obtain ⟨hg, hi⟩ := ob_get (H := H) hU h2
  have hl : (idxV v).toNat < H.2.length := (List.getElem?_eq_some_iff.1 hg).1
  unfold kk ob
  simp only [List.length_set, List.getD_eq_getElem?_getD, List.getElem?_set_self hl, Option.getD_some]
  rw [if_pos ⟨h1, h2⟩]
  exact ⟨rfl, trivial⟩

theorem akey_none9 {O : List ByteArray} {s : ByteArray} (h : ¬ 0 ≤ aKey O s) : s ∉ O := by
  intro hm
  obtain ⟨i, hi, rfl⟩ := List.getElem_of_mem hm
  unfold aKey at h
  cases hf : O.findIdx? (fun x => decide (x = O[i])) with
  | none =>
    rw [List.findIdx?_eq_none_iff] at hf
    have := hf _ (List.getElem_mem hi)
    simp at this
  | some q => rw [hf] at h; simp at h

theorem akey_new {l : List ByteArray} {s : ByteArray} (h : ¬ 0 ≤ aKey l s) : aKey (l ++ [s]) s = l.length := by
  have hn := akey_none9 h
  refine aKey_hit (by simp) (by simp) (fun j hj e => ?_)
  rw [List.getElem_append_left hj] at e
  exact hn (e ▸ List.getElem_mem hj)

theorem put_field {H : AHeap} {v : Int} {s : ByteArray} {x : Int} (hU : U v) (hc : HOK H) (h : aPutE H v s x = 0) : aFieldE (aPutH H v s x) v s = 0 ∧ aFieldV (aPutH H v s x) v s = x := by
  unfold aPutE at h
  unfold aPutH
  split at h
  · rename_i hk
    have hk0 : kk H v ≠ 0 := by omega
    have ho := hc _ (ob_mem9 hU hk0)
    have hkd : (ob H v).kind = 3 := by rw [← (kk_ref hk0).2.2]; exact hk
    have hlen := ho.2.2.1 hkd
    split at h
    · rename_i hg
      rw [if_pos ⟨hk, hg⟩]
      by_cases ha : 0 ≤ aKey (ob H v).keys s
      · rw [if_pos ha]
        have hs := ob_set hU hk0 (withVals (ob H v) ((ob H v).vals.set (aKey (ob H v).keys s).toNat x))
        have hk2 : (withVals (ob H v) ((ob H v).vals.set (aKey (ob H v).keys s).toNat x)).kind = 3 := hkd
        have hlt := aKey_lt (ob H v).keys s
        unfold aFieldE aFieldV
        rw [hs.1, hs.2, hk2, if_pos rfl, if_pos rfl]
        show (if 0 ≤ aKey (ob H v).keys s then (0 : Int) else 4) = 0 ∧ (if 0 ≤ aKey (ob H v).keys s then ((ob H v).vals.set (aKey (ob H v).keys s).toNat x).getD (aKey (ob H v).keys s).toNat 0 else 0) = x
        rw [if_pos ha, if_pos ha, List.getD_eq_getElem?_getD, List.getElem?_set_self (by omega)]
        exact ⟨rfl, rfl⟩
      · rw [if_neg ha] at h ⊢
        split at h
        · cases h
        · rename_i h6
          rw [if_neg h6]
          have hs := ob_set hU hk0 (withKV (ob H v) ((ob H v).keys ++ [s]) ((ob H v).vals ++ [x]))
          have hk2 : (withKV (ob H v) ((ob H v).keys ++ [s]) ((ob H v).vals ++ [x])).kind = 3 := hkd
          unfold aFieldE aFieldV
          rw [hs.1, hs.2, hk2, if_pos rfl, if_pos rfl]
          show (if 0 ≤ aKey ((ob H v).keys ++ [s]) s then (0 : Int) else 4) = 0 ∧ (if 0 ≤ aKey ((ob H v).keys ++ [s]) s then ((ob H v).vals ++ [x]).getD (aKey ((ob H v).keys ++ [s]) s).toNat 0 else 0) = x
          rw [akey_new ha, if_pos (by omega), if_pos (by omega)]
          refine ⟨rfl, ?_⟩
          rw [Int.toNat_natCast, hlen, List.getD_eq_getElem?_getD, List.getElem?_append_right (Nat.le_refl _)]
          simp
    · cases h
  · cases h

/-- Is an entry 0 written? -/
def s0 (H : AHeap) (a x : Int) : Bool := decide (kk H a = 2) && decide (0 < (ob H a).vals.length) && gd H.2.length x
theorem set_at {H : AHeap} {a x : Int} (hU : U a) (h : s0 H a x = true) : aSetE H a 0 x = 0 ∧ kk (aSetH H a 0 x) a = 2 ∧ aAtE (aSetH H a 0 x) a 0 = 0 ∧ aAtV (aSetH H a 0 x) a 0 = x := by
  unfold s0 at h
  simp only [Bool.and_eq_true, decide_eq_true_eq] at h
  obtain ⟨⟨hk, hl⟩, hg⟩ := h
  have hk0 : kk H a ≠ 0 := by omega
  have hkd : (ob H a).kind = 2 := by rw [← (kk_ref hk0).2.2]; exact hk
  have e1 : aSetE H a 0 x = 0 := by unfold aSetE; simp [hk, hg, hl]
  have e2 : aSetH H a 0 x = (H.1, H.2.set (idxV a).toNat (withVals (ob H a) ((ob H a).vals.set 0 x))) := by unfold aSetH; simp [hk, hg, hl]
  have hs := ob_set hU hk0 (withVals (ob H a) ((ob H a).vals.set 0 x))
  have hk2 : (withVals (ob H a) ((ob H a).vals.set 0 x)).kind = 2 := hkd
  have hv : (withVals (ob H a) ((ob H a).vals.set 0 x)).vals = (ob H a).vals.set 0 x := rfl
  rw [e2]
  refine ⟨e1, by rw [hs.1, hk2], ?_, ?_⟩
  · unfold aAtE
    rw [hs.1, hs.2, hk2, hv]
    simp [hl]
  · unfold aAtV
    rw [hs.1, hs.2, hk2, hv]
    cases hvv : (ob H a).vals with
    | nil => rw [hvv] at hl; simp at hl
    | cons y t => simp

section
variable {w w' : World}



/-- What SetField answers: the field is written, or nothing is. -/
def SFP (w : World) (b0 : Nat) (H : AHeap) (bs : List Nat) (r : Int) (s : ByteArray) (x : Int) (e : Ending) (w' : World) : Prop :=
  ∃ f : Int, e = .returned (.int .i64 f) ∧ ((aPutE H r s x = 0 ∧ f = 0 ∧ ∃ bs', HS w' b0 (aPutH H r s x) bs' ∧ Nx bs w w' bs') ∨ (aPutE H r s x ≠ 0 ∧ f ≠ 0 ∧ ∃ bs', HS w' b0 H bs' ∧ Nx bs w w' bs'))



/-- What SetIndex answers at 0: the entry is written, or nothing is. -/
def SIP (w : World) (b0 : Nat) (H : AHeap) (bs : List Nat) (a x : Int) (e : Ending) (w' : World) : Prop :=
  ∃ f : Int, e = .returned (.int .i64 f) ∧ ((s0 H a x = true ∧ f = 0 ∧ ∃ bs', HS w' b0 (aSetH H a 0 x) bs' ∧ Nx bs w w' bs') ∨ (f ≠ 0 ∧ ∃ bs', HS w' b0 H bs' ∧ Nx bs w w' bs'))

theorem set_same {H : AHeap} {a x : Int} (h : aSetE H a 0 x ≠ 0) : aSetH H a 0 x = H := by
  unfold aSetE at h
  unfold aSetH
  by_cases h1 : (kk H a = 2 ∨ kk H a = 4) ∧ gd H.2.length x = true ∧ 0 ≤ (0 : Int) ∧ (0 : Int) < (ob H a).vals.length
  · exfalso
    apply h
    rw [if_pos h1.1, if_pos h1.2.1, if_pos h1.2.2]
  · first | rw [if_neg h1] | (rw [if_neg (by intro hh; exact h1 (by simpa using hh))])

theorem kk_zero (H : AHeap) : kk H 0 = 0 := by
  unfold kk
  rw [if_neg (fun h => absurd h.1 (by decide))]

set_option maxRecDepth 100000 in
set_option maxHeartbeats 1000000 in
theorem keyOf_zero {b0 : Nat} {H : AHeap} {bs : List Nat} (hp : HS w b0 H bs) :
    Calls Tryz.prog 60 #[.pointer (some ⟨b0, 0, none⟩), .int .u64 0] w fun e w' => (∃ t, e = .returned (.tuple #[.string t, .bool false])) ∧ Bw w w' := by
  have HC := hid (bytes_no 0 ⟨by decide, by decide⟩ w hp (by rw [kk_zero]; decide))
  have q1 := fun (w1 : World) => (show By w1 (.slice none ([] : List Int).length 0) [] from ⟨Sl.nil _ _ 1, fun c hc => (by cases hc), by decide⟩).conv0
  simp only [List.length_nil] at q1
  clear hp
  go_enter Tryz.func60, Tryz.ntmps60
  go_wp2_with (first
    | (go_at_call 17; refine HC.out.mono ?_; rintro e w1 ⟨rfl, hl1⟩; have B1 := hid hl1.bw; clear hl1)
    | fail)
  all_goals go_ret2
  all_goals exact ⟨⟨_, rfl⟩, B1.out⟩





set_option maxRecDepth 100000 in
set_option maxHeartbeats 1000000 in
theorem Bin_nil (op a b : Int) : Calls Tryz.prog 7 #[.pointer none, .int .i64 op, .int .u64 a, .int .u64 b] w fun e w' => e = .returned (.tuple #[.int .u64 0, .int .i64 100]) ∧ w' = w := by
  go_enter Tryz.func7, Tryz.ntmps7
  go_wp2
  all_goals go_ret2
  all_goals exact ⟨rfl, rfl⟩

set_option maxRecDepth 100000 in
set_option maxHeartbeats 1000000 in
theorem Not_any (v : Int) : Calls Tryz.prog 12 #[.int .u64 v] w fun e w' => e = .returned (.int .u64 (bv (!tru v))) ∧ w' = w := by
  go_enter Tryz.func12, Tryz.ntmps12
  go_wp2_with (first
    | (go_at_call 14; refine (ttruth_any _ _).mono ?_; rintro e w' ⟨rfl, hw'⟩; subst w')
    | (go_at_call 13; refine (tbool_any _ _).mono ?_; rintro e w' ⟨rfl, hw'⟩; subst w')
    | fail)
  all_goals go_ret
  all_goals exact ⟨rfl, rfl⟩

end

end Go.Proofs.YtjcoifdfemejkaaGreatDoor

set_option linter.unusedSimpArgs false
set_option linter.unusedVariables false
namespace Go.Proofs.YtjcoifdfemejkaaGreatDoor
open Go Go.RowKit

section
variable {w w' : World}

set_option maxRecDepth 100000 in
set_option maxHeartbeats 4000000 in
theorem nneg_num (G : Nat → Prop) (hv : Value) (H : AHeap) (a : Int) (ha : U a) (na : N a) (hGn : ∀ b, w.heap.size ≤ b → G b) (h : RdH w G hv H) (hm : H.2.length ≤ 1000000) :
    Calls Tryz.prog 11 #[hv, .int .u64 a] w (BD G w (mk (- nm a), 0, H)) := by
  have HR := hid h
  obtain ⟨ah, ch, rfl⟩ := h.form
  clear h
  unfold BD
  simp only
  have HA := hid (fun w1 => show Calls Tryz.prog 35 #[.int .u64 a] w1 fun e w' => e = .returned (.int .i64 0) ∧ w' = w1 by have := rkind_any a ha w1; rwa [kd_num na] at this)
  have HD := hid (fun w1 => show Calls Tryz.prog 38 #[.int .i64 1, .int .u64 0, .int .u64 a] w1 fun e w' => e = .returned (.tuple #[.int .u64 (mk (- nm a)), .int .i64 0]) ∧ w' = w1 by
    have := srdo_sub 0 a ⟨by decide, by decide⟩ ha (show N 0 from rfl) na w1
    rwa [show nm 0 - nm a = - nm a by rw [show nm 0 = 0 from rfl]; omega] at this)
  generalize mk (- nm a) = V at HD ⊢
  clear hGn hm na
  go_enter Tryz.func11, Tryz.ntmps11
  go_wp2_with (first
    | (go_at_call 35; refine (HA.out _).mono ?_; rintro e w' ⟨rfl, hw'⟩; subst w')
    | (go_at_call 38; refine (HD.out _).mono ?_; rintro e w' ⟨rfl, hw'⟩; subst w')
    | fail)
  all_goals refine bodyPost_ret (v := .tuple #[.agg #[.int .i64 H.1, .slice ah H.2.length ch], .int .u64 (V), .int .i64 (0)]) (by simp [results, Tryz.results11, go_sem, *]) rfl ?_
  all_goals exact ⟨_, rfl, RdH.whole (g := w.heap.size + 1) (by repeat (first | exact RdH.part HR.out _ (by omega) | apply RdH.put | apply RdH.alloc | apply RdH.drew | apply RdH.lay)), (by repeat (first | exact Bw.refl _ | apply Bw.lay | apply Bw.alloc | apply Bw.drewN | apply Bw.drew | (refine Bw.setCell ?_ (show w.heap.size ≤ w.heap.size + 1 by omega) _)))⟩

set_option maxRecDepth 100000 in
set_option maxHeartbeats 4000000 in
theorem nneg_type (G : Nat → Prop) (hv : Value) (H : AHeap) (a : Int) (ha : U a) (hok : HOK H) (h9 : ∀ o ∈ H.2, o.kind ≤ 9) (ca : ¬ isC H a) (ka0 : kd a ≠ 0) (hGn : ∀ b, w.heap.size ≤ b → G b) (h : RdH w G hv H) (hm : H.2.length ≤ 1000000) :
    Calls Tryz.prog 11 #[hv, .int .u64 a] w (BD G w (0, 1, H)) := by
  have HR := hid h
  obtain ⟨ah, ch, rfl⟩ := h.form
  clear h
  unfold BD
  simp only
  have HA := hid (fun w1 => rkind_any a ha w1)
  generalize hpa : kd a = pa at HA ka0
  have npa : (pa == 0) = false := by simpa using ka0
  clear hpa ka0
  have HNA := hid (fun w1 (hw : Bw w w1) => nnumber_any (w := w1) G _ H a ha hok h9 (HR.out.below hw) hm)
  unfold NP at HNA
  rw [decide_eq_false ca] at HNA
  clear hGn hok h9 ca
  go_enter Tryz.func11, Tryz.ntmps11
  go_wp2_with (first
    | (go_at_call 35; refine (HA.out _).mono ?_; rintro e w' ⟨rfl, hw'⟩; subst w')
    | (go_at_call 43; refine (HNA.out _ (by repeat (first | exact Bw.refl _ | exact BK2.out | exact BK.out | exact B1.out | exact B2.out | exact B3.out | exact B4.out | apply Bw.alloc | apply Bw.drewN | apply Bw.drew))).mono ?_; rintro e w1 ⟨xa, ya, rfl, hca, hb1⟩; have B1 := hid (show Bw w w1 from Bw.trans (by repeat (first | exact Bw.refl _ | exact BK2.out | exact BK.out | exact B1.out | exact B2.out | exact B3.out | exact B4.out | apply Bw.alloc | apply Bw.drewN | apply Bw.drew)) hb1); have HCA := hid hca; have P0 := hid (show Blk w1 (w.heap.size) #[.int .i64 H.1, .slice ah H.2.length ch] 32 by refine Blk.bw ?_ hb1; repeat (first | exact P0.out | exact P2.out | exact P3.out | exact P4.out | exact Blk.newG _ _ (by simp) | apply Blk.alloc | apply Blk.dr)); have yw1P00 : w1.cell? ⟨w.heap.size, 0, none⟩ = some (.int .i64 H.1) := P0.out.cell 0; have yw1P01 : w1.cell? ⟨w.heap.size, 1, none⟩ = some (.slice ah H.2.length ch) := P0.out.cell 1; have sw1P0 : w.heap.size < w1.heap.size := P0.out.lt; have P2 := hid (show Blk w1 (w.heap.size + 1) #[.int .i64 0, .slice none 0 0] 32 by refine Blk.bw ?_ hb1; repeat (first | exact P0.out | exact P2.out | exact P3.out | exact P4.out | exact Blk.newG _ _ (by simp) | apply Blk.alloc | apply Blk.dr)); have yw1P20 : w1.cell? ⟨w.heap.size + 1, 0, none⟩ = some (.int .i64 0) := P2.out.cell 0; have yw1P21 : w1.cell? ⟨w.heap.size + 1, 1, none⟩ = some (.slice none 0 0) := P2.out.cell 1; have fw1P20 : w1.frozen? ⟨w.heap.size + 1, 0, none⟩ = false := P2.out.free 0; have fw1P21 : w1.frozen? ⟨w.heap.size + 1, 1, none⟩ = false := P2.out.free 1; have sw1P2 : w.heap.size + 1 < w1.heap.size := P2.out.lt; clear hb1 hca)
    | fail)
  all_goals refine bodyPost_ret (v := .tuple #[.agg #[.int .i64 H.1, .slice ah H.2.length ch], .int .u64 (0), .int .i64 (1)]) (by simp [results, Tryz.results11, go_sem, *]) rfl ?_
  all_goals exact ⟨_, rfl, RdH.whole (g := w.heap.size + 1) (by repeat (first | exact RdH.below (RdH.part HR.out _ (by omega)) B4.out | exact RdH.below (RdH.part HR.out _ (by omega)) B3.out | exact RdH.below (RdH.part HR.out _ (by omega)) B2.out | exact RdH.below (RdH.part HR.out _ (by omega)) B1.out | exact RdH.below (RdH.part HR.out _ (by omega)) BK2.out | exact RdH.below (RdH.part HR.out _ (by omega)) BK.out | apply RdH.put | apply RdH.alloc | apply RdH.drew)), (by repeat (first | exact Bw.refl _ | exact BK2.out | exact BK.out | exact B4.out | exact B3.out | exact B2.out | exact B1.out | apply Bw.lay | apply Bw.alloc | apply Bw.drewN | apply Bw.drew | (refine Bw.setCell ?_ (show w.heap.size ≤ w.heap.size + 1 by omega) _)))⟩

set_option maxRecDepth 100000 in
set_option maxHeartbeats 4000000 in
theorem nneg_cx (G : Nat → Prop) (hv : Value) (H : AHeap) (a : Int) (ha : U a) (hok : HOK H) (h9 : ∀ o ∈ H.2, o.kind ≤ 9) (ca : isC H a) (ka0 : kd a ≠ 0) (hGn : ∀ b, w.heap.size ≤ b → G b) (h : RdH w G hv H) (hm : H.2.length ≤ 1000000) :
    Calls Tryz.prog 11 #[hv, .int .u64 a] w (BD G w (mkR H (oCplx (fo .sub 0 (cxr H a) : Nat) (fo .sub 0 (cxi H a) : Nat)))) := by
  have HR := hid h
  obtain ⟨ah, ch, rfl⟩ := h.form
  clear h
  unfold BD
  have HOP := hid (fun (x1 y1 : Nat) (h1 : cn x1 = cn (cxr H a) ∧ cn y1 = cn (cxi H a)) (w1 : World) => show Calls Tryz.prog 46 #[zf 0 0, zf x1 y1] w1 fun e w' => ∃ r i, e = .returned (zf r i) ∧ cn r = fo .sub 0 (cxr H a) ∧ cn i = fo .sub 0 (cxi H a) ∧ Ly w1 w' from (gsub_any 0 0 x1 y1 w1).mono fun e w' ⟨r, i, he, hr, hi, hl⟩ => ⟨r, i, he, hr.trans (fo_congr .sub rfl h1.1), hi.trans (fo_congr .sub rfl h1.2), hl⟩)
  have HCX := hid (fun (r i : Nat) (h1 : cn r = fo .sub 0 (cxr H a)) (h2 : cn i = fo .sub 0 (cxi H a)) (w1 : World) (hw : Bw w w1) (hs : w.heap.size + 2 ≤ w1.heap.size) => show Calls Tryz.prog 44 _ w1 (BD (fun b => G b ∧ b ≠ w.heap.size + 1) w1 (mkR H (oCplx (fo .sub 0 (cxr H a) : Nat) (fo .sub 0 (cxi H a) : Nat)))) by
    have := ncplx_any (w := w1) (fun b => G b ∧ b ≠ w.heap.size + 1) _ H r i (fun b h => ⟨hGn b (by omega), by omega⟩) ((HR.out.part _ (by omega)).below hw) hm
    rw [h1, h2, dk_cplx] at this
    exact this)
  have HA := hid (fun w1 => rkind_any a ha w1)
  generalize hpa : kd a = pa at HA ka0
  have npa : (pa == 0) = false := by simpa using ka0
  clear hpa ka0
  have HNA := hid (fun w1 (hw : Bw w w1) => nnumber_any (w := w1) G _ H a ha hok h9 (HR.out.below hw) hm)
  unfold NP at HNA
  rw [decide_eq_true ca] at HNA
  unfold BD at HCX
  generalize mkR H (oCplx (fo .sub 0 (cxr H a) : Nat) (fo .sub 0 (cxi H a) : Nat)) = R at HCX ⊢
  generalize fo .sub 0 (cxr H a) = X at HOP HCX
  generalize fo .sub 0 (cxi H a) = Y at HOP HCX
  obtain ⟨V, F, H'⟩ := R
  simp only at HCX ⊢
  have CA := hid ca
  clear hGn hok h9 ca
  go_enter Tryz.func11, Tryz.ntmps11
  go_wp2_with (first
    | (go_at_call 35; refine (HA.out _).mono ?_; rintro e w' ⟨rfl, hw'⟩; subst w')
    | (go_at_call 43; refine (HNA.out _ (by repeat (first | exact Bw.refl _ | exact BK2.out | exact BK.out | exact B1.out | exact B2.out | exact B3.out | exact B4.out | apply Bw.alloc | apply Bw.drewN | apply Bw.drew))).mono ?_; rintro e w1 ⟨xa, ya, rfl, hca, hb1⟩; have B1 := hid (show Bw w w1 from Bw.trans (by repeat (first | exact Bw.refl _ | exact BK2.out | exact BK.out | exact B1.out | exact B2.out | exact B3.out | exact B4.out | apply Bw.alloc | apply Bw.drewN | apply Bw.drew)) hb1); have HCA := hid hca; have P0 := hid (show Blk w1 (w.heap.size) #[.int .i64 H.1, .slice ah H.2.length ch] 32 by refine Blk.bw ?_ hb1; repeat (first | exact P0.out | exact P2.out | exact P3.out | exact P4.out | exact Blk.newG _ _ (by simp) | apply Blk.alloc | apply Blk.dr)); have yw1P00 : w1.cell? ⟨w.heap.size, 0, none⟩ = some (.int .i64 H.1) := P0.out.cell 0; have yw1P01 : w1.cell? ⟨w.heap.size, 1, none⟩ = some (.slice ah H.2.length ch) := P0.out.cell 1; have sw1P0 : w.heap.size < w1.heap.size := P0.out.lt; have P2 := hid (show Blk w1 (w.heap.size + 1) #[.int .i64 0, .slice none 0 0] 32 by refine Blk.bw ?_ hb1; repeat (first | exact P0.out | exact P2.out | exact P3.out | exact P4.out | exact Blk.newG _ _ (by simp) | apply Blk.alloc | apply Blk.dr)); have yw1P20 : w1.cell? ⟨w.heap.size + 1, 0, none⟩ = some (.int .i64 0) := P2.out.cell 0; have yw1P21 : w1.cell? ⟨w.heap.size + 1, 1, none⟩ = some (.slice none 0 0) := P2.out.cell 1; have fw1P20 : w1.frozen? ⟨w.heap.size + 1, 0, none⟩ = false := P2.out.free 0; have fw1P21 : w1.frozen? ⟨w.heap.size + 1, 1, none⟩ = false := P2.out.free 1; have sw1P2 : w.heap.size + 1 < w1.heap.size := P2.out.lt; clear hb1 hca)
    | fail)
  go_region_held3 (fun w' => w'.cell? ⟨w.heap.size, 0, none⟩ = some (.int .i64 H.1) ∧ w'.cell? ⟨w.heap.size, 1, none⟩ = some (.slice ah H.2.length ch) ∧ w'.cell? ⟨w1.heap.size, 0, none⟩ = some (.float .f64 xa) ∧ w'.cell? ⟨w1.heap.size, 1, none⟩ = some (.float .f64 ya)) (first | (simp [go_sem, *]; done)) (first
    | (go_at_call 46; refine (HOP.out xa ya (HCA.out CA.out) _).mono ?_; rintro e w3 ⟨r3, i3, rfl, hr3, hi3, hly3⟩; have hb3 := hly3.bw; clear hly3; have B3 := hid (show Bw w w3 from Bw.trans (by repeat (first | exact Bw.refl _ | exact BK2.out | exact BK.out | exact B1.out | exact B2.out | exact B3.out | exact B4.out | apply Bw.alloc | apply Bw.drewN | apply Bw.drew)) hb3); have HR3 := hid hr3; have HI3 := hid hi3; replace P0 := hid (show Blk w3 (w.heap.size) #[.int .i64 H.1, .slice ah H.2.length ch] 32 by refine Blk.bw ?_ hb3; repeat (first | exact P0.out | exact P2.out | exact P3.out | exact P4.out | exact Blk.newG _ _ (by simp) | apply Blk.alloc | apply Blk.dr)); have yw3P00 : w3.cell? ⟨w.heap.size, 0, none⟩ = some (.int .i64 H.1) := P0.out.cell 0; have yw3P01 : w3.cell? ⟨w.heap.size, 1, none⟩ = some (.slice ah H.2.length ch) := P0.out.cell 1; have sw3P0 : w.heap.size < w3.heap.size := P0.out.lt; replace P2 := hid (show Blk w3 (w.heap.size + 1) #[.int .i64 0, .slice none 0 0] 32 by refine Blk.bw ?_ hb3; repeat (first | exact P0.out | exact P2.out | exact P3.out | exact P4.out | exact Blk.newG _ _ (by simp) | apply Blk.alloc | apply Blk.dr)); have yw3P20 : w3.cell? ⟨w.heap.size + 1, 0, none⟩ = some (.int .i64 0) := P2.out.cell 0; have yw3P21 : w3.cell? ⟨w.heap.size + 1, 1, none⟩ = some (.slice none 0 0) := P2.out.cell 1; have fw3P20 : w3.frozen? ⟨w.heap.size + 1, 0, none⟩ = false := P2.out.free 0; have fw3P21 : w3.frozen? ⟨w.heap.size + 1, 1, none⟩ = false := P2.out.free 1; have sw3P2 : w.heap.size + 1 < w3.heap.size := P2.out.lt; have P3 := hid (show Blk w3 (w1.heap.size) #[.float .f64 xa, .float .f64 ya] 87 by refine Blk.bw ?_ hb3; repeat (first | exact P0.out | exact P2.out | exact P3.out | exact P4.out | exact Blk.newG _ _ (by simp) | apply Blk.alloc | apply Blk.dr)); have yw3P30 : w3.cell? ⟨w1.heap.size, 0, none⟩ = some (.float .f64 xa) := P3.out.cell 0; have yw3P31 : w3.cell? ⟨w1.heap.size, 1, none⟩ = some (.float .f64 ya) := P3.out.cell 1; have sw3P3 : w1.heap.size < w3.heap.size := P3.out.lt; clear hb3 hr3 hi3)
    | (go_at_call 44; refine (HCX.out r3 i3 HR3.out HI3.out _ (by repeat (first | exact Bw.refl _ | exact BK2.out | exact BK.out | exact B1.out | exact B2.out | exact B3.out | exact B4.out | apply Bw.alloc | apply Bw.drewN | apply Bw.drew)) (by first | (simp; done) | (simp; omega) | omega)).mono ?_; rintro e w4 ⟨v', rfl, hr4, hb4⟩; obtain ⟨a4, c4, rfl⟩ := hr4.form; have R1 := hid hr4; have B4 := hid (show Bw w w4 from Bw.trans (by repeat (first | exact Bw.refl _ | exact BK2.out | exact BK.out | exact B1.out | exact B2.out | exact B3.out | exact B4.out | apply Bw.alloc | apply Bw.drewN | apply Bw.drew)) hb4); replace P0 := hid (show Blk w4 (w.heap.size) #[.int .i64 H.1, .slice ah H.2.length ch] 32 by refine Blk.bw ?_ hb4; repeat (first | exact P0.out | exact P2.out | exact P3.out | exact P4.out | exact Blk.newG _ _ (by simp) | apply Blk.alloc | apply Blk.dr)); have yw4P00 : w4.cell? ⟨w.heap.size, 0, none⟩ = some (.int .i64 H.1) := P0.out.cell 0; have yw4P01 : w4.cell? ⟨w.heap.size, 1, none⟩ = some (.slice ah H.2.length ch) := P0.out.cell 1; have sw4P0 : w.heap.size < w4.heap.size := P0.out.lt; replace P2 := hid (show Blk w4 (w.heap.size + 1) #[.int .i64 0, .slice none 0 0] 32 by refine Blk.bw ?_ hb4; repeat (first | exact P0.out | exact P2.out | exact P3.out | exact P4.out | exact Blk.newG _ _ (by simp) | apply Blk.alloc | apply Blk.dr)); have yw4P20 : w4.cell? ⟨w.heap.size + 1, 0, none⟩ = some (.int .i64 0) := P2.out.cell 0; have yw4P21 : w4.cell? ⟨w.heap.size + 1, 1, none⟩ = some (.slice none 0 0) := P2.out.cell 1; have fw4P20 : w4.frozen? ⟨w.heap.size + 1, 0, none⟩ = false := P2.out.free 0; have fw4P21 : w4.frozen? ⟨w.heap.size + 1, 1, none⟩ = false := P2.out.free 1; have sw4P2 : w.heap.size + 1 < w4.heap.size := P2.out.lt; replace P3 := hid (show Blk w4 (w1.heap.size) #[.float .f64 xa, .float .f64 ya] 87 by refine Blk.bw ?_ hb4; repeat (first | exact P0.out | exact P2.out | exact P3.out | exact P4.out | exact Blk.newG _ _ (by simp) | apply Blk.alloc | apply Blk.dr)); have yw4P30 : w4.cell? ⟨w1.heap.size, 0, none⟩ = some (.float .f64 xa) := P3.out.cell 0; have yw4P31 : w4.cell? ⟨w1.heap.size, 1, none⟩ = some (.float .f64 ya) := P3.out.cell 1; have sw4P3 : w1.heap.size < w4.heap.size := P3.out.lt; clear hb4 hr4)
    | fail)
  all_goals go_wp2
  all_goals refine bodyPost_ret (v := .tuple #[.agg #[.int .i64 H'.1, .slice a4 H'.2.length c4], .int .u64 (V), .int .i64 (F)]) (by simp [results, Tryz.results11, go_sem, *]) rfl ?_
  all_goals exact ⟨_, rfl, RdH.whole (g := w.heap.size + 1) (by repeat (first | exact R1.out | apply RdH.put | apply RdH.alloc | apply RdH.drew | apply RdH.lay)), (by repeat (first | exact Bw.refl _ | exact BK2.out | exact BK.out | exact B4.out | exact B3.out | exact B2.out | exact B1.out | apply Bw.lay | apply Bw.alloc | apply Bw.drewN | apply Bw.drew | (refine Bw.setCell ?_ (show w.heap.size ≤ w.heap.size + 1 by omega) _)))⟩

theorem nneg_all (G : Nat → Prop) (hv : Value) (H : AHeap) (a : Int) (ha : U a) (hok : HOK H) (h9 : ∀ o ∈ H.2, o.kind ≤ 9) (hGn : ∀ b, w.heap.size ≤ b → G b) (h : RdH w G hv H) (hm : H.2.length ≤ 1000000) :
    Calls Tryz.prog 11 #[hv, .int .u64 a] w (BD G w (ngR H a)) := by
  unfold ngR
  have k0a := kd0_kof ha hok h9
  by_cases h10 : kof H a = 10
  · rw [if_pos h10]; exact nneg_num G hv H a ha (kof_10 ha hok h10 h9) hGn h hm
  have ha0 : kd a ≠ 0 := fun e => h10 (k0a.1 e)
  rw [if_neg h10]
  by_cases h6 : kof H a = 6
  · rw [if_pos h6]; exact nneg_cx G hv H a ha hok h9 (.inr h6) ha0 hGn h hm
  · rw [if_neg h6]; exact nneg_type G hv H a ha hok h9 (fun c => c.elim h10 h6) ha0 hGn h hm

/-! ## the heaps -/

def Nb (n : Nat) (H : AHeap) : Prop := ∀ o ∈ H.2, Neat o ∧ o.bytes.length ≤ n
theorem Nb.neat {n : Nat} {H : AHeap} (h : Nb n H) : NeatH H := fun o ho => (h o ho).1
theorem Nb.k9 {n : Nat} {H : AHeap} (h : Nb n H) : ∀ o ∈ H.2, o.kind ≤ 9 := fun o ho => (h o ho).1.2.2.2
theorem Nb.bare {n : Nat} {H : AHeap} (h : Nb n H) : Bare H := fun o ho hk => (h o ho).1.2.1 hk
theorem Nb.up {n m : Nat} {H : AHeap} (h : Nb n H) (hm : n ≤ m) : Nb m H := fun o ho => ⟨(h o ho).1, Nat.le_trans (h o ho).2 hm⟩
theorem Nb.new {n m : Nat} {H : AHeap} (h : Nb n H) (hm : n ≤ m) {o : AObj} (ho : Neat o) (hb : o.bytes.length ≤ m) : Nb m (mkR H o).2.2 := by
  show Nb m (aMakeH H o)
  unfold aMakeH
  split
  · intro x hx
    rcases List.mem_append.1 hx with hx | hx
    · exact h.up hm x hx
    · rw [List.mem_singleton.1 hx]; exact ⟨ho, hb⟩
  · exact h.up hm
theorem neat_cplx (a b : Int) : Neat (oCplx a b) := ⟨fun _ => rfl, fun h => absurd rfl h, by show (1 : Int) ≤ 6; decide, by show (6 : Int) ≤ 9; decide⟩
theorem neat_str (b : List Int) : Neat (oStr b) := ⟨fun _ => rfl, fun _ => ⟨rfl, rfl⟩, by show (1 : Int) ≤ 1; decide, by show (1 : Int) ≤ 9; decide⟩
theorem Nb.cx {n : Nat} {H : AHeap} (h : Nb n H) {m : Nat} (hm : n ≤ m) (a b : Int) : Nb m (mkR H (oCplx a b)).2.2 := h.new hm (neat_cplx a b) (Nat.zero_le _)
theorem Nb.bi {n : Nat} {H : AHeap} (h : Nb n H) {op a b : Int} (ha : U a) (hb : U b) : Nb (n + n) (biR H op a b).2.2 := by
  have hu : Nb (n + n) H := h.up (by omega)
  unfold biR
  repeat' split
  all_goals try exact hu
  · unfold bxR
    repeat' split
    all_goals first | exact hu | exact h.cx (by omega) _ _
  · rename_i hs
    unfold bsR
    split
    · have k1 := kof_kk6 (.inl rfl) hs.1
      have k2 := kof_kk6 (.inl rfl) hs.2
      have o1 := ob_mem (H := H) ha (by omega)
      have o2 := ob_mem (H := H) hb (by omega)
      have b1 := (h _ o1.1).2
      have b2 := (h _ o2.1).2
      refine h.new (by omega) (neat_str _) ?_
      show ((ob H a).bytes ++ (ob H b).bytes).length ≤ n + n
      rw [List.length_append]; omega
    · exact hu
theorem Nb.ng {n : Nat} {H : AHeap} (h : Nb n H) {a : Int} : Nb n (ngR H a).2.2 := by
  unfold ngR
  repeat' split
  all_goals first | exact h | exact h.cx (Nat.le_refl _) _ _

theorem plO_nb {o : AObj} (hk : mkOK o = true) (hb : o.bytes.length ≤ 100) : Neat (plO o) ∧ (plO o).bytes.length ≤ 100 := by
  unfold mkOK at hk
  simp only [Bool.and_eq_true, decide_eq_true_eq] at hk
  have k1 := hk.1.1
  have k9 := hk.1.2
  unfold plO
  split
  · exact ⟨neat_str _, hb⟩
  split
  · exact ⟨⟨fun _ => rfl, fun _ => ⟨rfl, rfl⟩, by show (1 : Int) ≤ 2; decide, by show (2 : Int) ≤ 9; decide⟩, Nat.zero_le _⟩
  split
  · exact ⟨⟨fun e => absurd rfl e, fun _ => ⟨rfl, rfl⟩, by show (1 : Int) ≤ 3; decide, by show (3 : Int) ≤ 9; decide⟩, Nat.zero_le _⟩
  split
  · exact ⟨⟨fun _ => rfl, fun _ => ⟨rfl, rfl⟩, by show (1 : Int) ≤ 4; decide, by show (4 : Int) ≤ 9; decide⟩, Nat.zero_le _⟩
  split
  · exact ⟨⟨fun _ => rfl, fun _ => ⟨rfl, rfl⟩, by show (1 : Int) ≤ 5; decide, by show (5 : Int) ≤ 9; decide⟩, Nat.zero_le _⟩
  split
  · exact ⟨neat_cplx _ _, Nat.zero_le _⟩
  · exact ⟨⟨fun _ => rfl, fun _ => ⟨rfl, rfl⟩, k1, k9⟩, Nat.zero_le _⟩
theorem Nb.mk {H : AHeap} (h : Nb 100 H) (o : AObj) (hb : o.bytes.length ≤ 100) : Nb 100 (mkH H o) := by
  unfold mkH
  split
  · rename_i hok
    have := plO_nb hok hb
    exact h.new (Nat.le_refl _) this.1 this.2
  · exact h
theorem Nb.wr {H : AHeap} (h : Nb 100 H) (x : Int × Int × Int) (hU : U x.1) : Nb 100 (wrH H x) := by
  unfold wrH aSetH
  split
  · rename_i hc
    intro o ho
    rcases List.mem_or_eq_of_mem_set ho with ho | ho
    · exact h o ho
    · subst ho
      exact h (ob H x.1) (ob_mem9 hU (by omega))
  · exact h
theorem made_nb {w : World} {ao aw : Option Addr} {Os : List AObj} {Ws : List (Int × Int × Int)} (hw : WU w ao aw Os Ws) (hm : muchW Os Ws = false) : Nb 100 (madeH Os Ws) := by
  have h1 : ∀ (Os : List AObj) (H : AHeap), (∀ o ∈ Os, o.bytes.length ≤ 100) → Nb 100 H → Nb 100 (Os.foldl mkH H) := by
    intro Os
    induction Os with
    | nil => intro H _ h; exact h
    | cons o t ih => intro H ho h; exact ih _ (fun x hx => ho x (by simp [hx])) (h.mk o (ho o (by simp)))
  have h2 : ∀ (Ws : List (Int × Int × Int)) (H : AHeap), (∀ x ∈ Ws, U x.1) → Nb 100 H → Nb 100 (Ws.foldl wrH H) := by
    intro Ws
    induction Ws with
    | nil => intro H _ h; exact h
    | cons o t ih => intro H ho h; exact ih _ (fun x hx => ho x (by simp [hx])) (h.wr o (ho o (by simp)))
  refine h2 Ws _ (fun x hx => ?_) (h1 Os _ (fun o ho => (big_no9 ((much_no9 hm).2.2 o ho)).1) (fun o ho => by cases ho))
  obtain ⟨i, hi, rfl⟩ := List.getElem_of_mem hx
  obtain ⟨_, _, _, _, _, _, _, hu, _⟩ := hw.2 i hi
  exact hu

end

end Go.Proofs.YtjcoifdfemejkaaGreatDoor

