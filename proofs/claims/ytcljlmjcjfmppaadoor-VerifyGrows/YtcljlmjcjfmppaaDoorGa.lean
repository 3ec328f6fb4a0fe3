/- VerifyGrows as plain data: what is right stays right with one more text, global, function, and a return behind each code. Nothing of the program is in it. -/
import Derived.Test.YtcljlmjcjfmppaaDoorVm
set_option linter.unusedSimpArgs false
set_option linter.unusedVariables false
namespace Go.Proofs.YtcljlmjcjfmppaaDoor

/-! ## keys -/

/-- One entry of keys, held against the last entries that had each text. -/
def kOne (fs : List Int) (n : Int) : List Int → List Int → Option (List Int)
  | last, [] => some last
  | last, k :: t => if isPl k fs.length = true ∧ last.getD (fs.getD k.toNat 0).toNat 0 ≠ n then kOne fs n (last.set (fs.getD k.toNat 0).toNat n) t else none
def kAll (fs : List Int) : Nat → List Int → List (List Int) → Bool
  | _, _, [] => true
  | n, last, l :: t => if 255 < l.length then false else match kOne fs (n + 1) last l with
    | some last' => kAll fs (n + 1) last' t
    | none => false
/-- The first place of a text. -/
def fpl {α : Type} [BEq α] (l : List α) : List Int := l.map fun s => ((l.idxOf s : Nat) : Int)
def kRt (strs : List (List Int)) (keys : List (List Int)) : Bool := kAll (fpl strs) 0 (List.replicate strs.length 0) keys

theorem fpl_len {α : Type} [BEq α] (l : List α) : (fpl l).length = l.length := by simp [fpl]
theorem fpl_lt {α : Type} [BEq α] [LawfulBEq α] (l : List α) (i : Nat) (h : i < l.length) : (fpl l).getD i 0 = ((l.idxOf l[i] : Nat) : Int) ∧ l.idxOf l[i] < l.length := by
  refine ⟨?_, List.idxOf_lt_length_of_mem (List.getElem_mem h)⟩
  rw [List.getD_eq_getElem?_getD, List.getElem?_eq_getElem (by rw [fpl_len]; exact h)]
  simp [fpl]
theorem fpl_snoc {α : Type} [BEq α] [LawfulBEq α] (l : List α) (s : α) (i : Nat) (h : i < l.length) : (fpl (l ++ [s])).getD i 0 = (fpl l).getD i 0 := by
  rw [(fpl_lt l i h).1, (fpl_lt (l ++ [s]) i (by simp; omega)).1]
  rw [List.getElem_append_left h, List.idxOf_append, if_pos (List.getElem_mem h)]

theorem kOne_len {fs : List Int} {n : Int} : ∀ (l last r : List Int), kOne fs n last l = some r → r.length = last.length
  | [], last, r, h => by cases h; rfl
  | k :: t, last, r, h => by
    unfold kOne at h
    split at h
    · have := kOne_len t _ r h; simpa using this
    · cases h

theorem kOne_grow {α : Type} [BEq α] [LawfulBEq α] (l : List α) (s : α) (n : Int) : ∀ (ks last r : List Int), last.length = l.length → kOne (fpl l) n last ks = some r → kOne (fpl (l ++ [s])) n (last ++ [0]) ks = some (r ++ [0])
  | [], last, r, _, h => by cases h; rfl
  | k :: t, last, r, hl, h => by
    unfold kOne at h ⊢
    split at h
    · rename_i hc
      obtain ⟨h1, h2⟩ := hc
      have h3 : 0 ≤ k ∧ k < l.length := by simp [isPl, fpl_len] at h1; omega
      have hk : k.toNat < l.length := by omega
      have e := fpl_snoc l s k.toNat hk
      have e2 := fpl_lt l k.toNat hk
      have hlt : ((fpl l).getD k.toNat 0).toNat < last.length := by rw [e2.1, hl]; simpa using e2.2
      have e3 : (last ++ [0]).getD ((fpl l).getD k.toNat 0).toNat 0 = last.getD ((fpl l).getD k.toNat 0).toNat 0 := by
        rw [List.getD_eq_getElem?_getD, List.getElem?_append_left hlt, ← List.getD_eq_getElem?_getD]
      have e4 : (last ++ [0]).set ((fpl l).getD k.toNat 0).toNat n = last.set ((fpl l).getD k.toNat 0).toNat n ++ [0] := by rw [List.set_append_left _ _ hlt]
      rw [if_pos ⟨by simp [isPl, fpl_len]; omega, by rw [e, e3]; exact h2⟩, e, e4]
      exact kOne_grow l s n t _ r (by simpa using hl) h
    · cases h

theorem kAll_grow {α : Type} [BEq α] [LawfulBEq α] (l : List α) (s : α) : ∀ (ks : List (List Int)) (n : Nat) (last : List Int), last.length = l.length → kAll (fpl l) n last ks = true → kAll (fpl (l ++ [s])) n (last ++ [0]) ks = true
  | [], n, last, _, h => rfl
  | x :: t, n, last, hl, h => by
    unfold kAll at h ⊢
    split at h
    · cases h
    · rename_i h1
      rw [if_neg h1]
      split at h
      · rename_i last' h2
        rw [kOne_grow l s _ _ _ _ hl h2]
        exact kAll_grow l s t (n + 1) last' ((kOne_len _ _ _ h2).trans hl) h
      · cases h

theorem kRt_grow (strs keys : List (List Int)) (s : List Int) (h : kRt strs keys = true) : kRt (strs ++ [s]) keys = true := by
  unfold kRt at h ⊢
  have := kAll_grow strs s keys 0 _ (by simp) h
  rw [List.length_append, List.length_singleton, List.replicate_succ']
  exact this

/-! ## the image -/

def rtI : Int × Int × Int := (27, 0, 0)
def growF (f : AFn) : AFn := { f with code := f.code ++ [rtI] }
def lastF : AFn := ⟨0, 0, [], [], [(1, 0, 0), (27, 0, 0)], []⟩
def growI (m : AIm) (s : List Int) : AIm := ⟨m.funs.map growF ++ [lastF], m.strs ++ [s], m.keys, m.globals + 1⟩

def imF (m : AIm) : Int := if m.funs.length < 1 ∨ 1024 < m.funs.length ∨ m.globals < 0 ∨ 1024 < m.globals then 3 else if kRt m.strs m.keys = true then 0 else 1

structure AllOk (m : AIm) (N : Nat) : Prop where
  im : imF m = 0
  fr : ∀ i (h : i < m.funs.length), frF m.funs[i] (i == 0) = 0
  cd : ∀ f ∈ m.funs, CdOk m f
  fl : ∀ i (h : i < m.funs.length), (flow m m.funs[i] N 0 (flow0 m.funs[i])).f = -1

theorem frF_len {f : AFn} {b : Bool} (h : frF f b = 0) : 1 ≤ f.code.length ∧ f.code.length ≤ 65536 := by
  unfold frF at h
  split at h
  · cases h
  · omega

theorem frF_grow {f : AFn} {b : Bool} (h : frF f b = 0) (hl : f.code.length ≤ 60000) : frF (growF f) b = 0 := by
  unfold frF at h ⊢
  split at h
  · cases h
  · rename_i h1
    split at h
    · cases h
    · rename_i h2
      rw [if_neg (by simp only [growF, List.length_append, List.length_singleton] at h1 ⊢; omega), if_neg (by simpa only [growF] using h2)]

theorem tryR_grow {t : Int × Int × Int × Int} {n : Int} (h : tryR t n = true) : tryR t (n + 1) = true := by
  simp only [tryR, Bool.and_eq_true, decide_eq_true_eq] at h ⊢
  exact ⟨⟨⟨⟨h.1.1.1.1, h.1.1.1.2⟩, h.1.1.2⟩, by omega⟩, h.2⟩

def Wid (p q : Int × Int) : Prop := q.1 = p.1 ∧ p.2 ≤ q.2
theorem wid_ite {c : Prop} [Decidable c] {p q p' q' : Int × Int} (h : Wid p p') (k : Wid q q') : Wid (if c then p else q) (if c then p' else q') := by
  by_cases hc : c
  · rw [if_pos hc, if_pos hc]; exact h
  · rw [if_neg hc, if_neg hc]; exact k
theorem rngM_grow (m : AIm) (s : List Int) (f : AFn) (k op : Int) : (rngM (growI m s) (growF f) k op).1 = (rngM m f k op).1 ∧ (rngM m f k op).2 ≤ (rngM (growI m s) (growF f) k op).2 := by
  show Wid _ _
  unfold rngM
  simp only [growI, growF, List.length_append, List.length_map, List.length_singleton]
  repeat' (first | apply wid_ite)
  all_goals exact ⟨rfl, by first | exact Int.le_refl _ | (simp only; omega)⟩

theorem inF_grow {m : AIm} {s : List Int} {f : AFn} {k : Int} {i : Int × Int × Int} (h : inF m f k i = 0) : inF (growI m s) (growF f) k i = 0 := by
  have hg := rngM_grow m s f k i.1
  unfold inF at h ⊢
  split at h
  · cases h
  · rename_i h1
    rw [if_neg h1]
    split at h
    · cases h
    · rename_i h2
      rw [if_neg (by omega)]
      split at h
      · cases h
      · rename_i h3
        split at h
        · cases h
        · rename_i h4
          rw [if_neg (fun hx => ?_), if_neg h4]
          refine h3 ⟨hx.1, ?_⟩
          have hx2 := hx.2
          have e16 : rngM m f k i.1 = (1, (m.funs.length : Int)) := by rw [hx.1]; rfl
          rw [e16] at h2
          simp only at h2
          have hlt : i.2.1.toNat < m.funs.length := by omega
          have e1 : (growI m s).funs.getD i.2.1.toNat AFn.none = growF (m.funs.getD i.2.1.toNat AFn.none) := by
            simp only [growI]
            rw [List.getD_eq_getElem?_getD, List.getElem?_append_left (by simpa using hlt), List.getElem?_map, List.getD_eq_getElem?_getD, List.getElem?_eq_getElem hlt]
            rfl
          rw [e1] at hx2
          exact hx2

theorem cd_grow {m : AIm} {s : List Int} {f : AFn} (h : CdOk m f) : CdOk (growI m s) (growF f) := by
  refine ⟨fun i hi => ?_, fun t ht => ?_⟩
  · simp only [growF] at hi ⊢
    by_cases hl : i < f.code.length
    · rw [List.getElem_append_left hl]
      exact inF_grow (h.1 i hl)
    · rw [List.length_append, List.length_singleton] at hi
      obtain rfl : i = f.code.length := by omega
      rw [List.getElem_append_right (Nat.le_refl _)]
      simp only [Nat.sub_self, List.getElem_cons_zero]
      rfl
  · have := tryR_grow (h.2 t ht)
    simpa only [growF, List.length_append, List.length_singleton, Int.natCast_add, Int.natCast_one] using this

theorem cd_last (m : AIm) (s : List Int) : CdOk (growI m s) lastF := by
  refine ⟨fun i hi => ?_, fun t ht => by cases ht⟩
  have hi2 : i < 2 := hi
  match i, hi2 with
  | 0, _ => rfl
  | 1, _ => rfl

/-! ## heights -/

def moreS (s : HSt) : HSt := ⟨s.h ++ [-1], s.row, s.f⟩

theorem reach_more {n : Nat} {s : HSt} {p v : Int} (hl : s.h.length = n) (hp : 0 ≤ p ∧ p < n) : reachM (moreS s) p v = moreS (reachM s p v) := by
  have hlt : p.toNat < s.h.length := by omega
  have e3 : (s.h ++ [-1]).getD p.toNat 0 = s.h.getD p.toNat 0 := by
    rw [List.getD_eq_getElem?_getD, List.getElem?_append_left hlt, ← List.getD_eq_getElem?_getD]
  unfold reachM
  simp only [moreS, e3]
  split
  · rw [List.set_append_left _ _ hlt]
  · split <;> rfl

theorem run_more {n : Nat} : ∀ (l : List (Int × Int)) (s : HSt), HOk n s → (∀ x ∈ l, (0 ≤ x.1 ∧ x.1 < n) ∧ 0 ≤ x.2 ∧ x.2 ≤ 257) → runL (moreS s) l = (moreS (runL s l).1, (runL s l).2)
  | [], s, _, _ => rfl
  | (p, v) :: t, s, h, hl => by
    have h1 := hl (p, v) (by simp)
    have h2 := h.reach h1.1 h1.2
    unfold runL
    rw [reach_more h.len h1.1]
    by_cases hf : (reachM s p v).f = -1
    · rw [if_pos (show (moreS (reachM s p v)).f = -1 from hf), if_pos hf]
      exact run_more t _ h2 (fun x hx => hl x (by simp [hx]))
    · rw [if_neg (show ¬ (moreS (reachM s p v)).f = -1 from hf), if_neg hf]

theorem runL_fals : ∀ (l : List (Int × Int)) (s : HSt), (runL s l).2 = false → (runL s l).1.f ≠ -1
  | [], s, h => by cases h
  | (p, v) :: t, s, h => by
    unfold runL at h ⊢
    split at h
    · rename_i h3; rw [if_pos h3]; exact runL_fals t _ h
    · rename_i h3; rw [if_neg h3]; exact h3

theorem leads_grow (f : AFn) (op a k b c : Int) : leads (growF f) op a k b c = leads f op a k b c := rfl

theorem eff_nn (ks : List (List Int)) (hy : ∀ l ∈ ks, 0 ≤ l.length) (op a : Int) : 0 ≤ (effM ks op a).2.1 := by
  unfold effM
  split
  · split
    · exact (opAt_bd op).2.1
    · exact Int.le_refl _
  · exact Int.le_refl _

theorem one_more {m : AIm} {s0 : List Int} {f : AFn} {s : HSt} {k : Nat} (hc : CdOk m f) (hk : k < f.code.length) (h : HOk f.code.length s) (hh : 0 ≤ s.h.getD k 0) (ho : (oneM m f s k).2 = true) :
    oneM (growI m s0) (growF f) (moreS s) k = (moreS (oneM m f s k).1, true) ∧ HOk f.code.length (oneM m f s k).1 := by
  have hl := h.len
  have e3 : (s.h ++ [-1]).getD k 0 = s.h.getD k 0 := by
    rw [List.getD_eq_getElem?_getD, List.getElem?_append_left (by omega), ← List.getD_eq_getElem?_getD]
  have ec : f.code.getD k (0, 0, 0) = f.code[k] := by rw [List.getD_eq_getElem?_getD, List.getElem?_eq_getElem hk]; rfl
  have ec2 : (growF f).code.getD k (0, 0, 0) = f.code[k] := by
    simp only [growF]
    rw [List.getD_eq_getElem?_getD, List.getElem?_append_left hk, List.getElem?_eq_getElem hk]; rfl
  obtain ⟨op, a, bb, hop⟩ : ∃ op a bb, f.code[k] = (op, a, bb) := ⟨_, _, _, rfl⟩
  have hbd : s.h.getD k 0 ≤ 257 := by
    rw [List.getD_eq_getElem?_getD, List.getElem?_eq_getElem (by omega)]
    exact (h.bd _ (List.getElem_mem _)).2
  unfold oneM at ho ⊢
  simp only [Int.toNat_natCast, ec, ec2, hop, moreS, e3] at ho ⊢
  have hkeys : (growI m s0).keys = m.keys := rfl
  rw [hkeys]
  obtain ⟨t1, t2, t3, he⟩ : ∃ t1 t2 t3, effM m.keys op a = (t1, t2, t3) := ⟨_, _, _, rfl⟩
  have ht2 : 0 ≤ t2 := by have := eff_nn m.keys (fun _ _ => Nat.zero_le _) op a; rw [he] at this; exact this
  rw [he] at ho ⊢
  simp only at ho ⊢
  by_cases hf : fitM f op k (s.h.getD k 0 - t1) (s.h.getD k 0 - t1 + t2) = true
  · have hf2 : fitM (growF f) op k (s.h.getD k 0 - t1) (s.h.getD k 0 - t1 + t2) = true := by
      simp only [fitM, growF, List.length_append, List.length_singleton, Bool.and_eq_true, decide_eq_true_eq, Bool.not_eq_true', Bool.and_eq_false_iff, beq_eq_false_iff_ne] at hf ⊢
      refine ⟨hf.1, hf.2.elim .inl (fun h => .inr (by omega))⟩
    rw [if_pos hf] at ho ⊢
    rw [if_pos hf2]
    have htr : (growF f).tries = f.tries := rfl
    rw [htr]
    by_cases ht : (f.tries.any fun t => cov t k && decide (s.h.getD k 0 - t1 < t.2.2.2)) = true
    · rw [if_pos ht] at ho; cases ho
    · rw [if_neg ht] at ho ⊢
      rw [if_neg ht, leads_grow]
      have haft : 0 ≤ s.h.getD k 0 - t1 + t2 := by
        simp only [fitM, Bool.and_eq_true, decide_eq_true_eq] at hf
        omega
      have hle := leads_ok (a := a) (bb := bb) (h := s.h.getD k 0) hc hk hop hf (.inr trivial) haft ⟨hh, hbd⟩
      have hr := run_more _ s h hle
      refine ⟨?_, HOk.run _ s h hle⟩
      show runL (moreS s) _ = _
      rw [hr, ho]
      rfl
  · rw [if_neg hf] at ho; cases ho

theorem flow_more {m : AIm} {s0 : List Int} {f : AFn} (hc : CdOk m f) : ∀ (N k : Nat) (s : HSt), HOk f.code.length s → (flow m f N k s).f = -1 → (flow (growI m s0) (growF f) N k (moreS s)).f = -1
  | 0, k, s, _, h => h
  | N + 1, k, s, h, hf => by
    by_cases hk : k < s.row.length
    · have hm : s.row.getD k 0 ∈ s.row := by rw [List.getD_eq_getElem?_getD, List.getElem?_eq_getElem hk]; exact List.getElem_mem _
      have hr := h.row _ hm
      obtain ⟨p, hp⟩ : ∃ p : Nat, s.row.getD k 0 = p := ⟨(s.row.getD k 0).toNat, by omega⟩
      rw [hp] at hr
      have hpl : p < f.code.length := by omega
      have hh : 0 ≤ s.h.getD p 0 := by
        have h1 := hr.2.2
        simp only [Int.toNat_natCast] at h1
        have hl := h.len
        have : s.h.getD p 0 ∈ s.h := by rw [List.getD_eq_getElem?_getD, List.getElem?_eq_getElem (by omega)]; exact List.getElem_mem _
        have := (h.bd _ this).1
        omega
      have hrow : (moreS s).row = s.row := rfl
      cases ho : (oneM m f s p).2
      · exfalso
        rw [flow_no hk (by rw [hp]; exact ho), hp] at hf
        have hc0 : (oneM m f s p).1.f ≠ -1 := by
          revert ho hf
          unfold oneM
          simp only
          split
          · split
            · intro _ _; simp only; omega
            · intro _ h8; exact runL_fals _ _ h8
          · intro _ _; simp only; omega
        exact hc0 hf
      · have h1 := one_more (s0 := s0) hc hpl h hh ho
        rw [flow_go hk (by rw [hp]; exact ho), hp] at hf
        rw [flow_go (by rw [hrow]; exact hk) (by rw [hrow, hp, h1.1]), hrow, hp, h1.1]
        exact flow_more hc N (k + 1) _ h1.2 hf
    · rw [flow_stop hk] at hf
      rw [flow_stop (show ¬ k < (moreS s).row.length from hk)]
      exact hf

theorem flow0_grow (f : AFn) (h : 1 ≤ f.code.length) : flow0 (growF f) = moreS (flow0 f) := by
  unfold flow0
  have e : (growF f).code.length = f.code.length + 1 := by simp [growF]
  rw [e]
  have : (⟨List.replicate (f.code.length + 1) (-1), [], -1⟩ : HSt) = moreS ⟨List.replicate f.code.length (-1), [], -1⟩ := by
    simp only [moreS, List.replicate_succ']
  rw [this]
  exact reach_more (n := f.code.length) (by simp) (by omega)

theorem flow_last (m : AIm) (N : Nat) : (flow m lastF (N + 3) 0 (flow0 lastF)).f = -1 := by
  have e0 : flow0 lastF = ⟨[0, -1], [0], -1⟩ := rfl
  have k1 : effM m.keys 1 0 = (0, 1, 0) := rfl
  have k2 : effM m.keys 27 0 = (1, 0, 0) := rfl
  have h1 : oneM m lastF ⟨[0, -1], [0], -1⟩ 0 = (⟨[0, 1], [0, 1], -1⟩, true) := by
    unfold oneM
    simp only [show lastF.code.getD (Int.toNat 0) (0, 0, 0) = (1, 0, 0) from rfl, k1]
    rfl
  have h2 : oneM m lastF ⟨[0, 1], [0, 1], -1⟩ 1 = (⟨[0, 1], [0, 1], -1⟩, true) := by
    unfold oneM
    simp only [show lastF.code.getD (Int.toNat 1) (0, 0, 0) = (27, 0, 0) from rfl, k2]
    rfl
  rw [e0, flow_go (by simp) (by show (oneM m lastF _ 0).2 = true; rw [h1])]
  show (flow m lastF (N + 2) 1 (oneM m lastF ⟨[0, -1], [0], -1⟩ 0).1).f = -1
  rw [h1, flow_go (by simp) (by show (oneM m lastF _ 1).2 = true; rw [h2])]
  show (flow m lastF (N + 1) 2 (oneM m lastF ⟨[0, 1], [0, 1], -1⟩ 1).1).f = -1
  rw [h2, flow_stop (by simp)]

theorem all_grow {m : AIm} {s : List Int} {N : Nat} (h : AllOk m (N + 3)) (h20 : m.funs.length ≤ 20) (hg : m.globals ≤ 1000) (hl : ∀ f ∈ m.funs, f.code.length ≤ 60000) : AllOk (growI m s) (N + 3) := by
  have hk : kRt m.strs m.keys = true ∧ 1 ≤ m.funs.length ∧ 0 ≤ m.globals := by
    have := h.im
    unfold imF at this
    split at this
    · cases this
    · split at this
      · rename_i h1 h2; exact ⟨h2, by omega, by omega⟩
      · cases this
  refine ⟨?_, fun i hi => ?_, fun f hf => ?_, fun i hi => ?_⟩
  · unfold imF
    rw [if_neg (by simp only [growI, List.length_append, List.length_map, List.length_singleton]; omega), if_pos (show kRt (growI m s).strs (growI m s).keys = true from kRt_grow _ _ s hk.1)]
  · simp only [growI, List.length_append, List.length_map, List.length_singleton] at hi
    by_cases hil : i < m.funs.length
    · have e : (growI m s).funs[i] = growF m.funs[i] := by simp only [growI]; rw [List.getElem_append_left (by simpa using hil), List.getElem_map]
      rw [e]
      exact frF_grow (h.fr i hil) (hl _ (List.getElem_mem hil))
    · obtain rfl : i = m.funs.length := by omega
      have e : (growI m s).funs[m.funs.length] = lastF := by simp only [growI]; rw [List.getElem_append_right (by simp)]; simp
      rw [e]
      have : (m.funs.length == 0) = false := by simp; intro h0; rw [h0] at hk; simp at hk
      rw [this]
      rfl
  · simp only [growI] at hf
    rcases List.mem_append.1 hf with hf | hf
    · obtain ⟨g, hg', rfl⟩ := List.mem_map.1 hf
      exact cd_grow (h.cd g hg')
    · simp at hf
      subst hf
      exact cd_last m s
  · simp only [growI, List.length_append, List.length_map, List.length_singleton] at hi
    by_cases hil : i < m.funs.length
    · have e : (growI m s).funs[i] = growF m.funs[i] := by simp only [growI]; rw [List.getElem_append_left (by simpa using hil), List.getElem_map]
      have hlen := frF_len (h.fr i hil)
      rw [e, flow0_grow _ hlen.1]
      exact flow_more (h.cd _ (List.getElem_mem hil)) _ _ _ (HOk.init (by omega)) (h.fl i hil)
    · obtain rfl : i = m.funs.length := by omega
      have e : (growI m s).funs[m.funs.length] = lastF := by simp only [growI]; rw [List.getElem_append_right (by simp)]; simp
      rw [e]
      exact flow_last _ N

end Go.Proofs.YtcljlmjcjfmppaaDoor
