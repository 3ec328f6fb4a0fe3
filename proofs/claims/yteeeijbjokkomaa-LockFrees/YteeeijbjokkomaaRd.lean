/- Who waits or was woken where: each once; what the acts leave of it. Nothing of the program is in it. -/
import Derived.Test.YteeeijbjokkomaaRc
set_option linter.unusedSimpArgs false
set_option linter.unusedVariables false
namespace Go.Proofs.Yteeeijbjokkomaa
open Go Go.RowKit

theorem nodup_len : ∀ (n : Nat) (l : List Nat), l.Nodup → (∀ x ∈ l, x < n) → l.length ≤ n
  | 0, l, _, h => by
    cases l with
    | nil => simp
    | cons x l => have := h x (by simp); omega
  | n + 1, l, hd, h => by
    by_cases hm : n ∈ l
    · have h1 := nodup_len n (l.erase n) (hd.erase n) (fun x hx => by
        have h2 := (hd.mem_erase_iff).1 hx
        have := h x h2.2
        have := h2.1
        omega)
      rw [List.length_erase_of_mem hm] at h1
      omega
    · have h1 := nodup_len n l hd (fun x hx => by
        have := h x hx
        have : x ≠ n := fun e => hm (e ▸ hx)
        omega)
      omega

/-- Who, where. -/
def pw (w : WW) : Int × Int := (w.t, w.m)
def ps (A : LL) : List (Int × Int) := A.W.map pw ++ A.K.map (fun k => pw k.1)

structure UQ (A : LL) : Prop where
  nd : (ps A).Nodup
  own : ∀ m : Nat, ∀ t : Int, 0 ≤ t → (monA A m).1 = t → (t, (m : Int)) ∉ ps A
  th : ∀ p ∈ ps A, 0 ≤ p.1 ∧ p.1 < 5 ∧ 0 ≤ p.2 ∧ p.2 < 2
  mo : ∀ m : Nat, (monA A m).1 < 5
  len : A.M.length = 2

theorem UQ.few {A : LL} (h : UQ A) : A.W.length + A.K.length ≤ 10 := by
  have h1 := nodup_len 10 ((ps A).map (fun p => (p.1 * 2 + p.2).toNat)) (by
    rw [List.Nodup, List.pairwise_map]
    refine h.nd.imp_of_mem (fun {a b} ha hb hne e => hne ?_)
    have ta := h.th a ha
    have tb := h.th b hb
    obtain ⟨a1, a2⟩ := a
    obtain ⟨b1, b2⟩ := b
    simp only at ta tb e
    have e1 : a1 = b1 := by omega
    have e2 : a2 = b2 := by omega
    rw [e1, e2]) (fun x hx => by
    obtain ⟨p, hp, rfl⟩ := List.mem_map.1 hx
    have := h.th p hp
    omega)
  simpa [ps] using h1

/-- What is told of the rows is all that counts. -/
theorem UQ.perm {A A' : LL} (h : UQ A) (hp : (ps A').Perm (ps A)) (hm : A'.M = A.M) : UQ A' := by
  have hmon : ∀ m, monA A' m = monA A m := fun m => by unfold monA; rw [hm]
  refine ⟨hp.nodup_iff.2 h.nd, fun m t ht hmt => ?_, fun p hpm => h.th p (hp.mem_iff.1 hpm), fun m => by rw [hmon]; exact h.mo m, by rw [hm]; exact h.len⟩
  rw [hmon] at hmt
  exact fun k => h.own m t ht hmt (hp.mem_iff.1 k)
theorem UQ.sub {A A' : LL} (h : UQ A) (hs : (ps A').Sublist (ps A)) (hm : ∀ m : Nat, (monA A' m).1 = (monA A m).1 ∨ (monA A' m).1 = -1 ∨ (0 ≤ (monA A' m).1 ∧ (monA A' m).1 < 5 ∧ ((monA A' m).1, (m : Int)) ∉ ps A')) (hl : A'.M.length = 2) : UQ A' := by
  refine ⟨h.nd.sublist hs, fun m t ht hmt => ?_, fun p hpm => h.th p (hs.subset hpm), fun m => ?_, hl⟩
  · rcases hm m with h1 | h1 | h1
    · exact fun k => h.own m t ht (h1 ▸ hmt) (hs.subset k)
    · omega
    · rw [← hmt]; exact h1.2.2
  · rcases hm m with h1 | h1 | h1
    · rw [h1]; exact h.mo m
    · omega
    · exact h1.2.1

theorem mon_put {A : LL} {n : Nat} (hn : n < A.M.length) (x : MM) (k : Nat) : monA (putA A (n : Int) x) (k : Int) = if k = n then x else monA A (k : Int) := by
  rw [putA_M]
  unfold monA
  simp only [Int.toNat_natCast, List.getD, List.getElem?_set]
  by_cases h : n = k
  · subst h; simp [hn]
  · rw [if_neg h, if_neg (fun e => h e.symm)]
theorem ps_put (A : LL) (m : Int) (x : MM) : ps (putA A m x) = ps A := rfl
theorem len_put (A : LL) (m : Int) (x : MM) : (putA A m x).M.length = A.M.length := by simp [putA]

theorem wrong_nat {A : LL} {m t : Int} (h : wrongA A m t = false) : ∃ n : Nat, m = n ∧ n < A.M.length ∧ 0 ≤ t ∧ t < 256 := by
  obtain ⟨z1, z2, z3, z4⟩ := wrong_no h
  exact ⟨m.toNat, by omega, by omega, z3, z4⟩

theorem UQ.lock {A : LL} (h : UQ A) (m t : Int) (ht : t < 5) : UQ (lockA A m t) := by
  unfold lockA
  split
  · rename_i e
    unfold lockE at e
    cases hw : wrongA A m t
    · rw [hw] at e
      simp only [if_neg Bool.false_ne_true] at e
      obtain ⟨n, rfl, hn, ht0, _⟩ := wrong_nat hw
      cases hf : freeM (monA A n) t
      · rw [hf] at e; simp at e
      · cases hwa : waitsA A t
        · by_cases hwk : 0 ≤ wokeA A t
          · rw [hf, hwa] at e; simp [hwk] at e
          · have hps : ∀ q, (t, q) ∉ ps A := by
              intro q hq
              unfold ps at hq
              rcases List.mem_append.1 hq with h1 | h1
              · obtain ⟨w, hwm, e1⟩ := List.mem_map.1 h1
                unfold waitsA at hwa
                rw [List.any_eq_false] at hwa
                have := hwa w hwm
                simp [pw] at e1
                simp [e1.1] at this
              · obtain ⟨k, hkm, e1⟩ := List.mem_map.1 h1
                rcases fst_cases (fun k : KK => k.1.t == t) A.K with ⟨_, h2⟩ | ⟨j, hj, h2, _⟩
                · have := h2 k hkm
                  simp [pw] at e1
                  simp [e1.1] at this
                · exact hwk (by unfold wokeA; rw [h2]; omega)
            refine h.sub (by rw [ps_put]; exact List.Sublist.refl _) (fun k => ?_) (by rw [len_put]; exact h.len)
            rw [mon_put hn]
            split
            · exact .inr (.inr ⟨ht0, ht, by rw [ps_put]; exact hps _⟩)
            · exact .inl rfl
        · rw [hf, hwa] at e; simp at e
    · rw [hw] at e; simp at e
  · exact h

theorem has_zero {A : LL} {m t : Int} (e : hasE A m t = 0) : ∃ n : Nat, m = n ∧ n < A.M.length ∧ 0 ≤ t ∧ t < 256 ∧ (monA A n).1 = t := by
  unfold hasE at e
  cases hw : wrongA A m t
  · obtain ⟨n, rfl, hn, h1, h2⟩ := wrong_nat hw
    rw [hw] at e
    simp only [if_neg Bool.false_ne_true] at e
    refine ⟨n, rfl, hn, h1, h2, ?_⟩
    cases hq : (monA A n).1 == t
    · rw [hq] at e; simp at e
    · simpa using hq
  · rw [hw] at e; simp at e

theorem UQ.unlock {A : LL} (h : UQ A) (m t : Int) : UQ (unlockA A m t) := by
  unfold unlockA
  split
  · rename_i e
    obtain ⟨n, rfl, hn, h1, _, h2⟩ := has_zero e
    refine h.sub (by rw [ps_put]; exact List.Sublist.refl _) (fun k => ?_) (by rw [len_put]; exact h.len)
    rw [mon_put hn]
    split
    · rename_i ek
      subst ek
      unfold nrm
      split
      · exact .inr (.inl rfl)
      · exact .inl h2.symm
    · exact .inl rfl
  · exact h

theorem UQ.wait {A : LL} (h : UQ A) (m t u : Int) (ht : t < 5) : UQ (waitA A m t u) := by
  unfold waitA
  split
  · rename_i e
    unfold waitE at e
    split at e
    · cases e
    split at e
    · cases e
    obtain ⟨n, rfl, hn, h1, _, h2⟩ := has_zero e
    have hno := h.own n t h1 h2
    have hp : (ps { putA A (n : Int) (-1, 0) with W := A.W ++ [⟨t, (monA A n).2, n, u⟩] }).Perm ((t, (n : Int)) :: ps A) := by
      unfold ps
      simp only [putA, List.map_append, List.map_cons, List.map_nil, pw, List.append_assoc, List.cons_append, List.nil_append]
      exact List.perm_middle
    have hmon : ∀ k : Nat, monA { putA A (n : Int) (-1, 0) with W := A.W ++ [⟨t, (monA A n).2, n, u⟩] } (k : Int) = if k = n then (-1, 0) else monA A (k : Int) := fun k => mon_put hn (-1, 0) k
    have hlen := h.len
    refine ⟨hp.nodup_iff.2 (List.nodup_cons.2 ⟨hno, h.nd⟩), fun k t' ht' hk => ?_, fun p hpm => ?_, fun k => ?_, by simp only [len_put]; exact h.len⟩
    · rw [hmon] at hk
      intro hc
      rcases List.mem_cons.1 (hp.mem_iff.1 hc) with h3 | h3
      · split at hk
        · simp at hk; omega
        · rename_i hkn
          simp only [Prod.mk.injEq] at h3
          omega
      · split at hk
        · simp at hk; omega
        · exact h.own k t' ht' hk h3
    · rcases List.mem_cons.1 (hp.mem_iff.1 hpm) with rfl | h3
      · refine ⟨h1, ht, by simp only; omega, by simp only; omega⟩
      · exact h.th p h3
    · rw [hmon]
      split
      · simp
      · exact h.mo k
  · exact h

theorem spl_perm {α : Type} (P : α → Bool) (most : Int) (l : List α) : ((spl P most l).1 ++ (spl P most l).2).Perm l := by
  have key : ∀ (l : List α) (r : List α × List α), ((l.foldl (splS P most) r).1 ++ (l.foldl (splS P most) r).2).Perm (r.1 ++ r.2 ++ l) := by
    intro l
    induction l with
    | nil => intro r; simp
    | cons x l ih =>
      intro r
      rw [List.foldl_cons]
      refine (ih _).trans ?_
      unfold splS
      split
      · simp only [List.append_assoc, List.cons_append, List.nil_append]
        refine List.Perm.append_left _ ?_
        exact (List.perm_middle (l₁ := r.2)).symm
      · simp
  have := key l ([], [])
  simpa [spl] using this

theorem UQ.notify {A : LL} (h : UQ A) (m t : Int) (all : Bool) : UQ (notifyA A m t all) := by
  unfold notifyA
  split
  · refine h.perm ?_ rfl
    unfold ps
    have hp := (spl_perm (fun w => w.m == m) (if all then (A.W.length : Int) else 1) A.W).map pw
    rw [List.map_append] at hp
    simp only [List.map_append, List.map_map]
    have e : ((notS A m all).1.map ((fun k : KK => pw k.1) ∘ fun w => (w, true))) = (notS A m all).1.map pw := rfl
    rw [e]
    unfold notS
    refine List.Perm.trans ?_ (hp.append_right _)
    rw [List.append_assoc]
    refine (List.perm_append_comm).trans ?_
    rw [List.append_assoc]
    refine (List.perm_append_comm).trans ?_
    rw [List.append_assoc]
  · exact h

theorem insU_perm (x : WW) : ∀ l, (insU x l).Perm (x :: l)
  | [] => List.Perm.refl _
  | y :: l => by
    unfold insU
    split
    · exact List.Perm.refl _
    · exact ((insU_perm x l).cons y).trans (List.Perm.swap x y l)
theorem srt_perm (l : List WW) : (srt l).Perm l := by
  have key : ∀ (l r : List WW), (l.foldl (fun r x => insU x r) r).Perm (r ++ l) := by
    intro l
    induction l with
    | nil => intro r; simp
    | cons x l ih =>
      intro r
      rw [List.foldl_cons]
      exact (ih _).trans (((insU_perm x r).append_right l).trans (List.perm_middle (l₁ := r)).symm)
  simpa [srt] using key l []

theorem UQ.expire {A : LL} (h : UQ A) (now : Int) : UQ (expireA A now) := by
  unfold expireA
  refine h.perm ?_ rfl
  unfold ps
  have hs := spl_perm (dueP now) A.W.length A.W
  rw [spl_all] at hs
  have hp := (((srt_perm (A.W.filter (dueP now))).append_right _).trans hs).map pw
  rw [List.map_append] at hp
  simp only [List.map_append, List.map_map]
  have e : ((dueL A now).map ((fun k : KK => pw k.1) ∘ fun w => (w, false))) = (srt (A.W.filter (dueP now))).map pw := rfl
  rw [e]
  refine List.Perm.trans ?_ (hp.append_right _)
  rw [List.append_assoc]
  refine (List.perm_append_comm).trans ?_
  rw [List.append_assoc]
  refine (List.perm_append_comm).trans ?_
  rw [List.append_assoc]

theorem UQ.drop {A : LL} (h : UQ A) (t : Int) : UQ (dropA A t) := by
  refine h.sub ?_ (fun m => ?_) (by unfold dropA; simp [h.len])
  · unfold ps dropA
    exact (List.filter_sublist.map _).append (List.filter_sublist.map _)
  · unfold dropA monA
    simp only [Int.toNat_natCast, List.getD, List.getElem?_map]
    cases A.M[m]? with
    | none => exact .inl rfl
    | some x =>
      simp only [Option.map_some, Option.getD_some]
      unfold dropM
      split
      · exact .inr (.inl rfl)
      · exact .inl rfl

theorem UQ.relock {A : LL} (h : UQ A) (t : Int) (hk : ∀ k ∈ A.K, 0 ≤ k.1.m ∧ k.1.m < A.M.length) : UQ (relockA A t) := by
  unfold relockA
  split
  · rename_i e
    rcases woke_cases A t with ⟨e1, _⟩ | ⟨n, hn, e1, _, e3⟩
    · exfalso
      unfold relE at e
      rw [e1] at e
      revert e
      split
      · split <;> simp
      · simp
    · rw [e1]
      simp only [Int.toNat_natCast, List.getElem?_eq_getElem hn]
      have hkm := hk _ (List.getElem_mem hn)
      obtain ⟨q, hq⟩ : ∃ q : Nat, A.K[n].1.m = (q : Int) := ⟨A.K[n].1.m.toNat, by omega⟩
      rw [hq]
      have hsub : (ps { putA A (q : Int) (t, A.K[n].1.n) with K := A.K.eraseIdx n }).Sublist (ps A) := by
        unfold ps
        exact (List.Sublist.refl _).append ((List.eraseIdx_sublist _ _).map _)
      have hmem : (t, (q : Int)) ∈ ps A := by
        unfold ps
        exact List.mem_append.2 (.inr (List.mem_map.2 ⟨A.K[n], List.getElem_mem hn, by simp [pw, e3, hq]⟩))
      have hth := h.th _ hmem
      have hnot : (t, (q : Int)) ∉ ps { putA A (q : Int) (t, A.K[n].1.n) with K := A.K.eraseIdx n } := by
        have hp : (ps A).Perm ((t, (q : Int)) :: ps { putA A (q : Int) (t, A.K[n].1.n) with K := A.K.eraseIdx n }) := by
          unfold ps
          simp only [putA]
          have e2 : A.K.Perm (A.K[n] :: A.K.eraseIdx n) := by
            rw [List.eraseIdx_eq_take_drop_succ]
            conv => lhs; rw [← List.take_append_drop n A.K, List.drop_eq_getElem_cons hn]
            exact List.perm_middle
          have e4 := (e2.map (fun k : KK => pw k.1)).append_left (A.W.map pw)
          rw [List.map_cons] at e4
          refine e4.trans ?_
          have e5 : pw A.K[n].1 = (t, (q : Int)) := by simp [pw, e3, hq]
          rw [e5]
          exact List.perm_middle
        exact (List.nodup_cons.1 (hp.nodup_iff.1 h.nd)).1
      refine h.sub hsub (fun m => ?_) (by simp only [len_put]; exact h.len)
      have hmon : monA { putA A (q : Int) (t, A.K[n].1.n) with K := A.K.eraseIdx n } (m : Int) = if m = q then (t, A.K[n].1.n) else monA A (m : Int) := mon_put (by omega) _ m
      rw [hmon]
      split
      · rename_i em
        subst em
        exact .inr (.inr ⟨hth.1, hth.2.1, hnot⟩)
      · exact .inl rfl
  · exact h

end Go.Proofs.Yteeeijbjokkomaa
