/- A step with what it leaves; who neither waits nor was woken locks. -/
import Derived.Test.YteeeijbjokkomaaRd
set_option linter.unusedSimpArgs false
set_option linter.unusedVariables false
namespace Go.Proofs.Yteeeijbjokkomaa
open Go Go.RowKit

theorem PX.ok {w : World} {p : Nat} {bs : List Nat} {A : LL} (h : PX w p bs A) : OKA A := by
  obtain ⟨_, _, _, _, h⟩ := h
  exact h.ok

theorem PX_free {w : World} {p : Nat} {bs : List Nat} {A : LL} (h : PX w p bs A) (m t : Int) : Calls Try.prog 20 #[.pointer (some ⟨p, 0, none⟩), .int .i64 m, .int .i64 t] w fun e w' => e = .returned (.bool (freeA A m t)) ∧ Bw w w' := by
  obtain ⟨_, _, _, _, h⟩ := h
  exact Free_any h m t

theorem step_uq {wr : World} {p : Nat} {bs : List Nat} {A : LL} (h : PX wr p bs A) (hu : UQ A) (x : AX) (hx : AOK x) (ht : x.t < 5) (hd : 0 < x.d) :
    Calls Try.prog 10 #[.pointer (some ⟨p, 0, none⟩), rE, actV x] wr fun e w' => ∃ v bs' A', e = .returned v ∧ PX w' p bs' A' ∧ Nx bs wr w' bs' ∧ UQ A' := by
  have hf := hu.few
  have hbig : A.W.length + A.K.length < 1000 := by omega
  by_cases d1 : x.d = 1
  · exact (step_lock h x hx hbig d1).mono fun e w' ⟨v, bs', he, hp, hn⟩ => ⟨v, bs', _, he, hp, hn, hu.lock _ _ ht⟩
  by_cases d2 : x.d = 2
  · exact (step_unlock h x hx hbig d2).mono fun e w' ⟨v, bs', he, hp, hn⟩ => ⟨v, bs', _, he, hp, hn, hu.unlock _ _⟩
  by_cases d3 : x.d = 3
  · exact (step_wait h x hx hbig d3).mono fun e w' ⟨v, bs', he, hp, hn⟩ => ⟨v, bs', _, he, hp, hn, hu.wait _ _ _ ht⟩
  by_cases d4 : x.d = 4
  · cases h0 : ((notifyL A x.m x.t x.b).length == 0)
    · exact (step_notify0 h x hx hbig d4 h0).mono fun e w' ⟨v, bs', he, hp, hn⟩ => ⟨v, bs', _, he, hp, hn, hu.notify _ _ _⟩
    · exact (step_notify1 h x hx hbig d4 h0).mono fun e w' ⟨v, bs', he, hp, hn⟩ => ⟨v, bs', _, he, hp, hn, hu.notify _ _ _⟩
  by_cases d5 : x.d = 5
  · have hl := List.length_filter_le (dueP x.n) A.W
    exact (step_expire h x hx hbig d5 (by omega)).mono fun e w' ⟨v, bs', he, hp, hn⟩ => ⟨v, bs', _, he, hp, hn, hu.expire _⟩
  by_cases d6 : x.d = 6
  · exact (step_relock h x hx hbig d6).mono fun e w' ⟨v, bs', he, hp, hn⟩ => ⟨v, bs', _, he, hp, hn, hu.relock _ (fun k hk => (h.ok.K k hk).m)⟩
  by_cases d7 : x.d = 7
  · exact (step_drop h x hx hbig d7).mono fun e w' ⟨v, bs', he, hp, hn⟩ => ⟨v, bs', _, he, hp, hn, hu.drop _⟩
  · exact (step_else h x hx (by omega)).mono fun e w' ⟨v, bs', he, hp, hn⟩ => ⟨v, bs', _, he, hp, hn, hu⟩

theorem uq_start : UQ ⟨[(-1, 0), (-1, 0)], [], []⟩ := by
  have hm : ∀ m : Nat, (monA ⟨[(-1, 0), (-1, 0)], [], []⟩ (m : Int)).1 = -1 := by
    intro m
    unfold monA
    match m with
    | 0 => rfl
    | 1 => rfl
    | k + 2 => rw [Int.toNat_natCast]; rfl
  refine ⟨by simp [ps], fun m t ht hmt => by rw [hm] at hmt; omega, fun p hp => by simp [ps] at hp, fun m => by rw [hm]; decide, rfl⟩

/-- One that neither waits nor was woken has a monitor so often. -/
structure FQ (A : LL) (m : Nat) (t j : Int) : Prop where
  len : A.M.length = 2
  wa : waitsA A t = false
  wk : wokeA A t < 0
  mo : monA A (m : Int) = nrm (t, j)

section
variable {A : LL} {m : Nat} {t j : Int}
theorem FQ.wrong (h : FQ A m t j) (hm : m < 2) {t' : Int} (h1 : 0 ≤ t') (h2 : t' ≤ 255) : wrongA A m t' = false := by
  unfold wrongA
  rw [h.len, oneOf_yes (by omega) (by omega), oneOf_yes h1 (by omega)]
  rfl
theorem FQ.lock (h : FQ A m t j) (hm : m < 2) (h1 : 5 ≤ t) (h2 : t ≤ 255) (hj : 0 ≤ j ∧ j < 100) : lockE A m t = 0 ∧ FQ (lockA A m t) m t (j + 1) := by
  have hw := h.wrong hm (t' := t) (by omega) h2
  have hf : freeM (monA A m) t = true := by
    rw [h.mo]
    unfold nrm freeM
    split <;> simp
  have hn : (monA A m).2 = j := by
    rw [h.mo]
    unfold nrm
    split
    · rename_i e; simp only at e; rw [e]
    · rfl
  have hwk := h.wk
  have he : lockE A m t = 0 := by
    unfold lockE
    rw [hw, if_neg Bool.false_ne_true, hf, h.wa, hn]
    simp
    omega
  refine ⟨he, ?_⟩
  unfold lockA
  rw [he, if_pos rfl, hn]
  refine ⟨by rw [len_put]; exact h.len, h.wa, h.wk, ?_⟩
  rw [mon_put (by rw [h.len]; exact hm), if_pos rfl]
  unfold nrm
  rw [if_neg (by simp only; omega)]
theorem FQ.unlock (h : FQ A m t j) (hm : m < 2) (h1 : 5 ≤ t) (h2 : t ≤ 255) (hj : 1 ≤ j) : hasE A m t = 0 ∧ FQ (unlockA A m t) m t (j - 1) := by
  have hw := h.wrong hm (t' := t) (by omega) h2
  have hmo : monA A m = (t, j) := by rw [h.mo]; unfold nrm; rw [if_neg (by simp only; omega)]
  have he : hasE A m t = 0 := by unfold hasE; rw [hw, hmo]; simp
  refine ⟨he, ?_⟩
  unfold unlockA
  rw [he, if_pos rfl, hmo]
  refine ⟨by rw [len_put]; exact h.len, h.wa, h.wk, ?_⟩
  rw [mon_put (by rw [h.len]; exact hm), if_pos rfl]
theorem FQ.free (h : FQ A m t j) (hm : m < 2) (h1 : 5 ≤ t) (h2 : t ≤ 255) : freeA A m t = true := by
  unfold freeA
  rw [h.wrong hm (by omega) h2, h.mo]
  unfold nrm freeM
  split <;> simp
theorem FQ.other (h : FQ A m t j) (hm : m < 2) (h1 : 5 ≤ t) (hj : 1 ≤ j) : freeA A m 4 = false ∧ lockE A m 4 = 7 ∧ lockA A m 4 = A := by
  have hw := h.wrong hm (t' := 4) (by decide) (by decide)
  have hf : freeM (monA A m) 4 = false := by
    rw [h.mo]
    unfold nrm freeM
    rw [if_neg (by simp only; omega)]
    simp
    omega
  have he : lockE A m 4 = 7 := by unfold lockE; rw [hw, hf]; simp
  refine ⟨by unfold freeA; rw [hw, hf]; rfl, he, ?_⟩
  unfold lockA
  rw [he, if_neg (by decide)]
theorem FQ.end (h : FQ A m t 0) (hm : m < 2) (h1 : 5 ≤ t) (h2 : t ≤ 255) : freeA A m 4 = true ∧ hasE A m t = 8 ∧ ownerV A m = .tuple #[.int .i64 (-1), .int .i64 0, .int .i64 0] := by
  have hmo : monA A m = (-1, 0) := h.mo
  refine ⟨?_, ?_, ?_⟩
  · unfold freeA
    rw [h.wrong hm (by decide) (by decide), hmo]
    rfl
  · unfold hasE
    rw [h.wrong hm (by omega) h2, hmo]
    have : ((-1 : Int) == t) = false := by simp; omega
    simp [this]
  · unfold ownerV
    rw [h.len, hmo, oneOf_yes (by omega) (by omega)]
    rfl
end

/-- At first. -/
theorem uq_frees {A : LL} (h : UQ A) {m : Nat} {t : Int} (hm : m < 2) (h1 : 5 ≤ t) (h2 : t ≤ 255) (hok : OKA A) : (freeA A m t = true ∧ FQ A m t 0) ∨ (freeA A m t = false ∧ lockE A m t = 7) := by
  have hw : wrongA A m t = false := by
    unfold wrongA
    rw [h.len, oneOf_yes (by omega) (by omega), oneOf_yes (by omega) (by omega)]
    rfl
  have hwa : waitsA A t = false := by
    unfold waitsA
    rw [List.any_eq_false]
    intro w hwm hc
    have := (h.th (pw w) (by unfold ps; exact List.mem_append.2 (.inl (List.mem_map_of_mem hwm)))).2.1
    simp [pw] at this hc
    omega
  have hwk : wokeA A t < 0 := by
    rcases woke_cases A t with ⟨e1, _⟩ | ⟨n, hn, e1, _, e3⟩
    · omega
    · exfalso
      have := (h.th (pw A.K[n].1) (by unfold ps; exact List.mem_append.2 (.inr (List.mem_map.2 ⟨_, List.getElem_mem hn, rfl⟩)))).2.1
      simp only [pw] at this
      omega
  cases hf : freeM (monA A m) t
  · right
    refine ⟨by unfold freeA; rw [hw, hf]; rfl, ?_⟩
    unfold lockE
    rw [hw, hf]
    simp
  · left
    refine ⟨by unfold freeA; rw [hw, hf]; rfl, h.len, hwa, hwk, ?_⟩
    have hmo := h.mo m
    unfold freeM at hf
    have hn : (monA A m).1 = -1 := by
      simp at hf
      omega
    have hkm : okM (monA A m) := by
      unfold monA
      simp only [Int.toNat_natCast, List.getD]
      cases hq : A.M[m]? with
      | none => exact .inl rfl
      | some x => exact hok.M x (List.mem_of_getElem? hq)
    rcases hkm with e | e
    · rw [e]; rfl
    · omega

end Go.Proofs.Yteeeijbjokkomaa
