/- What is read is told as the same bytes; bytes cut short; how many bytes. Plain data. -/
import Derived.Test.YtfhnhbpmiodomaaDoorCb
set_option linter.unusedSimpArgs false
set_option linter.unusedVariables false
namespace Go.Proofs.YtfhnhbpmiodomaaDoor

def Byt (b : List Int) : Prop := ∀ c ∈ b, 0 ≤ c ∧ c ≤ 255

/-- What is read without a fault is told as the bytes that were read. -/
def Inv {α : Type} (m : List Int → St → α × St) (f : α → List It) : Prop :=
  ∀ b i x j, Byt b → i ≤ b.length → m b (i, 0) = (x, (j, 0)) → oks (f x) = true ∧ b.drop i = byts (f x) ++ b.drop j ∧ j = i + (byts (f x)).length ∧ j ≤ b.length

theorem drop_len {b : List Int} {i j : Nat} {B : List Int} (hi : i ≤ b.length) (h : b.drop i = B ++ b.drop j) (hj : j = i + B.length) : j ≤ b.length := by
  have e := congrArg List.length h
  rw [List.length_append, List.length_drop, List.length_drop] at e
  omega

theorem nM_inv : Inv nM iN := by
  intro b i x j hb hi h
  unfold nM at h
  simp only [if_true] at h
  split at h
  · rename_i k n he
    simp only [Prod.mk.injEq, and_true] at h
    obtain ⟨rfl, rfl⟩ := h
    obtain ⟨q, hq, h1, h2, _, h4⟩ := rd_inv _ _ _ _ (fun c hc => hb c (List.mem_of_mem_drop hc)) (by omega) he
    simp only [Int.pow_zero, Int.mul_one] at hq
    subst hq
    have hp : pl (q : Int) = true := by
      rw [lim0] at h4
      unfold pl; rw [decide_eq_true_eq]; omega
    have e : byts (iN (q : Int)) = nb q := by simp [byts, iN, It.b, hp]
    rw [Nat.zero_add] at h2
    rw [Nat.sub_zero, List.drop_drop] at h1
    rw [e]
    subst h2
    exact ⟨by simp [oks, iN, It.ok, hp], h1, rfl, drop_len hi h1 rfl⟩
  · simp at h

theorem zz_of_sz {n : Int} (h : 0 ≤ n) : zz (sz n) = n := by
  unfold zz sz
  split <;> split <;> omega

theorem zM_inv : Inv zM (fun z => [.Z z]) := by
  intro b i x j hb hi h
  unfold zM at h
  simp only [Prod.mk.injEq] at h
  obtain ⟨rfl, h2⟩ := h
  have h3 : nM b (i, 0) = ((nM b (i, 0)).1, (j, 0)) := by rw [← h2]
  obtain ⟨h4, h5, h6, h7⟩ := nM_inv b i _ j hb hi h3
  generalize (nM b (i, 0)).1 = n at *
  have hp : pl n = true := by simpa [oks, iN, It.ok] using h4
  have hn := hp
  unfold pl at hn
  rw [decide_eq_true_eq] at hn
  have hs : sg (sz n) = true := by
    unfold sg sz
    rw [decide_eq_true_eq]
    split <;> omega
  have e : byts [It.Z (sz n)] = byts (iN n) := by simp [byts, iN, It.b, hp, hs, zz_of_sz hn.1]
  rw [e]
  exact ⟨by simp [oks, It.ok, hs], h5, h6, h7⟩

theorem cM_inv {b : List Int} {i n j : Nat} (hb : Byt b) (hi : i ≤ b.length) (h : cM b (i, 0) = (n, (j, 0))) : pl n = true ∧ b.drop i = nb n ++ b.drop j ∧ j = i + (nb n).length ∧ j + n ≤ b.length := by
  have hc := (cM_ok b).1 (i, 0) hi
  rw [h] at hc
  unfold cM at h
  split at h
  · rename_i hlt
    simp only [Prod.mk.injEq, failS] at h
    obtain ⟨_, h⟩ := h
    split at h
    · simp at h
    · rename_i h0
      rw [h] at h0
      exact absurd rfl h0
  · rename_i hlt
    simp only [Prod.mk.injEq] at h
    obtain ⟨h1, h2⟩ := h
    have h3 : nM b (i, 0) = ((nM b (i, 0)).1, (j, 0)) := by rw [← h2]
    obtain ⟨h4, h5, h6, h7⟩ := nM_inv b i _ j hb hi h3
    generalize (nM b (i, 0)).1 = N at *
    have hp : pl N = true := by simpa [oks, iN, It.ok] using h4
    have hn := hp
    unfold pl at hn
    rw [decide_eq_true_eq] at hn
    have eN : (n : Int) = N := by omega
    have e : byts (iN N) = nb n := by simp [byts, iN, It.b, hp, h1]
    rw [e] at h5 h6
    exact ⟨by rw [eN]; exact hp, h5, h6, hc⟩

theorem rep_inv {α : Type} {one : List Int → St → α × St} {f : α → List It} (h1 : Inv one f) {b : List Int} (ho : Ok b (one b)) (hb : Byt b) : ∀ (n : Nat) (acc l : List α) (p j : Nat), p ≤ b.length → rep (one b) n acc (p, 0) = (l, (j, 0)) →
    ∃ l', l = acc ++ l' ∧ l'.length = n ∧ oks (l'.flatMap f) = true ∧ b.drop p = byts (l'.flatMap f) ++ b.drop j ∧ j = p + (byts (l'.flatMap f)).length
  | 0, acc, l, p, j, hp, h => by
    simp only [rep, Prod.mk.injEq, and_true] at h
    obtain ⟨rfl, rfl⟩ := h
    exact ⟨[], by simp, rfl, rfl, by simp [byts], by simp [byts]⟩
  | n + 1, acc, l, p, j, hp, h => by
    unfold rep at h
    split at h
    · rename_i h0
      obtain ⟨⟨x, k, e⟩, hx⟩ : ∃ x, one b (p, 0) = x := ⟨_, rfl⟩
      rw [hx] at h h0
      simp only at h0
      subst h0
      obtain ⟨i1, i2, i3, i4⟩ := h1 b p x k hb hp hx
      obtain ⟨l', rfl, e2, e3, e4, e5⟩ := rep_inv h1 ho hb n (acc ++ [x]) l k j i4 h
      refine ⟨x :: l', by simp, by simp [e2], ?_, ?_, ?_⟩
      · rw [List.flatMap_cons, oks_app]; exact ⟨i1, e3⟩
      · rw [List.flatMap_cons, byts_app, i2, e4, List.append_assoc]
      · rw [List.flatMap_cons, byts_app, List.length_append]; omega
    · rename_i h0
      simp only [Prod.mk.injEq] at h
      rw [h.2] at h0
      exact absurd rfl h0

theorem lM_inv {α : Type} {one : List Int → St → α × St} {f : α → List It} (h1 : Inv one f) (ho : ∀ b, Ok b (one b)) : Inv (fun b => lM b (one b)) (iL f) := by
  intro b i l j hb hi h
  simp only [lM] at h
  obtain ⟨⟨n, p, e⟩, hc⟩ : ∃ x, cM b (i, 0) = x := ⟨_, rfl⟩
  rw [hc] at h
  simp only at h
  have he : e = 0 := by
    have h0 : (rep (one b) n [] (p, e)).2.2 = 0 := by rw [h]
    by_cases h2 : e = 0
    · exact h2
    · rw [(rep_st b (ho b) n [] (p, e)).2.1 h2] at h0; exact absurd h0 h2
  subst he
  obtain ⟨c1, c2, c3, c4⟩ := cM_inv hb hi hc
  obtain ⟨l', e1, e2, e3, e4, e5⟩ := rep_inv h1 (ho b) hb n [] l p j (by omega) h
  rw [List.nil_append] at e1
  subst e1
  have hl : pl ((l.length : Nat) : Int) = true := by rw [e2]; exact c1
  have eB : byts (iL f l) = nb n ++ byts (l.flatMap f) := by
    rw [byts_iL f l hl, byts_flat, e2]
  have hd : b.drop i = byts (iL f l) ++ b.drop j := by rw [eB, c2, e4, List.append_assoc]
  have hj : j = i + (byts (iL f l)).length := by rw [eB, List.length_append]; omega
  refine ⟨?_, hd, hj, drop_len hi hd hj⟩
  rw [show iL f l = .N l.length :: l.flatMap f from rfl, oks_cons]
  exact ⟨hl, e3⟩

theorem tM_inv : Inv tM iStr := by
  intro b i x j hb hi h
  unfold tM at h
  obtain ⟨⟨n, p, e⟩, hc⟩ : ∃ x, cM b (i, 0) = x := ⟨_, rfl⟩
  rw [hc] at h
  simp only [Prod.mk.injEq] at h
  obtain ⟨rfl, rfl, rfl⟩ := h
  obtain ⟨c1, c2, c3, c4⟩ := cM_inv hb hi hc
  have hl : ((b.drop p).take n).length = n := by rw [List.length_take, List.length_drop]; omega
  have eB : byts (iStr ((b.drop p).take n)) = nb n ++ (b.drop p).take n := by simp only [iStr, hl, byts, List.flatMap_cons, List.flatMap_nil, It.b, c1, if_true, Int.toNat_natCast, List.append_nil]
  have hd : b.drop i = byts (iStr ((b.drop p).take n)) ++ b.drop (p + n) := by
    rw [eB, c2, List.append_assoc, ← List.drop_drop, List.take_append_drop]
  have hj : p + n = i + (byts (iStr ((b.drop p).take n))).length := by rw [eB, List.length_append, hl]; omega
  exact ⟨by simp [oks, iStr, It.ok, hl, c1], hd, hj, drop_len hi hd hj⟩

/-- One step of a row of readings. -/
theorem Inv.step {α : Type} {m : List Int → St → α × St} {f : α → List It} (h : Inv m f) {b : List Int} (ho : Ok b (m b)) (hb : Byt b) {i : Nat} (hi : i ≤ b.length) (h0 : (m b (i, 0)).2.2 = 0) :
    ∃ x j, m b (i, 0) = (x, (j, 0)) ∧ oks (f x) = true ∧ b.drop i = byts (f x) ++ b.drop j ∧ j = i + (byts (f x)).length ∧ j ≤ b.length := by
  obtain ⟨⟨x, j, e⟩, hx⟩ : ∃ x, m b (i, 0) = x := ⟨_, rfl⟩
  rw [hx] at h0
  simp only at h0
  subst h0
  exact ⟨x, j, hx, h b i x j hb hi hx⟩

theorem capM_inv : Inv capM iCap := by
  intro b i x j hb hi h
  have h0 : (capM b (i, 0)).2.2 = 0 := by rw [h]
  have s1 := (nM_ok b).z h0
  obtain ⟨x1, j1, e1, a1, d1, l1, k1⟩ := nM_inv.step (nM_ok b) hb hi s1.1
  simp only [capM, e1] at h h0
  obtain ⟨x2, j2, e2, a2, d2, l2, k2⟩ := nM_inv.step (nM_ok b) hb k1 h0
  simp only [e2, Prod.mk.injEq, and_true] at h
  obtain ⟨rfl, rfl⟩ := h
  have eB : byts (iCap (x1, x2)) = byts (iN x1) ++ byts (iN x2) := by simp [iCap, iN, byts]
  refine ⟨?_, by rw [eB, d1, d2, List.append_assoc], by rw [eB, List.length_append]; omega, k2⟩
  simpa [iCap, iN, oks] using And.intro a1 a2

theorem insM_inv : Inv insM iIns := by
  intro b i x j hb hi h
  have h0 : (insM b (i, 0)).2.2 = 0 := by rw [h]
  have s2 := (zM_ok b).z h0
  have s1 := (zM_ok b).z s2.1
  obtain ⟨x1, j1, e1, a1, d1, l1, k1⟩ := nM_inv.step (nM_ok b) hb hi s1.1
  have s2' := s2.1
  simp only [e1] at s2'
  obtain ⟨x2, j2, e2, a2, d2, l2, k2⟩ := zM_inv.step (zM_ok b) hb k1 s2'
  simp only [insM, e1, e2] at h h0
  obtain ⟨x3, j3, e3, a3, d3, l3, k3⟩ := zM_inv.step (zM_ok b) hb k2 h0
  simp only [e3, Prod.mk.injEq, and_true] at h
  obtain ⟨rfl, rfl⟩ := h
  have eB : byts (iIns (x1, x2, x3)) = byts (iN x1) ++ (byts [It.Z x2] ++ byts [It.Z x3]) := by simp [iIns, iN, byts]
  refine ⟨?_, by rw [eB, d1, d2, d3]; simp only [List.append_assoc], by rw [eB, List.length_append, List.length_append]; omega, k3⟩
  simpa [iIns, iN, oks] using And.intro a1 (And.intro a2 a3)

theorem tryM_inv : Inv tryM iTry := by
  intro b i x j hb hi h
  have h0 : (tryM b (i, 0)).2.2 = 0 := by rw [h]
  have s3 := (nM_ok b).z h0
  have s2 := (nM_ok b).z s3.1
  have s1 := (nM_ok b).z s2.1
  obtain ⟨x1, j1, e1, a1, d1, l1, k1⟩ := nM_inv.step (nM_ok b) hb hi s1.1
  have s2' := s2.1
  simp only [e1] at s2'
  obtain ⟨x2, j2, e2, a2, d2, l2, k2⟩ := nM_inv.step (nM_ok b) hb k1 s2'
  have s3' := s3.1
  simp only [e1, e2] at s3'
  obtain ⟨x3, j3, e3, a3, d3, l3, k3⟩ := nM_inv.step (nM_ok b) hb k2 s3'
  simp only [tryM, e1, e2, e3] at h h0
  obtain ⟨x4, j4, e4, a4, d4, l4, k4⟩ := nM_inv.step (nM_ok b) hb k3 h0
  simp only [e4, Prod.mk.injEq, and_true] at h
  obtain ⟨rfl, rfl⟩ := h
  have eB : byts (iTry (x1, x2, x3, x4)) = byts (iN x1) ++ (byts (iN x2) ++ (byts (iN x3) ++ byts (iN x4))) := by simp [iTry, iN, byts]
  refine ⟨?_, by rw [eB, d1, d2, d3, d4]; simp only [List.append_assoc], by rw [eB]; simp only [List.length_append]; omega, k4⟩
  simpa [iTry, iN, oks] using And.intro a1 (And.intro a2 (And.intro a3 a4))

theorem fnM_inv : Inv fnM iFn := by
  intro b i x j hb hi h
  have N := nM_ok b
  have L3 := lM_ok b (nM_ok b)
  have L4 := lM_ok b (capM_ok b)
  have L5 := lM_ok b (insM_ok b)
  have L6 := lM_ok b (tryM_ok b)
  have I3 := lM_inv nM_inv nM_ok
  have I4 := lM_inv capM_inv capM_ok
  have I5 := lM_inv insM_inv insM_ok
  have I6 := lM_inv tryM_inv tryM_ok
  have h0 : (fnM b (i, 0)).2.2 = 0 := by rw [h]
  simp only [fnM] at h0
  have s5 := L6.z h0
  have s4 := L5.z s5.1
  have s3 := L4.z s4.1
  have s2 := L3.z s3.1
  have s1 := N.z s2.1
  have s5 := s5.1
  have s4 := s4.1
  have s3 := s3.1
  have s2 := s2.1
  obtain ⟨x1, j1, e1, a1, d1, l1, k1⟩ := nM_inv.step N hb hi s1.1
  simp only [e1] at s2 s3 s4 s5
  obtain ⟨x2, j2, e2, a2, d2, l2, k2⟩ := nM_inv.step N hb k1 s2
  simp only [e2] at s3 s4 s5
  obtain ⟨x3, j3, e3, a3, d3, l3, k3⟩ := I3.step L3 hb k2 s3
  simp only [e3] at s4 s5
  obtain ⟨x4, j4, e4, a4, d4, l4, k4⟩ := I4.step L4 hb k3 s4
  simp only [e4] at s5
  obtain ⟨x5, j5, e5, a5, d5, l5, k5⟩ := I5.step L5 hb k4 s5
  simp only [fnM, e1, e2, e3, e4, e5] at h
  simp only [e1, e2, e3, e4, e5] at h0
  obtain ⟨x6, j6, e6, a6, d6, l6, k6⟩ := I6.step L6 hb k5 h0
  simp only [e6, Prod.mk.injEq, and_true] at h
  obtain ⟨rfl, rfl⟩ := h
  have eB : byts (iFn ⟨x1, x2, x3, x4, x5, x6⟩) = byts (iN x1) ++ (byts (iN x2) ++ (byts (iL iN x3) ++ (byts (iL iCap x4) ++ (byts (iL iIns x5) ++ byts (iL iTry x6))))) := by
    simp only [iFn, byts, iN, List.flatMap_cons, List.flatMap_append, List.flatMap_nil, List.append_nil]
  refine ⟨?_, by rw [eB, d1, d2, d3, d4, d5, d6]; simp only [List.append_assoc], by rw [eB]; simp only [List.length_append]; omega, k6⟩
  simp only [iFn, oks_cons, oks_app]
  refine ⟨?_, ?_, a3, a4, a5, a6⟩
  · simpa [iN, oks] using a1
  · simpa [iN, oks] using a2

theorem imM_inv : ∀ b i x j, Byt b → i ≤ b.length → imM b (i, 0) = (x, (j, 0)) → oks (iIm x) = true ∧ markL ++ b.drop i = byts (iIm x) ++ b.drop j := by
  intro b i x j hb hi h
  have N := nM_ok b
  have L1 := lM_ok b (tM_ok b)
  have L2 := lM_ok b (lM_ok b (nM_ok b))
  have L4 := lM_ok b (fnM_ok b)
  have I1 := lM_inv tM_inv tM_ok
  have I2 := lM_inv (lM_inv nM_inv nM_ok) (fun b => lM_ok b (nM_ok b))
  have I4 := lM_inv fnM_inv fnM_ok
  have h0 : (imM b (i, 0)).2.2 = 0 := by rw [h]
  simp only [imM] at h0
  have s3 := L4.z h0
  have s2 := N.z s3.1
  have s1 := L2.z s2.1
  have s3 := s3.1
  have s2 := s2.1
  obtain ⟨x1, j1, e1, a1, d1, l1, k1⟩ := I1.step L1 hb hi s1.1
  simp only [e1] at s2 s3
  obtain ⟨x2, j2, e2, a2, d2, l2, k2⟩ := I2.step L2 hb k1 s2
  simp only [e2] at s3
  obtain ⟨x3, j3, e3, a3, d3, l3, k3⟩ := nM_inv.step N hb k2 s3
  simp only [imM, e1, e2, e3] at h
  simp only [e1, e2, e3] at h0
  obtain ⟨x4, j4, e4, a4, d4, l4, k4⟩ := I4.step L4 hb k3 h0
  simp only [e4, Prod.mk.injEq, and_true] at h
  obtain ⟨rfl, rfl⟩ := h
  have eB : byts (iIm ⟨x4, x1, x2, x3⟩) = markL ++ (byts (iL iStr x1) ++ (byts (iL (iL iN) x2) ++ (byts (iN x3) ++ byts (iL iFn x4)))) := by
    simp only [iIm, byts, iN, List.flatMap_cons, List.flatMap_append, List.flatMap_nil, List.append_nil, It.b]
  refine ⟨?_, by rw [eB, d1, d2, d3, d4]; simp only [List.append_assoc]⟩
  simp only [iIm, oks_cons, oks_app]
  refine ⟨rfl, a1, a2, ?_, a4⟩
  simpa [iN, oks] using a3

theorem mkM_inv {b : List Int} (h : (mkM b).2 = 0) : mkM b = (4, 0) ∧ b = markL ++ b.drop 4 ∧ 4 ≤ b.length := by
  unfold mkM at h ⊢
  split at h
  · split at h
    · split at h
      · split at h
        · rename_i h0 h1 h2 h3
          rw [if_pos h0, if_pos h1, if_pos h2, if_pos h3]
          refine ⟨rfl, ?_, (List.getElem?_eq_some_iff.1 h3).1⟩
          match b, h0, h1, h2, h3 with
          | a :: c :: d :: e :: t, h0, h1, h2, h3 =>
            simp at h0 h1 h2 h3
            subst h0 h1 h2 h3
            rfl
        · simp at h
      · simp at h
    · simp at h
  · simp at h

/-- What is decoded is encoded as the same bytes. -/
theorem enc_dec {b : List Int} (hb : Byt b) (h : (decS b).2 = 0) : oks (iIm (decI b)) = true ∧ byts (iIm (decI b)) = b := by
  have hl := (decS_le b).2.2 h
  have hI : decI b = (imM b (mkM b)).1 := by unfold decI; rw [if_pos h]
  have h1 : (imM b (mkM b)).2.2 = 0 ∧ (imM b (mkM b)).2.1 = b.length := by
    unfold decS endS at h hl
    split at h
    · rename_i hlt
      rw [if_pos hlt] at hl
      unfold failS at h hl
      split at h
      · simp at h
      · rename_i h0; exact absurd h h0
    · rename_i hlt
      rw [if_neg hlt] at hl
      exact ⟨h, hl⟩
  have h2 := (imM_ok b).z h1.1
  obtain ⟨m1, m2, m3⟩ := mkM_inv h2.1
  rw [m1] at h1 hI
  obtain ⟨⟨x, j, e⟩, hx⟩ : ∃ x, imM b (4, 0) = x := ⟨_, rfl⟩
  rw [hx] at h1 hI
  simp only at h1 hI
  obtain ⟨rfl, rfl⟩ := h1
  obtain ⟨i1, i2⟩ := imM_inv b 4 x b.length hb m3 hx
  rw [hI]
  refine ⟨i1, ?_⟩
  rw [← m2, List.drop_length, List.append_nil] at i2
  exact i2.symm

/-- Cut short. -/
theorem dec_cut (m : AIm) (h : oks (iIm m) = true) (hb : Byt (byts (iIm m))) {n : Nat} (hn : n < (byts (iIm m)).length) : (decS ((byts (iIm m)).take n)).2 ≠ 0 := by
  intro h0
  obtain ⟨y1, y2⟩ := enc_dec (fun c hc => hb c (List.mem_of_mem_take hc)) h0
  generalize decI ((byts (iIm m)).take n) = y at *
  have e1 := imM_rds y y1 ((byts (iIm m)).drop n)
  have e2 := imM_rds m h []
  rw [y2, List.take_append_drop] at e1
  rw [List.append_nil] at e2
  rw [e1] at e2
  simp only [Prod.mk.injEq, and_true] at e2
  have := e2.2
  rw [List.length_take] at this
  omega

/-! ## how many bytes -/

theorem flat_le {α : Type} {f : α → List It} {k : Nat} : ∀ (l : List α), (∀ x ∈ l, (byts (f x)).length ≤ k) → (byts (l.flatMap f)).length ≤ l.length * k
  | [], _ => by simp [byts]
  | x :: l, h => by
    have h1 := flat_le l (fun y hy => h y (List.mem_cons_of_mem _ hy))
    have h2 := h x (by simp)
    rw [List.flatMap_cons, byts_app, List.length_append, List.length_cons, Nat.succ_mul]
    omega

theorem N_le (n : Int) : (It.N n).b.length ≤ 9 := by
  show (if pl n = true then nb n.toNat else []).length ≤ 9
  split
  · rename_i h
    exact nb_le 8 n.toNat (Nat.le_refl _) (pl_lim h).2
  · simp
theorem Z_le (n : Int) : (It.Z n).b.length ≤ 9 := by
  show (if sg n = true then nb (zz n).toNat else []).length ≤ 9
  split
  · rename_i h
    exact nb_le 8 _ (Nat.le_refl _) (pl_lim (zz_pl h)).2
  · simp

theorem iL_le {α : Type} {f : α → List It} {k N : Nat} (l : List α) (h : ∀ x ∈ l, (byts (f x)).length ≤ k) (hl : l.length ≤ N) : (byts (iL f l)).length ≤ 9 + N * k := by
  have h1 := flat_le l h
  have h2 := N_le l.length
  have h3 : l.length * k ≤ N * k := Nat.mul_le_mul_right k hl
  rw [show iL f l = .N l.length :: l.flatMap f from rfl, show byts (It.N l.length :: l.flatMap f) = (It.N l.length).b ++ byts (l.flatMap f) from by simp [byts], List.length_append]
  omega

end Go.Proofs.YtfhnhbpmiodomaaDoor
