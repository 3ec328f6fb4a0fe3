/- Images and their bytes, there and back; bytes cut short; how many bytes there are. Plain data. -/
import Derived.Test.YtfhnhbpmiodomaaDoorCa
set_option linter.unusedSimpArgs false
set_option linter.unusedVariables false
namespace Go.Proofs.YtfhnhbpmiodomaaDoor

/-! ## a number's bytes -/

theorem nb_small {n : Nat} (h : n < 128) : nb n = [(n : Int)] := by rw [nb, if_pos h]
theorem nb_big {n : Nat} (h : ¬ n < 128) : nb n = ((n % 128 + 128 : Nat) : Int) :: nb (n / 128) := by rw [nb, if_neg h]

theorem nb_pos (n : Nat) : 1 ≤ (nb n).length := by
  by_cases h : n < 128
  · rw [nb_small h]; simp
  · rw [nb_big h]; simp

theorem nb_bytes (n : Nat) : ∀ c ∈ nb n, 0 ≤ c ∧ c ≤ 255 := by
  induction n using Nat.strongRecOn with
  | ind n ih =>
    by_cases h : n < 128
    · rw [nb_small h]; intro c hc; simp at hc; omega
    · rw [nb_big h]
      intro c hc
      rcases List.mem_cons.1 hc with h1 | h1
      · omega
      · exact ih (n / 128) (by omega) c h1

def lim (i : Nat) : Nat := 2 ^ (62 - 7 * i)
theorem lim_step {i : Nat} (h : i < 8) : lim i = 128 * lim (i + 1) := by
  unfold lim
  rw [show 62 - 7 * i = 7 + (62 - 7 * (i + 1)) by omega, Nat.pow_add]

theorem nb_le : ∀ (k n : Nat), k ≤ 8 → n < lim (8 - k) → (nb n).length ≤ k + 1
  | 0, n, _, h => by
    have : lim 8 = 64 := rfl
    rw [nb_small (by simp at h; omega)]; simp
  | k + 1, n, hk, h => by
    by_cases h1 : n < 128
    · rw [nb_small h1]; simp
    · rw [nb_big h1]
      have := lim_step (i := 8 - (k + 1)) (by omega)
      rw [show 8 - (k + 1) + 1 = 8 - k by omega] at this
      have := nb_le k (n / 128) (by omega) (by omega)
      simp; omega

theorem lim0 : lim 0 = 4611686018427387904 := rfl

theorem rd_nb : ∀ (n i : Nat) (t : List Int), i ≤ 8 → n < lim i → (0 < i → 0 < n) → rd (nb n ++ t) i = (i + (nb n).length, some ((n : Int) * 128 ^ i)) := by
  intro n
  induction n using Nat.strongRecOn with
  | ind n ih =>
    intro i t hi hn h0
    by_cases h : n < 128
    · rw [nb_small h]
      have h8 : i = 8 → n < 64 := by rintro rfl; exact hn
      simp only [List.cons_append, List.nil_append, rd]
      rw [if_neg (by omega), if_pos (by omega)]
      rfl
    · rw [nb_big h]
      have h8 : i < 8 := by
        rcases Nat.lt_or_ge i 8 with h8 | h8
        · exact h8
        · obtain rfl : i = 8 := by omega
          have : lim 8 = 64 := rfl
          omega
      have := lim_step h8
      have hr := ih (n / 128) (by omega) (i + 1) t (by omega) (by omega) (fun _ => by omega)
      simp only [List.cons_append, rd]
      rw [if_neg (by omega), if_neg (by omega), hr]
      simp only [List.length_cons, Prod.mk.injEq, Option.some.injEq]
      refine ⟨by omega, ?_⟩
      have e : (n : Int) = ((n % 128 + 128 : Nat) : Int) - 128 + 128 * ((n / 128 : Nat) : Int) := by omega
      rw [Int.pow_succ]
      conv => rhs; rw [e, Int.add_mul]
      congr 1
      rw [Int.mul_comm (128 ^ i) 128, ← Int.mul_assoc, Int.mul_comm ((n / 128 : Nat) : Int) 128]

theorem rd_inv : ∀ (l : List Int) (i j : Nat) (m : Int), (∀ c ∈ l, 0 ≤ c ∧ c ≤ 255) → i ≤ 8 → rd l i = (j, some m) →
    ∃ q : Nat, m = (q : Int) * 128 ^ i ∧ l = nb q ++ l.drop (j - i) ∧ j = i + (nb q).length ∧ (0 < i → 0 < q) ∧ q < lim i
  | [], i, j, m, _, _, h => by simp [rd] at h
  | c :: t, i, j, m, hb, hi, h => by
    have hc := hb c (by simp)
    unfold rd at h
    split at h
    · simp at h
    · rename_i hbad
      split at h
      · rename_i hlt
        simp only [Prod.mk.injEq, Option.some.injEq] at h
        obtain ⟨rfl, rfl⟩ := h
        refine ⟨c.toNat, by rw [Int.toNat_of_nonneg hc.1], ?_, ?_, fun _ => by omega, ?_⟩
        · rw [nb_small (by omega), Int.toNat_of_nonneg hc.1, show i + 1 - i = 1 by omega]; rfl
        · rw [nb_small (by omega)]; rfl
        · rcases Nat.lt_or_ge i 8 with h8 | h8
          · have := lim_step h8
            have : 0 < lim (i + 1) := Nat.two_pow_pos _
            omega
          · obtain rfl : i = 8 := by omega
            have : lim 8 = 64 := rfl
            omega
      · rename_i hge
        have h8 : i < 8 := by omega
        split at h
        · rename_i j' n he
          simp only [Prod.mk.injEq, Option.some.injEq] at h
          obtain ⟨rfl, rfl⟩ := h
          obtain ⟨q, rfl, h1, h2, h3, h4⟩ := rd_inv t (i + 1) j' n (fun x hx => hb x (List.mem_cons_of_mem _ hx)) (by omega) he
          have hq := h3 (by omega)
          have := lim_step h8
          have e1 : (c.toNat - 128 + 128 * q) % 128 + 128 = c.toNat := by omega
          have e2 : (c.toNat - 128 + 128 * q) / 128 = q := by omega
          have e3 : nb (c.toNat - 128 + 128 * q) = c :: nb q := by
            rw [nb_big (by omega), e1, e2, Int.toNat_of_nonneg hc.1]
          refine ⟨c.toNat - 128 + 128 * q, ?_, ?_, ?_, fun _ => by omega, by omega⟩
          · have e4 : ((c.toNat - 128 + 128 * q : Nat) : Int) = (c - 128) + 128 * (q : Int) := by omega
            rw [e4, Int.add_mul, Int.pow_succ]
            congr 1
            rw [Int.mul_comm (128 ^ i) 128, ← Int.mul_assoc, Int.mul_comm (q : Int) 128]
          · rw [e3, show j' - i = (j' - (i + 1)) + 1 by omega, List.drop_succ_cons, List.cons_append, ← h1]
          · rw [e3, h2, List.length_cons]; omega
        · simp at h

/-! ## there -/

/-- These bytes are read as x, wherever they stand. -/
def Rds {α : Type} (m : List Int → St → α × St) (x : α) (B : List Int) : Prop := ∀ p t, m (p ++ (B ++ t)) (p.length, 0) = (x, (p.length + B.length, 0))

theorem pl_lim {n : Int} (h : pl n = true) : 0 ≤ n ∧ n.toNat < lim 0 := by
  unfold pl at h
  rw [decide_eq_true_eq] at h
  rw [lim0]; omega

theorem nM_rds {n : Int} (h : pl n = true) : Rds nM n (nb n.toNat) := by
  intro p t
  have := pl_lim h
  unfold nM
  simp only [List.drop_left, if_true]
  rw [rd_nb _ _ _ (by omega) this.2 (by omega)]
  simp; omega

theorem zz_sz (z : Int) : sz (zz z) = z := by
  unfold sz zz
  repeat' split
  all_goals omega

theorem zz_pl {z : Int} (h : sg z = true) : pl (zz z) = true := by
  unfold sg at h
  rw [decide_eq_true_eq] at h
  unfold pl zz
  rw [decide_eq_true_eq]
  split <;> omega

theorem zM_rds {z : Int} (h : sg z = true) : Rds zM z (nb (zz z).toNat) := by
  intro p t
  unfold zM
  rw [nM_rds (zz_pl h) p t, zz_sz]

theorem Rds.len {p B t : List Int} : (p ++ B).length = p.length + B.length := List.length_append

theorem cM_rds {n : Nat} (hn : pl n = true) (p t : List Int) (h : n ≤ t.length) : cM (p ++ (nb n ++ t)) (p.length, 0) = (n, (p.length + (nb n).length, 0)) := by
  unfold cM
  have e := nM_rds hn p t
  rw [Int.toNat_natCast] at e
  rw [e]
  simp only [List.length_append]
  rw [if_neg (by omega)]
  simp

theorem Rds.at {α : Type} {m : List Int → St → α × St} {x : α} {B : List Int} (h : Rds m x B) {b p t : List Int} (e : b = p ++ (B ++ t)) {k : Nat} (hk : k = p.length) : m b (k, 0) = (x, (k + B.length, 0)) := by
  subst e hk
  exact h p t

theorem rep_rds {α : Type} {one : List Int → St → α × St} {B : α → List Int} : ∀ (l acc : List α) (p t : List Int), (∀ x ∈ l, Rds one x (B x)) →
    rep (one (p ++ (l.flatMap B ++ t))) l.length acc (p.length, 0) = (acc ++ l, (p.length + (l.flatMap B).length, 0))
  | [], acc, p, t, _ => by simp [rep]
  | x :: l, acc, p, t, h => by
    have h1 := (h x (by simp)).at (b := p ++ ((x :: l).flatMap B ++ t)) (p := p) (t := l.flatMap B ++ t) (by simp [List.flatMap_cons]) rfl
    have h2 := rep_rds l (acc ++ [x]) (p ++ B x) t (fun y hy => h y (List.mem_cons_of_mem _ hy))
    rw [show (p ++ B x) ++ (l.flatMap B ++ t) = p ++ ((x :: l).flatMap B ++ t) by simp [List.flatMap_cons]] at h2
    simp only [List.length_cons, rep]
    rw [h1]
    simp only [if_true]
    rw [show p.length + (B x).length = (p ++ B x).length by simp, h2]
    simp [List.flatMap_cons, Nat.add_assoc]

theorem flat_len {α : Type} {B : α → List Int} : ∀ (l : List α), (∀ x ∈ l, 1 ≤ (B x).length) → l.length ≤ (l.flatMap B).length
  | [], _ => by simp
  | x :: l, h => by
    have := flat_len l (fun y hy => h y (List.mem_cons_of_mem _ hy))
    have := h x (by simp)
    simp only [List.flatMap_cons, List.length_append, List.length_cons]; omega

theorem lM_rds {α : Type} {one : List Int → St → α × St} {B : α → List Int} (l : List α) (hl : pl l.length = true) (h : ∀ x ∈ l, Rds one x (B x)) (h1 : ∀ x ∈ l, 1 ≤ (B x).length) :
    Rds (fun b => lM b (one b)) l (nb l.length ++ l.flatMap B) := by
  intro p t
  have := flat_len l h1
  have hc := cM_rds hl p (l.flatMap B ++ t) (by rw [List.length_append]; omega)
  simp only [lM]
  rw [List.append_assoc, hc]
  have h2 := rep_rds (one := one) (B := B) l [] (p ++ nb l.length) t h
  rw [show (p ++ nb l.length) ++ (l.flatMap B ++ t) = p ++ (nb l.length ++ (l.flatMap B ++ t)) by simp] at h2
  rw [show p.length + (nb l.length).length = (p ++ nb l.length).length by simp, h2]
  simp [Nat.add_assoc]

theorem tM_rds (s : List Int) (hl : pl s.length = true) : Rds tM s (nb s.length ++ s) := by
  intro p t
  have hc := cM_rds hl p (s ++ t) (by simp)
  unfold tM
  rw [List.append_assoc, hc]
  simp only [Prod.mk.injEq, List.length_append]
  refine ⟨?_, by omega, trivial⟩
  rw [show p.length + (nb s.length).length = (p ++ nb s.length).length by simp, ← List.append_assoc, List.drop_left, List.take_left]

/-- Two one behind the other. -/
theorem rds_two {α β : Type} {f : List Int → St → α × St} {g : List Int → St → β × St} {x : α} {y : β} {B C : List Int} (hf : Rds f x B) (hg : Rds g y C) (p t : List Int) :
    f (p ++ (B ++ (C ++ t))) (p.length, 0) = (x, (p.length + B.length, 0)) ∧ g (p ++ (B ++ (C ++ t))) (p.length + B.length, 0) = (y, (p.length + B.length + C.length, 0)) := by
  refine ⟨hf p _, ?_⟩
  have := hg (p ++ B) t
  rw [List.length_append, List.append_assoc] at this
  exact this

theorem capM_rds {x : Int × Int} (h : oks (iCap x) = true) : Rds capM x (byts (iCap x)) := by
  simp only [iCap, oks, List.all_cons, List.all_nil, It.ok, Bool.and_true, Bool.and_eq_true] at h
  intro p t
  simp only [byts, iCap, List.flatMap_cons, List.flatMap_nil, It.b, h.1, h.2, if_true, List.append_nil, List.append_assoc]
  have e1 := (nM_rds h.1).at (b := p ++ (nb x.1.toNat ++ (nb x.2.toNat ++ t))) rfl rfl
  have e2 := (nM_rds h.2).at (b := p ++ (nb x.1.toNat ++ (nb x.2.toNat ++ t))) (p := p ++ nb x.1.toNat) (t := t) (by simp) (k := p.length + (nb x.1.toNat).length) (by simp)
  simp only [capM, e1, e2, List.length_append]; simp only [Nat.add_assoc]

theorem insM_rds {x : Int × Int × Int} (h : oks (iIns x) = true) : Rds insM x (byts (iIns x)) := by
  simp only [iIns, oks, List.all_cons, List.all_nil, It.ok, Bool.and_true, Bool.and_eq_true] at h
  intro p t
  simp only [byts, iIns, List.flatMap_cons, List.flatMap_nil, It.b, h.1, h.2.1, h.2.2, if_true, List.append_nil, List.append_assoc]
  generalize hb : p ++ (nb x.1.toNat ++ (nb (zz x.2.1).toNat ++ (nb (zz x.2.2).toNat ++ t))) = b
  have e1 := (nM_rds h.1).at (b := b) (p := p) hb.symm rfl
  have e2 := (zM_rds h.2.1).at (b := b) (p := p ++ nb x.1.toNat) (t := nb (zz x.2.2).toNat ++ t) (by simp [← hb]) (k := p.length + (nb x.1.toNat).length) (by simp)
  have e3 := (zM_rds h.2.2).at (b := b) (p := p ++ (nb x.1.toNat ++ nb (zz x.2.1).toNat)) (t := t) (by simp [← hb]) (k := p.length + (nb x.1.toNat).length + (nb (zz x.2.1).toNat).length) (by simp [Nat.add_assoc])
  simp only [insM, e1, e2, e3, List.length_append]; simp only [Nat.add_assoc]

theorem tryM_rds {x : Int × Int × Int × Int} (h : oks (iTry x) = true) : Rds tryM x (byts (iTry x)) := by
  simp only [iTry, oks, List.all_cons, List.all_nil, It.ok, Bool.and_true, Bool.and_eq_true] at h
  intro p t
  simp only [byts, iTry, List.flatMap_cons, List.flatMap_nil, It.b, h.1, h.2.1, h.2.2.1, h.2.2.2, if_true, List.append_nil, List.append_assoc]
  generalize hb : p ++ (nb x.1.toNat ++ (nb x.2.1.toNat ++ (nb x.2.2.1.toNat ++ (nb x.2.2.2.toNat ++ t)))) = b
  have e1 := (nM_rds h.1).at (b := b) (p := p) hb.symm rfl
  have e2 := (nM_rds h.2.1).at (b := b) (p := p ++ nb x.1.toNat) (t := nb x.2.2.1.toNat ++ (nb x.2.2.2.toNat ++ t)) (by simp [← hb]) (k := p.length + (nb x.1.toNat).length) (by simp)
  have e3 := (nM_rds h.2.2.1).at (b := b) (p := p ++ (nb x.1.toNat ++ nb x.2.1.toNat)) (t := nb x.2.2.2.toNat ++ t) (by simp [← hb]) (k := p.length + (nb x.1.toNat).length + (nb x.2.1.toNat).length) (by simp [Nat.add_assoc])
  have e4 := (nM_rds h.2.2.2).at (b := b) (p := p ++ (nb x.1.toNat ++ (nb x.2.1.toNat ++ nb x.2.2.1.toNat))) (t := t) (by simp [← hb]) (k := p.length + (nb x.1.toNat).length + (nb x.2.1.toNat).length + (nb x.2.2.1.toNat).length) (by simp [Nat.add_assoc])
  simp only [tryM, e1, e2, e3, e4, List.length_append]; simp only [Nat.add_assoc]

theorem byts_flat {α : Type} (f : α → List It) (l : List α) : byts (l.flatMap f) = l.flatMap fun x => byts (f x) := by
  simp [byts, List.flatMap_assoc]

theorem byts_iL {α : Type} (f : α → List It) (l : List α) (h : pl l.length = true) : byts (iL f l) = nb l.length ++ l.flatMap fun x => byts (f x) := by
  rw [← byts_flat]
  simp [byts, iL, It.b, h]

theorem oks_iL {α : Type} {f : α → List It} {l : List α} (h : oks (iL f l) = true) : pl l.length = true ∧ ∀ x ∈ l, oks (f x) = true := by
  simp only [oks, iL, List.all_cons, It.ok, Bool.and_eq_true] at h
  refine ⟨h.1, fun x hx => ?_⟩
  rw [List.all_eq_true] at h ⊢
  exact fun y hy => h.2 y (List.mem_flatMap.2 ⟨x, hx, hy⟩)

theorem iL_rds {α : Type} {one : List Int → St → α × St} {f : α → List It} (l : List α) (h : oks (iL f l) = true) (hr : ∀ x, oks (f x) = true → Rds one x (byts (f x)) ∧ 1 ≤ (byts (f x)).length) : Rds (fun b => lM b (one b)) l (byts (iL f l)) := by
  obtain ⟨h1, h2⟩ := oks_iL h
  rw [byts_iL f l h1]
  exact lM_rds l h1 (fun x hx => (hr x (h2 x hx)).1) (fun x hx => (hr x (h2 x hx)).2)

theorem bN_pos {n : Int} {l : List It} (h : oks (.N n :: l) = true) : 1 ≤ (byts (.N n :: l)).length := by
  simp only [oks, List.all_cons, It.ok, Bool.and_eq_true] at h
  have := nb_pos n.toNat
  simp [byts, It.b, h.1]; omega

theorem iN_rds (x : Int) (h : oks (iN x) = true) : Rds nM x (byts (iN x)) ∧ 1 ≤ (byts (iN x)).length := by
  refine ⟨?_, bN_pos h⟩
  simp only [iN, oks, List.all_cons, List.all_nil, It.ok, Bool.and_true] at h
  have := nM_rds h
  simpa [byts, iN, It.b, h] using this

theorem oks_app {a c : List It} : oks (a ++ c) = true ↔ oks a = true ∧ oks c = true := by simp [oks]
theorem oks_cons {a : It} {c : List It} : oks (a :: c) = true ↔ a.ok = true ∧ oks c = true := by simp [oks]
theorem byts_app (a c : List It) : byts (a ++ c) = byts a ++ byts c := by simp [byts]
theorem byts_N {n : Int} (h : pl n = true) (c : List It) : byts (.N n :: c) = nb n.toNat ++ byts c := by simp [byts, It.b, h]

theorem fnM_rds (f : AFn) (h : oks (iFn f) = true) : Rds fnM f (byts (iFn f)) ∧ 1 ≤ (byts (iFn f)).length := by
  refine ⟨?_, bN_pos h⟩
  unfold iFn at h
  rw [oks_cons, oks_cons, oks_app, oks_app, oks_app] at h
  obtain ⟨h1, h2, h3, h4, h5, h6⟩ := h
  have k3 := iL_rds f.boxes h3 iN_rds
  have k4 := iL_rds (one := capM) f.caps h4 (fun x hx => ⟨capM_rds hx, bN_pos hx⟩)
  have k5 := iL_rds (one := insM) f.code h5 (fun x hx => ⟨insM_rds hx, bN_pos hx⟩)
  have k6 := iL_rds (one := tryM) f.tries h6 (fun x hx => ⟨tryM_rds hx, bN_pos hx⟩)
  intro p t
  have e0 : byts (iFn f) = nb f.params.toNat ++ (nb f.slots.toNat ++ (byts (iL iN f.boxes) ++ (byts (iL iCap f.caps) ++ (byts (iL iIns f.code) ++ byts (iL iTry f.tries))))) := by
    unfold iFn
    rw [byts_N h1, byts_N h2, byts_app, byts_app, byts_app]
  generalize byts (iL iN f.boxes) = B3 at *
  generalize byts (iL iCap f.caps) = B4 at *
  generalize byts (iL iIns f.code) = B5 at *
  generalize byts (iL iTry f.tries) = B6 at *
  generalize hb : p ++ (byts (iFn f) ++ t) = b
  rw [e0] at hb ⊢
  have e1 := (nM_rds h1).at (b := b) (p := p) (t := nb f.slots.toNat ++ (B3 ++ (B4 ++ (B5 ++ (B6 ++ t))))) (by simp [← hb]) rfl
  have e2 := (nM_rds h2).at (b := b) (p := p ++ nb f.params.toNat) (t := B3 ++ (B4 ++ (B5 ++ (B6 ++ t)))) (by simp [← hb]) (k := p.length + (nb f.params.toNat).length) (by simp)
  have e3 := k3.at (b := b) (p := p ++ (nb f.params.toNat ++ nb f.slots.toNat)) (t := B4 ++ (B5 ++ (B6 ++ t))) (by simp [← hb]) (k := p.length + (nb f.params.toNat).length + (nb f.slots.toNat).length) (by simp [Nat.add_assoc])
  have e4 := k4.at (b := b) (p := p ++ (nb f.params.toNat ++ (nb f.slots.toNat ++ B3))) (t := B5 ++ (B6 ++ t)) (by simp [← hb]) (k := p.length + (nb f.params.toNat).length + (nb f.slots.toNat).length + B3.length) (by simp [Nat.add_assoc])
  have e5 := k5.at (b := b) (p := p ++ (nb f.params.toNat ++ (nb f.slots.toNat ++ (B3 ++ B4)))) (t := B6 ++ t) (by simp [← hb]) (k := p.length + (nb f.params.toNat).length + (nb f.slots.toNat).length + B3.length + B4.length) (by simp [Nat.add_assoc])
  have e6 := k6.at (b := b) (p := p ++ (nb f.params.toNat ++ (nb f.slots.toNat ++ (B3 ++ (B4 ++ B5))))) (t := t) (by simp [← hb]) (k := p.length + (nb f.params.toNat).length + (nb f.slots.toNat).length + B3.length + B4.length + B5.length) (by simp [Nat.add_assoc])
  simp only [fnM, e1, e2, e3, e4, e5, e6, List.length_append]; simp only [Nat.add_assoc]

theorem iStr_rds (x : List Int) (h : oks (iStr x) = true) : Rds tM x (byts (iStr x)) ∧ 1 ≤ (byts (iStr x)).length := by
  refine ⟨?_, bN_pos h⟩
  simp only [iStr, oks, List.all_cons, List.all_nil, It.ok, Bool.and_true] at h
  have := tM_rds x h
  simpa [byts, iStr, It.b, h] using this

/-- The image, behind the four bytes. -/
theorem imM_rds (m : AIm) (h : oks (iIm m) = true) (t : List Int) : imM (byts (iIm m) ++ t) (4, 0) = (m, ((byts (iIm m)).length, 0)) := by
  unfold iIm at h
  rw [oks_cons, oks_app, oks_app, oks_cons] at h
  obtain ⟨_, h1, h2, h3, h4⟩ := h
  have k1 := iL_rds m.strs h1 iStr_rds
  have k2 := iL_rds (one := fun b => lM b (nM b)) m.keys h2 (fun x hx => ⟨iL_rds x hx iN_rds, bN_pos hx⟩)
  have k4 := iL_rds m.funs h4 fnM_rds
  have e0 : byts (iIm m) = markL ++ (byts (iL iStr m.strs) ++ (byts (iL (iL iN) m.keys) ++ (nb m.globals.toNat ++ byts (iL iFn m.funs)))) := by
    unfold iIm
    rw [show byts (It.T markL :: (iL iStr m.strs ++ (iL (iL iN) m.keys ++ (.N m.globals :: iL iFn m.funs)))) = markL ++ byts (iL iStr m.strs ++ (iL (iL iN) m.keys ++ (.N m.globals :: iL iFn m.funs))) by simp [byts, It.b], byts_app, byts_app, byts_N h3]
  generalize byts (iL iStr m.strs) = B1 at *
  generalize byts (iL (iL iN) m.keys) = B2 at *
  generalize byts (iL iFn m.funs) = B4 at *
  generalize hb : byts (iIm m) ++ t = b
  rw [e0] at hb ⊢
  have e1 := k1.at (b := b) (p := markL) (t := B2 ++ (nb m.globals.toNat ++ (B4 ++ t))) (by simp [← hb]) (k := 4) rfl
  have e2 := k2.at (b := b) (p := markL ++ B1) (t := nb m.globals.toNat ++ (B4 ++ t)) (by simp [← hb]) (k := 4 + B1.length) (by simp [markL]; omega)
  have e3 := (nM_rds h3).at (b := b) (p := markL ++ (B1 ++ B2)) (t := B4 ++ t) (by simp [← hb]) (k := 4 + B1.length + B2.length) (by simp [markL]; omega)
  have e4 := k4.at (b := b) (p := markL ++ (B1 ++ (B2 ++ nb m.globals.toNat))) (t := t) (by simp [← hb]) (k := 4 + B1.length + B2.length + (nb m.globals.toNat).length) (by simp [markL]; omega)
  simp only [imM, e1, e2, e3, e4, List.length_append]; simp only [Nat.add_assoc]
  rfl

theorem mkM_im (m : AIm) (t : List Int) : mkM (byts (iIm m) ++ t) = (4, 0) := by
  have : byts (iIm m) ++ t = 74 :: 81 :: 48 :: 49 :: (byts (iL iStr m.strs ++ (iL (iL iN) m.keys ++ (.N m.globals :: iL iFn m.funs))) ++ t) := by
    simp [iIm, byts, It.b, markL]
  rw [this]
  simp [mkM]

/-- What is told is read as it was. -/
theorem dec_enc (m : AIm) (h : oks (iIm m) = true) : decS (byts (iIm m)) = ((byts (iIm m)).length, 0) ∧ decI (byts (iIm m)) = m := by
  have e := imM_rds m h []
  rw [List.append_nil] at e
  have k := mkM_im m []
  rw [List.append_nil] at k
  have h1 : decS (byts (iIm m)) = ((byts (iIm m)).length, 0) := by
    unfold decS
    rw [k, e]
    simp [endS]
  exact ⟨h1, by unfold decI; rw [h1, k, e]; simp⟩

/-- With more behind. -/
theorem dec_more (m : AIm) (h : oks (iIm m) = true) (c : Int) (t : List Int) : decS (byts (iIm m) ++ c :: t) = ((byts (iIm m)).length, 6) := by
  unfold decS
  rw [mkM_im, imM_rds m h]
  simp [endS, failS]

end Go.Proofs.YtfhnhbpmiodomaaDoor
