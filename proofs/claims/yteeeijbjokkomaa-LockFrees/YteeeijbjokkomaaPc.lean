/- waits, firstWoken, wrong, Free, Owner, Woken; New, Make; nil objects: contracts. -/
import Derived.Test.YteeeijbjokkomaaPb
set_option linter.unusedSimpArgs false
set_option linter.unusedVariables false
namespace Go.Proofs.Yteeeijbjokkomaa
open Go Go.RowKit

theorem ofR_ok {n : Nat} {x : WW} (h : okW n x) (t : Int) : ofR x.t x.n t = (x.t == t) := by
  have := h.n.1
  have h0 : (x.n == 0) = false := by simp; omega
  simp [ofR, h0]

theorem fst_congr {α : Type} {P Q : α → Bool} : ∀ (l : List α) (i : Nat), (∀ x ∈ l, P x = Q x) → fst P l i = fst Q l i
  | [], _, _ => rfl
  | x :: l, i, h => by
    simp only [fst]
    rw [h x (by simp), fst_congr l (i + 1) (fun y hy => h y (by simp [hy]))]

theorem fst_waits {A : LL} (h : OKA A) (t : Int) : decide (0 ≤ fst (fun x : WW => ofR x.t x.n t) A.W 0) = waitsA A t := by
  rw [fst_congr (Q := fun x : WW => x.t == t) A.W 0 (fun x hx => ofR_ok (h.W x hx) t)]
  unfold waitsA
  rcases fst_cases (fun x : WW => x.t == t) A.W with ⟨h1, h2⟩ | ⟨k, hk, h1, h2⟩
  · rw [h1, (List.any_eq_false.2 (fun x hx => by simp [h2 x hx]))]
    rfl
  · rw [h1, (List.any_eq_true.2 ⟨_, List.getElem_mem hk, h2⟩)]
    simp
theorem fst_woke {A : LL} (h : OKA A) (t : Int) : fst (fun x : KK => ofR x.1.t x.1.n t) A.K 0 = wokeA A t := fst_congr A.K 0 (fun x hx => ofR_ok (h.K x hx) t)

set_option maxRecDepth 100000 in
set_option maxHeartbeats 1000000 in
theorem cfW_any {G : Nat → Prop} {w : World} (g : Nat) (lb : Array Value) (P : WW → Bool) (eg : ∀ args w, (callFunc g args).run Try.prog w = .ok (.enter g args) w) (v : Value) (l : List WW) (hs : Sl w G v l.length 4 (l.flatMap wC)) (hm : l.length ≤ 1000)
    (hp : ∀ x ∈ l, ∀ W, Bw w W → Calls Try.prog g (#[wV x] ++ lb) W fun e w' => e = .returned (.bool (P x)) ∧ Bw W w') :
    Calls Try.prog 67 #[v, .func (.func g) #[] lb] w fun e w' => e = .returned (.bool (decide (0 ≤ fst P l 0))) ∧ Bw w w' := by
  have HC := hid (ixW_any g lb P eg v l hs hm hp)
  clear hs hp
  go_enter Try.func67, Try.ntmps67
  go_wp2_with (first
    | (go_at_call 72; refine HC.out.mono ?_; rintro e w1 ⟨rfl, hb⟩; have HB := hid hb; clear hb)
    | fail)
  all_goals go_ret
  all_goals exact ⟨rfl, HB.out⟩

section
variable {w : World} {p : Nat} {bs : List Nat} {mv wv kv : Value} {R : List MM} {A : LL}

theorem PS.sw (h : PS w p bs mv wv kv R A) : Sl w (fun _ => True) wv A.W.length 4 (A.W.flatMap wC) := own_sl h.rw (fun _ _ => trivial)
theorem PS.sk (h : PS w p bs mv wv kv R A) : Sl w (fun _ => True) kv A.K.length 5 (A.K.flatMap kC) := own_sl h.rk (fun _ _ => trivial)
theorem PS.cells (h : PS w p bs mv wv kv R A) : p < w.heap.size ∧ w.cell? ⟨p, 0, none⟩ = some mv ∧ w.cell? ⟨p, 1, none⟩ = some wv ∧ w.cell? ⟨p, 2, none⟩ = some kv ∧ ∀ j, w.frozen? ⟨p, j, none⟩ = false := by
  have c0 := h.blk.cell 0
  have c1 := h.blk.cell 1
  have c2 := h.blk.cell 2
  simp only [List.getElem?_toArray, List.getElem?_cons_zero, List.getElem?_cons_succ] at c0 c1 c2
  exact ⟨h.blk.lt, c0, c1, c2, h.blk.free⟩

set_option maxRecDepth 100000 in
set_option maxHeartbeats 1000000 in
theorem waits_any (h : PS w p bs mv wv kv R A) (t : Int) : Calls Try.prog 53 #[.pointer (some ⟨p, 0, none⟩), .int .i64 t] w fun e w' => e = .returned (.bool (waitsA A t)) ∧ Bw w w' := by
  obtain ⟨hlp, c0, c1, c2, hfz⟩ := h.cells
  have HC := hid (cfW_any (w := w.alloc (.cells #[.int .i64 t] 3)) 68 #[.pointer (some ⟨w.heap.size, 0, none⟩)] (fun x : WW => ofR x.t x.n t) (fun _ _ => by kernel_rfl) wv A.W (h.sw.below (Bw.alloc (Bw.refl _) _)) (by have := h.big; omega)
    (fun x _ W hb => waits1_any W w.heap.size t (by rw [Below.cell hb (p := ⟨w.heap.size, 0, none⟩) (by simp)]; exact (Blk.new w _ _).cell 0) x))
  have HE := hid (fst_waits h.ok t)
  have hmf : ∀ (fn : Fn) (first cap : Array Value) (w : World), (Instr.makeFunc fn first cap).run Try.prog w = .ok (.func fn first cap) w := fun _ _ _ _ => rfl
  clear h
  go_enter Try.func53, Try.ntmps53
  go_wp2_with (first
    | (go_at_call 67; refine HC.out.mono ?_; rintro e w1 ⟨he, hb⟩; rw [HE.out] at he; subst he; have HB := hid hb; clear hb)
    | fail)
  all_goals go_ret
  all_goals exact ⟨rfl, Bw.trans (Bw.alloc (Bw.refl _) _) HB.out⟩

set_option maxRecDepth 100000 in
set_option maxHeartbeats 1000000 in
theorem firstWoken_any (h : PS w p bs mv wv kv R A) (t : Int) : Calls Try.prog 42 #[.pointer (some ⟨p, 0, none⟩), .int .i64 t] w fun e w' => e = .returned (.int .i64 (wokeA A t)) ∧ Bw w w' := by
  obtain ⟨hlp, c0, c1, c2, hfz⟩ := h.cells
  have HC := hid (ixK_any (w := w.alloc (.cells #[.int .i64 t] 3)) 61 #[.pointer (some ⟨w.heap.size, 0, none⟩)] (fun x : KK => ofR x.1.t x.1.n t) (fun _ _ => by kernel_rfl) kv A.K (h.sk.below (Bw.alloc (Bw.refl _) _)) (by have := h.big; omega)
    (fun x _ W hb => woken1_any W w.heap.size t (by rw [Below.cell hb (p := ⟨w.heap.size, 0, none⟩) (by simp)]; exact (Blk.new w _ _).cell 0) x))
  have HE := hid (fst_woke h.ok t)
  have hmf : ∀ (fn : Fn) (first cap : Array Value) (w : World), (Instr.makeFunc fn first cap).run Try.prog w = .ok (.func fn first cap) w := fun _ _ _ _ => rfl
  clear h
  go_enter Try.func42, Try.ntmps42
  go_wp2_with (first
    | (go_at_call 60; refine HC.out.mono ?_; rintro e w1 ⟨he, hb⟩; rw [HE.out] at he; subst he; have HB := hid hb; clear hb)
    | fail)
  all_goals go_ret
  all_goals exact ⟨rfl, Bw.trans (Bw.alloc (Bw.refl _) _) HB.out⟩

set_option maxRecDepth 100000 in
set_option maxHeartbeats 1000000 in
theorem wrong_any (h : PS w p bs mv wv kv R A) (m t : Int) : Calls Try.prog 37 #[.pointer (some ⟨p, 0, none⟩), .int .i64 m, .int .i64 t] w fun e w' => e = .returned (.int .i64 (if wrongA A m t then 1 else 0)) ∧ w' = w := by
  obtain ⟨hlp, c0, c1, c2, hfz⟩ := h.cells
  obtain ⟨am, cm, rfl⟩ := own_form h.rm
  have hl := h.len
  unfold wrongA
  rw [hl]
  clear h hl
  have h1 := fun w => one_any m R.length w
  have h2 := fun w => one_any t 256 w
  cases e1 : oneOf m R.length
  · simp only [Bool.false_and, Bool.not_false, if_true]
    rw [e1] at h1
    go_enter Try.func37, Try.ntmps37
    go_wp2_with (first
      | (go_at_call 43; refine (h1 _).mono ?_; rintro e w1 ⟨rfl, hw⟩; subst w1)
      | fail)
    all_goals go_ret
    all_goals exact ⟨rfl, rfl⟩
  · simp only [Bool.true_and]
    rw [e1] at h1
    cases e2 : oneOf t 256
    · simp only [Bool.not_false, if_true]
      rw [e2] at h2
      go_enter Try.func37, Try.ntmps37
      go_wp2_with (first
        | (go_at_call 43; (fail_if_success (have _g := m1)); have m1 := hid trivial; refine (h1 _).mono ?_; rintro e w1 ⟨rfl, hw⟩; subst w1)
        | (go_at_call 43; have _g := m1; clear _g; refine (h2 _).mono ?_; rintro e w1 ⟨rfl, hw⟩; subst w1)
        | fail)
      all_goals go_ret
      all_goals exact ⟨rfl, rfl⟩
    · simp only [Bool.not_true, if_neg Bool.false_ne_true]
      rw [e2] at h2
      go_enter Try.func37, Try.ntmps37
      go_wp2_with (first
        | (go_at_call 43; (fail_if_success (have _g := m1)); have m1 := hid trivial; refine (h1 _).mono ?_; rintro e w1 ⟨rfl, hw⟩; subst w1)
        | (go_at_call 43; have _g := m1; clear _g; refine (h2 _).mono ?_; rintro e w1 ⟨rfl, hw⟩; subst w1)
        | fail)
      all_goals go_ret
      all_goals exact ⟨rfl, rfl⟩

theorem freeR_nrm {x : MM} (h : RawOk x) (t : Int) : freeR x.1 x.2 t = freeM (nrm x) t := by
  unfold freeR freeM nrm
  by_cases h0 : x.2 = 0
  · simp [h0]
  · have := (h.t h0).1
    have e1 : (x.2 == 0) = false := by simp [h0]
    have e2 : (x.1 == -1) = false := by simp; omega
    rw [if_neg h0, e1, e2]
theorem ofR_nrm {x : MM} (h : RawOk x) {t : Int} (ht : 0 ≤ t) : ofR x.1 x.2 t = ((nrm x).1 == t) := by
  unfold ofR nrm
  by_cases h0 : x.2 = 0
  · have e : ((-1 : Int) == t) = false := by simp; omega
    simp [h0, e]
  · have e1 : (x.2 == 0) = false := by simp [h0]
    rw [if_neg h0, e1]
    rfl

theorem wrong_no {A : LL} {m t : Int} (h : wrongA A m t = false) : 0 ≤ m ∧ m < A.M.length ∧ 0 ≤ t ∧ t < 256 := by
  unfold wrongA at h
  simp only [Bool.not_eq_false', Bool.and_eq_true] at h
  have h1 := oneOf_iff.1 h.1
  have h2 := oneOf_iff.1 h.2
  omega

/-- A monitor's two words. -/
theorem PS.mon {am : Option Addr} {cm : Nat} (h : PS w p bs (.slice am R.length cm) wv kv R A) {n : Nat} (hn : n < R.length) :
    ∃ g, am = some ⟨g, 0, none⟩ ∧ g < w.heap.size ∧ w.cell? ⟨g, n * 2, none⟩ = some (.int .i64 R[n].1) ∧ w.cell? ⟨g, n * 2 + 1, none⟩ = some (.int .i64 R[n].2) ∧ ∀ j, w.frozen? ⟨g, j, none⟩ = false := by
  obtain ⟨g, e, _, hlt, hc, hfz⟩ := own_elem mC_len h.rm hn
  exact ⟨g, e, hlt, hc 0 (by decide), hc 1 (by decide), hfz⟩

set_option maxRecDepth 100000 in
set_option maxHeartbeats 1000000 in
theorem Free_any (h : PS w p bs mv wv kv R A) (m t : Int) : Calls Try.prog 20 #[.pointer (some ⟨p, 0, none⟩), .int .i64 m, .int .i64 t] w fun e w' => e = .returned (.bool (freeA A m t)) ∧ Bw w w' := by
  obtain ⟨hlp, c0, c1, c2, hfz⟩ := h.cells
  obtain ⟨am, cm, rfl⟩ := own_form h.rm
  have HW := hid (wrong_any h m t)
  unfold freeA
  cases e1 : wrongA A m t
  · rw [e1] at HW
    simp only [if_neg Bool.false_ne_true] at HW
    obtain ⟨z1, z2, z3, z4⟩ := wrong_no e1
    rw [h.len] at z2
    obtain ⟨n, rfl⟩ : ∃ n : Nat, m = n := ⟨m.toNat, by omega⟩
    have hn : n < R.length := by omega
    obtain ⟨g, e, hlg, x0, x1, hfg⟩ := h.mon hn
    subst e
    have HF := hid (freeR_nrm (h.raw _ (List.getElem_mem hn)) t)
    have HM := hid (h.at hn)
    rw [HM.out]
    clear h HM
    generalize R[n] = x at x0 x1 HF ⊢
    obtain ⟨a, b⟩ := x
    simp only [Bool.not_false, Bool.true_and] at x0 x1 HF ⊢
    have hf := fun w => isFree_any a b t w
    go_enter Try.func20, Try.ntmps20
    go_wp2_with (first
      | (go_at_call 37; refine HW.out.mono ?_; rintro e w1 ⟨rfl, hw⟩; subst w1)
      | (go_at_call 52; refine (hf _).mono ?_; rintro e w1 ⟨rfl, os, k, rfl⟩)
      | fail)
    all_goals go_ret
    all_goals exact ⟨by rw [← HF.out]; rfl, Bw.lay (Bw.refl _) _ _⟩
  · rw [e1] at HW
    simp only [if_true] at HW
    simp only [Bool.not_true, Bool.false_and]
    clear h
    go_enter Try.func20, Try.ntmps20
    go_wp2_with (first
      | (go_at_call 37; refine HW.out.mono ?_; rintro e w1 ⟨rfl, hw⟩; subst w1)
      | fail)
    all_goals go_ret
    all_goals exact ⟨rfl, Bw.refl _⟩

/-- Whose it is. -/
def ownerV (A : LL) (m : Int) : Value := if oneOf m A.M.length then .tuple #[.int .i64 (monA A m).1, .int .i64 (monA A m).2, .int .i64 0] else .tuple #[.int .i64 0, .int .i64 0, .int .i64 1]

set_option maxRecDepth 100000 in
set_option maxHeartbeats 1000000 in
theorem Owner_any (h : PS w p bs mv wv kv R A) (m : Int) : Calls Try.prog 16 #[.pointer (some ⟨p, 0, none⟩), .int .i64 m] w fun e w' => e = .returned (ownerV A m) ∧ Bw w w' := by
  obtain ⟨hlp, c0, c1, c2, hfz⟩ := h.cells
  obtain ⟨am, cm, rfl⟩ := own_form h.rm
  have h1 := fun w => one_any m R.length w
  unfold ownerV
  rw [h.len]
  cases e1 : oneOf m R.length
  · rw [e1] at h1
    simp only [if_neg Bool.false_ne_true]
    clear h
    go_enter Try.func16, Try.ntmps16
    go_wp2_with (first
      | (go_at_call 43; refine (h1 _).mono ?_; rintro e w1 ⟨rfl, hw⟩; subst w1)
      | fail)
    all_goals go_ret3
    all_goals exact ⟨rfl, Bw.refl _⟩
  · rw [e1] at h1
    simp only [if_true]
    obtain ⟨z1, z2⟩ := oneOf_iff.1 e1
    obtain ⟨n, rfl⟩ : ∃ n : Nat, m = n := ⟨m.toNat, by omega⟩
    have hn : n < R.length := by omega
    obtain ⟨g, e, hlg, x0, x1, hfg⟩ := h.mon hn
    subst e
    rw [h.at hn]
    clear h e1
    generalize R[n] = x at x0 x1 ⊢
    obtain ⟨a, b⟩ := x
    simp only at x0 x1
    have hf := fun w => nobody_any a b w
    unfold nrm
    by_cases hb : b = 0
    · subst hb
      simp only [if_true]
      go_enter Try.func16, Try.ntmps16
      go_wp2_with (first
        | (go_at_call 43; refine (h1 _).mono ?_; rintro e w1 ⟨rfl, hw⟩; subst w1)
        | (go_at_call 44; refine (hf _).mono ?_; rintro e w1 ⟨rfl, os, k, rfl⟩)
        | fail)
      all_goals go_ret3
      all_goals exact ⟨rfl, Bw.lay (Bw.refl _) _ _⟩
    · simp only [if_neg hb]
      have e2 : (b == 0) = false := by simp [hb]
      simp only [e2] at hf
      go_enter Try.func16, Try.ntmps16
      go_wp2_with (first
        | (go_at_call 43; refine (h1 _).mono ?_; rintro e w1 ⟨rfl, hw⟩; subst w1)
        | (go_at_call 44; refine (hf _).mono ?_; rintro e w1 ⟨rfl, os, k, rfl⟩)
        | fail)
      go_quiet (fail)
      all_goals go_wp2
      all_goals go_ret3
      all_goals exact ⟨rfl, Bw.drewN (Bw.lay (Bw.refl _) _ _) _⟩

/-- Where it was woken, whether it was told. -/
def wokenVal (A : LL) (t : Int) : Value := .tuple #[.int .i64 (wokenV A t).1, .bool (wokenV A t).2.1, .bool (wokenV A t).2.2]

theorem woke_cases (A : LL) (t : Int) : (wokeA A t = -1 ∧ wokenV A t = (0, false, false)) ∨ ∃ n, ∃ hn : n < A.K.length, wokeA A t = (n : Int) ∧ wokenV A t = (A.K[n].1.m, A.K[n].2, true) ∧ A.K[n].1.t = t := by
  rcases fst_cases (fun k : KK => k.1.t == t) A.K with ⟨h1, h2⟩ | ⟨n, hn, h1, h2⟩
  · refine .inl ⟨h1, ?_⟩
    have h1' : wokeA A t = -1 := h1
    unfold wokenV
    rw [h1']
    split <;> rfl
  · have h1' : wokeA A t = (n : Int) := h1
    refine .inr ⟨n, hn, h1, ?_, by simpa using h2⟩
    unfold wokenV
    rw [h1']
    simp [hn]

set_option maxRecDepth 100000 in
set_option maxHeartbeats 1000000 in
theorem Woken_any (h : PS w p bs mv wv kv R A) (t : Int) : Calls Try.prog 15 #[.pointer (some ⟨p, 0, none⟩), .int .i64 t] w fun e w' => e = .returned (wokenVal A t) ∧ Bw w w' := by
  obtain ⟨hlp, c0, c1, c2, hfz⟩ := h.cells
  obtain ⟨ak, ck, rfl⟩ := own_form h.rk
  have HF := hid (firstWoken_any h t)
  unfold wokenVal
  rcases woke_cases A t with ⟨e1, e2⟩ | ⟨n, hn, e1, e2, e3⟩
  · rw [e1] at HF
    rw [e2]
    clear h e1 e2
    go_enter Try.func15, Try.ntmps15
    go_wp2_with (first
      | (go_at_call 42; refine HF.out.mono ?_; rintro e w1 ⟨rfl, hb⟩; have HB := hid hb; clear hb)
      | fail)
    all_goals go_ret3
    all_goals exact ⟨rfl, HB.out⟩
  · rw [e1] at HF
    rw [e2]
    have HP := hid h
    have h4 : ¬ (n : Int) < 0 := by omega
    have h5 : (n : Int) < A.K.length := by omega
    obtain ⟨y, hy⟩ : ∃ y, A.K[n] = y := ⟨_, rfl⟩
    have HY := hid hy
    rw [hy]
    clear h e1 e2 e3 hy
    go_enter Try.func15, Try.ntmps15
    go_wp2_with (first
      | (go_at_call 42; refine HF.out.mono ?_; rintro e w1 ⟨rfl, hb⟩; have HB := hid hb; have HP1 := hid (HP.out.bw hb); clear hb)
      | fail)
    obtain ⟨hlp1, d0, d1, d2, hfz1⟩ := HP1.out.cells
    obtain ⟨g, e, _, hlg, hc, hfg⟩ := own_elem kC_len HP1.out.rk hn
    subst e
    have x0 := hc 0 (by decide)
    have x2 := hc 2 (by decide)
    have x4 := hc 4 (by decide)
    rw [HY.out] at x0 x2 x4
    simp only [kC, List.getElem?_cons_zero, List.getElem?_cons_succ] at x0 x2 x4
    clear hc HY
    obtain ⟨⟨y1, y2, y3, y4⟩, y5⟩ := y
    simp only at x0 x2 x4
    go_quiet (fail)
    all_goals go_wp2
    all_goals go_ret3
    all_goals exact ⟨rfl, Bw.drewN HB.out _⟩
end

/-! ## nil objects -/

set_option maxRecDepth 100000 in
set_option maxHeartbeats 1000000 in
theorem Make_nil (w : World) : Calls Try.prog 12 #[.pointer none] w fun e w' => e = .returned (.tuple #[.int .i64 0, .int .i64 5]) ∧ w' = w := by
  go_enter Try.func12, Try.ntmps12
  go_wp2
  all_goals go_ret2
  all_goals exact ⟨rfl, rfl⟩

set_option maxRecDepth 100000 in
set_option maxHeartbeats 1000000 in
theorem wrong_nil (m t : Int) (w : World) : Calls Try.prog 37 #[.pointer none, .int .i64 m, .int .i64 t] w fun e w' => e = .returned (.int .i64 5) ∧ w' = w := by
  go_enter Try.func37, Try.ntmps37
  go_wp2
  all_goals go_ret
  all_goals exact ⟨rfl, rfl⟩

set_option maxRecDepth 100000 in
set_option maxHeartbeats 1000000 in
theorem Free_nil (m t : Int) (w : World) : Calls Try.prog 20 #[.pointer none, .int .i64 m, .int .i64 t] w fun e w' => e = .returned (.bool false) ∧ w' = w := by
  have hw := fun w => wrong_nil m t w
  go_enter Try.func20, Try.ntmps20
  go_wp2_with (first
    | (go_at_call 37; refine (hw _).mono ?_; rintro e w1 ⟨rfl, hw⟩; subst w1)
    | fail)
  all_goals go_ret
  all_goals exact ⟨rfl, rfl⟩

set_option maxRecDepth 100000 in
set_option maxHeartbeats 1000000 in
theorem Lock_nil (m t : Int) (w : World) : Calls Try.prog 21 #[.pointer none, .int .i64 m, .int .i64 t] w fun e w' => e = .returned (.int .i64 5) ∧ w' = w := by
  have hw := fun w => wrong_nil m t w
  go_enter Try.func21, Try.ntmps21
  go_wp2_with (first
    | (go_at_call 37; refine (hw _).mono ?_; rintro e w1 ⟨rfl, hw⟩; subst w1)
    | fail)
  all_goals go_ret
  all_goals exact ⟨rfl, rfl⟩

set_option maxRecDepth 100000 in
set_option maxHeartbeats 1000000 in
theorem Unlock_nil (m t : Int) (w : World) : Calls Try.prog 22 #[.pointer none, .int .i64 m, .int .i64 t] w fun e w' => e = .returned (.int .i64 5) ∧ w' = w := by
  have hw := fun w => wrong_nil m t w
  go_enter Try.func22, Try.ntmps22
  go_wp2_with (first
    | (go_at_call 37; refine (hw _).mono ?_; rintro e w1 ⟨rfl, hw⟩; subst w1)
    | fail)
  all_goals go_ret
  all_goals exact ⟨rfl, rfl⟩

set_option maxRecDepth 100000 in
set_option maxHeartbeats 1000000 in
theorem Wait_nil (m t u : Int) (w : World) : Calls Try.prog 23 #[.pointer none, .int .i64 m, .int .i64 t, .int .i64 u] w fun e w' => e = .returned (.int .i64 5) ∧ w' = w := by
  have hw := fun w => wrong_nil m t w
  go_enter Try.func23, Try.ntmps23
  go_wp2_with (first
    | (go_at_call 37; refine (hw _).mono ?_; rintro e w1 ⟨rfl, hw⟩; subst w1)
    | fail)
  all_goals go_ret
  all_goals exact ⟨rfl, rfl⟩

set_option maxRecDepth 100000 in
set_option maxHeartbeats 1000000 in
theorem Notify_nil (m t : Int) (b : Bool) (w : World) : Calls Try.prog 14 #[.pointer none, .int .i64 m, .int .i64 t, .bool b] w fun e w' => e = .returned (.tuple #[.slice none 0 0, .int .i64 5]) ∧ w' = w.alloc (.cells #[.int .i64 m] 3) := by
  have hw := fun w => wrong_nil m t w
  go_enter Try.func14, Try.ntmps14
  go_wp2_with (first
    | (go_at_call 37; refine (hw _).mono ?_; rintro e w1 ⟨rfl, hw⟩; subst w1)
    | fail)
  all_goals go_ret2
  all_goals exact ⟨rfl, rfl⟩

set_option maxRecDepth 100000 in
set_option maxHeartbeats 1000000 in
theorem Expire_nil (t : Int) (w : World) : Calls Try.prog 19 #[.pointer none, .int .i64 t] w fun e w' => e = .returned (.slice none 0 0) ∧ w' = w.alloc (.cells #[.int .i64 t] 3) := by
  go_enter Try.func19, Try.ntmps19
  go_wp2
  all_goals go_ret
  all_goals exact ⟨rfl, rfl⟩

set_option maxRecDepth 100000 in
set_option maxHeartbeats 1000000 in
theorem Woken_nil (t : Int) (w : World) : Calls Try.prog 15 #[.pointer none, .int .i64 t] w fun e w' => e = .returned (.tuple #[.int .i64 0, .bool false, .bool false]) ∧ w' = w := by
  go_enter Try.func15, Try.ntmps15
  go_wp2
  all_goals go_ret3
  all_goals exact ⟨rfl, rfl⟩

set_option maxRecDepth 100000 in
set_option maxHeartbeats 1000000 in
theorem Relock_nil (t : Int) (w : World) : Calls Try.prog 24 #[.pointer none, .int .i64 t] w fun e w' => e = .returned (.int .i64 5) ∧ w' = w := by
  go_enter Try.func24, Try.ntmps24
  go_wp2
  all_goals go_ret
  all_goals exact ⟨rfl, rfl⟩

set_option maxRecDepth 100000 in
set_option maxHeartbeats 1000000 in
theorem Drop_nil (t : Int) (w : World) : Calls Try.prog 18 #[.pointer none, .int .i64 t] w fun e w' => e = .returned (.tuple #[]) ∧ w' = w := by
  go_enter Try.func18, Try.ntmps18
  go_wp2
  all_goals ((try simp only [Exit.inBlock, Exit.then]); refine bodyPost_ret (results_none rfl _ _ _) rfl ?_)
  all_goals exact ⟨rfl, rfl⟩

set_option maxRecDepth 100000 in
set_option maxHeartbeats 1000000 in
theorem Owner_nil (m : Int) (w : World) : Calls Try.prog 16 #[.pointer none, .int .i64 m] w fun e w' => e = .returned (.tuple #[.int .i64 0, .int .i64 0, .int .i64 5]) ∧ w' = w := by
  go_enter Try.func16, Try.ntmps16
  go_wp2
  all_goals go_ret3
  all_goals exact ⟨rfl, rfl⟩

set_option maxRecDepth 100000 in
set_option maxHeartbeats 1000000 in
theorem Next_nil (w : World) : Calls Try.prog 17 #[.pointer none] w fun e w' => e = .returned (.tuple #[.int .i64 0, .bool false]) ∧ w' = w := by
  go_enter Try.func17, Try.ntmps17
  go_wp2
  all_goals go_ret2
  all_goals exact ⟨rfl, rfl⟩

end Go.Proofs.Yteeeijbjokkomaa
