/- Parse of any text: contract. -/
import Derived.Test.YtlcieebneclmpaaDoorK11
import Derived.Test.YtlcieebneclmpaaDoorPgk
import Derived.Deep.DeepCutAuto
set_option linter.unusedSimpArgs false
set_option linter.unusedVariables false
namespace Go.Proofs.YtlcieebneclmpaaDoor
open Go Go.RowKit

theorem Blk.put {w : World} {g : Nat} {u v : Value} {e : TypeId} (h : Blk w g #[u] e) : Blk (w.setCell ⟨g, 0, none⟩ v) g #[v] e := by simpa using h.set 0 v

theorem bad_leaves (w W : World) (n : Int) (m : Nat) (a : Act) (hd : a.defers = []) (t2 : a.tmps[2]?.getD undef = .pointer (some ⟨w.heap.size, 0, none⟩)) (t3 : a.tmps[3]?.getD undef = .pointer (some ⟨w.heap.size + 1, 0, none⟩)) (t4 : a.tmps[4]?.getD undef = .pointer (some ⟨w.heap.size + 1 + 1, 0, none⟩))
    (q2 : Blk W w.heap.size #[.slice none 0 0] 22) (q3 : Blk W (w.heap.size + 1) #[.int .i64 n] 24) (q4 : Blk W (w.heap.size + 1 + 1) #[.int .i64 (m : Int)] 3) (hb : Bw w W) :
    bodyPostD Tryd.prog Tryd.f15 (fun e w' => e = .returned (.tuple #[.slice none 0 0, .int .i64 n, .int .i64 m]) ∧ Bw w w') Exit.ret a W := by
  obtain ⟨ts, ds⟩ := a
  dsimp only at hd t2 t3 t4
  subst hd
  have c2 := q2.cell
  have c3 := q3.cell
  have c4 := q4.cell
  have f2 := q2.free
  have f3 := q3.free
  have f4 := q4.free
  have l2 := q2.lt
  have l3 := q3.lt
  have l4 := q4.lt
  simp [bodyPostD, Leaves, settle, results, Tryd.results15, go_sem, t2, t3, t4, c2, c3, c4, f2, f3, f4, l2, l3, l4]
  exact hb

set_option maxRecDepth 100000 in
set_option maxHeartbeats 8000000 in
theorem parse_bad (v : Value) (b : List Int) (w : World) (T : List ATok) (n : Int) (m : Nat) (h : By w v b) (hs : Sg w) (hm : b.length ≤ 1000000) (hlx : lexA b = (T, n, m)) (hn : n ≠ 0) :
    Calls Tryd.prog 15 #[v] w fun e w' => e = .returned (.tuple #[.slice none 0 0, .int .i64 n, .int .i64 m]) ∧ Bw w w' := by
  have HX := hid (fun w1 (hb : Bw w w1) => xLex_any v b w1 (h.bw hb) (hs.bw hb) hm)
  obtain ⟨av, cv, rfl⟩ := h.form
  rw [hlx] at HX
  dsimp only at HX
  have hn2 : (n == 0) = false := by simpa using hn
  clear h hs hlx hm
  go_enter_defers Tryd.func15, Tryd.ntmps15
  go_upto_region 3 with (first
    | (go_at_call 24; refine (HX.out _ (by repeat (first | exact Bw.refl _ | apply Bw.alloc | apply Bw.drewN | apply Bw.drew))).mono ?_; rintro e w1 ⟨rr, rfl, htk, hb1⟩; have h2 := (three_new w).1.bw hb1; have h3 := (three_new w).2.1.bw hb1; have h4 := (three_new w).2.2.bw hb1; have c2 := h2.cell; have c3 := h3.cell; have c4 := h4.cell; have f2 := h2.free; have f3 := h3.free; have f4 := h4.free; have l4 := h4.lt; have l3 := h3.lt; have l2 := h2.lt; have H2 := hid h2; have H3 := hid h3; have H4 := hid h4; have B1 := hid (Bw.trans (show Bw w _ from (by repeat (first | exact Bw.refl _ | apply Bw.alloc | apply Bw.drewN | apply Bw.drew))) hb1); clear htk hb1 h2 h3 h4)
    | fail)
  have k2 : Blk ((w1.setCell ⟨w.heap.size + 1, 0, none⟩ (.int .i64 n)).setCell ⟨w.heap.size + 1 + 1, 0, none⟩ (.int .i64 (m : Int))) w.heap.size #[.slice none 0 0] 22 := (H2.out.other (p := ⟨w.heap.size + 1, 0, none⟩) (by dsimp only; omega) _).other (p := ⟨w.heap.size + 1 + 1, 0, none⟩) (by dsimp only; omega) _
  have k3 : Blk ((w1.setCell ⟨w.heap.size + 1, 0, none⟩ (.int .i64 n)).setCell ⟨w.heap.size + 1 + 1, 0, none⟩ (.int .i64 (m : Int))) (w.heap.size + 1) #[.int .i64 n] 24 := H3.out.put.other (p := ⟨w.heap.size + 1 + 1, 0, none⟩) (by dsimp only; omega) (.int .i64 (m : Int))
  have k4 : Blk ((w1.setCell ⟨w.heap.size + 1, 0, none⟩ (.int .i64 n)).setCell ⟨w.heap.size + 1 + 1, 0, none⟩ (.int .i64 (m : Int))) (w.heap.size + 1 + 1) #[.int .i64 (m : Int)] 3 := (H4.out.other (p := ⟨w.heap.size + 1, 0, none⟩) (by dsimp only; omega) (.int .i64 n)).put
  have hbw : Bw w ((w1.setCell ⟨w.heap.size + 1, 0, none⟩ (.int .i64 n)).setCell ⟨w.heap.size + 1 + 1, 0, none⟩ (.int .i64 (m : Int))) := (B1.out.setCell (p := ⟨w.heap.size + 1, 0, none⟩) (by dsimp only; omega) _).setCell (p := ⟨w.heap.size + 1 + 1, 0, none⟩) (by dsimp only; omega) _
  clear c2 c3 c4 f2 f3 f4 l2 l3 l4 B1 H2 H3 H4
  generalize (w1.setCell ⟨w.heap.size + 1, 0, none⟩ (.int .i64 n)).setCell ⟨w.heap.size + 1 + 1, 0, none⟩ (.int .i64 (m : Int)) = W at *
  have K2 := hid k2
  have K3 := hid k3
  have K4 := hid k4
  have BW := hid hbw
  have c2 := k2.cell
  have c3 := k3.cell
  have c4 := k4.cell
  have f2 := k2.free
  have f3 := k3.free
  have f4 := k4.free
  have l2 := k2.lt
  have l3 := k3.lt
  have l4 := k4.lt
  clear k2 k3 k4 hbw
  go_region_with (first | fail)
  all_goals
    go_wp2_with fail
    refine bad_leaves w _ n m _ (by rfl) (by simp) (by simp) (by simp) ?_ ?_ ?_ ?_
    · repeat (first | (with_reducible exact K2.out) | (with_reducible refine Blk.put (u := .slice none 0 0) ?_) | (with_reducible refine Blk.other ?_ (by dsimp only; omega) _) | (with_reducible refine Blk.drewN ?_ _) | (with_reducible refine Blk.bw ?_ (Bw.drew (Bw.refl _))))
    · repeat (first | (with_reducible exact K3.out) | (with_reducible refine Blk.put (u := .int .i64 n) ?_) | (with_reducible refine Blk.other ?_ (by dsimp only; omega) _) | (with_reducible refine Blk.drewN ?_ _) | (with_reducible refine Blk.bw ?_ (Bw.drew (Bw.refl _))))
    · repeat (first | (with_reducible exact K4.out) | (with_reducible refine Blk.put (u := .int .i64 (m : Int)) ?_) | (with_reducible refine Blk.other ?_ (by dsimp only; omega) _) | (with_reducible refine Blk.drewN ?_ _) | (with_reducible refine Blk.bw ?_ (Bw.drew (Bw.refl _))))
    · repeat (first | (with_reducible exact BW.out) | (with_reducible refine Bw.setCell ?_ (by dsimp only; omega) _) | (with_reducible apply Bw.drewN) | (with_reducible apply Bw.drew))

/-- What comes of Parse, by what is reckoned of the text. -/
def GotA (b : List Int) (w : World) (e : Ending) (w' : World) : Prop :=
  Bw w w' ∧ if (parA b).2.1 = 0 then ∃ r, e = .returned (.tuple #[r, .int .i64 0, .int .i64 b.length]) ∧ Nd w' w.heap.size r (parA b).1
  else (parA b).1 = [] ∧ e = .returned (.tuple #[.slice none 0 0, .int .i64 (parA b).2.1, .int .i64 (parA b).2.2])

/-- The tokens of a text that is cut. -/
theorem lexA_end {b : List Int} {T : List ATok} {m : Nat} (h : lexA b = (T, 0, m)) : 0 < T.length ∧ T.length ≤ b.length + 1 ∧ EndT T ∧ m = b.length := by
  unfold lexA at h
  split at h
  · cases h
  · have q := lex_res (b.length + 1) b 0 [] (by omega)
    rw [h] at q
    obtain ⟨toks, e, hl, hm⟩ := q.2.1 rfl
    dsimp only at e hl hm
    refine ⟨by rw [e]; simp, by rw [e]; simp at hl ⊢; omega, ?_, by simpa using hm⟩
    intro i hi hk
    rw [e] at hi hk ⊢
    simp at hi ⊢
    by_cases hi2 : i = toks.length
    · subst hi2
      exact absurd (by simp [tk]) hk
    · omega

/-- A fault is of the form, or too many. -/
def Res.be (r : Res) : Prop := match r with | .bad e _ => e = 6 ∨ e = 3 | _ => True

theorem be_bind {r : Res} {k : Prt → Bool → Nat → Res} (h : r.be) (hk : ∀ x c j, (k x c j).be) : (r.bind k).be := by
  cases r with
  | ok x c j => exact hk x c j
  | bad _ _ => exact h
  | out => trivial

theorem be_here {T : List ATok} {e : Int} {i : Nat} (h : e = 6 ∨ e = 3) : (here T e i).be := h

theorem be_want {T : List ATok} {s : ByteArray} {i : Nat} {k : Nat → Res} (h : (k (i + 1)).be) : (want T s i k).be := by
  unfold want
  split
  · exact h
  · exact .inl rfl

theorem be_wantN {T : List ATok} {i : Nat} {k : Nat → Res} (h : (k (i + 1)).be) : (wantN T i k).be := by
  unfold wantN
  split
  · exact h
  · exact .inl rfl

theorem be_entr {T : List ATok} {s : ByteArray} {i o : Nat} {k : Nat → Nat → Res} (h : (k (i + 1) (o + 1)).be) : (entr T s i o k).be := by
  unfold entr
  split
  · split
    · exact .inr rfl
    · exact h
  · exact .inl rfl

theorem be_ite {p : Prop} [Decidable p] {a b : Res} (h1 : a.be) (h2 : b.be) : (if p then a else b).be := by
  split
  · exact h1
  · exact h2

theorem be_ok {x : Prt} {c : Bool} {i : Nat} : (Res.ok x c i).be := trivial

set_option maxHeartbeats 2000000 in
theorem pP_be (T : List ATok) : ∀ (f : Nat) (nt : Nt) (i o : Nat), (pP T f nt i o).be
  | 0, nt, i, o => by cases nt <;> trivial
  | f + 1, nt, i, o => by
    have IH := fun (nt : Nt) (j o : Nat) => pP_be T f nt j o
    cases nt with
    | read r n => cases r <;> (simp only [pP, semi]; repeat (first | exact be_ok | exact be_here (.inl rfl) | exact be_here (.inr rfl) | (refine be_want ?_) | (refine be_wantN ?_) | (refine be_entr ?_) | (refine be_ite ?_ ?_) | (exact IH _ _ _) | (refine be_bind (IH _ _ _) fun x c j => ?_)))
    | _ => (simp only [pP, semi]; repeat (first | exact be_ok | exact be_here (.inl rfl) | exact be_here (.inr rfl) | (refine be_want ?_) | (refine be_wantN ?_) | (refine be_entr ?_) | (refine be_ite ?_ ?_) | (exact IH _ _ _) | (refine be_bind (IH _ _ _) fun x c j => ?_)))

theorem pP_bad_ne {T : List ATok} {e a : Int} {f : Nat} {nt : Nt} {i o : Nat} (h : pP T f nt i o = .bad e a) : e = 6 ∨ e = 3 := by
  have q := pP_be T f nt i o
  rw [h] at q
  exact q

theorem parse_any (v : Value) (b : List Int) (w : World) (h : By w v b) (hs : Sg w) (hm : b.length ≤ 10000) :
    Calls Tryd.prog 15 #[v] w (GotA b w) := by
  rcases hlx : lexA b with ⟨T, n, m⟩
  by_cases hn : n = 0
  · subst hn
    obtain ⟨h0, hT, hE, hmb⟩ := lexA_end hlx
    have hno := pP_no T (40 * (T.length + 1)) (.prog []) 0 0 (Nat.zero_le _) trivial (by simp only [rank]; omega)
    have hsz := pP_sz T (40 * (T.length + 1)) (.prog []) 0 0
    have hin := pP_in T (40 * (T.length + 1)) (.prog []) 0 0 (Nat.zero_le _)
    have hpa : parA b = match pP T (40 * (T.length + 1)) (.prog []) 0 0 with
      | .ok x _ _ => (x.flat, 0, (b.length : Int))
      | .bad e a => ([], e, a)
      | .out => ([], 0, 0) := by
      unfold parA
      rw [hlx]
      rfl
    cases hp : pP T (40 * (T.length + 1)) (.prog []) 0 0 with
    | out => rw [hp] at hno; exact hno.elim
    | bad e a =>
      rw [hp] at hpa
      have q := parse_good v b w T m _ (.bad e a) h hs (by omega) hlx h0 (by omega) hE hp nofun (fun x c j e => by cases e)
      refine q.mono ?_
      rintro e' w' ⟨rfl, hb⟩
      refine ⟨hb, ?_⟩
      rw [hpa]
      dsimp only
      have := pP_bad_ne hp
      rw [if_neg (by omega)]
      exact ⟨rfl, rfl⟩
    | ok x c j =>
      rw [hp] at hpa hsz hin
      have hs2 : x.size ≤ 100000 := by
        have e1 := flat_len x
        have e2 : x.flat.length + 0 ≤ j + (0 + 1) := hsz
        have e3 : j ≤ T.length := hin
        omega
      have q := parse_good v b w T m _ (.ok x c j) h hs (by omega) hlx h0 (by omega) hE hp nofun (fun x' c' j' e => by cases e; exact hs2)
      refine q.mono ?_
      rintro e' w' ⟨r, rfl, hnd, hb⟩
      refine ⟨hb, ?_⟩
      rw [hpa]
      dsimp only
      rw [if_pos rfl]
      exact ⟨r, rfl, hnd⟩
  · have hpa : parA b = ([], n, (m : Int)) := by
      unfold parA
      rw [hlx]
      simp [hn]
    refine (parse_bad v b w T n m h hs (by omega) hlx hn).mono ?_
    rintro e' w' ⟨rfl, hb⟩
    refine ⟨hb, ?_⟩
    rw [hpa]
    dsimp only
    rw [if_neg hn]
    exact ⟨rfl, rfl⟩

end Go.Proofs.YtlcieebneclmpaaDoor

