/- What is well made is a program: plain data. · What is read is well made: plain data. · The lexer's tokens: names, numbers, places: plain data. · Places of what is read: plain data. · What is parsed is right: plain data. · Faults' places, and what the law asks of what is parsed: plain data. · The place behind a node, of longer lists. · Check, of longer lists. -/
import Derived.Test.YtlcieebneclmpaaDoorC1
import Derived.Test.YtlcieebneclmpaaDoorPgnk
import Derived.Test.YtlcieebneclmpaaDoorLlk
import Derived.Test.YtlcieebneclmpaaDoorK6
import Derived.Test.YtlcieebneclmpaaDoorK13
import Derived.Test.YtlcieebneclmpaaDoorC3
set_option linter.unusedSimpArgs false
set_option linter.unusedVariables false
namespace Go.Proofs.YtlcieebneclmpaaDoor
open Go Go.RowKit

theorem bind_ok {r : Res} {k : Prt → Bool → Nat → Res} {x : Prt} {c : Bool} {j : Nat} (h : r.bind k = .ok x c j) : ∃ x1 c1 j1, r = .ok x1 c1 j1 ∧ k x1 c1 j1 = .ok x c j := by
  cases r with
  | ok x1 c1 j1 => exact ⟨x1, c1, j1, rfl, h⟩
  | bad _ _ => cases h
  | out => cases h

theorem want_ok {T : List ATok} {s : ByteArray} {i : Nat} {k : Nat → Res} {x : Prt} {c : Bool} {j : Nat} (h : want T s i k = .ok x c j) : isT T i s = true ∧ k (i + 1) = .ok x c j := by
  unfold want here at h
  split at h
  · exact ⟨by assumption, h⟩
  · cases h

theorem wantN_ok {T : List ATok} {i : Nat} {k : Nat → Res} {x : Prt} {c : Bool} {j : Nat} (h : wantN T i k = .ok x c j) : (tk T i).1 = 1 ∧ k (i + 1) = .ok x c j := by
  unfold wantN here at h
  split at h
  · exact ⟨by assumption, h⟩
  · cases h

theorem semi_ok {T : List ATok} {i : Nat} {y x : Prt} {c : Bool} {j : Nat} (h : semi T i y = .ok x c j) : isT T i ⟨#[59]⟩ = true ∧ x = y ∧ j = i + 1 := by
  obtain ⟨h1, h2⟩ := want_ok h
  cases h2
  exact ⟨h1, rfl, rfl⟩

theorem ite_ok {p : Prop} [Decidable p] {a b : Res} {x : Prt} {c : Bool} {j : Nat} (h : (if p then a else b) = .ok x c j) : (p ∧ a = .ok x c j) ∨ (¬p ∧ b = .ok x c j) := by
  by_cases hp : p
  · rw [if_pos hp] at h; exact .inl ⟨hp, h⟩
  · rw [if_neg hp] at h; exact .inr ⟨hp, h⟩

/-- What a program is made of. -/
theorem prog_kids {T : List ATok} : ∀ {f : Nat} {acc : List Prt} {i o : Nat} {x : Prt} {c : Bool} {j : Nat}, pP T f (.prog acc) i o = .ok x c j → ∃ more, x = .mk 1 [] 0 0 (acc ++ more) ∧ (tk T j).1 = 0
  | 0, acc, i, o, x, c, j, h => by simp [pP] at h
  | f + 1, acc, i, o, x, c, j, h => by
    simp only [pP] at h
    split at h
    · cases h
      exact ⟨[], by simp, by assumption⟩
    · obtain ⟨y, d, m, _, h⟩ := bind_ok h
      obtain ⟨more, e, hk⟩ := prog_kids h
      exact ⟨y :: more, by rw [e]; simp, hk⟩

theorem cut_kind {r : List Int} {k n : Int} {x : List Int} {len : Nat} (h : cut r = .tok k x n len) : k ≠ 0 := by
  unfold cut at h
  split at h
  · cases h
  · split at h
    · unfold cName at h
      injection h with h1
      subst h1
      split <;> decide
    · split at h
      · unfold cNum at h
        split at h
        · cases h
        split at h
        · cases h
        split at h
        · cases h
        injection h with h1
        subst h1
        decide
      · split at h
        · have := ((cStr_len _ _ _ _).1 _ _ _ _ h).1
          omega
        · unfold cSign at h
          split at h
          · cases h
          · split at h
            · injection h with h1; subst h1; decide
            · split at h
              · injection h with h1; subst h1; decide
              · cases h


mutual
/-- A part whose fields and parts are such as its kind has. -/
def Prt.good : Prt → Prop
  | .mk k t n a ks => wmP (k, (ks.length : Int), t, n, a) = true ∧ goods (k, (ks.length : Int), t, n, a) 0 ks
def goods (nd : ANode) (i : Nat) : List Prt → Prop
  | [] => True
  | p :: r => (ftP p.kind (stP nd (i : Int)) = true ∧ p.good) ∧ goods nd (i + 1) r
end

/-- It may stand where a is asked for. -/
def Prt.wf (a : Int) (p : Prt) : Prop := ftP p.kind a = true ∧ p.good

mutual
theorem ck_wf : ∀ (p : Prt) (a : Int) (f : Nat) (rest : List ANode) (at_ : Nat), p.wf a → (p.flat ++ rest).length < f → ckR f (p.flat ++ rest) at_ a = .ok rest (at_ + p.flat.length)
  | .mk k t n a' ks, a, 0, rest, at_, h, hf => by omega
  | .mk k t n a' ks, a, f + 1, rest, at_, h, hf => by
    have h1 : ftP k a = true := h.1
    obtain ⟨h2, h3⟩ := (show _ ∧ _ from h.2)
    rw [Prt.flat, List.cons_append, ckR, if_neg (by show ¬ ftP k a = false; rw [h1]; decide), if_neg (by rw [h2]; decide)]
    have hl : (flats ks ++ rest).length < f := by
      rw [Prt.flat] at hf
      simp at hf ⊢
      omega
    have := cks_wf ks (k, (ks.length : Int), t, n, a') 0 f rest (at_ + 1) h3 hl
    show kd (ckR f) (k, (ks.length : Int), t, n, a') ((ks.length : Int)).toNat 0 (flats ks ++ rest) (at_ + 1) = _
    rw [Int.toNat_natCast]
    have e : kd (ckR f) (k, (ks.length : Int), t, n, a') ks.length 0 (flats ks ++ rest) (at_ + 1) = .ok rest (at_ + 1 + (flats ks).length) := this
    rw [e]
    simp
    omega
theorem cks_wf : ∀ (ks : List Prt) (nd : ANode) (i : Nat) (f : Nat) (rest : List ANode) (at_ : Nat), goods nd i ks → (flats ks ++ rest).length < f → kd (ckR f) nd ks.length (i : Int) (flats ks ++ rest) at_ = .ok rest (at_ + (flats ks).length)
  | [], nd, i, f, rest, at_, _, _ => by rw [flats]; rfl
  | p :: r, nd, i, f, rest, at_, h, hf => by
    obtain ⟨h1, h2⟩ := (show _ ∧ _ from h)
    rw [flats, List.append_assoc] at hf ⊢
    have e1 := ck_wf p (stP nd (i : Int)) f (flats r ++ rest) at_ h1 hf
    rw [List.length_cons, kd, e1]
    have e2 := cks_wf r nd (i + 1) f rest (at_ + p.flat.length) h2 (by simp at hf ⊢; omega)
    show kd (ckR f) nd r.length ((i : Int) + 1) (flats r ++ rest) (at_ + p.flat.length) = _
    rw [show (i : Int) + 1 = ((i + 1 : Nat) : Int) by omega, e2]
    simp
    omega
end

theorem flat_ne (p : Prt) : p.flat ≠ [] := by cases p; simp [Prt.flat]

/-- A program that is well made passes. -/
theorem ck_prog {p : Prt} (h : p.wf 1) : ckP p.flat = (0, 0) := by
  rw [ck_same]
  unfold ckD
  rw [if_neg (flat_ne p)]
  have e := ck_wf p 1 (p.flat.length + 1) [] 0 h (by simp)
  rw [List.append_nil] at e
  rw [e]
  rfl

theorem goods_all {nd : ANode} {b : Int} (hst : ∀ i : Nat, stP nd (i : Int) = b) : ∀ (ks : List Prt) (i : Nat), (∀ p ∈ ks, p.wf b) → goods nd i ks
  | [], i, _ => trivial
  | p :: r, i, h => ⟨by rw [hst]; exact h p (by simp), goods_all hst r (i + 1) (fun q hq => h q (by simp [hq]))⟩

/-- The tokens are such as the lexer makes. -/
def TokOk (T : List ATok) : Prop := ∀ i, ((tk T i).1 = 1 → isName (tk T i).2.1 = true) ∧ ((tk T i).1 = 3 → 0 ≤ (tk T i).2.2.1 ∧ (tk T i).2.2.1 ≤ 2305843009213693951)

end Go.Proofs.YtlcieebneclmpaaDoor

set_option linter.unusedSimpArgs false
set_option linter.unusedVariables false
namespace Go.Proofs.YtlcieebneclmpaaDoor
open Go Go.RowKit

def asR : Rd → Int
  | .arg => 3
  | .ent => 3
  | .par => 5
  | .key => 4

def capd : Rd → Prop
  | .arg => True
  | .par => True
  | _ => False

def preW (n : Nat) : Nt → Nat → Prop
  | .lev k, _ => k ≤ 6
  | .more k x, _ => x.wf 3 ∧ (k = 0 ∨ k = 1 ∨ k = 4 ∨ k = 5)
  | .things x c, _ => x.wf 3 ∧ (c = true → x.kind = 28)
  | .rows r _ acc, _ => (∀ q ∈ acc, q.wf (asR r)) ∧ (capd r → acc.length ≤ 16)
  | .body k t _, _ => k = 31 ∨ (k = 12 ∧ isName t = true)
  | .stmts _ acc, i => (∀ q ∈ acc, q.wf 2) ∧ acc.length ≤ i ∧ i ≤ n
  | .prog acc, i => (∀ q ∈ acc, q.wf 2) ∧ acc.length ≤ i ∧ i ≤ n
  | .read r m, _ => capd r → m ≤ 16
  | _, _ => True

def postW : Nt → Prt → Bool → Prop
  | .thing, x, c => x.wf 3 ∧ (c = true → x.kind = 28)
  | .things _ _, x, c => x.wf 3 ∧ (c = true → x.kind = 28)
  | .read r n, x, _ => x.wf (asR r) ∧ (capd r → n < 16)
  | .row r _ _, x, _ => (∀ q ∈ x.kids, q.wf (asR r)) ∧ (capd r → x.kids.length ≤ 16)
  | .rows r _ _, x, _ => (∀ q ∈ x.kids, q.wf (asR r)) ∧ (capd r → x.kids.length ≤ 16)
  | .body k _ _, x, _ => x.kind = k ∧ x.good
  | .block, x, _ => x.kind = 2 ∧ x.good
  | .stmts _ _, x, _ => x.kind = 2 ∧ x.good
  | .choice, x, _ => x.kind = 5 ∧ x.good
  | .stmt, x, _ => x.wf 2
  | .prog _, x, _ => x.wf 1
  | _, x, _ => x.wf 3

/-- Where nothing begins, nothing is read. -/
theorem nobeg_ge (T : List ATok) (M : Nat) : ∀ (f : Nat) (nt : Nt) (i o : Nat), begs T i = false → (match nt with | .lev _ => True | .thing => True | .single => True | _ => False) → (pP T f nt i o).ge M
  | 0, nt, i, o, _, _ => by cases nt <;> trivial
  | f + 1, nt, i, o, h, hn => by
    have IH := fun (nt : Nt) h2 => nobeg_ge T M f nt i o h h2
    have h0 := h
    unfold begs at h0
    simp only [Bool.or_eq_false_iff] at h0
    obtain ⟨⟨⟨k1, k3⟩, k4⟩, ho⟩ := h0
    have no : ∀ c ∈ begL, isT T i c = false := by
      intro c hc
      unfold isO at ho
      rw [List.any_eq_false] at ho
      simpa using ho c hc
    have BI : ∀ {r : Res} {k : Prt → Bool → Nat → Res}, (∀ M, r.ge M) → (r.bind k).ge M := by
      intro r k hr
      cases r with
      | ok x c j => exact absurd (show j + 1 ≤ j from hr (j + 1)) (by omega)
      | bad _ _ => trivial
      | out => trivial
    have IHM := fun (nt : Nt) h2 M => nobeg_ge T M f nt i o h h2
    cases nt with
    | lev k =>
      simp only [pP]
      rw [no ⟨#[110, 111, 116]⟩ (by simp [begL]), no ⟨#[45]⟩ (by simp [begL]), no ⟨#[115, 112, 97, 119, 110]⟩ (by simp [begL])]
      simp only [Bool.false_eq_true, if_false]
      repeat (first | apply ge_ite | (refine IH _ True.intro) | (exact BI (IHM _ True.intro)))
    | thing =>
      simp only [pP]
      exact BI (IHM _ True.intro)
    | single =>
      simp only [pP]
      simp only [beq_eq_false_iff_ne] at k1 k3 k4
      rw [if_neg k3, if_neg k4, if_neg k1, no ⟨#[116, 114, 117, 101]⟩ (by simp [begL]), no ⟨#[102, 97, 108, 115, 101]⟩ (by simp [begL]), no ⟨#[110, 105, 108]⟩ (by simp [begL]), no ⟨#[91]⟩ (by simp [begL]), no ⟨#[123]⟩ (by simp [begL]), no ⟨#[102, 110]⟩ (by simp [begL])]
      simp only [Bool.false_eq_true, if_false, entr, no ⟨#[40]⟩ (by simp [begL])]
      exact ge_here
    | _ => exact hn.elim

theorem entr_ok {T : List ATok} {s : ByteArray} {i o : Nat} {k : Nat → Nat → Res} {x : Prt} {c : Bool} {j : Nat} (h : entr T s i o k = .ok x c j) : k (i + 1) (o + 1) = .ok x c j := by
  unfold entr here at h
  split at h
  · split at h
    · cases h
    · exact h
  · cases h

theorem here_ok {T : List ATok} {e : Int} {i : Nat} {x : Prt} {c : Bool} {j : Nat} (h : here T e i = .ok x c j) : False := by cases h

theorem wm_two {k : Int} {a : Int} (hk : k = 24 ∨ k = 25 ∨ k = 29 ∨ k = 4 ∨ k = 6) : wmP (k, 2, [], 0, a) = true := by
  rcases hk with rfl | rfl | rfl | rfl | rfl <;> rfl

theorem jn_wf {T : List ATok} {k i : Nat} {x y : Prt} (hk : k = 0 ∨ k = 1 ∨ k = 3 ∨ k = 4 ∨ k = 5) (ho : isO T i (sgl k) = true) (hx : x.wf 3) (hy : y.wf 3) : (jn (tk T i) x y).wf 3 := by
  unfold isO at ho
  rw [List.any_eq_true] at ho
  obtain ⟨s, hs, ht⟩ := ho
  have htx : strOfNums (tk T i).2.1 = s := by
    simp only [isT, Bool.and_eq_true, decide_eq_true_eq] at ht
    exact ht.2
  unfold jn
  split
  · exact ⟨rfl, rfl, hx, hy, trivial⟩
  · split
    · exact ⟨rfl, rfl, hx, hy, trivial⟩
    · have hb : binP (tk T i).2.1 = true := by
        unfold binP
        rw [htx]
        rename_i h1 h2
        rw [htx] at h1 h2
        rcases hk with rfl | rfl | rfl | rfl | rfl
        · simp [sgl] at hs; exact absurd hs h1
        · simp [sgl] at hs; exact absurd hs h2
        · exact (show ∀ s ∈ sgl 3, ([[43], [45], [42], [47], [37], [61, 61], [33, 61], [60], [60, 61], [62], [62, 61]].any fun q => decide (s = strOfNums q)) = true by decide) s hs
        · exact (show ∀ s ∈ sgl 4, ([[43], [45], [42], [47], [37], [61, 61], [33, 61], [60], [60, 61], [62], [62, 61]].any fun q => decide (s = strOfNums q)) = true by decide) s hs
        · exact (show ∀ s ∈ sgl 5, ([[43], [45], [42], [47], [37], [61, 61], [33, 61], [60], [60, 61], [62], [62, 61]].any fun q => decide (s = strOfNums q)) = true by decide) s hs
      refine ⟨rfl, ?_, hx, hy, trivial⟩
      show wmP (23, 2, (tk T i).2.1, 0, x.at_) = true
      unfold wmP
      simp [shpA, shpT, hb]

theorem named_wm {k : Int} {t : List Int} {a : Int} {N : Int} (ht : isName t = true) (hk : (k = 3 ∧ N = 1) ∨ (k = 11 ∧ N = 2) ∨ (k = 19 ∧ N = 0) ∨ (k = 22 ∧ N = 1) ∨ (k = 30 ∧ N = 1)) : wmP (k, N, t, 0, a) = true := by
  unfold wmP
  rcases hk with ⟨rfl, rfl⟩ | ⟨rfl, rfl⟩ | ⟨rfl, rfl⟩ | ⟨rfl, rfl⟩ | ⟨rfl, rfl⟩ <;> simp [shpA, shpT, ht]

theorem goods_body {k : Int} {t : List Int} {a : Int} (hk : k = 12 ∨ k = 31) (N : Int) (b : Prt) (hb : b.kind = 2 ∧ b.good) : ∀ (ps : List Prt) (i m : Nat), m = i + ps.length → (∀ q ∈ ps, q.wf 5) → goods (k, N, t, (m : Int), a) i (ps ++ [b])
  | [], i, m, hm, _ => by
    have hst : stP (k, N, t, (m : Int), a) (i : Int) = 6 := by
      unfold stP
      simp at hm
      subst hm
      rcases hk with rfl | rfl <;> simp
    exact ⟨⟨by rw [hst, hb.1]; rfl, hb.2⟩, trivial⟩
  | p :: r, i, m, hm, h => by
    simp at hm
    have hst : stP (k, N, t, (m : Int), a) (i : Int) = 5 := by
      unfold stP
      have : (i : Int) < (m : Int) := by omega
      rcases hk with rfl | rfl <;> simp [this]
    exact ⟨by rw [hst]; exact h p (by simp), goods_body hk N b hb r (i + 1) m (by omega) (fun q hq => h q (by simp [hq]))⟩

set_option maxHeartbeats 4000000 in
theorem pP_wf (T : List ATok) (ht : TokOk T) (hT : T.length ≤ 1000000) : ∀ (f : Nat) (nt : Nt) (i o : Nat) (x : Prt) (c : Bool) (j : Nat), preW T.length nt i → pP T f nt i o = .ok x c j → postW nt x c
  | 0, nt, i, o, x, c, j, _, h => by cases nt <;> cases h
  | f + 1, nt, i, o, x, c, j, hp, h => by
    have IH := fun (nt : Nt) (i o : Nat) (x : Prt) (c : Bool) (j : Nat) h1 h2 => pP_wf T ht hT f nt i o x c j h1 h2
    cases nt with
    | lev k =>
      have hk : k ≤ 6 := hp
      rw [pP] at h
      rcases ite_ok h with ⟨h2, h⟩ | ⟨h2, h⟩
      · rcases ite_ok h with ⟨_, h⟩ | ⟨_, h⟩
        · obtain ⟨y, d, m, hy, h⟩ := bind_ok (entr_ok h)
          have w := IH _ _ _ _ _ _ (show preW T.length (.lev 2) _ from by simp [preW]) hy
          cases h
          exact ⟨rfl, rfl, w, trivial⟩
        · have w9 := IH (.lev 3) _ _ _ _ _ (show preW T.length (.lev 3) _ from by simp [preW]) h
          exact w9
      rcases ite_ok h with ⟨h3, h⟩ | ⟨h3, h⟩
      · obtain ⟨y, d, m, hy, h⟩ := bind_ok h
        have w := IH _ _ _ _ _ _ (show preW T.length (.lev 4) _ from by simp [preW]) hy
        rcases ite_ok h with ⟨ho, h⟩ | ⟨_, h⟩
        · obtain ⟨z, d2, m2, hz, h⟩ := bind_ok h
          have w2 := IH _ _ _ _ _ _ (show preW T.length (.lev 4) _ from by simp [preW]) hz
          cases h
          exact jn_wf (k := 3) (by omega) ho w w2
        · cases h
          exact w
      rcases ite_ok h with ⟨h6, h⟩ | ⟨h6, h⟩
      · rcases ite_ok h with ⟨_, h⟩ | ⟨_, h⟩
        · obtain ⟨y, d, m, hy, h⟩ := bind_ok (entr_ok h)
          have w := IH _ _ _ _ _ _ (show preW T.length (.lev 6) _ from by simp [preW]) hy
          cases h
          exact ⟨rfl, rfl, w, trivial⟩
        rcases ite_ok h with ⟨_, h⟩ | ⟨_, h⟩
        · obtain ⟨y, d, m, hy, h⟩ := bind_ok (entr_ok h)
          have w := IH _ _ _ _ _ _ (show preW T.length .thing _ from trivial) hy
          rcases ite_ok h with ⟨hc, h⟩ | ⟨_, h⟩
          · cases h
            have hk28 := w.2 hc
            obtain ⟨yk, yt, yn, ya, yks⟩ := y
            have : yk = 28 := hk28
            subst this
            obtain ⟨⟨_, w1, w2⟩, _⟩ := w
            refine ⟨rfl, ?_, ?_⟩
            · show wmP (32, (yks.length : Int), [], 0, _) = true
              unfold wmP at w1 ⊢
              simp [shpA, shpT] at w1 ⊢
              exact w1
            · exact goods_all (b := 3) (fun i => rfl) yks 0 (by
                have : ∀ (l : List Prt) (i : Nat), goods (28, (yks.length : Int), yt, yn, ya) i l → ∀ q ∈ l, q.wf 3 := by
                  intro l
                  induction l with
                  | nil => intro i _ q hq; cases hq
                  | cons a r ih =>
                    intro i hg q hq
                    rcases List.mem_cons.1 hq with rfl | hq
                    · exact hg.1
                    · exact ih (i + 1) hg.2 q hq
                exact this yks 0 w2)
          · exact (here_ok h).elim
        · obtain ⟨y, d, m, hy, h⟩ := bind_ok h
          have w := IH _ _ _ _ _ _ (show preW T.length .thing _ from trivial) hy
          cases h
          exact w.1
      · obtain ⟨y, d, m, hy, h⟩ := bind_ok h
        have w := IH _ _ _ _ _ _ (show preW T.length (.lev (k + 1)) _ from by show k + 1 ≤ 6; omega) hy
        have w9 := IH (.more k y) _ _ _ _ _ ⟨w, by omega⟩ h
        exact w9
    | more k y0 =>
      obtain ⟨hw, hk⟩ := (show _ ∧ _ from hp)
      rw [pP] at h
      rcases ite_ok h with ⟨ho, h⟩ | ⟨_, h⟩
      · obtain ⟨y, d, m, hy, h⟩ := bind_ok h
        have w := IH _ _ _ _ _ _ (show preW T.length (.lev (k + 1)) _ from by show k + 1 ≤ 6; omega) hy
        have w9 := IH (.more k (jn (tk T i) y0 y)) _ _ _ _ _ ⟨jn_wf (by omega) ho hw w, hk⟩ h
        exact w9
      · cases h
        exact hw
    | thing =>
      rw [pP] at h
      obtain ⟨y, d, m, hy, h⟩ := bind_ok h
      have w := IH _ _ _ _ _ _ (show preW T.length .single _ from trivial) hy
      have w9 := IH (.things y false) _ _ _ _ _ ⟨w, by simp⟩ h
      exact w9
    | things y0 c0 =>
      obtain ⟨hw, hc⟩ := (show _ ∧ _ from hp)
      rw [pP] at h
      rcases ite_ok h with ⟨_, h⟩ | ⟨_, h⟩
      · obtain ⟨r, d, m, hr, h⟩ := bind_ok h
        obtain ⟨w1, w2⟩ := IH _ _ _ _ _ _ (show preW T.length (.row .arg _ _) _ from trivial) hr
        have w2 := w2 trivial
        have w3 : (Prt.mk 28 [] 0 y0.at_ (y0 :: r.kids)).wf 3 := by
          refine ⟨rfl, ?_, goods_all (b := 3) (fun i => rfl) _ 0 (fun q hq => ?_)⟩
          · show wmP (28, ((r.kids.length + 1 : Nat) : Int), [], 0, y0.at_) = true
            unfold wmP
            simp [shpA, shpT]
            omega
          · rcases List.mem_cons.1 hq with rfl | hq
            · exact hw
            · exact w1 q hq
        have w9 := IH (.things _ true) _ _ _ _ _ ⟨w3, fun _ => rfl⟩ h
        exact w9
      rcases ite_ok h with ⟨_, h⟩ | ⟨_, h⟩
      · obtain ⟨y, d, m, hy, h⟩ := bind_ok (entr_ok h)
        have w := IH _ _ _ _ _ _ (show preW T.length (.lev 0) _ from by simp [preW]) hy
        obtain ⟨_, h⟩ := want_ok h
        have w9 := IH (.things (.mk 29 [] 0 y0.at_ [y0, y]) false) _ _ _ _ _ ⟨⟨rfl, rfl, hw, w, trivial⟩, by simp⟩ h
        exact w9
      rcases ite_ok h with ⟨_, h⟩ | ⟨_, h⟩
      · obtain ⟨hk, h⟩ := wantN_ok h
        have w9 := IH (.things (.mk 30 (tk T (i + 1)).2.1 0 y0.at_ [y0]) false) _ _ _ _ _ ⟨⟨rfl, named_wm ((ht (i + 1)).1 hk) (by simp), hw, trivial⟩, by simp⟩ h
        exact w9
      · cases h
        exact ⟨hw, hc⟩
    | single =>
      rw [pP] at h
      rcases ite_ok h with ⟨hk, h⟩ | ⟨_, h⟩
      · cases h
        have := (ht i).2 hk
        refine ⟨rfl, ?_, trivial⟩
        show wmP (14, 0, [], (tk T i).2.2.1, (tk T i).2.2.2) = true
        unfold wmP
        simp [shpA, shpT]
        exact this
      rcases ite_ok h with ⟨hk, h⟩ | ⟨_, h⟩
      · cases h
        refine ⟨rfl, ?_, trivial⟩
        show wmP (15, 0, (tk T i).2.1, 0, (tk T i).2.2.2) = true
        unfold wmP
        simp [shpA, shpT]
      rcases ite_ok h with ⟨hk, h⟩ | ⟨_, h⟩
      · cases h
        exact ⟨rfl, named_wm ((ht i).1 hk) (by simp), trivial⟩
      rcases ite_ok h with ⟨_, h⟩ | ⟨_, h⟩
      · cases h; exact ⟨rfl, rfl, trivial⟩
      rcases ite_ok h with ⟨_, h⟩ | ⟨_, h⟩
      · cases h; exact ⟨rfl, rfl, trivial⟩
      rcases ite_ok h with ⟨_, h⟩ | ⟨_, h⟩
      · cases h; exact ⟨rfl, rfl, trivial⟩
      rcases ite_ok h with ⟨hb, h⟩ | ⟨_, h⟩
      · obtain ⟨r, d, m, hr, h⟩ := bind_ok h
        obtain ⟨w1, _⟩ := IH _ _ _ _ _ _ (show preW T.length (.row .ent _ _) _ from trivial) hr
        cases h
        refine ⟨rfl, ?_, goods_all (b := 3) (fun i => rfl) _ 0 w1⟩
        have hlen := row_len hr
        have hm := pP_in T f (.row .ent ⟨#[91]⟩ ⟨#[93]⟩) i o (by have := isT_lt hb; omega)
        rw [hr] at hm
        have hm2 : j ≤ T.length := hm
        show wmP (20, (r.kids.length : Int), [], 0, (tk T i).2.2.2) = true
        unfold wmP
        simp [shpA, shpT]
        omega
      rcases ite_ok h with ⟨hb, h⟩ | ⟨_, h⟩
      · obtain ⟨r, d, m, hr, h⟩ := bind_ok h
        obtain ⟨w1, _⟩ := IH _ _ _ _ _ _ (show preW T.length (.row .key _ _) _ from trivial) hr
        cases h
        refine ⟨rfl, ?_, goods_all (b := 4) (fun i => rfl) _ 0 w1⟩
        have hlen := row_len hr
        have hm := pP_in T f (.row .key ⟨#[123]⟩ ⟨#[125]⟩) i o (by have := isT_lt hb; omega)
        rw [hr] at hm
        have hm2 : j ≤ T.length := hm
        show wmP (21, (r.kids.length : Int), [], 0, (tk T i).2.2.2) = true
        unfold wmP
        simp [shpA, shpT]
        omega
      rcases ite_ok h with ⟨_, h⟩ | ⟨_, h⟩
      · obtain ⟨w1, w2⟩ := IH (.body 31 [] _) _ _ _ _ _ (.inl rfl) h
        exact ⟨by rw [w1]; rfl, w2⟩
      · obtain ⟨y, d, m, hy, h⟩ := bind_ok (entr_ok h)
        have w := IH _ _ _ _ _ _ (show preW T.length (.lev 0) _ from by simp [preW]) hy
        obtain ⟨_, h⟩ := want_ok h
        cases h
        exact w
    | read r n =>
      cases r with
      | arg =>
        rw [pP] at h
        rcases ite_ok h with ⟨_, h⟩ | ⟨hn, h⟩
        · exact (here_ok h).elim
        · have w := IH (.lev 0) _ _ _ _ _ (by simp [preW]) h
          refine ⟨w, fun _ => ?_⟩
          have hle : n ≤ 16 := hp trivial
          apply Classical.byContradiction
          intro hc
          have hb : begs T i = false := by
            cases hb : begs T i with
            | false => rfl
            | true => exact absurd ⟨by omega, hb⟩ hn
          have q := nobeg_ge T (j + 1) f (.lev 0) i o hb True.intro
          rw [h] at q
          exact absurd (show j + 1 ≤ j from q) (by omega)
      | par =>
        rw [pP] at h
        rcases ite_ok h with ⟨_, h⟩ | ⟨hn, h⟩
        · exact (here_ok h).elim
        · obtain ⟨hk, h⟩ := wantN_ok h
          cases h
          refine ⟨⟨rfl, named_wm ((ht i).1 hk) (by simp), trivial⟩, fun _ => ?_⟩
          have hle : n ≤ 16 := hp trivial
          apply Classical.byContradiction
          intro hc
          exact hn ⟨by omega, hk⟩
      | ent =>
        rw [pP] at h
        exact ⟨IH (.lev 0) _ _ _ _ _ (by simp [preW]) h, fun h => h.elim⟩
      | key =>
        rw [pP] at h
        obtain ⟨hk, h⟩ := wantN_ok h
        obtain ⟨_, h⟩ := want_ok h
        obtain ⟨y, d, m, hy, h⟩ := bind_ok h
        have w := IH (.lev 0) _ _ _ _ _ (by simp [preW]) hy
        cases h
        exact ⟨⟨rfl, named_wm ((ht i).1 hk) (by simp), w, trivial⟩, fun h => h.elim⟩
    | row r b e =>
      rw [pP] at h
      have h := entr_ok h
      rcases ite_ok h with ⟨_, h⟩ | ⟨_, h⟩
      · cases h
        exact ⟨fun q hq => (by cases hq), fun _ => Nat.zero_le _⟩
      · obtain ⟨y, d, m, hy, h⟩ := bind_ok h
        obtain ⟨w1, w2⟩ := IH (.read r 0) _ _ _ _ _ (fun _ => Nat.zero_le _) hy
        have w9 := IH (.rows r e [y]) _ _ _ _ _ ⟨fun q hq => by rw [List.mem_singleton] at hq; subst hq; exact w1, fun _ => by simp⟩ h
        exact w9
    | rows r e acc =>
      obtain ⟨ha, hb⟩ := (show _ ∧ _ from hp)
      rw [pP] at h
      rcases ite_ok h with ⟨_, h⟩ | ⟨_, h⟩
      · obtain ⟨y, d, m, hy, h⟩ := bind_ok h
        obtain ⟨w1, w2⟩ := IH (.read r acc.length) _ _ _ _ _ hb hy
        have w9 := IH (.rows r e (acc ++ [y])) _ _ _ _ _ ⟨fun q hq => by
          rcases List.mem_append.1 hq with hq | hq
          · exact ha q hq
          · rw [List.mem_singleton] at hq; subst hq; exact w1, fun hc => by have := w2 hc; simp; omega⟩ h
        exact w9
      · obtain ⟨_, h⟩ := want_ok h
        cases h
        exact ⟨ha, hb⟩
    | body kd tx a =>
      rw [pP] at h
      obtain ⟨r, d, m, hr, h⟩ := bind_ok h
      obtain ⟨b, d2, m2, hb, h⟩ := bind_ok h
      obtain ⟨w1, w2⟩ := IH (.row .par _ _) _ _ _ _ _ trivial hr
      have w2 := w2 trivial
      have wb := IH .block _ _ _ _ _ trivial hb
      cases h
      refine ⟨rfl, ?_, ?_⟩
      · show wmP (kd, ((r.kids ++ [b]).length : Int), tx, (r.kids.length : Int), a) = true
        unfold wmP
        rcases (show _ ∨ _ from hp) with rfl | ⟨rfl, hn⟩
        · simp [shpA, shpT]
          omega
        · simp [shpA, shpT, hn]
          omega
      · have hk : kd = 12 ∨ kd = 31 := by
          rcases (show _ ∨ _ from hp) with rfl | ⟨rfl, _⟩
          · exact .inr rfl
          · exact .inl rfl
        exact goods_body hk _ b wb r.kids 0 r.kids.length (by omega) w1
    | block =>
      rw [pP] at h
      unfold entr here at h
      split at h
      · rename_i hb
        split at h
        · cases h
        · have w9 := IH (.stmts _ []) _ _ _ _ _ ⟨fun q hq => (by cases hq), Nat.zero_le _, (by have := isT_lt hb; omega)⟩ h
          exact w9
      · cases h
    | stmts a acc =>
      obtain ⟨ha, hl, hi⟩ := (show _ ∧ _ ∧ _ from hp)
      rw [pP] at h
      rcases ite_ok h with ⟨_, h⟩ | ⟨_, h⟩
      · cases h
        refine ⟨rfl, ?_, goods_all (b := 2) (fun i => rfl) _ 0 ha⟩
        show wmP (2, (acc.length : Int), [], 0, a) = true
        unfold wmP
        simp [shpA, shpT]
        omega
      · obtain ⟨y, d, m, hy, h⟩ := bind_ok h
        have w := IH .stmt _ _ _ _ _ trivial hy
        have hgt := stmt_lt hy
        have hm := pP_in T f .stmt i o hi
        rw [hy] at hm
        have hm2 : m ≤ T.length := hm
        have w9 := IH (.stmts a (acc ++ [y])) _ _ _ _ _ ⟨fun q hq => by
          rcases List.mem_append.1 hq with hq | hq
          · exact ha q hq
          · rw [List.mem_singleton] at hq; subst hq; exact w, by simp; omega, hm2⟩ h
        exact w9
    | choice =>
      rw [pP] at h
      obtain ⟨_, h⟩ := want_ok h
      obtain ⟨y1, d1, m1, hy1, h⟩ := bind_ok h
      obtain ⟨y2, d2, m2, hy2, h⟩ := bind_ok h
      have w1 := IH (.lev 0) _ _ _ _ _ (by simp [preW]) hy1
      have w2 := IH .block _ _ _ _ _ trivial hy2
      rcases ite_ok h with ⟨_, h⟩ | ⟨_, h⟩
      · rcases ite_ok h with ⟨_, h⟩ | ⟨_, h⟩
        · obtain ⟨y3, d3, m3, hy3, h⟩ := bind_ok h
          have w3 := IH .choice _ _ _ _ _ trivial hy3
          cases h
          exact ⟨rfl, rfl, w1, ⟨by rw [w2.1]; rfl, w2.2⟩, ⟨by rw [w3.1]; rfl, w3.2⟩, trivial⟩
        · obtain ⟨y3, d3, m3, hy3, h⟩ := bind_ok h
          have w3 := IH .block _ _ _ _ _ trivial hy3
          cases h
          exact ⟨rfl, rfl, w1, ⟨by rw [w2.1]; rfl, w2.2⟩, ⟨by rw [w3.1]; rfl, w3.2⟩, trivial⟩
      · cases h
        exact ⟨rfl, rfl, w1, ⟨by rw [w2.1]; rfl, w2.2⟩, trivial⟩
    | prog acc =>
      obtain ⟨ha, hl, hi⟩ := (show _ ∧ _ ∧ _ from hp)
      rw [pP] at h
      rcases ite_ok h with ⟨_, h⟩ | ⟨_, h⟩
      · cases h
        refine ⟨rfl, ?_, goods_all (b := 2) (fun i => rfl) _ 0 ha⟩
        show wmP (1, (acc.length : Int), [], 0, 0) = true
        unfold wmP
        simp [shpA, shpT]
        omega
      · obtain ⟨y, d, m, hy, h⟩ := bind_ok h
        have w := IH .stmt _ _ _ _ _ trivial hy
        have hgt := stmt_lt hy
        have hm := pP_in T f .stmt i o hi
        rw [hy] at hm
        have hm2 : m ≤ T.length := hm
        have w9 := IH (.prog (acc ++ [y])) _ _ _ _ _ ⟨fun q hq => by
          rcases List.mem_append.1 hq with hq | hq
          · exact ha q hq
          · rw [List.mem_singleton] at hq; subst hq; exact w, by simp; omega, hm2⟩ h
        exact w9
    | stmt =>
      rw [pP] at h
      rcases ite_ok h with ⟨_, h⟩ | ⟨_, h⟩
      · have w := IH .block _ _ _ _ _ trivial h
        exact ⟨by rw [w.1]; rfl, w.2⟩
      rcases ite_ok h with ⟨_, h⟩ | ⟨_, h⟩
      · obtain ⟨hk, h⟩ := wantN_ok h
        obtain ⟨_, h⟩ := want_ok h
        obtain ⟨y, d, m, hy, h⟩ := bind_ok h
        have w := IH (.lev 0) _ _ _ _ _ (by simp [preW]) hy
        obtain ⟨_, rfl, _⟩ := semi_ok h
        exact ⟨rfl, named_wm ((ht (i + 1)).1 hk) (by simp), w, trivial⟩
      rcases ite_ok h with ⟨_, h⟩ | ⟨_, h⟩
      · have w := IH .choice _ _ _ _ _ trivial h
        exact ⟨by rw [w.1]; rfl, w.2⟩
      rcases ite_ok h with ⟨_, h⟩ | ⟨_, h⟩
      · obtain ⟨y1, d1, m1, hy1, h⟩ := bind_ok h
        obtain ⟨y2, d2, m2, hy2, h⟩ := bind_ok h
        have w1 := IH (.lev 0) _ _ _ _ _ (by simp [preW]) hy1
        have w2 := IH .block _ _ _ _ _ trivial hy2
        cases h
        exact ⟨rfl, rfl, w1, ⟨by rw [w2.1]; rfl, w2.2⟩, trivial⟩
      rcases ite_ok h with ⟨_, h⟩ | ⟨_, h⟩
      · obtain ⟨_, rfl, _⟩ := semi_ok h
        exact ⟨rfl, rfl, trivial⟩
      rcases ite_ok h with ⟨_, h⟩ | ⟨_, h⟩
      · obtain ⟨_, rfl, _⟩ := semi_ok h
        exact ⟨rfl, rfl, trivial⟩
      rcases ite_ok h with ⟨_, h⟩ | ⟨_, h⟩
      · rcases ite_ok h with ⟨_, h⟩ | ⟨_, h⟩
        · obtain ⟨_, rfl, _⟩ := semi_ok h
          exact ⟨rfl, rfl, trivial⟩
        · obtain ⟨y, d, m, hy, h⟩ := bind_ok h
          have w := IH (.lev 0) _ _ _ _ _ (by simp [preW]) hy
          obtain ⟨_, rfl, _⟩ := semi_ok h
          exact ⟨rfl, rfl, w, trivial⟩
      rcases ite_ok h with ⟨_, h⟩ | ⟨_, h⟩
      · obtain ⟨y, d, m, hy, h⟩ := bind_ok h
        have w := IH (.lev 0) _ _ _ _ _ (by simp [preW]) hy
        obtain ⟨_, rfl, _⟩ := semi_ok h
        exact ⟨rfl, rfl, w, trivial⟩
      rcases ite_ok h with ⟨_, h⟩ | ⟨_, h⟩
      · obtain ⟨y1, d1, m1, hy1, h⟩ := bind_ok h
        obtain ⟨_, h⟩ := want_ok h
        obtain ⟨hk, h⟩ := wantN_ok h
        obtain ⟨y2, d2, m2, hy2, h⟩ := bind_ok h
        have w1 := IH .block _ _ _ _ _ trivial hy1
        have w2 := IH .block _ _ _ _ _ trivial hy2
        cases h
        exact ⟨rfl, named_wm ((ht (m1 + 1)).1 hk) (by simp), ⟨by rw [w1.1]; rfl, w1.2⟩, ⟨by rw [w2.1]; rfl, w2.2⟩, trivial⟩
      rcases ite_ok h with ⟨hf, h⟩ | ⟨_, h⟩
      · simp only [Bool.and_eq_true, beq_iff_eq] at hf
        have w := IH (.body 12 _ _) _ _ _ _ _ (.inr ⟨rfl, (ht (i + 1)).1 hf.2⟩) h
        exact ⟨by rw [w.1]; rfl, w.2⟩
      obtain ⟨y, d, m, hy, h⟩ := bind_ok h
      have w := IH (.lev 0) _ _ _ _ _ (by simp [preW]) hy
      rcases ite_ok h with ⟨hg, h⟩ | ⟨_, h⟩
      · obtain ⟨z, d2, m2, hz, h⟩ := bind_ok h
        have w2 := IH (.lev 0) _ _ _ _ _ (by simp [preW]) hz
        obtain ⟨_, rfl, _⟩ := semi_ok h
        simp only [Bool.and_eq_true, Bool.or_eq_true, beq_iff_eq] at hg
        refine ⟨rfl, rfl, ⟨?_, w.2⟩, w2, trivial⟩
        show ftP y.kind 8 = true
        rcases hg.1 with (hk | hk) | hk <;> rw [hk] <;> rfl
      · obtain ⟨_, rfl, _⟩ := semi_ok h
        exact ⟨rfl, rfl, w, trivial⟩

end Go.Proofs.YtlcieebneclmpaaDoor

set_option linter.unusedSimpArgs false
set_option linter.unusedVariables false
namespace Go.Proofs.YtlcieebneclmpaaDoor
open Go Go.RowKit

/-- A token as the lexer makes it. -/
def TkG (t : ATok) : Prop := (t.1 = 1 → isName t.2.1 = true) ∧ (t.1 = 3 → 0 ≤ t.2.2.1 ∧ t.2.2.1 ≤ 2305843009213693951)

theorem num_step {s : Int × Bool} {d : Int} (hd : isDg d = true) (h0 : 0 ≤ s.1 ∧ s.1 ≤ 2305843009213693951) : 0 ≤ (numStep s d).1 ∧ (numStep s d).1 ≤ 2305843009213693951 := by
  simp only [isDg, Bool.and_eq_true, decide_eq_true_eq] at hd
  unfold numStep
  split
  · exact h0
  · rename_i hh
    have e : (2305843009213693951 - (d - 48)).tdiv 10 = (2305843009213693951 - (d - 48)) / 10 := Int.tdiv_eq_ediv_of_nonneg (by omega)
    rw [e] at hh
    dsimp only
    omega

theorem num_fold : ∀ (l : List Int) (s : Int × Bool), (∀ d ∈ l, isDg d = true) → 0 ≤ s.1 ∧ s.1 ≤ 2305843009213693951 → 0 ≤ (l.foldl numStep s).1 ∧ (l.foldl numStep s).1 ≤ 2305843009213693951
  | [], s, _, h => h
  | d :: l, s, hd, h => num_fold l (numStep s d) (fun x hx => hd x (by simp [hx])) (num_step (hd d (by simp)) h)

theorem takeWhile_mem {p : Int → Bool} {l : List Int} {c : Int} (h : c ∈ l.takeWhile p) : p c = true := by
  induction l with
  | nil => cases h
  | cons a l ih =>
    rw [List.takeWhile_cons] at h
    split at h
    · rcases List.mem_cons.1 h with rfl | h
      · assumption
      · exact ih h
    · cases h

theorem cut_good {r : List Int} {k n : Int} {x : List Int} {len : Nat} {at_ : Int} (h : cut r = .tok k x n len) : TkG (k, x, n, at_) := by
  unfold cut at h
  split at h
  · cases h
  · rename_i c t
    split at h
    · rename_i hc
      unfold cName at h
      injection h with h1 h2 h3 h4
      subst h1 h2 h3
      refine ⟨fun hk => ?_, fun hk => ?_⟩
      · have hw : isWord ((c :: t).takeWhile isNm) = false := by
          cases hw : isWord ((c :: t).takeWhile isNm) with
          | false => rfl
          | true => rw [hw] at hk; simp at hk
        have hcn : isNm c = true := by simp [isNm, hc]
        have hd : isDg c = false := by
          simp only [isLt, isDg] at hc ⊢
          simp at hc ⊢
          omega
        rw [List.takeWhile_cons, if_pos hcn] at hw ⊢
        show (!isDg c && (c :: t.takeWhile isNm).all isNm && !isWord (c :: t.takeWhile isNm)) = true
        rw [hd, hw]
        simp only [Bool.not_false, Bool.true_and, Bool.and_true]
        rw [List.all_eq_true]
        intro y hy
        rcases List.mem_cons.1 hy with rfl | hy
        · exact hcn
        · exact takeWhile_mem hy
      · dsimp only at hk
        split at hk <;> omega
    · split at h
      · unfold cNum at h
        split at h
        · cases h
        split at h
        · cases h
        split at h
        · cases h
        injection h with h1 h2 h3 h4
        subst h1 h2 h3
        exact ⟨fun hk => by simp at hk, fun _ => num_fold _ _ (fun d hd => takeWhile_mem hd) ⟨by decide, by decide⟩⟩
      · split at h
        · have q := ((cStr_len _ _ _ _).1 _ _ _ _ h).1
          subst q
          exact ⟨fun hk => by simp at hk, fun hk => by simp at hk⟩
        · unfold cSign at h
          split at h
          · cases h
          · split at h
            · injection h with h1 h2 h3 h4; subst h1; exact ⟨fun hk => by simp at hk, fun hk => by simp at hk⟩
            · split at h
              · injection h with h1 h2 h3 h4; subst h1; exact ⟨fun hk => by simp at hk, fun hk => by simp at hk⟩
              · cases h

theorem lex_good : ∀ (f : Nat) (b : List Int) (at_ : Nat) (acc T : List ATok) (m : Nat), b.length < f → lexF f b at_ acc = (T, 0, m) →
    (∀ t ∈ acc, TkG t ∧ 0 ≤ t.2.2.2 ∧ t.2.2.2 < ((at_ : Nat) : Int)) → (∀ i j (hj : j < acc.length) (hij : i ≤ j), (acc[i]'(by omega)).2.2.2 ≤ acc[j].2.2.2) →
    (∀ t ∈ T, TkG t ∧ 0 ≤ t.2.2.2 ∧ t.2.2.2 ≤ ((at_ + b.length : Nat) : Int) ∧ (t.1 ≠ 0 ∨ t ∈ acc → t.2.2.2 < ((at_ + b.length : Nat) : Int))) ∧ (∀ i j (hj : j < T.length) (hij : i ≤ j), (T[i]'(by omega)).2.2.2 ≤ T[j].2.2.2)
  | 0, _, _, _, _, _, h, _, _, _ => by omega
  | f + 1, [], at_, acc, T, m, _, e, ha, hm => by
    rw [lexF_nil] at e
    simp only [Prod.mk.injEq] at e
    obtain ⟨rfl, _⟩ := e
    refine ⟨fun t ht => ?_, fun i j hj hij => ?_⟩
    · rcases List.mem_append.1 ht with ht | ht
      · obtain ⟨h1, h2, h3⟩ := ha t ht
        exact ⟨h1, h2, by simp; omega, fun _ => by simpa using h3⟩
      · rw [List.mem_singleton] at ht
        subst ht
        refine ⟨⟨fun hk => by simp at hk, fun hk => by simp at hk⟩, by simp, by simp, fun hq => ?_⟩
        rcases hq with hq | hq
        · simp at hq
        · obtain ⟨_, _, h3⟩ := ha _ hq
          simp at h3
    · by_cases h1 : j < acc.length
      · rw [List.getElem_append_left (by omega), List.getElem_append_left h1]
        exact hm i j h1 hij
      · simp at hj
        have hj2 : j = acc.length := by omega
        subst hj2
        rw [show (acc ++ [((0 : Int), ([] : List Int), (0 : Int), (at_ : Int))])[acc.length]'(by simp) = (0, [], 0, (at_ : Int)) by simp]
        by_cases h2 : i < acc.length
        · rw [List.getElem_append_left h2]
          have := (ha _ (List.getElem_mem h2)).2.2
          show acc[i].2.2.2 ≤ (at_ : Int)
          omega
        · obtain rfl : i = acc.length := by omega
          simp
  | f + 1, c :: t, at_, acc, T, m, h, e, ha, hm => by
    have ih := fun b at_ acc h1 h2 h3 h4 => lex_good f b at_ acc T m h1 h2 h3 h4
    simp only [List.length_cons] at h
    by_cases hb : isBl c = true
    · rw [lexF_blank hb] at e
      have q := ih t (at_ + 1) acc (by omega) e (fun t ht => ⟨(ha t ht).1, (ha t ht).2.1, by have := (ha t ht).2.2; omega⟩) hm
      rw [show at_ + 1 + t.length = at_ + (c :: t).length by simp; omega] at q
      exact q
    · have hb' : isBl c = false := by simpa using hb
      by_cases hr : c = 35
      · subst hr
        rw [lexF_rem] at e
        have hle := twl_le (· != 10) t
        have q := ih _ _ acc (by simp; omega) e (fun t ht => ⟨(ha t ht).1, (ha t ht).2.1, by have := (ha t ht).2.2; omega⟩) hm
        rw [show at_ + 1 + twl (· != 10) t + (t.drop (twl (· != 10) t)).length = at_ + (35 :: t).length by simp; omega] at q
        exact q
      · cases hg : begn c
        · rw [lexF_form hb' hr hg] at e; simp at e
        · by_cases hf : acc.length = 16384
          · rw [lexF_full hb' hr hg _ _ _ _ hf] at e; simp at e
          · cases hc : cut (c :: t) with
            | bad er off =>
              rw [lexF_bad hb' hr hg _ _ _ _ hf hc] at e
              have := (cut_bad hc).1
              simp at e; omega
            | tok k x nn len =>
              rw [lexF_tok hb' hr hg _ _ _ _ hf hc] at e
              have hlen := cut_len hc
              have hk0 := cut_kind hc
              have q := ih ((c :: t).drop len) (at_ + len) (acc ++ [(k, x, nn, (at_ : Int))]) (by simp at hlen ⊢; omega) e (fun t ht => by
                rcases List.mem_append.1 ht with ht | ht
                · exact ⟨(ha t ht).1, (ha t ht).2.1, by have := (ha t ht).2.2; omega⟩
                · rw [List.mem_singleton] at ht
                  subst ht
                  exact ⟨cut_good hc, by simp, by simp; omega⟩) (fun i j hj hij => by
                by_cases h1 : j < acc.length
                · rw [List.getElem_append_left (by omega), List.getElem_append_left h1]
                  exact hm i j h1 hij
                · simp at hj
                  have hj2 : j = acc.length := by omega
                  subst hj2
                  rw [show (acc ++ [(k, x, nn, (at_ : Int))])[acc.length]'(by simp) = (k, x, nn, (at_ : Int)) by simp]
                  by_cases h2 : i < acc.length
                  · rw [List.getElem_append_left h2]
                    have := (ha _ (List.getElem_mem h2)).2.2
                    show acc[i].2.2.2 ≤ (at_ : Int)
                    omega
                  · obtain rfl : i = acc.length := by omega
                    simp)
              rw [show at_ + len + ((c :: t).drop len).length = at_ + (c :: t).length by simp at hlen ⊢; omega] at q
              exact ⟨fun t ht => ⟨(q.1 t ht).1, (q.1 t ht).2.1, (q.1 t ht).2.2.1, fun hq => (q.1 t ht).2.2.2 (hq.imp id (fun hm => List.mem_append_left _ hm))⟩, q.2⟩

end Go.Proofs.YtlcieebneclmpaaDoor

set_option linter.unusedSimpArgs false
set_option linter.unusedVariables false
namespace Go.Proofs.YtlcieebneclmpaaDoor
open Go Go.RowKit

mutual
/-- No part of a node is ahead of it. -/
def Prt.mon : Prt → Prop
  | .mk _ _ _ a ks => (∀ q ∈ flats ks, a ≤ q.2.2.2.2) ∧ mons ks
def mons : List Prt → Prop
  | [] => True
  | p :: r => p.mon ∧ mons r
end

theorem mem_flats {q : ANode} : ∀ {ks : List Prt}, q ∈ flats ks ↔ ∃ p ∈ ks, q ∈ p.flat
  | [] => by simp [flats]
  | p :: r => by
    rw [flats, List.mem_append, mem_flats (ks := r)]
    simp

theorem mons_of : ∀ {ks : List Prt}, (∀ p ∈ ks, p.mon) → mons ks
  | [], _ => trivial
  | p :: r, h => ⟨h p (by simp), mons_of (fun q hq => h q (by simp [hq]))⟩

/-- A text of bytes, not too long. -/
def TxB (t : List Int) : Prop := (∀ c ∈ t, 0 ≤ c ∧ c ≤ 255) ∧ t.length ≤ 9223372036854775807
theorem tx_nil : TxB [] := ⟨(fun c hc => by cases hc), (by simp)⟩

/-- A part's places: none ahead of its own, its own not ahead of lo, all ahead of n. -/
structure AtQ (n : Nat) (x : Prt) (lo : Int) : Prop where
  mon : x.mon
  rng : ∀ q ∈ x.flat, x.at_ ≤ q.2.2.2.2 ∧ q.2.2.2.2 < (n : Int)
  lo : lo ≤ x.at_
  tx : ∀ q ∈ x.flat, TxB q.2.2.1

theorem AtQ.le {n : Nat} {x : Prt} {lo lo' : Int} (h : AtQ n x lo) (hl : lo' ≤ lo) : AtQ n x lo' := ⟨h.mon, h.rng, Int.le_trans hl h.lo, h.tx⟩
theorem AtQ.self {n : Nat} {x : Prt} {lo : Int} (h : AtQ n x lo) : AtQ n x x.at_ := ⟨h.mon, h.rng, Int.le_refl _, h.tx⟩
theorem AtQ.lt {n : Nat} {x : Prt} {lo : Int} (h : AtQ n x lo) : x.at_ < (n : Int) := by
  cases x with
  | mk k t nn a ks => exact (h.rng (k, (ks.length : Int), t, nn, a) (by simp [Prt.flat])).2

theorem mons_mem : ∀ {ks : List Prt}, mons ks → ∀ p ∈ ks, p.mon
  | [], _, p, hp => by cases hp
  | q :: r, h, p, hp => by
    rcases List.mem_cons.1 hp with rfl | hp
    · exact h.1
    · exact mons_mem h.2 p hp

theorem self_mem (p : Prt) : ∃ q ∈ p.flat, q.2.2.2.2 = p.at_ := by
  cases p with
  | mk k t nn a ks => exact ⟨(k, (ks.length : Int), t, nn, a), by simp [Prt.flat], rfl⟩

theorem AtQ.kid {n : Nat} {x : Prt} {lo : Int} (h : AtQ n x lo) : ∀ p ∈ x.kids, AtQ n p lo := by
  intro p hp
  cases x with
  | mk k t nn a ks =>
    have hp : p ∈ ks := hp
    have hin : ∀ q ∈ p.flat, q ∈ (Prt.mk k t nn a ks).flat := fun q hq => by
      rw [Prt.flat]
      exact List.mem_cons_of_mem _ (mem_flats.2 ⟨p, hp, hq⟩)
    have hm : p.mon := mons_mem h.mon.2 p hp
    refine ⟨hm, fun q hq => ⟨?_, (h.rng q (hin q hq)).2⟩, ?_, fun q hq => h.tx q (hin q hq)⟩
    · cases p with
      | mk k2 t2 nn2 a2 ks2 =>
        rw [Prt.flat] at hq
        rcases List.mem_cons.1 hq with rfl | hq
        · exact Int.le_refl _
        · exact hm.1 q hq
    · obtain ⟨q, hq, e⟩ := self_mem p
      have := (h.rng q (hin q hq)).1
      have h2 := h.lo
      omega

/-- Places of tokens. -/
structure TkA (T : List ATok) (n : Nat) : Prop where
  mono : ∀ i j, i ≤ j → j < T.length → (tk T i).2.2.2 ≤ (tk T j).2.2.2
  lt : ∀ i, (tk T i).1 ≠ 0 → (tk T i).2.2.2 < (n : Int)
  tx : ∀ i, TxB (tk T i).2.1
  nn : ∀ i, i < T.length → 0 ≤ (tk T i).2.2.2

theorem atq_mk {n : Nat} {k nn a lo : Int} {t : List Int} {ks : List Prt} (h1 : lo ≤ a) (h2 : a < (n : Int)) (hk : ∀ p ∈ ks, AtQ n p a) (htx : TxB t := by first | exact tx_nil | exact TkA.tx (by assumption) _ | assumption) : AtQ n (.mk k t nn a ks) lo := by
  have hf : ∀ q ∈ flats ks, a ≤ q.2.2.2.2 ∧ q.2.2.2.2 < (n : Int) := by
    intro q hq
    obtain ⟨p, hp, hq⟩ := mem_flats.1 hq
    have := (hk p hp).rng q hq
    exact ⟨Int.le_trans (hk p hp).lo this.1, this.2⟩
  refine ⟨⟨fun q hq => (hf q hq).1, mons_of fun p hp => (hk p hp).mon⟩, fun q hq => ?_, h1, fun q hq => ?_⟩
  · rw [Prt.flat] at hq
    rcases List.mem_cons.1 hq with rfl | hq
    · exact ⟨Int.le_refl _, h2⟩
    · exact hf q hq
  · rw [Prt.flat] at hq
    rcases List.mem_cons.1 hq with rfl | hq
    · exact htx
    · obtain ⟨p, hp, hq⟩ := mem_flats.1 hq
      exact (hk p hp).tx q hq

section
variable {T : List ATok} {n : Nat}

/-- Its own place is not behind the tokens that come. -/
def Hi (T : List ATok) (x : Prt) (j : Nat) : Prop := ∀ m, j ≤ m → m < T.length → x.at_ ≤ (tk T m).2.2.2

theorem Hi.le {x : Prt} {j j' : Nat} (h : Hi T x j) (hj : j ≤ j') : Hi T x j' := fun m hm hl => h m (by omega) hl

def preA (T : List ATok) (n : Nat) (lo : Int) : Nt → Nat → Prop
  | .more _ x, i => AtQ n x lo ∧ Hi T x i
  | .things x _, i => AtQ n x lo ∧ Hi T x i
  | .rows _ _ acc, i => (∀ q ∈ acc, AtQ n q lo) ∧ (i < T.length → lo ≤ (tk T i).2.2.2)
  | .body _ t a, i => TxB t ∧ lo ≤ a ∧ a < (n : Int) ∧ ∀ m, i ≤ m → m < T.length → a ≤ (tk T m).2.2.2
  | .stmts a acc, i => lo ≤ a ∧ a < (n : Int) ∧ (∀ q ∈ acc, AtQ n q a) ∧ ∀ m, i ≤ m → m < T.length → a ≤ (tk T m).2.2.2
  | .prog acc, i => (∀ q ∈ acc, AtQ n q 0)
  | _, i => i < T.length → lo ≤ (tk T i).2.2.2

def postA (T : List ATok) (n : Nat) (lo : Int) : Nt → Prt → Nat → Prop
  | .row _ _ _, x, j => ∀ q ∈ x.kids, AtQ n q lo
  | .rows _ _ _, x, j => ∀ q ∈ x.kids, AtQ n q lo
  | .prog _, x, j => ∀ q ∈ x.kids, AtQ n q 0
  | _, x, j => AtQ n x lo ∧ Hi T x j

/-- Two joined. -/
theorem jn_at {lo : Int} {t : ATok} {x y : Prt} {j : Nat} (hx : AtQ n x lo) (hy : AtQ n y x.at_) (hi : Hi T x j) (htx : TxB t.2.1 := by first | exact tx_nil | exact TkA.tx (by assumption) _ | assumption) : AtQ n (jn t x y) lo ∧ Hi T (jn t x y) j := by
  have key : ∀ k t', TxB t' → AtQ n (.mk k t' 0 x.at_ [x, y]) lo := fun k t' htx => atq_mk hx.lo hx.lt (by
    intro p hp
    rcases List.mem_cons.1 hp with rfl | hp
    · exact hx.self
    · rw [List.mem_singleton] at hp; subst hp; exact hy)
  unfold jn
  split
  · exact ⟨key _ _ tx_nil, hi⟩
  · split
    · exact ⟨key _ _ tx_nil, hi⟩
    · exact ⟨key _ _ htx, hi⟩

theorem one_at {lo : Int} {k nn : Int} {t : List Int} {i j : Nat} (ha : TkA T n) (hi : i < T.length) (hk : (tk T i).1 ≠ 0) (hlo : lo ≤ (tk T i).2.2.2) (hij : i ≤ j) {ks : List Prt} (hks : ∀ p ∈ ks, AtQ n p (tk T i).2.2.2) (htx : TxB t := by first | exact tx_nil | exact TkA.tx (by assumption) _ | assumption) : AtQ n (.mk k t nn (tk T i).2.2.2 ks) lo ∧ Hi T (.mk k t nn (tk T i).2.2.2 ks) j :=
  ⟨atq_mk hlo (ha.lt i hk) hks, fun m hm hl => ha.mono i m (by omega) hl⟩

end

theorem isT_kind {T : List ATok} {i : Nat} {s : ByteArray} (h : isT T i s = true) : (tk T i).1 ≠ 0 := by
  simp only [isT, Bool.and_eq_true, Bool.or_eq_true, beq_iff_eq] at h
  omega

theorem entr_ok2 {T : List ATok} {s : ByteArray} {i o : Nat} {k : Nat → Nat → Res} {x : Prt} {c : Bool} {j : Nat} (h : entr T s i o k = .ok x c j) : isT T i s = true ∧ k (i + 1) (o + 1) = .ok x c j := by
  unfold entr here at h
  split at h
  · split at h
    · cases h
    · exact ⟨by assumption, h⟩
  · cases h

theorem one_kid {n : Nat} {x : Prt} {a : Int} (h : AtQ n x a) : ∀ p ∈ [x], AtQ n p a := by
  intro p hp; rw [List.mem_singleton] at hp; subst hp; exact h
theorem two_kids {n : Nat} {x y : Prt} {a : Int} (h : AtQ n x a) (g : AtQ n y a) : ∀ p ∈ [x, y], AtQ n p a := by
  intro p hp
  rcases List.mem_cons.1 hp with rfl | hp
  · exact h
  · exact one_kid g p hp
theorem three_kids {n : Nat} {x y z : Prt} {a : Int} (h : AtQ n x a) (g : AtQ n y a) (k : AtQ n z a) : ∀ p ∈ [x, y, z], AtQ n p a := by
  intro p hp
  rcases List.mem_cons.1 hp with rfl | hp
  · exact h
  · exact two_kids g k p hp

set_option maxHeartbeats 4000000 in
theorem pP_at (T : List ATok) (n : Nat) (ha : TkA T n) : ∀ (f : Nat) (nt : Nt) (i o : Nat) (lo : Int) (x : Prt) (c : Bool) (j : Nat), preA T n lo nt i → pP T f nt i o = .ok x c j → postA T n lo nt x j
  | 0, nt, i, o, lo, x, c, j, _, h => by cases nt <;> cases h
  | f + 1, nt, i, o, lo, x, c, j, hp, h => by
    have IH := fun (nt : Nt) (i o : Nat) (lo : Int) (x : Prt) (c : Bool) (j : Nat) h1 h2 => pP_at T n ha f nt i o lo x c j h1 h2
    have hij : i ≤ j := pP_le h
    have MO := ha.mono
    -- a call that begins behind token i0, with its place for the bound
    have ST : ∀ i0 k : Nat, i0 ≤ k → (k < T.length → (tk T i0).2.2.2 ≤ (tk T k).2.2.2) := fun i0 k hk hl => ha.mono i0 k hk hl
    cases nt with
    | lev k =>
      rw [pP] at h
      rcases ite_ok h with ⟨h2, h⟩ | ⟨h2, h⟩
      · rcases ite_ok h with ⟨_, h⟩ | ⟨_, h⟩
        · obtain ⟨ht, h⟩ := entr_ok2 h
          obtain ⟨y, d, m, hy, h⟩ := bind_ok h
          have w := IH (.lev 2) _ _ (tk T i).2.2.2 _ _ _ (ST i (i + 1) (by omega)) hy
          cases h
          exact one_at ha (isT_lt ht) (isT_kind ht) (hp (isT_lt ht)) hij (one_kid w.1)
        · have w9 := IH (.lev 3) _ _ lo _ _ _ hp h
          exact w9
      rcases ite_ok h with ⟨h3, h⟩ | ⟨h3, h⟩
      · obtain ⟨y, d, m, hy, h⟩ := bind_ok h
        have w := IH (.lev 4) _ _ lo _ _ _ hp hy
        rcases ite_ok h with ⟨ho, h⟩ | ⟨_, h⟩
        · obtain ⟨z, d2, m2, hz, h⟩ := bind_ok h
          have w2 := IH (.lev 4) _ _ y.at_ _ _ _ (fun hl => w.2 _ (by omega) hl) hz
          have hmm := pP_le hz
          cases h
          exact jn_at w.1 w2.1 (w.2.le (by omega))
        · cases h
          exact w
      rcases ite_ok h with ⟨h6, h⟩ | ⟨h6, h⟩
      · rcases ite_ok h with ⟨_, h⟩ | ⟨_, h⟩
        · obtain ⟨ht, h⟩ := entr_ok2 h
          obtain ⟨y, d, m, hy, h⟩ := bind_ok h
          have w := IH (.lev 6) _ _ (tk T i).2.2.2 _ _ _ (ST i (i + 1) (by omega)) hy
          cases h
          exact one_at ha (isT_lt ht) (isT_kind ht) (hp (isT_lt ht)) hij (one_kid w.1)
        rcases ite_ok h with ⟨_, h⟩ | ⟨_, h⟩
        · obtain ⟨ht, h⟩ := entr_ok2 h
          obtain ⟨y, d, m, hy, h⟩ := bind_ok h
          have w := IH .thing _ _ (tk T i).2.2.2 _ _ _ (ST i (i + 1) (by omega)) hy
          rcases ite_ok h with ⟨hc, h⟩ | ⟨_, h⟩
          · cases h
            refine one_at ha (isT_lt ht) (isT_kind ht) (hp (isT_lt ht)) hij (fun p hp2 => ?_)
            exact w.1.kid p hp2
          · exact (here_ok h).elim
        · obtain ⟨y, d, m, hy, h⟩ := bind_ok h
          have w := IH .thing _ _ lo _ _ _ hp hy
          cases h
          exact w
      · obtain ⟨y, d, m, hy, h⟩ := bind_ok h
        have w := IH (.lev (k + 1)) _ _ lo _ _ _ hp hy
        have w9 := IH (.more k y) _ _ lo _ _ _ w h
        exact w9
    | more k y0 =>
      rw [pP] at h
      rcases ite_ok h with ⟨ho, h⟩ | ⟨_, h⟩
      · obtain ⟨y, d, m, hy, h⟩ := bind_ok h
        obtain ⟨w0, w1⟩ := (show _ ∧ _ from hp)
        have w := IH (.lev (k + 1)) _ _ y0.at_ _ _ _ (fun hl => w1 _ (by omega) hl) hy
        have hmm := pP_le hy
        have w9 := IH (.more k (jn (tk T i) y0 y)) _ _ lo _ _ _ (jn_at w0 w.1 (w1.le (by omega))) h
        exact w9
      · cases h
        exact hp
    | thing =>
      rw [pP] at h
      obtain ⟨y, d, m, hy, h⟩ := bind_ok h
      have w := IH .single _ _ lo _ _ _ hp hy
      have w9 := IH (.things y false) _ _ lo _ _ _ w h
      exact w9
    | things y0 c0 =>
      obtain ⟨w0, w1⟩ := (show _ ∧ _ from hp)
      rw [pP] at h
      rcases ite_ok h with ⟨_, h⟩ | ⟨_, h⟩
      · obtain ⟨r, d, m, hr, h⟩ := bind_ok h
        have w := IH (.row .arg _ _) _ _ y0.at_ _ _ _ (fun hl => w1 _ (by omega) hl) hr
        have hmm := pP_le hr
        have w9 := IH (.things (.mk 28 [] 0 y0.at_ (y0 :: r.kids)) true) _ _ lo _ _ _ ⟨atq_mk w0.lo w0.lt (by
          intro p hp2
          rcases List.mem_cons.1 hp2 with rfl | hp2
          · exact w0.self
          · exact w p hp2), (show Hi T y0 m from w1.le (by omega))⟩ h
        exact w9
      rcases ite_ok h with ⟨_, h⟩ | ⟨_, h⟩
      · obtain ⟨_, h⟩ := entr_ok2 h
        obtain ⟨y, d, m, hy, h⟩ := bind_ok h
        obtain ⟨_, h⟩ := want_ok h
        have w := IH (.lev 0) _ _ y0.at_ _ _ _ (fun hl => w1 _ (by omega) hl) hy
        have hmm := pP_le hy
        have w9 := IH (.things (.mk 29 [] 0 y0.at_ [y0, y]) false) _ _ lo _ _ _ ⟨atq_mk w0.lo w0.lt (two_kids w0.self w.1), (show Hi T y0 (m + 1) from w1.le (by omega))⟩ h
        exact w9
      rcases ite_ok h with ⟨_, h⟩ | ⟨_, h⟩
      · obtain ⟨_, h⟩ := wantN_ok h
        have w9 := IH (.things (.mk 30 (tk T (i + 1)).2.1 0 y0.at_ [y0]) false) _ _ lo _ _ _ ⟨atq_mk w0.lo w0.lt (one_kid w0.self), (show Hi T y0 (i + 1 + 1) from w1.le (by omega))⟩ h
        exact w9
      · cases h
        exact ⟨w0, w1⟩
    | single =>
      rw [pP] at h
      have LF : ∀ {k nn : Int} {t : List Int}, TxB t → (tk T i).1 ≠ 0 → AtQ n (.mk k t nn (tk T i).2.2.2 []) lo ∧ Hi T (.mk k t nn (tk T i).2.2.2 []) (i + 1) := fun {k nn t} htx hk =>
        one_at ha (tk_lt hk) hk (hp (tk_lt hk)) (by omega) (fun p hp => by cases hp)
      rcases ite_ok h with ⟨hk, h⟩ | ⟨_, h⟩
      · cases h; exact LF tx_nil (by omega)
      rcases ite_ok h with ⟨hk, h⟩ | ⟨_, h⟩
      · cases h; exact LF (ha.tx i) (by omega)
      rcases ite_ok h with ⟨hk, h⟩ | ⟨_, h⟩
      · cases h; exact LF (ha.tx i) (by omega)
      rcases ite_ok h with ⟨hk, h⟩ | ⟨_, h⟩
      · cases h; exact LF tx_nil (isT_kind hk)
      rcases ite_ok h with ⟨hk, h⟩ | ⟨_, h⟩
      · cases h; exact LF tx_nil (isT_kind hk)
      rcases ite_ok h with ⟨hk, h⟩ | ⟨_, h⟩
      · cases h; exact LF tx_nil (isT_kind hk)
      rcases ite_ok h with ⟨ht, h⟩ | ⟨_, h⟩
      · obtain ⟨r, d, m, hr, h⟩ := bind_ok h
        have w := IH (.row .ent _ _) _ _ (tk T i).2.2.2 _ _ _ (ST i i (by omega)) hr
        cases h
        exact one_at ha (isT_lt ht) (isT_kind ht) (hp (isT_lt ht)) hij w
      rcases ite_ok h with ⟨ht, h⟩ | ⟨_, h⟩
      · obtain ⟨r, d, m, hr, h⟩ := bind_ok h
        have w := IH (.row .key _ _) _ _ (tk T i).2.2.2 _ _ _ (ST i i (by omega)) hr
        cases h
        exact one_at ha (isT_lt ht) (isT_kind ht) (hp (isT_lt ht)) hij w
      rcases ite_ok h with ⟨ht, h⟩ | ⟨_, h⟩
      · have w9 := IH (.body 31 [] _) _ _ lo _ _ _ ⟨tx_nil, hp (isT_lt ht), ha.lt i (isT_kind ht), fun m hm hl => ha.mono i m (by omega) hl⟩ h
        exact w9
      · obtain ⟨ht, h⟩ := entr_ok2 h
        obtain ⟨y, d, m, hy, h⟩ := bind_ok h
        have w := IH (.lev 0) _ _ lo _ _ _ (fun hl => Int.le_trans (hp (isT_lt ht)) (ST i (i + 1) (by omega) hl)) hy
        obtain ⟨_, h⟩ := want_ok h
        cases h
        exact ⟨w.1, w.2.le (by omega)⟩
    | read r c =>
      cases r with
      | arg =>
        rw [pP] at h
        rcases ite_ok h with ⟨_, h⟩ | ⟨_, h⟩
        · exact (here_ok h).elim
        · have w9 := IH (.lev 0) _ _ lo _ _ _ hp h
          exact w9
      | par =>
        rw [pP] at h
        rcases ite_ok h with ⟨_, h⟩ | ⟨_, h⟩
        · exact (here_ok h).elim
        · obtain ⟨hk, h⟩ := wantN_ok h
          cases h
          have hk : (tk T i).1 ≠ 0 := by omega
          exact one_at ha (tk_lt hk) hk (hp (tk_lt hk)) hij (fun p hp => by cases hp)
      | ent =>
        rw [pP] at h
        have w9 := IH (.lev 0) _ _ lo _ _ _ hp h
        exact w9
      | key =>
        rw [pP] at h
        obtain ⟨hk, h⟩ := wantN_ok h
        obtain ⟨_, h⟩ := want_ok h
        obtain ⟨y, d, m, hy, h⟩ := bind_ok h
        have w := IH (.lev 0) _ _ (tk T i).2.2.2 _ _ _ (ST i _ (by omega)) hy
        cases h
        have hk : (tk T i).1 ≠ 0 := by omega
        exact one_at ha (tk_lt hk) hk (hp (tk_lt hk)) hij (one_kid w.1)
    | row r b e =>
      rw [pP] at h
      obtain ⟨ht, h⟩ := entr_ok2 h
      have hlo := hp (isT_lt ht)
      rcases ite_ok h with ⟨_, h⟩ | ⟨_, h⟩
      · cases h
        exact fun q hq => by cases hq
      · obtain ⟨y, d, m, hy, h⟩ := bind_ok h
        have w : AtQ n y lo ∧ Hi T y m := IH (.read r 0) _ _ lo _ _ _ (fun hl => Int.le_trans hlo (ST i (i + 1) (by omega) hl)) hy
        have hmm := pP_le hy
        have w9 := IH (.rows r e [y]) _ _ lo _ _ _ ⟨one_kid w.1, fun hl => Int.le_trans hlo (ST i m (by omega) hl)⟩ h
        exact w9
    | rows r e acc =>
      obtain ⟨w0, w1⟩ := (show _ ∧ _ from hp)
      rw [pP] at h
      rcases ite_ok h with ⟨ht, h⟩ | ⟨_, h⟩
      · have hlo := w1 (isT_lt ht)
        obtain ⟨y, d, m, hy, h⟩ := bind_ok h
        have w : AtQ n y lo ∧ Hi T y m := IH (.read r acc.length) _ _ lo _ _ _ (fun hl => Int.le_trans hlo (ST i (i + 1) (by omega) hl)) hy
        have hmm := pP_le hy
        have w9 := IH (.rows r e (acc ++ [y])) _ _ lo _ _ _ ⟨fun q hq => by
          rcases List.mem_append.1 hq with hq | hq
          · exact w0 q hq
          · exact one_kid w.1 q hq, fun hl => Int.le_trans hlo (ST i m (by omega) hl)⟩ h
        exact w9
      · obtain ⟨_, h⟩ := want_ok h
        cases h
        exact w0
    | body kd tx a =>
      obtain ⟨b0, b1, b2, b3⟩ := (show _ ∧ _ ∧ _ ∧ _ from hp)
      rw [pP] at h
      obtain ⟨r, d, m, hr, h⟩ := bind_ok h
      obtain ⟨b, d2, m2, hb, h⟩ := bind_ok h
      have hm1 := pP_le hr
      have hm2 := pP_le hb
      have w := IH (.row .par _ _) _ _ a _ _ _ (fun hl => b3 _ (by omega) hl) hr
      have wb := IH .block _ _ a _ _ _ (fun hl => b3 _ (by omega) hl) hb
      cases h
      refine ⟨atq_mk b1 b2 fun q hq => ?_, fun m hm hl => b3 m (by omega) hl⟩
      rcases List.mem_append.1 hq with hq | hq
      · exact w q hq
      · exact one_kid wb.1 q hq
    | block =>
      rw [pP] at h
      obtain ⟨ht, h⟩ := entr_ok2 h
      have w9 := IH (.stmts _ []) _ _ lo _ _ _ ⟨hp (isT_lt ht), ha.lt i (isT_kind ht), fun q hq => (by cases hq), fun m hm hl => ha.mono i m (by omega) hl⟩ h
      exact w9
    | stmts a acc =>
      obtain ⟨b1, b2, b4, b3⟩ := (show _ ∧ _ ∧ _ ∧ _ from hp)
      rw [pP] at h
      rcases ite_ok h with ⟨_, h⟩ | ⟨_, h⟩
      · cases h
        exact ⟨atq_mk b1 b2 b4, fun m hm hl => b3 m (by omega) hl⟩
      · obtain ⟨y, d, m, hy, h⟩ := bind_ok h
        have w := IH .stmt _ _ a _ _ _ (fun hl => b3 _ (by omega) hl) hy
        have hmm := pP_le hy
        have w9 := IH (.stmts a (acc ++ [y])) _ _ lo _ _ _ ⟨b1, b2, fun q hq => by
          rcases List.mem_append.1 hq with hq | hq
          · exact b4 q hq
          · exact one_kid w.1 q hq, fun m2 hm2 hl => b3 m2 (by omega) hl⟩ h
        exact w9
    | choice =>
      rw [pP] at h
      obtain ⟨ht, h⟩ := want_ok h
      obtain ⟨y1, d1, m1, hy1, h⟩ := bind_ok h
      obtain ⟨y2, d2, m2, hy2, h⟩ := bind_ok h
      have q1 := pP_le hy1
      have q2 := pP_le hy2
      have w1 := IH (.lev 0) _ _ (tk T i).2.2.2 _ _ _ (ST i _ (by omega)) hy1
      have w2 := IH .block _ _ (tk T i).2.2.2 _ _ _ (ST i _ (by omega)) hy2
      rcases ite_ok h with ⟨_, h⟩ | ⟨_, h⟩
      · rcases ite_ok h with ⟨_, h⟩ | ⟨_, h⟩
        · obtain ⟨y3, d3, m3, hy3, h⟩ := bind_ok h
          have w3 := IH .choice _ _ (tk T i).2.2.2 _ _ _ (ST i _ (by omega)) hy3
          cases h
          exact one_at ha (isT_lt ht) (isT_kind ht) (hp (isT_lt ht)) hij (three_kids w1.1 w2.1 w3.1)
        · obtain ⟨y3, d3, m3, hy3, h⟩ := bind_ok h
          have w3 := IH .block _ _ (tk T i).2.2.2 _ _ _ (ST i _ (by omega)) hy3
          cases h
          exact one_at ha (isT_lt ht) (isT_kind ht) (hp (isT_lt ht)) hij (three_kids w1.1 w2.1 w3.1)
      · cases h
        exact one_at ha (isT_lt ht) (isT_kind ht) (hp (isT_lt ht)) hij (two_kids w1.1 w2.1)
    | prog acc =>
      have b4 : ∀ q ∈ acc, AtQ n q 0 := hp
      rw [pP] at h
      rcases ite_ok h with ⟨_, h⟩ | ⟨_, h⟩
      · cases h
        exact b4
      · obtain ⟨y, d, m, hy, h⟩ := bind_ok h
        have w := IH .stmt _ _ 0 _ _ _ (fun hl => ha.nn i hl) hy
        have w9 := IH (.prog (acc ++ [y])) _ _ lo _ _ _ (show ∀ q ∈ acc ++ [y], AtQ n q 0 from fun q hq => by
          rcases List.mem_append.1 hq with hq | hq
          · exact b4 q hq
          · exact one_kid w.1 q hq) h
        exact w9
    | stmt =>
      rw [pP] at h
      rcases ite_ok h with ⟨_, h⟩ | ⟨_, h⟩
      · have w9 := IH .block _ _ lo _ _ _ hp h
        exact w9
      rcases ite_ok h with ⟨ht, h⟩ | ⟨_, h⟩
      · obtain ⟨_, h⟩ := wantN_ok h
        obtain ⟨_, h⟩ := want_ok h
        obtain ⟨y, d, m, hy, h⟩ := bind_ok h
        have w := IH (.lev 0) _ _ (tk T i).2.2.2 _ _ _ (ST i _ (by omega)) hy
        obtain ⟨_, rfl, _⟩ := semi_ok h
        exact one_at ha (isT_lt ht) (isT_kind ht) (hp (isT_lt ht)) hij (one_kid w.1)
      rcases ite_ok h with ⟨_, h⟩ | ⟨_, h⟩
      · have w9 := IH .choice _ _ lo _ _ _ hp h
        exact w9
      rcases ite_ok h with ⟨ht, h⟩ | ⟨_, h⟩
      · obtain ⟨y1, d1, m1, hy1, h⟩ := bind_ok h
        obtain ⟨y2, d2, m2, hy2, h⟩ := bind_ok h
        have q1 := pP_le hy1
        have w1 := IH (.lev 0) _ _ (tk T i).2.2.2 _ _ _ (ST i _ (by omega)) hy1
        have w2 := IH .block _ _ (tk T i).2.2.2 _ _ _ (ST i _ (by omega)) hy2
        cases h
        exact one_at ha (isT_lt ht) (isT_kind ht) (hp (isT_lt ht)) hij (two_kids w1.1 w2.1)
      rcases ite_ok h with ⟨ht, h⟩ | ⟨_, h⟩
      · obtain ⟨_, rfl, _⟩ := semi_ok h
        exact one_at ha (isT_lt ht) (isT_kind ht) (hp (isT_lt ht)) hij (fun p hp => by cases hp)
      rcases ite_ok h with ⟨ht, h⟩ | ⟨_, h⟩
      · obtain ⟨_, rfl, _⟩ := semi_ok h
        exact one_at ha (isT_lt ht) (isT_kind ht) (hp (isT_lt ht)) hij (fun p hp => by cases hp)
      rcases ite_ok h with ⟨ht, h⟩ | ⟨_, h⟩
      · rcases ite_ok h with ⟨_, h⟩ | ⟨_, h⟩
        · obtain ⟨_, rfl, _⟩ := semi_ok h
          exact one_at ha (isT_lt ht) (isT_kind ht) (hp (isT_lt ht)) hij (fun p hp => by cases hp)
        · obtain ⟨y, d, m, hy, h⟩ := bind_ok h
          have w := IH (.lev 0) _ _ (tk T i).2.2.2 _ _ _ (ST i _ (by omega)) hy
          obtain ⟨_, rfl, _⟩ := semi_ok h
          exact one_at ha (isT_lt ht) (isT_kind ht) (hp (isT_lt ht)) hij (one_kid w.1)
      rcases ite_ok h with ⟨ht, h⟩ | ⟨_, h⟩
      · obtain ⟨y, d, m, hy, h⟩ := bind_ok h
        have w := IH (.lev 0) _ _ (tk T i).2.2.2 _ _ _ (ST i _ (by omega)) hy
        obtain ⟨_, rfl, _⟩ := semi_ok h
        exact one_at ha (isT_lt ht) (isT_kind ht) (hp (isT_lt ht)) hij (one_kid w.1)
      rcases ite_ok h with ⟨ht, h⟩ | ⟨_, h⟩
      · obtain ⟨y1, d1, m1, hy1, h⟩ := bind_ok h
        obtain ⟨_, h⟩ := want_ok h
        obtain ⟨_, h⟩ := wantN_ok h
        obtain ⟨y2, d2, m2, hy2, h⟩ := bind_ok h
        have q1 := pP_le hy1
        have w1 := IH .block _ _ (tk T i).2.2.2 _ _ _ (ST i _ (by omega)) hy1
        have w2 := IH .block _ _ (tk T i).2.2.2 _ _ _ (ST i _ (by omega)) hy2
        cases h
        exact one_at ha (isT_lt ht) (isT_kind ht) (hp (isT_lt ht)) hij (two_kids w1.1 w2.1)
      rcases ite_ok h with ⟨hf, h⟩ | ⟨_, h⟩
      · simp only [Bool.and_eq_true, beq_iff_eq] at hf
        have ht := hf.1
        have w9 := IH (.body 12 _ _) _ _ lo _ _ _ ⟨ha.tx _, hp (isT_lt ht), ha.lt i (isT_kind ht), fun m hm hl => ha.mono i m (by omega) hl⟩ h
        exact w9
      obtain ⟨y, d, m, hy, h⟩ := bind_ok h
      have w := IH (.lev 0) _ _ lo _ _ _ hp hy
      rcases ite_ok h with ⟨hg, h⟩ | ⟨_, h⟩
      · obtain ⟨z, d2, m2, hz, h⟩ := bind_ok h
        have q2 := pP_le hz
        have w2 := IH (.lev 0) _ _ y.at_ _ _ _ (fun hl => w.2 _ (by omega) hl) hz
        obtain ⟨_, rfl, rfl⟩ := semi_ok h
        exact ⟨atq_mk w.1.lo w.1.lt (two_kids w.1.self w2.1), show Hi T y _ from w.2.le (by omega)⟩
      · obtain ⟨_, rfl, rfl⟩ := semi_ok h
        exact ⟨atq_mk w.1.lo w.1.lt (one_kid w.1.self), show Hi T y _ from w.2.le (by omega)⟩

end Go.Proofs.YtlcieebneclmpaaDoor

set_option linter.unusedSimpArgs false
set_option linter.unusedVariables false
namespace Go.Proofs.YtlcieebneclmpaaDoor
open Go Go.RowKit

theorem kidsN_append (a b : List ANode) : kidsN (a ++ b) = kidsN a ++ kidsN b := by simp [kidsN]
theorem kidsN_len (a : List ANode) : (kidsN a).length = a.length := by simp [kidsN]

mutual
theorem cns_flat : ∀ (p : Prt) (r : List Nat) (d : Nat), cns (kidsN p.flat ++ r) (d + 1) = (cns r d).map (p.flat.length + ·)
  | .mk k t n a ks, r, d => by
    rw [Prt.flat, show kidsN ((k, (ks.length : Int), t, n, a) :: flats ks) = ks.length :: kidsN (flats ks) by simp [kidsN], List.cons_append, cns, cns_flats ks r d]
    cases cns r d <;> simp
    omega
theorem cns_flats : ∀ (ks : List Prt) (r : List Nat) (d : Nat), cns (kidsN (flats ks) ++ r) (d + ks.length) = (cns r d).map ((flats ks).length + ·)
  | [], r, d => by
    rw [flats]
    simp [kidsN]
  | p :: ks, r, d => by
    rw [flats, kidsN_append, List.append_assoc, List.length_cons, ← Nat.add_assoc, cns_flat p _ (d + ks.length), cns_flats ks r d]
    cases cns r d <;> simp
    omega
end

mutual
/-- At each of its nodes a part begins. -/
theorem sub_at : ∀ (p : Prt) (i : Nat), p.mon → i < p.flat.length → ∃ (q : Prt) (r : List ANode), q.mon ∧ p.flat.drop i = q.flat ++ r
  | p, 0, hm, hi => ⟨p, [], hm, by simp⟩
  | .mk k t n a ks, i + 1, hm, hi => by
    rw [Prt.flat] at hi ⊢
    rw [List.drop_succ_cons]
    exact subs_at ks i hm.2 (by simpa using hi)
theorem subs_at : ∀ (ks : List Prt) (i : Nat), mons ks → i < (flats ks).length → ∃ (q : Prt) (r : List ANode), q.mon ∧ (flats ks).drop i = q.flat ++ r
  | [], i, _, hi => by simp [flats] at hi
  | p :: ks, i, hm, hi => by
    rw [flats] at hi ⊢
    by_cases h : i < p.flat.length
    · obtain ⟨q, r, h1, h2⟩ := sub_at p i hm.1 h
      refine ⟨q, r ++ flats ks, h1, ?_⟩
      rw [List.drop_append_of_le_length (by omega), h2, List.append_assoc]
    · obtain ⟨q, r, h1, h2⟩ := subs_at ks (i - p.flat.length) hm.2 (by simp at hi; omega)
      refine ⟨q, r, h1, ?_⟩
      rw [List.drop_append, List.drop_eq_nil_of_le (by omega), List.nil_append]
      exact h2
end

theorem flats_ge : ∀ (ks : List Prt), ks.length ≤ (flats ks).length
  | [] => by simp
  | p :: r => by
    have h1 := flats_ge r
    have h2 : 0 < p.flat.length := List.length_pos_iff.2 (flat_ne p)
    rw [flats]
    simp
    omega

mutual
theorem kn_flat : ∀ (p : Prt) (q : ANode), q ∈ p.flat → 0 ≤ q.2.1 ∧ q.2.1 ≤ (p.flat.length : Int)
  | .mk k t n a ks, q, hq => by
    have hl := flats_ge ks
    rw [Prt.flat] at hq ⊢
    rcases List.mem_cons.1 hq with rfl | hq
    · simp; omega
    · have := kn_flats ks q hq
      simp
      omega
theorem kn_flats : ∀ (ks : List Prt) (q : ANode), q ∈ flats ks → 0 ≤ q.2.1 ∧ q.2.1 ≤ ((flats ks).length : Int)
  | [], q, hq => by simp [flats] at hq
  | p :: r, q, hq => by
    rw [flats] at hq ⊢
    rcases List.mem_append.1 hq with hq | hq
    · have := kn_flat p q hq
      simp
      omega
    · have := kn_flats r q hq
      simp
      omega
end

/-- What the law asks of a list of nodes. -/
structure RightL (n : Nat) (l : List ANode) : Prop where
  ne : l ≠ []
  nn : ∀ i (hi : i < l.length), 0 ≤ l[i].2.2.2.2 ∧ (0 < i → l[i].2.2.2.2 < (n : Int))
  tx : ∀ i (hi : i < l.length), TxB l[i].2.2.1
  kn : ∀ i (hi : i < l.length), 0 ≤ l[i].2.1 ∧ l[i].2.1 ≤ (l.length : Int)
  bh : ∀ i (hi : i < l.length), ∃ e, bhP l i = some e ∧ e ≤ l.length ∧ ∀ k (hk : k < l.length), i < k → k < e → l[i].2.2.2.2 ≤ l[k].2.2.2.2

theorem mon_first {q : Prt} (h : q.mon) : ∀ (k : Nat) (hk : k < q.flat.length), (q.flat[0]'(by omega)).2.2.2.2 ≤ q.flat[k].2.2.2.2 := by
  cases q with
  | mk kk t n a ks =>
    intro k hk
    have e : (Prt.mk kk t n a ks).flat = (kk, (ks.length : Int), t, n, a) :: flats ks := by rw [Prt.flat]
    simp only [e] at hk ⊢
    cases k with
    | zero => exact Int.le_refl _
    | succ k =>
      simp only [List.getElem_cons_zero, List.getElem_cons_succ]
      exact h.1 _ (List.getElem_mem _)

theorem right_list {n : Nat} {ks : List Prt} (h : ∀ q ∈ ks, AtQ n q 0) : RightL n (Prt.mk 1 [] 0 0 ks).flat := by
  have hf : ∀ q ∈ flats ks, 0 ≤ q.2.2.2.2 ∧ q.2.2.2.2 < (n : Int) := by
    intro q hq
    obtain ⟨p, hp, hq⟩ := mem_flats.1 hq
    have := (h p hp).rng q hq
    exact ⟨Int.le_trans (h p hp).lo this.1, this.2⟩
  have hm : (Prt.mk 1 [] 0 0 ks).mon := ⟨fun q hq => (hf q hq).1, mons_of fun p hp => (h p hp).mon⟩
  refine ⟨flat_ne _, ?_, ?_, fun i hi => kn_flat _ _ (List.getElem_mem hi), ?_⟩
  · have e : (Prt.mk 1 [] 0 0 ks).flat = (1, (ks.length : Int), [], 0, 0) :: flats ks := by rw [Prt.flat]
    rw [e]
    intro i hi
    cases i with
    | zero => exact ⟨Int.le_refl _, fun h => by omega⟩
    | succ i =>
      simp only [List.getElem_cons_succ]
      have := hf _ (List.getElem_mem (l := flats ks) (n := i) (by simpa using hi))
      exact ⟨this.1, fun _ => this.2⟩
  · intro i hi
    have hq := List.getElem_mem hi
    generalize (Prt.mk 1 [] 0 0 ks).flat[i] = q at hq
    rw [Prt.flat] at hq
    rcases List.mem_cons.1 hq with rfl | hq
    · exact tx_nil
    · obtain ⟨p, hp, hq⟩ := mem_flats.1 hq
      exact (h p hp).tx q hq
  · intro i hi
    obtain ⟨q, r, h1, h2⟩ := sub_at _ i hm hi
    generalize (Prt.mk 1 [] 0 0 ks).flat = l at *
    have hlen : q.flat.length + r.length = l.length - i := by
      have := congrArg List.length h2
      simp at this
      omega
    have hget : ∀ (k : Nat) (hk : k < q.flat.length), l[i + k]'(by omega) = q.flat[k] := by
      intro k hk
      have : (l.drop i)[k]'(by simp; omega) = (q.flat ++ r)[k]'(by simp; omega) := by simp only [h2]
      rw [List.getElem_drop, List.getElem_append_left hk] at this
      exact this
    have hpos : 0 < q.flat.length := by
      have := flat_ne q
      exact List.length_pos_iff.2 this
    refine ⟨i + q.flat.length, ?_, by omega, ?_⟩
    · unfold bhP
      have e : (kidsN l).drop i = kidsN q.flat ++ kidsN r := by
        rw [← kidsN_append, ← h2]
        simp [kidsN]
      rw [e, show (1 : Nat) = 0 + 1 from rfl, cns_flat q (kidsN r) 0]
      cases kidsN r <;> simp [cns]
    · intro k hk hik hke
      have a0 := hget 0 hpos
      have ak := hget (k - i) (by omega)
      simp only [Nat.add_zero] at a0
      simp only [show i + (k - i) = k by omega] at ak
      rw [a0, ak]
      exact mon_first h1 (k - i) (by omega)

end Go.Proofs.YtlcieebneclmpaaDoor

set_option linter.unusedSimpArgs false
set_option linter.unusedVariables false
namespace Go.Proofs.YtlcieebneclmpaaDoor
open Go Go.RowKit

theorem cut_bad2 {c : Int} {t : List Int} {e : Int} {off : Nat} (h : cut (c :: t) = .bad e off) : off ≤ t.length + 1 := by
  simp only [cut] at h
  split at h
  · simp [cName] at h
  · split at h
    · have := twl_le isDg (c :: t)
      unfold cNum at h
      split at h
      · simp at h; omega
      · split at h
        · simp at h this; omega
        · split at h
          · simp at h; omega
          · cases h
    · split at h
      · have := (cStr_len _ _ _ _).2 _ _ h
        omega
      · simp only [cSign] at h
        split at h
        · cases h
        · split at h
          · cases h
          · simp at h; omega

theorem lex_bad : ∀ (f : Nat) (b : List Int) (at_ : Nat) (acc : List ATok), b.length < f → (lexF f b at_ acc).2.2 ≤ at_ + b.length
  | 0, _, _, _, h => by omega
  | f + 1, [], at_, acc, _ => by
    rw [lexF_nil]
    simp
  | f + 1, c :: t, at_, acc, h => by
    have ih := fun b at_ acc h => lex_bad f b at_ acc h
    simp only [List.length_cons] at h ⊢
    by_cases hb : isBl c = true
    · rw [lexF_blank hb]
      have := ih t (at_ + 1) acc (by omega)
      omega
    · have hb' : isBl c = false := by simpa using hb
      by_cases hr : c = 35
      · subst hr
        rw [lexF_rem]
        have := twl_le (· != 10) t
        have i3 := ih (t.drop (twl (· != 10) t)) (at_ + 1 + twl (· != 10) t) acc (by simp; omega)
        simp at i3
        omega
      · cases hg : begn c
        · rw [lexF_form hb' hr hg]
          simp
        · by_cases ha : acc.length = 16384
          · rw [lexF_full hb' hr hg _ _ _ _ ha]
            simp
          · cases hc : cut (c :: t) with
            | bad e off =>
              have he := cut_bad2 hc
              rw [lexF_bad hb' hr hg _ _ _ _ ha hc]
              simp
              omega
            | tok k x n len =>
              have hlen := cut_len hc
              simp only [List.length_cons] at hlen
              rw [lexF_tok hb' hr hg _ _ _ _ ha hc]
              have i3 := ih ((c :: t).drop len) (at_ + len) (acc ++ [(k, x, n, (at_ : Int))]) (by simp; omega)
              simp only [List.length_drop, List.length_cons] at i3
              omega

theorem hexV_bd2 {x i : Int} (h : hexV x = some i) : 0 ≤ i ∧ i ≤ 15 := by
  unfold hexV at h
  split at h
  · injection h with h; omega
  · split at h
    · injection h with h; omega
    · split at h
      · injection h with h; omega
      · cases h

theorem esc_byte2 {r : List Int} {x : Int} {m : Nat} (h : esc r = .inl (x, m)) (hr : ∀ c ∈ r, 0 ≤ c ∧ c ≤ 255) : (0 ≤ x ∧ x ≤ 255) ∧ 2 ≤ m ∧ m ≤ r.length + 1 := by
  unfold esc at h
  split at h
  · cases h
  · rename_i c t
    have hc := hr c (by simp)
    split at h
    · simp at h ⊢; omega
    · split at h
      · simp at h ⊢; omega
      · split at h
        · simp at h ⊢; omega
        · split at h
          · split at h
            · cases h
            · split at h
              · cases h
              · rename_i hx
                split at h
                · cases h
                · split at h
                  · cases h
                  · rename_i hy
                    have := hexV_bd2 hx
                    have := hexV_bd2 hy
                    simp at h ⊢; omega
          · cases h

theorem cStr_tx : ∀ (f : Nat) (r acc : List Int) (k : Nat) (kd : Int) (x : List Int) (n : Int) (len : Nat), (∀ c ∈ r, 0 ≤ c ∧ c ≤ 255) → (∀ c ∈ acc, 0 ≤ c ∧ c ≤ 255) → cStr f r acc k = .tok kd x n len → (∀ c ∈ x, 0 ≤ c ∧ c ≤ 255) ∧ x.length ≤ acc.length + r.length
  | 0, r, acc, k, kd, x, n, len, _, _, h => by simp [cStr] at h
  | f + 1, [], acc, k, kd, x, n, len, _, _, h => by simp [cStr] at h
  | f + 1, c :: t, acc, k, kd, x, n, len, hr, ha, h => by
    simp only [cStr] at h
    split at h
    · injection h with h1 h2 h3 h4
      subst h2
      exact ⟨ha, by simp⟩
    · split at h
      · cases h
      · split at h
        · split at h
          · cases h
          · rename_i y m he
            have hb := esc_byte2 he (fun c hc => hr c (by simp [hc]))
            have q := cStr_tx f _ _ _ kd x n len (fun c hc => hr c (List.mem_of_mem_drop hc)) (fun c hc => by
              rcases List.mem_append.1 hc with hc | hc
              · exact ha c hc
              · rw [List.mem_singleton] at hc; subst hc; exact hb.1) h
            refine ⟨q.1, ?_⟩
            have := q.2
            simp at this ⊢
            omega
        · have q := cStr_tx f _ _ _ kd x n len (fun c hc => hr c (by simp [hc])) (fun c2 hc => by
              rcases List.mem_append.1 hc with hc | hc
              · exact ha c2 hc
              · rw [List.mem_singleton] at hc; subst hc; exact hr _ (by simp)) h
          refine ⟨q.1, ?_⟩
          have := q.2
          simp at this ⊢
          omega

theorem cut_tx {r : List Int} {k n : Int} {x : List Int} {len : Nat} (hr : ∀ c ∈ r, 0 ≤ c ∧ c ≤ 255) (h : cut r = .tok k x n len) : (∀ c ∈ x, 0 ≤ c ∧ c ≤ 255) ∧ x.length ≤ r.length + 2 := by
  unfold cut at h
  split at h
  · cases h
  · rename_i c t
    split at h
    · unfold cName at h
      injection h with h1 h2 h3 h4
      subst h2
      exact ⟨fun d hd => hr d ((List.takeWhile_sublist _).subset hd), by have := (List.takeWhile_sublist isNm (l := c :: t)).length_le; omega⟩
    · split at h
      · unfold cNum at h
        split at h
        · cases h
        split at h
        · cases h
        split at h
        · cases h
        injection h with h1 h2 h3 h4
        subst h2
        exact ⟨fun d hd => (by cases hd), by simp⟩
      · split at h
        · have q := cStr_tx _ _ _ _ _ _ _ _ (fun d hd => hr d (by simp [hd])) (fun d hd => by cases hd) h
          refine ⟨q.1, ?_⟩
          have := q.2
          simp at this ⊢
          omega
        · unfold cSign at h
          split at h
          · cases h
          · rename_i c2 t2 e2
            injection e2 with e3 e4
            subst e3 e4
            split at h
            · injection h with h1 h2 h3 h4
              subst h2
              refine ⟨fun d hd => ?_, by simp⟩
              rcases List.mem_cons.1 hd with rfl | hd
              · exact hr _ (by simp)
              · rw [List.mem_singleton] at hd; subst hd; decide
            · split at h
              · injection h with h1 h2 h3 h4
                subst h2
                refine ⟨fun d hd => ?_, by simp⟩
                rw [List.mem_singleton] at hd; subst hd
                exact hr _ (by simp)
              · cases h

theorem lex_tx (N : Nat) (hN : N ≤ 1000000) : ∀ (f : Nat) (b : List Int) (at_ : Nat) (acc : List ATok), b.length < f → b.length ≤ N → (∀ c ∈ b, 0 ≤ c ∧ c ≤ 255) → (∀ t ∈ acc, TxB t.2.1) → ∀ t ∈ (lexF f b at_ acc).1, TxB t.2.1
  | 0, _, _, _, h, _, _, _ => by omega
  | f + 1, [], at_, acc, _, _, _, ha => by
    rw [lexF_nil]
    intro t ht
    rcases List.mem_append.1 ht with ht | ht
    · exact ha t ht
    · rw [List.mem_singleton] at ht; subst ht; exact tx_nil
  | f + 1, c :: t, at_, acc, h, hn, hb0, ha => by
    have ih := fun b at_ acc h1 h2 h3 h4 => lex_tx N hN f b at_ acc h1 h2 h3 h4
    simp only [List.length_cons] at h hn
    by_cases hb : isBl c = true
    · rw [lexF_blank hb]
      exact ih t (at_ + 1) acc (by omega) (by omega) (fun d hd => hb0 d (by simp [hd])) ha
    · have hb' : isBl c = false := by simpa using hb
      by_cases hr : c = 35
      · subst hr
        rw [lexF_rem]
        have := twl_le (· != 10) t
        exact ih _ _ acc (by simp; omega) (by simp; omega) (fun d hd => hb0 d (List.mem_cons_of_mem _ (List.mem_of_mem_drop hd))) ha
      · cases hg : begn c
        · rw [lexF_form hb' hr hg]
          intro t ht; cases ht
        · by_cases hf : acc.length = 16384
          · rw [lexF_full hb' hr hg _ _ _ _ hf]
            intro t ht; cases ht
          · cases hc : cut (c :: t) with
            | bad e off =>
              rw [lexF_bad hb' hr hg _ _ _ _ hf hc]
              intro t ht; cases ht
            | tok k x n len =>
              have hlen := cut_len hc
              simp only [List.length_cons] at hlen
              rw [lexF_tok hb' hr hg _ _ _ _ hf hc]
              have hx := cut_tx hb0 hc
              refine ih ((c :: t).drop len) (at_ + len) _ (by simp; omega) (by simp; omega) (fun d hd => hb0 d (List.mem_of_mem_drop hd)) (fun u hu => ?_)
              rcases List.mem_append.1 hu with hu | hu
              · exact ha u hu
              · rw [List.mem_singleton] at hu
                subst hu
                refine ⟨hx.1, ?_⟩
                have := hx.2
                simp at this
                show x.length ≤ _
                omega

/-- A fault is told at a token, and is one. -/
def Res.ft (T : List ATok) (r : Res) : Prop := match r with | .bad e a => e ≠ 0 ∧ ∃ m, a = (tk T m).2.2.2 | _ => True

theorem ft_bind {T : List ATok} {r : Res} {k : Prt → Bool → Nat → Res} (h : r.ft T) (hk : ∀ x c j, (k x c j).ft T) : (r.bind k).ft T := by
  cases r with
  | ok x c j => exact hk x c j
  | bad _ _ => exact h
  | out => trivial

theorem ft_here {T : List ATok} {e : Int} {i : Nat} (h : e ≠ 0) : (here T e i).ft T := ⟨h, i, rfl⟩

theorem ft_want {T : List ATok} {s : ByteArray} {i : Nat} {k : Nat → Res} (h : (k (i + 1)).ft T) : (want T s i k).ft T := by
  unfold want
  split
  · exact h
  · exact ft_here (by decide)

theorem ft_wantN {T : List ATok} {i : Nat} {k : Nat → Res} (h : (k (i + 1)).ft T) : (wantN T i k).ft T := by
  unfold wantN
  split
  · exact h
  · exact ft_here (by decide)

theorem ft_entr {T : List ATok} {s : ByteArray} {i o : Nat} {k : Nat → Nat → Res} (h : (k (i + 1) (o + 1)).ft T) : (entr T s i o k).ft T := by
  unfold entr
  split
  · split
    · exact ft_here (by decide)
    · exact h
  · exact ft_here (by decide)

theorem ft_ite {T : List ATok} {p : Prop} [Decidable p] {a b : Res} (h1 : a.ft T) (h2 : b.ft T) : (if p then a else b).ft T := by
  split
  · exact h1
  · exact h2

theorem ft_semi {T : List ATok} {i : Nat} {x : Prt} : (semi T i x).ft T := ft_want trivial

set_option maxHeartbeats 1000000 in
theorem pP_ft (T : List ATok) : ∀ (f : Nat) (nt : Nt) (i o : Nat), (pP T f nt i o).ft T
  | 0, nt, i, o => by cases nt <;> trivial
  | f + 1, nt, i, o => by
    have IH := fun (nt : Nt) (j o : Nat) => pP_ft T f nt j o
    cases nt with
    | read r n => cases r <;> (simp only [pP]; repeat (first | apply ft_ite | (apply ft_here; decide) | apply ft_want | apply ft_wantN | apply ft_entr | (apply IH) | (refine ft_bind (IH _ _ _) fun x c j => ?_) | (apply ft_semi) | trivial))
    | _ => (simp only [pP]; repeat (first | apply ft_ite | (apply ft_here; decide) | apply ft_want | apply ft_wantN | apply ft_entr | (apply IH) | (refine ft_bind (IH _ _ _) fun x c j => ?_) | (apply ft_semi) | trivial))

theorem tk_mem {T : List ATok} {P : ATok → Prop} (h0 : P (0, [], 0, 0)) (h : ∀ t ∈ T, P t) (i : Nat) : P (tk T i) := by
  unfold tk
  rw [List.getD_eq_getElem?_getD]
  cases e : T[i]? with
  | none => exact h0
  | some t => exact h t (List.mem_of_getElem? e)

theorem tk_getR {T : List ATok} {i : Nat} (h : i < T.length) : tk T i = T[i] := by
  unfold tk
  rw [List.getD_eq_getElem?_getD, List.getElem?_eq_getElem h]
  rfl

/-- What the law asks. -/
theorem right_plain {b : List Int} (hb : b.length ≤ 3000) (hby : ∀ c ∈ b, 0 ≤ c ∧ c ≤ 255) :
    ((parA b).2.1 ≠ 0 → (parA b).1 = [] ∧ 0 ≤ (parA b).2.2 ∧ (parA b).2.2 ≤ (b.length : Int)) ∧
    ((parA b).2.1 = 0 → ckP (parA b).1 = (0, 0) ∧ (parA b).2.2 = (b.length : Int) ∧ RightL b.length (parA b).1) := by
  have hlx : lexA b = lexF (b.length + 1) b 0 [] := if_neg (by omega)
  have hlb := lex_bad (b.length + 1) b 0 [] (by omega)
  rw [← hlx] at hlb
  unfold parA
  rcases x1 : lexA b with ⟨T, e, q⟩
  rw [x1] at hlb
  dsimp only at hlb ⊢
  by_cases he : e = 0
  · subst he
    rw [if_neg (by simp)]
    have x2 : lexF (b.length + 1) b 0 [] = (T, 0, q) := by rw [← hlx, x1]
    obtain ⟨g1, g2⟩ := lex_good (b.length + 1) b 0 [] T q (by omega) x2 (fun t ht => by cases ht) (fun i j hj _ => absurd hj (by simp))
    simp only [Nat.zero_add] at g1
    have hok : TokOk T := fun i => tk_mem (P := fun t => (t.1 = 1 → isName t.2.1 = true) ∧ (t.1 = 3 → 0 ≤ t.2.2.1 ∧ t.2.2.1 ≤ 2305843009213693951)) ⟨fun h => by simp at h, fun h => by simp at h⟩ (fun t ht => (g1 t ht).1) i
    have hpl : ∀ i, 0 ≤ (tk T i).2.2.2 ∧ (tk T i).2.2.2 ≤ (b.length : Int) := fun i => tk_mem (P := fun t => 0 ≤ t.2.2.2 ∧ t.2.2.2 ≤ (b.length : Int)) ⟨Int.le_refl _, by simp⟩ (fun t ht => ⟨(g1 t ht).2.1, (g1 t ht).2.2.1⟩) i
    have hTa : TkA T b.length := by
      refine ⟨fun i j hij hj => ?_, fun i hk => ?_, fun i => tk_mem (P := fun t => TxB t.2.1) tx_nil (fun t ht => lex_tx b.length (by omega) (b.length + 1) b 0 [] (by omega) (Nat.le_refl _) hby (fun t ht => by cases ht) t (by rw [x2]; exact ht)) i, fun i _ => (hpl i).1⟩
      · rw [tk_getR (by omega), tk_getR hj]
        exact g2 i j hj hij
      · exact tk_mem (P := fun t => t.1 ≠ 0 → t.2.2.2 < (b.length : Int)) (fun h => absurd rfl h) (fun t ht h => (g1 t ht).2.2.2 (.inl h)) i hk
    have hTl : T.length ≤ 3001 := by
      obtain ⟨toks, r1, r2, _⟩ := (lex_res (b.length + 1) b 0 [] (by omega)).2.1 (by rw [x2])
      rw [x2] at r1
      have := congrArg List.length r1
      simp at this r2
      omega
    have hno := pP_no T (40 * (T.length + 1)) (.prog []) 0 0 (Nat.zero_le _) trivial (by simp only [rank]; omega)
    have hft := pP_ft T (40 * (T.length + 1)) (.prog []) 0 0
    cases hp : pP T (40 * (T.length + 1)) (.prog []) 0 0 with
    | out => rw [hp] at hno; exact hno.elim
    | bad e a =>
      rw [hp] at hft
      obtain ⟨h1, m, rfl⟩ := (show _ ∧ _ from hft)
      exact ⟨fun _ => ⟨rfl, hpl m⟩, fun h => absurd h h1⟩
    | ok x c j =>
      refine ⟨fun h => absurd rfl h, fun _ => ⟨?_, rfl, ?_⟩⟩
      · have w := pP_wf T hok (by omega) _ (.prog []) 0 0 x c j ⟨fun q hq => (by cases hq), Nat.zero_le _, Nat.zero_le _⟩ hp
        exact ck_prog w
      · have w := pP_at T b.length hTa _ (.prog []) 0 0 0 x c j (fun q hq => by cases hq) hp
        obtain ⟨ks, rfl, _⟩ := prog_kids hp
        exact right_list w
  · rw [if_pos he]
    exact ⟨fun _ => ⟨rfl, by simp, by simp at hlb ⊢; omega⟩, fun h => absurd h he⟩

end Go.Proofs.YtlcieebneclmpaaDoor

set_option linter.unusedSimpArgs false
set_option linter.unusedVariables false
namespace Go.Proofs.YtlcieebneclmpaaDoor
open Go Go.RowKit

set_option maxRecDepth 100000 in
set_option maxHeartbeats 4000000 in
theorem behind_big (g off cap : Nat) (L : List ANode) (hl : L.length ≤ 9000) (at_ : Int) (ha : -9223372036854775808 ≤ at_ ∧ at_ ≤ 9223372036854775807) (w : World) (h : L.length = 0 ∨ NM w g off L) :
    Calls Tryd.prog 13 #[.slice (some ⟨g, off, none⟩) L.length cap, .int .i64 at_] w fun e w' => e = .returned (.tuple #[.int .i64 (bhV L at_).1, .int .i64 (bhV L at_).2]) ∧ w' = w := by
  by_cases h0 : at_ < 0 ∨ (L.length : Int) ≤ at_
  · rw [show bhV L at_ = (0, 1) from if_pos h0]
    by_cases h1 : at_ < 0
    · clear h h0 ha hl
      go_enter Tryd.func13, Tryd.ntmps13
      go_wp2
      all_goals go_ret2
      all_goals exact ⟨rfl, rfl⟩
    · have h2 : (L.length : Int) ≤ at_ := by omega
      clear h h0 ha hl
      go_enter Tryd.func13, Tryd.ntmps13
      go_wp2
      all_goals go_ret2
      all_goals exact ⟨rfl, rfl⟩
  · obtain ⟨a0, rfl⟩ : ∃ a : Nat, at_ = (a : Int) := ⟨at_.toNat, by omega⟩
    have hv : bhV L (a0 : Int) = match (cns ((kidsN L).drop a0) 1).map (a0 + ·) with | some k => ((k : Int), 0) | none => (0, 6) := by
      unfold bhV
      rw [if_neg h0]
      simp [bhP]
      try rfl
    rw [hv]
    generalize hR : (cns ((kidsN L).drop a0) 1).map (a0 + ·) = R
    have HR := hid hR
    have hlt0 : a0 < L.length := by omega
    have HN := hid (h.resolve_left (by omega))
    have ha1 : (0 : Int) ≤ (a0 : Int) := by omega
    have ha2 : (a0 : Int) < (L.length : Int) := by omega
    clear hv h h0 ha hR
    go_enter Tryd.func13, Tryd.ntmps13
    go_wp2
    go_loopw [1, 6] (fun u v wr => ∃ a d : Nat, u = .int .i64 (a : Int) ∧ v = .int .i64 (d : Int) ∧ a + d ≤ L.length ∧ (cns ((kidsN L).drop a) d).map (a + ·) = R ∧ wr = w) (fun u _ _ => L.length - (intOf u).toNat)
    case atStart => exact ⟨a0, 1, rfl, rfl, by omega, HR.out, rfl⟩
    case round =>
      clear HR ha1 ha2 hlt0
      obtain ⟨a, d, rfl, rfl, hle, hr, hwr⟩ := hrel
      subst hwr
      have HR := hid hr
      clear hr
      cases d with
      | zero =>
        have e : R = some a := by rw [← HR.out]; cases (kidsN L).drop a <;> simp [cns]
        subst e
        go_wp2
        all_goals go_ret2
        all_goals exact ⟨rfl, rfl⟩
      | succ d =>
        have hlt : a < L.length := by omega
        have b1 : (0 : Int) ≤ (a : Int) := by omega
        have b2 : (a : Int) < (L.length : Int) := by omega
        have c1 := HN.out.c a hlt
        have c2 := HN.out.lt
        have c3 := HN.out.b a hlt
        have hk := kids_drop hlt
        have HRk := HR.out
        rw [hk, cns] at HRk
        have HB := hid (cns_le ((kidsN L).drop (a + 1)) (d + L[a].2.1.toNat))
        have hdl : ((kidsN L).drop (a + 1)).length = L.length - (a + 1) := by simp [kidsN]
        have HDL := hid hdl
        have HRK := hid HRk
        clear hk HRk hdl
        generalize hN : L[a].2.1 = N at c1 c3 HB HRK
        clear hN
        by_cases hgt : (L.length : Int) - (a : Int) - ((d : Int) + 1) < N
        · have e : R = none := by
            rw [← HRK.out]
            cases hc : cns ((kidsN L).drop (a + 1)) (d + N.toNat) with
            | none => rfl
            | some m =>
              have q := HB.out m hc
              have q2 := HDL.out
              omega
          subst e
          clear HRK HB HDL HR
          go_wp2
          all_goals go_ret2
          all_goals exact ⟨rfl, rfl⟩
        · have hle2 : N ≤ (L.length : Int) - (a : Int) - ((d : Int) + 1) := by omega
          clear hgt HB HDL HR
          go_wp2
          case roundEnd =>
            refine ⟨⟨a + 1, d + N.toNat, by rw [Int.natCast_add]; rfl, ?_, by omega, ?_, trivial⟩, ?_⟩
            · congr 1
              split <;> omega
            · rw [← HRK.out]
              cases cns ((kidsN L).drop (a + 1)) (d + N.toNat) <;> simp <;> omega
            · simp only [intOf]
              omega

end Go.Proofs.YtlcieebneclmpaaDoor

set_option linter.unusedSimpArgs false
set_option linter.unusedVariables false
namespace Go.Proofs.YtlcieebneclmpaaDoor
open Go Go.RowKit

set_option maxRecDepth 100000 in
set_option maxHeartbeats 16000000 in
theorem check_big (g o cap : Nat) (L : List ANode) (h0 : 0 < L.length) (hl : L.length ≤ 9000) (w : World) (h : NC w g o L) (hh : Sh w) :
    Calls Tryd.prog 10 #[.slice (some ⟨g, o, none⟩) L.length cap] w fun e w' => e = .returned (.tuple #[.int .i64 (ckP L).1, .int .i64 (ckP L).2]) ∧ Bw w w' := by
  have hne : L ≠ [] := by intro e; rw [e] at h0; simp at h0
  have hR : ckP L = ckI L 0 [] 1 := if_neg hne
  rw [hR]
  obtain ⟨R, hRR⟩ : ∃ R, R = ckI L 0 [] 1 := ⟨_, rfl⟩
  rw [← hRR]
  have HR := hid hRR
  have HN := hid h
  have HH := hid hh
  have hz : ((L.length : Int) == 0) = false := by rw [beq_eq_false_iff_ne]; omega
  obtain ⟨i1, hi1, hz1, hs1, hy1⟩ := info_parts infoUn
  have I1 := hid (And.intro hi1 (And.intro hz1 (And.intro hs1 hy1)))
  clear hne hR hRR h hh hi1 hz1 hs1 hy1
  go_enter Tryd.func10, Tryd.ntmps10
  go_wp2
  go_loopw [4, 5, 13] (fun v a j wr => ∃ (i : Nat) (S : List (ANode × Int)) (aa : Int) (x : Option Addr) (c : Nat), i ≤ L.length ∧ v = .slice x S.length c ∧ a = .int .i64 aa ∧ j = .int .i64 i ∧ Un wr w.heap.size (.slice x S.length c) S ∧ Bw w wr ∧ ckI (L.drop i) i S.reverse aa = R ∧ S.length ≤ i ∧ ∀ u ∈ S, OkU i u) (fun _ _ j _ => L.length - (intOf j).toNat)
  case atStart => exact ⟨0, [], 1, none, 0, Nat.zero_le _, rfl, rfl, rfl, World.ownsRow_nil _ _ _ _, Bw.refl _, HR.out.symm, Nat.le_refl _, fun u hu => by cases hu⟩
  case round =>
    obtain ⟨i, S, aa, x, c, hi, rfl, rfl, rfl, hun, hbw, hck, hsl, hok⟩ := hrel
    have HUN := hid hun
    have HBW := hid hbw
    have HCK := hid hck
    have HOK := hid hok
    have hszr : w.heap.size ≤ wr.heap.size := hbw.size
    clear hun hbw hck hok
    by_cases hlt : i < L.length
    · have hlt2 : (i : Int) < (L.length : Int) := by omega
      have hi0 : (0 : Int) ≤ (i : Int) := by omega
      have hdrop : L.drop i = L[i] :: L.drop (i + 1) := List.drop_eq_getElem_cons hlt
      have y := fun j hj => (World.cell?_of_block (w := w) (w' := wr) (a := ⟨g, o + i * 5 + j, none⟩) (HBW.out.block g HN.out.lt)).trans (HN.out.c i hlt j hj)
      have y0 := y 0 (by decide)
      have y1 := y 1 (by decide)
      have y2 := y 2 (by decide)
      have y3 := y 3 (by decide)
      have y4 := y 4 (by decide)
      have hgl : g < wr.heap.size := Nat.lt_of_lt_of_le HN.out.lt HBW.out.size
      have HNB := hid (HN.out.b i hlt)
      have hck2 := HCK.out
      rw [hdrop] at hck2
      have HCK2 := hid hck2
      clear y hdrop HCK hck2
      generalize L[i] = n at *
      obtain ⟨nk, nN, nt, nu, na⟩ := n
      replace y0 : wr.cell? ⟨g, o + i * 5, none⟩ = some (.int .i64 nk) := y0
      replace y1 : wr.cell? ⟨g, o + i * 5 + 1, none⟩ = some (.int .i64 nN) := y1
      replace y2 : wr.cell? ⟨g, o + i * 5 + 2, none⟩ = some (.string (strOfNums nt)) := y2
      replace y3 : wr.cell? ⟨g, o + i * 5 + 3, none⟩ = some (.int .i64 nu) := y3
      replace y4 : wr.cell? ⟨g, o + i * 5 + 4, none⟩ = some (.int .i64 na) := y4
      cases hft : ftP nk aa
      · have e : R = ((i : Int), 8) := by
          rw [← HCK2.out, ckI]
          exact if_pos hft
        subst e
        have HF := hid (fun w1 (hb : Bw wr w1) => fits_any nk aa w1 ((HH.out.bw HBW.out).bw hb))
        rw [hft] at HF
        generalize strOfNums nt = ss at *
        clear HCK2 HNB hft
        go_wp2_with (first
          | (go_at_call 18; refine (HF.out _ (by repeat (first | exact Bw.refl _ | apply Bw.alloc | apply Bw.drewN | apply Bw.drew))).mono ?_; rintro e w' ⟨rfl, hw'⟩; subst w')
          | fail)
        all_goals go_ret2
        all_goals exact ⟨rfl, by repeat (first | exact HBW.out | apply Bw.alloc | apply Bw.drewN | apply Bw.drew)⟩
      · obtain ⟨kn, rfl, hk1, hk2⟩ := ft_kind hft
        have HF := hid (fun w1 (hb : Bw wr w1) => fits_any (kn : Int) aa w1 ((HH.out.bw HBW.out).bw hb))
        rw [hft] at HF
        have HM := hid (fun w1 (hb : Bw wr w1) => wellMade_any kn hk1 hk2 nN nu na nt HNB.out.2 HNB.out.1 w1 ((HH.out.bw HBW.out).bw hb))
        cases hwm : wmP ((kn : Int), nN, nt, nu, na)
        · have e : R = ((i : Int), 1) := by
            rw [← HCK2.out, ckI, if_neg (by show ¬ ftP (kn : Int) aa = false; rw [hft]; decide)]
            exact if_pos hwm
          subst e
          rw [hwm] at HM
          generalize strOfNums nt = ss at *
          clear HCK2 HNB hft hwm
          go_wp2_with (first
            | (go_at_call 18; refine (HF.out _ (by repeat (first | exact Bw.refl _ | apply Bw.alloc | apply Bw.drewN | apply Bw.drew))).mono ?_; rintro e w' ⟨rfl, hw'⟩; subst w')
            | (go_at_call 19; refine (HM.out _ (by repeat (first | exact Bw.refl _ | apply Bw.alloc | apply Bw.drewN | apply Bw.drew))).mono ?_; rintro e w3 ⟨rfl, hb3⟩; have B3 := hid (Bw.trans (show Bw wr _ from (by repeat (first | exact Bw.refl _ | apply Bw.alloc | apply Bw.drewN | apply Bw.drew))) hb3); clear hb3)
            | fail)
          all_goals go_ret2
          all_goals exact ⟨rfl, HBW.out.trans B3.out⟩
        · rw [hwm] at HM
          have hnn := wm_nonneg (n := ((kn : Int), nN, nt, nu, na)) hft hwm
          have hsm := wm_small hwm
          have hck3 : (match wof ((((kn : Int), nN, nt, nu, na), 0) :: S.reverse) with
            | [] => if L.drop (i + 1) = [] then (0, 0) else (((i + 1 : Nat) : Int), 6)
            | (m, c) :: st' => ckI (L.drop (i + 1)) (i + 1) ((m, c + 1) :: st') (stP m c)) = R := by
            have q := HCK2.out
            rw [ckI, if_neg (show ¬ ftP ((kn : Int), nN, nt, nu, na).1 aa = false by rw [hft]; decide), if_neg (show ¬ wmP ((kn : Int), nN, nt, nu, na) = false by rw [hwm]; decide)] at q
            exact q
          have HCK3 := hid hck3
          have HSM := hid (And.intro hnn hsm)
          clear HCK2 HNB hft hwm hnn hsm hck3
          obtain ⟨nd, hnd⟩ : ∃ nd : ANode, nd = ((kn : Int), nN, nt, nu, na) := ⟨_, rfl⟩
          have HND := hid hnd
          rw [← hnd] at HCK3 HSM
          have huv : unV (nd, 0) = [.int .i64 (kn : Int), .int .i64 nN, .string (strOfNums nt), .int .i64 nu, .int .i64 na, .int .i64 0] := by rw [hnd]; rfl
          have HUV := hid huv
          clear hnd huv
          generalize strOfNums nt = ss at *
          go_wp2_with (first
            | (go_at_call 18; refine (HF.out _ (by repeat (first | exact Bw.refl _ | apply Bw.alloc | apply Bw.drewN | apply Bw.drew))).mono ?_; rintro e w' ⟨rfl, hw'⟩; subst w')
            | (go_at_call 19; refine (HM.out _ (by repeat (first | exact Bw.refl _ | apply Bw.alloc | apply Bw.drewN | apply Bw.drew))).mono ?_; rintro e w3 ⟨rfl, hb3⟩; have B3 := hid (Bw.trans (show Bw wr _ from (by repeat (first | exact Bw.refl _ | apply Bw.alloc | apply Bw.drewN | apply Bw.drew))) hb3); have z0 := ((Blk.new wr #[.int .i64 (kn : Int), .int .i64 nN, .string ss, .int .i64 nu, .int .i64 na] 38).bw hb3).cell; have zl := ((Blk.new wr #[.int .i64 (kn : Int), .int .i64 nN, .string ss, .int .i64 nu, .int .i64 na] 38).bw hb3).lt; clear hb3)
            | (at_builtin; refine wpList_append_own _ rfl _ _ 43 rfl w.heap.size 48 i1 _ 6 56 underUns I1.out.1 I1.out.2.1 I1.out.2.2.1 I1.out.2.2.2 rfl (by decide) (.slice x S.length c) S.length (S.flatMap unV) rfl ?c0 ⟨w3.heap.size, 0, none⟩ 1 1 (unV (nd, 0)) rfl ?c1 ?c2 (unV_one _) ?c3 ?c4 ?c5 ?_)
            | fail)
          case c0 => exact HUN.out.bw (Bw.alloc B3.out _)
          case c1 => rw [HUV.out]; rfl
          case c2 =>
            have := unf_new w3 w3.heap.size rfl (nd, 0) 48
            rw [HUV.out] at this ⊢
            exact this
          case c3 => unfold maxLen; omega
          case c4 => omega
          case c5 => have := B3.out.size; simp only [World.size_alloc]; omega
          intro v4 w4 ho4 hg4 _
          have HB4 := hid (bw_grown (Bw.alloc (HBW.out.trans B3.out) _) (Nat.le_refl _) (HUN.out.bw (Bw.alloc B3.out _)) hg4)
          have hl4 : (S ++ [(nd, (0 : Int))]).length = S.length + 1 := by simp
          have hun4 : Un w4 w.heap.size v4 (S ++ [(nd, 0)]) := by
            unfold Un
            rw [hl4, List.flatMap_append]
            simpa using ho4
          obtain ⟨g4, cap4, e4, hgb4, hgl4, hnc4, hcs4, hfz4⟩ := hun4.at (by rw [hl4]; omega)
          subst e4
          have HUN4 := hid hun4
          have HGB := hid hgb4
          have HW4 := hid (without_any w.heap.size g4 cap4 (S ++ [(nd, 0)]) (by rw [hl4]; omega) (by rw [hl4]; omega) w4 hun4)
          have HL4 := hid hl4
          rw [hl4] at HW4
          rw [hl4]
          have hokN : ∀ u ∈ S ++ [(nd, (0 : Int))], OkU i u := by
            intro u hu
            rcases List.mem_append.1 hu with hu | hu
            · exact HOK.out u hu
            · simp at hu
              subst hu
              exact ⟨0, rfl, HSM.out.1, Nat.zero_le _, HSM.out.2.1, HSM.out.2.2⟩
          have HOKN := hid hokN
          have hrev : (S ++ [(nd, (0 : Int))]).reverse = (nd, 0) :: S.reverse := by simp
          have HREV := hid hrev
          clear ho4 hg4 hun4 hcs4 hfz4 hgb4 hl4 HF HM hokN hrev z0 HUN HOK y0 y1 y2 y3 y4
          go_upto_region 13 with (first
            | (go_at_call 20; refine HW4.out.mono ?_; rintro e w5 ⟨k, hk, hT, rfl, hb5⟩; have HB5 := hid (HB4.out.trans hb5); have HUN5 := hid (HUN4.out.bw hb5); have HT := hid hT; clear hb5 hT)
            | fail)
          generalize hS1 : S ++ [(nd, (0 : Int))] = S1 at *
          cases k with
          | zero =>
            have hTe : wof ((nd, 0) :: S.reverse) = [] := by rw [← HREV.out, ← HT.out]; simp
            have e : R = if L.drop (i + 1) = [] then (0, 0) else (((i + 1 : Nat) : Int), 6) := by rw [← HCK3.out, hTe]
            have e2 : R = ((if i + 1 < L.length then (((i + 1 : Nat) : Int)) else 0), (if i + 1 < L.length then 6 else 0)) := by
              rw [e]
              by_cases hq : i + 1 < L.length
              · rw [if_pos hq, if_pos hq, if_neg (by intro h9; have := congrArg List.length h9; simp at this; omega)]
              · rw [if_neg hq, if_neg hq, if_pos (List.drop_eq_nil_of_le (by omega))]
            have HCE := hid (checkEnd_any (some ⟨g, o, none⟩) L.length cap (i + 1) (by omega))
            have hcast : ((i + 1 : Nat) : Int) = (i : Int) + 1 := by omega
            rw [hcast] at HCE e2
            clear e
            clear HCK3 HT HREV HOKN HW4 HUN4 HUN5 hTe hcast
            subst e2
            go_wp2_with (first
              | (go_at_call 21; refine (HCE.out _).mono ?_; rintro e w' ⟨rfl, hw'⟩; subst w')
              | fail)
            all_goals go_ret2
            all_goals exact ⟨rfl, HB5.out⟩
          | succ q =>
            have hS1l := HL4.out
            have hql : q < S1.length := by omega
            have hsn : S1.take (q + 1) = S1.take q ++ [(S1[q].1, S1[q].2)] := by rw [List.take_succ_eq_append_getElem hql]
            have hTe : wof ((nd, 0) :: S.reverse) = (S1[q].1, S1[q].2) :: (S1.take q).reverse := by
              rw [← HREV.out, ← HT.out, hsn]
              simp
            have hmem : (S1[q].1, S1[q].2) ∈ S1 := List.getElem_mem hql
            obtain ⟨c9, hc9, hc9b, hc9c, hc9d, hc9e⟩ := HOKN.out _ hmem
            have hne := (wof_head hTe).1
            have hck4 := HCK3.out
            rw [hTe] at hck4
            dsimp only at hck4 hc9 hc9b hc9d hc9e
            have hun6 := Un.take (show Un w5 w.heap.size (.slice (some ⟨g4, 0, none⟩) S1.length cap4) S1 from HUN5.out) (by omega) (q + 1) (by omega)
            have hql2 : (S1.take q).length = q := by simp; omega
            obtain ⟨g6, cap6, e6, hj1, hg6, hj2, hcs6, hfz6⟩ := hun6.at (by rw [List.length_take]; omega)
            injection e6 with e6 hj3 hj4
            clear hj1 hj2 hj3 hj4
            injection e6 with e6
            injection e6 with e6
            subst e6
            have hq6 : q < (S1.take (q + 1)).length := by rw [List.length_take]; omega
            have hgq : (S1.take (q + 1))[q]'hq6 = S1[q] := by simp
            have u0 := hcs6 q hq6 0 (by decide)
            have u3 := hcs6 q hq6 3 (by decide)
            have u5 := hcs6 q hq6 5 (by decide)
            rw [hgq] at u0 u3 u5
            have u0' : w5.cell? ⟨g4, q * 6, none⟩ = some (.int .i64 S1[q].1.1) := u0
            have u3' : w5.cell? ⟨g4, q * 6 + 3, none⟩ = some (.int .i64 S1[q].1.2.2.2.1) := u3
            have u5' : w5.cell? ⟨g4, q * 6 + 5, none⟩ = some (.int .i64 (c9 : Int)) := by rw [← hc9]; exact u5
            have HST := hid (step_any S1[q].1 c9 g4 (q * 6) w5 (by omega) (by omega) hc9d hc9e hg6 u0' u3' u5' (hfz6 _))
            have hunb : Un (w5.setCell ⟨g4, q * 6 + 5, none⟩ (.int .i64 ((c9 : Int) + 1))) w.heap.size (.slice (some ⟨g4, 0, none⟩) (q + 1) cap4) (S1.take q ++ [(S1[q].1, (c9 : Int) + 1)]) := by
              have h9 := Un.bump (d := (c9 : Int) + 1) (P := S1.take q) (m := S1[q].1) (c := S1[q].2) (g := g4) (cap := cap4) (w := w5) (base := w.heap.size) (by rw [hql2, ← hsn]; exact hun6)
              rw [hql2] at h9
              exact h9
            have HUNB := hid hunb
            rw [hc9] at hck4
            have HCK5 := hid hck4
            have HLAST := hid (And.intro hc9b (And.intro hc9d (And.intro hc9e hc9c)))
            have hlt9 : (c9 : Int) < S1[q].1.2.1 := by omega
            have HLT9 := hid hlt9
            clear hcs6 hfz6 u0 u3 u5 u0' u3' u5' hun6 hunb hck4 hne hmem hsn hTe hc9 hc9b hc9d hc9e hlt9 hgq
            have hok6 : ∀ u ∈ S1.take q ++ [(S1[q].1, (c9 : Int) + 1)], OkU (i + 1) u := by
              intro u hu
              rcases List.mem_append.1 hu with hu | hu
              · obtain ⟨c8, k1, k2, k3, k4, k5⟩ := HOKN.out u (List.mem_of_mem_take hu)
                exact ⟨c8, k1, k2, by omega, k4, k5⟩
              · simp at hu
                subst hu
                have k := HLAST.out
                have k9 := HLT9.out
                exact ⟨c9 + 1, by simp, by simp; omega, by have := k.2.2.2; omega, k.2.1, k.2.2.1⟩
            have HOK6 := hid hok6
            have hlen6 : (S1.take q ++ [(S1[q].1, (c9 : Int) + 1)]).length = q + 1 := by simp; omega
            have HLEN6 := hid hlen6
            have hrev6 : (S1.take q ++ [(S1[q].1, (c9 : Int) + 1)]).reverse = (S1[q].1, (c9 : Int) + 1) :: (S1.take q).reverse := by simp
            rw [← hrev6] at HCK5
            clear hok6 hlen6 hrev6 HLAST HLT9 HOKN HT HREV HCK3 HW4 HUN4 HUN5
            generalize S1.take q ++ [(S1[q].1, (c9 : Int) + 1)] = S6 at *
            generalize S1[q].1 = mm at *
            have b1 : (0 : Int) ≤ (q : Int) := by omega
            have b2 : (q : Int) < (q : Int) + 1 := by omega
            have HQI := hid (show q ≤ i by omega)
            have hq9 : q ≤ 100000 := by omega
            clear hS1 hS1l hql2 hql hq6 hnc4 hk hsl hc9c HL4
            go_wp2_with (first
              | (go_at_call 22; refine HST.out.mono ?_; rintro e w' ⟨rfl, hw'⟩; subst w')
              | fail)
            go_roundw
            case rel =>
              refine ⟨i + 1, S6, _, _, cap4, by omega, by rw [HLEN6.out], rfl, by go_num, by rw [HLEN6.out]; exact HUNB.out, HB5.out.setCell (p := ⟨g4, q * 6 + 5, none⟩) HGB.out _, HCK5.out, by have := HLEN6.out; have := HQI.out; omega, HOK6.out⟩
            case measure => simp [intOf]; omega
    · have e : R = ((L.length : Int), 6) := by
        obtain rfl : i = L.length := by omega
        rw [← HCK.out, List.drop_length, ckI]
      subst e
      go_wp2
      all_goals go_ret2
      all_goals exact ⟨rfl, HBW.out⟩

end Go.Proofs.YtlcieebneclmpaaDoor

