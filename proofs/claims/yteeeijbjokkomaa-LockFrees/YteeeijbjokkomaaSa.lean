/- Those that wait, put in order by their times (one block of 20 at most): contracts of the library's insertion sort. -/
import Derived.Test.YteeeijbjokkomaaPl
set_option linter.unusedSimpArgs false
set_option linter.unusedVariables false
namespace Go.Proofs.Yteeeijbjokkomaa
open Go Go.RowKit

/-! ## the plain side -/

def SU (l : List WW) : Prop := l.Pairwise (fun x y => x.u ≤ y.u)
theorem insU_split (x : WW) : ∀ (P Q : List WW), (∀ y ∈ P, ¬ x.u < y.u) → (∀ y ∈ Q, x.u < y.u) → insU x (P ++ Q) = P ++ x :: Q
  | [], [], _, _ => rfl
  | [], y :: Q, _, h => by simp [insU, h y (by simp)]
  | y :: P, Q, h1, h2 => by
    simp only [List.cons_append, insU]
    rw [if_neg (h1 y (by simp)), insU_split x P Q (fun z hz => h1 z (by simp [hz])) h2]
theorem insU_mem (x : WW) : ∀ (l : List WW) (y : WW), y ∈ insU x l ↔ y = x ∨ y ∈ l
  | [], y => by simp [insU]
  | z :: l, y => by
    unfold insU
    split
    · simp
    · simp only [List.mem_cons, insU_mem x l y]
      constructor
      · rintro (h | h | h) <;> simp [h]
      · rintro (h | h | h) <;> simp [h]
theorem insU_len (x : WW) : ∀ (l : List WW), (insU x l).length = l.length + 1
  | [] => rfl
  | z :: l => by
    unfold insU
    split
    · rfl
    · simp [insU_len x l]
theorem insU_su (x : WW) : ∀ (l : List WW), SU l → SU (insU x l)
  | [], _ => by simp [insU, SU]
  | z :: l, h => by
    unfold SU at h
    rw [List.pairwise_cons] at h
    unfold insU
    split
    · rename_i hlt
      unfold SU
      rw [List.pairwise_cons]
      refine ⟨fun y hy => ?_, List.pairwise_cons.2 h⟩
      rcases List.mem_cons.1 hy with rfl | hy
      · omega
      · have := h.1 y hy; omega
    · rename_i hge
      unfold SU
      rw [List.pairwise_cons]
      refine ⟨fun y hy => ?_, insU_su x l h.2⟩
      rcases (insU_mem x l y).1 hy with rfl | hy
      · omega
      · exact h.1 y hy
theorem srt_snoc (l : List WW) (x : WW) : srt (l ++ [x]) = insU x (srt l) := by simp [srt]
theorem ex_snoc {α : Type} (l : List α) (h : l ≠ []) : ∃ l' x, l = l' ++ [x] := by
  rcases List.eq_nil_or_concat l with h1 | ⟨l', x, h1⟩
  · exact absurd h1 h
  · exact ⟨l', x, by simpa using h1⟩
theorem srt_all (l : List WW) : SU (srt l) ∧ (srt l).length = l.length ∧ ∀ y, y ∈ srt l ↔ y ∈ l := by
  have key : ∀ n, ∀ l : List WW, l.length = n → SU (srt l) ∧ (srt l).length = l.length ∧ ∀ y, y ∈ srt l ↔ y ∈ l := by
    intro n
    induction n with
    | zero => intro l hl; rw [List.length_eq_zero_iff.1 hl]; simp [srt, SU]
    | succ n ih =>
      intro l hl
      obtain ⟨l', x, rfl⟩ : ∃ l' x, l = l' ++ [x] := ex_snoc l (fun h => by simp [h] at hl)
      obtain ⟨h1, h2, h3⟩ := ih l' (by simpa using hl)
      rw [srt_snoc]
      refine ⟨insU_su x _ h1, by rw [insU_len, h2]; simp, fun y => ?_⟩
      rw [insU_mem, h3]
      simp only [List.mem_append, List.mem_singleton]
      exact Or.comm
  exact key l.length l rfl

theorem swap_at {α : Type} (P Q : List α) (y x : α) : ((P ++ y :: x :: Q).set (P.length + 1) y).set P.length x = P ++ x :: y :: Q := by
  simp [List.set_append]

/-! ## rows -/

/-- Four words of a row set. -/
def setW (w : World) (g i : Nat) (x : WW) : World := ((((w.setCell ⟨g, i * 4, none⟩ (.int .i64 x.t)).setCell ⟨g, i * 4 + 1, none⟩ (.int .i64 x.n)).setCell ⟨g, i * 4 + 2, none⟩ (.int .i64 x.m)).setCell ⟨g, i * 4 + 3, none⟩ (.int .i64 x.u))
theorem wC_set : ∀ (L : List WW) (i : Nat) (x : WW), i < L.length → (((((L.flatMap wC).set (i * 4) (.int .i64 x.t)).set (i * 4 + 1) (.int .i64 x.n)).set (i * 4 + 2) (.int .i64 x.m)).set (i * 4 + 3) (.int .i64 x.u)) = (L.set i x).flatMap wC
  | [], i, x, h => by simp at h
  | y :: l, 0, x, _ => by simp [wC]
  | y :: l, i + 1, x, h => by
    have ih := wC_set l i x (by simpa using h)
    have e0 : (i + 1) * 4 = i * 4 + 1 + 1 + 1 + 1 := by omega
    have e1 : (i + 1) * 4 + 1 = i * 4 + 1 + 1 + 1 + 1 + 1 := by omega
    have e2 : (i + 1) * 4 + 2 = i * 4 + 2 + 1 + 1 + 1 + 1 := by omega
    have e3 : (i + 1) * 4 + 3 = i * 4 + 3 + 1 + 1 + 1 + 1 := by omega
    rw [e1, e2, e3, e0]
    simp only [wC, List.flatMap_cons, List.cons_append, List.nil_append, List.set_cons_succ] at *
    rw [ih]
theorem own_setW {w : World} {base g cap : Nat} {L : List WW} (h : w.ownsRow base 89 4 (.slice (some ⟨g, 0, none⟩) L.length cap) L.length (L.flatMap wC)) {i : Nat} (hi : i < L.length) (x : WW) :
    (setW w g i x).ownsRow base 89 4 (.slice (some ⟨g, 0, none⟩) L.length cap) L.length ((L.set i x).flatMap wC) := by
  rw [← wC_set L i x hi]
  unfold setW
  exact own_set (own_set (own_set (own_set h (by omega) _) (by omega) _) (by omega) _) (by omega) _
theorem ex_setW {w w' : World} {g i : Nat} {x : WW} (h : Ex [g] w w') : Ex [g] w (setW w' g i x) := by
  unfold setW
  exact Ex.set (Ex.set (Ex.set (Ex.set h (.inl (by simp)) _ _) (.inl (by simp)) _ _) (.inl (by simp)) _ _) (.inl (by simp)) _ _

theorem own_swap {w : World} {g cap N : Nat} {P Q D : List WW} {x y : WW} (h : w.ownsRow 0 89 4 (.slice (some ⟨g, 0, none⟩) N cap) N ((P ++ [y] ++ x :: Q ++ D).flatMap wC)) (hN : (P ++ [y] ++ x :: Q ++ D).length = N) {q : Nat} (hq : P.length = q) :
    (setW (setW w g (q + 1) y) g q x).ownsRow 0 89 4 (.slice (some ⟨g, 0, none⟩) N cap) N ((P ++ x :: (y :: Q) ++ D).flatMap wC) := by
  subst hq hN
  have hl : (P ++ [y] ++ x :: Q ++ D).length = P.length + 2 + Q.length + D.length := by simp; omega
  have h1 := own_setW h (i := P.length + 1) (by omega) y
  have hl2 : ((P ++ [y] ++ x :: Q ++ D).set (P.length + 1) y).length = (P ++ [y] ++ x :: Q ++ D).length := List.length_set
  rw [← hl2] at h1
  have h2 := own_setW h1 (i := P.length) (by omega) x
  rw [hl2] at h2
  have e : ((P ++ [y] ++ x :: Q ++ D).set (P.length + 1) y).set P.length x = P ++ x :: (y :: Q) ++ D := by
    have e1 : P ++ [y] ++ x :: Q ++ D = P ++ y :: x :: (Q ++ D) := by simp
    rw [e1, swap_at]
    simp
  rw [e] at h2
  exact h2
theorem cmpR_neg (a b : Int) : decide (cmpR a b < 0) = decide (a < b) := by
  unfold cmpR
  by_cases h : a < b
  · simp [h]
  · by_cases h2 : b < a
    · simp [h, h2]
    · simp [h, h2]

set_option maxRecDepth 100000 in
set_option maxHeartbeats 2000000 in
/-- The whole of a row that is no longer than 1000. -/
theorem isW_any {w : World} {g cap : Nat} (L : List WW) (h : w.ownsRow 0 89 4 (.slice (some ⟨g, 0, none⟩) L.length cap) L.length (L.flatMap wC)) (hm : L.length ≤ 1000) :
    Calls Try.prog 70 #[.slice (some ⟨g, 0, none⟩) L.length cap, .int .i64 0, .int .i64 L.length, .func (.func 47) #[] #[]] w fun e w' => e = .returned (.tuple #[]) ∧ w'.ownsRow 0 89 4 (.slice (some ⟨g, 0, none⟩) L.length cap) L.length ((srt L).flatMap wC) ∧ Ex [g] w w' := by
  obtain ⟨N, hN⟩ : ∃ N, L.length = N := ⟨_, rfl⟩
  have HO := hid h
  rw [hN] at HO hm ⊢
  have HN := hid hN
  clear h hN
  go_enter Try.func70, Try.ntmps70
  go_wp2
  go_loopw [8, 9] (fun j _ wr => ∃ (k : Nat), 1 ≤ k ∧ (k ≤ N ∨ k = 1) ∧ j = .int .i64 k ∧ wr.ownsRow 0 89 4 (.slice (some ⟨g, 0, none⟩) N cap) N ((srt (L.take k) ++ L.drop k).flatMap wC) ∧ Ex [g] w wr) (fun j _ _ => N - (intOf j).toNat)
  case atStart => exact ⟨1, by omega, .inr rfl, rfl, by rw [show srt (L.take 1) ++ L.drop 1 = L from by cases L <;> rfl]; exact HO.out, Ex.refl _ _⟩
  case round =>
    obtain ⟨k, hk1, hk, rfl, ho, hx⟩ := hrel
    by_cases h4 : k < N
    · have h4' : (k : Int) < (N : Int) := by omega
      have h4L : k < L.length := by rw [HN.out]; exact h4
      have HO1 := hid ho
      have HX1 := hid hx
      have hsrt := srt_all (L.take k)
      have HSU := hid hsrt.1
      have hsl : (srt (L.take k)).length = k := by rw [hsrt.2.1, List.length_take]; omega
      have HSL := hid hsl
      have HTK := hid (show srt (L.take (k + 1)) = insU L[k] (srt (L.take k)) by rw [List.take_succ_eq_append_getElem h4L, srt_snoc])
      have HDR := hid (show L.drop k = L[k] :: L.drop (k + 1) from List.drop_eq_getElem_cons h4L)
      obtain ⟨x, hxx⟩ : ∃ x, L[k] = x := ⟨_, rfl⟩
      rw [hxx] at HTK HDR
      clear ho hx hsrt hsl hxx
      obtain ⟨S, hS⟩ : ∃ S, srt (L.take k) = S := ⟨_, rfl⟩
      rw [hS] at HO1 HSU HSL HTK
      clear hS
      go_wp2
      go_loopw [9] (fun j ws => ∃ (P Q : List WW), j = .int .i64 (P.length : Nat) ∧ S = P ++ Q ∧ (∀ y ∈ Q, x.u < y.u) ∧ ws.ownsRow 0 89 4 (.slice (some ⟨g, 0, none⟩) N cap) N ((P ++ x :: Q ++ L.drop (k + 1)).flatMap wC) ∧ Ex [g] w ws) (fun j _ => (intOf j).toNat)
      case atStart => exact ⟨S, [], by rw [HSL.out], by simp, by simp, by rw [HDR.out] at HO1; simpa using HO1.out, HX1.out⟩
      case round =>
        obtain ⟨P, Q, rfl, hS, hQ, ho, hx⟩ := hrel
        have HO2 := hid ho
        have HX2 := hid hx
        have HQ := hid hQ
        have HS := hid hS
        have hPl : P.length + Q.length = k := by rw [← HSL.out, hS]; simp
        clear ho hx hQ hS
        rcases List.eq_nil_or_concat P with rfl | ⟨P', y, hP⟩
        · have HR := hid (show srt (L.take (k + 1)) = x :: Q by rw [HTK.out, HS.out]; exact insU_split x [] Q (by simp) HQ.out)
          simp only [List.length_nil, Int.natCast_zero]
          go_wp2
          refine wp_region_W (fun _ => True) (fun j => 1) (by kernel_rfl) ?_
          refine wpAnyW_take (i := 0) (oi := { dst := some 18, op := Op.move (Operand.tmp 9), type := 3, pos := "zsortanyfunc.go:12", after := #[], guard := none }) (v := ?_) rfl (by kernel_rfl) (by kernel_rfl) (by kernel_rfl) (by kernel_rfl) (fun _ _ _ h => h) (Or.inl ⟨by rfl, fun w _ => ?_⟩) ?_
          rotate_left
          · (go_simp; first | done | with_reducible rfl)
          try simp only [Act.put, List.setIfInBounds_toArray, List.set_cons_zero, List.set_cons_succ]
          refine wpAnyW_take (i := 1) (oi := { dst := some 19, op := Op.move (Operand.tmp 1), type := 3, pos := "zsortanyfunc.go:12", after := #[], guard := none }) (v := ?_) rfl (by kernel_rfl) (by kernel_rfl) (by kernel_rfl) (by kernel_rfl) (fun _ _ _ h => h) (Or.inl ⟨by rfl, fun w _ => ?_⟩) ?_
          rotate_left
          · (go_simp; first | done | with_reducible rfl)
          try simp only [Act.put, List.setIfInBounds_toArray, List.set_cons_zero, List.set_cons_succ]
          refine wpAnyW_take (i := 2) (oi := { dst := some 20, op := Op.binOp BinOp.gtr 3 (Operand.tmp 18) (Operand.tmp 19) 3, type := 4, pos := "zsortanyfunc.go:12", after := #[{ on := 0, ground := Ground.data }, { on := 1, ground := Ground.data }], guard := none }) (v := ?_) rfl (by kernel_rfl) (by kernel_rfl) (by kernel_rfl) (by kernel_rfl) (fun _ _ _ h => h) (Or.inl ⟨by rfl, fun w _ => ?_⟩) ?_
          rotate_left
          · (go_simp; first | done | with_reducible rfl)
          try simp only [Act.put, List.setIfInBounds_toArray, List.set_cons_zero, List.set_cons_succ]
          refine wpAnyW_take (i := 3) (oi := { dst := some 21, op := Op.move (Operand.tmp 20), type := 4, pos := "zsortanyfunc.go:12", after := #[{ on := 2, ground := Ground.data }], guard := none }) (v := ?_) rfl (by kernel_rfl) (by kernel_rfl) (by kernel_rfl) (by kernel_rfl) (fun _ _ _ h => h) (Or.inl ⟨by rfl, fun w _ => ?_⟩) ?_
          rotate_left
          · (go_simp; first | done | with_reducible rfl)
          try simp only [Act.put, List.setIfInBounds_toArray, List.set_cons_zero, List.set_cons_succ]
          refine wpAnyW_take (i := 4) (oi := { dst := some 22, op := Op.move (Operand.tmp 3), type := 96, pos := "zsortanyfunc.go:12", after := #[{ on := 3, ground := Ground.guard }], guard := some (3, true) }) (v := undef) rfl (by kernel_rfl) (by kernel_rfl) (by kernel_rfl) (by kernel_rfl) (fun _ _ _ h => h) (Or.inr ⟨by rfl, rfl⟩) ?_
          try simp only [Act.put, List.setIfInBounds_toArray, List.set_cons_zero, List.set_cons_succ]
          refine wpAnyW_take (i := 5) (oi := { dst := some 23, op := Op.move (Operand.tmp 0), type := 62, pos := "zsortanyfunc.go:12", after := #[{ on := 3, ground := Ground.guard }], guard := some (3, true) }) (v := undef) rfl (by kernel_rfl) (by kernel_rfl) (by kernel_rfl) (by kernel_rfl) (fun _ _ _ h => h) (Or.inr ⟨by rfl, rfl⟩) ?_
          try simp only [Act.put, List.setIfInBounds_toArray, List.set_cons_zero, List.set_cons_succ]
          refine wpAnyW_take (i := 6) (oi := { dst := some 24, op := Op.move (Operand.tmp 9), type := 3, pos := "zsortanyfunc.go:12", after := #[{ on := 3, ground := Ground.guard }], guard := some (3, true) }) (v := undef) rfl (by kernel_rfl) (by kernel_rfl) (by kernel_rfl) (by kernel_rfl) (fun _ _ _ h => h) (Or.inr ⟨by rfl, rfl⟩) ?_
          try simp only [Act.put, List.setIfInBounds_toArray, List.set_cons_zero, List.set_cons_succ]
          refine wpAnyW_take (i := 7) (oi := { dst := some 25, op := Op.indexAddr 62 (Operand.tmp 23) (Operand.tmp 24), type := 0, pos := "zsortanyfunc.go:12", after := #[{ on := 5, ground := Ground.data }, { on := 6, ground := Ground.data }, { on := 3, ground := Ground.guard }], guard := some (3, true) }) (v := undef) rfl (by kernel_rfl) (by kernel_rfl) (by kernel_rfl) (by kernel_rfl) (fun _ _ _ h => h) (Or.inr ⟨by rfl, rfl⟩) ?_
          try simp only [Act.put, List.setIfInBounds_toArray, List.set_cons_zero, List.set_cons_succ]
          refine wpAnyW_take (i := 8) (oi := { dst := some 26, op := Op.load 89 (Operand.tmp 25), type := 89, pos := "zsortanyfunc.go:12", after := #[{ on := 7, ground := Ground.data }, { on := 3, ground := Ground.guard }], guard := some (3, true) }) (v := undef) rfl (by kernel_rfl) (by kernel_rfl) (by kernel_rfl) (by kernel_rfl) (fun _ _ _ h => h) (Or.inr ⟨by rfl, rfl⟩) ?_
          try simp only [Act.put, List.setIfInBounds_toArray, List.set_cons_zero, List.set_cons_succ]
          refine wpAnyW_take (i := 9) (oi := { dst := some 27, op := Op.move (Operand.tmp 0), type := 62, pos := "zsortanyfunc.go:12", after := #[{ on := 3, ground := Ground.guard }], guard := some (3, true) }) (v := undef) rfl (by kernel_rfl) (by kernel_rfl) (by kernel_rfl) (by kernel_rfl) (fun _ _ _ h => h) (Or.inr ⟨by rfl, rfl⟩) ?_
          try simp only [Act.put, List.setIfInBounds_toArray, List.set_cons_zero, List.set_cons_succ]
          refine wpAnyW_take (i := 10) (oi := { dst := some 28, op := Op.move (Operand.tmp 9), type := 3, pos := "zsortanyfunc.go:12", after := #[{ on := 3, ground := Ground.guard }], guard := some (3, true) }) (v := undef) rfl (by kernel_rfl) (by kernel_rfl) (by kernel_rfl) (by kernel_rfl) (fun _ _ _ h => h) (Or.inr ⟨by rfl, rfl⟩) ?_
          try simp only [Act.put, List.setIfInBounds_toArray, List.set_cons_zero, List.set_cons_succ]
          refine wpAnyW_take (i := 11) (oi := { dst := some 29, op := Op.binOp BinOp.sub 3 (Operand.tmp 28) (Operand.const (Value.int IntKind.i64 1)) 3, type := 3, pos := "zsortanyfunc.go:12", after := #[{ on := 10, ground := Ground.data }, { on := 3, ground := Ground.guard }], guard := some (3, true) }) (v := undef) rfl (by kernel_rfl) (by kernel_rfl) (by kernel_rfl) (by kernel_rfl) (fun _ _ _ h => h) (Or.inr ⟨by rfl, rfl⟩) ?_
          try simp only [Act.put, List.setIfInBounds_toArray, List.set_cons_zero, List.set_cons_succ]
          refine wpAnyW_take (i := 12) (oi := { dst := some 30, op := Op.indexAddr 62 (Operand.tmp 27) (Operand.tmp 29), type := 0, pos := "zsortanyfunc.go:12", after := #[{ on := 9, ground := Ground.data }, { on := 11, ground := Ground.data }, { on := 3, ground := Ground.guard }], guard := some (3, true) }) (v := undef) rfl (by kernel_rfl) (by kernel_rfl) (by kernel_rfl) (by kernel_rfl) (fun _ _ _ h => h) (Or.inr ⟨by rfl, rfl⟩) ?_
          try simp only [Act.put, List.setIfInBounds_toArray, List.set_cons_zero, List.set_cons_succ]
          refine wpAnyW_take (i := 13) (oi := { dst := some 31, op := Op.load 89 (Operand.tmp 30), type := 89, pos := "zsortanyfunc.go:12", after := #[{ on := 12, ground := Ground.data }, { on := 3, ground := Ground.guard }], guard := some (3, true) }) (v := undef) rfl (by kernel_rfl) (by kernel_rfl) (by kernel_rfl) (by kernel_rfl) (fun _ _ _ h => h) (Or.inr ⟨by rfl, rfl⟩) ?_
          try simp only [Act.put, List.setIfInBounds_toArray, List.set_cons_zero, List.set_cons_succ]
          refine wpAnyW_take (i := 14) (oi := { dst := some 32, op := Op.call { callee := Callee.value (Operand.tmp 22), args := #[Operand.tmp 26, Operand.tmp 31], argTypes := #[89, 89] }, type := 3, pos := "zsortanyfunc.go:12", after := #[{ on := 4, ground := Ground.data }, { on := 8, ground := Ground.data }, { on := 13, ground := Ground.data }, { on := 3, ground := Ground.chain }, { on := 3, ground := Ground.guard }], guard := some (3, true) }) (v := undef) rfl (by kernel_rfl) (by kernel_rfl) (by kernel_rfl) (by kernel_rfl) (fun _ _ _ h => h) (Or.inr ⟨by rfl, rfl⟩) ?_
          try simp only [Act.put, List.setIfInBounds_toArray, List.set_cons_zero, List.set_cons_succ]
          refine wpAnyW_take (i := 15) (oi := { dst := some 33, op := Op.binOp BinOp.lss 3 (Operand.tmp 32) (Operand.const (Value.int IntKind.i64 0)) 3, type := 4, pos := "zsortanyfunc.go:12", after := #[{ on := 14, ground := Ground.data }, { on := 3, ground := Ground.guard }], guard := some (3, true) }) (v := undef) rfl (by kernel_rfl) (by kernel_rfl) (by kernel_rfl) (by kernel_rfl) (fun _ _ _ h => h) (Or.inr ⟨by rfl, rfl⟩) ?_
          try simp only [Act.put, List.setIfInBounds_toArray, List.set_cons_zero, List.set_cons_succ]
          refine wpAnyW_take (i := 16) (oi := { dst := some 34, op := Op.pick (Operand.tmp 21) (Operand.tmp 33) (Operand.const (Value.bool false)), type := 4, pos := "zsortanyfunc.go:12", after := #[{ on := 3, ground := Ground.data }, { on := 15, ground := Ground.data }], guard := none }) (v := ?_) rfl (by kernel_rfl) (by kernel_rfl) (by kernel_rfl) (by kernel_rfl) (fun _ _ _ h => h) (Or.inl ⟨by rfl, fun w _ => ?_⟩) ?_
          rotate_left
          · (go_simp; first | done | with_reducible rfl)
          try simp only [Act.put, List.setIfInBounds_toArray, List.set_cons_zero, List.set_cons_succ]
          refine wpAnyW_done (by kernel_rfl) ?_ _
          go_wp2
          go_roundw
          case rel => exact ⟨k + 1, by omega, .inl (by omega), by go_num, by rw [HR.out]; exact own_bw (by simpa using HO2.out) (Bw.drew (Bw.refl _)), HX2.out.drew⟩
          case measure => simp [intOf]; omega
        · obtain rfl : P = P' ++ [y] := by simpa using hP
          clear hP
          have hl1 : (P' ++ [y]).length = P'.length + 1 := by simp
          have hPN : P'.length + 1 < N := by simp at hPl; omega
          rw [hl1]
          have HLL := hid (show (P' ++ [y] ++ x :: Q ++ L.drop (k + 1)).length = N by simp only [List.length_append, List.length_cons, List.length_nil, List.length_drop, HN.out]; simp at hPl; omega)
          have ho2 := HO2.out
          rw [← HLL.out] at ho2
          obtain ⟨g1, e1, _, hlg, hcx, hfz⟩ := own_elem wC_len ho2 (i := P'.length + 1) (by rw [HLL.out]; omega)
          cases e1
          obtain ⟨g2, e2, _, _, hcy, _⟩ := own_elem wC_len ho2 (i := P'.length) (by rw [HLL.out]; omega)
          cases e2
          have ex : (P' ++ [y] ++ x :: Q ++ L.drop (k + 1))[P'.length + 1]'(by rw [HLL.out]; omega) = x := by simp
          have ey : (P' ++ [y] ++ x :: Q ++ L.drop (k + 1))[P'.length]'(by rw [HLL.out]; omega) = y := by simp
          rw [ex] at hcx
          rw [ey] at hcy
          have HCX := hid hcx
          have HCY := hid hcy
          have HFZ := hid hfz
          clear ho2 hcx hcy ex ey hfz hl1
          obtain ⟨q, hql⟩ : ∃ q, P'.length = q := ⟨_, rfl⟩
          rw [hql] at HCX HCY hPN
          rw [hql]
          have HQL := hid hql
          have i1 : (0 : Int) ≤ (q : Int) + 1 := by omega
          have i2 : (q : Int) + 1 < (N : Int) := by omega
          have i3 : (q : Int) < (N : Int) := by omega
          have i4 : (0 : Int) < (q : Int) + 1 := by omega
          have i5 : q ≤ 1000 := by omega
          have i6 : (q : Int) + 1 - 1 = (q : Int) := by omega
          have i7 : ((q : Int) + 1).toNat = q + 1 := by omega
          have i8 : IntKind.i64.wrap (q : Int) = (q : Int) := by rw [IntKind.wrap_i64]; omega
          clear hql hPl
          obtain ⟨x1, x2, x3, x4⟩ := x
          obtain ⟨y1, y2, y3, y4⟩ := y
          have HSS := hid (show ∀ W', Bw wr W' → (W'.cell? ⟨g, (q + 1) * 4, none⟩ = some (.int .i64 x1) ∧ W'.cell? ⟨g, (q + 1) * 4 + 1, none⟩ = some (.int .i64 x2) ∧ W'.cell? ⟨g, (q + 1) * 4 + 2, none⟩ = some (.int .i64 x3) ∧ W'.cell? ⟨g, (q + 1) * 4 + 3, none⟩ = some (.int .i64 x4) ∧ W'.cell? ⟨g, q * 4, none⟩ = some (.int .i64 y1) ∧ W'.cell? ⟨g, q * 4 + 1, none⟩ = some (.int .i64 y2) ∧ W'.cell? ⟨g, q * 4 + 2, none⟩ = some (.int .i64 y3) ∧ W'.cell? ⟨g, q * 4 + 3, none⟩ = some (.int .i64 y4)) from fun W' hb => (by
            have hq := fun j (hj : j < 4) => (World.cell?_of_block (w := wr) (w' := W') (a := ⟨g, (q + 1) * 4 + j, none⟩) (hb.block g hlg)).trans (HCX.out j hj)
            have hr := fun j (hj : j < 4) => (World.cell?_of_block (w := wr) (w' := W') (a := ⟨g, q * 4 + j, none⟩) (hb.block g hlg)).trans (HCY.out j hj)
            exact ⟨hq 0 (by decide), hq 1 (by decide), hq 2 (by decide), hq 3 (by decide), hr 0 (by decide), hr 1 (by decide), hr 2 (by decide), hr 3 (by decide)⟩))
          have hcm := fun w => cmpT_any ⟨x1, x2, x3, x4⟩ ⟨y1, y2, y3, y4⟩ w
          simp only at hcm
          by_cases hlt : x4 < y4
          · have e5 : cmpR x4 y4 = -1 := by unfold cmpR; rw [if_pos hlt]
            rw [e5] at hcm
            clear e5
            go_wp2
            refine wp_region_W (fun w' => w'.cell? ⟨g, (q + 1) * 4, none⟩ = some (.int .i64 x1) ∧ w'.cell? ⟨g, (q + 1) * 4 + 1, none⟩ = some (.int .i64 x2) ∧ w'.cell? ⟨g, (q + 1) * 4 + 2, none⟩ = some (.int .i64 x3) ∧ w'.cell? ⟨g, (q + 1) * 4 + 3, none⟩ = some (.int .i64 x4) ∧ w'.cell? ⟨g, q * 4, none⟩ = some (.int .i64 y1) ∧ w'.cell? ⟨g, q * 4 + 1, none⟩ = some (.int .i64 y2) ∧ w'.cell? ⟨g, q * 4 + 2, none⟩ = some (.int .i64 y3) ∧ w'.cell? ⟨g, q * 4 + 3, none⟩ = some (.int .i64 y4)) (fun j => if j == 14 then 0 else 1) (by kernel_rfl) ?_
            refine wpAnyW_take (i := 0) (oi := { dst := some 18, op := Op.move (Operand.tmp 9), type := 3, pos := "zsortanyfunc.go:12", after := #[], guard := none }) (v := ?_) rfl (by kernel_rfl) (by kernel_rfl) (by kernel_rfl) (by kernel_rfl) (fun _ _ _ h => h) (Or.inl ⟨by rfl, fun w _ => ?_⟩) ?_
            rotate_left
            · (go_simp; first | done | with_reducible rfl)
            try simp only [Act.put, List.setIfInBounds_toArray, List.set_cons_zero, List.set_cons_succ]
            refine wpAnyW_take (i := 1) (oi := { dst := some 19, op := Op.move (Operand.tmp 1), type := 3, pos := "zsortanyfunc.go:12", after := #[], guard := none }) (v := ?_) rfl (by kernel_rfl) (by kernel_rfl) (by kernel_rfl) (by kernel_rfl) (fun _ _ _ h => h) (Or.inl ⟨by rfl, fun w _ => ?_⟩) ?_
            rotate_left
            · (go_simp; first | done | with_reducible rfl)
            try simp only [Act.put, List.setIfInBounds_toArray, List.set_cons_zero, List.set_cons_succ]
            refine wpAnyW_take (i := 2) (oi := { dst := some 20, op := Op.binOp BinOp.gtr 3 (Operand.tmp 18) (Operand.tmp 19) 3, type := 4, pos := "zsortanyfunc.go:12", after := #[{ on := 0, ground := Ground.data }, { on := 1, ground := Ground.data }], guard := none }) (v := ?_) rfl (by kernel_rfl) (by kernel_rfl) (by kernel_rfl) (by kernel_rfl) (fun _ _ _ h => h) (Or.inl ⟨by rfl, fun w _ => ?_⟩) ?_
            rotate_left
            · (go_simp; first | done | with_reducible rfl)
            try simp only [Act.put, List.setIfInBounds_toArray, List.set_cons_zero, List.set_cons_succ]
            refine wpAnyW_take (i := 3) (oi := { dst := some 21, op := Op.move (Operand.tmp 20), type := 4, pos := "zsortanyfunc.go:12", after := #[{ on := 2, ground := Ground.data }], guard := none }) (v := ?_) rfl (by kernel_rfl) (by kernel_rfl) (by kernel_rfl) (by kernel_rfl) (fun _ _ _ h => h) (Or.inl ⟨by rfl, fun w _ => ?_⟩) ?_
            rotate_left
            · (go_simp; first | done | with_reducible rfl)
            try simp only [Act.put, List.setIfInBounds_toArray, List.set_cons_zero, List.set_cons_succ]
            refine wpAnyW_take (i := 4) (oi := { dst := some 22, op := Op.move (Operand.tmp 3), type := 96, pos := "zsortanyfunc.go:12", after := #[{ on := 3, ground := Ground.guard }], guard := some (3, true) }) (v := ?_) rfl (by kernel_rfl) (by kernel_rfl) (by kernel_rfl) (by kernel_rfl) (fun _ _ _ h => h) (Or.inl ⟨by rfl, fun w _ => ?_⟩) ?_
            rotate_left
            · (go_simp; first | done | with_reducible rfl)
            try simp only [Act.put, List.setIfInBounds_toArray, List.set_cons_zero, List.set_cons_succ]
            refine wpAnyW_take (i := 5) (oi := { dst := some 23, op := Op.move (Operand.tmp 0), type := 62, pos := "zsortanyfunc.go:12", after := #[{ on := 3, ground := Ground.guard }], guard := some (3, true) }) (v := ?_) rfl (by kernel_rfl) (by kernel_rfl) (by kernel_rfl) (by kernel_rfl) (fun _ _ _ h => h) (Or.inl ⟨by rfl, fun w _ => ?_⟩) ?_
            rotate_left
            · (go_simp; first | done | with_reducible rfl)
            try simp only [Act.put, List.setIfInBounds_toArray, List.set_cons_zero, List.set_cons_succ]
            refine wpAnyW_take (i := 6) (oi := { dst := some 24, op := Op.move (Operand.tmp 9), type := 3, pos := "zsortanyfunc.go:12", after := #[{ on := 3, ground := Ground.guard }], guard := some (3, true) }) (v := ?_) rfl (by kernel_rfl) (by kernel_rfl) (by kernel_rfl) (by kernel_rfl) (fun _ _ _ h => h) (Or.inl ⟨by rfl, fun w _ => ?_⟩) ?_
            rotate_left
            · (go_simp; first | done | with_reducible rfl)
            try simp only [Act.put, List.setIfInBounds_toArray, List.set_cons_zero, List.set_cons_succ]
            refine wpAnyW_take (i := 7) (oi := { dst := some 25, op := Op.indexAddr 62 (Operand.tmp 23) (Operand.tmp 24), type := 0, pos := "zsortanyfunc.go:12", after := #[{ on := 5, ground := Ground.data }, { on := 6, ground := Ground.data }, { on := 3, ground := Ground.guard }], guard := some (3, true) }) (v := ?_) rfl (by kernel_rfl) (by kernel_rfl) (by kernel_rfl) (by kernel_rfl) (fun _ _ _ h => h) (Or.inl ⟨by rfl, fun w _ => ?_⟩) ?_
            rotate_left
            · (go_simp; first | done | with_reducible rfl)
            try simp only [Act.put, List.setIfInBounds_toArray, List.set_cons_zero, List.set_cons_succ]
            refine wpAnyW_load (i := 8) (oi := { dst := some 26, op := Op.load 89 (Operand.tmp 25), type := 89, pos := "zsortanyfunc.go:12", after := #[{ on := 7, ground := Ground.data }, { on := 3, ground := Ground.guard }], guard := some (3, true) }) (v := ?_) rfl (by kernel_rfl) (by kernel_rfl) (by kernel_rfl) (by kernel_rfl) (by kernel_rfl) (fun _ _ _ h => h) (Or.inl ⟨by rfl, fun w hS => ?_⟩) (HSS.out _ (Bw.drew (Bw.refl _))) ?_
            rotate_left
            · (obtain ⟨s1, s2, s3, s4, s5, s6, s7, s8⟩ := hS; go_simp; first | done | with_reducible rfl)
            try simp only [Act.put, List.setIfInBounds_toArray, List.set_cons_zero, List.set_cons_succ]
            refine wpAnyW_take (i := 9) (oi := { dst := some 27, op := Op.move (Operand.tmp 0), type := 62, pos := "zsortanyfunc.go:12", after := #[{ on := 3, ground := Ground.guard }], guard := some (3, true) }) (v := ?_) rfl (by kernel_rfl) (by kernel_rfl) (by kernel_rfl) (by kernel_rfl) (fun _ _ _ h => h) (Or.inl ⟨by rfl, fun w _ => ?_⟩) ?_
            rotate_left
            · (go_simp; first | done | with_reducible rfl)
            try simp only [Act.put, List.setIfInBounds_toArray, List.set_cons_zero, List.set_cons_succ]
            refine wpAnyW_take (i := 10) (oi := { dst := some 28, op := Op.move (Operand.tmp 9), type := 3, pos := "zsortanyfunc.go:12", after := #[{ on := 3, ground := Ground.guard }], guard := some (3, true) }) (v := ?_) rfl (by kernel_rfl) (by kernel_rfl) (by kernel_rfl) (by kernel_rfl) (fun _ _ _ h => h) (Or.inl ⟨by rfl, fun w _ => ?_⟩) ?_
            rotate_left
            · (go_simp; first | done | with_reducible rfl)
            try simp only [Act.put, List.setIfInBounds_toArray, List.set_cons_zero, List.set_cons_succ]
            refine wpAnyW_take (i := 11) (oi := { dst := some 29, op := Op.binOp BinOp.sub 3 (Operand.tmp 28) (Operand.const (Value.int IntKind.i64 1)) 3, type := 3, pos := "zsortanyfunc.go:12", after := #[{ on := 10, ground := Ground.data }, { on := 3, ground := Ground.guard }], guard := some (3, true) }) (v := ?_) rfl (by kernel_rfl) (by kernel_rfl) (by kernel_rfl) (by kernel_rfl) (fun _ _ _ h => h) (Or.inl ⟨by rfl, fun w _ => ?_⟩) ?_
            rotate_left
            · (go_simp; first | done | with_reducible rfl)
            try simp only [Act.put, List.setIfInBounds_toArray, List.set_cons_zero, List.set_cons_succ]
            refine wpAnyW_take (i := 12) (oi := { dst := some 30, op := Op.indexAddr 62 (Operand.tmp 27) (Operand.tmp 29), type := 0, pos := "zsortanyfunc.go:12", after := #[{ on := 9, ground := Ground.data }, { on := 11, ground := Ground.data }, { on := 3, ground := Ground.guard }], guard := some (3, true) }) (v := ?_) rfl (by kernel_rfl) (by kernel_rfl) (by kernel_rfl) (by kernel_rfl) (fun _ _ _ h => h) (Or.inl ⟨by rfl, fun w _ => ?_⟩) ?_
            rotate_left
            · (go_simp; first | done | with_reducible rfl)
            try simp only [Act.put, List.setIfInBounds_toArray, List.set_cons_zero, List.set_cons_succ]
            refine wpAnyW_load (i := 13) (oi := { dst := some 31, op := Op.load 89 (Operand.tmp 30), type := 89, pos := "zsortanyfunc.go:12", after := #[{ on := 12, ground := Ground.data }, { on := 3, ground := Ground.guard }], guard := some (3, true) }) (v := ?_) rfl (by kernel_rfl) (by kernel_rfl) (by kernel_rfl) (by kernel_rfl) (by kernel_rfl) (fun _ _ _ h => h) (Or.inl ⟨by rfl, fun w hS => ?_⟩) (HSS.out _ (Bw.drew (Bw.refl _))) ?_
            rotate_left
            · (obtain ⟨s1, s2, s3, s4, s5, s6, s7, s8⟩ := hS; go_simp; first | done | with_reducible rfl)
            try simp only [Act.put, List.setIfInBounds_toArray, List.set_cons_zero, List.set_cons_succ]
            refine wpAnyW_ready (rs := [14]) (by kernel_rfl) (by simp) ?_
            refine (AllReadyW.cons (o := { dst := some 32, op := Op.call { callee := Callee.value (Operand.tmp 22), args := #[Operand.tmp 26, Operand.tmp 31], argTypes := #[89, 89] }, type := 3, pos := "zsortanyfunc.go:12", after := #[{ on := 4, ground := Ground.data }, { on := 8, ground := Ground.data }, { on := 13, ground := Ground.data }, { on := 3, ground := Ground.chain }, { on := 3, ground := Ground.guard }], guard := some (3, true) }) rfl (fun K hK => ?_) AllReadyW.nil)
            go_simp
            refine (hcm _).mono ?_
            rintro e w2 ⟨rfl, hl⟩
            have HB2 := hid (Bw.trans (Bw.drew (Bw.refl wr)) hl.bw)
            clear hl
            refine hK.out _ _ (HSS.out _ HB2.out) ?_
            clear hK K
            try simp only [Act.put, List.setIfInBounds_toArray, List.set_cons_zero, List.set_cons_succ]
            refine wpAnyW_take (i := 15) (oi := { dst := some 33, op := Op.binOp BinOp.lss 3 (Operand.tmp 32) (Operand.const (Value.int IntKind.i64 0)) 3, type := 4, pos := "zsortanyfunc.go:12", after := #[{ on := 14, ground := Ground.data }, { on := 3, ground := Ground.guard }], guard := some (3, true) }) (v := ?_) rfl (by kernel_rfl) (by kernel_rfl) (by kernel_rfl) (by kernel_rfl) (fun _ _ _ h => h) (Or.inl ⟨by rfl, fun w _ => ?_⟩) ?_
            rotate_left
            · (go_simp; first | done | with_reducible rfl)
            try simp only [Act.put, List.setIfInBounds_toArray, List.set_cons_zero, List.set_cons_succ]
            refine wpAnyW_take (i := 16) (oi := { dst := some 34, op := Op.pick (Operand.tmp 21) (Operand.tmp 33) (Operand.const (Value.bool false)), type := 4, pos := "zsortanyfunc.go:12", after := #[{ on := 3, ground := Ground.data }, { on := 15, ground := Ground.data }], guard := none }) (v := ?_) rfl (by kernel_rfl) (by kernel_rfl) (by kernel_rfl) (by kernel_rfl) (fun _ _ _ h => h) (Or.inl ⟨by rfl, fun w _ => ?_⟩) ?_
            rotate_left
            · (go_simp; first | done | with_reducible rfl)
            try simp only [Act.put, List.setIfInBounds_toArray, List.set_cons_zero, List.set_cons_succ]
            refine wpAnyW_done (by kernel_rfl) ?_ _
            obtain ⟨s1, s2, s3, s4, s5, s6, s7, s8⟩ := HSS.out w2 HB2.out
            have hfz2 : ∀ j, w2.frozen? ⟨g, j, none⟩ = false := fun j => (World.frozen?_of_block (w := wr) (w' := w2) (a := ⟨g, j, none⟩) (HB2.out.block g hlg)).trans (HFZ.out j)
            have hlg2 : g < w2.heap.size := Nat.lt_of_lt_of_le hlg HB2.out.size
            have HSW := hid (own_bw (own_swap (own_bw HO2.out HB2.out) HLL.out HQL.out) (Bw.drew (Bw.refl _)))
            have HXW := hid ((ex_setW (g := g) (i := q) (x := ⟨x1, x2, x3, x4⟩) (ex_setW (i := q + 1) (x := ⟨y1, y2, y3, y4⟩) (HX2.out.bw HB2.out))).drew)
            simp only [setW] at HSW HXW
            go_wp2
            go_region
            go_wp2
            go_roundw
            case rel => exact ⟨P', ⟨y1, y2, y3, y4⟩ :: Q, by rw [HQL.out], by rw [HS.out]; simp, (fun z hz => by rcases List.mem_cons.1 hz with rfl | hz; exact hlt; exact HQ.out z hz), HSW.out, HXW.out⟩
            case measure => simp [intOf]
          · obtain ⟨c, hc, hc0⟩ : ∃ c, cmpR x4 y4 = c ∧ 0 ≤ c := ⟨_, rfl, by unfold cmpR; rw [if_neg hlt]; split <;> omega⟩
            rw [hc] at hcm
            have hc1 : ¬ c < 0 := by omega
            have HR := hid (show srt (L.take (k + 1)) = P' ++ [⟨y1, y2, y3, y4⟩] ++ ⟨x1, x2, x3, x4⟩ :: Q by
              rw [HTK.out, HS.out]
              refine insU_split _ _ _ (fun z hz => ?_) HQ.out
              have hsu := HSU.out
              rw [HS.out] at hsu
              unfold SU at hsu
              rw [List.pairwise_append] at hsu
              rcases List.mem_append.1 hz with h | h
              · have := (List.pairwise_append.1 hsu.1).2.2 z h ⟨y1, y2, y3, y4⟩ (by simp)
                simp only at this ⊢
                omega
              · obtain rfl := List.mem_singleton.1 h
                exact hlt)
            clear hc hc0
            go_wp2
            refine wp_region_W (fun w' => w'.cell? ⟨g, (q + 1) * 4, none⟩ = some (.int .i64 x1) ∧ w'.cell? ⟨g, (q + 1) * 4 + 1, none⟩ = some (.int .i64 x2) ∧ w'.cell? ⟨g, (q + 1) * 4 + 2, none⟩ = some (.int .i64 x3) ∧ w'.cell? ⟨g, (q + 1) * 4 + 3, none⟩ = some (.int .i64 x4) ∧ w'.cell? ⟨g, q * 4, none⟩ = some (.int .i64 y1) ∧ w'.cell? ⟨g, q * 4 + 1, none⟩ = some (.int .i64 y2) ∧ w'.cell? ⟨g, q * 4 + 2, none⟩ = some (.int .i64 y3) ∧ w'.cell? ⟨g, q * 4 + 3, none⟩ = some (.int .i64 y4)) (fun j => if j == 14 then 0 else 1) (by kernel_rfl) ?_
            refine wpAnyW_take (i := 0) (oi := { dst := some 18, op := Op.move (Operand.tmp 9), type := 3, pos := "zsortanyfunc.go:12", after := #[], guard := none }) (v := ?_) rfl (by kernel_rfl) (by kernel_rfl) (by kernel_rfl) (by kernel_rfl) (fun _ _ _ h => h) (Or.inl ⟨by rfl, fun w _ => ?_⟩) ?_
            rotate_left
            · (go_simp; first | done | with_reducible rfl)
            try simp only [Act.put, List.setIfInBounds_toArray, List.set_cons_zero, List.set_cons_succ]
            refine wpAnyW_take (i := 1) (oi := { dst := some 19, op := Op.move (Operand.tmp 1), type := 3, pos := "zsortanyfunc.go:12", after := #[], guard := none }) (v := ?_) rfl (by kernel_rfl) (by kernel_rfl) (by kernel_rfl) (by kernel_rfl) (fun _ _ _ h => h) (Or.inl ⟨by rfl, fun w _ => ?_⟩) ?_
            rotate_left
            · (go_simp; first | done | with_reducible rfl)
            try simp only [Act.put, List.setIfInBounds_toArray, List.set_cons_zero, List.set_cons_succ]
            refine wpAnyW_take (i := 2) (oi := { dst := some 20, op := Op.binOp BinOp.gtr 3 (Operand.tmp 18) (Operand.tmp 19) 3, type := 4, pos := "zsortanyfunc.go:12", after := #[{ on := 0, ground := Ground.data }, { on := 1, ground := Ground.data }], guard := none }) (v := ?_) rfl (by kernel_rfl) (by kernel_rfl) (by kernel_rfl) (by kernel_rfl) (fun _ _ _ h => h) (Or.inl ⟨by rfl, fun w _ => ?_⟩) ?_
            rotate_left
            · (go_simp; first | done | with_reducible rfl)
            try simp only [Act.put, List.setIfInBounds_toArray, List.set_cons_zero, List.set_cons_succ]
            refine wpAnyW_take (i := 3) (oi := { dst := some 21, op := Op.move (Operand.tmp 20), type := 4, pos := "zsortanyfunc.go:12", after := #[{ on := 2, ground := Ground.data }], guard := none }) (v := ?_) rfl (by kernel_rfl) (by kernel_rfl) (by kernel_rfl) (by kernel_rfl) (fun _ _ _ h => h) (Or.inl ⟨by rfl, fun w _ => ?_⟩) ?_
            rotate_left
            · (go_simp; first | done | with_reducible rfl)
            try simp only [Act.put, List.setIfInBounds_toArray, List.set_cons_zero, List.set_cons_succ]
            refine wpAnyW_take (i := 4) (oi := { dst := some 22, op := Op.move (Operand.tmp 3), type := 96, pos := "zsortanyfunc.go:12", after := #[{ on := 3, ground := Ground.guard }], guard := some (3, true) }) (v := ?_) rfl (by kernel_rfl) (by kernel_rfl) (by kernel_rfl) (by kernel_rfl) (fun _ _ _ h => h) (Or.inl ⟨by rfl, fun w _ => ?_⟩) ?_
            rotate_left
            · (go_simp; first | done | with_reducible rfl)
            try simp only [Act.put, List.setIfInBounds_toArray, List.set_cons_zero, List.set_cons_succ]
            refine wpAnyW_take (i := 5) (oi := { dst := some 23, op := Op.move (Operand.tmp 0), type := 62, pos := "zsortanyfunc.go:12", after := #[{ on := 3, ground := Ground.guard }], guard := some (3, true) }) (v := ?_) rfl (by kernel_rfl) (by kernel_rfl) (by kernel_rfl) (by kernel_rfl) (fun _ _ _ h => h) (Or.inl ⟨by rfl, fun w _ => ?_⟩) ?_
            rotate_left
            · (go_simp; first | done | with_reducible rfl)
            try simp only [Act.put, List.setIfInBounds_toArray, List.set_cons_zero, List.set_cons_succ]
            refine wpAnyW_take (i := 6) (oi := { dst := some 24, op := Op.move (Operand.tmp 9), type := 3, pos := "zsortanyfunc.go:12", after := #[{ on := 3, ground := Ground.guard }], guard := some (3, true) }) (v := ?_) rfl (by kernel_rfl) (by kernel_rfl) (by kernel_rfl) (by kernel_rfl) (fun _ _ _ h => h) (Or.inl ⟨by rfl, fun w _ => ?_⟩) ?_
            rotate_left
            · (go_simp; first | done | with_reducible rfl)
            try simp only [Act.put, List.setIfInBounds_toArray, List.set_cons_zero, List.set_cons_succ]
            refine wpAnyW_take (i := 7) (oi := { dst := some 25, op := Op.indexAddr 62 (Operand.tmp 23) (Operand.tmp 24), type := 0, pos := "zsortanyfunc.go:12", after := #[{ on := 5, ground := Ground.data }, { on := 6, ground := Ground.data }, { on := 3, ground := Ground.guard }], guard := some (3, true) }) (v := ?_) rfl (by kernel_rfl) (by kernel_rfl) (by kernel_rfl) (by kernel_rfl) (fun _ _ _ h => h) (Or.inl ⟨by rfl, fun w _ => ?_⟩) ?_
            rotate_left
            · (go_simp; first | done | with_reducible rfl)
            try simp only [Act.put, List.setIfInBounds_toArray, List.set_cons_zero, List.set_cons_succ]
            refine wpAnyW_load (i := 8) (oi := { dst := some 26, op := Op.load 89 (Operand.tmp 25), type := 89, pos := "zsortanyfunc.go:12", after := #[{ on := 7, ground := Ground.data }, { on := 3, ground := Ground.guard }], guard := some (3, true) }) (v := ?_) rfl (by kernel_rfl) (by kernel_rfl) (by kernel_rfl) (by kernel_rfl) (by kernel_rfl) (fun _ _ _ h => h) (Or.inl ⟨by rfl, fun w hS => ?_⟩) (HSS.out _ (Bw.drew (Bw.refl _))) ?_
            rotate_left
            · (obtain ⟨s1, s2, s3, s4, s5, s6, s7, s8⟩ := hS; go_simp; first | done | with_reducible rfl)
            try simp only [Act.put, List.setIfInBounds_toArray, List.set_cons_zero, List.set_cons_succ]
            refine wpAnyW_take (i := 9) (oi := { dst := some 27, op := Op.move (Operand.tmp 0), type := 62, pos := "zsortanyfunc.go:12", after := #[{ on := 3, ground := Ground.guard }], guard := some (3, true) }) (v := ?_) rfl (by kernel_rfl) (by kernel_rfl) (by kernel_rfl) (by kernel_rfl) (fun _ _ _ h => h) (Or.inl ⟨by rfl, fun w _ => ?_⟩) ?_
            rotate_left
            · (go_simp; first | done | with_reducible rfl)
            try simp only [Act.put, List.setIfInBounds_toArray, List.set_cons_zero, List.set_cons_succ]
            refine wpAnyW_take (i := 10) (oi := { dst := some 28, op := Op.move (Operand.tmp 9), type := 3, pos := "zsortanyfunc.go:12", after := #[{ on := 3, ground := Ground.guard }], guard := some (3, true) }) (v := ?_) rfl (by kernel_rfl) (by kernel_rfl) (by kernel_rfl) (by kernel_rfl) (fun _ _ _ h => h) (Or.inl ⟨by rfl, fun w _ => ?_⟩) ?_
            rotate_left
            · (go_simp; first | done | with_reducible rfl)
            try simp only [Act.put, List.setIfInBounds_toArray, List.set_cons_zero, List.set_cons_succ]
            refine wpAnyW_take (i := 11) (oi := { dst := some 29, op := Op.binOp BinOp.sub 3 (Operand.tmp 28) (Operand.const (Value.int IntKind.i64 1)) 3, type := 3, pos := "zsortanyfunc.go:12", after := #[{ on := 10, ground := Ground.data }, { on := 3, ground := Ground.guard }], guard := some (3, true) }) (v := ?_) rfl (by kernel_rfl) (by kernel_rfl) (by kernel_rfl) (by kernel_rfl) (fun _ _ _ h => h) (Or.inl ⟨by rfl, fun w _ => ?_⟩) ?_
            rotate_left
            · (go_simp; first | done | with_reducible rfl)
            try simp only [Act.put, List.setIfInBounds_toArray, List.set_cons_zero, List.set_cons_succ]
            refine wpAnyW_take (i := 12) (oi := { dst := some 30, op := Op.indexAddr 62 (Operand.tmp 27) (Operand.tmp 29), type := 0, pos := "zsortanyfunc.go:12", after := #[{ on := 9, ground := Ground.data }, { on := 11, ground := Ground.data }, { on := 3, ground := Ground.guard }], guard := some (3, true) }) (v := ?_) rfl (by kernel_rfl) (by kernel_rfl) (by kernel_rfl) (by kernel_rfl) (fun _ _ _ h => h) (Or.inl ⟨by rfl, fun w _ => ?_⟩) ?_
            rotate_left
            · (go_simp; first | done | with_reducible rfl)
            try simp only [Act.put, List.setIfInBounds_toArray, List.set_cons_zero, List.set_cons_succ]
            refine wpAnyW_load (i := 13) (oi := { dst := some 31, op := Op.load 89 (Operand.tmp 30), type := 89, pos := "zsortanyfunc.go:12", after := #[{ on := 12, ground := Ground.data }, { on := 3, ground := Ground.guard }], guard := some (3, true) }) (v := ?_) rfl (by kernel_rfl) (by kernel_rfl) (by kernel_rfl) (by kernel_rfl) (by kernel_rfl) (fun _ _ _ h => h) (Or.inl ⟨by rfl, fun w hS => ?_⟩) (HSS.out _ (Bw.drew (Bw.refl _))) ?_
            rotate_left
            · (obtain ⟨s1, s2, s3, s4, s5, s6, s7, s8⟩ := hS; go_simp; first | done | with_reducible rfl)
            try simp only [Act.put, List.setIfInBounds_toArray, List.set_cons_zero, List.set_cons_succ]
            refine wpAnyW_ready (rs := [14]) (by kernel_rfl) (by simp) ?_
            refine (AllReadyW.cons (o := { dst := some 32, op := Op.call { callee := Callee.value (Operand.tmp 22), args := #[Operand.tmp 26, Operand.tmp 31], argTypes := #[89, 89] }, type := 3, pos := "zsortanyfunc.go:12", after := #[{ on := 4, ground := Ground.data }, { on := 8, ground := Ground.data }, { on := 13, ground := Ground.data }, { on := 3, ground := Ground.chain }, { on := 3, ground := Ground.guard }], guard := some (3, true) }) rfl (fun K hK => ?_) AllReadyW.nil)
            go_simp
            refine (hcm _).mono ?_
            rintro e w2 ⟨rfl, hl⟩
            have HB2 := hid (Bw.trans (Bw.drew (Bw.refl wr)) hl.bw)
            clear hl
            refine hK.out _ _ (HSS.out _ HB2.out) ?_
            clear hK K
            try simp only [Act.put, List.setIfInBounds_toArray, List.set_cons_zero, List.set_cons_succ]
            refine wpAnyW_take (i := 15) (oi := { dst := some 33, op := Op.binOp BinOp.lss 3 (Operand.tmp 32) (Operand.const (Value.int IntKind.i64 0)) 3, type := 4, pos := "zsortanyfunc.go:12", after := #[{ on := 14, ground := Ground.data }, { on := 3, ground := Ground.guard }], guard := some (3, true) }) (v := ?_) rfl (by kernel_rfl) (by kernel_rfl) (by kernel_rfl) (by kernel_rfl) (fun _ _ _ h => h) (Or.inl ⟨by rfl, fun w _ => ?_⟩) ?_
            rotate_left
            · (go_simp; first | done | with_reducible rfl)
            try simp only [Act.put, List.setIfInBounds_toArray, List.set_cons_zero, List.set_cons_succ]
            refine wpAnyW_take (i := 16) (oi := { dst := some 34, op := Op.pick (Operand.tmp 21) (Operand.tmp 33) (Operand.const (Value.bool false)), type := 4, pos := "zsortanyfunc.go:12", after := #[{ on := 3, ground := Ground.data }, { on := 15, ground := Ground.data }], guard := none }) (v := ?_) rfl (by kernel_rfl) (by kernel_rfl) (by kernel_rfl) (by kernel_rfl) (fun _ _ _ h => h) (Or.inl ⟨by rfl, fun w _ => ?_⟩) ?_
            rotate_left
            · (go_simp; first | done | with_reducible rfl)
            try simp only [Act.put, List.setIfInBounds_toArray, List.set_cons_zero, List.set_cons_succ]
            refine wpAnyW_done (by kernel_rfl) ?_ _
            go_wp2
            go_roundw
            case rel => exact ⟨k + 1, by omega, .inl (by omega), by go_num, by rw [HR.out]; exact own_bw HO2.out HB2.out, HX2.out.bw HB2.out⟩
            case measure => simp [intOf]; omega
    · have h4' : ¬ (k : Int) < (N : Int) := by omega
      have HR := hid (show srt (L.take k) ++ L.drop k = srt L by
        rcases hk with h | h
        · have : k = L.length := by rw [HN.out]; omega
          rw [this]; simp
        · subst h
          have : L.length ≤ 1 := by rw [HN.out]; omega
          match L, this with
          | [], _ => rfl
          | [z], _ => rfl)
      rw [HR.out] at ho
      have HO1 := hid ho
      have HX1 := hid hx
      clear ho hx hk
      go_wp2
      all_goals go_end0
      all_goals exact ⟨rfl, HO1.out, HX1.out⟩

end Go.Proofs.Yteeeijbjokkomaa
