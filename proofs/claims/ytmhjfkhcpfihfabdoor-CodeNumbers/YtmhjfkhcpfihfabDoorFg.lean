/- Images with globals alone; names that differ. -/
import Derived.Test.YtmhjfkhcpfihfabDoorFl
set_option linter.unusedVariables false
set_option linter.unusedSimpArgs false
namespace Go.Proofs.YtmhjfkhcpfihfabDoor
open Go Go.RowKit

/-- An image with globals alone. -/
def gm (n : Int) : AIm := ⟨[], [], [], n⟩
theorem rim_gm (w : World) (n : Int) (h : I64 n) : RIm w (fun _ => True) (.slice none 0 0) (.slice none 0 0) (.slice none 0 0) (gm n) :=
  ⟨⟨[], rfl, Sl.nil _ _ _, by simp, by simp, fun _ => rfl⟩, ⟨Sl.nil _ _ _, by simp [gm], by simp [gm], fun _ => rfl⟩, ⟨[], rfl, Sl.nil _ _ _, by simp, by simp, fun _ => rfl⟩, h⟩
theorem gm_oks (n : Int) : oks (iIm (gm n)) = pl n := by
  have h0 : pl 0 = true := by decide
  simp [iIm, iL, gm, oks, It.ok, h0]
theorem gm_len (n : Int) : (byts (iIm (gm n))).length = 7 + (It.N n).b.length := by
  have h0 : pl 0 = true := by decide
  have h1 : nb 0 = [0] := nb_small (by decide)
  have h2 : (It.N 0).b = [0] := by simp [It.b, h0, h1]
  simp only [iIm, iL, gm, byts, List.flatMap_cons, List.flatMap_nil, List.flatMap_append, List.length_append, List.length_nil, Int.natCast_zero, h2, List.length_cons]
  have e : (It.T markL).b.length = 4 := rfl
  rw [e]
  omega
theorem gm_le (n : Int) : (byts (iIm (gm n))).length ≤ 4194304 := by
  have := N_le n
  rw [gm_len]; omega

theorem name_ne : ∀ i j : Fin 33, i ≠ j → (opsL.getD i.val ([], 0, 0, false)).1 ≠ (opsL.getD j.val ([], 0, 0, false)).1 := by decide
theorem name_pos : ∀ i : Fin 33, (opsL.getD i.val ([], 0, 0, false)).1 ≠ [] := by decide
theorem name_by : ∀ i : Fin 33, ∀ c ∈ (opsL.getD i.val ([], 0, 0, false)).1, 0 ≤ c ∧ c ≤ 255 := by decide

theorem isOp_fin {op : Int} (h : isOp op = true) : ∃ i : Fin 33, op = (i.val : Int) ∧ nameM op = (opsL.getD i.val ([], 0, 0, false)).1 := by
  have h' := h
  unfold isOp at h
  rw [decide_eq_true_eq] at h
  refine ⟨⟨op.toNat, by omega⟩, by simp; omega, ?_⟩
  unfold nameM opAt
  rw [if_pos h']

theorem nameM_byt (op : Int) : ∀ c ∈ nameM op, 0 ≤ c ∧ c ≤ 255 := by
  cases h : isOp op
  · unfold nameM; rw [h]; simp
  · obtain ⟨i, _, e⟩ := isOp_fin h
    rw [e]; exact name_by i

theorem nameM_inj {op other : Int} (h : isOp op = true) : nameM op = nameM other ↔ op = other := by
  constructor
  · intro e
    obtain ⟨i, e1, n1⟩ := isOp_fin h
    cases h2 : isOp other
    · have : nameM other = [] := by unfold nameM; rw [h2]; rfl
      rw [this, n1] at e
      exact absurd e (name_pos i)
    · obtain ⟨j, e2, n2⟩ := isOp_fin h2
      rw [n1, n2] at e
      by_cases hij : i = j
      · rw [e1, e2, hij]
      · exact absurd e (name_ne i j hij)
  · rintro rfl; rfl

theorem strOfNums_inj {a b : List Int} (ha : ∀ c ∈ a, 0 ≤ c ∧ c ≤ 255) (hb : ∀ c ∈ b, 0 ≤ c ∧ c ≤ 255) (h : strOfNums a = strOfNums b) : a = b := by
  have e := congrArg Lib.strCells h
  rw [strCells_nums a ha, strCells_nums b hb] at e
  have inj : ∀ x y : Int, Value.int .u8 x = Value.int .u8 y → x = y := fun x y h => by cases h; rfl
  exact (List.map_inj_right inj).1 e

theorem effk_val {op a : Int} {k : Nat} (hk : 256 ≤ k) (h : isOp op = true) (ha : 0 ≤ a ∧ a ≤ 255) : ∃ n p, effM (List.replicate k []) op a = (n, p, 0) ∧ (0 ≤ n ∧ n ≤ 3 + a) ∧ 0 ≤ p ∧ p ≤ 1 := by
  have hb := opAt_bd op
  have ht : ∃ m, takenM (List.replicate k []) op a = some m ∧ 0 ≤ m ∧ m ≤ a := by
    unfold takenM
    by_cases h1 : op = 14 ∨ op = 25 ∨ op = 26
    · rw [if_pos h1, if_pos ha]; exact ⟨a, rfl, ha.1, Int.le_refl _⟩
    · rw [if_neg h1]
      by_cases h2 : op = 15
      · rw [if_pos h2, if_pos ⟨ha.1, by rw [List.length_replicate]; omega⟩]
        refine ⟨_, rfl, by omega, ?_⟩
        rw [List.getD_eq_getElem?_getD, List.getElem?_replicate]
        split
        · exact ha.1
        · exact ha.1
      · rw [if_neg h2]; exact ⟨0, rfl, Int.le_refl _, ha.1⟩
  obtain ⟨m, hm, h1, h2⟩ := ht
  refine ⟨(opAt op).2.1 + m, (opAt op).2.2.1, by unfold effM; rw [h, hm]; rfl, by omega, hb.2⟩

theorem rk_made {w : World} {base k : Nat} {v : Value} (hk : k ≤ maxLen) (h : w.ownsRow base 59 1 v k (List.replicate k (.slice none 0 0))) : RKs w (fun _ => True) v (List.replicate k ([], .slice none 0 0)) := by
  refine ⟨?_, fun m hm => ?_, by rw [List.length_replicate]; exact hk, fun _ => rfl⟩
  · have h2 := own_sl (G := fun _ => True) h (fun _ _ => trivial)
    have e : (List.replicate k (([] : List Int), Value.slice none 0 0)).flatMap (fun m => [m.2]) = List.replicate k (.slice none 0 0) := by
      rw [← List.map_eq_flatMap, List.map_replicate]
    rw [List.length_replicate, e]
    exact h2
  · rw [List.eq_of_mem_replicate hm]
    exact ⟨Sl.nil _ _ _, fun x hx => absurd hx List.not_mem_nil, Nat.zero_le _, fun _ => rfl⟩

theorem bw_none {w w' : World} (h : w.grownBy w' none) : Bw w w' := ⟨h.os, h.tape, h.output, h.size, fun k hk => h.block k hk (by simp)⟩

theorem made_one (z : Value) (n : Nat) : (madeCells #[z] n).toList = List.replicate n z := by
  rw [List.eq_replicate_iff]
  refine ⟨by rw [Array.length_toList, size_madeCells], fun b hb => ?_⟩
  unfold madeCells at hb
  rw [Array.toList_map, List.mem_map] at hb
  obtain ⟨i, _, rfl⟩ := hb
  simp [Nat.mod_one]

theorem madek {w : World} {base k : Nat} {v : Value} (h : w.ownsRow base 59 1 v k (madeCells (Value.cells (.slice none 0 0)) (k * 1)).toList) : w.ownsRow base 59 1 v k (List.replicate k (.slice none 0 0)) := by
  have e : (madeCells (Value.cells (.slice none 0 0)) (k * 1)).toList = List.replicate k (.slice none 0 0) := by
    rw [Nat.mul_one]
    exact made_one _ _
  rw [e] at h
  exact h

theorem effk_any {w : World} {k : Nat} (a : Option Addr) (op x : Int) (ho : Og w) (h : RKs w (fun _ => True) (.slice a k k) (List.replicate k ([], .slice none 0 0))) (hx : I64 x) (n p : Int) (he : effM (List.replicate k []) op x = (n, p, 0)) :
    Calls Tryd.prog 10 #[.agg #[.slice none 0 0, .slice none 0 0, .slice a k k, .int .i64 0], .agg #[.int .i64 op, .int .i64 x, .int .i64 0]] w fun e w' => e = .returned (.tuple #[.int .i64 n, .int .i64 p, .int .i64 0]) ∧ Bw w w' := by
  obtain ⟨ms, hms⟩ : ∃ ms, List.replicate k (([] : List Int), Value.slice none 0 0) = ms := ⟨_, rfl⟩
  have hl : ms.length = k := by rw [← hms]; exact List.length_replicate
  have hm : ms.map (·.1) = List.replicate k [] := by rw [← hms, List.map_replicate]
  have hm0 : ∀ m ∈ ms, m.1.length ≤ 1000000 := fun m hm => by rw [← hms] at hm; rw [List.eq_of_mem_replicate hm]; exact Nat.zero_le _
  rw [hms] at h
  subst hl
  have := effect_any 0 0 0 0 ms.length none none a 0 op x 0 ms (fun _ => True) ho h hx hm0
  rw [hm, he] at this
  exact this

end Go.Proofs.YtmhjfkhcpfihfabDoor
