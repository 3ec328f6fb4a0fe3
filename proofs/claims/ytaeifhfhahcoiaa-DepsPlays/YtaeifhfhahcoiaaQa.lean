/- The document's New, Versions, Drop: contracts. -/
import Derived.Test.YtaeifhfhahcoiaaPq
import Derived.Test.YtaeifhfhahcoiaaRw
set_option linter.unusedSimpArgs false
set_option linter.unusedVariables false
namespace Go.Proofs.Ytaeifhfhahcoiaa
open Go Go.RowKit

/-- The document's registry as a value. -/
def rV (F G : Nat) (v : Value) : Value := .agg #[.int .i64 F, .int .i64 G, v]

/-- The document's versions in memory, in blocks of which GG holds. -/
structure RS (w : World) (GG : Nat → Prop) (v : Value) (L : List (VV × Value)) : Prop where
  row : Sl w GG v L.length 3 (rowC L)
  ons : ∀ q ∈ L, Sl w GG q.2 q.1.on.length 2 (depC q.1.on)
  big : L.length ≤ 1000 ∧ ∀ q ∈ L, q.1.on.length ≤ 1000

section
variable {w w' : World} {GG GG' : Nat → Prop} {v : Value} {L : List (VV × Value)}
theorem RS.keep (h : RS w GG v L) (hs : w.heap.size ≤ w'.heap.size) (hb : ∀ b, b < w.heap.size → GG b → w'.heap[b]? = w.heap[b]?) (hG : ∀ b, b < w.heap.size → GG b → GG' b) : RS w' GG' v L :=
  ⟨h.row.keep hs hb hG, fun q hq => (h.ons q hq).keep hs hb hG, h.big⟩
theorem RS.bw (h : RS w GG v L) (hb : Bw w w') : RS w' GG v L := h.keep hb.size (fun b hlt _ => hb.block b hlt) (fun _ _ g => g)
theorem RS.imp (h : RS w GG v L) (hG : ∀ b, b < w.heap.size → GG b → GG' b) : RS w GG' v L := h.keep (Nat.le_refl _) (fun _ _ _ => rfl) hG
theorem RS.form (h : RS w GG v L) : ∃ a cap, v = .slice a L.length cap := h.row.form
theorem RS.nil (w : World) (GG : Nat → Prop) : RS w GG (.slice none 0 0) [] := ⟨Sl.nil w GG 3, fun q hq => by simp at hq, by simp, fun q hq => by simp at hq⟩
theorem RS.at {a : Option Addr} {c : Nat} (h : RS w GG (.slice a L.length c) L) {n : Nat} (hn : n < L.length) :
    ∃ b o, a = some ⟨b, o, none⟩ ∧ b < w.heap.size ∧ w.cell? ⟨b, o + n * 3, none⟩ = some (.int .i64 L[n].1.f) ∧ w.cell? ⟨b, o + n * 3 + 1, none⟩ = some L[n].2 ∧ w.cell? ⟨b, o + n * 3 + 2, none⟩ = some (.bool L[n].1.ok) := by
  obtain ⟨b, o, e, hlt, h0, h1, h2⟩ := h.row.three hn
  obtain ⟨q0, q1, q2⟩ := rowC_get L n hn
  exact ⟨b, o, e, hlt, h0.trans q0, h1.trans q1, h2.trans q2⟩
end

set_option maxRecDepth 100000 in
set_option maxHeartbeats 1000000 in
theorem rNew_yes (F G : Nat) (w : World) (h1 : 1 ≤ F) (h2 : F ≤ 1024) (h3 : G ≤ 1024) : Calls Try.prog 11 #[.int .i64 F, .int .i64 G] w fun e w' => e = .returned (.tuple #[rV F G (.slice none 0 0), .int .i64 0]) ∧ Bw w w' := by
  unfold rV
  have b1 : ¬ (F : Int) < 1 := by omega
  have b2 : ¬ (1024 : Int) < F := by omega
  have b3 : ¬ (G : Int) < 0 := by omega
  have b4 : ¬ (1024 : Int) < G := by omega
  go_enter Try.func11, Try.ntmps11
  go_wp2
  all_goals exact bodyPost_ret (v := .tuple #[.agg #[.int .i64 F, .int .i64 G, .slice none 0 0], .int .i64 0]) (by simp [results, Try.results11, go_sem, *]) rfl ⟨rfl, by repeat (first | exact Bw.refl _ | apply Bw.alloc | apply Bw.drewN | apply Bw.drew)⟩

set_option maxRecDepth 100000 in
set_option maxHeartbeats 1000000 in
theorem rNew_no0 (f g : Int) (w : World)  (y : f < 1) : Calls Try.prog 11 #[.int .i64 f, .int .i64 g] w fun e w' => (∃ r, e = .returned (.tuple #[r, .int .i64 1])) ∧ Bw w w' := by
  go_enter Try.func11, Try.ntmps11
  go_wp2
  all_goals exact bodyPost_ret (v := .tuple #[.agg #[.int .i64 0, .int .i64 0, .slice none 0 0], .int .i64 1]) (by simp [results, Try.results11, go_sem, *]) rfl ⟨⟨_, rfl⟩, by repeat (first | exact Bw.refl _ | apply Bw.alloc | apply Bw.drewN | apply Bw.drew)⟩

set_option maxRecDepth 100000 in
set_option maxHeartbeats 1000000 in
theorem rNew_no1 (f g : Int) (w : World) (n0 : ¬ f < 1) (y : 1024 < f) : Calls Try.prog 11 #[.int .i64 f, .int .i64 g] w fun e w' => (∃ r, e = .returned (.tuple #[r, .int .i64 1])) ∧ Bw w w' := by
  have d0 : decide (f < 1) = false := decide_eq_false n0
  go_enter Try.func11, Try.ntmps11
  go_wp2
  all_goals exact bodyPost_ret (v := .tuple #[.agg #[.int .i64 0, .int .i64 0, .slice none 0 0], .int .i64 1]) (by simp [results, Try.results11, go_sem, *]) rfl ⟨⟨_, rfl⟩, by repeat (first | exact Bw.refl _ | apply Bw.alloc | apply Bw.drewN | apply Bw.drew)⟩

set_option maxRecDepth 100000 in
set_option maxHeartbeats 1000000 in
theorem rNew_no2 (f g : Int) (w : World) (n0 : ¬ f < 1) (n1 : ¬ 1024 < f) (y : g < 0) : Calls Try.prog 11 #[.int .i64 f, .int .i64 g] w fun e w' => (∃ r, e = .returned (.tuple #[r, .int .i64 1])) ∧ Bw w w' := by
  have d0 : decide (f < 1) = false := decide_eq_false n0
  have d1 : decide (1024 < f) = false := decide_eq_false n1
  go_enter Try.func11, Try.ntmps11
  go_wp2
  all_goals exact bodyPost_ret (v := .tuple #[.agg #[.int .i64 0, .int .i64 0, .slice none 0 0], .int .i64 1]) (by simp [results, Try.results11, go_sem, *]) rfl ⟨⟨_, rfl⟩, by repeat (first | exact Bw.refl _ | apply Bw.alloc | apply Bw.drewN | apply Bw.drew)⟩

set_option maxRecDepth 100000 in
set_option maxHeartbeats 1000000 in
theorem rNew_no3 (f g : Int) (w : World) (n0 : ¬ f < 1) (n1 : ¬ 1024 < f) (n2 : ¬ g < 0) (y : 1024 < g) : Calls Try.prog 11 #[.int .i64 f, .int .i64 g] w fun e w' => (∃ r, e = .returned (.tuple #[r, .int .i64 1])) ∧ Bw w w' := by
  have d0 : decide (f < 1) = false := decide_eq_false n0
  have d1 : decide (1024 < f) = false := decide_eq_false n1
  have d2 : decide (g < 0) = false := decide_eq_false n2
  go_enter Try.func11, Try.ntmps11
  go_wp2
  all_goals exact bodyPost_ret (v := .tuple #[.agg #[.int .i64 0, .int .i64 0, .slice none 0 0], .int .i64 1]) (by simp [results, Try.results11, go_sem, *]) rfl ⟨⟨_, rfl⟩, by repeat (first | exact Bw.refl _ | apply Bw.alloc | apply Bw.drewN | apply Bw.drew)⟩

theorem rNew_no (f g : Int) (w : World) (h : ¬ (1 ≤ f ∧ f ≤ 1024 ∧ 0 ≤ g ∧ g ≤ 1024)) : Calls Try.prog 11 #[.int .i64 f, .int .i64 g] w fun e w' => (∃ r, e = .returned (.tuple #[r, .int .i64 1])) ∧ Bw w w' := by
  by_cases h1 : f < 1
  · exact rNew_no0 f g w h1
  by_cases h2 : 1024 < f
  · exact rNew_no1 f g w h1 h2
  by_cases h3 : g < 0
  · exact rNew_no2 f g w h1 h2 h3
  · exact rNew_no3 f g w h1 h2 h3 (by omega)

/-- The last of them; -1: there is none. -/
def lastI (l : List Nat) : Int := match l.getLast? with | some i => (i : Nat) | none => -1
theorem lastI_snoc (l : List Nat) (i : Nat) : lastI (l ++ [i]) = i := by simp [lastI]
theorem lastI_nil : lastI [] = -1 := rfl
theorem lastI_ge (l : List Nat) : -1 ≤ lastI l := by
  unfold lastI
  split <;> omega
theorem lastI_le {P : VV → Bool} {K : List VV} (k : Nat) : lastI (idx P K k) ≤ k := by
  unfold lastI
  split
  · rename_i i h
    have := (mem_idx.1 (List.mem_of_getLast? h)).1
    omega
  · omega

set_option maxRecDepth 100000 in
set_option maxHeartbeats 1000000 in
theorem rVersions_any {w : World} {GG : Nat → Prop} {F G : Nat} {v : Value} {L : List (VV × Value)} (h : RS w GG v L) (f : Int) : Calls Try.prog 27 #[rV F G v, .int .i64 f] w fun e w' => e = .returned (.tuple #[.int .i64 (cnt f (L.map Prod.fst) : Nat), .int .i64 (lastI (all (vof f) (L.map Prod.fst)))]) ∧ Bw w w' := by
  unfold rV cnt all
  obtain ⟨a, c, rfl⟩ := h.form
  have HR := hid h
  have hll := h.big.1
  have HLM := hid (show (L.map Prod.fst).length = L.length by simp)
  clear h
  rw [HLM.out]
  go_enter Try.func27, Try.ntmps27
  go_wp2
  go_loopw [6, 7, 8] (fun n id j wr => ∃ (k : Nat), k ≤ L.length ∧ n = .int .i64 ((idx (aof f) (L.map Prod.fst) k).length : Nat) ∧ id = .int .i64 (lastI (idx (vof f) (L.map Prod.fst) k)) ∧ j = .int .i64 k ∧ wr = w.alloc (.cells #[.int .i64 F, .int .i64 G, .slice a L.length c] 31)) (fun n id j _ => L.length - (intOf j).toNat)
  case atStart => exact ⟨0, by omega, rfl, rfl, rfl, rfl⟩
  case round =>
    obtain ⟨k, hk, rfl, rfl, rfl, rfl⟩ := hrel
    by_cases h4 : k < L.length
    · have h4' : (k : Int) < (L.length : Int) := by omega
      obtain ⟨b, o, e, hlb, x0, x1, x2⟩ := HR.out.at h4
      subst e
      have hL : (L.map Prod.fst)[k]? = some L[k].1 := by simp [h4]
      have hl1 := idx_len (aof f) (L.map Prod.fst) k
      have HA1 := hid (fun h => congrArg List.length (idx_yes (P := aof f) hL h))
      have HA0 := hid (fun h => idx_no (P := aof f) hL h)
      have HV1 := hid (fun h => idx_yes (P := vof f) hL h)
      have HV0 := hid (fun h => idx_no (P := vof f) hL h)
      obtain ⟨n1, hn1⟩ : ∃ n1, (idx (aof f) (L.map Prod.fst) k).length = n1 := ⟨_, rfl⟩
      obtain ⟨i1, hi1⟩ : ∃ i1, lastI (idx (vof f) (L.map Prod.fst) k) = i1 := ⟨_, rfl⟩
      rw [hn1] at hl1
      rw [hn1, hi1]
      have HN1 := hid hn1
      have HI1 := hid hi1
      obtain ⟨q, hq⟩ : ∃ q, L[k].1 = q := ⟨_, rfl⟩
      rw [hq] at x0 x2 HA1 HA0 HV1 HV0
      obtain ⟨qf, ql, qo⟩ := q
      simp only at x0 x2
      clear hq hL hn1 hi1 x1
      by_cases hf : qf = f
      · have hfb : (qf == f) = true := by simp [hf]
        have HA := hid (HA1.out (by simp [aof, hf]))
        cases qo
        · have HV := hid (HV0.out (by simp [vof]))
          clear hf
          go_wp2
          go_roundw
          case rel => exact ⟨k + 1, by omega, by rw [HA.out, List.length_append, HN1.out]; go_num, by rw [HV.out, HI1.out], by go_num, (by first | rfl | trivial)⟩
          case measure => simp [intOf]; omega
        · have HV := hid (HV1.out (by simp [vof, hf]))
          clear hf
          go_wp2
          go_roundw
          case rel => exact ⟨k + 1, by omega, by rw [HA.out, List.length_append, HN1.out]; go_num, by rw [HV.out, lastI_snoc], by go_num, (by first | rfl | trivial)⟩
          case measure => simp [intOf]; omega
      · have hfb : (qf == f) = false := by simp [hf]
        have HA := hid (HA0.out (by simp [aof, hf]))
        have HV := hid (HV0.out (by simp [vof, hf]))
        clear hf
        go_wp2
        go_roundw
        case rel => exact ⟨k + 1, by omega, by rw [HA.out, HN1.out], by rw [HV.out, HI1.out], by go_num, (by first | rfl | trivial)⟩
        case measure => simp [intOf]; omega
    · have h4' : ¬ (k : Int) < (L.length : Int) := by omega
      obtain rfl : k = L.length := by omega
      go_wp2
      all_goals go_ret2
      all_goals exact ⟨rfl, Bw.alloc (Bw.refl _) _⟩

end Go.Proofs.Ytaeifhfhahcoiaa
