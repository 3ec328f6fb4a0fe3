/- The document's Kinds: the contract. -/
import Derived.Test.YtfkcbioefdkabaaQb
set_option linter.unusedVariables false
set_option linter.unusedSimpArgs false
namespace Go.Proofs.Ytfkcbioefdkabaa
open Go Go.RowKit

def sumK (K : Nat) : Nat → Nat
  | 0 => 0
  | i + 1 => sumK K i + (if K.testBit i then 2 ^ i else 0) + (if K.testBit (i + 4) then 16 * 2 ^ i else 0)

theorem sumK_all {K : Nat} (h : K < 256) : sumK K 4 = K := by
  have : ∀ K : Fin 256, sumK K.val 4 = K.val := by decide +kernel
  exact this ⟨K, h⟩
theorem sumK_le {K : Nat} {i : Nat} (h : i ≤ 4) : sumK K i ≤ 1000 := by
  have hc : i = 0 ∨ i = 1 ∨ i = 2 ∨ i = 3 ∨ i = 4 := by omega
  rcases hc with rfl | rfl | rfl | rfl | rfl <;> simp only [sumK] <;> (repeat' split) <;> simp <;> omega

/-- The bits as the document keeps them. -/
def kl (K : Nat) : Array Value := #[.bool (K.testBit 0), .bool (K.testBit 1), .bool (K.testBit 2), .bool (K.testBit 3)]
def kr (K : Nat) : Array Value := #[.bool (K.testBit 4), .bool (K.testBit 5), .bool (K.testBit 6), .bool (K.testBit 7)]

theorem tb_l (a b : Nat) (ha : a < 4) (hb : b < 4) : (1 <<< a ||| 16 <<< b).testBit 0 = decide (a = 0) ∧ (1 <<< a ||| 16 <<< b).testBit 1 = decide (a = 1) ∧ (1 <<< a ||| 16 <<< b).testBit 2 = decide (a = 2) ∧ (1 <<< a ||| 16 <<< b).testBit 3 = decide (a = 3) := by
  have hc : a = 0 ∨ a = 1 ∨ a = 2 ∨ a = 3 := by omega
  have hd : b = 0 ∨ b = 1 ∨ b = 2 ∨ b = 3 := by omega
  rcases hc with rfl | rfl | rfl | rfl <;> rcases hd with rfl | rfl | rfl | rfl <;> decide
theorem tb_r (a b : Nat) (ha : a < 4) (hb : b < 4) : (1 <<< a ||| 16 <<< b).testBit 4 = decide (b = 0) ∧ (1 <<< a ||| 16 <<< b).testBit 5 = decide (b = 1) ∧ (1 <<< a ||| 16 <<< b).testBit 6 = decide (b = 2) ∧ (1 <<< a ||| 16 <<< b).testBit 7 = decide (b = 3) := by
  have hc : a = 0 ∨ a = 1 ∨ a = 2 ∨ a = 3 := by omega
  have hd : b = 0 ∨ b = 1 ∨ b = 2 ∨ b = 3 := by omega
  rcases hc with rfl | rfl | rfl | rfl <;> rcases hd with rfl | rfl | rfl | rfl <;> decide

theorem kl_set (K a b : Nat) (ha : a < 4) (hb : b < 4) : (kl K).setIfInBounds a (.bool true) = kl (K ||| (1 <<< a ||| 16 <<< b)) := by
  obtain ⟨h0, h1, h2, h3⟩ := tb_l a b ha hb
  generalize 1 <<< a ||| 16 <<< b = X at *
  unfold kl
  rw [Nat.testBit_or, Nat.testBit_or, Nat.testBit_or, Nat.testBit_or, h0, h1, h2, h3]
  clear h0 h1 h2 h3
  have hc : a = 0 ∨ a = 1 ∨ a = 2 ∨ a = 3 := by omega
  rcases hc with rfl | rfl | rfl | rfl <;> simp
theorem kr_set (K a b : Nat) (ha : a < 4) (hb : b < 4) : (kr K).setIfInBounds b (.bool true) = kr (K ||| (1 <<< a ||| 16 <<< b)) := by
  obtain ⟨h0, h1, h2, h3⟩ := tb_r a b ha hb
  generalize 1 <<< a ||| 16 <<< b = X at *
  unfold kr
  rw [Nat.testBit_or, Nat.testBit_or, Nat.testBit_or, Nat.testBit_or, h0, h1, h2, h3]
  clear h0 h1 h2 h3
  have hc : b = 0 ∨ b = 1 ∨ b = 2 ∨ b = 3 := by omega
  rcases hc with rfl | rfl | rfl | rfl <;> simp

theorem kl_at (K : Nat) {i : Nat} (h : i < 4) : (kl K)[i]? = some (.bool (K.testBit i)) := by
  have hc : i = 0 ∨ i = 1 ∨ i = 2 ∨ i = 3 := by omega
  rcases hc with rfl | rfl | rfl | rfl <;> simp [kl]
theorem kr_at (K : Nat) {i : Nat} (h : i < 4) : (kr K)[i]? = some (.bool (K.testBit (i + 4))) := by
  have hc : i = 0 ∨ i = 1 ∨ i = 2 ∨ i = 3 := by omega
  rcases hc with rfl | rfl | rfl | rfl <;> simp [kr]

/-- What was told of pairs is within bounds. -/
def PairOk (L : List AA) : Prop := ∀ x ∈ L, x.d = 2 → 0 ≤ x.a ∧ x.a ≤ 3 ∧ 0 ≤ x.b ∧ x.b ≤ 3

set_option maxRecDepth 100000 in
set_option maxHeartbeats 2000000 in
theorem rKinds_any {w : World} {Gd : Nat → Prop} {F G : Nat} {vL : Value} {L : List AA} (h : Acts w Gd vL L) (hp : PairOk L) (hL : L.length ≤ 1000) (f t : Int) : Calls Try.prog 30 #[rpV F G vL, .int .i64 f, .int .i64 t] w fun e w' => e = .returned (.int .i64 (kindOf L f t)) ∧ Bw w w' := by
  obtain ⟨av, cv, rfl⟩ := h.form
  have HA := hid h
  have HPO := hid hp
  clear h hp
  go_enter Try.func30, Try.ntmps30
  go_wp2
  go_loopw [9] (fun j wr => ∃ (k : Nat), k ≤ L.length ∧ j = .int .i64 k ∧ Bw w wr ∧ Blk wr w.heap.size #[.int .i64 F, .int .i64 G, .slice av L.length cv] 29 ∧ Blk wr (w.heap.size + 1) (kl (kindOf (L.take k) f t)) 93 ∧ Blk wr (w.heap.size + 1 + 1) (kr (kindOf (L.take k) f t)) 93) (fun j _ => L.length - (intOf j).toNat)
  case atStart =>
    have hz : kindOf (L.take 0) f t = 0 := by simp [kindOf]
    have hzl : kl 0 = #[.bool false, .bool false, .bool false, .bool false] := by simp [kl]
    have hzr : kr 0 = #[.bool false, .bool false, .bool false, .bool false] := by simp [kr]
    refine ⟨0, by omega, rfl, Bw.alloc (Bw.alloc (Bw.alloc (Bw.refl w) _) _) _, ((Blk.new w _ _).alloc _).alloc _, ?_, ?_⟩
    · rw [hz, hzl]
      apply Blk.alloc
      exact Blk.newAt _ _ _ _ (by simp only [World.size_alloc])
    · rw [hz, hzr]
      exact Blk.newAt _ _ _ _ (by simp only [World.size_alloc])
  case round =>
    obtain ⟨k, hk, rfl, hbw, hb0, hb1, hb2⟩ := hrel
    have HB := hid hbw
    have B0 := hid hb0
    have B1 := hid hb1
    have B2 := hid hb2
    have c2 := hb0.cell 2
    simp only [List.getElem?_toArray, List.getElem?_cons_zero, List.getElem?_cons_succ] at c2
    have hl0 := hb0.lt
    have hl1 := hb1.lt
    have hl2 := hb2.lt
    have f1 := hb1.free
    have f2 := hb2.free
    have u1 := hb1.cell
    have u2 := hb2.cell
    by_cases hlt : k < L.length
    · obtain ⟨g, o, rfl, hg, x0, x1, x2, x3, x4, x5, ok1⟩ := (HA.out.bw hbw).at hlt
      have hlt2 : (k : Int) < (L.length : Int) := by omega
      have hst := kind_take L hlt f t
      have hpo := HPO.out L[k] (List.getElem_mem hlt)
      clear ok1 hbw hb0 hb1 hb2
      generalize L[k] = x at hst hpo x0 x1 x2 x3 x4 x5
      have e1 : kind1 f t (kindOf (L.take k) f t) x = if x.d = 2 ∧ x.f = f ∧ x.t = t then kindOf (L.take k) f t ||| (1 <<< (x.a.toNat % 4) ||| 16 <<< (x.b.toNat % 4)) else kindOf (L.take k) f t := rfl
      rw [e1] at hst
      clear e1
      generalize kindOf (L.take k) f t = K at hst B1 B2 u1 u2
      by_cases hd : x.d = 2
      · have q0 : (x.d == 2) = true := by simp [hd]
        by_cases hf : x.f = f
        · have q1 : (x.f == f) = true := by simp [hf]
          by_cases ht : x.t = t
          · have q2 : (x.t == t) = true := by simp [ht]
            rw [if_pos ⟨hd, hf, ht⟩] at hst
            obtain ⟨p1, p2, p3, p4⟩ := hpo hd
            obtain ⟨a, ha⟩ : ∃ a : Nat, x.a = a := ⟨x.a.toNat, by omega⟩
            obtain ⟨b, hb⟩ : ∃ b : Nat, x.b = b := ⟨x.b.toNat, by omega⟩
            rw [ha] at x3 hst
            rw [hb] at x4 hst
            rw [show ((a : Int).toNat % 4) = a by omega, show ((b : Int).toNat % 4) = b by omega] at hst
            have ha4 : a < 4 := by omega
            have hb4 : b < 4 := by omega
            have s1 := kl_set K a b ha4 hb4
            have s2 := kr_set K a b ha4 hb4
            have v1 := (u1 a).trans (kl_at K ha4)
            have v2 := (u2 b).trans (kr_at K hb4)
            have ha5 : (a : Int) < 4 := by omega
            have hb5 : (b : Int) < 4 := by omega
            have HST := hid hst
            have S1 := hid s1
            have S2 := hid s2
            clear hst s1 s2 hd hf ht ha hb p1 p2 p3 p4 hpo u1 u2
            go_wp2
            go_roundw
            case rel =>
              refine ⟨k + 1, by omega, by go_num, ?_, ?_, ?_, ?_⟩
              · exact Bw.alloc (Bw.setCell (Bw.setCell HB.out (by show w.heap.size ≤ w.heap.size + 1; omega) _) (by show w.heap.size ≤ w.heap.size + 1 + 1; omega) _) _
              · exact ((B0.out.other (by simp) _).other (by simp; omega) _).alloc _
              · rw [HST.out, ← S1.out]
                exact ((B1.out.set _ _).other (by simp) _).alloc _
              · rw [HST.out, ← S2.out]
                exact ((B2.out.other (by simp) _).set _ _).alloc _
            case measure => simp [intOf]; omega
          · have q2 : (x.t == t) = false := by simp [ht]
            rw [if_neg (fun h => ht h.2.2)] at hst
            have HST := hid hst
            clear hst hd hf ht hpo u1 u2
            go_wp2
            go_roundw
            case rel => exact ⟨k + 1, by omega, by go_num, Bw.alloc HB.out _, B0.out.alloc _, by rw [HST.out]; exact B1.out.alloc _, by rw [HST.out]; exact B2.out.alloc _⟩
            case measure => simp [intOf]; omega
        · have q1 : (x.f == f) = false := by simp [hf]
          rw [if_neg (fun h => hf h.2.1)] at hst
          have HST := hid hst
          clear hst hd hf hpo u1 u2
          go_wp2
          go_roundw
          case rel => exact ⟨k + 1, by omega, by go_num, Bw.alloc HB.out _, B0.out.alloc _, by rw [HST.out]; exact B1.out.alloc _, by rw [HST.out]; exact B2.out.alloc _⟩
          case measure => simp [intOf]; omega
      · have q0 : (x.d == 2) = false := by simp [hd]
        rw [if_neg (fun h => hd h.1)] at hst
        have HST := hid hst
        clear hst hd hpo u1 u2
        go_wp2
        go_roundw
        case rel => exact ⟨k + 1, by omega, by go_num, Bw.alloc HB.out _, B0.out.alloc _, by rw [HST.out]; exact B1.out.alloc _, by rw [HST.out]; exact B2.out.alloc _⟩
        case measure => simp [intOf]; omega
    · have hlt2 : ¬ (k : Int) < (L.length : Int) := by omega
      obtain rfl : k = L.length := by omega
      clear hbw hb0 hb1 hb2
      rw [List.take_length] at B1 B2 u1 u2
      have hK := kindOf_lt L f t
      have hall := sumK_all hK
      obtain ⟨K, hKe⟩ : ∃ K, kindOf L f t = K := ⟨_, rfl⟩
      rw [hKe] at hK hall B1 B2 u1 u2
      have HKE := hid hKe
      clear hKe
      go_wp2
      go_loopw [11, 12, 13] (fun n bt j ws => ∃ (i : Nat), i ≤ 4 ∧ n = .int .i64 (sumK K i : Nat) ∧ bt = .int .i64 (2 ^ i : Nat) ∧ j = .int .i64 i ∧ ws = wr) (fun n bt j _ => 4 - (intOf j).toNat)
      case atStart => exact ⟨0, by omega, rfl, rfl, rfl, rfl⟩
      case round =>
        obtain ⟨i, hi, rfl, rfl, rfl, rfl⟩ := hrel
        by_cases hi4 : i < 4
        · have hi5 : (i : Int) < 4 := by omega
          have v1 := (u1 i).trans (kl_at K hi4)
          have v2 := (u2 i).trans (kr_at K hi4)
          have hle := sumK_le (K := K) (i := i) (by omega)
          have hss : sumK K (i + 1) = sumK K i + (if K.testBit i then 2 ^ i else 0) + (if K.testBit (i + 4) then 16 * 2 ^ i else 0) := rfl
          have hP8 : 2 ^ i ≤ 8 := by
            have hc : i = 0 ∨ i = 1 ∨ i = 2 ∨ i = 3 := by omega
            rcases hc with rfl | rfl | rfl | rfl <;> decide
          have hP2 : 2 ^ (i + 1) = 2 ^ i * 2 := Nat.pow_succ 2 i
          obtain ⟨P, hP⟩ : ∃ P, 2 ^ i = P := ⟨_, rfl⟩
          rw [hP] at hP8 hP2 ⊢
          have HP2 := hid hP2
          clear u1 u2 hall
          cases g1 : K.testBit i
          · cases g2 : K.testBit (i + 4)
            · skip
              have HS := hid (show sumK K (i + 1) = sumK K i + 0 + 0 by
                rw [hss, g1, g2, hP]
                rfl)
              rw [g1] at v1
              rw [g2] at v2
              clear hss g1 g2 hP2 hP
              go_wp2
              go_roundw
              case rel => exact ⟨i + 1, by omega, by rw [HS.out]; go_num, by rw [HP2.out]; go_num, by go_num, (by first | rfl | trivial)⟩
              case measure => simp [intOf]; omega
            · skip
              have HS := hid (show sumK K (i + 1) = sumK K i + 0 + 16 * P by
                rw [hss, g1, g2, hP]
                rfl)
              rw [g1] at v1
              rw [g2] at v2
              clear hss g1 g2 hP2 hP
              go_wp2
              go_roundw
              case rel => exact ⟨i + 1, by omega, by rw [HS.out]; go_num, by rw [HP2.out]; go_num, by go_num, (by first | rfl | trivial)⟩
              case measure => simp [intOf]; omega
          · cases g2 : K.testBit (i + 4)
            · skip
              have HS := hid (show sumK K (i + 1) = sumK K i + P + 0 by
                rw [hss, g1, g2, hP]
                rfl)
              rw [g1] at v1
              rw [g2] at v2
              clear hss g1 g2 hP2 hP
              go_wp2
              go_roundw
              case rel => exact ⟨i + 1, by omega, by rw [HS.out]; go_num, by rw [HP2.out]; go_num, by go_num, (by first | rfl | trivial)⟩
              case measure => simp [intOf]; omega
            · skip
              have HS := hid (show sumK K (i + 1) = sumK K i + P + 16 * P by
                rw [hss, g1, g2, hP]
                rfl)
              rw [g1] at v1
              rw [g2] at v2
              clear hss g1 g2 hP2 hP
              go_wp2
              go_roundw
              case rel => exact ⟨i + 1, by omega, by rw [HS.out]; go_num, by rw [HP2.out]; go_num, by go_num, (by first | rfl | trivial)⟩
              case measure => simp [intOf]; omega
        · have hi5 : ¬ (i : Int) < 4 := by omega
          obtain rfl : i = 4 := by omega
          rw [hall]
          go_wp2
          all_goals go_ret
          all_goals exact ⟨by rw [HKE.out]; rfl, HB.out⟩

end Go.Proofs.Ytfkcbioefdkabaa
