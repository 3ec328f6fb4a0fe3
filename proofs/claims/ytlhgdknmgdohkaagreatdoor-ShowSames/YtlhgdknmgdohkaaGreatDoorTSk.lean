/- Whether two words are alike: the document's deep, a pair that was met; too many pairs. -/
import Derived.Test.YtlhgdknmgdohkaaGreatDoorK15
set_option linter.unusedSimpArgs false
set_option linter.unusedVariables false
namespace Go.Proofs.YtlhgdknmgdohkaaGreatDoor
open Go Go.RowKit

theorem DI.flag {w : World} {k0 : Int} {ah : Option Addr} {ch : Nat} {H : AHeap} {sb : Nat} {va vb : Value} {Ms : List (Int × Int)} {fl : Bool} (h : DI w k0 ah ch H sb va vb Ms fl) (t : Bool) : DI (w.setCell ⟨sb, 2, none⟩ (.bool t)) k0 ah ch H sb va vb Ms t ∧ DS sb w va vb (w.setCell ⟨sb, 2, none⟩ (.bool t)) va vb := by
  have hg := grown_set w sb 2 (.bool t)
  have hne : ∀ b, b < w.heap.size → b ≠ sb → (w.setCell ⟨sb, 2, none⟩ (.bool t)).heap[b]? = w.heap[b]? := fun b hb hn => hg.block b hb (fun e => hn (Option.some.inj e))
  refine ⟨⟨h.rd.keep hg.size (fun b hb hs => hne b hb (Nat.ne_of_lt hs)) (fun _ _ g => g), h.k.set 2 _, own_same h.oa (fun b hb => ?_), own_same h.ob (fun b hb => ?_), h.ne⟩, ⟨hg.os, hg.tape, hg.output, hg.size, fun b hb hn _ _ => hne b hb hn, fun _ e => .inl e, fun _ e => .inl e⟩⟩
  · exact hne b (h.oa.lt b hb).2 (by have := (h.oa.lt b hb).1; omega)
  · exact hne b (h.ob.lt b hb).2 (by have := (h.ob.lt b hb).1; omega)

set_option maxRecDepth 100000 in
set_option maxHeartbeats 8000000 in
theorem vdeep_met {k0 : Int} {ah : Option Addr} {ch : Nat} {H : AHeap} {sb : Nat} {va vb : Value} {Ms : List (Int × Int)} (hok : HOK H) (hbr : Bare H) (hm : H.2.length ≤ 1000000) (a b : Int) (ha : U a) (hb : U b) (w : World) (h : DI w k0 ah ch H sb va vb Ms false)
    (h1 : eqW H a b = false) (h2 : (kk H a != kk H b) = false) (h3 : (kk H a = 2 ∨ kk H a = 3 ∨ kk H a = 4)) (h4 : (a, b) ∈ Ms) (hml : Ms.length ≤ 1000000) :
    Calls Tryz.prog 32 #[.agg #[.int .i64 k0, .slice ah H.2.length ch], .pointer (some ⟨sb, 0, none⟩), .int .u64 a, .int .u64 b] w fun e w' => e = .returned (.bool true) ∧ Bw w w' := by
  have HI := hid h
  have HA := hid ha
  have HB := hid hb
  have HM := hid hm
  have H4 := hid h4
  obtain ⟨aa, ca, rfl⟩ := own_form h.oa
  obtain ⟨ab, cb, rfl⟩ := own_form h.ob
  have hq : ∀ w1, Bw w w1 → Calls Tryz.prog 13 #[.agg #[.int .i64 k0, .slice ah H.2.length ch], .int .u64 a, .int .u64 b] w1 fun e w' => e = .returned (.bool (eqW H a b)) ∧ Bw w1 w' := fun w1 hb1 => requal_any (fun b => b < sb) k0 ah ch H a b ha hb w1 (h.rd.below hb1) hok hbr hm
  rw [h1] at hq
  have HEQ := hid hq
  have hcs : ((kk H a != 2) = false) ∨ ((kk H a != 2) = true ∧ (kk H a != 3) = false) ∨ ((kk H a != 2) = true ∧ (kk H a != 3) = true ∧ (kk H a != 4) = false) := by
    rcases h3 with e | e | e <;> rw [e] <;> decide
  clear h ha hb hok hbr hm hq h4 h3
  rcases hcs with c2 | ⟨c2, c3⟩ | ⟨c2, c3, c4⟩
  all_goals
    go_enter Tryz.func32, Tryz.ntmps32
    go_wp2_with (first
      | (go_at_call 13; refine (HEQ.out _ (Bw.alloc (Bw.refl _) _)).mono ?_; rintro e w1 ⟨rfl, hb1⟩; have yk := (Blk.new w #[.int .i64 k0, .slice ah H.2.length ch] 32).bw hb1; have y0 : w1.cell? ⟨w.heap.size, 0, none⟩ = some (.int .i64 k0) := yk.cell 0; have y1 : w1.cell? ⟨w.heap.size, 1, none⟩ = some (.slice ah H.2.length ch) := yk.cell 1; have yl := yk.lt; have F1 := hid (Bw.trans (Bw.alloc (Bw.refl _) _) hb1); clear hb1 yk)
      | (go_at_call_of 20 (Value.int .u64 a); refine (rkindH_any (fun b => b < sb) _ H _ HA.out _ ((HI.out.bw F1.out).rd.below (by repeat (first | exact Bw.refl _ | apply Bw.lay | apply Bw.alloc | apply Bw.drewN | apply Bw.drew))) (by have := HM.out; omega)).mono ?_; rintro e w' ⟨rfl, os1, m1, rfl⟩)
      | (go_at_call_of 20 (Value.int .u64 b); refine (rkindH_any (fun b => b < sb) _ H _ HB.out _ ((HI.out.bw F1.out).rd.below (by repeat (first | exact Bw.refl _ | apply Bw.lay | apply Bw.alloc | apply Bw.drewN | apply Bw.drew))) (by have := HM.out; omega)).mono ?_; rintro e w' ⟨rfl, os2, m2, rfl⟩)
      | fail)
    go_loopw [10] (fun j wr => ∃ k : Nat, k ≤ Ms.length ∧ j = .int .i64 k ∧ Bw w wr ∧ (a, b) ∈ Ms.drop k) (fun j _ => Ms.length - (intOf j).toNat)
    case atStart => exact ⟨0, Nat.zero_le _, rfl, by repeat (first | exact F1.out | apply Bw.lay | apply Bw.alloc | apply Bw.drewN | apply Bw.drew), by simpa using H4.out⟩
    case round =>
      obtain ⟨k, hk, rfl, hbk, hin⟩ := hrel
      have hlt : k < Ms.length := by
        by_cases hlt : k < Ms.length
        · exact hlt
        · rw [List.drop_eq_nil_of_le (by omega)] at hin; simp at hin
      have hdi := HI.out.bw hbk
      have z0 : wr.cell? ⟨sb, 0, none⟩ = some (.slice aa Ms.length ca) := hdi.k.cell 0
      have z1 : wr.cell? ⟨sb, 1, none⟩ = some (.slice ab Ms.length cb) := hdi.k.cell 1
      obtain ⟨g, o, rfl, hg, hcell⟩ := (own_sl (G := fun _ => True) hdi.oa (fun _ _ => trivial)).at hlt
      obtain ⟨g', o', rfl, hg', hcell'⟩ := (own_sl (G := fun _ => True) hdi.ob (fun _ _ => trivial)).at hlt
      have hc1 : wr.cell? ⟨g, o + k, none⟩ = some (.int .u64 Ms[k].1) := by rw [hcell]; simp [hlt]
      have hc2 : wr.cell? ⟨g', o' + k, none⟩ = some (.int .u64 Ms[k].2) := by rw [hcell']; simp [hlt]
      have hb1 : (0 : Int) ≤ (k : Int) := by omega
      have hb2 : (k : Int) < (Ms.length : Int) := by omega
      have HBK := hid hbk
      rw [List.drop_eq_getElem_cons hlt] at hin
      have HIN := hid hin
      clear hin hbk hdi hcell hcell'
      generalize Ms[k] = p at hc1 hc2 HIN
      obtain ⟨p1, p2⟩ := p
      simp only at hc1 hc2
      by_cases e1 : p1 = a
      · by_cases e2 : p2 = b
        · have t1 : (p1 == a) = true := by simpa using e1
          have t2 : (p2 == b) = true := by simpa using e2
          clear e1 e2 HIN
          go_wp2
          all_goals go_ret
          all_goals exact ⟨rfl, HBK.out⟩
        · have t1 : (p1 == a) = true := by simpa using e1
          have t2 : (p2 == b) = false := by simpa using e2
          have HIN2 : Hid ((a, b) ∈ Ms.drop (k + 1)) := by
            rcases List.mem_cons.1 HIN.out with e | e
            · exact absurd (congrArg Prod.snd e).symm e2
            · exact e
          clear e1 e2 HIN
          go_wp2
          go_roundw
          case rel => exact ⟨k + 1, by omega, by go_num, HBK.out, HIN2.out⟩
          case measure => simp [intOf]; omega
      · have t1 : (p1 == a) = false := by simpa using e1
        have HIN2 : Hid ((a, b) ∈ Ms.drop (k + 1)) := by
          rcases List.mem_cons.1 HIN.out with e | e
          · exact absurd (congrArg Prod.fst e).symm e1
          · exact e
        clear e1 HIN
        go_wp2
        go_roundw
        case rel => exact ⟨k + 1, by omega, by go_num, HBK.out, HIN2.out⟩
        case measure => simp [intOf]; omega

end Go.Proofs.YtlhgdknmgdohkaaGreatDoor

