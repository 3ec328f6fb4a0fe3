/- The writer: a text, a number, one of either sign: contracts. -/
import Derived.Test.YtfhnhbpmiodomaaDoorWa
import Derived.Laws.Bits128
set_option linter.unusedSimpArgs false
set_option linter.unusedVariables false
namespace Go.Proofs.YtfhnhbpmiodomaaDoor
open Go Go.RowKit

theorem nbI_small {m : Int} (h0 : 0 ≤ m) (h : m < 128) : nb m.toNat = [m] := by rw [nb_small (by omega), Int.toNat_of_nonneg h0]
theorem nbI_big {m : Int} (h : 128 ≤ m) : nb m.toNat = (m % 128 + 128) :: nb (m / 128).toNat := by
  rw [nb_big (by omega)]
  congr 1
  · omega
  · congr 1; omega

section
variable {base r : Nat} {w : World} {bs : List Int} {ok : Bool}

set_option maxRecDepth 100000 in
set_option maxHeartbeats 4000000 in
theorem wnumber_any (n : Int) (h : WB base w r bs ok) (hn : -9223372036854775808 ≤ n ∧ n ≤ 9223372036854775807) (hl : bs.length + (It.N n).b.length ≤ 4194304) :
    Calls Tryd.prog 36 #[.pointer (some ⟨r, 0, none⟩), .int .i64 n] w fun e w' => (∃ v, e = .returned v) ∧ WB base w' r (bs ++ (It.N n).b) (ok && (It.N n).ok) ∧ Wk base r w w' := by
  have HW := hid h
  by_cases hp : 0 ≤ n ∧ n ≤ 4611686018427387903
  · have hpl : pl n = true := decide_eq_true hp
    simp only [It.b, It.ok, hpl, if_true, Bool.and_true] at hl ⊢
    have HL := hid hl
    have h1 : ¬ n < 0 := by omega
    have h2 : decide (4611686018427387903 < n) = false := decide_eq_false (by omega)
    clear h hl hpl
    go_enter Tryd.func36, Tryd.ntmps36
    go_wp2
    go_loopw [1] (fun n' wr => ∃ (m : Int) (bs' : List Int), n' = .int .i64 m ∧ (0 ≤ m ∧ m ≤ 4611686018427387903) ∧ WB base wr r bs' ok ∧ Wk base r w wr ∧ bs' ++ nb m.toNat = bs ++ nb n.toNat) (fun n' _ => (intOf n').toNat)
    case atStart => exact ⟨n, bs, rfl, hp, HW.out, Wk.refl _ _ _, rfl⟩
    case round =>
      obtain ⟨m, bs', rfl, hm, hw, hk, he⟩ := hrel
      have HW' := hid hw
      have HK := hid hk
      have HE := hid he
      have hle : bs'.length + (nb m.toNat).length = bs.length + (nb n.toNat).length := by rw [← List.length_append, he, List.length_append]
      have HLE := hid (show bs'.length < 4194304 by have := HL.out; have := nb_pos m.toNat; omega)
      clear hw hk he hle
      by_cases hlt : m < 128
      · have hge : ¬ 128 ≤ m := by omega
        have hcv : m % 256 = m := by omega
        go_wp2_with (first
          | (go_at_call 58; refine (put_any _ HW'.out (by omega) HLE.out).mono ?_; rintro e w1 ⟨⟨_, rfl⟩, hw1, hk1⟩; have HW1 := hid hw1; have HK1 := hid (HK.out.trans hk1); clear hw1 hk1)
          | fail)
        all_goals go_end0
        refine ⟨⟨_, rfl⟩, HW1.out.to ?_ rfl, HK1.out⟩
        rw [← HE.out, nbI_small hm.1 hlt]
      · have hge : 128 ≤ m := by omega
        have ha := i64_and127 m
        have hcv : (m % 128 + 128) % 256 = m % 128 + 128 := by omega
        have hm1 : -9223372036854775808 ≤ m % 128 + 128 ∧ m % 128 + 128 ≤ 9223372036854775807 := by omega
        go_wp2_with (first
          | (go_at_call 58; refine (put_any (m % 128 + 128) HW'.out (by omega) HLE.out).mono ?_; rintro e w1 ⟨⟨_, rfl⟩, hw1, hk1⟩; have HW1 := hid hw1; have HK1 := hid (HK.out.trans hk1); clear hw1 hk1)
          | fail)
        go_roundw
        case rel => exact ⟨m / 128, bs' ++ [m % 128 + 128], by first | rfl | (congr 1; omega) | skip, by omega, HW1.out, HK1.out, by rw [← HE.out, nbI_big hge]; simp⟩
        case measure => simp [intOf]; omega
  · have hpl : pl n = false := decide_eq_false hp
    have hbb : bs ++ (It.N n).b = bs := by simp [It.b, hpl]
    have hok : (ok && (It.N n).ok) = false := by simp [It.ok, hpl]
    rw [hbb, hok]
    obtain ⟨v, hB, ho⟩ := h.ex
    have z := hB.cell
    have zf := hB.free
    have zl := hB.lt
    have HB := hid hB
    have HO := hid ho
    have hnk := own_not ho hB (by decide)
    have HN := hid hnk
    have fin : WB base (w.setCell ⟨r, 1, none⟩ (.bool true)) r bs false ∧ Wk base r w (w.setCell ⟨r, 1, none⟩ (.bool true)) := by
      refine ⟨⟨⟨v, by simpa using hB.set 1 (.bool true), ?_⟩, h.len, h.base, h.bytes⟩, (Wk.refl base r w).set 1 _⟩
      refine World.ownsRow.kept (by simpa using ho) (grown_set _ _ _ _) ?_
      rcases hnk with hn | hn
      · exact .inl hn
      · exact .inr hn
    have FIN := hid fin
    clear h hl hpl hB ho hnk fin hbb hok
    by_cases h0 : n < 0
    · go_enter Tryd.func36, Tryd.ntmps36
      go_wp2
      all_goals (try simp only [Exit.inBlock, Exit.then])
      all_goals refine bodyPost_ret (results_none rfl _ _ _) rfl ?_
      all_goals exact ⟨⟨_, rfl⟩, FIN.out⟩
    · have h2 : decide (4611686018427387903 < n) = true := decide_eq_true (by omega)
      clear hp
      go_enter Tryd.func36, Tryd.ntmps36
      go_wp2
      all_goals (try simp only [Exit.inBlock, Exit.then])
      all_goals refine bodyPost_ret (results_none rfl _ _ _) rfl ?_
      all_goals exact ⟨⟨_, rfl⟩, FIN.out⟩

set_option maxRecDepth 100000 in
set_option maxHeartbeats 4000000 in
theorem wsigned_any (z : Int) (h : WB base w r bs ok) (hz : -9223372036854775808 ≤ z ∧ z ≤ 9223372036854775807) (hl : bs.length + (It.Z z).b.length ≤ 4194304) :
    Calls Tryd.prog 65 #[.pointer (some ⟨r, 0, none⟩), .int .i64 z] w fun e w' => (∃ v, e = .returned v) ∧ WB base w' r (bs ++ (It.Z z).b) (ok && (It.Z z).ok) ∧ Wk base r w w' := by
  have HW := hid h
  by_cases hp : -2305843009213693952 ≤ z ∧ z ≤ 2305843009213693951
  · have hsg : sg z = true := decide_eq_true hp
    have hzp := zz_pl hsg
    have hI : (It.Z z).b = (It.N (zz z)).b ∧ (It.Z z).ok = (It.N (zz z)).ok := by simp [It.b, It.ok, hsg, hzp]
    rw [hI.1] at hl ⊢
    rw [hI.2]
    have HL := hid hl
    clear h hl hI hzp hsg
    have h1 : ¬ z < -2305843009213693952 := by omega
    have h2 : decide (2305843009213693951 < z) = false := decide_eq_false (by omega)
    by_cases h0 : z < 0
    · have e : zz z = -2 * z - 1 := by unfold zz; rw [if_pos h0]
      rw [e] at HL ⊢
      clear e
      have b1 : -9223372036854775808 ≤ -2 * z ∧ -2 * z ≤ 9223372036854775807 := by omega
      have b2 : -9223372036854775808 ≤ -2 * z - 1 ∧ -2 * z - 1 ≤ 9223372036854775807 := by omega
      go_enter Tryd.func65, Tryd.ntmps65
      go_wp2_with (first
        | (go_at_call 36; refine (wnumber_any _ HW.out b2 HL.out).mono ?_; rintro e w1 ⟨⟨_, rfl⟩, hw1, hk1⟩; have HW1 := hid hw1; have HK1 := hid hk1; clear hw1 hk1)
        | fail)
      all_goals go_end0
      all_goals exact ⟨⟨_, rfl⟩, HW1.out, HK1.out⟩
    · have e : zz z = 2 * z := by unfold zz; rw [if_neg h0]
      rw [e] at HL ⊢
      clear e
      have b2 : -9223372036854775808 ≤ 2 * z ∧ 2 * z ≤ 9223372036854775807 := by omega
      go_enter Tryd.func65, Tryd.ntmps65
      go_wp2_with (first
        | (go_at_call 36; refine (wnumber_any _ HW.out b2 HL.out).mono ?_; rintro e w1 ⟨⟨_, rfl⟩, hw1, hk1⟩; have HW1 := hid hw1; have HK1 := hid hk1; clear hw1 hk1)
        | fail)
      all_goals go_end0
      all_goals exact ⟨⟨_, rfl⟩, HW1.out, HK1.out⟩
  · have hsg : sg z = false := decide_eq_false hp
    have hbb : bs ++ (It.Z z).b = bs := by simp [It.b, hsg]
    have hok : (ok && (It.Z z).ok) = false := by simp [It.ok, hsg]
    rw [hbb, hok]
    obtain ⟨v, hB, ho⟩ := h.ex
    have zc := hB.cell
    have zf := hB.free
    have zl := hB.lt
    have hnk := own_not ho hB (by decide)
    have fin : WB base (w.setCell ⟨r, 1, none⟩ (.bool true)) r bs false ∧ Wk base r w (w.setCell ⟨r, 1, none⟩ (.bool true)) := by
      refine ⟨⟨⟨v, by simpa using hB.set 1 (.bool true), ?_⟩, h.len, h.base, h.bytes⟩, (Wk.refl base r w).set 1 _⟩
      refine World.ownsRow.kept (by simpa using ho) (grown_set _ _ _ _) ?_
      rcases hnk with hn | hn
      · exact .inl hn
      · exact .inr hn
    have FIN := hid fin
    clear h hl hsg hB ho hnk fin hbb hok
    by_cases h0 : z < -2305843009213693952
    · go_enter Tryd.func65, Tryd.ntmps65
      go_wp2
      all_goals go_end0
      all_goals exact ⟨⟨_, rfl⟩, FIN.out⟩
    · have h2 : decide (2305843009213693951 < z) = true := decide_eq_true (by omega)
      clear hp
      go_enter Tryd.func65, Tryd.ntmps65
      go_wp2
      all_goals go_end0
      all_goals exact ⟨⟨_, rfl⟩, FIN.out⟩

theorem strCells_nums (l : List Int) (h : ∀ c ∈ l, 0 ≤ c ∧ c ≤ 255) : Lib.strCells (strOfNums l) = l.map (Value.int .u8) := by
  unfold Lib.strCells
  rw [strOfNums_data, List.map_map]
  refine List.map_congr_left fun c hc => ?_
  have := h c hc
  simp only [Function.comp]
  congr 1
  rw [UInt8.toNat_ofNat']
  omega

set_option maxRecDepth 100000 in
set_option maxHeartbeats 4000000 in
theorem wtext_any (s : List Int) (h : WB base w r bs ok) (hs : ∀ c ∈ s, 0 ≤ c ∧ c ≤ 255) (hl : bs.length + s.length ≤ 4194304) :
    Calls Tryd.prog 33 #[.pointer (some ⟨r, 0, none⟩), .string (strOfNums s)] w fun e w' => (∃ v, e = .returned v) ∧ WB base w' r (bs ++ s) ok ∧ Wk base r w w' := by
  have HW := hid h
  obtain ⟨v, hB, ho⟩ := h.ex
  obtain ⟨a, cap, rfl⟩ := own_form ho
  obtain ⟨i1, hi1, hz1, hs1, hy1⟩ := info_parts infoU8
  have I1 := hid (And.intro hi1 (And.intro hz1 (And.intro hs1 hy1)))
  have z := hB.cell
  have zf := hB.free
  have zl := hB.lt
  have HB := hid hB
  have HO := hid ho
  have HL := hid hl
  have HC := hid hs
  have Z : (strOfNums s).size = s.length := strOfNums_size _
  have hb : (bs.length : Int) ≤ 4194304 := by omega
  have hlt : decide (4194304 - (bs.length : Int) < (s.length : Int)) = false := decide_eq_false (by omega)
  have HBA := hid h.base
  clear hB ho hi1 hz1 hs1 hy1 h hl hs
  have HSZ := hid (strCells_nums s HC.out)
  generalize strOfNums s = ss at *
  go_enter Tryd.func33, Tryd.ntmps33
  go_wp2_with (first
    | (at_builtin; refine Lib.wpList_append_own_string _ rfl _ _ 29 9 rfl base 5 i1 under22 under9 I1.out.1 I1.out.2.1 I1.out.2.2.1 I1.out.2.2.2 (.slice a bs.length cap) bs.length (bs.map (Value.int .u8)) rfl HO.out ss rfl (by have := HL.out; unfold maxLen; omega) (by have := HL.out; omega) (by have := HBA.out; omega) ?_; intro v' w1 hown hgr _; obtain ⟨av', cv', e⟩ := own_form hown; subst e; have b1 := Blk.grownOwn HB.out HO.out (by decide) hgr; have z1 := b1.cell; have z1f := b1.free; have z1l := b1.lt; have HB1 := hid b1; have HO1 := hid hown; have HK := hid ((Wk.refl base r w).grown HO.out hgr); clear b1 hown hgr))
  all_goals go_end0
  refine ⟨⟨_, rfl⟩, ⟨⟨_, by simpa using HB1.out.set 0 _, ?_⟩, by have := HL.out; simp; omega, HBA.out, ?_⟩, HK.out.set 0 _⟩
  · have hn := own_not HO1.out HB1.out (by decide)
    have ho := HO1.out
    rw [HSZ.out, Z, ← List.map_append] at ho
    refine World.ownsRow.kept (by simpa [Z] using ho) (grown_set _ _ _ _) ?_
    rw [← Z]
    rcases hn with hn | hn
    · exact .inl hn
    · exact .inr hn
  · intro x hx
    rcases List.mem_append.1 hx with hx | hx
    · exact HW.out.bytes x hx
    · exact HC.out x hx

end

end Go.Proofs.YtfhnhbpmiodomaaDoor
