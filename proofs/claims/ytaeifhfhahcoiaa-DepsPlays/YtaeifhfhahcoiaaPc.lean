/- Clone, find, namesEachOnce: contracts. -/
import Derived.Test.YtaeifhfhahcoiaaPb
import Derived.Lib.SliceRun
set_option linter.unusedSimpArgs false
set_option linter.unusedVariables false
namespace Go.Proofs.Ytaeifhfhahcoiaa
open Go Go.RowKit

theorem Sl.nil_of {w : World} {G : Nat → Prop} {n size c : Nat} {cs : List Value} (h : Sl w G (.slice none n c) n size cs) : n = 0 ∧ c = 0 := by
  obtain ⟨_, a, cap, e, hn, _⟩ := h
  cases e
  obtain rfl := hn.2 rfl
  exact ⟨by omega, rfl⟩

set_option maxRecDepth 100000 in
set_option maxHeartbeats 1000000 in
theorem clone_any {G : Nat → Prop} {w : World} (v : Value) (l : List (Int × Int)) (hs : Sl w G v l.length 2 (depC l)) (hm : l.length ≤ 1000) :
    Calls Try.prog 31 #[v] w fun e w' => ∃ r, e = .returned r ∧ w'.ownsRow w.heap.size 61 2 r l.length (depC l) ∧ Bw w w' := by
  obtain ⟨a, c, rfl⟩ := hs.form
  obtain ⟨i2, hi2, hz2, hs2, hy2⟩ := info_parts infoDp
  have I2 := hid (And.intro hi2 (And.intro hz2 (And.intro hs2 hy2)))
  have HS := hid hs
  clear hs hi2 hz2 hs2 hy2
  have qT : ∀ (w : World) (a : Option Addr) (n c n' c' : Nat), (binOp .eql 37 (.slice a n c) (.slice none n' c')).run Try.prog w = .ok (.bool a.isNone) w := fun w a n c n' c' => Lib.run_eql_slice_nil w _ _ a n c n' c' Try.underlying37
  cases a with
  | none =>
    obtain ⟨h0, h1⟩ := HS.out.nil_of
    have hl : l = [] := List.eq_nil_of_length_eq_zero h0
    subst hl
    clear h0 h1
    go_enter Try.func31, Try.ntmps31
    go_wp2
    all_goals go_ret
    all_goals exact ⟨_, rfl, World.ownsRow_nil w _ _ _, Bw.refl _⟩
  | some a =>
    obtain ⟨n, hn⟩ : ∃ n, l.length = n := ⟨_, rfl⟩
    have HN := hid hn
    rw [hn] at HS hm
    obtain ⟨x, hx⟩ : ∃ x, x = (Value.slice (some a) n c) := ⟨_, rfl⟩
    clear hn
    go_enter Try.func31, Try.ntmps31
    rw [HN.out]
    go_wp2_with (first
      | (at_builtin; refine wpList_append_sl _ rfl _ _ 37 rfl w.heap.size 61 i2 _ 2 16 Try.underlying37 I2.out.1 I2.out.2.1 I2.out.2.2.1 I2.out.2.2.2 rfl (by decide) (.slice (some ⟨w.heap.size, 0, none⟩) 0 0) 0 [] rfl (own_empty _ _ _ _ _ rfl (Nat.le_refl _)) (.slice (some a) n c) n (depC l) rfl (HS.out.below (Bw.alloc (Bw.refl _) _)) (depC_one l) ?c3 ?c4 ?c5 ?_)
      | fail)
    case c3 => unfold maxLen; omega
    case c4 => omega
    case c5 => simp only [World.size_alloc]; omega
    intro v' w2 hown hgr
    have HW := hid (bw_grownAt (Bw.alloc (Bw.refl w) (.cells #[] 61)) hgr (Nat.le_refl _))
    have HO := hid hown
    clear hgr hown
    go_wp2
    all_goals go_ret
    all_goals exact ⟨_, rfl, HO.out, HW.out⟩


set_option maxRecDepth 100000 in
set_option maxHeartbeats 1000000 in
theorem findV {w : World} {p F G : Nat} {bs : List Nat} {rv : Value} {L : List (VV × Value)} (h : DS w p bs F G rv L) (f : Int) :
    Calls Try.prog 30 #[.pointer (some ⟨p, 0, none⟩), .iface 81 (.int .i64 f)] w fun e w' => ∃ r, e = .returned r ∧ w'.ownsRow w.heap.size 3 1 r (all (vof f) (L.map Prod.fst)).length (ints (all (vof f) (L.map Prod.fst))) ∧ Bw w w' := by
  have HP := hid h
  have c2 := h.blk.cell 2
  simp only [List.getElem?_toArray, List.getElem?_cons_zero, List.getElem?_cons_succ] at c2
  have hlp := h.blk.lt
  have HC := hid (fun (w1 : World) (hb : Bw w w1) => placesV f rv L w1 (own_sl (G := fun _ => True) (h.bw hb).row (fun _ _ => trivial)) h.big.1 (hid (show ∀ q ∈ L, Sl w1 (fun _ => True) q.2 q.1.on.length 2 (depC q.1.on) ∧ nmsP G q.1.on q.1.on.length ∧ q.1.on.length ≤ 1000 from fun q hq => ⟨((h.bw hb).ons q hq).keep (Nat.le_refl _) (fun _ _ _ => rfl) (fun _ _ _ => trivial), h.once q hq, h.big.2 q hq⟩)))
  have hmf : ∀ (fn : Fn) (first cap : Array Value) (w : World), (Instr.makeFunc fn first cap).run Try.prog w = .ok (.func fn first cap) w := fun _ _ _ _ => rfl
  clear h
  go_enter Try.func30, Try.ntmps30
  go_wp2
  go_region_with (go_at_call 32; refine (HC.out _ (by repeat (first | exact Bw.refl _ | apply Bw.alloc | apply Bw.drewN | apply Bw.drew))).mono ?_; rintro e w1 ⟨r, rfl, ho, hb⟩; obtain ⟨ar, cr, e⟩ := own_form ho; subst e; have HO := hid ho; have HB := hid (Bw.trans (a := w) (by repeat (first | exact Bw.refl _ | apply Bw.alloc | apply Bw.drewN | apply Bw.drew)) hb); clear ho hb)
  all_goals go_wp2
  all_goals go_ret
  all_goals exact ⟨_, rfl, HO.out, HB.out⟩

set_option maxRecDepth 100000 in
set_option maxHeartbeats 1000000 in
theorem findA {w : World} {p F G : Nat} {bs : List Nat} {rv : Value} {L : List (VV × Value)} (h : DS w p bs F G rv L) (f : Int) :
    Calls Try.prog 30 #[.pointer (some ⟨p, 0, none⟩), .iface 82 (.int .i64 f)] w fun e w' => ∃ r, e = .returned r ∧ w'.ownsRow w.heap.size 3 1 r (all (aof f) (L.map Prod.fst)).length (ints (all (aof f) (L.map Prod.fst))) ∧ Bw w w' := by
  have HP := hid h
  have c2 := h.blk.cell 2
  simp only [List.getElem?_toArray, List.getElem?_cons_zero, List.getElem?_cons_succ] at c2
  have hlp := h.blk.lt
  have HC := hid (fun (w1 : World) (hb : Bw w w1) => placesA f rv L w1 (own_sl (G := fun _ => True) (h.bw hb).row (fun _ _ => trivial)) h.big.1 (hid (show ∀ q ∈ L, Sl w1 (fun _ => True) q.2 q.1.on.length 2 (depC q.1.on) ∧ nmsP G q.1.on q.1.on.length ∧ q.1.on.length ≤ 1000 from fun q hq => ⟨((h.bw hb).ons q hq).keep (Nat.le_refl _) (fun _ _ _ => rfl) (fun _ _ _ => trivial), h.once q hq, h.big.2 q hq⟩)))
  have hmf : ∀ (fn : Fn) (first cap : Array Value) (w : World), (Instr.makeFunc fn first cap).run Try.prog w = .ok (.func fn first cap) w := fun _ _ _ _ => rfl
  clear h
  go_enter Try.func30, Try.ntmps30
  go_wp2
  go_region_with (go_at_call 32; refine (HC.out _ (by repeat (first | exact Bw.refl _ | apply Bw.alloc | apply Bw.drewN | apply Bw.drew))).mono ?_; rintro e w1 ⟨r, rfl, ho, hb⟩; obtain ⟨ar, cr, e⟩ := own_form ho; subst e; have HO := hid ho; have HB := hid (Bw.trans (a := w) (by repeat (first | exact Bw.refl _ | apply Bw.alloc | apply Bw.drewN | apply Bw.drew)) hb); clear ho hb)
  all_goals go_wp2
  all_goals go_ret
  all_goals exact ⟨_, rfl, HO.out, HB.out⟩

set_option maxRecDepth 100000 in
set_option maxHeartbeats 1000000 in
theorem findW {w : World} {p F G : Nat} {bs : List Nat} {rv : Value} {L : List (VV × Value)} (h : DS w p bs F G rv L) (g v : Int) :
    Calls Try.prog 30 #[.pointer (some ⟨p, 0, none⟩), .iface 85 (.agg #[.int .i64 g, .int .u64 v])] w fun e w' => ∃ r, e = .returned r ∧ w'.ownsRow w.heap.size 3 1 r (all (hit g v) (L.map Prod.fst)).length (ints (all (hit g v) (L.map Prod.fst))) ∧ Bw w w' := by
  have HP := hid h
  have c2 := h.blk.cell 2
  simp only [List.getElem?_toArray, List.getElem?_cons_zero, List.getElem?_cons_succ] at c2
  have hlp := h.blk.lt
  have HC := hid (fun (w1 : World) (hb : Bw w w1) => placesW g v rv L w1 (own_sl (G := fun _ => True) (h.bw hb).row (fun _ _ => trivial)) h.big.1 (hid (show ∀ q ∈ L, Sl w1 (fun _ => True) q.2 q.1.on.length 2 (depC q.1.on) ∧ nmsP G q.1.on q.1.on.length ∧ q.1.on.length ≤ 1000 from fun q hq => ⟨((h.bw hb).ons q hq).keep (Nat.le_refl _) (fun _ _ _ => rfl) (fun _ _ _ => trivial), h.once q hq, h.big.2 q hq⟩)))
  have hmf : ∀ (fn : Fn) (first cap : Array Value) (w : World), (Instr.makeFunc fn first cap).run Try.prog w = .ok (.func fn first cap) w := fun _ _ _ _ => rfl
  clear h
  go_enter Try.func30, Try.ntmps30
  go_wp2
  go_region_with (go_at_call 32; refine (HC.out _ (by repeat (first | exact Bw.refl _ | apply Bw.alloc | apply Bw.drewN | apply Bw.drew))).mono ?_; rintro e w1 ⟨r, rfl, ho, hb⟩; obtain ⟨ar, cr, e⟩ := own_form ho; subst e; have HO := hid ho; have HB := hid (Bw.trans (a := w) (by repeat (first | exact Bw.refl _ | apply Bw.alloc | apply Bw.drewN | apply Bw.drew)) hb); clear ho hb)
  all_goals go_wp2
  all_goals go_ret
  all_goals exact ⟨_, rfl, HO.out, HB.out⟩

/-- Is this global among the first k? -/
def seen (l : List (Int × Int)) (k : Nat) (i : Int) : Bool := (l.take k).any (fun y => y.1 == i)
theorem seen_zero (l : List (Int × Int)) (i : Int) : seen l 0 i = false := rfl
theorem seen_succ (l : List (Int × Int)) {k : Nat} (h : k < l.length) (i : Int) : seen l (k + 1) i = (seen l k i || l[k].1 == i) := by
  unfold seen
  rw [List.take_add_one, List.getElem?_eq_getElem h, List.any_append]
  simp
theorem seen_no {l : List (Int × Int)} {k : Nat} {i : Int} (h : seen l k i = false) (j : Nat) (hj : j < k) (hl : j < l.length) : l[j].1 ≠ i := by
  intro e
  unfold seen at h
  rw [List.any_eq_false] at h
  exact h (l[j]) (by rw [List.mem_take_iff_getElem]; exact ⟨j, by omega, rfl⟩) (by simp [e])
theorem seen_yes {l : List (Int × Int)} {k : Nat} {i : Int} (h : seen l k i = true) : ∃ j, ∃ hl : j < l.length, j < k ∧ l[j].1 = i := by
  unfold seen at h
  rw [List.any_eq_true] at h
  obtain ⟨y, hy, e⟩ := h
  rw [List.mem_take_iff_getElem] at hy
  obtain ⟨j, hj, rfl⟩ := hy
  exact ⟨j, by omega, by omega, by simpa using e⟩

theorem underBs : Try.prog.underlying 58 = some (.slice 4) := by kernel_rfl
/-- A row of marks made. -/
theorem made_b (n : Nat) (h : n ≤ 1024) : ∃ cur : Array Value, (∀ w : World, (Instr.makeSlice 58 (.int .i64 n) (.int .i64 n)).run Try.prog w = .ok (.slice (some ⟨w.heap.size, 0, none⟩) n n) (w.alloc (.cells cur 4))) ∧ cur.size = n ∧ ∀ i : Nat, i < n → cur[i]? = some (.bool false) := by
  obtain ⟨i, hi, e⟩ := Option.map_eq_some_iff.1 infoBo
  simp only [Prod.mk.injEq] at e
  refine ⟨madeCells #[.bool false] n, fun w => ?_, size_madeCells _ _, fun j hj => ?_⟩
  · have := run_makeSlice (P := Try.prog) (w := w) 58 4 i _ underBs hi e.1 .i64 .i64 (n : Int) (n : Int) (by omega) (by omega) (by rw [e.2.1]; omega) (by rw [e.2.2]; omega) (by omega)
    rw [this, e.2.1]
    simp [Value.cells]
  · simp [madeCells, hj, Nat.mod_one]

set_option maxRecDepth 100000 in
set_option maxHeartbeats 1000000 in
theorem once_any {w : World} {p F G : Nat} {bs : List Nat} {rv : Value} {L : List (VV × Value)} (h : DS w p bs F G rv L) (hG : G ≤ 1024) {GG : Nat → Prop} (v : Value) (l : List (Int × Int)) (hs : Sl w GG v l.length 2 (depC l)) (hm : l.length ≤ 1000000) :
    Calls Try.prog 29 #[.pointer (some ⟨p, 0, none⟩), v] w fun e w' => e = .returned (.bool (nms G l)) ∧ Bw w w' := by
  have HP := hid h
  obtain ⟨a, c, rfl⟩ := hs.form
  have HS := hid hs
  have c1 := h.blk.cell 1
  simp only [List.getElem?_toArray, List.getElem?_cons_zero, List.getElem?_cons_succ] at c1
  have hlp := h.blk.lt
  obtain ⟨CB, mb, b1, b2⟩ := made_b G hG
  have B2 := hid b2
  have B1 := hid b1
  clear h hs b1 b2
  go_enter Try.func29, Try.ntmps29
  go_wp2
  go_loopw [15] (fun j wr => ∃ (k : Nat) (cur : Array Value), k ≤ l.length ∧ j = .int .i64 k ∧ Bw w wr ∧ Blk wr w.heap.size cur 4 ∧ cur.size = G ∧ (∀ i : Nat, i < G → cur[i]? = some (.bool (seen l k i))) ∧ nmsP G l k) (fun j _ => l.length - (intOf j).toNat)
  case atStart => exact ⟨0, CB, by omega, rfl, Bw.alloc (Bw.refl w) _, Blk.new w _ _, B1.out, B2.out, nmsP_zero G l⟩
  case round =>
    obtain ⟨k, cur, hk, rfl, hbw, hblk, hsz, hcur, hn⟩ := hrel
    have HB := hid hbw
    have HK := hid hblk
    have HC := hid hcur
    have HZ := hid hsz
    have HN := hid hn
    have hlk := hblk.lt
    have hfz := hblk.free
    by_cases h4 : k < l.length
    · have h4' : (k : Int) < (l.length : Int) := by omega
      have hps := (HP.out.bw hbw).blk.cell 1
      simp only [List.getElem?_toArray, List.getElem?_cons_zero, List.getElem?_cons_succ] at hps
      have hlp2 := (HP.out.bw hbw).blk.lt
      obtain ⟨b, o, e, hlb, _, hc⟩ := (HS.out.below hbw).cellAt (by omega)
      subst e
      obtain ⟨q0, q1⟩ := depC_get l k h4
      have x0 := (hc (k * 2) (by omega)).trans q0
      have x1 := (hc (k * 2 + 1) (by omega)).trans q1
      rw [← Nat.add_assoc] at x1
      have HSS := hid (fun i => seen_succ l h4 i)
      have HNo := hid (fun (hh : oneOf l[k].1 G = false) => nms_no (G := G) (l := l) (fun hp => by
        have := (hp k h4 h4).1
        rw [oneOf_yes this.1 this.2] at hh
        cases hh))
      have HNs := hid (fun (hh : seen l k l[k].1 = true) => nms_no (G := G) (l := l) (fun hp => by
        obtain ⟨j, hj, hjk, e⟩ := seen_yes hh
        exact (hp k h4 h4).2 j hjk e))
      have HNy := hid (fun (h1 : oneOf l[k].1 G = true) (h2 : seen l k l[k].1 = false) => nmsP_succ HN.out h4 (oneOf_iff.1 h1) (fun j hj => seen_no h2 j hj (by omega)))
      obtain ⟨y1, hy1⟩ : ∃ y1, l[k].1 = y1 := ⟨_, rfl⟩
      obtain ⟨y2, hy2⟩ : ∃ y2, l[k].2 = y2 := ⟨_, rfl⟩
      rw [hy1] at x0 HSS HNo HNs HNy
      rw [hy2] at x1
      clear hc q0 q1 hy1 hy2 hbw hblk hsz hcur hn
      cases h1 : oneOf y1 G
      · have HR := hid (HNo.out h1)
        have ho1 := fun w => h1 ▸ one_any y1 G w
        go_wp2
        go_quiet (first | (go_at_call 28; refine Calls.quiet_of_same (ho1 _)))
        go_wp2
        all_goals go_ret
        all_goals exact ⟨by rw [HR.out]; rfl, Bw.drewN (Bw.alloc HB.out _) _⟩
      · obtain ⟨z1, z2⟩ := oneOf_iff.1 h1
        obtain ⟨n1, rfl⟩ : ∃ n1 : Nat, y1 = n1 := ⟨y1.toNat, by omega⟩
        have z3 : n1 < G := by omega
        have ho1 := fun w => h1 ▸ one_any n1 G w
        have d0 := (HK.out.cell n1).trans (HC.out n1 z3)
        cases h2 : seen l k n1
        · have HR := hid (HNy.out h1 h2)
          rw [h2] at d0
          go_wp2
          go_quiet (first | (go_at_call 28; refine Calls.quiet_of_same (ho1 _)))
          go_wp2
          go_roundw
          case rel => exact ⟨k + 1, cur.setIfInBounds n1 (.bool true), by omega, by go_num, Bw.drewN (Bw.alloc (Bw.setCell HB.out (Nat.le_refl _) _) _) _, ((HK.out.set n1 _).alloc _).drewN _, by simp [HZ.out], fun i hi => by
            rw [HSS.out, Array.getElem?_setIfInBounds]
            by_cases e : n1 = i
            · subst e; simp [HZ.out, z3]
            · have e2 : ((n1 : Int) == (i : Int)) = false := by simp; omega
              rw [if_neg e, e2, Bool.or_false, HC.out i hi], HR.out⟩
          case measure => simp [intOf]; omega
        · have HR := hid (HNs.out h2)
          rw [h2] at d0
          go_wp2
          go_quiet (first | (go_at_call 28; refine Calls.quiet_of_same (ho1 _)))
          go_wp2
          all_goals go_ret
          all_goals exact ⟨by rw [HR.out]; rfl, Bw.drewN (Bw.alloc HB.out _) _⟩
    · have h4' : ¬ (k : Int) < (l.length : Int) := by omega
      obtain rfl : k = l.length := by omega
      have HR := hid (nms_iff.2 HN.out)
      clear hbw hblk hsz hcur hn
      go_wp2
      all_goals go_ret
      all_goals exact ⟨by rw [HR.out]; rfl, HB.out⟩

end Go.Proofs.Ytaeifhfhahcoiaa
