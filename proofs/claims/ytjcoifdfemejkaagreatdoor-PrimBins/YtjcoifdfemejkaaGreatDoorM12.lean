/- Whether two words are the same: the program's Equal. · prim: strings compared; what is the same; lengths: contracts. -/
import Derived.Test.YtjcoifdfemejkaaGreatDoorKCk
import Derived.Lib.BytesEntry
import Derived.Laws.Externs
set_option linter.unusedSimpArgs false
set_option linter.unusedVariables false
namespace Go.Proofs.YtjcoifdfemejkaaGreatDoor
open Go Go.RowKit

set_option maxHeartbeats 4000000 in
theorem equal_self (b0 : Nat) (v : Int) (w : World) : Calls Tryz.prog 27 #[.pointer (some ⟨b0, 0, none⟩), .int .u64 v, .int .u64 v] w fun e w' => e = .returned (.bool true) ∧ w' = w := by
  go_enter Tryz.func27, Tryz.ntmps27
  go_wp2
  all_goals go_ret
  all_goals exact ⟨rfl, rfl⟩

theorem by_own {w : World} {base : Nat} {v : Value} {b : List Int} (h : w.ownsRow base 5 1 v b.length (b.map (Value.int .u8))) (hb : ∀ c ∈ b, 0 ≤ c ∧ c ≤ 255) (hl : b.length ≤ 9223372036854775807) : By w v b :=
  ⟨own_sl h (fun _ _ => trivial), hb, hl⟩

theorem conv_own {w : World} {base : Nat} {v : Value} {b : List Int} (h : w.ownsRow base 5 1 v b.length (b.map (Value.int .u8))) (hb : ∀ c ∈ b, 0 ≤ c ∧ c ≤ 255) (hl : b.length ≤ 1000000) :
    (convert 46 9 v).run Tryz.prog w = .ok (.string (strOfNums b)) w := by
  have h1 := by_own h hb (by omega)
  obtain ⟨a, c, rfl⟩ := own_form h
  exact By.conv0 h1

theorem nums_back (l : List Int) (h : ∀ c ∈ l, 0 ≤ c ∧ c ≤ 255) : (strOfNums l).data.toList.map (fun u => (u.toNat : Int)) = l := by
  unfold strOfNums
  simp only [List.map_map]
  conv => rhs; rw [← List.map_id l]
  apply List.map_congr_left
  intro c hc
  have := h c hc
  simp only [Function.comp, id]
  rw [UInt8.toNat_ofNat_of_lt' (by show c.toNat < 256; omega)]
  omega

theorem nums_inj {a b : List Int} (ha : ∀ c ∈ a, 0 ≤ c ∧ c ≤ 255) (hb : ∀ c ∈ b, 0 ≤ c ∧ c ≤ 255) (h : strOfNums a = strOfNums b) : a = b := by
  rw [← nums_back a ha, ← nums_back b hb, h]

/-- Are two words the same? -/
def eqW (H : AHeap) (a b : Int) : Bool :=
  decide (a = b) || (decide (kk H a = kk H b) && ((decide (kk H a = 1) && decide ((ob H a).bytes = (ob H b).bytes)) || (decide (kk H a = 6) && (decide ((ob H a).re = (ob H b).re) && decide ((ob H a).im = (ob H b).im)))))

set_option maxRecDepth 100000 in
set_option maxHeartbeats 4000000 in
theorem bEq_any (u v : Value) (s t : ByteArray) (w : World) (hu : (convert 46 9 u).run Tryz.prog w = .ok (.string s) w) (hv : (convert 46 9 v).run Tryz.prog w = .ok (.string t) w) :
    Calls Tryz.prog 117 #[u, v] w fun e w' => e = .returned (.bool (decide (s = t))) ∧ w' = w := by
  by_cases h : s = t
  · subst h
    rw [decide_eq_true rfl]
    go_enter Tryz.func117, Tryz.ntmps117
    go_wp2
    all_goals go_ret
    all_goals exact ⟨rfl, rfl⟩
  · have hn := str_ne h
    rw [decide_eq_false h]
    go_enter Tryz.func117, Tryz.ntmps117
    go_wp2
    all_goals go_ret
    all_goals exact ⟨rfl, rfl⟩

set_option maxRecDepth 100000 in
set_option maxHeartbeats 4000000 in
theorem sameBytes_any {b0 : Nat} {H : AHeap} {bs : List Nat} (a b : Int) (ha : U a) (hb : U b) (w : World) (hp : HS w b0 H bs) (ka : kk H a = 1) (kb : kk H b = 1) :
    Calls Tryz.prog 74 #[.pointer (some ⟨b0, 0, none⟩), .int .u64 a, .int .u64 b] w fun e w' => e = .returned (.bool (decide ((ob H a).bytes = (ob H b).bytes))) ∧ Bw w w' := by
  have hoa := ob_ok (v := a) hp.ok ha (kk_ref (by omega)).2.1
  have hob := ob_ok (v := b) hp.ok hb (kk_ref (by omega)).2.1
  have HBA := hid hoa.2.2.2.2.1
  have HBB := hid hob.2.2.2.2.1
  have HLA := hid hoa.2.2.2.2.2.1
  have HLB := hid hob.2.2.2.2.2.1
  have HA := hid ha
  have HB := hid hb
  have HP := hid hp
  have KA := hid ka
  have KB := hid kb
  have HLena := hid (fun w h => len_str (b0 := b0) (H := H) (bs := bs) a ha w h ka)
  have HLenb := hid (fun w h => len_str (b0 := b0) (H := H) (bs := bs) b hb w h kb)
  have HBya := hid (fun w h => bytes_yes (b0 := b0) (H := H) (bs := bs) a ha w h ka)
  have HByb := hid (fun w h => bytes_yes (b0 := b0) (H := H) (bs := bs) b hb w h kb)
  clear hoa hob ha hb hp ka kb
  generalize (ob H a).bytes = x at HBA HLA HLena HBya
  generalize (ob H b).bytes = y at HBB HLB HLenb HByb
  by_cases hl : x.length = y.length
  · have hne : ((y.length : Int) != (x.length : Int)) = false := by rw [bne_eq_false_iff_eq]; omega
    have HD : Hid (decide (strOfNums x = strOfNums y) = decide (x = y)) := by
      show decide (strOfNums x = strOfNums y) = decide (x = y)
      by_cases h : x = y
      · rw [h]; simp
      · rw [decide_eq_false h, decide_eq_false (fun k => h (nums_inj HBA.out HBB.out k))]
    rw [← HD.out]
    clear hl
    go_enter Tryz.func74, Tryz.ntmps74
    go_wp2_with (first
      | (go_at_call_of 100 (Value.int .u64 a); refine (HLena.out _ HP.out).mono ?_; rintro e w1 ⟨rfl, hl1⟩; have HP1 := hid (HP.out.bw hl1.bw); have B1 := hid hl1.bw; clear hl1)
      | (go_at_call_of 100 (Value.int .u64 b); refine (HLenb.out _ HP1.out).mono ?_; rintro e w2 ⟨rfl, hl2⟩; have HP2 := hid (HP1.out.bw hl2.bw); have B2 := hid (Bw.trans B1.out hl2.bw); clear hl2)
      | (go_at_call_of 17 (Value.int .u64 a); refine (HBya.out _ HP2.out).mono ?_; rintro e w3 ⟨r3, rfl, ho3, hb3⟩; have HP3 := hid (HP2.out.bw hb3); have B3 := hid (Bw.trans B2.out hb3); have O3 := hid ho3; clear ho3 hb3)
      | (go_at_call_of 17 (Value.int .u64 b); refine (HByb.out _ HP3.out).mono ?_; rintro e w4 ⟨r4, rfl, ho4, hb4⟩; have B4 := hid (Bw.trans B3.out hb4); have c3 := conv_own (own_bw O3.out hb4) HBA.out HLA.out; have c4 := conv_own ho4 HBB.out HLB.out; have C3 := hid c3; have C4 := hid c4; clear ho4 hb4 c3 c4)
      | (go_at_call 117; refine (bEq_any _ _ _ _ _ C3.out C4.out).mono ?_; rintro e w' ⟨rfl, hw'⟩; subst w')
      | fail)
    all_goals go_ret
    all_goals exact ⟨rfl, B4.out⟩
  · have hne : ((y.length : Int) != (x.length : Int)) = true := by rw [bne_iff_ne]; omega
    have HD : Hid (decide (x = y) = false) := decide_eq_false (fun h => hl (by rw [h]))
    rw [HD.out]
    clear hl
    go_enter Tryz.func74, Tryz.ntmps74
    go_wp2_with (first
      | (go_at_call_of 100 (Value.int .u64 a); refine (HLena.out _ HP.out).mono ?_; rintro e w1 ⟨rfl, hl1⟩; have HP1 := hid (HP.out.bw hl1.bw); have B1 := hid hl1.bw; clear hl1)
      | (go_at_call_of 100 (Value.int .u64 b); refine (HLenb.out _ HP1.out).mono ?_; rintro e w2 ⟨rfl, hl2⟩; have B2 := hid (Bw.trans B1.out hl2.bw); clear hl2)
      | fail)
    all_goals go_ret
    all_goals exact ⟨rfl, B2.out⟩

set_option maxRecDepth 100000 in
set_option maxHeartbeats 4000000 in
theorem sameBits_any {b0 : Nat} {H : AHeap} {bs : List Nat} (a b : Int) (ha : U a) (hb : U b) (w : World) (hp : HS w b0 H bs) (ka : kk H a = 6) (kb : kk H b = 6) :
    Calls Tryz.prog 75 #[.pointer (some ⟨b0, 0, none⟩), .int .u64 a, .int .u64 b] w fun e w' => e = .returned (.bool (decide ((ob H a).re = (ob H b).re) && decide ((ob H a).im = (ob H b).im))) ∧ Bw w w' := by
  have HP := hid hp
  have HCa := hid (fun w h => cplxOf_yes (b0 := b0) (H := H) (bs := bs) a ha w h ka)
  have HCb := hid (fun w h => cplxOf_yes (b0 := b0) (H := H) (bs := bs) b hb w h kb)
  clear ha hb hp ka kb
  generalize (ob H a).re = x at HCa
  generalize (ob H a).im = y at HCa
  generalize (ob H b).re = z at HCb
  generalize (ob H b).im = t at HCb
  obtain ⟨r, hr⟩ : ∃ r, r = decide (x = z) := ⟨_, rfl⟩
  obtain ⟨q, hq⟩ : ∃ q, q = decide (y = t) := ⟨_, rfl⟩
  have h1 : (x == z) = r := by rw [hr]; by_cases h : x = z <;> simp [h]
  have h2 : (y == t) = q := by rw [hq]; by_cases h : y = t <;> simp [h]
  rw [← hr, ← hq]
  clear hr hq
  cases r <;> cases q
  all_goals
    go_enter Tryz.func75, Tryz.ntmps75
    go_wp2_with (first
      | (go_at_call_of 88 (Value.int .u64 a); refine (HCa.out _ HP.out).mono ?_; rintro e w1 ⟨rfl, hl1⟩; have HP1 := hid (HP.out.bw hl1.bw); have B1 := hid hl1.bw; clear hl1)
      | (go_at_call_of 88 (Value.int .u64 b); refine (HCb.out _ HP1.out).mono ?_; rintro e w2 ⟨rfl, hl2⟩; have B2 := hid (Bw.trans B1.out hl2.bw); clear hl2)
      | fail)
    all_goals go_ret
    all_goals exact ⟨rfl, B2.out⟩

set_option maxRecDepth 100000 in
set_option maxHeartbeats 4000000 in
theorem equal_any {b0 : Nat} {H : AHeap} {bs : List Nat} (a b : Int) (ha : U a) (hb : U b) (w : World) (hp : HS w b0 H bs) :
    Calls Tryz.prog 27 #[.pointer (some ⟨b0, 0, none⟩), .int .u64 a, .int .u64 b] w fun e w' => e = .returned (.bool (eqW H a b)) ∧ Bw w w' := by
  by_cases hab : a = b
  · subst hab
    have : eqW H a a = true := by unfold eqW; simp
    rw [this]
    exact (equal_self b0 a w).mono (fun e w' h => ⟨h.1, by rw [h.2]; exact Bw.refl _⟩)
  · have hab1 : (a == b) = false := by rw [beq_eq_false_iff_ne]; exact hab
    have HA := hid ha
    have HB := hid hb
    have HP := hid hp
    by_cases hk : kk H a = kk H b
    · have hk1 : (kk H a != kk H b) = false := by rw [bne_eq_false_iff_eq]; exact hk
      by_cases k1 : kk H a = 1
      · have e : eqW H a b = decide ((ob H a).bytes = (ob H b).bytes) := by unfold eqW; rw [decide_eq_false hab, decide_eq_true hk, decide_eq_true k1, decide_eq_false (show ¬ kk H a = 6 by omega)]; simp
        rw [e]
        have HS1 := hid (sameBytes_any a b ha hb w hp k1 (hk ▸ k1))
        have t1 : (kk H a == 1) = true := by rw [k1]; rfl
        generalize decide ((ob H a).bytes = (ob H b).bytes) = r at HS1
        clear ha hb hp hab hk k1 e
        go_enter Tryz.func27, Tryz.ntmps27
        go_wp2_with (first
          | (go_at_call_of 49 (Value.int .u64 a); refine (kind_hs9 _ HA.out _ HP.out).mono ?_; rintro e w' ⟨rfl, hw'⟩; subst w')
          | (go_at_call_of 49 (Value.int .u64 b); refine (kind_hs9 _ HB.out _ HP.out).mono ?_; rintro e w' ⟨rfl, hw'⟩; subst w')
          | (go_at_call 74; refine HS1.out.mono ?_; rintro e w1 ⟨rfl, hb1⟩; have B1 := hid hb1; clear hb1)
          | fail)
        all_goals go_ret
        all_goals exact ⟨rfl, B1.out⟩
      · have t1 : (kk H a == 1) = false := by rw [beq_eq_false_iff_ne]; exact k1
        by_cases k6 : kk H a = 6
        · have e : eqW H a b = (decide ((ob H a).re = (ob H b).re) && decide ((ob H a).im = (ob H b).im)) := by unfold eqW; rw [decide_eq_false hab, decide_eq_true hk, decide_eq_false k1, decide_eq_true k6]; simp
          rw [e]
          have HS1 := hid (sameBits_any a b ha hb w hp k6 (hk ▸ k6))
          have t6 : (kk H a == 6) = true := by rw [k6]; rfl
          generalize (decide ((ob H a).re = (ob H b).re) && decide ((ob H a).im = (ob H b).im)) = r at HS1
          clear ha hb hp hab hk k1 k6 e
          go_enter Tryz.func27, Tryz.ntmps27
          go_wp2_with (first
            | (go_at_call_of 49 (Value.int .u64 a); refine (kind_hs9 _ HA.out _ HP.out).mono ?_; rintro e w' ⟨rfl, hw'⟩; subst w')
            | (go_at_call_of 49 (Value.int .u64 b); refine (kind_hs9 _ HB.out _ HP.out).mono ?_; rintro e w' ⟨rfl, hw'⟩; subst w')
            | (go_at_call 75; refine HS1.out.mono ?_; rintro e w1 ⟨rfl, hb1⟩; have B1 := hid hb1; clear hb1)
            | fail)
          all_goals go_ret
          all_goals exact ⟨rfl, B1.out⟩
        · have t6 : (kk H a == 6) = false := by rw [beq_eq_false_iff_ne]; exact k6
          have e : eqW H a b = false := by unfold eqW; rw [decide_eq_false hab, decide_eq_false k1, decide_eq_false k6]; simp
          rw [e]
          clear ha hb hp hab hk k1 k6 e
          go_enter Tryz.func27, Tryz.ntmps27
          go_wp2_with (first
            | (go_at_call_of 49 (Value.int .u64 a); refine (kind_hs9 _ HA.out _ HP.out).mono ?_; rintro e w' ⟨rfl, hw'⟩; subst w')
            | (go_at_call_of 49 (Value.int .u64 b); refine (kind_hs9 _ HB.out _ HP.out).mono ?_; rintro e w' ⟨rfl, hw'⟩; subst w')
            | fail)
          all_goals go_ret
          all_goals exact ⟨rfl, Bw.refl _⟩
    · have hk1 : (kk H a != kk H b) = true := by rw [bne_iff_ne]; exact hk
      have e : eqW H a b = false := by unfold eqW; rw [decide_eq_false hab, decide_eq_false hk]; simp
      rw [e]
      clear ha hb hp hab hk e
      go_enter Tryz.func27, Tryz.ntmps27
      go_wp2_with (first
        | (go_at_call_of 49 (Value.int .u64 a); refine (kind_hs9 _ HA.out _ HP.out).mono ?_; rintro e w' ⟨rfl, hw'⟩; subst w')
        | (go_at_call_of 49 (Value.int .u64 b); refine (kind_hs9 _ HB.out _ HP.out).mono ?_; rintro e w' ⟨rfl, hw'⟩; subst w')
        | fail)
      all_goals go_ret
      all_goals exact ⟨rfl, Bw.refl _⟩

end Go.Proofs.YtjcoifdfemejkaaGreatDoor

set_option linter.unusedSimpArgs false
set_option linter.unusedVariables false
namespace Go.Proofs.YtjcoifdfemejkaaGreatDoor
open Go Go.RowKit

theorem less_cmp : ∀ (a b : List UInt8), Op.bytesLess a b = decide (Lib.compareBytes a b < 0)
  | [], [] => rfl
  | [], _ :: _ => rfl
  | _ :: _, [] => rfl
  | x :: a, y :: b => by
    have ih := less_cmp a b
    unfold Op.bytesLess Lib.compareBytes
    by_cases h : x < y
    · simp [h]
    · by_cases h2 : y < x
      · have hne : x ≠ y := fun e => by subst e; exact absurd h2 h
        simp [h, h2, hne]
      · have he : x = y := UInt8.le_antisymm (UInt8.not_lt.1 h2) (UInt8.not_lt.1 h)
        subst he
        simp [h, ih]

theorem cmp_self : ∀ (a : List UInt8), Lib.compareBytes a a = 0
  | [] => rfl
  | x :: a => by
    have hlt : ¬ x < x := UInt8.lt_irrefl x
    unfold Lib.compareBytes
    simp [hlt, cmp_self a]

section
variable {w w' : World}

theorem bytesOf_run {a : Option Addr} {cap : Nat} {b : List Int} (h : By w (.slice a b.length cap) b) : (Extern.Bytes.bytesOf (.slice a b.length cap)).run Tryz.prog w = .ok (strOfNums b) w := by
  cases a with
  | none =>
    have h0 : b.length = 0 := by
      obtain ⟨_, a', cap', e, hn, _⟩ := h.1
      cases e
      have := hn.2 rfl
      have := hn.1
      omega
    have : b = [] := List.eq_nil_of_length_eq_zero h0
    subst this
    rfl
  | some ad =>
    have hl := Lib.run_loadBytesX (P := Tryz.prog) w b ad .empty (fun j x hj => by
      have hjl : j < b.length := (List.getElem?_eq_some_iff.1 hj).1
      obtain ⟨bb, off, e, _, hc⟩ := h.1.at hjl
      cases e
      have e : (⟨bb, off, none⟩ : Addr).add j = ⟨bb, off + j, none⟩ := by unfold Addr.add; split <;> simp_all
      rw [e, hc]
      simp [hj])
    show (Extern.Bytes.loadBytes ad b.length .empty).run Tryz.prog w = _
    rw [hl]
    congr 1
    apply ByteArray.ext
    simp [strOfNums, Lib.bytesOf]

def cmpB (x y : List Int) : Int := Lib.compareBytes (strOfNums x).data.toList (strOfNums y).data.toList

set_option maxRecDepth 100000 in
set_option maxHeartbeats 1000000 in
theorem bCmp_any {a1 a2 : Option Addr} {c1 c2 : Nat} (x y : List Int) (hx : By w (.slice a1 x.length c1) x) (hy : By w (.slice a2 y.length c2) y) :
    Calls Tryz.prog 91 #[.slice a1 x.length c1, .slice a2 y.length c2] w fun e w' => e = .returned (.int .i64 (cmpB x y)) ∧ w' = w := by
  have hr : (callFunc 122 #[.slice a1 x.length c1, .slice a2 y.length c2]).run Tryz.prog w = .ok (.value (.int .i64 (cmpB x y))) w := by
    rw [run_callFunc_extern Tryz.func122 (by kernel_rfl) (by kernel_rfl) (by kernel_rfl) (e := Extern.BytealgCompare.compare) (by kernel_rfl)]
    have : (Extern.BytealgCompare.compare #[.slice a1 x.length c1, .slice a2 y.length c2]).run Tryz.prog w = .ok (.int .i64 (cmpB x y)) w := by
      change Sem.run Tryz.prog (do pure (goInt (Extern.BytealgCompare.cmp (← Extern.Bytes.bytesOf (.slice a1 x.length c1)) (← Extern.Bytes.bytesOf (.slice a2 y.length c2))))) w = _
      simp only [Sem.run_bind, Sem.run_pure, bytesOf_run hx, bytesOf_run hy, Result.andThen]
      rw [Lib.cmp_eq]
      rfl
    rw [this]
    rfl
  generalize cmpB x y = q at hr ⊢
  clear hx hy
  go_enter Tryz.func91, Tryz.ntmps91
  go_wp2
  all_goals go_ret
  all_goals exact ⟨rfl, rfl⟩

end

end Go.Proofs.YtjcoifdfemejkaaGreatDoor

