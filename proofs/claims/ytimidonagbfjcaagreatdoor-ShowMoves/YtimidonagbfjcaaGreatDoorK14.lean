/- Whether two words are the same: the program's Equal. · Whether two words are the same: the document's Equal. · What follows for a world that is no more than is asked: its bounds; its heap's objects. -/
import Derived.Test.YtimidonagbfjcaaGreatDoorK9
import Derived.Test.YtimidonagbfjcaaGreatDoorPIbk
import Derived.Test.YtimidonagbfjcaaGreatDoorK11
import Derived.Test.YtimidonagbfjcaaGreatDoorTCk
set_option linter.unusedSimpArgs false
set_option linter.unusedVariables false
namespace Go.Proofs.YtimidonagbfjcaaGreatDoor
open Go Go.RowKit

theorem nums_back (l : List Int) (h : ∀ c ∈ l, 0 ≤ c ∧ c ≤ 255) : (strOfNums l).data.toList.map (fun u => (u.toNat : Int)) = l := by
  unfold strOfNums
  simp only [List.map_map]
  conv => rhs; rw [← List.map_id l]
  apply List.map_congr_left
  intro c hc
  have := h c hc
  simp only [Function.comp, id]
  rw [UInt8.toNat_ofNat_of_lt' (by show c.toNat < 256; omega)]
  omega

theorem nums_inj {a b : List Int} (ha : ∀ c ∈ a, 0 ≤ c ∧ c ≤ 255) (hb : ∀ c ∈ b, 0 ≤ c ∧ c ≤ 255) (h : strOfNums a = strOfNums b) : a = b := by
  rw [← nums_back a ha, ← nums_back b hb, h]

/-- Are two words the same? -/
def eqW (H : AHeap) (a b : Int) : Bool :=
  decide (a = b) || (decide (kk H a = kk H b) && ((decide (kk H a = 1) && decide ((ob H a).bytes = (ob H b).bytes)) || (decide (kk H a = 6) && (decide ((ob H a).re = (ob H b).re) && decide ((ob H a).im = (ob H b).im)))))

set_option maxRecDepth 100000 in
set_option maxHeartbeats 4000000 in
theorem bEq_any (u v : Value) (s t : ByteArray) (w : World) (hu : (convert 30 9 u).run Tryz.prog w = .ok (.string s) w) (hv : (convert 30 9 v).run Tryz.prog w = .ok (.string t) w) :
    Calls Tryz.prog 59 #[u, v] w fun e w' => e = .returned (.bool (decide (s = t))) ∧ w' = w := by
  by_cases h : s = t
  · subst h
    rw [decide_eq_true rfl]
    go_enter Tryz.func59, Tryz.ntmps59
    go_wp2
    all_goals go_ret
    all_goals exact ⟨rfl, rfl⟩
  · have hn := str_ne h
    rw [decide_eq_false h]
    go_enter Tryz.func59, Tryz.ntmps59
    go_wp2
    all_goals go_ret
    all_goals exact ⟨rfl, rfl⟩

set_option maxRecDepth 100000 in
set_option maxHeartbeats 4000000 in
theorem sameBytes_any {b0 : Nat} {H : AHeap} {bs : List Nat} (a b : Int) (ha : U a) (hb : U b) (w : World) (hp : HS w b0 H bs) (ka : kk H a = 1) (kb : kk H b = 1) :
    Calls Tryz.prog 32 #[.pointer (some ⟨b0, 0, none⟩), .int .u64 a, .int .u64 b] w fun e w' => e = .returned (.bool (decide ((ob H a).bytes = (ob H b).bytes))) ∧ Bw w w' := by
  have hoa := ob_ok (v := a) hp.ok ha (kk_ref (by omega)).2.1
  have hob := ob_ok (v := b) hp.ok hb (kk_ref (by omega)).2.1
  have HBA := hid hoa.2.2.2.2.1
  have HBB := hid hob.2.2.2.2.1
  have HLA := hid hoa.2.2.2.2.2.1
  have HLB := hid hob.2.2.2.2.2.1
  have HA := hid ha
  have HB := hid hb
  have HP := hid hp
  have KA := hid ka
  have KB := hid kb
  have HLena := hid (fun w h => len_str (b0 := b0) (H := H) (bs := bs) a ha w h ka)
  have HLenb := hid (fun w h => len_str (b0 := b0) (H := H) (bs := bs) b hb w h kb)
  have HBya := hid (fun w h => bytes_yes (b0 := b0) (H := H) (bs := bs) a ha w h ka)
  have HByb := hid (fun w h => bytes_yes (b0 := b0) (H := H) (bs := bs) b hb w h kb)
  clear hoa hob ha hb hp ka kb
  generalize (ob H a).bytes = x at HBA HLA HLena HBya
  generalize (ob H b).bytes = y at HBB HLB HLenb HByb
  by_cases hl : x.length = y.length
  · have hne : ((y.length : Int) != (x.length : Int)) = false := by rw [bne_eq_false_iff_eq]; omega
    have HD : Hid (decide (strOfNums x = strOfNums y) = decide (x = y)) := by
      show decide (strOfNums x = strOfNums y) = decide (x = y)
      by_cases h : x = y
      · rw [h]; simp
      · rw [decide_eq_false h, decide_eq_false (fun k => h (nums_inj HBA.out HBB.out k))]
    rw [← HD.out]
    clear hl
    go_enter Tryz.func32, Tryz.ntmps32
    go_wp2_with (first
      | (go_at_call_of 57 (Value.int .u64 a); refine (HLena.out _ HP.out).mono ?_; rintro e w1 ⟨rfl, hl1⟩; have HP1 := hid (HP.out.bw hl1.bw); have B1 := hid hl1.bw; clear hl1)
      | (go_at_call_of 57 (Value.int .u64 b); refine (HLenb.out _ HP1.out).mono ?_; rintro e w2 ⟨rfl, hl2⟩; have HP2 := hid (HP1.out.bw hl2.bw); have B2 := hid (Bw.trans B1.out hl2.bw); clear hl2)
      | (go_at_call_of 58 (Value.int .u64 a); refine (HBya.out _ HP2.out).mono ?_; rintro e w3 ⟨r3, rfl, ho3, hb3⟩; have HP3 := hid (HP2.out.bw hb3); have B3 := hid (Bw.trans B2.out hb3); have O3 := hid ho3; clear ho3 hb3)
      | (go_at_call_of 58 (Value.int .u64 b); refine (HByb.out _ HP3.out).mono ?_; rintro e w4 ⟨r4, rfl, ho4, hb4⟩; have B4 := hid (Bw.trans B3.out hb4); have c3 := conv_own (own_bw O3.out hb4) HBA.out HLA.out; have c4 := conv_own ho4 HBB.out HLB.out; have C3 := hid c3; have C4 := hid c4; clear ho4 hb4 c3 c4)
      | (go_at_call 59; refine (bEq_any _ _ _ _ _ C3.out C4.out).mono ?_; rintro e w' ⟨rfl, hw'⟩; subst w')
      | fail)
    all_goals go_ret
    all_goals exact ⟨rfl, B4.out⟩
  · have hne : ((y.length : Int) != (x.length : Int)) = true := by rw [bne_iff_ne]; omega
    have HD : Hid (decide (x = y) = false) := decide_eq_false (fun h => hl (by rw [h]))
    rw [HD.out]
    clear hl
    go_enter Tryz.func32, Tryz.ntmps32
    go_wp2_with (first
      | (go_at_call_of 57 (Value.int .u64 a); refine (HLena.out _ HP.out).mono ?_; rintro e w1 ⟨rfl, hl1⟩; have HP1 := hid (HP.out.bw hl1.bw); have B1 := hid hl1.bw; clear hl1)
      | (go_at_call_of 57 (Value.int .u64 b); refine (HLenb.out _ HP1.out).mono ?_; rintro e w2 ⟨rfl, hl2⟩; have B2 := hid (Bw.trans B1.out hl2.bw); clear hl2)
      | fail)
    all_goals go_ret
    all_goals exact ⟨rfl, B2.out⟩

set_option maxRecDepth 100000 in
set_option maxHeartbeats 4000000 in
theorem sameBits_any {b0 : Nat} {H : AHeap} {bs : List Nat} (a b : Int) (ha : U a) (hb : U b) (w : World) (hp : HS w b0 H bs) (ka : kk H a = 6) (kb : kk H b = 6) :
    Calls Tryz.prog 33 #[.pointer (some ⟨b0, 0, none⟩), .int .u64 a, .int .u64 b] w fun e w' => e = .returned (.bool (decide ((ob H a).re = (ob H b).re) && decide ((ob H a).im = (ob H b).im))) ∧ Bw w w' := by
  have HP := hid hp
  have HCa := hid (fun w h => cplxOf_yes (b0 := b0) (H := H) (bs := bs) a ha w h ka)
  have HCb := hid (fun w h => cplxOf_yes (b0 := b0) (H := H) (bs := bs) b hb w h kb)
  clear ha hb hp ka kb
  generalize (ob H a).re = x at HCa
  generalize (ob H a).im = y at HCa
  generalize (ob H b).re = z at HCb
  generalize (ob H b).im = t at HCb
  obtain ⟨r, hr⟩ : ∃ r, r = decide (x = z) := ⟨_, rfl⟩
  obtain ⟨q, hq⟩ : ∃ q, q = decide (y = t) := ⟨_, rfl⟩
  have h1 : (x == z) = r := by rw [hr]; by_cases h : x = z <;> simp [h]
  have h2 : (y == t) = q := by rw [hq]; by_cases h : y = t <;> simp [h]
  rw [← hr, ← hq]
  clear hr hq
  cases r <;> cases q
  all_goals
    go_enter Tryz.func33, Tryz.ntmps33
    go_wp2_with (first
      | (go_at_call_of 60 (Value.int .u64 a); refine (HCa.out _ HP.out).mono ?_; rintro e w1 ⟨rfl, hl1⟩; have HP1 := hid (HP.out.bw hl1.bw); have B1 := hid hl1.bw; clear hl1)
      | (go_at_call_of 60 (Value.int .u64 b); refine (HCb.out _ HP1.out).mono ?_; rintro e w2 ⟨rfl, hl2⟩; have B2 := hid (Bw.trans B1.out hl2.bw); clear hl2)
      | fail)
    all_goals go_ret
    all_goals exact ⟨rfl, B2.out⟩

set_option maxRecDepth 100000 in
set_option maxHeartbeats 4000000 in
theorem equal_any {b0 : Nat} {H : AHeap} {bs : List Nat} (a b : Int) (ha : U a) (hb : U b) (w : World) (hp : HS w b0 H bs) :
    Calls Tryz.prog 18 #[.pointer (some ⟨b0, 0, none⟩), .int .u64 a, .int .u64 b] w fun e w' => e = .returned (.bool (eqW H a b)) ∧ Bw w w' := by
  by_cases hab : a = b
  · subst hab
    have : eqW H a a = true := by unfold eqW; simp
    rw [this]
    exact (equal_self b0 a w).mono (fun e w' h => ⟨h.1, by rw [h.2]; exact Bw.refl _⟩)
  · have hab1 : (a == b) = false := by rw [beq_eq_false_iff_ne]; exact hab
    have HA := hid ha
    have HB := hid hb
    have HP := hid hp
    by_cases hk : kk H a = kk H b
    · have hk1 : (kk H a != kk H b) = false := by rw [bne_eq_false_iff_eq]; exact hk
      by_cases k1 : kk H a = 1
      · have e : eqW H a b = decide ((ob H a).bytes = (ob H b).bytes) := by unfold eqW; rw [decide_eq_false hab, decide_eq_true hk, decide_eq_true k1, decide_eq_false (show ¬ kk H a = 6 by omega)]; simp
        rw [e]
        have HS1 := hid (sameBytes_any a b ha hb w hp k1 (hk ▸ k1))
        have t1 : (kk H a == 1) = true := by rw [k1]; rfl
        generalize decide ((ob H a).bytes = (ob H b).bytes) = r at HS1
        clear ha hb hp hab hk k1 e
        go_enter Tryz.func18, Tryz.ntmps18
        go_wp2_with (first
          | (go_at_call_of 31 (Value.int .u64 a); refine (kind_hs4 _ HA.out _ HP.out).mono ?_; rintro e w' ⟨rfl, hw'⟩; subst w')
          | (go_at_call_of 31 (Value.int .u64 b); refine (kind_hs4 _ HB.out _ HP.out).mono ?_; rintro e w' ⟨rfl, hw'⟩; subst w')
          | (go_at_call 32; refine HS1.out.mono ?_; rintro e w1 ⟨rfl, hb1⟩; have B1 := hid hb1; clear hb1)
          | fail)
        all_goals go_ret
        all_goals exact ⟨rfl, B1.out⟩
      · have t1 : (kk H a == 1) = false := by rw [beq_eq_false_iff_ne]; exact k1
        by_cases k6 : kk H a = 6
        · have e : eqW H a b = (decide ((ob H a).re = (ob H b).re) && decide ((ob H a).im = (ob H b).im)) := by unfold eqW; rw [decide_eq_false hab, decide_eq_true hk, decide_eq_false k1, decide_eq_true k6]; simp
          rw [e]
          have HS1 := hid (sameBits_any a b ha hb w hp k6 (hk ▸ k6))
          have t6 : (kk H a == 6) = true := by rw [k6]; rfl
          generalize (decide ((ob H a).re = (ob H b).re) && decide ((ob H a).im = (ob H b).im)) = r at HS1
          clear ha hb hp hab hk k1 k6 e
          go_enter Tryz.func18, Tryz.ntmps18
          go_wp2_with (first
            | (go_at_call_of 31 (Value.int .u64 a); refine (kind_hs4 _ HA.out _ HP.out).mono ?_; rintro e w' ⟨rfl, hw'⟩; subst w')
            | (go_at_call_of 31 (Value.int .u64 b); refine (kind_hs4 _ HB.out _ HP.out).mono ?_; rintro e w' ⟨rfl, hw'⟩; subst w')
            | (go_at_call 33; refine HS1.out.mono ?_; rintro e w1 ⟨rfl, hb1⟩; have B1 := hid hb1; clear hb1)
            | fail)
          all_goals go_ret
          all_goals exact ⟨rfl, B1.out⟩
        · have t6 : (kk H a == 6) = false := by rw [beq_eq_false_iff_ne]; exact k6
          have e : eqW H a b = false := by unfold eqW; rw [decide_eq_false hab, decide_eq_false k1, decide_eq_false k6]; simp
          rw [e]
          clear ha hb hp hab hk k1 k6 e
          go_enter Tryz.func18, Tryz.ntmps18
          go_wp2_with (first
            | (go_at_call_of 31 (Value.int .u64 a); refine (kind_hs4 _ HA.out _ HP.out).mono ?_; rintro e w' ⟨rfl, hw'⟩; subst w')
            | (go_at_call_of 31 (Value.int .u64 b); refine (kind_hs4 _ HB.out _ HP.out).mono ?_; rintro e w' ⟨rfl, hw'⟩; subst w')
            | fail)
          all_goals go_ret
          all_goals exact ⟨rfl, Bw.refl _⟩
    · have hk1 : (kk H a != kk H b) = true := by rw [bne_iff_ne]; exact hk
      have e : eqW H a b = false := by unfold eqW; rw [decide_eq_false hab, decide_eq_false hk]; simp
      rw [e]
      clear ha hb hp hab hk e
      go_enter Tryz.func18, Tryz.ntmps18
      go_wp2_with (first
        | (go_at_call_of 31 (Value.int .u64 a); refine (kind_hs4 _ HA.out _ HP.out).mono ?_; rintro e w' ⟨rfl, hw'⟩; subst w')
        | (go_at_call_of 31 (Value.int .u64 b); refine (kind_hs4 _ HB.out _ HP.out).mono ?_; rintro e w' ⟨rfl, hw'⟩; subst w')
        | fail)
      all_goals go_ret
      all_goals exact ⟨rfl, Bw.refl _⟩

end Go.Proofs.YtimidonagbfjcaaGreatDoor

set_option linter.unusedSimpArgs false
set_option linter.unusedVariables false
namespace Go.Proofs.YtimidonagbfjcaaGreatDoor
open Go Go.RowKit

theorem Blk.newAt {w : World} {cur : Array Value} {e : TypeId} {g : Nat} (hg : w.heap.size = g) : Blk (w.alloc (.cells cur e)) g cur e := by
  rw [← hg]
  exact Blk.new w cur e
theorem Blk.layAt {w : World} {cur : Array Value} {e : TypeId} {g : Nat} (h : Blk w g cur e) (os : List Obj) (n : Nat) : Blk (Proofs.YtimidonagbfjcaaGreatDoor.lay w os n) g cur e := h.bw (bw_lay w os n)
theorem Blk.drw {w : World} {cur : Array Value} {e : TypeId} {g : Nat} (h : Blk w g cur e) : Blk w.drew g cur e := h

/-- Numbers' bits stand in complex numbers alone. -/
def Bare (H : AHeap) : Prop := ∀ o ∈ H.2, o.kind ≠ 6 → o.re = 0 ∧ o.im = 0

theorem ob_mem {H : AHeap} {v : Int} (hU : U v) (hk : kk H v ≠ 0) : ob H v ∈ H.2 ∧ (ob H v).kind = kk H v ∧ ∃ k : Nat, idxV v = k ∧ H.2[k]? = some (ob H v) := by
  have hr := kk_ref hk
  obtain ⟨hg, _⟩ := ob_get (H := H) hU hr.2.1
  have h0 := idx_bd v hU
  exact ⟨List.mem_of_getElem? hg, hr.2.2.symm, (idxV v).toNat, by omega, hg⟩

/-- What the document compares. -/
def eqR (x y : AObj) : Bool := decide (x.bytes = y.bytes) && (decide (x.re = y.re) && decide (x.im = y.im))

theorem eqR_eqW {H : AHeap} (hok : HOK H) (hb : Bare H) {a b : Int} (ha : U a) (hb2 : U b) (hab : ¬ a = b) (hk : kk H a = kk H b) (h16 : kk H a = 1 ∨ kk H a = 6) : eqR (ob H a) (ob H b) = eqW H a b := by
  obtain ⟨ma, ka, _⟩ := ob_mem (H := H) ha (by omega)
  obtain ⟨mb, kb, _⟩ := ob_mem (H := H) hb2 (by omega)
  unfold eqR eqW
  rw [decide_eq_false hab, decide_eq_true hk]
  rcases h16 with h | h
  · have r1 := hb _ ma (by omega)
    have r2 := hb _ mb (by omega)
    rw [decide_eq_true h, decide_eq_false (show ¬ kk H a = 6 by omega), r1.1, r1.2, r2.1, r2.2]
    simp
  · have b1 := (hok _ ma).2.1 (by omega)
    have b2 := (hok _ mb).2.1 (by omega)
    rw [decide_eq_true h, decide_eq_false (show ¬ kk H a = 1 by omega), b1, b2]
    simp









end Go.Proofs.YtimidonagbfjcaaGreatDoor

set_option linter.unusedSimpArgs false
set_option linter.unusedVariables false
namespace Go.Proofs.YtimidonagbfjcaaGreatDoor
open Go Go.RowKit

theorem big_no {o : AObj} (h : bigO o = false) : o.bytes.length ≤ 100 ∧ o.vals.length ≤ 12 ∧ o.keys.length ≤ 12 ∧ ∀ s ∈ o.keys, s.size ≤ 50 := by
  unfold bigO at h
  simp only [Bool.or_eq_false_iff, decide_eq_false_iff_not, List.any_eq_false] at h
  obtain ⟨⟨⟨h1, h2⟩, h3⟩, h4⟩ := h
  exact ⟨by omega, by omega, by omega, fun s hs => by have := h4 s hs; simp at this; omega⟩

theorem much_no4 {Os : List AObj} {Ws : List (Int × Int × Int)} (h : muchW Os Ws = false) : Os.length ≤ 30 ∧ Ws.length ≤ 30 ∧ ∀ o ∈ Os, bigO o = false := by
  unfold muchW at h
  simp only [Bool.or_eq_false_iff, decide_eq_false_iff_not, List.any_eq_false] at h
  obtain ⟨⟨h1, h2⟩, h3⟩ := h
  exact ⟨by omega, by omega, fun o ho => by have := h3 o ho; simpa using this⟩

theorem WU.wr {w : World} {ao aw : Option Addr} {Os : List AObj} {Ws : List (Int × Int × Int)} (h : WU w ao aw Os Ws) (hm : muchW Os Ws = false) : WR w ao aw Os Ws := by
  refine ⟨fun i hi => ?_, h.2⟩
  obtain ⟨b, off, x, e, hb, hc, ho⟩ := h.1 i hi
  have hg := big_no ((much_no4 hm).2.2 _ (List.getElem_mem hi))
  exact ⟨b, off, x, e, hb, hc, ho.ol, ho.u, ho.b, by omega, by omega, by omega⟩

theorem Bare.mk {H : AHeap} (h : Bare H) (o : AObj) : Bare (mkH H o) := by
  unfold mkH
  split
  · unfold aMakeH
    split
    · intro x hx hk
      rcases List.mem_append.1 hx with hx | hx
      · exact h x hx hk
      · rw [List.mem_singleton] at hx
        subst hx
        revert hk
        unfold plO
        repeat' split
        all_goals first | (intro _; exact ⟨rfl, rfl⟩) | (intro hk; exact absurd rfl hk)
    · exact h
  · exact h

theorem Bare.wr {H : AHeap} (h : Bare H) (x : Int × Int × Int) (hU : U x.1) : Bare (wrH H x) := by
  unfold wrH aSetH
  split
  · rename_i hc
    intro o ho hk
    rcases List.mem_or_eq_of_mem_set ho with ho | ho
    · exact h o ho hk
    · subst ho
      have hm := (ob_mem (H := H) hU (by omega)).1
      exact h (ob H x.1) hm hk
  · exact h

theorem foldl_bare : ∀ (Os : List AObj) (H : AHeap), Bare H → Bare (Os.foldl mkH H)
  | [], H, h => h
  | o :: r, H, h => foldl_bare r _ (h.mk o)

theorem foldl_bareW : ∀ (Ws : List (Int × Int × Int)) (H : AHeap), (∀ x ∈ Ws, U x.1) → Bare H → Bare (Ws.foldl wrH H)
  | [], H, _, h => h
  | x :: r, H, hu, h => foldl_bareW r _ (fun y hy => hu y (List.mem_cons_of_mem _ hy)) (h.wr x (hu x (List.mem_cons_self ..)))

theorem made_bare {Os : List AObj} {Ws : List (Int × Int × Int)} (hu : ∀ x ∈ Ws, U x.1) : Bare (madeH Os Ws) :=
  foldl_bareW Ws _ hu (foldl_bare Os _ (fun o ho => by simp at ho))

end Go.Proofs.YtimidonagbfjcaaGreatDoor

