/- prim: strings compared; what is the same; lengths: contracts. · prim: comparisons, sameness, lengths: contracts. · cplx: numbers of their parts' bits, of two ints; the bits of the parts: contracts. · prim: fields read and written, keys as strings: contracts. · prim.Bin: any two words compared; sums, differences, negatives of numbers: contracts. · prim: fields and entries written, or not; worlds' heaps: what serves PrimRules. -/
import Derived.Test.YtajnpdiepiinjaaGreatDoorKC
import Derived.Test.YtajnpdiepiinjaaGreatDoorTD
import Derived.Lib.BytesEntry
import Derived.Laws.Externs
import Derived.Test.YtajnpdiepiinjaaGreatDoorFl
import Derived.Test.YtajnpdiepiinjaaGreatDoorDa
import Derived.BigQuiet
import Derived.Test.YtajnpdiepiinjaaGreatDoorTB
import Derived.Test.YtajnpdiepiinjaaGreatDoorTC
set_option linter.unusedSimpArgs false
set_option linter.unusedVariables false
namespace Go.Proofs.YtajnpdiepiinjaaGreatDoor
open Go Go.RowKit

theorem less_cmp : ∀ (a b : List UInt8), Op.bytesLess a b = decide (Lib.compareBytes a b < 0)
  | [], [] => rfl
  | [], _ :: _ => rfl
  | _ :: _, [] => rfl
  | x :: a, y :: b => by
    have ih := less_cmp a b
    unfold Op.bytesLess Lib.compareBytes
    by_cases h : x < y
    · simp [h]
    · by_cases h2 : y < x
      · have hne : x ≠ y := fun e => by subst e; exact absurd h2 h
        simp [h, h2, hne]
      · have he : x = y := UInt8.le_antisymm (UInt8.not_lt.1 h2) (UInt8.not_lt.1 h)
        subst he
        simp [h, ih]

theorem cmp_self : ∀ (a : List UInt8), Lib.compareBytes a a = 0
  | [] => rfl
  | x :: a => by
    have hlt : ¬ x < x := UInt8.lt_irrefl x
    unfold Lib.compareBytes
    simp [hlt, cmp_self a]

section
variable {w w' : World}

theorem bytesOf_run {a : Option Addr} {cap : Nat} {b : List Int} (h : By w (.slice a b.length cap) b) : (Extern.Bytes.bytesOf (.slice a b.length cap)).run Tryz.prog w = .ok (strOfNums b) w := by
  cases a with
  | none =>
    have h0 : b.length = 0 := by
      obtain ⟨_, a', cap', e, hn, _⟩ := h.1
      cases e
      have := hn.2 rfl
      have := hn.1
      omega
    have : b = [] := List.eq_nil_of_length_eq_zero h0
    subst this
    rfl
  | some ad =>
    have hl := Lib.run_loadBytesX (P := Tryz.prog) w b ad .empty (fun j x hj => by
      have hjl : j < b.length := (List.getElem?_eq_some_iff.1 hj).1
      obtain ⟨bb, off, e, _, hc⟩ := h.1.at hjl
      cases e
      have e : (⟨bb, off, none⟩ : Addr).add j = ⟨bb, off + j, none⟩ := by unfold Addr.add; split <;> simp_all
      rw [e, hc]
      simp [hj])
    show (Extern.Bytes.loadBytes ad b.length .empty).run Tryz.prog w = _
    rw [hl]
    congr 1
    apply ByteArray.ext
    simp [strOfNums, Lib.bytesOf]

def cmpB (x y : List Int) : Int := Lib.compareBytes (strOfNums x).data.toList (strOfNums y).data.toList

set_option maxRecDepth 100000 in
set_option maxHeartbeats 1000000 in
theorem bCmp_any {a1 a2 : Option Addr} {c1 c2 : Nat} (x y : List Int) (hx : By w (.slice a1 x.length c1) x) (hy : By w (.slice a2 y.length c2) y) :
    Calls Tryz.prog 118 #[.slice a1 x.length c1, .slice a2 y.length c2] w fun e w' => e = .returned (.int .i64 (cmpB x y)) ∧ w' = w := by
  have hr : (callFunc 150 #[.slice a1 x.length c1, .slice a2 y.length c2]).run Tryz.prog w = .ok (.value (.int .i64 (cmpB x y))) w := by
    rw [run_callFunc_extern Tryz.func150 (by kernel_rfl) (by kernel_rfl) (by kernel_rfl) (e := Extern.BytealgCompare.compare) (by kernel_rfl)]
    have : (Extern.BytealgCompare.compare #[.slice a1 x.length c1, .slice a2 y.length c2]).run Tryz.prog w = .ok (.int .i64 (cmpB x y)) w := by
      change Sem.run Tryz.prog (do pure (goInt (Extern.BytealgCompare.cmp (← Extern.Bytes.bytesOf (.slice a1 x.length c1)) (← Extern.Bytes.bytesOf (.slice a2 y.length c2))))) w = _
      simp only [Sem.run_bind, Sem.run_pure, bytesOf_run hx, bytesOf_run hy, Result.andThen]
      rw [Lib.cmp_eq]
      rfl
    rw [this]
    rfl
  generalize cmpB x y = q at hr ⊢
  clear hx hy
  go_enter Tryz.func118, Tryz.ntmps118
  go_wp2
  all_goals go_ret
  all_goals exact ⟨rfl, rfl⟩

end

end Go.Proofs.YtajnpdiepiinjaaGreatDoor

set_option linter.unusedSimpArgs false
set_option linter.unusedVariables false
namespace Go.Proofs.YtajnpdiepiinjaaGreatDoor
open Go Go.RowKit

/-- What a comparison answers, and its fault. -/
def cpV (op : Int) (below above : Bool) : Int := if op = 7 then bv below else if op = 8 then bv (!above) else if op = 9 then bv above else if op = 10 then bv (!below) else 0
def cpF (op : Int) : Int := if op = 7 ∨ op = 8 ∨ op = 9 ∨ op = 10 then 0 else 1

section
variable {w w' : World}

set_option maxRecDepth 100000 in
set_option maxHeartbeats 1000000 in
theorem compared_any (op : Int) (below above : Bool) : Calls Tryz.prog 110 #[.int .i64 op, .bool below, .bool above] w fun e w' => e = .returned (.tuple #[.int .u64 (cpV op below above), .int .i64 (cpF op)]) ∧ w' = w := by
  by_cases h7 : op = 7
  · subst h7
    rw [show cpF 7 = 0 from rfl, show cpV 7 below above = bv below from rfl]
    go_enter Tryz.func110, Tryz.ntmps110
    go_wp2_with (first
      | (go_at_call 17; refine (tbool_any _ _).mono ?_; rintro e w' ⟨rfl, hw'⟩; subst w')
      | fail)
    all_goals go_ret2
    all_goals exact ⟨rfl, rfl⟩
  by_cases h8 : op = 8
  · subst h8
    rw [show cpF 8 = 0 from rfl, show cpV 8 below above = bv (!above) from rfl]
    go_enter Tryz.func110, Tryz.ntmps110
    go_wp2_with (first
      | (go_at_call 17; refine (tbool_any _ _).mono ?_; rintro e w' ⟨rfl, hw'⟩; subst w')
      | fail)
    all_goals go_ret2
    all_goals exact ⟨rfl, rfl⟩
  by_cases h9 : op = 9
  · subst h9
    rw [show cpF 9 = 0 from rfl, show cpV 9 below above = bv above from rfl]
    go_enter Tryz.func110, Tryz.ntmps110
    go_wp2_with (first
      | (go_at_call 17; refine (tbool_any _ _).mono ?_; rintro e w' ⟨rfl, hw'⟩; subst w')
      | fail)
    all_goals go_ret2
    all_goals exact ⟨rfl, rfl⟩
  by_cases h10 : op = 10
  · subst h10
    rw [show cpF 10 = 0 from rfl, show cpV 10 below above = bv (!below) from rfl]
    go_enter Tryz.func110, Tryz.ntmps110
    go_wp2_with (first
      | (go_at_call 17; refine (tbool_any _ _).mono ?_; rintro e w' ⟨rfl, hw'⟩; subst w')
      | fail)
    all_goals go_ret2
    all_goals exact ⟨rfl, rfl⟩
  rw [show cpF op = 1 from if_neg (by omega), show cpV op below above = 0 from by unfold cpV; rw [if_neg h7, if_neg h8, if_neg h9, if_neg h10]]
  have b7 : (op == 7) = false := by simpa using h7
  have b8 : (op == 8) = false := by simpa using h8
  have b9 : (op == 9) = false := by simpa using h9
  have b10 : (op == 10) = false := by simpa using h10
  clear h7 h8 h9 h10
  go_enter Tryz.func110, Tryz.ntmps110
  go_wp2
  all_goals go_ret2
  all_goals exact ⟨rfl, rfl⟩

set_option maxRecDepth 100000 in
set_option maxHeartbeats 2000000 in
theorem binStrings_cmp {b0 : Nat} {H : AHeap} {bs : List Nat} (op a b : Int) (h0 : op ≠ 0) (ha : U a) (hb : U b) (hp : HS w b0 H bs) (ka : kk H a = 1) (kb : kk H b = 1) :
    Calls Tryz.prog 46 #[.pointer (some ⟨b0, 0, none⟩), .int .i64 op, .int .u64 a, .int .u64 b] w fun e w' => e = .returned (.tuple #[.int .u64 (cpV op (decide (cmpB (ob H a).bytes (ob H b).bytes < 0)) (decide (0 < cmpB (ob H a).bytes (ob H b).bytes))), .int .i64 (cpF op)]) ∧ Bw w w' := by
  have oa := hs_obj hp ha (by omega)
  have obb := hs_obj hp hb (by omega)
  have HC1 := hid (fun w1 (hw : Bw w w1) => bytes_yes a ha w1 (hp.bw hw) ka)
  have HC2 := hid (fun w1 (hw : Bw w w1) => bytes_yes b hb w1 (hp.bw hw) kb)
  have lx := oa.2.2.2.2.2.1
  have ly := obb.2.2.2.2.2.1
  have HX := hid oa.2.2.2.2.1
  have HY := hid obb.2.2.2.2.1
  generalize (ob H a).bytes = x at *
  generalize (ob H b).bytes = y at *
  have bop : (op == 0) = false := by simpa using h0
  clear oa obb hp ka kb h0
  obtain ⟨q, hq⟩ : ∃ q, cmpB x y = q := ⟨_, rfl⟩
  rw [hq]
  have HQ := hid hq
  clear hq
  go_enter Tryz.func46, Tryz.ntmps46
  go_wp2_with (first
    | (go_at_call_of 26 (Value.int .u64 a); refine (HC1.out _ (by repeat (first | exact Bw.refl _ | apply Bw.alloc | apply Bw.drewN | apply Bw.drew))).mono ?_; rintro e w1 ⟨r1, rfl, ho1, hb1⟩; obtain ⟨a1, c1, rfl⟩ := own_form ho1; have O1 := hid ho1; have B1 := hid (show Bw w w1 from Bw.trans (by repeat (first | exact Bw.refl _ | apply Bw.alloc | apply Bw.drewN | apply Bw.drew)) hb1); clear ho1 hb1 HC1)
    | (go_at_call_of 26 (Value.int .u64 b); refine (HC2.out _ (B1.out.trans (by repeat (first | exact Bw.refl _ | apply Bw.alloc | apply Bw.drewN | apply Bw.drew)))).mono ?_; rintro e w2 ⟨r2, rfl, ho2, hb2⟩; obtain ⟨a2, c2, rfl⟩ := own_form ho2; have Y1 := hid (by_own (own_bw O1.out (Bw.trans (by repeat (first | exact Bw.refl _ | apply Bw.alloc | apply Bw.drewN | apply Bw.drew)) hb2)) HX.out (by omega)); have Y2 := hid (by_own ho2 HY.out (by omega)); have B2 := hid (show Bw w w2 from B1.out.trans (Bw.trans (by repeat (first | exact Bw.refl _ | apply Bw.alloc | apply Bw.drewN | apply Bw.drew)) hb2)); clear ho2 hb2)
    | (go_at_call 118; refine (bCmp_any x y Y1.out Y2.out).mono ?_; rw [HQ.out]; rintro e w' ⟨rfl, hw'⟩; subst w')
    | (go_at_call 110; refine (compared_any _ _ _).mono ?_; rintro e w' ⟨rfl, hw'⟩; subst w')
    | fail)
  all_goals go_ret2
  all_goals exact ⟨rfl, B2.out⟩

set_option maxRecDepth 100000 in
set_option maxHeartbeats 2000000 in
theorem bin_cmp {b0 : Nat} {H : AHeap} {bs : List Nat} (op a b : Int) (h0 : op ≠ 0) (h5 : op ≠ 5) (h6 : op ≠ 6) (ha : U a) (hb : U b) (hp : HS w b0 H bs) (ka : kk H a = 1) (kb : kk H b = 1) :
    Calls Tryz.prog 11 #[.pointer (some ⟨b0, 0, none⟩), .int .i64 op, .int .u64 a, .int .u64 b] w fun e w' => e = .returned (.tuple #[.int .u64 (cpV op (decide (cmpB (ob H a).bytes (ob H b).bytes < 0)) (decide (0 < cmpB (ob H a).bytes (ob H b).bytes))), .int .i64 (cpF op)]) ∧ Bw w w' := by
  have HC := hid (binStrings_cmp op a b h0 ha hb hp ka kb)
  have K1 := hid (show Calls Tryz.prog 42 #[.pointer (some ⟨b0, 0, none⟩), .int .u64 a] w fun e w' => e = .returned (.int .i64 1) ∧ w' = w by have := kindOf_any a ha hp; rwa [kof_kk (by omega), ka] at this)
  have K2 := hid (show Calls Tryz.prog 42 #[.pointer (some ⟨b0, 0, none⟩), .int .u64 b] w fun e w' => e = .returned (.int .i64 1) ∧ w' = w by have := kindOf_any b hb hp; rwa [kof_kk (by omega), kb] at this)
  generalize cpV op (decide (cmpB (ob H a).bytes (ob H b).bytes < 0)) (decide (0 < cmpB (ob H a).bytes (ob H b).bytes)) = V at HC ⊢
  generalize cpF op = E at HC ⊢
  have b5 : (op == 5) = false := by simpa using h5
  have b6 : (op == 6) = false := by simpa using h6
  clear hp ka kb h0 h5 h6
  go_enter Tryz.func11, Tryz.ntmps11
  go_wp2_with (first
    | (go_at_call_of 42 (Value.int .u64 a); refine K1.out.mono ?_; rintro e w' ⟨rfl, hw'⟩; subst w')
    | (go_at_call_of 42 (Value.int .u64 b); refine K2.out.mono ?_; rintro e w' ⟨rfl, hw'⟩; subst w')
    | (go_at_call 46; refine HC.out.mono ?_; rintro e w1 ⟨rfl, hb1⟩; have B1 := hid hb1; clear hb1)
    | fail)
  all_goals go_ret2
  all_goals exact ⟨rfl, B1.out⟩

set_option maxRecDepth 100000 in
set_option maxHeartbeats 2000000 in
theorem bin_eq {b0 : Nat} {H : AHeap} {bs : List Nat} (a b : Int) (ha : U a) (hb : U b) (hp : HS w b0 H bs) :
    Calls Tryz.prog 11 #[.pointer (some ⟨b0, 0, none⟩), .int .i64 5, .int .u64 a, .int .u64 b] w fun e w' => e = .returned (.tuple #[.int .u64 (bv (eqW H a b)), .int .i64 0]) ∧ Bw w w' := by
  have HC := hid (equal_any a b ha hb w hp)
  generalize eqW H a b = q at HC ⊢
  clear hp
  go_enter Tryz.func11, Tryz.ntmps11
  go_wp2_with (first
    | (go_at_call 41; refine HC.out.mono ?_; rintro e w1 ⟨rfl, hb1⟩; have B1 := hid hb1; clear hb1)
    | (go_at_call 17; refine (tbool_any _ _).mono ?_; rintro e w' ⟨rfl, hw'⟩; subst w')
    | fail)
  all_goals go_ret2
  all_goals exact ⟨rfl, B1.out⟩

set_option maxRecDepth 100000 in
set_option maxHeartbeats 2000000 in
theorem bin_ne {b0 : Nat} {H : AHeap} {bs : List Nat} (a b : Int) (ha : U a) (hb : U b) (hp : HS w b0 H bs) :
    Calls Tryz.prog 11 #[.pointer (some ⟨b0, 0, none⟩), .int .i64 6, .int .u64 a, .int .u64 b] w fun e w' => e = .returned (.tuple #[.int .u64 (bv (!eqW H a b)), .int .i64 0]) ∧ Bw w w' := by
  have HC := hid (equal_any a b ha hb w hp)
  generalize eqW H a b = q at HC ⊢
  clear hp
  go_enter Tryz.func11, Tryz.ntmps11
  go_wp2_with (first
    | (go_at_call 41; refine HC.out.mono ?_; rintro e w1 ⟨rfl, hb1⟩; have B1 := hid hb1; clear hb1)
    | (go_at_call 17; refine (tbool_any _ _).mono ?_; rintro e w' ⟨rfl, hw'⟩; subst w')
    | fail)
  all_goals go_ret2
  all_goals exact ⟨rfl, B1.out⟩

set_option maxRecDepth 100000 in
set_option maxHeartbeats 2000000 in
theorem length_str {b0 : Nat} {H : AHeap} {bs : List Nat} (v : Int) (hU : U v) (hp : HS w b0 H bs) (hk : kk H v = 1) :
    Calls Tryz.prog 79 #[.pointer (some ⟨b0, 0, none⟩), .int .u64 v] w fun e w' => e = .returned (.tuple #[.int .u64 (mk (ob H v).bytes.length), .int .i64 0]) ∧ Bw w w' := by
  have HC := hid (len_str v hU w hp hk)
  generalize ((ob H v).bytes.length : Int) = n at HC ⊢
  clear hp hk
  go_enter Tryz.func79, Tryz.ntmps79
  go_wp2_with (first
    | (go_at_call 32; refine HC.out.mono ?_; rintro e w1 ⟨rfl, hl1⟩; have B1 := hid hl1.bw; clear hl1)
    | (go_at_call 91; refine (int_any _ _).mono ?_; rintro e w' ⟨rfl, hw'⟩; subst w')
    | fail)
  all_goals go_ret2
  all_goals exact ⟨rfl, B1.out⟩

set_option maxRecDepth 100000 in
set_option maxHeartbeats 2000000 in
theorem pure_len {b0 : Nat} {H : AHeap} {bs : List Nat} (ab : Nat) (v : Int) (hU : U v) (ha : Ar w) (hp : HS w b0 H bs) (hk : kk H v = 1) (c0 : w.cell? ⟨ab, 0, none⟩ = some (.int .u64 v)) (hab : ab < w.heap.size) :
    Calls Tryz.prog 27 #[.pointer (some ⟨b0, 0, none⟩), .int .i64 1, .slice (some ⟨ab, 0, none⟩) 1 1] w fun e w' => e = .returned (.tuple #[.int .u64 (mk (ob H v).bytes.length), .int .i64 0]) ∧ Bw w w' := by
  have HC := hid (length_str v hU hp hk)
  have HA := hid ha
  generalize mk (ob H v).bytes.length = V at HC ⊢
  clear hp ha hk
  go_enter Tryz.func27, Tryz.ntmps27
  go_wp2_with (first
    | (go_at_call 78; refine (Arity_any _ HA.out).mono ?_; rw [ary1]; rintro e w' ⟨rfl, hw'⟩; subst w')
    | (go_at_call 79; refine HC.out.mono ?_; rintro e w1 ⟨rfl, hb1⟩; have B1 := hid hb1; clear hb1)
    | fail)
  all_goals go_ret2
  all_goals exact ⟨rfl, B1.out⟩

end

end Go.Proofs.YtajnpdiepiinjaaGreatDoor

set_option linter.unusedSimpArgs false
set_option linter.unusedVariables false
namespace Go.Proofs.YtajnpdiepiinjaaGreatDoor
open Go Go.RowKit

theorem ccall_bits (b : Nat) (w : World) : (callFunc 152 #[.float .f64 b]).run Tryz.prog w = .ok (.value (.int .u64 (b : Int))) w := by
  rw [run_callFunc_extern Tryz.func152 (by kernel_rfl) (by kernel_rfl) (by kernel_rfl) (e := Extern.MathFloatBits.float64bits) (by kernel_rfl)]
  rfl
theorem ccall_frombits (n : Int) (w : World) : (callFunc 149 #[.int .u64 n]).run Tryz.prog w = .ok (.value (.float .f64 n.toNat)) w := by
  rw [run_callFunc_extern Tryz.func149 (by kernel_rfl) (by kernel_rfl) (by kernel_rfl) (e := Extern.MathFloatBits.float64frombits) (by kernel_rfl)]
  rfl

theorem corder_self (x : Nat) : (F.order x x != some .eq) = isn x := by
  unfold isn Ieee.Format.order
  cases F.read x <;> simp [Ieee.Datum.order, Ieee.Datum.isNaN]

theorem cisNaN_any (x : Nat) (w : World) : Calls Tryz.prog 161 #[.float .f64 x] w fun e w' => e = .returned (.bool (isn x)) ∧ w' = w := by
  have h := corder_self x
  go_enter Tryz.func161, Tryz.ntmps161
  go_wp2
  go_ret
  exact ⟨rfl, rfl⟩

theorem csettled_any (x : Nat) (w : World) : Calls Tryz.prog 153 #[.float .f64 x] w fun e w' => e = .returned (.float .f64 (cn x)) ∧ w' = w := by
  have hb := ccall_frombits
  by_cases h : isn x = true
  · have hc : cn x = nn := by simp [cn, h]
    rw [hc]
    go_enter Tryz.func153, Tryz.ntmps153
    go_wp2_with (go_at_call 161; refine (cisNaN_any _ _).mono ?_; rintro e w' ⟨rfl, rfl⟩)
    all_goals go_ret
    all_goals exact ⟨rfl, rfl⟩
  · have h : isn x = false := by simpa using h
    have hc : cn x = x := cn_of x h
    rw [hc]
    go_enter Tryz.func153, Tryz.ntmps153
    go_wp2_with (go_at_call 161; refine (cisNaN_any _ _).mono ?_; rintro e w' ⟨rfl, rfl⟩)
    all_goals go_ret
    all_goals exact ⟨rfl, rfl⟩


theorem cjoin_any (x y : Nat) (w : World) : Calls Tryz.prog 133 #[.float .f64 x, .float .f64 y] w fun e w' => e = .returned (.complex .f64 (cn x) (cn y)) ∧ w' = w := by
  go_enter Tryz.func133, Tryz.ntmps133
  go_wp2_with (go_at_call 153; refine (csettled_any _ _).mono ?_; rintro e w' ⟨rfl, rfl⟩)
  go_ret
  exact ⟨rfl, rfl⟩

theorem cbits_any (x y : Nat) (w : World) : Calls Tryz.prog 131 #[.complex .f64 x y] w fun e w' => e = .returned (.tuple #[.int .u64 (cn x : Nat), .int .u64 (cn y : Nat)]) ∧ w' = w := by
  have hb := ccall_bits
  go_enter Tryz.func131, Tryz.ntmps131
  go_wp2_with (go_at_call 153; refine (csettled_any _ _).mono ?_; rintro e w' ⟨rfl, rfl⟩)
  go_ret2
  exact ⟨rfl, rfl⟩

theorem cmade_any (x y : Int) (w : World) : Calls Tryz.prog 116 #[.int .u64 x, .int .u64 y] w fun e w' => e = .returned (.complex .f64 (cn x.toNat) (cn y.toNat)) ∧ w' = w := by
  have hb := ccall_frombits
  go_enter Tryz.func116, Tryz.ntmps116
  go_wp2_with (go_at_call 133; refine (cjoin_any _ _ _).mono ?_; rintro e w' ⟨rfl, rfl⟩)
  go_ret
  exact ⟨rfl, rfl⟩

theorem cmake_any (x y : Int) (w : World) : Calls Tryz.prog 114 #[.int .i64 x, .int .i64 y] w fun e w' => e = .returned (.complex .f64 (floatOfInt .f64 x) (floatOfInt .f64 y)) ∧ w' = w := by
  go_enter Tryz.func114, Tryz.ntmps114
  go_wp2
  go_ret
  exact ⟨rfl, rfl⟩


end Go.Proofs.YtajnpdiepiinjaaGreatDoor

set_option linter.unusedSimpArgs false
set_option linter.unusedVariables false
namespace Go.Proofs.YtajnpdiepiinjaaGreatDoor
open Go Go.RowKit

def fF (e : Int) : Int := if e = 0 then 0 else if e = 4 then 4 else 1
def fV (e v : Int) : Int := if e = 0 then v else 0

section
variable {w w' : World}

set_option maxRecDepth 100000 in
set_option maxHeartbeats 1000000 in
theorem Field_any {b0 : Nat} {H : AHeap} {bs : List Nat} (r : Int) (s : ByteArray) (hU : U r) (hp : HS w b0 H bs) :
    Calls Tryz.prog 21 #[.pointer (some ⟨b0, 0, none⟩), .int .u64 r, .string s] w fun e w' => e = .returned (.tuple #[.int .u64 (fV (aFieldE H r s) (aFieldV H r s)), .int .i64 (fF (aFieldE H r s))]) ∧ Bw w w' := by
  have HC := hid (field_any r s hU w hp)
  generalize aFieldE H r s = E at HC ⊢
  generalize aFieldV H r s = V at HC ⊢
  clear hp hU
  unfold fF fV
  by_cases h0 : E = 0
  · subst h0
    rw [if_pos rfl, if_pos rfl]
    go_enter Tryz.func21, Tryz.ntmps21
    go_wp2_with (first
      | (go_at_call 72; refine HC.out.mono ?_; rintro e w1 ⟨rfl, hl1⟩; have B1 := hid hl1.bw; clear hl1)
      | fail)
    all_goals go_ret2
    all_goals exact ⟨rfl, B1.out⟩
  rw [if_neg h0, if_neg h0]
  by_cases h4 : E = 4
  · subst h4
    rw [if_pos rfl]
    clear h0
    go_enter Tryz.func21, Tryz.ntmps21
    go_wp2_with (first
      | (go_at_call 72; refine HC.out.mono ?_; rintro e w1 ⟨rfl, hl1⟩; have B1 := hid hl1.bw; clear hl1)
      | fail)
    all_goals go_ret2
    all_goals exact ⟨rfl, B1.out⟩
  rw [if_neg h4]
  have b0' : (E == 0) = false := by simpa using h0
  have b4' : (E == 4) = false := by simpa using h4
  clear h0 h4
  go_enter Tryz.func21, Tryz.ntmps21
  go_wp2_with (first
    | (go_at_call 72; refine HC.out.mono ?_; rintro e w1 ⟨rfl, hl1⟩; have B1 := hid hl1.bw; clear hl1)
    | fail)
  all_goals go_ret2
  all_goals exact ⟨rfl, B1.out⟩

set_option maxRecDepth 100000 in
set_option maxHeartbeats 1000000 in
/-- A field is written, where it is. -/
theorem SetField_yes {b0 : Nat} {H : AHeap} {bs : List Nat} (r : Int) (s : ByteArray) (x : Int) (hU : U r) (hUx : U x) (hp : HS w b0 H bs) (hcap : ∀ o ∈ H.2, o.keys.length ≤ 256) (he : aPutE H r s x = 0) :
    Calls Tryz.prog 20 #[.pointer (some ⟨b0, 0, none⟩), .int .u64 r, .string s, .int .u64 x] w fun e w' => e = .returned (.int .i64 0) ∧ ∃ bs', HS w' b0 (aPutH H r s x) bs' ∧ Nx bs w w' bs' := by
  have HC := hid (put_any r s x hU hUx w hp hcap)
  rw [he] at HC
  have HC := hid HC.out
  generalize aPutH H r s x = H' at HC ⊢
  clear hp hcap he
  go_enter Tryz.func20, Tryz.ntmps20
  go_wp2_with (first
    | (go_at_call 69; refine HC.out.mono ?_; rintro e w1 ⟨rfl, bs1, hs1, hn1⟩; have S1 := hid hs1; have N1 := hid hn1; clear hs1 hn1)
    | (go_at_call 71; refine (writtenFault_any _).mono ?_; rw [show wF 0 = 0 from rfl]; rintro e w' ⟨rfl, hw'⟩; subst w')
    | fail)
  all_goals go_ret
  all_goals exact ⟨rfl, _, S1.out, N1.out⟩

set_option maxRecDepth 100000 in
set_option maxHeartbeats 1000000 in
theorem isFull_any {b0 : Nat} {H : AHeap} {bs : List Nat} (r : Int) (s : ByteArray) (hU : U r) (hp : HS w b0 H bs) (hk : kk H r = 3) (hf : (ob H r).vals.length < 256) :
    Calls Tryz.prog 70 #[.pointer (some ⟨b0, 0, none⟩), .int .u64 r, .string s] w fun e w' => e = .returned (.bool false) ∧ Bw w w' := by
  have HC := hid (field_any r s hU w hp)
  have HL := hid (fun (w1 : World) (hb : Bw w w1) => len_list r hU w1 (hp.bw hb) (.inr hk))
  have bl : decide (256 ≤ ((ob H r).vals.length : Int)) = false := decide_eq_false (by omega)
  obtain ⟨q, hq⟩ : ∃ q, (aFieldE H r s == 4) = q := ⟨_, rfl⟩
  generalize aFieldE H r s = E at HC hq
  generalize aFieldV H r s = V at HC
  generalize ((ob H r).vals.length : Int) = n at HL bl
  clear hp hk hf
  cases q
  · go_enter Tryz.func70, Tryz.ntmps70
    go_wp2_with (first
      | (go_at_call 72; refine HC.out.mono ?_; rintro e w1 ⟨rfl, hl1⟩; have B1 := hid hl1.bw; clear hl1)
      | (go_at_call 32; refine (HL.out _ B1.out).mono ?_; rintro e w2 ⟨rfl, hl2⟩; have B2 := hid (B1.out.trans hl2.bw); clear hl2)
      | fail)
    all_goals go_ret
    all_goals exact ⟨rfl, B2.out⟩
  · go_enter Tryz.func70, Tryz.ntmps70
    go_wp2_with (first
      | (go_at_call 72; refine HC.out.mono ?_; rintro e w1 ⟨rfl, hl1⟩; have B1 := hid hl1.bw; clear hl1)
      | (go_at_call 32; refine (HL.out _ B1.out).mono ?_; rintro e w2 ⟨rfl, hl2⟩; have B2 := hid (B1.out.trans hl2.bw); clear hl2)
      | fail)
    all_goals go_ret
    all_goals exact ⟨rfl, B2.out⟩

set_option maxRecDepth 100000 in
set_option maxHeartbeats 1000000 in
/-- A word that is no value is not written. -/
theorem SetField_bad {b0 : Nat} {H : AHeap} {bs : List Nat} (r : Int) (s : ByteArray) (x : Int) (hU : U r) (hUx : U x) (hp : HS w b0 H bs) (hk : kk H r = 3) (hf : (ob H r).vals.length < 256) (hg : gd H.2.length x = false) :
    Calls Tryz.prog 20 #[.pointer (some ⟨b0, 0, none⟩), .int .u64 r, .string s, .int .u64 x] w fun e w' => e = .returned (.int .i64 1) ∧ Bw w w' := by
  have HC := hid (put_arg r s x hU hUx w hp hk hg)
  have HF := hid (fun (w1 : World) (hb : Bw w w1) => isFull_any (w := w1) r s hU (hp.bw hb) hk hf)
  clear hp hk hf hg
  go_enter Tryz.func20, Tryz.ntmps20
  go_wp2_with (first
    | (go_at_call 69; refine HC.out.mono ?_; rintro e w1 ⟨rfl, hl1⟩; have B1 := hid hl1.bw; clear hl1)
    | (go_at_call 70; refine (HF.out _ B1.out).mono ?_; rintro e w2 ⟨rfl, hb2⟩; have B2 := hid (B1.out.trans hb2); clear hb2)
    | (go_at_call 71; refine (writtenFault_any _).mono ?_; rw [show wF 1 = 1 from rfl]; rintro e w' ⟨rfl, hw'⟩; subst w')
    | fail)
  all_goals go_ret
  all_goals exact ⟨rfl, B2.out⟩

set_option maxRecDepth 100000 in
set_option maxHeartbeats 1000000 in
theorem keyOf_yes {b0 : Nat} {H : AHeap} {bs : List Nat} (k : Int) (hU : U k) (hp : HS w b0 H bs) (hk : kk H k = 1) :
    Calls Tryz.prog 74 #[.pointer (some ⟨b0, 0, none⟩), .int .u64 k] w fun e w' => e = .returned (.tuple #[.string (strOfNums (ob H k).bytes), .bool true]) ∧ Bw w w' := by
  have oa := hs_obj hp hU (by omega)
  have HC := hid (bytes_yes k hU w hp hk)
  have HX := hid oa.2.2.2.2.1
  have HL := hid oa.2.2.2.2.2.1
  generalize (ob H k).bytes = x at *
  clear hp hk oa
  go_enter Tryz.func74, Tryz.ntmps74
  go_wp2_with (first
    | (go_at_call 26; refine HC.out.mono ?_; rintro e w1 ⟨r1, rfl, ho1, hb1⟩; obtain ⟨a1, c1, rfl⟩ := own_form ho1; have q1 := (by_own ho1 HX.out (by have := HL.out; omega)).conv0; have B1 := hid hb1; clear ho1 hb1)
    | fail)
  all_goals go_ret2
  all_goals exact ⟨rfl, B1.out⟩

set_option maxRecDepth 100000 in
set_option maxHeartbeats 1000000 in
/-- A field of a record, by a string. -/
theorem index_rec {b0 : Nat} {H : AHeap} {bs : List Nat} (r i : Int) (hr : U r) (hi : U i) (hp : HS w b0 H bs) (kr : kk H r = 3) (ki : kk H i = 1) :
    Calls Tryz.prog 23 #[.pointer (some ⟨b0, 0, none⟩), .int .u64 r, .int .u64 i] w fun e w' => e = .returned (.tuple #[.int .u64 (fV (aFieldE H r (strOfNums (ob H i).bytes)) (aFieldV H r (strOfNums (ob H i).bytes))), .int .i64 (fF (aFieldE H r (strOfNums (ob H i).bytes)))]) ∧ Bw w w' := by
  have K1 := hid (show Calls Tryz.prog 63 #[.pointer (some ⟨b0, 0, none⟩), .int .u64 r] w fun e w' => e = .returned (.int .i64 3) ∧ w' = w by have := kind_hs9 r hr w hp; rwa [kr] at this)
  have K2 := hid (keyOf_yes i hi hp ki)
  have K3 := hid (fun (w1 : World) (hb : Bw w w1) => Field_any (w := w1) r (strOfNums (ob H i).bytes) hr (hp.bw hb))
  generalize strOfNums (ob H i).bytes = s at K2 K3 ⊢
  generalize fV (aFieldE H r s) (aFieldV H r s) = V at K3 ⊢
  generalize fF (aFieldE H r s) = E at K3 ⊢
  clear hp kr ki
  go_enter Tryz.func23, Tryz.ntmps23
  go_wp2_with (first
    | (go_at_call 63; refine K1.out.mono ?_; rintro e w' ⟨rfl, hw'⟩; subst w')
    | (go_at_call 74; refine K2.out.mono ?_; rintro e w1 ⟨rfl, hb1⟩; have B1 := hid hb1; clear hb1)
    | (go_at_call 21; refine (K3.out _ B1.out).mono ?_; rintro e w2 ⟨rfl, hb2⟩; have B2 := hid (B1.out.trans hb2); clear hb2)
    | fail)
  all_goals go_ret2
  all_goals exact ⟨rfl, B2.out⟩

end

end Go.Proofs.YtajnpdiepiinjaaGreatDoor

set_option linter.unusedSimpArgs false
set_option linter.unusedVariables false
namespace Go.Proofs.YtajnpdiepiinjaaGreatDoor
open Go Go.RowKit

theorem kd_num {v : Int} (h : N v) : kd v = 0 := by unfold N at h; simp [kd, h]

section
variable {w w' : World}

set_option maxRecDepth 100000 in
set_option maxHeartbeats 1000000 in
theorem complexOf_any {b0 : Nat} {H : AHeap} {bs : List Nat} (v : Int) (hU : U v) (hp : HS w b0 H bs) (hk : N v ∨ kk H v = 6) :
    Calls Tryz.prog 45 #[.pointer (some ⟨b0, 0, none⟩), .int .u64 v] w fun e w' => (∃ x y, e = .returned (.complex .f64 x y)) ∧ Bw w w' := by
  by_cases hn : N v
  · have HN := hid (tnum_yes v hU hn w)
    generalize nm v = n at HN
    clear hp hk hn
    go_enter Tryz.func45, Tryz.ntmps45
    go_wp2_with (first
      | (go_at_call 28; refine HN.out.mono ?_; rintro e w' ⟨rfl, hw'⟩; subst w')
      | (go_at_call 114; refine (cmake_any _ _ _).mono ?_; rintro e w' ⟨rfl, hw'⟩; subst w')
      | fail)
    all_goals go_ret
    all_goals exact ⟨⟨_, _, rfl⟩, Bw.refl _⟩
  · have HN := hid (tnum_no v hU hn w)
    have HC := hid (cplxOf_yes v hU w hp (hk.elim (fun h => absurd h hn) id))
    clear hp hk hn
    go_enter Tryz.func45, Tryz.ntmps45
    go_wp2_with (first
      | (go_at_call 28; refine HN.out.mono ?_; rintro e w' ⟨rfl, hw'⟩; subst w')
      | (go_at_call 115; refine HC.out.mono ?_; rintro e w1 ⟨rfl, hl1⟩; have B1 := hid hl1.bw; clear hl1)
      | (go_at_call 116; refine (cmade_any _ _ _).mono ?_; rintro e w' ⟨rfl, hw'⟩; subst w')
      | fail)
    all_goals go_ret
    all_goals exact ⟨⟨_, _, rfl⟩, B1.out⟩

set_option maxRecDepth 100000 in
set_option maxHeartbeats 1000000 in
theorem binComplex_cmp (b0 : Nat) (op : Int) (h4 : 4 ≤ op) (a b c d : Nat) :
    Calls Tryz.prog 44 #[.pointer (some ⟨b0, 0, none⟩), .int .i64 op, .complex .f64 a b, .complex .f64 c d] w fun e w' => e = .returned (.tuple #[.int .u64 0, .int .i64 1]) ∧ w' = w := by
  have n0 : (op == 0) = false := by simp; omega
  have n1 : (op == 1) = false := by simp; omega
  have n2 : (op == 2) = false := by simp; omega
  have n3 : (op == 3) = false := by simp; omega
  clear h4
  go_enter Tryz.func44, Tryz.ntmps44
  go_wp2
  all_goals go_ret2
  all_goals exact ⟨rfl, rfl⟩

set_option maxRecDepth 100000 in
set_option maxHeartbeats 1000000 in
theorem binNumbers_cmp (op a b : Int) (h5 : 5 ≤ op) (ha : U a) (hb : U b) (na : N a) (nb : N b) :
    Calls Tryz.prog 43 #[.int .i64 op, .int .u64 a, .int .u64 b] w fun e w' => e = .returned (.tuple #[.int .u64 (cpV op (ltB a b) (ltB b a)), .int .i64 (cpF op)]) ∧ w' = w := by
  have n0 : (op == 0) = false := by simp; omega
  have n1 : (op == 1) = false := by simp; omega
  have n2 : (op == 2) = false := by simp; omega
  have n3 : (op == 3) = false := by simp; omega
  have n4 : (op == 4) = false := by simp; omega
  have HA := hid (tless_yes a b ha hb na nb w)
  have HB := hid (tless_yes b a hb ha nb na w)
  have HC := hid (compared_any (w := w) op (ltB a b) (ltB b a))
  generalize ltB a b = p at HA HC ⊢
  generalize ltB b a = q at HB HC ⊢
  generalize cpV op p q = V at HC ⊢
  generalize cpF op = F at HC ⊢
  clear h5
  go_enter Tryz.func43, Tryz.ntmps43
  go_wp2_with (first
    | (go_at_call 109; (fail_if_success (have _g := G1)); refine HA.out.mono ?_; rintro e w' ⟨rfl, hw'⟩; subst w'; have G1 := hid trivial)
    | (go_at_call 109; refine HB.out.mono ?_; rintro e w' ⟨rfl, hw'⟩; subst w')
    | (go_at_call 110; refine HC.out.mono ?_; rintro e w' ⟨rfl, hw'⟩; subst w')
    | fail)
  all_goals go_ret2
  all_goals exact ⟨rfl, rfl⟩

set_option maxRecDepth 100000 in
set_option maxHeartbeats 1000000 in
theorem binNumbers_add (a b : Int) (ha : U a) (hb : U b) (na : N a) (nb : N b) :
    Calls Tryz.prog 43 #[.int .i64 0, .int .u64 a, .int .u64 b] w fun e w' => e = .returned (.tuple #[.int .u64 (mk (nm a + nm b)), .int .i64 0]) ∧ w' = w := by
  have HA := hid (tadd_yes a b ha hb na nb w)
  generalize mk (nm a + nm b) = V at HA ⊢
  go_enter Tryz.func43, Tryz.ntmps43
  go_wp2_with (first
    | (go_at_call 104; refine HA.out.mono ?_; rintro e w' ⟨rfl, hw'⟩; subst w')
    | fail)
  all_goals go_ret2
  all_goals exact ⟨rfl, rfl⟩

set_option maxRecDepth 100000 in
set_option maxHeartbeats 1000000 in
theorem bin_add {b0 : Nat} {H : AHeap} {bs : List Nat} (a b : Int) (ha : U a) (hb : U b) (hp : HS w b0 H bs) (na : N a) (nb : N b) :
    Calls Tryz.prog 11 #[.pointer (some ⟨b0, 0, none⟩), .int .i64 0, .int .u64 a, .int .u64 b] w fun e w' => e = .returned (.tuple #[.int .u64 (mk (nm a + nm b)), .int .i64 0]) ∧ w' = w := by
  have HC := hid (binNumbers_add (w := w) a b ha hb na nb)
  have K1 := hid (show Calls Tryz.prog 42 #[.pointer (some ⟨b0, 0, none⟩), .int .u64 a] w fun e w' => e = .returned (.int .i64 10) ∧ w' = w by have := kindOf_any a ha hp; rwa [kof_num (kd_num na)] at this)
  have K2 := hid (show Calls Tryz.prog 42 #[.pointer (some ⟨b0, 0, none⟩), .int .u64 b] w fun e w' => e = .returned (.int .i64 10) ∧ w' = w by have := kindOf_any b hb hp; rwa [kof_num (kd_num nb)] at this)
  generalize mk (nm a + nm b) = V at HC ⊢
  clear hp
  go_enter Tryz.func11, Tryz.ntmps11
  go_wp2_with (first
    | (go_at_call_of 42 (Value.int .u64 a); refine K1.out.mono ?_; rintro e w' ⟨rfl, hw'⟩; subst w')
    | (go_at_call_of 42 (Value.int .u64 b); refine K2.out.mono ?_; rintro e w' ⟨rfl, hw'⟩; subst w')
    | (go_at_call 43; refine HC.out.mono ?_; rintro e w' ⟨rfl, hw'⟩; subst w')
    | fail)
  all_goals go_ret2
  all_goals exact ⟨rfl, rfl⟩

set_option maxRecDepth 100000 in
set_option maxHeartbeats 1000000 in
theorem binNumbers_sub (a b : Int) (ha : U a) (hb : U b) (na : N a) (nb : N b) :
    Calls Tryz.prog 43 #[.int .i64 1, .int .u64 a, .int .u64 b] w fun e w' => e = .returned (.tuple #[.int .u64 (mk (nm a - nm b)), .int .i64 0]) ∧ w' = w := by
  have HA := hid (tsub_yes a b ha hb na nb w)
  generalize mk (nm a - nm b) = V at HA ⊢
  go_enter Tryz.func43, Tryz.ntmps43
  go_wp2_with (first
    | (go_at_call 105; refine HA.out.mono ?_; rintro e w' ⟨rfl, hw'⟩; subst w')
    | fail)
  all_goals go_ret2
  all_goals exact ⟨rfl, rfl⟩

set_option maxRecDepth 100000 in
set_option maxHeartbeats 1000000 in
theorem bin_sub {b0 : Nat} {H : AHeap} {bs : List Nat} (a b : Int) (ha : U a) (hb : U b) (hp : HS w b0 H bs) (na : N a) (nb : N b) :
    Calls Tryz.prog 11 #[.pointer (some ⟨b0, 0, none⟩), .int .i64 1, .int .u64 a, .int .u64 b] w fun e w' => e = .returned (.tuple #[.int .u64 (mk (nm a - nm b)), .int .i64 0]) ∧ w' = w := by
  have HC := hid (binNumbers_sub (w := w) a b ha hb na nb)
  have K1 := hid (show Calls Tryz.prog 42 #[.pointer (some ⟨b0, 0, none⟩), .int .u64 a] w fun e w' => e = .returned (.int .i64 10) ∧ w' = w by have := kindOf_any a ha hp; rwa [kof_num (kd_num na)] at this)
  have K2 := hid (show Calls Tryz.prog 42 #[.pointer (some ⟨b0, 0, none⟩), .int .u64 b] w fun e w' => e = .returned (.int .i64 10) ∧ w' = w by have := kindOf_any b hb hp; rwa [kof_num (kd_num nb)] at this)
  generalize mk (nm a - nm b) = V at HC ⊢
  clear hp
  go_enter Tryz.func11, Tryz.ntmps11
  go_wp2_with (first
    | (go_at_call_of 42 (Value.int .u64 a); refine K1.out.mono ?_; rintro e w' ⟨rfl, hw'⟩; subst w')
    | (go_at_call_of 42 (Value.int .u64 b); refine K2.out.mono ?_; rintro e w' ⟨rfl, hw'⟩; subst w')
    | (go_at_call 43; refine HC.out.mono ?_; rintro e w' ⟨rfl, hw'⟩; subst w')
    | fail)
  all_goals go_ret2
  all_goals exact ⟨rfl, rfl⟩

set_option maxRecDepth 100000 in
set_option maxHeartbeats 1000000 in
theorem Neg_num {b0 : Nat} {H : AHeap} {bs : List Nat} (a : Int) (ha : U a) (hp : HS w b0 H bs) (na : N a) :
    Calls Tryz.prog 14 #[.pointer (some ⟨b0, 0, none⟩), .int .u64 a] w fun e w' => e = .returned (.tuple #[.int .u64 (mk (- nm a)), .int .i64 0]) ∧ w' = w := by
  have HC := hid (tneg_yes a ha na w)
  have K1 := hid (show Calls Tryz.prog 42 #[.pointer (some ⟨b0, 0, none⟩), .int .u64 a] w fun e w' => e = .returned (.int .i64 10) ∧ w' = w by have := kindOf_any a ha hp; rwa [kof_num (kd_num na)] at this)
  generalize mk (- nm a) = V at HC ⊢
  clear hp
  go_enter Tryz.func14, Tryz.ntmps14
  go_wp2_with (first
    | (go_at_call 42; refine K1.out.mono ?_; rintro e w' ⟨rfl, hw'⟩; subst w')
    | (go_at_call 66; refine HC.out.mono ?_; rintro e w' ⟨rfl, hw'⟩; subst w')
    | fail)
  all_goals go_ret2
  all_goals exact ⟨rfl, rfl⟩

/-- What is answered where two words are compared, and the fault. -/
def bcV (H : AHeap) (op a b : Int) : Int := if kof H a = 10 ∧ kof H b = 10 then cpV op (ltB a b) (ltB b a) else if kof H a = 1 ∧ kof H b = 1 then cpV op (decide (cmpB (ob H a).bytes (ob H b).bytes < 0)) (decide (0 < cmpB (ob H a).bytes (ob H b).bytes)) else 0
def bcF (H : AHeap) (op a b : Int) : Int := if kof H a = 10 ∧ kof H b = 10 ∨ kof H a = 1 ∧ kof H b = 1 then cpF op else 1

theorem kof_10 {H : AHeap} {v : Int} (hU : U v) (hk : HOK H) (h : kof H v = 10) (hb : ∀ o ∈ H.2, o.kind ≤ 9) : N v := by
  unfold kof at h
  split at h
  · rename_i h0; unfold kd at h0; unfold N; revert h0; repeat' split
    all_goals omega
  · split at h
    · split at h <;> omega
    · split at h
      · omega
      · exfalso
        by_cases h0 : kk H v = 0
        · omega
        · obtain ⟨_, hl, e⟩ := kk_ref h0
          have hm : ob H v ∈ H.2 := List.mem_of_getElem? (ob_get hU hl).1
          have := hb _ hm
          rw [e] at h
          unfold AObj.kind at h this
          omega
theorem kof_kk6 {H : AHeap} {v : Int} {k : Int} (hk : k = 1 ∨ k = 6) (h : kof H v = k) : kk H v = k := by
  unfold kof at h
  split at h
  · omega
  · split at h
    · split at h <;> omega
    · split at h
      · omega
      · exact h

set_option maxRecDepth 100000 in
set_option maxHeartbeats 4000000 in
theorem bin_cmps {b0 : Nat} {H : AHeap} {bs : List Nat} (op a b : Int) (h7 : 7 ≤ op) (ha : U a) (hb : U b) (hp : HS w b0 H bs) (h9 : ∀ o ∈ H.2, o.kind ≤ 9) :
    Calls Tryz.prog 11 #[.pointer (some ⟨b0, 0, none⟩), .int .i64 op, .int .u64 a, .int .u64 b] w fun e w' => e = .returned (.tuple #[.int .u64 (bcV H op a b), .int .i64 (bcF H op a b)]) ∧ Bw w w' := by
  have n5 : (op == 5) = false := by simp; omega
  have n6 : (op == 6) = false := by simp; omega
  have h4 : 4 ≤ op := by omega
  have h5 : 5 ≤ op := by omega
  have hn0 : op ≠ 0 := by omega
  have K1 := hid (kindOf_any a ha hp)
  have K2 := hid (kindOf_any b hb hp)
  have HP := hid hp
  clear h7
  unfold bcV bcF
  obtain ⟨x, hx⟩ : ∃ x, kof H a = x := ⟨_, rfl⟩
  obtain ⟨y, hy⟩ : ∃ y, kof H b = y := ⟨_, rfl⟩
  rw [hx] at K1 ⊢
  rw [hy] at K2 ⊢
  have HX := hid hx
  have HY := hid hy
  clear hx hy
  by_cases hx10 : x = 10
  · subst hx10
    by_cases hy10 : y = 10
    · subst hy10
      have na := kof_10 ha HP.out.ok HX.out h9
      have nb := kof_10 hb HP.out.ok HY.out h9
      rw [if_pos ⟨rfl, rfl⟩, if_pos (Or.inl ⟨rfl, rfl⟩)]
      have HC := hid (binNumbers_cmp (w := w) op a b h5 ha hb na nb)
      generalize cpV op (ltB a b) (ltB b a) = V at HC ⊢
      generalize cpF op = F at HC ⊢
      clear hp h9
      go_enter Tryz.func11, Tryz.ntmps11
      go_wp2_with (first
        | (go_at_call_of 42 (Value.int .u64 a); (fail_if_success (have _g := G1)); refine K1.out.mono ?_; rintro e w' ⟨rfl, hw'⟩; subst w'; have G1 := hid trivial)
        | (go_at_call_of 42 (Value.int .u64 b); have _g := G1; clear _g; refine K2.out.mono ?_; rintro e w' ⟨rfl, hw'⟩; subst w')
        | (go_at_call 43; refine HC.out.mono ?_; rintro e w' ⟨rfl, hw'⟩; subst w')
        | fail)
      all_goals go_ret2
      all_goals exact ⟨rfl, Bw.refl _⟩
    by_cases hy6 : y = 6
    · subst hy6
      rw [if_neg (by decide), if_neg (by decide), if_neg (by decide)]
      have C1 := hid (complexOf_any a ha hp (Or.inl (kof_10 ha HP.out.ok HX.out h9)))
      have C2 := hid (fun (w1 : World) (hw : Bw w w1) => complexOf_any (w := w1) b hb (hp.bw hw) (Or.inr (kof_kk6 (.inr rfl) HY.out)))
      clear hp h9
      go_enter Tryz.func11, Tryz.ntmps11
      go_wp2_with (first
        | (go_at_call_of 42 (Value.int .u64 a); (fail_if_success (have _g := G1)); refine K1.out.mono ?_; rintro e w' ⟨rfl, hw'⟩; subst w'; have G1 := hid trivial)
        | (go_at_call_of 42 (Value.int .u64 b); have _g := G1; clear _g; refine K2.out.mono ?_; rintro e w' ⟨rfl, hw'⟩; subst w')
        | (go_at_call_of 45 (Value.int .u64 a); (fail_if_success (have _g := B1)); refine C1.out.mono ?_; rintro e w1 ⟨⟨x1, y1, rfl⟩, hb1⟩; have B1 := hid hb1; clear hb1)
        | (go_at_call_of 45 (Value.int .u64 b); have _g := B1; clear _g; refine (C2.out _ B1.out).mono ?_; rintro e w2 ⟨⟨x2, y2, rfl⟩, hb2⟩; have B2 := hid (B1.out.trans hb2); clear hb2)
        | (go_at_call 44; refine (binComplex_cmp b0 op h4 _ _ _ _).mono ?_; rintro e w' ⟨rfl, hw'⟩; subst w')
        | fail)
      all_goals go_ret2
      all_goals exact ⟨rfl, B2.out⟩
    by_cases hy1 : y = 1
    · subst hy1
      rw [if_neg (by omega), if_neg (by omega), if_neg (by omega)]
      clear hp h9
      go_enter Tryz.func11, Tryz.ntmps11
      go_wp2_with (first
        | (go_at_call_of 42 (Value.int .u64 a); (fail_if_success (have _g := G1)); refine K1.out.mono ?_; rintro e w' ⟨rfl, hw'⟩; subst w'; have G1 := hid trivial)
        | (go_at_call_of 42 (Value.int .u64 b); have _g := G1; clear _g; refine K2.out.mono ?_; rintro e w' ⟨rfl, hw'⟩; subst w')
        | fail)
      all_goals go_ret2
      all_goals exact ⟨rfl, Bw.refl _⟩
    have by10 : (y == 10) = false := by simpa using hy10
    have by6 : (y == 6) = false := by simpa using hy6
    have by1 : (y == 1) = false := by simpa using hy1
    rw [if_neg (by omega), if_neg (by omega), if_neg (by omega)]
    clear hp h9
    clear hy10 hy6 hy1
    go_enter Tryz.func11, Tryz.ntmps11
    go_wp2_with (first
      | (go_at_call_of 42 (Value.int .u64 a); (fail_if_success (have _g := G1)); refine K1.out.mono ?_; rintro e w' ⟨rfl, hw'⟩; subst w'; have G1 := hid trivial)
      | (go_at_call_of 42 (Value.int .u64 b); have _g := G1; clear _g; refine K2.out.mono ?_; rintro e w' ⟨rfl, hw'⟩; subst w')
      | fail)
    all_goals go_ret2
    all_goals exact ⟨rfl, Bw.refl _⟩
  by_cases hx6 : x = 6
  · subst hx6
    by_cases hy10 : y = 10
    · subst hy10
      rw [if_neg (by decide), if_neg (by decide), if_neg (by decide)]
      have C1 := hid (complexOf_any a ha hp (Or.inr (kof_kk6 (.inr rfl) HX.out)))
      have C2 := hid (fun (w1 : World) (hw : Bw w w1) => complexOf_any (w := w1) b hb (hp.bw hw) (Or.inl (kof_10 hb HP.out.ok HY.out h9)))
      clear hp h9
      go_enter Tryz.func11, Tryz.ntmps11
      go_wp2_with (first
        | (go_at_call_of 42 (Value.int .u64 a); (fail_if_success (have _g := G1)); refine K1.out.mono ?_; rintro e w' ⟨rfl, hw'⟩; subst w'; have G1 := hid trivial)
        | (go_at_call_of 42 (Value.int .u64 b); have _g := G1; clear _g; refine K2.out.mono ?_; rintro e w' ⟨rfl, hw'⟩; subst w')
        | (go_at_call_of 45 (Value.int .u64 a); (fail_if_success (have _g := B1)); refine C1.out.mono ?_; rintro e w1 ⟨⟨x1, y1, rfl⟩, hb1⟩; have B1 := hid hb1; clear hb1)
        | (go_at_call_of 45 (Value.int .u64 b); have _g := B1; clear _g; refine (C2.out _ B1.out).mono ?_; rintro e w2 ⟨⟨x2, y2, rfl⟩, hb2⟩; have B2 := hid (B1.out.trans hb2); clear hb2)
        | (go_at_call 44; refine (binComplex_cmp b0 op h4 _ _ _ _).mono ?_; rintro e w' ⟨rfl, hw'⟩; subst w')
        | fail)
      all_goals go_ret2
      all_goals exact ⟨rfl, B2.out⟩
    by_cases hy6 : y = 6
    · subst hy6
      rw [if_neg (by decide), if_neg (by decide), if_neg (by decide)]
      have C1 := hid (complexOf_any a ha hp (Or.inr (kof_kk6 (.inr rfl) HX.out)))
      have C2 := hid (fun (w1 : World) (hw : Bw w w1) => complexOf_any (w := w1) b hb (hp.bw hw) (Or.inr (kof_kk6 (.inr rfl) HY.out)))
      clear hp h9
      go_enter Tryz.func11, Tryz.ntmps11
      go_wp2_with (first
        | (go_at_call_of 42 (Value.int .u64 a); (fail_if_success (have _g := G1)); refine K1.out.mono ?_; rintro e w' ⟨rfl, hw'⟩; subst w'; have G1 := hid trivial)
        | (go_at_call_of 42 (Value.int .u64 b); have _g := G1; clear _g; refine K2.out.mono ?_; rintro e w' ⟨rfl, hw'⟩; subst w')
        | (go_at_call_of 45 (Value.int .u64 a); (fail_if_success (have _g := B1)); refine C1.out.mono ?_; rintro e w1 ⟨⟨x1, y1, rfl⟩, hb1⟩; have B1 := hid hb1; clear hb1)
        | (go_at_call_of 45 (Value.int .u64 b); have _g := B1; clear _g; refine (C2.out _ B1.out).mono ?_; rintro e w2 ⟨⟨x2, y2, rfl⟩, hb2⟩; have B2 := hid (B1.out.trans hb2); clear hb2)
        | (go_at_call 44; refine (binComplex_cmp b0 op h4 _ _ _ _).mono ?_; rintro e w' ⟨rfl, hw'⟩; subst w')
        | fail)
      all_goals go_ret2
      all_goals exact ⟨rfl, B2.out⟩
    by_cases hy1 : y = 1
    · subst hy1
      rw [if_neg (by omega), if_neg (by omega), if_neg (by omega)]
      clear hp h9
      go_enter Tryz.func11, Tryz.ntmps11
      go_wp2_with (first
        | (go_at_call_of 42 (Value.int .u64 a); (fail_if_success (have _g := G1)); refine K1.out.mono ?_; rintro e w' ⟨rfl, hw'⟩; subst w'; have G1 := hid trivial)
        | (go_at_call_of 42 (Value.int .u64 b); have _g := G1; clear _g; refine K2.out.mono ?_; rintro e w' ⟨rfl, hw'⟩; subst w')
        | fail)
      all_goals go_ret2
      all_goals exact ⟨rfl, Bw.refl _⟩
    have by10 : (y == 10) = false := by simpa using hy10
    have by6 : (y == 6) = false := by simpa using hy6
    have by1 : (y == 1) = false := by simpa using hy1
    rw [if_neg (by omega), if_neg (by omega), if_neg (by omega)]
    clear hp h9
    clear hy10 hy6 hy1
    go_enter Tryz.func11, Tryz.ntmps11
    go_wp2_with (first
      | (go_at_call_of 42 (Value.int .u64 a); (fail_if_success (have _g := G1)); refine K1.out.mono ?_; rintro e w' ⟨rfl, hw'⟩; subst w'; have G1 := hid trivial)
      | (go_at_call_of 42 (Value.int .u64 b); have _g := G1; clear _g; refine K2.out.mono ?_; rintro e w' ⟨rfl, hw'⟩; subst w')
      | fail)
    all_goals go_ret2
    all_goals exact ⟨rfl, Bw.refl _⟩
  by_cases hx1 : x = 1
  · subst hx1
    by_cases hy10 : y = 10
    · subst hy10
      rw [if_neg (by omega), if_neg (by omega), if_neg (by omega)]
      clear hp h9
      go_enter Tryz.func11, Tryz.ntmps11
      go_wp2_with (first
        | (go_at_call_of 42 (Value.int .u64 a); (fail_if_success (have _g := G1)); refine K1.out.mono ?_; rintro e w' ⟨rfl, hw'⟩; subst w'; have G1 := hid trivial)
        | (go_at_call_of 42 (Value.int .u64 b); have _g := G1; clear _g; refine K2.out.mono ?_; rintro e w' ⟨rfl, hw'⟩; subst w')
        | fail)
      all_goals go_ret2
      all_goals exact ⟨rfl, Bw.refl _⟩
    by_cases hy6 : y = 6
    · subst hy6
      rw [if_neg (by omega), if_neg (by omega), if_neg (by omega)]
      clear hp h9
      go_enter Tryz.func11, Tryz.ntmps11
      go_wp2_with (first
        | (go_at_call_of 42 (Value.int .u64 a); (fail_if_success (have _g := G1)); refine K1.out.mono ?_; rintro e w' ⟨rfl, hw'⟩; subst w'; have G1 := hid trivial)
        | (go_at_call_of 42 (Value.int .u64 b); have _g := G1; clear _g; refine K2.out.mono ?_; rintro e w' ⟨rfl, hw'⟩; subst w')
        | fail)
      all_goals go_ret2
      all_goals exact ⟨rfl, Bw.refl _⟩
    by_cases hy1 : y = 1
    · subst hy1
      rw [if_neg (by decide), if_pos ⟨rfl, rfl⟩, if_pos (Or.inr ⟨rfl, rfl⟩)]
      have HC := hid (binStrings_cmp op a b hn0 ha hb hp (kof_kk6 (.inl rfl) HX.out) (kof_kk6 (.inl rfl) HY.out))
      generalize cpV op (decide (cmpB (ob H a).bytes (ob H b).bytes < 0)) (decide (0 < cmpB (ob H a).bytes (ob H b).bytes)) = V at HC ⊢
      generalize cpF op = F at HC ⊢
      clear hp h9
      go_enter Tryz.func11, Tryz.ntmps11
      go_wp2_with (first
        | (go_at_call_of 42 (Value.int .u64 a); (fail_if_success (have _g := G1)); refine K1.out.mono ?_; rintro e w' ⟨rfl, hw'⟩; subst w'; have G1 := hid trivial)
        | (go_at_call_of 42 (Value.int .u64 b); have _g := G1; clear _g; refine K2.out.mono ?_; rintro e w' ⟨rfl, hw'⟩; subst w')
        | (go_at_call 46; refine HC.out.mono ?_; rintro e w1 ⟨rfl, hb1⟩; have B1 := hid hb1; clear hb1)
        | fail)
      all_goals go_ret2
      all_goals exact ⟨rfl, B1.out⟩
    have by10 : (y == 10) = false := by simpa using hy10
    have by6 : (y == 6) = false := by simpa using hy6
    have by1 : (y == 1) = false := by simpa using hy1
    rw [if_neg (by omega), if_neg (by omega), if_neg (by omega)]
    clear hp h9
    clear hy10 hy6 hy1
    go_enter Tryz.func11, Tryz.ntmps11
    go_wp2_with (first
      | (go_at_call_of 42 (Value.int .u64 a); (fail_if_success (have _g := G1)); refine K1.out.mono ?_; rintro e w' ⟨rfl, hw'⟩; subst w'; have G1 := hid trivial)
      | (go_at_call_of 42 (Value.int .u64 b); have _g := G1; clear _g; refine K2.out.mono ?_; rintro e w' ⟨rfl, hw'⟩; subst w')
      | fail)
    all_goals go_ret2
    all_goals exact ⟨rfl, Bw.refl _⟩
  have bx10 : (x == 10) = false := by simpa using hx10
  have bx6 : (x == 6) = false := by simpa using hx6
  have bx1 : (x == 1) = false := by simpa using hx1
  by_cases hy10 : y = 10
  · subst hy10
    rw [if_neg (by omega), if_neg (by omega), if_neg (by omega)]
    clear hp h9
    clear hx10 hx6 hx1
    go_enter Tryz.func11, Tryz.ntmps11
    go_wp2_with (first
      | (go_at_call_of 42 (Value.int .u64 a); (fail_if_success (have _g := G1)); refine K1.out.mono ?_; rintro e w' ⟨rfl, hw'⟩; subst w'; have G1 := hid trivial)
      | (go_at_call_of 42 (Value.int .u64 b); have _g := G1; clear _g; refine K2.out.mono ?_; rintro e w' ⟨rfl, hw'⟩; subst w')
      | fail)
    all_goals go_ret2
    all_goals exact ⟨rfl, Bw.refl _⟩
  by_cases hy6 : y = 6
  · subst hy6
    rw [if_neg (by omega), if_neg (by omega), if_neg (by omega)]
    clear hp h9
    clear hx10 hx6 hx1
    go_enter Tryz.func11, Tryz.ntmps11
    go_wp2_with (first
      | (go_at_call_of 42 (Value.int .u64 a); (fail_if_success (have _g := G1)); refine K1.out.mono ?_; rintro e w' ⟨rfl, hw'⟩; subst w'; have G1 := hid trivial)
      | (go_at_call_of 42 (Value.int .u64 b); have _g := G1; clear _g; refine K2.out.mono ?_; rintro e w' ⟨rfl, hw'⟩; subst w')
      | fail)
    all_goals go_ret2
    all_goals exact ⟨rfl, Bw.refl _⟩
  by_cases hy1 : y = 1
  · subst hy1
    rw [if_neg (by omega), if_neg (by omega), if_neg (by omega)]
    clear hp h9
    clear hx10 hx6 hx1
    go_enter Tryz.func11, Tryz.ntmps11
    go_wp2_with (first
      | (go_at_call_of 42 (Value.int .u64 a); (fail_if_success (have _g := G1)); refine K1.out.mono ?_; rintro e w' ⟨rfl, hw'⟩; subst w'; have G1 := hid trivial)
      | (go_at_call_of 42 (Value.int .u64 b); have _g := G1; clear _g; refine K2.out.mono ?_; rintro e w' ⟨rfl, hw'⟩; subst w')
      | fail)
    all_goals go_ret2
    all_goals exact ⟨rfl, Bw.refl _⟩
  have by10 : (y == 10) = false := by simpa using hy10
  have by6 : (y == 6) = false := by simpa using hy6
  have by1 : (y == 1) = false := by simpa using hy1
  rw [if_neg (by omega), if_neg (by omega), if_neg (by omega)]
  clear hp h9
  clear hx10 hx6 hx1 hy10 hy6 hy1
  go_enter Tryz.func11, Tryz.ntmps11
  go_wp2_with (first
    | (go_at_call_of 42 (Value.int .u64 a); (fail_if_success (have _g := G1)); refine K1.out.mono ?_; rintro e w' ⟨rfl, hw'⟩; subst w'; have G1 := hid trivial)
    | (go_at_call_of 42 (Value.int .u64 b); have _g := G1; clear _g; refine K2.out.mono ?_; rintro e w' ⟨rfl, hw'⟩; subst w')
    | fail)
  all_goals go_ret2
  all_goals exact ⟨rfl, Bw.refl _⟩

end

end Go.Proofs.YtajnpdiepiinjaaGreatDoor

set_option linter.unusedSimpArgs false
set_option linter.unusedVariables false
namespace Go.Proofs.YtajnpdiepiinjaaGreatDoor
open Go Go.RowKit

theorem big_no9 {o : AObj} (h : bigO o = false) : o.bytes.length ≤ 100 ∧ o.vals.length ≤ 12 ∧ o.keys.length ≤ 12 ∧ ∀ s ∈ o.keys, s.size ≤ 50 := by
  unfold bigO at h
  simp only [Bool.or_eq_false_iff, decide_eq_false_iff_not, List.any_eq_false] at h
  obtain ⟨⟨⟨h1, h2⟩, h3⟩, h4⟩ := h
  exact ⟨by omega, by omega, by omega, fun s hs => by have := h4 s hs; simp at this; omega⟩

theorem much_no9 {Os : List AObj} {Ws : List (Int × Int × Int)} (h : muchW Os Ws = false) : Os.length ≤ 30 ∧ Ws.length ≤ 30 ∧ ∀ o ∈ Os, bigO o = false := by
  unfold muchW at h
  simp only [Bool.or_eq_false_iff, decide_eq_false_iff_not, List.any_eq_false] at h
  obtain ⟨⟨h1, h2⟩, h3⟩ := h
  exact ⟨by omega, by omega, fun o ho => by have := h3 o ho; simpa using this⟩

theorem WU.wr9 {w : World} {ao aw : Option Addr} {Os : List AObj} {Ws : List (Int × Int × Int)} (h : WU w ao aw Os Ws) (hm : muchW Os Ws = false) : WR w ao aw Os Ws := by
  refine ⟨fun i hi => ?_, h.2⟩
  obtain ⟨b, off, x, e, hb, hc, ho⟩ := h.1 i hi
  have hg := big_no9 ((much_no9 hm).2.2 _ (List.getElem_mem hi))
  exact ⟨b, off, x, e, hb, hc, ho.ol, ho.u, ho.b, by omega, by omega, by omega⟩

/-- The bounds of what a world's heap holds. -/
def Lim (H : AHeap) : Prop := ∀ o ∈ H.2, o.kind ≤ 9 ∧ o.keys.length ≤ 12
theorem Lim.mk {H : AHeap} (h : Lim H) (o : AObj) (ho : o.keys.length ≤ 12) : Lim (mkH H o) := by
  unfold mkH
  split
  · rename_i hk
    unfold aMakeH
    split
    · intro x hx
      rcases List.mem_append.1 hx with hx | hx
      · exact h x hx
      · rw [List.mem_singleton] at hx
        subst hx
        unfold mkOK at hk
        simp only [Bool.and_eq_true, decide_eq_true_eq] at hk
        unfold plO
        repeat' split
        all_goals first
          | exact ⟨by show (1 : Int) ≤ 9; decide, Nat.zero_le _⟩
          | exact ⟨by show (2 : Int) ≤ 9; decide, Nat.zero_le _⟩
          | exact ⟨by show (4 : Int) ≤ 9; decide, Nat.zero_le _⟩
          | exact ⟨by show (6 : Int) ≤ 9; decide, Nat.zero_le _⟩
          | exact ⟨by show (3 : Int) ≤ 9; decide, ho⟩
          | exact ⟨by show (5 : Int) ≤ 9; decide, Nat.zero_le _⟩
          | exact ⟨hk.1.2, Nat.zero_le _⟩
    · exact h
  · exact h
theorem ob_mem9 {H : AHeap} {v : Int} (hU : U v) (hk : kk H v ≠ 0) : ob H v ∈ H.2 := List.mem_of_getElem? (ob_get (H := H) hU (kk_ref hk).2.1).1
theorem Lim.wr {H : AHeap} (h : Lim H) (x : Int × Int × Int) (hU : U x.1) : Lim (wrH H x) := by
  unfold wrH aSetH
  split
  · rename_i hc
    intro o ho
    rcases List.mem_or_eq_of_mem_set ho with ho | ho
    · exact h o ho
    · subst ho
      exact h (ob H x.1) (ob_mem9 hU (by omega))
  · exact h
theorem made_lim {w : World} {ao aw : Option Addr} {Os : List AObj} {Ws : List (Int × Int × Int)} (hw : WU w ao aw Os Ws) (hm : muchW Os Ws = false) : Lim (madeH Os Ws) := by
  have h1 : ∀ (Os : List AObj) (H : AHeap), (∀ o ∈ Os, o.keys.length ≤ 12) → Lim H → Lim (Os.foldl mkH H) := by
    intro Os
    induction Os with
    | nil => intro H _ h; exact h
    | cons o t ih => intro H ho h; exact ih _ (fun x hx => ho x (by simp [hx])) (h.mk o (ho o (by simp)))
  have h2 : ∀ (Ws : List (Int × Int × Int)) (H : AHeap), (∀ x ∈ Ws, U x.1) → Lim H → Lim (Ws.foldl wrH H) := by
    intro Ws
    induction Ws with
    | nil => intro H _ h; exact h
    | cons o t ih => intro H ho h; exact ih _ (fun x hx => ho x (by simp [hx])) (h.wr o (ho o (by simp)))
  refine h2 Ws _ (fun x hx => ?_) (h1 Os _ (fun o ho => (big_no9 ((much_no9 hm).2.2 o ho)).2.2.1) (fun o ho => by cases ho))
  obtain ⟨i, hi, rfl⟩ := List.getElem_of_mem hx
  obtain ⟨_, _, _, _, _, _, _, hu, _⟩ := hw.2 i hi
  exact hu

theorem putE_ne {H : AHeap} {v : Int} {s : ByteArray} {x : Int} (h : aPutE H v s x ≠ 0) : aPutH H v s x = H := by
  unfold aPutE at h
  unfold aPutH
  split at h
  · rename_i h1
    split at h
    · rename_i h2
      rw [if_pos ⟨h1, h2⟩]
      split at h
      · exact absurd rfl h
      · rename_i h3
        rw [if_neg h3]
        split at h
        · rename_i h4; rw [if_pos h4]
        · exact absurd rfl h
    · rename_i h2; rw [if_neg (fun hh => h2 hh.2)]
  · rename_i h1; rw [if_neg (fun hh => h1 hh.1)]

/-- The object of a word, exchanged. -/
theorem ob_set {H : AHeap} {v : Int} (hU : U v) (hk : kk H v ≠ 0) (o : AObj) : kk (H.1, H.2.set (idxV v).toNat o) v = o.kind ∧ ob (H.1, H.2.set (idxV v).toNat o) v = o := by
  obtain ⟨h1, h2, _⟩ := kk_ref hk
  obtain ⟨hg, hi⟩ := ob_get (H := H) hU h2
  have hl : (idxV v).toNat < H.2.length := (List.getElem?_eq_some_iff.1 hg).1
  unfold kk ob
  simp only [List.length_set, List.getD_eq_getElem?_getD, List.getElem?_set_self hl, Option.getD_some]
  rw [if_pos ⟨h1, h2⟩]
  exact ⟨rfl, trivial⟩

theorem akey_none9 {O : List ByteArray} {s : ByteArray} (h : ¬ 0 ≤ aKey O s) : s ∉ O := by
  intro hm
  obtain ⟨i, hi, rfl⟩ := List.getElem_of_mem hm
  unfold aKey at h
  cases hf : O.findIdx? (fun x => decide (x = O[i])) with
  | none =>
    rw [List.findIdx?_eq_none_iff] at hf
    have := hf _ (List.getElem_mem hi)
    simp at this
  | some q => rw [hf] at h; simp at h

theorem akey_new {l : List ByteArray} {s : ByteArray} (h : ¬ 0 ≤ aKey l s) : aKey (l ++ [s]) s = l.length := by
  have hn := akey_none9 h
  refine aKey_hit (by simp) (by simp) (fun j hj e => ?_)
  rw [List.getElem_append_left hj] at e
  exact hn (e ▸ List.getElem_mem hj)

theorem put_field {H : AHeap} {v : Int} {s : ByteArray} {x : Int} (hU : U v) (hc : HOK H) (h : aPutE H v s x = 0) : aFieldE (aPutH H v s x) v s = 0 ∧ aFieldV (aPutH H v s x) v s = x := by
  unfold aPutE at h
  unfold aPutH
  split at h
  · rename_i hk
    have hk0 : kk H v ≠ 0 := by omega
    have ho := hc _ (ob_mem9 hU hk0)
    have hkd : (ob H v).kind = 3 := by rw [← (kk_ref hk0).2.2]; exact hk
    have hlen := ho.2.2.1 hkd
    split at h
    · rename_i hg
      rw [if_pos ⟨hk, hg⟩]
      by_cases ha : 0 ≤ aKey (ob H v).keys s
      · rw [if_pos ha]
        have hs := ob_set hU hk0 (withVals (ob H v) ((ob H v).vals.set (aKey (ob H v).keys s).toNat x))
        have hk2 : (withVals (ob H v) ((ob H v).vals.set (aKey (ob H v).keys s).toNat x)).kind = 3 := hkd
        have hlt := aKey_lt (ob H v).keys s
        unfold aFieldE aFieldV
        rw [hs.1, hs.2, hk2, if_pos rfl, if_pos rfl]
        show (if 0 ≤ aKey (ob H v).keys s then (0 : Int) else 4) = 0 ∧ (if 0 ≤ aKey (ob H v).keys s then ((ob H v).vals.set (aKey (ob H v).keys s).toNat x).getD (aKey (ob H v).keys s).toNat 0 else 0) = x
        rw [if_pos ha, if_pos ha, List.getD_eq_getElem?_getD, List.getElem?_set_self (by omega)]
        exact ⟨rfl, rfl⟩
      · rw [if_neg ha] at h ⊢
        split at h
        · cases h
        · rename_i h6
          rw [if_neg h6]
          have hs := ob_set hU hk0 (withKV (ob H v) ((ob H v).keys ++ [s]) ((ob H v).vals ++ [x]))
          have hk2 : (withKV (ob H v) ((ob H v).keys ++ [s]) ((ob H v).vals ++ [x])).kind = 3 := hkd
          unfold aFieldE aFieldV
          rw [hs.1, hs.2, hk2, if_pos rfl, if_pos rfl]
          show (if 0 ≤ aKey ((ob H v).keys ++ [s]) s then (0 : Int) else 4) = 0 ∧ (if 0 ≤ aKey ((ob H v).keys ++ [s]) s then ((ob H v).vals ++ [x]).getD (aKey ((ob H v).keys ++ [s]) s).toNat 0 else 0) = x
          rw [akey_new ha, if_pos (by omega), if_pos (by omega)]
          refine ⟨rfl, ?_⟩
          rw [Int.toNat_natCast, hlen, List.getD_eq_getElem?_getD, List.getElem?_append_right (Nat.le_refl _)]
          simp
    · cases h
  · cases h

/-- Is an entry 0 written? -/
def s0 (H : AHeap) (a x : Int) : Bool := decide (kk H a = 2) && decide (0 < (ob H a).vals.length) && gd H.2.length x
theorem set_at {H : AHeap} {a x : Int} (hU : U a) (h : s0 H a x = true) : aSetE H a 0 x = 0 ∧ kk (aSetH H a 0 x) a = 2 ∧ aAtE (aSetH H a 0 x) a 0 = 0 ∧ aAtV (aSetH H a 0 x) a 0 = x := by
  unfold s0 at h
  simp only [Bool.and_eq_true, decide_eq_true_eq] at h
  obtain ⟨⟨hk, hl⟩, hg⟩ := h
  have hk0 : kk H a ≠ 0 := by omega
  have hkd : (ob H a).kind = 2 := by rw [← (kk_ref hk0).2.2]; exact hk
  have e1 : aSetE H a 0 x = 0 := by unfold aSetE; simp [hk, hg, hl]
  have e2 : aSetH H a 0 x = (H.1, H.2.set (idxV a).toNat (withVals (ob H a) ((ob H a).vals.set 0 x))) := by unfold aSetH; simp [hk, hg, hl]
  have hs := ob_set hU hk0 (withVals (ob H a) ((ob H a).vals.set 0 x))
  have hk2 : (withVals (ob H a) ((ob H a).vals.set 0 x)).kind = 2 := hkd
  have hv : (withVals (ob H a) ((ob H a).vals.set 0 x)).vals = (ob H a).vals.set 0 x := rfl
  rw [e2]
  refine ⟨e1, by rw [hs.1, hk2], ?_, ?_⟩
  · unfold aAtE
    rw [hs.1, hs.2, hk2, hv]
    simp [hl]
  · unfold aAtV
    rw [hs.1, hs.2, hk2, hv]
    cases hvv : (ob H a).vals with
    | nil => rw [hvv] at hl; simp at hl
    | cons y t => simp

section
variable {w w' : World}

set_option maxRecDepth 100000 in
set_option maxHeartbeats 1000000 in
theorem isFull_some {b0 : Nat} {H : AHeap} {bs : List Nat} (r : Int) (s : ByteArray) (hU : U r) (hp : HS w b0 H bs) (hk : kk H r = 3) :
    Calls Tryz.prog 70 #[.pointer (some ⟨b0, 0, none⟩), .int .u64 r, .string s] w fun e w' => (∃ q, e = .returned (.bool q)) ∧ Bw w w' := by
  have HC := hid (field_any r s hU w hp)
  have HL := hid (fun (w1 : World) (hb : Bw w w1) => len_list r hU w1 (hp.bw hb) (.inr hk))
  obtain ⟨q, hq⟩ : ∃ q, (aFieldE H r s == 4) = q := ⟨_, rfl⟩
  obtain ⟨q2, hq2⟩ : ∃ q, decide (256 ≤ ((ob H r).vals.length : Int)) = q := ⟨_, rfl⟩
  generalize aFieldE H r s = E at HC hq
  generalize aFieldV H r s = V at HC
  generalize ((ob H r).vals.length : Int) = n at HL hq2
  clear hp hk
  cases q <;> cases q2
  all_goals
    go_enter Tryz.func70, Tryz.ntmps70
    go_wp2_with (first
      | (go_at_call 72; refine HC.out.mono ?_; rintro e w1 ⟨rfl, hl1⟩; have B1 := hid hl1.bw; clear hl1)
      | (go_at_call 32; refine (HL.out _ B1.out).mono ?_; rintro e w2 ⟨rfl, hl2⟩; have B2 := hid (B1.out.trans hl2.bw); clear hl2)
      | fail)
    all_goals go_ret
    all_goals exact ⟨⟨_, rfl⟩, B2.out⟩

/-- What SetField answers: the field is written, or nothing is. -/
def SFP (w : World) (b0 : Nat) (H : AHeap) (bs : List Nat) (r : Int) (s : ByteArray) (x : Int) (e : Ending) (w' : World) : Prop :=
  ∃ f : Int, e = .returned (.int .i64 f) ∧ ((aPutE H r s x = 0 ∧ f = 0 ∧ ∃ bs', HS w' b0 (aPutH H r s x) bs' ∧ Nx bs w w' bs') ∨ (aPutE H r s x ≠ 0 ∧ f ≠ 0 ∧ ∃ bs', HS w' b0 H bs' ∧ Nx bs w w' bs'))

set_option maxRecDepth 100000 in
set_option maxHeartbeats 2000000 in
theorem SetField_two {b0 : Nat} {H : AHeap} {bs : List Nat} (r : Int) (s : ByteArray) (x : Int) (hU : U r) (hUx : U x) (hp : HS w b0 H bs) (hcap : ∀ o ∈ H.2, o.keys.length ≤ 256) :
    Calls Tryz.prog 20 #[.pointer (some ⟨b0, 0, none⟩), .int .u64 r, .string s, .int .u64 x] w (SFP w b0 H bs r s x) := by
  by_cases he : aPutE H r s x = 0
  · exact (SetField_yes r s x hU hUx hp hcap he).mono fun e w' ⟨h1, h2⟩ => ⟨0, h1, .inl ⟨he, rfl, h2⟩⟩
  have HC := hid (put_any r s x hU hUx w hp hcap)
  rw [putE_ne he] at HC
  have HC := hid HC.out
  have HE := hid he
  by_cases h1 : aPutE H r s x = 1
  · have hk : kk H r = 3 := by
      unfold aPutE at h1
      split at h1
      · assumption
      · omega
    have HF := hid (fun (w1 : World) (bs1 : List Nat) (h : HS w1 b0 H bs1) => isFull_some (w := w1) r s hU h hk)
    rw [h1] at HC
    have HC := hid HC.out
    clear hp hcap he h1 hk
    go_enter Tryz.func20, Tryz.ntmps20
    go_wp2_with (first
      | (go_at_call 69; refine HC.out.mono ?_; rintro e w1 ⟨rfl, bs1, hs1, hn1⟩; have S1 := hid hs1; have N1 := hid hn1; clear hs1 hn1)
      | (go_at_call 70; refine (HF.out _ _ S1.out).mono ?_; rintro e w2 ⟨⟨q, rfl⟩, hb2⟩; have S2 := hid (S1.out.bw hb2); have N2 := hid (N1.out.trans (hb2.nx _)); cases q <;> clear hb2)
      | (go_at_call 71; refine (writtenFault_any _).mono ?_; rintro e w' ⟨rfl, hw'⟩; subst w')
      | fail)
    all_goals go_ret
    all_goals exact ⟨_, rfl, .inr ⟨HE.out, by decide, _, S2.out, N2.out⟩⟩
  · have n1 : (aPutE H r s x == 1) = false := by simpa using h1
    have hw : wF (aPutE H r s x) ≠ 0 := by unfold wF; rw [if_neg he]; split <;> decide
    have HW := hid hw
    clear hp hcap he h1 hw
    unfold SFP
    generalize aPutE H r s x = E at HC n1 HW HE ⊢
    go_enter Tryz.func20, Tryz.ntmps20
    go_wp2_with (first
      | (go_at_call 69; refine HC.out.mono ?_; rintro e w1 ⟨rfl, bs1, hs1, hn1⟩; have S1 := hid hs1; have N1 := hid hn1; clear hs1 hn1)
      | (go_at_call 71; refine (writtenFault_any _).mono ?_; rintro e w' ⟨rfl, hw'⟩; subst w')
      | fail)
    all_goals go_ret
    all_goals exact ⟨_, rfl, .inr ⟨HE.out, HW.out, _, S1.out, N1.out⟩⟩

/-- What SetIndex answers at 0: the entry is written, or nothing is. -/
def SIP (w : World) (b0 : Nat) (H : AHeap) (bs : List Nat) (a x : Int) (e : Ending) (w' : World) : Prop :=
  ∃ f : Int, e = .returned (.int .i64 f) ∧ ((s0 H a x = true ∧ f = 0 ∧ ∃ bs', HS w' b0 (aSetH H a 0 x) bs' ∧ Nx bs w w' bs') ∨ (f ≠ 0 ∧ ∃ bs', HS w' b0 H bs' ∧ Nx bs w w' bs'))

theorem set_same {H : AHeap} {a x : Int} (h : aSetE H a 0 x ≠ 0) : aSetH H a 0 x = H := by
  unfold aSetE at h
  unfold aSetH
  by_cases h1 : (kk H a = 2 ∨ kk H a = 4) ∧ gd H.2.length x = true ∧ 0 ≤ (0 : Int) ∧ (0 : Int) < (ob H a).vals.length
  · exfalso
    apply h
    rw [if_pos h1.1, if_pos h1.2.1, if_pos h1.2.2]
  · first | rw [if_neg h1] | (rw [if_neg (by intro hh; exact h1 (by simpa using hh))])

theorem kk_zero (H : AHeap) : kk H 0 = 0 := by
  unfold kk
  rw [if_neg (fun h => absurd h.1 (by decide))]

set_option maxRecDepth 100000 in
set_option maxHeartbeats 1000000 in
theorem keyOf_zero {b0 : Nat} {H : AHeap} {bs : List Nat} (hp : HS w b0 H bs) :
    Calls Tryz.prog 74 #[.pointer (some ⟨b0, 0, none⟩), .int .u64 0] w fun e w' => (∃ t, e = .returned (.tuple #[.string t, .bool false])) ∧ Bw w w' := by
  have HC := hid (bytes_no 0 ⟨by decide, by decide⟩ w hp (by rw [kk_zero]; decide))
  have q1 := fun (w1 : World) => (show By w1 (.slice none ([] : List Int).length 0) [] from ⟨Sl.nil _ _ 1, fun c hc => (by cases hc), by decide⟩).conv0
  simp only [List.length_nil] at q1
  clear hp
  go_enter Tryz.func74, Tryz.ntmps74
  go_wp2_with (first
    | (go_at_call 26; refine HC.out.mono ?_; rintro e w1 ⟨rfl, hl1⟩; have B1 := hid hl1.bw; clear hl1)
    | fail)
  all_goals go_ret2
  all_goals exact ⟨⟨_, rfl⟩, B1.out⟩

set_option maxRecDepth 100000 in
set_option maxHeartbeats 2000000 in
theorem setEntry_zero {b0 : Nat} {H : AHeap} {bs : List Nat} (a x : Int) (hU : U a) (hUx : U x) (hp : HS w b0 H bs) (hk : kk H a = 2) :
    Calls Tryz.prog 73 #[.pointer (some ⟨b0, 0, none⟩), .int .u64 a, .int .i64 0, .int .u64 x] w (SIP w b0 H bs a x) := by
  have HA := hid (at_any a 0 hU w hp)
  have HS1 := hid (fun (w1 : World) (hb : Bw w w1) => set_any a 0 x hU hUx w1 (hp.bw hb))
  have HP := hid hp
  by_cases hl : 0 < (ob H a).vals.length
  · have he : aAtE H a 0 = 0 := by unfold aAtE; rw [hk]; simp; exact fun h => by rw [h] at hl; simp at hl
    rw [he] at HA
    have HA := hid HA.out
    by_cases hz : aSetE H a 0 x = 0
    · have hs0 : s0 H a x = true := by
        unfold s0
        have hg : gd H.2.length x = true := by
          unfold aSetE at hz
          rw [if_pos (.inl hk)] at hz
          split at hz
          · assumption
          · cases hz
        simp [hk, hl, hg]
      have H0 := hid hs0
      have HZ := hid hz
      clear hp hk hl he hz hs0
      unfold SIP
      generalize aSetH H a 0 x = H' at HS1 ⊢
      go_enter Tryz.func73, Tryz.ntmps73
      go_wp2_with (first
        | (go_at_call 33; refine HA.out.mono ?_; rintro e w1 ⟨rfl, hl1⟩; have B1 := hid hl1.bw; clear hl1)
        | (go_at_call 39; refine (HS1.out _ B1.out).mono ?_; rw [HZ.out]; rintro e w2 ⟨rfl, bs2, hs2, hn2⟩; have S2 := hid hs2; have N2 := hid (Bw.nxBefore B1.out hn2); clear hs2 hn2)
        | (go_at_call 71; refine (writtenFault_any _).mono ?_; rw [show wF 0 = 0 from rfl]; rintro e w' ⟨rfl, hw'⟩; subst w')
        | fail)
      all_goals go_ret
      all_goals exact ⟨_, rfl, .inl ⟨H0.out, rfl, _, S2.out, N2.out⟩⟩
    · have hw : wF (aSetE H a 0 x) ≠ 0 := by unfold wF; rw [if_neg hz]; split <;> decide
      have HW := hid hw
      rw [set_same hz] at HS1
      have HS1 := hid HS1.out
      clear hp hk hl he hz hw
      unfold SIP
      generalize aSetE H a 0 x = E at HS1 HW
      go_enter Tryz.func73, Tryz.ntmps73
      go_wp2_with (first
        | (go_at_call 33; refine HA.out.mono ?_; rintro e w1 ⟨rfl, hl1⟩; have B1 := hid hl1.bw; clear hl1)
        | (go_at_call 39; refine (HS1.out _ B1.out).mono ?_; rintro e w2 ⟨rfl, bs2, hs2, hn2⟩; have S2 := hid hs2; have N2 := hid (Bw.nxBefore B1.out hn2); clear hs2 hn2)
        | (go_at_call 71; refine (writtenFault_any _).mono ?_; rintro e w' ⟨rfl, hw'⟩; subst w')
        | fail)
      all_goals go_ret
      all_goals exact ⟨_, rfl, .inr ⟨HW.out, _, S2.out, N2.out⟩⟩
  · have he : aAtE H a 0 = 9 := by unfold aAtE; rw [hk]; simp; exact List.eq_nil_of_length_eq_zero (by omega)
    rw [he] at HA
    have HA := hid HA.out
    clear hp hk hl he HS1
    go_enter Tryz.func73, Tryz.ntmps73
    go_wp2_with (first
      | (go_at_call 33; refine HA.out.mono ?_; rintro e w1 ⟨rfl, hl1⟩; have B1 := hid hl1.bw; clear hl1)
      | fail)
    all_goals go_ret
    all_goals exact ⟨_, rfl, .inr ⟨by decide, _, HP.out.bw B1.out, B1.out.nx _⟩⟩

set_option maxRecDepth 100000 in
set_option maxHeartbeats 2000000 in
theorem SetIndex_zero {b0 : Nat} {H : AHeap} {bs : List Nat} (a x : Int) (hU : U a) (hUx : U x) (hp : HS w b0 H bs) :
    Calls Tryz.prog 22 #[.pointer (some ⟨b0, 0, none⟩), .int .u64 a, .int .u64 0, .int .u64 x] w (SIP w b0 H bs a x) := by
  have K1 := hid (kind_hs9 a hU w hp)
  have HP := hid hp
  by_cases h2 : kk H a = 2
  · have HE := hid (setEntry_zero a x hU hUx hp h2)
    have HN := hid (show Calls Tryz.prog 28 #[.int .u64 0] w fun e w' => e = .returned (.tuple #[.int .i64 0, .bool true]) ∧ w' = w from tnum_yes 0 ⟨by decide, by decide⟩ rfl w)
    rw [h2] at K1
    have K1 := hid K1.out
    clear hp h2
    go_enter Tryz.func22, Tryz.ntmps22
    go_wp2_with (first
      | (go_at_call 63; refine K1.out.mono ?_; rintro e w' ⟨rfl, hw'⟩; subst w')
      | (go_at_call 28; refine HN.out.mono ?_; rintro e w' ⟨rfl, hw'⟩; subst w')
      | (go_at_call 73; refine HE.out.mono ?_; rintro e w1 ⟨f, rfl, hf⟩; have HF := hid hf; clear hf)
      | fail)
    all_goals go_ret
    all_goals exact ⟨_, rfl, HF.out⟩
  by_cases h3 : kk H a = 3
  · have HK := hid (keyOf_zero hp)
    rw [h3] at K1
    have K1 := hid K1.out
    clear hp h2 h3
    go_enter Tryz.func22, Tryz.ntmps22
    go_wp2_with (first
      | (go_at_call 63; refine K1.out.mono ?_; rintro e w' ⟨rfl, hw'⟩; subst w')
      | (go_at_call 74; refine HK.out.mono ?_; rintro e w1 ⟨⟨t, rfl⟩, hb1⟩; have B1 := hid hb1; clear hb1)
      | fail)
    all_goals go_ret
    all_goals exact ⟨_, rfl, .inr ⟨by decide, _, HP.out.bw B1.out, B1.out.nx _⟩⟩
  have n2 : (kk H a == 2) = false := by simpa using h2
  have n3 : (kk H a == 3) = false := by simpa using h3
  unfold SIP
  obtain ⟨q, hq⟩ : ∃ q, kk H a = q := ⟨_, rfl⟩
  rw [hq] at K1 n2 n3
  clear hp h2 h3 hq
  go_enter Tryz.func22, Tryz.ntmps22
  go_wp2_with (first
    | (go_at_call 63; refine K1.out.mono ?_; rintro e w' ⟨rfl, hw'⟩; subst w')
    | fail)
  all_goals go_ret
  all_goals exact ⟨_, rfl, .inr ⟨by decide, _, HP.out, (Bw.refl _).nx _⟩⟩

set_option maxRecDepth 100000 in
set_option maxHeartbeats 1000000 in
theorem Bin_nil (op a b : Int) : Calls Tryz.prog 11 #[.pointer none, .int .i64 op, .int .u64 a, .int .u64 b] w fun e w' => e = .returned (.tuple #[.int .u64 0, .int .i64 100]) ∧ w' = w := by
  go_enter Tryz.func11, Tryz.ntmps11
  go_wp2
  all_goals go_ret2
  all_goals exact ⟨rfl, rfl⟩

set_option maxRecDepth 100000 in
set_option maxHeartbeats 1000000 in
theorem Not_any (v : Int) : Calls Tryz.prog 16 #[.int .u64 v] w fun e w' => e = .returned (.int .u64 (bv (!tru v))) ∧ w' = w := by
  go_enter Tryz.func16, Tryz.ntmps16
  go_wp2_with (first
    | (go_at_call 18; refine (ttruth_any _ _).mono ?_; rintro e w' ⟨rfl, hw'⟩; subst w')
    | (go_at_call 17; refine (tbool_any _ _).mono ?_; rintro e w' ⟨rfl, hw'⟩; subst w')
    | fail)
  all_goals go_ret
  all_goals exact ⟨rfl, rfl⟩

end

end Go.Proofs.YtajnpdiepiinjaaGreatDoor

