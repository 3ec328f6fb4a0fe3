/- prim.Bin and prim.Neg of any words, in any world: contracts. -/
import Derived.Test.YtjcoifdfemejkaaGreatDoorM14
import Derived.Test.YtjcoifdfemejkaaGreatDoorKYk
set_option linter.unusedSimpArgs false
set_option linter.unusedVariables false
namespace Go.Proofs.YtjcoifdfemejkaaGreatDoor
open Go Go.RowKit

def cxr (H : AHeap) (v : Int) : Nat := if kof H v = 10 then floatOfInt .f64 (nm v) else cn (ob H v).re.toNat
def cxi (H : AHeap) (v : Int) : Nat := if kof H v = 10 then floatOfInt .f64 0 else cn (ob H v).im.toNat
/-- Numbers. -/
def bnV (op a b : Int) : Int := if op = 0 then mk (nm a + nm b) else if op = 1 then mk (nm a - nm b) else if op = 2 then mk (nm a * nm b) else if op = 3 then (if nm b = 0 then 0 else mk (quo (nm a) (nm b))) else if op = 4 then (if nm b = 0 then 0 else mk (rest (nm a) (nm b))) else cpV op (ltB a b) (ltB b a)
def bnF (op b : Int) : Int := if op = 0 then 0 else if op = 1 then 0 else if op = 2 then 0 else if op = 3 then (if nm b = 0 then 2 else 0) else if op = 4 then (if nm b = 0 then 2 else 0) else cpF op
/-- A new object, or why not. -/
def mkR (H : AHeap) (o : AObj) : Int × Int × AHeap := (aMakeV H o, mF (aMakeE H o), aMakeH H o)
/-- Complex numbers. -/
def bxR (H : AHeap) (op : Int) (a b c d : Nat) : Int × Int × AHeap := if op = 0 then mkR H (oCplx (fo .add a c) (fo .add b d)) else if op = 1 then mkR H (oCplx (fo .sub a c) (fo .sub b d)) else if op = 2 then mkR H (oCplx (mre a b c d) (mim a b c d)) else if op = 3 then (if dz c d then (0, 2, H) else mkR H (oCplx (dre a b c d) (dim a b c d))) else (0, 1, H)
/-- Strings. -/
def bsR (H : AHeap) (op a b : Int) : Int × Int × AHeap := if op = 0 then mkR H (oStr ((ob H a).bytes ++ (ob H b).bytes)) else (cpV op (decide (cmpB (ob H a).bytes (ob H b).bytes < 0)) (decide (0 < cmpB (ob H a).bytes (ob H b).bytes)), cpF op, H)
def isC (H : AHeap) (v : Int) : Prop := kof H v = 10 ∨ kof H v = 6
instance (H : AHeap) (v : Int) : Decidable (isC H v) := by unfold isC; infer_instance
def biR (H : AHeap) (op a b : Int) : Int × Int × AHeap :=
  if op = 5 then (bv (eqW H a b), 0, H) else if op = 6 then (bv (!eqW H a b), 0, H)
  else if kof H a = 10 ∧ kof H b = 10 then (bnV op a b, bnF op b, H)
  else if isC H a ∧ isC H b then bxR H op (cxr H a) (cxi H a) (cxr H b) (cxi H b)
  else if kof H a = 1 ∧ kof H b = 1 then bsR H op a b
  else (0, 1, H)
def ngR (H : AHeap) (a : Int) : Int × Int × AHeap := if kof H a = 10 then (mk (- nm a), 0, H) else if kof H a = 6 then mkR H (oCplx (fo .sub 0 (cxr H a)) (fo .sub 0 (cxi H a))) else (0, 1, H)

def BP (b0 : Nat) (bs : List Nat) (w : World) (R : Int × Int × AHeap) (e : Ending) (w' : World) : Prop := e = .returned (.tuple #[.int .u64 R.1, .int .i64 R.2.1]) ∧ ∃ bs', HS w' b0 R.2.2 bs' ∧ Nx bs w w' bs'

section
variable {w w' : World}

theorem BP.none {b0 : Nat} {H : AHeap} {bs : List Nat} {V F : Int} (hp : HS w b0 H bs) {w' : World} (hb : Bw w w') : BP b0 bs w (V, F, H) (.returned (.tuple #[.int .u64 V, .int .i64 F])) w' := ⟨rfl, bs, hp.bw hb, hb.nx bs⟩

set_option maxRecDepth 100000 in
set_option maxHeartbeats 1000000 in
theorem complexOf_val {b0 : Nat} {H : AHeap} {bs : List Nat} (v : Int) (hU : U v) (hp : HS w b0 H bs) (h9 : ∀ o ∈ H.2, o.kind ≤ 9) (hk : isC H v) :
    Calls Tryz.prog 31 #[.pointer (some ⟨b0, 0, none⟩), .int .u64 v] w fun e w' => e = .returned (.complex .f64 (cxr H v) (cxi H v)) ∧ Bw w w' := by
  by_cases hk10 : kof H v = 10
  · have hn := kof_10 hU hp.ok hk10 h9
    rw [show cxr H v = floatOfInt .f64 (nm v) from if_pos hk10, show cxi H v = floatOfInt .f64 0 from if_pos hk10]
    have HN := hid (tnum_yes v hU hn w)
    generalize nm v = n at HN ⊢
    clear hp hk hn hk10
    go_enter Tryz.func31, Tryz.ntmps31
    go_wp2_with (first
      | (go_at_call 59; refine HN.out.mono ?_; rintro e w' ⟨rfl, hw'⟩; subst w')
      | (go_at_call 87; refine (cmake_any _ _ _).mono ?_; rintro e w' ⟨rfl, hw'⟩; subst w')
      | fail)
    all_goals go_ret
    all_goals exact ⟨rfl, Bw.refl _⟩
  · have hk6 : kk H v = 6 := kof_kk6 (.inr rfl) (hk.resolve_left hk10)
    have hn : ¬ N v := fun h => hk10 (kof_num (kd_num h))
    rw [show cxr H v = cn (ob H v).re.toNat from if_neg hk10, show cxi H v = cn (ob H v).im.toNat from if_neg hk10]
    have HN := hid (tnum_no v hU hn w)
    have HC := hid (cplxOf_yes v hU w hp hk6)
    generalize (ob H v).re = x at HC ⊢
    generalize (ob H v).im = y at HC ⊢
    clear hp hk hn hk10 hk6
    go_enter Tryz.func31, Tryz.ntmps31
    go_wp2_with (first
      | (go_at_call 59; refine HN.out.mono ?_; rintro e w' ⟨rfl, hw'⟩; subst w')
      | (go_at_call 88; refine HC.out.mono ?_; rintro e w1 ⟨rfl, hl1⟩; have B1 := hid hl1.bw; clear hl1)
      | (go_at_call 89; refine (cmade_any _ _ _).mono ?_; rintro e w' ⟨rfl, hw'⟩; subst w')
      | fail)
    all_goals go_ret
    all_goals exact ⟨rfl, B1.out⟩

set_option maxRecDepth 100000 in
set_option maxHeartbeats 1000000 in
theorem newComplex_any {b0 : Nat} {H : AHeap} {bs : List Nat} (x y : Nat) (hp : HS w b0 H bs) (hx : cn x = x) (hy : cn y = y) :
    Calls Tryz.prog 54 #[.pointer (some ⟨b0, 0, none⟩), .complex .f64 x y] w (BP b0 bs w (mkR H (oCplx x y))) := by
  have HB := hid (cbits_any x y w)
  rw [hx, hy] at HB
  have HC := hid (fun (w1 : World) (hw : Bw w w1) => cplx_any (x : Int) (y : Int) w1 (hp.bw hw))
  unfold BP mkR
  simp only
  generalize oCplx (x : Int) (y : Int) = o at HC ⊢
  generalize aMakeV H o = V at HC ⊢
  generalize aMakeE H o = E at HC ⊢
  generalize aMakeH H o = H' at HC ⊢
  clear hp hx hy
  go_enter Tryz.func54, Tryz.ntmps54
  go_wp2_with (first
    | (go_at_call 107; refine HB.out.mono ?_; rintro e w' ⟨rfl, hw'⟩; subst w')
    | (go_at_call 65; refine (HC.out _ (by repeat (first | exact Bw.refl _ | apply Bw.alloc | apply Bw.drewN | apply Bw.drew))).mono ?_; rintro e w1 ⟨rfl, bs1, hs1, hn1⟩; have S1 := hid hs1; have N1 := hid (Bw.nxBefore (by repeat (first | exact Bw.refl _ | apply Bw.alloc | apply Bw.drewN | apply Bw.drew)) hn1); clear hs1 hn1)
    | (go_at_call 108; refine (madeFault_any _).mono ?_; rintro e w' ⟨rfl, hw'⟩; subst w')
    | fail)
  all_goals go_ret2
  all_goals exact ⟨rfl, _, S1.out, N1.out⟩

set_option maxRecDepth 100000 in
set_option maxHeartbeats 1000000 in
theorem binComplex_add {b0 : Nat} {H : AHeap} {bs : List Nat} (a b c d : Nat) (hp : HS w b0 H bs) :
    Calls Tryz.prog 30 #[.pointer (some ⟨b0, 0, none⟩), .int .i64 0, .complex .f64 a b, .complex .f64 c d] w (BP b0 bs w (mkR H (oCplx (fo .add a c : Nat) (fo .add b d : Nat)))) := by
  have HA := hid (cadd_any a b c d w)
  have HC := hid (fun (w1 : World) (hw : Bw w w1) => newComplex_any (w := w1) (fo .add a c) (fo .add b d) (hp.bw hw) (cn_fo ..) (cn_fo ..))
  unfold BP at HC ⊢
  generalize fo .add a c = x at HA HC ⊢
  generalize fo .add b d = y at HA HC ⊢
  generalize mkR H (oCplx (x : Nat) (y : Nat)) = R at HC ⊢
  obtain ⟨V, F, H'⟩ := R
  simp only at HC ⊢
  clear hp
  go_enter Tryz.func30, Tryz.ntmps30
  go_wp2_with (first
    | (go_at_call 84; refine HA.out.mono ?_; rintro e w1 ⟨rfl, hd1⟩; have B1 := hid hd1.bw; clear hd1)
    | (go_at_call 54; refine (HC.out _ B1.out).mono ?_; rintro e w2 ⟨rfl, bs2, hs2, hn2⟩; have S2 := hid hs2; have N2 := hid (Bw.nxBefore B1.out hn2); clear hs2 hn2)
    | fail)
  all_goals go_ret2
  all_goals exact ⟨rfl, _, S2.out, N2.out⟩

set_option maxRecDepth 100000 in
set_option maxHeartbeats 1000000 in
theorem binComplex_sub {b0 : Nat} {H : AHeap} {bs : List Nat} (a b c d : Nat) (hp : HS w b0 H bs) :
    Calls Tryz.prog 30 #[.pointer (some ⟨b0, 0, none⟩), .int .i64 1, .complex .f64 a b, .complex .f64 c d] w (BP b0 bs w (mkR H (oCplx (fo .sub a c : Nat) (fo .sub b d : Nat)))) := by
  have HA := hid (csub_any a b c d w)
  have HC := hid (fun (w1 : World) (hw : Bw w w1) => newComplex_any (w := w1) (fo .sub a c) (fo .sub b d) (hp.bw hw) (cn_fo ..) (cn_fo ..))
  unfold BP at HC ⊢
  generalize fo .sub a c = x at HA HC ⊢
  generalize fo .sub b d = y at HA HC ⊢
  generalize mkR H (oCplx (x : Nat) (y : Nat)) = R at HC ⊢
  obtain ⟨V, F, H'⟩ := R
  simp only at HC ⊢
  clear hp
  go_enter Tryz.func30, Tryz.ntmps30
  go_wp2_with (first
    | (go_at_call 55; refine HA.out.mono ?_; rintro e w1 ⟨rfl, hd1⟩; have B1 := hid hd1.bw; clear hd1)
    | (go_at_call 54; refine (HC.out _ B1.out).mono ?_; rintro e w2 ⟨rfl, bs2, hs2, hn2⟩; have S2 := hid hs2; have N2 := hid (Bw.nxBefore B1.out hn2); clear hs2 hn2)
    | fail)
  all_goals go_ret2
  all_goals exact ⟨rfl, _, S2.out, N2.out⟩

set_option maxRecDepth 100000 in
set_option maxHeartbeats 1000000 in
theorem binComplex_mul {b0 : Nat} {H : AHeap} {bs : List Nat} (a b c d : Nat) (hp : HS w b0 H bs) :
    Calls Tryz.prog 30 #[.pointer (some ⟨b0, 0, none⟩), .int .i64 2, .complex .f64 a b, .complex .f64 c d] w (BP b0 bs w (mkR H (oCplx (mre a b c d : Nat) (mim a b c d : Nat)))) := by
  have HA := hid (cmul_any a b c d w)
  have HC := hid (fun (w1 : World) (hw : Bw w w1) => newComplex_any (w := w1) (mre a b c d) (mim a b c d) (hp.bw hw) (cn_fo ..) (cn_fo ..))
  unfold BP at HC ⊢
  generalize mre a b c d = x at HA HC ⊢
  generalize mim a b c d = y at HA HC ⊢
  generalize mkR H (oCplx (x : Nat) (y : Nat)) = R at HC ⊢
  obtain ⟨V, F, H'⟩ := R
  simp only at HC ⊢
  clear hp
  go_enter Tryz.func30, Tryz.ntmps30
  go_wp2_with (first
    | (go_at_call 85; refine HA.out.mono ?_; rintro e w1 ⟨rfl, hd1⟩; have B1 := hid hd1.bw; clear hd1)
    | (go_at_call 54; refine (HC.out _ B1.out).mono ?_; rintro e w2 ⟨rfl, bs2, hs2, hn2⟩; have S2 := hid hs2; have N2 := hid (Bw.nxBefore B1.out hn2); clear hs2 hn2)
    | fail)
  all_goals go_ret2
  all_goals exact ⟨rfl, _, S2.out, N2.out⟩

set_option maxRecDepth 100000 in
set_option maxHeartbeats 1000000 in
theorem binComplex_div {b0 : Nat} {H : AHeap} {bs : List Nat} (a b c d : Nat) (hp : HS w b0 H bs) (hz : dz c d = false) :
    Calls Tryz.prog 30 #[.pointer (some ⟨b0, 0, none⟩), .int .i64 3, .complex .f64 a b, .complex .f64 c d] w (BP b0 bs w (mkR H (oCplx (dre a b c d : Nat) (dim a b c d : Nat)))) := by
  have HA := hid (show Calls Tryz.prog 86 #[.complex .f64 a b, .complex .f64 c d] w fun e w' => e = .returned (.tuple #[.complex .f64 (dre a b c d) (dim a b c d), .int .i64 0]) ∧ Dn w w' by
    have := cdiv_any a b c d w
    rwa [show qre a b c d = dre a b c d by simp [qre, hz], show qim a b c d = dim a b c d by simp [qim, hz], show qer c d = 0 by simp [qer, hz]] at this)
  have HC := hid (fun (w1 : World) (hw : Bw w w1) => newComplex_any (w := w1) (dre a b c d) (dim a b c d) (hp.bw hw) (cn_fo ..) (cn_fo ..))
  unfold BP at HC ⊢
  generalize dre a b c d = x at HA HC ⊢
  generalize dim a b c d = y at HA HC ⊢
  generalize mkR H (oCplx (x : Nat) (y : Nat)) = R at HC ⊢
  obtain ⟨V, F, H'⟩ := R
  simp only at HC ⊢
  clear hp hz
  go_enter Tryz.func30, Tryz.ntmps30
  go_wp2_with (first
    | (go_at_call 86; refine HA.out.mono ?_; rintro e w1 ⟨rfl, hd1⟩; have B1 := hid hd1.bw; clear hd1)
    | (go_at_call 54; refine (HC.out _ B1.out).mono ?_; rintro e w2 ⟨rfl, bs2, hs2, hn2⟩; have S2 := hid hs2; have N2 := hid (Bw.nxBefore B1.out hn2); clear hs2 hn2)
    | fail)
  all_goals go_ret2
  all_goals exact ⟨rfl, _, S2.out, N2.out⟩

set_option maxRecDepth 100000 in
set_option maxHeartbeats 1000000 in
theorem binComplex_zero (b0 : Nat) (a b c d : Nat) (hz : dz c d = true) :
    Calls Tryz.prog 30 #[.pointer (some ⟨b0, 0, none⟩), .int .i64 3, .complex .f64 a b, .complex .f64 c d] w fun e w' => e = .returned (.tuple #[.int .u64 0, .int .i64 2]) ∧ Bw w w' := by
  have HA := hid (show Calls Tryz.prog 86 #[.complex .f64 a b, .complex .f64 c d] w fun e w' => e = .returned (.tuple #[.complex .f64 0 0, .int .i64 10]) ∧ Dn w w' by
    have := cdiv_any a b c d w
    rwa [show qre a b c d = 0 by simp [qre, hz], show qim a b c d = 0 by simp [qim, hz], show qer c d = 10 by simp [qer, hz]] at this)
  clear hz
  go_enter Tryz.func30, Tryz.ntmps30
  go_wp2_with (first
    | (go_at_call 86; refine HA.out.mono ?_; rintro e w1 ⟨rfl, hd1⟩; have B1 := hid hd1.bw; clear hd1)
    | fail)
  all_goals go_ret2
  all_goals exact ⟨rfl, B1.out⟩

set_option maxRecDepth 100000 in
set_option maxHeartbeats 1000000 in
theorem binComplex_type (b0 : Nat) (op : Int) (h4 : op < 0 ∨ 4 ≤ op) (a b c d : Nat) :
    Calls Tryz.prog 30 #[.pointer (some ⟨b0, 0, none⟩), .int .i64 op, .complex .f64 a b, .complex .f64 c d] w fun e w' => e = .returned (.tuple #[.int .u64 0, .int .i64 1]) ∧ w' = w := by
  have n0 : (op == 0) = false := by simp; omega
  have n1 : (op == 1) = false := by simp; omega
  have n2 : (op == 2) = false := by simp; omega
  have n3 : (op == 3) = false := by simp; omega
  clear h4
  go_enter Tryz.func30, Tryz.ntmps30
  go_wp2
  all_goals go_ret2
  all_goals exact ⟨rfl, rfl⟩

theorem binComplex_all {b0 : Nat} {H : AHeap} {bs : List Nat} (op : Int) (a b c d : Nat) (hp : HS w b0 H bs) :
    Calls Tryz.prog 30 #[.pointer (some ⟨b0, 0, none⟩), .int .i64 op, .complex .f64 a b, .complex .f64 c d] w (BP b0 bs w (bxR H op a b c d)) := by
  unfold bxR
  by_cases h0 : op = 0
  · subst h0; rw [if_pos rfl]; exact binComplex_add a b c d hp
  by_cases h1 : op = 1
  · subst h1; rw [if_neg h0, if_pos rfl]; exact binComplex_sub a b c d hp
  by_cases h2 : op = 2
  · subst h2; rw [if_neg h0, if_neg h1, if_pos rfl]; exact binComplex_mul a b c d hp
  by_cases h3 : op = 3
  · subst h3
    rw [if_neg h0, if_neg h1, if_neg h2, if_pos rfl]
    cases hz : dz c d
    · exact binComplex_div a b c d hp hz
    · exact (binComplex_zero b0 a b c d hz).mono fun e w' ⟨he, hb⟩ => by subst he; exact BP.none hp hb
  · rw [if_neg h0, if_neg h1, if_neg h2, if_neg h3]
    exact (binComplex_type b0 op (by omega) a b c d).mono fun e w' ⟨he, hb⟩ => by subst he hb; exact BP.none hp (Bw.refl _)

set_option maxRecDepth 100000 in
set_option maxHeartbeats 1000000 in
theorem binNumbers_mul (a b : Int) (ha : U a) (hb : U b) (na : N a) (nb : N b) :
    Calls Tryz.prog 29 #[.int .i64 2, .int .u64 a, .int .u64 b] w fun e w' => e = .returned (.tuple #[.int .u64 (mk (nm a * nm b)), .int .i64 0]) ∧ w' = w := by
  have HA := hid (tmul_yes a b ha hb na nb w)
  generalize mk (nm a * nm b) = V at HA ⊢
  go_enter Tryz.func29, Tryz.ntmps29
  go_wp2_with (first
    | (go_at_call 79; refine HA.out.mono ?_; rintro e w' ⟨rfl, hw'⟩; subst w')
    | fail)
  all_goals go_ret2
  all_goals exact ⟨rfl, rfl⟩

set_option maxRecDepth 100000 in
set_option maxHeartbeats 1000000 in
theorem binNumbers_div (a b : Int) (ha : U a) (hb : U b) (na : N a) (nb : N b) :
    Calls Tryz.prog 29 #[.int .i64 3, .int .u64 a, .int .u64 b] w fun e w' => e = .returned (.tuple #[.int .u64 (if nm b = 0 then 0 else mk (quo (nm a) (nm b))), .int .i64 (if nm b = 0 then 2 else 0)]) ∧ w' = w := by
  by_cases hz : nm b = 0
  · rw [if_pos hz, if_pos hz]
    have HA := hid (tdiv_zero a b ha hb na nb (by simpa using hz) w)
    clear hz
    go_enter Tryz.func29, Tryz.ntmps29
    go_wp2_with (first
      | (go_at_call 80; refine HA.out.mono ?_; rintro e w' ⟨rfl, hw'⟩; subst w')
      | fail)
    all_goals go_ret2
    all_goals exact ⟨rfl, rfl⟩
  · rw [if_neg hz, if_neg hz]
    have HA := hid (tdiv_yes a b ha hb na nb hz w)
    generalize mk (quo (nm a) (nm b)) = V at HA ⊢
    clear hz
    go_enter Tryz.func29, Tryz.ntmps29
    go_wp2_with (first
      | (go_at_call 80; refine HA.out.mono ?_; rintro e w' ⟨rfl, hw'⟩; subst w')
      | fail)
    all_goals go_ret2
    all_goals exact ⟨rfl, rfl⟩

set_option maxRecDepth 100000 in
set_option maxHeartbeats 1000000 in
theorem binNumbers_mod (a b : Int) (ha : U a) (hb : U b) (na : N a) (nb : N b) :
    Calls Tryz.prog 29 #[.int .i64 4, .int .u64 a, .int .u64 b] w fun e w' => e = .returned (.tuple #[.int .u64 (if nm b = 0 then 0 else mk (rest (nm a) (nm b))), .int .i64 (if nm b = 0 then 2 else 0)]) ∧ w' = w := by
  by_cases hz : nm b = 0
  · rw [if_pos hz, if_pos hz]
    have HA := hid (tmod_zero a b ha hb na nb (by simpa using hz) w)
    clear hz
    go_enter Tryz.func29, Tryz.ntmps29
    go_wp2_with (first
      | (go_at_call 81; refine HA.out.mono ?_; rintro e w' ⟨rfl, hw'⟩; subst w')
      | fail)
    all_goals go_ret2
    all_goals exact ⟨rfl, rfl⟩
  · rw [if_neg hz, if_neg hz]
    have HA := hid (tmod_yes a b ha hb na nb hz w)
    generalize mk (rest (nm a) (nm b)) = V at HA ⊢
    clear hz
    go_enter Tryz.func29, Tryz.ntmps29
    go_wp2_with (first
      | (go_at_call 81; refine HA.out.mono ?_; rintro e w' ⟨rfl, hw'⟩; subst w')
      | fail)
    all_goals go_ret2
    all_goals exact ⟨rfl, rfl⟩

set_option maxRecDepth 100000 in
set_option maxHeartbeats 1000000 in
theorem binNumbers_cmp0 (op a b : Int) (h5 : op < 0 ∨ 5 ≤ op) (ha : U a) (hb : U b) (na : N a) (nb : N b) :
    Calls Tryz.prog 29 #[.int .i64 op, .int .u64 a, .int .u64 b] w fun e w' => e = .returned (.tuple #[.int .u64 (cpV op (ltB a b) (ltB b a)), .int .i64 (cpF op)]) ∧ w' = w := by
  have n0 : (op == 0) = false := by simp; omega
  have n1 : (op == 1) = false := by simp; omega
  have n2 : (op == 2) = false := by simp; omega
  have n3 : (op == 3) = false := by simp; omega
  have n4 : (op == 4) = false := by simp; omega
  have HA := hid (tless_yes a b ha hb na nb w)
  have HB := hid (tless_yes b a hb ha nb na w)
  have HC := hid (compared_any (w := w) op (ltB a b) (ltB b a))
  generalize ltB a b = p at HA HC ⊢
  generalize ltB b a = q at HB HC ⊢
  generalize cpV op p q = V at HC ⊢
  generalize cpF op = F at HC ⊢
  clear h5
  go_enter Tryz.func29, Tryz.ntmps29
  go_wp2_with (first
    | (go_at_call 82; (fail_if_success (have _g := G1)); refine HA.out.mono ?_; rintro e w' ⟨rfl, hw'⟩; subst w'; have G1 := hid trivial)
    | (go_at_call 82; refine HB.out.mono ?_; rintro e w' ⟨rfl, hw'⟩; subst w')
    | (go_at_call 83; refine HC.out.mono ?_; rintro e w' ⟨rfl, hw'⟩; subst w')
    | fail)
  all_goals go_ret2
  all_goals exact ⟨rfl, rfl⟩

theorem binNumbers_all (op a b : Int) (ha : U a) (hb : U b) (na : N a) (nb : N b) :
    Calls Tryz.prog 29 #[.int .i64 op, .int .u64 a, .int .u64 b] w fun e w' => e = .returned (.tuple #[.int .u64 (bnV op a b), .int .i64 (bnF op b)]) ∧ w' = w := by
  unfold bnV bnF
  by_cases h0 : op = 0
  · subst h0; rw [if_pos rfl, if_pos rfl]; exact binNumbers_add a b ha hb na nb
  by_cases h1 : op = 1
  · subst h1; rw [if_neg h0, if_pos rfl, if_neg h0, if_pos rfl]; exact binNumbers_sub a b ha hb na nb
  by_cases h2 : op = 2
  · subst h2; rw [if_neg h0, if_neg h1, if_pos rfl, if_neg h0, if_neg h1, if_pos rfl]; exact binNumbers_mul a b ha hb na nb
  by_cases h3 : op = 3
  · subst h3; rw [if_neg h0, if_neg h1, if_neg h2, if_pos rfl, if_neg h0, if_neg h1, if_neg h2, if_pos rfl]; exact binNumbers_div a b ha hb na nb
  by_cases h4 : op = 4
  · subst h4; rw [if_neg h0, if_neg h1, if_neg h2, if_neg h3, if_pos rfl, if_neg h0, if_neg h1, if_neg h2, if_neg h3, if_pos rfl]; exact binNumbers_mod a b ha hb na nb
  · rw [if_neg h0, if_neg h1, if_neg h2, if_neg h3, if_neg h4, if_neg h0, if_neg h1, if_neg h2, if_neg h3, if_neg h4]; exact binNumbers_cmp0 op a b (by omega) ha hb na nb

set_option maxRecDepth 100000 in
set_option maxHeartbeats 4000000 in
theorem bin_gen {b0 : Nat} {H : AHeap} {bs : List Nat} (op a b : Int) (h5 : op ≠ 5) (h6 : op ≠ 6) (ha : U a) (hb : U b) (hp : HS w b0 H bs) (h9 : ∀ o ∈ H.2, o.kind ≤ 9) (V F : Int) (H' : AHeap)
    (hN : kof H a = 10 → kof H b = 10 → Calls Tryz.prog 29 #[.int .i64 op, .int .u64 a, .int .u64 b] w fun e w' => e = .returned (.tuple #[.int .u64 V, .int .i64 F]) ∧ ∃ bs', HS w' b0 H' bs' ∧ Nx bs w w' bs')
    (hC : isC H a → isC H b → ¬ (kof H a = 10 ∧ kof H b = 10) → ∀ w1, Bw w w1 → Calls Tryz.prog 30 #[.pointer (some ⟨b0, 0, none⟩), .int .i64 op, .complex .f64 (cxr H a) (cxi H a), .complex .f64 (cxr H b) (cxi H b)] w1 fun e w' => e = .returned (.tuple #[.int .u64 V, .int .i64 F]) ∧ ∃ bs', HS w' b0 H' bs' ∧ Nx bs w w' bs')
    (hS : kof H a = 1 → kof H b = 1 → Calls Tryz.prog 32 #[.pointer (some ⟨b0, 0, none⟩), .int .i64 op, .int .u64 a, .int .u64 b] w fun e w' => e = .returned (.tuple #[.int .u64 V, .int .i64 F]) ∧ ∃ bs', HS w' b0 H' bs' ∧ Nx bs w w' bs')
    (hT : ¬ (kof H a = 10 ∧ kof H b = 10) → ¬ (isC H a ∧ isC H b) → ¬ (kof H a = 1 ∧ kof H b = 1) → V = 0 ∧ F = 1 ∧ H' = H) :
    Calls Tryz.prog 7 #[.pointer (some ⟨b0, 0, none⟩), .int .i64 op, .int .u64 a, .int .u64 b] w fun e w' => e = .returned (.tuple #[.int .u64 V, .int .i64 F]) ∧ ∃ bs', HS w' b0 H' bs' ∧ Nx bs w w' bs' := by
  have n5 : (op == 5) = false := by simpa using h5
  have n6 : (op == 6) = false := by simpa using h6
  have K1 := hid (kindOf_any a ha hp)
  have K2 := hid (kindOf_any b hb hp)
  have HP := hid hp
  clear h5 h6
  obtain ⟨x, hx⟩ : ∃ x, kof H a = x := ⟨_, rfl⟩
  obtain ⟨y, hy⟩ : ∃ y, kof H b = y := ⟨_, rfl⟩
  rw [hx] at K1
  rw [hy] at K2
  have HX := hid hx
  have HY := hid hy
  clear hx hy
  by_cases hx10 : x = 10
  · subst hx10
    by_cases hy10 : y = 10
    · subst hy10
      have HC := hid (hN HX.out HY.out)
      clear hp h9 hN hC hS hT
      go_enter Tryz.func7, Tryz.ntmps7
      go_wp2_with (first
        | (go_at_call_of 28 (Value.int .u64 a); (fail_if_success (have _g := G1)); refine K1.out.mono ?_; rintro e w' ⟨rfl, hw'⟩; subst w'; have G1 := hid trivial)
        | (go_at_call_of 28 (Value.int .u64 b); have _g := G1; clear _g; refine K2.out.mono ?_; rintro e w' ⟨rfl, hw'⟩; subst w')
        | (go_at_call 29; refine HC.out.mono ?_; rintro e w1 ⟨rfl, bs1, hs1, hn1⟩; have S1 := hid hs1; have N1 := hid hn1; clear hs1 hn1)
        | fail)
      all_goals go_ret2
      all_goals exact ⟨rfl, _, S1.out, N1.out⟩
    by_cases hy6 : y = 6
    · subst hy6
      have C1 := hid (complexOf_val a ha hp h9 (.inl HX.out))
      have C2 := hid (fun (w1 : World) (hw : Bw w w1) => complexOf_val (w := w1) b hb (hp.bw hw) h9 (.inr HY.out))
      have HC := hid (hC (.inl HX.out) (.inr HY.out) (by rw [HX.out, HY.out]; decide))
      generalize cxr H a = a1 at C1 HC
      generalize cxi H a = a2 at C1 HC
      generalize cxr H b = c1 at C2 HC
      generalize cxi H b = c2 at C2 HC
      clear hp h9 hN hC hS hT
      go_enter Tryz.func7, Tryz.ntmps7
      go_wp2_with (first
        | (go_at_call_of 28 (Value.int .u64 a); (fail_if_success (have _g := G1)); refine K1.out.mono ?_; rintro e w' ⟨rfl, hw'⟩; subst w'; have G1 := hid trivial)
        | (go_at_call_of 28 (Value.int .u64 b); have _g := G1; clear _g; refine K2.out.mono ?_; rintro e w' ⟨rfl, hw'⟩; subst w')
        | (go_at_call_of 31 (Value.int .u64 a); (fail_if_success (have _g := B1)); refine C1.out.mono ?_; rintro e w1 ⟨rfl, hb1⟩; have B1 := hid hb1; clear hb1)
        | (go_at_call_of 31 (Value.int .u64 b); have _g := B1; clear _g; refine (C2.out _ B1.out).mono ?_; rintro e w2 ⟨rfl, hb2⟩; have B2 := hid (B1.out.trans hb2); clear hb2)
        | (go_at_call 30; refine (HC.out _ B2.out).mono ?_; rintro e w3 ⟨rfl, bs3, hs3, hn3⟩; have S3 := hid hs3; have N3 := hid hn3; clear hs3 hn3)
        | fail)
      all_goals go_ret2
      all_goals exact ⟨rfl, _, S3.out, N3.out⟩
    obtain ⟨rfl, rfl, rfl⟩ := hT (by rw [HX.out, HY.out]; omega) (by unfold isC; rw [HX.out, HY.out]; omega) (by rw [HX.out, HY.out]; omega)
    clear hN hC hS hT h9
    have by10 : (y == 10) = false := by simpa using hy10
    have by6 : (y == 6) = false := by simpa using hy6
    clear hy10
    clear hy6
    go_enter Tryz.func7, Tryz.ntmps7
    go_wp2_with (first
      | (go_at_call_of 28 (Value.int .u64 a); (fail_if_success (have _g := G1)); refine K1.out.mono ?_; rintro e w' ⟨rfl, hw'⟩; subst w'; have G1 := hid trivial)
      | (go_at_call_of 28 (Value.int .u64 b); have _g := G1; clear _g; refine K2.out.mono ?_; rintro e w' ⟨rfl, hw'⟩; subst w')
      | fail)
    all_goals go_ret2
    all_goals exact ⟨rfl, _, HP.out, (Bw.refl _).nx _⟩
  by_cases hx6 : x = 6
  · subst hx6
    clear hx10
    by_cases hy10 : y = 10
    · subst hy10
      have C1 := hid (complexOf_val a ha hp h9 (.inr HX.out))
      have C2 := hid (fun (w1 : World) (hw : Bw w w1) => complexOf_val (w := w1) b hb (hp.bw hw) h9 (.inl HY.out))
      have HC := hid (hC (.inr HX.out) (.inl HY.out) (by rw [HX.out, HY.out]; decide))
      generalize cxr H a = a1 at C1 HC
      generalize cxi H a = a2 at C1 HC
      generalize cxr H b = c1 at C2 HC
      generalize cxi H b = c2 at C2 HC
      clear hp h9 hN hC hS hT
      go_enter Tryz.func7, Tryz.ntmps7
      go_wp2_with (first
        | (go_at_call_of 28 (Value.int .u64 a); (fail_if_success (have _g := G1)); refine K1.out.mono ?_; rintro e w' ⟨rfl, hw'⟩; subst w'; have G1 := hid trivial)
        | (go_at_call_of 28 (Value.int .u64 b); have _g := G1; clear _g; refine K2.out.mono ?_; rintro e w' ⟨rfl, hw'⟩; subst w')
        | (go_at_call_of 31 (Value.int .u64 a); (fail_if_success (have _g := B1)); refine C1.out.mono ?_; rintro e w1 ⟨rfl, hb1⟩; have B1 := hid hb1; clear hb1)
        | (go_at_call_of 31 (Value.int .u64 b); have _g := B1; clear _g; refine (C2.out _ B1.out).mono ?_; rintro e w2 ⟨rfl, hb2⟩; have B2 := hid (B1.out.trans hb2); clear hb2)
        | (go_at_call 30; refine (HC.out _ B2.out).mono ?_; rintro e w3 ⟨rfl, bs3, hs3, hn3⟩; have S3 := hid hs3; have N3 := hid hn3; clear hs3 hn3)
        | fail)
      all_goals go_ret2
      all_goals exact ⟨rfl, _, S3.out, N3.out⟩
    by_cases hy6 : y = 6
    · subst hy6
      have C1 := hid (complexOf_val a ha hp h9 (.inr HX.out))
      have C2 := hid (fun (w1 : World) (hw : Bw w w1) => complexOf_val (w := w1) b hb (hp.bw hw) h9 (.inr HY.out))
      have HC := hid (hC (.inr HX.out) (.inr HY.out) (by rw [HX.out, HY.out]; decide))
      generalize cxr H a = a1 at C1 HC
      generalize cxi H a = a2 at C1 HC
      generalize cxr H b = c1 at C2 HC
      generalize cxi H b = c2 at C2 HC
      clear hp h9 hN hC hS hT
      go_enter Tryz.func7, Tryz.ntmps7
      go_wp2_with (first
        | (go_at_call_of 28 (Value.int .u64 a); (fail_if_success (have _g := G1)); refine K1.out.mono ?_; rintro e w' ⟨rfl, hw'⟩; subst w'; have G1 := hid trivial)
        | (go_at_call_of 28 (Value.int .u64 b); have _g := G1; clear _g; refine K2.out.mono ?_; rintro e w' ⟨rfl, hw'⟩; subst w')
        | (go_at_call_of 31 (Value.int .u64 a); (fail_if_success (have _g := B1)); refine C1.out.mono ?_; rintro e w1 ⟨rfl, hb1⟩; have B1 := hid hb1; clear hb1)
        | (go_at_call_of 31 (Value.int .u64 b); have _g := B1; clear _g; refine (C2.out _ B1.out).mono ?_; rintro e w2 ⟨rfl, hb2⟩; have B2 := hid (B1.out.trans hb2); clear hb2)
        | (go_at_call 30; refine (HC.out _ B2.out).mono ?_; rintro e w3 ⟨rfl, bs3, hs3, hn3⟩; have S3 := hid hs3; have N3 := hid hn3; clear hs3 hn3)
        | fail)
      all_goals go_ret2
      all_goals exact ⟨rfl, _, S3.out, N3.out⟩
    obtain ⟨rfl, rfl, rfl⟩ := hT (by rw [HX.out, HY.out]; omega) (by unfold isC; rw [HX.out, HY.out]; omega) (by rw [HX.out, HY.out]; omega)
    clear hN hC hS hT h9
    have by10 : (y == 10) = false := by simpa using hy10
    have by6 : (y == 6) = false := by simpa using hy6
    clear hy10
    clear hy6
    go_enter Tryz.func7, Tryz.ntmps7
    go_wp2_with (first
      | (go_at_call_of 28 (Value.int .u64 a); (fail_if_success (have _g := G1)); refine K1.out.mono ?_; rintro e w' ⟨rfl, hw'⟩; subst w'; have G1 := hid trivial)
      | (go_at_call_of 28 (Value.int .u64 b); have _g := G1; clear _g; refine K2.out.mono ?_; rintro e w' ⟨rfl, hw'⟩; subst w')
      | fail)
    all_goals go_ret2
    all_goals exact ⟨rfl, _, HP.out, (Bw.refl _).nx _⟩
  by_cases hx1 : x = 1
  · subst hx1
    clear hx10 hx6
    by_cases hy1 : y = 1
    · subst hy1
      have HC := hid (hS HX.out HY.out)
      clear hp h9 hN hC hS hT
      go_enter Tryz.func7, Tryz.ntmps7
      go_wp2_with (first
        | (go_at_call_of 28 (Value.int .u64 a); (fail_if_success (have _g := G1)); refine K1.out.mono ?_; rintro e w' ⟨rfl, hw'⟩; subst w'; have G1 := hid trivial)
        | (go_at_call_of 28 (Value.int .u64 b); have _g := G1; clear _g; refine K2.out.mono ?_; rintro e w' ⟨rfl, hw'⟩; subst w')
        | (go_at_call 32; refine HC.out.mono ?_; rintro e w1 ⟨rfl, bs1, hs1, hn1⟩; have S1 := hid hs1; have N1 := hid hn1; clear hs1 hn1)
        | fail)
      all_goals go_ret2
      all_goals exact ⟨rfl, _, S1.out, N1.out⟩
    obtain ⟨rfl, rfl, rfl⟩ := hT (by rw [HX.out, HY.out]; omega) (by unfold isC; rw [HX.out, HY.out]; omega) (by rw [HX.out, HY.out]; omega)
    clear hN hC hS hT h9
    have by1 : (y == 1) = false := by simpa using hy1
    clear hy1
    go_enter Tryz.func7, Tryz.ntmps7
    go_wp2_with (first
      | (go_at_call_of 28 (Value.int .u64 a); (fail_if_success (have _g := G1)); refine K1.out.mono ?_; rintro e w' ⟨rfl, hw'⟩; subst w'; have G1 := hid trivial)
      | (go_at_call_of 28 (Value.int .u64 b); have _g := G1; clear _g; refine K2.out.mono ?_; rintro e w' ⟨rfl, hw'⟩; subst w')
      | fail)
    all_goals go_ret2
    all_goals exact ⟨rfl, _, HP.out, (Bw.refl _).nx _⟩
  obtain ⟨rfl, rfl, rfl⟩ := hT (by rw [HX.out, HY.out]; omega) (by unfold isC; rw [HX.out, HY.out]; omega) (by rw [HX.out, HY.out]; omega)
  clear hN hC hS hT h9
  have bx10 : (x == 10) = false := by simpa using hx10
  have bx6 : (x == 6) = false := by simpa using hx6
  have bx1 : (x == 1) = false := by simpa using hx1
  clear hx10
  clear hx6
  clear hx1
  go_enter Tryz.func7, Tryz.ntmps7
  go_wp2_with (first
    | (go_at_call_of 28 (Value.int .u64 a); (fail_if_success (have _g := G1)); refine K1.out.mono ?_; rintro e w' ⟨rfl, hw'⟩; subst w'; have G1 := hid trivial)
    | (go_at_call_of 28 (Value.int .u64 b); have _g := G1; clear _g; refine K2.out.mono ?_; rintro e w' ⟨rfl, hw'⟩; subst w')
    | fail)
  all_goals go_ret2
  all_goals exact ⟨rfl, _, HP.out, (Bw.refl _).nx _⟩

theorem bin_all {b0 : Nat} {H : AHeap} {bs : List Nat} (op a b : Int) (ha : U a) (hb : U b) (hp : HS w b0 H bs) (h9 : ∀ o ∈ H.2, o.kind ≤ 9) :
    Calls Tryz.prog 7 #[.pointer (some ⟨b0, 0, none⟩), .int .i64 op, .int .u64 a, .int .u64 b] w (BP b0 bs w (biR H op a b)) := by
  unfold biR
  by_cases h5 : op = 5
  · subst h5; rw [if_pos rfl]; exact (bin_eq a b ha hb hp).mono fun e w' ⟨he, hb⟩ => by subst he; exact BP.none hp (by first | exact hb | (subst hb; exact Bw.refl _))
  rw [if_neg h5]
  by_cases h6 : op = 6
  · subst h6; rw [if_pos rfl]; exact (bin_ne a b ha hb hp).mono fun e w' ⟨he, hb⟩ => by subst he; exact BP.none hp (by first | exact hb | (subst hb; exact Bw.refl _))
  rw [if_neg h6]
  refine bin_gen op a b h5 h6 ha hb hp h9 _ _ _ (fun ka kb => ?_) (fun ca cb hn w1 hw => ?_) (fun ka kb => ?_) (fun h1 h2 h3 => ?_)
  · rw [if_pos ⟨ka, kb⟩]
    exact (binNumbers_all op a b ha hb (kof_10 ha hp.ok ka h9) (kof_10 hb hp.ok kb h9)).mono fun e w' ⟨he, hb⟩ => by subst he hb; exact BP.none hp (Bw.refl _)
  · rw [if_neg hn, if_pos ⟨ca, cb⟩]
    exact (binComplex_all op _ _ _ _ (hp.bw hw)).mono fun e w' ⟨he, bs', hs, hn⟩ => ⟨he, bs', hs, Bw.nxBefore hw hn⟩
  · rw [if_neg (by rw [ka]; omega), if_neg (by unfold isC; rw [ka]; omega), if_pos ⟨ka, kb⟩]
    unfold bsR
    have k1 := kof_kk6 (.inl rfl) ka
    have k2 := kof_kk6 (.inl rfl) kb
    by_cases h0 : op = 0
    · subst h0; rw [if_pos rfl]; exact binStrings_join a b ha hb hp k1 k2
    · rw [if_neg h0]
      exact (binStrings_cmp op a b h0 ha hb hp k1 k2).mono fun e w' ⟨he, hb⟩ => by subst he; exact BP.none hp (by first | exact hb | (subst hb; exact Bw.refl _))
  · rw [if_neg h1, if_neg h2, if_neg h3]; exact ⟨rfl, rfl, rfl⟩

set_option maxRecDepth 100000 in
set_option maxHeartbeats 1000000 in
theorem neg_all {b0 : Nat} {H : AHeap} {bs : List Nat} (a : Int) (ha : U a) (hp : HS w b0 H bs) (h9 : ∀ o ∈ H.2, o.kind ≤ 9) :
    Calls Tryz.prog 10 #[.pointer (some ⟨b0, 0, none⟩), .int .u64 a] w (BP b0 bs w (ngR H a)) := by
  unfold ngR
  by_cases k10 : kof H a = 10
  · rw [if_pos k10]
    exact (Neg_num a ha hp (kof_10 ha hp.ok k10 h9)).mono fun e w' ⟨he, hb⟩ => by subst he hb; exact BP.none hp (Bw.refl _)
  rw [if_neg k10]
  by_cases k6 : kof H a = 6
  · rw [if_pos k6]
    have C1 := hid (complexOf_val a ha hp h9 (.inr k6))
    have K1 := hid (kindOf_any a ha hp)
    rw [k6] at K1
    generalize cxr H a = a1 at C1 ⊢
    generalize cxi H a = a2 at C1 ⊢
    have HC := hid (fun (w1 : World) (hw : Bw w w1) => newComplex_any (w := w1) (fo .sub 0 a1) (fo .sub 0 a2) (hp.bw hw) (cn_fo ..) (cn_fo ..))
    unfold BP at HC ⊢
    generalize mkR H (oCplx (fo .sub 0 a1 : Nat) (fo .sub 0 a2 : Nat)) = R at HC ⊢
    obtain ⟨V, F, H'⟩ := R
    simp only at HC ⊢
    clear hp h9 k10 k6
    go_enter Tryz.func10, Tryz.ntmps10
    go_wp2_with (first
      | (go_at_call 28; refine K1.out.mono ?_; rintro e w' ⟨rfl, hw'⟩; subst w')
      | (go_at_call 31; refine C1.out.mono ?_; rintro e w1 ⟨rfl, hb1⟩; have B1 := hid hb1; clear hb1)
      | (go_at_call 55; refine (csub_any _ _ _ _ _).mono ?_; rintro e w2 ⟨rfl, hd2⟩; have B2 := hid (B1.out.trans hd2.bw); clear hd2)
      | (go_at_call 54; refine (HC.out _ B2.out).mono ?_; rintro e w3 ⟨rfl, bs3, hs3, hn3⟩; have S3 := hid hs3; have N3 := hid (Bw.nxBefore B2.out hn3); clear hs3 hn3)
      | fail)
    all_goals go_ret2
    all_goals exact ⟨rfl, _, S3.out, N3.out⟩
  · rw [if_neg k6]
    have K1 := hid (kindOf_any a ha hp)
    have HP := hid hp
    generalize kof H a = x at K1 k10 k6
    have b10 : (x == 10) = false := by simpa using k10
    have b6 : (x == 6) = false := by simpa using k6
    clear k10 k6 hp h9
    go_enter Tryz.func10, Tryz.ntmps10
    go_wp2_with (first
      | (go_at_call 28; refine K1.out.mono ?_; rintro e w' ⟨rfl, hw'⟩; subst w')
      | fail)
    all_goals go_ret2
    all_goals exact BP.none HP.out (Bw.refl _)

end

end Go.Proofs.YtjcoifdfemejkaaGreatDoor

