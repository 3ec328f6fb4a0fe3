/- The resolver: declareGlobal, set. · The resolver: declareSlot. · The resolver: take. -/
import Derived.Test.YtdhkcdehedbpcaaDoorM29
import Derived.Test.YtdhkcdehedbpcaaDoorM4
import Derived.Test.YtdhkcdehedbpcaaDoorM30
import Derived.Test.YtdhkcdehedbpcaaDoorM16
import Derived.Test.YtdhkcdehedbpcaaDoorM32
set_option linter.unusedSimpArgs false
set_option linter.unusedVariables false
namespace Go.Proofs.YtdhkcdehedbpcaaDoor
open Go Go.RowKit
section
variable {w : World} {X : ZX} {z : ZS} {B : ZB}

theorem Zp.self {w' : World} {z' : ZS} (h : RS w' X z' B) (k : NX B.ρ w w' B.ρ) : Zp w X B z' w' := ⟨B, h, k⟩
theorem ahead_get {A : ByteArray → Option Int} {D : DataW Unit} (hD : SmD D A) {t : ByteArray} {c : Int} (h : D.atKey (.string t.data.toList) (.lit (.int .i64 0)) = .lit (.int .i64 c)) : c = (A t).getD 0 := by
 cases ha : A t with
 | none =>
  rw [Maps.atKey_of_not_has (by rw [hD.has, ha]; rfl)] at h
  cases h; rfl
 | some x =>
  rw [hD.at_ t x ha] at h
  cases h; rfl

theorem undSs8 : Tryd.prog.underlying 29 = some (.slice 9) := by kernel_rfl

set_option maxRecDepth 100000 in
set_option maxHeartbeats 4000000 in
theorem declareGlobal_any (h : RS w X z B) (i : Nat) (hi : i < X.L.length) : Calls Tryd.prog 98 #[.pointer (some ⟨X.r, 0, none⟩), .int .i64 i] w fun e' w' => e' = .returned (.tuple #[]) ∧ Zp w X B (zglobal X.L X.A z i) w' := by
 obtain ⟨ub, uc, u, hu1, hue, c6, u0, u1, hul, huf, huρ, hune⟩ := h.us hi
 obtain ⟨ct, htm⟩ := h.x.nc.1.text hi
 have cn : w.cell? ⟨X.r, 3, none⟩ = some (.slice (some ⟨X.g, X.o, none⟩) X.L.length X.cap) := h.blk.cell 3
 have c8 : w.cell? ⟨X.r, 8, none⟩ = some (.map (some X.ab)) := h.blk.cell 8
 have c7 : w.cell? ⟨X.r, 7, none⟩ = some B.gv := h.blk.cell 7
 obtain ⟨hgo, hgρ⟩ := h.x.globs (by decide)
 obtain ⟨ga, gc, hgv⟩ := own_form hgo
 rw [hgv] at c7
 have hf := h.blk.free
 have hl := h.blk.lt
 have gl := h.x.nc.1.lt
 have hi2 : (i : Int) < (X.L.length : Int) := by omega
 obtain ⟨DA, hoa, hda⟩ := h.x.ah.1
 have HOA := hid hoa
 have HDA := hid hda
 have HK := hid (key_lit htm)
 have H := hid h
 have hgb := h.x.bd.2.1
 have HUE := hid hue
 have HI := hid hi
 unfold zglobal
 generalize ht : zT X.L i = t at ct HK ⊢
 generalize hA : (X.A t).getD 0 = av
 have HA := hid hA
 generalize hgl : z.globals.length = n at c7 hgb hgv ⊢
 have HGL := hid hgl
 have HGV := hid hgv
 clear h hu1 hue htm hgo hgρ hgv hoa hda hA hgl huρ hune u0 u1 hi
 by_cases h1 : av < (n : Int)
 ·rw [if_pos h1]
  go_enter Tryd.func98, Tryd.ntmps98
  go_wp2_with (first
   | (at_lookup; refine wpList_lookup_own_int _ rfl _ _ 77 rfl 9 3 .i64 key9 underMs int3 (zero3 _) X.ab X.an DA rfl HOA.out _ _ rfl HK.out ?_; intro c1 hat hwc; have hc1 := ahead_get HDA.out hat; rw [HA.out] at hc1; subst hc1; clear hat hwc)
   | (go_at_call 94; refine (fail_any H.out i 80).mono ?_; rintro e w1 ⟨rfl, hr, hn⟩; have R := hid hr; have N := hid hn; clear hr hn)
   | fail)
  all_goals go_end0
  all_goals exact ⟨rfl, Zp.self R.out N.out⟩
 ·rw [if_neg h1]
  by_cases h2 : n = 1024
  ·rw [if_pos h2]
   have h3 : ((n : Int) == 1024) = true := by simp [h2]
   clear h2
   go_enter Tryd.func98, Tryd.ntmps98
   go_wp2_with (first
    | (at_lookup; refine wpList_lookup_own_int _ rfl _ _ 77 rfl 9 3 .i64 key9 underMs int3 (zero3 _) X.ab X.an DA rfl HOA.out _ _ rfl HK.out ?_; intro c1 hat hwc; have hc1 := ahead_get HDA.out hat; rw [HA.out] at hc1; subst hc1; clear hat hwc)
    | (go_at_call 94; refine (fail_any H.out i 3).mono ?_; rintro e w1 ⟨rfl, hr, hn⟩; have R := hid hr; have N := hid hn; clear hr hn)
    | fail)
   all_goals go_end0
   all_goals exact ⟨rfl, Zp.self R.out N.out⟩
  ·rw [if_neg h2]
   have h3 : ((n : Int) == 1024) = false := by simp; omega
   have HB := hid (show n < 1024 by omega)
   clear h2 hgb
   obtain ⟨i1, I1⟩ := info_parts8 infoS
   have I1 := hid I1
   have HGO := hid (fun (o : Obj) => own_alloc8 (w := w) (by have := (H.out.x.globs (by decide)).1; rw [HGL.out, HGV.out] at this; exact this) o)
   have A0 := hid (fun (o : Obj) => H.out.bw (Bw.alloc (Bw.refl w) o))
   have N0 := hid (fun (o : Obj) => NX.of_bw B.ρ (Bw.alloc (Bw.refl w) o))
   go_enter Tryd.func98, Tryd.ntmps98
   go_upto_region 3 with (first
    | (at_lookup; refine wpList_lookup_own_int _ rfl _ _ 77 rfl 9 3 .i64 key9 underMs int3 (zero3 _) X.ab X.an DA rfl HOA.out _ _ rfl HK.out ?_; intro c1 hat hwc; have hc1 := ahead_get HDA.out hat; rw [HA.out] at hc1; subst hc1; clear hat hwc)
    | (at_builtin; refine wpList_append_row _ rfl _ _ 29 rfl 9 i1 (.string ByteArray.empty) 1 16 undSs8 I1.out.1 I1.out.2.1 I1.out.2.2.1 I1.out.2.2.2 rfl (by decide) (.slice ga n gc) n _ rfl (HGO.out _) ⟨w.heap.size, 0, none⟩ 1 1 [.string t] rfl rfl (new_news w [.string t] 9) (by intro u hu; simp at hu; subst hu; rfl) (by have := HB.out; unfold maxLen; omega) (by have := HB.out; omega) ?_; intro v1 w1 ho1 hg1 hvb1; have E := (A0.out _).glob HGV.out HGL.out t HB.out ho1 hg1 hvb1; obtain ⟨ρ1, hr1, hn1, q7, q1, qf⟩ := E; have R1 := hid hr1; have N1 := hid ((N0.out _).trans hn1); obtain ⟨a1, cc1, e1⟩ := own_form ho1; subst e1; clear ho1 hg1 hvb1 hr1 hn1)
    | fail)
   obtain ⟨u2, y6, y0, y1, yl, yf, yn⟩ := R1.out.us2 HI.out HUE.out
   have U := hid (R1.out.use HI.out HUE.out 4 n)
   have hyf := R1.out.blk.free
   have hyl := R1.out.blk.lt
   generalize World.setCell w1 ⟨X.r, 7, none⟩ (.slice a1 (n + 1) cc1) = w2 at *
   clear q7 q1 qf c6 cn c8 hf hl huf hul
   go_wp2
   all_goals go_end0
   all_goals exact ⟨rfl, _, U.out.1, N1.out.trans U.out.2⟩
end
end Go.Proofs.YtdhkcdehedbpcaaDoor

namespace Go.Proofs.YtdhkcdehedbpcaaDoor
open Go Go.RowKit
section
variable {w : World} {X : ZX} {z : ZS} {B : ZB}

theorem MS.look {w : World} {b n : Nat} {M : ByteArray → Option Int} (h : MS w b M n) {t : ByteArray} (ht : t.size ≤ maxLen) : (Instr.lookup 77 (.map (some b)) (.string t) true).run Tryd.prog w = .ok (.tuple #[.int .i64 ((M t).getD 0), .bool (M t).isSome]) w := by
 obtain ⟨D, h1, h2⟩ := h
 obtain ⟨v, ps, hr, hv⟩ := h1.look_ok key9 underMs (zero3 _) (plainElem_int (H := Unit) int3 (by decide)) (key_lit ht)
 obtain ⟨c, rfl, hc, hwc⟩ := plainElem_int_inv int3 hv
 rw [hr, h2.has]
 have hat : D.atKey (.string t.data.toList) (.lit (.int .i64 0)) = .lit (.int .i64 c) := congrArg Prod.fst hc
 have := ahead_get h2 hat
 rw [this]

set_option maxRecDepth 100000 in
set_option maxHeartbeats 4000000 in
theorem declareSlot_any (h : RS w X z B) (i : Nat) (hi : i < X.L.length) (m : ByteArray → Option Int) (hnm : z.names = some m) (z' : ZS) (hz : zslot X.L z m i = some z') : Calls Tryd.prog 99 #[.pointer (some ⟨X.r, 0, none⟩), .int .i64 i] w fun e' w' => e' = .returned (.tuple #[]) ∧ Zp w X B z' w' := by
 unfold zslot at hz
 cases hfn : z.funs[z.fn]? with
 | none => rw [hfn] at hz; cases hz
 | some f =>
 rw [hfn] at hz
 simp only at hz
 obtain ⟨ub, uc, u, hu1, hue, c6, u0, u1, hul, huf, huρ, hune⟩ := h.us hi
 obtain ⟨ct, htm⟩ := h.x.nc.1.text hi
 obtain ⟨fb, fc, k, hfm, hkf⟩ := h.fu hfn
 have cn : w.cell? ⟨X.r, 3, none⟩ = some (.slice (some ⟨X.g, X.o, none⟩) X.L.length X.cap) := h.blk.cell 3
 have c1 : w.cell? ⟨X.r, 1, none⟩ = some (.int .i64 z.fn) := h.blk.cell 1
 have c0 : w.cell? ⟨X.r, 0, none⟩ = some (.map (some B.nb)) := by
  have := h.blk.cell 0
  rw [this]
  show some (Value.map (nmO z.names B.nb)) = _
  rw [hnm]; rfl
 have c5 := hfm.c5
 have s2 : w.cell? ⟨fb, z.fn * 6 + 2, none⟩ = some (.int .i64 f.slots) := by rw [hfm.c 2 (by decide), ← hkf]; rfl
 have hfl := hfm.lt
 have hff := hfm.fz
 have hf1 : (z.fn : Int) < (B.K.length : Int) := by have := hfm.gl; omega
 have hf := h.blk.free
 have hl := h.blk.lt
 have gl := h.x.nc.1.lt
 have hi2 : (i : Int) < (X.L.length : Int) := by omega
 have lk := fun (q : Nat) => MS.look (w := w.drewN q) (((h.x.nams (by decide) m hnm).1).keep rfl) htm
 have lk1 := MS.look (w := w.drew) (((h.x.nams (by decide) m hnm).1).keep rfl) htm
 have lk2 := MS.look (w := w.drew.drew) (((h.x.nams (by decide) m hnm).1).keep rfl) htm
 have H := hid h
 have HUE := hid hue
 have HI := hid hi
 have HFM := hid hfm
 have HKF := hid hkf
 have HFN := hid hfn
 have hbnd := h.x.bf f (List.mem_of_getElem? hfn)
 have HBND := hid hbnd
 have W2 := hid (fun (y : Nat) => h.bw (bw_drewN w y))
 generalize zT X.L i = t at ct lk lk1 lk2 hz
 generalize hmt : m t = mt at lk lk1 lk2 hz
 clear h hu1 hue htm huρ hi hfm hkf hfn hnm hmt hbnd
 cases mt with
 | some x =>
  simp only [Option.isSome_some, if_true] at hz
  cases hz
  simp only [Option.isSome_some, Option.getD_some] at lk lk1 lk2
  go_enter Tryd.func99, Tryd.ntmps99
  go_upto_region 0 with fail
  go_region
  go_upto_region 1 with fail
  go_region
  all_goals go_wp2_with (first
   | (go_at_call 94; refine (fail_any (H.out.bw bq) i 80).mono ?_; rintro e w1 ⟨rfl, hr, hn⟩; have R := hid hr; have N := hid (show NX B.ρ w w1 B.ρ from (NX.of_bw B.ρ bq).trans hn); clear hr hn)
   | fail)
  all_goals go_end0
  all_goals exact ⟨rfl, Zp.self R.out N.out⟩
 | none =>
  simp only [Option.isSome_none, Bool.false_eq_true, if_false] at hz
  simp only [Option.isSome_none, Option.getD_none] at lk lk1 lk2
  by_cases h256 : f.slots = 256
  ·rw [if_pos h256] at hz
   cases hz
   have e1 : (f.slots == 256) = true := by simpa using h256
   clear h256
   go_enter Tryd.func99, Tryd.ntmps99
   go_upto_region 0 with fail
   go_region
   go_upto_region 1 with fail
   go_region
   all_goals go_wp2_with (first
    | (go_at_call 94; refine (fail_any (H.out.bw bq) i 3).mono ?_; rintro e w1 ⟨rfl, hr, hn⟩; have R := hid hr; have N := hid (show NX B.ρ w w1 B.ρ from (NX.of_bw B.ρ bq).trans hn); clear hr hn)
    | fail)
   all_goals go_end0
   all_goals exact ⟨rfl, Zp.self R.out N.out⟩
  ·rw [if_neg h256] at hz
   by_cases hdl : z.declared.length < 100000
   case neg => rw [if_neg hdl] at hz; cases hz
   rw [if_pos hdl] at hz
   cases hz
   have e1 : (f.slots == 256) = false := by simpa using h256
   obtain ⟨da, dc, hdv⟩ := own_form (H.out.x.decl (by decide)).1
   have c9 : w.cell? ⟨X.r, 9, none⟩ = some (.slice da z.declared.length dc) := by
    have := H.out.blk.cell 9
    rw [this]
    exact congrArg some hdv
   have HS2 := hid (show f.slots + 1 ≤ 256 ∧ 0 ≤ f.slots by have := HBND.out; omega)
   obtain ⟨n, hn⟩ : ∃ n, z.declared.length = n := ⟨_, rfl⟩
   have HN := hid hn
   rw [hn] at c9 hdv hdl
   have HDV := hid hdv
   have HDL := hid hdl
   have HR := hid (H.out.use HI.out HUE.out 1 n)
   clear h256 hdl hdv hn
   go_enter Tryd.func99, Tryd.ntmps99
   go_upto_region 0 with fail
   go_region
   go_upto_region 1 with fail
   go_region
   all_goals go_upto_region 2 with fail
   all_goals go_region
   go_upto_region 3 with fail
   have R2 := hid (HR.out.1.bw (w' := ((w.setCell ⟨ub, i * 2, none⟩ (.int .i64 1)).setCell ⟨ub, i * 2 + 1, none⟩ (.int .i64 n)).drew.drew.drew) (Bw.drew (Bw.drew (Bw.drew (Bw.refl _)))))
   have N2 := hid (HR.out.2.bw (c := ((w.setCell ⟨ub, i * 2, none⟩ (.int .i64 1)).setCell ⟨ub, i * 2 + 1, none⟩ (.int .i64 n)).drew.drew.drew) (Bw.drew (Bw.drew (Bw.drew (Bw.refl _)))))
   clear HR
   generalize hw2 : World.drew (World.drew (World.drew ((w.setCell ⟨ub, i * 2, none⟩ (.int .i64 1)).setCell ⟨ub, i * 2 + 1, none⟩ (.int .i64 n)))) = w2 at R2 N2 ⊢
   clear hw2
   obtain ⟨i1, I1⟩ := info_parts8 infoDe
   have I1 := hid I1
   have HS := hid (fun (W' : World) (hb : Bw w2 W') => (⟨(by have := (R2.out.bw hb).blk.cell 9; rw [this]; exact congrArg some HDV.out), (R2.out.bw hb).blk.cell 1, (by have := ((R2.out.bw hb).fu2 HFM.out.kk HFM.out.fv).c 2 (by decide); rw [this, ← HKF.out]; rfl)⟩ : W'.cell? ⟨X.r, 9, none⟩ = some (.slice da n dc) ∧ W'.cell? ⟨X.r, 1, none⟩ = some (.int .i64 z.fn) ∧ W'.cell? ⟨fb, z.fn * 6 + 2, none⟩ = some (.int .i64 f.slots)))
   have OW := hid (fun (W' : World) (hb : Bw w2 W') => (show W'.ownsRow 0 122 3 (.slice da n dc) n (rowD z.declared) from by have := ((R2.out.bw hb).x.decl (by decide)).1; rw [HDV.out] at this; rw [show (zuse z i (1, (n : Int))).declared.length = n from HN.out] at this; exact this))
   clear c0 c1 c5 c6 c9 cn ct s2 u0 u1 hul huf hune hfl hff hf hl gl lk lk1 lk2
   refine wp_region_W (fun w' => w'.cell? ⟨X.r, 9, none⟩ = some (.slice da n dc) ∧ w'.cell? ⟨X.r, 1, none⟩ = some (.int .i64 z.fn) ∧ w'.cell? ⟨fb, z.fn * 6 + 2, none⟩ = some (.int .i64 f.slots)) (fun j => if j == 16 || j == 17 then 0 else if j == 20 then 2 else 1) (by kernel_rfl) ?_
   refine tkW (i := 0) (oi := _) (v := ?_) rfl (Or.inl ⟨by rfl, fun w _ => ?_⟩) ?_
   rotate_left
   ·(go_simp; first | done | with_reducible rfl)
   try simp only [Act.put, sqA, sqZ, sqS]
   refine tkW (i := 1) (oi := _) (v := ?_) rfl (Or.inl ⟨by rfl, fun w _ => ?_⟩) ?_
   rotate_left
   ·(go_simp; first | done | with_reducible rfl)
   try simp only [Act.put, sqA, sqZ, sqS]
   refine tkW (i := 2) (oi := _) (v := ?_) rfl (Or.inl ⟨by rfl, fun w _ => ?_⟩) ?_
   rotate_left
   ·(go_simp; first | done | with_reducible rfl)
   try simp only [Act.put, sqA, sqZ, sqS]
   refine tkW (i := 3) (oi := _) (v := ?_) rfl (Or.inl ⟨by rfl, fun w _ => ?_⟩) ?_
   rotate_left
   ·(go_simp; first | done | with_reducible rfl)
   try simp only [Act.put, sqA, sqZ, sqS]
   refine ldW (i := 4) (oi := _) (v := ?_) rfl (Or.inl ⟨by rfl, fun w hS => ?_⟩) (HS.out _ (Bw.drew (Bw.refl _))) ?_
   rotate_left
   ·(obtain ⟨s1, s2, s3⟩ := hS; go_simp; first | done | with_reducible rfl)
   try simp only [Act.put, sqA, sqZ, sqS]
   refine tkW (i := 5) (oi := _) (v := ?_) rfl (Or.inl ⟨by rfl, fun w _ => ?_⟩) ?_
   rotate_left
   ·(go_simp; first | done | with_reducible rfl)
   try simp only [Act.put, sqA, sqZ, sqS]
   refine tkW (i := 6) (oi := _) (v := ?_) rfl (Or.inl ⟨by rfl, fun w _ => ?_⟩) ?_
   rotate_left
   ·(go_simp; first | done | with_reducible rfl)
   try simp only [Act.put, sqA, sqZ, sqS]
   refine tkW (i := 7) (oi := _) (v := ?_) rfl (Or.inl ⟨by rfl, fun w _ => ?_⟩) ?_
   rotate_left
   ·(go_simp; first | done | with_reducible rfl)
   try simp only [Act.put, sqA, sqZ, sqS]
   refine tkW (i := 8) (oi := _) (v := ?_) rfl (Or.inl ⟨by rfl, fun w _ => ?_⟩) ?_
   rotate_left
   ·(go_simp; first | done | with_reducible rfl)
   try simp only [Act.put, sqA, sqZ, sqS]
   refine ldW (i := 9) (oi := _) (v := ?_) rfl (Or.inl ⟨by rfl, fun w hS => ?_⟩) (HS.out _ (Bw.drew (Bw.refl _))) ?_
   rotate_left
   ·(obtain ⟨s1, s2, s3⟩ := hS; go_simp; first | done | with_reducible rfl)
   try simp only [Act.put, sqA, sqZ, sqS]
   refine tkW (i := 10) (oi := _) (v := ?_) rfl (Or.inl ⟨by rfl, fun w _ => ?_⟩) ?_
   rotate_left
   ·(go_simp; first | done | with_reducible rfl)
   try simp only [Act.put, sqA, sqZ, sqS]
   refine tkW (i := 11) (oi := _) (v := ?_) rfl (Or.inl ⟨by rfl, fun w _ => ?_⟩) ?_
   rotate_left
   ·(go_simp; first | done | with_reducible rfl)
   try simp only [Act.put, sqA, sqZ, sqS]
   refine tkW (i := 12) (oi := _) (v := ?_) rfl (Or.inl ⟨by rfl, fun w _ => ?_⟩) ?_
   rotate_left
   ·(go_simp; first | done | with_reducible rfl)
   try simp only [Act.put, sqA, sqZ, sqS]
   refine tkW (i := 13) (oi := _) (v := ?_) rfl (Or.inl ⟨by rfl, fun w _ => ?_⟩) ?_
   rotate_left
   ·(go_simp; first | done | with_reducible rfl)
   try simp only [Act.put, sqA, sqZ, sqS]
   refine ldW (i := 14) (oi := _) (v := ?_) rfl (Or.inl ⟨by rfl, fun w hS => ?_⟩) (HS.out _ (Bw.drew (Bw.refl _))) ?_
   rotate_left
   ·(obtain ⟨s1, s2, s3⟩ := hS; go_simp; first | done | with_reducible rfl)
   try simp only [Act.put, sqA, sqZ, sqS]
   refine tkW (i := 15) (oi := _) (v := ?_) rfl (Or.inl ⟨by rfl, fun w _ => ?_⟩) ?_
   rotate_left
   ·(go_simp; first | done | with_reducible rfl)
   try simp only [Act.put, sqA, sqZ, sqS]
   refine wpAnyW_ready (rs := [16]) (by kernel_rfl) (by simp) ?_
   refine (AllReadyW.cons (o := _) rfl (fun K hK => ?_) AllReadyW.nil)
   go_simp
   refine hK.out _ _ (HS.out _ (Bw.alloc (Bw.drew (Bw.refl _)) _)) ?_
   clear hK K
   try simp only [Act.put, sqA, sqZ, sqS]
   refine wpAnyW_ready (rs := [17]) (by kernel_rfl) (by simp) ?_
   refine (AllReadyW.cons (o := _) rfl (fun K hK => ?_) AllReadyW.nil)
   refine step_append_row rfl _ _ 81 rfl 122 i1 _ 3 24 undD8 I1.out.1 I1.out.2.1 I1.out.2.2.1 I1.out.2.2.2 rfl (by decide) (.slice da n dc) n (rowD z.declared) rfl (OW.out _ (Bw.alloc (Bw.drew (Bw.refl _)) _)) ⟨w2.heap.size, 0, none⟩ 1 1 [.int .i64 z.fn, .int .i64 f.slots, .bool false] rfl rfl (new_news w2.drew [.int .i64 z.fn, .int .i64 f.slots, .bool false] 122) (by intro u hu; simp at hu; rcases hu with rfl | rfl | rfl <;> rfl) (by have := HDL.out; unfold maxLen; omega) (by have := HDL.out; omega) ?_
   intro v1 w3 ho1 hg1 hvb1
   have S3 := hid (show w3.cell? ⟨X.r, 9, none⟩ = some (.slice da n dc) ∧ w3.cell? ⟨X.r, 1, none⟩ = some (.int .i64 z.fn) ∧ w3.cell? ⟨fb, z.fn * 6 + 2, none⟩ = some (.int .i64 f.slots) from by have RA := R2.out.bw (w' := (w2.drew.alloc (.cells #[.int .i64 z.fn, .int .i64 f.slots, .bool false] 122))) (Bw.alloc (Bw.drew (Bw.refl _)) _); have sA := HS.out (w2.drew.alloc (.cells #[.int .i64 z.fn, .int .i64 f.slots, .bool false] 122)) (Bw.alloc (Bw.drew (Bw.refl _)) _); have hρ5 := (RA.x.decl (by decide)).2; rw [HDV.out] at hρ5; have FA := RA.fu2 HFM.out.kk HFM.out.fv; have k1 : w3.heap[X.r]? = ((w2.drew.alloc (.cells #[.int .i64 z.fn, .int .i64 f.slots, .bool false] 122))).heap[X.r]? := hg1.block _ RA.blk.lt (fun e => by have h5 := hρ5 X.r e.symm; rw [RA.x.rr] at h5; cases h5); have k2 : w3.heap[fb]? = ((w2.drew.alloc (.cells #[.int .i64 z.fn, .int .i64 f.slots, .bool false] 122))).heap[fb]? := hg1.block _ FA.lt (fun e => by have h5 := hρ5 fb e.symm; rw [FA.ρ] at h5; cases h5); exact ⟨(World.cell?_of_block k1).trans sA.1, (World.cell?_of_block k1).trans sA.2.1, (World.cell?_of_block k2).trans sA.2.2⟩)
   obtain ⟨ρ1, hr1, hn1, q9, q1, qf⟩ := (R2.out.bw (w' := (w2.drew.alloc (.cells #[.int .i64 z.fn, .int .i64 f.slots, .bool false] 122))) (Bw.alloc (Bw.drew (Bw.refl _)) _)).dec HDV.out HN.out ⟨z.fn, f.slots, false⟩ HDL.out ho1 hg1 hvb1
   have R3 := hid hr1
   have N3 := hid (show NX B.ρ w _ ρ1 from (N2.out.bw (c := (w2.drew.alloc (.cells #[.int .i64 z.fn, .int .i64 f.slots, .bool false] 122))) (Bw.alloc (Bw.drew (Bw.refl _)) _)).trans hn1)
   obtain ⟨a1, cc1, e1⟩ := own_form ho1
   subst e1
   clear ho1 hg1 hvb1 hr1 hn1
   refine hK.out _ _ S3.out ?_
   clear hK K
   try simp only [Act.put, sqA, sqZ, sqS]
   refine tkW (i := 18) (oi := _) (v := ?_) rfl (Or.inl ⟨by rfl, fun w _ => ?_⟩) ?_
   rotate_left
   ·(go_simp; first | done | with_reducible rfl)
   try simp only [Act.put, sqA, sqZ, sqS]
   refine tkW (i := 19) (oi := _) (v := ?_) rfl (Or.inl ⟨by rfl, fun w _ => ?_⟩) ?_
   rotate_left
   ·(go_simp; first | done | with_reducible rfl)
   try simp only [Act.put, sqA, sqZ, sqS]
   refine wpAnyW_ready (rs := [20]) (by kernel_rfl) (by simp) ?_
   refine (AllReadyW.cons (o := _) rfl (fun K hK => ?_) AllReadyW.nil)
   go_simp
   refine hK.out _ _ trivial ?_
   clear hK K
   try simp only [Act.put, sqA, sqZ, sqS]
   refine wpAnyW_done (by kernel_rfl) ?_ _
   generalize World.setCell w3 ⟨X.r, 9, none⟩ (.slice a1 (n + 1) cc1) = w4 at R3 N3 ⊢
   have F4 := R3.out.fu2 HFM.out.kk HFM.out.fv
   have y2 : w4.cell? ⟨fb, z.fn * 6 + 2, none⟩ = some (.int .i64 f.slots) := by have := F4.c 2 (by decide); rw [this, ← HKF.out]; rfl
   have yl := F4.lt
   have yf := F4.fz
   have E := hid (R3.out.setF F4 (j := 2) (by decide) (f' := { k.f with slots := f.slots + 1 }) (v := .int .i64 (f.slots + 1)) rfl rfl rfl (by have := HS2.out; simp only; omega))
   have hwr : IntKind.i64.wrap (f.slots + 1) = f.slots + 1 := by have := HS2.out; rw [IntKind.wrap_i64]; omega
   clear F4 q9 q1 qf
   go_wp2
   all_goals go_end0
   all_goals try rw [hwr]
   all_goals have HNF := hid (N3.out.trans E.out.2)
   all_goals have e := E.out.1
   all_goals try rw [HKF.out] at e
   all_goals rw [HN.out]
   all_goals exact ⟨rfl, _, e, HNF.out⟩
end
end Go.Proofs.YtdhkcdehedbpcaaDoor

namespace Go.Proofs.YtdhkcdehedbpcaaDoor
open Go Go.RowKit
theorem slice_inj8 {a b n m c d : Nat} (h : Value.slice (some ⟨a, 0, none⟩) n c = .slice (some ⟨b, 0, none⟩) m d) : a = b ∧ c = d := by
 cases h
 exact ⟨rfl, rfl⟩
theorem NX.ex2 {ρ ρ1 : Nat → Nat} {a b c : World} {x : Nat} (h : NX ρ a b ρ1) (hg : b.grownBy c (some x)) (hx : a.heap.size ≤ x) : NX ρ a c ρ1 :=
 ⟨hg.os.trans h.os, hg.tape.trans h.tape, hg.output.trans h.output, Nat.le_trans h.size hg.size, fun q hq h0 => (hg.block q (Nat.lt_of_lt_of_le hq h.size) (fun e => by have := Option.some.inj e; omega)).trans (h.block q hq h0), h.new⟩

section
variable {X : ZX}

set_option maxRecDepth 100000 in
set_option maxHeartbeats 8000000 in
theorem take_any : ∀ (t : Nat) {w : World} {z : ZS} {B : ZB} (h : RS w X z B) (i g d : Nat) (k : Int) (z' : ZS), ztake t z i g d = some (k, z') → Calls Tryd.prog 102 #[.pointer (some ⟨X.r, 0, none⟩), .int .i64 i, .int .i64 g, .int .i64 d] w fun e w' => e = .returned (.int .i64 k) ∧ ∃ B', RS w' X z' B' ∧ NX B.ρ w w' B'.ρ ∧ B'.fv = B.fv ∧ B'.uv = B.uv ∧ B'.K.length = B.K.length := by
 intro t
 induction t with
 | zero => intro w z B h i g d k z' ht; cases ht
 | succ t ih =>
  intro w z B h i g d k z' ht
  unfold ztake at ht
  cases hf : z.funs[g]? with
  | none => rw [hf] at ht; simp at ht
  | some f =>
  cases hd : z.declared[d]? with
  | none => rw [hf, hd] at ht; simp at ht
  | some e =>
  rw [hf, hd] at ht
  simp only at ht
  obtain ⟨fb, fc, kk, hfm, hkf⟩ := h.fu hf
  obtain ⟨db, dc, hdm⟩ := h.de hd
  have c5 := hfm.c5
  have s4 : w.cell? ⟨fb, g * 6 + 4, none⟩ = some (.int .i64 f.about) := by rw [hfm.c 4 (by decide), ← hkf]; rfl
  have s5 : w.cell? ⟨fb, g * 6 + 5, none⟩ = some kk.mv := by rw [hfm.c 5 (by decide)]; rfl
  have c9 := hdm.c9
  have d0 : w.cell? ⟨db, d * 3, none⟩ = some (.int .i64 e.fn) := by have := hdm.c 0 (by decide); rw [Nat.add_zero] at this; rw [this]; rfl
  have d1 : w.cell? ⟨db, d * 3 + 1, none⟩ = some (.int .i64 e.slot) := by rw [hdm.c 1 (by decide)]; rfl
  have hfl := hfm.lt
  have hdl := hdm.lt
  have hg1 : (g : Int) < (B.K.length : Int) := by have := hfm.gl; omega
  have hd1 : (d : Int) < (z.declared.length : Int) := by have := hdm.gl; omega
  have hl := h.blk.lt
  have H := hid h
  have HDW := hid (show (Lit.int .i64 (d : Int)).wf = true from WalkArith.wf_i64 (by have := h.x.bd.2.2.1; omega))
  have HFV0 := hid hfm.fv
  cases hc : f.cm d with
  | some x =>
   rw [hc] at ht
   simp only at ht
   cases ht
   have hg0 : 0 < g := by
    rcases Nat.eq_zero_or_pos g with e0 | e0
    ·subst e0
     have := (h.x.map0 kk hfm.kk).2 d
     rw [hkf, hc] at this
     cases this
    ·exact e0
   obtain ⟨mb, hmv, hmi, hmr⟩ := h.x.maps g kk hfm.kk hg0 (by omega)
   rw [hmv] at s5
   have lk := hmi.look (t := (d : Int)) HDW.out
   rw [hkf, hc] at lk
   simp only [Option.isSome_some, Option.getD_some] at lk
   clear h hfm hdm hmi hmr hmv hkf hf hd hc
   go_enter Tryd.func102, Tryd.ntmps102
   go_wp2
   all_goals go_ret
   all_goals exact ⟨rfl, B, H.out, NX.refl _ _, rfl, rfl, rfl⟩
  | none =>
   rw [hc] at ht
   simp only at ht
   by_cases hg0 : g = 0
   ·rw [if_pos hg0] at ht; cases ht
   rw [if_neg hg0] at ht
   have HG := hid (show 0 < g by omega)
   obtain ⟨mb0, hmv, hmi, hmr⟩ := h.x.maps g kk hfm.kk HG.out (by omega)
   rw [hmv] at s5
   have lk := hmi.look (t := (d : Int)) HDW.out
   rw [hkf, hc] at lk
   simp only [Option.isSome_none, Option.getD_none] at lk
   have HF := hid hf
   by_cases ha : f.about = e.fn
   ·rw [if_pos ha] at ht
    simp only [Option.bind_some] at ht
    rw [hf] at ht
    have hz := ht
    simp only at hz
    have ea : ((f.about : Int) != (e.fn : Int)) = false := by simp [ha]
    clear ht h hfm hdm hmi hmr hmv hkf hf hd hc hg0 ha
    go_enter Tryd.func102, Tryd.ntmps102
    go_upto_region 6 with fail
    go_region
    all_goals go_upto_region 8 with fail
    have R2 := hid (H.out.bw (w' := (w.alloc (.cells #[.int .i64 1, .int .i64 e.slot] 59)).drew) (Bw.drew (Bw.alloc (Bw.refl w) _)))
    have N2 := hid (NX.of_bw B.ρ (w' := (w.alloc (.cells #[.int .i64 1, .int .i64 e.slot] 59)).drew) (Bw.drew (Bw.alloc (Bw.refl w) _)))
    have P2 := hid (show Blk (w.alloc (.cells #[.int .i64 1, .int .i64 e.slot] 59)).drew w.heap.size #[.int .i64 1, .int .i64 e.slot] 59 from Blk.new w _ _)
    have HCB := hid (H.out.x.top w.heap.size (Nat.le_refl _))
    have HH := HF
    have hxr := R2.out.blk.lt
    have c9n := 0
    clear c5 s4 s5 c9 d0 d1 hfl hdl hg1 hd1 hl lk ea c9n
    generalize hw2 : World.drew (w.alloc (.cells #[.int .i64 1, .int .i64 e.slot] 59)) = w2 at R2 N2 P2 hxr ⊢
    clear hw2
    obtain ⟨fb', fc', k1, hf1, hk1⟩ := R2.out.fu HH.out
    have hfe := hf1.fv
    rw [(rfl : B.fv = B.fv), HFV0.out] at hfe
    obtain ⟨hfe1, hfe2⟩ := slice_inj8 hfe
    subst hfe1 hfe2
    have HK1 := hid hf1.kk
    have HFV := hid (show B.fv = .slice (some ⟨fb, 0, none⟩) B.K.length fc from (rfl : B.fv = B.fv).trans HFV0.out)
    obtain ⟨ca, cc, hcv⟩ := own_form (R2.out.x.caps g k1 hf1.kk (by omega)).1
    obtain ⟨n, hn⟩ : ∃ n, k1.f.caps.length = n := ⟨_, rfl⟩
    rw [hn] at hcv
    have HCV := hid hcv
    have HN1 := hid hn
    have hnk : f.caps.length = n := by rw [← hk1]; exact hn
    have y3 : w2.cell? ⟨fb, g * 6 + 3, none⟩ = some (.slice ca n cc) := by have := hf1.c 3 (by decide); rw [this]; exact congrArg some hcv
    have y5 : w2.cell? ⟨fb, g * 6 + 5, none⟩ = some k1.mv := hf1.c 5 (by decide)
    have yl := hf1.lt
    have yf := hf1.fz
    have p0 := P2.out.cell 0
    have p1 := P2.out.cell 1
    simp only [List.getElem?_toArray, List.getElem?_cons_zero, List.getElem?_cons_succ] at p0 p1
    have pl := P2.out.lt
    rw [hnk] at hz
    have HK := hid hk1
    have HNB := hid (show n ≤ 256 by have := R2.out.x.bf f (List.mem_of_getElem? HH.out); omega)
    clear hf1 hcv hn hnk hk1
    by_cases h256 : n = 256
    ·rw [if_pos h256] at hz
     cases hz
     have e1 : ((n : Int) == 256) = true := by simp [h256]
     clear h256
     go_wp2_with (first
      | (go_at_call 94; refine (fail_any R2.out i 3).mono ?_; rintro e w5 ⟨rfl, hr, hn⟩; have R := hid hr; have N := hid hn; clear hr hn)
      | fail)
     all_goals go_ret
     all_goals exact ⟨rfl, B, R.out, N2.out.trans N.out, (rfl : B.fv = B.fv), (rfl : B.uv = B.uv), rfl⟩
    ·rw [if_neg h256] at hz
     cases hz
     have e1 : ((n : Int) == 256) = false := by simp; omega
     have HN2 := hid (show n + 1 ≤ 256 by have := HNB.out; omega)
     have HN3 := hid (show k1.f.caps.length < 256 by rw [HN1.out]; have := HN2.out; omega)
     obtain ⟨i1, I1⟩ := info_parts8 infoCa
     have I1 := hid I1
     have OW := hid (fun (W' : World) (hb : Bw w2 W') => (show W'.ownsRow 0 59 2 (.slice ca n cc) n (rowP k1.f.caps) from by have := ((R2.out.bw hb).x.caps g k1 HK1.out (by omega)).1; rw [HCV.out, HN1.out] at this; exact this))
     have HS := hid (fun (W' : World) (hb : Bw w2 W') => (⟨(by have := ((R2.out.bw hb).fu2 HK1.out HFV.out).c 3 (by decide); rw [this]; exact congrArg some HCV.out), (P2.out.bw hb).cell 0, (P2.out.bw hb).cell 1⟩ : W'.cell? ⟨fb, g * 6 + 3, none⟩ = some (.slice ca n cc) ∧ W'.cell? ⟨w.heap.size, 0, none⟩ = some (.int .i64 1) ∧ W'.cell? ⟨w.heap.size, 1, none⟩ = some (.int .i64 e.slot)))
     go_upto_region 12 with fail
     refine wp_region_W (fun w' => w'.cell? ⟨fb, g * 6 + 3, none⟩ = some (.slice ca n cc) ∧ w'.cell? ⟨w.heap.size, 0, none⟩ = some (.int .i64 1) ∧ w'.cell? ⟨w.heap.size, 1, none⟩ = some (.int .i64 e.slot)) (fun j => if j == 7 || j == 8 then 0 else if j == 12 then 2 else 1) (by kernel_rfl) ?_
     refine tkW (i := 0) (oi := _) (v := ?_) rfl (Or.inl ⟨by rfl, fun w _ => ?_⟩) ?_
     rotate_left
     ·(go_simp; first | done | with_reducible rfl)
     try simp only [Act.put, sqA, sqZ, sqS]
     refine tkW (i := 1) (oi := _) (v := ?_) rfl (Or.inl ⟨by rfl, fun w _ => ?_⟩) ?_
     rotate_left
     ·(go_simp; first | done | with_reducible rfl)
     try simp only [Act.put, sqA, sqZ, sqS]
     refine tkW (i := 2) (oi := _) (v := ?_) rfl (Or.inl ⟨by rfl, fun w _ => ?_⟩) ?_
     rotate_left
     ·(go_simp; first | done | with_reducible rfl)
     try simp only [Act.put, sqA, sqZ, sqS]
     refine tkW (i := 3) (oi := _) (v := ?_) rfl (Or.inl ⟨by rfl, fun w _ => ?_⟩) ?_
     rotate_left
     ·(go_simp; first | done | with_reducible rfl)
     try simp only [Act.put, sqA, sqZ, sqS]
     refine tkW (i := 4) (oi := _) (v := ?_) rfl (Or.inl ⟨by rfl, fun w _ => ?_⟩) ?_
     rotate_left
     ·(go_simp; first | done | with_reducible rfl)
     try simp only [Act.put, sqA, sqZ, sqS]
     refine ldW (i := 5) (oi := _) (v := ?_) rfl (Or.inl ⟨by rfl, fun w hS => ?_⟩) (HS.out _ (Bw.drew (Bw.refl _))) ?_
     rotate_left
     ·(obtain ⟨s1, s2, s3⟩ := hS; go_simp; first | done | with_reducible rfl)
     try simp only [Act.put, sqA, sqZ, sqS]
     refine ldW (i := 6) (oi := _) (v := ?_) rfl (Or.inl ⟨by rfl, fun w hS => ?_⟩) (HS.out _ (Bw.drew (Bw.refl _))) ?_
     rotate_left
     ·(obtain ⟨s1, s2, s3⟩ := hS; go_simp; first | done | with_reducible rfl)
     try simp only [Act.put, sqA, sqZ, sqS]
     refine wpAnyW_ready (rs := [7]) (by kernel_rfl) (by simp) ?_
     refine (AllReadyW.cons (o := _) rfl (fun K hK => ?_) AllReadyW.nil)
     go_simp
     refine hK.out _ _ (HS.out _ (Bw.alloc (Bw.drew (Bw.refl _)) _)) ?_
     clear hK K
     try simp only [Act.put, sqA, sqZ, sqS]
     refine wpAnyW_ready (rs := [8]) (by kernel_rfl) (by simp) ?_
     refine (AllReadyW.cons (o := _) rfl (fun K hK => ?_) AllReadyW.nil)
     refine step_append_row rfl _ _ 47 rfl 59 i1 _ 2 16 undC8 I1.out.1 I1.out.2.1 I1.out.2.2.1 I1.out.2.2.2 rfl (by decide) (.slice ca n cc) n (rowP k1.f.caps) rfl (OW.out _ (Bw.alloc (Bw.drew (Bw.refl _)) _)) ⟨w2.heap.size, 0, none⟩ 1 1 [.int .i64 1, .int .i64 e.slot] rfl rfl (new_news w2.drew [.int .i64 1, .int .i64 e.slot] 59) (by intro u hu; simp at hu; rcases hu with rfl | rfl <;> rfl) (by have := HN2.out; unfold maxLen; omega) (by have := HN2.out; omega) ?_
     intro v1 w3 ho1 hg1 hvb1
     have S3 := hid (show w3.cell? ⟨fb, g * 6 + 3, none⟩ = some (.slice ca n cc) ∧ w3.cell? ⟨w.heap.size, 0, none⟩ = some (.int .i64 1) ∧ w3.cell? ⟨w.heap.size, 1, none⟩ = some (.int .i64 e.slot) from by have RA := R2.out.bw (w' := (w2.drew.alloc (.cells #[.int .i64 1, .int .i64 e.slot] 59))) (Bw.alloc (Bw.drew (Bw.refl _)) _); have sA := HS.out (w2.drew.alloc (.cells #[.int .i64 1, .int .i64 e.slot] 59)) (Bw.alloc (Bw.drew (Bw.refl _)) _); have hρ5 := (RA.x.caps g k1 HK1.out (by omega)).2; rw [HCV.out] at hρ5; have FA := RA.fu2 HK1.out HFV.out; have k1 : w3.heap[fb]? = ((w2.drew.alloc (.cells #[.int .i64 1, .int .i64 e.slot] 59))).heap[fb]? := hg1.block _ FA.lt (fun e => by have h5 := hρ5 fb e.symm; rw [FA.ρ] at h5; omega); have k2 : w3.heap[w.heap.size]? = ((w2.drew.alloc (.cells #[.int .i64 1, .int .i64 e.slot] 59))).heap[w.heap.size]? := hg1.block _ (Nat.lt_of_lt_of_le P2.out.lt (by simp)) (fun e => by have h5 := hρ5 w.heap.size e.symm; rw [HCB.out] at h5; omega); exact ⟨(World.cell?_of_block k1).trans sA.1, (World.cell?_of_block k2).trans sA.2.1, (World.cell?_of_block k2).trans sA.2.2⟩)
     have RA := R2.out.bw (w' := (w2.drew.alloc (.cells #[.int .i64 1, .int .i64 e.slot] 59))) (Bw.alloc (Bw.drew (Bw.refl _)) _)
     have E0 := RA.capApp (RA.fu2 HK1.out HFV.out) (1, e.slot) HN3.out (v' := v1) (w' := w3) (by rw [HN1.out]; exact ho1) (by rw [HCV.out]; exact hg1) (by rw [HCV.out]; exact hvb1)
     obtain ⟨hr1, hn1, q9, ql, qf, hkp⟩ := E0
     have KP := hid hkp
     clear hkp
     rw [HCV.out] at q9
     have R3 := hid hr1
     have N3 := hid (show NX B.ρ w _ (upd B.ρ v1 (8 + 2 * g)) from (N2.out.bw (c := (w2.drew.alloc (.cells #[.int .i64 1, .int .i64 e.slot] 59))) (Bw.alloc (Bw.drew (Bw.refl _)) _)).trans hn1)
     obtain ⟨a1, cc1, e1⟩ := own_form ho1
     subst e1
     clear ho1 hg1 hvb1 hr1 hn1 RA
     refine hK.out _ _ S3.out ?_
     clear hK K
     try simp only [Act.put, sqA, sqZ, sqS]
     refine tkW (i := 9) (oi := _) (v := ?_) rfl (Or.inl ⟨by rfl, fun w _ => ?_⟩) ?_
     rotate_left
     ·(go_simp; first | done | with_reducible rfl)
     try simp only [Act.put, sqA, sqZ, sqS]
     refine tkW (i := 10) (oi := _) (v := ?_) rfl (Or.inl ⟨by rfl, fun w _ => ?_⟩) ?_
     rotate_left
     ·(go_simp; first | done | with_reducible rfl)
     try simp only [Act.put, sqA, sqZ, sqS]
     refine tkW (i := 11) (oi := _) (v := ?_) rfl (Or.inl ⟨by rfl, fun w _ => ?_⟩) ?_
     rotate_left
     ·(go_simp; first | done | with_reducible rfl)
     try simp only [Act.put, sqA, sqZ, sqS]
     refine wpAnyW_ready (rs := [12]) (by kernel_rfl) (by simp) ?_
     refine (AllReadyW.cons (o := _) rfl (fun K hK => ?_) AllReadyW.nil)
     go_simp
     refine hK.out _ _ trivial ?_
     clear hK K
     try simp only [Act.put, sqA, sqZ, sqS]
     refine wpAnyW_done (by kernel_rfl) ?_ _
     generalize World.setCell w3 ⟨fb, g * 6 + 3, none⟩ (.slice a1 (n + 1) cc1) = w4 at R3 N3 KP ⊢
     have hgl4 : g < B.K.length := (List.getElem?_eq_some_iff.1 HK1.out).1
     have hk4 : (B.K.set g ⟨{ k1.f with caps := k1.f.caps ++ [(1, e.slot)] }, .slice a1 (n + 1) cc1, k1.mv⟩)[g]? = some ⟨{ k1.f with caps := k1.f.caps ++ [(1, e.slot)] }, .slice a1 (n + 1) cc1, k1.mv⟩ := List.getElem?_set_self hgl4
     obtain ⟨mb, hmv, hmi, hmr⟩ := R2.out.x.maps g k1 HK1.out HG.out (by omega)
     have F4 := R3.out.fu2 hk4 HFV.out
     have x5 : w4.cell? ⟨fb, g * 6 + 5, none⟩ = some (.map (some mb)) := by have := F4.c 5 (by decide); rw [this]; exact congrArg some hmv
     have xl := F4.lt
     have hmi4 : MI w4 mb k1.f.cm n := by
      have h1 := hmi.keep (w' := w2.drew.alloc (.cells #[.int .i64 1, .int .i64 e.slot] 59)) (Below.heap_alloc w2.drew _ mb hmi.lt)
      rw [HN1.out] at h1
      exact h1.keep (KP.out mb h1.lt (by rw [hmr]; omega) (by rw [hmr]; omega))
     obtain ⟨w5, r5, M5, T5⟩ := hmi4.store (t := (d : Int)) HDW.out (by have := HNB.out; omega) n (WalkArith.wf_i64 (by have := HNB.out; omega))
     have E5 := R3.out.capMap hk4 HG.out hmv T5 (M := mputI k1.f.cm d n) (by simp only [List.length_append, List.length_cons, List.length_nil]; rw [HN1.out]; exact M5)
     obtain ⟨R5, N5⟩ := E5
     have R5 := hid R5
     have N5 := hid N5
     clear F4 hmi hmr hmi4 M5 T5 q9 ql qf y3 y5 p0 p1
     go_wp2
     all_goals go_ret
     all_goals refine ⟨rfl, ?_⟩
     all_goals have e5 := R5.out
     all_goals have ek := HK.out
     all_goals subst ek
     all_goals rw [List.set_set] at e5
     all_goals exact ⟨_, e5, N3.out.trans N5.out, (rfl : B.fv = B.fv), (rfl : B.uv = B.uv), by first | (simp only [List.length_set]; exact rfl) | simp only [List.length_set]⟩

   ·rw [if_neg ha] at ht
    cases hr : ztake t z i f.about d with
    | none => rw [hr] at ht; cases ht
    | some r =>
    obtain ⟨kx, zx⟩ := r
    rw [hr] at ht
    simp only [Option.map_some, Option.bind_some] at ht
    cases hfx : zx.funs[g]? with
    | none => rw [hfx] at ht; cases ht
    | some fx =>
    rw [hfx] at ht
    have hz := ht
    simp only at hz
    have HR := hid hr
    have HH := hid hfx
    have IH := hid (fun (W : World) (hb : Bw w W) => ih (H.out.bw hb) i f.about d kx zx hr)
    have HTP := hid (H.out.x.top w.heap.size (Nat.le_refl _))
    have ea : ((f.about : Int) != (e.fn : Int)) = true := by
     have : ¬ (f.about : Int) = (e.fn : Int) := by omega
     simpa using this
    clear ht h hfm hdm hmi hmr hmv hkf hf hd hc hg0 ha hr hfx ih
    go_enter Tryd.func102, Tryd.ntmps102
    go_upto_region 6 with fail
    go_region
    have HBW := hid (show Bw w (w.alloc (.cells #[.int .i64 1, .int .i64 e.slot] 59)).drew from Bw.drew (Bw.alloc (Bw.refl w) _))
    have P0 := hid (show Blk (w.alloc (.cells #[.int .i64 1, .int .i64 e.slot] 59)).drew w.heap.size #[.int .i64 1, .int .i64 e.slot] 59 from Blk.new w _ _)
    all_goals go_upto_region 8 with (first
     | (go_at_call 102; refine (IH.out _ HBW.out).mono ?_; rintro e' w1 ⟨rfl, B1, hr1, hn1, hv1, hu1, hl1⟩; have R1 := hid hr1; have N1 := hid hn1; have HV := hid hv1; have HU := hid hu1; have HL := hid hl1; have P1 := P0.out.keep (hn1.block _ P0.out.lt HTP.out); have z0 := P1.cell; have zf := P1.free; have zl := P1.lt; clear hr1 hn1 hv1 hu1 hl1)
     | fail)
    have hcb := N1.out.new w.heap.size (by simp [go_sem]) HTP.out
    have hgr : w1.grownBy ((w1.setCell ⟨w.heap.size, 0, none⟩ (.int .i64 0)).setCell ⟨w.heap.size, 1, none⟩ (.int .i64 kx)) (some w.heap.size) := ⟨rfl, rfl, rfl, by simp [World.setCell], fun q _ hne => by rw [Below.heap_setCell _ _ _ q (fun e => hne (by rw [e])), Below.heap_setCell _ _ _ q (fun e => hne (by rw [e]))]⟩
    have R2 := hid (R1.out.aside hgr hcb (by have := H.out.x.nc.1.lt; omega) (by have := H.out.x.ah.1.lt; omega) (by have := H.out.x.pr.1.1; omega))
    have N2 := hid (show NX B.ρ w ((w1.setCell ⟨w.heap.size, 0, none⟩ (.int .i64 0)).setCell ⟨w.heap.size, 1, none⟩ (.int .i64 kx)) B1.ρ from ((NX.of_bw B.ρ HBW.out).trans N1.out).ex2 hgr (Nat.le_refl _))
    have P2 := hid (show Blk ((w1.setCell ⟨w.heap.size, 0, none⟩ (.int .i64 0)).setCell ⟨w.heap.size, 1, none⟩ (.int .i64 kx)) w.heap.size #[.int .i64 0, .int .i64 kx] 59 from (P1.set 0 (.int .i64 0)).set 1 (.int .i64 kx))
    have HCB := hid hcb
    have hxr := R2.out.blk.lt
    clear c5 s4 s5 c9 d0 d1 hfl hdl hg1 hd1 hl lk ea hcb hgr z0 zf zl P1
    generalize hw2 : (World.setCell (World.setCell w1 ⟨w.heap.size, 0, none⟩ (.int .i64 0)) ⟨w.heap.size, 1, none⟩ (.int .i64 kx)) = w2 at R2 N2 P2 hxr ⊢
    clear hw2
    obtain ⟨fb', fc', k1, hf1, hk1⟩ := R2.out.fu HH.out
    have hfe := hf1.fv
    rw [HV.out, HFV0.out] at hfe
    obtain ⟨hfe1, hfe2⟩ := slice_inj8 hfe
    subst hfe1 hfe2
    have HK1 := hid hf1.kk
    have HFV := hid (show B1.fv = .slice (some ⟨fb, 0, none⟩) B.K.length fc from HV.out.trans HFV0.out)
    obtain ⟨ca, cc, hcv⟩ := own_form (R2.out.x.caps g k1 hf1.kk (by omega)).1
    obtain ⟨n, hn⟩ : ∃ n, k1.f.caps.length = n := ⟨_, rfl⟩
    rw [hn] at hcv
    have HCV := hid hcv
    have HN1 := hid hn
    have hnk : fx.caps.length = n := by rw [← hk1]; exact hn
    have y3 : w2.cell? ⟨fb, g * 6 + 3, none⟩ = some (.slice ca n cc) := by have := hf1.c 3 (by decide); rw [this]; exact congrArg some hcv
    have y5 : w2.cell? ⟨fb, g * 6 + 5, none⟩ = some k1.mv := hf1.c 5 (by decide)
    have yl := hf1.lt
    have yf := hf1.fz
    have p0 := P2.out.cell 0
    have p1 := P2.out.cell 1
    simp only [List.getElem?_toArray, List.getElem?_cons_zero, List.getElem?_cons_succ] at p0 p1
    have pl := P2.out.lt
    rw [hnk] at hz
    have HK := hid hk1
    have HNB := hid (show n ≤ 256 by have := R2.out.x.bf fx (List.mem_of_getElem? HH.out); omega)
    clear hf1 hcv hn hnk hk1
    by_cases h256 : n = 256
    ·rw [if_pos h256] at hz
     cases hz
     have e1 : ((n : Int) == 256) = true := by simp [h256]
     clear h256
     go_wp2_with (first
      | (go_at_call 94; refine (fail_any R2.out i 3).mono ?_; rintro e w5 ⟨rfl, hr, hn⟩; have R := hid hr; have N := hid hn; clear hr hn)
      | fail)
     all_goals go_ret
     all_goals exact ⟨rfl, B1, R.out, N2.out.trans N.out, HV.out, HU.out, HL.out⟩
    ·rw [if_neg h256] at hz
     cases hz
     have e1 : ((n : Int) == 256) = false := by simp; omega
     have HN2 := hid (show n + 1 ≤ 256 by have := HNB.out; omega)
     have HN3 := hid (show k1.f.caps.length < 256 by rw [HN1.out]; have := HN2.out; omega)
     obtain ⟨i1, I1⟩ := info_parts8 infoCa
     have I1 := hid I1
     have OW := hid (fun (W' : World) (hb : Bw w2 W') => (show W'.ownsRow 0 59 2 (.slice ca n cc) n (rowP k1.f.caps) from by have := ((R2.out.bw hb).x.caps g k1 HK1.out (by omega)).1; rw [HCV.out, HN1.out] at this; exact this))
     have HS := hid (fun (W' : World) (hb : Bw w2 W') => (⟨(by have := ((R2.out.bw hb).fu2 HK1.out HFV.out).c 3 (by decide); rw [this]; exact congrArg some HCV.out), (P2.out.bw hb).cell 0, (P2.out.bw hb).cell 1⟩ : W'.cell? ⟨fb, g * 6 + 3, none⟩ = some (.slice ca n cc) ∧ W'.cell? ⟨w.heap.size, 0, none⟩ = some (.int .i64 0) ∧ W'.cell? ⟨w.heap.size, 1, none⟩ = some (.int .i64 kx)))
     go_upto_region 12 with fail
     refine wp_region_W (fun w' => w'.cell? ⟨fb, g * 6 + 3, none⟩ = some (.slice ca n cc) ∧ w'.cell? ⟨w.heap.size, 0, none⟩ = some (.int .i64 0) ∧ w'.cell? ⟨w.heap.size, 1, none⟩ = some (.int .i64 kx)) (fun j => if j == 7 || j == 8 then 0 else if j == 12 then 2 else 1) (by kernel_rfl) ?_
     refine tkW (i := 0) (oi := _) (v := ?_) rfl (Or.inl ⟨by rfl, fun w _ => ?_⟩) ?_
     rotate_left
     ·(go_simp; first | done | with_reducible rfl)
     try simp only [Act.put, sqA, sqZ, sqS]
     refine tkW (i := 1) (oi := _) (v := ?_) rfl (Or.inl ⟨by rfl, fun w _ => ?_⟩) ?_
     rotate_left
     ·(go_simp; first | done | with_reducible rfl)
     try simp only [Act.put, sqA, sqZ, sqS]
     refine tkW (i := 2) (oi := _) (v := ?_) rfl (Or.inl ⟨by rfl, fun w _ => ?_⟩) ?_
     rotate_left
     ·(go_simp; first | done | with_reducible rfl)
     try simp only [Act.put, sqA, sqZ, sqS]
     refine tkW (i := 3) (oi := _) (v := ?_) rfl (Or.inl ⟨by rfl, fun w _ => ?_⟩) ?_
     rotate_left
     ·(go_simp; first | done | with_reducible rfl)
     try simp only [Act.put, sqA, sqZ, sqS]
     refine tkW (i := 4) (oi := _) (v := ?_) rfl (Or.inl ⟨by rfl, fun w _ => ?_⟩) ?_
     rotate_left
     ·(go_simp; first | done | with_reducible rfl)
     try simp only [Act.put, sqA, sqZ, sqS]
     refine ldW (i := 5) (oi := _) (v := ?_) rfl (Or.inl ⟨by rfl, fun w hS => ?_⟩) (HS.out _ (Bw.drew (Bw.refl _))) ?_
     rotate_left
     ·(obtain ⟨s1, s2, s3⟩ := hS; go_simp; first | done | with_reducible rfl)
     try simp only [Act.put, sqA, sqZ, sqS]
     refine ldW (i := 6) (oi := _) (v := ?_) rfl (Or.inl ⟨by rfl, fun w hS => ?_⟩) (HS.out _ (Bw.drew (Bw.refl _))) ?_
     rotate_left
     ·(obtain ⟨s1, s2, s3⟩ := hS; go_simp; first | done | with_reducible rfl)
     try simp only [Act.put, sqA, sqZ, sqS]
     refine wpAnyW_ready (rs := [7]) (by kernel_rfl) (by simp) ?_
     refine (AllReadyW.cons (o := _) rfl (fun K hK => ?_) AllReadyW.nil)
     go_simp
     refine hK.out _ _ (HS.out _ (Bw.alloc (Bw.drew (Bw.refl _)) _)) ?_
     clear hK K
     try simp only [Act.put, sqA, sqZ, sqS]
     refine wpAnyW_ready (rs := [8]) (by kernel_rfl) (by simp) ?_
     refine (AllReadyW.cons (o := _) rfl (fun K hK => ?_) AllReadyW.nil)
     refine step_append_row rfl _ _ 47 rfl 59 i1 _ 2 16 undC8 I1.out.1 I1.out.2.1 I1.out.2.2.1 I1.out.2.2.2 rfl (by decide) (.slice ca n cc) n (rowP k1.f.caps) rfl (OW.out _ (Bw.alloc (Bw.drew (Bw.refl _)) _)) ⟨w2.heap.size, 0, none⟩ 1 1 [.int .i64 0, .int .i64 kx] rfl rfl (new_news w2.drew [.int .i64 0, .int .i64 kx] 59) (by intro u hu; simp at hu; rcases hu with rfl | rfl <;> rfl) (by have := HN2.out; unfold maxLen; omega) (by have := HN2.out; omega) ?_
     intro v1 w3 ho1 hg1 hvb1
     have S3 := hid (show w3.cell? ⟨fb, g * 6 + 3, none⟩ = some (.slice ca n cc) ∧ w3.cell? ⟨w.heap.size, 0, none⟩ = some (.int .i64 0) ∧ w3.cell? ⟨w.heap.size, 1, none⟩ = some (.int .i64 kx) from by have RA := R2.out.bw (w' := (w2.drew.alloc (.cells #[.int .i64 0, .int .i64 kx] 59))) (Bw.alloc (Bw.drew (Bw.refl _)) _); have sA := HS.out (w2.drew.alloc (.cells #[.int .i64 0, .int .i64 kx] 59)) (Bw.alloc (Bw.drew (Bw.refl _)) _); have hρ5 := (RA.x.caps g k1 HK1.out (by omega)).2; rw [HCV.out] at hρ5; have FA := RA.fu2 HK1.out HFV.out; have k1 : w3.heap[fb]? = ((w2.drew.alloc (.cells #[.int .i64 0, .int .i64 kx] 59))).heap[fb]? := hg1.block _ FA.lt (fun e => by have h5 := hρ5 fb e.symm; rw [FA.ρ] at h5; omega); have k2 : w3.heap[w.heap.size]? = ((w2.drew.alloc (.cells #[.int .i64 0, .int .i64 kx] 59))).heap[w.heap.size]? := hg1.block _ (Nat.lt_of_lt_of_le P2.out.lt (by simp)) (fun e => by have h5 := hρ5 w.heap.size e.symm; rw [HCB.out] at h5; omega); exact ⟨(World.cell?_of_block k1).trans sA.1, (World.cell?_of_block k2).trans sA.2.1, (World.cell?_of_block k2).trans sA.2.2⟩)
     have RA := R2.out.bw (w' := (w2.drew.alloc (.cells #[.int .i64 0, .int .i64 kx] 59))) (Bw.alloc (Bw.drew (Bw.refl _)) _)
     have E0 := RA.capApp (RA.fu2 HK1.out HFV.out) (0, kx) HN3.out (v' := v1) (w' := w3) (by rw [HN1.out]; exact ho1) (by rw [HCV.out]; exact hg1) (by rw [HCV.out]; exact hvb1)
     obtain ⟨hr1, hn1, q9, ql, qf, hkp⟩ := E0
     have KP := hid hkp
     clear hkp
     rw [HCV.out] at q9
     have R3 := hid hr1
     have N3 := hid (show NX B.ρ w _ (upd B1.ρ v1 (8 + 2 * g)) from (N2.out.bw (c := (w2.drew.alloc (.cells #[.int .i64 0, .int .i64 kx] 59))) (Bw.alloc (Bw.drew (Bw.refl _)) _)).trans hn1)
     obtain ⟨a1, cc1, e1⟩ := own_form ho1
     subst e1
     clear ho1 hg1 hvb1 hr1 hn1 RA
     refine hK.out _ _ S3.out ?_
     clear hK K
     try simp only [Act.put, sqA, sqZ, sqS]
     refine tkW (i := 9) (oi := _) (v := ?_) rfl (Or.inl ⟨by rfl, fun w _ => ?_⟩) ?_
     rotate_left
     ·(go_simp; first | done | with_reducible rfl)
     try simp only [Act.put, sqA, sqZ, sqS]
     refine tkW (i := 10) (oi := _) (v := ?_) rfl (Or.inl ⟨by rfl, fun w _ => ?_⟩) ?_
     rotate_left
     ·(go_simp; first | done | with_reducible rfl)
     try simp only [Act.put, sqA, sqZ, sqS]
     refine tkW (i := 11) (oi := _) (v := ?_) rfl (Or.inl ⟨by rfl, fun w _ => ?_⟩) ?_
     rotate_left
     ·(go_simp; first | done | with_reducible rfl)
     try simp only [Act.put, sqA, sqZ, sqS]
     refine wpAnyW_ready (rs := [12]) (by kernel_rfl) (by simp) ?_
     refine (AllReadyW.cons (o := _) rfl (fun K hK => ?_) AllReadyW.nil)
     go_simp
     refine hK.out _ _ trivial ?_
     clear hK K
     try simp only [Act.put, sqA, sqZ, sqS]
     refine wpAnyW_done (by kernel_rfl) ?_ _
     generalize World.setCell w3 ⟨fb, g * 6 + 3, none⟩ (.slice a1 (n + 1) cc1) = w4 at R3 N3 KP ⊢
     have hgl4 : g < B1.K.length := (List.getElem?_eq_some_iff.1 HK1.out).1
     have hk4 : (B1.K.set g ⟨{ k1.f with caps := k1.f.caps ++ [(0, kx)] }, .slice a1 (n + 1) cc1, k1.mv⟩)[g]? = some ⟨{ k1.f with caps := k1.f.caps ++ [(0, kx)] }, .slice a1 (n + 1) cc1, k1.mv⟩ := List.getElem?_set_self hgl4
     obtain ⟨mb, hmv, hmi, hmr⟩ := R2.out.x.maps g k1 HK1.out HG.out (by omega)
     have F4 := R3.out.fu2 hk4 HFV.out
     have x5 : w4.cell? ⟨fb, g * 6 + 5, none⟩ = some (.map (some mb)) := by have := F4.c 5 (by decide); rw [this]; exact congrArg some hmv
     have xl := F4.lt
     have hmi4 : MI w4 mb k1.f.cm n := by
      have h1 := hmi.keep (w' := w2.drew.alloc (.cells #[.int .i64 0, .int .i64 kx] 59)) (Below.heap_alloc w2.drew _ mb hmi.lt)
      rw [HN1.out] at h1
      exact h1.keep (KP.out mb h1.lt (by rw [hmr]; omega) (by rw [hmr]; omega))
     obtain ⟨w5, r5, M5, T5⟩ := hmi4.store (t := (d : Int)) HDW.out (by have := HNB.out; omega) n (WalkArith.wf_i64 (by have := HNB.out; omega))
     have E5 := R3.out.capMap hk4 HG.out hmv T5 (M := mputI k1.f.cm d n) (by simp only [List.length_append, List.length_cons, List.length_nil]; rw [HN1.out]; exact M5)
     obtain ⟨R5, N5⟩ := E5
     have R5 := hid R5
     have N5 := hid N5
     clear F4 hmi hmr hmi4 M5 T5 q9 ql qf y3 y5 p0 p1
     go_wp2
     all_goals go_ret
     all_goals refine ⟨rfl, ?_⟩
     all_goals have e5 := R5.out
     all_goals have ek := HK.out
     all_goals subst ek
     all_goals rw [List.set_set] at e5
     all_goals exact ⟨_, e5, N3.out.trans N5.out, HV.out, HU.out, by first | (simp only [List.length_set]; exact HL.out) | simp only [List.length_set]⟩

end
end Go.Proofs.YtdhkcdehedbpcaaDoor

