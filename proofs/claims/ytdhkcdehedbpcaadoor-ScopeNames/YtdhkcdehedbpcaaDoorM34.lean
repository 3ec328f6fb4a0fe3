/- The resolver: meansSlot. · The resolver: name, set, plain, declare. -/
import Derived.Test.YtdhkcdehedbpcaaDoorM33
set_option linter.unusedSimpArgs false
set_option linter.unusedVariables false
namespace Go.Proofs.YtdhkcdehedbpcaaDoor
open Go Go.RowKit

theorem zfail_fn (z : ZS) (i : Nat) (e : Int) : (zfail z i e).fn = z.fn := by unfold zfail; split <;> rfl
theorem ztake_fn : ∀ (t : Nat) {z z' : ZS} {i g d : Nat} {k : Int}, ztake t z i g d = some (k, z') → z'.fn = z.fn
 | 0, z, z', i, g, d, k, h => by cases h
 | t + 1, z, z', i, g, d, k, h => by
  unfold ztake at h
  cases hf : z.funs[g]? with
  | none => rw [hf] at h; simp at h
  | some f =>
  cases hd : z.declared[d]? with
  | none => rw [hf, hd] at h; simp at h
  | some e =>
  rw [hf, hd] at h
  simp only at h
  cases hc : f.cm d with
  | some x => rw [hc] at h; simp only at h; cases h; rfl
  | none =>
   rw [hc] at h
   simp only at h
   by_cases hg : g = 0
   ·rw [if_pos hg] at h; cases h
   rw [if_neg hg] at h
   obtain ⟨r, hr, h⟩ := Option.bind_eq_some_iff.1 h
   have hz : r.2.fn = z.fn := by
    by_cases ha : f.about = e.fn
    ·rw [if_pos ha] at hr; cases hr; rfl
    ·rw [if_neg ha] at hr
     obtain ⟨⟨kx, zx⟩, h1, h2⟩ := Option.map_eq_some_iff.1 hr
     cases h2
     exact ztake_fn t h1
   cases hx : r.2.funs[g]? with
   | none => rw [hx] at h; cases h
   | some fx =>
    rw [hx] at h
    simp only at h
    by_cases h256 : fx.caps.length = 256
    ·rw [if_pos h256] at h; cases h; rw [zfail_fn]; exact hz
    ·rw [if_neg h256] at h; cases h; exact hz

section
variable {w : World} {X : ZX} {z : ZS} {B : ZB}

set_option maxRecDepth 100000 in
set_option maxHeartbeats 4000000 in
theorem meansSlot_any (h : RS w X z B) (i : Nat) (hi : i < X.L.length) (d : Int) (z' : ZS) (hz : zmeans z i d = some z') : Calls Tryd.prog 100 #[.pointer (some ⟨X.r, 0, none⟩), .int .i64 i, .int .i64 d] w fun e' w' => e' = .returned (.tuple #[]) ∧ Zp w X B z' w' := by
 unfold zmeans at hz
 by_cases hd0 : d < 0
 ·rw [if_pos hd0] at hz; cases hz
 rw [if_neg hd0] at hz
 obtain ⟨n, rfl⟩ : ∃ n : Nat, d = n := ⟨d.toNat, by omega⟩
 rw [Int.toNat_natCast] at hz
 cases he : z.declared[n]? with
 | none => rw [he] at hz; cases hz
 | some e =>
 rw [he] at hz
 simp only at hz
 obtain ⟨ub, uc, u, hu1, hue, c6, u0, u1, hul, huf, huρ, hune⟩ := h.us hi
 obtain ⟨db, dc, hdm⟩ := h.de he
 have c9 := hdm.c9
 have d0 : w.cell? ⟨db, n * 3, none⟩ = some (.int .i64 e.fn) := by have := hdm.c 0 (by decide); rw [Nat.add_zero] at this; rw [this]; rfl
 have d2 : w.cell? ⟨db, n * 3 + 2, none⟩ = some (.bool e.taken) := by rw [hdm.c 2 (by decide)]; rfl
 have c1 : w.cell? ⟨X.r, 1, none⟩ = some (.int .i64 z.fn) := h.blk.cell 1
 have hdl := hdm.lt
 have hdf := hdm.fz
 have hd1 : (n : Int) < (z.declared.length : Int) := by have := hdm.gl; omega
 have hi2 : (i : Int) < (X.L.length : Int) := by omega
 have hf := h.blk.free
 have hl := h.blk.lt
 have H := hid h
 have HUE := hid hue
 have HI := hid hi
 have HDM := hid hdm
 by_cases ha : e.fn = z.fn
 ·rw [if_pos ha] at hz
  cases hz
  have ea : ((e.fn : Int) == (z.fn : Int)) = true := by simp [ha]
  have E := hid (h.use hi hue 1 (n : Int))
  clear h hdm ha hu1 hue huρ hi he hd0
  go_enter Tryd.func100, Tryd.ntmps100
  go_upto_region 0 with fail
  go_region
  all_goals go_wp2
  all_goals refine bodyPost_ret (v := .tuple #[]) (by simp [results, Tryd.results100, go_sem]) rfl ?_
  all_goals exact ⟨rfl, Zp.self (E.out.1.bw (Bw.drew (Bw.refl _))) (E.out.2.bw (Bw.drew (Bw.refl _)))⟩
 ·rw [if_neg ha] at hz
  obtain ⟨⟨kx, zx⟩, hr, hz⟩ := Option.map_eq_some_iff.1 hz
  subst hz
  have ea : ((e.fn : Int) == (z.fn : Int)) = false := by
   have : ¬ (e.fn : Int) = (z.fn : Int) := by omega
   simpa using this
  have HR := hid hr
  have HFNX := hid (ztake_fn _ hr)
  have E := hid (h.taken hdm)
  clear h hdm ha hu1 hue huρ hi he hd0 hr
  go_enter Tryd.func100, Tryd.ntmps100
  go_upto_region 0 with fail
  go_region
  all_goals
   go_upto_region 3 with fail
   have R2 := hid (E.out.1.bw (w' := (w.setCell ⟨db, n * 3 + 2, none⟩ (.bool true)).drew) (Bw.drew (Bw.refl _)))
   have N2 := hid (E.out.2.bw (c := (w.setCell ⟨db, n * 3 + 2, none⟩ (.bool true)).drew) (Bw.drew (Bw.refl _)))
   generalize hw2 : World.drew (w.setCell ⟨db, n * 3 + 2, none⟩ (.bool true)) = w2 at R2 N2 ⊢
   clear hw2
   have HS := hid (fun (W' : World) (hb : Bw w2 W') => (⟨(by have := (R2.out.bw hb).blk.cell 6; rw [this]; exact congrArg some HUE.out), (R2.out.bw hb).blk.cell 1⟩ : W'.cell? ⟨X.r, 6, none⟩ = some (.slice (some ⟨ub, 0, none⟩) X.L.length uc) ∧ W'.cell? ⟨X.r, 1, none⟩ = some (.int .i64 z.fn)))
   clear c6 u0 u1 hul huf hune c9 d0 d2 c1 hdl hdf hd1 hf hl ea E
   refine wp_region_W (fun w' => w'.cell? ⟨X.r, 6, none⟩ = some (.slice (some ⟨ub, 0, none⟩) X.L.length uc) ∧ w'.cell? ⟨X.r, 1, none⟩ = some (.int .i64 z.fn)) (fun j => if j == 13 then 0 else if j == 16 then 2 else 1) (by kernel_rfl) ?_
   refine tkW (i := 0) (oi := _) (v := ?_) rfl (Or.inl ⟨by rfl, fun w _ => ?_⟩) ?_
   rotate_left
   ·(go_simp; first | done | with_reducible rfl)
   try simp only [Act.put, sqA, sqZ, sqS]
   refine tkW (i := 1) (oi := _) (v := ?_) rfl (Or.inl ⟨by rfl, fun w _ => ?_⟩) ?_
   rotate_left
   ·(go_simp; first | done | with_reducible rfl)
   try simp only [Act.put, sqA, sqZ, sqS]
   refine tkW (i := 2) (oi := _) (v := ?_) rfl (Or.inl ⟨by rfl, fun w _ => ?_⟩) ?_
   rotate_left
   ·(go_simp; first | done | with_reducible rfl)
   try simp only [Act.put, sqA, sqZ, sqS]
   refine ldW (i := 3) (oi := _) (v := ?_) rfl (Or.inl ⟨by rfl, fun w hS => ?_⟩) (HS.out _ (Bw.drew (Bw.refl _))) ?_
   rotate_left
   ·(obtain ⟨s1, s2⟩ := hS; go_simp; first | done | with_reducible rfl)
   try simp only [Act.put, sqA, sqZ, sqS]
   refine tkW (i := 4) (oi := _) (v := ?_) rfl (Or.inl ⟨by rfl, fun w _ => ?_⟩) ?_
   rotate_left
   ·(go_simp; first | done | with_reducible rfl)
   try simp only [Act.put, sqA, sqZ, sqS]
   refine tkW (i := 5) (oi := _) (v := ?_) rfl (Or.inl ⟨by rfl, fun w _ => ?_⟩) ?_
   rotate_left
   ·(go_simp; first | done | with_reducible rfl)
   try simp only [Act.put, sqA, sqZ, sqS]
   refine tkW (i := 6) (oi := _) (v := ?_) rfl (Or.inl ⟨by rfl, fun w _ => ?_⟩) ?_
   rotate_left
   ·(go_simp; first | done | with_reducible rfl)
   try simp only [Act.put, sqA, sqZ, sqS]
   refine tkW (i := 7) (oi := _) (v := ?_) rfl (Or.inl ⟨by rfl, fun w _ => ?_⟩) ?_
   rotate_left
   ·(go_simp; first | done | with_reducible rfl)
   try simp only [Act.put, sqA, sqZ, sqS]
   refine tkW (i := 8) (oi := _) (v := ?_) rfl (Or.inl ⟨by rfl, fun w _ => ?_⟩) ?_
   rotate_left
   ·(go_simp; first | done | with_reducible rfl)
   try simp only [Act.put, sqA, sqZ, sqS]
   refine tkW (i := 9) (oi := _) (v := ?_) rfl (Or.inl ⟨by rfl, fun w _ => ?_⟩) ?_
   rotate_left
   ·(go_simp; first | done | with_reducible rfl)
   try simp only [Act.put, sqA, sqZ, sqS]
   refine tkW (i := 10) (oi := _) (v := ?_) rfl (Or.inl ⟨by rfl, fun w _ => ?_⟩) ?_
   rotate_left
   ·(go_simp; first | done | with_reducible rfl)
   try simp only [Act.put, sqA, sqZ, sqS]
   refine ldW (i := 11) (oi := _) (v := ?_) rfl (Or.inl ⟨by rfl, fun w hS => ?_⟩) (HS.out _ (Bw.drew (Bw.refl _))) ?_
   rotate_left
   ·(obtain ⟨s1, s2⟩ := hS; go_simp; first | done | with_reducible rfl)
   try simp only [Act.put, sqA, sqZ, sqS]
   refine tkW (i := 12) (oi := _) (v := ?_) rfl (Or.inl ⟨by rfl, fun w _ => ?_⟩) ?_
   rotate_left
   ·(go_simp; first | done | with_reducible rfl)
   try simp only [Act.put, sqA, sqZ, sqS]
   have HTK := hid (fun (W : World) (hb : Bw w2 W) => take_any _ (R2.out.bw hb) i z.fn n kx zx HR.out)
   refine wpAnyW_ready (rs := [13]) (by kernel_rfl) (by simp) ?_
   refine (AllReadyW.cons (o := _) rfl (fun K hK => ?_) AllReadyW.nil)
   go_simp
   refine (HTK.out _ (Bw.drew (Bw.refl _))).mono ?_
   rintro e' w3 ⟨he', B3, hr3, hn3, hv3, hu3, hl3⟩
   subst he'
   have R3 := hid hr3
   have N3 := hid (show NX B.ρ w w3 B3.ρ from (N2.out.bw (Bw.drew (Bw.refl _))).trans hn3)
   have HU3 := hid (show B3.uv = .slice (some ⟨ub, 0, none⟩) X.L.length uc from hu3.trans HUE.out)
   have S3 := hid (show w3.cell? ⟨X.r, 6, none⟩ = some (.slice (some ⟨ub, 0, none⟩) X.L.length uc) ∧ w3.cell? ⟨X.r, 1, none⟩ = some (.int .i64 z.fn) from ⟨by have := R3.out.blk.cell 6; rw [this]; exact congrArg some HU3.out, by have := R3.out.blk.cell 1; rw [this]; show some (Value.int .i64 (zx.fn : Nat)) = _; rw [HFNX.out]⟩)
   clear hr3 hn3 hv3 hu3 hl3
   obtain ⟨u3, x6, x0, x1, xl, xf, xn⟩ := R3.out.us2 HI.out HU3.out
   have E3 := hid (R3.out.use HI.out HU3.out 3 kx)
   refine hK.out _ _ S3.out ?_
   clear hK K
   try simp only [Act.put, sqA, sqZ, sqS]
   refine tkW (i := 14) (oi := _) (v := ?_) rfl (Or.inl ⟨by rfl, fun w _ => ?_⟩) ?_
   rotate_left
   ·(go_simp; first | done | with_reducible rfl)
   try simp only [Act.put, sqA, sqZ, sqS]
   refine tkW (i := 15) (oi := _) (v := ?_) rfl (Or.inl ⟨by rfl, fun w _ => ?_⟩) ?_
   rotate_left
   ·(go_simp; first | done | with_reducible rfl)
   try simp only [Act.put, sqA, sqZ, sqS]
   refine wpAnyW_ready (rs := [16]) (by kernel_rfl) (by simp) ?_
   refine (AllReadyW.cons (o := _) rfl (fun K hK => ?_) AllReadyW.nil)
   go_simp
   refine hK.out _ _ trivial ?_
   clear hK K
   try simp only [Act.put, sqA, sqZ, sqS]
   refine wpAnyW_done (by kernel_rfl) ?_ _
   go_wp2
   all_goals go_end0
   all_goals exact ⟨rfl, B3, E3.out.1, N3.out.trans E3.out.2⟩
end
end Go.Proofs.YtdhkcdehedbpcaaDoor

namespace Go.Proofs.YtdhkcdehedbpcaaDoor
open Go Go.RowKit
section
variable {w : World} {X : ZX} {z : ZS} {B : ZB}

set_option maxRecDepth 100000 in
set_option maxHeartbeats 4000000 in
theorem name_any (h : RS w X z B) (i : Nat) (hi : i < X.L.length) (z' : ZS) (hz : zname X.L X.A z i = some z') : Calls Tryd.prog 96 #[.pointer (some ⟨X.r, 0, none⟩), .int .i64 i] w fun e' w' => e' = .returned (.tuple #[]) ∧ Zp w X B z' w' := by
 unfold zname at hz
 obtain ⟨ub, uc, u, hu1, hue, c6, u0, u1, hul, huf, huρ, hune⟩ := h.us hi
 obtain ⟨ct, htm⟩ := h.x.nc.1.text hi
 have cn : w.cell? ⟨X.r, 3, none⟩ = some (.slice (some ⟨X.g, X.o, none⟩) X.L.length X.cap) := h.blk.cell 3
 have c8 : w.cell? ⟨X.r, 8, none⟩ = some (.map (some X.ab)) := h.blk.cell 8
 have c10 : w.cell? ⟨X.r, 10, none⟩ = some (.map (some B.sb)) := h.blk.cell 10
 have hf := h.blk.free
 have hl := h.blk.lt
 have gl := h.x.nc.1.lt
 have hi2 : (i : Int) < (X.L.length : Int) := by omega
 have lks := ((h.x.seen (by decide)).1).look htm
 have lka := h.x.ah.1.look htm
 have H := hid h
 have HP := hid h.x.pr.1
 have HUE := hid hue
 have HI := hid hi
 generalize zT X.L i = t at ct lks lka hz
 cases hs : z.seen t with
 | some d =>
  rw [hs] at hz lks
  simp only [Option.isSome_some, Option.getD_some] at hz lks
  have HZ := hid hz
  clear h hu1 hue huρ hune htm hs hz lka c8 u0 u1 hul huf hi
  go_enter Tryd.func96, Tryd.ntmps96
  go_wp2_with (first
   | (go_at_call 100; refine (meansSlot_any H.out i HI.out d z' HZ.out).mono ?_; rintro e w1 ⟨rfl, hr⟩; have R := hid hr; clear hr)
   | fail)
  all_goals refine bodyPost_ret (v := .tuple #[]) (by simp [results, Tryd.results96, go_sem]) rfl ?_
  all_goals exact ⟨rfl, R.out⟩
 | none =>
  rw [hs] at hz lks
  simp only [Option.isSome_none, Option.getD_none] at hz lks
  cases ha : X.A t with
  | some n =>
   rw [ha] at hz lka
   simp only [Option.isSome_some, Option.getD_some] at hz lka
   cases hz
   have E := hid (h.use hi hue 4 n)
   clear h hu1 hue huρ htm hs ha hi
   go_enter Tryd.func96, Tryd.ntmps96
   go_wp2
   all_goals refine bodyPost_ret (v := .tuple #[]) (by simp [results, Tryd.results96, go_sem]) rfl ?_
   all_goals exact ⟨rfl, Zp.self E.out.1 E.out.2⟩
  | none =>
   rw [ha] at hz lka
   simp only [Option.isSome_none, Option.getD_none] at hz lka
   cases hp : primF t with
   | some n =>
    rw [hp] at hz
    cases hz
    have HPR := hid (show Calls Tryd.prog 19 #[.string t] w fun e w' => e = .returned (.tuple #[.int .i64 (n : Nat), .bool true]) ∧ Bw w w' from by have := prim_any HP.out t; rw [hp] at this; exact this)
    clear h hu1 hue huρ htm hs ha hp hi u0 u1 huf hul hune
    go_enter Tryd.func96, Tryd.ntmps96
    go_wp2_with (first
     | (go_at_call 19; refine HPR.out.mono ?_; rintro e w1 ⟨rfl, hb⟩; have R1 := H.out.bw hb; have N1 := hid (NX.of_bw B.ρ hb); (obtain ⟨ux, y6, y0, y1, yl, yf, yn⟩ := R1.us2 HI.out HUE.out); have E := hid (R1.use HI.out HUE.out 5 n); have yxl := R1.blk.lt; clear hb R1)
     | fail)
    all_goals refine bodyPost_ret (v := .tuple #[]) (by simp [results, Tryd.results96, go_sem]) rfl ?_
    all_goals exact ⟨rfl, Zp.self E.out.1 (N1.out.trans E.out.2)⟩
   | none =>
    rw [hp] at hz
    cases hz
    have HPR := hid (show Calls Tryd.prog 19 #[.string t] w fun e w' => e = .returned (.tuple #[.int .i64 (0 : Nat), .bool false]) ∧ Bw w w' from by have := prim_any HP.out t; rw [hp] at this; exact this)
    clear h hu1 hue huρ htm hs ha hp hi u0 u1 huf hul hune
    go_enter Tryd.func96, Tryd.ntmps96
    go_wp2_with (first
     | (go_at_call 19; refine HPR.out.mono ?_; rintro e w1 ⟨rfl, hb⟩; have R1 := hid (H.out.bw hb); have N1 := hid (NX.of_bw B.ρ hb); clear hb)
     | (go_at_call 94; refine (fail_any R1.out i 4).mono ?_; rintro e w2 ⟨rfl, hr, hn⟩; have R := hid hr; have N := hid hn; clear hr hn)
     | fail)
    all_goals go_end0
    all_goals exact ⟨rfl, Zp.self R.out (N1.out.trans N.out)⟩

set_option maxRecDepth 100000 in
set_option maxHeartbeats 4000000 in
theorem set_any (h : RS w X z B) (i : Nat) (z' : ZS) (hz : zset X.L z i = some z') : Calls Tryd.prog 95 #[.pointer (some ⟨X.r, 0, none⟩), .int .i64 i] w fun e' w' => e' = .returned (.tuple #[]) ∧ Zp w X B z' w' := by
 unfold zset at hz
 by_cases hi : i + 1 < X.L.length
 case neg => rw [if_neg hi] at hz; cases hz
 rw [if_pos hi] at hz
 obtain ⟨ct, htm⟩ := h.x.nc.1.text hi
 have ck := h.x.nc.1.kind hi
 have c1 := h.x.nc.1.cnt hi
 have c3 := h.x.nc.1.num hi
 have c4 : ∃ a, w.cell? ⟨X.g, X.o + (i + 1) * 5 + 4, none⟩ = some (.int .i64 a) := ⟨_, h.x.nc.1.c (i + 1) hi 4 (by omega)⟩
 obtain ⟨a4, c4⟩ := c4
 have cn : w.cell? ⟨X.r, 3, none⟩ = some (.slice (some ⟨X.g, X.o, none⟩) X.L.length X.cap) := h.blk.cell 3
 have gl := h.x.nc.1.lt
 have hl := h.blk.lt
 have hw1 : IntKind.i64.wrap ((i : Int) + 1) = ((i + 1 : Nat) : Int) := by have := h.x.ll; rw [IntKind.wrap_i64]; omega
 have hi2 : ((i + 1 : Nat) : Int) < (X.L.length : Int) := by omega
 have H := hid h
 have HP := hid h.x.pr.1
 generalize i + 1 = j at *
 generalize zT X.L j = t at ct hz
 generalize (zN X.L j).1 = kd at ck hz
 generalize (zN X.L j).2.1 = k1 at c1
 generalize (zN X.L j).2.2.2.1 = k3 at c3
 have A0 := hid (h.bw (Bw.alloc (Bw.refl w) (.cells #[.int .i64 kd, .int .i64 k1, .string t, .int .i64 k3, .int .i64 a4] 43)))
 have N0 := hid (NX.of_bw B.ρ (Bw.alloc (Bw.refl w) (.cells #[.int .i64 kd, .int .i64 k1, .string t, .int .i64 k3, .int .i64 a4] 43)))
 clear h htm
 by_cases h19 : kd = 19
 ·have e1 : (kd != 19) = false := by simp [h19]
  cases hp : primF t with
  | some n =>
   rw [if_pos ⟨h19, by rw [hp]; rfl⟩] at hz
   cases hz
   have HPR := hid (show Calls Tryd.prog 19 #[.string t] (w.alloc (.cells #[.int .i64 kd, .int .i64 k1, .string t, .int .i64 k3, .int .i64 a4] 43)) fun e w' => e = .returned (.tuple #[.int .i64 (n : Nat), .bool true]) ∧ Bw (w.alloc (.cells #[.int .i64 kd, .int .i64 k1, .string t, .int .i64 k3, .int .i64 a4] 43)) w' from by have := prim_any (A0.out.x.pr.1) t; rw [hp] at this; exact this)
   clear hp h19 hi
   go_enter Tryd.func95, Tryd.ntmps95
   go_wp2_with (first
    | (go_at_call 19; refine HPR.out.mono ?_; rintro e w1 ⟨rfl, hb⟩; have R1 := hid (A0.out.bw hb); have N1 := hid (N0.out.bw hb); clear hb)
    | (go_at_call 94; refine (fail_any R1.out i 8).mono ?_; rintro e w2 ⟨rfl, hr, hn⟩; have R := hid hr; have N := hid hn; clear hr hn)
    | fail)
   all_goals go_end0
   all_goals exact ⟨rfl, Zp.self R.out (N1.out.trans N.out)⟩
  | none =>
   rw [if_neg (fun k => by rw [hp] at k; exact absurd k.2 (by simp))] at hz
   cases hz
   have HPR := hid (show Calls Tryd.prog 19 #[.string t] (w.alloc (.cells #[.int .i64 kd, .int .i64 k1, .string t, .int .i64 k3, .int .i64 a4] 43)) fun e w' => e = .returned (.tuple #[.int .i64 (0 : Nat), .bool false]) ∧ Bw (w.alloc (.cells #[.int .i64 kd, .int .i64 k1, .string t, .int .i64 k3, .int .i64 a4] 43)) w' from by have := prim_any (A0.out.x.pr.1) t; rw [hp] at this; exact this)
   clear hp h19 hi
   go_enter Tryd.func95, Tryd.ntmps95
   go_wp2_with (first
    | (go_at_call 19; refine HPR.out.mono ?_; rintro e w1 ⟨rfl, hb⟩; have R1 := hid (A0.out.bw hb); have N1 := hid (N0.out.bw hb); clear hb)
    | fail)
   all_goals go_end0
   all_goals exact ⟨rfl, Zp.self R1.out N1.out⟩
 ·rw [if_neg (fun k => h19 k.1)] at hz
  cases hz
  have e1 : (kd != 19) = true := by simpa using h19
  clear h19 hi
  go_enter Tryd.func95, Tryd.ntmps95
  go_wp2
  all_goals refine bodyPost_ret (v := .tuple #[]) (by simp [results, Tryd.results95, go_sem]) rfl ?_
  all_goals exact ⟨rfl, Zp.self A0.out N0.out⟩

theorem map_nil (w : World) : (binOp BinOp.eql 77 (.map none) (.map none)).run Tryd.prog w = .ok (.bool true) w := by kernel_rfl
theorem map_some (b : Nat) (w : World) : (binOp BinOp.eql 77 (.map (some b)) (.map none)).run Tryd.prog w = .ok (.bool false) w := by kernel_rfl

set_option maxRecDepth 100000 in
set_option maxHeartbeats 4000000 in
theorem declare_any (h : RS w X z B) (i : Nat) (z' : ZS) (hz : zdeclare X.L X.A z i = some z') : Calls Tryd.prog 92 #[.pointer (some ⟨X.r, 0, none⟩), .int .i64 i] w fun e' w' => e' = .returned (.tuple #[]) ∧ Zp w X B z' w' := by
 unfold zdeclare at hz
 by_cases hi : i < X.L.length
 case neg => rw [if_neg hi] at hz; cases hz
 rw [if_pos hi] at hz
 obtain ⟨ct, htm⟩ := h.x.nc.1.text hi
 have cn : w.cell? ⟨X.r, 3, none⟩ = some (.slice (some ⟨X.g, X.o, none⟩) X.L.length X.cap) := h.blk.cell 3
 have gl := h.x.nc.1.lt
 have hl := h.blk.lt
 have hi2 : (i : Int) < (X.L.length : Int) := by omega
 have H := hid h
 have HI := hid hi
 have HP := hid h.x.pr.1
 have bn1 := map_nil
 have bn2 := map_some
 cases hp : primF (zT X.L i) with
 | some n =>
  rw [hp] at hz
  simp only [Option.isSome_some, if_true] at hz
  cases hz
  have HPR := hid (show Calls Tryd.prog 19 #[.string (zT X.L i)] w fun e w' => e = .returned (.tuple #[.int .i64 (n : Nat), .bool true]) ∧ Bw w w' from by have := prim_any HP.out (zT X.L i); rw [hp] at this; exact this)
  generalize zT X.L i = t at ct HPR
  clear h hp htm hi
  go_enter Tryd.func92, Tryd.ntmps92
  go_wp2_with (first
   | (go_at_call 19; refine HPR.out.mono ?_; rintro e w1 ⟨rfl, hb⟩; have R1 := hid (H.out.bw hb); have N1 := hid (NX.of_bw B.ρ hb); clear hb)
   | (go_at_call 94; refine (fail_any R1.out i 8).mono ?_; rintro e w2 ⟨rfl, hr, hn⟩; have R := hid hr; have N := hid hn; clear hr hn)
   | fail)
  all_goals refine bodyPost_ret (v := .tuple #[]) (by simp [results, Tryd.results92, go_sem]) rfl ?_
  all_goals exact ⟨rfl, Zp.self R.out (N1.out.trans N.out)⟩
 | none =>
  rw [hp] at hz
  simp only [Option.isSome_none, Bool.false_eq_true, if_false] at hz
  have HPR := hid (show Calls Tryd.prog 19 #[.string (zT X.L i)] w fun e w' => e = .returned (.tuple #[.int .i64 (0 : Nat), .bool false]) ∧ Bw w w' from by have := prim_any HP.out (zT X.L i); rw [hp] at this; exact this)
  cases hnm : z.names with
  | none =>
   rw [hnm] at hz
   cases hz
   have HNM := hid hnm
   have HG := hid (fun (W : World) (hb : Bw w W) => declareGlobal_any (h.bw hb) i hi)
   generalize zglobal X.L X.A z i = zz at HG ⊢
   generalize zT X.L i = t at ct HPR
   clear h hp htm hi hnm
   go_enter Tryd.func92, Tryd.ntmps92
   go_wp2_with (first
    | (go_at_call 19; refine HPR.out.mono ?_; rintro e w1 ⟨rfl, hb⟩; have R1 := H.out.bw hb; have HB := hid hb; have q0 : w1.cell? ⟨X.r, 0, none⟩ = some (.map none) := (by have := R1.blk.cell 0; rw [this]; show some (Value.map (nmO z.names B.nb)) = _; rw [HNM.out]; rfl); have ql := R1.blk.lt; clear hb R1)
    | (go_at_call 98; refine (HG.out _ HB.out).mono ?_; rintro e w2 ⟨rfl, hr⟩; have R := hid hr; clear hr)
    | fail)
   all_goals go_end0
   all_goals obtain ⟨B', r1, r2⟩ := R.out
   all_goals exact ⟨rfl, B', r1, (NX.of_bw B.ρ HB.out).trans r2⟩
  | some m =>
   rw [hnm] at hz
   simp only at hz
   have HNM := hid hnm
   have HG := hid (fun (W : World) (hb : Bw w W) => declareSlot_any (h.bw hb) i hi m hnm z' hz)
   generalize zT X.L i = t at ct HPR
   clear h hp htm hi hnm hz
   go_enter Tryd.func92, Tryd.ntmps92
   go_wp2_with (first
    | (go_at_call 19; refine HPR.out.mono ?_; rintro e w1 ⟨rfl, hb⟩; have R1 := H.out.bw hb; have HB := hid hb; have q0 : w1.cell? ⟨X.r, 0, none⟩ = some (.map (some B.nb)) := (by have := R1.blk.cell 0; rw [this]; show some (Value.map (nmO z.names B.nb)) = _; rw [HNM.out]; rfl); have ql := R1.blk.lt; clear hb R1)
    | (go_at_call 99; refine (HG.out _ HB.out).mono ?_; rintro e w2 ⟨rfl, hr⟩; have R := hid hr; clear hr)
    | fail)
   all_goals go_end0
   all_goals obtain ⟨B', r1, r2⟩ := R.out
   all_goals exact ⟨rfl, B', r1, (NX.of_bw B.ρ HB.out).trans r2⟩

end
end Go.Proofs.YtdhkcdehedbpcaaDoor

