/- ScopeNames: with other names that are unlike, the same Scope comes, but for the globals' names. -/
import Derived.Test.YtdhkcdehedbpcaaDoorM42
import Derived.Test.YtdhkcdehedbpcaaDoorM7
set_option linter.unusedVariables false
set_option linter.unusedSimpArgs false
namespace Go.Proofs.YtdhkcdehedbpcaaDoor.scopeNames
open Go.ChangeShapes Go.WideShapes Go.ChangeAt Go.RowKit

set_option maxRecDepth 100000 in
set_option maxHeartbeats 16000000 in
theorem walk (a0 : Option Addr) (c0 : Nat) (l0 : List ANode) (m0 : l0.length ≤ maxLen) (cap0 : l0.length ≤ c0) (non0 : a0 = none → c0 = 0) (siz0 : ∀ n ∈ l0, n.2.2.1.length ≤ 140737488351232) (w : World) (hs : PrM w) (hsh : Sh w) (w0 : NA w a0 l0) :
  Calls Tryd.prog 4 #[.slice a0 l0.length c0] w fun e w' => e = .returned (.bool true) ∧ Bw w w' := by
 have HS := hid hs
 have HSH := hid hsh
 by_cases hbig : l0.length ≤ 400
 case neg =>
  have hb : ((l0.length : Nat) : Int) > 400 := by omega
  clear hs hsh w0 m0 hbig cap0 non0 siz0
  go_enter Tryd.func4, Tryd.ntmps4
  go_wp2_with (first
   | (go_at_call 8; refine (live_any _ HSH.out HS.out).mono ?_; rintro e wl ⟨rfl, hbl⟩; have BL := hid hbl; clear hbl)
   | fail)
  all_goals go_ret
  all_goals exact ⟨rfl, BL.out⟩
 have hb : ¬ ((l0.length : Nat) : Int) > 400 := by omega
 have W0 := hid w0
 have HRN := hid (renamed_any a0 c0 l0 (by omega) cap0 non0 siz0 w w0)
 have HOK := hid (na_ok w0)
 have SIZ := hid siz0
 have HL4 := hid hbig
 have HNL := hid (rnL_len (L := l0))
 clear hs hsh w0 m0 hbig cap0 non0 siz0
 go_enter Tryd.func4, Tryd.ntmps4
 go_upto_region 4 with (first
  | (go_at_call 14; refine HRN.out.mono ?_; rintro e w1 ⟨am, cm, rfl, ho, hb1⟩; have MA := hid (rn_na ho HOK.out SIZ.out); have B1 := hid hb1; clear ho hb1)
  | fail)
 go_wp2
 go_loopw [4] (fun v4 wr => ∃ i : Nat, v4 = .int .i64 (i : Int) ∧ i ≤ l0.length ∧ Bw w1 wr) (fun v4 _ => l0.length - (intOf v4).toNat)
 case atStart => exact ⟨0, rfl, Nat.zero_le _, Bw.refl _⟩
 case round =>
  obtain ⟨i, rfl, hi, hbw⟩ := hrel
  have HB := hid hbw
  by_cases hlt : i < l0.length
  ·have hlt' : (i : Int) < (l0.length : Int) := by omega
   obtain ⟨gm, om, e1, hm1, hmc, _⟩ := MA.out i (by rw [HNL.out]; exact hlt)
   subst e1
   obtain ⟨g, o, e2, hg1, hgc, _⟩ := W0.out i hlt
   subst e2
   have x2 : wr.cell? ⟨gm, om + i * 5 + 2, none⟩ = some (.string (zT (rnL l0) i)) := by
    have h1 := hmc 2 (by omega)
    rw [← Nat.add_assoc] at h1
    rw [World.cell?_of_block (w := w1) (w' := wr) (a := ⟨gm, om + i * 5 + 2, none⟩) (hbw.block gm hm1), h1, zN_get (by rw [HNL.out]; exact hlt)]; rfl
   have y2 : wr.cell? ⟨g, o + i * 5 + 2, none⟩ = some (.string (zT l0 i)) := by
    have h1 := hgc 2 (by omega)
    rw [← Nat.add_assoc] at h1
    rw [World.cell?_of_block (w := w) (w' := wr) (a := ⟨g, o + i * 5 + 2, none⟩) ((B1.out.trans hbw).block g hg1), h1, zN_get hlt]; rfl
   have xl : gm < wr.heap.size := Nat.lt_of_lt_of_le hm1 hbw.size
   have yl : g < wr.heap.size := Nat.lt_of_lt_of_le hg1 (B1.out.trans hbw).size
   have HG := hid (And.intro hg1 hgc)
   have hi0 : (0 : Int) ≤ (i : Int) := by omega
   have hw2 : IntKind.i64.wrap ((i : Int) + 1) = ((i + 1 : Nat) : Int) := by have := HL4.out; rw [IntKind.wrap_i64]; omega
   have HPR := hid (fun (W : World) (s : ByteArray) => rPrim_any W s)
   have hpp := rn_prims (L := l0) i
   generalize hp1 : primN (zT (rnL l0) i) = p1 at hpp
   generalize hp2 : primN (zT l0 i) = p2 at hpp
   have HP1 := hid hp1
   have HP2 := hid hp2
   generalize zT (rnL l0) i = s1 at x2 HP1
   generalize zT l0 i = s2 at y2 HP2
   clear hp1 hp2 hbw hmc hgc
   rcases hpp with hpp | ⟨hpp, hpe⟩
   ·have hq : ¬ p1 ≥ 0 := by omega
    clear hpp
    go_wp2_with (first
     | (go_at_call 15; refine (HPR.out _ s1).mono ?_; rw [HP1.out]; rintro e w3 ⟨rfl, hb3⟩; have B3 := hid hb3; clear hb3)
     | fail)
    case roundEnd => exact ⟨⟨i + 1, by go_num, by omega, HB.out.trans B3.out⟩, by simp [intOf]; omega⟩
   ·subst hpe
    have hq : p2 ≥ 0 := by omega
    have hq2 : ¬ p2 < 0 := by omega
    clear hpp
    go_wp2_with (first
     | (go_at_call 15; (fail_if_success (have _g := B3)); refine (HPR.out _ s1).mono ?_; rw [HP1.out]; rintro e w3 ⟨rfl, hb3⟩; have B3 := hid hb3; have y3 : w3.cell? ⟨g, o + i * 5 + 2, none⟩ = some (.string s2) := (World.cell?_of_block (w := wr) (w' := w3) (a := ⟨g, o + i * 5 + 2, none⟩) (hb3.block g yl)).trans y2; have yl3 : g < w3.heap.size := Nat.lt_of_lt_of_le yl hb3.size; clear hb3)
     | (go_at_call 15; have _g := B3; clear _g; refine (HPR.out _ s2).mono ?_; rw [HP2.out]; rintro e w4 ⟨rfl, hb4⟩; have B4 := hid (B3.out.trans hb4); clear hb4)
     | fail)
    case roundEnd => exact ⟨⟨i + 1, by go_num, by omega, HB.out.trans B4.out⟩, by simp [intOf]; omega⟩
  ·have hlt' : ¬ (i : Int) < (l0.length : Int) := by omega
   have H0 := hid (B1.out.trans hbw)
   have MW := hid (MA.out.bw hbw)
   have LW := hid (W0.out.bw (B1.out.trans hbw))
   have PW := hid (HS.out.bw (B1.out.trans hbw))
   have SW := hid (HSH.out.bw (B1.out.trans hbw))
   have hrl := HNL.out
   have HCK := hid (fun (W : World) (hb : Bw wr W) => dcheck_any (LW.out.bw hb) (by have := HL4.out; omega) c0)
   have HCM := hid (fun (W : World) (hb : Bw wr W) => (show Calls Tryd.prog 16 #[.slice am l0.length cm] W fun e w' => ∃ x : Int, e = .returned (.tuple #[.int .i64 x, .int .i64 (ckE (rnL l0))]) ∧ Bw W w' from by
    have h1 := dcheck_any (MW.out.bw hb) (by rw [hrl]; have := HL4.out; omega) cm
    rw [hrl] at h1
    exact h1))
   clear hbw hrl
   by_cases hck : ckE l0 = 0 ∧ ckE (rnL l0) = 0
   case neg =>
    have HR1 := hid (fun (W : World) (hb : Bw wr W) => resolve_some (LW.out.bw hb) (by have := HL4.out; omega) c0 (SW.out.bw hb) (PW.out.bw hb))
    have HR2 := hid (fun (W : World) (hb : Bw wr W) => (show Calls Tryd.prog 10 #[.slice am l0.length cm] W fun e w' => ∃ (fa ua ga : Option Addr) (nf fc nu uc ng gc : Nat) (er pl : Int), e = .returned (.tuple #[.agg #[.slice fa nf fc, .slice ua nu uc, .slice ga ng gc], .int .i64 er, .int .i64 pl]) ∧ Bw W w' from by
     have h1 := resolve_some (MW.out.bw hb) (by rw [HNL.out]; have := HL4.out; omega) cm (SW.out.bw hb) (PW.out.bw hb)
     rw [HNL.out] at h1
     exact h1))
    have hc : (ckE l0 != 0) = true ∨ ((ckE l0 != 0) = false ∧ (ckE (rnL l0) != 0) = true) := by
     by_cases h1 : ckE l0 = 0
     ·exact .inr ⟨by simp [h1], by simpa using fun h2 => hck ⟨h1, h2⟩⟩
     ·exact .inl (by simpa using h1)
    generalize ckE l0 = k1 at HCK hc hck
    generalize ckE (rnL l0) = k2 at HCM hc hck
    clear hck
    rcases hc with d1 | ⟨d1, d2⟩
    all_goals
     go_wp2_with (first
      | (go_at_call 10; (fail_if_success (have _g := R1)); refine (HR1.out _ (Bw.refl _)).mono ?_; rintro e w5 ⟨fa, ua, ga, nf, fc, nu, uc, ng, gc, er, pl, rfl, hb5⟩; have R1 := hid (Bw.alloc hb5 (.cells #[.slice fa nf fc, .slice ua nu uc, .slice ga ng gc] 31)); clear hb5)
      | (go_at_call 10; have _g := R1; clear _g; refine (HR2.out _ R1.out).mono ?_; rintro e w6 ⟨fb, ub, gb, nf', fd, nu', ud, ng', gd, er', pl', rfl, hb6⟩; have R2 := hid (Bw.alloc (R1.out.trans hb6) (.cells #[.slice fb nf' fd, .slice ub nu' ud, .slice gb ng' gd] 31)); clear hb6)
      | (go_at_call 16; (fail_if_success (have _g := R3)); refine (HCK.out _ R2.out).mono ?_; rintro e w7 ⟨x7, rfl, hb7⟩; have R3 := hid (R2.out.trans hb7); clear hb7)
      | (go_at_call 16; have _g := R3; clear _g; refine (HCM.out _ R3.out).mono ?_; rintro e w8 ⟨x8, rfl, hb8⟩; have R4 := hid (R3.out.trans hb8); clear hb8)
      | (go_at_call 8; refine (live_any _ (SW.out.bw R4.out) (PW.out.bw R4.out)).mono ?_; rintro e wl ⟨rfl, hbl⟩; have BL := hid (H0.out.trans (R4.out.trans hbl)); clear hbl)
      | fail)
     all_goals go_ret
     all_goals exact ⟨rfl, BL.out⟩
   obtain ⟨ck1, ck2⟩ := hck
   rw [ck1] at HCK
   rw [ck2] at HCM
   have hle : l0.length ≤ 1000 := by have := HL4.out; omega
   have RR := hid (rn_sc hle ck1 ck2 SIZ.out)
   have hgl : (rsS (rnL l0)).globals.length = (rsS l0).globals.length := by rw [RR.out.gl, List.length_map]
   have HR1 := hid (fun (W : World) (hb : Bw wr W) => resolve_sc (LW.out.bw hb) hle c0 (SW.out.bw hb) (PW.out.bw hb))
   have HR2 := hid (fun (W : World) (hb : Bw wr W) => (show Calls Tryd.prog 10 #[.slice am l0.length cm] W fun e w' => ∃ (fa ua ga : Option Addr) (fc uc gc : Nat), e = .returned (.tuple #[.agg #[.slice fa (rsS l0).funs.length fc, .slice ua (rsS l0).uses.length uc, .slice ga (rsS l0).globals.length gc], .int .i64 (rsE l0), .int .i64 (rsP l0)]) ∧ ScM w' (.slice fa (rsS l0).funs.length fc) (.slice ua (rsS l0).uses.length uc) (.slice ga (rsS l0).globals.length gc) (rsS (rnL l0)) ∧ Bw W w' from by
    have h1 := resolve_sc (MW.out.bw hb) (by rw [HNL.out]; exact hle) cm (SW.out.bw hb) (PW.out.bw hb)
    rw [HNL.out, RR.out.e, RR.out.p, hgl, RR.out.fu, RR.out.us] at h1
    exact h1))
   obtain ⟨-, -, hfu, hus, hde, hgl2, hgz, hfl, hul, hgn⟩ := RR.out
   clear RR hgl ck1 ck2
   generalize rsS (rnL l0) = z2 at HR2 hfu hus hde hgl2
   generalize rsS l0 = z1 at HR1 HR2 hfu hus hde hgl2 hgz hfl hul hgn
   generalize rsE l0 = er at HR1 HR2
   generalize rsP l0 = pl at HR1 HR2
   have ZF := hid (And.intro hfu (And.intro hus hde))
   have ZG := hid hgl2
   have ZS := hid hgz
   have ZN := hid (And.intro hfl hul)
   have ZNG := hid hgn
   clear hfu hus hde hgl2 hgz hfl hul hgn hle
   go_upto_region 17 with (first
    | (go_at_call 10; (fail_if_success (have _g := R1)); refine (HR1.out _ (Bw.refl _)).mono ?_; rintro e w5 ⟨fa, ua, ga, fc, uc, gc, rfl, hs5, hb5⟩; have R5 := hid hb5.size; have R1 := hid (Bw.alloc hb5 (.cells #[.slice fa z1.funs.length fc, .slice ua z1.uses.length uc, .slice ga z1.globals.length gc] 31)); have S1 := hid (hs5.bw (Bw.alloc (Bw.refl _) (.cells #[.slice fa z1.funs.length fc, .slice ua z1.uses.length uc, .slice ga z1.globals.length gc] 31))); have P1 := hid (Blk.new w5 #[.slice fa z1.funs.length fc, .slice ua z1.uses.length uc, .slice ga z1.globals.length gc] 31); clear hs5 hb5)
    | (go_at_call 10; have _g := R1; clear _g; refine (HR2.out _ R1.out).mono ?_; rintro e w6 ⟨fb, ub, gb, fd, ud, gd, rfl, hs6, hb6⟩; have R2 := hid (Bw.alloc (R1.out.trans hb6) (.cells #[.slice fb z1.funs.length fd, .slice ub z1.uses.length ud, .slice gb z1.globals.length gd] 31)); have U1 := hid (S1.out.bw (Bw.alloc hb6 (.cells #[.slice fb z1.funs.length fd, .slice ub z1.uses.length ud, .slice gb z1.globals.length gd] 31))); have U2 := hid (hs6.bw (Bw.alloc (Bw.refl _) (.cells #[.slice fb z1.funs.length fd, .slice ub z1.uses.length ud, .slice gb z1.globals.length gd] 31))); have Q1 := hid (P1.out.bw (Bw.alloc hb6 (.cells #[.slice fb z1.funs.length fd, .slice ub z1.uses.length ud, .slice gb z1.globals.length gd] 31))); have Q2 := hid (Blk.new w6 #[.slice fb z1.funs.length fd, .slice ub z1.uses.length ud, .slice gb z1.globals.length gd] 31); have HNE := hid (Nat.lt_of_lt_of_le P1.out.lt hb6.size); clear hs6 hb6)
    | (go_at_call 16; (fail_if_success (have _g := R3)); refine (HCK.out _ R2.out).mono ?_; rintro e w7 ⟨x7, rfl, hb7⟩; have R3 := hid hb7; clear hb7)
    | (go_at_call 16; have _g := R3; clear _g; refine (HCM.out _ (R2.out.trans R3.out)).mono ?_; rintro e w8 ⟨x8, rfl, hb8⟩; have R4 := hid (R3.out.trans hb8); have p1 := (Q1.out.bw R4.out).cell; have p1f := (Q1.out.bw R4.out).free; have p2 := (Q2.out.bw R4.out).cell; have p2f := (Q2.out.bw R4.out).free; clear hb8)
    | (go_at_call 13; refine (num_any _ _).mono ?_; rintro e w' ⟨rfl, hw'⟩; subst w')
    | fail)
   go_wp2
   go_loopw [15] (fun v15 wt => ∃ i : Nat, v15 = .int .i64 (i : Int) ∧ i ≤ z1.globals.length ∧ Bw w8 wt) (fun v15 _ => z1.globals.length - (intOf v15).toNat)
   case atStart => exact ⟨0, rfl, Nat.zero_le _, Bw.refl _⟩
   case round =>
    clear p1 p1f p2 p2f
    obtain ⟨i, rfl, hi, hbw⟩ := hrel
    have HBT := hid hbw
    have YB := hid (R4.out.trans hbw)
    have p1 := (Q1.out.bw YB.out).cell
    have p1f := (Q1.out.bw YB.out).free
    have p1l := (Q1.out.bw YB.out).lt
    have p2 := (Q2.out.bw YB.out).cell
    have p2f := (Q2.out.bw YB.out).free
    have p2l := (Q2.out.bw YB.out).lt
    by_cases hlt : i < z1.globals.length
    ·have hlt' : (i : Int) < (z1.globals.length : Int) := by omega
     obtain ⟨s, hsi⟩ : ∃ s, z1.globals[i]? = some s := ⟨_, List.getElem?_eq_getElem hlt⟩
     obtain ⟨b1, e1, l1, g1⟩ := (U1.out.bw YB.out).glob rfl hsi
     obtain ⟨b2, e2, l2, g2⟩ := (U2.out.bw YB.out).glob (by rw [ZG.out, List.length_map]) (show z2.globals[i]? = some (s ++ q9) by rw [ZG.out, List.getElem?_map, hsi]; rfl)
     have hsz : s.size ≤ 140737488351232 := ZS.out s (List.mem_of_getElem? hsi)
     unfold q9 at g2
     subst e1 e2
     have hi0 : (0 : Int) ≤ (i : Int) := by omega
     have hw2 : IntKind.i64.wrap ((i : Int) + 1) = ((i + 1 : Nat) : Int) := by have := ZNG.out; rw [IntKind.wrap_i64]; omega
     clear hbw hsi
     go_upto_region 20 with fail
     go_quiet (fail)
     go_wp2
     case roundEnd =>
      exact ⟨⟨i + 1, by go_num, by omega, HBT.out.trans (by repeat (first | exact Bw.refl _ | apply Bw.drewN | apply Bw.drew))⟩, by simp [intOf]; omega⟩
    ·have hlt' : ¬ (i : Int) < (z1.globals.length : Int) := by omega
     have hne : w5.heap.size ≠ w6.heap.size := Nat.ne_of_lt HNE.out
     have D1 := (Q1.out.bw YB.out).set 2 (.slice none 0 0)
     have D2 := (Q2.out.bw YB.out).other (p := ⟨w5.heap.size, 2, none⟩) hne (.slice none 0 0)
     have E1 := D1.other (p := ⟨w6.heap.size, 2, none⟩) (fun k => hne k.symm) (.slice none 0 0)
     have E2 := D2.set 2 (.slice none 0 0)
     have SA := hid (((U1.out.bw YB.out).set (Q1.out.bw YB.out) 2 (.slice none 0 0)).set D2 2 (.slice none 0 0))
     have SB := hid (((U2.out.bw YB.out).set (Q1.out.bw YB.out) 2 (.slice none 0 0)).set D2 2 (.slice none 0 0))
     have hb5 := R5.out
     have hb6 := Nat.le_trans hb5 (Nat.le_of_lt HNE.out)
     have RZ := hid (Bw.setCell (Bw.setCell (R2.out.trans YB.out) (p := ⟨w5.heap.size, 2, none⟩) hb5 (.slice none 0 0)) (p := ⟨w6.heap.size, 2, none⟩) hb6 (.slice none 0 0))
     have d2 := D2.cell
     have d2f := D2.free
     have q1 := E1.cell
     have q1f := E1.free
     have q2 := E2.cell
     have q2f := E2.free
     have CAP := hid ((SA.out).caps rfl)
     clear hbw D1 D2 E1 E2 hb5 hb6
     go_wp2_with (first
      | (go_at_call 12; refine (same_yes SA.out SB.out rfl rfl ZF.out.1 ZF.out.2.1 ZF.out.2.2 ZN.out CAP.out).mono ?_; rintro e w9 ⟨rfl, hb9⟩; have R9 := hid (RZ.out.trans hb9); clear hb9)
      | (go_at_call 8; refine (live_any _ (SW.out.bw R9.out) (PW.out.bw R9.out)).mono ?_; rintro e wl ⟨rfl, hbl⟩; have BL := hid (H0.out.trans (R9.out.trans hbl)); clear hbl)
      | fail)
     all_goals go_ret
     all_goals exact ⟨rfl, BL.out⟩

set_option maxRecDepth 100000 in
theorem lifted (os : Os) (started : os.Started) (H : Type) (enc : TypeId × Value → H) :
  ReturnsInHanded {} Tryd.checked os 4 .any (fun w args => (Rows.scopeNamesSpec.pre enc Tryd.prog Tryd.f4 [] false w args ∧ laidMetH Tryd.prog laidS w) ∧ sizedMet enc Tryd.prog Tryd.f4 (OpenSpec.ofChange Rows.scopeNamesSpec) false w args)
   (Rows.scopeNamesSpec.post enc Tryd.prog Tryd.f4 false true false false) := by
 refine returnsInHanded_of_change_and (C := Tryd.checked) (X := fun w _ => laidMetH Tryd.prog laidS w) (fun _ _ _ hh h => h.of_heap hh) ownK started (by kernel_rfl) Tryd.func4
  (ChangeSpec.witness_shaped (enc := enc) (C := Tryd.checked) (os := os) (X := fun w _ => laidMetH Tryd.prog laidS w) false (World.doorLaid Tryd.prog 400 os) #[.slice none 0 0] 8 rfl (World.shaped_of_RefB (by kernel_rfl) (by kernel_rfl)) (by kernel_rfl) (by kernel_rfl) (by kernel_rfl) (door_met os _)) ?_
 intro W base args ds gs before hval0 hW _ hsz hL _
 have hval : ∀ (j : Nat) t v, Tryd.f4.params[j]? = some t → args[j]? = some v → Value.okWide Tryd.prog W .any base t v := hval0
 have hW' := hW
 obtain ⟨p, q, hA0, hV, rfl, hfz, hnd⟩ := hW
 have hA : DataW.TrodAll enc Tryd.prog W 0 (fun _ => true) true Tryd.f4.params.toList args.toList ds p := hA0
 rw [Tryd.params4] at hA hval hsz
 obtain ⟨v0, vs0, d0, ds0, p0, q0, hargs, rfl, rfl, h0, r0⟩ := trodAll_cons hA
 obtain ⟨rfl, rfl, rfl⟩ := trodAll_nil r0
 obtain rfl : args = #[v0] := by cases args; simp_all
 obtain ⟨rfl, rfl⟩ := trodVars_none hV
 have k0 := h0
 have lt0 : ∀ x ∈ p0, x.block < W.heap.size := by obtain ⟨m, hm⟩ := k0; exact DataW.trod_lt m _ _ _ hm
 obtain ⟨a0, c0, l0, e0, m0, w0, cap0, non0, siz0⟩ := open_nodesS (hval 0 24 v0 rfl rfl) h0 (fun n hn => by have h9 := List.all_eq_true.1 hsz n (DataW.weights_mem_each (j := 0) (t := 24) (d := d0) rfl rfl n hn); simpa using h9)
 subst e0
 have hs := pr_of_laid hL
 have hsh := sh_of_laid hL
 clear hA0 hval0
 refine (walk a0 c0 l0 m0 cap0 non0 siz0 W hs hsh w0).mono fun e W' ⟨he, bel⟩ => ?_
 subst he
 exact ⟨_, rfl, _, _, _, [], _, [], hW', trodAll_mk1 (shut_bool Tryd.underlying4 _), (trodAll_cons_mk (Below.trod laidOut (by kernel_rfl) (of_decide_eq_true (by kernel_rfl)) k0 bel lt0) trodAll_mk0), rfl, Below.frame bel _, fun h => by cases h⟩

theorem over : Rows.scopeNamesRow.holds Tryd.pinned (OpenSpec.ofChange Rows.scopeNamesSpec) :=
 OpenClaim.holds_of_wide 4 Tryd.f4 rfl rfl rfl rfl rfl rfl rfl ⟨rfl, rfl, rfl, rfl, rfl⟩ rfl rfl rfl rfl rfl (by kernel_rfl) Tryd.func4 (by kernel_rfl)
  (of_decide_eq_true (by kernel_rfl)) (by unfold Func.isWrapper; first | (rw [if_pos (by decide +kernel)]; kernel_rfl) | (rw [if_neg (by decide +kernel)]; exact ⟨rfl, rfl⟩))
  (fun os started H enc _ => lifted os started H enc)

theorem card : Rows.ScopeNamesCardSaid :=
 Claim7.holds_tied_plain_at .later [] [.data, .data] true (true, "0cfb825af0ef75d68b832270240ab74cc95abaa539c0ecafa2e0db27e37c33ba") false
  over (fun _ h => by cases h) (by kernel_rfl) (fun _ h => by cases h) scopeNames_row_tie rfl ⟨rfl, rfl⟩ (by kernel_rfl) rfl
  (fun f fn hf hfn => by
   obtain rfl : f = 4 := Option.some.inj ((show Tryd.prog.funcNamed "jacquard/jacquardlaw08.ScopeNames" = some 4 by kernel_rfl).symm.trans hf) |>.symm
   obtain rfl : fn = Tryd.f4 := (Option.some.inj (Tryd.func4.symm.trans hfn)).symm
   exact ⟨by kernel_rfl, fun j t ht => by
    rw [Tryd.params4] at ht
    have hm : t ∈ [24] := by have h9 := Array.mem_of_getElem? ht; simp at h9 ⊢; first | exact h9 | (rcases h9 with h9 | h9 <;> simp [h9]; done) | (rcases h9 with h9 | h9 | h9 <;> simp [h9]; done) | (rcases h9 with h9 | h9 | h9 | h9 <;> simp [h9]; done)
    have hall : ([24].all fun u => !Tryd.prog.wantsStandIn u) = true := by kernel_rfl
    exact (show Tryd.prog.wantsStandIn t = false by simpa using List.all_eq_true.1 hall t hm)⟩)
  (by kernel_rfl)
end Go.Proofs.YtdhkcdehedbpcaaDoor.scopeNames
namespace Go.Proofs.YtdhkcdehedbpcaaDoor
theorem scopeNames_holds : Rows.ScopeNamesCardSaid := scopeNames.card
#print axioms scopeNames_holds
end Go.Proofs.YtdhkcdehedbpcaaDoor

