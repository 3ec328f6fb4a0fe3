/- ScopeGlobals: the globals are the names that are declared right below the program, in order; there is a function for it, and for each Fn and Lambda. -/
import Derived.Test.YtdhkcdehedbpcaaDoorFz8
set_option linter.unusedVariables false
set_option linter.unusedSimpArgs false
namespace Go.Proofs.YtdhkcdehedbpcaaDoor.scopeGlobals
open Go.ChangeShapes Go.WideShapes Go.ChangeAt Go.RowKit

set_option maxRecDepth 100000 in
set_option maxHeartbeats 8000000 in
theorem walk (a0 : Option Addr) (c0 : Nat) (l0 : List ANode) (m0 : l0.length ≤ maxLen) (w : World) (hs : PrM w) (hsh : Sh w) (w0 : NA w a0 l0) :
    Calls Tryd.prog 7 #[.slice a0 l0.length c0] w fun e w' => e = .returned (.bool true) ∧ Bw w w' := by
  have HS := hid hs
  have HSH := hid hsh
  have W0 := hid w0
  have hm0 := m0
  by_cases hbig : l0.length ≤ 400
  case neg =>
    have hb : ((l0.length : Nat) : Int) > 400 := by omega
    clear hs hsh w0 m0 hm0 hbig
    go_enter Tryd.func7, Tryd.ntmps7
    go_wp2_with (first
      | (go_at_call 8; refine (live_any _ HSH.out HS.out).mono ?_; rintro e wl ⟨rfl, hbl⟩; have BL := hid hbl; clear hbl)
      | fail)
    all_goals go_ret
    all_goals exact ⟨rfl, BL.out⟩
  have hb : ¬ ((l0.length : Nat) : Int) > 400 := by omega
  by_cases he : rsE l0 = 0
  case neg =>
    have HR := hid (resolve_bad w0 (by omega) c0 hsh hs he)
    generalize rsE l0 = er at HR he
    generalize rsP l0 = pl at HR
    have e1 : (er != 0) = true := by simpa using he
    clear hs hsh w0 m0 hm0 hbig he
    go_enter Tryd.func7, Tryd.ntmps7
    go_wp2_with (first
      | (go_at_call 10; refine HR.out.mono ?_; rintro e w1 ⟨rfl, hb1⟩; have B1 := hid hb1; clear hb1)
      | (go_at_call 13; refine (num_any _ _).mono ?_; rintro e w' ⟨rfl, hw'⟩; subst w'; have B2 := hid (Bw.alloc B1.out (.cells #[.slice none 0 0, .slice none 0 0, .slice none 0 0] 31)))
      | (go_at_call 8; refine (live_any _ (HSH.out.bw B2.out) (HS.out.bw B2.out)).mono ?_; rintro e wl ⟨rfl, hbl⟩; have BL := hid (B2.out.trans hbl); clear hbl)
      | fail)
    all_goals go_ret
    all_goals exact ⟨rfl, BL.out⟩
  obtain ⟨R, hf, hc, h0⟩ := rs_in (by omega) he
  have HR := hid (resolve_ok w0 (by omega) c0 hsh hs he)
  obtain ⟨g, o, hga, hm⟩ := na_nc w0 h0
  subst hga
  obtain ⟨N, hN⟩ : ∃ N, rsN l0 = N := ⟨_, rfl⟩
  have hfo := R.fo
  have hn0 := R.n0
  have hgg := R.gg hf
  have hgu := R.gu hf
  have hsn := R.sn hf
  have hnl := R.nl
  have hk0 := R.k0
  rw [hN] at hfo hn0 hgg hgu hnl
  have HK := hid (fun (W : World) (hw : NC W g o l0) => kids_any g o c0 l0 (by omega) 0 N l0.length h0 _ (kidsA_len _ _ _) hfo hn0 W hw)
  have HNC := hid hm
  have hroot := rts_lt hfo
  rw [kidsA_len] at hroot
  have HNL := hid (And.intro hnl hbig)
  have HG := hid (And.intro hgg hgu)
  have HSN := hid (show skn (rsZ l0) = (0, 0) :: fnR l0 0 l0.length by rw [hsn, fnR_no (L := l0) (i := 0) (b := l0.length) (by unfold isF; rw [hk0]; decide) (by omega)])
  have HRT := hid hroot
  clear hs hsh w0 m0 hm0 hbig he R hf hc hm hfo hn0 hgg hgu hsn hnl hk0 hroot
  have hl0 : (0 : Int) < (l0.length : Int) := by omega
  go_enter Tryd.func7, Tryd.ntmps7
  go_upto_region 7 with (first
    | (go_at_call 10; refine HR.out.mono ?_; rintro e w1 ⟨vf, vu, vg, rfl, hsc, ⟨fa, fc, e1⟩, ⟨ua, uc, e2⟩, ⟨ga, gc, e3⟩, hul, hb1⟩; subst e1 e2 e3; have SC := hid hsc; have UL := hid hul; have B1 := hid hb1; clear hsc hul hb1)
    | (go_at_call 13; refine (num_any _ _).mono ?_; rintro e w' ⟨rfl, hw'⟩; subst w')
    | (go_at_call 18; refine (HK.out _ (HNC.out.bw (Bw.alloc B1.out _))).mono ?_; rintro e w2 ⟨r, rfl, hr, hb2⟩; obtain ⟨ka, kc, e4⟩ := own_form hr; subst e4; have B2 := hid (Bw.trans (Bw.alloc B1.out _) hb2); have B12 := hid hb2; have KR := hid hr; clear hr hb2)
    | fail)
  have FN := hid (fun (W : World) (hb : Bw w2 W) (i : Nat) (f : ZF) (hf : (rsZ l0).funs[i]? = some f) => (((SC.out.bw (Bw.alloc (Bw.refl _) (.cells #[.slice fa (rsZ l0).funs.length fc, .slice ua l0.length uc, .slice ga (rsZ l0).globals.length gc] 31))).bw B12.out).bw hb).fn rfl hf)
  have US := hid (fun (W : World) (hb : Bw w2 W) (i : Nat) (u : Int × Int) (hu : (rsZ l0).uses[i]? = some u) => (((SC.out.bw (Bw.alloc (Bw.refl _) (.cells #[.slice fa (rsZ l0).funs.length fc, .slice ua l0.length uc, .slice ga (rsZ l0).globals.length gc] 31))).bw B12.out).bw hb).use UL.out.symm hu)
  have GB := hid (fun (W : World) (hb : Bw w2 W) (i : Nat) (s : ByteArray) (hs : (rsZ l0).globals[i]? = some s) => (((SC.out.bw (Bw.alloc (Bw.refl _) (.cells #[.slice fa (rsZ l0).funs.length fc, .slice ua l0.length uc, .slice ga (rsZ l0).globals.length gc] 31))).bw B12.out).bw hb).glob rfl hs)
  have BX := hid (fun (W : World) (hb : Bw w2 W) => (((Blk.new w1 #[.slice fa (rsZ l0).funs.length fc, .slice ua l0.length uc, .slice ga (rsZ l0).globals.length gc] 31).bw B12.out).bw hb))
  have GE := hid (rfl : rsZ l0 = rsZ l0)
  generalize hZ : rsZ l0 = Z at *
  obtain ⟨ng, hng⟩ : ∃ ng, Z.globals.length = ng := ⟨_, rfl⟩
  obtain ⟨nf, hnf⟩ : ∃ nf, Z.funs.length = nf := ⟨_, rfl⟩
  rw [hng, hnf] at BX
  rw [hng, hnf]
  have hgl : (gT l0 N 1).length = ng := by rw [← hng, HG.out.1, List.length_map]
  have hfl : nf = (fnR l0 0 l0.length).length + 1 := by
    have := congrArg List.length HSN.out
    rw [List.length_cons] at this
    rw [← this, ← hnf]; unfold skn; rw [List.length_map]
  have HGL := hid hgl
  have HFL := hid hfl
  have hng5 : ng ≤ 400 := by
    have : (gT l0 N 1).length ≤ (rts l0 N 1).length := List.length_filter_le _ _
    rw [rts_len] at this
    have := HNL.out; omega
  have HN4 := hid (show N ≤ 400 by have := HNL.out; omega)
  have HNG := hid hng5
  have HZ := hid hZ
  have HL4 := hid (show l0.length ≤ 400 from HNL.out.2)
  clear SC UL hZ hng hnf hgl hfl hng5
  go_wp2
  go_loopw [7, 8] (fun v7 v8 wr => ∃ i : Nat, v8 = .int .i64 (i : Int) ∧ i ≤ N ∧ v7 = .int .i64 ((((rts l0 N 1).take i).filter fun i => (zN l0 i).1 == 3 || (zN l0 i).1 == 12).length : Nat) ∧ Bw w2 wr) (fun _ v8 _ => N - (intOf v8).toNat)
  case atStart => exact ⟨0, rfl, Nat.zero_le _, by simp, Bw.refl _⟩
  case round =>
    obtain ⟨i, rfl, hi, rfl, hbw⟩ := hrel
    have HB := hid hbw
    by_cases hin : i < N
    · have hin' : (i : Int) < (N : Int) := by omega
      obtain ⟨x, hx⟩ : ∃ x, (rts l0 N 1)[i]? = some x := ⟨_, List.getElem?_eq_getElem (by rw [rts_len]; exact hin)⟩
      obtain ⟨hx1, hxl⟩ := HRT.out x (List.mem_of_getElem? hx)
      obtain ⟨kb, e5, klt, kcell⟩ := own_at (own_keep8 KR.out (fun b e => hbw.block b (KR.out.lt b e).2)) (by omega)
      subst e5
      have kx : wr.cell? ⟨kb, i, none⟩ = some (.int .i64 (x : Int)) := by
        rw [kcell i (by omega)]; unfold ints; rw [List.getElem?_map, hx]; rfl
      have hNC := (((HNC.out.bw (Bw.alloc B1.out (.cells #[.slice fa nf fc, .slice ua l0.length uc, .slice ga ng gc] 31))).bw (Bw.refl _)))
      have hNW : NC wr g o l0 := (HNC.out.bw B2.out).bw hbw
      have c0' : wr.cell? ⟨g, o + x * 5, none⟩ = some (.int .i64 (zN l0 x).1) := by have := hNW.c x hxl 0 (by omega); rw [Nat.add_zero] at this; rw [this, zN_get hxl]; rfl
      have c2' : wr.cell? ⟨g, o + x * 5 + 2, none⟩ = some (.string (zT l0 x)) := by rw [hNW.c x hxl 2 (by omega), zN_get hxl]; rfl
      have gl := hNW.lt
      have hx0 : (0 : Int) ≤ (x : Int) := by omega
      have hx2 : (x : Int) < (l0.length : Int) := by omega
      obtain ⟨f1, f2⟩ := filt_next (fun i => (zN l0 i).1 == 3 || (zN l0 i).1 == 12) (rts l0 N 1) hx
      have hle : (((rts l0 N 1).take i).filter fun i => (zN l0 i).1 == 3 || (zN l0 i).1 == 12).length ≤ i := by
        refine Nat.le_trans (List.length_filter_le _ _) ?_
        rw [List.length_take]; omega
      obtain ⟨b0, bf, bl⟩ := (show (∀ (j : Nat), wr.cell? ⟨w1.heap.size, j, none⟩ = _) ∧ _ ∧ w1.heap.size < wr.heap.size from ⟨(BX.out wr hbw).cell, (BX.out wr hbw).free, (BX.out wr hbw).lt⟩)
      by_cases hp : ((zN l0 x).1 == 3 || (zN l0 x).1 == 12) = true
      · obtain ⟨f3, f4⟩ := f1 hp
        have F4 := hid f4
        have hgn : Z.globals[(((rts l0 N 1).take i).filter fun i => (zN l0 i).1 == 3 || (zN l0 i).1 == 12).length]? = some (zT l0 x) := by
          rw [HG.out.1, List.getElem?_map]
          have : (gT l0 N 1)[(((rts l0 N 1).take i).filter fun i => (zN l0 i).1 == 3 || (zN l0 i).1 == 12).length]? = some x := f3
          rw [this]; rfl
        have hun := HG.out.2 _ x f3
        obtain ⟨gb, e6, gbl, gbc⟩ := GB.out wr hbw _ _ hgn
        subst e6
        obtain ⟨ub, e7, ubl, u0, u1⟩ := US.out wr hbw _ _ hun
        subst e7
        have hz4 : zend Z (4, ((((rts l0 N 1).take i).filter fun i => (zN l0 i).1 == 3 || (zN l0 i).1 == 12).length : Int)) = (4, ((((rts l0 N 1).take i).filter fun i => (zN l0 i).1 == 3 || (zN l0 i).1 == 12).length : Int)) := by unfold zend; rw [if_neg (by simp)]
        rw [hz4] at u0 u1
        simp only at u0 u1
        have hnlt : (((rts l0 N 1).take i).filter fun i => (zN l0 i).1 == 3 || (zN l0 i).1 == 12).length < ng := by
          rw [← HGL.out]; exact (List.getElem?_eq_some_iff.1 f3).1
        generalize (((rts l0 N 1).take i).filter fun i => (zN l0 i).1 == 3 || (zN l0 i).1 == 12).length = n at *
        have hnlt' : ¬ (n : Int) ≥ (ng : Int) := by omega
        have hn0 : (0 : Int) ≤ (n : Int) := by omega
        have hn1 : (n : Int) < (ng : Int) := by omega
        generalize (zN l0 x).1 = kd at c0' hp
        generalize zT l0 x = tx at c2' gbc
        have hw1 : IntKind.i64.wrap ((n : Int) + 1) = ((n + 1 : Nat) : Int) := by have := HNG.out; rw [IntKind.wrap_i64]; omega
        have hw2 : IntKind.i64.wrap ((i : Int) + 1) = ((i + 1 : Nat) : Int) := by have := HN4.out; rw [IntKind.wrap_i64]; omega
        clear f1 f2 f3 f4 hgn hun hz4 hbw hx hNC hNW kcell hxl hle hx1
        have hg1 : decide ((n : Int) ≥ (ng : Int)) = false := decide_eq_false hnlt'
        have hkd : (kd == 3) = true ∨ ((kd == 3) = false ∧ (kd == 12) = true) := by
          by_cases h3 : kd = 3
          · exact .inl (by simp [h3])
          · right
            simp [h3] at hp
            exact ⟨by simpa using h3, by simp [hp]⟩
        clear hp
        rcases hkd with e1 | ⟨e1, e2⟩
        all_goals
          go_upto_region 12 with fail
          go_quiet (fail)
          go_wp2
        all_goals
          refine ⟨⟨i + 1, by go_num, by omega, by rw [F4.out]; go_num, ?_⟩, by simp [intOf]; omega⟩
          exact HB.out.trans (by repeat (first | exact Bw.refl _ | apply Bw.alloc | apply Bw.drewN | apply Bw.drew))
      · have hp : ((zN l0 x).1 == 3 || (zN l0 x).1 == 12) = false := by simpa using hp
        have f3 := f2 hp
        have F4 := hid f3
        generalize (((rts l0 N 1).take i).filter fun i => (zN l0 i).1 == 3 || (zN l0 i).1 == 12).length = n at *
        generalize (zN l0 x).1 = kd at c0' hp
        have e1 : (kd == 3) = false := by rw [Bool.or_eq_false_iff] at hp; exact hp.1
        have e2 : (kd == 12) = false := by rw [Bool.or_eq_false_iff] at hp; exact hp.2
        have hw2 : IntKind.i64.wrap ((i : Int) + 1) = ((i + 1 : Nat) : Int) := by have := HN4.out; rw [IntKind.wrap_i64]; omega
        clear f1 f2 f3 hbw hx hNC hNW kcell hxl hle hx1 hp
        go_wp2
        case roundEnd =>
          exact ⟨⟨i + 1, by go_num, by omega, by rw [F4.out], HB.out⟩, by simp [intOf]; omega⟩
    · have hin' : ¬ (i : Int) < (N : Int) := by omega
      obtain rfl : i = N := by omega
      have hfin : (((rts l0 i 1).take i).filter fun i => (zN l0 i).1 == 3 || (zN l0 i).1 == 12).length = ng := by
        have e : (rts l0 i 1).take i = rts l0 i 1 := List.take_of_length_le (by rw [rts_len]; exact Nat.le_refl _)
        rw [e]; exact HGL.out
      rw [hfin]
      clear hbw hfin
      go_wp2
      go_loopw [9, 10] (fun v9 v10 wt => ∃ j : Nat, v10 = .int .i64 (j : Int) ∧ j ≤ l0.length ∧ v9 = .int .i64 (((fnR l0 0 j).length + 1 : Nat) : Int) ∧ Bw w2 wt) (fun _ v10 _ => l0.length - (intOf v10).toNat)
      case atStart => exact ⟨0, rfl, Nat.zero_le _, by rw [fnR_self]; rfl, HB.out⟩
      case round =>
        obtain ⟨j, rfl, hj, rfl, hbt⟩ := hrel
        have HT := hid hbt
        by_cases hjn : j < l0.length
        · have hjn' : (j : Int) < (l0.length : Int) := by omega
          have hNW : NC wr g o l0 := (HNC.out.bw B2.out).bw hbt
          have c0' : wr.cell? ⟨g, o + j * 5, none⟩ = some (.int .i64 (zN l0 j).1) := by have := hNW.c j hjn 0 (by omega); rw [Nat.add_zero] at this; rw [this, zN_get hjn]; rfl
          have c3' : wr.cell? ⟨g, o + j * 5 + 3, none⟩ = some (.int .i64 (zN l0 j).2.2.2.1) := by rw [hNW.c j hjn 3 (by omega), zN_get hjn]; rfl
          have gl := hNW.lt
          obtain ⟨f1, f2⟩ := fnR_next hjn
          have hfle := fnR_le (L := l0) j
          obtain ⟨b0, bf, bl⟩ := (show (∀ (j : Nat), wr.cell? ⟨w1.heap.size, j, none⟩ = _) ∧ _ ∧ w1.heap.size < wr.heap.size from ⟨(BX.out wr hbt).cell, (BX.out wr hbt).free, (BX.out wr hbt).lt⟩)
          have hw2 : IntKind.i64.wrap ((j : Int) + 1) = ((j + 1 : Nat) : Int) := by have := HL4.out; rw [IntKind.wrap_i64]; omega
          by_cases hp : isF (zN l0 j) = true
          · obtain ⟨f3, f4⟩ := f1 hp
            have F4 := hid f4
            have hsk : (skn Z)[(fnR l0 0 j).length + 1]? = some ((j : Int), (zN l0 j).2.2.2.1) := by rw [HSN.out]; simpa using f3
            have hlt : (fnR l0 0 j).length + 1 < nf := by
              have := (List.getElem?_eq_some_iff.1 f3).1
              have := HFL.out
              omega
            unfold skn at hsk
            rw [List.getElem?_map] at hsk
            obtain ⟨fx, hfx, hfe⟩ := Option.map_eq_some_iff.1 hsk
            simp only [Prod.mk.injEq] at hfe
            obtain ⟨fb, e8, fbl, q0, q1, q2, _⟩ := FN.out wr hbt _ _ hfx
            subst e8
            rw [hfe.1] at q0
            rw [hfe.2] at q1
            unfold isF at hp
            generalize hm : (fnR l0 0 j).length = m at *
            generalize (zN l0 j).1 = kd at c0' hp
            generalize (zN l0 j).2.2.2.1 = np at c3' q1
            have hg1 : decide (((m + 1 : Nat) : Int) ≥ (nf : Int)) = false := decide_eq_false (by omega)
            have hg2 : ¬ ((m + 1 : Nat) : Int) ≥ (nf : Int) := by omega
            have hm0 : (0 : Int) ≤ ((m + 1 : Nat) : Int) := by omega
            have hm1 : ((m + 1 : Nat) : Int) < (nf : Int) := by omega
            have hw1 : IntKind.i64.wrap (((m + 1 : Nat) : Int) + 1) = ((m + 1 + 1 : Nat) : Int) := by have := HL4.out; rw [IntKind.wrap_i64]; omega
            have hkd : (kd == 12) = true ∨ ((kd == 12) = false ∧ (kd == 31) = true) := by
              by_cases h3 : kd = 12
              · exact .inl (by simp [h3])
              · right
                simp [h3] at hp
                exact ⟨by simpa using h3, by simp [hp]⟩
            generalize m + 1 = m1 at *
            clear f1 f2 f3 f4 hsk hfx hfe hbt hNW hm hp hlt hfle q2
            rcases hkd with e1 | ⟨e1, e2⟩
            all_goals
              go_upto_region 20 with fail
              go_quiet (fail)
              go_wp2
            all_goals
              refine ⟨⟨j + 1, by go_num, by omega, by rw [F4.out]; go_num, ?_⟩, by simp [intOf]; omega⟩
              exact HT.out.trans (by repeat (first | exact Bw.refl _ | apply Bw.alloc | apply Bw.drewN | apply Bw.drew))
          · have hp : isF (zN l0 j) = false := by simpa using hp
            have F4 := hid (show (fnR l0 0 (j + 1)).length + 1 = (fnR l0 0 j).length + 1 from by rw [f2 hp])
            unfold isF at hp
            rw [Bool.or_eq_false_iff] at hp
            generalize (fnR l0 0 j).length + 1 = m1 at *
            generalize (zN l0 j).1 = kd at c0' hp
            have e1 : (kd == 12) = false := hp.1
            have e2 : (kd == 31) = false := hp.2
            clear f1 f2 hbt hNW hp hfle c3'
            go_wp2
            case roundEnd =>
              exact ⟨⟨j + 1, by go_num, by omega, by rw [F4.out], HT.out⟩, by simp [intOf]; omega⟩
        · have hjn' : ¬ (j : Int) < (l0.length : Int) := by omega
          obtain rfl : j = l0.length := by omega
          have hfe : ((fnR l0 0 l0.length).length + 1 : Nat) = nf := HFL.out.symm
          rw [hfe]
          obtain ⟨b0, bf, bl⟩ := (show (∀ (j : Nat), wr.cell? ⟨w1.heap.size, j, none⟩ = _) ∧ _ ∧ w1.heap.size < wr.heap.size from ⟨(BX.out wr hbt).cell, (BX.out wr hbt).free, (BX.out wr hbt).lt⟩)
          have hgq : decide ((ng : Int) = (ng : Int)) = true := by simp
          clear hbt hfe
          go_wp2_with (first
            | (go_at_call 8; refine (live_any _ (HSH.out.bw (B2.out.trans HT.out)) (HS.out.bw (B2.out.trans HT.out))).mono ?_; rintro e wl ⟨rfl, hbl⟩; have BL := hid ((B2.out.trans HT.out).trans hbl); clear hbl)
            | fail)
          all_goals go_ret
          all_goals exact ⟨rfl, BL.out⟩

set_option maxRecDepth 100000 in
theorem lifted (os : Os) (started : os.Started) (H : Type) (enc : TypeId × Value → H) :
    ReturnsInHanded {} Tryd.checked os 7 .any (fun w args => (Rows.scopeGlobalsSpec.pre enc Tryd.prog Tryd.f7 [] false w args ∧ laidMetH Tryd.prog laidS w) ∧ sizedMet enc Tryd.prog Tryd.f7 (OpenSpec.ofChange Rows.scopeGlobalsSpec) false w args)
      (Rows.scopeGlobalsSpec.post enc Tryd.prog Tryd.f7 false true false false) := by
  refine returnsInHanded_of_change_and (C := Tryd.checked) (X := fun w _ => laidMetH Tryd.prog laidS w) (fun _ _ _ hh h => h.of_heap hh) ownK started (by kernel_rfl) Tryd.func7
    (ChangeSpec.witness_shaped (enc := enc) (C := Tryd.checked) (os := os) (X := fun w _ => laidMetH Tryd.prog laidS w) false (World.doorLaid Tryd.prog 400 os) #[.slice none 0 0] 8 rfl (World.shaped_of_RefB (by kernel_rfl) (by kernel_rfl)) (by kernel_rfl) (by kernel_rfl) (by kernel_rfl) (door_met os _)) ?_
  intro W base args ds gs before hval0 hW _ _ hL _
  have hval : ∀ (j : Nat) t v, Tryd.f7.params[j]? = some t → args[j]? = some v → Value.okWide Tryd.prog W .any base t v := hval0
  have hW' := hW
  obtain ⟨p, q, hA0, hV, rfl, hfz, hnd⟩ := hW
  have hA : DataW.TrodAll enc Tryd.prog W 0 (fun _ => true) true Tryd.f7.params.toList args.toList ds p := hA0
  rw [Tryd.params7] at hA hval
  obtain ⟨v0, vs0, d0, ds0, p0, q0, hargs, rfl, rfl, h0, r0⟩ := trodAll_cons hA
  obtain ⟨rfl, rfl, rfl⟩ := trodAll_nil r0
  obtain rfl : args = #[v0] := by cases args; simp_all
  obtain ⟨rfl, rfl⟩ := trodVars_none hV
  have k0 := h0
  have lt0 : ∀ x ∈ p0, x.block < W.heap.size := by obtain ⟨m, hm⟩ := k0; exact DataW.trod_lt m _ _ _ hm
  obtain ⟨a0, c0, l0, e0, m0, w0⟩ := open_nodes (hval 0 24 v0 rfl rfl) h0
  subst e0
  have hs := pr_of_laid hL
  have hsh := sh_of_laid hL
  clear hA0 hval0
  refine (walk a0 c0 l0 m0 W hs hsh w0).mono fun e W' ⟨he, bel⟩ => ?_
  subst he
  exact ⟨_, rfl, _, _, _, [], _, [], hW', trodAll_mk1 (shut_bool Tryd.underlying4 _), (trodAll_cons_mk (Below.trod laidOut (by kernel_rfl) (of_decide_eq_true (by kernel_rfl)) k0 bel lt0) trodAll_mk0), rfl, Below.frame bel _, fun h => by cases h⟩

theorem over : Rows.scopeGlobalsRow.holds Tryd.pinned (OpenSpec.ofChange Rows.scopeGlobalsSpec) :=
  OpenClaim.holds_of_wide 7 Tryd.f7 rfl rfl rfl rfl rfl rfl rfl ⟨rfl, rfl, rfl, rfl, rfl⟩ rfl rfl rfl rfl rfl (by kernel_rfl) Tryd.func7 (by kernel_rfl)
    (of_decide_eq_true (by kernel_rfl)) (by unfold Func.isWrapper; first | (rw [if_pos (by decide +kernel)]; kernel_rfl) | (rw [if_neg (by decide +kernel)]; exact ⟨rfl, rfl⟩))
    (fun os started H enc _ => lifted os started H enc)

theorem card : Rows.ScopeGlobalsCardSaid :=
  Claim7.holds_tied_plain_at .later [] [.data, .data] true (true, "0cfb825af0ef75d68b832270240ab74cc95abaa539c0ecafa2e0db27e37c33ba") false
    over (fun _ h => by cases h) (by kernel_rfl) (fun _ h => by cases h) scopeGlobals_row_tie rfl ⟨rfl, rfl⟩ (by kernel_rfl) rfl
    (fun f fn hf hfn => by
      obtain rfl : f = 7 := Option.some.inj ((show Tryd.prog.funcNamed "jacquard/jacquardlaw08.ScopeGlobals" = some 7 by kernel_rfl).symm.trans hf) |>.symm
      obtain rfl : fn = Tryd.f7 := (Option.some.inj (Tryd.func7.symm.trans hfn)).symm
      exact ⟨by kernel_rfl, fun j t ht => by
        rw [Tryd.params7] at ht
        have hm : t ∈ [24] := by have h9 := Array.mem_of_getElem? ht; simp at h9 ⊢; first | exact h9 | (rcases h9 with h9 | h9 <;> simp [h9]; done) | (rcases h9 with h9 | h9 | h9 <;> simp [h9]; done) | (rcases h9 with h9 | h9 | h9 | h9 <;> simp [h9]; done)
        have hall : ([24].all fun u => !Tryd.prog.wantsStandIn u) = true := by kernel_rfl
        exact (show Tryd.prog.wantsStandIn t = false by simpa using List.all_eq_true.1 hall t hm)⟩)
    (by kernel_rfl)
end Go.Proofs.YtdhkcdehedbpcaaDoor.scopeGlobals
namespace Go.Proofs.YtdhkcdehedbpcaaDoor
theorem scopeGlobals_holds : Rows.ScopeGlobalsCardSaid := scopeGlobals.card
#print axioms scopeGlobals_holds
end Go.Proofs.YtdhkcdehedbpcaaDoor
