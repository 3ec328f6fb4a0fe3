/- Order plays no part in heat and kinds; all heats together are as many as calls and turns. -/
import Derived.Test.YtfkcbioefdkabaaPp
set_option linter.unusedVariables false
set_option linter.unusedSimpArgs false
namespace Go.Proofs.Ytfkcbioefdkabaa.profAdds
open Go.ChangeShapes Go.WideShapes Go.ChangeAt Go.RowKit

set_option maxRecDepth 100000 in
set_option maxHeartbeats 2000000 in
theorem walk (w : World) (v0 : Value) (l0 : List AA) (w0 : Acts w (fun _ => True) v0 l0) :
    Calls Try.prog 5 #[v0] w fun e w' => e = .returned (.bool true) ∧ Bw w w' := by
  obtain ⟨av, cv, rfl⟩ := w0.form
  have HA := hid w0
  clear w0
  by_cases hlen : 60 < l0.length
  · have h60 : (60 : Int) < (l0.length : Int) := by omega
    go_enter Try.func5, Try.ntmps5
    go_wp2_with (first
      | (go_at_call 8; refine (live_any _).mono ?_; rintro e w2 ⟨rfl, hb2⟩)
      | fail)
    all_goals go_ret
    all_goals exact ⟨rfl, hb2⟩
  · have h60 : ¬ (60 : Int) < (l0.length : Int) := by omega
    have hN := fun w => New_yes 5 5 w (by decide) (by decide) (by decide)
    go_enter Try.func5, Try.ntmps5
    go_wp2_with (first
      | (go_at_call 9; (fail_if_success (have _g := m1)); have m1 := hid trivial; refine (hN _).mono ?_; rintro e w1 ⟨p1, hb1, wb1, mb1, rfl, hp1, hk1, b1, b2, b3, b4⟩; have HP1 := hid hp1; have HB1 := hid hk1; have HO1 := hid (And.intro b2 (And.intro b3 b4)); clear hp1 hk1 b1 b2 b3 b4)
      | (go_at_call 9; have _g := m1; clear _g; refine (hN _).mono ?_; rintro e w2 ⟨p2, hb2, wb2, mb2, rfl, hp2, hk2, b1, b2, b3, b4⟩; have HT0 := hid (TW.made HB1.out HP1.out HO1.out hk2 hp2 ⟨b1, b2, b3, b4⟩); clear hp2 hk2 b1 b2 b3 b4 HP1 HB1 HO1)
      | (go_at_call 11; refine (num_any _ _).mono ?_; rintro e w2 ⟨rfl, hw2⟩; subst w2)
      | fail)
    clear m1 hN
    obtain ⟨q, hq⟩ : ∃ q : PP, (⟨p1, hb1, wb1, mb1⟩ : PP) = q := ⟨_, rfl⟩
    obtain ⟨r, hr⟩ : ∃ r : PP, (⟨p2, hb2, wb2, mb2⟩ : PP) = r := ⟨_, rfl⟩
    rw [show p1 = q.p by rw [← hq], show p2 = r.p by rw [← hr]]
    rw [hq, hr] at HT0
    clear hq hr
    go_loopw [7, 8] (fun c j wr => ∃ (k : Nat), k ≤ l0.length ∧ c = .int .i64 (cntB (toldK l0 k) : Nat) ∧ j = .int .i64 k ∧ TW w wr q r (toldK l0 k) (toldK l0.reverse k)) (fun c j _ => l0.length - (intOf j).toNat)
    case atStart => exact ⟨0, by omega, rfl, rfl, HT0.out⟩
    case round =>
      obtain ⟨k, hk, rfl, rfl, htw⟩ := hrel
      have HT := hid htw
      by_cases hlt : k < l0.length
      · obtain ⟨q', hq'⟩ : ∃ q', l0.length = k + 1 + q' := ⟨l0.length - (k + 1), by omega⟩
        obtain ⟨g, o, rfl, hg, x0, x1, x2, x3, x4, x5, ok1⟩ := (HA.out.bw htw.bw).at hlt
        obtain ⟨g', o', e', hg', y0, y1, y2, y3, y4, y5, ok2⟩ := (HA.out.bw htw.bw).at (i := q') (by omega)
        cases e'
        clear ok1 ok2
        have hlt2 : (k : Int) < (l0.length : Int) := by omega
        have hcs := cntB_succ l0 hlt
        have hts := toldK_succ l0 hlt
        have htr := toldK_succ l0.reverse (k := k) (by rw [List.length_reverse]; exact hlt)
        rw [rev_at l0 hq'] at htr
        have hl1 := toldK_len l0 k
        have hl2 := toldK_len l0.reverse k
        generalize l0[k] = x at x0 x1 x2 x3 x4 x5 hcs hts
        generalize l0[q'] = y at y0 y1 y2 y3 y4 y5 htr
        have ix : (l0.length : Int) - 1 - (k : Int) = (q' : Nat) := by omega
        have ix2 : IntKind.i64.wrap (IntKind.i64.wrap ((l0.length : Int) - 1) - (k : Int)) = (q' : Nat) := by
          have e1 : IntKind.i64.wrap ((l0.length : Int) - 1) = (l0.length : Int) - 1 := by simp [IntKind.wrap, IntKind.bits, IntKind.signed]; omega
          rw [e1, ix]
          simp [IntKind.wrap, IntKind.bits, IntKind.signed]; omega
        have hq3 : (q' : Int) < (l0.length : Int) := by omega
        have HQ := hid hq'
        clear hq'
        have HCS := hid hcs
        have HTS := hid hts
        have HTR := hid htr
        clear hcs hts htr htw
        go_upto_region 11 with fail
        go_cut [9, 10] (fun a b wc => ∃ A B, a = .pointer (some ⟨A, 0, none⟩) ∧ b = .pointer (some ⟨B, 0, none⟩) ∧ wr.heap.size ≤ A ∧ wr.heap.size ≤ B ∧ ActB wc A x ∧ ActB wc B y ∧ Bw wr wc)
        case first =>
          go_region
          all_goals go_wp2
          all_goals go_meet
          case rel =>
            first
              | exact ⟨wr.heap.size, wr.heap.size + 1, rfl, rfl, by omega, by omega, Blk.drewd ((Blk.new wr _ _).alloc _), Blk.drewd (Blk.newAt _ _ _ _ (by simp only [World.size_alloc])), Bw.drew (Bw.alloc (Bw.alloc (Bw.refl _) _) _)⟩
              | exact ⟨wr.heap.size + 1, wr.heap.size, rfl, rfl, by omega, by omega, Blk.drewd (Blk.newAt _ _ _ _ (by simp only [World.size_alloc])), Blk.drewd ((Blk.new wr _ _).alloc _), Bw.drew (Bw.alloc (Bw.alloc (Bw.refl _) _) _)⟩
          case rel =>
            first
              | exact ⟨wr.heap.size, wr.heap.size + 1, rfl, rfl, by omega, by omega, Blk.drewd ((Blk.new wr _ _).alloc _), Blk.drewd (Blk.newAt _ _ _ _ (by simp only [World.size_alloc])), Bw.drew (Bw.alloc (Bw.alloc (Bw.refl _) _) _)⟩
              | exact ⟨wr.heap.size + 1, wr.heap.size, rfl, rfl, by omega, by omega, Blk.drewd (Blk.newAt _ _ _ _ (by simp only [World.size_alloc])), Blk.drewd ((Blk.new wr _ _).alloc _), Bw.drew (Bw.alloc (Bw.alloc (Bw.refl _) _) _)⟩
        case rest =>
          obtain ⟨A, B, rfl, rfl, hA, hB, hax, hby, hbc⟩ := hcut
          have HTC := hid (HT.out.next hbc)
          have hnA := HT.out.newA hB
          have hnA2 := HT.out.newA hA
          have hszc := hbc.size
          clear x0 x1 x2 x3 x4 x5 y0 y1 y2 y3 y4 y5 hg hg' ix ix2 hq3
          obtain ⟨lA, z0, z1, z2, z3, z4, z5⟩ := ActB.cells hax
          have HBY := hid hby
          clear hax hby
          go_upto_region 12 with fail
          go_cut [84] (fun s wd => s = .bool (keepP x && isB x) ∧ TW w wd q r (toldK l0 (k + 1)) (toldK l0.reverse k) ∧ ActB wd B y)
          case first =>
            by_cases hr : 0 ≤ x.d ∧ x.d ≤ 2
            · have hin : inR x = true := decide_eq_true hr
              have hta := tell_any x HTC.out.a (by decide) (by omega)
              rw [told_in hin, ← HTS.out, nrm_in hin, ← keep_in hin] at hta
              have r1 : 0 ≤ x.d := hr.1
              have r2 : x.d ≤ 2 := hr.2
              cases hkp : keepP x
              · rw [hkp] at hta
                have HTA := hid hta
                clear hta
                go_wp2_with (first
                  | (go_at_call 12; refine (HTA.out).mono ?_; rintro e w4 ⟨rfl, hp4, hk4⟩; have HT4 := hid (HTC.out.tellA hk4 hp4); have HB4 := hid (HBY.out.ex hk4 hnA); clear hp4 hk4)
                  | (go_at_call 11; refine (num_any _ _).mono ?_; rintro e w5 ⟨rfl, hw5⟩; subst w5)
                  | fail)
                all_goals go_meet
                case rel => exact ⟨by rw [hkp]; rfl, HT4.out, HB4.out⟩
              · rw [hkp] at hta
                have HTA := hid hta
                clear hta
                by_cases h2 : x.d < 2
                · have hbb : isB x = true := decide_eq_true h2
                  go_wp2_with (first
                    | (go_at_call 12; refine (HTA.out).mono ?_; rintro e w4 ⟨rfl, hp4, hk4⟩; have HT4 := hid (HTC.out.tellA hk4 hp4); have HB4 := hid (HBY.out.ex hk4 hnA); have zz := cell_ex hk4 hnA2 lA z0; clear hp4 hk4)
                    | (go_at_call 11; refine (num_any _ _).mono ?_; rintro e w5 ⟨rfl, hw5⟩; subst w5)
                    | fail)
                  all_goals go_meet
                  case rel => exact ⟨by rw [hkp, hbb]; rfl, HT4.out, HB4.out⟩
                · have hbb : isB x = false := decide_eq_false h2
                  have h2' : ¬ x.d < 2 := h2
                  go_wp2_with (first
                    | (go_at_call 12; refine (HTA.out).mono ?_; rintro e w4 ⟨rfl, hp4, hk4⟩; have HT4 := hid (HTC.out.tellA hk4 hp4); have HB4 := hid (HBY.out.ex hk4 hnA); have zz := cell_ex hk4 hnA2 lA z0; clear hp4 hk4)
                    | (go_at_call 11; refine (num_any _ _).mono ?_; rintro e w5 ⟨rfl, hw5⟩; subst w5)
                    | fail)
                  all_goals go_meet
                  case rel => exact ⟨by rw [hkp]; rfl, HT4.out, HB4.out⟩
            · have hin : inR x = false := decide_eq_false hr
              have hts := HTS.out
              rw [told_out hin] at hts
              have hko := keep_out hin
              have HT4 := hid (hts ▸ HTC.out)
              clear hts
              by_cases r1 : 0 ≤ x.d
              · have r2 : ¬ x.d ≤ 2 := fun h => hr ⟨r1, h⟩
                go_wp2
                all_goals go_meet
                case rel => exact ⟨by rw [hko]; rfl, HT4.out, HBY.out⟩
              · have r1' : ¬ 0 ≤ x.d := r1
                go_wp2
                all_goals go_meet
                case rel => exact ⟨by rw [hko]; rfl, HT4.out, HBY.out⟩
          case rest =>
            obtain ⟨rfl, htd, hbd⟩ := hcut
            have HTD := hid htd
            obtain ⟨lB, z0, z1, z2, z3, z4, z5⟩ := ActB.cells hbd
            clear htd hbd HTC HBY HTS
            have hl3 := toldK_len l0 (k + 1)
            have hcb : cntB (toldK l0 k) ≤ k := Nat.le_trans (List.countP_le_length) (toldK_len l0 k)
            by_cases hr : 0 ≤ y.d ∧ y.d ≤ 2
            · have hin : inR y = true := decide_eq_true hr
              have htb := tell_any y HTD.out.b (by decide) (by omega)
              rw [told_in hin, ← HTR.out] at htb
              have HTB := hid htb
              have r1 : 0 ≤ y.d := hr.1
              have r2 : y.d ≤ 2 := hr.2
              clear htb
              cases hbt : (keepP x && isB x)
              · have hcs := HCS.out
                rw [hbt] at hcs
                have HC2 := hid hcs
                clear hcs HCS
                go_wp2_with (first
                  | (go_at_call 12; refine (HTB.out).mono ?_; rintro e w4 ⟨rfl, hp4, hk4⟩; have HT4 := hid (HTD.out.tellB hk4 hp4); clear hp4 hk4)
                  | fail)
                all_goals go_roundw
                case rel => exact ⟨k + 1, by omega, by rw [HC2.out]; go_num, by go_num, HT4.out⟩
                case measure => simp [intOf]; omega
              · have hcs := HCS.out
                rw [hbt] at hcs
                have HC2 := hid hcs
                clear hcs HCS
                go_wp2_with (first
                  | (go_at_call 12; refine (HTB.out).mono ?_; rintro e w4 ⟨rfl, hp4, hk4⟩; have HT4 := hid (HTD.out.tellB hk4 hp4); clear hp4 hk4)
                  | fail)
                all_goals go_roundw
                case rel => exact ⟨k + 1, by omega, by rw [HC2.out]; go_num, by go_num, HT4.out⟩
                case measure => simp [intOf]; omega
            · have hin : inR y = false := decide_eq_false hr
              have htr := HTR.out
              rw [told_out hin] at htr
              have HT4 := hid (htr ▸ HTD.out)
              clear htr
              have hrr : (0 ≤ y.d ∧ ¬ y.d ≤ 2) ∨ ¬ 0 ≤ y.d := by omega
              cases hbt : (keepP x && isB x)
              all_goals
                have hcs := HCS.out
                rw [hbt] at hcs
                have HC2 := hid hcs
                clear hcs HCS
                rcases hrr with ⟨r1, r2⟩ | r1
                all_goals
                  go_wp2
                  go_roundw
                  case rel => exact ⟨k + 1, by omega, by rw [HC2.out]; go_num, by go_num, HT4.out⟩
                  case measure => simp [intOf]; omega
      · have hlt2 : ¬ (k : Int) < (l0.length : Int) := by omega
        obtain rfl : k = l0.length := by omega
        have hper := toldK_all l0
        have hkp := toldK_kp l0 l0.length
        have hhe : ∀ f, heatOf (toldK l0.reverse l0.length) f = heatOf (toldK l0 l0.length) f := fun f => (heat_perm hper hkp f).symm
        have hke : ∀ f t, kindOf (toldK l0.reverse l0.length) f t = kindOf (toldK l0 l0.length) f t := fun f t => (kind_perm hper f t).symm
        have hs5 := sum5 _ hkp
        have hcl : cntB (toldK l0 l0.length) ≤ l0.length := Nat.le_trans (List.countP_le_length) (toldK_len l0 l0.length)
        have hsl : ∀ g, g ≤ 5 → heatsTo (toldK l0 l0.length) g ≤ cntB (toldK l0 l0.length) := fun g hg => by rw [← hs5]; exact heatsTo_le _ hg
        have hss : ∀ g, heatsTo (toldK l0 l0.length) (g + 1) = heatsTo (toldK l0 l0.length) g + heatOf (toldK l0 l0.length) (g : Int) := fun g => rfl
        have hh0 : hsOf (toldK l0.reverse l0.length) = hsOf (toldK l0 l0.length) := by funext i; unfold hsOf; rw [hhe]
        have hz0 : heatsTo (toldK l0 l0.length) 0 = 0 := rfl
        clear hper hkp htw
        generalize toldK l0.reverse l0.length = LB at *
        generalize toldK l0 l0.length = LA at *
        generalize hN : cntB LA = N at *
        clear hN
        have HHE := hid hhe
        have HKE := hid hke
        have HSL := hid hsl
        have HSS := hid hss
        have HH0 := hid hh0
        have HS5 := hid hs5
        have HZ0 := hid hz0
        clear hhe hke hsl hss hh0 hs5 hz0
        go_wp2
        go_loopw [7, 11] (fun c j ws => ∃ (g : Nat), g ≤ 5 ∧ c = .int .i64 ((N : Int) - (heatsTo LA g : Nat)) ∧ j = .int .i64 g ∧ Bw wr ws) (fun c j _ => 5 - (intOf j).toNat)
        case atStart => exact ⟨0, by omega, by rw [HZ0.out]; simp, rfl, Bw.refl _⟩
        case round =>
          obtain ⟨g, hg, rfl, rfl, hbw⟩ := hrel
          have HT2 := hid (HT.out.next hbw)
          have HBG := hid hbw
          clear hbw
          by_cases hg5 : g < 5
          · have hg5' : (g : Int) < 5 := by omega
            have h1 := HSL.out (g + 1) (by omega)
            have h0 := HSL.out g (by omega)
            have h2 := HSS.out g
            have HTA := hid (fun w4 (hb4 : Bw wr w4) => Heat_yes (HT2.out.a.bw hb4) hg5)
            have HTB := hid (fun w4 (hb4 : Bw wr w4) => Heat_yes (HT2.out.b.bw hb4) hg5)
            simp only [HHE.out] at HTB
            generalize heatOf LA (g : Int) = x at HTA HTB h2
            have HS1 := hid h2
            have hx1 : heatsTo LA g + x ≤ N := by omega
            have hx2 : IntKind.i64.wrap ((N : Int) - (heatsTo LA g : Nat) - (x : Nat)) = (N : Int) - (heatsTo LA g : Nat) - (x : Nat) := by simp [IntKind.wrap, IntKind.bits, IntKind.signed]; omega
            clear h0 h1 h2
            generalize hS0 : heatsTo LA g = S0 at HS1 hx1 hx2 ⊢
            clear hS0
            have hxx : ((x : Int) != (x : Int)) = false := by simp
            go_wp2_with (first
              | (go_at_call_of 15 (Value.pointer (some ⟨q.p, 0, none⟩)); refine (HTA.out _ (Bw.refl _)).mono ?_; rintro e w4 ⟨rfl, hb4⟩; have HB4 := hid hb4; clear hb4)
              | (go_at_call_of 15 (Value.pointer (some ⟨r.p, 0, none⟩)); refine (HTB.out _ HB4.out).mono ?_; rintro e w5 ⟨rfl, hb5⟩; have HB5 := hid (HB4.out.trans hb5); clear hb5)
              | fail)
            have HT5 := hid (HT2.out.next HB5.out)
            clear HTA HTB HB4
            go_loopw [16] (fun j ws => ∃ (n : Nat), n ≤ l0.length ∧ j = .int .i64 n ∧ Bw w5 ws) (fun j _ => l0.length - (intOf j).toNat)
            case atStart => exact ⟨0, by omega, rfl, Bw.refl _⟩
            case round =>
              obtain ⟨n, hn, rfl, hbw⟩ := hrel
              have HT6 := hid (HT5.out.next hbw)
              have HB6 := hid hbw
              clear hbw
              by_cases hlt : n < l0.length
              · obtain ⟨ga, oa, rfl, hga, x0, x1, x2, x3, x4, x5, ok1⟩ := (HA.out.bw HT6.out.bw).at hlt
                have hlt3 : (n : Int) < (l0.length : Int) := by omega
                clear ok1 x0 x1 x3 x4 x5
                generalize l0[n].t = t at x2
                have HKA := hid (fun w4 (hb4 : Bw wr w4) => Kinds_any (HT6.out.a.bw hb4) (by decide) (g : Int) t)
                have HKB := hid (fun w4 (hb4 : Bw wr w4) => Kinds_any (HT6.out.b.bw hb4) (by decide) (g : Int) t)
                have hkk : kxv 5 LB (g : Int) t = kxv 5 LA (g : Int) t := by unfold kxv; rw [HKE.out]
                simp only [hkk] at HKB
                clear hkk
                generalize kxv 5 LA (g : Int) t = kv at HKA HKB
                generalize kxe 5 (g : Int) t = ke at HKA HKB
                have hkv : (kv != kv) = false := by simp
                have x2' := x2
                go_wp2_with (first
                  | (go_at_call_of 16 (Value.pointer (some ⟨q.p, 0, none⟩)); refine (HKA.out _ (Bw.refl _)).mono ?_; rintro e w7 ⟨rfl, hb7⟩; have HB7 := hid hb7; have x7 := cell_bw hb7 hga x2; clear hb7)
                  | (go_at_call_of 16 (Value.pointer (some ⟨r.p, 0, none⟩)); refine (HKB.out _ HB7.out).mono ?_; rintro e w8 ⟨rfl, hb8⟩; have HB8 := hid (HB7.out.trans hb8); clear hb8)
                  | fail)
                go_roundw
                case rel => exact ⟨n + 1, by omega, by go_num, HB6.out.trans HB8.out⟩
                case measure => simp [intOf]; omega
              · have hlt3 : ¬ (n : Int) < (l0.length : Int) := by omega
                go_wp2
                go_roundw
                case rel => exact ⟨g + 1, by omega, by rw [HS1.out]; go_num, by go_num, HBG.out.trans (HB5.out.trans HB6.out)⟩
                case measure => simp [intOf]; omega
          · have hg5' : ¬ (g : Int) < 5 := by omega
            obtain rfl : g = 5 := by omega
            rw [HS5.out]
            have hnn : (N : Int) - (N : Nat) = 0 := by omega
            rw [hnn]
            have HOA := hid (fun w4 (hb4 : Bw wr w4) => Hot_any (HT2.out.a.bw hb4) (by decide) 0)
            have HOB := hid (fun w4 (hb4 : Bw wr w4) => Hot_any (HT2.out.b.bw hb4) (by decide) 0)
            simp only [HH0.out] at HOB
            have hml : (hotL (hsOf LA) 0 5).length ≤ 5 := by rw [hotL_len]; exact hots_len _ _ _
            generalize hotL (hsOf LA) 0 5 = M at HOA HOB hml
            go_wp2_with (first
              | (go_at_call_of 18 (Value.pointer (some ⟨q.p, 0, none⟩)); refine (HOA.out _ (Bw.refl _)).mono ?_; rintro e w4 ⟨r4, he4, ho4, hb4⟩; subst he4; obtain ⟨a4, c4, e4⟩ := own_form ho4; subst e4; have HO4 := hid (own_sl (G := fun _ => True) ho4 (fun _ _ => trivial)); have HB4 := hid hb4; clear ho4 hb4)
              | (go_at_call_of 18 (Value.pointer (some ⟨r.p, 0, none⟩)); refine (HOB.out _ HB4.out).mono ?_; rintro e w5 ⟨r5, he5, ho5, hb5⟩; subst he5; obtain ⟨a5, c5, e5⟩ := own_form ho5; subst e5; have HO5 := hid (own_sl (G := fun _ => True) ho5 (fun _ _ => trivial)); have HO45 := hid (HO4.out.below hb5); have HB5 := hid (HB4.out.trans hb5); clear ho5 hb5)
              | (go_at_call 20; refine (sameInts_any _ _ M HO45.out HO5.out (by omega)).mono ?_; rintro e w6 ⟨rfl, hd6⟩; have HB6 := hid (HB5.out.trans hd6.bw); clear hd6)
              | (go_at_call 8; refine (live_any _).mono ?_; rintro e w7 ⟨rfl, hb7⟩)
              | fail)
            all_goals go_ret
            all_goals exact ⟨rfl, HT2.out.bw.trans (HB6.out.trans hb7)⟩

set_option maxRecDepth 100000 in
theorem lifted (os : Os) (started : os.Started) (H : Type) (enc : TypeId × Value → H) :
    ReturnsInHanded {} Try.checked os 5 .any (Rows.profAddsSpec.pre6 enc Try.prog Try.f5 Rows.profAddsRow.domain false) (Rows.profAddsSpec.post enc Try.prog Try.f5 false true false false) := by
  refine returnsInHanded_of_change (C := Try.checked) ownK started (by kernel_rfl) Try.func5
    (ChangeSpec.witness6 (enc := enc) (C := Try.checked) false ⟨#[], #[.slice none 0 0], []⟩ 8 (by kernel_rfl) (by kernel_rfl) (by kernel_rfl) (by kernel_rfl)) ?_
  intro W base args ds gs before hval0 hW hcnd _
  have hval : ∀ (j : Nat) t v, Try.f5.params[j]? = some t → args[j]? = some v → Value.okWide Try.prog W .any base t v := hval0
  have hW' := hW
  obtain ⟨p, q, hA0, hV, rfl, hfz, hnd⟩ := hW
  have hA : DataW.TrodAll enc Try.prog W 0 (fun _ => true) true Try.f5.params.toList args.toList ds p := hA0
  rw [Try.params5] at hA hval
  obtain ⟨v0, vs0, d0, ds0, p0, q0, hargs, rfl, rfl, h0, r0⟩ := trodAll_cons hA
  obtain ⟨rfl, rfl, rfl⟩ := trodAll_nil r0
  obtain rfl : args = #[v0] := by cases args; simp_all
  obtain ⟨rfl, rfl⟩ := trodVars_none hV
  have k0 := h0
  have lt0 : ∀ x ∈ p0, x.block < W.heap.size := by obtain ⟨m, hm⟩ := k0; exact DataW.trod_lt m _ _ _ hm
  obtain ⟨l0, w0⟩ := open_acts (hval 0 22 v0 rfl rfl) h0
  clear hA0 hval0
  refine (walk W v0 l0 w0).mono fun e W' ⟨he, bel⟩ => ?_
  subst he
  exact ⟨_, rfl, _, _, _, [], _, [], hW', trodAll_mk1 (shut_bool Try.underlying4 _), (trodAll_cons_mk (Below.trod laidOut (by kernel_rfl) (of_decide_eq_true (by kernel_rfl)) k0 bel lt0) trodAll_mk0), rfl, Below.frame bel _, fun h => by cases h⟩

theorem over : Rows.profAddsRow.holds Try.pinned (OpenSpec.ofChange Rows.profAddsSpec) :=
  OpenClaim.holds_of_wide 5 Try.f5 rfl rfl rfl rfl rfl rfl rfl ⟨rfl, rfl, rfl, rfl, rfl⟩ rfl rfl rfl rfl rfl (by kernel_rfl) Try.func5 (by kernel_rfl)
    (of_decide_eq_true (by kernel_rfl)) (by unfold Func.isWrapper; first | (rw [if_pos (by decide +kernel)]; kernel_rfl) | (rw [if_neg (by decide +kernel)]; exact ⟨rfl, rfl⟩))
    (fun os started H enc _ => lifted os started H enc)

theorem proved : Rows.ProfAddsSaid := over
end Go.Proofs.Ytfkcbioefdkabaa.profAdds
namespace Go.Proofs.Ytfkcbioefdkabaa
theorem profAdds_holds : Rows.ProfAddsSaid := profAdds.proved
#print axioms profAdds_holds
end Go.Proofs.Ytfkcbioefdkabaa
