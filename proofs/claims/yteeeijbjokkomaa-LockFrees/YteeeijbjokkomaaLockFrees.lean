/- Who neither waits nor was woken can lock a monitor just if it is free for it; then it is its own until it is unlocked as often. -/
import Derived.Test.YteeeijbjokkomaaRe
set_option linter.unusedVariables false
set_option linter.unusedSimpArgs false
namespace Go.Proofs.Yteeeijbjokkomaa.lockFrees
open Go.ChangeShapes Go.WideShapes Go.ChangeAt Go.RowKit

theorem mk2 {w : World} {p : Nat} {bs : List Nat} (h : PX w p bs x1) : Calls Try.prog 12 #[.pointer (some ⟨p, 0, none⟩)] w fun e w' => ∃ bs', e = .returned (.tuple #[.int .i64 1, .int .i64 0]) ∧ PX w' p bs' ⟨[(-1, 0), (-1, 0)], [], []⟩ ∧ Nx bs w w' bs' := Make_any h

theorem nx_no {w w' : World} {bs bs' : List Nat} {b : Nat} (h : Nx bs w w' bs') (hb : b < w.heap.size) (hn : b ∉ bs) : b ∉ bs' := fun hm => by
  rcases h.new b hm with h1 | h1
  · exact hn h1
  · omega
theorem nx_ge {w w' : World} {bs bs' : List Nat} {m : Nat} (h : Nx bs w w' bs') (hb : ∀ b ∈ bs, m ≤ b) (hm : m ≤ w.heap.size) : ∀ b ∈ bs', m ≤ b := fun b hb1 => by
  rcases h.new b hb1 with h1 | h1
  · exact hb b h1
  · omega

set_option maxRecDepth 100000 in
set_option maxHeartbeats 2000000 in
theorem walk (a1 : Int) (w1 : -9223372036854775808 ≤ a1 ∧ a1 ≤ 9223372036854775807) (a2 : Int) (w2 : -9223372036854775808 ≤ a2 ∧ a2 ≤ 9223372036854775807) (a3 : Int) (w3 : 0 ≤ a3 ∧ a3 ≤ 255) (w : World) (v0 : Value) (l0 : List AX) (w0 : Acts w v0 l0) :
    Calls Try.prog 7 #[v0, .int .i64 a1, .int .i64 a2, .int .u8 a3] w fun e w' => e = .returned (.bool true) ∧ Bw w w' := by
  have HA := hid w0
  obtain ⟨av, cv, rfl⟩ := w0.form
  clear w0
  by_cases h60 : 60 < l0.length
  · have h60' : (60 : Int) < (l0.length : Int) := by omega
    go_enter Try.func7, Try.ntmps7
    go_wp2_with (first
      | (go_at_call 8; refine (live_any _).mono ?_; rintro e w2 ⟨rfl, hb2⟩)
      | fail)
    all_goals go_ret
    all_goals exact ⟨rfl, hb2⟩
  have h60' : ¬ (60 : Int) < (l0.length : Int) := by omega
  have g60 : decide ((60 : Int) < (l0.length : Int)) = false := decide_eq_false h60'
  by_cases hm0 : a1 < 0
  · go_enter Try.func7, Try.ntmps7
    go_wp2_with (first
      | (go_at_call 8; refine (live_any _).mono ?_; rintro e w2 ⟨rfl, hb2⟩)
      | fail)
    all_goals go_ret
    all_goals exact ⟨rfl, hb2⟩
  have gm0 : decide (a1 < 0) = false := decide_eq_false hm0
  by_cases hm1 : 1 < a1
  · go_enter Try.func7, Try.ntmps7
    go_wp2_with (first
      | (go_at_call 8; refine (live_any _).mono ?_; rintro e w2 ⟨rfl, hb2⟩)
      | fail)
    all_goals go_ret
    all_goals exact ⟨rfl, hb2⟩
  have gm1 : decide (1 < a1) = false := decide_eq_false hm1
  by_cases ht0 : a2 < 5
  · go_enter Try.func7, Try.ntmps7
    go_wp2_with (first
      | (go_at_call 8; refine (live_any _).mono ?_; rintro e w2 ⟨rfl, hb2⟩)
      | fail)
    all_goals go_ret
    all_goals exact ⟨rfl, hb2⟩
  have gt0 : decide (a2 < 5) = false := decide_eq_false ht0
  by_cases ht1 : 255 < a2
  · go_enter Try.func7, Try.ntmps7
    go_wp2_with (first
      | (go_at_call 8; refine (live_any _).mono ?_; rintro e w2 ⟨rfl, hb2⟩)
      | fail)
    all_goals go_ret
    all_goals exact ⟨rfl, hb2⟩
  have gt1 : decide (255 < a2) = false := decide_eq_false ht1
  obtain ⟨m, rfl⟩ : ∃ m : Nat, a1 = m := ⟨a1.toNat, by omega⟩
  have HM2 := hid (show m < 2 by omega)
  have HT5 := hid (show 5 ≤ a2 by omega)
  have HT25 := hid (show a2 ≤ 255 by omega)
  have HL60 := hid (show l0.length ≤ 60 by omega)
  have q1 := Int.tmod_nonneg 5 w3.1
  have q2 := Int.tmod_lt_of_pos a3 (show (0 : Int) < 5 by decide)
  obtain ⟨K, hK, hK5⟩ : ∃ K : Nat, a3.tmod 5 = (K : Int) ∧ K < 5 := ⟨(a3.tmod 5).toNat, by omega, by omega⟩
  clear q1 q2 w3
  clear w1 w2
  go_enter Try.func7, Try.ntmps7
  go_wp2_with (first
    | (go_at_call 9; refine (New_any _).mono ?_; rintro e w1 ⟨p, rfl, hp1, hb1, b1⟩; have HP1 := hid hp1; have HB1 := hid hb1; have hbs := hid b1; clear hp1 hb1 b1)
    | (go_at_call 12; (fail_if_success (have _g := m1)); have m1 := hid trivial; refine (lv1 HP1.out).mono ?_; rintro e w2 ⟨bs2, rfl, hp2, hn2⟩; have HP2 := hid hp2; have HN2 := hid hn2; clear hp2 hn2)
    | (go_at_call 12; have _g := m1; clear _g; refine (mk2 HP2.out).mono ?_; rintro e w3 ⟨bs3, rfl, hp3, hn3⟩; have HP3 := hid hp3; have HN3 := hid (HN2.out.trans hn3); clear hp3 hn3)
    | fail)
  have HB3 := hid (HB1.out.ex HN3.out.ex (fun x hx => by simp at hx; subst hx; exact hbs.out))
  have HG3 := hid (nx_ge HN3.out (m := w.heap.size) (fun x hx => by simp at hx; subst hx; exact hbs.out) HB1.out.size)
  have HRN := hid (show w3.heap.size ∉ bs3 from fun hm => by have := HP3.out.lt _ hm; omega)
  clear HN2 HN3 HP1 HP2
  go_loopw [11] (fun j wr => ∃ (k : Nat) (bs' : List Nat) (A : LL), k ≤ l0.length ∧ j = .int .i64 k ∧ PX wr p bs' A ∧ UQ A ∧ Bw w wr ∧ Blk wr w3.heap.size #[.slice none 0 0, .slice none 0 0, .slice none 0 0] 29 ∧ w3.heap.size ∉ bs' ∧ ∀ b ∈ bs', w.heap.size ≤ b) (fun j _ => l0.length - (intOf j).toNat)
  case atStart => exact ⟨0, bs3, _, by omega, rfl, HP3.out.bw (Bw.alloc (Bw.refl _) _), uq_start, HB3.out.alloc _, Blk.new w3 _ _, HRN.out, HG3.out⟩
  case round =>
    obtain ⟨k, bs', A, hk, rfl, hp, hu, hbw, hrb, hrn, hge⟩ := hrel
    have HP := hid hp
    have HU := hid hu
    have HB := hid hbw
    have HRB := hid hrb
    have HRN' := hid hrn
    have HGE := hid hge
    clear hp hu hbw hrb hrn hge
    by_cases h4 : k < l0.length
    · have h4' : (k : Int) < (l0.length : Int) := by omega
      obtain ⟨ba, oa, e, hla, x0, x1, x2, x3, x4, hok⟩ := (HA.out.bw HB.out).at h4
      cases e
      have HOK := hid hok
      clear hok
      obtain ⟨y, hy⟩ : ∃ y, l0[k] = y := ⟨_, rfl⟩
      rw [hy] at x0 x1 x2 x3 x4 HOK
      clear hy
      obtain ⟨y0, y1, y2, y3, y4⟩ := y
      simp only at x0 x1 x2 x3 x4
      by_cases c1 : y2 < 5
      · by_cases c2 : 0 < y0
        · have HST := hid (fun (W : World) (hb : Bw wr W) => step_uq (HP.out.bw hb) HU.out ⟨y0, y1, y2, y3, y4⟩ HOK.out c1 c2)
          unfold actV rE at HST
          simp only at HST
          obtain ⟨r0, r1, r2, rl⟩ := box3 HRB.out
          have c1' : decide (y2 < 5) = true := decide_eq_true c1
          have c2' : decide (0 < y0) = true := decide_eq_true c2
          go_wp2
          go_region_with (go_at_call 10; refine (HST.out _ (by repeat (first | exact Bw.refl _ | apply Bw.lay | apply Bw.alloc | apply Bw.drewN | apply Bw.drew))).mono ?_; rintro e w5 ⟨v5, bs5, A5, rfl, hp5, hn5, hu5⟩; have HP5 := hid hp5; have HN5 := hid (show Nx bs' wr w5 bs5 from Nx.trans (Nx.of_bw (by repeat (first | exact Bw.refl _ | apply Bw.lay | apply Bw.alloc | apply Bw.drewN | apply Bw.drew))) hn5); have HU5 := hid hu5; clear hp5 hn5 hu5)
          all_goals go_wp2
          all_goals go_roundw
          all_goals first
            | (exact ⟨k + 1, bs5, A5, by omega, by go_num, HP5.out, HU5.out, HB.out.ex HN5.out.ex HGE.out, HRB.out.ex HN5.out.ex HRN'.out, nx_no HN5.out HRB.out.lt HRN'.out, nx_ge HN5.out HGE.out HB.out.size⟩)
            | (simp [intOf]; omega)
        · have c1' : decide (y2 < 5) = true := decide_eq_true c1
          have c2' : decide (0 < y0) = false := decide_eq_false c2
          go_wp2
          go_roundw
          case rel => exact ⟨k + 1, bs', A, by omega, by go_num, HP.out, HU.out, HB.out, HRB.out, HRN'.out, HGE.out⟩
          case measure => simp [intOf]; omega
      · have c1' : decide (y2 < 5) = false := decide_eq_false c1
        go_wp2
        go_roundw
        case rel => exact ⟨k + 1, bs', A, by omega, by go_num, HP.out, HU.out, HB.out, HRB.out, HRN'.out, HGE.out⟩
        case measure => simp [intOf]; omega
    · have h4' : ¬ (k : Int) < (l0.length : Int) := by omega
      have HFX := hid (fun (W : World) (hb : Bw wr W) => (PX_free (HP.out.bw hb) (m : Int) a2))
      have HLX := hid (fun (W : World) (hb : Bw wr W) => Lock_any (HP.out.bw hb) (m : Int) a2)
      rcases uq_frees HU.out HM2.out HT5.out HT25.out HP.out.ok with ⟨hf, hfq⟩ | ⟨hf, hle⟩
      · obtain ⟨hle, hfq1⟩ := hfq.lock HM2.out HT5.out HT25.out ⟨by omega, by omega⟩
        rw [hf] at HFX
        rw [hle] at HLX
        have HFQ1 := hid hfq1
        clear hf hle hfq hfq1
        go_wp2_with (first
          | (go_at_call 20; refine (HFX.out _ (Bw.refl _)).mono ?_; rintro e w6 ⟨rfl, hb6⟩; have HB6 := hid hb6; clear hb6)
          | (go_at_call 21; refine (HLX.out _ HB6.out).mono ?_; rintro e w7 ⟨rfl, hp7, hn7⟩; have HP7 := hid hp7; have HB7 := hid ((HB.out.trans HB6.out).ex hn7.ex HGE.out); clear hp7 hn7)
          | (go_at_call 13; refine (num_any _ _).mono ?_; rintro e w9 ⟨rfl, hw9⟩; subst w9)
          | fail)
        have HG7 := hid HGE.out
        go_loopw [14] (fun j ws => ∃ (i : Nat) (A2 : LL), i ≤ K ∧ j = .int .i64 i ∧ PX ws p bs' A2 ∧ FQ A2 m a2 ((i : Int) + 1) ∧ Bw w ws) (fun j _ => K - (intOf j).toNat)
        case atStart => exact ⟨0, _, by omega, rfl, HP7.out, HFQ1.out, HB7.out⟩
        case round =>
          obtain ⟨i, A2, hi, rfl, hp, hfq, hbw⟩ := hrel
          have HPa := hid hp
          have HFa := hid hfq
          have HBa := hid hbw
          clear hp hfq hbw
          by_cases h5 : i < K
          · have h5' : (i : Int) < (K : Int) := by omega
            obtain ⟨hle, hfq1⟩ := HFa.out.lock HM2.out HT5.out HT25.out ⟨by omega, by omega⟩
            have HLa := Lock_any HPa.out (m : Int) a2
            rw [hle] at HLa
            have HLb := hid HLa
            have HFb := hid hfq1
            clear HLa hle hfq1
            go_wp2_with (first
              | (go_at_call 21; refine HLb.out.mono ?_; rintro e wa ⟨rfl, hpa, hna⟩; have HPb := hid hpa; have HBb := hid (HBa.out.ex hna.ex HG7.out); clear hpa hna)
              | (go_at_call 13; refine (num_any _ _).mono ?_; rintro e w9 ⟨rfl, hw9⟩; subst w9)
              | fail)
            go_roundw
            case rel => exact ⟨i + 1, _, by omega, by go_num, HPb.out, HFb.out, HBb.out⟩
            case measure => simp [intOf]; omega
          · have h5' : ¬ (i : Int) < (K : Int) := by omega
            obtain rfl : i = K := by omega
            go_wp2
            go_loopw [15] (fun j ws => ∃ (q : Nat) (A3 : LL), q ≤ i + 1 ∧ j = .int .i64 q ∧ PX ws p bs' A3 ∧ FQ A3 m a2 ((i : Int) + 1 - q) ∧ Bw w ws) (fun j _ => i + 1 - (intOf j).toNat)
            case atStart => exact ⟨0, A2, by omega, rfl, HPa.out, by simpa using HFa.out, HBa.out⟩
            case round =>
              obtain ⟨q, A3, hq, rfl, hp, hfq, hbw⟩ := hrel
              have HPc := hid hp
              have HFc := hid hfq
              have HBc := hid hbw
              clear hp hfq hbw
              by_cases h6 : q ≤ i
              · have h6' : (q : Int) ≤ (i : Int) := by omega
                obtain ⟨ho1, ho2, ho3⟩ := HFc.out.other HM2.out HT5.out (by omega)
                obtain ⟨hu1, hu2⟩ := HFc.out.unlock HM2.out HT5.out HT25.out (by omega)
                have hfr := HFc.out.free HM2.out HT5.out HT25.out
                have HF4 := hid (fun (W : World) (hb : Bw wr W) => ho1 ▸ PX_free (HPc.out.bw hb) (m : Int) 4)
                have HFt := hid (fun (W : World) (hb : Bw wr W) => hfr ▸ PX_free (HPc.out.bw hb) (m : Int) a2)
                have HL4 := hid (fun (W : World) (hb : Bw wr W) => (by have := Lock_any (HPc.out.bw hb) (m : Int) 4; rw [ho2, ho3] at this; exact this : Calls Try.prog 21 #[.pointer (some ⟨p, 0, none⟩), .int .i64 (m : Int), .int .i64 4] W fun e w' => e = .returned (.int .i64 7) ∧ PX w' p bs' A3 ∧ Nx bs' W w' bs'))
                have HUt := hid (fun (W : World) (hp : PX W p bs' A3) => (by have := Unlock_any hp (m : Int) a2; rw [hu1] at this; exact this : Calls Try.prog 22 #[.pointer (some ⟨p, 0, none⟩), .int .i64 (m : Int), .int .i64 a2] W fun e w' => e = .returned (.int .i64 0) ∧ PX w' p bs' (unlockA A3 m a2) ∧ Nx bs' W w' bs'))
                have HFd := hid hu2
                clear ho1 ho2 ho3 hu1 hu2 hfr
                go_wp2_with (first
                  | (go_at_call 20; (fail_if_success (have _g := n1)); have n1 := hid trivial; refine (HF4.out _ (Bw.refl _)).mono ?_; rintro e wa ⟨rfl, hba⟩; have HBx := hid hba; clear hba)
                  | (go_at_call 20; have _g := n1; clear _g; refine (HFt.out _ HBx.out).mono ?_; rintro e wb ⟨rfl, hbb⟩; have HBy := hid (HBx.out.trans hbb); clear hbb)
                  | (go_at_call 21; refine (HL4.out _ HBy.out).mono ?_; rintro e wc ⟨rfl, hpc, hnc⟩; have HPd := hid hpc; have HBz := hid ((HBc.out.trans HBy.out).ex hnc.ex HG7.out); clear hpc hnc)
                  | (go_at_call 22; refine (HUt.out _ HPd.out).mono ?_; rintro e wd ⟨rfl, hpd, hnd⟩; have HPe := hid hpd; have HBe := hid (HBz.out.ex hnd.ex HG7.out); clear hpd hnd)
                  | (go_at_call 13; refine (num_any _ _).mono ?_; rintro e w9 ⟨rfl, hw9⟩; subst w9)
                  | fail)
                go_roundw
                case rel => exact ⟨q + 1, _, by omega, by go_num, HPe.out, by have := HFd.out; rw [show (i : Int) + 1 - ((q + 1 : Nat) : Int) = (i : Int) + 1 - q - 1 by omega]; exact this, HBe.out⟩
                case measure => simp [intOf]; omega
              · have h6' : ¬ (q : Int) ≤ (i : Int) := by omega
                obtain rfl : q = i + 1 := by omega
                have hfz : FQ A3 m a2 0 := by
                  have := HFc.out
                  rw [show (i : Int) + 1 - ((i + 1 : Nat) : Int) = 0 by omega] at this
                  exact this
                obtain ⟨he1, he2, he3⟩ := hfz.end HM2.out HT5.out HT25.out
                have HO4 := hid (he3 ▸ Owner_px HPc.out (m : Int))
                have HF4 := hid (fun (W : World) (hb : Bw wr W) => he1 ▸ PX_free (HPc.out.bw hb) (m : Int) 4)
                have HUt := hid (fun (W : World) (hb : Bw wr W) => (by have := Unlock_any (HPc.out.bw hb) (m : Int) a2; rw [he2] at this; exact this : Calls Try.prog 22 #[.pointer (some ⟨p, 0, none⟩), .int .i64 (m : Int), .int .i64 a2] W fun e w' => e = .returned (.int .i64 8) ∧ PX w' p bs' (unlockA A3 m a2) ∧ Nx bs' W w' bs'))
                clear hfz he1 he2 he3
                go_wp2_with (first
                  | (go_at_call 16; refine HO4.out.mono ?_; rintro e wa ⟨rfl, hba⟩; have HBx := hid hba; clear hba)
                  | (go_at_call 20; refine (HF4.out _ HBx.out).mono ?_; rintro e wb ⟨rfl, hbb⟩; have HBy := hid (HBx.out.trans hbb); clear hbb)
                  | (go_at_call 22; refine (HUt.out _ HBy.out).mono ?_; rintro e wd ⟨rfl, hpd, hnd⟩; have HBe := hid ((HBc.out.trans HBy.out).ex hnd.ex HG7.out); clear hpd hnd)
                  | (go_at_call 13; refine (num_any _ _).mono ?_; rintro e w9 ⟨rfl, hw9⟩; subst w9)
                  | (go_at_call 8; refine (live_any _).mono ?_; rintro e wf ⟨rfl, hbf⟩)
                  | fail)
                all_goals go_ret
                all_goals exact ⟨rfl, HBe.out.trans hbf⟩
      · rw [hf] at HFX
        rw [hle] at HLX
        clear hf hle
        go_wp2_with (first
          | (go_at_call 20; refine (HFX.out _ (Bw.refl _)).mono ?_; rintro e w6 ⟨rfl, hb6⟩; have HB6 := hid hb6; clear hb6)
          | (go_at_call 21; refine (HLX.out _ HB6.out).mono ?_; rintro e w7 ⟨rfl, hp7, hn7⟩; have HB7 := hid ((HB.out.trans HB6.out).ex hn7.ex HGE.out); clear hp7 hn7)
          | (go_at_call 13; refine (num_any _ _).mono ?_; rintro e w9 ⟨rfl, hw9⟩; subst w9)
          | (go_at_call 8; refine (live_any _).mono ?_; rintro e w8 ⟨rfl, hb8⟩)
          | fail)
        all_goals go_ret
        all_goals exact ⟨rfl, HB7.out.trans hb8⟩

set_option maxRecDepth 100000 in
theorem lifted (os : Os) (started : os.Started) (H : Type) (enc : TypeId × Value → H) :
    ReturnsInHanded {} Try.checked os 7 .any (Rows.lockFreesSpec.pre6 enc Try.prog Try.f7 Rows.lockFreesRow.domain false) (Rows.lockFreesSpec.post enc Try.prog Try.f7 false true false false) := by
  refine returnsInHanded_of_change (C := Try.checked) ownK started (by kernel_rfl) Try.func7
    (ChangeSpec.witness6 (enc := enc) (C := Try.checked) false ⟨#[], #[.slice none 0 0, .int .i64 0, .int .i64 0, .int .u8 0], []⟩ 8 (by kernel_rfl) (by kernel_rfl) (by kernel_rfl) (by kernel_rfl)) ?_
  intro W base args ds gs before hval0 hW hcnd _
  have hval : ∀ (j : Nat) t v, Try.f7.params[j]? = some t → args[j]? = some v → Value.okWide Try.prog W .any base t v := hval0
  have hW' := hW
  obtain ⟨p, q, hA0, hV, rfl, hfz, hnd⟩ := hW
  have hA : DataW.TrodAll enc Try.prog W 0 (fun _ => true) true Try.f7.params.toList args.toList ds p := hA0
  rw [Try.params7] at hA hval
  obtain ⟨v0, vs0, d0, ds0, p0, q0, hargs, rfl, rfl, h0, r0⟩ := trodAll_cons hA
  obtain ⟨v1, vs1, d1, ds1, p1, q1, rfl, rfl, rfl, h1, r1⟩ := trodAll_cons r0
  obtain ⟨v2, vs2, d2, ds2, p2, q2, rfl, rfl, rfl, h2, r2⟩ := trodAll_cons r1
  obtain ⟨v3, vs3, d3, ds3, p3, q3, rfl, rfl, rfl, h3, r3⟩ := trodAll_cons r2
  obtain ⟨rfl, rfl, rfl⟩ := trodAll_nil r3
  obtain rfl : args = #[v0, v1, v2, v3] := by cases args; simp_all
  obtain ⟨rfl, rfl⟩ := trodVars_none hV
  have k0 := h0
  have lt0 : ∀ x ∈ p0, x.block < W.heap.size := by obtain ⟨m, hm⟩ := k0; exact DataW.trod_lt m _ _ _ hm
  have k1 := h1
  have lt1 : ∀ x ∈ p1, x.block < W.heap.size := by obtain ⟨m, hm⟩ := k1; exact DataW.trod_lt m _ _ _ hm
  have k2 := h2
  have lt2 : ∀ x ∈ p2, x.block < W.heap.size := by obtain ⟨m, hm⟩ := k2; exact DataW.trod_lt m _ _ _ hm
  have k3 := h3
  have lt3 : ∀ x ∈ p3, x.block < W.heap.size := by obtain ⟨m, hm⟩ := k3; exact DataW.trod_lt m _ _ _ hm
  obtain ⟨l0, w0⟩ := open_acts (hval 0 22 v0 rfl rfl) h0
  obtain ⟨a1, rfl, rfl, rfl, w10⟩ := open_int Try.underlying3 (hval 1 3 v1 rfl rfl) h1
  have w1 := bounds_i64 w10
  obtain ⟨a2, rfl, rfl, rfl, w20⟩ := open_int Try.underlying3 (hval 2 3 v2 rfl rfl) h2
  have w2 := bounds_i64 w20
  obtain ⟨a3, rfl, rfl, rfl, w30⟩ := open_int Try.underlying5 (hval 3 5 v3 rfl rfl) h3
  have w3 := bounds_u8 w30
  clear hA0 hval0
  refine (walk a1 w1 a2 w2 a3 w3 W v0 l0 w0).mono fun e W' ⟨he, bel⟩ => ?_
  subst he
  exact ⟨_, rfl, _, _, _, [], _, [], hW', trodAll_mk1 (shut_bool Try.underlying4 _), (trodAll_cons_mk (Below.trod laidOut (by kernel_rfl) (of_decide_eq_true (by kernel_rfl)) k0 bel lt0) (trodAll_cons_mk (Below.trod laidOut (by kernel_rfl) (of_decide_eq_true (by kernel_rfl)) k1 bel lt1) (trodAll_cons_mk (Below.trod laidOut (by kernel_rfl) (of_decide_eq_true (by kernel_rfl)) k2 bel lt2) (trodAll_cons_mk (Below.trod laidOut (by kernel_rfl) (of_decide_eq_true (by kernel_rfl)) k3 bel lt3) trodAll_mk0)))), rfl, Below.frame bel _, fun h => by cases h⟩

theorem over : Rows.lockFreesRow.holds Try.pinned (OpenSpec.ofChange Rows.lockFreesSpec) :=
  OpenClaim.holds_of_wide 7 Try.f7 rfl rfl rfl rfl rfl rfl rfl ⟨rfl, rfl, rfl, rfl, rfl⟩ rfl rfl rfl rfl rfl (by kernel_rfl) Try.func7 (by kernel_rfl)
    (of_decide_eq_true (by kernel_rfl)) (by unfold Func.isWrapper; first | (rw [if_pos (by decide +kernel)]; kernel_rfl) | (rw [if_neg (by decide +kernel)]; exact ⟨rfl, rfl⟩))
    (fun os started H enc _ => lifted os started H enc)

theorem proved : Rows.LockFreesSaid := over
end Go.Proofs.Yteeeijbjokkomaa.lockFrees
namespace Go.Proofs.Yteeeijbjokkomaa
theorem lockFrees_holds : Rows.LockFreesSaid := lockFrees.proved
#print axioms lockFrees_holds
end Go.Proofs.Yteeeijbjokkomaa
