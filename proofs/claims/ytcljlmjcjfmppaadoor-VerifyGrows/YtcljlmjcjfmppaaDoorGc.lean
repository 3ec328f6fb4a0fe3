/- keysAreRight, imageFault: contracts. -/
import Derived.Test.YtcljlmjcjfmppaaDoorGb
set_option linter.unusedSimpArgs false
set_option linter.unusedVariables false
namespace Go.Proofs.YtcljlmjcjfmppaaDoor
open Go Go.RowKit

theorem kAll_long {fs : List Int} {n : Nat} {last : List Int} {ks : List (List Int)} (h : n < ks.length) (hl : 255 < ks[n].length) : kAll fs n last (ks.drop n) = false := by
  rw [List.drop_eq_getElem_cons h, kAll, if_pos hl]
theorem kAll_none {fs : List Int} {n : Nat} {last : List Int} {ks : List (List Int)} (h : n < ks.length) (hl : kOne fs (n + 1) last ks[n] = none) : kAll fs n last (ks.drop n) = false := by
  rw [List.drop_eq_getElem_cons h, kAll]
  by_cases h1 : 255 < ks[n].length
  · rw [if_pos h1]
  · rw [if_neg h1]; simp only [hl]
theorem kAll_some {fs : List Int} {n : Nat} {last r : List Int} {ks : List (List Int)} (h : n < ks.length) (h1 : ¬ 255 < ks[n].length) (hl : kOne fs (n + 1) last ks[n] = some r) : kAll fs n last (ks.drop n) = kAll fs (n + 1) r (ks.drop (n + 1)) := by
  rw [List.drop_eq_getElem_cons h, kAll, if_neg h1]
  simp only [hl]

theorem kOne_step {fs : List Int} {n : Int} {last ks : List Int} {j : Nat} (h : j < ks.length) : kOne fs n last (ks.drop j) = (if isPl ks[j] fs.length = true ∧ last.getD (fs.getD ks[j].toNat 0).toNat 0 ≠ n then kOne fs n (last.set (fs.getD ks[j].toNat 0).toNat n) (ks.drop (j + 1)) else none) := by
  rw [List.drop_eq_getElem_cons h, kOne]

/-- What is carried through keysAreRight: the image's block, the first places, the last entries. -/
structure KI (w0 w : World) (im : Array Value) (g1 g2 : Nat) (fs L : List Int) : Prop where
  p : Blk w w0.heap.size im 26
  b1 : Blk w g1 (fs.map (Value.int .i64)).toArray 3
  b2 : Blk w g2 (L.map (Value.int .i64)).toArray 3
  bw : Bw w0 w
  n1 : w0.heap.size < g1
  n2 : w0.heap.size < g2
  ne : g1 ≠ g2

theorem KI.keep {w0 w w' : World} {im : Array Value} {g1 g2 : Nat} {fs L : List Int} (h : KI w0 w im g1 g2 fs L) (hb : Bw w w') : KI w0 w' im g1 g2 fs L :=
  ⟨h.p.bw hb, h.b1.bw hb, h.b2.bw hb, h.bw.trans hb, h.n1, h.n2, h.ne⟩

theorem KI.set {w0 w : World} {im : Array Value} {g1 g2 : Nat} {fs L : List Int} (h : KI w0 w im g1 g2 fs L) (j : Nat) (v : Int) : KI w0 (w.setCell ⟨g2, j, none⟩ (.int .i64 v)) im g1 g2 fs (L.set j v) := by
  refine ⟨h.p.other (by have := h.n2; simp; omega) _, h.b1.other (by simpa using h.ne.symm) _, ?_, Bw.setCell h.bw (by have := h.n2; simp; omega) _, h.n1, h.n2, h.ne⟩
  have := h.b2.set j (.int .i64 v)
  rw [List.map_set]
  simpa using this

theorem ints_at {w : World} {g : Nat} {L : List Int} (h : Blk w g (L.map (Value.int .i64)).toArray 3) {j : Nat} (hj : j < L.length) : w.cell? ⟨g, j, none⟩ = some (.int .i64 (L.getD j 0)) := by
  rw [h.cell j]
  simp [hj]

theorem rkeys_bw {w w' : World} {G : Nat → Prop} {v : Value} {ms : List (List Int × Value)} (h : RL w G v 1 (fun m => [m.2]) (fun m => RInts w G m.2 m.1) ms) (hb : Bw w w') : RL w' G v 1 (fun m => [m.2]) (fun m => RInts w' G m.2 m.1) ms :=
  ⟨(RL.bw h hb).1, fun x hx => RL.bw (h.2.1 x hx) hb, h.2.2⟩

section
variable {w w' : World}

set_option maxRecDepth 100000 in
set_option maxHeartbeats 4000000 in
theorem keys_any (af az ak : Option Addr) (nf kf ks kk : Nat) (gl : Int) (l : List (List Int)) (ms : List (List Int × Value)) (G : Nat → Prop) (hs : RStrs w G (.slice az l.length ks) l) (hl : l.length ≤ 1000000)
    (hm : RL w G (.slice ak ms.length kk) 1 (fun m => [m.2]) (fun m => RInts w G m.2 m.1) ms) (hk1 : ms.length ≤ 1000000) (hk2 : ∀ m ∈ ms, m.1.length ≤ 1000000) :
    Calls Tryd.prog 15 #[.agg #[.slice af nf kf, .slice az l.length ks, .slice ak ms.length kk, .int .i64 gl]] w fun e w' => e = .returned (.bool (kRt l (ms.map (·.1)))) ∧ Bw w w' := by
  obtain ⟨i1, hi1, hz1, hs1, hy1⟩ := info_parts2 infoI64
  have I1 := hid (And.intro hi1 (And.intro hz1 (And.intro hs1 hy1)))
  obtain ⟨im, hime⟩ : ∃ im : Array Value, im = #[.slice af nf kf, .slice az l.length ks, .slice ak ms.length kk, .int .i64 gl] := ⟨_, rfl⟩
  have HP := hid (Blk.new w #[.slice af nf kf, .slice az l.length ks, .slice ak ms.length kk, .int .i64 gl] 26)
  have HS := hid hs
  have HM := hid hm
  have HK2 := hid hk2
  have HFL := hid (fpl_len l)
  have HLT := hid (fpl_lt l)
  unfold kRt
  clear hi1 hz1 hs1 hy1 hs hm hk2 hime
  generalize hfs : fpl l = fs at HFL HLT ⊢
  have HFE := hid hfs
  clear hfs
  obtain ⟨R, hR⟩ : ∃ R, kAll fs 0 (List.replicate l.length 0) (ms.map (·.1)) = R := ⟨_, rfl⟩
  rw [hR]
  have HRT := hid hR
  clear hR
  go_enter Tryd.func15, Tryd.ntmps15
  go_wp2_with (first
    | (go_at_call 25; refine (first_any az ks l G (HS.out.bw (Bw.alloc (Bw.refl _) _)) hl).mono ?_; rintro e w1 ⟨⟨g1, rfl, hn1, hbk1⟩, hb1⟩; have HB := hid (show Bw w w1 from Bw.trans (by repeat (first | exact Bw.refl _ | apply Bw.alloc | apply Bw.drewN | apply Bw.drew)) hb1); have HP1 := hid (HP.out.bw hb1); have yu := HP1.out.cell; have yul := HP1.out.lt; have HG1 := hid (show w.heap.size < g1 by simp at hn1; omega); have HK1 := hid (show Blk w1 g1 (fs.map (Value.int .i64)).toArray 3 by rw [← HFE.out]; exact hbk1); clear hb1 hn1 hbk1)
    | (at_make; refine wpList_make_full _ rfl _ _ 33 rfl 0 3 i1 (.int .i64 0) 1 undIs I1.out.1 I1.out.2.1 I1.out.2.2.1 _ _ _ _ l.length rfl rfl rfl rfl (by rw [I1.out.2.2.2]; omega) (by unfold maxLen; omega) (Nat.zero_le _) ?_; intro w2 hown hgr; have hb2 : Bw w1 w2 := bw_none hgr; have hbk := own_blk hown; have HKI := hid (show KI w w2 #[.slice af nf kf, .slice az l.length ks, .slice ak ms.length kk, .int .i64 gl] g1 w1.heap.size fs (List.replicate l.length 0) from ⟨HP1.out.bw hb2, HK1.out.bw hb2, by rw [← made_int]; exact hbk, HB.out.trans hb2, HG1.out, Nat.lt_of_lt_of_le HP.out.lt (by have := HP1.out.lt; have := HB.out.size; simp at *; omega), by have := HK1.out.lt; omega⟩); have yu2 := (HP1.out.bw hb2).cell; have yul2 := (HP1.out.bw hb2).lt; clear hown hgr hb2 hbk)
    | fail)
  clear HB HP1 HG1 HK1 yu yul HP
  generalize w1.heap.size = g2 at *
  go_loopw [19] (fun j wr => ∃ (i : Nat) (L : List Int), i ≤ ms.length ∧ j = .int .i64 (i : Nat) ∧ L.length = l.length ∧ KI w wr #[.slice af nf kf, .slice az l.length ks, .slice ak ms.length kk, .int .i64 gl] g1 g2 fs L ∧ kAll fs i L ((ms.map (·.1)).drop i) = R) (fun j _ => ms.length - (intOf j).toNat)
  case atStart => exact ⟨0, _, Nat.zero_le _, rfl, by simp, HKI.out, by rw [List.drop_zero]; exact HRT.out⟩
  case round =>
    obtain ⟨i, L, hi, rfl, hLl, hki, hka⟩ := hrel
    clear HKI yu2 yul2
    have HK := hid hki
    have HKA := hid hka
    have HLL := hid hLl
    clear hka hLl
    by_cases hlt : i < ms.length
    · have hlt2 : (i : Int) < (ms.length : Int) := by omega
      obtain ⟨gk, ok, ck, e, _, hgk, _, x⟩ := (RL.bw HM.out hki.bw).parts hlt (by decide)
      cases e
      have x0 := x 0 (by decide)
      simp only [Nat.add_zero, Nat.mul_one, List.getElem?_cons_zero] at x0
      have hin : RInts w G ms[i].2 ms[i].1 := HM.out.2.1 _ (List.getElem_mem hlt)
      have hmi : (ms.map (·.1))[i]'(by simpa using hlt) = ms[i].1 := by simp
      have hln := HK2.out _ (List.getElem_mem hlt)
      have HA1 := hid (show 255 < ms[i].1.length → R = false from fun h => by rw [← HKA.out]; exact kAll_long (by simpa using hlt) (by rw [hmi]; exact h))
      have HA2 := hid (show kOne fs (i + 1) L ms[i].1 = none → R = false from fun h => by rw [← HKA.out]; exact kAll_none (by simpa using hlt) (by rw [hmi]; exact h))
      have HA3 := hid (show ∀ r, ¬ 255 < ms[i].1.length → kOne fs (i + 1) L ms[i].1 = some r → kAll fs (i + 1) r ((ms.map (·.1)).drop (i + 1)) = R from fun r h1 h => by rw [← HKA.out]; exact (kAll_some (by simpa using hlt) (by rw [hmi]; exact h1) (by rw [hmi]; exact h)).symm)
      have yu := hki.p.cell
      have yul := hki.p.lt
      clear x hmi hki
      generalize ms[i] = m at x0 hin hln HA1 HA2 HA3
      obtain ⟨kl, kv⟩ := m
      simp only at x0 hin hln HA1 HA2 HA3
      obtain ⟨ka, kc, e⟩ := hin.form
      subst e
      have HIN := hid hin
      clear hin
      by_cases h255 : 255 < kl.length
      · have b255 : decide (255 < (kl.length : Int)) = true := decide_eq_true (by omega)
        have HR := hid (HA1.out h255)
        clear h255
        go_wp2
        all_goals go_ret
        all_goals exact ⟨by rw [HR.out]; rfl, HK.out.bw⟩
      · have b255 : decide (255 < (kl.length : Int)) = false := decide_eq_false (by omega)
        have H255 := hid h255
        clear h255
        go_wp2
        go_loopw [29] (fun j wr => ∃ (q : Nat) (L' : List Int), q ≤ kl.length ∧ j = .int .i64 (q : Nat) ∧ L'.length = l.length ∧ KI w wr #[.slice af nf kf, .slice az l.length ks, .slice (some ⟨gk, ok, none⟩) ms.length kk, .int .i64 gl] g1 g2 fs L' ∧ kOne fs (i + 1) L' (kl.drop q) = kOne fs (i + 1) L kl) (fun j _ => kl.length - (intOf j).toNat)
        case atStart => exact ⟨0, L, Nat.zero_le _, rfl, HLL.out, HK.out, by rw [List.drop_zero]⟩
        case round =>
          obtain ⟨q, L', hq, rfl, hLl', hki, hko⟩ := hrel
          clear HK yu yul
          have HK := hid hki
          have HKO := hid hko
          have HLL' := hid hLl'
          clear hko hLl'
          have yu := hki.p.cell
          have yul := hki.p.lt
          by_cases hqt : q < kl.length
          · have hqt2 : (q : Int) < (kl.length : Int) := by omega
            obtain ⟨gq, oq, cq, e, _, hgq, _, y⟩ := (RL.bw HIN.out hki.bw).parts hqt (by decide)
            cases e
            have y0 := y 0 (by decide)
            simp only [Nat.add_zero, Nat.mul_one, List.getElem?_cons_zero] at y0
            have hst := kOne_step (fs := fs) (n := (i : Int) + 1) (last := L') hqt
            rw [HKO.out, HFL.out] at hst
            have HST := hid hst
            clear y hst
            generalize kl[q] = k at y0 HST
            cases hpl : isPl k l.length
            · have HR := hid (HA2.out (by rw [HST.out, if_neg (by rw [hpl]; simp)]))
              have HPL := hid hpl
              clear hpl hki
              go_wp2_with (first
                | (go_at_call 14; refine (isPlace_any _ _ _).mono ?_; rw [HPL.out]; rintro e w' ⟨rfl, hw'⟩; subst w')
                | fail)
              all_goals go_ret
              all_goals exact ⟨by rw [HR.out]; rfl, HK.out.bw⟩
            · have hk0 : 0 ≤ k ∧ k < l.length := by simp [isPl] at hpl; omega
              obtain ⟨kn, rfl⟩ : ∃ kn : Nat, k = kn := ⟨k.toNat, by omega⟩
              have hkn : kn < l.length := by omega
              have c1 := ints_at hki.b1 (j := kn) (by rw [HFL.out]; exact hkn)
              obtain ⟨p, hp, hp2⟩ : ∃ p : Nat, fs.getD kn 0 = p ∧ p < l.length := by
                have := HLT.out kn hkn
                exact ⟨_, this.1, this.2⟩
              have c2 := ints_at hki.b2 (j := p) (by rw [HLL'.out]; exact hp2)
              have HPE := hid hp
              rw [hp] at c1
              have f2 := hki.b2.free
              have d2 := hki.b2.lt
              have d1 := hki.b1.lt
              have hl1 : fs.length = l.length := HFL.out
              have hkn2 : (kn : Int) < (l.length : Int) := by omega
              have hp3 : (p : Int) < (l.length : Int) := by omega
              have HPL := hid hpl
              obtain ⟨z, hz⟩ : ∃ z, L'.getD p 0 = z := ⟨_, rfl⟩
              have HZ := hid hz
              rw [hz] at c2
              clear hpl hki hp hz hl1
              by_cases hzi : z = (i : Int) + 1
              · have HR := hid (HA2.out (by rw [HST.out, if_neg (fun hh => hh.2 (by rw [Int.toNat_natCast, HPE.out, Int.toNat_natCast, HZ.out, hzi]))]))
                have bz : (z == (i : Int) + 1) = true := by simp [hzi]
                clear hzi
                go_wp2_with (first
                  | (go_at_call 14; refine (isPlace_any _ _ _).mono ?_; rw [HPL.out]; rintro e w' ⟨rfl, hw'⟩; subst w')
                  | fail)
                all_goals go_ret
                all_goals exact ⟨by rw [HR.out]; rfl, HK.out.bw⟩
              · have bz : (z == (i : Int) + 1) = false := by simp [hzi]
                have HNX := hid (show kOne fs (i + 1) (L'.set p (i + 1)) (kl.drop (q + 1)) = kOne fs (i + 1) L kl from by
                  have := HST.out
                  rw [if_pos ⟨HPL.out, by rw [Int.toNat_natCast, HPE.out, Int.toNat_natCast, HZ.out]; exact hzi⟩, Int.toNat_natCast, HPE.out, Int.toNat_natCast] at this
                  exact this.symm)
                have HKS := hid (HK.out.set p ((i : Int) + 1))
                clear hzi
                go_wp2_with (first
                  | (go_at_call 14; refine (isPlace_any _ _ _).mono ?_; rw [HPL.out]; rintro e w' ⟨rfl, hw'⟩; subst w')
                  | fail)
                go_roundw
                case rel => exact ⟨q + 1, _, by omega, by go_num, by rw [List.length_set]; exact HLL'.out, HKS.out, HNX.out⟩
                case measure => simp [intOf]; omega
          · obtain rfl : q = kl.length := by omega
            have HNX := hid (HA3.out L' H255.out (by rw [← HKO.out, List.drop_length]; rfl))
            clear hqt hq hki
            go_wp2
            go_roundw
            case rel => exact ⟨i + 1, L', by omega, by go_num, HLL'.out, HK.out, HNX.out⟩
            case measure => simp [intOf]; omega
    · obtain rfl : i = ms.length := by omega
      have HR := hid (show R = true by rw [← HKA.out, show (ms.map (·.1)).drop ms.length = [] from by rw [List.drop_eq_nil_iff]; simp]; rfl)
      clear hlt hi hki
      go_wp2
      all_goals go_ret
      all_goals exact ⟨by rw [HR.out]; rfl, HK.out.bw⟩

set_option maxRecDepth 100000 in
set_option maxHeartbeats 1000000 in
theorem image_any (af az ak : Option Addr) (kf ks kk : Nat) (m : AIm) (G : Nat → Prop) (hm : RIm w G (.slice af m.funs.length kf) (.slice az m.strs.length ks) (.slice ak m.keys.length kk) m) (hl : m.strs.length ≤ 1000000) (hk1 : m.keys.length ≤ 1000000) (hk2 : ∀ l ∈ m.keys, l.length ≤ 1000000) :
    Calls Tryd.prog 10 #[.agg #[.slice af m.funs.length kf, .slice az m.strs.length ks, .slice ak m.keys.length kk, .int .i64 m.globals]] w fun e w' => e = .returned (.int .i64 (imF m)) ∧ Bw w w' := by
  obtain ⟨_, hs, ⟨ms, em, hms⟩, _⟩ := hm
  have hlm : ms.length = m.keys.length := by rw [← em, List.length_map]
  have HKC := hid (fun (w1 : World) (hb : Bw w w1) => (show Calls Tryd.prog 15 #[.agg #[.slice af m.funs.length kf, .slice az m.strs.length ks, .slice ak m.keys.length kk, .int .i64 m.globals]] w1 fun e w' => e = .returned (.bool (kRt m.strs m.keys)) ∧ Bw w1 w' from by
    have := keys_any af az ak m.funs.length kf ks kk m.globals m.strs ms G (hs.bw hb) hl (by rw [hlm]; exact rkeys_bw hms hb) (by omega) (fun x hx => hk2 _ (by rw [← em]; exact List.mem_map_of_mem hx))
    rw [hlm, em] at this
    exact this))
  have HIM := hid (rfl : imF m = imF m)
  unfold imF
  generalize kRt m.strs m.keys = R at HKC ⊢
  clear hs hms em hlm hk2 HIM
  generalize m.funs.length = nf at HKC ⊢
  generalize m.globals = gl at HKC ⊢
  by_cases h1 : nf < 1
  · have b1 : decide ((nf : Int) < 1) = true := decide_eq_true (by omega)
    rw [if_pos (by omega)]
    clear h1
    go_enter Tryd.func10, Tryd.ntmps10
    go_wp2
    all_goals go_ret
    all_goals exact ⟨rfl, (by repeat (first | exact Bw.refl _ | apply Bw.alloc | apply Bw.drewN | apply Bw.drew))⟩
  have b1 : decide ((nf : Int) < 1) = false := decide_eq_false (by omega)
  by_cases h2 : 1024 < nf
  · have b2 : decide (1024 < (nf : Int)) = true := decide_eq_true (by omega)
    rw [if_pos (by omega)]
    clear h1 h2
    go_enter Tryd.func10, Tryd.ntmps10
    go_wp2
    all_goals go_ret
    all_goals exact ⟨rfl, (by repeat (first | exact Bw.refl _ | apply Bw.alloc | apply Bw.drewN | apply Bw.drew))⟩
  have b2 : decide (1024 < (nf : Int)) = false := decide_eq_false (by omega)
  by_cases h3 : gl < 0
  · have b3 : decide (gl < 0) = true := decide_eq_true h3
    rw [if_pos (by omega)]
    clear h1 h2 h3
    go_enter Tryd.func10, Tryd.ntmps10
    go_wp2
    all_goals go_ret
    all_goals exact ⟨rfl, (by repeat (first | exact Bw.refl _ | apply Bw.alloc | apply Bw.drewN | apply Bw.drew))⟩
  have b3 : decide (gl < 0) = false := decide_eq_false h3
  by_cases h4 : 1024 < gl
  · have b4 : decide (1024 < gl) = true := decide_eq_true h4
    rw [if_pos (by omega)]
    clear h1 h2 h3 h4
    go_enter Tryd.func10, Tryd.ntmps10
    go_wp2
    all_goals go_ret
    all_goals exact ⟨rfl, (by repeat (first | exact Bw.refl _ | apply Bw.alloc | apply Bw.drewN | apply Bw.drew))⟩
  have b4 : decide (1024 < gl) = false := decide_eq_false h4
  rw [if_neg (by omega)]
  clear h1 h2 h3 h4
  cases R
  · go_enter Tryd.func10, Tryd.ntmps10
    go_wp2_with (first
      | (go_at_call 15; refine (HKC.out _ (by repeat (first | exact Bw.refl _ | apply Bw.alloc | apply Bw.drewN | apply Bw.drew))).mono ?_; rintro e w1 ⟨rfl, hb1⟩; have HB := hid (show Bw w w1 from Bw.trans (by repeat (first | exact Bw.refl _ | apply Bw.alloc | apply Bw.drewN | apply Bw.drew)) hb1); clear hb1)
      | fail)
    all_goals go_ret
    all_goals exact ⟨rfl, HB.out⟩
  · go_enter Tryd.func10, Tryd.ntmps10
    go_wp2_with (first
      | (go_at_call 15; refine (HKC.out _ (by repeat (first | exact Bw.refl _ | apply Bw.alloc | apply Bw.drewN | apply Bw.drew))).mono ?_; rintro e w1 ⟨rfl, hb1⟩; have HB := hid (show Bw w w1 from Bw.trans (by repeat (first | exact Bw.refl _ | apply Bw.alloc | apply Bw.drewN | apply Bw.drew)) hb1); clear hb1)
      | fail)
    all_goals go_ret
    all_goals exact ⟨rfl, HB.out⟩

end

end Go.Proofs.YtcljlmjcjfmppaaDoor
