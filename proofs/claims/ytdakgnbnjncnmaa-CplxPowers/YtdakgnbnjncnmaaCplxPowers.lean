/- For every complex number, by whatever bits of its parts, every int and every list of such numbers the statement CplxPowers of layer 2 answers true: the program's powers, their errors, and the polynomial's value are the document's (of a list of more than 100 numbers it asks the page's examples alone); no condition. -/
import Derived.Test.YtdakgnbnjncnmaaFr
import Derived.Test.YtdakgnbnjncnmaaFz
import Derived.Test.YtdakgnbnjncnmaaRE
import Derived.Test.YtdakgnbnjncnmaaRL
import Derived.Test.YtdakgnbnjncnmaaFj
set_option linter.unusedVariables false
set_option linter.unusedSimpArgs false
namespace Go.Proofs.Ytdakgnbnjncnmaa.cplxPowers
open Go.ChangeShapes Go.WideShapes Go.ChangeAt Go.RowKit

set_option maxHeartbeats 8000000 in
theorem far (a b : Int) (n : Int) (l : Option Addr) (len cap : Nat) (h : 100 < len) (hm : len ≤ 9223372036854775807) (w : World) :
    Calls Try.prog 6 #[.agg #[.int .u64 a, .int .u64 b], .int .i64 n, .slice l len cap] w fun e w' => e = .returned (.bool true) ∧ Bw w w' := by
  have h1 : (100 : Int) < (len : Int) := by omega
  go_enter Try.func6, Try.ntmps6
  go_wp2_with (go_at_call 17; refine (live_any _).mono ?_; rintro e w' ⟨rfl, os, n, rfl⟩)
  all_goals go_ret
  all_goals exact ⟨rfl, Ly.bw (by repeat (first | exact Ly.refl _ | apply Ly.lay | apply Ly.alloc | apply Ly.drewN | apply Ly.drew))⟩

set_option maxHeartbeats 32000000 in
theorem core (a b : Nat) (n : Int) (l : Option Addr) (cap : Nat) (zs : List (Nat × Nat)) (hlen : zs.length ≤ 100) (w : World)
    (hl : zs.length = 0 ∨ ∃ bl off, l = some ⟨bl, off, none⟩ ∧ bl < w.heap.size ∧ ∀ i, i < zs.length →
      w.cell? ⟨bl, off + i * 2, none⟩ = some (.int .u64 ((zs.getD i (0, 0)).1 : Int)) ∧ w.cell? ⟨bl, off + i * 2 + 1, none⟩ = some (.int .u64 ((zs.getD i (0, 0)).2 : Int))) :
    Calls Try.prog 6 #[.agg #[.int .u64 (a : Int), .int .u64 (b : Int)], .int .i64 n, .slice l zs.length cap] w fun e w' => e = .returned (.bool true) ∧ Bw w w' := by
  have HL := show Hid _ from hl
  clear hl
  have h1 : ¬ (100 : Int) < (zs.length : Int) := by omega
  obtain ⟨ix, hix, hzx0, hzx1, hzx2⟩ := info_parts infoX
  obtain ⟨iy, hiy, hzy0, hzy1, hzy2⟩ := info_parts infoY
  have HIX := show Hid _ from And.intro hix (And.intro hzx0 (And.intro hzx1 hzx2))
  have HIY := show Hid _ from And.intro hiy (And.intro hzy0 (And.intro hzy1 hzy2))
  clear hix hzx0 hzx1 hzx2 hiy hzy0 hzy1 hzy2
  go_enter Try.func6, Try.ntmps6
  go_upto_region 4 with (first
    | (go_at_call 11; refine (of_any _ _ _).mono ?_; rintro e w' ⟨rfl, os, m, rfl⟩)
    | (go_at_call 32; refine (power_any _ _ _ _).mono ?_; rintro e w' ⟨rfl, m, rfl⟩))
  go_cut [9, 10] (fun p f wc => ∃ bp r i, p = .pointer (some ⟨bp, 0, none⟩) ∧ f = .int .i64 (pwe n) ∧ cn r = pwr a b n ∧ cn i = pwi a b n ∧ wc.cell? ⟨bp, 0, none⟩ = some (.float .f64 r) ∧ wc.cell? ⟨bp, 1, none⟩ = some (.float .f64 i) ∧ bp < wc.heap.size ∧ wc.cell? ⟨w.heap.size, 0, none⟩ = some (.int .u64 (a : Int)) ∧ wc.cell? ⟨w.heap.size, 1, none⟩ = some (.int .u64 (b : Int)) ∧ w.heap.size < wc.heap.size ∧ Bw w wc)
  case first =>
    go_wp2_with (first
      | (go_at_call 13; refine (is_any _ _ _).mono ?_; rintro e w' ⟨rfl, os, m, rfl⟩)
      | (go_at_call 33; refine (rpower_any _ _ _ _).mono ?_; rintro e w' ⟨r, i, rfl, hr, hi, os, m, rfl⟩))
    go_meet
    case rel => exact ⟨_, _, _, rfl, rfl, by assumption, by assumption, by simp [go_sem], by simp [go_sem], by simp [go_sem], by simp [go_sem], by simp [go_sem], by simp [go_sem], Ly.bw (by repeat (first | exact Ly.refl _ | apply Ly.lay | apply Ly.alloc | apply Ly.drewN | apply Ly.drew))⟩
  case rest =>
    obtain ⟨bp, r, i, rfl, rfl, hr, hi, c1, c2, s1, c3, c4, s2, HB⟩ := hcut
    have HB' := show Hid _ from HB
    clear HB
    go_wp2
    go_loopw [11, 12, 13] (fun x y j wr => ∃ k, k ≤ zs.length ∧ j = .int .i64 k ∧ wr.ownsRow wc.heap.size 25 1 x k (cx zs k) ∧ wr.ownsRow wc.heap.size 33 2 y k (cy zs k) ∧ Bw wc wr) (fun _ _ j _ => zs.length - (intOf j).toNat)
    case atStart => exact ⟨0, Nat.zero_le _, rfl, World.ownsRow_nil _ _ _ _, World.ownsRow_nil _ _ _ _, Bw.refl _⟩
    case round =>
      obtain ⟨k, hk, rfl, hox, hoy, hwr⟩ := hrel
      have HX := show Hid _ from hox
      have HY := show Hid _ from hoy
      have HW := show Hid _ from hwr
      clear hox hoy hwr
      by_cases hlt : k < zs.length
      · rcases HL.out with h0 | ⟨bl, off, rfl, hbl, hcl⟩
        · omega
        · have hb1 : (0 : Int) ≤ (k : Int) := by omega
          have hb2 : (k : Int) < (zs.length : Int) := by omega
          have hbw : Bw w wr := Bw.trans HB'.out HW.out
          have l1 : wr.cell? ⟨bl, off + k * 2, none⟩ = some (.int .u64 ((zs.getD k (0, 0)).1 : Int)) := (Below.cell hbw hbl).trans (hcl k hlt).1
          have l2 : wr.cell? ⟨bl, off + k * 2 + 1, none⟩ = some (.int .u64 ((zs.getD k (0, 0)).2 : Int)) := (Below.cell hbw hbl).trans (hcl k hlt).2
          have HBW := show Hid _ from hbw
          have hsz : wc.heap.size ≤ wr.heap.size := HW.out.size
          have HCL := show Hid _ from hcl
          clear hcl hbw
          generalize hz : zs.getD k (0, 0) = z at l1 l2
          have HZ := show Hid _ from hz
          clear hz
          go_wp2_with (first
            | (go_at_call 11; refine (of_any _ _ _).mono ?_; rintro e w' ⟨rfl, os1, m1, rfl⟩)
            | (at_builtin; refine wpList_append_own _ rfl _ _ 60 rfl wc.heap.size 25 ix (.complex .f64 0 0) 1 16 Try.underlying60 HIX.out.1 HIX.out.2.1 HIX.out.2.2.1 HIX.out.2.2.2 rfl (by decide) _ _ _ rfl ((own_lay HX.out _ _).alloc _) ⟨wr.heap.size + os1.length, 0, none⟩ 1 1 [.complex .f64 (cn z.1) (cn z.2)] rfl rfl ?c1 ?c2 ?c3 ?c4 ?c5 ?_)
            | go_in)
          case c1 =>
            intro j u hj
            match j, hj with
            | 0, hj => simp at hj; subst hj; simp [Addr.add, go_sem]
          case c2 => intro u hu; simp at hu; subst hu; rfl
          case c3 => unfold maxLen; omega
          case c4 => omega
          case c5 => simp only [World.size_alloc, lay_size]; omega
          intro x' w1 hox1 hgr1 _
          have hoy1 : w1.ownsRow wc.heap.size 33 2 _ k (cy zs k) := ((own_lay HY.out os1 m1).alloc _).kept hgr1 (own_apart HX.out HY.out (by decide))
          have hw1 : Bw wc w1 := bw_grown (Bw.alloc (Bw.lay HW.out os1 m1) _) ((own_lay HX.out os1 m1).alloc _) hgr1
          have hbw1 : Bw w w1 := Bw.trans HB'.out hw1
          have l3 : w1.cell? ⟨bl, off + k * 2, none⟩ = some (.int .u64 (z.1 : Int)) := (Below.cell hbw1 hbl).trans (HZ.out ▸ (HCL.out k hlt).1)
          have l4 : w1.cell? ⟨bl, off + k * 2 + 1, none⟩ = some (.int .u64 (z.2 : Int)) := (Below.cell hbw1 hbl).trans (HZ.out ▸ (HCL.out k hlt).2)
          have HX1 := show Hid _ from hox1
          have HY1 := show Hid _ from hoy1
          have HW1 := show Hid _ from hw1
          have hsz1 : wc.heap.size ≤ w1.heap.size := hw1.size
          clear hox1 hgr1 hoy1 hw1 hbw1
          go_wp2_with (first
            | (go_at_call 13; refine (is_any _ _ _).mono ?_; rintro e w' ⟨rfl, os2, m2, rfl⟩)
            | (at_builtin; refine wpList_append_own _ rfl _ _ 61 rfl wc.heap.size 33 iy (.agg #[.float .f64 0, .float .f64 0]) 2 16 Try.underlying61 HIY.out.1 HIY.out.2.1 HIY.out.2.2.1 HIY.out.2.2.2 rfl (by decide) _ _ _ rfl ((own_lay HY1.out _ _).alloc _) ⟨w1.heap.size + os2.length, 0, none⟩ 1 1 [.float .f64 z.1, .float .f64 z.2] rfl rfl ?c1 ?c2 ?c3 ?c4 ?c5 ?_)
            | go_in)
          case c1 =>
            intro j u hj
            match j, hj with
            | 0, hj => simp at hj; subst hj; simp [Addr.add, go_sem]
            | 1, hj => simp at hj; subst hj; simp [Addr.add, go_sem]
          case c2 => intro u hu; simp at hu; rcases hu with rfl | rfl <;> rfl
          case c3 => unfold maxLen; omega
          case c4 => omega
          case c5 => simp only [World.size_alloc, lay_size]; omega
          intro y' w2 hoy2 hgr2 _
          have hox2 : w2.ownsRow wc.heap.size 25 1 _ (k + 1) _ := ((own_lay HX1.out os2 m2).alloc _).kept hgr2 (own_apart HY1.out HX1.out (by decide))
          have hw2 : Bw wc w2 := bw_grown (Bw.alloc (Bw.lay HW1.out os2 m2) _) ((own_lay HY1.out os2 m2).alloc _) hgr2
          have HX2 := show Hid _ from hox2
          have HY2 := show Hid _ from hoy2
          have HW2 := show Hid _ from hw2
          clear hox2 hoy2 hw2 hgr2
          go_wp2
          go_roundw
          case rel =>
            refine ⟨k + 1, by omega, by go_num, ?_, ?_, HW2.out⟩
            · rw [cx_succ zs k hlt, HZ.out]; exact HX2.out
            · rw [cy_succ zs k hlt, HZ.out]; exact HY2.out
          case measure => simp [intOf]; omega
      · have hke : k = zs.length := by omega
        subst hke
        clear hlt
        have t1 : ∀ (i : Nat), i < wc.heap.size → ∀ o, wr.cell? ⟨i, o, none⟩ = wc.cell? ⟨i, o, none⟩ := fun i hi o => Below.cell HW.out hi
        have d1 : wr.cell? ⟨bp, 0, none⟩ = some (.float .f64 r) := (t1 bp s1 0).trans c1
        have d2 : wr.cell? ⟨bp, 1, none⟩ = some (.float .f64 i) := (t1 bp s1 1).trans c2
        have d3 : wr.cell? ⟨w.heap.size, 0, none⟩ = some (.int .u64 (a : Int)) := (t1 _ s2 0).trans c3
        have d4 : wr.cell? ⟨w.heap.size, 1, none⟩ = some (.int .u64 (b : Int)) := (t1 _ s2 1).trans c4
        have hsz : wc.heap.size ≤ wr.heap.size := HW.out.size
        have s3 : bp < wr.heap.size := by omega
        have s4 : w.heap.size < wr.heap.size := by omega
        clear t1 c1 c2 c3 c4 s1 s2
        have q1 := pwe_bd n
        have q2 := (cn_pol a b zs).1
        have q3 := (cn_pol a b zs).2
        have Q2 := show Hid _ from q2
        have Q3 := show Hid _ from q3
        clear q2 q3
        go_wp2
        go_region_held3 (fun w' => w'.cell? ⟨bp, 0, none⟩ = some (.float .f64 r) ∧ w'.cell? ⟨bp, 1, none⟩ = some (.float .f64 i) ∧ w'.cell? ⟨w.heap.size, 0, none⟩ = some (.int .u64 (a : Int)) ∧ w'.cell? ⟨w.heap.size, 1, none⟩ = some (.int .u64 (b : Int))) (simp [go_sem, s3, s4, d1, d2, d3, d4])
          (first
            | (go_at_call 31; refine (num_any _ q1 _).mono ?_; rintro e w' ⟨rfl, rfl⟩)
            | (go_at_call 11; refine (of_any _ _ _).mono ?_; rintro e w' ⟨rfl, os, m, rfl⟩)
            | (go_at_call 13; refine (is_any _ _ _).mono ?_; rintro e w' ⟨rfl, os, m, rfl⟩)
            | (go_at_call 34; refine (fold_own zs hlen a b (own_lay HX.out _ _)).mono ?_; rintro e w' ⟨rfl, m, rfl⟩)
            | (go_at_call 35; refine (rfold_own zs hlen a b (own_lay HY.out _ _)).mono ?_; rintro e w' ⟨r', i', rfl, hr', hi', os, m, rfl⟩)
            | (go_at_call 12; refine (like_yes _ _ _ _ ?_ ?_ _).mono ?_; (simp only [hr, pwr_cn, cn_pwr]); (simp only [hi, pwi_cn, cn_pwi]); rintro e w' ⟨rfl, os, m, rfl⟩)
            | (go_at_call 12; refine (like_yes _ _ _ _ ?_ ?_ _).mono ?_; (first | (simp only [hr, pwr_cn, cn_pwr]; done) | exact Q2.out.trans hr'.symm); (first | (simp only [hi, pwi_cn, cn_pwi]; done) | exact Q3.out.trans hi'.symm); rintro e w' ⟨rfl, os, m, rfl⟩)
            | (go_at_call 17; refine (live_any _).mono ?_; rintro e w' ⟨rfl, os, m, rfl⟩))
        go_wp2
        all_goals go_ret
        all_goals exact ⟨rfl, Bw.trans HB'.out (Bw.trans HW.out (Ly.bw (by repeat (first | exact Ly.refl _ | apply Ly.lay | apply Ly.alloc | apply Ly.drewN | apply Ly.drew))))⟩

theorem walk (a0 b0 : Int) (w0 : Uw a0 b0) (a1 : Int) (w1 : -9223372036854775808 ≤ a1 ∧ a1 ≤ 9223372036854775807) (w : World) (a2 : Option Addr) (len2 cap2 : Nat) (z2 : List (Nat × Nat)) (w2 : IsZs w a2 len2 cap2 z2) :
    Calls Try.prog 6 #[.agg #[.int .u64 a0, .int .u64 b0], .int .i64 a1, .slice a2 len2 cap2] w fun e w' => e = .returned (.bool true) ∧ Bw w w' := by
  obtain ⟨⟨u1, u2⟩, u3, u4⟩ := w0
  obtain ⟨a, rfl⟩ : ∃ a : Nat, a0 = a := ⟨a0.toNat, by omega⟩
  obtain ⟨b, rfl⟩ : ∃ b : Nat, b0 = b := ⟨b0.toNat, by omega⟩
  obtain ⟨hm, rfl, hz⟩ := w2
  by_cases h : 100 < z2.length
  · exact far _ _ a1 a2 z2.length cap2 h (by unfold maxLen at hm; omega) w
  · exact core a b a1 a2 cap2 z2 (by omega) w hz

set_option maxRecDepth 100000 in
theorem lifted (os : Os) (started : os.Started) (H : Type) (enc : TypeId × Value → H) :
    ReturnsInHanded {} Try.checked os 6 .any (Rows.cplxPowersSpec.pre6 enc Try.prog Try.f6 Rows.cplxPowersRow.domain false) (Rows.cplxPowersSpec.post enc Try.prog Try.f6 false true false false) := by
  refine returnsInHanded_of_change (C := Try.checked) ownK started (by kernel_rfl) Try.func6
    (ChangeSpec.witness6 (enc := enc) (C := Try.checked) false ⟨#[], #[.agg #[.int .u64 0, .int .u64 0], .int .i64 0, .slice none 0 0], []⟩ 8 (by kernel_rfl) (by kernel_rfl) (by kernel_rfl) (by kernel_rfl)) ?_
  intro W base args ds gs before hval0 hW hcnd _
  have hval : ∀ (j : Nat) t v, Try.f6.params[j]? = some t → args[j]? = some v → Value.okWide Try.prog W .any base t v := hval0
  have hW' := hW
  obtain ⟨p, q, hA0, hV, rfl, hfz, hnd⟩ := hW
  have hA : DataW.TrodAll enc Try.prog W 0 (fun _ => true) true Try.f6.params.toList args.toList ds p := hA0
  rw [Try.params6] at hA hval
  obtain ⟨v0, vs0, d0, ds0, p0, q0, hargs, rfl, rfl, h0, r0⟩ := trodAll_cons hA
  obtain ⟨v1, vs1, d1, ds1, p1, q1, rfl, rfl, rfl, h1, r1⟩ := trodAll_cons r0
  obtain ⟨v2, vs2, d2, ds2, p2, q2, rfl, rfl, rfl, h2, r2⟩ := trodAll_cons r1
  obtain ⟨rfl, rfl, rfl⟩ := trodAll_nil r2
  obtain rfl : args = #[v0, v1, v2] := by cases args; simp_all
  obtain ⟨rfl, rfl⟩ := trodVars_none hV
  have k0 := h0
  have lt0 : ∀ x ∈ p0, x.block < W.heap.size := by obtain ⟨m, hm⟩ := k0; exact DataW.trod_lt m _ _ _ hm
  have k1 := h1
  have lt1 : ∀ x ∈ p1, x.block < W.heap.size := by obtain ⟨m, hm⟩ := k1; exact DataW.trod_lt m _ _ _ hm
  have k2 := h2
  have lt2 : ∀ x ∈ p2, x.block < W.heap.size := by obtain ⟨m, hm⟩ := k2; exact DataW.trod_lt m _ _ _ hm
  obtain ⟨a0, b0, rfl, w0⟩ := open_z (hval 0 24 v0 rfl rfl) h0
  obtain ⟨a1, rfl, rfl, rfl, w10⟩ := open_int Try.underlying3 (hval 1 3 v1 rfl rfl) h1
  have w1 := bounds_i64 w10
  obtain ⟨a2, len2, cap2, z2, rfl, w2⟩ := open_zs (hval 2 57 v2 rfl rfl) h2
  clear hA0 hval0
  refine (walk a0 b0 w0 a1 w1 W a2 len2 cap2 z2 w2).mono fun e W' ⟨he, bel⟩ => ?_
  subst he
  exact ⟨_, rfl, _, _, _, [], _, [], hW', trodAll_mk1 (shut_bool Try.underlying4 _), (trodAll_cons_mk (Below.trod laidOut (by kernel_rfl) (of_decide_eq_true (by kernel_rfl)) k0 bel lt0) (trodAll_cons_mk (Below.trod laidOut (by kernel_rfl) (of_decide_eq_true (by kernel_rfl)) k1 bel lt1) (trodAll_cons_mk (Below.trod laidOut (by kernel_rfl) (of_decide_eq_true (by kernel_rfl)) k2 bel lt2) trodAll_mk0))), rfl, Below.frame bel _, fun h => by cases h⟩

theorem over : Rows.cplxPowersRow.holds Try.pinned (OpenSpec.ofChange Rows.cplxPowersSpec) :=
  OpenClaim.holds_of_wide 6 Try.f6 rfl rfl rfl rfl rfl rfl rfl ⟨rfl, rfl, rfl, rfl, rfl⟩ rfl rfl rfl rfl rfl (by kernel_rfl) Try.func6 (by kernel_rfl)
    (of_decide_eq_true (by kernel_rfl)) (by unfold Func.isWrapper; first | (rw [if_pos (by decide +kernel)]; kernel_rfl) | (rw [if_neg (by decide +kernel)]; exact ⟨rfl, rfl⟩))
    (fun os started H enc _ => lifted os started H enc)

theorem proved : Rows.CplxPowersSaid := over
end Go.Proofs.Ytdakgnbnjncnmaa.cplxPowers
namespace Go.Proofs.Ytdakgnbnjncnmaa
theorem cplxPowers_holds : Rows.CplxPowersSaid := cplxPowers.proved
#print axioms cplxPowers_holds
end Go.Proofs.Ytdakgnbnjncnmaa
