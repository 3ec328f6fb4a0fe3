/- What a word looks like: the document's text of arrays. -/
import Derived.Test.YtlhgdknmgdohkaaGreatDoorVKk
set_option linter.unusedSimpArgs false
set_option linter.unusedVariables false
namespace Go.Proofs.YtlhgdknmgdohkaaGreatDoor
open Go Go.RowKit

set_option maxRecDepth 100000 in
set_option maxHeartbeats 16000000 in
theorem rtext_out2 {G : Nat → Prop} {k0 : Int} {ah : Option Addr} {ch : Nat} {H : AHeap} (hok : HOK H) (hm : H.2.length ≤ 1000000) (v : Int) (hU : U v) (hk : kk H v = 2) (W : List Int) (hW : W.length ≤ 1000000) (wv : Value) (w : World) (h : RdH w G (.agg #[.int .i64 k0, .slice ah H.2.length ch]) H) (hwn : Wn w wv W) (hni : v ∉ W) (f : Int → List Int) (hdl : ∀ x, U x → (f x).length ≤ 1000000000000) (hf : ∀ x, U x → ∀ (w1 : World) (wv1 : Value), Bw w w1 → Wn w1 wv1 (W ++ [v]) → Calls Tryz.prog 39 #[.agg #[.int .i64 k0, .slice ah H.2.length ch], .int .u64 x, wv1, .int .i64 65536] w1 fun e w2 => e = .returned (.string (strOfNums (f x))) ∧ Bw w1 w2) :
    Calls Tryz.prog 39 #[.agg #[.int .i64 k0, .slice ah H.2.length ch], .int .u64 v, wv, .int .i64 65536] w fun e w' => e = .returned (.string (strOfNums (dlp f ((ob H v).vals.map fun x => (([] : List Int), x)) 0 [91] ++ [93]))) ∧ Bw w w' := by
  obtain ⟨ma, ka, ia, hia, hga⟩ := ob_mem (H := H) hU (by omega)
  have HIA := hid hia
  have HGA := hid hga
  have HU := hid hU
  have HR := hid h
  have HM := hid hm
  have HWN := hid hwn
  have OKO := hid (hok _ ma)
  obtain ⟨aw, cw, rfl⟩ := hwn.form
  have HNI := hid hni
  have HF := hid hf
  have HDL := hid hdl
  generalize ob H v = o at HGA OKO  ⊢
  have hvb := OKO.out.2.2.2.2.2.2.1
  obtain ⟨L, hL⟩ : ∃ L, L = (o.vals.map fun x => (([] : List Int), x)) := ⟨_, rfl⟩
  rw [← hL]
  have HLA : Hid (∀ (k : Nat) (hk : k < o.vals.length), L.drop k = ([], o.vals[k]) :: L.drop (k + 1)) := by
    intro k hk
    rw [hL, List.drop_eq_getElem_cons (by simpa using hk), List.getElem_map]
  have HLN : Hid (L.length = o.vals.length) := by show L.length = o.vals.length; rw [hL]; simp
  obtain ⟨R, hR⟩ : ∃ R, R = dlp f L 0 [91] := ⟨_, rfl⟩
  rw [← hR]
  have HRE := hid hR
  clear hU h hm hok ma ka hia hga hwn hni hf hdl  hL hR
  go_enter Tryz.func39, Tryz.ntmps39
  go_upto_region 18 with (first
    | (go_at_call 20; refine (rkindH_any G _ H _ HU.out _ (HR.out.below (by repeat (first | exact Bw.refl _ | apply Bw.lay | apply Bw.alloc | apply Bw.drewN | apply Bw.drew))) (by have := HM.out; omega)).mono ?_; rw [hk]; rintro e w1 ⟨rfl, os1, m1, rfl⟩)
    | (go_at_call 36; refine (rof_any G _ H _ HU.out _ HIA.out _ HGA.out w _ (by repeat (first | exact Bw.refl _ | apply Bw.lay | apply Bw.alloc | apply Bw.drewN | apply Bw.drew)) HR.out (by have := HM.out; omega)).mono ?_; rintro e w3 ⟨vb3, vv3, vk3, he3, hol3, os3, m3, hw3⟩; obtain ⟨ab3, cb3, eb3⟩ := hol3.1.form; obtain ⟨av3, cv3, ev3⟩ := hol3.2.1.form; obtain ⟨ak3, ck3, ek3⟩ := hol3.2.2.form; subst eb3 ev3 ek3; simp only [objV] at he3; subst he3 hw3; have OL3 := hid hol3; clear hol3)
    | fail)
  obtain ⟨w4, hw4⟩ : ∃ w4, w4 = (lay (w.alloc (Obj.cells #[Value.int IntKind.i64 k0, Value.slice ah H.2.length ch] 32)) (os1 ++ os3) (m1 + m3)).alloc (Obj.cells #[Value.int IntKind.i64 o.kind, Value.slice ab3 o.bytes.length cb3, Value.slice av3 o.vals.length cv3, Value.slice ak3 o.keys.length ck3, Value.int IntKind.i64 o.num, Value.int IntKind.u64 o.re, Value.int IntKind.u64 o.im] 53) := ⟨_, rfl⟩
  rw [← hw4]
  have KB : Hid (Blk w4 (w.heap.size + 1 + (os1.length + os3.length)) #[Value.int IntKind.i64 o.kind, Value.slice ab3 o.bytes.length cb3, Value.slice av3 o.vals.length cv3, Value.slice ak3 o.keys.length ck3, Value.int IntKind.i64 o.num, Value.int IntKind.u64 o.re, Value.int IntKind.u64 o.im] 53) := (by rw [hw4]; exact hid (Blk.newAt (by simp)))
  have KA : Hid (Blk w4 w.heap.size #[Value.int IntKind.i64 k0, Value.slice ah H.2.length ch] 32) := (by rw [hw4]; exact hid (Blk.alloc (Blk.layAt (Blk.new w _ _) _ _) _))
  have B4 : Hid (Bw w w4) := (by rw [hw4]; exact hid (by repeat (first | exact Bw.refl _ | apply Bw.lay | apply Bw.alloc | apply Bw.drewN | apply Bw.drew)))
  clear hw4
  generalize w.heap.size + 1 + (os1.length + os3.length) = g at KB ⊢
  go_wp2
  go_loopw [11] (fun j wr => ∃ k : Nat, k ≤ W.length ∧ j = .int .i64 k ∧ wr = w4) (fun j _ => W.length - (intOf j).toNat)
  case atStart => exact ⟨0, Nat.zero_le _, rfl, rfl⟩
  case round =>
  obtain ⟨k, hk', rfl, rfl⟩ := hrel
  by_cases hkl : k < W.length
  · obtain ⟨bw, ow, rfl, hbw, cwv⟩ := (HWN.out.below B4.out).at hkl
    have c1 : wr.cell? ⟨bw, ow + k, none⟩ = some (.int .u64 W[k]) := by rw [cwv]; simp [hkl]
    have hb1 : (0 : Int) ≤ (k : Int) := by omega
    have hb2 : (k : Int) < (W.length : Int) := by omega
    have hne : W[k] ≠ v := fun e' => HNI.out (e' ▸ List.getElem_mem hkl)
    clear cwv
    generalize W[k] = u at c1 hne
    have t1 : (u == v) = false := by simpa using hne
    clear hne
    go_wp2
    go_roundw
    case rel => exact ⟨k + 1, by omega, by go_num, trivial⟩
    case measure => simp [intOf]; omega
  have hn0 : ¬ ((k : Int) < (W.length : Int)) := by omega
  obtain ⟨i2, hi2, hz2, hs2, hy2⟩ := info_parts infoV
  have I2 := hid (And.intro hi2 (And.intro hz2 (And.intro hs2 hy2)))
  clear hi2 hz2 hs2 hy2
  go_upto_region 23 with fail
  go_cut [12] (fun s wc => ∃ ai ci, s = .slice ai (W.length + 1) ci ∧ Wn wc (.slice ai (W.length + 1) ci) (W ++ [v]) ∧ Bw wr wc)
  case first =>
    go_wp2_with (first
      | (at_builtin; refine wpList_append_sl (G := fun _ => True) _ rfl _ _ 50 rfl wr.heap.size 27 i2 (.int .u64 0) 1 8 Tryz.underlying50 I2.out.1 I2.out.2.1 I2.out.2.2.1 I2.out.2.2.2 rfl (by decide) (.slice (some ⟨wr.heap.size, 0, none⟩) 0 0) 0 [] rfl ?c0 _ W.length (W.map (Value.int .u64)) rfl ?c1 ?c2 ?c3 ?c4 ?c5 ?_)
      | fail)
    case c0 => exact own_empty _ 27 1 _ _ (by simp) (by omega)
    case c1 => exact (HWN.out.below B4.out).below (Bw.alloc (Bw.refl _) _)
    case c2 => exact fun a _ => rfl
    case c3 => unfold maxLen; omega
    case c4 => omega
    intro v5 w5 ho5 hg5
    have ho5 : w5.ownsRow wr.heap.size 27 1 v5 W.length (W.map (Value.int .u64)) := by simpa using ho5
    obtain ⟨a5, c5, rfl⟩ := own_form ho5
    have B5 := hid (bw_grownAt (Bw.alloc (Bw.refl wr) (.cells #[] 27)) (by simpa [Value.ownBlock] using hg5) (Nat.le_refl _))
    have O5 := hid ho5
    clear ho5 hg5
    go_wp2_with (first
      | (at_builtin; refine wpList_append_own _ rfl _ _ 50 rfl wr.heap.size 27 i2 (.int .u64 0) 1 8 Tryz.underlying50 I2.out.1 I2.out.2.1 I2.out.2.2.1 I2.out.2.2.2 rfl (by decide) (.slice a5 W.length c5) W.length (W.map (Value.int .u64)) rfl ?d0 ⟨w5.heap.size, 0, none⟩ 1 1 [.int .u64 v] rfl rfl ?d1 ?d2 ?d3 ?d4 ?d5 ?_)
      | fail)
    case d0 => exact O5.out.alloc _
    case d1 => exact new_cells (cur := #[.int .u64 v]) (e := 27) (Blk.new w5 _ _) rfl
    case d2 => intro u hu; rw [List.mem_singleton] at hu; subst hu; rfl
    case d3 => unfold maxLen; omega
    case d4 => omega
    case d5 => have := B5.out.size; simp; omega
    intro v6 w6 ho6 hg6 _
    have hon : w6.ownsRow wr.heap.size 27 1 v6 (W.length + 1) ((W ++ [v]).map (Value.int .u64)) := by simpa using ho6
    obtain ⟨a6, c6, rfl⟩ := own_form hon
    have hsl : Wn w6 (.slice a6 (W.length + 1) c6) (W ++ [v]) := by
      have h1 := own_sl (G := fun _ => True) hon (fun _ _ => trivial)
      show Sl w6 (fun _ => True) (.slice a6 (W.length + 1) c6) (W ++ [v]).length 1 ((W ++ [v]).map (Value.int .u64))
      rw [List.length_append, List.length_singleton]
      exact h1
    have B6 : Hid (Bw wr w6) := Below.grown (B5.out.alloc _) hg6 (B5.out.alloc _).size (fun q e => (O5.out.lt q e).1)
    have H6 := hid hsl
    clear ho6 hg6 hon hsl
    go_wp2
    go_meet
    exact ⟨a6, c6, rfl, H6.out, B6.out⟩
  case rest =>
  obtain ⟨ai, ci, rfl, hin, hb7⟩ := hcut
  rename World => w7
  have IN := hid hin
  have B7 := hid (Bw.trans B4.out hb7)
  have KB7 := hid (KB.out.bw hb7)
  have KA7 := hid (KA.out.bw hb7)
  have OL7 := hid (OL3.out.below (Bw.trans B4.out hb7))
  have R7 := hid (HR.out.below (Bw.trans B4.out hb7))
  clear hin hb7 KB KA OL3 B4 I2 HWN HNI
  have y2 : w7.cell? ⟨g, 2, none⟩ = some (.slice av3 o.vals.length cv3) := KB7.out.cell 2
  go_wp2
  go_loopw [13, 14] (fun s i wr => ∃ (k : Nat) (S : List Int), k ≤ o.vals.length ∧ s = .string (strOfNums S) ∧ i = .int .i64 k ∧ S.length ≤ 1001000065540 ∧ R = dlp f (L.drop k) k S ∧ Bw w7 wr) (fun _ i _ => o.vals.length - (intOf i).toNat)
  case atStart => exact ⟨0, [91], Nat.zero_le _, rfl, rfl, by decide, by rw [List.drop_zero]; exact HRE.out, by repeat (first | exact Bw.refl _ | apply Bw.lay | apply Bw.alloc | apply Bw.drewN | apply Bw.drew)⟩
  case round =>
    obtain ⟨j, S, hj, rfl, rfl, hSl, hRS, hbr⟩ := hrel
    have BR := hid hbr
    have KBr := KB7.out.bw hbr
    have KAr := KA7.out.bw hbr
    have OLr := OL7.out.below hbr
    have q2 : wr.cell? ⟨g, 2, none⟩ = some (.slice av3 o.vals.length cv3) := KBr.cell 2
    have hsz : (strOfNums S).size = S.length := strOfNums_size S
    by_cases hjl : j < o.vals.length
    · have hb1 : (0 : Int) ≤ (j : Int) := by omega
      have hb2 : (j : Int) < (o.vals.length : Int) := by omega
      by_cases hS : S.length ≤ 65536
      · have tS : decide (((strOfNums S).size : Int) ≤ 65536) = true := decide_eq_true (by omega)
        obtain ⟨bx, ox, rfl, hbx, cx⟩ := OLr.2.1.at hjl
        have cx1 : wr.cell? ⟨bx, ox + j, none⟩ = some (.int .u64 o.vals[j]) := by rw [cx]; simp [hjl]
        have HUx := hid (OKO.out.2.2.2.1 _ (List.getElem_mem hjl))
        rw [HLA.out j hjl, dlp, if_pos hS] at hRS
        simp only [List.nil_append] at hRS
        have HSW : Hid (∀ w1, Bw wr w1 → w1.cell? ⟨w.heap.size, 0, none⟩ = some (.int .i64 k0) ∧ w1.cell? ⟨w.heap.size, 1, none⟩ = some (.slice ah H.2.length ch) ∧ w1.cell? ⟨g, 2, none⟩ = some (.slice (some ⟨bx, ox, none⟩) o.vals.length cv3) ∧ w1.cell? ⟨bx, ox + j, none⟩ = some (.int .u64 o.vals[j])) := by
          intro w1 hb
          obtain ⟨g5, o5, e5, _, d5⟩ := (OLr.below hb).2.1.at hjl
          cases e5
          exact ⟨(KAr.bw hb).cell 0, (KAr.bw hb).cell 1, (KBr.bw hb).cell 2, by rw [d5]; simp [hjl]⟩
        obtain ⟨y0, y1, _, _⟩ := HSW.out wr (Bw.refl _)
        have HFX := hid (HF.out o.vals[j] HUx.out)
        have hdx := HDL.out o.vals[j] HUx.out
        have hsd : (strOfNums (f o.vals[j])).size = (f o.vals[j]).length := strOfNums_size _
        clear cx  KBr KAr OLr
        generalize o.vals[j] = x at cx1 hRS HSW HFX hdx hsd HUx
        have HRS := hid hRS
        have HNL : Hid ((S ++ (btwL j ++ ([] ++ f x))).length ≤ 1001000065540) := (by
          show (S ++ (btwL j ++ ([] ++ f x))).length ≤ 1001000065540
          have hbt : (btwL j).length ≤ 2 := by unfold btwL; split <;> simp
          simp only [List.length_append, List.length_cons, List.length_nil]
          omega)
        obtain ⟨p1, hp1⟩ : ∃ p1, p1 = strOfNums (S ++ btwL j) := ⟨_, rfl⟩
        have hp1s : p1.size ≤ 65538 := by
          have hbt : (btwL j).length ≤ 2 := by unfold btwL; split <;> simp
          rw [hp1, strOfNums_size, List.length_append]; omega
        obtain ⟨p3, hp3⟩ : ∃ p3 : ByteArray, p1 = p3 := ⟨_, rfl⟩
        have hp3s : p3.size ≤ 65538 := by rw [← hp3]; exact hp1s
        obtain ⟨dd, hdd⟩ : ∃ dd, dd = strOfNums (f x) := ⟨_, rfl⟩
        obtain ⟨p4, hp4⟩ : ∃ p4 : ByteArray, p3 ++ dd = p4 := ⟨_, rfl⟩
        have HPF : Hid (p4 = strOfNums (S ++ (btwL j ++ ([] ++ f x)))) := (by
          show p4 = _
          rw [← hp4, hdd, ← hp3, hp1]
          rw [strOf_app4]
          simp [List.append_assoc])
        rw [← hdd] at HFX hsd
        have e4 : ∀ w, (Op.stringOp .add p3 dd).run Tryz.prog w = .ok (.string p4) w := fun w => by rw [← hp4]; exact run_string_add_sum (P := Tryz.prog) w p3 dd (by omega)
        have n4 : ¬ (9223372036854775807 < p3.size + dd.size) := by omega
        obtain ⟨p0, hp0⟩ : ∃ p0, p0 = strOfNums S := ⟨_, rfl⟩
        rw [← hp0] at hsz tS ⊢
        have tS2 : (p0.size : Int) ≤ 65536 := by omega
        by_cases hj0 : j = 0
        · have tj : decide (0 < (j : Int)) = false := decide_eq_false (by omega)
          have tj2 : ¬ (0 : Int) < (j : Int) := by omega
          have hpp : p0 = p1 := by rw [hp0, hp1, hj0]; simp [btwL]
          rw [hpp] at hsz tS tS2 ⊢
          clear hpp hp0 hp1  hdd  hj0 hRS
          subst hp3
          go_upto_region 36 with fail
          go_region_held3 (fun w' => w'.cell? ⟨w.heap.size, 0, none⟩ = some (.int .i64 k0) ∧ w'.cell? ⟨w.heap.size, 1, none⟩ = some (.slice ah H.2.length ch) ∧ w'.cell? ⟨g, 2, none⟩ = some (.slice (some ⟨bx, ox, none⟩) o.vals.length cv3) ∧ w'.cell? ⟨bx, ox + j, none⟩ = some (.int .u64 x)) (first | exact HSW.out _ B8.out | exact ⟨y0, y1, q2, cx1⟩ | (simp [go_sem, *]; done)) (first
            | (go_at_call 39; refine (HFX.out _ _ (by repeat (first | exact Bw.trans B7.out BR.out | apply Bw.drew)) (IN.out.below (by repeat (first | exact BR.out | apply Bw.drew)))).mono ?_; rintro e w8 ⟨rfl, hb8⟩; have B8 := hid (Bw.trans (a := wr) (by repeat (first | exact Bw.refl _ | apply Bw.lay | apply Bw.alloc | apply Bw.drewN | apply Bw.drew)) hb8); clear hb8)
            | fail)
          go_wp2
          go_roundw
          case rel => exact ⟨j + 1, S ++ (btwL j ++ ([] ++ f x)), by omega, by rw [HPF.out], by go_num, HNL.out, by rw [List.nil_append]; exact HRS.out, Bw.trans BR.out B8.out⟩
          case measure => simp [intOf]; omega
        · have tj : decide (0 < (j : Int)) = true := decide_eq_true (by omega)
          have tj2 : (0 : Int) < (j : Int) := by omega
          have hpp : (p0 ++ ⟨#[44, 32]⟩ : ByteArray) = p1 := by
            rw [hp0, hp1, show (⟨#[44, 32]⟩ : ByteArray) = strOfNums [44, 32] from rfl, strOf_app4]
            simp [btwL, hj0]
          have e1 : ∀ w, (Op.stringOp .add p0 ⟨#[44, 32]⟩).run Tryz.prog w = .ok (.string p1) w := fun w => by rw [← hpp]; exact run_string_add_sum (P := Tryz.prog) w p0 ⟨#[44, 32]⟩ (by show p0.size + 2 ≤ _; omega)
          have n1 : ¬ (9223372036854775807 < p0.size + 2) := by omega
          clear hp0 hp1  hdd  hj0 hRS
          subst hp3
          go_upto_region 36 with fail
          go_region_held3 (fun w' => w'.cell? ⟨w.heap.size, 0, none⟩ = some (.int .i64 k0) ∧ w'.cell? ⟨w.heap.size, 1, none⟩ = some (.slice ah H.2.length ch) ∧ w'.cell? ⟨g, 2, none⟩ = some (.slice (some ⟨bx, ox, none⟩) o.vals.length cv3) ∧ w'.cell? ⟨bx, ox + j, none⟩ = some (.int .u64 x)) (first | exact HSW.out _ B8.out | exact ⟨y0, y1, q2, cx1⟩ | (simp [go_sem, *]; done)) (first
            | (go_at_call 39; refine (HFX.out _ _ (by repeat (first | exact Bw.trans B7.out BR.out | apply Bw.drew)) (IN.out.below (by repeat (first | exact BR.out | apply Bw.drew)))).mono ?_; rintro e w8 ⟨rfl, hb8⟩; have B8 := hid (Bw.trans (a := wr) (by repeat (first | exact Bw.refl _ | apply Bw.lay | apply Bw.alloc | apply Bw.drewN | apply Bw.drew)) hb8); clear hb8)
            | fail)
          go_wp2
          go_roundw
          case rel => exact ⟨j + 1, S ++ (btwL j ++ ([] ++ f x)), by omega, by rw [HPF.out], by go_num, HNL.out, by rw [List.nil_append]; exact HRS.out, Bw.trans BR.out B8.out⟩
          case measure => simp [intOf]; omega
      · have tS : decide (((strOfNums S).size : Int) ≤ 65536) = false := decide_eq_false (by omega)
        have hRS2 : R = S := by
          cases hd : L.drop j with
          | nil => rw [hd, dlp] at hRS; exact hRS
          | cons q r => rw [hd, dlp, if_neg hS] at hRS; exact hRS
        subst hRS2
        have hadd : ∀ w, (Op.stringOp .add (strOfNums R) ⟨#[93]⟩).run Tryz.prog w = .ok (.string (strOfNums (R ++ [93]))) w := fun w => by
          rw [← strOf_app4]; exact run_string_add_sum (P := Tryz.prog) w (strOfNums R) ⟨#[93]⟩ (by show (strOfNums R).size + 1 ≤ _; omega)
        have hap : (strOfNums R ++ ⟨#[93]⟩ : ByteArray) = strOfNums (R ++ [93]) := by rw [← strOf_app4]; rfl
        have n1 : ¬ (9223372036854775807 < (strOfNums R).size + 1) := by omega
        clear KBr KAr OLr hRS
        obtain ⟨pf, hpf⟩ : ∃ pf, strOfNums (R ++ [93]) = pf := ⟨_, rfl⟩
        rw [hpf] at hadd hap
        have HPZ := hid hpf
        clear hpf
        generalize strOfNums R = p0 at hadd hap hsz tS n1 ⊢
        go_wp2
        all_goals go_ret
        all_goals exact ⟨by rw [HPZ.out]; rfl, Bw.trans B7.out BR.out⟩
    · have hn1 : ¬ ((j : Int) < (o.vals.length : Int)) := by omega
      have hRS2 : R = S := by
        rw [List.drop_eq_nil_of_le (by rw [HLN.out]; omega), dlp] at hRS
        exact hRS
      subst hRS2
      have hadd : ∀ w, (Op.stringOp .add (strOfNums R) ⟨#[93]⟩).run Tryz.prog w = .ok (.string (strOfNums (R ++ [93]))) w := fun w => by
        rw [← strOf_app4]; exact run_string_add_sum (P := Tryz.prog) w (strOfNums R) ⟨#[93]⟩ (by show (strOfNums R).size + 1 ≤ _; omega)
      have hap : (strOfNums R ++ ⟨#[93]⟩ : ByteArray) = strOfNums (R ++ [93]) := by rw [← strOf_app4]; rfl
      have n1 : ¬ (9223372036854775807 < (strOfNums R).size + 1) := by omega
      clear KBr KAr OLr hRS
      obtain ⟨pf, hpf⟩ : ∃ pf, strOfNums (R ++ [93]) = pf := ⟨_, rfl⟩
      rw [hpf] at hadd hap
      have HPZ := hid hpf
      clear hpf
      generalize strOfNums R = p0 at hadd hap hsz n1 ⊢
      go_wp2
      all_goals go_ret
      all_goals exact ⟨by rw [HPZ.out]; rfl, Bw.trans B7.out BR.out⟩

end Go.Proofs.YtlhgdknmgdohkaaGreatDoor

