/- Whether two words are alike: the document's deep, a pair that is new. -/
import Derived.Test.YtlhgdknmgdohkaaGreatDoorK17
set_option linter.unusedSimpArgs false
set_option linter.unusedVariables false
namespace Go.Proofs.YtlhgdknmgdohkaaGreatDoor
open Go Go.RowKit

set_option maxRecDepth 100000 in
set_option maxHeartbeats 40000000 in
theorem vdeep_new {k0 : Int} {ah : Option Addr} {ch : Nat} {H : AHeap} {sb f : Nat} (hok : HOK H) (hbr : Bare H) (hn : Neat H) (hm : H.2.length ≤ 1000000) (hv : Vdk k0 ah ch H sb f) : Vnew k0 ah ch H sb f := by
  intro Ms va vb a b w ha hb h5 hfu h h1 h2 h3 h4 r hr0 hr1
  have HI := hid h
  have HA := hid ha
  have HB := hid hb
  have HM := hid hm
  have H4 := hid h4
  have H5 := hid h5
  have HV := hid hv
  have HFU := hid hfu
  have HR0 := hid hr0
  have HR1 := hid hr1
  have hml : Ms.length ≤ 1000000 := by omega
  obtain ⟨aa, ca, rfl⟩ := own_form h.oa
  obtain ⟨ab, cb, rfl⟩ := own_form h.ob
  have hq : ∀ w1, Bw w w1 → Calls Tryz.prog 13 #[.agg #[.int .i64 k0, .slice ah H.2.length ch], .int .u64 a, .int .u64 b] w1 fun e w' => e = .returned (.bool (eqW H a b)) ∧ Bw w1 w' := fun w1 hb1 => requal_any (fun b => b < sb) k0 ah ch H a b ha hb w1 (h.rd.below hb1) hok hbr hm
  rw [h1] at hq
  have HEQ := hid hq
  have hcs : Hid (((kk H a != 2) = false) ∨ ((kk H a != 2) = true ∧ (kk H a != 3) = false) ∨ ((kk H a != 2) = true ∧ (kk H a != 3) = true ∧ (kk H a != 4) = false)) := by
    rcases h3 with e | e | e <;> rw [e] <;> exact hid (by decide)
  have H2 := hid h2
  have H3 := hid h3
  have HOK' := hid hok
  have HN := hid hn
  clear h ha hb hok hbr hm hq h4 h3 h5 hv hfu hr0 hr1 hn h2
  go_enter Tryz.func32, Tryz.ntmps32
  go_upto_region 4 with (first
    | (go_at_call 13; refine (HEQ.out _ (Bw.alloc (Bw.refl _) _)).mono ?_; rintro e w1 ⟨rfl, hb1⟩; have yk := (Blk.new w #[.int .i64 k0, .slice ah H.2.length ch] 32).bw hb1; have y0 : w1.cell? ⟨w.heap.size, 0, none⟩ = some (.int .i64 k0) := yk.cell 0; have y1 : w1.cell? ⟨w.heap.size, 1, none⟩ = some (.slice ah H.2.length ch) := yk.cell 1; have yl := yk.lt; have F1 := hid (Bw.trans (Bw.alloc (Bw.refl _) _) hb1); have YK := hid yk; clear hb1 yk)
    | (go_at_call_of 20 (Value.int .u64 a); refine (rkindH_any (fun b => b < sb) _ H _ HA.out _ ((HI.out.bw F1.out).rd.below (by repeat (first | exact Bw.refl _ | apply Bw.lay | apply Bw.alloc | apply Bw.drewN | apply Bw.drew))) (by have := HM.out; omega)).mono ?_; rintro e w' ⟨rfl, os1, m1, rfl⟩)
    | fail)
  go_cut [41] (fun c wc => c = .bool false ∧ Bw w wc ∧ Blk wc w.heap.size #[.int .i64 k0, .slice ah H.2.length ch] 32)
  case first =>
    have h2 := H2.out
    rcases hcs.out with c2 | ⟨c2, c3⟩ | ⟨c2, c3, c4⟩
    all_goals
      go_wp2_with (first
        | (go_at_call_of 20 (Value.int .u64 b); refine (rkindH_any (fun b => b < sb) _ H _ HB.out _ ((HI.out.bw F1.out).rd.below (by repeat (first | exact Bw.refl _ | apply Bw.lay | apply Bw.alloc | apply Bw.drewN | apply Bw.drew))) (by have := HM.out; omega)).mono ?_; rintro e w' ⟨rfl, os2, m2, rfl⟩)
        | fail)
      go_meet
      exact ⟨rfl, by repeat (first | exact F1.out | apply Bw.lay | apply Bw.alloc | apply Bw.drewN | apply Bw.drew), by repeat (first | exact YK.out | apply Blk.layAt | apply Blk.drw)⟩
  case rest =>
    obtain ⟨rfl, hbc, hbxc⟩ := hcut
    have HBC := hid hbc
    have HBXC := hid hbxc
    clear hbc hbxc hcs F1 YK y0 y1 yl
    go_wp2_with fail
    go_loopw [10] (fun j wr => ∃ k : Nat, k ≤ Ms.length ∧ j = .int .i64 k ∧ Bw w wr ∧ Blk wr w.heap.size #[.int .i64 k0, .slice ah H.2.length ch] 32) (fun j _ => Ms.length - (intOf j).toNat)
    case atStart => exact ⟨0, Nat.zero_le _, rfl, HBC.out, HBXC.out⟩
    case round =>
    obtain ⟨k, hk, rfl, hbk, hbx⟩ := hrel
    have HBX := hid hbx
    clear hbx
    have hdi := HI.out.bw hbk
    have z0 : wr.cell? ⟨sb, 0, none⟩ = some (.slice aa Ms.length ca) := hdi.k.cell 0
    have z1 : wr.cell? ⟨sb, 1, none⟩ = some (.slice ab Ms.length cb) := hdi.k.cell 1
    by_cases hlt : k < Ms.length
    · obtain ⟨g, o, rfl, hg, hcell⟩ := (own_sl (G := fun _ => True) hdi.oa (fun _ _ => trivial)).at hlt
      obtain ⟨g', o', rfl, hg', hcell'⟩ := (own_sl (G := fun _ => True) hdi.ob (fun _ _ => trivial)).at hlt
      have hc1 : wr.cell? ⟨g, o + k, none⟩ = some (.int .u64 Ms[k].1) := by rw [hcell]; simp [hlt]
      have hc2 : wr.cell? ⟨g', o' + k, none⟩ = some (.int .u64 Ms[k].2) := by rw [hcell']; simp [hlt]
      have hb1 : (0 : Int) ≤ (k : Int) := by omega
      have hb2 : (k : Int) < (Ms.length : Int) := by omega
      have HBK := hid hbk
      have hpn : Ms[k] ≠ (a, b) := fun e => H4.out (e ▸ List.getElem_mem hlt)
      clear hbk hdi hcell hcell'
      generalize Ms[k] = p at hc1 hc2 hpn
      obtain ⟨p1, p2⟩ := p
      simp only at hc1 hc2
      by_cases e1 : p1 = a
      · have t1 : (p1 == a) = true := by simpa using e1
        have t2 : (p2 == b) = false := by
          rw [beq_eq_false_iff_ne]
          exact fun e2 => hpn (by rw [e1, e2])
        clear e1 hpn
        go_wp2
        go_roundw
        case rel => exact ⟨k + 1, by omega, by go_num, HBK.out, HBX.out⟩
        case measure => simp [intOf]; omega
      · have t1 : (p1 == a) = false := by simpa using e1
        clear e1 hpn
        go_wp2
        go_roundw
        case rel => exact ⟨k + 1, by omega, by go_num, HBK.out, HBX.out⟩
        case measure => simp [intOf]; omega
    · have zl := hdi.k.lt
      have hn0 : ¬ ((k : Int) < (Ms.length : Int)) := by omega
      have hn1 : ((Ms.length : Int) == 65536) = false := by rw [beq_eq_false_iff_ne]; have := H5.out; omega
      have zf0 := hdi.k.free 0
      have zf1 := hdi.k.free 1
      have HJ := hid hdi.dj
      have HDI := hid hdi
      have HBK := hid (DS.of_bw (sb := sb) (va := .slice aa Ms.length ca) (vb := .slice ab Ms.length cb) hbk)
      have HOA : Hid (∀ w1, Bw wr w1 → w1.ownsRow 0 27 1 (.slice aa Ms.length ca) Ms.length ((Ms.map Prod.fst).map (Value.int .u64))) := fun w1 hb => own_base (by simpa using own_bw HJ.out.oa hb) (Nat.zero_le _)
      have HLA : Hid (∀ g, (Value.slice aa Ms.length ca).ownBlock = some g → g < wr.heap.size) := fun g e => own_lt HJ.out.oa e
      obtain ⟨i1, hi1, hz1, hs1, hy1⟩ := info_parts infoV
      have I1 := hid (And.intro hi1 (And.intro hz1 (And.intro hs1 hy1)))
      clear hdi hbk hi1 hz1 hs1 hy1
      go_upto_region 14 with fail
      go_cut [80] (fun _ wc => ∃ va' vb', DI wc k0 ah ch H sb va' vb' (Ms ++ [(a, b)]) false ∧ DS sb w (.slice aa Ms.length ca) (.slice ab Ms.length cb) wc va' vb' ∧ Blk wc w.heap.size #[.int .i64 k0, .slice ah H.2.length ch] 32)
      case first =>
        as_aux_lemma =>
          refine wp_region_W (fun w' => w'.cell? ⟨sb, 0, none⟩ = some (.slice aa Ms.length ca) ∧ w'.cell? ⟨sb, 1, none⟩ = some (.slice ab Ms.length cb)) (fun j => if j == 7 || j == 8 || j == 14 || j == 15 then 0 else if j == 18 || j == 21 then 2 else 1) (by kernel_rfl) ?_
          have HS0 : Hid (wr.drew.cell? ⟨sb, 0, none⟩ = some (.slice aa Ms.length ca) ∧ wr.drew.cell? ⟨sb, 1, none⟩ = some (.slice ab Ms.length cb)) := ⟨z0, z1⟩
          refine wpAnyW_take (i := 0) (oi := { dst := some 80, op := Op.move (Operand.tmp 1), type := 79, pos := "ref.go:67", after := #[], guard := none }) (v := (.pointer (some ⟨sb, 0, none⟩))) rfl (by kernel_rfl) (by kernel_rfl) (by kernel_rfl) (by kernel_rfl) (fun _ _ _ h => h) (Or.inl ⟨by rfl, fun w _ => ?_⟩) ?_
          · go_simp
          try simp only [Act.put, List.setIfInBounds_toArray, List.set_cons_zero, List.set_cons_succ]
          refine wpAnyW_take (i := 1) (oi := { dst := some 81, op := Op.move (Operand.tmp 1), type := 79, pos := "ref.go:67", after := #[{ on := 18, ground := Ground.gcOnly Departure.lateStores }], guard := none }) (v := (.pointer (some ⟨sb, 0, none⟩))) rfl (by kernel_rfl) (by kernel_rfl) (by kernel_rfl) (by kernel_rfl) (fun _ _ _ h => h) (Or.inl ⟨by rfl, fun w _ => ?_⟩) ?_
          · go_simp
          try simp only [Act.put, List.setIfInBounds_toArray, List.set_cons_zero, List.set_cons_succ]
          refine wpAnyW_take (i := 2) (oi := { dst := some 82, op := Op.move (Operand.tmp 1), type := 79, pos := "ref.go:67", after := #[], guard := none }) (v := (.pointer (some ⟨sb, 0, none⟩))) rfl (by kernel_rfl) (by kernel_rfl) (by kernel_rfl) (by kernel_rfl) (fun _ _ _ h => h) (Or.inl ⟨by rfl, fun w _ => ?_⟩) ?_
          · go_simp
          try simp only [Act.put, List.setIfInBounds_toArray, List.set_cons_zero, List.set_cons_succ]
          refine wpAnyW_take (i := 3) (oi := { dst := some 83, op := Op.nilCheck (Operand.tmp 82), type := 0, pos := "ref.go:67", after := #[{ on := 2, ground := Ground.data }], guard := none }) (v := (.pointer (some ⟨sb, 0, none⟩))) rfl (by kernel_rfl) (by kernel_rfl) (by kernel_rfl) (by kernel_rfl) (fun _ _ _ h => h) (Or.inl ⟨by rfl, fun w _ => ?_⟩) ?_
          · go_simp
          try simp only [Act.put, List.setIfInBounds_toArray, List.set_cons_zero, List.set_cons_succ]
          refine wpAnyW_take (i := 4) (oi := { dst := some 84, op := Op.fieldAddr 81 (Operand.tmp 83) 0, type := 0, pos := "ref.go:67", after := #[{ on := 3, ground := Ground.data }], guard := none }) (v := (.pointer (some ⟨sb, 0, none⟩))) rfl (by kernel_rfl) (by kernel_rfl) (by kernel_rfl) (by kernel_rfl) (fun _ _ _ h => h) (Or.inl ⟨by rfl, fun w _ => ?_⟩) ?_
          · go_simp
          try simp only [Act.put, List.setIfInBounds_toArray, List.set_cons_zero, List.set_cons_succ]
          refine wpAnyW_load (i := 5) (oi := { dst := some 85, op := Op.load 50 (Operand.tmp 84), type := 50, pos := "ref.go:67", after := #[{ on := 4, ground := Ground.data }], guard := none }) (v := (.slice aa Ms.length ca)) rfl (by kernel_rfl) (by kernel_rfl) (by kernel_rfl) (by kernel_rfl) (by kernel_rfl) (fun _ _ _ h => h) (Or.inl ⟨by rfl, fun w hS => ?_⟩) HS0.out ?_
          · (obtain ⟨hs0, hs1⟩ := hS; go_simp)
          try simp only [Act.put, List.setIfInBounds_toArray, List.set_cons_zero, List.set_cons_succ]
          refine wpAnyW_take (i := 6) (oi := { dst := some 86, op := Op.move (Operand.tmp 2), type := 27, pos := "ref.go:67", after := #[], guard := none }) (v := (.int .u64 a)) rfl (by kernel_rfl) (by kernel_rfl) (by kernel_rfl) (by kernel_rfl) (fun _ _ _ h => h) (Or.inl ⟨by rfl, fun w _ => ?_⟩) ?_
          · go_simp
          try simp only [Act.put, List.setIfInBounds_toArray, List.set_cons_zero, List.set_cons_succ]
          refine wpAnyW_take (i := 9) (oi := { dst := some 89, op := Op.move (Operand.tmp 1), type := 79, pos := "ref.go:67", after := #[], guard := none }) (v := (.pointer (some ⟨sb, 0, none⟩))) rfl (by kernel_rfl) (by kernel_rfl) (by kernel_rfl) (by kernel_rfl) (fun _ _ _ h => h) (Or.inl ⟨by rfl, fun w _ => ?_⟩) ?_
          · go_simp
          try simp only [Act.put, List.setIfInBounds_toArray, List.set_cons_zero, List.set_cons_succ]
          refine wpAnyW_take (i := 10) (oi := { dst := some 90, op := Op.nilCheck (Operand.tmp 89), type := 0, pos := "ref.go:67", after := #[{ on := 9, ground := Ground.data }], guard := none }) (v := (.pointer (some ⟨sb, 0, none⟩))) rfl (by kernel_rfl) (by kernel_rfl) (by kernel_rfl) (by kernel_rfl) (fun _ _ _ h => h) (Or.inl ⟨by rfl, fun w _ => ?_⟩) ?_
          · go_simp
          try simp only [Act.put, List.setIfInBounds_toArray, List.set_cons_zero, List.set_cons_succ]
          refine wpAnyW_take (i := 11) (oi := { dst := some 91, op := Op.fieldAddr 81 (Operand.tmp 90) 1, type := 0, pos := "ref.go:67", after := #[{ on := 10, ground := Ground.data }], guard := none }) (v := (.pointer (some ⟨sb, 1, none⟩))) rfl (by kernel_rfl) (by kernel_rfl) (by kernel_rfl) (by kernel_rfl) (fun _ _ _ h => h) (Or.inl ⟨by rfl, fun w _ => ?_⟩) ?_
          · go_simp
          try simp only [Act.put, List.setIfInBounds_toArray, List.set_cons_zero, List.set_cons_succ]
          refine wpAnyW_load (i := 12) (oi := { dst := some 92, op := Op.load 50 (Operand.tmp 91), type := 50, pos := "ref.go:67", after := #[{ on := 11, ground := Ground.data }], guard := none }) (v := (.slice ab Ms.length cb)) rfl (by kernel_rfl) (by kernel_rfl) (by kernel_rfl) (by kernel_rfl) (by kernel_rfl) (fun _ _ _ h => h) (Or.inl ⟨by rfl, fun w hS => ?_⟩) HS0.out ?_
          · (obtain ⟨hs0, hs1⟩ := hS; go_simp)
          try simp only [Act.put, List.setIfInBounds_toArray, List.set_cons_zero, List.set_cons_succ]
          refine wpAnyW_take (i := 13) (oi := { dst := some 93, op := Op.move (Operand.tmp 3), type := 27, pos := "ref.go:67", after := #[], guard := none }) (v := (.int .u64 b)) rfl (by kernel_rfl) (by kernel_rfl) (by kernel_rfl) (by kernel_rfl) (fun _ _ _ h => h) (Or.inl ⟨by rfl, fun w _ => ?_⟩) ?_
          · go_simp
          try simp only [Act.put, List.setIfInBounds_toArray, List.set_cons_zero, List.set_cons_succ]
          refine wpAnyW_ready (rs := [7, 14]) (by kernel_rfl) (by simp) ?_
          refine (AllReadyW.cons (o := { dst := some 87, op := Op.buildSlice 50 1 #[(0, Operand.tmp 86)], type := 50, pos := "ref.go:67", after := #[{ on := 6, ground := Ground.data }], guard := none }) rfl (fun K hK => ?_) (AllReadyW.cons (o := { dst := some 94, op := Op.buildSlice 50 1 #[(0, Operand.tmp 93)], type := 50, pos := "ref.go:67", after := #[{ on := 13, ground := Ground.data }], guard := none }) rfl (fun K hK => ?_) AllReadyW.nil))
          · skip
            go_simp
            refine hK.out _ _ (show _ ∧ _ from ⟨by simp [go_sem, *], by simp [go_sem, *]⟩) ?_
            clear hK K
            try simp only [Act.put, List.setIfInBounds_toArray, List.set_cons_zero, List.set_cons_succ]
            refine wpAnyW_ready (rs := [8, 14]) (by kernel_rfl) (by simp) ?_
            refine (AllReadyW.cons (o := { dst := some 88, op := Op.call { callee := Callee.builtin Builtin.append, args := #[Operand.tmp 85, Operand.tmp 87], argTypes := #[50, 50] }, type := 50, pos := "ref.go:67", after := #[{ on := 5, ground := Ground.data }, { on := 7, ground := Ground.data }], guard := none }) rfl (fun K hK => ?_) (AllReadyW.cons (o := { dst := some 94, op := Op.buildSlice 50 1 #[(0, Operand.tmp 93)], type := 50, pos := "ref.go:67", after := #[{ on := 13, ground := Ground.data }], guard := none }) rfl (fun K hK => ?_) AllReadyW.nil))
            · as_aux_lemma =>
                refine step_append_row (by rfl) (.tmp 85) (.tmp 87) 50 (by rfl) 27 i1 _ 1 8 Tryz.underlying50 I1.out.1 I1.out.2.1 I1.out.2.2.1 I1.out.2.2.2 (by rfl) (by decide) (.slice aa Ms.length ca) Ms.length _ (by rfl) (HOA.out _ (by repeat (first | exact Bw.refl _ | apply Bw.lay | apply Bw.alloc | apply Bw.drewN | apply Bw.drew))) _ 1 1 [.int .u64 a] (by rfl) (by rfl) (new_cells (cur := #[.int .u64 a]) (e := 27) (by first | exact Blk.newAt (by simp) | exact Blk.drw (Blk.newAt (by simp)) | exact Blk.alloc (Blk.newAt (by simp)) _ | exact Blk.alloc (Blk.drw (Blk.newAt (by simp))) _) rfl) (by intro u hu; rw [List.mem_singleton] at hu; subst hu; rfl) (by unfold maxLen; omega) (by omega) ?_
                intro va5 w5 ho5 hg5 hv5
                obtain ⟨a5, c5, e5⟩ := own_form ho5
                subst e5
                obtain ⟨hj5, hd5⟩ := (HJ.out.bw (by repeat (first | exact Bw.refl _ | apply Bw.lay | apply Bw.alloc | apply Bw.drewN | apply Bw.drew))).pushA (by simpa using ho5) hg5 hv5
                have q0 : w5.cell? ⟨sb, 0, none⟩ = some (.slice aa Ms.length ca) := hj5.k.cell 0
                have q1 : w5.cell? ⟨sb, 1, none⟩ = some (.slice ab Ms.length cb) := hj5.k.cell 1
                have ql := hj5.k.lt
                have HJ5 := hid hj5
                have HD5 := hid (DS.trans (DS.of_bw (w := wr) (by repeat (first | exact Bw.refl _ | apply Bw.lay | apply Bw.alloc | apply Bw.drewN | apply Bw.drew))) hd5)
                have HG5 := hid hg5
                have HOB := hid (fun (w1 : World) (hb : Bw w5 w1) => (own_base (by simpa using own_bw hj5.ob hb) (Nat.zero_le _) : w1.ownsRow 0 27 1 (.slice ab Ms.length cb) Ms.length ((Ms.map Prod.snd).map (Value.int .u64))))
                clear ho5 hg5 hv5 hj5 hd5
                refine hK.out _ _ ⟨q0, q1⟩ ?_
                clear hK K
                try simp only [Act.put, List.setIfInBounds_toArray, List.set_cons_zero, List.set_cons_succ]
                refine wpAnyW_ready (rs := [14]) (by kernel_rfl) (by simp) ?_
                refine (AllReadyW.cons (o := { dst := some 94, op := Op.buildSlice 50 1 #[(0, Operand.tmp 93)], type := 50, pos := "ref.go:67", after := #[{ on := 13, ground := Ground.data }], guard := none }) rfl (fun K hK => ?_) AllReadyW.nil)
                go_simp
                refine hK.out _ _ (show _ ∧ _ from ⟨by simp [go_sem, *], by simp [go_sem, *]⟩) ?_
                clear hK K
                try simp only [Act.put, List.setIfInBounds_toArray, List.set_cons_zero, List.set_cons_succ]
                refine wpAnyW_ready (rs := [15]) (by kernel_rfl) (by simp) ?_
                refine (AllReadyW.cons (o := { dst := some 95, op := Op.call { callee := Callee.builtin Builtin.append, args := #[Operand.tmp 92, Operand.tmp 94], argTypes := #[50, 50] }, type := 50, pos := "ref.go:67", after := #[{ on := 12, ground := Ground.data }, { on := 14, ground := Ground.data }, { on := 8, ground := Ground.chain }], guard := none }) rfl (fun K hK => ?_) AllReadyW.nil)
                refine step_append_row (by rfl) (.tmp 92) (.tmp 94) 50 (by rfl) 27 i1 _ 1 8 Tryz.underlying50 I1.out.1 I1.out.2.1 I1.out.2.2.1 I1.out.2.2.2 (by rfl) (by decide) (.slice ab Ms.length cb) Ms.length _ (by rfl) (HOB.out _ (by repeat (first | exact Bw.refl _ | apply Bw.lay | apply Bw.alloc | apply Bw.drewN | apply Bw.drew))) _ 1 1 [.int .u64 b] (by rfl) (by rfl) (new_cells (cur := #[.int .u64 b]) (e := 27) (by exact Blk.newAt (by simp)) rfl) (by intro u hu; rw [List.mem_singleton] at hu; subst hu; rfl) (by unfold maxLen; omega) (by omega) ?_
                intro vb7 w7 ho7 hg7 hv7
                obtain ⟨a7, c7, e7⟩ := own_form ho7
                subst e7
                obtain ⟨hj7, hd7⟩ := (HJ5.out.bw (by repeat (first | exact Bw.refl _ | apply Bw.lay | apply Bw.alloc | apply Bw.drewN | apply Bw.drew))).pushB (by simpa using ho7) hg7 hv7
                have r0 : w7.cell? ⟨sb, 0, none⟩ = some (.slice aa Ms.length ca) := hj7.k.cell 0
                have r1 : w7.cell? ⟨sb, 1, none⟩ = some (.slice ab Ms.length cb) := hj7.k.cell 1
                have r0f := hj7.k.free 0
                have r1f := hj7.k.free 1
                have rl := hj7.k.lt
                have HJ7 : Hid (DJ w7 k0 ah ch H sb (.slice aa Ms.length ca) (.slice ab Ms.length cb) (.slice a5 (Ms.length + 1) c5) (.slice a7 (Ms.length + 1) c7) ((Ms ++ [(a, b)]).map Prod.fst) ((Ms ++ [(a, b)]).map Prod.snd) false) := (by show DJ w7 _ _ _ _ _ _ _ _ _ _ _ _; simpa using hj7)
                have HD7 := hid (HD5.out.trans (DS.trans (DS.of_bw (by repeat (first | exact Bw.refl _ | apply Bw.lay | apply Bw.alloc | apply Bw.drewN | apply Bw.drew))) hd7))
                clear ho7 hg7 hv7 hj7 hd7
                refine hK.out _ _ ⟨r0, r1⟩ ?_
                clear hK K
                try simp only [Act.put, List.setIfInBounds_toArray, List.set_cons_zero, List.set_cons_succ]
                refine wpAnyW_take (i := 16) (oi := { dst := some 96, op := Op.nilCheck (Operand.tmp 80), type := 0, pos := "ref.go:67", after := #[{ on := 0, ground := Ground.data }, { on := 0, ground := Ground.phase }, { on := 1, ground := Ground.textOnly Departure.lateStores }, { on := 2, ground := Ground.phase }, { on := 3, ground := Ground.phase }, { on := 4, ground := Ground.phase }, { on := 5, ground := Ground.phase }, { on := 6, ground := Ground.phase }, { on := 7, ground := Ground.phase }, { on := 8, ground := Ground.phase }, { on := 9, ground := Ground.textOnly Departure.lateStores }, { on := 10, ground := Ground.textOnly Departure.lateStoresUnsure }, { on := 11, ground := Ground.textOnly Departure.lateStoresUnsure }, { on := 12, ground := Ground.phase }, { on := 13, ground := Ground.textOnly Departure.lateStores }, { on := 14, ground := Ground.textOnly Departure.lateStoresUnsure }, { on := 15, ground := Ground.phase }], guard := none }) (v := (.pointer (some ⟨sb, 0, none⟩))) rfl (by kernel_rfl) (by kernel_rfl) (by kernel_rfl) (by kernel_rfl) (fun _ _ _ h => h) (Or.inl ⟨by rfl, fun w _ => ?_⟩) ?_
                · go_simp
                try simp only [Act.put, List.setIfInBounds_toArray, List.set_cons_zero, List.set_cons_succ]
                refine wpAnyW_take (i := 17) (oi := { dst := some 97, op := Op.fieldAddr 81 (Operand.tmp 96) 0, type := 0, pos := "ref.go:67", after := #[{ on := 16, ground := Ground.data }, { on := 0, ground := Ground.phase }, { on := 1, ground := Ground.textOnly Departure.lateStores }, { on := 2, ground := Ground.phase }, { on := 3, ground := Ground.phase }, { on := 4, ground := Ground.phase }, { on := 5, ground := Ground.phase }, { on := 6, ground := Ground.phase }, { on := 7, ground := Ground.phase }, { on := 8, ground := Ground.phase }, { on := 9, ground := Ground.textOnly Departure.lateStores }, { on := 10, ground := Ground.textOnly Departure.lateStoresUnsure }, { on := 11, ground := Ground.textOnly Departure.lateStoresUnsure }, { on := 12, ground := Ground.phase }, { on := 13, ground := Ground.textOnly Departure.lateStores }, { on := 14, ground := Ground.textOnly Departure.lateStoresUnsure }, { on := 15, ground := Ground.phase }], guard := none }) (v := (.pointer (some ⟨sb, 0, none⟩))) rfl (by kernel_rfl) (by kernel_rfl) (by kernel_rfl) (by kernel_rfl) (fun _ _ _ h => h) (Or.inl ⟨by rfl, fun w _ => ?_⟩) ?_
                · go_simp
                try simp only [Act.put, List.setIfInBounds_toArray, List.set_cons_zero, List.set_cons_succ]
                refine wpAnyW_ready (rs := [18]) (by kernel_rfl) (by simp) ?_
                refine (AllReadyW.cons (o := { dst := none, op := Op.store 50 (Operand.tmp 97) (Operand.tmp 88), type := 0, pos := "ref.go:67", after := #[{ on := 17, ground := Ground.data }, { on := 8, ground := Ground.data }, { on := 15, ground := Ground.chain }, { on := 0, ground := Ground.phase }, { on := 1, ground := Ground.textOnly Departure.lateStores }, { on := 2, ground := Ground.phase }, { on := 3, ground := Ground.phase }, { on := 4, ground := Ground.phase }, { on := 5, ground := Ground.phase }, { on := 6, ground := Ground.phase }, { on := 7, ground := Ground.phase }, { on := 8, ground := Ground.phase }, { on := 9, ground := Ground.textOnly Departure.lateStores }, { on := 10, ground := Ground.textOnly Departure.lateStoresUnsure }, { on := 11, ground := Ground.textOnly Departure.lateStoresUnsure }, { on := 12, ground := Ground.phase }, { on := 13, ground := Ground.textOnly Departure.lateStores }, { on := 14, ground := Ground.textOnly Departure.lateStoresUnsure }, { on := 15, ground := Ground.phase }], guard := none }) rfl (fun K hK => ?_) AllReadyW.nil)
                go_simp
                refine hK.out _ _ trivial ?_
                clear hK K
                try simp only [Act.put, List.setIfInBounds_toArray, List.set_cons_zero, List.set_cons_succ]
                refine wpAnyW_take (i := 19) (oi := { dst := some 98, op := Op.nilCheck (Operand.tmp 81), type := 0, pos := "ref.go:67", after := #[{ on := 1, ground := Ground.data }, { on := 0, ground := Ground.phase }, { on := 1, ground := Ground.phase }, { on := 2, ground := Ground.phase }, { on := 3, ground := Ground.phase }, { on := 4, ground := Ground.phase }, { on := 5, ground := Ground.phase }, { on := 6, ground := Ground.phase }, { on := 7, ground := Ground.phase }, { on := 8, ground := Ground.phase }, { on := 9, ground := Ground.phase }, { on := 10, ground := Ground.phase }, { on := 11, ground := Ground.phase }, { on := 12, ground := Ground.phase }, { on := 13, ground := Ground.phase }, { on := 14, ground := Ground.phase }, { on := 15, ground := Ground.phase }, { on := 16, ground := Ground.phase }, { on := 17, ground := Ground.phase }, { on := 18, ground := Ground.phase }], guard := none }) (v := (.pointer (some ⟨sb, 0, none⟩))) rfl (by kernel_rfl) (by kernel_rfl) (by kernel_rfl) (by kernel_rfl) (fun _ _ _ h => h) (Or.inl ⟨by rfl, fun w _ => ?_⟩) ?_
                · go_simp
                try simp only [Act.put, List.setIfInBounds_toArray, List.set_cons_zero, List.set_cons_succ]
                refine wpAnyW_take (i := 20) (oi := { dst := some 99, op := Op.fieldAddr 81 (Operand.tmp 98) 1, type := 0, pos := "ref.go:67", after := #[{ on := 19, ground := Ground.data }, { on := 0, ground := Ground.phase }, { on := 1, ground := Ground.phase }, { on := 2, ground := Ground.phase }, { on := 3, ground := Ground.phase }, { on := 4, ground := Ground.phase }, { on := 5, ground := Ground.phase }, { on := 6, ground := Ground.phase }, { on := 7, ground := Ground.phase }, { on := 8, ground := Ground.phase }, { on := 9, ground := Ground.phase }, { on := 10, ground := Ground.phase }, { on := 11, ground := Ground.phase }, { on := 12, ground := Ground.phase }, { on := 13, ground := Ground.phase }, { on := 14, ground := Ground.phase }, { on := 15, ground := Ground.phase }, { on := 16, ground := Ground.phase }, { on := 17, ground := Ground.phase }, { on := 18, ground := Ground.phase }], guard := none }) (v := (.pointer (some ⟨sb, 1, none⟩))) rfl (by kernel_rfl) (by kernel_rfl) (by kernel_rfl) (by kernel_rfl) (fun _ _ _ h => h) (Or.inl ⟨by rfl, fun w _ => ?_⟩) ?_
                · go_simp
                try simp only [Act.put, List.setIfInBounds_toArray, List.set_cons_zero, List.set_cons_succ]
                refine wpAnyW_ready (rs := [21]) (by kernel_rfl) (by simp) ?_
                refine (AllReadyW.cons (o := { dst := none, op := Op.store 50 (Operand.tmp 99) (Operand.tmp 95), type := 0, pos := "ref.go:67", after := #[{ on := 20, ground := Ground.data }, { on := 15, ground := Ground.data }, { on := 18, ground := Ground.chain }, { on := 0, ground := Ground.phase }, { on := 1, ground := Ground.phase }, { on := 2, ground := Ground.phase }, { on := 3, ground := Ground.phase }, { on := 4, ground := Ground.phase }, { on := 5, ground := Ground.phase }, { on := 6, ground := Ground.phase }, { on := 7, ground := Ground.phase }, { on := 8, ground := Ground.phase }, { on := 9, ground := Ground.phase }, { on := 10, ground := Ground.phase }, { on := 11, ground := Ground.phase }, { on := 12, ground := Ground.phase }, { on := 13, ground := Ground.phase }, { on := 14, ground := Ground.phase }, { on := 15, ground := Ground.phase }, { on := 16, ground := Ground.phase }, { on := 17, ground := Ground.phase }, { on := 18, ground := Ground.phase }], guard := none }) rfl (fun K hK => ?_) AllReadyW.nil)
                go_simp
                refine hK.out _ _ trivial ?_
                clear hK K
                try simp only [Act.put, List.setIfInBounds_toArray, List.set_cons_zero, List.set_cons_succ]
                refine wpAnyW_done (by kernel_rfl) ?_ _
                go_wp2
                go_meet
                exact ⟨_, _, HJ7.out.done.1, HBK.out.trans (HD7.out.trans HJ7.out.done.2), HBX.out.ds HDI.out (HD7.out.trans HJ7.out.done.2) (by decide) (by decide)⟩
            · as_aux_lemma =>
                go_simp
                refine hK.out _ _ (show _ ∧ _ from ⟨by simp [go_sem, *], by simp [go_sem, *]⟩) ?_
                clear hK K
                try simp only [Act.put, List.setIfInBounds_toArray, List.set_cons_zero, List.set_cons_succ]
                refine wpAnyW_ready (rs := [8]) (by kernel_rfl) (by simp) ?_
                refine (AllReadyW.cons (o := { dst := some 88, op := Op.call { callee := Callee.builtin Builtin.append, args := #[Operand.tmp 85, Operand.tmp 87], argTypes := #[50, 50] }, type := 50, pos := "ref.go:67", after := #[{ on := 5, ground := Ground.data }, { on := 7, ground := Ground.data }], guard := none }) rfl (fun K hK => ?_) AllReadyW.nil)
                refine step_append_row (by rfl) (.tmp 85) (.tmp 87) 50 (by rfl) 27 i1 _ 1 8 Tryz.underlying50 I1.out.1 I1.out.2.1 I1.out.2.2.1 I1.out.2.2.2 (by rfl) (by decide) (.slice aa Ms.length ca) Ms.length _ (by rfl) (HOA.out _ (by repeat (first | exact Bw.refl _ | apply Bw.lay | apply Bw.alloc | apply Bw.drewN | apply Bw.drew))) _ 1 1 [.int .u64 a] (by rfl) (by rfl) (new_cells (cur := #[.int .u64 a]) (e := 27) (by first | exact Blk.newAt (by simp) | exact Blk.drw (Blk.newAt (by simp)) | exact Blk.alloc (Blk.newAt (by simp)) _ | exact Blk.alloc (Blk.drw (Blk.newAt (by simp))) _) rfl) (by intro u hu; rw [List.mem_singleton] at hu; subst hu; rfl) (by unfold maxLen; omega) (by omega) ?_
                intro va5 w5 ho5 hg5 hv5
                obtain ⟨a5, c5, e5⟩ := own_form ho5
                subst e5
                obtain ⟨hj5, hd5⟩ := (HJ.out.bw (by repeat (first | exact Bw.refl _ | apply Bw.lay | apply Bw.alloc | apply Bw.drewN | apply Bw.drew))).pushA (by simpa using ho5) hg5 hv5
                have q0 : w5.cell? ⟨sb, 0, none⟩ = some (.slice aa Ms.length ca) := hj5.k.cell 0
                have q1 : w5.cell? ⟨sb, 1, none⟩ = some (.slice ab Ms.length cb) := hj5.k.cell 1
                have ql := hj5.k.lt
                have HJ5 := hid hj5
                have HD5 := hid (DS.trans (DS.of_bw (w := wr) (by repeat (first | exact Bw.refl _ | apply Bw.lay | apply Bw.alloc | apply Bw.drewN | apply Bw.drew))) hd5)
                have HG5 := hid hg5
                have HOB := hid (fun (w1 : World) (hb : Bw w5 w1) => (own_base (by simpa using own_bw hj5.ob hb) (Nat.zero_le _) : w1.ownsRow 0 27 1 (.slice ab Ms.length cb) Ms.length ((Ms.map Prod.snd).map (Value.int .u64))))
                clear ho5 hg5 hv5 hj5 hd5
                refine hK.out _ _ ⟨q0, q1⟩ ?_
                clear hK K
                try simp only [Act.put, List.setIfInBounds_toArray, List.set_cons_zero, List.set_cons_succ]
                refine wpAnyW_ready (rs := [15]) (by kernel_rfl) (by simp) ?_
                refine (AllReadyW.cons (o := { dst := some 95, op := Op.call { callee := Callee.builtin Builtin.append, args := #[Operand.tmp 92, Operand.tmp 94], argTypes := #[50, 50] }, type := 50, pos := "ref.go:67", after := #[{ on := 12, ground := Ground.data }, { on := 14, ground := Ground.data }, { on := 8, ground := Ground.chain }], guard := none }) rfl (fun K hK => ?_) AllReadyW.nil)
                refine step_append_row (by rfl) (.tmp 92) (.tmp 94) 50 (by rfl) 27 i1 _ 1 8 Tryz.underlying50 I1.out.1 I1.out.2.1 I1.out.2.2.1 I1.out.2.2.2 (by rfl) (by decide) (.slice ab Ms.length cb) Ms.length _ (by rfl) (HOB.out _ (by repeat (first | exact Bw.refl _ | apply Bw.lay | apply Bw.alloc | apply Bw.drewN | apply Bw.drew))) _ 1 1 [.int .u64 b] (by rfl) (by rfl) (new_cells (cur := #[.int .u64 b]) (e := 27) (Blk.keep (by first | exact Blk.newAt (by simp) | exact Blk.drw (Blk.newAt (by simp)) | exact Blk.alloc (Blk.newAt (by simp)) _ | exact Blk.alloc (Blk.drw (Blk.newAt (by simp))) _) (HG5.out.block _ (by simp) (fun e => absurd (HLA.out _ e.symm) (by simp)))) rfl) (by intro u hu; rw [List.mem_singleton] at hu; subst hu; rfl) (by unfold maxLen; omega) (by omega) ?_
                intro vb7 w7 ho7 hg7 hv7
                obtain ⟨a7, c7, e7⟩ := own_form ho7
                subst e7
                obtain ⟨hj7, hd7⟩ := (HJ5.out.bw (by repeat (first | exact Bw.refl _ | apply Bw.lay | apply Bw.alloc | apply Bw.drewN | apply Bw.drew))).pushB (by simpa using ho7) hg7 hv7
                have r0 : w7.cell? ⟨sb, 0, none⟩ = some (.slice aa Ms.length ca) := hj7.k.cell 0
                have r1 : w7.cell? ⟨sb, 1, none⟩ = some (.slice ab Ms.length cb) := hj7.k.cell 1
                have r0f := hj7.k.free 0
                have r1f := hj7.k.free 1
                have rl := hj7.k.lt
                have HJ7 : Hid (DJ w7 k0 ah ch H sb (.slice aa Ms.length ca) (.slice ab Ms.length cb) (.slice a5 (Ms.length + 1) c5) (.slice a7 (Ms.length + 1) c7) ((Ms ++ [(a, b)]).map Prod.fst) ((Ms ++ [(a, b)]).map Prod.snd) false) := (by show DJ w7 _ _ _ _ _ _ _ _ _ _ _ _; simpa using hj7)
                have HD7 := hid (HD5.out.trans (DS.trans (DS.of_bw (by repeat (first | exact Bw.refl _ | apply Bw.lay | apply Bw.alloc | apply Bw.drewN | apply Bw.drew))) hd7))
                clear ho7 hg7 hv7 hj7 hd7
                refine hK.out _ _ ⟨r0, r1⟩ ?_
                clear hK K
                try simp only [Act.put, List.setIfInBounds_toArray, List.set_cons_zero, List.set_cons_succ]
                refine wpAnyW_take (i := 16) (oi := { dst := some 96, op := Op.nilCheck (Operand.tmp 80), type := 0, pos := "ref.go:67", after := #[{ on := 0, ground := Ground.data }, { on := 0, ground := Ground.phase }, { on := 1, ground := Ground.textOnly Departure.lateStores }, { on := 2, ground := Ground.phase }, { on := 3, ground := Ground.phase }, { on := 4, ground := Ground.phase }, { on := 5, ground := Ground.phase }, { on := 6, ground := Ground.phase }, { on := 7, ground := Ground.phase }, { on := 8, ground := Ground.phase }, { on := 9, ground := Ground.textOnly Departure.lateStores }, { on := 10, ground := Ground.textOnly Departure.lateStoresUnsure }, { on := 11, ground := Ground.textOnly Departure.lateStoresUnsure }, { on := 12, ground := Ground.phase }, { on := 13, ground := Ground.textOnly Departure.lateStores }, { on := 14, ground := Ground.textOnly Departure.lateStoresUnsure }, { on := 15, ground := Ground.phase }], guard := none }) (v := (.pointer (some ⟨sb, 0, none⟩))) rfl (by kernel_rfl) (by kernel_rfl) (by kernel_rfl) (by kernel_rfl) (fun _ _ _ h => h) (Or.inl ⟨by rfl, fun w _ => ?_⟩) ?_
                · go_simp
                try simp only [Act.put, List.setIfInBounds_toArray, List.set_cons_zero, List.set_cons_succ]
                refine wpAnyW_take (i := 17) (oi := { dst := some 97, op := Op.fieldAddr 81 (Operand.tmp 96) 0, type := 0, pos := "ref.go:67", after := #[{ on := 16, ground := Ground.data }, { on := 0, ground := Ground.phase }, { on := 1, ground := Ground.textOnly Departure.lateStores }, { on := 2, ground := Ground.phase }, { on := 3, ground := Ground.phase }, { on := 4, ground := Ground.phase }, { on := 5, ground := Ground.phase }, { on := 6, ground := Ground.phase }, { on := 7, ground := Ground.phase }, { on := 8, ground := Ground.phase }, { on := 9, ground := Ground.textOnly Departure.lateStores }, { on := 10, ground := Ground.textOnly Departure.lateStoresUnsure }, { on := 11, ground := Ground.textOnly Departure.lateStoresUnsure }, { on := 12, ground := Ground.phase }, { on := 13, ground := Ground.textOnly Departure.lateStores }, { on := 14, ground := Ground.textOnly Departure.lateStoresUnsure }, { on := 15, ground := Ground.phase }], guard := none }) (v := (.pointer (some ⟨sb, 0, none⟩))) rfl (by kernel_rfl) (by kernel_rfl) (by kernel_rfl) (by kernel_rfl) (fun _ _ _ h => h) (Or.inl ⟨by rfl, fun w _ => ?_⟩) ?_
                · go_simp
                try simp only [Act.put, List.setIfInBounds_toArray, List.set_cons_zero, List.set_cons_succ]
                refine wpAnyW_ready (rs := [18]) (by kernel_rfl) (by simp) ?_
                refine (AllReadyW.cons (o := { dst := none, op := Op.store 50 (Operand.tmp 97) (Operand.tmp 88), type := 0, pos := "ref.go:67", after := #[{ on := 17, ground := Ground.data }, { on := 8, ground := Ground.data }, { on := 15, ground := Ground.chain }, { on := 0, ground := Ground.phase }, { on := 1, ground := Ground.textOnly Departure.lateStores }, { on := 2, ground := Ground.phase }, { on := 3, ground := Ground.phase }, { on := 4, ground := Ground.phase }, { on := 5, ground := Ground.phase }, { on := 6, ground := Ground.phase }, { on := 7, ground := Ground.phase }, { on := 8, ground := Ground.phase }, { on := 9, ground := Ground.textOnly Departure.lateStores }, { on := 10, ground := Ground.textOnly Departure.lateStoresUnsure }, { on := 11, ground := Ground.textOnly Departure.lateStoresUnsure }, { on := 12, ground := Ground.phase }, { on := 13, ground := Ground.textOnly Departure.lateStores }, { on := 14, ground := Ground.textOnly Departure.lateStoresUnsure }, { on := 15, ground := Ground.phase }], guard := none }) rfl (fun K hK => ?_) AllReadyW.nil)
                go_simp
                refine hK.out _ _ trivial ?_
                clear hK K
                try simp only [Act.put, List.setIfInBounds_toArray, List.set_cons_zero, List.set_cons_succ]
                refine wpAnyW_take (i := 19) (oi := { dst := some 98, op := Op.nilCheck (Operand.tmp 81), type := 0, pos := "ref.go:67", after := #[{ on := 1, ground := Ground.data }, { on := 0, ground := Ground.phase }, { on := 1, ground := Ground.phase }, { on := 2, ground := Ground.phase }, { on := 3, ground := Ground.phase }, { on := 4, ground := Ground.phase }, { on := 5, ground := Ground.phase }, { on := 6, ground := Ground.phase }, { on := 7, ground := Ground.phase }, { on := 8, ground := Ground.phase }, { on := 9, ground := Ground.phase }, { on := 10, ground := Ground.phase }, { on := 11, ground := Ground.phase }, { on := 12, ground := Ground.phase }, { on := 13, ground := Ground.phase }, { on := 14, ground := Ground.phase }, { on := 15, ground := Ground.phase }, { on := 16, ground := Ground.phase }, { on := 17, ground := Ground.phase }, { on := 18, ground := Ground.phase }], guard := none }) (v := (.pointer (some ⟨sb, 0, none⟩))) rfl (by kernel_rfl) (by kernel_rfl) (by kernel_rfl) (by kernel_rfl) (fun _ _ _ h => h) (Or.inl ⟨by rfl, fun w _ => ?_⟩) ?_
                · go_simp
                try simp only [Act.put, List.setIfInBounds_toArray, List.set_cons_zero, List.set_cons_succ]
                refine wpAnyW_take (i := 20) (oi := { dst := some 99, op := Op.fieldAddr 81 (Operand.tmp 98) 1, type := 0, pos := "ref.go:67", after := #[{ on := 19, ground := Ground.data }, { on := 0, ground := Ground.phase }, { on := 1, ground := Ground.phase }, { on := 2, ground := Ground.phase }, { on := 3, ground := Ground.phase }, { on := 4, ground := Ground.phase }, { on := 5, ground := Ground.phase }, { on := 6, ground := Ground.phase }, { on := 7, ground := Ground.phase }, { on := 8, ground := Ground.phase }, { on := 9, ground := Ground.phase }, { on := 10, ground := Ground.phase }, { on := 11, ground := Ground.phase }, { on := 12, ground := Ground.phase }, { on := 13, ground := Ground.phase }, { on := 14, ground := Ground.phase }, { on := 15, ground := Ground.phase }, { on := 16, ground := Ground.phase }, { on := 17, ground := Ground.phase }, { on := 18, ground := Ground.phase }], guard := none }) (v := (.pointer (some ⟨sb, 1, none⟩))) rfl (by kernel_rfl) (by kernel_rfl) (by kernel_rfl) (by kernel_rfl) (fun _ _ _ h => h) (Or.inl ⟨by rfl, fun w _ => ?_⟩) ?_
                · go_simp
                try simp only [Act.put, List.setIfInBounds_toArray, List.set_cons_zero, List.set_cons_succ]
                refine wpAnyW_ready (rs := [21]) (by kernel_rfl) (by simp) ?_
                refine (AllReadyW.cons (o := { dst := none, op := Op.store 50 (Operand.tmp 99) (Operand.tmp 95), type := 0, pos := "ref.go:67", after := #[{ on := 20, ground := Ground.data }, { on := 15, ground := Ground.data }, { on := 18, ground := Ground.chain }, { on := 0, ground := Ground.phase }, { on := 1, ground := Ground.phase }, { on := 2, ground := Ground.phase }, { on := 3, ground := Ground.phase }, { on := 4, ground := Ground.phase }, { on := 5, ground := Ground.phase }, { on := 6, ground := Ground.phase }, { on := 7, ground := Ground.phase }, { on := 8, ground := Ground.phase }, { on := 9, ground := Ground.phase }, { on := 10, ground := Ground.phase }, { on := 11, ground := Ground.phase }, { on := 12, ground := Ground.phase }, { on := 13, ground := Ground.phase }, { on := 14, ground := Ground.phase }, { on := 15, ground := Ground.phase }, { on := 16, ground := Ground.phase }, { on := 17, ground := Ground.phase }, { on := 18, ground := Ground.phase }], guard := none }) rfl (fun K hK => ?_) AllReadyW.nil)
                go_simp
                refine hK.out _ _ trivial ?_
                clear hK K
                try simp only [Act.put, List.setIfInBounds_toArray, List.set_cons_zero, List.set_cons_succ]
                refine wpAnyW_done (by kernel_rfl) ?_ _
                go_wp2
                go_meet
                exact ⟨_, _, HJ7.out.done.1, HBK.out.trans (HD7.out.trans HJ7.out.done.2), HBX.out.ds HDI.out (HD7.out.trans HJ7.out.done.2) (by decide) (by decide)⟩
          · as_aux_lemma =>
                go_simp
                refine hK.out _ _ (show _ ∧ _ from ⟨by simp [go_sem, *], by simp [go_sem, *]⟩) ?_
                clear hK K
                try simp only [Act.put, List.setIfInBounds_toArray, List.set_cons_zero, List.set_cons_succ]
                refine wpAnyW_ready (rs := [7]) (by kernel_rfl) (by simp) ?_
                refine (AllReadyW.cons (o := { dst := some 87, op := Op.buildSlice 50 1 #[(0, Operand.tmp 86)], type := 50, pos := "ref.go:67", after := #[{ on := 6, ground := Ground.data }], guard := none }) rfl (fun K hK => ?_) AllReadyW.nil)
                go_simp
                refine hK.out _ _ (show _ ∧ _ from ⟨by simp [go_sem, *], by simp [go_sem, *]⟩) ?_
                clear hK K
                try simp only [Act.put, List.setIfInBounds_toArray, List.set_cons_zero, List.set_cons_succ]
                refine wpAnyW_ready (rs := [8]) (by kernel_rfl) (by simp) ?_
                refine (AllReadyW.cons (o := { dst := some 88, op := Op.call { callee := Callee.builtin Builtin.append, args := #[Operand.tmp 85, Operand.tmp 87], argTypes := #[50, 50] }, type := 50, pos := "ref.go:67", after := #[{ on := 5, ground := Ground.data }, { on := 7, ground := Ground.data }], guard := none }) rfl (fun K hK => ?_) AllReadyW.nil)
                refine step_append_row (by rfl) (.tmp 85) (.tmp 87) 50 (by rfl) 27 i1 _ 1 8 Tryz.underlying50 I1.out.1 I1.out.2.1 I1.out.2.2.1 I1.out.2.2.2 (by rfl) (by decide) (.slice aa Ms.length ca) Ms.length _ (by rfl) (HOA.out _ (by repeat (first | exact Bw.refl _ | apply Bw.lay | apply Bw.alloc | apply Bw.drewN | apply Bw.drew))) _ 1 1 [.int .u64 a] (by rfl) (by rfl) (new_cells (cur := #[.int .u64 a]) (e := 27) (by first | exact Blk.newAt (by simp) | exact Blk.drw (Blk.newAt (by simp)) | exact Blk.alloc (Blk.newAt (by simp)) _ | exact Blk.alloc (Blk.drw (Blk.newAt (by simp))) _) rfl) (by intro u hu; rw [List.mem_singleton] at hu; subst hu; rfl) (by unfold maxLen; omega) (by omega) ?_
                intro va5 w5 ho5 hg5 hv5
                obtain ⟨a5, c5, e5⟩ := own_form ho5
                subst e5
                obtain ⟨hj5, hd5⟩ := (HJ.out.bw (by repeat (first | exact Bw.refl _ | apply Bw.lay | apply Bw.alloc | apply Bw.drewN | apply Bw.drew))).pushA (by simpa using ho5) hg5 hv5
                have q0 : w5.cell? ⟨sb, 0, none⟩ = some (.slice aa Ms.length ca) := hj5.k.cell 0
                have q1 : w5.cell? ⟨sb, 1, none⟩ = some (.slice ab Ms.length cb) := hj5.k.cell 1
                have ql := hj5.k.lt
                have HJ5 := hid hj5
                have HD5 := hid (DS.trans (DS.of_bw (w := wr) (by repeat (first | exact Bw.refl _ | apply Bw.lay | apply Bw.alloc | apply Bw.drewN | apply Bw.drew))) hd5)
                have HG5 := hid hg5
                have HOB := hid (fun (w1 : World) (hb : Bw w5 w1) => (own_base (by simpa using own_bw hj5.ob hb) (Nat.zero_le _) : w1.ownsRow 0 27 1 (.slice ab Ms.length cb) Ms.length ((Ms.map Prod.snd).map (Value.int .u64))))
                clear ho5 hg5 hv5 hj5 hd5
                refine hK.out _ _ ⟨q0, q1⟩ ?_
                clear hK K
                try simp only [Act.put, List.setIfInBounds_toArray, List.set_cons_zero, List.set_cons_succ]
                refine wpAnyW_ready (rs := [15]) (by kernel_rfl) (by simp) ?_
                refine (AllReadyW.cons (o := { dst := some 95, op := Op.call { callee := Callee.builtin Builtin.append, args := #[Operand.tmp 92, Operand.tmp 94], argTypes := #[50, 50] }, type := 50, pos := "ref.go:67", after := #[{ on := 12, ground := Ground.data }, { on := 14, ground := Ground.data }, { on := 8, ground := Ground.chain }], guard := none }) rfl (fun K hK => ?_) AllReadyW.nil)
                refine step_append_row (by rfl) (.tmp 92) (.tmp 94) 50 (by rfl) 27 i1 _ 1 8 Tryz.underlying50 I1.out.1 I1.out.2.1 I1.out.2.2.1 I1.out.2.2.2 (by rfl) (by decide) (.slice ab Ms.length cb) Ms.length _ (by rfl) (HOB.out _ (by repeat (first | exact Bw.refl _ | apply Bw.lay | apply Bw.alloc | apply Bw.drewN | apply Bw.drew))) _ 1 1 [.int .u64 b] (by rfl) (by rfl) (new_cells (cur := #[.int .u64 b]) (e := 27) (Blk.keep (by first | exact Blk.newAt (by simp) | exact Blk.drw (Blk.newAt (by simp)) | exact Blk.alloc (Blk.newAt (by simp)) _ | exact Blk.alloc (Blk.drw (Blk.newAt (by simp))) _) (HG5.out.block _ (by simp) (fun e => absurd (HLA.out _ e.symm) (by simp)))) rfl) (by intro u hu; rw [List.mem_singleton] at hu; subst hu; rfl) (by unfold maxLen; omega) (by omega) ?_
                intro vb7 w7 ho7 hg7 hv7
                obtain ⟨a7, c7, e7⟩ := own_form ho7
                subst e7
                obtain ⟨hj7, hd7⟩ := (HJ5.out.bw (by repeat (first | exact Bw.refl _ | apply Bw.lay | apply Bw.alloc | apply Bw.drewN | apply Bw.drew))).pushB (by simpa using ho7) hg7 hv7
                have r0 : w7.cell? ⟨sb, 0, none⟩ = some (.slice aa Ms.length ca) := hj7.k.cell 0
                have r1 : w7.cell? ⟨sb, 1, none⟩ = some (.slice ab Ms.length cb) := hj7.k.cell 1
                have r0f := hj7.k.free 0
                have r1f := hj7.k.free 1
                have rl := hj7.k.lt
                have HJ7 : Hid (DJ w7 k0 ah ch H sb (.slice aa Ms.length ca) (.slice ab Ms.length cb) (.slice a5 (Ms.length + 1) c5) (.slice a7 (Ms.length + 1) c7) ((Ms ++ [(a, b)]).map Prod.fst) ((Ms ++ [(a, b)]).map Prod.snd) false) := (by show DJ w7 _ _ _ _ _ _ _ _ _ _ _ _; simpa using hj7)
                have HD7 := hid (HD5.out.trans (DS.trans (DS.of_bw (by repeat (first | exact Bw.refl _ | apply Bw.lay | apply Bw.alloc | apply Bw.drewN | apply Bw.drew))) hd7))
                clear ho7 hg7 hv7 hj7 hd7
                refine hK.out _ _ ⟨r0, r1⟩ ?_
                clear hK K
                try simp only [Act.put, List.setIfInBounds_toArray, List.set_cons_zero, List.set_cons_succ]
                refine wpAnyW_take (i := 16) (oi := { dst := some 96, op := Op.nilCheck (Operand.tmp 80), type := 0, pos := "ref.go:67", after := #[{ on := 0, ground := Ground.data }, { on := 0, ground := Ground.phase }, { on := 1, ground := Ground.textOnly Departure.lateStores }, { on := 2, ground := Ground.phase }, { on := 3, ground := Ground.phase }, { on := 4, ground := Ground.phase }, { on := 5, ground := Ground.phase }, { on := 6, ground := Ground.phase }, { on := 7, ground := Ground.phase }, { on := 8, ground := Ground.phase }, { on := 9, ground := Ground.textOnly Departure.lateStores }, { on := 10, ground := Ground.textOnly Departure.lateStoresUnsure }, { on := 11, ground := Ground.textOnly Departure.lateStoresUnsure }, { on := 12, ground := Ground.phase }, { on := 13, ground := Ground.textOnly Departure.lateStores }, { on := 14, ground := Ground.textOnly Departure.lateStoresUnsure }, { on := 15, ground := Ground.phase }], guard := none }) (v := (.pointer (some ⟨sb, 0, none⟩))) rfl (by kernel_rfl) (by kernel_rfl) (by kernel_rfl) (by kernel_rfl) (fun _ _ _ h => h) (Or.inl ⟨by rfl, fun w _ => ?_⟩) ?_
                · go_simp
                try simp only [Act.put, List.setIfInBounds_toArray, List.set_cons_zero, List.set_cons_succ]
                refine wpAnyW_take (i := 17) (oi := { dst := some 97, op := Op.fieldAddr 81 (Operand.tmp 96) 0, type := 0, pos := "ref.go:67", after := #[{ on := 16, ground := Ground.data }, { on := 0, ground := Ground.phase }, { on := 1, ground := Ground.textOnly Departure.lateStores }, { on := 2, ground := Ground.phase }, { on := 3, ground := Ground.phase }, { on := 4, ground := Ground.phase }, { on := 5, ground := Ground.phase }, { on := 6, ground := Ground.phase }, { on := 7, ground := Ground.phase }, { on := 8, ground := Ground.phase }, { on := 9, ground := Ground.textOnly Departure.lateStores }, { on := 10, ground := Ground.textOnly Departure.lateStoresUnsure }, { on := 11, ground := Ground.textOnly Departure.lateStoresUnsure }, { on := 12, ground := Ground.phase }, { on := 13, ground := Ground.textOnly Departure.lateStores }, { on := 14, ground := Ground.textOnly Departure.lateStoresUnsure }, { on := 15, ground := Ground.phase }], guard := none }) (v := (.pointer (some ⟨sb, 0, none⟩))) rfl (by kernel_rfl) (by kernel_rfl) (by kernel_rfl) (by kernel_rfl) (fun _ _ _ h => h) (Or.inl ⟨by rfl, fun w _ => ?_⟩) ?_
                · go_simp
                try simp only [Act.put, List.setIfInBounds_toArray, List.set_cons_zero, List.set_cons_succ]
                refine wpAnyW_ready (rs := [18]) (by kernel_rfl) (by simp) ?_
                refine (AllReadyW.cons (o := { dst := none, op := Op.store 50 (Operand.tmp 97) (Operand.tmp 88), type := 0, pos := "ref.go:67", after := #[{ on := 17, ground := Ground.data }, { on := 8, ground := Ground.data }, { on := 15, ground := Ground.chain }, { on := 0, ground := Ground.phase }, { on := 1, ground := Ground.textOnly Departure.lateStores }, { on := 2, ground := Ground.phase }, { on := 3, ground := Ground.phase }, { on := 4, ground := Ground.phase }, { on := 5, ground := Ground.phase }, { on := 6, ground := Ground.phase }, { on := 7, ground := Ground.phase }, { on := 8, ground := Ground.phase }, { on := 9, ground := Ground.textOnly Departure.lateStores }, { on := 10, ground := Ground.textOnly Departure.lateStoresUnsure }, { on := 11, ground := Ground.textOnly Departure.lateStoresUnsure }, { on := 12, ground := Ground.phase }, { on := 13, ground := Ground.textOnly Departure.lateStores }, { on := 14, ground := Ground.textOnly Departure.lateStoresUnsure }, { on := 15, ground := Ground.phase }], guard := none }) rfl (fun K hK => ?_) AllReadyW.nil)
                go_simp
                refine hK.out _ _ trivial ?_
                clear hK K
                try simp only [Act.put, List.setIfInBounds_toArray, List.set_cons_zero, List.set_cons_succ]
                refine wpAnyW_take (i := 19) (oi := { dst := some 98, op := Op.nilCheck (Operand.tmp 81), type := 0, pos := "ref.go:67", after := #[{ on := 1, ground := Ground.data }, { on := 0, ground := Ground.phase }, { on := 1, ground := Ground.phase }, { on := 2, ground := Ground.phase }, { on := 3, ground := Ground.phase }, { on := 4, ground := Ground.phase }, { on := 5, ground := Ground.phase }, { on := 6, ground := Ground.phase }, { on := 7, ground := Ground.phase }, { on := 8, ground := Ground.phase }, { on := 9, ground := Ground.phase }, { on := 10, ground := Ground.phase }, { on := 11, ground := Ground.phase }, { on := 12, ground := Ground.phase }, { on := 13, ground := Ground.phase }, { on := 14, ground := Ground.phase }, { on := 15, ground := Ground.phase }, { on := 16, ground := Ground.phase }, { on := 17, ground := Ground.phase }, { on := 18, ground := Ground.phase }], guard := none }) (v := (.pointer (some ⟨sb, 0, none⟩))) rfl (by kernel_rfl) (by kernel_rfl) (by kernel_rfl) (by kernel_rfl) (fun _ _ _ h => h) (Or.inl ⟨by rfl, fun w _ => ?_⟩) ?_
                · go_simp
                try simp only [Act.put, List.setIfInBounds_toArray, List.set_cons_zero, List.set_cons_succ]
                refine wpAnyW_take (i := 20) (oi := { dst := some 99, op := Op.fieldAddr 81 (Operand.tmp 98) 1, type := 0, pos := "ref.go:67", after := #[{ on := 19, ground := Ground.data }, { on := 0, ground := Ground.phase }, { on := 1, ground := Ground.phase }, { on := 2, ground := Ground.phase }, { on := 3, ground := Ground.phase }, { on := 4, ground := Ground.phase }, { on := 5, ground := Ground.phase }, { on := 6, ground := Ground.phase }, { on := 7, ground := Ground.phase }, { on := 8, ground := Ground.phase }, { on := 9, ground := Ground.phase }, { on := 10, ground := Ground.phase }, { on := 11, ground := Ground.phase }, { on := 12, ground := Ground.phase }, { on := 13, ground := Ground.phase }, { on := 14, ground := Ground.phase }, { on := 15, ground := Ground.phase }, { on := 16, ground := Ground.phase }, { on := 17, ground := Ground.phase }, { on := 18, ground := Ground.phase }], guard := none }) (v := (.pointer (some ⟨sb, 1, none⟩))) rfl (by kernel_rfl) (by kernel_rfl) (by kernel_rfl) (by kernel_rfl) (fun _ _ _ h => h) (Or.inl ⟨by rfl, fun w _ => ?_⟩) ?_
                · go_simp
                try simp only [Act.put, List.setIfInBounds_toArray, List.set_cons_zero, List.set_cons_succ]
                refine wpAnyW_ready (rs := [21]) (by kernel_rfl) (by simp) ?_
                refine (AllReadyW.cons (o := { dst := none, op := Op.store 50 (Operand.tmp 99) (Operand.tmp 95), type := 0, pos := "ref.go:67", after := #[{ on := 20, ground := Ground.data }, { on := 15, ground := Ground.data }, { on := 18, ground := Ground.chain }, { on := 0, ground := Ground.phase }, { on := 1, ground := Ground.phase }, { on := 2, ground := Ground.phase }, { on := 3, ground := Ground.phase }, { on := 4, ground := Ground.phase }, { on := 5, ground := Ground.phase }, { on := 6, ground := Ground.phase }, { on := 7, ground := Ground.phase }, { on := 8, ground := Ground.phase }, { on := 9, ground := Ground.phase }, { on := 10, ground := Ground.phase }, { on := 11, ground := Ground.phase }, { on := 12, ground := Ground.phase }, { on := 13, ground := Ground.phase }, { on := 14, ground := Ground.phase }, { on := 15, ground := Ground.phase }, { on := 16, ground := Ground.phase }, { on := 17, ground := Ground.phase }, { on := 18, ground := Ground.phase }], guard := none }) rfl (fun K hK => ?_) AllReadyW.nil)
                go_simp
                refine hK.out _ _ trivial ?_
                clear hK K
                try simp only [Act.put, List.setIfInBounds_toArray, List.set_cons_zero, List.set_cons_succ]
                refine wpAnyW_done (by kernel_rfl) ?_ _
                go_wp2
                go_meet
                exact ⟨_, _, HJ7.out.done.1, HBK.out.trans (HD7.out.trans HJ7.out.done.2), HBX.out.ds HDI.out (HD7.out.trans HJ7.out.done.2) (by decide) (by decide)⟩
      case rest =>
        as_aux_lemma =>
          obtain ⟨va2, vb2, hdi2, hds2, hbx2⟩ := hcut
          rename World => w9
          have k3 : kk H a ≠ 0 := by have := H3.out; omega
          have hkab : kk H a = kk H b := by have := H2.out; simpa using this
          obtain ⟨ma, ka, ia, hia, hga⟩ := ob_mem (H := H) HA.out k3
          obtain ⟨mb, kb, ib, hib, hgb⟩ := ob_mem (H := H) HB.out (by rw [← hkab]; exact k3)
          have HIA := hid hia
          have HGA := hid hga
          have HIB := hid hib
          have HGB := hid hgb
          have HKD := hid (kids_doc HOK'.out HN.out HA.out HB.out hkab H3.out)
          have HDL := hid (fun hl => dkids_len (b := b) HOK'.out HA.out H3.out hl)
          have HDA := hid (fun hl => dkids_opt (b := b) HOK'.out HN.out HA.out hkab H3.out hl)
          have OKA := hid (HOK'.out _ ma)
          have OKB := hid (HOK'.out _ mb)
          have NA := hid (HN.out _ ma)
          have NB := hid (HN.out _ mb)
          have KA := hid ka
          have KB := hid kb
          have HKAB := hid hkab
          have y0 : w9.cell? ⟨w.heap.size, 0, none⟩ = some (.int .i64 k0) := hbx2.cell 0
          have y1 : w9.cell? ⟨w.heap.size, 1, none⟩ = some (.slice ah H.2.length ch) := hbx2.cell 1
          have yl := hbx2.lt
          have HDI2 := hid hdi2
          have HDS2 := hid hds2
          have HBX2 := hid hbx2
          have hkb := OKA.out.2.2.2.2.2.2.2
          have hvb := OKA.out.2.2.2.2.2.2.1
          generalize hx : ob H a = x at hkb hvb HKD HDL HDA OKA NA KA HGA
          generalize hy : ob H b = y at HKD HDL HDA OKB NB KB HGB
          clear hdi2 hds2 hbx2 hia hga hib hgb ma mb ka kb hkab k3 hx hy HBX HJ HDI HBK HOA HLA I1 zl hn0 hn1 zf0 zf1 z0 z1 hlt
          go_upto_region 15 with fail
          go_cut [11, 12] (fun s11 s12 wc => ∃ g11 g12 b3 v3 k3 b4 v4 k4, s11 = .pointer (some ⟨g11, 0, none⟩) ∧ s12 = .pointer (some ⟨g12, 0, none⟩) ∧ Blk wc g11 #[.int .i64 x.kind, b3, v3, k3, .int .i64 x.num, .int .u64 x.re, .int .u64 x.im] 53 ∧ Blk wc g12 #[.int .i64 y.kind, b4, v4, k4, .int .i64 y.num, .int .u64 y.re, .int .u64 y.im] 53 ∧ OL w9 (fun b => b < sb) x b3 v3 k3 ∧ OL w9 (fun b => b < sb) y b4 v4 k4 ∧ Bw w9 wc)
          case first =>
            as_aux_lemma =>
              go_region_held3 (fun w' => w'.cell? ⟨w.heap.size, 0, none⟩ = some (.int .i64 k0) ∧ w'.cell? ⟨w.heap.size, 1, none⟩ = some (.slice ah H.2.length ch)) (first | (simp [go_sem, *]; done)) (first
                | (go_at_call_of 36 (Value.int .u64 a); refine (rof_any (fun b => b < sb) _ H _ HA.out _ HIA.out _ HGA.out w9 _ (by repeat (first | exact Bw.refl _ | apply Bw.lay | apply Bw.alloc | apply Bw.drewN | apply Bw.drew)) HDI2.out.rd (by have := HM.out; omega)).mono ?_; rintro e w3 ⟨vb3, vv3, vk3, he3, hol3, os3, m3, hw3⟩; obtain ⟨ab3, cb3, eb3⟩ := hol3.1.form; obtain ⟨av3, cv3, ev3⟩ := hol3.2.1.form; obtain ⟨ak3, ck3, ek3⟩ := hol3.2.2.form; subst eb3 ev3 ek3; simp only [objV] at he3; subst he3 hw3; have OL3 := hid hol3; clear hol3)
                | (go_at_call_of 36 (Value.int .u64 b); refine (rof_any (fun b => b < sb) _ H _ HB.out _ HIB.out _ HGB.out w9 _ (by repeat (first | exact Bw.refl _ | apply Bw.lay | apply Bw.alloc | apply Bw.drewN | apply Bw.drew)) HDI2.out.rd (by have := HM.out; omega)).mono ?_; rintro e w4 ⟨vb4, vv4, vk4, he4, hol4, os4, m4, hw4⟩; obtain ⟨ab4, cb4, eb4⟩ := hol4.1.form; obtain ⟨av4, cv4, ev4⟩ := hol4.2.1.form; obtain ⟨ak4, ck4, ek4⟩ := hol4.2.2.form; subst eb4 ev4 ek4; simp only [objV] at he4; subst he4 hw4; have OL4 := hid hol4; clear hol4)
                | fail)
              all_goals go_wp2
              all_goals go_meet
              all_goals exact ⟨_, _, _, _, _, _, _, _, rfl, rfl, by repeat (first | exact Blk.newAt (by simp) | apply Blk.alloc | apply Blk.layAt | apply Blk.drw), by repeat (first | exact Blk.newAt (by simp) | apply Blk.alloc | apply Blk.layAt | apply Blk.drw), OL3.out, OL4.out, by repeat (first | exact Bw.refl _ | apply Bw.lay | apply Bw.alloc | apply Bw.drewN | apply Bw.drew)⟩
          case rest =>
            as_aux_lemma =>
              obtain ⟨g11, g12, b3, v3, k3, b4, v4, k4, rfl, rfl, h11, h12, hol3, hol4, hbw⟩ := hcut
              rename World => w8
              obtain ⟨ab3, cb3, rfl⟩ := hol3.1.form
              obtain ⟨av3, cv3, rfl⟩ := hol3.2.1.form
              obtain ⟨ak3, ck3, rfl⟩ := hol3.2.2.form
              obtain ⟨ab4, cb4, rfl⟩ := hol4.1.form
              obtain ⟨av4, cv4, rfl⟩ := hol4.2.1.form
              obtain ⟨ak4, ck4, rfl⟩ := hol4.2.2.form
              have HDI3 := hid (HDI2.out.bw hbw)
              have HDS3 := hid (HDS2.out.trans (DS.of_bw hbw))
              have HBX3 := hid (HBX2.out.bw hbw)
              have OL3 := hid (hol3.below hbw)
              have OL4 := hid (hol4.below hbw)
              have H11 := hid h11
              have H12 := hid h12
              have z2 : w8.cell? ⟨g11, 2, none⟩ = some (.slice av3 x.vals.length cv3) := h11.cell 2
              have z3 : w8.cell? ⟨g11, 3, none⟩ = some (.slice ak3 x.keys.length ck3) := h11.cell 3
              have u2 : w8.cell? ⟨g12, 2, none⟩ = some (.slice av4 y.vals.length cv4) := h12.cell 2
              clear h11 h12 hol3 hol4 hbw y0 y1 yl HDI2 HDS2 HBX2 HIA HGA HIB HGB
              by_cases hl : x.vals.length = y.vals.length
              · have t1 : ((x.vals.length : Int) != (y.vals.length : Int)) = false := by rw [hl]; simp
                have HL := hid hl
                clear hl
                go_wp2
                go_loopw [13, 14, 15] (fun j _ _ wr => ∃ k : Nat, k ≤ x.keys.length ∧ j = .int .i64 k ∧ Bw w8 wr ∧ ∀ i (hi : i < k) (hl : i < x.keys.length), 0 ≤ aKey y.keys x.keys[i]) (fun j _ _ _ => x.keys.length - (intOf j).toNat)
                case atStart => exact ⟨0, Nat.zero_le _, rfl, by repeat (first | exact Bw.refl _ | apply Bw.lay | apply Bw.alloc | apply Bw.drewN | apply Bw.drew), fun i hi => absurd hi (by omega)⟩
                case round =>
                  obtain ⟨k, hk, rfl, hbk, hall⟩ := hrel
                  have HALL := hid hall
                  have HBK := hid hbk
                  have x11 := H11.out.bw hbk
                  have x12 := H12.out.bw hbk
                  have q3 : wr.cell? ⟨g11, 3, none⟩ = some (.slice ak3 x.keys.length ck3) := x11.cell 3
                  have q2 : wr.cell? ⟨g11, 2, none⟩ = some (.slice av3 x.vals.length cv3) := x11.cell 2
                  clear hall z2 z3 u2
                  by_cases hlt : k < x.keys.length
                  · as_aux_lemma =>
                      obtain ⟨bk, ok, rfl, hbs, c1⟩ := (OL3.out.below hbk).2.2.at hlt
                      have c2 : wr.cell? ⟨bk, ok + k, none⟩ = some (.string x.keys[k]) := by rw [c1]; simp [hlt]
                      have e0 : wr.cell? ⟨g12, 0, none⟩ = some (.int .i64 y.kind) := x12.cell 0
                      have e1 : wr.cell? ⟨g12, 1, none⟩ = some (.slice ab4 y.bytes.length cb4) := x12.cell 1
                      have e2 : wr.cell? ⟨g12, 2, none⟩ = some (.slice av4 y.vals.length cv4) := x12.cell 2
                      have e3 : wr.cell? ⟨g12, 3, none⟩ = some (.slice ak4 y.keys.length ck4) := x12.cell 3
                      have e4 : wr.cell? ⟨g12, 4, none⟩ = some (.int .i64 y.num) := x12.cell 4
                      have e5 : wr.cell? ⟨g12, 5, none⟩ = some (.int .u64 y.re) := x12.cell 5
                      have e6 : wr.cell? ⟨g12, 6, none⟩ = some (.int .u64 y.im) := x12.cell 6
                      have hb1 : (0 : Int) ≤ (k : Int) := by omega
                      have hb2 : (k : Int) < (x.keys.length : Int) := by omega
                      have OL5 := hid (OL4.out.below hbk)
                      have hykv : y.keys.length ≤ y.vals.length := by
                        by_cases e : y.kind = 3
                        · exact Nat.le_of_eq (OKB.out.2.2.1 e)
                        · rw [NB.out.2.1 e]; simp
                      have HYKV := hid hykv
                      have HS := hid (⟨k, hlt, rfl⟩ : ∃ j, ∃ h : j < x.keys.length, x.keys[j] = x.keys[k])
                      have HK1 : Hid (0 ≤ aKey y.keys x.keys[k] → ∀ i (hi : i < k + 1) (hl : i < x.keys.length), 0 ≤ aKey y.keys x.keys[i]) := by
                        intro h0 i hi hl
                        by_cases hik : i = k
                        · subst hik; exact h0
                        · exact HALL.out i (by omega) hl
                      have HK2 : Hid (¬ 0 ≤ aKey y.keys x.keys[k] → kids H a b = none) := by
                        intro h0
                        rw [HKD.out, if_neg]
                        exact fun h => h0 (h.2 _ (List.getElem_mem hlt))
                      have HQ9 : Hid (∀ w5, Bw wr w5 → w5.cell? ⟨g12, 0, none⟩ = some (.int .i64 y.kind) ∧ w5.cell? ⟨g12, 1, none⟩ = some (.slice ab4 y.bytes.length cb4) ∧ w5.cell? ⟨g12, 2, none⟩ = some (.slice av4 y.vals.length cv4) ∧ w5.cell? ⟨g12, 3, none⟩ = some (.slice ak4 y.keys.length ck4) ∧ w5.cell? ⟨g12, 4, none⟩ = some (.int .i64 y.num) ∧ w5.cell? ⟨g12, 5, none⟩ = some (.int .u64 y.re) ∧ w5.cell? ⟨g12, 6, none⟩ = some (.int .u64 y.im) ∧ w5.cell? ⟨g11, 3, none⟩ = some (.slice (some ⟨bk, ok, none⟩) x.keys.length ck3) ∧ w5.cell? ⟨bk, ok + k, none⟩ = some (.string x.keys[k])) := by
                        intro w5 hb5
                        have c5 := x12.bw hb5
                        have e5 := x11.bw hb5
                        obtain ⟨g5, o5, e5', _, d5⟩ := ((OL3.out.below hbk).below hb5).2.2.at hlt
                        cases e5'
                        exact ⟨c5.cell 0, c5.cell 1, c5.cell 2, c5.cell 3, c5.cell 4, c5.cell 5, c5.cell 6, e5.cell 3, by rw [d5]; simp [hlt]⟩
                      clear c1 x11 x12 hbk hykv HS HALL
                      generalize x.keys[k] = z at c2 HK1 HK2 HQ9
                      go_upto_region 21 with fail
                      by_cases hz : 0 ≤ aKey y.keys z
                      · as_aux_lemma =>
                          have d1 : decide (0 ≤ aKey y.keys z) = true := decide_eq_true hz
                          have HK1' := hid (HK1.out hz)
                          clear HK1 HK2 hz
                          go_region_held3 (fun w' => w'.cell? ⟨g12, 0, none⟩ = some (.int .i64 y.kind) ∧ w'.cell? ⟨g12, 1, none⟩ = some (.slice ab4 y.bytes.length cb4) ∧ w'.cell? ⟨g12, 2, none⟩ = some (.slice av4 y.vals.length cv4) ∧ w'.cell? ⟨g12, 3, none⟩ = some (.slice ak4 y.keys.length ck4) ∧ w'.cell? ⟨g12, 4, none⟩ = some (.int .i64 y.num) ∧ w'.cell? ⟨g12, 5, none⟩ = some (.int .u64 y.re) ∧ w'.cell? ⟨g12, 6, none⟩ = some (.int .u64 y.im) ∧ w'.cell? ⟨g11, 3, none⟩ = some (.slice (some ⟨bk, ok, none⟩) x.keys.length ck3) ∧ w'.cell? ⟨bk, ok + k, none⟩ = some (.string z)) (first | exact hS5 | (simp [go_sem, *]; done)) (first
                            | (go_at_call 59; refine (vfield_any (fun b => b < sb) y _ _ _ z _ (OL5.out.below (by repeat (first | exact Bw.refl _ | apply Bw.lay | apply Bw.alloc | apply Bw.drewN | apply Bw.drew))) OKB.out.2.2.2.2.2.2.2 HYKV.out).mono ?_; rintro e w5 ⟨he5, os5, m5, hw5⟩; rw [d1] at he5; subst he5; have F5 : Hid (Bw wr w5) := (by rw [hw5]; exact hid (by repeat (first | exact Bw.refl _ | apply Bw.lay | apply Bw.alloc | apply Bw.drewN | apply Bw.drew))); clear hw5; have hS5 := HQ9.out w5 F5.out)
                            | fail)
                          go_wp2
                          go_roundw
                          case rel => exact ⟨k + 1, by omega, by go_num, HBK.out.trans F5.out, HK1'.out⟩
                          case measure => simp [intOf]; omega
                      · as_aux_lemma =>
                          have d1 : decide (0 ≤ aKey y.keys z) = false := decide_eq_false hz
                          have HK2' := hid (HR0.out (HK2.out hz))
                          clear HK1 HK2 hz
                          go_region_held3 (fun w' => w'.cell? ⟨g12, 0, none⟩ = some (.int .i64 y.kind) ∧ w'.cell? ⟨g12, 1, none⟩ = some (.slice ab4 y.bytes.length cb4) ∧ w'.cell? ⟨g12, 2, none⟩ = some (.slice av4 y.vals.length cv4) ∧ w'.cell? ⟨g12, 3, none⟩ = some (.slice ak4 y.keys.length ck4) ∧ w'.cell? ⟨g12, 4, none⟩ = some (.int .i64 y.num) ∧ w'.cell? ⟨g12, 5, none⟩ = some (.int .u64 y.re) ∧ w'.cell? ⟨g12, 6, none⟩ = some (.int .u64 y.im) ∧ w'.cell? ⟨g11, 3, none⟩ = some (.slice (some ⟨bk, ok, none⟩) x.keys.length ck3) ∧ w'.cell? ⟨bk, ok + k, none⟩ = some (.string z)) (first | exact hS5 | (simp [go_sem, *]; done)) (first
                            | (go_at_call 59; refine (vfield_any (fun b => b < sb) y _ _ _ z _ (OL5.out.below (by repeat (first | exact Bw.refl _ | apply Bw.lay | apply Bw.alloc | apply Bw.drewN | apply Bw.drew))) OKB.out.2.2.2.2.2.2.2 HYKV.out).mono ?_; rintro e w5 ⟨he5, os5, m5, hw5⟩; rw [d1] at he5; subst he5; have F5 : Hid (Bw wr w5) := (by rw [hw5]; exact hid (by repeat (first | exact Bw.refl _ | apply Bw.lay | apply Bw.alloc | apply Bw.drewN | apply Bw.drew))); clear hw5; have hS5 := HQ9.out w5 F5.out)
                            | fail)
                          go_wp2
                          all_goals go_ret
                          all_goals rw [HK2'.out]
                          all_goals exact ⟨rfl, va2, vb2, HDI3.out.bw (HBK.out.trans F5.out), HDS3.out.trans (DS.of_bw (HBK.out.trans F5.out))⟩
                  · as_aux_lemma =>
                      have hke : kids H a b = some (dkids H a b) := by
                        rw [HKD.out, if_pos]
                        refine ⟨HL.out, fun s hs => ?_⟩
                        obtain ⟨i, hi, rfl⟩ := List.getElem_of_mem hs
                        exact HALL.out i (by omega) hi
                      have HRE := hid (HR1.out _ hke)
                      have LEN := hid (HDL.out HL.out)
                      have AT := hid (HDA.out HL.out)
                      have DI4 := hid (HDI3.out.bw hbk)
                      have DS4 := hid (HDS3.out.trans (DS.of_bw hbk))
                      have BX4 := hid (HBX3.out.bw hbk)
                      have Y11 := hid x11
                      have Y12 := hid x12
                      have OL5 := hid (OL3.out.below hbk)
                      have OL6 := hid (OL4.out.below hbk)
                      have hn0 : ¬ ((k : Int) < (x.keys.length : Int)) := by omega
                      clear hke hbk x11 x12 HALL HBK HKD HR0 HR1 HDL HDA H11 H12 OL3 OL4 HDI3 HDS3 HBX3 hlt
                      rename World => w7
                      go_wp2
                      go_loopw [16, 17] (fun j _ wr => ∃ (k : Nat) (Ns : List (Int × Int)) (va' vb' : Value), k ≤ x.vals.length ∧ j = .int .i64 k ∧ DI wr k0 ah ch H sb va' vb' Ns false ∧ DS sb w7 va2 vb2 wr va' vb' ∧ Ns.length ≤ 65536 ∧ (Ms ++ [(a, b)]).length ≤ Ns.length ∧ r = dpL (dp H f) ((dkids H a b).drop k) Ns) (fun j _ _ => x.vals.length - (intOf j).toNat)
                      case atStart => exact ⟨0, _, _, _, Nat.zero_le _, rfl, DI4.out, DS.of_bw (Bw.refl _), by have := H5.out; simp only [List.length_append, List.length_singleton]; omega, Nat.le_refl _, by rw [List.drop_zero]; exact HRE.out⟩
                      case round =>
                        obtain ⟨j, Ns, va3, vb3, hj, rfl, hdi, hds, hn1, hn2, hr⟩ := hrel
                        have x11 := Y11.out.ds DI4.out hds (by decide) (by decide)
                        have x12 := Y12.out.ds DI4.out hds (by decide) (by decide)
                        have xbx := BX4.out.ds DI4.out hds (by decide) (by decide)
                        have ol5 := OL5.out.ds DI4.out hds
                        have ol6 := OL6.out.ds DI4.out hds
                        have q2 : wr.cell? ⟨g11, 2, none⟩ = some (.slice av3 x.vals.length cv3) := x11.cell 2
                        have u2 : wr.cell? ⟨g12, 2, none⟩ = some (.slice av4 y.vals.length cv4) := x12.cell 2
                        have HDI := hid hdi
                        have HDS := hid (DS4.out.trans hds)
                        have HDS7 := hid hds
                        clear hdi hds
                        by_cases hlt : j < x.vals.length
                        · as_aux_lemma =>
                            have hly : j < y.vals.length := by rw [← HL.out]; exact hlt
                            obtain ⟨bx, ox, rfl, hbx, cx⟩ := ol5.2.1.at hlt
                            obtain ⟨bz, oy, rfl, hby, cy⟩ := ol6.2.1.at hly
                            have cx1 : wr.cell? ⟨bx, ox + j, none⟩ = some (.int .u64 x.vals[j]) := by rw [cx]; simp [hlt]
                            have cy1 : wr.cell? ⟨bz, oy + j, none⟩ = some (.int .u64 y.vals[j]) := by rw [cy]; simp [hly]
                            have hb1 : (0 : Int) ≤ (j : Int) := by omega
                            have hb2 : (j : Int) < (x.vals.length : Int) := by omega
                            have hb3 : (j : Int) < (y.vals.length : Int) := by omega
                            have ux : U x.vals[j] := OKA.out.2.2.2.1 _ (List.getElem_mem hlt)
                            have uy : U y.vals[j] := OKB.out.2.2.2.1 _ (List.getElem_mem hly)
                            have HS5 : Hid (∀ w5 va5 vb5, DS sb wr va3 vb3 w5 va5 vb5 → w5.cell? ⟨w.heap.size, 0, none⟩ = some (.int .i64 k0) ∧ w5.cell? ⟨w.heap.size, 1, none⟩ = some (.slice ah H.2.length ch) ∧ w5.cell? ⟨g11, 2, none⟩ = some (.slice (some ⟨bx, ox, none⟩) x.vals.length cv3) ∧ w5.cell? ⟨bx, ox + j, none⟩ = some (.int .u64 x.vals[j])) := by
                              intro w5 va5 vb5 h5
                              have b5 := xbx.ds HDI.out h5 (by decide) (by decide)
                              have c5 := x11.ds HDI.out h5 (by decide) (by decide)
                              obtain ⟨g5, o5, e5, _, d5⟩ := (ol5.ds HDI.out h5).2.1.at hlt
                              cases e5
                              exact ⟨b5.cell 0, b5.cell 1, c5.cell 2, by rw [d5]; simp [hlt]⟩
                            obtain ⟨s50, s51, _, _⟩ := HS5.out wr va3 vb3 (DS.of_bw (Bw.refl _))
                            have hdk : ∀ yv, (dkids H a b)[j]? = some (x.vals[j], yv) → U yv → Hid (∃ d : DR, (∀ w1, Bw wr w1 → Calls Tryz.prog 32 #[.agg #[.int .i64 k0, .slice ah H.2.length ch], .pointer (some ⟨sb, 0, none⟩), .int .u64 x.vals[j], .int .u64 yv] w1 fun e w' => e = .returned (.bool d.1) ∧ ∃ va' vb', DI w' k0 ah ch H sb va' vb' d.2.1 d.2.2 ∧ DS sb w1 va3 vb3 w' va' vb') ∧ (d.1 = true → d.2.2 = false) ∧ d.2.1.length ≤ 65536 ∧ Ns.length ≤ d.2.1.length ∧ r = if d.1 = true then dpL (dp H f) ((dkids H a b).drop (j + 1)) d.2.1 else d) := by
                              intro yv hp uyv
                              refine ⟨dp H f Ns x.vals[j] yv, fun w1 hb => HV.out Ns va3 vb3 _ _ w1 ux uyv hn1 ?_ (HDI.out.bw hb), dp_many H f Ns _ _, dp_most H f Ns _ _ hn1, dp_len H f Ns _ _, ?_⟩
                              · have := HFU.out; omega
                              · have hjl : j < (dkids H a b).length := by rw [LEN.out]; exact hlt
                                have hg : (dkids H a b)[j] = (x.vals[j], yv) := by
                                  rw [List.getElem?_eq_getElem hjl] at hp
                                  exact Option.some.inj hp
                                rw [hr, List.drop_eq_getElem_cons hjl, hg, dpL]
                            have HDK := hid hdk
                            have HAT := hid (AT.out j _ (List.getElem?_eq_getElem hlt))
                            have HXB := hid x12
                            have HO6 := hid ol6
                            clear hdk hr ol5 cx cy xbx x11 x12 ol6 ux
                            by_cases h3 : kk H a = 3
                            · as_aux_lemma =>
                                have t3 : (kk H a == 3) = true := by simpa using h3
                                have hlk : j < x.keys.length := by rw [OKA.out.2.2.1 (by rw [KA.out]; exact h3)]; exact hlt
                                have hykv : y.keys.length ≤ y.vals.length := Nat.le_of_eq (OKB.out.2.2.1 (by rw [KB.out, ← HKAB.out]; exact h3))
                                have HYKV := hid hykv
                                have ol5 := OL5.out.ds DI4.out HDS7.out
                                obtain ⟨bk, ok, rfl, hbs, c1⟩ := ol5.2.2.at hlk
                                have c2 : wr.cell? ⟨bk, ok + j, none⟩ = some (.string x.keys[j]) := by rw [c1]; simp [hlk]
                                have ufld : U (fldV y x.keys[j]) := by
                                  unfold fldV
                                  split
                                  · rw [List.getD_eq_getElem?_getD]
                                    cases hgt : y.vals[(aKey y.keys x.keys[j]).toNat]? with
                                    | none => exact ⟨by simp, by simp⟩
                                    | some u => exact OKB.out.2.2.2.1 _ (List.mem_of_getElem? hgt)
                                  · exact ⟨by simp, by simp⟩
                                obtain ⟨d, hc, hd3, hd1, hd2, hr⟩ := (HDK.out _ (HAT.out.2 h3 _ (List.getElem?_eq_getElem hlk)) ufld).out
                                have q3 : wr.cell? ⟨g11, 3, none⟩ = some (.slice (some ⟨bk, ok, none⟩) x.keys.length ck3) := (Y11.out.ds DI4.out HDS7.out (by decide) (by decide)).cell 3
                                have HC := hid hc
                                have HD1 := hid hd1
                                have HD2 := hid hd2
                                have HD3 := hid hd3
                                have HR := hid hr
                                have HQ9 : Hid (∀ w5, Bw wr w5 → w5.cell? ⟨g12, 0, none⟩ = some (.int .i64 y.kind) ∧ w5.cell? ⟨g12, 1, none⟩ = some (.slice ab4 y.bytes.length cb4) ∧ w5.cell? ⟨g12, 2, none⟩ = some (.slice (some ⟨bz, oy, none⟩) y.vals.length cv4) ∧ w5.cell? ⟨g12, 3, none⟩ = some (.slice ak4 y.keys.length ck4) ∧ w5.cell? ⟨g12, 4, none⟩ = some (.int .i64 y.num) ∧ w5.cell? ⟨g12, 5, none⟩ = some (.int .u64 y.re) ∧ w5.cell? ⟨g12, 6, none⟩ = some (.int .u64 y.im) ∧ w5.cell? ⟨g11, 3, none⟩ = some (.slice (some ⟨bk, ok, none⟩) x.keys.length ck3) ∧ w5.cell? ⟨bk, ok + j, none⟩ = some (.string x.keys[j])) := by
                                  intro w5 hb5
                                  have c5 := (HXB.out).bw hb5
                                  have e5 := (Y11.out.ds DI4.out HDS7.out (by decide) (by decide)).bw hb5
                                  obtain ⟨g5, o5, e5', _, d5⟩ := (ol5.below hb5).2.2.at hlk
                                  cases e5'
                                  exact ⟨c5.cell 0, c5.cell 1, c5.cell 2, c5.cell 3, c5.cell 4, c5.cell 5, c5.cell 6, e5.cell 3, by rw [d5]; simp [hlk]⟩
                                obtain ⟨e0, e1, e2, e3, e4, e5, e6, _, _⟩ := HQ9.out wr (Bw.refl _)
                                clear hc hd1 hd2 hd3 hr hykv h3 ufld c1 ol5 HAT HDK
                                generalize x.keys[j] = z at *
                                generalize x.vals[j] = xv at *
                                obtain ⟨d1, d2, d3⟩ := d
                                simp only at HC HD1 HD2 HD3 HR
                                go_upto_region 29 with fail
                                go_region_held3 (fun w' => w'.cell? ⟨g12, 0, none⟩ = some (.int .i64 y.kind) ∧ w'.cell? ⟨g12, 1, none⟩ = some (.slice ab4 y.bytes.length cb4) ∧ w'.cell? ⟨g12, 2, none⟩ = some (.slice (some ⟨bz, oy, none⟩) y.vals.length cv4) ∧ w'.cell? ⟨g12, 3, none⟩ = some (.slice ak4 y.keys.length ck4) ∧ w'.cell? ⟨g12, 4, none⟩ = some (.int .i64 y.num) ∧ w'.cell? ⟨g12, 5, none⟩ = some (.int .u64 y.re) ∧ w'.cell? ⟨g12, 6, none⟩ = some (.int .u64 y.im) ∧ w'.cell? ⟨g11, 3, none⟩ = some (.slice (some ⟨bk, ok, none⟩) x.keys.length ck3) ∧ w'.cell? ⟨bk, ok + j, none⟩ = some (.string z)) (first | exact hS5 | (simp [go_sem, *]; done)) (first
                                  | (go_at_call 59; refine (vfield_any (fun b => b < sb) y _ _ _ z _ (HO6.out.below (by repeat (first | exact Bw.refl _ | apply Bw.lay | apply Bw.alloc | apply Bw.drewN | apply Bw.drew))) OKB.out.2.2.2.2.2.2.2 HYKV.out).mono ?_; rintro e w5 ⟨rfl, os5, m5, hw5⟩; have F5 : Hid (Bw wr w5) := (by rw [hw5]; exact hid (by repeat (first | exact Bw.refl _ | apply Bw.lay | apply Bw.alloc | apply Bw.drewN | apply Bw.drew))); clear hw5; have hS5 := HQ9.out w5 F5.out)
                                  | fail)
                                obtain ⟨m0, m1, m2, m3⟩ := HS5.out _ _ _ (DS.of_bw F5.out)
                                go_upto_region 30 with fail
                                cases d1
                                · as_aux_lemma =>
                                    go_region_held3 (fun w' => w'.cell? ⟨w.heap.size, 0, none⟩ = some (.int .i64 k0) ∧ w'.cell? ⟨w.heap.size, 1, none⟩ = some (.slice ah H.2.length ch) ∧ w'.cell? ⟨g11, 2, none⟩ = some (.slice (some ⟨bx, ox, none⟩) x.vals.length cv3) ∧ w'.cell? ⟨bx, ox + j, none⟩ = some (.int .u64 xv)) (first | exact hS6 | (simp [go_sem, *]; done)) (first
                                      | (go_at_call 32; refine (HC.out _ (by repeat (first | exact F5.out | apply Bw.lay | apply Bw.alloc | apply Bw.drewN | apply Bw.drew))).mono ?_; rintro e w6 ⟨rfl, va6, vb6, hi6, hs6⟩; have S6 := hid (DS.trans (DS.of_bw (w := wr) (by repeat (first | exact F5.out | apply Bw.lay | apply Bw.alloc | apply Bw.drewN | apply Bw.drew))) hs6); have hS6 := HS5.out _ _ _ S6.out; have I6 := hid hi6; clear hi6 hs6)
                                      | fail)
                                    go_wp2
                                    all_goals go_ret
                                    all_goals rw [HR.out]
                                    all_goals exact ⟨rfl, _, _, I6.out, HDS.out.trans S6.out⟩
                                · as_aux_lemma =>
                                    have hd3' := HD3.out rfl
                                    subst hd3'
                                    go_region_held3 (fun w' => w'.cell? ⟨w.heap.size, 0, none⟩ = some (.int .i64 k0) ∧ w'.cell? ⟨w.heap.size, 1, none⟩ = some (.slice ah H.2.length ch) ∧ w'.cell? ⟨g11, 2, none⟩ = some (.slice (some ⟨bx, ox, none⟩) x.vals.length cv3) ∧ w'.cell? ⟨bx, ox + j, none⟩ = some (.int .u64 xv)) (first | exact hS6 | (simp [go_sem, *]; done)) (first
                                      | (go_at_call 32; refine (HC.out _ (by repeat (first | exact F5.out | apply Bw.lay | apply Bw.alloc | apply Bw.drewN | apply Bw.drew))).mono ?_; rintro e w6 ⟨rfl, va6, vb6, hi6, hs6⟩; have S6 := hid (DS.trans (DS.of_bw (w := wr) (by repeat (first | exact F5.out | apply Bw.lay | apply Bw.alloc | apply Bw.drewN | apply Bw.drew))) hs6); have hS6 := HS5.out _ _ _ S6.out; have I6 := hid hi6; clear hi6 hs6)
                                      | fail)
                                    go_wp2
                                    go_roundw
                                    case rel => exact ⟨j + 1, d2, va6, vb6, by omega, by go_num, I6.out, HDS7.out.trans S6.out, HD1.out, Nat.le_trans hn2 HD2.out, HR.out⟩
                                    case measure => simp [intOf]; omega
                            · as_aux_lemma =>
                                have t3 : (kk H a == 3) = false := by simpa using h3
                                obtain ⟨d, hc, hd3, hd1, hd2, hr⟩ := (HDK.out _ (HAT.out.1 h3 _ (List.getElem?_eq_getElem hly)) uy).out
                                have HC := hid hc
                                have HD1 := hid hd1
                                have HD2 := hid hd2
                                have HD3 := hid hd3
                                have HR := hid hr
                                clear hc hd1 hd2 hd3 hr h3 HAT HDK uy
                                generalize x.vals[j] = xv at *
                                generalize y.vals[j] = yv at *
                                obtain ⟨d1, d2, d3⟩ := d
                                simp only at HC HD1 HD2 HD3 HR
                                go_upto_region 30 with fail
                                cases d1
                                · as_aux_lemma =>
                                    go_region_held3 (fun w' => w'.cell? ⟨w.heap.size, 0, none⟩ = some (.int .i64 k0) ∧ w'.cell? ⟨w.heap.size, 1, none⟩ = some (.slice ah H.2.length ch) ∧ w'.cell? ⟨g11, 2, none⟩ = some (.slice (some ⟨bx, ox, none⟩) x.vals.length cv3) ∧ w'.cell? ⟨bx, ox + j, none⟩ = some (.int .u64 xv)) (first | exact hS6 | (simp [go_sem, *]; done)) (first
                                      | (go_at_call 32; refine (HC.out _ (by repeat (first | exact Bw.refl _ | apply Bw.lay | apply Bw.alloc | apply Bw.drewN | apply Bw.drew))).mono ?_; rintro e w6 ⟨rfl, va6, vb6, hi6, hs6⟩; have S6 := hid (DS.trans (DS.of_bw (w := wr) (by repeat (first | exact Bw.refl _ | apply Bw.lay | apply Bw.alloc | apply Bw.drewN | apply Bw.drew))) hs6); have hS6 := HS5.out _ _ _ S6.out; have I6 := hid hi6; clear hi6 hs6)
                                      | fail)
                                    go_wp2
                                    all_goals go_ret
                                    all_goals rw [HR.out]
                                    all_goals exact ⟨rfl, _, _, I6.out, HDS.out.trans S6.out⟩
                                · as_aux_lemma =>
                                    have hd3' := HD3.out rfl
                                    subst hd3'
                                    go_region_held3 (fun w' => w'.cell? ⟨w.heap.size, 0, none⟩ = some (.int .i64 k0) ∧ w'.cell? ⟨w.heap.size, 1, none⟩ = some (.slice ah H.2.length ch) ∧ w'.cell? ⟨g11, 2, none⟩ = some (.slice (some ⟨bx, ox, none⟩) x.vals.length cv3) ∧ w'.cell? ⟨bx, ox + j, none⟩ = some (.int .u64 xv)) (first | exact hS6 | (simp [go_sem, *]; done)) (first
                                      | (go_at_call 32; refine (HC.out _ (by repeat (first | exact Bw.refl _ | apply Bw.lay | apply Bw.alloc | apply Bw.drewN | apply Bw.drew))).mono ?_; rintro e w6 ⟨rfl, va6, vb6, hi6, hs6⟩; have S6 := hid (DS.trans (DS.of_bw (w := wr) (by repeat (first | exact Bw.refl _ | apply Bw.lay | apply Bw.alloc | apply Bw.drewN | apply Bw.drew))) hs6); have hS6 := HS5.out _ _ _ S6.out; have I6 := hid hi6; clear hi6 hs6)
                                      | fail)
                                    go_wp2
                                    go_roundw
                                    case rel => exact ⟨j + 1, d2, va6, vb6, by omega, by go_num, I6.out, HDS7.out.trans S6.out, HD1.out, Nat.le_trans hn2 HD2.out, HR.out⟩
                                    case measure => simp [intOf]; omega
                        · as_aux_lemma =>
                            have HRE2 : Hid (r = (true, Ns, false)) := by
                              show r = _
                              rw [hr, List.drop_eq_nil_of_le (by rw [LEN.out]; omega), dpL]
                            have hn0 : ¬ ((j : Int) < (x.vals.length : Int)) := by omega
                            clear hr hlt x11 x12 xbx ol5 ol6
                            go_wp2
                            all_goals go_ret
                            all_goals rw [HRE2.out]
                            all_goals exact ⟨rfl, va3, vb3, HDI.out, HDS.out⟩
              · have t1 : ((x.vals.length : Int) != (y.vals.length : Int)) = true := by rw [bne_iff_ne]; omega
                have HRE := hid (HR0.out (by rw [HKD.out, if_neg (fun h => hl h.1)]))
                clear hl
                go_wp2
                all_goals go_ret
                all_goals rw [HRE.out]
                all_goals exact ⟨rfl, va2, vb2, HDI3.out, HDS3.out⟩

end Go.Proofs.YtlhgdknmgdohkaaGreatDoor

