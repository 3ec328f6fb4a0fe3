/- What Hot and Stable tell may be written over: they tell the same again, and what the document tells. -/
import Derived.Test.YtfkcbioefdkabaaQi
set_option linter.unusedVariables false
set_option linter.unusedSimpArgs false
namespace Go.Proofs.Ytfkcbioefdkabaa.profOwn
open Go.ChangeShapes Go.WideShapes Go.ChangeAt Go.RowKit

set_option maxRecDepth 100000 in
set_option maxHeartbeats 2000000 in
theorem walk (w : World) (v0 : Value) (l0 : List AA) (w0 : Acts w (fun _ => True) v0 l0) :
    Calls Try.prog 6 #[v0] w fun e w' => e = .returned (.bool true) ∧ Bw w w' := by
  obtain ⟨av, cv, rfl⟩ := w0.form
  have HA := hid w0
  clear w0
  by_cases hlen : 60 < l0.length
  · have h60 : (60 : Int) < (l0.length : Int) := by omega
    go_enter Try.func6, Try.ntmps6
    go_wp2_with (first
      | (go_at_call 8; refine (live_any _).mono ?_; rintro e w2 ⟨rfl, hb2⟩)
      | fail)
    all_goals go_ret
    all_goals exact ⟨rfl, hb2⟩
  · have h60 : ¬ (60 : Int) < (l0.length : Int) := by omega
    have hN := fun w => New_yes 5 5 w (by decide) (by decide) (by decide)
    have hRN := fun w => rNew_yes 5 5 w (by decide) (by decide) (by decide)
    go_enter Try.func6, Try.ntmps6
    go_wp2_with (first
      | (go_at_call 9; refine (hN _).mono ?_; rintro e w1 ⟨p, hb, wb, mb, rfl, hp1, hb1, b1, b2, b3, b4⟩; have HP1 := hid hp1; have HB1 := hid hb1; have HO1 := hid (And.intro b1 (And.intro b2 (And.intro b3 b4))); clear hp1 hb1 b1 b2 b3 b4)
      | (go_at_call 10; refine (hRN _).mono ?_; rintro e w2 ⟨rfl, hb2⟩; have HD0 := hid (DW.made (F := 5) (G := 5) HB1.out HP1.out HO1.out hb2); clear hb2)
      | (go_at_call 11; refine (num_any _ _).mono ?_; rintro e w3 ⟨rfl, hw3⟩; subst w3)
      | fail)
    obtain ⟨B, hB⟩ : ∃ B, w2.heap.size = B := ⟨_, rfl⟩
    obtain ⟨q, hq⟩ : ∃ q : PP, (⟨p, hb, wb, mb⟩ : PP) = q := ⟨_, rfl⟩
    rw [hB, hq] at HD0
    rw [hB, show p = q.p by rw [← hq]]
    clear hN hRN HP1 HB1 HO1 hq hB
    go_loopw [7] (fun j wr => ∃ (k : Nat) (vL : Value) (L : List AA), k ≤ l0.length ∧ L.length ≤ k ∧ j = .int .i64 k ∧ DW w wr q 5 5 B vL L) (fun j _ => l0.length - (intOf j).toNat)
    case atStart => exact ⟨0, _, [], by omega, Nat.le_refl _, rfl, HD0.out⟩
    case round =>
      obtain ⟨k, vL, L, hk, hL, rfl, hdw⟩ := hrel
      obtain ⟨aL, cL, rfl⟩ := hdw.rl.form
      have HD := hid hdw
      by_cases hlt : k < l0.length
      · obtain ⟨g0, o0, e0, hgw, _⟩ := HA.out.at hlt
        obtain ⟨g, o, rfl, hg, x0, x1, x2, x3, x4, x5, ok1⟩ := (HA.out.bw hdw.bw).at hlt
        obtain rfl : g = g0 := by simp only [Option.some.injEq, Addr.mk.injEq] at e0; exact e0.1
        clear e0
        have hlt2 : (k : Int) < (l0.length : Int) := by omega
        have HG := hid hgw
        generalize l0[k] = x at x0 x1 x2 x3 x4 x5 ok1
        by_cases hr : 0 ≤ x.d ∧ x.d ≤ 4
        · have r1 : 0 ≤ x.d := hr.1
          have r2 : x.d ≤ 4 := hr.2
          have hta := tell_any x hdw.ps (by decide) (by omega)
          rw [nrm_04 hr] at hta
          have HTA := hid (hta.mono (fun e w' h => (⟨_, h.1, h.2⟩ : ∃ r : Int, e = .returned (.int .i64 r) ∧ PS w' q.p q.hb q.wb q.mb 5 5 (tellL 5 5 L x) ∧ Ex q.bs wr w')))
          have OK1 := hid ok1
          clear hta hdw ok1
          go_wp2_with (first
            | (go_at_call 12; refine (HTA.out).mono ?_; rintro e w3 ⟨rt, rfl, hp3, hk3⟩; have HPT := hid hp3; have HK1 := hid (show Ex q.bs wr w3 from hk3); have HM := hid (HD.out.mid hk3); clear hp3 hk3)
            | fail)
          have hS3 := hid (show ∀ W', Bw w3 W' → ((fun w' => (w'.cell? ⟨B, 0, none⟩ = some (.int .i64 (5 : Nat)) ∧ w'.cell? ⟨B, 1, none⟩ = some (.int .i64 (5 : Nat)) ∧ w'.cell? ⟨B, 2, none⟩ = some (.slice aL L.length cL)) ∧ (w'.cell? ⟨g, o + k * 6, none⟩ = some (.int .i64 x.d) ∧ w'.cell? ⟨g, o + k * 6 + 1, none⟩ = some (.int .i64 x.f) ∧ w'.cell? ⟨g, o + k * 6 + 2, none⟩ = some (.int .i64 x.t) ∧ w'.cell? ⟨g, o + k * 6 + 3, none⟩ = some (.int .i64 x.a) ∧ w'.cell? ⟨g, o + k * 6 + 4, none⟩ = some (.int .i64 x.b) ∧ w'.cell? ⟨g, o + k * 6 + 5, none⟩ = some (.int .u64 x.v))) W') from fun W' hb => by
            have hbB := HM.out.2.1.bw hb
            have hex : Ex q.bs wr W' := HK1.out.bw hb
            have hgn : g ∉ q.bs := fun hm => by have := HD.out.qa g (by simp at hm ⊢; omega); have := HG.out; omega
            exact ⟨⟨hbB.cell 0, hbB.cell 1, hbB.cell 2⟩, cell_ex hex hgn hg x0, cell_ex hex hgn hg x1, cell_ex hex hgn hg x2, cell_ex hex hgn hg x3, cell_ex hex hgn hg x4, cell_ex hex hgn hg x5⟩)
          have hS1 := hid (hS3.out _ (Bw.drew (Bw.refl _)))
          have HSB := hid (fun W' (hb : Bw w3.drew W') => hS3.out W' ((Bw.drew (Bw.refl _)).trans hb))
          have hrt := rTell_any (F := 5) (G := 5) x OK1.out (HM.out.2.2.bw (Bw.drew (Bw.refl w3))) (by omega)
          generalize (if okT 5 5 x = true then (0 : Int) else 1) = rr at hrt
          have HRT := hid hrt
          clear hrt
          clear x0 x1 x2 x3 x4 x5
          refine wp_region_W (fun w' => (w'.cell? ⟨B, 0, none⟩ = some (.int .i64 (5 : Nat)) ∧ w'.cell? ⟨B, 1, none⟩ = some (.int .i64 (5 : Nat)) ∧ w'.cell? ⟨B, 2, none⟩ = some (.slice aL L.length cL)) ∧ (w'.cell? ⟨g, o + k * 6, none⟩ = some (.int .i64 x.d) ∧ w'.cell? ⟨g, o + k * 6 + 1, none⟩ = some (.int .i64 x.f) ∧ w'.cell? ⟨g, o + k * 6 + 2, none⟩ = some (.int .i64 x.t) ∧ w'.cell? ⟨g, o + k * 6 + 3, none⟩ = some (.int .i64 x.a) ∧ w'.cell? ⟨g, o + k * 6 + 4, none⟩ = some (.int .i64 x.b) ∧ w'.cell? ⟨g, o + k * 6 + 5, none⟩ = some (.int .u64 x.v))) (fun j => if j == 5 then 0 else if j == 9 then 2 else 1) (by kernel_rfl) ?_
          refine wpAnyW_load (i := 0) (oi := { dst := some 58, op := Op.load 29 (Operand.tmp 5), type := 29, pos := "law.go:161", after := #[], guard := none }) (v := ?_) rfl (by kernel_rfl) (by kernel_rfl) (by kernel_rfl) (by kernel_rfl) (by kernel_rfl) (fun _ _ _ h => h) (Or.inl ⟨by rfl, fun w hS => ?_⟩) hS1.out ?_
          rotate_left
          · (obtain ⟨⟨s1, s2, s3⟩, s4, s5, s6, s7, s8, s9⟩ := hS; go_simp; first | done | with_reducible rfl)
          try simp only [Act.put, List.setIfInBounds_toArray, List.set_cons_zero, List.set_cons_succ]
          refine wpAnyW_take (i := 1) (oi := { dst := some 59, op := Op.move (Operand.tmp 0), type := 22, pos := "law.go:161", after := #[], guard := none }) (v := ?_) rfl (by kernel_rfl) (by kernel_rfl) (by kernel_rfl) (by kernel_rfl) (fun _ _ _ h => h) (Or.inl ⟨by rfl, fun w _ => ?_⟩) ?_
          rotate_left
          · (go_simp; first | done | with_reducible rfl)
          try simp only [Act.put, List.setIfInBounds_toArray, List.set_cons_zero, List.set_cons_succ]
          refine wpAnyW_take (i := 2) (oi := { dst := some 60, op := Op.move (Operand.tmp 7), type := 3, pos := "law.go:161", after := #[], guard := none }) (v := ?_) rfl (by kernel_rfl) (by kernel_rfl) (by kernel_rfl) (by kernel_rfl) (fun _ _ _ h => h) (Or.inl ⟨by rfl, fun w _ => ?_⟩) ?_
          rotate_left
          · (go_simp; first | done | with_reducible rfl)
          try simp only [Act.put, List.setIfInBounds_toArray, List.set_cons_zero, List.set_cons_succ]
          refine wpAnyW_take (i := 3) (oi := { dst := some 61, op := Op.indexAddr 22 (Operand.tmp 59) (Operand.tmp 60), type := 0, pos := "law.go:161", after := #[{ on := 1, ground := Ground.data }, { on := 2, ground := Ground.data }], guard := none }) (v := ?_) rfl (by kernel_rfl) (by kernel_rfl) (by kernel_rfl) (by kernel_rfl) (fun _ _ _ h => h) (Or.inl ⟨by rfl, fun w _ => ?_⟩) ?_
          rotate_left
          · (go_simp; first | done | with_reducible rfl)
          try simp only [Act.put, List.setIfInBounds_toArray, List.set_cons_zero, List.set_cons_succ]
          refine wpAnyW_load (i := 4) (oi := { dst := some 62, op := Op.load 36 (Operand.tmp 61), type := 36, pos := "law.go:161", after := #[{ on := 3, ground := Ground.data }], guard := none }) (v := ?_) rfl (by kernel_rfl) (by kernel_rfl) (by kernel_rfl) (by kernel_rfl) (by kernel_rfl) (fun _ _ _ h => h) (Or.inl ⟨by rfl, fun w hS => ?_⟩) hS1.out ?_
          rotate_left
          · (obtain ⟨⟨s1, s2, s3⟩, s4, s5, s6, s7, s8, s9⟩ := hS; go_simp; first | done | with_reducible rfl)
          try simp only [Act.put, List.setIfInBounds_toArray, List.set_cons_zero, List.set_cons_succ]
          refine wpAnyW_ready (rs := [5]) (by kernel_rfl) (by simp) ?_
          refine (AllReadyW.cons (o := { dst := some 63, op := Op.call { callee := Callee.value (Operand.func 13), args := #[Operand.tmp 58, Operand.tmp 62], argTypes := #[29, 36] }, type := 30, pos := "law.go:161", after := #[{ on := 0, ground := Ground.data }, { on := 4, ground := Ground.data }], guard := none }) rfl (fun K hK => ?_) AllReadyW.nil)
          go_simp
          refine (HRT.out).mono ?_
          rintro e w4 ⟨v4, he4, hb4, hr4⟩
          subst he4
          obtain ⟨a4, c4, e4⟩ := hr4.form
          subst e4
          have HDT := hid (fun w5 (k5 : Bw w4 w5) => HD.out.tell x HK1.out.drew (HPT.out.bw (Bw.drew (Bw.refl _))) hb4 hr4 k5)
          have HB4 := hid hb4
          have bx4 := (HM.out.2.1.bw (Bw.drew (Bw.refl _))).bw hb4
          have u0 := bx4.cell 0
          have u1 := bx4.cell 1
          have u2 := bx4.cell 2
          have uf := bx4.free
          have ul := bx4.lt
          simp only [List.getElem?_toArray, List.getElem?_cons_zero, List.getElem?_cons_succ] at u0 u1 u2
          clear hb4 hr4
          refine hK.out _ _ (HSB.out _ HB4.out) ?_
          clear hK K
          try simp only [Act.put, List.setIfInBounds_toArray, List.set_cons_zero, List.set_cons_succ]
          refine wpAnyW_take (i := 6) (oi := { dst := some 57, op := Op.move (Operand.tmp 63), type := 30, pos := "law.go:161", after := #[{ on := 5, ground := Ground.data }], guard := none }) (v := ?_) rfl (by kernel_rfl) (by kernel_rfl) (by kernel_rfl) (by kernel_rfl) (fun _ _ _ h => h) (Or.inl ⟨by rfl, fun w _ => ?_⟩) ?_
          rotate_left
          · (go_simp; first | done | with_reducible rfl)
          try simp only [Act.put, List.setIfInBounds_toArray, List.set_cons_zero, List.set_cons_succ]
          refine wpAnyW_take (i := 7) (oi := { dst := some 64, op := Op.extract (Operand.tmp 57) 0, type := 29, pos := "law.go:161", after := #[{ on := 6, ground := Ground.data }], guard := none }) (v := ?_) rfl (by kernel_rfl) (by kernel_rfl) (by kernel_rfl) (by kernel_rfl) (fun _ _ _ h => h) (Or.inl ⟨by rfl, fun w _ => ?_⟩) ?_
          rotate_left
          · (go_simp; first | done | with_reducible rfl)
          try simp only [Act.put, List.setIfInBounds_toArray, List.set_cons_zero, List.set_cons_succ]
          refine wpAnyW_take (i := 8) (oi := { dst := some 65, op := Op.extract (Operand.tmp 57) 1, type := 3, pos := "law.go:161", after := #[{ on := 6, ground := Ground.data }, { on := 9, ground := Ground.gcOnly Departure.lateStores }], guard := none }) (v := ?_) rfl (by kernel_rfl) (by kernel_rfl) (by kernel_rfl) (by kernel_rfl) (fun _ _ _ h => h) (Or.inl ⟨by rfl, fun w _ => ?_⟩) ?_
          rotate_left
          · (go_simp; first | done | with_reducible rfl)
          try simp only [Act.put, List.setIfInBounds_toArray, List.set_cons_zero, List.set_cons_succ]
          refine wpAnyW_ready (rs := [9]) (by kernel_rfl) (by simp) ?_
          refine (AllReadyW.cons (o := { dst := none, op := Op.store 29 (Operand.tmp 5) (Operand.tmp 64), type := 0, pos := "law.go:161", after := #[{ on := 7, ground := Ground.data }, { on := 5, ground := Ground.chain }, { on := 0, ground := Ground.phase }, { on := 1, ground := Ground.phase }, { on := 2, ground := Ground.phase }, { on := 3, ground := Ground.phase }, { on := 4, ground := Ground.phase }, { on := 5, ground := Ground.phase }, { on := 6, ground := Ground.phase }, { on := 7, ground := Ground.phase }, { on := 8, ground := Ground.textOnly Departure.lateStores }], guard := none }) rfl (fun K hK => ?_) AllReadyW.nil)
          go_simp
          refine hK.out _ _ trivial ?_
          clear hK K
          try simp only [Act.put, List.setIfInBounds_toArray, List.set_cons_zero, List.set_cons_succ]
          refine wpAnyW_done (by kernel_rfl) ?_ _
          all_goals go_wp2
          all_goals go_roundw
          case rel => exact ⟨k + 1, _, _, by omega, Nat.le_trans (tellL_len _ _ _ _) (by omega), by go_num, HDT.out _ (Bw.refl _)⟩
          case measure => simp [intOf]; omega
        · have hrr : (0 ≤ x.d ∧ ¬ x.d ≤ 4) ∨ ¬ 0 ≤ x.d := by omega
          clear ok1
          rcases hrr with ⟨r1, r2⟩ | r1
          all_goals
            clear hdw
            go_wp2
            go_roundw
            case rel => exact ⟨k + 1, _, L, by omega, by omega, by go_num, HD.out⟩
            case measure => simp [intOf]; omega
      · have hlt2 : ¬ (k : Int) < (l0.length : Int) := by omega
        clear hdw
        have hml : (hotL (hsOf L) 0 5).length ≤ 5 := by rw [hotL_len]; exact hots_len _ _ _
        have hsl : (stableL 5 L).length ≤ 5 := stab_len _ _
        go_wp2_with (first
          | (go_at_call 18; refine (Hot_any HD.out.ps (by decide) 0).mono ?_; rintro e w2 ⟨r, he2, ho2, hb2⟩; subst he2; obtain ⟨ar, cr, er⟩ := own_form ho2; subst er; have HO2 := hid (own_ownB ho2); have HB2 := hid hb2; clear ho2 hb2)
          | fail)
        generalize hmn : (hotL (hsOf L) 0 5).length = n1 at HO2 hml ⊢
        have HMN := hid hmn
        clear hmn
        go_loopw [9] (fun j ws => ∃ (i : Nat), i ≤ n1 ∧ j = .int .i64 i ∧ Bw wr ws ∧ OwnB ws wr.heap.size 3 1 (.slice ar n1 cr) n1) (fun j _ => n1 - (intOf j).toNat)
        case atStart => exact ⟨0, by omega, rfl, HB2.out, HO2.out⟩
        case round =>
          obtain ⟨i, hi, rfl, hbs, hos⟩ := hrel
          by_cases hin : i < n1
          · have hin2 : (i : Int) < (n1 : Int) := by omega
            rcases hos with h0 | ⟨g, cap, cur, e, hbg, hbk, hcs⟩
            · omega
            · simp only [Value.slice.injEq] at e
              obtain ⟨rfl, _, rfl⟩ := e
              have HBS := hid hbs
              have HBK := hid hbk
              have c0 : _ = some cur[i] := (hbk.cell i).trans (by simp [show i < cur.size by omega])
              have f0 := hbk.free
              have l0' := hbk.lt
              generalize cur[i] = cc at c0
              clear hbs hbk
              go_wp2
              go_roundw
              case rel => exact ⟨i + 1, by omega, by go_num, Bw.setCell HBS.out hbg _, .inr ⟨g, _, _, rfl, hbg, HBK.out.set i _, by simpa using hcs⟩⟩
              case measure => simp [intOf]; omega
          · have hin2 : ¬ (i : Int) < (n1 : Int) := by omega
            have HD5 := hid (HD.out.next hbs)
            clear hbs hos
            go_wp2_with (first
              | (go_at_call 19; refine (Stable_any HD5.out.ps (by decide)).mono ?_; rintro e w6 ⟨r6, he6, ho6, hb6⟩; subst he6; obtain ⟨a6, c6, e6⟩ := own_form ho6; subst e6; have HO6 := hid (own_ownB ho6); have HB6 := hid hb6; clear ho6 hb6)
              | fail)
            generalize hsn : (stableL 5 L).length = n2 at HO6 hsl ⊢
            have HSN := hid hsn
            clear hsn
            go_loopw [11] (fun j ws => ∃ (i : Nat), i ≤ n2 ∧ j = .int .i64 i ∧ Bw wr ws ∧ OwnB ws wr.heap.size 54 2 (.slice a6 n2 c6) n2) (fun j _ => n2 - (intOf j).toNat)
            case atStart => exact ⟨0, by omega, rfl, HB6.out, HO6.out⟩
            case round =>
              obtain ⟨i, hi, rfl, hbs, hos⟩ := hrel
              by_cases hin : i < n2
              · have hin2 : (i : Int) < (n2 : Int) := by omega
                rcases hos with h0 | ⟨g, cap, cur, e, hbg, hbk, hcs⟩
                · omega
                · simp only [Value.slice.injEq] at e
                  obtain ⟨rfl, _, rfl⟩ := e
                  have HBS := hid hbs
                  have HBK := hid hbk
                  have c0 : _ = some cur[i * 2 + 1] := (hbk.cell (i * 2 + 1)).trans (by simp [show i * 2 + 1 < cur.size by omega])
                  have f0 := hbk.free
                  have l0' := hbk.lt
                  generalize cur[i * 2 + 1] = cc at c0
                  clear hbs hbk
                  go_wp2
                  go_roundw
                  case rel => exact ⟨i + 1, by omega, by go_num, Bw.setCell HBS.out hbg _, .inr ⟨g, _, _, rfl, hbg, HBK.out.set (i * 2 + 1) _, by simpa using hcs⟩⟩
                  case measure => simp [intOf]; omega
              · have hin2 : ¬ (i : Int) < (n2 : Int) := by omega
                have HD9 := hid (HD5.out.next hbs)
                clear hbs hos
                have HSX := hid (show ∀ W', Bw wr W' → ((fun w' => w'.cell? ⟨B, 0, none⟩ = some (.int .i64 (5 : Nat)) ∧ w'.cell? ⟨B, 1, none⟩ = some (.int .i64 (5 : Nat)) ∧ w'.cell? ⟨B, 2, none⟩ = some (.slice aL L.length cL)) W') from fun W' hb => ⟨(HD9.out.box.bw hb).cell 0, (HD9.out.box.bw hb).cell 1, (HD9.out.box.bw hb).cell 2⟩)
                have hM5 : (hotL (hsOf L) 0 5).length ≤ 1000000 := by have := HMN.out; omega
                have hS5 : (stableL 5 L).length ≤ 1000000 := by have := HSN.out; omega
                go_wp2
                refine wp_region_W (fun w' => w'.cell? ⟨B, 0, none⟩ = some (.int .i64 (5 : Nat)) ∧ w'.cell? ⟨B, 1, none⟩ = some (.int .i64 (5 : Nat)) ∧ w'.cell? ⟨B, 2, none⟩ = some (.slice aL L.length cL)) (fun j => if j == 1 || j == 3 || j == 4 || j == 7 || j == 9 || j == 10 || j == 13 then 0 else 1) (by kernel_rfl) ?_
                refine wpAnyW_take (i := 0) (oi := { dst := some 89, op := Op.move (Operand.tmp 3), type := 24, pos := "law.go:172", after := #[], guard := none }) (v := ?_) rfl (by kernel_rfl) (by kernel_rfl) (by kernel_rfl) (by kernel_rfl) (fun _ _ _ h => h) (Or.inl ⟨by rfl, fun w _ => ?_⟩) ?_
                rotate_left
                · (go_simp; first | done | with_reducible rfl)
                try simp only [Act.put, List.setIfInBounds_toArray, List.set_cons_zero, List.set_cons_succ]
                refine wpAnyW_load (i := 2) (oi := { dst := some 91, op := Op.load 29 (Operand.tmp 5), type := 29, pos := "law.go:172", after := #[], guard := none }) (v := ?_) rfl (by kernel_rfl) (by kernel_rfl) (by kernel_rfl) (by kernel_rfl) (by kernel_rfl) (fun _ _ _ h => h) (Or.inl ⟨by rfl, fun w hS => ?_⟩) (HSX.out _ (Bw.drew (Bw.refl _))) ?_
                rotate_left
                · (obtain ⟨s1, s2, s3⟩ := hS; go_simp; first | done | with_reducible rfl)
                try simp only [Act.put, List.setIfInBounds_toArray, List.set_cons_zero, List.set_cons_succ]
                refine wpAnyW_ready (rs := [1]) (by kernel_rfl) (by simp) ?_
                refine (AllReadyW.cons (o := { dst := some 90, op := Op.call { callee := Callee.value (Operand.func 18), args := #[Operand.tmp 89, Operand.const (Value.int IntKind.i64 0)], argTypes := #[24, 3] }, type := 46, pos := "law.go:172", after := #[{ on := 0, ground := Ground.data }], guard := none }) rfl (fun K hK => ?_) AllReadyW.nil)
                go_simp
                refine ((Hot_any (HD9.out.ps.bw (Bw.drew (Bw.refl _))) (by decide) 0)).mono ?_
                rintro e x1 ⟨r1, he, ho, hb⟩
                subst he
                obtain ⟨a1, c1, e1⟩ := own_form ho
                subst e1
                have OW1 := hid (own_sl (G := fun _ => True) ho (fun _ _ => trivial))
                have X1 := hid ((Bw.drew (Bw.refl _)).trans hb)
                clear ho hb
                refine hK.out _ _ (HSX.out _ X1.out) ?_
                clear hK K
                try simp only [Act.put, List.setIfInBounds_toArray, List.set_cons_zero, List.set_cons_succ]
                refine wpAnyW_ready (rs := [3]) (by kernel_rfl) (by simp) ?_
                refine (AllReadyW.cons (o := { dst := some 92, op := Op.call { callee := Callee.value (Operand.func 21), args := #[Operand.tmp 91, Operand.const (Value.int IntKind.i64 0)], argTypes := #[29, 3] }, type := 46, pos := "law.go:172", after := #[{ on := 2, ground := Ground.data }, { on := 1, ground := Ground.chain }], guard := none }) rfl (fun K hK => ?_) AllReadyW.nil)
                go_simp
                refine ((rHot_any (F := 5) (G := 5) (HD9.out.rl.bw X1.out).acts (by omega) (by decide) 0)).mono ?_
                rintro e x3 ⟨r3, he, ho, hb⟩
                subst he
                obtain ⟨a3, c3, e3⟩ := own_form ho
                subst e3
                have OW3 := hid (own_sl (G := fun _ => True) ho (fun _ _ => trivial))
                have OW1b := hid (OW1.out.below hb)
                have X3 := hid (X1.out.trans hb)
                clear ho hb OW1
                refine hK.out _ _ (HSX.out _ X3.out) ?_
                clear hK K
                try simp only [Act.put, List.setIfInBounds_toArray, List.set_cons_zero, List.set_cons_succ]
                refine wpAnyW_ready (rs := [4]) (by kernel_rfl) (by simp) ?_
                refine (AllReadyW.cons (o := { dst := some 93, op := Op.call { callee := Callee.value (Operand.func 20), args := #[Operand.tmp 90, Operand.tmp 92], argTypes := #[46, 46] }, type := 4, pos := "law.go:172", after := #[{ on := 1, ground := Ground.data }, { on := 3, ground := Ground.data }, { on := 3, ground := Ground.chain }], guard := none }) rfl (fun K hK => ?_) AllReadyW.nil)
                go_simp
                refine (sameInts_any _ _ _ OW1b.out OW3.out hM5).mono ?_
                rintro e x4 ⟨he, hd⟩
                subst he
                have X4 := hid (X3.out.trans hd.bw)
                clear hd OW1b OW3
                refine hK.out _ _ (HSX.out _ X4.out) ?_
                clear hK K
                try simp only [Act.put, List.setIfInBounds_toArray, List.set_cons_zero, List.set_cons_succ]
                refine wpAnyW_take (i := 5) (oi := { dst := some 94, op := Op.move (Operand.tmp 93), type := 4, pos := "law.go:172", after := #[{ on := 4, ground := Ground.data }, { on := 4, ground := Ground.chain }], guard := none }) (v := ?_) rfl (by kernel_rfl) (by kernel_rfl) (by kernel_rfl) (by kernel_rfl) (fun _ _ _ h => h) (Or.inl ⟨by rfl, fun w _ => ?_⟩) ?_
                rotate_left
                · (go_simp; first | done | with_reducible rfl)
                try simp only [Act.put, List.setIfInBounds_toArray, List.set_cons_zero, List.set_cons_succ]
                refine wpAnyW_take (i := 6) (oi := { dst := some 95, op := Op.move (Operand.tmp 3), type := 24, pos := "law.go:172", after := #[{ on := 5, ground := Ground.guard }], guard := some (5, true) }) (v := ?_) rfl (by kernel_rfl) (by kernel_rfl) (by kernel_rfl) (by kernel_rfl) (fun _ _ _ h => h) (Or.inl ⟨by rfl, fun w _ => ?_⟩) ?_
                rotate_left
                · (go_simp; first | done | with_reducible rfl)
                try simp only [Act.put, List.setIfInBounds_toArray, List.set_cons_zero, List.set_cons_succ]
                refine wpAnyW_load (i := 8) (oi := { dst := some 97, op := Op.load 29 (Operand.tmp 5), type := 29, pos := "law.go:172", after := #[{ on := 5, ground := Ground.guard }], guard := some (5, true) }) (v := ?_) rfl (by kernel_rfl) (by kernel_rfl) (by kernel_rfl) (by kernel_rfl) (by kernel_rfl) (fun _ _ _ h => h) (Or.inl ⟨by rfl, fun w hS => ?_⟩) (HSX.out _ X4.out) ?_
                rotate_left
                · (obtain ⟨s1, s2, s3⟩ := hS; go_simp; first | done | with_reducible rfl)
                try simp only [Act.put, List.setIfInBounds_toArray, List.set_cons_zero, List.set_cons_succ]
                refine wpAnyW_ready (rs := [7]) (by kernel_rfl) (by simp) ?_
                refine (AllReadyW.cons (o := { dst := some 96, op := Op.call { callee := Callee.value (Operand.func 19), args := #[Operand.tmp 95], argTypes := #[24] }, type := 48, pos := "law.go:172", after := #[{ on := 6, ground := Ground.data }, { on := 5, ground := Ground.chain }, { on := 5, ground := Ground.guard }], guard := some (5, true) }) rfl (fun K hK => ?_) AllReadyW.nil)
                go_simp
                refine ((Stable_any (HD9.out.ps.bw X4.out) (by decide))).mono ?_
                rintro e x7 ⟨r7, he, ho, hb⟩
                subst he
                obtain ⟨a7, c7, e7⟩ := own_form ho
                subst e7
                have OW7 := hid (own_sl (G := fun _ => True) ho (fun _ _ => trivial))
                have X7 := hid (X4.out.trans hb)
                clear ho hb
                refine hK.out _ _ (HSX.out _ X7.out) ?_
                clear hK K
                try simp only [Act.put, List.setIfInBounds_toArray, List.set_cons_zero, List.set_cons_succ]
                refine wpAnyW_ready (rs := [9]) (by kernel_rfl) (by simp) ?_
                refine (AllReadyW.cons (o := { dst := some 98, op := Op.call { callee := Callee.value (Operand.func 23), args := #[Operand.tmp 97], argTypes := #[29] }, type := 48, pos := "law.go:172", after := #[{ on := 8, ground := Ground.data }, { on := 7, ground := Ground.chain }, { on := 5, ground := Ground.guard }], guard := some (5, true) }) rfl (fun K hK => ?_) AllReadyW.nil)
                go_simp
                refine ((rStable_any (F := 5) (G := 5) (HD9.out.rl.bw X7.out).acts (by omega) (by decide))).mono ?_
                rintro e x9 ⟨r9, he, ho, hb⟩
                subst he
                obtain ⟨a9, c9, e9⟩ := own_form ho
                subst e9
                have OW9 := hid (own_sl (G := fun _ => True) ho (fun _ _ => trivial))
                have OW7b := hid (OW7.out.below hb)
                have X9 := hid (X7.out.trans hb)
                clear ho hb OW7
                refine hK.out _ _ (HSX.out _ X9.out) ?_
                clear hK K
                try simp only [Act.put, List.setIfInBounds_toArray, List.set_cons_zero, List.set_cons_succ]
                refine wpAnyW_ready (rs := [10]) (by kernel_rfl) (by simp) ?_
                refine (AllReadyW.cons (o := { dst := some 99, op := Op.call { callee := Callee.value (Operand.func 22), args := #[Operand.tmp 96, Operand.tmp 98], argTypes := #[48, 48] }, type := 4, pos := "law.go:172", after := #[{ on := 7, ground := Ground.data }, { on := 9, ground := Ground.data }, { on := 9, ground := Ground.chain }, { on := 5, ground := Ground.guard }], guard := some (5, true) }) rfl (fun K hK => ?_) AllReadyW.nil)
                go_simp
                refine (sameDeps_any _ _ _ OW7b.out OW9.out hS5).mono ?_
                rintro e x10 ⟨he, hd⟩
                subst he
                have X10 := hid (X9.out.trans hd.bw)
                clear hd OW7b OW9
                refine hK.out _ _ (HSX.out _ X10.out) ?_
                clear hK K
                try simp only [Act.put, List.setIfInBounds_toArray, List.set_cons_zero, List.set_cons_succ]
                refine wpAnyW_take (i := 11) (oi := { dst := some 100, op := Op.pick (Operand.tmp 94) (Operand.tmp 99) (Operand.const (Value.bool false)), type := 4, pos := "law.go:172", after := #[{ on := 5, ground := Ground.data }, { on := 10, ground := Ground.data }], guard := none }) (v := ?_) rfl (by kernel_rfl) (by kernel_rfl) (by kernel_rfl) (by kernel_rfl) (fun _ _ _ h => h) (Or.inl ⟨by rfl, fun w _ => ?_⟩) ?_
                rotate_left
                · (go_simp; first | done | with_reducible rfl)
                try simp only [Act.put, List.setIfInBounds_toArray, List.set_cons_zero, List.set_cons_succ]
                refine wpAnyW_take (i := 12) (oi := { dst := some 101, op := Op.move (Operand.tmp 100), type := 4, pos := "law.go:172", after := #[{ on := 11, ground := Ground.data }, { on := 10, ground := Ground.chain }], guard := none }) (v := ?_) rfl (by kernel_rfl) (by kernel_rfl) (by kernel_rfl) (by kernel_rfl) (fun _ _ _ h => h) (Or.inl ⟨by rfl, fun w _ => ?_⟩) ?_
                rotate_left
                · (go_simp; first | done | with_reducible rfl)
                try simp only [Act.put, List.setIfInBounds_toArray, List.set_cons_zero, List.set_cons_succ]
                refine wpAnyW_ready (rs := [13]) (by kernel_rfl) (by simp) ?_
                refine (AllReadyW.cons (o := { dst := some 102, op := Op.call { callee := Callee.value (Operand.func 8), args := #[], argTypes := #[] }, type := 4, pos := "law.go:172", after := #[{ on := 12, ground := Ground.chain }, { on := 12, ground := Ground.guard }], guard := some (12, true) }) rfl (fun K hK => ?_) AllReadyW.nil)
                go_simp
                refine (live_any _).mono ?_
                rintro e x13 ⟨he, hb⟩
                subst he
                have X13 := hid (X10.out.trans hb)
                clear hb
                refine hK.out _ _ (HSX.out _ X13.out) ?_
                clear hK K
                try simp only [Act.put, List.setIfInBounds_toArray, List.set_cons_zero, List.set_cons_succ]
                refine wpAnyW_take (i := 14) (oi := { dst := some 103, op := Op.pick (Operand.tmp 101) (Operand.tmp 102) (Operand.const (Value.bool false)), type := 4, pos := "law.go:172", after := #[{ on := 12, ground := Ground.data }, { on := 13, ground := Ground.data }], guard := none }) (v := ?_) rfl (by kernel_rfl) (by kernel_rfl) (by kernel_rfl) (by kernel_rfl) (fun _ _ _ h => h) (Or.inl ⟨by rfl, fun w _ => ?_⟩) ?_
                rotate_left
                · (go_simp; first | done | with_reducible rfl)
                try simp only [Act.put, List.setIfInBounds_toArray, List.set_cons_zero, List.set_cons_succ]
                refine wpAnyW_take (i := 15) (oi := { dst := some 2, op := Op.assign (Operand.tmp 103), type := 4, pos := "law.go:172", after := #[{ on := 14, ground := Ground.data }, { on := 13, ground := Ground.chain }, { on := 0, ground := Ground.phase }, { on := 1, ground := Ground.phase }, { on := 2, ground := Ground.phase }, { on := 3, ground := Ground.phase }, { on := 4, ground := Ground.phase }, { on := 5, ground := Ground.phase }, { on := 6, ground := Ground.phase }, { on := 7, ground := Ground.phase }, { on := 8, ground := Ground.phase }, { on := 9, ground := Ground.phase }, { on := 10, ground := Ground.phase }, { on := 11, ground := Ground.phase }, { on := 12, ground := Ground.phase }, { on := 13, ground := Ground.phase }, { on := 14, ground := Ground.phase }], guard := none }) (v := ?_) rfl (by kernel_rfl) (by kernel_rfl) (by kernel_rfl) (by kernel_rfl) (fun _ _ _ h => h) (Or.inl ⟨by rfl, fun w _ => ?_⟩) ?_
                rotate_left
                · (go_simp; first | done | with_reducible rfl)
                try simp only [Act.put, List.setIfInBounds_toArray, List.set_cons_zero, List.set_cons_succ]
                refine wpAnyW_done (by kernel_rfl) ?_ _
                all_goals go_wp2
                all_goals go_ret
                all_goals exact ⟨rfl, HD9.out.bw.trans X13.out⟩

set_option maxRecDepth 100000 in
theorem lifted (os : Os) (started : os.Started) (H : Type) (enc : TypeId × Value → H) :
    ReturnsInHanded {} Try.checked os 6 .any (Rows.profOwnSpec.pre6 enc Try.prog Try.f6 Rows.profOwnRow.domain false) (Rows.profOwnSpec.post enc Try.prog Try.f6 false true false false) := by
  refine returnsInHanded_of_change (C := Try.checked) ownK started (by kernel_rfl) Try.func6
    (ChangeSpec.witness6 (enc := enc) (C := Try.checked) false ⟨#[], #[.slice none 0 0], []⟩ 8 (by kernel_rfl) (by kernel_rfl) (by kernel_rfl) (by kernel_rfl)) ?_
  intro W base args ds gs before hval0 hW hcnd _
  have hval : ∀ (j : Nat) t v, Try.f6.params[j]? = some t → args[j]? = some v → Value.okWide Try.prog W .any base t v := hval0
  have hW' := hW
  obtain ⟨p, q, hA0, hV, rfl, hfz, hnd⟩ := hW
  have hA : DataW.TrodAll enc Try.prog W 0 (fun _ => true) true Try.f6.params.toList args.toList ds p := hA0
  rw [Try.params6] at hA hval
  obtain ⟨v0, vs0, d0, ds0, p0, q0, hargs, rfl, rfl, h0, r0⟩ := trodAll_cons hA
  obtain ⟨rfl, rfl, rfl⟩ := trodAll_nil r0
  obtain rfl : args = #[v0] := by cases args; simp_all
  obtain ⟨rfl, rfl⟩ := trodVars_none hV
  have k0 := h0
  have lt0 : ∀ x ∈ p0, x.block < W.heap.size := by obtain ⟨m, hm⟩ := k0; exact DataW.trod_lt m _ _ _ hm
  obtain ⟨l0, w0⟩ := open_acts (hval 0 22 v0 rfl rfl) h0
  clear hA0 hval0
  refine (walk W v0 l0 w0).mono fun e W' ⟨he, bel⟩ => ?_
  subst he
  exact ⟨_, rfl, _, _, _, [], _, [], hW', trodAll_mk1 (shut_bool Try.underlying4 _), (trodAll_cons_mk (Below.trod laidOut (by kernel_rfl) (of_decide_eq_true (by kernel_rfl)) k0 bel lt0) trodAll_mk0), rfl, Below.frame bel _, fun h => by cases h⟩

theorem over : Rows.profOwnRow.holds Try.pinned (OpenSpec.ofChange Rows.profOwnSpec) :=
  OpenClaim.holds_of_wide 6 Try.f6 rfl rfl rfl rfl rfl rfl rfl ⟨rfl, rfl, rfl, rfl, rfl⟩ rfl rfl rfl rfl rfl (by kernel_rfl) Try.func6 (by kernel_rfl)
    (of_decide_eq_true (by kernel_rfl)) (by unfold Func.isWrapper; first | (rw [if_pos (by decide +kernel)]; kernel_rfl) | (rw [if_neg (by decide +kernel)]; exact ⟨rfl, rfl⟩))
    (fun os started H enc _ => lifted os started H enc)

theorem proved : Rows.ProfOwnSaid := over
end Go.Proofs.Ytfkcbioefdkabaa.profOwn
namespace Go.Proofs.Ytfkcbioefdkabaa
theorem profOwn_holds : Rows.ProfOwnSaid := profOwn.proved
#print axioms profOwn_holds
end Go.Proofs.Ytfkcbioefdkabaa
