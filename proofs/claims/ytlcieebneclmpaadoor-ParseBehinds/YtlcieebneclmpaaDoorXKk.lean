/- The program's Lex: the contract. -/
import Derived.Test.YtlcieebneclmpaaDoorXJk
import Derived.WalkMore
set_option linter.unusedSimpArgs false
set_option linter.unusedVariables false
namespace Go.Proofs.YtlcieebneclmpaaDoor
open Go Go.RowKit

theorem underT : Tryd.prog.underlying 51 = some (.slice 72) := by kernel_rfl

theorem tk_snoc (l : List ATok) (t : ATok) : l.flatMap tkV ++ tkV t = (l ++ [t]).flatMap tkV := by simp

theorem Tk.bw {w w' : World} {base : Nat} {v : Value} {l : List ATok} (h : Tk w base v l) (hb : Bw w w') : Tk w' base v l :=
  h.kept (row := none) ⟨hb.os, hb.tape, hb.output, hb.size, fun k hk _ => hb.block k hk⟩ (by cases v.ownBlock <;> simp)

theorem Tk.form {w : World} {base : Nat} {v : Value} {l : List ATok} (h : Tk w base v l) : ∃ a cap, v = .slice a l.length cap := own_form h

set_option maxRecDepth 100000 in
set_option maxHeartbeats 8000000 in
theorem xLex_any (v : Value) (b : List Int) (w : World) (h : By w v b) (hs : Sg w) (hm : b.length ≤ 1000000) :
    Calls Tryd.prog 24 #[v] w fun e w' => ∃ r, e = .returned (.tuple #[r, .int .i64 (lexA b).2.1, .int .i64 ((lexA b).2.2 : Nat)]) ∧ Tk w' w.heap.size r (lexA b).1 ∧ Bw w w' := by
  have HB := hid h
  have HS := hid hs
  obtain ⟨a, cap, rfl⟩ := h.form
  obtain ⟨i1, hi1, hz1, hs1, hy1⟩ := info_parts infoT
  have I1 := hid (And.intro hi1 (And.intro hz1 (And.intro hs1 hy1)))
  clear h hs hi1 hz1 hs1 hy1
  by_cases hlong : 65536 < b.length
  · have e : lexA b = ([], 2, 0) := if_pos hlong
    rw [e]
    have hl' : decide ((65536 : Int) < (b.length : Int)) = true := decide_eq_true (by omega)
    clear hlong e
    go_enter Tryd.func24, Tryd.ntmps24
    go_wp2
    go_step3
    go_wp2
    all_goals rw [Exit.noGoto_ret]
    all_goals go_ret3
    all_goals exact ⟨_, rfl, World.ownsRow_nil _ _ _ _, Bw.refl _⟩
  · have e : lexA b = lexF (b.length + 1) b 0 [] := if_neg hlong
    generalize hR : lexA b = R at *
    have HE := hid e
    clear e hR
    have hl' : decide ((65536 : Int) < (b.length : Int)) = false := decide_eq_false (by omega)
    clear hlong
    go_enter Tryd.func24, Tryd.ntmps24
    go_wp2
    go_step3
    go_wp2
    go_step3
    go_wp2
    go_loopw [2, 3, 4] (fun l er p wr => ∃ (f k : Nat) (acc : List ATok), er = .int .i64 0 ∧ p = .int .i64 (k : Nat) ∧ k ≤ b.length ∧ (b.drop k).length < f ∧ R = lexF f (b.drop k) k acc ∧ acc.length ≤ 16384 ∧ Tk wr w.heap.size l acc ∧ Bw w wr) (fun _ _ p _ => b.length - (intOf p).toNat)
    case atStart => exact ⟨b.length + 1, 0, [], rfl, rfl, Nat.zero_le _, by simp, by simpa using HE.out, by simp, World.ownsRow_nil _ _ _ _, Bw.refl _⟩
    case round =>
      obtain ⟨f, k, acc, rfl, rfl, hk, hf, hre, hacc, htk, hbw⟩ := hrel
      obtain ⟨ax, cax, e⟩ := Tk.form htk
      subst e
      have HT := hid htk
      have HW := hid hbw
      have HR := hid hre
      have HF := hid hf
      have hsz : w.heap.size ≤ wr.heap.size := hbw.size
      have HAC := hid hacc
      clear htk hbw hre hf hacc
      by_cases hlt : k < b.length
      · obtain ⟨g, o, cap', e, hcap, hg, hcs⟩ := (HB.out.bw HW.out).parts hlt
        cases e
        have hc := hcs k hlt
        have hr : b.drop k = b[k] :: b.drop (k + 1) := List.drop_eq_getElem_cons hlt
        have hkl : (k : Int) < (b.length : Int) := by omega
        obtain ⟨f', rfl⟩ : ∃ f', f = f' + 1 := ⟨f - 1, by have := HF.out; omega⟩
        have hdl : (b.drop k).length = b.length - k := List.length_drop
        have HDR := hid hr
        clear hcs hr
        generalize b[k] = c at hc HDR
        have hre2 : R = lexF (f' + 1) (c :: b.drop (k + 1)) k acc := by rw [← HDR.out]; exact HR.out
        have HR2 := hid hre2
        clear hre2
        cases h1 : isBl c
        · cases h2 : (c == 35)
          · have h2' : c ≠ 35 := by simpa using h2
            cases h3 : begn c
            · have hf : R = ([], 6, k) := by rw [HR2.out, lexF_form h1 h2' h3]
              have HFN := hid hf
              clear hf
              go_wp2_with (first
                | (go_at_call 38; refine (xisBlank_any _ _).mono ?_; rintro e w' ⟨rfl, hw'⟩; subst w')
                | (go_at_call 40; refine (xbegins_any _ _ (HS.out.bw HW.out)).mono ?_; rintro e w' ⟨rfl, hw'⟩; subst w'))
              all_goals rw [Exit.noGoto_ret]
              all_goals go_ret3
              all_goals exact ⟨.slice none 0 0, by rw [HFN.out]; rfl, by rw [HFN.out]; exact World.ownsRow_nil _ _ _ _, HW.out⟩
            · by_cases h4 : acc.length = 16384
              · have hf : R = ([], 3, k) := by rw [HR2.out, lexF_full h1 h2' h3 _ _ _ _ h4]
                have HFN := hid hf
                have h4' : ((acc.length : Int) == 16384) = true := by simp; omega
                clear hf h4
                go_wp2_with (first
                  | (go_at_call 38; refine (xisBlank_any _ _).mono ?_; rintro e w' ⟨rfl, hw'⟩; subst w')
                  | (go_at_call 40; refine (xbegins_any _ _ (HS.out.bw HW.out)).mono ?_; rintro e w' ⟨rfl, hw'⟩; subst w'))
                all_goals rw [Exit.noGoto_ret]
                all_goals go_ret3
                all_goals exact ⟨.slice none 0 0, by rw [HFN.out]; rfl, by rw [HFN.out]; exact World.ownsRow_nil _ _ _ _, HW.out⟩
              · have h4' : ((acc.length : Int) == 16384) = false := by simp; omega
                have HX := hid (xcut_any _ b k (wr.alloc tk0) ((HB.out.bw HW.out).bw (Bw.alloc (Bw.refl _) tk0)) ((HS.out.bw HW.out).bw (Bw.alloc (Bw.refl _) tk0)) hlt hm)
                cases hC : cut (b.drop k) with
                | bad er off =>
                  have hne := (cut_bad hC).1
                  have hf : R = ([], er, k + off) := by
                    rw [HDR.out] at hC
                    rw [HR2.out, lexF_bad h1 h2' h3 _ _ _ _ h4 hC]
                  have HFN := hid hf
                  have hne' : (er != 0) = true := by simp; omega
                  rw [hC] at HX
                  clear hf hC hne
                  go_wp2_with (first
                    | (go_at_call 38; refine (xisBlank_any _ _).mono ?_; rintro e w' ⟨rfl, hw'⟩; subst w')
                    | (go_at_call 40; refine (xbegins_any _ _ (HS.out.bw HW.out)).mono ?_; rintro e w' ⟨rfl, hw'⟩; subst w')
                    | (go_at_call 41; refine (HX.out).mono ?_; rintro e w1 ⟨rfl, hw1⟩; have HW1 := hid hw1; have B := (Blk.new wr #[.int .i64 0, .string ByteArray.empty, .int .i64 0, .int .i64 0] 72).bw hw1; have HBK := hid B; have k0 := B.cell 0; have k1 := B.cell 1; have k2 := B.cell 2; have k3 := B.cell 3; have kf := B.free; simp at k0 k1 k2 k3; clear hw1 B; unfold cutV))
                  all_goals rw [Exit.noGoto_ret]
                  all_goals go_ret3
                  all_goals exact ⟨.slice none 0 0, by rw [HFN.out]; simp, by rw [HFN.out]; exact World.ownsRow_nil _ _ _ _, HW.out.trans ((((((Bw.alloc (Bw.refl wr) tk0).trans HW1.out).setCell (Nat.le_refl _) _).setCell (Nat.le_refl _) _).setCell (Nat.le_refl _) _).setCell (Nat.le_refl _) _)⟩
                | tok kd x n len =>
                  have hlen := cut_len hC
                  have hf : R = lexF f' (b.drop (k + len)) (k + len) (acc ++ [(kd, x, n, (k : Int))]) := by
                    have hC' := hC
                    rw [HDR.out] at hC'
                    rw [HR2.out, lexF_tok h1 h2' h3 _ _ _ _ h4 hC', ← HDR.out, List.drop_drop]
                  have HFN := hid hf
                  rw [hC] at HX
                  clear hf hC
                  go_wp2_with (first
                    | (go_at_call 38; refine (xisBlank_any _ _).mono ?_; rintro e w' ⟨rfl, hw'⟩; subst w')
                    | (go_at_call 40; refine (xbegins_any _ _ (HS.out.bw HW.out)).mono ?_; rintro e w' ⟨rfl, hw'⟩; subst w')
                    | (go_at_call 41; refine (HX.out).mono ?_; rintro e w1 ⟨rfl, hw1⟩; have HW1 := hid hw1; have B := (Blk.new wr #[.int .i64 0, .string ByteArray.empty, .int .i64 0, .int .i64 0] 72).bw hw1; have HBK := hid B; have k0 := B.cell 0; have k1 := B.cell 1; have k2 := B.cell 2; have k3 := B.cell 3; have kf := B.free; simp at k0 k1 k2 k3; clear hw1 B; unfold cutV)
                    | (at_builtin; refine wpList_append_own _ rfl _ _ 51 rfl w.heap.size 72 i1 _ 4 40 underT I1.out.1 I1.out.2.1 I1.out.2.2.1 I1.out.2.2.2 rfl (by decide) (.slice ax acc.length cax) acc.length (acc.flatMap tkV) rfl ?c0 _ 1 1 (tkV (kd, x, n, (k : Int))) rfl rfl ?c1 ?c2 ?c3 ?c4 ?c5 ?_)
                    | go_in)
                  case c0 => exact HT.out.bw (Bw.alloc ((((((Bw.alloc (Bw.refl wr) tk0).trans HW1.out).setCell (Nat.le_refl _) _).setCell (Nat.le_refl _) _).setCell (Nat.le_refl _) _).setCell (Nat.le_refl _) _) _)
                  case c1 =>
                    intro j u hj
                    match j, hj with
                    | 0, hj => simp [tkV] at hj; subst hj; simp [Addr.add, go_sem]
                    | 1, hj => simp [tkV] at hj; subst hj; simp [Addr.add, go_sem]
                    | 2, hj => simp [tkV] at hj; subst hj; simp [Addr.add, go_sem]
                    | 3, hj => simp [tkV] at hj; subst hj; simp [Addr.add, go_sem]
                    | j + 4, hj => simp [tkV] at hj
                  case c2 => intro u hu; simp [tkV] at hu; rcases hu with rfl | rfl | rfl | rfl <;> rfl
                  case c3 => have := HAC.out; unfold maxLen; omega
                  case c4 => have := HAC.out; omega
                  case c5 => have := HW1.out.size; simp at this ⊢; omega
                  intro v' w2 hown hgr _
                  obtain ⟨av', cv', e⟩ := own_form hown
                  subst e
                  have hb2 : Bw w w2 := by
                    refine bw_grown (e := 72) (size := 4) (n := acc.length) (xs := acc.flatMap tkV) ?_ (Nat.le_refl _) ?_ hgr
                    · exact HW.out.trans (Bw.alloc ((((((Bw.alloc (Bw.refl wr) tk0).trans HW1.out).setCell (Nat.le_refl _) _).setCell (Nat.le_refl _) _).setCell (Nat.le_refl _) _).setCell (Nat.le_refl _) _) _)
                    · exact HT.out.bw (Bw.alloc ((((((Bw.alloc (Bw.refl wr) tk0).trans HW1.out).setCell (Nat.le_refl _) _).setCell (Nat.le_refl _) _).setCell (Nat.le_refl _) _).setCell (Nat.le_refl _) _) _)
                  have HB2 := hid hb2
                  rw [tk_snoc] at hown
                  have HO1 := hid hown
                  clear hgr hown hb2
                  go_wp2
                  go_roundw
                  case rel => exact ⟨f', k + len, _, rfl, by go_num, by omega, by rw [List.length_drop]; have := HF.out; omega, HFN.out, by have := HAC.out; simp; omega, by simpa [Tk] using HO1.out, HB2.out⟩
                  case measure => simp [intOf]; omega
          · rw [beq_iff_eq] at h2
            subst h2
            have htw := twl_le (· != 10) (b.drop (k + 1))
            rw [List.length_drop] at htw
            have hf : R = lexF f' (b.drop (k + 1 + twl (· != 10) (b.drop (k + 1)))) (k + 1 + twl (· != 10) (b.drop (k + 1))) acc := by
              rw [HR2.out, lexF_rem, List.drop_drop]
            have HFN := hid hf
            have HTW := hid htw
            have ht1 : twl (· != 10) (b.drop k) = twl (· != 10) (b.drop (k + 1)) + 1 := by rw [HDR.out, twl_cons]; simp
            have HT1 := hid ht1
            clear hf ht1 htw
            go_wp2_with (first
              | (go_at_call 38; refine (xisBlank_any _ _).mono ?_; rintro e w' ⟨rfl, hw'⟩; subst w')
              | (go_at_call 39; refine (xbehindRemark_any _ b k _ (HB.out.bw HW.out) hk hm).mono ?_; rw [HT1.out]; rintro e w' ⟨rfl, n1, rfl⟩))
            go_roundw
            case rel => exact ⟨f', k + 1 + twl (· != 10) (b.drop (k + 1)), acc, rfl, by go_num, by have := HTW.out; omega, by rw [List.length_drop]; have := HF.out; omega, HFN.out, HAC.out, HT.out.bw (Bw.drewN (Bw.refl _) _), Bw.drewN HW.out _⟩
            case measure => simp [intOf]; have := HTW.out; omega
        · have hf : R = lexF f' (b.drop (k + 1)) (k + 1) acc := by rw [HR2.out, lexF_blank h1]
          have HFN := hid hf
          clear hf
          go_wp2_with (first
            | (go_at_call 38; refine (xisBlank_any _ _).mono ?_; rintro e w' ⟨rfl, hw'⟩; subst w'))
          go_roundw
          case rel => exact ⟨f', k + 1, acc, rfl, by go_num, by omega, by rw [List.length_drop]; have := HF.out; omega, HFN.out, HAC.out, HT.out, HW.out⟩
          case measure => simp [intOf]; omega
      · obtain rfl : k = b.length := by omega
        obtain ⟨f', rfl⟩ : ∃ f', f = f' + 1 := ⟨f - 1, by have := HF.out; omega⟩
        have hf : R = (acc ++ [(0, [], 0, (b.length : Int))], 0, b.length) := by rw [HR.out, List.drop_length, lexF_nil]
        have HFN := hid hf
        clear hf
        go_wp2_with (first
          | (at_builtin; refine wpList_append_own _ rfl _ _ 51 rfl w.heap.size 72 i1 _ 4 40 underT I1.out.1 I1.out.2.1 I1.out.2.2.1 I1.out.2.2.2 rfl (by decide) (.slice ax acc.length cax) acc.length (acc.flatMap tkV) rfl ?c0 _ 1 1 (tkV (0, [], 0, (b.length : Int))) rfl rfl ?c1 ?c2 ?c3 ?c4 ?c5 ?_)
          | go_in)
        case c0 => exact HT.out.bw (Bw.alloc (Bw.refl _) _)
        case c1 =>
          intro j u hj
          match j, hj with
          | 0, hj => simp [tkV] at hj; subst hj; simp [Addr.add, go_sem]
          | 1, hj => simp [tkV] at hj; subst hj; simp [Addr.add, go_sem, strOf_nil]
          | 2, hj => simp [tkV] at hj; subst hj; simp [Addr.add, go_sem]
          | 3, hj => simp [tkV] at hj; subst hj; simp [Addr.add, go_sem]
          | j + 4, hj => simp [tkV] at hj
        case c2 => intro u hu; simp [tkV] at hu; rcases hu with rfl | rfl | rfl | rfl <;> rfl
        case c3 => have := HAC.out; unfold maxLen; omega
        case c4 => have := HAC.out; omega
        case c5 => simp only [World.size_alloc]; omega
        intro v' w2 hown hgr _
        obtain ⟨av', cv', e⟩ := own_form hown
        subst e
        have hb2 : Bw w w2 := by
          refine bw_grown (e := 72) (size := 4) (n := acc.length) (xs := acc.flatMap tkV) ?_ (Nat.le_refl _) ?_ hgr
          · exact HW.out.trans (Bw.alloc (Bw.refl _) _)
          · exact HT.out.bw (Bw.alloc (Bw.refl _) _)
        have HB2 := hid hb2
        rw [tk_snoc] at hown
        have HO1 := hid hown
        clear hgr hown hb2
        go_wp2
        all_goals rw [Exit.noGoto_ret]
        all_goals go_ret3
        all_goals exact ⟨.slice av' (acc.length + 1) cv', by rw [HFN.out]; rfl, by rw [HFN.out]; simpa [Tk] using HO1.out, HB2.out⟩

end Go.Proofs.YtlcieebneclmpaaDoor

