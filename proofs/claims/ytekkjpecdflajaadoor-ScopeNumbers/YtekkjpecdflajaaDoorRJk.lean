/- The document's Lex, of texts that are not too long: the contract. -/
import Derived.Test.YtekkjpecdflajaaDoorRIk
import Derived.Test.YtekkjpecdflajaaDoorRHk
set_option linter.unusedSimpArgs false
set_option linter.unusedVariables false
set_option maxRecDepth 20000
namespace Go.Proofs.YtekkjpecdflajaaDoor
open Go Go.RowKit

theorem rcut_bad {r : List Int} {e : Int} {off : Nat} (h : rcut r = .bad e off) : e = 6 ∨ e = 9 := by
  cases r with
  | nil => simp [rcut] at h; omega
  | cons c t =>
    cases hg : begn c
    · rw [rcut_no hg] at h
      cases h; exact .inl rfl
    · rw [rcut_eq hg] at h
      exact (Go.Proofs.YtekkjpecdflajaaDoor.cut_bad h).1

set_option maxRecDepth 100000 in
set_option maxHeartbeats 32000000 in
theorem rLex_any (v : Value) (b : List Int) (w : World) (h : By w v b) (hm : b.length ≤ 3000) :
    Calls Tryd.prog 13 #[v] w fun e w' => ∃ r, e = .returned (.tuple #[r, .int .i64 (lexA b).2.1, .int .i64 ((lexA b).2.2 : Nat)]) ∧ Tk w' w.heap.size r (lexA b).1 ∧ Bw w w' := by
  have HB := hid h
  obtain ⟨a, cap, rfl⟩ := h.form
  obtain ⟨i1, hi1, hz1, hs1, hy1⟩ := info_parts infoT
  have I1 := hid (And.intro hi1 (And.intro hz1 (And.intro hs1 hy1)))
  have e : lexA b = lexF (b.length + 1) b 0 [] := if_neg (by omega)
  generalize hR : lexA b = R at *
  have HE := hid e
  have hl' : decide ((65536 : Int) < (b.length : Int)) = false := decide_eq_false (by omega)
  clear h hi1 hz1 hs1 hy1 e hR
  go_enter Tryd.func13, Tryd.ntmps13
  go_wp2_with (first
    | (go_at_call 20; refine (rskip_any _ b 0 _ HB.out (by omega) (by omega)).mono ?_; rintro e w' ⟨p0, rfl, hsk, hw'⟩; subst w'; have HSK := hid hsk; clear hsk))
  go_loopw [5, 6] (fun l p wr => ∃ (f k : Nat) (acc : List ATok), p = .int .i64 (k : Nat) ∧ k ≤ b.length ∧ (b.drop k).length < f ∧ R = lexF f (b.drop k) k acc ∧ acc.length ≤ k ∧ (∀ h : k < b.length, isBl b[k] = false ∧ b[k] ≠ 35) ∧ Tk wr w.heap.size l acc ∧ Bw w wr) (fun _ p _ => b.length - (intOf p).toNat)
  case atStart =>
    obtain ⟨f2, hf2, hl2⟩ := HSK.out.1.2.2 [] (b.length + 1) (by simp)
    exact ⟨f2, p0, [], rfl, HSK.out.1.2.1, hf2, HE.out.trans (by simpa using hl2), by simp, HSK.out.2, World.ownsRow_nil _ _ _ _, Bw.refl _⟩
  case round =>
    obtain ⟨f, k, acc, rfl, hk, hf, hre, hacc, hbeg, htk, hbw⟩ := hrel
    obtain ⟨ax, cax, e⟩ := Tk.form htk
    subst e
    have HT := hid htk
    have HW := hid hbw
    have HRR := hid hre
    have HF := hid hf
    have HAC := hid (show acc.length ≤ 3000 ∧ acc.length ≤ k by omega)
    have hsz : w.heap.size ≤ wr.heap.size := hbw.size
    clear htk hbw hre hf HSK
    by_cases hlt : k < b.length
    · obtain ⟨g, o, cap', e, hcap, hg, hcs⟩ := (HB.out.bw HW.out).parts hlt
      cases e
      have HCS := hid hcs
      have hc := hcs k hlt
      have hkl : (k : Int) < (b.length : Int) := by omega
      have h4' : ((acc.length : Int) == 16384) = false := by simp; omega
      have hdr : b.drop k = b[k] :: b.drop (k + 1) := List.drop_eq_getElem_cons hlt
      obtain ⟨hb1, hb2⟩ := hbeg hlt
      have HSTP := hid (lex_step hlt hb1 hb2 acc (by omega) f HF.out)
      have hrc : rcut (b.drop k) = if isLt b[k] then cName (b.drop k) else if isDg b[k] then cNum (b.drop k) else if b[k] = 34 then cStr ((b.drop (k + 1)).length + 1) (b.drop (k + 1)) [] 1 else sgC (b.drop k) := by
        conv => lhs; rw [hdr]
        simp only [rcut]
        rw [← hdr]
      have HBA := hid ((HB.out.bw HW.out).bw (Bw.alloc (Bw.refl _) tk0))
      clear hcs hdr hb1 hb2 hbeg hacc
      generalize b[k] = c at hc hrc
      cases h1 : isLt c
      · cases h2 : isDg c
        · cases h3 : (c == 34)
          · have HRC := hid (show rcut (b.drop k) = sgC (b.drop k) by rw [hrc, if_neg (by simp [h1]), if_neg (by simp [h2]), if_neg (by simpa using h3)])
            clear hrc
            have HX := hid (rsign_any _ b k _ HBA.out hlt (by omega))
            cases hC : sgC (b.drop k) with
            | bad er off =>
              rw [hC] at HX HRC
              have hne := rcut_bad HRC.out
              have HFN := hid (HSTP.out.1 er off HRC.out)
              have hne' : (er != 0) = true := by simp; omega
              clear hC hne HSTP
              go_wp2_with (first
                | (go_at_call 22; refine (rdigit_any _ _).mono ?_; rintro e w' ⟨rfl, hw'⟩; subst w')
                | (go_at_call 21; refine (rletter_any _ _).mono ?_; rintro e w' ⟨rfl, hw'⟩; subst w')
                | (go_at_call 26; refine (HX.out).mono ?_; rintro e w1 ⟨r1, rfl, ⟨q1, q2, q3, qs, hr1⟩, hw1⟩; subst hr1; have HW1 := hid hw1; have B := (Blk.new wr #[.int .i64 0, .string ByteArray.empty, .int .i64 0, .int .i64 0] 56).bw hw1; have HBK := hid B; have k0 := B.cell 0; have k1 := B.cell 1; have k2 := B.cell 2; have k3 := B.cell 3; have kf := B.free; simp at k0 k1 k2 k3; clear hw1 B))
              all_goals go_ret3
              all_goals exact ⟨.slice none 0 0, by rw [HRR.out, HFN.out]; simp, by rw [HRR.out, HFN.out]; exact World.ownsRow_nil _ _ _ _, HW.out.trans ((((((Bw.alloc (Bw.refl wr) tk0).trans HW1.out).setCell (Nat.le_refl _) _).setCell (Nat.le_refl _) _).setCell (Nat.le_refl _) _).setCell (Nat.le_refl _) _)⟩
            | tok kd x n len =>
              rw [hC] at HX HRC
              obtain ⟨hl1, hl2', f', hf1, hf2'⟩ := HSTP.out.2 kd x n len HRC.out
              have HFN := hid (And.intro hf1 (HRR.out.trans hf2'))
              clear hC HSTP hf1 hf2'
              go_wp2_with (first
                | (go_at_call 22; refine (rdigit_any _ _).mono ?_; rintro e w' ⟨rfl, hw'⟩; subst w')
                | (go_at_call 21; refine (rletter_any _ _).mono ?_; rintro e w' ⟨rfl, hw'⟩; subst w')
                | (go_at_call 26; refine (HX.out).mono ?_; rintro e w1 ⟨r1, rfl, hr1, hw1⟩; have hr1 : r1 = _ := hr1; subst hr1; have HW1 := hid hw1; have B := (Blk.new wr #[.int .i64 0, .string ByteArray.empty, .int .i64 0, .int .i64 0] 56).bw hw1; have HBK := hid B; have k0 := B.cell 0; have k1 := B.cell 1; have k2 := B.cell 2; have k3 := B.cell 3; have kf := B.free; simp at k0 k1 k2 k3; clear hw1 B)
                | (at_builtin; refine wpList_append_own _ rfl _ _ 49 rfl w.heap.size 56 i1 _ 4 40 underT I1.out.1 I1.out.2.1 I1.out.2.2.1 I1.out.2.2.2 rfl (by decide) (.slice ax acc.length cax) acc.length (acc.flatMap tkV) rfl ?aa0 _ 1 1 (tkV (kd, x, n, (k : Int))) rfl rfl ?aa1 ?aa2 ?aa3 ?aa4 ?aa5 ?_)
                | go_in)
              try case aa0 => exact HT.out.bw (Bw.alloc ((((((Bw.alloc (Bw.refl wr) tk0).trans HW1.out).setCell (Nat.le_refl _) _).setCell (Nat.le_refl _) _).setCell (Nat.le_refl _) _).setCell (Nat.le_refl _) _) _)
              try case aa1 =>
                intro j u hj
                match j, hj with
                | 0, hj => simp [tkV] at hj; subst hj; simp [Addr.add, go_sem]
                | 1, hj => simp [tkV] at hj; subst hj; simp [Addr.add, go_sem]
                | 2, hj => simp [tkV] at hj; subst hj; simp [Addr.add, go_sem]
                | 3, hj => simp [tkV] at hj; subst hj; simp [Addr.add, go_sem]
                | j + 4, hj => simp [tkV] at hj
              try case aa2 => intro u hu; simp [tkV] at hu; rcases hu with rfl | rfl | rfl | rfl <;> rfl
              try case aa3 => have := HAC.out; unfold maxLen; omega
              try case aa4 => have := HAC.out; omega
              try case aa5 => have := HW1.out.size; simp at this ⊢; omega
              intro v' w2 hown hgr _
              obtain ⟨av', cv', e⟩ := own_form hown
              subst e
              have hb2 : Bw w w2 := by
                refine bw_grown (e := 56) (size := 4) (n := acc.length) (xs := acc.flatMap tkV) ?_ (Nat.le_refl _) ?_ hgr
                · exact HW.out.trans (Bw.alloc ((((((Bw.alloc (Bw.refl wr) tk0).trans HW1.out).setCell (Nat.le_refl _) _).setCell (Nat.le_refl _) _).setCell (Nat.le_refl _) _).setCell (Nat.le_refl _) _) _)
                · exact HT.out.bw (Bw.alloc ((((((Bw.alloc (Bw.refl wr) tk0).trans HW1.out).setCell (Nat.le_refl _) _).setCell (Nat.le_refl _) _).setCell (Nat.le_refl _) _).setCell (Nat.le_refl _) _) _)
              have HB2 := hid hb2
              rw [tk_snoc] at hown
              have HO1 := hid hown
              clear hgr hown hb2
              go_wp2_with (first
                | (go_at_call 20; refine (rskip_any _ b (k + len) _ (HB.out.bw HB2.out) (by omega) (by omega)).mono ?_; rintro e w' ⟨p, rfl, hsk, hw'⟩; subst w'; have HSK := hid hsk; clear hsk))
              obtain ⟨f2, hf2, hl2⟩ := HSK.out.1.2.2 (acc ++ [(kd, x, n, (k : Int))]) f' (by exact HFN.out.1)
              have hp1 := HSK.out.1.1
              go_roundw
              case rel => exact ⟨f2, p, acc ++ [(kd, x, n, (k : Int))], rfl, HSK.out.1.2.1, hf2, HFN.out.2.trans hl2, by have := HAC.out; simp; omega, HSK.out.2, by simpa [Tk] using HO1.out, HB2.out⟩
              case measure => simp [intOf]; omega
          · have HRC := hid (show rcut (b.drop k) = cStr ((b.drop (k + 1)).length + 1) (b.drop (k + 1)) [] 1 by rw [hrc, if_neg (by simp [h1]), if_neg (by simp [h2]), if_pos (by simpa using h3)])
            clear hrc
            have HX := hid (rtext_any _ b k _ HBA.out hlt (by omega) _ rfl)
            cases hC : cStr ((b.drop (k + 1)).length + 1) (b.drop (k + 1)) [] 1 with
            | bad er off =>
              rw [hC] at HX HRC
              have hne := rcut_bad HRC.out
              have HFN := hid (HSTP.out.1 er off HRC.out)
              have hne' : (er != 0) = true := by simp; omega
              clear hC hne HSTP
              go_wp2_with (first
                | (go_at_call 22; refine (rdigit_any _ _).mono ?_; rintro e w' ⟨rfl, hw'⟩; subst w')
                | (go_at_call 21; refine (rletter_any _ _).mono ?_; rintro e w' ⟨rfl, hw'⟩; subst w')
                | (go_at_call 25; refine (HX.out).mono ?_; rintro e w1 ⟨r1, rfl, ⟨q1, q2, q3, qs, hr1⟩, hw1⟩; subst hr1; have HW1 := hid hw1; have B := (Blk.new wr #[.int .i64 0, .string ByteArray.empty, .int .i64 0, .int .i64 0] 56).bw hw1; have HBK := hid B; have k0 := B.cell 0; have k1 := B.cell 1; have k2 := B.cell 2; have k3 := B.cell 3; have kf := B.free; simp at k0 k1 k2 k3; clear hw1 B))
              all_goals go_ret3
              all_goals exact ⟨.slice none 0 0, by rw [HRR.out, HFN.out]; simp, by rw [HRR.out, HFN.out]; exact World.ownsRow_nil _ _ _ _, HW.out.trans ((((((Bw.alloc (Bw.refl wr) tk0).trans HW1.out).setCell (Nat.le_refl _) _).setCell (Nat.le_refl _) _).setCell (Nat.le_refl _) _).setCell (Nat.le_refl _) _)⟩
            | tok kd x n len =>
              rw [hC] at HX HRC
              obtain ⟨hl1, hl2', f', hf1, hf2'⟩ := HSTP.out.2 kd x n len HRC.out
              have HFN := hid (And.intro hf1 (HRR.out.trans hf2'))
              clear hC HSTP hf1 hf2'
              go_wp2_with (first
                | (go_at_call 22; refine (rdigit_any _ _).mono ?_; rintro e w' ⟨rfl, hw'⟩; subst w')
                | (go_at_call 21; refine (rletter_any _ _).mono ?_; rintro e w' ⟨rfl, hw'⟩; subst w')
                | (go_at_call 25; refine (HX.out).mono ?_; rintro e w1 ⟨r1, rfl, hr1, hw1⟩; have hr1 : r1 = _ := hr1; subst hr1; have HW1 := hid hw1; have B := (Blk.new wr #[.int .i64 0, .string ByteArray.empty, .int .i64 0, .int .i64 0] 56).bw hw1; have HBK := hid B; have k0 := B.cell 0; have k1 := B.cell 1; have k2 := B.cell 2; have k3 := B.cell 3; have kf := B.free; simp at k0 k1 k2 k3; clear hw1 B)
                | (at_builtin; refine wpList_append_own _ rfl _ _ 49 rfl w.heap.size 56 i1 _ 4 40 underT I1.out.1 I1.out.2.1 I1.out.2.2.1 I1.out.2.2.2 rfl (by decide) (.slice ax acc.length cax) acc.length (acc.flatMap tkV) rfl ?bb0 _ 1 1 (tkV (kd, x, n, (k : Int))) rfl rfl ?bb1 ?bb2 ?bb3 ?bb4 ?bb5 ?_)
                | go_in)
              try case bb0 => exact HT.out.bw (Bw.alloc ((((((Bw.alloc (Bw.refl wr) tk0).trans HW1.out).setCell (Nat.le_refl _) _).setCell (Nat.le_refl _) _).setCell (Nat.le_refl _) _).setCell (Nat.le_refl _) _) _)
              try case bb1 =>
                intro j u hj
                match j, hj with
                | 0, hj => simp [tkV] at hj; subst hj; simp [Addr.add, go_sem]
                | 1, hj => simp [tkV] at hj; subst hj; simp [Addr.add, go_sem]
                | 2, hj => simp [tkV] at hj; subst hj; simp [Addr.add, go_sem]
                | 3, hj => simp [tkV] at hj; subst hj; simp [Addr.add, go_sem]
                | j + 4, hj => simp [tkV] at hj
              try case bb2 => intro u hu; simp [tkV] at hu; rcases hu with rfl | rfl | rfl | rfl <;> rfl
              try case bb3 => have := HAC.out; unfold maxLen; omega
              try case bb4 => have := HAC.out; omega
              try case bb5 => have := HW1.out.size; simp at this ⊢; omega
              intro v' w2 hown hgr _
              obtain ⟨av', cv', e⟩ := own_form hown
              subst e
              have hb2 : Bw w w2 := by
                refine bw_grown (e := 56) (size := 4) (n := acc.length) (xs := acc.flatMap tkV) ?_ (Nat.le_refl _) ?_ hgr
                · exact HW.out.trans (Bw.alloc ((((((Bw.alloc (Bw.refl wr) tk0).trans HW1.out).setCell (Nat.le_refl _) _).setCell (Nat.le_refl _) _).setCell (Nat.le_refl _) _).setCell (Nat.le_refl _) _) _)
                · exact HT.out.bw (Bw.alloc ((((((Bw.alloc (Bw.refl wr) tk0).trans HW1.out).setCell (Nat.le_refl _) _).setCell (Nat.le_refl _) _).setCell (Nat.le_refl _) _).setCell (Nat.le_refl _) _) _)
              have HB2 := hid hb2
              rw [tk_snoc] at hown
              have HO1 := hid hown
              clear hgr hown hb2
              go_wp2_with (first
                | (go_at_call 20; refine (rskip_any _ b (k + len) _ (HB.out.bw HB2.out) (by omega) (by omega)).mono ?_; rintro e w' ⟨p, rfl, hsk, hw'⟩; subst w'; have HSK := hid hsk; clear hsk))
              obtain ⟨f2, hf2, hl2⟩ := HSK.out.1.2.2 (acc ++ [(kd, x, n, (k : Int))]) f' (by exact HFN.out.1)
              have hp1 := HSK.out.1.1
              go_roundw
              case rel => exact ⟨f2, p, acc ++ [(kd, x, n, (k : Int))], rfl, HSK.out.1.2.1, hf2, HFN.out.2.trans hl2, by have := HAC.out; simp; omega, HSK.out.2, by simpa [Tk] using HO1.out, HB2.out⟩
              case measure => simp [intOf]; omega
        · have HRC := hid (show rcut (b.drop k) = cNum (b.drop k) by rw [hrc, if_neg (by simp [h1]), if_pos h2])
          clear hrc
          have HX := hid (rnumber_any _ b k _ HBA.out hlt (by omega))
          cases hC : cNum (b.drop k) with
          | bad er off =>
            rw [hC] at HX HRC
            have hne := rcut_bad HRC.out
            have HFN := hid (HSTP.out.1 er off HRC.out)
            have hne' : (er != 0) = true := by simp; omega
            clear hC hne HSTP
            go_wp2_with (first
              | (go_at_call 22; refine (rdigit_any _ _).mono ?_; rintro e w' ⟨rfl, hw'⟩; subst w')
              | (go_at_call 21; refine (rletter_any _ _).mono ?_; rintro e w' ⟨rfl, hw'⟩; subst w')
              | (go_at_call 24; refine (HX.out).mono ?_; rintro e w1 ⟨r1, rfl, ⟨q1, q2, q3, qs, hr1⟩, hw1⟩; subst hr1; have HW1 := hid hw1; have B := (Blk.new wr #[.int .i64 0, .string ByteArray.empty, .int .i64 0, .int .i64 0] 56).bw hw1; have HBK := hid B; have k0 := B.cell 0; have k1 := B.cell 1; have k2 := B.cell 2; have k3 := B.cell 3; have kf := B.free; simp at k0 k1 k2 k3; clear hw1 B))
            all_goals go_ret3
            all_goals exact ⟨.slice none 0 0, by rw [HRR.out, HFN.out]; simp, by rw [HRR.out, HFN.out]; exact World.ownsRow_nil _ _ _ _, HW.out.trans ((((((Bw.alloc (Bw.refl wr) tk0).trans HW1.out).setCell (Nat.le_refl _) _).setCell (Nat.le_refl _) _).setCell (Nat.le_refl _) _).setCell (Nat.le_refl _) _)⟩
          | tok kd x n len =>
            rw [hC] at HX HRC
            obtain ⟨hl1, hl2', f', hf1, hf2'⟩ := HSTP.out.2 kd x n len HRC.out
            have HFN := hid (And.intro hf1 (HRR.out.trans hf2'))
            clear hC HSTP hf1 hf2'
            go_wp2_with (first
              | (go_at_call 22; refine (rdigit_any _ _).mono ?_; rintro e w' ⟨rfl, hw'⟩; subst w')
              | (go_at_call 21; refine (rletter_any _ _).mono ?_; rintro e w' ⟨rfl, hw'⟩; subst w')
              | (go_at_call 24; refine (HX.out).mono ?_; rintro e w1 ⟨r1, rfl, hr1, hw1⟩; have hr1 : r1 = _ := hr1; subst hr1; have HW1 := hid hw1; have B := (Blk.new wr #[.int .i64 0, .string ByteArray.empty, .int .i64 0, .int .i64 0] 56).bw hw1; have HBK := hid B; have k0 := B.cell 0; have k1 := B.cell 1; have k2 := B.cell 2; have k3 := B.cell 3; have kf := B.free; simp at k0 k1 k2 k3; clear hw1 B)
              | (at_builtin; refine wpList_append_own _ rfl _ _ 49 rfl w.heap.size 56 i1 _ 4 40 underT I1.out.1 I1.out.2.1 I1.out.2.2.1 I1.out.2.2.2 rfl (by decide) (.slice ax acc.length cax) acc.length (acc.flatMap tkV) rfl ?cc0 _ 1 1 (tkV (kd, x, n, (k : Int))) rfl rfl ?cc1 ?cc2 ?cc3 ?cc4 ?cc5 ?_)
              | go_in)
            try case cc0 => exact HT.out.bw (Bw.alloc ((((((Bw.alloc (Bw.refl wr) tk0).trans HW1.out).setCell (Nat.le_refl _) _).setCell (Nat.le_refl _) _).setCell (Nat.le_refl _) _).setCell (Nat.le_refl _) _) _)
            try case cc1 =>
              intro j u hj
              match j, hj with
              | 0, hj => simp [tkV] at hj; subst hj; simp [Addr.add, go_sem]
              | 1, hj => simp [tkV] at hj; subst hj; simp [Addr.add, go_sem]
              | 2, hj => simp [tkV] at hj; subst hj; simp [Addr.add, go_sem]
              | 3, hj => simp [tkV] at hj; subst hj; simp [Addr.add, go_sem]
              | j + 4, hj => simp [tkV] at hj
            try case cc2 => intro u hu; simp [tkV] at hu; rcases hu with rfl | rfl | rfl | rfl <;> rfl
            try case cc3 => have := HAC.out; unfold maxLen; omega
            try case cc4 => have := HAC.out; omega
            try case cc5 => have := HW1.out.size; simp at this ⊢; omega
            intro v' w2 hown hgr _
            obtain ⟨av', cv', e⟩ := own_form hown
            subst e
            have hb2 : Bw w w2 := by
              refine bw_grown (e := 56) (size := 4) (n := acc.length) (xs := acc.flatMap tkV) ?_ (Nat.le_refl _) ?_ hgr
              · exact HW.out.trans (Bw.alloc ((((((Bw.alloc (Bw.refl wr) tk0).trans HW1.out).setCell (Nat.le_refl _) _).setCell (Nat.le_refl _) _).setCell (Nat.le_refl _) _).setCell (Nat.le_refl _) _) _)
              · exact HT.out.bw (Bw.alloc ((((((Bw.alloc (Bw.refl wr) tk0).trans HW1.out).setCell (Nat.le_refl _) _).setCell (Nat.le_refl _) _).setCell (Nat.le_refl _) _).setCell (Nat.le_refl _) _) _)
            have HB2 := hid hb2
            rw [tk_snoc] at hown
            have HO1 := hid hown
            clear hgr hown hb2
            go_wp2_with (first
              | (go_at_call 20; refine (rskip_any _ b (k + len) _ (HB.out.bw HB2.out) (by omega) (by omega)).mono ?_; rintro e w' ⟨p, rfl, hsk, hw'⟩; subst w'; have HSK := hid hsk; clear hsk))
            obtain ⟨f2, hf2, hl2⟩ := HSK.out.1.2.2 (acc ++ [(kd, x, n, (k : Int))]) f' (by exact HFN.out.1)
            have hp1 := HSK.out.1.1
            go_roundw
            case rel => exact ⟨f2, p, acc ++ [(kd, x, n, (k : Int))], rfl, HSK.out.1.2.1, hf2, HFN.out.2.trans hl2, by have := HAC.out; simp; omega, HSK.out.2, by simpa [Tk] using HO1.out, HB2.out⟩
            case measure => simp [intOf]; omega
      · have HRC := hid (show rcut (b.drop k) = cName (b.drop k) by rw [hrc, if_pos h1])
        clear hrc
        obtain ⟨hl1, hl2', f', hf1, hf2'⟩ := HSTP.out.2 _ _ _ _ (HRC.out.trans rfl)
        have HFN := hid (And.intro hf1 (HRR.out.trans hf2'))
        have hwb : ∀ c ∈ (b.drop k).takeWhile isNm, 0 ≤ c ∧ c ≤ 255 := fun c hc => HB.out.2.1 c (List.mem_of_mem_drop ((List.takeWhile_sublist _).subset hc))
        have WD := hid (rWord_any _ hwb)
        have HTW := hid (takeWhile_twl isNm (b.drop k))
        have hck : ¬ cap = k := by omega
        clear HSTP hf1 hf2' hwb HRC
        go_wp2_with (first
          | (go_at_call 22; refine (rdigit_any _ _).mono ?_; rintro e w' ⟨rfl, hw'⟩; subst w')
          | (go_at_call 21; refine (rletter_any _ _).mono ?_; rintro e w' ⟨rfl, hw'⟩; subst w'))
        rename World => wo
        go_loopw [8] (fun j wi => ∃ m, j = .int .i64 ((k + m : Nat) : Int) ∧ m ≤ twl isNm (b.drop k) ∧ wi = wo.alloc tk0) (fun j _ => b.length - (intOf j).toNat)
        case atStart => exact ⟨0, by simp, Nat.zero_le _, rfl⟩
        case round =>
          obtain ⟨m, rfl, hm1, hwr⟩ := hrel
          subst hwr
          have hle := twl_le isNm (b.drop k)
          rw [List.length_drop] at hle
          have key : (twl isNm (b.drop k) = m ∧ ∀ hlt : k + m < b.length, isNm b[k + m] = false) ∨ ∃ hlt : k + m < b.length, isNm b[k + m] = true ∧ m + 1 ≤ twl isNm (b.drop k) := by
            by_cases hlt : k + m < b.length
            · have hml : m < (b.drop k).length := by rw [List.length_drop]; omega
              have hge : (b.drop k)[m] = b[k + m] := by simp
              cases hp : isNm b[k + m]
              · exact .inl ⟨twl_no hm1 hml (by rw [hge]; exact hp), fun _ => hp⟩
              · exact .inr ⟨hlt, hp, twl_go hm1 hml (by rw [hge]; exact hp)⟩
            · exact .inl ⟨twl_end hm1 (by rw [List.length_drop]; omega), fun h => absurd h hlt⟩
          rcases key with ⟨hfin, hno⟩ | ⟨hlt', hp, hg1⟩
          · have hkm : k + m ≤ b.length := by omega
            have hconv := HBA.out.conv k m (cap - k) (by omega)
            rw [← hfin, ← HTW.out, hfin] at hconv
            have hm1' : 1 ≤ m := by rw [← hfin]; exact hl1
            have hcase : (∃ c', wo.cell? ⟨g, o + (k + m), none⟩ = some (.int .u8 c') ∧ isLt c' = false ∧ isDg c' = false ∧ ((k + m : Nat) : Int) < (b.length : Int)) ∨ ¬ k + m < b.length := by
              by_cases hlt' : k + m < b.length
              · have hn := hno hlt'
                simp [isNm] at hn
                exact .inl ⟨_, HCS.out _ hlt', hn.1, hn.2, by omega⟩
              · exact .inr hlt'
            rw [hfin] at HFN
            clear hno hm1 hle hfin HTW
            cases hwd : isWord ((b.drop k).takeWhile isNm)
            · rw [hwd] at HFN WD
              have HFM := hid (show (b.drop (k + m)).length < f' ∧ R = lexF f' (b.drop (k + m)) (k + m) (acc ++ [(1, (b.drop k).takeWhile isNm, 0, (k : Int))]) by simpa using HFN.out)
              clear HFN hwd
              rcases hcase with ⟨c', hc', hlc, hdc, hlt3⟩ | hlt3
              · go_wp2_with (first
                  | (go_at_call 22; refine (rdigit_any _ _).mono ?_; rintro e w' ⟨rfl, hw'⟩; subst w')
                  | (go_at_call 21; refine (rletter_any _ _).mono ?_; rintro e w' ⟨rfl, hw'⟩; subst w')
                  | (go_at_call 23; refine (WD.out _).mono ?_; rintro e w' ⟨rfl, os, ns, rfl⟩)
                  | (at_builtin; refine wpList_append_own _ rfl _ _ 49 rfl w.heap.size 56 i1 _ 4 40 underT I1.out.1 I1.out.2.1 I1.out.2.2.1 I1.out.2.2.2 rfl (by decide) (.slice ax acc.length cax) acc.length (acc.flatMap tkV) rfl ?p0x0 _ 1 1 (tkV (1, (b.drop k).takeWhile isNm, 0, (k : Int))) rfl rfl ?p0x1 ?p0x2 ?p0x3 ?p0x4 ?p0x5 ?_)
                  | go_in)
                try case p0x0 => exact HT.out.bw (Bw.alloc (Bw.lay (Bw.alloc (Bw.refl wo) _) os ns) _)
                try case p0x1 =>
                  intro j u hj
                  match j, hj with
                  | 0, hj => simp [tkV] at hj; subst hj; simp [Addr.add, go_sem]
                  | 1, hj => simp [tkV] at hj; subst hj; simp [Addr.add, go_sem]
                  | 2, hj => simp [tkV] at hj; subst hj; simp [Addr.add, go_sem]
                  | 3, hj => simp [tkV] at hj; subst hj; simp [Addr.add, go_sem]
                  | j + 4, hj => simp [tkV] at hj
                try case p0x2 => intro u hu; simp [tkV] at hu; rcases hu with rfl | rfl | rfl | rfl <;> rfl
                try case p0x3 => have := HAC.out; unfold maxLen; omega
                try case p0x4 => have := HAC.out; omega
                try case p0x5 => first | omega | (simp; omega)
                intro v' w2 hown hgr _
                obtain ⟨av', cv', e⟩ := own_form hown
                subst e
                have hb2 : Bw w w2 := by
                  refine bw_grown (e := 56) (size := 4) (n := acc.length) (xs := acc.flatMap tkV) ?_ (Nat.le_refl _) ?_ hgr
                  · exact HW.out.trans (Bw.alloc (Bw.lay (Bw.alloc (Bw.refl wo) _) os ns) _)
                  · exact HT.out.bw (Bw.alloc (Bw.lay (Bw.alloc (Bw.refl wo) _) os ns) _)
                have HB2 := hid hb2
                rw [tk_snoc] at hown
                have HO1 := hid hown
                clear hgr hown hb2
                go_wp2_with (first
                  | (go_at_call 20; refine (rskip_any _ b (k + m) _ (HB.out.bw HB2.out) (by omega) (by omega)).mono ?_; rintro e w' ⟨p, rfl, hsk, hw'⟩; subst w'; have HSK := hid hsk; clear hsk))
                obtain ⟨f2, hf2, hl2⟩ := HSK.out.1.2.2 (acc ++ [(1, (b.drop k).takeWhile isNm, 0, (k : Int))]) f' (by exact HFM.out.1)
                have hp1 := HSK.out.1.1
                go_roundw
                case rel => exact ⟨f2, p, acc ++ [(1, (b.drop k).takeWhile isNm, 0, (k : Int))], rfl, HSK.out.1.2.1, hf2, HFM.out.2.trans hl2, by have := HAC.out; simp; omega, HSK.out.2, by simpa [Tk] using HO1.out, HB2.out⟩
                case measure => simp [intOf]; omega
              · go_wp2_with (first
                  | (go_at_call 22; refine (rdigit_any _ _).mono ?_; rintro e w' ⟨rfl, hw'⟩; subst w')
                  | (go_at_call 21; refine (rletter_any _ _).mono ?_; rintro e w' ⟨rfl, hw'⟩; subst w')
                  | (go_at_call 23; refine (WD.out _).mono ?_; rintro e w' ⟨rfl, os, ns, rfl⟩)
                  | (at_builtin; refine wpList_append_own _ rfl _ _ 49 rfl w.heap.size 56 i1 _ 4 40 underT I1.out.1 I1.out.2.1 I1.out.2.2.1 I1.out.2.2.2 rfl (by decide) (.slice ax acc.length cax) acc.length (acc.flatMap tkV) rfl ?q0x0 _ 1 1 (tkV (1, (b.drop k).takeWhile isNm, 0, (k : Int))) rfl rfl ?q0x1 ?q0x2 ?q0x3 ?q0x4 ?q0x5 ?_)
                  | go_in)
                try case q0x0 => exact HT.out.bw (Bw.alloc (Bw.lay (Bw.alloc (Bw.refl wo) _) os ns) _)
                try case q0x1 =>
                  intro j u hj
                  match j, hj with
                  | 0, hj => simp [tkV] at hj; subst hj; simp [Addr.add, go_sem]
                  | 1, hj => simp [tkV] at hj; subst hj; simp [Addr.add, go_sem]
                  | 2, hj => simp [tkV] at hj; subst hj; simp [Addr.add, go_sem]
                  | 3, hj => simp [tkV] at hj; subst hj; simp [Addr.add, go_sem]
                  | j + 4, hj => simp [tkV] at hj
                try case q0x2 => intro u hu; simp [tkV] at hu; rcases hu with rfl | rfl | rfl | rfl <;> rfl
                try case q0x3 => have := HAC.out; unfold maxLen; omega
                try case q0x4 => have := HAC.out; omega
                try case q0x5 => first | omega | (simp; omega)
                intro v' w2 hown hgr _
                obtain ⟨av', cv', e⟩ := own_form hown
                subst e
                have hb2 : Bw w w2 := by
                  refine bw_grown (e := 56) (size := 4) (n := acc.length) (xs := acc.flatMap tkV) ?_ (Nat.le_refl _) ?_ hgr
                  · exact HW.out.trans (Bw.alloc (Bw.lay (Bw.alloc (Bw.refl wo) _) os ns) _)
                  · exact HT.out.bw (Bw.alloc (Bw.lay (Bw.alloc (Bw.refl wo) _) os ns) _)
                have HB2 := hid hb2
                rw [tk_snoc] at hown
                have HO1 := hid hown
                clear hgr hown hb2
                go_wp2_with (first
                  | (go_at_call 20; refine (rskip_any _ b (k + m) _ (HB.out.bw HB2.out) (by omega) (by omega)).mono ?_; rintro e w' ⟨p, rfl, hsk, hw'⟩; subst w'; have HSK := hid hsk; clear hsk))
                obtain ⟨f2, hf2, hl2⟩ := HSK.out.1.2.2 (acc ++ [(1, (b.drop k).takeWhile isNm, 0, (k : Int))]) f' (by exact HFM.out.1)
                have hp1 := HSK.out.1.1
                go_roundw
                case rel => exact ⟨f2, p, acc ++ [(1, (b.drop k).takeWhile isNm, 0, (k : Int))], rfl, HSK.out.1.2.1, hf2, HFM.out.2.trans hl2, by have := HAC.out; simp; omega, HSK.out.2, by simpa [Tk] using HO1.out, HB2.out⟩
                case measure => simp [intOf]; omega
            · rw [hwd] at HFN WD
              have HFM := hid (show (b.drop (k + m)).length < f' ∧ R = lexF f' (b.drop (k + m)) (k + m) (acc ++ [(2, (b.drop k).takeWhile isNm, 0, (k : Int))]) by simpa using HFN.out)
              clear HFN hwd
              rcases hcase with ⟨c', hc', hlc, hdc, hlt3⟩ | hlt3
              · go_wp2_with (first
                  | (go_at_call 22; refine (rdigit_any _ _).mono ?_; rintro e w' ⟨rfl, hw'⟩; subst w')
                  | (go_at_call 21; refine (rletter_any _ _).mono ?_; rintro e w' ⟨rfl, hw'⟩; subst w')
                  | (go_at_call 23; refine (WD.out _).mono ?_; rintro e w' ⟨rfl, os, ns, rfl⟩)
                  | (at_builtin; refine wpList_append_own _ rfl _ _ 49 rfl w.heap.size 56 i1 _ 4 40 underT I1.out.1 I1.out.2.1 I1.out.2.2.1 I1.out.2.2.2 rfl (by decide) (.slice ax acc.length cax) acc.length (acc.flatMap tkV) rfl ?p1x0 _ 1 1 (tkV (2, (b.drop k).takeWhile isNm, 0, (k : Int))) rfl rfl ?p1x1 ?p1x2 ?p1x3 ?p1x4 ?p1x5 ?_)
                  | go_in)
                try case p1x0 => exact HT.out.bw (Bw.alloc (Bw.lay (Bw.alloc (Bw.refl wo) _) os ns) _)
                try case p1x1 =>
                  intro j u hj
                  match j, hj with
                  | 0, hj => simp [tkV] at hj; subst hj; simp [Addr.add, go_sem]
                  | 1, hj => simp [tkV] at hj; subst hj; simp [Addr.add, go_sem]
                  | 2, hj => simp [tkV] at hj; subst hj; simp [Addr.add, go_sem]
                  | 3, hj => simp [tkV] at hj; subst hj; simp [Addr.add, go_sem]
                  | j + 4, hj => simp [tkV] at hj
                try case p1x2 => intro u hu; simp [tkV] at hu; rcases hu with rfl | rfl | rfl | rfl <;> rfl
                try case p1x3 => have := HAC.out; unfold maxLen; omega
                try case p1x4 => have := HAC.out; omega
                try case p1x5 => first | omega | (simp; omega)
                intro v' w2 hown hgr _
                obtain ⟨av', cv', e⟩ := own_form hown
                subst e
                have hb2 : Bw w w2 := by
                  refine bw_grown (e := 56) (size := 4) (n := acc.length) (xs := acc.flatMap tkV) ?_ (Nat.le_refl _) ?_ hgr
                  · exact HW.out.trans (Bw.alloc (Bw.lay (Bw.alloc (Bw.refl wo) _) os ns) _)
                  · exact HT.out.bw (Bw.alloc (Bw.lay (Bw.alloc (Bw.refl wo) _) os ns) _)
                have HB2 := hid hb2
                rw [tk_snoc] at hown
                have HO1 := hid hown
                clear hgr hown hb2
                go_wp2_with (first
                  | (go_at_call 20; refine (rskip_any _ b (k + m) _ (HB.out.bw HB2.out) (by omega) (by omega)).mono ?_; rintro e w' ⟨p, rfl, hsk, hw'⟩; subst w'; have HSK := hid hsk; clear hsk))
                obtain ⟨f2, hf2, hl2⟩ := HSK.out.1.2.2 (acc ++ [(2, (b.drop k).takeWhile isNm, 0, (k : Int))]) f' (by exact HFM.out.1)
                have hp1 := HSK.out.1.1
                go_roundw
                case rel => exact ⟨f2, p, acc ++ [(2, (b.drop k).takeWhile isNm, 0, (k : Int))], rfl, HSK.out.1.2.1, hf2, HFM.out.2.trans hl2, by have := HAC.out; simp; omega, HSK.out.2, by simpa [Tk] using HO1.out, HB2.out⟩
                case measure => simp [intOf]; omega
              · go_wp2_with (first
                  | (go_at_call 22; refine (rdigit_any _ _).mono ?_; rintro e w' ⟨rfl, hw'⟩; subst w')
                  | (go_at_call 21; refine (rletter_any _ _).mono ?_; rintro e w' ⟨rfl, hw'⟩; subst w')
                  | (go_at_call 23; refine (WD.out _).mono ?_; rintro e w' ⟨rfl, os, ns, rfl⟩)
                  | (at_builtin; refine wpList_append_own _ rfl _ _ 49 rfl w.heap.size 56 i1 _ 4 40 underT I1.out.1 I1.out.2.1 I1.out.2.2.1 I1.out.2.2.2 rfl (by decide) (.slice ax acc.length cax) acc.length (acc.flatMap tkV) rfl ?q1x0 _ 1 1 (tkV (2, (b.drop k).takeWhile isNm, 0, (k : Int))) rfl rfl ?q1x1 ?q1x2 ?q1x3 ?q1x4 ?q1x5 ?_)
                  | go_in)
                try case q1x0 => exact HT.out.bw (Bw.alloc (Bw.lay (Bw.alloc (Bw.refl wo) _) os ns) _)
                try case q1x1 =>
                  intro j u hj
                  match j, hj with
                  | 0, hj => simp [tkV] at hj; subst hj; simp [Addr.add, go_sem]
                  | 1, hj => simp [tkV] at hj; subst hj; simp [Addr.add, go_sem]
                  | 2, hj => simp [tkV] at hj; subst hj; simp [Addr.add, go_sem]
                  | 3, hj => simp [tkV] at hj; subst hj; simp [Addr.add, go_sem]
                  | j + 4, hj => simp [tkV] at hj
                try case q1x2 => intro u hu; simp [tkV] at hu; rcases hu with rfl | rfl | rfl | rfl <;> rfl
                try case q1x3 => have := HAC.out; unfold maxLen; omega
                try case q1x4 => have := HAC.out; omega
                try case q1x5 => first | omega | (simp; omega)
                intro v' w2 hown hgr _
                obtain ⟨av', cv', e⟩ := own_form hown
                subst e
                have hb2 : Bw w w2 := by
                  refine bw_grown (e := 56) (size := 4) (n := acc.length) (xs := acc.flatMap tkV) ?_ (Nat.le_refl _) ?_ hgr
                  · exact HW.out.trans (Bw.alloc (Bw.lay (Bw.alloc (Bw.refl wo) _) os ns) _)
                  · exact HT.out.bw (Bw.alloc (Bw.lay (Bw.alloc (Bw.refl wo) _) os ns) _)
                have HB2 := hid hb2
                rw [tk_snoc] at hown
                have HO1 := hid hown
                clear hgr hown hb2
                go_wp2_with (first
                  | (go_at_call 20; refine (rskip_any _ b (k + m) _ (HB.out.bw HB2.out) (by omega) (by omega)).mono ?_; rintro e w' ⟨p, rfl, hsk, hw'⟩; subst w'; have HSK := hid hsk; clear hsk))
                obtain ⟨f2, hf2, hl2⟩ := HSK.out.1.2.2 (acc ++ [(2, (b.drop k).takeWhile isNm, 0, (k : Int))]) f' (by exact HFM.out.1)
                have hp1 := HSK.out.1.1
                go_roundw
                case rel => exact ⟨f2, p, acc ++ [(2, (b.drop k).takeWhile isNm, 0, (k : Int))], rfl, HSK.out.1.2.1, hf2, HFM.out.2.trans hl2, by have := HAC.out; simp; omega, HSK.out.2, by simpa [Tk] using HO1.out, HB2.out⟩
                case measure => simp [intOf]; omega
          · have hc' := HCS.out _ hlt'
            have hlt3 : ((k + m : Nat) : Int) < (b.length : Int) := by omega
            have HG1 := hid hg1
            have HPP := hid hp
            clear hm1 hle hg1 hp
            generalize b[k + m] = c' at hc' HPP
            cases hlc : isLt c' <;> cases hdc : isDg c'
            · have := HPP.out
              simp [isNm, hlc, hdc] at this
            all_goals
              go_wp2_with (first
                | (go_at_call 22; refine (rdigit_any _ _).mono ?_; rintro e w' ⟨rfl, hw'⟩; subst w')
                | (go_at_call 21; refine (rletter_any _ _).mono ?_; rintro e w' ⟨rfl, hw'⟩; subst w'))
              go_roundw
              case rel => exact ⟨m + 1, by go_num, HG1.out, trivial⟩
              case measure => simp [intOf]; omega
    · obtain rfl : k = b.length := by omega
      obtain ⟨f', rfl⟩ : ∃ f', f = f' + 1 := ⟨f - 1, by have := HF.out; omega⟩
      have hf : R = (acc ++ [(0, [], 0, (b.length : Int))], 0, b.length) := by rw [HRR.out, List.drop_length, lexF_nil]
      have HFN := hid hf
      clear hf
      go_wp2_with (first
        | (at_builtin; refine wpList_append_own _ rfl _ _ 49 rfl w.heap.size 56 i1 _ 4 40 underT I1.out.1 I1.out.2.1 I1.out.2.2.1 I1.out.2.2.2 rfl (by decide) (.slice ax acc.length cax) acc.length (acc.flatMap tkV) rfl ?ff0 _ 1 1 (tkV (0, [], 0, (b.length : Int))) rfl rfl ?ff1 ?ff2 ?ff3 ?ff4 ?ff5 ?_)
        | go_in)
      try case ff0 => exact HT.out.bw (Bw.alloc (Bw.refl _) _)
      try case ff1 =>
        intro j u hj
        match j, hj with
        | 0, hj => simp [tkV] at hj; subst hj; simp [Addr.add, go_sem]
        | 1, hj => simp [tkV] at hj; subst hj; simp [Addr.add, go_sem, strOf_nil]
        | 2, hj => simp [tkV] at hj; subst hj; simp [Addr.add, go_sem]
        | 3, hj => simp [tkV] at hj; subst hj; simp [Addr.add, go_sem]
        | j + 4, hj => simp [tkV] at hj
      try case ff2 => intro u hu; simp [tkV] at hu; rcases hu with rfl | rfl | rfl | rfl <;> rfl
      try case ff3 => have := HAC.out; unfold maxLen; omega
      try case ff4 => have := HAC.out; omega
      try case ff5 => simp only [World.size_alloc]; omega
      intro v' w2 hown hgr _
      obtain ⟨av', cv', e⟩ := own_form hown
      subst e
      have hb2 : Bw w w2 := by
        refine bw_grown (e := 56) (size := 4) (n := acc.length) (xs := acc.flatMap tkV) ?_ (Nat.le_refl _) ?_ hgr
        · exact HW.out.trans (Bw.alloc (Bw.refl _) _)
        · exact HT.out.bw (Bw.alloc (Bw.refl _) _)
      have HB2 := hid hb2
      rw [tk_snoc] at hown
      have HO1 := hid hown
      clear hgr hown hb2
      go_wp2
      all_goals go_ret3
      all_goals exact ⟨.slice av' (acc.length + 1) cv', by rw [HFN.out]; rfl, by rw [HFN.out]; simpa [Tk] using HO1.out, HB2.out⟩

end Go.Proofs.YtekkjpecdflajaaDoor

