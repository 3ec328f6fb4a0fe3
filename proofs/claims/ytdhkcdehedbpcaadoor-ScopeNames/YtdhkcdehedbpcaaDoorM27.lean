/- The document's Lex, of texts that are not too long: the contract. · The document's Lex, of texts that are not too long: the contract. · The document's Parse, over the tokens of its Lex. -/
import Derived.Test.YtdhkcdehedbpcaaDoorM26
import Derived.Test.YtdhkcdehedbpcaaDoorM25
import Derived.Test.YtdhkcdehedbpcaaDoorM6
set_option linter.unusedSimpArgs false
set_option linter.unusedVariables false
set_option maxRecDepth 20000
namespace Go.Proofs.YtdhkcdehedbpcaaDoor
open Go Go.RowKit

def rcut (r : List Int) : Cut :=
 match r with
 | [] => .bad 6 0
 | c :: t => if isLt c then cName r else if isDg c then cNum r else if c = 34 then cStr (t.length + 1) t [] 1 else sgC r

theorem rcut_eq {c : Int} {t : List Int} (h : begn c = true) : rcut (c :: t) = cut (c :: t) := by
 simp only [rcut, cut]
 split
 ·rfl
 ·split
  ·rfl
  ·split
   ·rfl
   ·rename_i h1 h2 h3
    have : isSg c = true := by simpa [begn, h1, h2, h3] using h
    simp [sgC, this]

theorem rcut_no {c : Int} {t : List Int} (h : begn c = false) : rcut (c :: t) = .bad 6 0 := by
 simp [begn] at h
 obtain ⟨⟨⟨h1, h2⟩, h3⟩, h4⟩ := h
 simp [rcut, sgC, h1, h2, h3, h4]

theorem lex_step {b : List Int} {k : Nat} (hk : k < b.length) (h1 : isBl b[k] = false) (h2 : b[k] ≠ 35) (acc : List ATok) (ha : acc.length ≠ 16384) (f : Nat) (hf : (b.drop k).length < f) :
  (∀ e off, rcut (b.drop k) = .bad e off → lexF f (b.drop k) k acc = ([], e, k + off)) ∧
  (∀ kd x n len, rcut (b.drop k) = .tok kd x n len → 1 ≤ len ∧ k + len ≤ b.length ∧ ∃ f', (b.drop (k + len)).length < f' ∧ lexF f (b.drop k) k acc = lexF f' (b.drop (k + len)) (k + len) (acc ++ [(kd, x, n, (k : Int))])) := by
 obtain ⟨f', rfl⟩ : ∃ f', f = f' + 1 := ⟨f - 1, by omega⟩
 have hr : b.drop k = b[k] :: b.drop (k + 1) := List.drop_eq_getElem_cons hk
 have hl : (b.drop k).length = b.length - k := List.length_drop
 rw [hr] at hf ⊢
 cases hg : begn b[k]
 ·rw [rcut_no hg]
  refine ⟨fun e off h => ?_, fun kd x n len h => by cases h⟩
  cases h
  rw [lexF_form h1 h2 hg]; rfl
 ·rw [rcut_eq hg]
  refine ⟨fun e off h => lexF_bad h1 h2 hg _ _ _ _ ha h, fun kd x n len h => ?_⟩
  have hlen := cut_len h
  rw [← hr, hl] at hlen
  refine ⟨hlen.1, by omega, f', ?_, ?_⟩
  ·rw [← hr, hl] at hf; rw [List.length_drop]; omega
  ·rw [lexF_tok h1 h2 hg _ _ _ _ ha h, ← hr, List.drop_drop]

end Go.Proofs.YtdhkcdehedbpcaaDoor

set_option maxRecDepth 20000
namespace Go.Proofs.YtdhkcdehedbpcaaDoor
open Go Go.RowKit

theorem rcut_bad {r : List Int} {e : Int} {off : Nat} (h : rcut r = .bad e off) : e = 6 ∨ e = 9 := by
 cases r with
 | nil => simp [rcut] at h; omega
 | cons c t =>
  cases hg : begn c
  ·rw [rcut_no hg] at h
   cases h; exact .inl rfl
  ·rw [rcut_eq hg] at h
   exact (Go.Proofs.YtdhkcdehedbpcaaDoor.cut_bad h).1

set_option maxRecDepth 100000 in
set_option maxHeartbeats 32000000 in
theorem rLex_any (v : Value) (b : List Int) (w : World) (h : By w v b) (hm : b.length ≤ 4000) :
  Calls Tryd.prog 20 #[v] w fun e w' => ∃ r, e = .returned (.tuple #[r, .int .i64 (lexA b).2.1, .int .i64 ((lexA b).2.2 : Nat)]) ∧ Tk w' w.heap.size r (lexA b).1 ∧ Bw w w' := by
 have HB := hid h
 obtain ⟨a, cap, rfl⟩ := h.form
 obtain ⟨i1, hi1, hz1, hs1, hy1⟩ := info_parts infoT
 have I1 := hid (And.intro hi1 (And.intro hz1 (And.intro hs1 hy1)))
 have e : lexA b = lexF (b.length + 1) b 0 [] := if_neg (by omega)
 generalize hR : lexA b = R at *
 have HE := hid e
 have hl' : decide ((65536 : Int) < (b.length : Int)) = false := decide_eq_false (by omega)
 clear h hi1 hz1 hs1 hy1 e hR
 go_enter Tryd.func20, Tryd.ntmps20
 go_wp2_with (first
  | (go_at_call 34; refine (rskip_any _ b 0 _ HB.out (by omega) (by omega)).mono ?_; rintro e w' ⟨p0, rfl, hsk, hw'⟩; subst w'; have HSK := hid hsk; clear hsk))
 go_loopw [5, 6] (fun l p wr => ∃ (f k : Nat) (acc : List ATok), p = .int .i64 (k : Nat) ∧ k ≤ b.length ∧ (b.drop k).length < f ∧ R = lexF f (b.drop k) k acc ∧ acc.length ≤ k ∧ (∀ h : k < b.length, isBl b[k] = false ∧ b[k] ≠ 35) ∧ Tk wr w.heap.size l acc ∧ Bw w wr) (fun _ p _ => b.length - (intOf p).toNat)
 case atStart =>
  obtain ⟨f2, hf2, hl2⟩ := HSK.out.1.2.2 [] (b.length + 1) (by simp)
  exact ⟨f2, p0, [], rfl, HSK.out.1.2.1, hf2, HE.out.trans (by simpa using hl2), by simp, HSK.out.2, World.ownsRow_nil _ _ _ _, Bw.refl _⟩
 case round =>
  obtain ⟨f, k, acc, rfl, hk, hf, hre, hacc, hbeg, htk, hbw⟩ := hrel
  obtain ⟨ax, cax, e⟩ := Tk.form htk
  subst e
  have HT := hid htk
  have HW := hid hbw
  have HRR := hid hre
  have HF := hid hf
  have HAC := hid (show acc.length ≤ 4000 ∧ acc.length ≤ k by omega)
  have hsz : w.heap.size ≤ wr.heap.size := hbw.size
  clear htk hbw hre hf HSK
  by_cases hlt : k < b.length
  ·obtain ⟨g, o, cap', e, hcap, hg, hcs⟩ := (HB.out.bw HW.out).parts hlt
   cases e
   have HCS := hid hcs
   have hc := hcs k hlt
   have hkl : (k : Int) < (b.length : Int) := by omega
   have h4' : ((acc.length : Int) == 16384) = false := by simp; omega
   have hdr : b.drop k = b[k] :: b.drop (k + 1) := List.drop_eq_getElem_cons hlt
   obtain ⟨hb1, hb2⟩ := hbeg hlt
   have HSTP := hid (lex_step hlt hb1 hb2 acc (by omega) f HF.out)
   have hrc : rcut (b.drop k) = if isLt b[k] then cName (b.drop k) else if isDg b[k] then cNum (b.drop k) else if b[k] = 34 then cStr ((b.drop (k + 1)).length + 1) (b.drop (k + 1)) [] 1 else sgC (b.drop k) := by
    conv => lhs; rw [hdr]
    simp only [rcut]
    rw [← hdr]
   have HBA := hid ((HB.out.bw HW.out).bw (Bw.alloc (Bw.refl _) tk0))
   clear hcs hdr hb1 hb2 hbeg hacc
   generalize b[k] = c at hc hrc
   cases h1 : isLt c
   ·cases h2 : isDg c
    ·cases h3 : (c == 34)
     ·have HRC := hid (show rcut (b.drop k) = sgC (b.drop k) by rw [hrc, if_neg (by simp [h1]), if_neg (by simp [h2]), if_neg (by simpa using h3)])
      clear hrc
      have HX := hid (rsign_any _ b k _ HBA.out hlt (by omega))
      cases hC : sgC (b.drop k) with
      | bad er off =>
       rw [hC] at HX HRC
       have hne := rcut_bad HRC.out
       have HFN := hid (HSTP.out.1 er off HRC.out)
       have hne' : (er != 0) = true := by simp; omega
       clear hC hne HSTP
       go_wp2_with (first
        | (go_at_call 36; refine (rdigit_any _ _).mono ?_; rintro e w' ⟨rfl, hw'⟩; subst w')
        | (go_at_call 35; refine (rletter_any _ _).mono ?_; rintro e w' ⟨rfl, hw'⟩; subst w')
        | (go_at_call 40; refine (HX.out).mono ?_; rintro e w1 ⟨r1, rfl, ⟨q1, q2, q3, qs, hr1⟩, hw1⟩; subst hr1; have HW1 := hid hw1; have B := (Blk.new wr #[.int .i64 0, .string ByteArray.empty, .int .i64 0, .int .i64 0] 70).bw hw1; have HBK := hid B; have k0 := B.cell 0; have k1 := B.cell 1; have k2 := B.cell 2; have k3 := B.cell 3; have kf := B.free; simp at k0 k1 k2 k3; clear hw1 B))
       all_goals go_ret3
       all_goals exact ⟨.slice none 0 0, by rw [HRR.out, HFN.out]; simp, by rw [HRR.out, HFN.out]; exact World.ownsRow_nil _ _ _ _, HW.out.trans ((((((Bw.alloc (Bw.refl wr) tk0).trans HW1.out).setCell (Nat.le_refl _) _).setCell (Nat.le_refl _) _).setCell (Nat.le_refl _) _).setCell (Nat.le_refl _) _)⟩
      | tok kd x n len =>
       rw [hC] at HX HRC
       obtain ⟨hl1, hl2', f', hf1, hf2'⟩ := HSTP.out.2 kd x n len HRC.out
       have HFN := hid (And.intro hf1 (HRR.out.trans hf2'))
       clear hC HSTP hf1 hf2'
       go_wp2_with (first
        | (go_at_call 36; refine (rdigit_any _ _).mono ?_; rintro e w' ⟨rfl, hw'⟩; subst w')
        | (go_at_call 35; refine (rletter_any _ _).mono ?_; rintro e w' ⟨rfl, hw'⟩; subst w')
        | (go_at_call 40; refine (HX.out).mono ?_; rintro e w1 ⟨r1, rfl, hr1, hw1⟩; have hr1 : r1 = _ := hr1; subst hr1; have HW1 := hid hw1; have B := (Blk.new wr #[.int .i64 0, .string ByteArray.empty, .int .i64 0, .int .i64 0] 70).bw hw1; have HBK := hid B; have k0 := B.cell 0; have k1 := B.cell 1; have k2 := B.cell 2; have k3 := B.cell 3; have kf := B.free; simp at k0 k1 k2 k3; clear hw1 B)
        | (at_builtin; refine wpList_append_own _ rfl _ _ 63 rfl w.heap.size 70 i1 _ 4 40 underT I1.out.1 I1.out.2.1 I1.out.2.2.1 I1.out.2.2.2 rfl (by decide) (.slice ax acc.length cax) acc.length (acc.flatMap tkV) rfl ?aa0 _ 1 1 (tkV (kd, x, n, (k : Int))) rfl rfl ?aa1 ?aa2 ?aa3 ?aa4 ?aa5 ?_)
        | go_in)
       try case aa0 => exact HT.out.bw (Bw.alloc ((((((Bw.alloc (Bw.refl wr) tk0).trans HW1.out).setCell (Nat.le_refl _) _).setCell (Nat.le_refl _) _).setCell (Nat.le_refl _) _).setCell (Nat.le_refl _) _) _)
       try case aa1 =>
        intro j u hj
        match j, hj with
        | 0, hj => simp [tkV] at hj; subst hj; simp [Addr.add, go_sem]
        | 1, hj => simp [tkV] at hj; subst hj; simp [Addr.add, go_sem]
        | 2, hj => simp [tkV] at hj; subst hj; simp [Addr.add, go_sem]
        | 3, hj => simp [tkV] at hj; subst hj; simp [Addr.add, go_sem]
        | j + 4, hj => simp [tkV] at hj
       try case aa2 => intro u hu; simp [tkV] at hu; rcases hu with rfl | rfl | rfl | rfl <;> rfl
       try case aa3 => have := HAC.out; unfold maxLen; omega
       try case aa4 => have := HAC.out; omega
       try case aa5 => have := HW1.out.size; simp at this ⊢; omega
       intro v' w2 hown hgr _
       obtain ⟨av', cv', e⟩ := own_form hown
       subst e
       have hb2 : Bw w w2 := by
        refine bw_grown (e := 70) (size := 4) (n := acc.length) (xs := acc.flatMap tkV) ?_ (Nat.le_refl _) ?_ hgr
        ·exact HW.out.trans (Bw.alloc ((((((Bw.alloc (Bw.refl wr) tk0).trans HW1.out).setCell (Nat.le_refl _) _).setCell (Nat.le_refl _) _).setCell (Nat.le_refl _) _).setCell (Nat.le_refl _) _) _)
        ·exact HT.out.bw (Bw.alloc ((((((Bw.alloc (Bw.refl wr) tk0).trans HW1.out).setCell (Nat.le_refl _) _).setCell (Nat.le_refl _) _).setCell (Nat.le_refl _) _).setCell (Nat.le_refl _) _) _)
       have HB2 := hid hb2
       rw [tk_snoc] at hown
       have HO1 := hid hown
       clear hgr hown hb2
       go_wp2_with (first
        | (go_at_call 34; refine (rskip_any _ b (k + len) _ (HB.out.bw HB2.out) (by omega) (by omega)).mono ?_; rintro e w' ⟨p, rfl, hsk, hw'⟩; subst w'; have HSK := hid hsk; clear hsk))
       obtain ⟨f2, hf2, hl2⟩ := HSK.out.1.2.2 (acc ++ [(kd, x, n, (k : Int))]) f' (by exact HFN.out.1)
       have hp1 := HSK.out.1.1
       go_roundw
       case rel => exact ⟨f2, p, acc ++ [(kd, x, n, (k : Int))], rfl, HSK.out.1.2.1, hf2, HFN.out.2.trans hl2, by have := HAC.out; simp; omega, HSK.out.2, by simpa [Tk] using HO1.out, HB2.out⟩
       case measure => simp [intOf]; omega
     ·have HRC := hid (show rcut (b.drop k) = cStr ((b.drop (k + 1)).length + 1) (b.drop (k + 1)) [] 1 by rw [hrc, if_neg (by simp [h1]), if_neg (by simp [h2]), if_pos (by simpa using h3)])
      clear hrc
      have HX := hid (rtext_any _ b k _ HBA.out hlt (by omega) _ rfl)
      cases hC : cStr ((b.drop (k + 1)).length + 1) (b.drop (k + 1)) [] 1 with
      | bad er off =>
       rw [hC] at HX HRC
       have hne := rcut_bad HRC.out
       have HFN := hid (HSTP.out.1 er off HRC.out)
       have hne' : (er != 0) = true := by simp; omega
       clear hC hne HSTP
       go_wp2_with (first
        | (go_at_call 36; refine (rdigit_any _ _).mono ?_; rintro e w' ⟨rfl, hw'⟩; subst w')
        | (go_at_call 35; refine (rletter_any _ _).mono ?_; rintro e w' ⟨rfl, hw'⟩; subst w')
        | (go_at_call 39; refine (HX.out).mono ?_; rintro e w1 ⟨r1, rfl, ⟨q1, q2, q3, qs, hr1⟩, hw1⟩; subst hr1; have HW1 := hid hw1; have B := (Blk.new wr #[.int .i64 0, .string ByteArray.empty, .int .i64 0, .int .i64 0] 70).bw hw1; have HBK := hid B; have k0 := B.cell 0; have k1 := B.cell 1; have k2 := B.cell 2; have k3 := B.cell 3; have kf := B.free; simp at k0 k1 k2 k3; clear hw1 B))
       all_goals go_ret3
       all_goals exact ⟨.slice none 0 0, by rw [HRR.out, HFN.out]; simp, by rw [HRR.out, HFN.out]; exact World.ownsRow_nil _ _ _ _, HW.out.trans ((((((Bw.alloc (Bw.refl wr) tk0).trans HW1.out).setCell (Nat.le_refl _) _).setCell (Nat.le_refl _) _).setCell (Nat.le_refl _) _).setCell (Nat.le_refl _) _)⟩
      | tok kd x n len =>
       rw [hC] at HX HRC
       obtain ⟨hl1, hl2', f', hf1, hf2'⟩ := HSTP.out.2 kd x n len HRC.out
       have HFN := hid (And.intro hf1 (HRR.out.trans hf2'))
       clear hC HSTP hf1 hf2'
       go_wp2_with (first
        | (go_at_call 36; refine (rdigit_any _ _).mono ?_; rintro e w' ⟨rfl, hw'⟩; subst w')
        | (go_at_call 35; refine (rletter_any _ _).mono ?_; rintro e w' ⟨rfl, hw'⟩; subst w')
        | (go_at_call 39; refine (HX.out).mono ?_; rintro e w1 ⟨r1, rfl, hr1, hw1⟩; have hr1 : r1 = _ := hr1; subst hr1; have HW1 := hid hw1; have B := (Blk.new wr #[.int .i64 0, .string ByteArray.empty, .int .i64 0, .int .i64 0] 70).bw hw1; have HBK := hid B; have k0 := B.cell 0; have k1 := B.cell 1; have k2 := B.cell 2; have k3 := B.cell 3; have kf := B.free; simp at k0 k1 k2 k3; clear hw1 B)
        | (at_builtin; refine wpList_append_own _ rfl _ _ 63 rfl w.heap.size 70 i1 _ 4 40 underT I1.out.1 I1.out.2.1 I1.out.2.2.1 I1.out.2.2.2 rfl (by decide) (.slice ax acc.length cax) acc.length (acc.flatMap tkV) rfl ?bb0 _ 1 1 (tkV (kd, x, n, (k : Int))) rfl rfl ?bb1 ?bb2 ?bb3 ?bb4 ?bb5 ?_)
        | go_in)
       try case bb0 => exact HT.out.bw (Bw.alloc ((((((Bw.alloc (Bw.refl wr) tk0).trans HW1.out).setCell (Nat.le_refl _) _).setCell (Nat.le_refl _) _).setCell (Nat.le_refl _) _).setCell (Nat.le_refl _) _) _)
       try case bb1 =>
        intro j u hj
        match j, hj with
        | 0, hj => simp [tkV] at hj; subst hj; simp [Addr.add, go_sem]
        | 1, hj => simp [tkV] at hj; subst hj; simp [Addr.add, go_sem]
        | 2, hj => simp [tkV] at hj; subst hj; simp [Addr.add, go_sem]
        | 3, hj => simp [tkV] at hj; subst hj; simp [Addr.add, go_sem]
        | j + 4, hj => simp [tkV] at hj
       try case bb2 => intro u hu; simp [tkV] at hu; rcases hu with rfl | rfl | rfl | rfl <;> rfl
       try case bb3 => have := HAC.out; unfold maxLen; omega
       try case bb4 => have := HAC.out; omega
       try case bb5 => have := HW1.out.size; simp at this ⊢; omega
       intro v' w2 hown hgr _
       obtain ⟨av', cv', e⟩ := own_form hown
       subst e
       have hb2 : Bw w w2 := by
        refine bw_grown (e := 70) (size := 4) (n := acc.length) (xs := acc.flatMap tkV) ?_ (Nat.le_refl _) ?_ hgr
        ·exact HW.out.trans (Bw.alloc ((((((Bw.alloc (Bw.refl wr) tk0).trans HW1.out).setCell (Nat.le_refl _) _).setCell (Nat.le_refl _) _).setCell (Nat.le_refl _) _).setCell (Nat.le_refl _) _) _)
        ·exact HT.out.bw (Bw.alloc ((((((Bw.alloc (Bw.refl wr) tk0).trans HW1.out).setCell (Nat.le_refl _) _).setCell (Nat.le_refl _) _).setCell (Nat.le_refl _) _).setCell (Nat.le_refl _) _) _)
       have HB2 := hid hb2
       rw [tk_snoc] at hown
       have HO1 := hid hown
       clear hgr hown hb2
       go_wp2_with (first
        | (go_at_call 34; refine (rskip_any _ b (k + len) _ (HB.out.bw HB2.out) (by omega) (by omega)).mono ?_; rintro e w' ⟨p, rfl, hsk, hw'⟩; subst w'; have HSK := hid hsk; clear hsk))
       obtain ⟨f2, hf2, hl2⟩ := HSK.out.1.2.2 (acc ++ [(kd, x, n, (k : Int))]) f' (by exact HFN.out.1)
       have hp1 := HSK.out.1.1
       go_roundw
       case rel => exact ⟨f2, p, acc ++ [(kd, x, n, (k : Int))], rfl, HSK.out.1.2.1, hf2, HFN.out.2.trans hl2, by have := HAC.out; simp; omega, HSK.out.2, by simpa [Tk] using HO1.out, HB2.out⟩
       case measure => simp [intOf]; omega
    ·have HRC := hid (show rcut (b.drop k) = cNum (b.drop k) by rw [hrc, if_neg (by simp [h1]), if_pos h2])
     clear hrc
     have HX := hid (rnumber_any _ b k _ HBA.out hlt (by omega))
     cases hC : cNum (b.drop k) with
     | bad er off =>
      rw [hC] at HX HRC
      have hne := rcut_bad HRC.out
      have HFN := hid (HSTP.out.1 er off HRC.out)
      have hne' : (er != 0) = true := by simp; omega
      clear hC hne HSTP
      go_wp2_with (first
       | (go_at_call 36; refine (rdigit_any _ _).mono ?_; rintro e w' ⟨rfl, hw'⟩; subst w')
       | (go_at_call 35; refine (rletter_any _ _).mono ?_; rintro e w' ⟨rfl, hw'⟩; subst w')
       | (go_at_call 38; refine (HX.out).mono ?_; rintro e w1 ⟨r1, rfl, ⟨q1, q2, q3, qs, hr1⟩, hw1⟩; subst hr1; have HW1 := hid hw1; have B := (Blk.new wr #[.int .i64 0, .string ByteArray.empty, .int .i64 0, .int .i64 0] 70).bw hw1; have HBK := hid B; have k0 := B.cell 0; have k1 := B.cell 1; have k2 := B.cell 2; have k3 := B.cell 3; have kf := B.free; simp at k0 k1 k2 k3; clear hw1 B))
      all_goals go_ret3
      all_goals exact ⟨.slice none 0 0, by rw [HRR.out, HFN.out]; simp, by rw [HRR.out, HFN.out]; exact World.ownsRow_nil _ _ _ _, HW.out.trans ((((((Bw.alloc (Bw.refl wr) tk0).trans HW1.out).setCell (Nat.le_refl _) _).setCell (Nat.le_refl _) _).setCell (Nat.le_refl _) _).setCell (Nat.le_refl _) _)⟩
     | tok kd x n len =>
      rw [hC] at HX HRC
      obtain ⟨hl1, hl2', f', hf1, hf2'⟩ := HSTP.out.2 kd x n len HRC.out
      have HFN := hid (And.intro hf1 (HRR.out.trans hf2'))
      clear hC HSTP hf1 hf2'
      go_wp2_with (first
       | (go_at_call 36; refine (rdigit_any _ _).mono ?_; rintro e w' ⟨rfl, hw'⟩; subst w')
       | (go_at_call 35; refine (rletter_any _ _).mono ?_; rintro e w' ⟨rfl, hw'⟩; subst w')
       | (go_at_call 38; refine (HX.out).mono ?_; rintro e w1 ⟨r1, rfl, hr1, hw1⟩; have hr1 : r1 = _ := hr1; subst hr1; have HW1 := hid hw1; have B := (Blk.new wr #[.int .i64 0, .string ByteArray.empty, .int .i64 0, .int .i64 0] 70).bw hw1; have HBK := hid B; have k0 := B.cell 0; have k1 := B.cell 1; have k2 := B.cell 2; have k3 := B.cell 3; have kf := B.free; simp at k0 k1 k2 k3; clear hw1 B)
       | (at_builtin; refine wpList_append_own _ rfl _ _ 63 rfl w.heap.size 70 i1 _ 4 40 underT I1.out.1 I1.out.2.1 I1.out.2.2.1 I1.out.2.2.2 rfl (by decide) (.slice ax acc.length cax) acc.length (acc.flatMap tkV) rfl ?cc0 _ 1 1 (tkV (kd, x, n, (k : Int))) rfl rfl ?cc1 ?cc2 ?cc3 ?cc4 ?cc5 ?_)
       | go_in)
      try case cc0 => exact HT.out.bw (Bw.alloc ((((((Bw.alloc (Bw.refl wr) tk0).trans HW1.out).setCell (Nat.le_refl _) _).setCell (Nat.le_refl _) _).setCell (Nat.le_refl _) _).setCell (Nat.le_refl _) _) _)
      try case cc1 =>
       intro j u hj
       match j, hj with
       | 0, hj => simp [tkV] at hj; subst hj; simp [Addr.add, go_sem]
       | 1, hj => simp [tkV] at hj; subst hj; simp [Addr.add, go_sem]
       | 2, hj => simp [tkV] at hj; subst hj; simp [Addr.add, go_sem]
       | 3, hj => simp [tkV] at hj; subst hj; simp [Addr.add, go_sem]
       | j + 4, hj => simp [tkV] at hj
      try case cc2 => intro u hu; simp [tkV] at hu; rcases hu with rfl | rfl | rfl | rfl <;> rfl
      try case cc3 => have := HAC.out; unfold maxLen; omega
      try case cc4 => have := HAC.out; omega
      try case cc5 => have := HW1.out.size; simp at this ⊢; omega
      intro v' w2 hown hgr _
      obtain ⟨av', cv', e⟩ := own_form hown
      subst e
      have hb2 : Bw w w2 := by
       refine bw_grown (e := 70) (size := 4) (n := acc.length) (xs := acc.flatMap tkV) ?_ (Nat.le_refl _) ?_ hgr
       ·exact HW.out.trans (Bw.alloc ((((((Bw.alloc (Bw.refl wr) tk0).trans HW1.out).setCell (Nat.le_refl _) _).setCell (Nat.le_refl _) _).setCell (Nat.le_refl _) _).setCell (Nat.le_refl _) _) _)
       ·exact HT.out.bw (Bw.alloc ((((((Bw.alloc (Bw.refl wr) tk0).trans HW1.out).setCell (Nat.le_refl _) _).setCell (Nat.le_refl _) _).setCell (Nat.le_refl _) _).setCell (Nat.le_refl _) _) _)
      have HB2 := hid hb2
      rw [tk_snoc] at hown
      have HO1 := hid hown
      clear hgr hown hb2
      go_wp2_with (first
       | (go_at_call 34; refine (rskip_any _ b (k + len) _ (HB.out.bw HB2.out) (by omega) (by omega)).mono ?_; rintro e w' ⟨p, rfl, hsk, hw'⟩; subst w'; have HSK := hid hsk; clear hsk))
      obtain ⟨f2, hf2, hl2⟩ := HSK.out.1.2.2 (acc ++ [(kd, x, n, (k : Int))]) f' (by exact HFN.out.1)
      have hp1 := HSK.out.1.1
      go_roundw
      case rel => exact ⟨f2, p, acc ++ [(kd, x, n, (k : Int))], rfl, HSK.out.1.2.1, hf2, HFN.out.2.trans hl2, by have := HAC.out; simp; omega, HSK.out.2, by simpa [Tk] using HO1.out, HB2.out⟩
      case measure => simp [intOf]; omega
   ·have HRC := hid (show rcut (b.drop k) = cName (b.drop k) by rw [hrc, if_pos h1])
    clear hrc
    obtain ⟨hl1, hl2', f', hf1, hf2'⟩ := HSTP.out.2 _ _ _ _ (HRC.out.trans rfl)
    have HFN := hid (And.intro hf1 (HRR.out.trans hf2'))
    have hwb : ∀ c ∈ (b.drop k).takeWhile isNm, 0 ≤ c ∧ c ≤ 255 := fun c hc => HB.out.2.1 c (List.mem_of_mem_drop ((List.takeWhile_sublist _).subset hc))
    have WD := hid (rWord_any _ hwb)
    have HTW := hid (takeWhile_twl isNm (b.drop k))
    have hck : ¬ cap = k := by omega
    clear HSTP hf1 hf2' hwb HRC
    go_wp2_with (first
     | (go_at_call 36; refine (rdigit_any _ _).mono ?_; rintro e w' ⟨rfl, hw'⟩; subst w')
     | (go_at_call 35; refine (rletter_any _ _).mono ?_; rintro e w' ⟨rfl, hw'⟩; subst w'))
    rename World => wo
    go_loopw [8] (fun j wi => ∃ m, j = .int .i64 ((k + m : Nat) : Int) ∧ m ≤ twl isNm (b.drop k) ∧ wi = wo.alloc tk0) (fun j _ => b.length - (intOf j).toNat)
    case atStart => exact ⟨0, by simp, Nat.zero_le _, rfl⟩
    case round =>
     obtain ⟨m, rfl, hm1, hwr⟩ := hrel
     subst hwr
     have hle := twl_le isNm (b.drop k)
     rw [List.length_drop] at hle
     have key : (twl isNm (b.drop k) = m ∧ ∀ hlt : k + m < b.length, isNm b[k + m] = false) ∨ ∃ hlt : k + m < b.length, isNm b[k + m] = true ∧ m + 1 ≤ twl isNm (b.drop k) := by
      by_cases hlt : k + m < b.length
      ·have hml : m < (b.drop k).length := by rw [List.length_drop]; omega
       have hge : (b.drop k)[m] = b[k + m] := by simp
       cases hp : isNm b[k + m]
       ·exact .inl ⟨twl_no hm1 hml (by rw [hge]; exact hp), fun _ => hp⟩
       ·exact .inr ⟨hlt, hp, twl_go hm1 hml (by rw [hge]; exact hp)⟩
      ·exact .inl ⟨twl_end hm1 (by rw [List.length_drop]; omega), fun h => absurd h hlt⟩
     rcases key with ⟨hfin, hno⟩ | ⟨hlt', hp, hg1⟩
     ·have hkm : k + m ≤ b.length := by omega
      have hconv := HBA.out.conv k m (cap - k) (by omega)
      rw [← hfin, ← HTW.out, hfin] at hconv
      have hm1' : 1 ≤ m := by rw [← hfin]; exact hl1
      have hcase : (∃ c', wo.cell? ⟨g, o + (k + m), none⟩ = some (.int .u8 c') ∧ isLt c' = false ∧ isDg c' = false ∧ ((k + m : Nat) : Int) < (b.length : Int)) ∨ ¬ k + m < b.length := by
       by_cases hlt' : k + m < b.length
       ·have hn := hno hlt'
        simp [isNm] at hn
        exact .inl ⟨_, HCS.out _ hlt', hn.1, hn.2, by omega⟩
       ·exact .inr hlt'
      rw [hfin] at HFN
      clear hno hm1 hle hfin HTW
      cases hwd : isWord ((b.drop k).takeWhile isNm)
      ·rw [hwd] at HFN WD
       have HFM := hid (show (b.drop (k + m)).length < f' ∧ R = lexF f' (b.drop (k + m)) (k + m) (acc ++ [(1, (b.drop k).takeWhile isNm, 0, (k : Int))]) by simpa using HFN.out)
       clear HFN hwd
       rcases hcase with ⟨c', hc', hlc, hdc, hlt3⟩ | hlt3
       ·go_wp2_with (first
         | (go_at_call 36; refine (rdigit_any _ _).mono ?_; rintro e w' ⟨rfl, hw'⟩; subst w')
         | (go_at_call 35; refine (rletter_any _ _).mono ?_; rintro e w' ⟨rfl, hw'⟩; subst w')
         | (go_at_call 37; refine (WD.out _).mono ?_; rintro e w' ⟨rfl, os, ns, rfl⟩)
         | (at_builtin; refine wpList_append_own _ rfl _ _ 63 rfl w.heap.size 70 i1 _ 4 40 underT I1.out.1 I1.out.2.1 I1.out.2.2.1 I1.out.2.2.2 rfl (by decide) (.slice ax acc.length cax) acc.length (acc.flatMap tkV) rfl ?p0x0 _ 1 1 (tkV (1, (b.drop k).takeWhile isNm, 0, (k : Int))) rfl rfl ?p0x1 ?p0x2 ?p0x3 ?p0x4 ?p0x5 ?_)
         | go_in)
        try case p0x0 => exact HT.out.bw (Bw.alloc (Bw.lay (Bw.alloc (Bw.refl wo) _) os ns) _)
        try case p0x1 =>
         intro j u hj
         match j, hj with
         | 0, hj => simp [tkV] at hj; subst hj; simp [Addr.add, go_sem]
         | 1, hj => simp [tkV] at hj; subst hj; simp [Addr.add, go_sem]
         | 2, hj => simp [tkV] at hj; subst hj; simp [Addr.add, go_sem]
         | 3, hj => simp [tkV] at hj; subst hj; simp [Addr.add, go_sem]
         | j + 4, hj => simp [tkV] at hj
        try case p0x2 => intro u hu; simp [tkV] at hu; rcases hu with rfl | rfl | rfl | rfl <;> rfl
        try case p0x3 => have := HAC.out; unfold maxLen; omega
        try case p0x4 => have := HAC.out; omega
        try case p0x5 => first | omega | (simp; omega)
        intro v' w2 hown hgr _
        obtain ⟨av', cv', e⟩ := own_form hown
        subst e
        have hb2 : Bw w w2 := by
         refine bw_grown (e := 70) (size := 4) (n := acc.length) (xs := acc.flatMap tkV) ?_ (Nat.le_refl _) ?_ hgr
         ·exact HW.out.trans (Bw.alloc (Bw.lay (Bw.alloc (Bw.refl wo) _) os ns) _)
         ·exact HT.out.bw (Bw.alloc (Bw.lay (Bw.alloc (Bw.refl wo) _) os ns) _)
        have HB2 := hid hb2
        rw [tk_snoc] at hown
        have HO1 := hid hown
        clear hgr hown hb2
        go_wp2_with (first
         | (go_at_call 34; refine (rskip_any _ b (k + m) _ (HB.out.bw HB2.out) (by omega) (by omega)).mono ?_; rintro e w' ⟨p, rfl, hsk, hw'⟩; subst w'; have HSK := hid hsk; clear hsk))
        obtain ⟨f2, hf2, hl2⟩ := HSK.out.1.2.2 (acc ++ [(1, (b.drop k).takeWhile isNm, 0, (k : Int))]) f' (by exact HFM.out.1)
        have hp1 := HSK.out.1.1
        go_roundw
        case rel => exact ⟨f2, p, acc ++ [(1, (b.drop k).takeWhile isNm, 0, (k : Int))], rfl, HSK.out.1.2.1, hf2, HFM.out.2.trans hl2, by have := HAC.out; simp; omega, HSK.out.2, by simpa [Tk] using HO1.out, HB2.out⟩
        case measure => simp [intOf]; omega
       ·go_wp2_with (first
         | (go_at_call 36; refine (rdigit_any _ _).mono ?_; rintro e w' ⟨rfl, hw'⟩; subst w')
         | (go_at_call 35; refine (rletter_any _ _).mono ?_; rintro e w' ⟨rfl, hw'⟩; subst w')
         | (go_at_call 37; refine (WD.out _).mono ?_; rintro e w' ⟨rfl, os, ns, rfl⟩)
         | (at_builtin; refine wpList_append_own _ rfl _ _ 63 rfl w.heap.size 70 i1 _ 4 40 underT I1.out.1 I1.out.2.1 I1.out.2.2.1 I1.out.2.2.2 rfl (by decide) (.slice ax acc.length cax) acc.length (acc.flatMap tkV) rfl ?q0x0 _ 1 1 (tkV (1, (b.drop k).takeWhile isNm, 0, (k : Int))) rfl rfl ?q0x1 ?q0x2 ?q0x3 ?q0x4 ?q0x5 ?_)
         | go_in)
        try case q0x0 => exact HT.out.bw (Bw.alloc (Bw.lay (Bw.alloc (Bw.refl wo) _) os ns) _)
        try case q0x1 =>
         intro j u hj
         match j, hj with
         | 0, hj => simp [tkV] at hj; subst hj; simp [Addr.add, go_sem]
         | 1, hj => simp [tkV] at hj; subst hj; simp [Addr.add, go_sem]
         | 2, hj => simp [tkV] at hj; subst hj; simp [Addr.add, go_sem]
         | 3, hj => simp [tkV] at hj; subst hj; simp [Addr.add, go_sem]
         | j + 4, hj => simp [tkV] at hj
        try case q0x2 => intro u hu; simp [tkV] at hu; rcases hu with rfl | rfl | rfl | rfl <;> rfl
        try case q0x3 => have := HAC.out; unfold maxLen; omega
        try case q0x4 => have := HAC.out; omega
        try case q0x5 => first | omega | (simp; omega)
        intro v' w2 hown hgr _
        obtain ⟨av', cv', e⟩ := own_form hown
        subst e
        have hb2 : Bw w w2 := by
         refine bw_grown (e := 70) (size := 4) (n := acc.length) (xs := acc.flatMap tkV) ?_ (Nat.le_refl _) ?_ hgr
         ·exact HW.out.trans (Bw.alloc (Bw.lay (Bw.alloc (Bw.refl wo) _) os ns) _)
         ·exact HT.out.bw (Bw.alloc (Bw.lay (Bw.alloc (Bw.refl wo) _) os ns) _)
        have HB2 := hid hb2
        rw [tk_snoc] at hown
        have HO1 := hid hown
        clear hgr hown hb2
        go_wp2_with (first
         | (go_at_call 34; refine (rskip_any _ b (k + m) _ (HB.out.bw HB2.out) (by omega) (by omega)).mono ?_; rintro e w' ⟨p, rfl, hsk, hw'⟩; subst w'; have HSK := hid hsk; clear hsk))
        obtain ⟨f2, hf2, hl2⟩ := HSK.out.1.2.2 (acc ++ [(1, (b.drop k).takeWhile isNm, 0, (k : Int))]) f' (by exact HFM.out.1)
        have hp1 := HSK.out.1.1
        go_roundw
        case rel => exact ⟨f2, p, acc ++ [(1, (b.drop k).takeWhile isNm, 0, (k : Int))], rfl, HSK.out.1.2.1, hf2, HFM.out.2.trans hl2, by have := HAC.out; simp; omega, HSK.out.2, by simpa [Tk] using HO1.out, HB2.out⟩
        case measure => simp [intOf]; omega
      ·rw [hwd] at HFN WD
       have HFM := hid (show (b.drop (k + m)).length < f' ∧ R = lexF f' (b.drop (k + m)) (k + m) (acc ++ [(2, (b.drop k).takeWhile isNm, 0, (k : Int))]) by simpa using HFN.out)
       clear HFN hwd
       rcases hcase with ⟨c', hc', hlc, hdc, hlt3⟩ | hlt3
       ·go_wp2_with (first
         | (go_at_call 36; refine (rdigit_any _ _).mono ?_; rintro e w' ⟨rfl, hw'⟩; subst w')
         | (go_at_call 35; refine (rletter_any _ _).mono ?_; rintro e w' ⟨rfl, hw'⟩; subst w')
         | (go_at_call 37; refine (WD.out _).mono ?_; rintro e w' ⟨rfl, os, ns, rfl⟩)
         | (at_builtin; refine wpList_append_own _ rfl _ _ 63 rfl w.heap.size 70 i1 _ 4 40 underT I1.out.1 I1.out.2.1 I1.out.2.2.1 I1.out.2.2.2 rfl (by decide) (.slice ax acc.length cax) acc.length (acc.flatMap tkV) rfl ?p1x0 _ 1 1 (tkV (2, (b.drop k).takeWhile isNm, 0, (k : Int))) rfl rfl ?p1x1 ?p1x2 ?p1x3 ?p1x4 ?p1x5 ?_)
         | go_in)
        try case p1x0 => exact HT.out.bw (Bw.alloc (Bw.lay (Bw.alloc (Bw.refl wo) _) os ns) _)
        try case p1x1 =>
         intro j u hj
         match j, hj with
         | 0, hj => simp [tkV] at hj; subst hj; simp [Addr.add, go_sem]
         | 1, hj => simp [tkV] at hj; subst hj; simp [Addr.add, go_sem]
         | 2, hj => simp [tkV] at hj; subst hj; simp [Addr.add, go_sem]
         | 3, hj => simp [tkV] at hj; subst hj; simp [Addr.add, go_sem]
         | j + 4, hj => simp [tkV] at hj
        try case p1x2 => intro u hu; simp [tkV] at hu; rcases hu with rfl | rfl | rfl | rfl <;> rfl
        try case p1x3 => have := HAC.out; unfold maxLen; omega
        try case p1x4 => have := HAC.out; omega
        try case p1x5 => first | omega | (simp; omega)
        intro v' w2 hown hgr _
        obtain ⟨av', cv', e⟩ := own_form hown
        subst e
        have hb2 : Bw w w2 := by
         refine bw_grown (e := 70) (size := 4) (n := acc.length) (xs := acc.flatMap tkV) ?_ (Nat.le_refl _) ?_ hgr
         ·exact HW.out.trans (Bw.alloc (Bw.lay (Bw.alloc (Bw.refl wo) _) os ns) _)
         ·exact HT.out.bw (Bw.alloc (Bw.lay (Bw.alloc (Bw.refl wo) _) os ns) _)
        have HB2 := hid hb2
        rw [tk_snoc] at hown
        have HO1 := hid hown
        clear hgr hown hb2
        go_wp2_with (first
         | (go_at_call 34; refine (rskip_any _ b (k + m) _ (HB.out.bw HB2.out) (by omega) (by omega)).mono ?_; rintro e w' ⟨p, rfl, hsk, hw'⟩; subst w'; have HSK := hid hsk; clear hsk))
        obtain ⟨f2, hf2, hl2⟩ := HSK.out.1.2.2 (acc ++ [(2, (b.drop k).takeWhile isNm, 0, (k : Int))]) f' (by exact HFM.out.1)
        have hp1 := HSK.out.1.1
        go_roundw
        case rel => exact ⟨f2, p, acc ++ [(2, (b.drop k).takeWhile isNm, 0, (k : Int))], rfl, HSK.out.1.2.1, hf2, HFM.out.2.trans hl2, by have := HAC.out; simp; omega, HSK.out.2, by simpa [Tk] using HO1.out, HB2.out⟩
        case measure => simp [intOf]; omega
       ·go_wp2_with (first
         | (go_at_call 36; refine (rdigit_any _ _).mono ?_; rintro e w' ⟨rfl, hw'⟩; subst w')
         | (go_at_call 35; refine (rletter_any _ _).mono ?_; rintro e w' ⟨rfl, hw'⟩; subst w')
         | (go_at_call 37; refine (WD.out _).mono ?_; rintro e w' ⟨rfl, os, ns, rfl⟩)
         | (at_builtin; refine wpList_append_own _ rfl _ _ 63 rfl w.heap.size 70 i1 _ 4 40 underT I1.out.1 I1.out.2.1 I1.out.2.2.1 I1.out.2.2.2 rfl (by decide) (.slice ax acc.length cax) acc.length (acc.flatMap tkV) rfl ?q1x0 _ 1 1 (tkV (2, (b.drop k).takeWhile isNm, 0, (k : Int))) rfl rfl ?q1x1 ?q1x2 ?q1x3 ?q1x4 ?q1x5 ?_)
         | go_in)
        try case q1x0 => exact HT.out.bw (Bw.alloc (Bw.lay (Bw.alloc (Bw.refl wo) _) os ns) _)
        try case q1x1 =>
         intro j u hj
         match j, hj with
         | 0, hj => simp [tkV] at hj; subst hj; simp [Addr.add, go_sem]
         | 1, hj => simp [tkV] at hj; subst hj; simp [Addr.add, go_sem]
         | 2, hj => simp [tkV] at hj; subst hj; simp [Addr.add, go_sem]
         | 3, hj => simp [tkV] at hj; subst hj; simp [Addr.add, go_sem]
         | j + 4, hj => simp [tkV] at hj
        try case q1x2 => intro u hu; simp [tkV] at hu; rcases hu with rfl | rfl | rfl | rfl <;> rfl
        try case q1x3 => have := HAC.out; unfold maxLen; omega
        try case q1x4 => have := HAC.out; omega
        try case q1x5 => first | omega | (simp; omega)
        intro v' w2 hown hgr _
        obtain ⟨av', cv', e⟩ := own_form hown
        subst e
        have hb2 : Bw w w2 := by
         refine bw_grown (e := 70) (size := 4) (n := acc.length) (xs := acc.flatMap tkV) ?_ (Nat.le_refl _) ?_ hgr
         ·exact HW.out.trans (Bw.alloc (Bw.lay (Bw.alloc (Bw.refl wo) _) os ns) _)
         ·exact HT.out.bw (Bw.alloc (Bw.lay (Bw.alloc (Bw.refl wo) _) os ns) _)
        have HB2 := hid hb2
        rw [tk_snoc] at hown
        have HO1 := hid hown
        clear hgr hown hb2
        go_wp2_with (first
         | (go_at_call 34; refine (rskip_any _ b (k + m) _ (HB.out.bw HB2.out) (by omega) (by omega)).mono ?_; rintro e w' ⟨p, rfl, hsk, hw'⟩; subst w'; have HSK := hid hsk; clear hsk))
        obtain ⟨f2, hf2, hl2⟩ := HSK.out.1.2.2 (acc ++ [(2, (b.drop k).takeWhile isNm, 0, (k : Int))]) f' (by exact HFM.out.1)
        have hp1 := HSK.out.1.1
        go_roundw
        case rel => exact ⟨f2, p, acc ++ [(2, (b.drop k).takeWhile isNm, 0, (k : Int))], rfl, HSK.out.1.2.1, hf2, HFM.out.2.trans hl2, by have := HAC.out; simp; omega, HSK.out.2, by simpa [Tk] using HO1.out, HB2.out⟩
        case measure => simp [intOf]; omega
     ·have hc' := HCS.out _ hlt'
      have hlt3 : ((k + m : Nat) : Int) < (b.length : Int) := by omega
      have HG1 := hid hg1
      have HPP := hid hp
      clear hm1 hle hg1 hp
      generalize b[k + m] = c' at hc' HPP
      cases hlc : isLt c' <;> cases hdc : isDg c'
      ·have := HPP.out
       simp [isNm, hlc, hdc] at this
      all_goals
       go_wp2_with (first
        | (go_at_call 36; refine (rdigit_any _ _).mono ?_; rintro e w' ⟨rfl, hw'⟩; subst w')
        | (go_at_call 35; refine (rletter_any _ _).mono ?_; rintro e w' ⟨rfl, hw'⟩; subst w'))
       go_roundw
       case rel => exact ⟨m + 1, by go_num, HG1.out, trivial⟩
       case measure => simp [intOf]; omega
  ·obtain rfl : k = b.length := by omega
   obtain ⟨f', rfl⟩ : ∃ f', f = f' + 1 := ⟨f - 1, by have := HF.out; omega⟩
   have hf : R = (acc ++ [(0, [], 0, (b.length : Int))], 0, b.length) := by rw [HRR.out, List.drop_length, lexF_nil]
   have HFN := hid hf
   clear hf
   go_wp2_with (first
    | (at_builtin; refine wpList_append_own _ rfl _ _ 63 rfl w.heap.size 70 i1 _ 4 40 underT I1.out.1 I1.out.2.1 I1.out.2.2.1 I1.out.2.2.2 rfl (by decide) (.slice ax acc.length cax) acc.length (acc.flatMap tkV) rfl ?ff0 _ 1 1 (tkV (0, [], 0, (b.length : Int))) rfl rfl ?ff1 ?ff2 ?ff3 ?ff4 ?ff5 ?_)
    | go_in)
   try case ff0 => exact HT.out.bw (Bw.alloc (Bw.refl _) _)
   try case ff1 =>
    intro j u hj
    match j, hj with
    | 0, hj => simp [tkV] at hj; subst hj; simp [Addr.add, go_sem]
    | 1, hj => simp [tkV] at hj; subst hj; simp [Addr.add, go_sem, strOf_nil]
    | 2, hj => simp [tkV] at hj; subst hj; simp [Addr.add, go_sem]
    | 3, hj => simp [tkV] at hj; subst hj; simp [Addr.add, go_sem]
    | j + 4, hj => simp [tkV] at hj
   try case ff2 => intro u hu; simp [tkV] at hu; rcases hu with rfl | rfl | rfl | rfl <;> rfl
   try case ff3 => have := HAC.out; unfold maxLen; omega
   try case ff4 => have := HAC.out; omega
   try case ff5 => simp only [World.size_alloc]; omega
   intro v' w2 hown hgr _
   obtain ⟨av', cv', e⟩ := own_form hown
   subst e
   have hb2 : Bw w w2 := by
    refine bw_grown (e := 70) (size := 4) (n := acc.length) (xs := acc.flatMap tkV) ?_ (Nat.le_refl _) ?_ hgr
    ·exact HW.out.trans (Bw.alloc (Bw.refl _) _)
    ·exact HT.out.bw (Bw.alloc (Bw.refl _) _)
   have HB2 := hid hb2
   rw [tk_snoc] at hown
   have HO1 := hid hown
   clear hgr hown hb2
   go_wp2
   all_goals go_ret3
   all_goals exact ⟨.slice av' (acc.length + 1) cv', by rw [HFN.out]; rfl, by rw [HFN.out]; simpa [Tk] using HO1.out, HB2.out⟩

end Go.Proofs.YtdhkcdehedbpcaaDoor

namespace Go.Proofs.YtdhkcdehedbpcaaDoor
open Go Go.RowKit

theorem prog_inv {T : List ATok} {f : Nat} {l : List ANode} {k : Int} {s : DS} {x : List ANode × Int × DS} (h : dProgL T f l k s = some x) : ∃ g, f = g + 1 ∧
  ((s.e = 0 ∧ (dtk T s.i).1 ≠ 0 ∧ ∃ l1 k1 s1, dR T g .stmt 0 s = some (l1, k1, s1) ∧ dProgL T g (l ++ l1) (k + 1) s1 = some x) ∨ (¬ (s.e = 0 ∧ (dtk T s.i).1 ≠ 0) ∧ x = (l, k, s))) := by
 cases f with
 | zero => cases h
 | succ g =>
  unfold dProgL at h
  refine ⟨g, rfl, ?_⟩
  rcases ite_some h with ⟨hi, h⟩ | ⟨hn, h⟩
  ·obtain ⟨⟨l1, k1, s1⟩, h4, h5⟩ := bnd h
   exact .inl ⟨hi.1, hi.2, l1, k1, s1, h4, h5⟩
  ·exact .inr ⟨hn, (Option.some.inj h).symm⟩

theorem prog_le {T : List ATok} : ∀ (f : Nat) {l L : List ANode} {k K : Int} {s S : DS}, dProgL T f l k s = some (L, K, S) → l.length ≤ L.length ∧ k ≤ K
 | 0, _, _, _, _, _, _, h => by cases h
 | f + 1, l, L, k, K, s, S, h => by
  obtain ⟨g, hg, hc⟩ := prog_inv h
  obtain rfl : f = g := by omega
  rcases hc with ⟨_, _, l1, k1, s1, _, h2⟩ | ⟨_, h2⟩
  ·have := prog_le f h2
   rw [List.length_append] at this
   omega
  ·simp only [Prod.mk.injEq] at h2
   obtain ⟨rfl, rfl, _⟩ := h2
   exact ⟨Nat.le_refl _, Int.le_refl _⟩

theorem tkm_of {w : World} {base : Nat} {v : Value} {T : List ATok} (h : Tk w base v T) (h0 : 0 < T.length) (hm : T.length ≤ 100000) : TkM w w.heap.size v T := by
 rcases h.2 with ⟨_, h1⟩ | ⟨g, cap, cur, rfl, hb, hg, hnc, hmx, hsz, htake⟩
 ·omega
 ·refine ⟨g, cap, cur, rfl, ?_, hg, hm, fun i j hi hj => ?_⟩
  ·have := (Array.getElem?_eq_some_iff.1 hg).1
   omega
  ·have hd : dtk T i = T[i] := by unfold dtk; rw [List.getD_eq_getElem?_getD, List.getElem?_eq_getElem hi]; rfl
   rw [hd, ← flat_get T i hi j hj, ← htake, List.getElem?_take, if_pos (by omega)]
   simp

theorem rdm_new {w : World} {v : Value} {T : List ATok} (h : TkM w w.heap.size v T) (h0 : 0 < T.length) (hE : EndT8 T) : RdM (w.alloc (.cells #[v, .int .i64 0, .int .i64 0, .int .i64 0, .int .i64 0] 68)) w.heap.size T 0 ⟨0, 0, 0⟩ :=
 ⟨⟨v, 0, Blk.new w _ _, h.kp (Kp.of_bw (Bw.alloc (Bw.refl _) _)), fun _ => rfl⟩, h0, fun _ => by omega, hE⟩

section
variable {w : World}

set_option maxRecDepth 100000 in
set_option maxHeartbeats 8000000 in
theorem rParse_any {v : Value} {b : List Int} {f : Nat} {L : List ANode} {K : Int} {S : DS} (hb : By w v b) (hm : b.length ≤ 4000) (hx : (lexA b).2.1 = 0) (h0 : 0 < (lexA b).1.length) (hT : (lexA b).1.length ≤ 100000) (hE : EndT8 (lexA b).1)
  (hp : dProgL (lexA b).1 f [] 0 ⟨0, 0, 0⟩ = some (L, K, S)) (hl : L.length ≤ 1000000) (hk : K ≤ 1000000) (hs : S.e = 0) :
  Calls Tryd.prog 9 #[v] w fun e w' => ∃ a c, e = .returned (.tuple #[.slice a (L.length + 1) c, .int .i64 0, .int .i64 b.length]) ∧ Nd w' w.heap.size (.slice a (L.length + 1) c) (dJoin (1, 0, [], 0, 0) K L) ∧ Bw w w' := by
 have HLX := hid (rLex_any v b w hb hm)
 rw [hx] at HLX
 obtain ⟨av, cv, rfl⟩ := hb.form
 generalize ((lexA b).2.2 : Nat) = at0 at HLX
 generalize (lexA b).1 = T at h0 hT hE hp HLX
 have H0 := hid h0
 have HT := hid hT
 have HE := hid hE
 have HP := hid hp
 have HS := hid hs
 have HL := hid hl
 have HK := hid hk
 have hbl : b.length ≤ 4000 := hm
 obtain ⟨i1, hi1, hz1, hs1, hy1⟩ := info_parts infoN8
 have I1 := hid (And.intro hi1 (And.intro hz1 (And.intro hs1 hy1)))
 clear hx h0 hT hE hp hs hl hk hi1 hz1 hs1 hy1 hb
 go_enter Tryd.func9, Tryd.ntmps9
 go_wp2_with (first
  | (go_at_call 20; refine HLX.out.mono ?_; rintro e w1 ⟨vt, rfl, ht1, hb1⟩; obtain ⟨at1, ct1, rfl⟩ := ht1.form; have B1 := hid hb1; have R1 := hid (rdm_new (tkm_of ht1 H0.out HT.out) H0.out HE.out); clear ht1 hb1)
  | fail)
 go_loopw [9, 10] (fun v4 v5 wr => ∃ (f' : Nat) (l0 : List ANode) (k0 : Int) (s0 : DS), dProgL T f' l0 k0 s0 = some (L, K, S) ∧ (∃ a c, v4 = .slice a l0.length c) ∧ Nd wr (w1.heap.size + 1) v4 l0 ∧ 0 ≤ k0 ∧ v5 = .int .i64 k0 ∧ RdM wr w1.heap.size T 0 s0 ∧ Kp w1.heap.size w1 wr ∧ w1.heap.size + 1 ≤ wr.heap.size) (fun _ _ wr => rdL T.length wr w1.heap.size)
 case atStart => exact ⟨f, [], 0, ⟨0, 0, 0⟩, HP.out, ⟨none, 0, rfl⟩, Nd.nil _ _, Int.le_refl _, rfl, R1.out.bw bq, Kp.of_bw bq, by simp⟩
 case round =>
  obtain ⟨f', l0, k0, s0, hd, ⟨a4, c4, rfl⟩, hn, hk0, rfl, hrd, hkp, hsz⟩ := hrel
  have R3 := hid hrd
  have N3 := hid hn
  have K3 := hid hkp
  have Z3 := hid hsz
  have HLE := hid (prog_le f' hd)
  have hk1 : k0 ≤ 1000000 := by have := HLE.out.2; have := HK.out; omega
  have hl0 : l0.length ≤ 1000000 := by have := HLE.out.1; have := HL.out; omega
  obtain ⟨g, c, q, x⟩ := hrd.x
  have z0 : wr.cell? ⟨w1.heap.size, 0, none⟩ = some (.slice (some ⟨g, 0, none⟩) T.length c) := x.b.cell 0
  have z1 : wr.cell? ⟨w1.heap.size, 1, none⟩ = some (.int .i64 s0.i) := x.b.cell 1
  have z3 : wr.cell? ⟨w1.heap.size, 3, none⟩ = some (.int .i64 s0.e) := x.b.cell 3
  have z4 : wr.cell? ⟨w1.heap.size, 4, none⟩ = some (.int .i64 s0.p) := x.b.cell 4
  have zl : w1.heap.size < wr.heap.size := x.b.lt
  have gl := x.gl
  have c0 := x.c0 s0.i hrd.i
  have l1 := x.l
  have hi1 : (0 : Int) ≤ (s0.i : Int) := by omega
  have hi2 : (s0.i : Int) < (T.length : Int) := by have := hrd.i; omega
  obtain ⟨f2, rfl, hcase⟩ := prog_inv hd
  clear x hn hkp hrd hd
  rcases hcase with ⟨he, hi, l2, k2, s2, hst, hnx⟩ | ⟨hno, hxx⟩
  ·have e1 : (s0.e == 0) = true := by simpa using he
   have e2 : ((dtk T s0.i).1 != 0) = true := by simpa using hi
   have HST := hid (fun w1' (hw : RdM w1' w1.heap.size T 0 s0) => (con_any T w1.heap.size f2).stmt hst hw)
   unfold DG at HST
   have HNX := hid hnx
   have HFL := hid (fun (e : s2.e = 0) => (((dR_goes _ _ _ _ _ _ _ hst).fs rfl).2 e).2)
   have HE0 := hid he
   have L2 := hid (dR_len hst)
   generalize hdt : (dtk T s0.i).1 = d0 at c0 e2
   clear hst hnx hi he hdt
   have HLL := hid (show l0.length + l2.length ≤ 1000000 by have h := (prog_le f2 HNX.out).1; rw [List.length_append] at h; have := HL.out; omega)
   go_upto_region 8 with go_quiet (fail)
   go_wp2_with (first
    | (go_at_call 21; refine (HST.out _ (R3.out.bw bq)).mono ?_; rintro e w6 ⟨a6, c6, rfl, hn6, hr6, hk6, hl6⟩; have N6 := hid hn6; have R6 := hid hr6; have K6 := hid (show Kp w1.heap.size wr w6 from Kp.trans (Kp.of_bw bq) hk6); clear hn6 hr6 hk6 hl6)
    | (at_builtin; refine wpList_append_sl (G := fun _ => True) _ rfl _ _ 24 rfl (w1.heap.size + 1) 43 i1 (.agg #[.int .i64 0, .int .i64 0, .string ⟨#[]⟩, .int .i64 0, .int .i64 0]) 5 48 undN8 I1.out.1 I1.out.2.1 I1.out.2.2.1 I1.out.2.2.2 rfl (by decide) (.slice a4 l0.length c4) l0.length (l0.flatMap ndV) rfl (N3.out.kp K6.out (Nat.lt_succ_self _)) (.slice a6 l2.length c6) l2.length (l2.flatMap ndV) rfl N6.out.sl (nd_one _) (by have := HLL.out; unfold maxLen; omega) (by have := HLL.out; omega) (Nat.le_trans Z3.out K6.out.size) ?_; intro v7 w7 ho7 hg7; obtain ⟨a7, c7, rfl⟩ := own_form ho7; have ho7' : Nd w7 (w1.heap.size + 1) (.slice a7 (l0.length + l2.length) c7) (l0 ++ l2) := (by unfold Nd; rw [List.length_append, List.flatMap_append]; exact ho7); have N7 := hid ho7'; have R7 := hid (R6.out.grown (N3.out.kp K6.out (Nat.lt_succ_self _)) hg7); have K7 := hid ((K3.out.trans K6.out).own (N3.out.kp K6.out (Nat.lt_succ_self _)) hg7 (Nat.le_succ _)); have Z7 := hid (Nat.le_trans (Nat.le_trans Z3.out K6.out.size) hg7.size); clear ho7 hg7 ho7')
    | fail)
   case roundEnd =>
    exact ⟨⟨f2, l0 ++ l2, k0 + 1, s2, HNX.out, ⟨_, _, by rw [List.length_append]⟩, N7.out, by omega, rfl, R7.out, K7.out, Z7.out⟩, left_lt R3.out R7.out HE0.out HFL.out⟩
  ·obtain ⟨rfl, rfl, rfl⟩ : l0 = L ∧ k0 = K ∧ s0 = S := by simp only [Prod.mk.injEq] at hxx; exact ⟨hxx.1.symm, hxx.2.1.symm, hxx.2.2.symm⟩
   have e1 : (s0.e == 0) = true := by have := HS.out; simpa using this
   have e1' : (s0.e != 0) = false := by have := HS.out; simpa using this
   have hi : (dtk T s0.i).1 = 0 := by
    by_cases h : (dtk T s0.i).1 = 0
    ·exact h
    ·exact absurd ⟨HS.out, h⟩ hno
   generalize hdt : (dtk T s0.i).1 = d0 at c0 hi
   have e2 : (d0 != 0) = false := by simpa using hi
   clear hno hxx hi hdt
   go_upto_region 10 with go_quiet (fail)
   go_wp2_with (first
    | (go_at_call 22; refine (djoin_any (1, 0, [], 0, 0) k0 _ l0 (N3.out.bw bq).sl (by omega)).mono ?_; rintro e w8 ⟨a8, c8, rfl, hn8, hb8⟩; have N8 := hid hn8; have B8 := hid hb8; clear hn8 hb8)
    | fail)
   all_goals go_ret3
   all_goals exact ⟨_, _, rfl, N8.out.low (Nat.le_trans (B1.out.trans (K3.out.toBw (Nat.le_refl _))).size (show Bw wr _ from bq).size), (B1.out.trans (K3.out.toBw (Nat.le_refl _))).trans (Bw.trans bq B8.out)⟩

end

end Go.Proofs.YtdhkcdehedbpcaaDoor

