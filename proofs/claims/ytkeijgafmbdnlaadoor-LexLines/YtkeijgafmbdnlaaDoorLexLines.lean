/- For any two lists of bytes, the statement LexLines of layer 5 answers true: a text whose first part ends with a line break, and is cut without a fault, is cut by the program into its tokens, and those of the rest; no condition beyond the program's own table of signs, which the card ties to its text. -/
import Derived.Test.YtkeijgafmbdnlaaDoorRD
import Derived.Test.YtkeijgafmbdnlaaDoorFr
set_option linter.unusedVariables false
set_option linter.unusedSimpArgs false
namespace Go.Proofs.YtkeijgafmbdnlaaDoor.lexLines
open Go.ChangeShapes Go.WideShapes Go.ChangeAt Go.RowKit

theorem lines_pure (a b : List Int) (ha : a.length ≤ 3000) (hb : b.length ≤ 3000) (h : (lexA (a ++ [10])).2.1 = 0) :
    ∃ toks, (lexA (a ++ [10])).1 = toks ++ [(0, [], 0, ((lexA (a ++ [10])).2.2 : Int))] ∧ toks.length ≤ 3001 ∧ lexA (a ++ [10] ++ b) = shR (a.length + 1) toks (lexA b) := by
  have e1 : lexA (a ++ [10]) = lexF ((a ++ [10]).length + 1) (a ++ [10]) 0 [] := if_neg (by simp; omega)
  have e2 : lexA b = lexF (b.length + 1) b 0 [] := if_neg (by omega)
  have e3 : lexA (a ++ [10] ++ b) = lexF ((a ++ 10 :: b).length + 1) (a ++ 10 :: b) 0 [] := by
    rw [List.append_assoc]; exact if_neg (by simp; omega)
  rw [e1] at h ⊢
  rw [e2, e3]
  obtain ⟨_, r2, _⟩ := lex_res ((a ++ [10]).length + 1) (a ++ [10]) 0 [] (by omega)
  obtain ⟨toks', q1, q2, _⟩ := r2 h
  obtain ⟨toks, p1, p2, p3⟩ := lex_line b ((a ++ [10]).length + 1) ((a ++ 10 :: b).length + 1) a 0 [] (lexF ((a ++ [10]).length + 1) (a ++ [10]) 0 []).1 (lexF ((a ++ [10]).length + 1) (a ++ [10]) 0 []).2.2 (by omega) (by omega) (by rw [← h])
  have et : toks = toks' := by
    have := p1.symm.trans q1
    exact List.append_inj_left' this rfl
  subst et
  refine ⟨toks, p1, by simp at q2; omega, ?_⟩
  rw [p3]
  have := lex_shift (a.length + 1) toks (b.length + 1) b 0 [] (by simp at q2 ⊢; omega) (by omega)
  simpa using this

theorem tk_none {w : World} {base : Nat} {v : Value} {l : List ATok} (h : Tk w base v l) (hl : l = []) : ∃ a cap, v = .slice a 0 cap := by
  obtain ⟨a, cap, e⟩ := h.form
  subst hl
  exact ⟨a, cap, e⟩

theorem lex_at : ∀ (f : Nat) (b : List Int) (at_ : Nat) (acc : List ATok), b.length < f → (∀ t ∈ acc, 0 ≤ t.2.2.2 ∧ t.2.2.2 ≤ ((at_ + b.length : Nat) : Int)) → ∀ t ∈ (lexF f b at_ acc).1, 0 ≤ t.2.2.2 ∧ t.2.2.2 ≤ ((at_ + b.length : Nat) : Int)
  | 0, _, _, _, h, _ => by omega
  | f + 1, [], at_, acc, _, ha => by
    rw [lexF_nil]
    intro t ht
    rcases List.mem_append.1 ht with h | h
    · exact ha t h
    · simp at h; subst h; simp
  | f + 1, c :: t, at_, acc, h, ha => by
    have ih := fun b at_ acc h => lex_at f b at_ acc h
    simp only [List.length_cons] at h ha ⊢
    by_cases hb : isBl c = true
    · rw [lexF_blank hb]
      intro x hx
      have := ih t (at_ + 1) acc (by omega) (fun y hy => by have := ha y hy; omega) x hx
      omega
    · have hb' : isBl c = false := by simpa using hb
      by_cases hr : c = 35
      · subst hr
        rw [lexF_rem]
        have htw := twl_le (· != 10) t
        intro x hx
        have := ih (t.drop (twl (· != 10) t)) (at_ + 1 + twl (· != 10) t) acc (by simp; omega) (fun y hy => by have := ha y hy; rw [List.length_drop]; omega) x hx
        rw [List.length_drop] at this
        omega
      · cases hg : begn c
        · rw [lexF_form hb' hr hg]; intro x hx; simp at hx
        · by_cases hac : acc.length = 16384
          · rw [lexF_full hb' hr hg _ _ _ _ hac]; intro x hx; simp at hx
          · cases hc : cut (c :: t) with
            | bad e off => rw [lexF_bad hb' hr hg _ _ _ _ hac hc]; intro x hx; simp at hx
            | tok k x n len =>
              have hlen := cut_len hc
              simp only [List.length_cons] at hlen
              rw [lexF_tok hb' hr hg _ _ _ _ hac hc]
              intro y hy
              have := ih ((c :: t).drop len) (at_ + len) (acc ++ [(k, x, n, (at_ : Int))]) (by simp; omega) (fun z hz => by
                rw [List.length_drop, List.length_cons]
                rcases List.mem_append.1 hz with h | h
                · have := ha z h; omega
                · simp at h; subst h; simp only; omega) y hy
              rw [List.length_drop, List.length_cons] at this
              omega

theorem tr_cut {w : World} {base : Nat} {v : Value} {toks : List ATok} {t : ATok} (h : Tk w base v (toks ++ [t])) :
    ∃ g cap, v = .slice (some ⟨g, 0, none⟩) (toks.length + 1) cap ∧ toks.length + 1 ≤ cap ∧ g < w.heap.size ∧ Sl w (fun _ => True) (.slice (some ⟨g, 0, none⟩) toks.length cap) toks.length 4 (toks.flatMap tkV) := by
  rcases h.2 with ⟨_, h0⟩ | ⟨g, cap, cur, rfl, hb, hg, hnc, hmx, hsz, htake⟩
  · simp at h0
  · have hlen : (toks.flatMap tkV).length = toks.length * 4 := by
      clear h htake hnc hg hsz
      induction toks with
      | nil => rfl
      | cons x u ih => rw [List.flatMap_cons, List.length_append, ih, List.length_cons]; simp [tkV]; omega
    refine ⟨g, cap, by simp, by simpa using hnc, (Array.getElem?_eq_some_iff.1 hg).1, hlen, _, cap, rfl, ⟨by simp at hnc; omega, fun h => by cases h⟩, .inr ⟨g, 0, rfl, (Array.getElem?_eq_some_iff.1 hg).1, trivial, fun i hi => ?_⟩⟩
    rw [Nat.zero_add, cell_of_row w g i cur _ (0, 0) hg]
    have e1 : cur[i]? = cur.toList[i]? := by simp
    have e2 : cur.toList[i]? = ((toks ++ [t]).flatMap tkV)[i]? := by
      rw [← htake, List.getElem?_take, if_pos (by simp; omega)]
    rw [e1, e2, List.flatMap_append, List.getElem?_append_left (by omega)]

theorem map_take_succ (s : Nat) (l : List ATok) (k : Nat) (h : k < l.length) : (l.take (k + 1)).map (shT s) = (l.take k).map (shT s) ++ [shT s l[k]] := by
  rw [List.take_succ_eq_append_getElem h, List.map_append]; rfl

set_option maxRecDepth 100000 in
set_option maxHeartbeats 32000000 in
theorem core (v0 v1 : Value) (l0 l1 A : List Int) (R1 R2 R3 : List ATok × Int × Nat) (w : World) (hs : Sg w) (w0 : By w v0 l0) (w1 : By w v1 l1) (h0 : l0.length ≤ 3000) (h1 : l1.length ≤ 3000)
    (hA : A = l0 ++ [10]) (hR1 : R1 = lexA A) (hR2 : R2 = lexA l1) (hR3 : R3 = lexA (A ++ l1)) :
    Calls Tryd.prog 6 #[v0, v1] w fun e w' => e = .returned (.bool true) ∧ Bw w w' := by
  have HS := hid hs
  have W0 := hid w0
  have W1 := hid w1
  obtain ⟨a0, c0, rfl⟩ := w0.form
  obtain ⟨a1, c1, rfl⟩ := w1.form
  obtain ⟨i1, hi1, hz1, hs1, hy1⟩ := info_parts infoU8
  have I1 := hid (And.intro hi1 (And.intro hz1 (And.intro hs1 hy1)))
  obtain ⟨i2, hi2, hz2, hs2, hy2⟩ := info_parts infoT
  have I2 := hid (And.intro hi2 (And.intro hz2 (And.intro hs2 hy2)))
  have d0 : decide ((3000 : Int) < (l0.length : Int)) = false := decide_eq_false (by omega)
  have d1 : decide ((3000 : Int) < (l1.length : Int)) = false := decide_eq_false (by omega)
  have hm0 : l0.length ≤ 1000000 := by omega
  have hm1 : l1.length ≤ 1000000 := by omega
  have HN := hid (And.intro h0 h1)
  have HLP := lines_pure l0 l1 h0 h1
  have hrs1 := lex_res ((l0 ++ [10]).length + 1) (l0 ++ [10]) 0 [] (by omega)
  have hrs2 := lex_res (l1.length + 1) l1 0 [] (by omega)
  have e1 : lexA (l0 ++ [10]) = lexF ((l0 ++ [10]).length + 1) (l0 ++ [10]) 0 [] := if_neg (by simp; omega)
  have e2 : lexA l1 = lexF (l1.length + 1) l1 0 [] := if_neg (by omega)
  rw [← e1] at hrs1
  rw [← e2] at hrs2
  rw [← hA, ← hR1, ← hR2, ← hR3] at HLP
  rw [← hA, ← hR1] at hrs1
  rw [← hR2] at hrs2
  have hAl : A.length = l0.length + 1 := by rw [hA]; simp
  have hAm : l0.map (Value.int .u8) ++ [.int .u8 10] = A.map (Value.int .u8) := by rw [hA]; simp
  have hbA : ∀ c ∈ A, 0 ≤ c ∧ c ≤ 255 := by
    intro c hc
    rw [hA] at hc
    rcases List.mem_append.1 hc with h | h
    · exact W0.out.2.1 c h
    · simp at h; omega
  have hbC : ∀ c ∈ A ++ l1, 0 ≤ c ∧ c ≤ 255 := by
    intro c hc
    rcases List.mem_append.1 hc with h | h
    · exact hbA c h
    · exact W1.out.2.1 c h
  have HBA := hid hbA
  have HBC := hid hbC
  have HAL := hid hAl
  have HAM := hid hAm
  have HLPH := hid HLP
  have HR1 := hid hR1
  have HR2 := hid hR2
  have HR3 := hid hR3
  have hat := lex_at (l1.length + 1) l1 0 [] (by omega) (fun t ht => by simp at ht)
  rw [← e2, ← hR2] at hat
  have HAT := hid hat
  have HRS1 := hid hrs1
  have HRS2 := hid hrs2
  clear hs w0 w1 hi1 hz1 hs1 hy1 hi2 hz2 hs2 hy2 h0 h1 hbA hbC hA hR1 hR2 hR3 HLP hrs1 hrs2 e1 e2 hAl hAm hat
  go_enter Tryd.func6, Tryd.ntmps6
  go_wp2_with (first
    | (at_builtin; refine wpList_append_sl (G := fun _ => True) _ rfl _ _ 22 rfl w.heap.size 5 i1 (.int .u8 0) 1 1 under22 I1.out.1 I1.out.2.1 I1.out.2.2.1 I1.out.2.2.2 rfl (by decide) (.slice (some ⟨w.heap.size, 0, none⟩) 0 0) 0 [] rfl ?c0 (.slice a0 l0.length c0) l0.length (l0.map (Value.int .u8)) rfl ?c1 ?c2 ?c3 ?c4 ?c5 ?_)
    | go_in)
  case c0 => exact own_empty w 5 1 _ _ rfl (Nat.le_refl _)
  case c1 => exact (W0.out.bw (Bw.alloc (Bw.refl _) _)).1
  case c2 => exact ints_one _ _
  case c3 => unfold maxLen; omega
  case c4 => omega
  case c5 => simp
  intro va wa hown hgr
  have HWA := hid (bw_grown (Bw.alloc (Bw.refl w) _) (Nat.le_refl _) (own_empty w 5 1 _ _ rfl (Nat.le_refl _)) hgr)
  try rw [Nat.zero_add] at hown
  try rw [List.nil_append] at hown
  obtain ⟨aa, ca, e⟩ := own_form hown
  subst e
  have HOA := hid hown
  have hsza : w.heap.size ≤ wa.heap.size := HWA.out.size
  clear hown hgr
  go_wp2_with (first
    | (at_builtin; refine wpList_append_own _ rfl _ _ 22 rfl w.heap.size 5 i1 (.int .u8 0) 1 1 under22 I1.out.1 I1.out.2.1 I1.out.2.2.1 I1.out.2.2.2 rfl (by decide) (.slice aa l0.length ca) l0.length (l0.map (Value.int .u8)) rfl (HOA.out.alloc _) ⟨wa.heap.size, 0, none⟩ 1 1 [.int .u8 10] rfl rfl ?c1 ?c2 ?c3 ?c4 ?c5 ?_)
    | go_in)
  case c1 =>
    intro j u hj
    match j, hj with
    | 0, hj => simp at hj; subst hj; simp [Addr.add, go_sem]
  case c2 => intro u hu; simp at hu; subst hu; rfl
  case c3 => unfold maxLen; omega
  case c4 => omega
  case c5 => simp only [World.size_alloc]; omega
  intro vb wb hown hgr _
  have HWB := hid (bw_grown (Bw.alloc HWA.out _) (Nat.le_refl _) (HOA.out.alloc _) hgr)
  rw [HAM.out, ← HAL.out] at hown
  obtain ⟨ab, cb, e⟩ := own_form hown
  subst e
  have HYA := hid (show By wb (.slice ab A.length cb) A from ⟨own_sl hown (fun _ _ => trivial), HBA.out, by have := HAL.out; have := HN.out; omega⟩)
  have hszb : w.heap.size ≤ wb.heap.size := HWB.out.size
  clear hown hgr HOA
  go_upto_region 6 with (first
    | (go_at_call_of 10 (Value.slice ab A.length cb); refine (xLex_any _ A _ HYA.out (HS.out.bw HWB.out) (by have := HAL.out; have := HN.out; omega)).mono ?_; rw [← HR1.out]; rintro e w3 ⟨r1, rfl, ht1, hb1⟩; have HT1 := hid ht1; have HB1 := hid hb1; have HB1w := hid (HWB.out.trans hb1); obtain ⟨ar1, cr1, er1⟩ := ht1.form; subst er1; clear ht1 hb1)
    | (go_at_call_of 10 (Value.slice a1 l1.length c1); refine (xLex_any _ l1 _ (W1.out.bw HB1w.out) (HS.out.bw HB1w.out) (by omega)).mono ?_; rw [← HR2.out]; rintro e w4 ⟨r2, rfl, ht2, hb2⟩; have HT2 := hid ht2; have HB2 := hid hb2; have HB2w := hid (HB1w.out.trans hb2); obtain ⟨ar2, cr2, er2⟩ := ht2.form; subst er2; clear ht2 hb2))
  have hsz4 : w.heap.size ≤ w4.heap.size := HB2w.out.size
  go_wp2_with (first
    | (at_builtin; refine wpList_append_sl (G := fun _ => True) _ rfl _ _ 22 rfl w4.heap.size 5 i1 (.int .u8 0) 1 1 under22 I1.out.1 I1.out.2.1 I1.out.2.2.1 I1.out.2.2.2 rfl (by decide) (.slice (some ⟨w4.heap.size, 0, none⟩) 0 0) 0 [] rfl ?c0 (.slice ab A.length cb) A.length (A.map (Value.int .u8)) rfl ?c1 ?c2 ?c3 ?c4 ?c5 ?_)
    | go_in)
  case c0 => exact own_empty w4 5 1 _ _ rfl (Nat.le_refl _)
  case c1 => exact (HYA.out.bw (Bw.alloc (HB1.out.trans HB2.out) _)).1
  case c2 => exact ints_one _ _
  case c3 => have := HAL.out; unfold maxLen; omega
  case c4 => have := HAL.out; omega
  case c5 => simp
  intro vc wc hown hgr
  have HWC := hid (bw_grown (Bw.alloc (Bw.refl w4) _) (Nat.le_refl _) (own_empty w4 5 1 _ _ rfl (Nat.le_refl _)) hgr)
  try rw [Nat.zero_add] at hown
  try rw [List.nil_append] at hown
  obtain ⟨ac, cc, e⟩ := own_form hown
  subst e
  have HOC := hid hown
  clear hown hgr
  go_wp2_with (first
    | (at_builtin; refine wpList_append_sl (G := fun _ => True) _ rfl _ _ 22 rfl w4.heap.size 5 i1 (.int .u8 0) 1 1 under22 I1.out.1 I1.out.2.1 I1.out.2.2.1 I1.out.2.2.2 rfl (by decide) (.slice ac A.length cc) A.length (A.map (Value.int .u8)) rfl ?c0 (.slice a1 l1.length c1) l1.length (l1.map (Value.int .u8)) rfl ?c1 ?c2 ?c3 ?c4 ?c5 ?_)
    | go_in)
  case c0 => exact HOC.out
  case c1 => exact (W1.out.bw (HB2w.out.trans HWC.out)).1
  case c2 => exact ints_one _ _
  case c3 => have := HAL.out; unfold maxLen; omega
  case c4 => have := HAL.out; omega
  case c5 => exact HWC.out.size
  intro vd wd hown hgr
  have HWD := hid (bw_grown HWC.out (Nat.le_refl _) HOC.out hgr)
  have hcl : A.length + l1.length = (A ++ l1).length := by simp
  have hown := (show wd.ownsRow w4.heap.size 5 1 vd (A ++ l1).length ((A ++ l1).map (Value.int .u8)) by simpa using hown)
  obtain ⟨ad, cd, e⟩ := own_form hown
  subst e
  have HYC := hid (show By wd (.slice ad (A ++ l1).length cd) (A ++ l1) from ⟨own_sl hown (fun _ _ => trivial), HBC.out, by have := HAL.out; have := HN.out; rw [← hcl]; omega⟩)
  have HWDw := hid (HB2w.out.trans HWD.out)
  have HCL := hid (show (A ++ l1).length ≤ 1000000 by have := HAL.out; have := HN.out; rw [← hcl]; omega)
  clear hown hgr HOC hcl
  generalize A ++ l1 = C at HYC HR3 HCL
  go_upto_region 7 with (first
    | (go_at_call_of 10 (Value.slice ad C.length cd); refine (xLex_any _ C _ HYC.out (HS.out.bw HWDw.out) HCL.out).mono ?_; rw [← HR3.out]; rintro e w6 ⟨r3, rfl, ht3, hb3⟩; have HT3 := hid ht3; have HB3 := hid (HWD.out.trans hb3); have HB3w := hid (HWDw.out.trans hb3); obtain ⟨ar3, cr3, er3⟩ := ht3.form; subst er3; clear ht3 hb3))
  have HT1' := hid (HT1.out.bw (HB2.out.trans HB3.out))
  have HT2' := hid (HT2.out.bw HB3.out)
  clear HT1 HT2
  by_cases hz : R1.2.1 = 0
  · obtain ⟨toks, p1, p2, p3⟩ := HLPH.out hz
    rw [← HAL.out] at p3
    have t1 : (R1.2.1 != 0) = false := by simp [hz]
    have hl1 : R1.1.length = toks.length + 1 := by rw [p1]; simp
    have t2 : (((toks.length + 1 : Nat) : Int) == 0) = false := by simp; omega
    have P1 := hid p1
    have P3 := hid p3
    have PL := hid p2
    have HL1 := hid hl1
    have HT1t := hid (show Tk w6 wb.heap.size (.slice ar1 R1.1.length cr1) (toks ++ [(0, [], 0, ((R1.2.2 : Nat) : Int))]) by rw [← p1]; exact HT1'.out)
    rw [hl1] at HT1t ⊢
    clear p1 p3 p2 hl1 hz HT1' HRS1 HLPH
    by_cases hz2 : R2.2.1 = 0
    · have t3 : (R2.2.1 != 0) = false := by simp [hz2]
      have e3 : R3 = (toks ++ R2.1.map (shT A.length), 0, R2.2.2 + A.length) := by rw [P3.out]; unfold shR; rw [if_pos hz2]
      obtain ⟨tk2, q1, q2, _⟩ := HRS2.out.2.1 hz2
      have hr2l : R2.1.length ≤ 3001 := by rw [q1]; have := HN.out; simp at q2 ⊢; omega
      have hAl : A.length ≤ 100000 := by have := HAL.out; have := HN.out; omega
      clear P3 hz2 q1 q2
      have HTC := tr_cut HT1t.out
      obtain ⟨g1, cp1, e4, hcp1, hg1, hsl1⟩ := HTC
      cases e4
      have HSL1 := hid hsl1
      have hpl : toks.length ≤ 3001 := PL.out
      clear hsl1 hg1
      subst e3
      go_wp2_with (first
        | (go_at_call 13; refine (num_any _ _).mono ?_; rintro e w' ⟨rfl, hw'⟩; subst w')
        | (at_builtin; refine wpList_append_sl (G := fun _ => True) _ rfl _ _ 24 rfl w6.heap.size 36 i2 _ 4 40 underT I2.out.1 I2.out.2.1 I2.out.2.2.1 I2.out.2.2.2 rfl (by decide) (.slice none 0 0) 0 [] rfl ?c0 (.slice (some ⟨g1, 0, none⟩) toks.length cr1) toks.length (toks.flatMap tkV) rfl ?c1 ?c2 ?c3 ?c4 ?c5 ?_)
        | go_in)
      case c0 => exact World.ownsRow_nil _ _ _ _
      case c1 => exact HSL1.out
      case c2 => exact tk_one _
      case c3 => unfold maxLen; omega
      case c4 => omega
      case c5 => exact Nat.le_refl _
      intro ve we hown hgr
      have HWE := hid (bw_grown (Bw.refl w6) (Nat.le_refl _) (World.ownsRow_nil w6 w6.heap.size 36 4) hgr)
      have hown := (show Tk we w6.heap.size ve toks by simpa [Tk] using hown)
      obtain ⟨ae, ce, e⟩ := hown.form
      subst e
      have HTE := hid hown
      clear hown hgr
      go_wp2
      go_loopw [15, 16] (fun al j wr => ∃ k, k ≤ R2.1.length ∧ j = .int .i64 (k : Nat) ∧ Tk wr w6.heap.size al (toks ++ (R2.1.take k).map (shT A.length)) ∧ Bw w6 wr) (fun _ j _ => R2.1.length - (intOf j).toNat)
      case atStart => exact ⟨0, Nat.zero_le _, rfl, by simpa using HTE.out, HWE.out⟩
      case round =>
        obtain ⟨k, hk, rfl, htk, hbw⟩ := hrel
        have HTK := hid htk
        have HBW := hid hbw
        have hszr : w6.heap.size ≤ wr.heap.size := hbw.size
        obtain ⟨ax, cx, e⟩ := htk.form
        have hLk : (toks ++ (R2.1.take k).map (shT A.length)).length ≤ 100000 := by
          simp
          have := List.length_take_le k R2.1
          omega
        clear htk hbw
        by_cases hlt : k < R2.1.length
        · have hsn := map_take_succ A.length R2.1 k hlt
          have hatk := HAT.out _ (List.getElem_mem hlt)
          obtain ⟨g2, o2, e2, hg2, x0, x1, x2, x3⟩ := (HT2'.out.tr.bw HBW.out).parts hlt
          cases e2
          have hlt2 : (k : Int) < (R2.1.length : Int) := by omega
          have hL1 : toks ++ (R2.1.take (k + 1)).map (shT A.length) = (toks ++ (R2.1.take k).map (shT A.length)) ++ [shT A.length R2.1[k]] := by rw [hsn, List.append_assoc]
          have HL1k := hid hL1
          clear hsn hL1
          generalize toks ++ (R2.1.take k).map (shT A.length) = L at *
          generalize R2.1[k] = tk at *
          obtain ⟨t1, t2, t3', t4⟩ := tk
          simp only at x0 x1 x2 x3 hatk
          subst e
          have hat2 : 0 ≤ t4 ∧ t4 ≤ 100000 := by have := HN.out; omega
          have HSH : shT A.length (t1, t2, t3', t4) = (t1, t2, t3', t4 + A.length) := rfl
          rw [HSH] at HL1k
          clear hatk HSH
          generalize hstr : strOfNums t2 = str at x1
          have HSTR := hid hstr
          clear hstr
          go_wp2_with (first
            | (at_builtin; refine wpList_append_own _ rfl _ _ 24 rfl w6.heap.size 36 i2 _ 4 40 underT I2.out.1 I2.out.2.1 I2.out.2.2.1 I2.out.2.2.2 rfl (by decide) (.slice ax L.length cx) L.length (L.flatMap tkV) rfl ?c0 _ 1 1 (tkV (t1, t2, t3', t4 + A.length)) rfl rfl ?c1 ?c2 ?c3 ?c4 ?c5 ?_)
            | go_in)
          case c0 => exact HTK.out.bw (Bw.alloc (Bw.alloc (Bw.refl _) _) _)
          case c1 =>
            intro j u hj
            match j, hj with
            | 0, hj => simp [tkV] at hj; subst hj; simp [Addr.add, go_sem]
            | 1, hj => simp [tkV] at hj; subst hj; simp [Addr.add, go_sem, HSTR.out]
            | 2, hj => simp [tkV] at hj; subst hj; simp [Addr.add, go_sem]
            | 3, hj => simp [tkV] at hj; subst hj; simp [Addr.add, go_sem]
            | j + 4, hj => simp [tkV] at hj
          case c2 => intro u hu; simp [tkV] at hu; rcases hu with rfl | rfl | rfl | rfl <;> rfl
          case c3 => unfold maxLen; omega
          case c4 => omega
          case c5 => simp; omega
          intro vf wf hown hgr _
          have hb2 : Bw w6 wf := by
            refine bw_grown (e := 36) (size := 4) (n := L.length) (xs := L.flatMap tkV) ?_ (Nat.le_refl _) ?_ hgr
            · exact HBW.out.trans (Bw.alloc (Bw.alloc (Bw.refl _) _) _)
            · exact HTK.out.bw (Bw.alloc (Bw.alloc (Bw.refl _) _) _)
          have HB2f := hid hb2
          rw [tk_snoc] at hown
          obtain ⟨af, cf, e⟩ := own_form hown
          subst e
          have HO1 := hid (show Tk wf w6.heap.size (.slice af (L.length + 1) cf) (L ++ [(t1, t2, t3', t4 + A.length)]) by simpa [Tk] using hown)
          clear hgr hown hb2
          go_wp2
          go_roundw
          case rel => exact ⟨k + 1, by omega, by go_num, by rw [HL1k.out]; exact HO1.out, HB2f.out⟩
          case measure => simp [intOf]; omega
        · have hkl : R2.1.take k = R2.1 := List.take_of_length_le (by omega)
          rw [hkl] at HTK hLk e
          have hLL : (toks ++ R2.1.map (shT A.length)).length = toks.length + R2.1.length := by simp
          have HT3b := hid (HT3.out.tr.bw HBW.out)
          simp only [hLL] at HT3b
          clear hLL HT3 HR3
          have hLm : (toks ++ R2.1.map (shT A.length)).length ≤ 1000000 := by omega
          clear hkl hLk
          generalize toks ++ R2.1.map (shT A.length) = L at *
          subst e
          go_wp2_with (first
            | (go_at_call 13; refine (num_any _ _).mono ?_; rintro e w' ⟨rfl, hw'⟩; subst w')
            | (go_at_call_of 12 (Value.slice ar3 (toks.length + R2.1.length) cr3); refine (rSame_any _ _ L _ HT3b.out HTK.out.tr hLm).mono ?_; rintro e w' ⟨rfl, ns, rfl⟩)
            | (go_at_call 9; refine (live_any _ (HS.out.bw (Bw.drewN (HB3w.out.trans HBW.out) _))).mono ?_; rintro e wl ⟨rfl, hbl⟩; have BL := hid (Bw.trans (Bw.drewN (HB3w.out.trans HBW.out) _) hbl); clear hbl))
          all_goals go_ret
          all_goals exact ⟨rfl, BL.out⟩
    · have t3 : (R2.2.1 != 0) = true := by simpa using hz2
      have e3 : R3 = ([], R2.2.1, R2.2.2 + A.length) := by rw [P3.out]; unfold shR; rw [if_neg hz2]
      clear P3 hz2
      subst e3
      have hr2 : R2.2.2 ≤ 100000 := by have := HRS2.out.2.2; have := HN.out; omega
      have hAl : A.length ≤ 100000 := by have := HAL.out; have := HN.out; omega
      generalize R2.2.2 = q2 at *
      generalize R2.2.1 = f2 at *
      go_wp2_with (first
        | (go_at_call 13; refine (num_any _ _).mono ?_; rintro e w' ⟨rfl, hw'⟩; subst w')
        | (go_at_call 9; refine (live_any _ (HS.out.bw HB3w.out)).mono ?_; rintro e wl ⟨rfl, hbl⟩; have BL := hid (Bw.trans HB3w.out hbl); clear hbl))
      all_goals go_ret
      all_goals exact ⟨rfl, BL.out⟩
  · have t1 : (R1.2.1 != 0) = true := by simpa using hz
    have hl1 : R1.1.length = 0 := by rw [HRS1.out.1 hz]; rfl
    rw [hl1]
    clear hl1 hz HLPH
    generalize R1.2.1 = f1 at *
    go_wp2_with (first
      | (go_at_call 13; refine (num_any _ _).mono ?_; rintro e w' ⟨rfl, hw'⟩; subst w')
      | (go_at_call 9; refine (live_any _ (HS.out.bw HB3w.out)).mono ?_; rintro e wl ⟨rfl, hbl⟩; have BL := hid (Bw.trans HB3w.out hbl); clear hbl))
    all_goals go_ret
    all_goals exact ⟨rfl, BL.out⟩

set_option maxHeartbeats 4000000 in
theorem coreO (v0 v1 : Value) (l0 l1 : List Int) (w : World) (hs : Sg w) (w0 : By w v0 l0) (w1 : By w v1 l1) (h : 3000 < l0.length ∨ 3000 < l1.length) :
    Calls Tryd.prog 6 #[v0, v1] w fun e w' => e = .returned (.bool true) ∧ Bw w w' := by
  have HS := hid hs
  obtain ⟨a0, c0, rfl⟩ := w0.form
  obtain ⟨a1, c1, rfl⟩ := w1.form
  have m0 := w0.2.2
  have m1 := w1.2.2
  clear hs w0 w1
  by_cases h0 : 3000 < l0.length
  · have d0 : decide ((3000 : Int) < (l0.length : Int)) = true := decide_eq_true (by omega)
    clear h h0
    go_enter Tryd.func6, Tryd.ntmps6
    go_wp2_with (first
      | (go_at_call 9; refine (live_any _ HS.out).mono ?_; rintro e wl ⟨rfl, hbl⟩; have BL := hid hbl; clear hbl))
    all_goals go_ret
    all_goals exact ⟨rfl, BL.out⟩
  · have d0 : decide ((3000 : Int) < (l0.length : Int)) = false := decide_eq_false (by omega)
    have d1 : decide ((3000 : Int) < (l1.length : Int)) = true := decide_eq_true (by omega)
    clear h h0
    go_enter Tryd.func6, Tryd.ntmps6
    go_wp2_with (first
      | (go_at_call 9; refine (live_any _ HS.out).mono ?_; rintro e wl ⟨rfl, hbl⟩; have BL := hid hbl; clear hbl))
    all_goals go_ret
    all_goals exact ⟨rfl, BL.out⟩

theorem walk (w : World) (hs : Sg w) (v0 : Value) (l0 : List Int) (w0 : By w v0 l0) (v1 : Value) (l1 : List Int) (w1 : By w v1 l1) :
    Calls Tryd.prog 6 #[v0, v1] w fun e w' => e = .returned (.bool true) ∧ Bw w w' := by
  by_cases h : 3000 < l0.length ∨ 3000 < l1.length
  · exact coreO v0 v1 l0 l1 w hs w0 w1 h
  · exact core v0 v1 l0 l1 _ _ _ _ w hs w0 w1 (by omega) (by omega) rfl rfl rfl rfl

set_option maxRecDepth 100000 in
theorem lifted (os : Os) (started : os.Started) (H : Type) (enc : TypeId × Value → H) :
    ReturnsInHanded {} Tryd.checked os 6 .any (fun w args => (Rows.lexLinesSpec.pre enc Tryd.prog Tryd.f6 [] false w args ∧ laidMetH Tryd.prog laidS w) ∧ sizedMet enc Tryd.prog Tryd.f6 (OpenSpec.ofChange Rows.lexLinesSpec) false w args)
      (Rows.lexLinesSpec.post enc Tryd.prog Tryd.f6 false true false false) := by
  refine returnsInHanded_of_change_and (C := Tryd.checked) (X := fun w _ => laidMetH Tryd.prog laidS w) (fun _ _ _ hh h => h.of_heap hh) ownK started (by kernel_rfl) Tryd.func6
    (ChangeSpec.witness_shaped (enc := enc) (C := Tryd.checked) (os := os) (X := fun w _ => laidMetH Tryd.prog laidS w) false (World.doorLaid Tryd.prog 400 os) #[.slice none 0 0, .slice none 0 0] 8 rfl (World.shaped_of_RefB (by kernel_rfl) (by kernel_rfl)) (by kernel_rfl) (by kernel_rfl) (by kernel_rfl) (door_met os _)) ?_
  intro W base args ds gs before hval0 hW _ _ hL _
  have hval : ∀ (j : Nat) t v, Tryd.f6.params[j]? = some t → args[j]? = some v → Value.okWide Tryd.prog W .any base t v := hval0
  have hW' := hW
  obtain ⟨p, q, hA0, hV, rfl, hfz, hnd⟩ := hW
  have hA : DataW.TrodAll enc Tryd.prog W 0 (fun _ => true) true Tryd.f6.params.toList args.toList ds p := hA0
  rw [Tryd.params6] at hA hval
  obtain ⟨v0, vs0, d0, ds0, p0, q0, hargs, rfl, rfl, h0, r0⟩ := trodAll_cons hA
  obtain ⟨v1, vs1, d1, ds1, p1, q1, rfl, rfl, rfl, h1, r1⟩ := trodAll_cons r0
  obtain ⟨rfl, rfl, rfl⟩ := trodAll_nil r1
  obtain rfl : args = #[v0, v1] := by cases args; simp_all
  obtain ⟨rfl, rfl⟩ := trodVars_none hV
  have k0 := h0
  have lt0 : ∀ x ∈ p0, x.block < W.heap.size := by obtain ⟨m, hm⟩ := k0; exact DataW.trod_lt m _ _ _ hm
  have k1 := h1
  have lt1 : ∀ x ∈ p1, x.block < W.heap.size := by obtain ⟨m, hm⟩ := k1; exact DataW.trod_lt m _ _ _ hm
  obtain ⟨l0, w0⟩ := open_bytes (hval 0 22 v0 rfl rfl) h0
  obtain ⟨l1, w1⟩ := open_bytes (hval 1 22 v1 rfl rfl) h1
  have hs := sg_of_laid hL
  clear hA0 hval0
  refine (walk W hs v0 l0 w0 v1 l1 w1).mono fun e W' ⟨he, bel⟩ => ?_
  subst he
  exact ⟨_, rfl, _, _, _, [], _, [], hW', trodAll_mk1 (shut_bool Tryd.underlying4 _), (trodAll_cons_mk (Below.trod laidOut (by kernel_rfl) (of_decide_eq_true (by kernel_rfl)) k0 bel lt0) (trodAll_cons_mk (Below.trod laidOut (by kernel_rfl) (of_decide_eq_true (by kernel_rfl)) k1 bel lt1) trodAll_mk0)), rfl, Below.frame bel _, fun h => by cases h⟩

theorem over : Rows.lexLinesRow.holds Tryd.pinned (OpenSpec.ofChange Rows.lexLinesSpec) :=
  OpenClaim.holds_of_wide 6 Tryd.f6 rfl rfl rfl rfl rfl rfl rfl ⟨rfl, rfl, rfl, rfl, rfl⟩ rfl rfl rfl rfl rfl (by kernel_rfl) Tryd.func6 (by kernel_rfl)
    (of_decide_eq_true (by kernel_rfl)) (by unfold Func.isWrapper; first | (rw [if_pos (by decide +kernel)]; kernel_rfl) | (rw [if_neg (by decide +kernel)]; exact ⟨rfl, rfl⟩))
    (fun os started H enc _ => lifted os started H enc)

theorem card : Rows.LexLinesCardSaid :=
  Claim7.holds_tied_plain_at .later [] [.data] true (true, "f567e925df362bb1c81fa80b70b27c1e22dd2cd5e13d10c4e7a29f1846822db2") false
    over (fun _ h => by cases h) (by kernel_rfl) (fun _ h => by cases h) lexLines_row_tie rfl ⟨rfl, rfl⟩ (by kernel_rfl) rfl
    (fun f fn hf hfn => by
      obtain rfl : f = 6 := Option.some.inj ((show Tryd.prog.funcNamed "jacquard/jacquardlaw05.LexLines" = some 6 by kernel_rfl).symm.trans hf) |>.symm
      obtain rfl : fn = Tryd.f6 := (Option.some.inj (Tryd.func6.symm.trans hfn)).symm
      exact ⟨by kernel_rfl, fun j t ht => by
        rw [Tryd.params6] at ht
        have hm : t ∈ [22] := by simpa using Array.mem_of_getElem? ht
        have hall : ([22].all fun u => !Tryd.prog.wantsStandIn u) = true := by kernel_rfl
        exact (show Tryd.prog.wantsStandIn t = false by simpa using List.all_eq_true.1 hall t hm)⟩)
    (by kernel_rfl)
end Go.Proofs.YtkeijgafmbdnlaaDoor.lexLines
namespace Go.Proofs.YtkeijgafmbdnlaaDoor
theorem lexLines_holds : Rows.LexLinesCardSaid := lexLines.card
#print axioms lexLines_holds
end Go.Proofs.YtkeijgafmbdnlaaDoor
