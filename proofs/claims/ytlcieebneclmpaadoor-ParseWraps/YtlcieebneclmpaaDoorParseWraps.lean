/- For every text, the statement ParseWraps of layer 6 answers true: an expression in ( ) makes the same nodes, but for places; no condition beyond the program's own tables, which the card ties to their text. -/
import Derived.Test.YtlcieebneclmpaaDoorPwsk
set_option linter.unusedVariables false
set_option linter.unusedSimpArgs false
namespace Go.Proofs.YtlcieebneclmpaaDoor.parseWraps
open Go.ChangeShapes Go.WideShapes Go.ChangeAt Go.RowKit

theorem parA_len {b : List Int} {l : List ANode} {e a : Int} (h : parA b = (l, e, a)) : l.length ≤ b.length + 2 := by
  unfold parA at h
  rcases hx : lexA b with ⟨T, n, m⟩
  rw [hx] at h
  dsimp only at h
  by_cases hn : n = 0
  · subst hn
    rw [if_neg (by simp)] at h
    obtain ⟨_, hT, _, _⟩ := lexA_end hx
    have hsz := pP_sz T (40 * (T.length + 1)) (.prog []) 0 0
    have hin := pP_in T (40 * (T.length + 1)) (.prog []) 0 0 (Nat.zero_le _)
    cases hp : pP T (40 * (T.length + 1)) (.prog []) 0 0 with
    | ok x c j =>
      rw [hp] at h hsz hin
      have h1 : x.flat = l := by simpa using congrArg (·.1) h
      have e2 : x.flat.length + 0 ≤ j + (0 + 1) := hsz
      have e3 : j ≤ T.length := hin
      rw [h1] at e2
      omega
    | bad e a =>
      rw [hp] at h
      have h1 : [] = l := by simpa using congrArg (·.1) h
      subst h1
      simp
    | out =>
      rw [hp] at h
      have h1 : [] = l := by simpa using congrArg (·.1) h
      subst h1
      simp
  · rw [if_pos hn] at h
    have h1 : [] = l := by simpa using congrArg (·.1) h
    subst h1
    simp

theorem bw_none {w a b : World} (h : Bw w a) (hg : a.grownBy b none) : Bw w b := by
  exact Below.grown h hg h.size (fun k e => by cases e)

theorem nr_two {w : World} {a : Option Addr} {cap : Nat} {l rest : List ANode} {n0 n1 : ANode} (h : NR w (.slice a l.length cap) l) (hll : l = n0 :: n1 :: rest) :
    ∃ g o, a = some ⟨g, o, none⟩ ∧ g < w.heap.size ∧ w.cell? ⟨g, o + 1, none⟩ = some (.int .i64 n0.2.1) ∧ w.cell? ⟨g, o + 5, none⟩ = some (.int .i64 n1.1) := by
  subst hll
  obtain ⟨g, o, rfl, hg, _, y1, _⟩ := h.parts (i := 0) (by simp)
  obtain ⟨g', o', eg, _, x0, _⟩ := h.parts (i := 1) (by simp)
  injection eg with eg
  injection eg with eg1 eg2
  subst eg1 eg2
  exact ⟨g, o, rfl, hg, by simpa using y1, by simpa using x0⟩

theorem wr1_bytes {l : List Int} (h : ∀ c ∈ l, 0 ≤ c ∧ c ≤ 255) : ∀ c ∈ wr1 l, 0 ≤ c ∧ c ≤ 255 := by
  intro c hc
  unfold wr1 at hc
  rcases List.mem_append.1 hc with hc | hc
  · exact h c hc
  · simp at hc; omega

theorem wr2_bytes {l : List Int} (h : ∀ c ∈ l, 0 ≤ c ∧ c ≤ 255) : ∀ c ∈ wr2 l, 0 ≤ c ∧ c ≤ 255 := by
  intro c hc
  unfold wr2 at hc
  rcases List.mem_append.1 hc with hc | hc
  · rcases List.mem_append.1 hc with hc | hc
    · simp at hc; omega
    · exact h c hc
  · simp at hc; omega

theorem wr1_cells (l : List Int) : l.map (Value.int .u8) ++ Lib.strCells ⟨#[10, 59]⟩ = (wr1 l).map (Value.int .u8) := by
  simp [wr1, Lib.strCells]

theorem wr2_cells (l : List Int) : ([.int .u8 40] ++ l.map (Value.int .u8)) ++ Lib.strCells ⟨#[10, 41, 59]⟩ = (wr2 l).map (Value.int .u8) := by
  simp [wr2, Lib.strCells]

set_option maxRecDepth 100000 in
set_option maxHeartbeats 16000000 in
theorem coreS (a0 : Option Addr) (c0 : Nat) (l0 : List Int) (hm : l0.length ≤ 3000) (w : World) (hs : Sg w) (w0 : By w (.slice a0 l0.length c0) l0) :
    Calls Tryd.prog 8 #[.slice a0 l0.length c0] w fun e w' => e = .returned (.bool true) ∧ Bw w w' := by
  have HS := hid hs
  have W0 := hid w0
  obtain ⟨i1, hi1, hz1, hs1, hy1⟩ := info_parts infoU8
  have I1 := hid (And.intro hi1 (And.intro hz1 (And.intro hs1 hy1)))
  have d0 : decide ((3000 : Int) < (l0.length : Int)) = false := decide_eq_false (by omega)
  have hcv := fun (W : World) => Lib.run_convert_bytes_const (P := Tryd.prog) W 34 5 #[.int .u8 40] 1 1 under22 under5
  simp only [List.size_toArray, List.length_cons, List.length_nil] at hcv
  have HCV := hid hcv
  clear hs w0 hi1 hz1 hs1 hy1 hcv
  go_enter Tryd.func8, Tryd.ntmps8
  go_wp2_with (first
    | (at_builtin; refine wpList_append_sl (G := fun _ => True) _ rfl _ _ 34 rfl w.heap.size 5 i1 (.int .u8 0) 1 1 under22 I1.out.1 I1.out.2.1 I1.out.2.2.1 I1.out.2.2.2 rfl (by decide) (.slice (some ⟨w.heap.size, 0, none⟩) 0 0) 0 [] rfl ?c0 (.slice a0 l0.length c0) l0.length (l0.map (Value.int .u8)) rfl ?c1 ?c2 ?c3 ?c4 ?c5 ?_)
    | go_in)
  case c0 => exact own_empty w 5 1 _ _ rfl (Nat.le_refl _)
  case c1 => exact (W0.out.bw (Bw.alloc (Bw.refl _) _)).1
  case c2 => exact ints_one _ _
  case c3 => unfold maxLen; omega
  case c4 => omega
  case c5 => simp
  intro va wa hown hgr
  have HWA := hid (bw_grown (Bw.alloc (Bw.refl w) _) (Nat.le_refl _) (own_empty w 5 1 _ _ rfl (Nat.le_refl _)) hgr)
  try rw [Nat.zero_add] at hown
  try rw [List.nil_append] at hown
  obtain ⟨aa, ca, e⟩ := own_form hown
  subst e
  have HOA := hid hown
  have hsza : w.heap.size ≤ wa.heap.size := HWA.out.size
  clear hown hgr
  go_wp2_with (first
    | (at_builtin; refine Lib.wpList_append_own_string _ rfl _ _ 34 9 rfl w.heap.size 5 i1 under22 under9 I1.out.1 I1.out.2.1 I1.out.2.2.1 I1.out.2.2.2 (.slice aa l0.length ca) l0.length (l0.map (Value.int .u8)) rfl HOA.out ⟨#[10, 59]⟩ rfl ?c1 ?c2 ?c3 ?_)
    | go_in)
  case c1 => unfold maxLen; show l0.length + 2 ≤ _; omega
  case c2 => show (l0.length + 2) ≤ _; omega
  case c3 => omega
  intro vb wb hown hgr _
  have HWB := hid (bw_grown HWA.out (Nat.le_refl _) HOA.out hgr)
  have el1 : (wr1 l0).length = l0.length + 2 := by simp [wr1]
  have el2 : (wr2 l0).length = l0.length + 4 := by simp [wr2]
  rw [wr1_cells, ← el1] at hown
  obtain ⟨ab, cb, e⟩ := own_form hown
  subst e
  have hyb : By wb (.slice ab (wr1 l0).length cb) (wr1 l0) := ⟨own_sl hown (fun _ _ => trivial), wr1_bytes W0.out.2.1, by omega⟩
  have hpa := parse_any _ (wr1 l0) wb hyb (HS.out.bw HWB.out) (by omega)
  have HPA := hid hpa
  have hszb : w.heap.size ≤ wb.heap.size := HWB.out.size
  have HEL := hid (And.intro el1 el2)
  clear hown hgr HOA hyb hpa el1 el2
  generalize hl1 : (wr1 l0).length = L1 at *
  rcases hq : parA (wr1 l0) with ⟨l, er, at_⟩
  by_cases her : er = 0
  · subst her
    have HPB := hid (HPA.out.mono fun e w' h => (show Bw wb w' ∧ ∃ r, e = .returned (.tuple #[r, .int .i64 0, .int .i64 L1]) ∧ Nd w' wb.heap.size r l from by
      obtain ⟨hb, h⟩ := h
      rw [hq, if_pos rfl, hl1] at h
      exact ⟨hb, h⟩))
    clear HPA
    have HQ := hid hq
    clear hq
    go_upto_region 4 with (first
      | (go_at_call 15; refine HPB.out.mono ?_; rintro e w5 ⟨hb5, r, rfl, hnd⟩; have B5 := hid (HWB.out.trans hb5); have HND := hid hnd.nr; obtain ⟨ar, cr, er5, _⟩ := hnd.nr; subst er5; clear hb5 hnd)
      | fail)
    clear HPB
    by_cases hlen : l.length < 3
    · have h3 : decide ((l.length : Int) < 3) = true := decide_eq_true (by omega)
      have h3' : (l.length : Int) < 3 := by omega
      clear hlen
      go_wp2_with (first
        | (go_at_call 12; refine (num_any _ _).mono ?_; rintro e w' ⟨rfl, hw'⟩; subst w')
        | (go_at_call 9; refine (live_any _ (HS.out.bw B5.out)).mono ?_; rintro e wl ⟨rfl, hbl⟩; have BL := hid (B5.out.trans hbl); clear hbl)
        | fail)
      all_goals go_ret
      all_goals exact ⟨rfl, BL.out⟩
    · obtain ⟨n0, n1, rest, hll⟩ : ∃ n0 n1 rest, l = n0 :: n1 :: rest := by
        match l, hlen with
        | [], h => simp at h
        | [_], h => simp at h
        | a :: b :: c, _ => exact ⟨a, b, c, rfl⟩
      have hl3 : ¬ (l.length : Int) < 3 := by omega
      have hl3' : decide ((l.length : Int) < 3) = false := decide_eq_false hl3
      obtain ⟨g, o, rfl, hg, y1, x0⟩ := nr_two HND.out hll
      have hlp : (1 : Int) < (l.length : Int) := by omega
      have hlp0 : (0 : Int) < (l.length : Int) := by omega
      have HLL := hid hll
      clear hll hlen hl3
      generalize hN : n0.2.1 = N at *
      generalize hK : n1.1 = K1 at *
      by_cases hNN : N = 1
      · by_cases hKK : K1 = 13
        · have hw := wraps_plain hm HQ.out HLL.out (hN.trans hNN) (hK.trans hKK)
          subst hNN hKK
          have hpos : 0 < l0.length := by
            apply Classical.byContradiction
            intro hz
            have e9 : l0 = [] := List.eq_nil_of_length_eq_zero (by omega)
            have h9 := HQ.out
            rw [e9, show parA (wr1 []) = ([], 6, 1) by decide +kernel] at h9
            cases h9
          obtain ⟨b0, o0, rfl, hb0, _, hc0⟩ := Sl.cellAt (W0.out.bw B5.out).1 (by omega)
          have HC0 := hid hc0
          have HW := hid hw
          clear hN hK hw hc0
          go_upto_region 6 with (first
            | (go_at_call 12; refine (num_any _ _).mono ?_; rintro e w' ⟨rfl, hw'⟩; subst w')
            | fail)
          have hcv := HCV.out w5
          go_wp2_with (first
            | (at_builtin; refine wpList_append_grows _ rfl _ _ 34 rfl 5 i1 (.int .u8 0) 1 1 under22 I1.out.1 I1.out.2.1 I1.out.2.2.1 I1.out.2.2.2 rfl (by decide) (some ⟨w5.heap.size, 0, none⟩) 1 1 [.int .u8 40] rfl ?c0 ?c1 ?c2 ⟨b0, o0, none⟩ l0.length c0 (l0.map (Value.int .u8)) rfl ?c3 ?c4 ?c5 ?c6 ?c7 ?c8 ?_)
            | go_in)
          case c0 => intro h; cases h
          case c1 => rfl
          case c2 =>
            intro b hb j u hj
            cases hb
            match j, hj with
            | 0, hj => simp at hj; subst hj; simp [Addr.add, World.cell?_alloc_mark]
          case c3 => simp
          case c4 =>
            intro j u hj
            have hj2 : j < l0.length := by
              have := (List.getElem?_eq_some_iff.1 hj).1
              simpa using this
            rw [Addr.add_lit, cell_bw (Bw.alloc (Bw.refl w5) _) hb0]
            exact (HC0.out j (by omega)).trans hj
          case c5 => exact ints_one _ _
          case c6 => omega
          case c7 => unfold maxLen; omega
          case c8 => omega
          intro vc wc hown hgr
          have HWC := hid (bw_none (Bw.alloc B5.out _) hgr)
          obtain ⟨ac, cc, e⟩ := own_form hown
          subst e
          have hown2 := own_base hown (show w.heap.size ≤ _ by have := B5.out.size; omega)
          have HOC := hid hown2
          have HOC5 := hid (own_base hown (show w5.heap.size ≤ _ by omega))
          have HWC5 := hid (bw_none (Bw.alloc (Bw.refl w5) _) hgr)
          have hszc : w.heap.size ≤ wc.heap.size := HWC.out.size
          clear hown hown2 hgr
          go_wp2_with (first
            | (at_builtin; refine Lib.wpList_append_own_string _ rfl _ _ 34 9 rfl w.heap.size 5 i1 under22 under9 I1.out.1 I1.out.2.1 I1.out.2.2.1 I1.out.2.2.2 (.slice ac (1 + l0.length) cc) (1 + l0.length) ([.int .u8 40] ++ l0.map (Value.int .u8)) rfl HOC.out ⟨#[10, 41, 59]⟩ rfl ?c1 ?c2 ?c3 ?_)
            | go_in)
          case c1 => unfold maxLen; show 1 + l0.length + 3 ≤ _; omega
          case c2 => show (1 + l0.length + 3) ≤ _; omega
          case c3 => omega
          intro vd wd hown hgr _
          have HWD := hid (bw_grown HWC.out (Nat.le_refl _) HOC.out hgr)
          have e9 : 1 + l0.length + 3 = (wr2 l0).length := by have := HEL.out.2; omega
          have hown3 : wd.ownsRow w.heap.size 5 1 vd (wr2 l0).length ((wr2 l0).map (Value.int .u8)) := by
            rw [← wr2_cells, ← e9]
            exact hown
          clear hown
          obtain ⟨ad, cd, e⟩ := own_form hown3
          subst e
          have hyd : By wd (.slice ad (wr2 l0).length cd) (wr2 l0) := ⟨own_sl hown3 (fun _ _ => trivial), wr2_bytes W0.out.2.1, by omega⟩
          have hpa2 := parse_any _ (wr2 l0) wd hyd (HS.out.bw HWD.out) (by omega)
          rw [← e9] at hpa2
          rw [← e9]
          have hszd : w.heap.size ≤ wd.heap.size := HWD.out.size
          have HWD5 := hid (bw_grown HWC5.out (Nat.le_refl _) HOC5.out hgr)
          have HPC := hid hpa2
          have HE9 := hid e9
          clear hown3 hgr hyd hpa2 HOC HOC5 e9
          rcases HW.out with ⟨m, am, hq2, hsame⟩ | ⟨am, hq2⟩
          · have HPD := hid (HPC.out.mono fun e w' h => (show Bw wd w' ∧ ∃ r, e = .returned (.tuple #[r, .int .i64 0, .int .i64 (wr2 l0).length]) ∧ NR w' r m from by
              obtain ⟨hb, h⟩ := h
              rw [hq2, if_pos rfl] at h
              obtain ⟨r, e1, e2⟩ := h
              exact ⟨hb, r, e1, e2.nr⟩))
            have HSM := hid hsame
            have hlm : l.length ≤ 1000000 := by
              have q1 := parA_len HQ.out
              have q2 := HEL.out.1
              omega
            clear HPC hq2 hsame HW
            generalize (wr2 l0).length = L2 at *
            go_wp2_with (first
              | (go_at_call 15; refine HPD.out.mono ?_; rintro e w6 ⟨hb6, r6, rfl, hnr6⟩; have B6 := hid (HWD.out.trans hb6); have HN1 := hid (HND.out.bw (HWD5.out.trans hb6)); have HN2 := hid hnr6; obtain ⟨a6, c6, e6, _⟩ := hnr6; subst e6; clear hb6)
              | (go_at_call 12; refine (num_any _ _).mono ?_; rintro e w' ⟨rfl, hw'⟩; subst w')
              | (go_at_call 16; refine (nSame_any _ _ l m _ HN1.out HN2.out HSM.out hlm).mono ?_; rintro e w7 ⟨rfl, hb7⟩; have B7 := hid (B6.out.trans hb7); clear hb7)
              | (go_at_call 9; refine (live_any _ (HS.out.bw B7.out)).mono ?_; rintro e wl ⟨rfl, hbl⟩; have BL := hid (B7.out.trans hbl); clear hbl)
              | fail)
            all_goals go_ret
            all_goals exact ⟨rfl, BL.out⟩
          · have HPD := hid (HPC.out.mono fun e w' h => (show Bw wd w' ∧ e = .returned (.tuple #[.slice none 0 0, .int .i64 3, .int .i64 am]) from by
              obtain ⟨hb, h⟩ := h
              rw [hq2, if_neg (by show ¬(3 : Int) = 0; decide)] at h
              exact ⟨hb, h.2⟩))
            clear HPC hq2 HW
            go_wp2_with (first
              | (go_at_call 15; refine HPD.out.mono ?_; rintro e w6 ⟨hb6, rfl⟩; have B6 := hid (HWD.out.trans hb6); clear hb6)
              | (go_at_call 12; refine (num_any _ _).mono ?_; rintro e w' ⟨rfl, hw'⟩; subst w')
              | (go_at_call 9; refine (live_any _ (HS.out.bw B6.out)).mono ?_; rintro e wl ⟨rfl, hbl⟩; have BL := hid (B6.out.trans hbl); clear hbl)
              | fail)
            all_goals go_ret
            all_goals exact ⟨rfl, BL.out⟩
        · have hkb : (K1 != 13) = true := by simpa using hKK
          have HNK := hid (And.intro hN hK)
          subst hNN
          clear hN hK hKK
          go_wp2_with (first
            | (go_at_call 12; refine (num_any _ _).mono ?_; rintro e w' ⟨rfl, hw'⟩; subst w')
            | (go_at_call 9; refine (live_any _ (HS.out.bw B5.out)).mono ?_; rintro e wl ⟨rfl, hbl⟩; have BL := hid (B5.out.trans hbl); clear hbl)
            | fail)
          all_goals go_ret
          all_goals exact ⟨rfl, BL.out⟩
      · have hnb : (N != 1) = true := by simpa using hNN
        clear hN hK hNN
        go_wp2_with (first
          | (go_at_call 12; refine (num_any _ _).mono ?_; rintro e w' ⟨rfl, hw'⟩; subst w')
          | (go_at_call 9; refine (live_any _ (HS.out.bw B5.out)).mono ?_; rintro e wl ⟨rfl, hbl⟩; have BL := hid (B5.out.trans hbl); clear hbl)
          | fail)
        all_goals go_ret
        all_goals exact ⟨rfl, BL.out⟩
  · have hne : (er != 0) = true := by simpa using her
    have HPB := hid (HPA.out.mono fun e w' h => (show Bw wb w' ∧ e = .returned (.tuple #[.slice none 0 0, .int .i64 er, .int .i64 at_]) from by
      obtain ⟨hb, h⟩ := h
      rw [hq, if_neg her] at h
      exact ⟨hb, h.2⟩))
    clear HPA hq her
    go_wp2_with (first
      | (go_at_call 15; refine HPB.out.mono ?_; rintro e w5 ⟨hb5, rfl⟩; have B5 := hid (HWB.out.trans hb5); clear hb5)
      | (go_at_call 12; refine (num_any _ _).mono ?_; rintro e w' ⟨rfl, hw'⟩; subst w')
      | (go_at_call 9; refine (live_any _ (HS.out.bw B5.out)).mono ?_; rintro e wl ⟨rfl, hbl⟩; have BL := hid (B5.out.trans hbl); clear hbl)
      | fail)
    all_goals go_ret
    all_goals exact ⟨rfl, BL.out⟩

theorem walk (w : World) (hs : Sg w) (v0 : Value) (l0 : List Int) (w0 : By w v0 l0) :
    Calls Tryd.prog 8 #[v0] w fun e w' => e = .returned (.bool true) ∧ Bw w w' := by
  obtain ⟨a0, c0, rfl⟩ := w0.form
  by_cases h : l0.length ≤ 3000
  · exact coreS a0 c0 l0 h w hs w0
  · have HS := hid hs
    have h' : decide ((3000 : Int) < (l0.length : Int)) = true := decide_eq_true (by omega)
    clear h hs w0
    go_enter Tryd.func8, Tryd.ntmps8
    go_wp2_with (first
      | (go_at_call 9; refine (live_any _ HS.out).mono ?_; rintro e wl ⟨rfl, hbl⟩; have BL := hid hbl; clear hbl))
    all_goals go_ret
    all_goals exact ⟨rfl, BL.out⟩

set_option maxRecDepth 100000 in
theorem lifted (os : Os) (started : os.Started) (H : Type) (enc : TypeId × Value → H) :
    ReturnsInHanded {} Tryd.checked os 8 .any (fun w args => (Rows.parseWrapsSpec.pre enc Tryd.prog Tryd.f8 [] false w args ∧ laidMetH Tryd.prog laidS w) ∧ sizedMet enc Tryd.prog Tryd.f8 (OpenSpec.ofChange Rows.parseWrapsSpec) false w args)
      (Rows.parseWrapsSpec.post enc Tryd.prog Tryd.f8 false true false false) := by
  refine returnsInHanded_of_change_and (C := Tryd.checked) (X := fun w _ => laidMetH Tryd.prog laidS w) (fun _ _ _ hh h => h.of_heap hh) ownK started (by kernel_rfl) Tryd.func8
    (ChangeSpec.witness_shaped (enc := enc) (C := Tryd.checked) (os := os) (X := fun w _ => laidMetH Tryd.prog laidS w) false (World.doorLaid Tryd.prog 400 os) #[.slice none 0 0] 8 rfl (World.shaped_of_RefB (by kernel_rfl) (by kernel_rfl)) (by kernel_rfl) (by kernel_rfl) (by kernel_rfl) (door_met os _)) ?_
  intro W base args ds gs before hval0 hW _ _ hL _
  have hval : ∀ (j : Nat) t v, Tryd.f8.params[j]? = some t → args[j]? = some v → Value.okWide Tryd.prog W .any base t v := hval0
  have hW' := hW
  obtain ⟨p, q, hA0, hV, rfl, hfz, hnd⟩ := hW
  have hA : DataW.TrodAll enc Tryd.prog W 0 (fun _ => true) true Tryd.f8.params.toList args.toList ds p := hA0
  rw [Tryd.params8] at hA hval
  obtain ⟨v0, vs0, d0, ds0, p0, q0, hargs, rfl, rfl, h0, r0⟩ := trodAll_cons hA
  obtain ⟨rfl, rfl, rfl⟩ := trodAll_nil r0
  obtain rfl : args = #[v0] := by cases args; simp_all
  obtain ⟨rfl, rfl⟩ := trodVars_none hV
  have k0 := h0
  have lt0 : ∀ x ∈ p0, x.block < W.heap.size := by obtain ⟨m, hm⟩ := k0; exact DataW.trod_lt m _ _ _ hm
  obtain ⟨l0, w0⟩ := open_bytes (hval 0 34 v0 rfl rfl) h0
  have hs := sg_of_laid hL
  clear hA0 hval0
  refine (walk W hs v0 l0 w0).mono fun e W' ⟨he, bel⟩ => ?_
  subst he
  exact ⟨_, rfl, _, _, _, [], _, [], hW', trodAll_mk1 (shut_bool Tryd.underlying4 _), (trodAll_cons_mk (Below.trod laidOut (by kernel_rfl) (of_decide_eq_true (by kernel_rfl)) k0 bel lt0) trodAll_mk0), rfl, Below.frame bel _, fun h => by cases h⟩

theorem over : Rows.parseWrapsRow.holds Tryd.pinned (OpenSpec.ofChange Rows.parseWrapsSpec) :=
  OpenClaim.holds_of_wide 8 Tryd.f8 rfl rfl rfl rfl rfl rfl rfl ⟨rfl, rfl, rfl, rfl, rfl⟩ rfl rfl rfl rfl rfl (by kernel_rfl) Tryd.func8 (by kernel_rfl)
    (of_decide_eq_true (by kernel_rfl)) (by unfold Func.isWrapper; first | (rw [if_pos (by decide +kernel)]; kernel_rfl) | (rw [if_neg (by decide +kernel)]; exact ⟨rfl, rfl⟩))
    (fun os started H enc _ => lifted os started H enc)

theorem card : Rows.ParseWrapsCardSaid :=
  Claim7.holds_tied_plain_at .later [] [.data, .data] true (true, "1ee87b867a6f7fb388cad427d3238b6067381e6223bad05719f6a30fb194ad88") true
    over (fun _ h => by cases h) (by kernel_rfl) (fun _ h => by cases h) parseWraps_row_tie rfl ⟨rfl, rfl⟩ (by kernel_rfl) rfl
    (fun f fn hf hfn => by
      obtain rfl : f = 8 := Option.some.inj ((show Tryd.prog.funcNamed "jacquard/jacquardlaw06.ParseWraps" = some 8 by kernel_rfl).symm.trans hf) |>.symm
      obtain rfl : fn = Tryd.f8 := (Option.some.inj (Tryd.func8.symm.trans hfn)).symm
      exact ⟨by kernel_rfl, fun j t ht => by
        rw [Tryd.params8] at ht
        have hm : t ∈ [34] := by have h9 := Array.mem_of_getElem? ht; simp at h9 ⊢; first | exact h9 | (rcases h9 with h9 | h9 <;> simp [h9]; done) | (rcases h9 with h9 | h9 | h9 <;> simp [h9]; done) | (rcases h9 with h9 | h9 | h9 | h9 <;> simp [h9]; done)
        have hall : ([34].all fun u => !Tryd.prog.wantsStandIn u) = true := by kernel_rfl
        exact (show Tryd.prog.wantsStandIn t = false by simpa using List.all_eq_true.1 hall t hm)⟩)
    (by kernel_rfl)
end Go.Proofs.YtlcieebneclmpaaDoor.parseWraps
namespace Go.Proofs.YtlcieebneclmpaaDoor
theorem parseWraps_holds : Rows.ParseWrapsCardSaid := parseWraps.card
#print axioms parseWraps_holds
end Go.Proofs.YtlcieebneclmpaaDoor
