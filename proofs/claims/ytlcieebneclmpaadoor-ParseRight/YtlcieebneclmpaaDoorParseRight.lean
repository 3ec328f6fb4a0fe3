/- For every text, the statement ParseRight of layer 6 answers true: what is parsed is a program, the places of its nodes are places of the text, and those of what a node is made of are not ahead of it; no condition beyond the program's own tables, which the card ties to their text. -/
import Derived.Test.YtlcieebneclmpaaDoorW4
import Derived.Test.YtlcieebneclmpaaDoorC7
import Derived.Test.YtlcieebneclmpaaDoorN1
import Derived.Test.YtlcieebneclmpaaDoorPgak
import Derived.Test.YtlcieebneclmpaaDoorK12
set_option linter.unusedVariables false
set_option linter.unusedSimpArgs false
namespace Go.Proofs.YtlcieebneclmpaaDoor.parseRight
open Go.ChangeShapes Go.WideShapes Go.ChangeAt Go.RowKit

theorem parA_len {b : List Int} {l : List ANode} {e a : Int} (h : parA b = (l, e, a)) : l.length ≤ b.length + 2 := by
  unfold parA at h
  rcases hx : lexA b with ⟨T, n, m⟩
  rw [hx] at h
  dsimp only at h
  by_cases hn : n = 0
  · subst hn
    rw [if_neg (by simp)] at h
    obtain ⟨_, hT, _, _⟩ := lexA_end hx
    have hsz := pP_sz T (40 * (T.length + 1)) (.prog []) 0 0
    have hin := pP_in T (40 * (T.length + 1)) (.prog []) 0 0 (Nat.zero_le _)
    cases hp : pP T (40 * (T.length + 1)) (.prog []) 0 0 with
    | ok x c j =>
      rw [hp] at h hsz hin
      have h1 : x.flat = l := by simpa using congrArg (·.1) h
      have e2 : x.flat.length + 0 ≤ j + (0 + 1) := hsz
      have e3 : j ≤ T.length := hin
      rw [h1] at e2
      omega
    | bad e a =>
      rw [hp] at h
      have h1 : [] = l := by simpa using congrArg (·.1) h
      subst h1
      simp
    | out =>
      rw [hp] at h
      have h1 : [] = l := by simpa using congrArg (·.1) h
      subst h1
      simp
  · rw [if_pos hn] at h
    have h1 : [] = l := by simpa using congrArg (·.1) h
    subst h1
    simp

theorem nd_form {w : World} {base : Nat} {v : Value} {l : List ANode} (h : Nd w base v l) (hl : 0 < l.length) : ∃ g cap, v = .slice (some ⟨g, 0, none⟩) l.length cap ∧ l.length ≤ cap ∧ g < w.heap.size ∧ NR w (.slice (some ⟨g, 0, none⟩) l.length cap) l := by
  have hn := h.nr
  rcases h.2 with ⟨_, h0⟩ | ⟨g, cap, cur, rfl, hb, hg, hnc, hmx, hsz, htake⟩
  · omega
  · exact ⟨g, cap, rfl, hnc, (Array.getElem?_eq_some_iff.1 hg).1, hn⟩

/-- What comes of Parse where it is a program: the nodes, and room for them. -/
theorem got_yes {b : List Int} {w : World} {e : Ending} {w' : World} {l : List ANode} {a : Int} (h : GotA b w e w') (hp : parA b = (l, 0, a)) (hl : 0 < l.length) :
    ∃ g cap, e = .returned (.tuple #[.slice (some ⟨g, 0, none⟩) l.length cap, .int .i64 0, .int .i64 b.length]) ∧ l.length ≤ cap ∧ g < w'.heap.size ∧ NR w' (.slice (some ⟨g, 0, none⟩) l.length cap) l ∧ Bw w w' := by
  obtain ⟨hb, h⟩ := h
  rw [hp, if_pos rfl] at h
  obtain ⟨r, rfl, hn⟩ := h
  obtain ⟨g, cap, rfl, h1, h2, h3⟩ := nd_form hn hl
  exact ⟨g, cap, rfl, h1, h2, h3, hb⟩

theorem nr_cells {w : World} {g cap : Nat} {l : List ANode} (h : NR w (.slice (some ⟨g, 0, none⟩) l.length cap) l) (hp : 0 < l.length) : g < w.heap.size ∧ ∀ i (hi : i < l.length) j, j < 5 → w.cell? ⟨g, 0 + i * 5 + j, none⟩ = (ndV l[i])[j]? := by
  obtain ⟨a', cap', e, h⟩ := h
  injection e with e1 e2 e3
  rcases h with h | ⟨g', o', e, hg, hcs⟩
  · omega
  · rw [e] at e1
    injection e1 with e1
    injection e1 with e1 e2
    subst e1 e2
    exact ⟨hg, hcs⟩

theorem nc_of {w : World} {g cap n : Nat} {l : List ANode} (h : NR w (.slice (some ⟨g, 0, none⟩) l.length cap) l) (hp : 0 < l.length) (hl : l.length ≤ 9000) (hr : RightL n l) : NC w g 0 l :=
  ⟨(nr_cells h hp).1, (nr_cells h hp).2, fun i hi => ⟨by have := hr.kn i hi; omega, hr.tx i hi⟩⟩

theorem nm_of {w : World} {g cap n : Nat} {l : List ANode} (h : NR w (.slice (some ⟨g, 0, none⟩) l.length cap) l) (hp : 0 < l.length) (hl : l.length ≤ 9000) (hr : RightL n l) : NM w g 0 l :=
  ⟨(nr_cells h hp).1, fun i hi => (nr_cells h hp).2 i hi 1 (by decide), fun i hi => by have := hr.kn i hi; omega⟩

theorem bh_of {l : List ANode} {k e : Nat} (hk : k < l.length) (h : bhP l k = some e) : bhV l (k : Int) = ((e : Int), 0) := by
  unfold bhV
  rw [if_neg (by omega), Int.toNat_natCast, h]

set_option maxRecDepth 100000 in
set_option maxHeartbeats 16000000 in
theorem core (a0 : Option Addr) (c0 : Nat) (l0 : List Int) (hm : l0.length ≤ 3000) (w : World) (hs : Sg w) (hsh : Sh w) (w0 : By w (.slice a0 l0.length c0) l0) :
    Calls Tryd.prog 5 #[.slice a0 l0.length c0] w fun e w' => e = .returned (.bool true) ∧ Bw w w' := by
  have HS := hid hs
  have HH := hid hsh
  have d0 : decide ((3000 : Int) < (l0.length : Int)) = false := decide_eq_false (by omega)
  obtain ⟨hbad, hok⟩ := right_plain hm w0.2.1
  have hpa := parse_any _ l0 w w0 hs (by omega)
  rcases hqa : parA l0 with ⟨l, er, at_⟩
  rw [hqa] at hbad hok
  dsimp only at hbad hok
  by_cases he : er = 0
  · subst he
    obtain ⟨h1, h2, h3⟩ := hok rfl
    have hl0 : 0 < l.length := List.length_pos_iff.2 h3.ne
    have hl9 : l.length ≤ 9000 := by have := parA_len hqa; omega
    have HPC := hid (hpa.mono fun e w' h => got_yes h hqa hl0)
    have HR := hid h3
    have HCK := hid h1
    have e1 : ((l.length : Int) == 0) = false := by rw [beq_eq_false_iff_ne]; omega
    have e2 : ((l0.length : Int) != (l0.length : Int)) = false := by simp
    clear hs hsh w0 hbad hok hpa hqa h1 h2 h3
    go_enter Tryd.func5, Tryd.ntmps5
    go_upto_region 6 with (first
      | (go_at_call 15; refine HPC.out.mono ?_; rintro e w5 ⟨g, cap, rfl, hcap, hg, hn, hb5⟩; have B5 := hid hb5; have NL := hid hn; clear hb5 hn hg)
      | (go_at_call 12; refine (num_any _ _).mono ?_; rintro e w' ⟨rfl, hw'⟩; subst w')
      | fail)
    have hcc := check_big g 0 cap l hl0 hl9 w5 (nc_of NL.out hl0 hl9 HR.out) (HH.out.bw B5.out)
    rw [HCK.out] at hcc
    have HCC := hid hcc
    clear hcc HPC HCK
    go_wp2_with (first
      | (go_at_call 10; refine HCC.out.mono ?_; rintro e w6 ⟨rfl, hb6⟩; have B6 := hid (B5.out.trans hb6); have NL6 := hid (NL.out.bw hb6); clear hb6)
      | (go_at_call 12; refine (num_any _ _).mono ?_; rintro e w' ⟨rfl, hw'⟩; subst w')
      | fail)
    clear HCC NL B5
    go_loopw [8] (fun j wr => ∃ k : Nat, k ≤ l.length ∧ j = .int .i64 k ∧ Bw w6 wr) (fun j _ => l.length - (intOf j).toNat)
    case atStart => exact ⟨0, Nat.zero_le _, rfl, Bw.refl _⟩
    case round =>
      obtain ⟨k, hk, rfl, hbw⟩ := hrel
      have HW := hid hbw
      by_cases hlt : k < l.length
      · obtain ⟨e, hbe, hel, hmon⟩ := HR.out.bh k hlt
        obtain ⟨n1, n2⟩ := HR.out.nn k hlt
        have hbb := behind_big g 0 cap l hl9 (k : Int) ⟨by omega, by omega⟩ _ (.inr (nm_of (NL6.out.bw hbw) hl0 hl9 HR.out))
        rw [bh_of hlt hbe] at hbb
        have HBB := hid hbb
        obtain ⟨g1, o1, eg, hg1, z0, z1, z2, z3, x4⟩ := (NL6.out.bw hbw).parts hlt
        injection eg with eg
        injection eg with eg1 eg2
        subst eg1 eg2
        simp only [Nat.zero_add] at x4
        have HMO := hid hmon
        have HN2 := hid n2
        have hb1 : (0 : Int) ≤ (k : Int) := by omega
        have hb2 : (k : Int) < (l.length : Int) := by omega
        clear hbb hbw hmon n2 hbe z0 z1 z2 z3
        generalize hA : l[k].2.2.2.2 = A at x4 n1 HMO HN2
        have HA := hid hA
        clear hA
        have hb3 : decide (A < 0) = false := decide_eq_false (by omega)
        by_cases hk0 : 0 < k
        · have hb4 : (0 : Int) < (k : Int) := by omega
          have hb5 : A < (l0.length : Int) := HN2.out hk0
          clear hk0 HN2
          go_wp2_with (first
            | (go_at_call 13; refine HBB.out.mono ?_; rintro e w7 ⟨rfl, hw7⟩; subst hw7)
            | (go_at_call 12; refine (num_any _ _).mono ?_; rintro e w' ⟨rfl, hw'⟩; subst w')
            | fail)
          go_loopw [11] (fun j wt => ∃ p : Nat, k < p ∧ p ≤ 9001 ∧ j = .int .i64 p ∧ Bw w6 wt) (fun j _ => 9001 - (intOf j).toNat)
          case atStart => exact ⟨k + 1, by omega, by omega, by go_num, HW.out⟩
          case round =>
            obtain ⟨p, hkp, hp9, rfl, hbt⟩ := hrel
            have HT := hid hbt
            by_cases hpe : p < e
            · have hpl : p < l.length := by omega
              have hmo := HMO.out p hpl hkp hpe
              obtain ⟨g2, o2, eg, hg2, z0, z1, z2, z3, y4⟩ := (NL6.out.bw hbt).parts hpl
              injection eg with eg
              injection eg with eg1 eg2
              subst eg1 eg2
              simp only [Nat.zero_add] at y4
              obtain ⟨g3, o3, eg, hg3, z5, z6, z7, z8, x5⟩ := (NL6.out.bw hbt).parts hlt
              injection eg with eg
              injection eg with eg1 eg2
              subst eg1 eg2
              simp only [Nat.zero_add] at x5
              rw [HA.out] at x5
              generalize l[p].2.2.2.2 = Y at y4 hmo
              have hc1 : (0 : Int) ≤ (p : Int) := by omega
              have hc2 : (p : Int) < (l.length : Int) := by omega
              have hc3 : (p : Int) < (e : Int) := by omega
              have hc4 : decide (Y < A) = false := decide_eq_false (by omega)
              clear hbt z0 z1 z2 z3 z5 z6 z7 z8 x4 hmo
              go_upto_region 18 with fail
              go_region
              all_goals go_wp2
              all_goals go_roundw
              all_goals first
                | (case rel => exact ⟨p + 1, by omega, by omega, by go_num, by repeat (first | exact HT.out | apply Bw.alloc | apply Bw.drewN | apply Bw.drew)⟩)
                | skip
              all_goals (simp [intOf]; omega)
            · have hc3 : decide ((p : Int) < (e : Int)) = false := decide_eq_false (by omega)
              clear hbt x4
              go_wp2
              all_goals go_roundw
              all_goals first
                | (case rel => exact ⟨k + 1, by omega, by go_num, by repeat (first | exact HT.out | apply Bw.alloc | apply Bw.drewN | apply Bw.drew)⟩)
                | skip
              all_goals (simp [intOf]; omega)
        · have hb4 : ¬ (0 : Int) < (k : Int) := by omega
          clear hk0 HN2
          go_wp2_with (first
            | (go_at_call 13; refine HBB.out.mono ?_; rintro e w7 ⟨rfl, hw7⟩; subst hw7)
            | (go_at_call 12; refine (num_any _ _).mono ?_; rintro e w' ⟨rfl, hw'⟩; subst w')
            | fail)
          go_loopw [11] (fun j wt => ∃ p : Nat, k < p ∧ p ≤ 9001 ∧ j = .int .i64 p ∧ Bw w6 wt) (fun j _ => 9001 - (intOf j).toNat)
          case atStart => exact ⟨k + 1, by omega, by omega, by go_num, HW.out⟩
          case round =>
            obtain ⟨p, hkp, hp9, rfl, hbt⟩ := hrel
            have HT := hid hbt
            by_cases hpe : p < e
            · have hpl : p < l.length := by omega
              have hmo := HMO.out p hpl hkp hpe
              obtain ⟨g2, o2, eg, hg2, z0, z1, z2, z3, y4⟩ := (NL6.out.bw hbt).parts hpl
              injection eg with eg
              injection eg with eg1 eg2
              subst eg1 eg2
              simp only [Nat.zero_add] at y4
              obtain ⟨g3, o3, eg, hg3, z5, z6, z7, z8, x5⟩ := (NL6.out.bw hbt).parts hlt
              injection eg with eg
              injection eg with eg1 eg2
              subst eg1 eg2
              simp only [Nat.zero_add] at x5
              rw [HA.out] at x5
              generalize l[p].2.2.2.2 = Y at y4 hmo
              have hc1 : (0 : Int) ≤ (p : Int) := by omega
              have hc2 : (p : Int) < (l.length : Int) := by omega
              have hc3 : (p : Int) < (e : Int) := by omega
              have hc4 : decide (Y < A) = false := decide_eq_false (by omega)
              clear hbt z0 z1 z2 z3 z5 z6 z7 z8 x4 hmo
              go_upto_region 18 with fail
              go_region
              all_goals go_wp2
              all_goals go_roundw
              all_goals first
                | (case rel => exact ⟨p + 1, by omega, by omega, by go_num, by repeat (first | exact HT.out | apply Bw.alloc | apply Bw.drewN | apply Bw.drew)⟩)
                | skip
              all_goals (simp [intOf]; omega)
            · have hc3 : decide ((p : Int) < (e : Int)) = false := decide_eq_false (by omega)
              clear hbt x4
              go_wp2
              all_goals go_roundw
              all_goals first
                | (case rel => exact ⟨k + 1, by omega, by go_num, by repeat (first | exact HT.out | apply Bw.alloc | apply Bw.drewN | apply Bw.drew)⟩)
                | skip
              all_goals (simp [intOf]; omega)
      · have hb2 : ¬ (k : Int) < (l.length : Int) := by omega
        go_wp2_with (first
          | (go_at_call 9; refine (live_any _ (HS.out.bw (B6.out.trans HW.out))).mono ?_; rintro e wl ⟨rfl, hbl⟩; have BL := hid ((B6.out.trans HW.out).trans hbl); clear hbl)
          | fail)
        all_goals go_ret
        all_goals exact ⟨rfl, BL.out⟩
  · obtain ⟨h1, h2, h3⟩ := hbad he
    subst h1
    have HPC := hid (hpa.mono (R' := fun e w' => e = .returned (.tuple #[.slice none 0 0, .int .i64 er, .int .i64 at_]) ∧ Bw w w') fun e w' h => by
      obtain ⟨hb, h⟩ := h
      rw [hqa, if_neg he] at h
      exact ⟨h.2, hb⟩)
    have e1 : (er != 0) = true := by simpa using he
    clear hs hsh w0 hbad hok hpa hqa he
    go_enter Tryd.func5, Tryd.ntmps5
    go_wp2_with (first
      | (go_at_call 15; refine HPC.out.mono ?_; rintro e w5 ⟨rfl, hb5⟩; have B5 := hid hb5; clear hb5)
      | (go_at_call 12; refine (num_any _ _).mono ?_; rintro e w' ⟨rfl, hw'⟩; subst w')
      | (go_at_call 9; refine (live_any _ (HS.out.bw B5.out)).mono ?_; rintro e wl ⟨rfl, hbl⟩; have BL := hid (B5.out.trans hbl); clear hbl)
      | fail)
    all_goals go_ret
    all_goals exact ⟨rfl, BL.out⟩

theorem walk (w : World) (hs : Sg w) (hsh : Sh w) (v0 : Value) (l0 : List Int) (w0 : By w v0 l0) :
    Calls Tryd.prog 5 #[v0] w fun e w' => e = .returned (.bool true) ∧ Bw w w' := by
  obtain ⟨a0, c0, rfl⟩ := w0.form
  by_cases h : l0.length ≤ 3000
  · exact core a0 c0 l0 h w hs hsh w0
  · have HS := hid hs
    have h' : decide ((3000 : Int) < (l0.length : Int)) = true := decide_eq_true (by omega)
    clear h hs w0
    go_enter Tryd.func5, Tryd.ntmps5
    go_wp2_with (first
      | (go_at_call 9; refine (live_any _ HS.out).mono ?_; rintro e wl ⟨rfl, hbl⟩; have BL := hid hbl; clear hbl))
    all_goals go_ret
    all_goals exact ⟨rfl, BL.out⟩

set_option maxRecDepth 100000 in
theorem lifted (os : Os) (started : os.Started) (H : Type) (enc : TypeId × Value → H) :
    ReturnsInHanded {} Tryd.checked os 5 .any (fun w args => (Rows.parseRightSpec.pre enc Tryd.prog Tryd.f5 [] false w args ∧ laidMetH Tryd.prog laidS w) ∧ sizedMet enc Tryd.prog Tryd.f5 (OpenSpec.ofChange Rows.parseRightSpec) false w args)
      (Rows.parseRightSpec.post enc Tryd.prog Tryd.f5 false true false false) := by
  refine returnsInHanded_of_change_and (C := Tryd.checked) (X := fun w _ => laidMetH Tryd.prog laidS w) (fun _ _ _ hh h => h.of_heap hh) ownK started (by kernel_rfl) Tryd.func5
    (ChangeSpec.witness_shaped (enc := enc) (C := Tryd.checked) (os := os) (X := fun w _ => laidMetH Tryd.prog laidS w) false (World.doorLaid Tryd.prog 400 os) #[.slice none 0 0] 8 rfl (World.shaped_of_RefB (by kernel_rfl) (by kernel_rfl)) (by kernel_rfl) (by kernel_rfl) (by kernel_rfl) (door_met os _)) ?_
  intro W base args ds gs before hval0 hW _ _ hL _
  have hval : ∀ (j : Nat) t v, Tryd.f5.params[j]? = some t → args[j]? = some v → Value.okWide Tryd.prog W .any base t v := hval0
  have hW' := hW
  obtain ⟨p, q, hA0, hV, rfl, hfz, hnd⟩ := hW
  have hA : DataW.TrodAll enc Tryd.prog W 0 (fun _ => true) true Tryd.f5.params.toList args.toList ds p := hA0
  rw [Tryd.params5] at hA hval
  obtain ⟨v0, vs0, d0, ds0, p0, q0, hargs, rfl, rfl, h0, r0⟩ := trodAll_cons hA
  obtain ⟨rfl, rfl, rfl⟩ := trodAll_nil r0
  obtain rfl : args = #[v0] := by cases args; simp_all
  obtain ⟨rfl, rfl⟩ := trodVars_none hV
  have k0 := h0
  have lt0 : ∀ x ∈ p0, x.block < W.heap.size := by obtain ⟨m, hm⟩ := k0; exact DataW.trod_lt m _ _ _ hm
  obtain ⟨l0, w0⟩ := open_bytes (hval 0 34 v0 rfl rfl) h0
  have hs := sg_of_laid hL
  have hsh := sh_of_laid hL
  clear hA0 hval0
  refine (walk W hs hsh v0 l0 w0).mono fun e W' ⟨he, bel⟩ => ?_
  subst he
  exact ⟨_, rfl, _, _, _, [], _, [], hW', trodAll_mk1 (shut_bool Tryd.underlying4 _), (trodAll_cons_mk (Below.trod laidOut (by kernel_rfl) (of_decide_eq_true (by kernel_rfl)) k0 bel lt0) trodAll_mk0), rfl, Below.frame bel _, fun h => by cases h⟩

theorem over : Rows.parseRightRow.holds Tryd.pinned (OpenSpec.ofChange Rows.parseRightSpec) :=
  OpenClaim.holds_of_wide 5 Tryd.f5 rfl rfl rfl rfl rfl rfl rfl ⟨rfl, rfl, rfl, rfl, rfl⟩ rfl rfl rfl rfl rfl (by kernel_rfl) Tryd.func5 (by kernel_rfl)
    (of_decide_eq_true (by kernel_rfl)) (by unfold Func.isWrapper; first | (rw [if_pos (by decide +kernel)]; kernel_rfl) | (rw [if_neg (by decide +kernel)]; exact ⟨rfl, rfl⟩))
    (fun os started H enc _ => lifted os started H enc)

theorem card : Rows.ParseRightCardSaid :=
  Claim7.holds_tied_plain_at .later [] [.data, .data] true (true, "1ee87b867a6f7fb388cad427d3238b6067381e6223bad05719f6a30fb194ad88") true
    over (fun _ h => by cases h) (by kernel_rfl) (fun _ h => by cases h) parseRight_row_tie rfl ⟨rfl, rfl⟩ (by kernel_rfl) rfl
    (fun f fn hf hfn => by
      obtain rfl : f = 5 := Option.some.inj ((show Tryd.prog.funcNamed "jacquard/jacquardlaw06.ParseRight" = some 5 by kernel_rfl).symm.trans hf) |>.symm
      obtain rfl : fn = Tryd.f5 := (Option.some.inj (Tryd.func5.symm.trans hfn)).symm
      exact ⟨by kernel_rfl, fun j t ht => by
        rw [Tryd.params5] at ht
        have hm : t ∈ [34] := by have h9 := Array.mem_of_getElem? ht; simp at h9 ⊢; first | exact h9 | (rcases h9 with h9 | h9 <;> simp [h9]; done) | (rcases h9 with h9 | h9 | h9 <;> simp [h9]; done) | (rcases h9 with h9 | h9 | h9 | h9 <;> simp [h9]; done)
        have hall : ([34].all fun u => !Tryd.prog.wantsStandIn u) = true := by kernel_rfl
        exact (show Tryd.prog.wantsStandIn t = false by simpa using List.all_eq_true.1 hall t hm)⟩)
    (by kernel_rfl)
end Go.Proofs.YtlcieebneclmpaaDoor.parseRight
namespace Go.Proofs.YtlcieebneclmpaaDoor
theorem parseRight_holds : Rows.ParseRightCardSaid := parseRight.card
#print axioms parseRight_holds
end Go.Proofs.YtlcieebneclmpaaDoor
