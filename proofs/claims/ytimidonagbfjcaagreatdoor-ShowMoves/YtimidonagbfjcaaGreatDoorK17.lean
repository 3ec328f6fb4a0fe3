/- What a word looks like: the program's Text, whole. · The statements' own question whether showing would take too long; the library's two tables, out of the condition. -/
import Derived.Test.YtimidonagbfjcaaGreatDoorVCk
import Derived.Test.YtimidonagbfjcaaGreatDoorK15
import Derived.Laws.EntriesVeiled
import Derived.Test.YtimidonagbfjcaaGreatDoorK16
import Derived.Test.YtimidonagbfjcaaGreatDoorK10
set_option linter.unusedSimpArgs false
set_option linter.unusedVariables false
namespace Go.Proofs.YtimidonagbfjcaaGreatDoor
open Go Go.RowKit

/-- What a word looks like within W. (The fuel: one more than there are objects is enough.) -/
def tx (H : AHeap) : Nat → List Int → Int → List Value
  | 0, _, _ => []
  | n + 1, W, v =>
    if (kk H v == 2 || kk H v == 3 || kk H v == 4) = true then
      if v ∈ W then Lib.strCells (⟨#[94]⟩ ++ strOfNums (itoaL ((W.length : Int) - (W.idxOf v : Int))))
      else if kk H v = 2 then [.int .u8 91] ++ (txs (tx H n (W ++ [v])) 0 (ob H v).vals ++ [.int .u8 93])
      else if kk H v = 3 then [.int .u8 123] ++ (fxs (tx H n (W ++ [v])) 0 (flds H v) ++ [.int .u8 125])
      else [.int .u8 38] ++ tx H n (W ++ [v]) (aAtV H v 0)
    else Lib.strCells (strOfNums (wdL H v))

theorem wdL_len {H : AHeap} {v : Int} (hU : U v) (hok : HOK H) (hn3 : ∀ o ∈ H.2, N3 o) : (wdL H v).length ≤ 5000000 := by
  unfold wdL
  by_cases k0 : kk H v = 0
  · rw [if_pos k0]; have := plL_len v hU; omega
  have hoo := ob_ok (v := v) hok hU (kk_ref k0).2.1
  have hn : N3 (ob H v) := hn3 _ (ob_in hU k0)
  have hl := itoaL_len _ hn.1.1 hn.1.2
  have hq := qAll_len (ob H v).bytes
  have hb := hoo.2.2.2.2.2.1
  rw [if_neg k0]
  repeat' split
  all_goals first
    | (simp only [qStr, List.length_append, List.length_cons, List.length_nil]; omega)
    | (simp only [List.length_append, List.length_cons, List.length_nil, nibs_len]; omega)

theorem at_U {H : AHeap} {v i : Int} (hok : HOK H) (hU : U v) (hk : kk H v = 4) : U (aAtV H v i) := by
  have ho := ob_ok (v := v) hok hU (kk_ref (by omega)).2.1
  have u0 : U 0 := ⟨by decide, by decide⟩
  unfold aAtV
  rw [if_neg (by omega)]
  repeat' split
  · rw [List.getD_eq_getElem?_getD]
    cases h : (ob H v).vals[i.toNat]? with
    | none => exact u0
    | some x => exact ho.2.2.2.1 x (List.mem_of_getElem? h)
  · exact u0
  · exact u0

theorem nodup_lt : ∀ (n : Nat) (l : List Nat), l.Nodup → (∀ k ∈ l, k < n) → l.length ≤ n
  | 0, [], _, _ => Nat.le_refl _
  | 0, k :: l, _, h => absurd (h k (List.mem_cons_self ..)) (by omega)
  | n + 1, l, hnd, h => by
    by_cases hm : n ∈ l
    · have h1 := nodup_lt n (l.erase n) (hnd.erase n) (fun k hk => by
        have h2 := hnd.mem_erase_iff.1 hk
        have h3 := h k h2.2
        have h4 := h2.1
        omega)
      rw [List.length_erase_of_mem hm] at h1
      omega
    · have := nodup_lt n l hnd (fun k hk => by
        have h3 := h k hk
        have h4 : k ≠ n := fun e => hm (e ▸ hk)
        omega)
      omega

theorem ref_inj {x y : Int} (h1 : kd x = 2) (h2 : kd y = 2) (e : idxV x = idxV y) : x = y := by
  have m : ∀ z : Int, kd z = 2 → z % 4 = 2 := by
    intro z hz
    unfold kd at hz
    repeat' split at hz
    all_goals omega
  have m1 := m x h1
  have m2 := m y h2
  unfold idxV at e
  rw [if_pos (.inl h1), if_pos (.inl h2)] at e
  omega

/-- Words that are objects, each once: no more than there are objects. -/
theorem within_len {H : AHeap} : ∀ {W : List Int}, W.Nodup → (∀ x ∈ W, U x ∧ kk H x ≠ 0) → W.length ≤ H.2.length := by
  intro W hnd hW
  have hinj : ∀ x ∈ W, ∀ y ∈ W, (idxV x).toNat = (idxV y).toNat → x = y := by
    intro x hx y hy he
    have h1 := kk_ref (hW x hx).2
    have h2 := kk_ref (hW y hy).2
    have b1 := idx_bd x (hW x hx).1
    have b2 := idx_bd y (hW y hy).1
    have e : idxV x = idxV y := by omega
    exact ref_inj h1.1 h2.1 e
  have hnd2 : (W.map fun x => (idxV x).toNat).Nodup := by
    rw [List.Nodup, List.pairwise_map]
    exact List.Pairwise.imp_of_mem (fun ha hb hab e => hab (hinj _ ha _ hb e)) hnd
  have hsub : ∀ k ∈ W.map (fun x => (idxV x).toNat), k < H.2.length := by
    intro k hk
    obtain ⟨x, hx, rfl⟩ := List.mem_map.1 hk
    have h1 := kk_ref (hW x hx).2
    have b1 := idx_bd x (hW x hx).1
    omega
  have := nodup_lt _ _ hnd2 hsub
  simpa using this

/-- The program's value, of any word, whether there is room or not. -/
theorem value_tx {X : World → Prop} {b0 : Nat} {H : AHeap} {bs : List Nat} {sb mb bt base : Nat} (hok : HOK H) (hm : H.2.length ≤ 1000000) (hn3 : ∀ o ∈ H.2, N3 o) (hks : ∀ o ∈ H.2, ∀ s ∈ o.keys, s.size ≤ 1000000000) (hpd : ∀ w, X w → Pd w) (hX : ∀ w w', base ≤ w.heap.size → St mb bt base w w' → X w → X w') :
    ∀ (n : Nat) (W : List Int) (v : Int), H.2.length < n + W.length → W.Nodup → (∀ x ∈ W, U x ∧ kk H x ≠ 0) → U v → ∀ (w : World) (xs : List Value), X w → SI w b0 H bs sb mb bt base W xs → xs.length ≤ 65536 →
      Calls Tryz.prog 27 #[.pointer (some ⟨sb, 0, none⟩), .int .u64 v] w (Sd b0 H bs sb mb bt base W xs (tx H n W v) w)
  | 0, W, v, hf, hnd, hW, _, _, _, _, _, _ => by
    have := within_len hnd hW
    omega
  | n + 1, W, v, hf, hnd, hW, hU, w, xs, hx, hi, hl => by
    have hwl := within_len hnd hW
    rw [tx]
    by_cases hk : (kk H v == 2 || kk H v == 3 || kk H v == 4) = true
    · rw [if_pos hk]
      have hk0 : kk H v ≠ 0 := by
        intro e
        rw [e] at hk
        revert hk
        decide
      refine value_nest2 v hU w hi hk ?_
      by_cases hv : v ∈ W
      · rw [if_pos hv]
        have hlt : W.idxOf v < W.length := List.idxOf_lt_length_iff.2 hv
        refine nested_in2 v hU w hi hl (W.idxOf v) (by rw [List.getElem?_eq_getElem hlt]; simp) (by omega) _ (by rw [strOfNums_size]; have := itoaL_len ((W.length : Int) - (W.idxOf v : Int)) (by omega) (by omega); omega) (fun w1 hb1 => ?_)
        exact itoa_any _ (by omega) (by omega) w1 (hpd w1 (hX w w1 hi.top (hi.st hb1) hx)).1
      · rw [if_neg hv]
        have hnd' : (W ++ [v]).Nodup := by
          rw [List.nodup_append]
          refine ⟨hnd, by simp, ?_⟩
          intro a ha b hb e
          rw [List.mem_singleton] at hb
          exact hv (hb ▸ e ▸ ha)
        have hW' : ∀ x ∈ W ++ [v], U x ∧ kk H x ≠ 0 := by
          intro x hx'
          rcases List.mem_append.1 hx' with h | h
          · exact hW x h
          · rw [List.mem_singleton] at h; subst h; exact ⟨hU, hk0⟩
        have hf' : H.2.length < n + (W ++ [v]).length := by rw [List.length_append, List.length_singleton]; omega
        have ih : ∀ x, U x → ∀ (w1 : World) (ys : List Value), Sz mb bt base w w1 → SI w1 b0 H bs sb mb bt base (W ++ [v]) ys → ys.length ≤ 65536 → Calls Tryz.prog 27 #[.pointer (some ⟨sb, 0, none⟩), .int .u64 x] w1 (Sd b0 H bs sb mb bt base (W ++ [v]) ys (tx H n (W ++ [v]) x) w1) :=
          fun x hUx w1 ys hs hi1 hl1 => value_tx hok hm hn3 hks hpd hX n (W ++ [v]) x hf' hnd' hW' hUx w1 ys (hX w w1 hi.top hs.st hx) hi1 hl1
        by_cases k2 : kk H v = 2
        · rw [if_pos k2]
          refine nested_out2 v hU w hi hv (by omega) (fun w1 hs1 hi1 => ?_)
          refine parts_two v hU w1 hi1 hl k2 (fun w2 hs2 hi2 hl2 => ?_)
          exact entries_two (tx H n (W ++ [v])) v hU w2 hi2 hl2 k2 (fun x hxm hUx w3 ys hs3 hi3 hl3 => ih x hUx w3 ys ((hs1.trans hs2).trans hs3) hi3 hl3)
        · rw [if_neg k2]
          by_cases k3 : kk H v = 3
          · rw [if_pos k3]
            refine nested_out2 v hU w hi hv (by omega) (fun w1 hs1 hi1 => ?_)
            refine parts_rec2 v hU w1 hi1 hl k3 (fun w2 hs2 hi2 hl2 => ?_)
            exact fields_two (tx H n (W ++ [v])) v hU w2 hi2 hl2 k3 (hks _ (ob_in hU hk0)) (fun s hsm hUx w3 ys hs3 hi3 hl3 => ih _ hUx w3 ys ((hs1.trans hs2).trans hs3) hi3 hl3)
          · rw [if_neg k3]
            have k4 : kk H v = 4 := by
              simp only [Bool.or_eq_true, beq_iff_eq] at hk
              omega
            refine nested_out2 v hU w hi hv (by omega) (fun w1 hs1 hi1 => ?_)
            exact parts_cell2 v hU w1 hi1 hl k4 (fun w2 hs2 hi2 hl2 => ih _ (at_U hok hU k4) w2 _ (hs1.trans hs2) hi2 hl2)
    · rw [if_neg hk]
      have hk' : (kk H v == 2 || kk H v == 3 || kk H v == 4) = false := by simpa using hk
      exact value_pl2 v hU w hi hl hk' _ (by rw [strOfNums_size]; have := wdL_len hU hok hn3; omega) (fun w1 hb1 => plain_wd hn3 v hU w1 (hi.hs.bw hb1) hk' (hpd w1 (hX w w1 hi.top (hi.st hb1) hx)))

/-- What a word looks like. -/
def txt (H : AHeap) (v : Int) : List Value := tx H (H.2.length + 1) [] v

set_option maxHeartbeats 8000000 in
/-- The program's Text. -/
theorem text_any {b0 : Nat} {H : AHeap} {bs : List Nat} (hn3 : ∀ o ∈ H.2, N3 o) (hks : ∀ o ∈ H.2, ∀ s ∈ o.keys, s.size ≤ 1000000000) (v : Int) (hU : U v) (w : World) (hp : Pd w) (h : HS w b0 H bs) :
    Calls Tryz.prog 11 #[.pointer (some ⟨b0, 0, none⟩), .int .u64 v] w fun e w' => ∃ r, e = .returned (.tuple #[r, .int .i64 (if fits [] (txt H v) = true then 0 else 2)]) ∧ w'.ownsRow w.heap.size 5 1 r (if fits [] (txt H v) = true then txt H v else []).length (if fits [] (txt H v) = true then txt H v else []) ∧ Bw w w' := by
  have HB := hid (SI.begin h)
  have hX : ∀ w1 w2 : World, w.heap.size + 3 ≤ w1.heap.size → St (w.heap.size + 1) w.heap.size (w.heap.size + 3) w1 w2 → Bw w w1 → Bw w w2 := fun w1 w2 _ hs hb =>
    ⟨hs.os.trans hb.os, hs.tape.trans hb.tape, hs.output.trans hb.output, Nat.le_trans hb.size hs.size, fun b h1 => (hs.block b (by omega) (by omega) (by omega)).trans (hb.block b h1)⟩
  have hml : H.2.length ≤ 1000000 := by have := h.most; omega
  have HV := hid (fun w1 h0 h1 => value_tx (X := Bw w) (b0 := b0) (bs := bs) (sb := w.heap.size + 2) (mb := w.heap.size + 1) (bt := w.heap.size) (base := w.heap.size + 3) h.ok hml hn3 hks (fun w2 hb => hp.bw hb) hX (H.2.length + 1) [] v (by simp) (by simp) (by simp) hU w1 [] h0 h1 (by simp))
  change Hid (∀ w1, Bw w w1 → SI w1 b0 H bs (w.heap.size + 2) (w.heap.size + 1) w.heap.size (w.heap.size + 3) [] [] → Calls Tryz.prog 27 #[.pointer (some ⟨w.heap.size + 2, 0, none⟩), .int .u64 v] w1 (Sd b0 H bs (w.heap.size + 2) (w.heap.size + 1) w.heap.size (w.heap.size + 3) [] [] (txt H v) w1)) at HV
  clear h hX hp hn3 hks hml hU
  generalize txt H v = t at HV ⊢
  have hmm := @run_makeMap Tryz.prog
  cases hf : fits [] t
  · have HF := hid hf
    rw [if_neg (by simp), if_neg (by simp)]
    clear hf
    go_enter Tryz.func11, Tryz.ntmps11
    go_wp2_with (first
      | (go_at_call 27; refine (HV.out _ ((((Bw.refl w).alloc _).alloc _).alloc _) HB.out).mono ?_; rintro e w1 ⟨he1, hs1, _⟩; rw [HF.out] at he1; subst he1; have HT1 := hid hs1.st; clear hs1)
      | fail)
    all_goals go_ret2
    all_goals refine ⟨_, rfl, ⟨rfl, .inl ⟨rfl, rfl⟩⟩, ?_⟩
    all_goals exact ⟨HT1.out.os, HT1.out.tape, HT1.out.output, by have := HT1.out.size; simp at this; omega, fun b hb => (HT1.out.block b (by omega) (by omega) (by omega)).trans (((((Bw.refl w).alloc _).alloc _).alloc _).block b hb)⟩
  · have HF := hid hf
    rw [if_pos rfl, if_pos rfl]
    clear hf
    go_enter Tryz.func11, Tryz.ntmps11
    go_wp2_with (first
      | (go_at_call 27; refine (HV.out _ ((((Bw.refl w).alloc _).alloc _).alloc _) HB.out).mono ?_; rintro e w1 ⟨he1, hs1, hi1'⟩; rw [HF.out] at he1; subst he1; have hi1 := hi1' HF.out; obtain ⟨r, hb1, ho1⟩ := hi1.tx; have y0 := hb1.cell 0; have HO1 := hid ho1; have HT1 := hid hs1.st; clear hi1 hi1' hs1 hb1 ho1)
      | fail)
    all_goals go_ret2
    all_goals refine ⟨_, rfl, own_base (by simpa using HO1.out) (by omega), ?_⟩
    all_goals exact ⟨HT1.out.os, HT1.out.tape, HT1.out.output, by have := HT1.out.size; simp at this; omega, fun b hb => (HT1.out.block b (by omega) (by omega) (by omega)).trans (((((Bw.refl w).alloc _).alloc _).alloc _).block b hb)⟩

end Go.Proofs.YtimidonagbfjcaaGreatDoor

set_option linter.unusedSimpArgs false
set_option linter.unusedVariables false
namespace Go.Proofs.YtimidonagbfjcaaGreatDoor
open Go.ChangeShapes Go.WideShapes Go.ChangeAt Go.RowKit

/-- Yes or no. -/
def IsB (e : Ending) : Prop := ∃ q : Bool, e = .returned (.bool q)

set_option maxRecDepth 100000 in
set_option maxHeartbeats 8000000 in
theorem wide_any (ao aw : Option Addr) (co cw : Nat) (Os : List AObj) (Ws : List (Int × Int × Int)) (w : World) (hw : WU w ao aw Os Ws) (hm : muchW Os Ws = false) :
    Calls Tryz.prog 5 #[.agg #[.slice ao Os.length co, .slice aw Ws.length cw]] w fun e w' => IsB e ∧ Bw w w' := by
  have HW := hid hw
  have hO : Os.length ≤ 30 := (much_no4 hm).1
  have HG := hid (much_no4 hm).2.2
  clear hw hm
  go_enter Tryz.func5, Tryz.ntmps5
  go_wp2
  go_loopw [3, 4] (fun n j wr => ∃ (k N : Nat), k ≤ Os.length ∧ j = .int .i64 k ∧ n = .int .i64 N ∧ N ≤ 100000 ∧ wr = w.alloc (.cells #[.slice ao Os.length co, .slice aw Ws.length cw] 25)) (fun _ j _ => Os.length - (intOf j).toNat)
  case atStart => exact ⟨0, 1, Nat.zero_le _, rfl, rfl, by omega, rfl⟩
  case round =>
    obtain ⟨k, N, hk, rfl, rfl, hN, rfl⟩ := hrel
    by_cases hlt : k < Os.length
    · have hb1 : (0 : Int) ≤ (k : Int) := by omega
      have hb2 : (k : Int) < (Os.length : Int) := by omega
      have hg := (big_no (HG.out _ (List.getElem_mem hlt))).2.1
      obtain ⟨b, off, ⟨xb, xv, xk⟩, rfl, hb, hc, how⟩ := HW.out.1 k hlt
      generalize Os[k] = o at hc how hg
      obtain ⟨av, cv, ev⟩ := how.ol.2.1.form
      subst ev
      have q2 : w.cell? ⟨b, off + k * 7 + 2, none⟩ = some (.slice av o.vals.length cv) := hc 2 (by omega)
      clear hc how
      by_cases h1 : 1 < o.vals.length
      · have t1 : decide (1 < (o.vals.length : Int)) = true := decide_eq_true (by omega)
        have hmb : N * o.vals.length ≤ 1200000 := by
          have := Nat.mul_le_mul hN hg
          omega
        have hmw : IntKind.i64.wrap ((N : Int) * (o.vals.length : Int)) = ((N * o.vals.length : Nat) : Int) := by
          rw [← Int.natCast_mul, IntKind.wrap_i64]; omega
        obtain ⟨M, hM⟩ : ∃ M, M = N * o.vals.length := ⟨_, rfl⟩
        have hmw2 : (N : Int) * (o.vals.length : Int) = (M : Int) := by rw [hM, Int.natCast_mul]
        rw [← hM] at hmb hmw
        clear hM
        by_cases h2 : 100000 < M
        · have t2 : decide (100000 < (M : Int)) = true := decide_eq_true (by omega)
          go_wp2
          all_goals go_ret
          all_goals exact ⟨⟨_, rfl⟩, Bw.alloc (Bw.refl _) _⟩
        · have t2 : decide (100000 < (M : Int)) = false := decide_eq_false (by omega)
          go_wp2
          go_roundw
          case rel => exact ⟨k + 1, M, by omega, by go_num, rfl, by omega, trivial⟩
          case measure => simp [intOf]; omega
      · have t1 : decide (1 < (o.vals.length : Int)) = false := decide_eq_false (by omega)
        have t2 : decide (100000 < (N : Int)) = false := decide_eq_false (by omega)
        go_wp2
        go_roundw
        case rel => exact ⟨k + 1, N, by omega, by go_num, rfl, hN, trivial⟩
        case measure => simp [intOf]; omega
    · have hn0 : ¬ ((k : Int) < (Os.length : Int)) := by omega
      go_wp2
      all_goals go_ret
      all_goals exact ⟨⟨_, rfl⟩, Bw.alloc (Bw.refl _) _⟩

/-- The library's table of de Bruijn's bits. -/
def bruTab : List Int := [0, 1, 56, 2, 57, 49, 28, 3, 61, 58, 42, 50, 38, 29, 17, 4, 62, 47, 59, 36, 45, 43, 51, 22, 53, 39, 33, 30, 24, 18, 12, 5, 63, 55, 48, 27, 60, 41, 37, 16, 46, 35, 44, 21, 52, 32, 23, 11, 54, 26, 40, 15, 34, 20, 31, 10, 25, 14, 19, 9, 13, 8, 7, 6]

theorem bru_datum : (Rows.laid_math_bits_deBruijn64tab : DataW Unit) = Lib.tabData .u8 bruTab := by rfl

theorem pd_of_laid {W : World} (h : laidMetH Tryz.prog laidS W) : Pd W := by
  refine ⟨pw_of_laid h, ?_⟩
  rw [MakeChecks.laidMetH_plain _ _ _ (by kernel_rfl)] at h
  obtain ⟨ps, ⟨g0, t0, c0, f0, p0, q0, _, _, _, _, r0, e0⟩, _⟩ := h
  obtain ⟨g1, t1, c1, f1, p1, q1, hg2, ht2, hv2, hd2, _, _⟩ := r0
  rw [bru_datum] at hd2
  have hgn : Tryz.prog.globalNamed "math/bits.deBruijn64tab" = some 2 := by kernel_rfl
  obtain rfl := Option.some.inj (hgn.symm.trans hg2)
  have hty : (Tryz.prog.globals[2]?).map (·.type) = some 163 := by kernel_rfl
  obtain rfl := Option.some.inj (hty.symm.trans ht2)
  have hti : Lib.TabIs Tryz.prog W "math/bits.deBruijn64tab" .u8 bruTab := by
    unfold Lib.TabIs
    rw [hv2, ← Lib.cells_of_tab (n := 64) (e := 5) (by kernel_rfl) (by kernel_rfl) (by kernel_rfl) (by kernel_rfl) hd2]
  exact hti.cell hgn 15 (by decide)

end Go.Proofs.YtimidonagbfjcaaGreatDoor

