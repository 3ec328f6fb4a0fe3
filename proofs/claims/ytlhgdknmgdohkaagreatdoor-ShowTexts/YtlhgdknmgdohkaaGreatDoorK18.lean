/- Both heaps of a world, and what holds of them. · What a word looks like: the program's Text, whole. · Deep does not ask which of two words stands first: plain data. -/
import Derived.Test.YtlhgdknmgdohkaaGreatDoorK15
import Derived.Test.YtlhgdknmgdohkaaGreatDoorTCk
import Derived.Test.YtlhgdknmgdohkaaGreatDoorK13
import Derived.Test.YtlhgdknmgdohkaaGreatDoorK17
import Derived.Test.YtlhgdknmgdohkaaGreatDoorVCk
import Derived.Laws.EntriesVeiled
import Derived.Test.YtlhgdknmgdohkaaGreatDoorK14
set_option linter.unusedSimpArgs false
set_option linter.unusedVariables false
namespace Go.Proofs.YtlhgdknmgdohkaaGreatDoor
open Go Go.RowKit

theorem OU.bw {w w' : World} {o : AObj} {vb vv vk : Value} (h : OU w o vb vv vk) (hb : Bw w w') : OU w' o vb vv vk :=
  ⟨h.ol.below hb, h.u, h.b, h.m1, h.m2, h.m3, h.ks, h.nn, h.nr, h.ni⟩

theorem WU.bw {w w' : World} {ao aw : Option Addr} {Os : List AObj} {Ws : List (Int × Int × Int)} (h : WU w ao aw Os Ws) (hb : Bw w w') : WU w' ao aw Os Ws := by
  refine ⟨fun i hi => ?_, fun i hi => ?_⟩
  · obtain ⟨b, off, x, e, hlt, hc, ho⟩ := h.1 i hi
    exact ⟨b, off, x, e, Nat.lt_of_lt_of_le hlt hb.size, fun j hj => (cell_bw4 hb hlt).trans (hc j hj), ho.bw hb⟩
  · obtain ⟨b, off, e, hlt, c0, c1, c2, hu⟩ := h.2 i hi
    exact ⟨b, off, e, Nat.lt_of_lt_of_le hlt hb.size, (cell_bw4 hb hlt).trans c0, (cell_bw4 hb hlt).trans c1, (cell_bw4 hb hlt).trans c2, hu⟩

theorem WU.us {w : World} {ao aw : Option Addr} {Os : List AObj} {Ws : List (Int × Int × Int)} (h : WU w ao aw Os Ws) : ∀ x ∈ Ws, U x.1 := by
  intro x hx
  obtain ⟨i, hi, rfl⟩ := List.getElem_of_mem hx
  obtain ⟨b, off, e, hlt, c0, c1, c2, hu⟩ := h.2 i hi
  exact hu.1

/-- Both heaps of a world that is not too much, and what holds of them. -/
theorem made_all {ao aw : Option Addr} {co cw : Nat} {Os : List AObj} {Ws : List (Int × Int × Int)} {w : World} (hw : WU w ao aw Os Ws) (hm : muchW Os Ws = false) :
    Bare (madeH Os Ws) ∧ Neat (madeH Os Ws) ∧ ∀ w1, Bw w w1 → Calls Tryz.prog 9 #[.agg #[.slice ao Os.length co, .slice aw Ws.length cw]] w1 fun e w' => ∃ b0 bs ar cr, e = .returned (.tuple #[.pointer (some ⟨b0, 0, none⟩), .agg #[.int .i64 (madeH Os Ws).1, .slice ar (madeH Os Ws).2.length cr]]) ∧ HS w' b0 (madeH Os Ws) bs ∧ RdH w' (fun b => b ∉ bs) (.agg #[.int .i64 (madeH Os Ws).1, .slice ar (madeH Os Ws).2.length cr]) (madeH Os Ws) ∧ Bw w1 w' ∧ ∀ b ∈ bs, w1.heap.size ≤ b := by
  have h30 := much_no4 hm
  have hwr : ∀ w1, Bw w w1 → WR w1 ao aw Os Ws := fun w1 hb => (hw.bw hb).wr hm
  refine ⟨made_bare hw.us, made_neat hw.us, fun w1 hb => ?_⟩
  · refine (made_any ao aw co cw Os Ws w1 (hwr w1 hb) (by omega) (by omega)).mono fun e w' ⟨b0, bs, va, he, hs, hr, hb', hl⟩ => ?_
    obtain ⟨ar, cr, ev⟩ := hr.parts
    have ev' : va = .slice ar (madeH Os Ws).2.length cr := by simpa using ev
    subst ev'
    exact ⟨b0, bs, ar, cr, he, hs, hr, hb', hl⟩

/-- The numbers and the keys of all objects are such. -/
def Sane (H : AHeap) : Prop := ∀ o ∈ H.2, N3 o ∧ ∀ s ∈ o.keys, s.size ≤ 1000000000

theorem plO_sane {o : AObj} (hk : mkOK o = true) (hn : -9223372036854775808 ≤ o.num ∧ o.num ≤ 9223372036854775807) (hr : U o.re) (hi : U o.im) (hs : ∀ s ∈ o.keys, s.size ≤ 1000000000) : N3 (plO o) ∧ ∀ s ∈ (plO o).keys, s.size ≤ 1000000000 := by
  have hk9 : 1 ≤ o.kind ∧ o.kind ≤ 9 := by unfold mkOK at hk; simp at hk; omega
  have u0 : U 0 := ⟨by decide, by decide⟩
  have n0 : (-9223372036854775808 : Int) ≤ 0 ∧ (0 : Int) ≤ 9223372036854775807 := by decide
  refine ⟨⟨?_, ?_, ?_, ?_⟩, ?_⟩
  · unfold plO; repeat' split
    all_goals first | exact n0 | exact hn
  · unfold plO; repeat' split
    all_goals first | exact u0 | exact hr
  · unfold plO; repeat' split
    all_goals first | exact u0 | exact hi
  · rw [plO_kind]; exact hk9
  · unfold plO; repeat' split
    all_goals first | exact hs | (intro s h; simp [oStr, oArr, oFun, oCplx, oItem, AObj.keys] at h)

theorem Sane.mk {H : AHeap} (h : Sane H) (o : AObj) (hn : -9223372036854775808 ≤ o.num ∧ o.num ≤ 9223372036854775807) (hr : U o.re) (hi : U o.im) (hs : ∀ s ∈ o.keys, s.size ≤ 1000000000) : Sane (mkH H o) := by
  unfold mkH
  split
  · rename_i hk
    unfold aMakeH
    split
    · intro x hx
      rcases List.mem_append.1 hx with hx | hx
      · exact h x hx
      · rw [List.mem_singleton] at hx; subst hx; exact plO_sane hk hn hr hi hs
    · exact h
  · exact h

theorem Sane.wr {H : AHeap} (h : Sane H) (x : Int × Int × Int) (hU : U x.1) : Sane (wrH H x) := by
  unfold wrH aSetH
  split
  · rename_i hc
    intro o ho
    rcases List.mem_or_eq_of_mem_set ho with ho | ho
    · exact h o ho
    · subst ho
      have hm := (ob_mem (H := H) hU (by omega)).1
      exact h (ob H x.1) hm
  · exact h

theorem foldl_sane : ∀ (Os : List AObj) (H : AHeap), (∀ o ∈ Os, (-9223372036854775808 ≤ o.num ∧ o.num ≤ 9223372036854775807) ∧ U o.re ∧ U o.im ∧ ∀ s ∈ o.keys, s.size ≤ 1000000000) → Sane H → Sane (Os.foldl mkH H)
  | [], H, _, h => h
  | o :: r, H, hu, h => foldl_sane r _ (fun y hy => hu y (List.mem_cons_of_mem _ hy)) (by obtain ⟨h1, h2, h3, h4⟩ := hu o (List.mem_cons_self ..); exact h.mk o h1 h2 h3 h4)

theorem foldl_saneW : ∀ (Ws : List (Int × Int × Int)) (H : AHeap), (∀ x ∈ Ws, U x.1) → Sane H → Sane (Ws.foldl wrH H)
  | [], H, _, h => h
  | x :: r, H, hu, h => foldl_saneW r _ (fun y hy => hu y (List.mem_cons_of_mem _ hy)) (h.wr x (hu x (List.mem_cons_self ..)))

theorem made_sane {w : World} {ao aw : Option Addr} {Os : List AObj} {Ws : List (Int × Int × Int)} (hw : WU w ao aw Os Ws) (hm : muchW Os Ws = false) : Sane (madeH Os Ws) := by
  refine foldl_saneW Ws _ hw.us (foldl_sane Os _ (fun o ho => ?_) (fun o ho => by simp at ho))
  have hg := big_no ((much_no4 hm).2.2 _ ho)
  obtain ⟨i, hi, rfl⟩ := List.getElem_of_mem ho
  obtain ⟨b, off, x, e, hlt, hc, hou⟩ := hw.1 i hi
  exact ⟨hou.nn, hou.nr, hou.ni, fun s hs => by have := hg.2.2.2 s hs; omega⟩

theorem mkH_cap (H : AHeap) (o : AObj) (h : H.1 = 100 ∧ (H.2.length : Int) ≤ 100) : (mkH H o).1 = 100 ∧ ((mkH H o).2.length : Int) ≤ 100 := by
  unfold mkH
  split
  · unfold aMakeH aMakeE
    repeat' split
    all_goals first
      | exact h
      | (refine ⟨h.1, ?_⟩; simp only [List.length_append, List.length_singleton]; omega)
      | (rename_i h1 h2; exact absurd h2 (by decide))
      | skip
  · exact h

end Go.Proofs.YtlhgdknmgdohkaaGreatDoor

set_option linter.unusedSimpArgs false
set_option linter.unusedVariables false
namespace Go.Proofs.YtlhgdknmgdohkaaGreatDoor
open Go Go.RowKit

/-- What a word looks like within W. (The fuel: one more than there are objects is enough.) -/
def tx (H : AHeap) : Nat → List Int → Int → List Value
  | 0, _, _ => []
  | n + 1, W, v =>
    if (kk H v == 2 || kk H v == 3 || kk H v == 4) = true then
      if v ∈ W then Lib.strCells (⟨#[94]⟩ ++ strOfNums (itoaL ((W.length : Int) - (W.idxOf v : Int))))
      else if kk H v = 2 then [.int .u8 91] ++ (txs (tx H n (W ++ [v])) 0 (ob H v).vals ++ [.int .u8 93])
      else if kk H v = 3 then [.int .u8 123] ++ (fxs (tx H n (W ++ [v])) 0 (flds H v) ++ [.int .u8 125])
      else [.int .u8 38] ++ tx H n (W ++ [v]) (aAtV H v 0)
    else Lib.strCells (strOfNums (wdL H v))

theorem wdL_len {H : AHeap} {v : Int} (hU : U v) (hok : HOK H) (hn3 : ∀ o ∈ H.2, N3 o) : (wdL H v).length ≤ 5000000 := by
  unfold wdL
  by_cases k0 : kk H v = 0
  · rw [if_pos k0]; have := plL_len v hU; omega
  have hoo := ob_ok (v := v) hok hU (kk_ref k0).2.1
  have hn : N3 (ob H v) := hn3 _ (ob_in hU k0)
  have hl := itoaL_len _ hn.1.1 hn.1.2
  have hq := qAll_len (ob H v).bytes
  have hb := hoo.2.2.2.2.2.1
  rw [if_neg k0]
  repeat' split
  all_goals first
    | (simp only [qStr, List.length_append, List.length_cons, List.length_nil]; omega)
    | (simp only [List.length_append, List.length_cons, List.length_nil, nibs_len]; omega)

theorem at_U {H : AHeap} {v i : Int} (hok : HOK H) (hU : U v) (hk : kk H v = 4) : U (aAtV H v i) := by
  have ho := ob_ok (v := v) hok hU (kk_ref (by omega)).2.1
  have u0 : U 0 := ⟨by decide, by decide⟩
  unfold aAtV
  rw [if_neg (by omega)]
  repeat' split
  · rw [List.getD_eq_getElem?_getD]
    cases h : (ob H v).vals[i.toNat]? with
    | none => exact u0
    | some x => exact ho.2.2.2.1 x (List.mem_of_getElem? h)
  · exact u0
  · exact u0

theorem nodup_lt : ∀ (n : Nat) (l : List Nat), l.Nodup → (∀ k ∈ l, k < n) → l.length ≤ n
  | 0, [], _, _ => Nat.le_refl _
  | 0, k :: l, _, h => absurd (h k (List.mem_cons_self ..)) (by omega)
  | n + 1, l, hnd, h => by
    by_cases hm : n ∈ l
    · have h1 := nodup_lt n (l.erase n) (hnd.erase n) (fun k hk => by
        have h2 := hnd.mem_erase_iff.1 hk
        have h3 := h k h2.2
        have h4 := h2.1
        omega)
      rw [List.length_erase_of_mem hm] at h1
      omega
    · have := nodup_lt n l hnd (fun k hk => by
        have h3 := h k hk
        have h4 : k ≠ n := fun e => hm (e ▸ hk)
        omega)
      omega

theorem ref_inj {x y : Int} (h1 : kd x = 2) (h2 : kd y = 2) (e : idxV x = idxV y) : x = y := by
  have m : ∀ z : Int, kd z = 2 → z % 4 = 2 := by
    intro z hz
    unfold kd at hz
    repeat' split at hz
    all_goals omega
  have m1 := m x h1
  have m2 := m y h2
  unfold idxV at e
  rw [if_pos (.inl h1), if_pos (.inl h2)] at e
  omega

/-- Words that are objects, each once: no more than there are objects. -/
theorem within_len {H : AHeap} : ∀ {W : List Int}, W.Nodup → (∀ x ∈ W, U x ∧ kk H x ≠ 0) → W.length ≤ H.2.length := by
  intro W hnd hW
  have hinj : ∀ x ∈ W, ∀ y ∈ W, (idxV x).toNat = (idxV y).toNat → x = y := by
    intro x hx y hy he
    have h1 := kk_ref (hW x hx).2
    have h2 := kk_ref (hW y hy).2
    have b1 := idx_bd x (hW x hx).1
    have b2 := idx_bd y (hW y hy).1
    have e : idxV x = idxV y := by omega
    exact ref_inj h1.1 h2.1 e
  have hnd2 : (W.map fun x => (idxV x).toNat).Nodup := by
    rw [List.Nodup, List.pairwise_map]
    exact List.Pairwise.imp_of_mem (fun ha hb hab e => hab (hinj _ ha _ hb e)) hnd
  have hsub : ∀ k ∈ W.map (fun x => (idxV x).toNat), k < H.2.length := by
    intro k hk
    obtain ⟨x, hx, rfl⟩ := List.mem_map.1 hk
    have h1 := kk_ref (hW x hx).2
    have b1 := idx_bd x (hW x hx).1
    omega
  have := nodup_lt _ _ hnd2 hsub
  simpa using this

/-- The program's value, of any word, whether there is room or not. -/
theorem value_tx {X : World → Prop} {b0 : Nat} {H : AHeap} {bs : List Nat} {sb mb bt base : Nat} (hok : HOK H) (hm : H.2.length ≤ 1000000) (hn3 : ∀ o ∈ H.2, N3 o) (hks : ∀ o ∈ H.2, ∀ s ∈ o.keys, s.size ≤ 1000000000) (hpd : ∀ w, X w → Pd w) (hX : ∀ w w', base ≤ w.heap.size → St mb bt base w w' → X w → X w') :
    ∀ (n : Nat) (W : List Int) (v : Int), H.2.length < n + W.length → W.Nodup → (∀ x ∈ W, U x ∧ kk H x ≠ 0) → U v → ∀ (w : World) (xs : List Value), X w → SI w b0 H bs sb mb bt base W xs → xs.length ≤ 65536 →
      Calls Tryz.prog 38 #[.pointer (some ⟨sb, 0, none⟩), .int .u64 v] w (Sd b0 H bs sb mb bt base W xs (tx H n W v) w)
  | 0, W, v, hf, hnd, hW, _, _, _, _, _, _ => by
    have := within_len hnd hW
    omega
  | n + 1, W, v, hf, hnd, hW, hU, w, xs, hx, hi, hl => by
    have hwl := within_len hnd hW
    rw [tx]
    by_cases hk : (kk H v == 2 || kk H v == 3 || kk H v == 4) = true
    · rw [if_pos hk]
      have hk0 : kk H v ≠ 0 := by
        intro e
        rw [e] at hk
        revert hk
        decide
      refine value_nest2 v hU w hi hk ?_
      by_cases hv : v ∈ W
      · rw [if_pos hv]
        have hlt : W.idxOf v < W.length := List.idxOf_lt_length_iff.2 hv
        refine nested_in2 v hU w hi hl (W.idxOf v) (by rw [List.getElem?_eq_getElem hlt]; simp) (by omega) _ (by rw [strOfNums_size]; have := itoaL_len ((W.length : Int) - (W.idxOf v : Int)) (by omega) (by omega); omega) (fun w1 hb1 => ?_)
        exact itoa_any _ (by omega) (by omega) w1 (hpd w1 (hX w w1 hi.top (hi.st hb1) hx)).1
      · rw [if_neg hv]
        have hnd' : (W ++ [v]).Nodup := by
          rw [List.nodup_append]
          refine ⟨hnd, by simp, ?_⟩
          intro a ha b hb e
          rw [List.mem_singleton] at hb
          exact hv (hb ▸ e ▸ ha)
        have hW' : ∀ x ∈ W ++ [v], U x ∧ kk H x ≠ 0 := by
          intro x hx'
          rcases List.mem_append.1 hx' with h | h
          · exact hW x h
          · rw [List.mem_singleton] at h; subst h; exact ⟨hU, hk0⟩
        have hf' : H.2.length < n + (W ++ [v]).length := by rw [List.length_append, List.length_singleton]; omega
        have ih : ∀ x, U x → ∀ (w1 : World) (ys : List Value), Sz mb bt base w w1 → SI w1 b0 H bs sb mb bt base (W ++ [v]) ys → ys.length ≤ 65536 → Calls Tryz.prog 38 #[.pointer (some ⟨sb, 0, none⟩), .int .u64 x] w1 (Sd b0 H bs sb mb bt base (W ++ [v]) ys (tx H n (W ++ [v]) x) w1) :=
          fun x hUx w1 ys hs hi1 hl1 => value_tx hok hm hn3 hks hpd hX n (W ++ [v]) x hf' hnd' hW' hUx w1 ys (hX w w1 hi.top hs.st hx) hi1 hl1
        by_cases k2 : kk H v = 2
        · rw [if_pos k2]
          refine nested_out2 v hU w hi hv (by omega) (fun w1 hs1 hi1 => ?_)
          refine parts_two v hU w1 hi1 hl k2 (fun w2 hs2 hi2 hl2 => ?_)
          exact entries_two (tx H n (W ++ [v])) v hU w2 hi2 hl2 k2 (fun x hxm hUx w3 ys hs3 hi3 hl3 => ih x hUx w3 ys ((hs1.trans hs2).trans hs3) hi3 hl3)
        · rw [if_neg k2]
          by_cases k3 : kk H v = 3
          · rw [if_pos k3]
            refine nested_out2 v hU w hi hv (by omega) (fun w1 hs1 hi1 => ?_)
            refine parts_rec2 v hU w1 hi1 hl k3 (fun w2 hs2 hi2 hl2 => ?_)
            exact fields_two (tx H n (W ++ [v])) v hU w2 hi2 hl2 k3 (hks _ (ob_in hU hk0)) (fun s hsm hUx w3 ys hs3 hi3 hl3 => ih _ hUx w3 ys ((hs1.trans hs2).trans hs3) hi3 hl3)
          · rw [if_neg k3]
            have k4 : kk H v = 4 := by
              simp only [Bool.or_eq_true, beq_iff_eq] at hk
              omega
            refine nested_out2 v hU w hi hv (by omega) (fun w1 hs1 hi1 => ?_)
            exact parts_cell2 v hU w1 hi1 hl k4 (fun w2 hs2 hi2 hl2 => ih _ (at_U hok hU k4) w2 _ (hs1.trans hs2) hi2 hl2)
    · rw [if_neg hk]
      have hk' : (kk H v == 2 || kk H v == 3 || kk H v == 4) = false := by simpa using hk
      exact value_pl2 v hU w hi hl hk' _ (by rw [strOfNums_size]; have := wdL_len hU hok hn3; omega) (fun w1 hb1 => plain_wd hn3 v hU w1 (hi.hs.bw hb1) hk' (hpd w1 (hX w w1 hi.top (hi.st hb1) hx)))

/-- What a word looks like. -/
def txt (H : AHeap) (v : Int) : List Value := tx H (H.2.length + 1) [] v

set_option maxHeartbeats 8000000 in
/-- The program's Text. -/
theorem text_any {b0 : Nat} {H : AHeap} {bs : List Nat} (hn3 : ∀ o ∈ H.2, N3 o) (hks : ∀ o ∈ H.2, ∀ s ∈ o.keys, s.size ≤ 1000000000) (v : Int) (hU : U v) (w : World) (hp : Pd w) (h : HS w b0 H bs) :
    Calls Tryz.prog 16 #[.pointer (some ⟨b0, 0, none⟩), .int .u64 v] w fun e w' => ∃ r, e = .returned (.tuple #[r, .int .i64 (if fits [] (txt H v) = true then 0 else 2)]) ∧ w'.ownsRow w.heap.size 5 1 r (if fits [] (txt H v) = true then txt H v else []).length (if fits [] (txt H v) = true then txt H v else []) ∧ Bw w w' := by
  have HB := hid (SI.begin h)
  have hX : ∀ w1 w2 : World, w.heap.size + 3 ≤ w1.heap.size → St (w.heap.size + 1) w.heap.size (w.heap.size + 3) w1 w2 → Bw w w1 → Bw w w2 := fun w1 w2 _ hs hb =>
    ⟨hs.os.trans hb.os, hs.tape.trans hb.tape, hs.output.trans hb.output, Nat.le_trans hb.size hs.size, fun b h1 => (hs.block b (by omega) (by omega) (by omega)).trans (hb.block b h1)⟩
  have hml : H.2.length ≤ 1000000 := by have := h.most; omega
  have HV := hid (fun w1 h0 h1 => value_tx (X := Bw w) (b0 := b0) (bs := bs) (sb := w.heap.size + 2) (mb := w.heap.size + 1) (bt := w.heap.size) (base := w.heap.size + 3) h.ok hml hn3 hks (fun w2 hb => hp.bw hb) hX (H.2.length + 1) [] v (by simp) (by simp) (by simp) hU w1 [] h0 h1 (by simp))
  change Hid (∀ w1, Bw w w1 → SI w1 b0 H bs (w.heap.size + 2) (w.heap.size + 1) w.heap.size (w.heap.size + 3) [] [] → Calls Tryz.prog 38 #[.pointer (some ⟨w.heap.size + 2, 0, none⟩), .int .u64 v] w1 (Sd b0 H bs (w.heap.size + 2) (w.heap.size + 1) w.heap.size (w.heap.size + 3) [] [] (txt H v) w1)) at HV
  clear h hX hp hn3 hks hml hU
  generalize txt H v = t at HV ⊢
  have hmm := @run_makeMap Tryz.prog
  cases hf : fits [] t
  · have HF := hid hf
    rw [if_neg (by simp), if_neg (by simp)]
    clear hf
    go_enter Tryz.func16, Tryz.ntmps16
    go_wp2_with (first
      | (go_at_call 38; refine (HV.out _ ((((Bw.refl w).alloc _).alloc _).alloc _) HB.out).mono ?_; rintro e w1 ⟨he1, hs1, _⟩; rw [HF.out] at he1; subst he1; have HT1 := hid hs1.st; clear hs1)
      | fail)
    all_goals go_ret2
    all_goals refine ⟨_, rfl, ⟨rfl, .inl ⟨rfl, rfl⟩⟩, ?_⟩
    all_goals exact ⟨HT1.out.os, HT1.out.tape, HT1.out.output, by have := HT1.out.size; simp at this; omega, fun b hb => (HT1.out.block b (by omega) (by omega) (by omega)).trans (((((Bw.refl w).alloc _).alloc _).alloc _).block b hb)⟩
  · have HF := hid hf
    rw [if_pos rfl, if_pos rfl]
    clear hf
    go_enter Tryz.func16, Tryz.ntmps16
    go_wp2_with (first
      | (go_at_call 38; refine (HV.out _ ((((Bw.refl w).alloc _).alloc _).alloc _) HB.out).mono ?_; rintro e w1 ⟨he1, hs1, hi1'⟩; rw [HF.out] at he1; subst he1; have hi1 := hi1' HF.out; obtain ⟨r, hb1, ho1⟩ := hi1.tx; have y0 := hb1.cell 0; have HO1 := hid ho1; have HT1 := hid hs1.st; clear hi1 hi1' hs1 hb1 ho1)
      | fail)
    all_goals go_ret2
    all_goals refine ⟨_, rfl, own_base (by simpa using HO1.out) (by omega), ?_⟩
    all_goals exact ⟨HT1.out.os, HT1.out.tape, HT1.out.output, by have := HT1.out.size; simp at this; omega, fun b hb => (HT1.out.block b (by omega) (by omega) (by omega)).trans (((((Bw.refl w).alloc _).alloc _).alloc _).block b hb)⟩

end Go.Proofs.YtlhgdknmgdohkaaGreatDoor

set_option linter.unusedSimpArgs false
set_option linter.unusedVariables false
namespace Go.Proofs.YtlhgdknmgdohkaaGreatDoor
open Go Go.RowKit

theorem wrH_cap (H : AHeap) (x : Int × Int × Int) (h : H.1 = 100 ∧ (H.2.length : Int) ≤ 100) : (wrH H x).1 = 100 ∧ ((wrH H x).2.length : Int) ≤ 100 := by
  unfold wrH aSetH
  split
  · exact ⟨h.1, by simpa using h.2⟩
  · exact h

theorem made_100 (Os : List AObj) (Ws : List (Int × Int × Int)) : (madeH Os Ws).2.length ≤ 100 := by
  have h1 : ∀ (Os : List AObj) (H : AHeap), (H.1 = 100 ∧ (H.2.length : Int) ≤ 100) → ((Os.foldl mkH H).1 = 100 ∧ ((Os.foldl mkH H).2.length : Int) ≤ 100) := by
    intro Os
    induction Os with
    | nil => intro H h; exact h
    | cons o r ih => intro H h; exact ih _ (mkH_cap H o h)
  have h2 : ∀ (Ws : List (Int × Int × Int)) (H : AHeap), (H.1 = 100 ∧ (H.2.length : Int) ≤ 100) → ((Ws.foldl wrH H).1 = 100 ∧ ((Ws.foldl wrH H).2.length : Int) ≤ 100) := by
    intro Ws
    induction Ws with
    | nil => intro H h; exact h
    | cons o r ih => intro H h; exact ih _ (wrH_cap H o h)
  have := (h2 Ws _ (h1 Os (100, []) ⟨rfl, by decide⟩)).2
  unfold madeH
  omega

theorem eqW_comm (H : AHeap) (a b : Int) : eqW H a b = eqW H b a := by
  unfold eqW
  by_cases hk : kk H a = kk H b
  · have e1 : decide (a = b) = decide (b = a) := by simp [eq_comm]
    have e2 : decide ((ob H a).bytes = (ob H b).bytes) = decide ((ob H b).bytes = (ob H a).bytes) := by simp [eq_comm]
    have e3 : decide ((ob H a).re = (ob H b).re) = decide ((ob H b).re = (ob H a).re) := by simp [eq_comm]
    have e4 : decide ((ob H a).im = (ob H b).im) = decide ((ob H b).im = (ob H a).im) := by simp [eq_comm]
    rw [e1, e2, e3, e4, hk]
  · have e1 : decide (a = b) = decide (b = a) := by simp [eq_comm]
    have e2 : decide (kk H a = kk H b) = false := decide_eq_false hk
    have e3 : decide (kk H b = kk H a) = false := decide_eq_false (fun e => hk e.symm)
    rw [e1, e2, e3, Bool.false_and, Bool.false_and]

/-- Nothing is amiss with a pair at first sight: both are objects with parts, of one kind, with parts that can be held against one another, all of them in S or the same. -/
def Fine (H : AHeap) (S : List (Int × Int)) (p : Int × Int) : Prop :=
  eqW H p.1 p.2 = false ∧ kk H p.1 = kk H p.2 ∧ (kk H p.1 = 2 ∨ kk H p.1 = 3 ∨ kk H p.1 = 4) ∧ ∃ ps, kids H p.1 p.2 = some ps ∧ ∀ q ∈ ps, q ∈ S ∨ eqW H q.1 q.2 = true

theorem Fine.mono {H : AHeap} {S T : List (Int × Int)} {p : Int × Int} (h : Fine H S p) (hs : ∀ q ∈ S, q ∈ T) : Fine H T p := by
  obtain ⟨h1, h2, h3, ps, h4, h5⟩ := h
  exact ⟨h1, h2, h3, ps, h4, fun q hq => (h5 q hq).imp (hs q) id⟩

/-- What was met from Ms to Ns is fine. -/
def Grew (H : AHeap) (Ms Ns : List (Int × Int)) : Prop := (∀ p ∈ Ms, p ∈ Ns) ∧ ∀ p ∈ Ns, p ∉ Ms → Fine H Ns p

theorem Grew.refl (H : AHeap) (Ms : List (Int × Int)) : Grew H Ms Ms := ⟨fun _ h => h, fun _ h n => absurd h n⟩
theorem Grew.trans {H : AHeap} {A B C : List (Int × Int)} (h : Grew H A B) (k : Grew H B C) : Grew H A C :=
  ⟨fun p hp => k.1 p (h.1 p hp), fun p hp hn => by
    by_cases hb : p ∈ B
    · exact (h.2 p hb hn).mono k.1
    · exact k.2 p hp hb⟩

/-- Pairs of objects, each once. -/
def Valid (H : AHeap) (Ms : List (Int × Int)) : Prop := Ms.Nodup ∧ ∀ p ∈ Ms, (U p.1 ∧ kk H p.1 ≠ 0) ∧ (U p.2 ∧ kk H p.2 ≠ 0)

theorem valid_len {H : AHeap} {Ms : List (Int × Int)} (h : Valid H Ms) : Ms.length ≤ H.2.length * H.2.length := by
  have hb : ∀ v, U v ∧ kk H v ≠ 0 → (idxV v).toNat < H.2.length := by
    intro v hv
    have h1 := kk_ref hv.2
    have b1 := idx_bd v hv.1
    omega
  have hnd2 : (Ms.map fun p => (idxV p.1).toNat * H.2.length + (idxV p.2).toNat).Nodup := by
    rw [List.Nodup, List.pairwise_map]
    refine List.Pairwise.imp_of_mem (fun {p q} hp hq hpq e => hpq ?_) h.1
    have p1 := hb _ (h.2 p hp).1
    have p2 := hb _ (h.2 p hp).2
    have q1 := hb _ (h.2 q hq).1
    have q2 := hb _ (h.2 q hq).2
    have i1 := idx_bd p.1 (h.2 p hp).1.1
    have i2 := idx_bd p.2 (h.2 p hp).2.1
    have i3 := idx_bd q.1 (h.2 q hq).1.1
    have i4 := idx_bd q.2 (h.2 q hq).2.1
    have e2 : (idxV p.2).toNat = (idxV q.2).toNat := by
      have := congrArg (· % H.2.length) e
      simpa [Nat.mul_add_mod, Nat.mod_eq_of_lt p2, Nat.mod_eq_of_lt q2, Nat.add_comm, Nat.mul_comm] using this
    have e1 : (idxV p.1).toNat = (idxV q.1).toNat := by
      rw [e2] at e
      exact Nat.eq_of_mul_eq_mul_right (Nat.lt_of_le_of_lt (Nat.zero_le _) p1) (Nat.add_right_cancel e)
    exact Prod.ext (ref_inj (kk_ref (h.2 p hp).1.2).1 (kk_ref (h.2 q hq).1.2).1 (by omega)) (ref_inj (kk_ref (h.2 p hp).2.2).1 (kk_ref (h.2 q hq).2.2).1 (by omega))
  have hlt : ∀ k ∈ Ms.map (fun p => (idxV p.1).toNat * H.2.length + (idxV p.2).toNat), k < H.2.length * H.2.length := by
    intro k hk
    obtain ⟨p, hp, rfl⟩ := List.mem_map.1 hk
    have p1 := hb _ (h.2 p hp).1
    have p2 := hb _ (h.2 p hp).2
    calc (idxV p.1).toNat * H.2.length + (idxV p.2).toNat < (idxV p.1).toNat * H.2.length + H.2.length := by omega
      _ = ((idxV p.1).toNat + 1) * H.2.length := by rw [Nat.add_mul, Nat.one_mul]
      _ ≤ H.2.length * H.2.length := Nat.mul_le_mul_right _ p1
  have := nodup_lt _ _ hnd2 hlt
  simpa using this

theorem Valid.snoc {H : AHeap} {Ms : List (Int × Int)} (h : Valid H Ms) {a b : Int} (hn : (a, b) ∉ Ms) (ha : U a ∧ kk H a ≠ 0) (hb : U b ∧ kk H b ≠ 0) : Valid H (Ms ++ [(a, b)]) := by
  refine ⟨?_, fun p hp => ?_⟩
  · rw [List.nodup_append]
    refine ⟨h.1, by simp, ?_⟩
    intro x hx y hy e
    rw [List.mem_singleton] at hy
    exact hn (hy ▸ e ▸ hx)
  · rcases List.mem_append.1 hp with hp | hp
    · exact h.2 p hp
    · rw [List.mem_singleton] at hp; subst hp; exact ⟨ha, hb⟩

/-- All that objects are made of are words. -/
theorem kids_U {H : AHeap} (hok : HOK H) {a b : Int} (ha : U a) (hb : U b) (h2 : kk H a = kk H b) (h3 : kk H a = 2 ∨ kk H a = 3 ∨ kk H a = 4) {ps : List (Int × Int)} (hk : kids H a b = some ps) : ∀ q ∈ ps, U q.1 ∧ U q.2 := by
  obtain ⟨ma, _⟩ := ob_mem (H := H) ha (by omega)
  obtain ⟨mb, _⟩ := ob_mem (H := H) hb (by omega)
  unfold kids at hk
  split at hk
  · split at hk
    · cases hk
      intro q hq
      obtain ⟨q1, q2⟩ := q
      have := List.of_mem_zip hq
      exact ⟨(hok _ ma).2.2.2.1 _ this.1, (hok _ mb).2.2.2.1 _ this.2⟩
    · cases hk
  · split at hk
    · split at hk
      · cases hk
        intro q hq
        obtain ⟨s, _, rfl⟩ := List.mem_map.1 hq
        exact ⟨field_U hok ha (by omega), field_U hok hb (by omega)⟩
      · cases hk
    · cases hk
      intro q hq
      rw [List.mem_singleton] at hq
      subst hq
      exact ⟨at_U hok ha (by omega), at_U hok hb (by omega)⟩

theorem parts_of {H : AHeap} {a b : Int} (h : ¬ (kk H a != kk H b || !(kk H a == 2 || kk H a == 3 || kk H a == 4)) = true) : kk H a = kk H b ∧ (kk H a = 2 ∨ kk H a = 3 ∨ kk H a = 4) := by
  rw [Bool.not_eq_true, Bool.or_eq_false_iff] at h
  obtain ⟨k1, k2⟩ := h
  rw [Bool.not_eq_false'] at k2
  simp only [Bool.or_eq_true, beq_iff_eq] at k2
  refine ⟨by simpa using k1, ?_⟩
  omega

/-- What a comparison leaves: valid pairs; never too many; where it says yes all that was met is fine. -/
def Left (H : AHeap) (Ms : List (Int × Int)) (r : DR) : Prop := Valid H r.2.1 ∧ r.2.2 = false ∧ (r.1 = true → Grew H Ms r.2.1)

theorem dpL_left {H : AHeap} {g : List (Int × Int) → Int → Int → DR} (hg : ∀ Ms a b, U a → U b → Valid H Ms → Left H Ms (g Ms a b) ∧ ((g Ms a b).1 = true → (a, b) ∈ (g Ms a b).2.1 ∨ eqW H a b = true)) :
    ∀ (ps Ms : List (Int × Int)), (∀ q ∈ ps, U q.1 ∧ U q.2) → Valid H Ms → Left H Ms (dpL g ps Ms) ∧ ((dpL g ps Ms).1 = true → ∀ q ∈ ps, q ∈ (dpL g ps Ms).2.1 ∨ eqW H q.1 q.2 = true)
  | [], Ms, _, h => ⟨⟨h, rfl, fun _ => Grew.refl H Ms⟩, fun _ q hq => by cases hq⟩
  | p :: r, Ms, hu, h => by
    obtain ⟨⟨h1, h2, h3⟩, h4⟩ := hg Ms p.1 p.2 (hu p (List.mem_cons_self ..)).1 (hu p (List.mem_cons_self ..)).2 h
    unfold dpL
    split
    · rename_i hc
      obtain ⟨⟨k1, k2, k3⟩, k4⟩ := dpL_left hg r (g Ms p.1 p.2).2.1 (fun q hq => hu q (List.mem_cons_of_mem _ hq)) h1
      refine ⟨⟨k1, k2, fun ht => (h3 hc).trans (k3 ht)⟩, fun ht q hq => ?_⟩
      rcases List.mem_cons.1 hq with rfl | hq
      · exact (h4 hc).imp ((k3 ht).1 _) id
      · exact k4 ht q hq
    · rename_i hc
      exact ⟨⟨h1, h2, h3⟩, fun ht => absurd ht hc⟩

theorem dp_left {H : AHeap} (hok : HOK H) (hm : H.2.length ≤ 100) : ∀ (f : Nat) (Ms : List (Int × Int)) (a b : Int), U a → U b → Valid H Ms → Left H Ms (dp H f Ms a b) ∧ ((dp H f Ms a b).1 = true → (a, b) ∈ (dp H f Ms a b).2.1 ∨ eqW H a b = true)
  | 0, Ms, a, b, _, _, h => ⟨⟨h, rfl, fun k => by cases k⟩, fun k => by cases k⟩
  | f + 1, Ms, a, b, ha, hb, h => by
    unfold dp
    by_cases c1 : eqW H a b = true
    · rw [if_pos c1]; exact ⟨⟨h, rfl, fun _ => Grew.refl H Ms⟩, fun _ => .inr c1⟩
    rw [if_neg c1]
    by_cases c2 : (kk H a != kk H b || !(kk H a == 2 || kk H a == 3 || kk H a == 4)) = true
    · rw [if_pos c2]; exact ⟨⟨h, rfl, fun k => by cases k⟩, fun k => by cases k⟩
    rw [if_neg c2]
    by_cases c3 : (a, b) ∈ Ms
    · rw [if_pos c3]; exact ⟨⟨h, rfl, fun _ => Grew.refl H Ms⟩, fun _ => .inl c3⟩
    rw [if_neg c3]
    have hlen : Ms.length ≤ 10000 := by
      have h1 := valid_len h
      have h2 := Nat.mul_le_mul hm hm
      omega
    rw [if_neg (by omega)]
    obtain ⟨k2, k3⟩ := parts_of c2
    have hv := h.snoc c3 ⟨ha, by omega⟩ ⟨hb, by omega⟩
    cases hk : kids H a b with
    | none => exact ⟨⟨hv, rfl, fun k => by cases k⟩, fun k => by cases k⟩
    | some ps =>
      obtain ⟨⟨l1, l2, l3⟩, l4⟩ := dpL_left (dp_left hok hm f) ps (Ms ++ [(a, b)]) (kids_U hok ha hb k2 k3 hk) hv
      refine ⟨⟨l1, l2, fun ht => ⟨fun p hp => (l3 ht).1 p (List.mem_append_left _ hp), fun p hp hn => ?_⟩⟩, fun ht => .inl ((l3 ht).1 _ (by simp))⟩
      by_cases e : p = (a, b)
      · subst e
        exact ⟨by simpa using c1, k2, k3, ps, hk, l4 ht⟩
      · exact (l3 ht).2 p hp (fun hp' => by
          rcases List.mem_append.1 hp' with h' | h'
          · exact hn h'
          · exact e (List.mem_singleton.1 h'))

/-- Where all is fine in S, a comparison says yes. -/
theorem dpL_yes {g : List (Int × Int) → Int → Int → DR} {P : List (Int × Int) → Prop} {Q : Int × Int → Prop} (hg : ∀ Ms q, P Ms → Q q → (g Ms q.1 q.2).1 = true ∧ P (g Ms q.1 q.2).2.1) : ∀ (ps Ms : List (Int × Int)), P Ms → (∀ q ∈ ps, Q q) → (dpL g ps Ms).1 = true
  | [], _, _, _ => rfl
  | p :: r, Ms, hP, hQ => by
    obtain ⟨h1, h2⟩ := hg Ms p hP (hQ p (List.mem_cons_self ..))
    unfold dpL
    rw [if_pos h1]
    exact dpL_yes hg r _ h2 (fun q hq => hQ q (List.mem_cons_of_mem _ hq))

theorem dp_yes {H : AHeap} (hok : HOK H) (hm : H.2.length ≤ 100) {S : List (Int × Int)} (hS : ∀ p ∈ S, Fine H S p) : ∀ (f : Nat) (Ms : List (Int × Int)) (a b : Int), U a → U b → Valid H Ms → H.2.length * H.2.length < f + Ms.length → (a, b) ∈ S ∨ eqW H a b = true → (dp H f Ms a b).1 = true
  | 0, Ms, a, b, _, _, h, hf, _ => by
    have := valid_len h
    omega
  | f + 1, Ms, a, b, ha, hb, h, hf, hs => by
    unfold dp
    by_cases c1 : eqW H a b = true
    · rw [if_pos c1]
    rw [if_neg c1]
    obtain ⟨_, k2, k3, ps, hk, hq⟩ := hS _ (hs.resolve_right c1)
    replace k2 : kk H a = kk H b := k2
    replace k3 : kk H a = 2 ∨ kk H a = 3 ∨ kk H a = 4 := k3
    have c2 : ¬ (kk H a != kk H b || !(kk H a == 2 || kk H a == 3 || kk H a == 4)) = true := by
      have e1 : (kk H a != kk H b) = false := by simpa using k2
      have e2 : (kk H a == 2 || kk H a == 3 || kk H a == 4) = true := by simp only [Bool.or_eq_true, beq_iff_eq]; omega
      rw [e1, e2]; decide
    rw [if_neg c2]
    by_cases c3 : (a, b) ∈ Ms
    · rw [if_pos c3]
    rw [if_neg c3]
    have hlen : Ms.length ≤ 10000 := by
      have h1 := valid_len h
      have h2 := Nat.mul_le_mul hm hm
      omega
    rw [if_neg (by omega)]
    have hv := h.snoc c3 ⟨ha, by omega⟩ ⟨hb, by omega⟩
    have hk' : kids H a b = some ps := hk
    rw [hk']
    have hu := kids_U hok ha hb k2 k3 hk'
    refine dpL_yes (P := fun Ns => Valid H Ns ∧ (Ms ++ [(a, b)]).length ≤ Ns.length) (Q := fun q => (U q.1 ∧ U q.2) ∧ (q ∈ S ∨ eqW H q.1 q.2 = true)) (fun Ns q hP hQ => ⟨?_, ?_, ?_⟩) ps (Ms ++ [(a, b)]) ⟨hv, Nat.le_refl _⟩ (fun q hq' => ⟨hu q hq', hq q hq'⟩)
    · refine dp_yes hok hm hS f Ns q.1 q.2 hQ.1.1 hQ.1.2 hP.1 ?_ hQ.2
      have := hP.2
      rw [List.length_append, List.length_singleton] at this
      omega
    · exact (dp_left hok hm f Ns q.1 q.2 hQ.1.1 hQ.1.2 hP.1).1.1
    · exact Nat.le_trans hP.2 (dp_len H f Ns q.1 q.2)

theorem sub_len {α : Type} [DecidableEq α] : ∀ {l m : List α}, l.Nodup → (∀ x ∈ l, x ∈ m) → l.length ≤ m.length
  | [], m, _, _ => Nat.zero_le _
  | x :: t, m, hnd, hs => by
    have hx := hs x (List.mem_cons_self ..)
    rw [List.nodup_cons] at hnd
    have h1 := sub_len (l := t) (m := m.erase x) hnd.2 (fun y hy => (List.mem_erase_of_ne (fun (e : y = x) => hnd.1 (by rw [← e]; exact hy))).2 (hs y (List.mem_cons_of_mem _ hy)))
    have h2 := List.length_erase_of_mem hx
    have h3 : 0 < m.length := List.length_pos_of_mem hx
    rw [List.length_cons]
    omega

theorem aKey_iff {l : List ByteArray} {s : ByteArray} : 0 ≤ aKey l s ↔ s ∈ l := by
  constructor
  · intro h
    rcases Classical.em (s ∈ l) with hm | hm
    · exact hm
    · have hmiss : aKey l s = -1 := aKey_miss (fun j hj (e : l[j] = s) => hm (by rw [← e]; exact List.getElem_mem hj))
      rw [hmiss] at h
      omega
  · intro h
    unfold aKey
    cases hf : l.findIdx? (fun x => decide (x = s)) with
    | none =>
      rw [List.findIdx?_eq_none_iff] at hf
      have := hf s h
      simp at this
    | some i => simp

theorem sameK_comm {k l : List ByteArray} (hk : k.Nodup) (h : sameK k l = true) : sameK l k = true ∧ ∀ s ∈ l, s ∈ k := by
  unfold sameK at h ⊢
  simp only [Bool.and_eq_true, decide_eq_true_eq, List.all_eq_true] at h ⊢
  have hsub : ∀ s ∈ l, s ∈ k := by
    intro s hs
    rcases Classical.em (s ∈ k) with hm | hm
    · exact hm
    · have := sub_len (l := s :: k) (m := l) (List.nodup_cons.2 ⟨hm, hk⟩) (fun x hx => by
        rcases List.mem_cons.1 hx with rfl | hx
        · exact hs
        · exact aKey_iff.1 (h.2 x hx))
      rw [List.length_cons] at this
      omega
  exact ⟨⟨h.1.symm, fun s hs => aKey_iff.2 (hsub s hs)⟩, hsub⟩

theorem kids_comm {H : AHeap} (hn : Neat H) {a b : Int} (ha : U a) (hb : U b) (h2 : kk H a = kk H b) (h3 : kk H a = 2 ∨ kk H a = 3 ∨ kk H a = 4) {ps : List (Int × Int)} (hk : kids H a b = some ps) : ∃ qs, kids H b a = some qs ∧ ∀ q ∈ qs, (q.2, q.1) ∈ ps := by
  obtain ⟨ma, _⟩ := ob_mem (H := H) ha (by omega)
  unfold kids at hk ⊢
  rw [← h2]
  by_cases k2 : kk H a = 2
  · rw [if_pos k2] at hk ⊢
    split at hk
    · rename_i hl
      cases hk
      rw [if_pos hl.symm]
      refine ⟨_, rfl, fun q hq => ?_⟩
      obtain ⟨i, hi, rfl⟩ := List.getElem_of_mem hq
      rw [List.getElem_zip]
      simp only [List.length_zip] at hi
      have : ((ob H a).vals[i]'(by omega), (ob H b).vals[i]'(by omega)) = ((ob H a).vals.zip (ob H b).vals)[i]'(by rw [List.length_zip]; omega) := by rw [List.getElem_zip]
      rw [this]
      exact List.getElem_mem _
    · cases hk
  · rw [if_neg k2] at hk ⊢
    by_cases k3 : kk H a = 3
    · rw [if_pos k3] at hk ⊢
      split at hk
      · rename_i hs
        cases hk
        obtain ⟨e1, e2⟩ := sameK_comm (hn _ ma).1 hs
        rw [if_pos e1]
        refine ⟨_, rfl, fun q hq => ?_⟩
        obtain ⟨s, hs', rfl⟩ := List.mem_map.1 hq
        exact List.mem_map.2 ⟨s, e2 s hs', rfl⟩
      · cases hk
    · rw [if_neg k3] at hk ⊢
      cases hk
      refine ⟨_, rfl, fun q hq => ?_⟩
      rw [List.mem_singleton] at hq
      subst hq
      simp

theorem dp_half {H : AHeap} (hok : HOK H) (hn : Neat H) (hm : H.2.length ≤ 100) (a b : Int) (ha : U a) (hb : U b) (h : (dp H 65537 [] a b).1 = true) : (dp H 65537 [] b a).1 = true := by
  have hv : Valid H [] := ⟨List.nodup_nil, fun p hp => by cases hp⟩
  obtain ⟨⟨l1, _, l3⟩, l4⟩ := dp_left hok hm 65537 [] a b ha hb hv
  have hg := l3 h
  have hfine : ∀ p ∈ (dp H 65537 [] a b).2.1, Fine H (dp H 65537 [] a b).2.1 p := fun p hp => hg.2 p hp (by simp)
  have hswap : ∀ p ∈ (dp H 65537 [] a b).2.1.map (fun q => (q.2, q.1)), Fine H ((dp H 65537 [] a b).2.1.map (fun q => (q.2, q.1))) p := by
    intro p hp
    obtain ⟨q, hq, rfl⟩ := List.mem_map.1 hp
    obtain ⟨f1, f2, f3, ps, f4, f5⟩ := hfine q hq
    have hu := l1.2 q hq
    obtain ⟨qs, g1, g2⟩ := kids_comm hn hu.1.1 hu.2.1 f2 f3 f4
    refine ⟨by rw [eqW_comm]; exact f1, f2.symm, by show kk H q.2 = 2 ∨ kk H q.2 = 3 ∨ kk H q.2 = 4; omega, qs, g1, fun z hz => ?_⟩
    rcases f5 _ (g2 z hz) with h' | h'
    · exact .inl (List.mem_map.2 ⟨_, h', rfl⟩)
    · exact .inr (by rw [eqW_comm]; exact h')
  refine dp_yes hok hm hswap 65537 [] b a hb ha hv ?_ ?_
  · have h2 := Nat.mul_le_mul hm hm
    simp only [List.length_nil]
    omega
  · rcases l4 h with h' | h'
    · exact .inl (List.mem_map.2 ⟨_, h', rfl⟩)
    · exact .inr (by rw [eqW_comm]; exact h')

/-- Deep does not ask which stands first; there are never too many pairs in a heap of so few objects. -/
theorem dp_comm {H : AHeap} (hok : HOK H) (hn : Neat H) (hm : H.2.length ≤ 100) (a b : Int) (ha : U a) (hb : U b) : (dp H 65537 [] a b).1 = (dp H 65537 [] b a).1 := by
  cases h1 : (dp H 65537 [] a b).1 <;> cases h2 : (dp H 65537 [] b a).1
  · rfl
  · have := dp_half hok hn hm b a hb ha h2
    rw [h1] at this; cases this
  · have := dp_half hok hn hm a b ha hb h1
    rw [h2] at this; cases this
  · rfl

theorem dp_few {H : AHeap} (hok : HOK H) (hm : H.2.length ≤ 100) (a b : Int) (ha : U a) (hb : U b) : (dp H 65537 [] a b).2.2 = false :=
  (dp_left hok hm 65537 [] a b ha hb ⟨List.nodup_nil, fun p hp => by cases hp⟩).1.2.1

theorem dp_same {H : AHeap} {a b : Int} (h : eqW H a b = true) : dp H 65537 [] a b = (true, [], false) := by
  rw [show (65537 : Nat) = 65536 + 1 from rfl, dp, if_pos h]

/-- What is the same looks the same. -/
theorem txt_same {H : AHeap} {a b : Int} (h : eqW H a b = true) : txt H a = txt H b := by
  by_cases e : a = b
  · rw [e]
  unfold eqW at h
  rw [decide_eq_false e, Bool.false_or, Bool.and_eq_true, Bool.or_eq_true] at h
  obtain ⟨h1, h2⟩ := h
  have hk : kk H a = kk H b := of_decide_eq_true h1
  unfold txt
  rw [tx, tx]
  rcases h2 with h2 | h2
  · rw [Bool.and_eq_true] at h2
    have k1 : kk H a = 1 := of_decide_eq_true h2.1
    have eb := of_decide_eq_true h2.2
    have wa : wdL H a = qStr (ob H a).bytes := by unfold wdL; rw [if_neg (by omega), if_pos k1]
    have wb : wdL H b = qStr (ob H b).bytes := by unfold wdL; rw [if_neg (by omega), if_pos (by omega)]
    rw [if_neg (by rw [k1]; decide), if_neg (by rw [← hk, k1]; decide), wa, wb, eb]
  · rw [Bool.and_eq_true, Bool.and_eq_true] at h2
    have k6 : kk H a = 6 := of_decide_eq_true h2.1
    have er := of_decide_eq_true h2.2.1
    have ei := of_decide_eq_true h2.2.2
    have wa : wdL H a = [40] ++ nibs 16 (ob H a).re ++ [44] ++ nibs 16 (ob H a).im ++ [41] := by unfold wdL; rw [if_neg (by omega), if_neg (by omega), if_neg (by omega), if_pos k6]
    have wb : wdL H b = [40] ++ nibs 16 (ob H b).re ++ [44] ++ nibs 16 (ob H b).im ++ [41] := by unfold wdL; rw [if_neg (by omega), if_neg (by omega), if_neg (by omega), if_pos (by omega)]
    rw [if_neg (by rw [k6]; decide), if_neg (by rw [← hk, k6]; decide), wa, wb, er, ei]

end Go.Proofs.YtlhgdknmgdohkaaGreatDoor

