/- What serves the statements: a list of the statement's own beside the heap; heaps of one array. · What was said of stage 3's heaps, for stage 9. · What an object is made of, asked of the program and of the document: the contract of the statements' own 'whole'. -/
import Derived.Test.YtjcoifdfemejkaaGreatDoorPQk
import Derived.Test.YtjcoifdfemejkaaGreatDoorM5
import Derived.Test.YtjcoifdfemejkaaGreatDoorRSk
import Derived.BigQuiet
import Derived.Test.YtjcoifdfemejkaaGreatDoorM10
import Derived.Test.YtjcoifdfemejkaaGreatDoorR3Mk
import Derived.Laws.BytesString
set_option linter.unusedSimpArgs false
set_option linter.unusedVariables false
namespace Go.Proofs.YtjcoifdfemejkaaGreatDoor
open Go Go.RowKit

/-- The list o, made behind the world w0, says l; none of the blocks bs is its own. -/
def InRow (w0 wr : World) (bs : List Nat) (o : Value) (l : List Int) : Prop :=
  wr.ownsRow 0 27 1 o l.length (l.map (Value.int .u64)) ∧ ∀ b, o.ownBlock = some b → w0.heap.size ≤ b ∧ b ∉ bs

theorem InRow.nx {w0 wr w' : World} {bs bs' : List Nat} {o : Value} {l : List Int} (h : InRow w0 wr bs o l) (hn : Nx bs wr w' bs') : InRow w0 w' bs' o l :=
  ⟨own_same h.1 (fun k hk => hn.1.block k (own_lt h.1 hk) (h.2 k hk).2), fun b hb => ⟨(h.2 b hb).1, fun hm => (hn.2 b hm).elim (h.2 b hb).2 (fun hh => by have := own_lt h.1 hb; omega)⟩⟩

theorem InRow.bw {w0 wr w' : World} {bs : List Nat} {o : Value} {l : List Int} (h : InRow w0 wr bs o l) (hb : Bw wr w') : InRow w0 w' bs o l :=
  h.nx (hb.nx bs)

theorem HS.grown {w w' : World} {b0 : Nat} {H : AHeap} {bs : List Nat} {row : Option Nat} (h : HS w b0 H bs) (hg : w.grownBy w' row) (hr : ∀ k, row = some k → k ∉ bs) : HS w' b0 H bs := by
  obtain ⟨vo, t, h, rfl⟩ := h
  exact ⟨vo, t, h.same (fun k hk => hg.block k (h.lt hk) (fun e => hr k e.symm hk)), rfl⟩

theorem InRow.grown {w0 w w' : World} {bs : List Nat} {o v' : Value} {l l' : List Int} (h : InRow w0 w bs o l) (hb : Bw w0 w) (hlt : ∀ b ∈ bs, b < w.heap.size)
    (how : w'.ownsRow 0 27 1 v' l'.length (l'.map (Value.int .u64))) (hvb : v'.ownBlock = o.ownBlock ∨ ∀ k, v'.ownBlock = some k → w.heap.size ≤ k) : InRow w0 w' bs v' l' := by
  refine ⟨how, fun b e => ?_⟩
  rcases hvb with hv | hv
  · exact h.2 b (hv ▸ e)
  · exact ⟨Nat.le_trans hb.size (hv b e), fun hm => by have := hlt b hm; have := hv b e; omega⟩

theorem InRow.bwGrown {w0 w w' : World} {bs : List Nat} {o : Value} {l : List Int} (h : InRow w0 w bs o l) (hb : Bw w0 w) (hg : w.grownBy w' o.ownBlock) : Bw w0 w' :=
  Below.grown hb hg hb.size (fun k hk => (h.2 k hk).1)

theorem InRow.sl {w0 wr : World} {bs : List Nat} {o : Value} {l : List Int} (h : InRow w0 wr bs o l) : Sl wr (fun _ => True) o l.length 1 (l.map (Value.int .u64)) := own_sl h.1 (fun _ _ => trivial)

theorem InRow.nil (w0 wr : World) (bs : List Nat) : InRow w0 wr bs (.slice none 0 0) [] := ⟨World.ownsRow_nil wr _ _ _, fun b e => by cases e⟩

theorem kd2 : kd 2 = 2 := by decide

theorem idx2 : idxV 2 = 0 := by decide

theorem kk_one (n : Int) (L : List Int) : kk (n, [oArr L]) 2 = 2 := by simp [kk, kd2, idx2, oArr, AObj.kind]

theorem ob_one (n : Int) (L : List Int) : ob (n, [oArr L]) 2 = oArr L := by simp [ob, idx2]

theorem oArr_vals (L : List Int) : (oArr L).vals = L := rfl

theorem withVals_arr (L M : List Int) : withVals (oArr L) M = oArr M := rfl

theorem pushE_one (n : Int) (L : List Int) (x : Int) (hL : L.length ≤ 400) : aPushE (n, [oArr L]) 2 x = if gd 1 x = true then 0 else 1 := by
  have : L.length ≠ 65536 := by omega
  simp [aPushE, kk_one, ob_one, oArr_vals, this]

theorem pushH_one (n : Int) (L : List Int) (x : Int) (hL : L.length ≤ 400) : aPushH (n, [oArr L]) 2 x = (n, [oArr (if gd 1 x = true then L ++ [x] else L)]) := by
  have h6 : L.length ≠ 65536 := by omega
  cases hg : gd 1 x <;> simp [aPushH, kk_one, ob_one, oArr_vals, h6, hg, idx2, withVals_arr]

theorem popE_one (n : Int) (L : List Int) (x : Int) : aPopE (n, [oArr (L ++ [x])]) 2 = 0 := by
  simp [aPopE, kk_one, ob_one, oArr_vals]

theorem popV_one (n : Int) (L : List Int) (x : Int) : aPopV (n, [oArr (L ++ [x])]) 2 = x := by
  simp [aPopV, kk_one, ob_one, oArr_vals]

theorem popH_one (n : Int) (L : List Int) (x : Int) : aPopH (n, [oArr (L ++ [x])]) 2 = (n, [oArr L]) := by
  simp [aPopH, kk_one, ob_one, oArr_vals, idx2, withVals_arr]

theorem make9 (l : List Int) (h : l.length ≤ 400) : aMakeE (9, []) (oArr l) = if pSound 0 (oArr l) = true then 0 else 1 := by
  have hp : pLong (oArr l) = false := by
    show decide ((65536 : Int) < (l.length : Int)) = false
    exact decide_eq_false (by omega)
  unfold aMakeE
  rw [hp]
  cases hs : pSound 0 (oArr l)
  · simp [hs]
  · simp [hs]

theorem good_one {b0 : Nat} {n : Int} {o : AObj} {bs : List Nat} (v : Int) (hU : U v) (w : World) (h : HS w b0 (n, [o]) bs) :
    Calls Tryz.prog 71 #[.pointer (some ⟨b0, 0, none⟩), .int .u64 v] w fun e w' => e = .returned (.bool (gd 1 v)) ∧ w' = w := good_hs v hU w h

theorem take_filter (l : List Int) (k : Nat) (h : k < l.length) (p : Int → Bool) : (l.take (k + 1)).filter p = (l.take k).filter p ++ (if p l[k] = true then [l[k]] else []) := by
  rw [List.take_succ_eq_append_getElem h, List.filter_append]
  cases hp : p l[k] <;> simp [hp]

theorem cell_bw {w w' : World} (h : Bw w w') {b o : Nat} (hb : b < w.heap.size) : w'.cell? ⟨b, o, none⟩ = w.cell? ⟨b, o, none⟩ :=
  World.cell?_of_block (a := ⟨b, o, none⟩) (h.block b hb)

end Go.Proofs.YtjcoifdfemejkaaGreatDoor

set_option linter.unusedSimpArgs false
set_option linter.unusedVariables false
namespace Go.Proofs.YtjcoifdfemejkaaGreatDoor
open Go Go.RowKit

theorem conv_sl {w : World} {G : Nat → Prop} {v : Value} {l : List Int} (h : Sl w G v l.length 1 (l.map (Value.int .u8))) : (convert 46 9 v).run Tryz.prog w = .ok (.string (strOfNums l)) w := by
  obtain ⟨hl, a, cap, rfl, hn, hc⟩ := h
  have hu : Tryz.prog.underlying 5 = some (.int .u8) := by kernel_rfl
  have hst : Tryz.prog.underlying 9 = some .string := by kernel_rfl
  rcases hc with h0 | ⟨b, o, rfl, hlt, hg, hc⟩
  · have hnil : l = [] := List.eq_nil_of_length_eq_zero h0
    subst hnil
    cases a with
    | none => exact run_convert_bytes_nil w 46 5 Tryz.underlying46 hu 0 cap 9 hst
    | some ad =>
      rw [List.length_nil, run_convert_bytes_string w 46 9 5 (some ad) 0 cap Tryz.underlying46 hu hst]
      exact run_bytesToString w ad 0 cap [] (run_loadCells_list (P := Tryz.prog) w ad [] (fun j v hj => by simp at hj))
  · refine run_convert_bytes_arg w 46 5 Tryz.underlying46 hu b o l.length cap l rfl (fun i hi => ?_) 9 hst
    rw [hc i (by omega)]
    simp [List.getD, hi]

theorem conv_nil (w : World) : (convert 46 9 (.slice none 0 0)).run Tryz.prog w = .ok (.string (strOfNums [])) w :=
  conv_sl (G := fun _ => True) (l := []) (Sl.nil w _ 1)

/-- What holds of every object that was made, besides. -/
def Neat (o : AObj) : Prop := (o.kind ≠ 3 → o.keys = []) ∧ (o.kind ≠ 6 → o.re = 0 ∧ o.im = 0) ∧ 1 ≤ o.kind ∧ o.kind ≤ 9

def NeatH (H : AHeap) : Prop := ∀ o ∈ H.2, Neat o

theorem num_any (n : Int) (w : World) : Calls Tryz.prog 99 #[.int .i64 n] w fun e w' => e = .returned (.int .i64 n) ∧ w' = w := by
  go_enter Tryz.func99, Tryz.ntmps99
  go_wp2
  go_ret
  exact ⟨rfl, rfl⟩

theorem NeatH.upd {H : AHeap} (h : NeatH H) {k : Nat} {o : AObj} (ho : Neat o) : NeatH (H.1, H.2.set k o) := by
  intro u hu
  rcases List.mem_or_eq_of_mem_set hu with hu | rfl
  · exact h u hu
  · exact ho

theorem NeatH.ob {H : AHeap} (h : NeatH H) {v : Int} (hU : U v) (hk : kk H v ≠ 0) : Neat (Proofs.YtjcoifdfemejkaaGreatDoor.ob H v) := h _ (List.mem_of_getElem? (ob_get hU (kk_ref hk).2.1).1)

theorem Neat.vals {o : AObj} (h : Neat o) (l : List Int) : Neat (withVals o l) := h

theorem NeatH.set {H : AHeap} (h : NeatH H) {v i x : Int} (hU : U v) : NeatH (aSetH H v i x) := by
  unfold aSetH
  split
  · rename_i hc
    exact h.upd ((h.ob hU (by omega)).vals _)
  · exact h

theorem NeatH.push {H : AHeap} (h : NeatH H) {v x : Int} (hU : U v) : NeatH (aPushH H v x) := by
  unfold aPushH
  split
  · rename_i hc
    exact h.upd ((h.ob hU (by omega)).vals _)
  · exact h

theorem NeatH.pop {H : AHeap} (h : NeatH H) {v : Int} (hU : U v) : NeatH (aPopH H v) := by
  unfold aPopH
  split
  · rename_i hc
    exact h.upd ((h.ob hU (by omega)).vals _)
  · exact h

theorem NeatH.put {H : AHeap} (h : NeatH H) {v x : Int} {s : ByteArray} (hU : U v) : NeatH (aPutH H v s x) := by
  unfold aPutH
  split
  · rename_i hc
    have hn := h.ob hU (v := v) (by omega)
    have hk := (kk_ref (H := H) (v := v) (by omega)).2.2
    split
    · exact h.upd (hn.vals _)
    · split
      · exact h
      · refine h.upd ⟨fun hne => absurd (show (Proofs.YtjcoifdfemejkaaGreatDoor.ob H v).kind = 3 by omega) hne, hn.2.1, hn.2.2⟩
  · exact h

theorem RdH.nx {w w' : World} {bs bs' : List Nat} {rv : Value} {H : AHeap} (h : RdH w (fun b => b ∉ bs) rv H) (hn : Nx bs w w' bs') (q : Nat) (hq : w.heap.size ≤ q) : RdH w' (fun b => b ∉ bs' ∧ b ≠ q) rv H :=
  h.keep hn.1.size (fun b hb hg => hn.1.block b hb hg) (fun b hb hg => ⟨fun hm => (hn.2 b hm).elim hg (fun hh => by omega), by omega⟩)

end Go.Proofs.YtjcoifdfemejkaaGreatDoor

set_option linter.unusedSimpArgs false
set_option linter.unusedVariables false
namespace Go.Proofs.YtjcoifdfemejkaaGreatDoor
open Go Go.RowKit

set_option maxRecDepth 100000 in
set_option maxHeartbeats 16000000 in
theorem whole_none (G : Nat → Prop) (rv : Value) {b0 : Nat} {H : AHeap} {bs : List Nat} (v : Int) (hU : U v) (w : World) (hS : HS w b0 H bs) (h : RdH w G rv H) (hN : NeatH H) (hm : H.2.length ≤ 1000000) (hk : kk H v = 0) :
    Calls Tryz.prog 50 #[.pointer (some ⟨b0, 0, none⟩), rv, .int .u64 v, .int .i64 0] w fun e w' => e = .returned (.bool true) ∧ Bw w w' := by
  have HSS := hid hS
  have HR := hid h
  have HKK := hid hk
  obtain ⟨va, t, rfl, ht, hs, ho⟩ := h
  obtain ⟨ah, ch, rfl⟩ := hs.form
  have hcvn := conv_nil
  clear hS ht hs ho hN hk
  go_enter Tryz.func50, Tryz.ntmps50
  go_wp2_with (first
    | (go_at_call 17; refine (bytes_no _ hU _ (HSS.out.bw (Ly.bw (by repeat (first | exact Ly.refl _ | apply Ly.lay | apply Ly.alloc | apply Ly.drewN | apply Ly.drew)))) (by rw [HKK.out]; decide)).mono ?_; rintro e w1 ⟨rfl, hly⟩; have hb1 := hly.bw; have HW1 := hid (Bw.trans (show Bw w _ from Ly.bw (by repeat (first | exact Ly.refl _ | apply Ly.lay | apply Ly.alloc | apply Ly.drewN | apply Ly.drew))) hb1); have B9 := hid ((show Blk _ (w.heap.size + 1) #[.int .i64 0, .slice none 0 0, .slice none 0 0, .slice none 0 0, .int .i64 0, .int .u64 0, .int .u64 0] 50 from (by repeat (first | exact (show Blk ((w.alloc (.cells #[.int .i64 H.1, .slice ah H.2.length ch] 32)).alloc (.cells #[.int .i64 0, .slice none 0 0, .slice none 0 0, .slice none 0 0, .int .i64 0, .int .u64 0, .int .u64 0] 50)) (w.heap.size + 1) #[.int .i64 0, .slice none 0 0, .slice none 0 0, .slice none 0 0, .int .i64 0, .int .u64 0, .int .u64 0] 50 by simpa using Blk.new (w.alloc (.cells #[.int .i64 H.1, .slice ah H.2.length ch] 32)) #[.int .i64 0, .slice none 0 0, .slice none 0 0, .slice none 0 0, .int .i64 0, .int .u64 0, .int .u64 0] 50) | apply Blk.lay | apply Blk.alloc))).bw hb1); have z9 := B9.out.cell; have hs9 : w.heap.size + 1 < w1.heap.size := B9.out.lt; have hcv1 := conv_nil w1;  clear hly hb1)
    | (go_at_call 100; refine (len_no _ hU _ (HSS.out.bw HW1.out) (by rw [HKK.out]; decide)).mono ?_; rintro e w2 ⟨rfl, hly⟩; have hb2 := hly.bw; have HW2 := hid (Bw.trans HW1.out hb2); have B92 := hid (B9.out.bw hb2); have z92 := B92.out.cell; have hs92 : w.heap.size + 1 < w2.heap.size := B92.out.lt; clear hly hb2)
    | (go_at_call 101; refine (keys_no _ hU _ (HSS.out.bw HW2.out) (by rw [HKK.out]; decide)).mono ?_; rintro e w3 ⟨rfl, hly⟩; have hb3 := hly.bw; have HW3 := hid (Bw.trans HW2.out hb3); have B93 := hid (B92.out.bw hb3); have z93 := B93.out.cell; have hs93 : w.heap.size + 1 < w3.heap.size := B93.out.lt; clear hly hb3)
    | (go_at_call 99; refine (num_any _ _).mono ?_; rintro e wq ⟨rfl, hwq⟩; subst wq))
  go_loopw [15] (fun j wr => ∃ (i : Nat), i ≤ 0 ∧ j = .int .i64 i ∧ Blk wr (w.heap.size + 1) #[.int .i64 0, .slice none 0 0, .slice none 0 0, .slice none 0 0, .int .i64 0, .int .u64 0, .int .u64 0] 50 ∧ Bw w wr ∧ Bw w3 wr) (fun j _ => 0 - (intOf j).toNat)
  case atStart => exact ⟨0, by omega, rfl, B93.out, HW3.out, Bw.refl _⟩
  case round =>
    obtain ⟨i, hi, rfl, hB, hW, hW3⟩ := hrel
    have B9r := hid hB
    have HWr := hid hW
    have BW3r := hid hW3
    have z9r := hB.cell
    have hs9r : w.heap.size + 1 < wr.heap.size := hB.lt
    clear hB hW hW3
    obtain rfl : i = 0 := by omega
    go_wp2_with (first
      | (go_at_call 102; refine (funOf_no _ hU _ (HSS.out.bw HWr.out) (by rw [HKK.out]; decide)).mono ?_; rintro e w4 ⟨rfl, hly⟩; have hb4 := hly.bw; have HW4 := hid (Bw.trans HWr.out hb4); have B94 := hid (B9r.out.bw hb4); have z94 := B94.out.cell; have hs94 : w.heap.size + 1 < w4.heap.size := B94.out.lt; clear hly hb4)
      | (go_at_call 88; refine (cplxOf_no _ hU _ (HSS.out.bw HW4.out) (by rw [HKK.out]; decide)).mono ?_; rintro e w5 ⟨rfl, hly⟩; have hb5 := hly.bw; have HW5 := hid (Bw.trans HW4.out hb5); have B95 := hid (B94.out.bw hb5); have z95 := B95.out.cell; have hs95 : w.heap.size + 1 < w5.heap.size := B95.out.lt; clear hly hb5)
      | (go_at_call 104; refine (itemOf_no _ hU _ (HSS.out.bw HW5.out) (by rw [HKK.out]; decide)).mono ?_; rintro e w6 ⟨rfl, hly⟩; have hb6 := hly.bw; have HW6 := hid (Bw.trans HW5.out hb6); have B96 := hid (B95.out.bw hb6); have z96 := B96.out.cell; have hs96 : w.heap.size + 1 < w6.heap.size := B96.out.lt; clear hly hb6)
      | (go_at_call 99; refine (num_any _ _).mono ?_; rintro e wq ⟨rfl, hwq⟩; subst wq))
    all_goals go_ret
    all_goals exact ⟨rfl, HW6.out⟩

set_option maxRecDepth 100000 in
set_option maxHeartbeats 16000000 in
theorem whole_str (G : Nat → Prop) (rv : Value) {b0 : Nat} {H : AHeap} {bs : List Nat} (v : Int) (hU : U v) (w : World) (hS : HS w b0 H bs) (h : RdH w G rv H) (hN : NeatH H) (hm : H.2.length ≤ 1000000) (hk : kk H v = 1) :
    Calls Tryz.prog 50 #[.pointer (some ⟨b0, 0, none⟩), rv, .int .u64 v, .int .i64 1] w fun e w' => e = .returned (.bool true) ∧ Bw w w' := by
  have HSS := hid hS
  have HR := hid h
  have HKK := hid hk
  obtain ⟨va, t, rfl, ht, hs, ho⟩ := h
  obtain ⟨ah, ch, rfl⟩ := hs.form
  have hkr := kk_ref (H := H) (v := v) (by omega)
  obtain ⟨hg, hge⟩ := ob_get (H := H) hU hkr.2.1
  have HOO := hid (ob_ok (v := v) hS.ok hU hkr.2.1)
  have HNE := hid (hN _ (List.mem_of_getElem? hg))
  have HG := hid hg
  have HGE := hid hge
  have HK2 := hid hkr.2.2
  clear hS ht hs ho hg hge hkr hN hk
  generalize hob : ob H v = o at *
  have HOB := hid hob
  clear hob
  have hl6 : o.vals.length ≤ 1000000 := HOO.out.2.2.2.2.2.2.1
  have hl7 : o.keys.length ≤ 1000000 := HOO.out.2.2.2.2.2.2.2
  have hl8 : o.bytes.length ≤ 1000000 := HOO.out.2.2.2.2.2.1
  have hko : o.kind = 1 := HK2.out.symm.trans HKK.out
  have hvl : (o.vals.length : Int) = 0 := by rw [show o.vals = [] from HOO.out.1 hko]; rfl
  have hkl : (o.keys.length : Int) = 0 := by rw [show o.keys = [] from HNE.out.1 (by omega)]; rfl
  have hre : ((0 : Int) != o.re) = false := by rw [(HNE.out.2.1 (by omega)).1]; rfl
  have him : ((0 : Int) != o.im) = false := by rw [(HNE.out.2.1 (by omega)).2]; rfl
  clear hko
  go_enter Tryz.func50, Tryz.ntmps50
  go_wp2_with (first
    | (go_at_call 40; refine (rof_any G _ H _ hU _ HGE.out _ HG.out w _ (Ly.bw (by repeat (first | exact Ly.refl _ | apply Ly.lay | apply Ly.alloc | apply Ly.drewN | apply Ly.drew))) HR.out (by omega)).mono ?_; rintro e w' ⟨vb, vv, vk, rfl, hol, os0, m0, rfl⟩; obtain ⟨ab, cb, rfl⟩ := hol.1.form; obtain ⟨av, cv, rfl⟩ := hol.2.1.form; obtain ⟨ak, ck, rfl⟩ := hol.2.2.form; have HOL := hid hol; clear hol)
    | (go_at_call 17; refine (bytes_yes _ hU _ (HSS.out.bw (Ly.bw (by repeat (first | exact Ly.refl _ | apply Ly.lay | apply Ly.alloc | apply Ly.drewN | apply Ly.drew)))) HKK.out).mono ?_; rw [HOB.out]; rintro e w1 ⟨r1, rfl, ho1, hb1⟩; obtain ⟨a1, c1, rfl⟩ := own_form ho1; have HW1 := hid (Bw.trans (show Bw w _ from Ly.bw (by repeat (first | exact Ly.refl _ | apply Ly.lay | apply Ly.alloc | apply Ly.drewN | apply Ly.drew))) hb1); have B9 := hid ((show Blk _ (w.heap.size + 1) #[.int .i64 o.kind, .slice ab o.bytes.length cb, .slice av o.vals.length cv, .slice ak o.keys.length ck, .int .i64 o.num, .int .u64 o.re, .int .u64 o.im] 50 from (by repeat (first | exact (show Blk ((w.alloc (.cells #[.int .i64 H.1, .slice ah H.2.length ch] 32)).alloc (.cells #[.int .i64 o.kind, .slice ab o.bytes.length cb, .slice av o.vals.length cv, .slice ak o.keys.length ck, .int .i64 o.num, .int .u64 o.re, .int .u64 o.im] 50)) (w.heap.size + 1) #[.int .i64 o.kind, .slice ab o.bytes.length cb, .slice av o.vals.length cv, .slice ak o.keys.length ck, .int .i64 o.num, .int .u64 o.re, .int .u64 o.im] 50 by simpa using Blk.new (w.alloc (.cells #[.int .i64 H.1, .slice ah H.2.length ch] 32)) #[.int .i64 o.kind, .slice ab o.bytes.length cb, .slice av o.vals.length cv, .slice ak o.keys.length ck, .int .i64 o.num, .int .u64 o.re, .int .u64 o.im] 50) | apply Blk.lay | apply Blk.alloc))).bw hb1); have z9 := B9.out.cell; have hs9 : w.heap.size + 1 < w1.heap.size := B9.out.lt; have hcv1 := conv_sl (own_sl (G := fun _ => True) ho1 (fun _ _ => trivial)); have hcv2 := conv_sl (HOL.out.1.below HW1.out); clear ho1 hb1)
    | (go_at_call 100; refine (len_str _ hU _ (HSS.out.bw HW1.out) HKK.out).mono ?_; rw [HOB.out]; rintro e w2 ⟨rfl, hly⟩; have hb2 := hly.bw; have HW2 := hid (Bw.trans HW1.out hb2); have B92 := hid (B9.out.bw hb2); have z92 := B92.out.cell; have hs92 : w.heap.size + 1 < w2.heap.size := B92.out.lt; clear hly hb2)
    | (go_at_call 101; refine (keys_no _ hU _ (HSS.out.bw HW2.out) (by rw [HKK.out]; decide)).mono ?_; rintro e w3 ⟨rfl, hly⟩; have hb3 := hly.bw; have HW3 := hid (Bw.trans HW2.out hb3); have B93 := hid (B92.out.bw hb3); have z93 := B93.out.cell; have hs93 : w.heap.size + 1 < w3.heap.size := B93.out.lt; clear hly hb3)
    | (go_at_call 99; refine (num_any _ _).mono ?_; rintro e wq ⟨rfl, hwq⟩; subst wq))
  go_loopw [15] (fun j wr => ∃ (i : Nat), i ≤ 0 ∧ j = .int .i64 i ∧ Blk wr (w.heap.size + 1) #[.int .i64 o.kind, .slice ab o.bytes.length cb, .slice av o.vals.length cv, .slice ak o.keys.length ck, .int .i64 o.num, .int .u64 o.re, .int .u64 o.im] 50 ∧ Bw w wr ∧ Bw w3 wr) (fun j _ => 0 - (intOf j).toNat)
  case atStart => exact ⟨0, by omega, rfl, B93.out, HW3.out, Bw.refl _⟩
  case round =>
    obtain ⟨i, hi, rfl, hB, hW, hW3⟩ := hrel
    have B9r := hid hB
    have HWr := hid hW
    have BW3r := hid hW3
    have z9r := hB.cell
    have hs9r : w.heap.size + 1 < wr.heap.size := hB.lt
    clear hB hW hW3
    obtain rfl : i = 0 := by omega
    go_wp2_with (first
      | (go_at_call 102; refine (funOf_no _ hU _ (HSS.out.bw HWr.out) (by rw [HKK.out]; decide)).mono ?_; rintro e w4 ⟨rfl, hly⟩; have hb4 := hly.bw; have HW4 := hid (Bw.trans HWr.out hb4); have B94 := hid (B9r.out.bw hb4); have z94 := B94.out.cell; have hs94 : w.heap.size + 1 < w4.heap.size := B94.out.lt; clear hly hb4)
      | (go_at_call 88; refine (cplxOf_no _ hU _ (HSS.out.bw HW4.out) (by rw [HKK.out]; decide)).mono ?_; rintro e w5 ⟨rfl, hly⟩; have hb5 := hly.bw; have HW5 := hid (Bw.trans HW4.out hb5); have B95 := hid (B94.out.bw hb5); have z95 := B95.out.cell; have hs95 : w.heap.size + 1 < w5.heap.size := B95.out.lt; clear hly hb5)
      | (go_at_call 104; refine (itemOf_no _ hU _ (HSS.out.bw HW5.out) (by rw [HKK.out]; decide)).mono ?_; rintro e w6 ⟨rfl, hly⟩; have hb6 := hly.bw; have HW6 := hid (Bw.trans HW5.out hb6); have B96 := hid (B95.out.bw hb6); have z96 := B96.out.cell; have hs96 : w.heap.size + 1 < w6.heap.size := B96.out.lt; clear hly hb6)
      | (go_at_call 99; refine (num_any _ _).mono ?_; rintro e wq ⟨rfl, hwq⟩; subst wq))
    all_goals go_ret
    all_goals exact ⟨rfl, HW6.out⟩

set_option maxRecDepth 100000 in
set_option maxHeartbeats 16000000 in
theorem whole_arr (G : Nat → Prop) (rv : Value) {b0 : Nat} {H : AHeap} {bs : List Nat} (v : Int) (hU : U v) (w : World) (hS : HS w b0 H bs) (h : RdH w G rv H) (hN : NeatH H) (hm : H.2.length ≤ 1000000) (hk : kk H v = 2) :
    Calls Tryz.prog 50 #[.pointer (some ⟨b0, 0, none⟩), rv, .int .u64 v, .int .i64 2] w fun e w' => e = .returned (.bool true) ∧ Bw w w' := by
  have HSS := hid hS
  have HR := hid h
  have HKK := hid hk
  obtain ⟨va, t, rfl, ht, hs, ho⟩ := h
  obtain ⟨ah, ch, rfl⟩ := hs.form
  have hkr := kk_ref (H := H) (v := v) (by omega)
  obtain ⟨hg, hge⟩ := ob_get (H := H) hU hkr.2.1
  have HOO := hid (ob_ok (v := v) hS.ok hU hkr.2.1)
  have HNE := hid (hN _ (List.mem_of_getElem? hg))
  have HG := hid hg
  have HGE := hid hge
  have HK2 := hid hkr.2.2
  clear hS ht hs ho hg hge hkr hN hk
  generalize hob : ob H v = o at *
  have HOB := hid hob
  clear hob
  have hl6 : o.vals.length ≤ 1000000 := HOO.out.2.2.2.2.2.2.1
  have hl7 : o.keys.length ≤ 1000000 := HOO.out.2.2.2.2.2.2.2
  have hl8 : o.bytes.length ≤ 1000000 := HOO.out.2.2.2.2.2.1
  have hko : o.kind = 2 := HK2.out.symm.trans HKK.out
  have HBY := hid (show o.bytes = [] from HOO.out.2.1 (by omega))
  have hbl : (o.bytes.length : Int) = 0 := by rw [HBY.out]; rfl
  have hkl : (o.keys.length : Int) = 0 := by rw [show o.keys = [] from HNE.out.1 (by omega)]; rfl
  have hre : ((0 : Int) != o.re) = false := by rw [(HNE.out.2.1 (by omega)).1]; rfl
  have him : ((0 : Int) != o.im) = false := by rw [(HNE.out.2.1 (by omega)).2]; rfl
  clear hko
  go_enter Tryz.func50, Tryz.ntmps50
  go_wp2_with (first
    | (go_at_call 40; refine (rof_any G _ H _ hU _ HGE.out _ HG.out w _ (Ly.bw (by repeat (first | exact Ly.refl _ | apply Ly.lay | apply Ly.alloc | apply Ly.drewN | apply Ly.drew))) HR.out (by omega)).mono ?_; rintro e w' ⟨vb, vv, vk, rfl, hol, os0, m0, rfl⟩; obtain ⟨ab, cb, rfl⟩ := hol.1.form; obtain ⟨av, cv, rfl⟩ := hol.2.1.form; obtain ⟨ak, ck, rfl⟩ := hol.2.2.form; have HOL := hid hol; clear hol)
    | (go_at_call 17; refine (bytes_no _ hU _ (HSS.out.bw (Ly.bw (by repeat (first | exact Ly.refl _ | apply Ly.lay | apply Ly.alloc | apply Ly.drewN | apply Ly.drew)))) (by rw [HKK.out]; decide)).mono ?_; rintro e w1 ⟨rfl, hly⟩; have hb1 := hly.bw; have HW1 := hid (Bw.trans (show Bw w _ from Ly.bw (by repeat (first | exact Ly.refl _ | apply Ly.lay | apply Ly.alloc | apply Ly.drewN | apply Ly.drew))) hb1); have B9 := hid ((show Blk _ (w.heap.size + 1) #[.int .i64 o.kind, .slice ab o.bytes.length cb, .slice av o.vals.length cv, .slice ak o.keys.length ck, .int .i64 o.num, .int .u64 o.re, .int .u64 o.im] 50 from (by repeat (first | exact (show Blk ((w.alloc (.cells #[.int .i64 H.1, .slice ah H.2.length ch] 32)).alloc (.cells #[.int .i64 o.kind, .slice ab o.bytes.length cb, .slice av o.vals.length cv, .slice ak o.keys.length ck, .int .i64 o.num, .int .u64 o.re, .int .u64 o.im] 50)) (w.heap.size + 1) #[.int .i64 o.kind, .slice ab o.bytes.length cb, .slice av o.vals.length cv, .slice ak o.keys.length ck, .int .i64 o.num, .int .u64 o.re, .int .u64 o.im] 50 by simpa using Blk.new (w.alloc (.cells #[.int .i64 H.1, .slice ah H.2.length ch] 32)) #[.int .i64 o.kind, .slice ab o.bytes.length cb, .slice av o.vals.length cv, .slice ak o.keys.length ck, .int .i64 o.num, .int .u64 o.re, .int .u64 o.im] 50) | apply Blk.lay | apply Blk.alloc))).bw hb1); have z9 := B9.out.cell; have hs9 : w.heap.size + 1 < w1.heap.size := B9.out.lt; have hcv1 := conv_nil w1; have hcv2 : (convert 46 9 (.slice ab o.bytes.length cb)).run Tryz.prog w1 = .ok (.string (strOfNums [])) w1 := (conv_sl (HOL.out.1.below HW1.out)).trans (by rw [HBY.out]); clear hly hb1)
    | (go_at_call 100; refine (len_list _ hU _ (HSS.out.bw HW1.out) (by rw [HKK.out]; decide)).mono ?_; rw [HOB.out]; rintro e w2 ⟨rfl, hly⟩; have hb2 := hly.bw; have HW2 := hid (Bw.trans HW1.out hb2); have B92 := hid (B9.out.bw hb2); have z92 := B92.out.cell; have hs92 : w.heap.size + 1 < w2.heap.size := B92.out.lt; clear hly hb2)
    | (go_at_call 101; refine (keys_no _ hU _ (HSS.out.bw HW2.out) (by rw [HKK.out]; decide)).mono ?_; rintro e w3 ⟨rfl, hly⟩; have hb3 := hly.bw; have HW3 := hid (Bw.trans HW2.out hb3); have B93 := hid (B92.out.bw hb3); have z93 := B93.out.cell; have hs93 : w.heap.size + 1 < w3.heap.size := B93.out.lt; clear hly hb3)
    | (go_at_call 99; refine (num_any _ _).mono ?_; rintro e wq ⟨rfl, hwq⟩; subst wq))
  go_loopw [15] (fun j wr => ∃ (i : Nat), i ≤ 0 ∧ j = .int .i64 i ∧ Blk wr (w.heap.size + 1) #[.int .i64 o.kind, .slice ab o.bytes.length cb, .slice av o.vals.length cv, .slice ak o.keys.length ck, .int .i64 o.num, .int .u64 o.re, .int .u64 o.im] 50 ∧ Bw w wr ∧ Bw w3 wr) (fun j _ => 0 - (intOf j).toNat)
  case atStart => exact ⟨0, by omega, rfl, B93.out, HW3.out, Bw.refl _⟩
  case round =>
    obtain ⟨i, hi, rfl, hB, hW, hW3⟩ := hrel
    have B9r := hid hB
    have HWr := hid hW
    have BW3r := hid hW3
    have z9r := hB.cell
    have hs9r : w.heap.size + 1 < wr.heap.size := hB.lt
    clear hB hW hW3
    obtain rfl : i = 0 := by omega
    go_wp2_with (first
      | (go_at_call 102; refine (funOf_no _ hU _ (HSS.out.bw HWr.out) (by rw [HKK.out]; decide)).mono ?_; rintro e w4 ⟨rfl, hly⟩; have hb4 := hly.bw; have HW4 := hid (Bw.trans HWr.out hb4); have B94 := hid (B9r.out.bw hb4); have z94 := B94.out.cell; have hs94 : w.heap.size + 1 < w4.heap.size := B94.out.lt; clear hly hb4)
      | (go_at_call 88; refine (cplxOf_no _ hU _ (HSS.out.bw HW4.out) (by rw [HKK.out]; decide)).mono ?_; rintro e w5 ⟨rfl, hly⟩; have hb5 := hly.bw; have HW5 := hid (Bw.trans HW4.out hb5); have B95 := hid (B94.out.bw hb5); have z95 := B95.out.cell; have hs95 : w.heap.size + 1 < w5.heap.size := B95.out.lt; clear hly hb5)
      | (go_at_call 104; refine (itemOf_no _ hU _ (HSS.out.bw HW5.out) (by rw [HKK.out]; decide)).mono ?_; rintro e w6 ⟨rfl, hly⟩; have hb6 := hly.bw; have HW6 := hid (Bw.trans HW5.out hb6); have B96 := hid (B95.out.bw hb6); have z96 := B96.out.cell; have hs96 : w.heap.size + 1 < w6.heap.size := B96.out.lt; clear hly hb6)
      | (go_at_call 99; refine (num_any _ _).mono ?_; rintro e wq ⟨rfl, hwq⟩; subst wq))
    all_goals go_ret
    all_goals exact ⟨rfl, HW6.out⟩

set_option maxRecDepth 100000 in
set_option maxHeartbeats 16000000 in
theorem whole_rec (G : Nat → Prop) (rv : Value) {b0 : Nat} {H : AHeap} {bs : List Nat} (v : Int) (hU : U v) (w : World) (hS : HS w b0 H bs) (h : RdH w G rv H) (hN : NeatH H) (hm : H.2.length ≤ 1000000) (hk : kk H v = 3) :
    Calls Tryz.prog 50 #[.pointer (some ⟨b0, 0, none⟩), rv, .int .u64 v, .int .i64 3] w fun e w' => e = .returned (.bool true) ∧ Bw w w' := by
  have HSS := hid hS
  have HR := hid h
  have HKK := hid hk
  obtain ⟨va, t, rfl, ht, hs, ho⟩ := h
  obtain ⟨ah, ch, rfl⟩ := hs.form
  have hkr := kk_ref (H := H) (v := v) (by omega)
  obtain ⟨hg, hge⟩ := ob_get (H := H) hU hkr.2.1
  have HOO := hid (ob_ok (v := v) hS.ok hU hkr.2.1)
  have HNE := hid (hN _ (List.mem_of_getElem? hg))
  have HG := hid hg
  have HGE := hid hge
  have HK2 := hid hkr.2.2
  clear hS ht hs ho hg hge hkr hN hk
  generalize hob : ob H v = o at *
  have HOB := hid hob
  clear hob
  have hl6 : o.vals.length ≤ 1000000 := HOO.out.2.2.2.2.2.2.1
  have hl7 : o.keys.length ≤ 1000000 := HOO.out.2.2.2.2.2.2.2
  have hl8 : o.bytes.length ≤ 1000000 := HOO.out.2.2.2.2.2.1
  have hko : o.kind = 3 := HK2.out.symm.trans HKK.out
  have HBY := hid (show o.bytes = [] from HOO.out.2.1 (by omega))
  have hbl : (o.bytes.length : Int) = 0 := by rw [HBY.out]; rfl
  have hre : ((0 : Int) != o.re) = false := by rw [(HNE.out.2.1 (by omega)).1]; rfl
  have him : ((0 : Int) != o.im) = false := by rw [(HNE.out.2.1 (by omega)).2]; rfl
  clear hko
  go_enter Tryz.func50, Tryz.ntmps50
  go_wp2_with (first
    | (go_at_call 40; refine (rof_any G _ H _ hU _ HGE.out _ HG.out w _ (Ly.bw (by repeat (first | exact Ly.refl _ | apply Ly.lay | apply Ly.alloc | apply Ly.drewN | apply Ly.drew))) HR.out (by omega)).mono ?_; rintro e w' ⟨vb, vv, vk, rfl, hol, os0, m0, rfl⟩; obtain ⟨ab, cb, rfl⟩ := hol.1.form; obtain ⟨av, cv, rfl⟩ := hol.2.1.form; obtain ⟨ak, ck, rfl⟩ := hol.2.2.form; have HOL := hid hol; clear hol)
    | (go_at_call 17; refine (bytes_no _ hU _ (HSS.out.bw (Ly.bw (by repeat (first | exact Ly.refl _ | apply Ly.lay | apply Ly.alloc | apply Ly.drewN | apply Ly.drew)))) (by rw [HKK.out]; decide)).mono ?_; rintro e w1 ⟨rfl, hly⟩; have hb1 := hly.bw; have HW1 := hid (Bw.trans (show Bw w _ from Ly.bw (by repeat (first | exact Ly.refl _ | apply Ly.lay | apply Ly.alloc | apply Ly.drewN | apply Ly.drew))) hb1); have B9 := hid ((show Blk _ (w.heap.size + 1) #[.int .i64 o.kind, .slice ab o.bytes.length cb, .slice av o.vals.length cv, .slice ak o.keys.length ck, .int .i64 o.num, .int .u64 o.re, .int .u64 o.im] 50 from (by repeat (first | exact (show Blk ((w.alloc (.cells #[.int .i64 H.1, .slice ah H.2.length ch] 32)).alloc (.cells #[.int .i64 o.kind, .slice ab o.bytes.length cb, .slice av o.vals.length cv, .slice ak o.keys.length ck, .int .i64 o.num, .int .u64 o.re, .int .u64 o.im] 50)) (w.heap.size + 1) #[.int .i64 o.kind, .slice ab o.bytes.length cb, .slice av o.vals.length cv, .slice ak o.keys.length ck, .int .i64 o.num, .int .u64 o.re, .int .u64 o.im] 50 by simpa using Blk.new (w.alloc (.cells #[.int .i64 H.1, .slice ah H.2.length ch] 32)) #[.int .i64 o.kind, .slice ab o.bytes.length cb, .slice av o.vals.length cv, .slice ak o.keys.length ck, .int .i64 o.num, .int .u64 o.re, .int .u64 o.im] 50) | apply Blk.lay | apply Blk.alloc))).bw hb1); have z9 := B9.out.cell; have hs9 : w.heap.size + 1 < w1.heap.size := B9.out.lt; have hcv1 := conv_nil w1; have hcv2 : (convert 46 9 (.slice ab o.bytes.length cb)).run Tryz.prog w1 = .ok (.string (strOfNums [])) w1 := (conv_sl (HOL.out.1.below HW1.out)).trans (by rw [HBY.out]); clear hly hb1)
    | (go_at_call 100; refine (len_list _ hU _ (HSS.out.bw HW1.out) (by rw [HKK.out]; decide)).mono ?_; rw [HOB.out]; rintro e w2 ⟨rfl, hly⟩; have hb2 := hly.bw; have HW2 := hid (Bw.trans HW1.out hb2); have B92 := hid (B9.out.bw hb2); have z92 := B92.out.cell; have hs92 : w.heap.size + 1 < w2.heap.size := B92.out.lt; clear hly hb2)
    | (go_at_call 101; refine (keys_yes _ hU _ (HSS.out.bw HW2.out) HKK.out).mono ?_; rw [HOB.out]; rintro e w3 ⟨r3, rfl, ho3, hb3⟩; obtain ⟨a3, c3, rfl⟩ := own_form ho3; have HO3 := hid ho3; have HW3 := hid (Bw.trans HW2.out hb3); have B93 := hid (B92.out.bw hb3); have z93 := B93.out.cell; have hs93 : w.heap.size + 1 < w3.heap.size := B93.out.lt; clear ho3 hb3)
    | (go_at_call 99; refine (num_any _ _).mono ?_; rintro e wq ⟨rfl, hwq⟩; subst wq))
  go_loopw [15] (fun j wr => ∃ (i : Nat), i ≤ o.keys.length ∧ j = .int .i64 i ∧ Blk wr (w.heap.size + 1) #[.int .i64 o.kind, .slice ab o.bytes.length cb, .slice av o.vals.length cv, .slice ak o.keys.length ck, .int .i64 o.num, .int .u64 o.re, .int .u64 o.im] 50 ∧ Bw w wr ∧ Bw w3 wr) (fun j _ => o.keys.length - (intOf j).toNat)
  case atStart => exact ⟨0, by omega, rfl, B93.out, HW3.out, Bw.refl _⟩
  case round =>
    obtain ⟨i, hi, rfl, hB, hW, hW3⟩ := hrel
    have B9r := hid hB
    have HWr := hid hW
    have BW3r := hid hW3
    have z9r := hB.cell
    have hs9r : w.heap.size + 1 < wr.heap.size := hB.lt
    clear hB hW hW3
    by_cases hlt : i < o.keys.length
    · have hlt2 : (i : Int) < (o.keys.length : Int) := by omega
      obtain ⟨g1, rfl, hg1, c1⟩ := own_at (own_bw HO3.out BW3r.out) hlt
      have cc1 : wr.cell? ⟨g1, i, none⟩ = some (.string o.keys[i]) := by rw [c1]; simp [hlt]
      obtain ⟨g2, off2, rfl, hg2, c2⟩ := (HOL.out.2.2.below HWr.out).at hlt
      have cc2 : wr.cell? ⟨g2, off2 + i, none⟩ = some (.string o.keys[i]) := by rw [c2]; simp [hlt]
      clear c1 c2
      generalize o.keys[i] = kx at cc1 cc2
      go_wp2
      go_quiet (fail)
      go_wp2
      go_roundw
      case rel => exact ⟨i + 1, by omega, by go_num, B9r.out, Bw.drewN HWr.out _, Bw.drewN BW3r.out _⟩
      case measure => simp [intOf]; omega
    · have hlt2 : ¬ (i : Int) < (o.keys.length : Int) := by omega
      go_wp2_with (first
        | (go_at_call 102; refine (funOf_no _ hU _ (HSS.out.bw HWr.out) (by rw [HKK.out]; decide)).mono ?_; rintro e w4 ⟨rfl, hly⟩; have hb4 := hly.bw; have HW4 := hid (Bw.trans HWr.out hb4); have B94 := hid (B9r.out.bw hb4); have z94 := B94.out.cell; have hs94 : w.heap.size + 1 < w4.heap.size := B94.out.lt; clear hly hb4)
        | (go_at_call 88; refine (cplxOf_no _ hU _ (HSS.out.bw HW4.out) (by rw [HKK.out]; decide)).mono ?_; rintro e w5 ⟨rfl, hly⟩; have hb5 := hly.bw; have HW5 := hid (Bw.trans HW4.out hb5); have B95 := hid (B94.out.bw hb5); have z95 := B95.out.cell; have hs95 : w.heap.size + 1 < w5.heap.size := B95.out.lt; clear hly hb5)
        | (go_at_call 104; refine (itemOf_no _ hU _ (HSS.out.bw HW5.out) (by rw [HKK.out]; decide)).mono ?_; rintro e w6 ⟨rfl, hly⟩; have hb6 := hly.bw; have HW6 := hid (Bw.trans HW5.out hb6); have B96 := hid (B95.out.bw hb6); have z96 := B96.out.cell; have hs96 : w.heap.size + 1 < w6.heap.size := B96.out.lt; clear hly hb6)
        | (go_at_call 99; refine (num_any _ _).mono ?_; rintro e wq ⟨rfl, hwq⟩; subst wq))
      all_goals go_ret
      all_goals exact ⟨rfl, HW6.out⟩

set_option maxRecDepth 100000 in
set_option maxHeartbeats 16000000 in
theorem whole_cell (G : Nat → Prop) (rv : Value) {b0 : Nat} {H : AHeap} {bs : List Nat} (v : Int) (hU : U v) (w : World) (hS : HS w b0 H bs) (h : RdH w G rv H) (hN : NeatH H) (hm : H.2.length ≤ 1000000) (hk : kk H v = 4) :
    Calls Tryz.prog 50 #[.pointer (some ⟨b0, 0, none⟩), rv, .int .u64 v, .int .i64 4] w fun e w' => e = .returned (.bool true) ∧ Bw w w' := by
  have HSS := hid hS
  have HR := hid h
  have HKK := hid hk
  obtain ⟨va, t, rfl, ht, hs, ho⟩ := h
  obtain ⟨ah, ch, rfl⟩ := hs.form
  have hkr := kk_ref (H := H) (v := v) (by omega)
  obtain ⟨hg, hge⟩ := ob_get (H := H) hU hkr.2.1
  have HOO := hid (ob_ok (v := v) hS.ok hU hkr.2.1)
  have HNE := hid (hN _ (List.mem_of_getElem? hg))
  have HG := hid hg
  have HGE := hid hge
  have HK2 := hid hkr.2.2
  clear hS ht hs ho hg hge hkr hN hk
  generalize hob : ob H v = o at *
  have HOB := hid hob
  clear hob
  have hl6 : o.vals.length ≤ 1000000 := HOO.out.2.2.2.2.2.2.1
  have hl7 : o.keys.length ≤ 1000000 := HOO.out.2.2.2.2.2.2.2
  have hl8 : o.bytes.length ≤ 1000000 := HOO.out.2.2.2.2.2.1
  have hko : o.kind = 4 := HK2.out.symm.trans HKK.out
  have HBY := hid (show o.bytes = [] from HOO.out.2.1 (by omega))
  have hbl : (o.bytes.length : Int) = 0 := by rw [HBY.out]; rfl
  have hkl : (o.keys.length : Int) = 0 := by rw [show o.keys = [] from HNE.out.1 (by omega)]; rfl
  have hre : ((0 : Int) != o.re) = false := by rw [(HNE.out.2.1 (by omega)).1]; rfl
  have him : ((0 : Int) != o.im) = false := by rw [(HNE.out.2.1 (by omega)).2]; rfl
  clear hko
  go_enter Tryz.func50, Tryz.ntmps50
  go_wp2_with (first
    | (go_at_call 40; refine (rof_any G _ H _ hU _ HGE.out _ HG.out w _ (Ly.bw (by repeat (first | exact Ly.refl _ | apply Ly.lay | apply Ly.alloc | apply Ly.drewN | apply Ly.drew))) HR.out (by omega)).mono ?_; rintro e w' ⟨vb, vv, vk, rfl, hol, os0, m0, rfl⟩; obtain ⟨ab, cb, rfl⟩ := hol.1.form; obtain ⟨av, cv, rfl⟩ := hol.2.1.form; obtain ⟨ak, ck, rfl⟩ := hol.2.2.form; have HOL := hid hol; clear hol)
    | (go_at_call 17; refine (bytes_no _ hU _ (HSS.out.bw (Ly.bw (by repeat (first | exact Ly.refl _ | apply Ly.lay | apply Ly.alloc | apply Ly.drewN | apply Ly.drew)))) (by rw [HKK.out]; decide)).mono ?_; rintro e w1 ⟨rfl, hly⟩; have hb1 := hly.bw; have HW1 := hid (Bw.trans (show Bw w _ from Ly.bw (by repeat (first | exact Ly.refl _ | apply Ly.lay | apply Ly.alloc | apply Ly.drewN | apply Ly.drew))) hb1); have B9 := hid ((show Blk _ (w.heap.size + 1) #[.int .i64 o.kind, .slice ab o.bytes.length cb, .slice av o.vals.length cv, .slice ak o.keys.length ck, .int .i64 o.num, .int .u64 o.re, .int .u64 o.im] 50 from (by repeat (first | exact (show Blk ((w.alloc (.cells #[.int .i64 H.1, .slice ah H.2.length ch] 32)).alloc (.cells #[.int .i64 o.kind, .slice ab o.bytes.length cb, .slice av o.vals.length cv, .slice ak o.keys.length ck, .int .i64 o.num, .int .u64 o.re, .int .u64 o.im] 50)) (w.heap.size + 1) #[.int .i64 o.kind, .slice ab o.bytes.length cb, .slice av o.vals.length cv, .slice ak o.keys.length ck, .int .i64 o.num, .int .u64 o.re, .int .u64 o.im] 50 by simpa using Blk.new (w.alloc (.cells #[.int .i64 H.1, .slice ah H.2.length ch] 32)) #[.int .i64 o.kind, .slice ab o.bytes.length cb, .slice av o.vals.length cv, .slice ak o.keys.length ck, .int .i64 o.num, .int .u64 o.re, .int .u64 o.im] 50) | apply Blk.lay | apply Blk.alloc))).bw hb1); have z9 := B9.out.cell; have hs9 : w.heap.size + 1 < w1.heap.size := B9.out.lt; have hcv1 := conv_nil w1; have hcv2 : (convert 46 9 (.slice ab o.bytes.length cb)).run Tryz.prog w1 = .ok (.string (strOfNums [])) w1 := (conv_sl (HOL.out.1.below HW1.out)).trans (by rw [HBY.out]); clear hly hb1)
    | (go_at_call 100; refine (len_no _ hU _ (HSS.out.bw HW1.out) (by rw [HKK.out]; decide)).mono ?_; rintro e w2 ⟨rfl, hly⟩; have hb2 := hly.bw; have HW2 := hid (Bw.trans HW1.out hb2); have B92 := hid (B9.out.bw hb2); have z92 := B92.out.cell; have hs92 : w.heap.size + 1 < w2.heap.size := B92.out.lt; clear hly hb2)
    | (go_at_call 101; refine (keys_no _ hU _ (HSS.out.bw HW2.out) (by rw [HKK.out]; decide)).mono ?_; rintro e w3 ⟨rfl, hly⟩; have hb3 := hly.bw; have HW3 := hid (Bw.trans HW2.out hb3); have B93 := hid (B92.out.bw hb3); have z93 := B93.out.cell; have hs93 : w.heap.size + 1 < w3.heap.size := B93.out.lt; clear hly hb3)
    | (go_at_call 99; refine (num_any _ _).mono ?_; rintro e wq ⟨rfl, hwq⟩; subst wq))
  go_loopw [15] (fun j wr => ∃ (i : Nat), i ≤ 0 ∧ j = .int .i64 i ∧ Blk wr (w.heap.size + 1) #[.int .i64 o.kind, .slice ab o.bytes.length cb, .slice av o.vals.length cv, .slice ak o.keys.length ck, .int .i64 o.num, .int .u64 o.re, .int .u64 o.im] 50 ∧ Bw w wr ∧ Bw w3 wr) (fun j _ => 0 - (intOf j).toNat)
  case atStart => exact ⟨0, by omega, rfl, B93.out, HW3.out, Bw.refl _⟩
  case round =>
    obtain ⟨i, hi, rfl, hB, hW, hW3⟩ := hrel
    have B9r := hid hB
    have HWr := hid hW
    have BW3r := hid hW3
    have z9r := hB.cell
    have hs9r : w.heap.size + 1 < wr.heap.size := hB.lt
    clear hB hW hW3
    obtain rfl : i = 0 := by omega
    go_wp2_with (first
      | (go_at_call 102; refine (funOf_no _ hU _ (HSS.out.bw HWr.out) (by rw [HKK.out]; decide)).mono ?_; rintro e w4 ⟨rfl, hly⟩; have hb4 := hly.bw; have HW4 := hid (Bw.trans HWr.out hb4); have B94 := hid (B9r.out.bw hb4); have z94 := B94.out.cell; have hs94 : w.heap.size + 1 < w4.heap.size := B94.out.lt; clear hly hb4)
      | (go_at_call 88; refine (cplxOf_no _ hU _ (HSS.out.bw HW4.out) (by rw [HKK.out]; decide)).mono ?_; rintro e w5 ⟨rfl, hly⟩; have hb5 := hly.bw; have HW5 := hid (Bw.trans HW4.out hb5); have B95 := hid (B94.out.bw hb5); have z95 := B95.out.cell; have hs95 : w.heap.size + 1 < w5.heap.size := B95.out.lt; clear hly hb5)
      | (go_at_call 104; refine (itemOf_no _ hU _ (HSS.out.bw HW5.out) (by rw [HKK.out]; decide)).mono ?_; rintro e w6 ⟨rfl, hly⟩; have hb6 := hly.bw; have HW6 := hid (Bw.trans HW5.out hb6); have B96 := hid (B95.out.bw hb6); have z96 := B96.out.cell; have hs96 : w.heap.size + 1 < w6.heap.size := B96.out.lt; clear hly hb6)
      | (go_at_call 99; refine (num_any _ _).mono ?_; rintro e wq ⟨rfl, hwq⟩; subst wq))
    all_goals go_ret
    all_goals exact ⟨rfl, HW6.out⟩


set_option maxRecDepth 100000 in
set_option maxHeartbeats 16000000 in
theorem whole_fun (G : Nat → Prop) (rv : Value) {b0 : Nat} {H : AHeap} {bs : List Nat} (v : Int) (hU : U v) (w : World) (hS : HS w b0 H bs) (h : RdH w G rv H) (hN : NeatH H) (hm : H.2.length ≤ 1000000) (hk : kk H v = 5) :
    Calls Tryz.prog 50 #[.pointer (some ⟨b0, 0, none⟩), rv, .int .u64 v, .int .i64 5] w fun e w' => e = .returned (.bool true) ∧ Bw w w' := by
  have HSS := hid hS
  have HR := hid h
  have HKK := hid hk
  obtain ⟨va, t, rfl, ht, hs, ho⟩ := h
  obtain ⟨ah, ch, rfl⟩ := hs.form
  have hkr := kk_ref (H := H) (v := v) (by omega)
  obtain ⟨hg, hge⟩ := ob_get (H := H) hU hkr.2.1
  have HOO := hid (ob_ok (v := v) hS.ok hU hkr.2.1)
  have HNE := hid (hN _ (List.mem_of_getElem? hg))
  have HG := hid hg
  have HGE := hid hge
  have HK2 := hid hkr.2.2
  clear hS ht hs ho hg hge hkr hN hk
  generalize hob : ob H v = o at *
  have HOB := hid hob
  clear hob
  have hl6 : o.vals.length ≤ 1000000 := HOO.out.2.2.2.2.2.2.1
  have hl7 : o.keys.length ≤ 1000000 := HOO.out.2.2.2.2.2.2.2
  have hl8 : o.bytes.length ≤ 1000000 := HOO.out.2.2.2.2.2.1
  have hko : o.kind = 5 := HK2.out.symm.trans HKK.out
  have HBY := hid (show o.bytes = [] from HOO.out.2.1 (by omega))
  have hbl : (o.bytes.length : Int) = 0 := by rw [HBY.out]; rfl
  have hkl : (o.keys.length : Int) = 0 := by rw [show o.keys = [] from HNE.out.1 (by omega)]; rfl
  have hre : ((0 : Int) != o.re) = false := by rw [(HNE.out.2.1 (by omega)).1]; rfl
  have him : ((0 : Int) != o.im) = false := by rw [(HNE.out.2.1 (by omega)).2]; rfl
  clear hko
  go_enter Tryz.func50, Tryz.ntmps50
  go_wp2_with (first
    | (go_at_call 40; refine (rof_any G _ H _ hU _ HGE.out _ HG.out w _ (Ly.bw (by repeat (first | exact Ly.refl _ | apply Ly.lay | apply Ly.alloc | apply Ly.drewN | apply Ly.drew))) HR.out (by omega)).mono ?_; rintro e w' ⟨vb, vv, vk, rfl, hol, os0, m0, rfl⟩; obtain ⟨ab, cb, rfl⟩ := hol.1.form; obtain ⟨av, cv, rfl⟩ := hol.2.1.form; obtain ⟨ak, ck, rfl⟩ := hol.2.2.form; have HOL := hid hol; clear hol)
    | (go_at_call 17; refine (bytes_no _ hU _ (HSS.out.bw (Ly.bw (by repeat (first | exact Ly.refl _ | apply Ly.lay | apply Ly.alloc | apply Ly.drewN | apply Ly.drew)))) (by rw [HKK.out]; decide)).mono ?_; rintro e w1 ⟨rfl, hly⟩; have hb1 := hly.bw; have HW1 := hid (Bw.trans (show Bw w _ from Ly.bw (by repeat (first | exact Ly.refl _ | apply Ly.lay | apply Ly.alloc | apply Ly.drewN | apply Ly.drew))) hb1); have B9 := hid ((show Blk _ (w.heap.size + 1) #[.int .i64 o.kind, .slice ab o.bytes.length cb, .slice av o.vals.length cv, .slice ak o.keys.length ck, .int .i64 o.num, .int .u64 o.re, .int .u64 o.im] 50 from (by repeat (first | exact (show Blk ((w.alloc (.cells #[.int .i64 H.1, .slice ah H.2.length ch] 32)).alloc (.cells #[.int .i64 o.kind, .slice ab o.bytes.length cb, .slice av o.vals.length cv, .slice ak o.keys.length ck, .int .i64 o.num, .int .u64 o.re, .int .u64 o.im] 50)) (w.heap.size + 1) #[.int .i64 o.kind, .slice ab o.bytes.length cb, .slice av o.vals.length cv, .slice ak o.keys.length ck, .int .i64 o.num, .int .u64 o.re, .int .u64 o.im] 50 by simpa using Blk.new (w.alloc (.cells #[.int .i64 H.1, .slice ah H.2.length ch] 32)) #[.int .i64 o.kind, .slice ab o.bytes.length cb, .slice av o.vals.length cv, .slice ak o.keys.length ck, .int .i64 o.num, .int .u64 o.re, .int .u64 o.im] 50) | apply Blk.lay | apply Blk.alloc))).bw hb1); have z9 := B9.out.cell; have hs9 : w.heap.size + 1 < w1.heap.size := B9.out.lt; have hcv1 := conv_nil w1; have hcv2 : (convert 46 9 (.slice ab o.bytes.length cb)).run Tryz.prog w1 = .ok (.string (strOfNums [])) w1 := (conv_sl (HOL.out.1.below HW1.out)).trans (by rw [HBY.out]); clear hly hb1)
    | (go_at_call 100; refine (len_no _ hU _ (HSS.out.bw HW1.out) (by rw [HKK.out]; decide)).mono ?_; rintro e w2 ⟨rfl, hly⟩; have hb2 := hly.bw; have HW2 := hid (Bw.trans HW1.out hb2); have B92 := hid (B9.out.bw hb2); have z92 := B92.out.cell; have hs92 : w.heap.size + 1 < w2.heap.size := B92.out.lt; clear hly hb2)
    | (go_at_call 101; refine (keys_no _ hU _ (HSS.out.bw HW2.out) (by rw [HKK.out]; decide)).mono ?_; rintro e w3 ⟨rfl, hly⟩; have hb3 := hly.bw; have HW3 := hid (Bw.trans HW2.out hb3); have B93 := hid (B92.out.bw hb3); have z93 := B93.out.cell; have hs93 : w.heap.size + 1 < w3.heap.size := B93.out.lt; clear hly hb3)
    | (go_at_call 99; refine (num_any _ _).mono ?_; rintro e wq ⟨rfl, hwq⟩; subst wq))
  go_loopw [15] (fun j wr => ∃ (i : Nat), i ≤ 0 ∧ j = .int .i64 i ∧ Blk wr (w.heap.size + 1) #[.int .i64 o.kind, .slice ab o.bytes.length cb, .slice av o.vals.length cv, .slice ak o.keys.length ck, .int .i64 o.num, .int .u64 o.re, .int .u64 o.im] 50 ∧ Bw w wr ∧ Bw w3 wr) (fun j _ => 0 - (intOf j).toNat)
  case atStart => exact ⟨0, by omega, rfl, B93.out, HW3.out, Bw.refl _⟩
  case round =>
    obtain ⟨i, hi, rfl, hB, hW, hW3⟩ := hrel
    have B9r := hid hB
    have HWr := hid hW
    have BW3r := hid hW3
    have z9r := hB.cell
    have hs9r : w.heap.size + 1 < wr.heap.size := hB.lt
    clear hB hW hW3
    obtain rfl : i = 0 := by omega
    go_wp2_with (first
      | (go_at_call 102; refine (funOf_yes _ hU _ (HSS.out.bw HWr.out) HKK.out).mono ?_; rw [HOB.out]; rintro e w4 ⟨r4, rfl, ho4, hb4⟩; obtain ⟨a4, c4, rfl⟩ := own_form ho4; have HO4 := hid ho4; have HW4 := hid (Bw.trans HWr.out hb4); have B94 := hid (B9r.out.bw hb4); have z94 := B94.out.cell; have hs94 : w.heap.size + 1 < w4.heap.size := B94.out.lt; clear ho4 hb4)
      | (go_at_call 103; refine (rsameL_any (fun _ => True) _ _ o.vals o.vals _ (own_sl HO4.out (fun _ _ => trivial)) (HOL.out.2.1.below HW4.out).any (by have := HOO.out.2.2.2.2.2.2.1; omega) (by have := HOO.out.2.2.2.2.2.2.1; omega)).mono ?_; rw [decide_eq_true (rfl : o.vals = o.vals)]; rintro e w8 ⟨rfl, hly⟩; have hb8 := hly.bw; have HW8 := hid (Bw.trans HW4.out hb8); have B98 := hid (B94.out.bw hb8); have z98 := B98.out.cell; have hs98 : w.heap.size + 1 < w8.heap.size := B98.out.lt; clear hly hb8)
      | (go_at_call 88; refine (cplxOf_no _ hU _ (HSS.out.bw HW8.out) (by rw [HKK.out]; decide)).mono ?_; rintro e w5 ⟨rfl, hly⟩; have hb5 := hly.bw; have HW5 := hid (Bw.trans HW8.out hb5); have B95 := hid (B98.out.bw hb5); have z95 := B95.out.cell; have hs95 : w.heap.size + 1 < w5.heap.size := B95.out.lt; clear hly hb5)
      | (go_at_call 104; refine (itemOf_no _ hU _ (HSS.out.bw HW5.out) (by rw [HKK.out]; decide)).mono ?_; rintro e w6 ⟨rfl, hly⟩; have hb6 := hly.bw; have HW6 := hid (Bw.trans HW5.out hb6); have B96 := hid (B95.out.bw hb6); have z96 := B96.out.cell; have hs96 : w.heap.size + 1 < w6.heap.size := B96.out.lt; clear hly hb6)
      | (go_at_call 99; refine (num_any _ _).mono ?_; rintro e wq ⟨rfl, hwq⟩; subst wq))
    all_goals go_ret
    all_goals exact ⟨rfl, HW6.out⟩

set_option maxRecDepth 100000 in
set_option maxHeartbeats 16000000 in
theorem whole_cplx (G : Nat → Prop) (rv : Value) {b0 : Nat} {H : AHeap} {bs : List Nat} (v : Int) (hU : U v) (w : World) (hS : HS w b0 H bs) (h : RdH w G rv H) (hN : NeatH H) (hm : H.2.length ≤ 1000000) (hk : kk H v = 6) :
    Calls Tryz.prog 50 #[.pointer (some ⟨b0, 0, none⟩), rv, .int .u64 v, .int .i64 6] w fun e w' => e = .returned (.bool true) ∧ Bw w w' := by
  have HSS := hid hS
  have HR := hid h
  have HKK := hid hk
  obtain ⟨va, t, rfl, ht, hs, ho⟩ := h
  obtain ⟨ah, ch, rfl⟩ := hs.form
  have hkr := kk_ref (H := H) (v := v) (by omega)
  obtain ⟨hg, hge⟩ := ob_get (H := H) hU hkr.2.1
  have HOO := hid (ob_ok (v := v) hS.ok hU hkr.2.1)
  have HNE := hid (hN _ (List.mem_of_getElem? hg))
  have HG := hid hg
  have HGE := hid hge
  have HK2 := hid hkr.2.2
  clear hS ht hs ho hg hge hkr hN hk
  generalize hob : ob H v = o at *
  have HOB := hid hob
  clear hob
  have hl6 : o.vals.length ≤ 1000000 := HOO.out.2.2.2.2.2.2.1
  have hl7 : o.keys.length ≤ 1000000 := HOO.out.2.2.2.2.2.2.2
  have hl8 : o.bytes.length ≤ 1000000 := HOO.out.2.2.2.2.2.1
  have hko : o.kind = 6 := HK2.out.symm.trans HKK.out
  have HBY := hid (show o.bytes = [] from HOO.out.2.1 (by omega))
  have hbl : (o.bytes.length : Int) = 0 := by rw [HBY.out]; rfl
  have hkl : (o.keys.length : Int) = 0 := by rw [show o.keys = [] from HNE.out.1 (by omega)]; rfl
  clear hko
  go_enter Tryz.func50, Tryz.ntmps50
  go_wp2_with (first
    | (go_at_call 40; refine (rof_any G _ H _ hU _ HGE.out _ HG.out w _ (Ly.bw (by repeat (first | exact Ly.refl _ | apply Ly.lay | apply Ly.alloc | apply Ly.drewN | apply Ly.drew))) HR.out (by omega)).mono ?_; rintro e w' ⟨vb, vv, vk, rfl, hol, os0, m0, rfl⟩; obtain ⟨ab, cb, rfl⟩ := hol.1.form; obtain ⟨av, cv, rfl⟩ := hol.2.1.form; obtain ⟨ak, ck, rfl⟩ := hol.2.2.form; have HOL := hid hol; clear hol)
    | (go_at_call 17; refine (bytes_no _ hU _ (HSS.out.bw (Ly.bw (by repeat (first | exact Ly.refl _ | apply Ly.lay | apply Ly.alloc | apply Ly.drewN | apply Ly.drew)))) (by rw [HKK.out]; decide)).mono ?_; rintro e w1 ⟨rfl, hly⟩; have hb1 := hly.bw; have HW1 := hid (Bw.trans (show Bw w _ from Ly.bw (by repeat (first | exact Ly.refl _ | apply Ly.lay | apply Ly.alloc | apply Ly.drewN | apply Ly.drew))) hb1); have B9 := hid ((show Blk _ (w.heap.size + 1) #[.int .i64 o.kind, .slice ab o.bytes.length cb, .slice av o.vals.length cv, .slice ak o.keys.length ck, .int .i64 o.num, .int .u64 o.re, .int .u64 o.im] 50 from (by repeat (first | exact (show Blk ((w.alloc (.cells #[.int .i64 H.1, .slice ah H.2.length ch] 32)).alloc (.cells #[.int .i64 o.kind, .slice ab o.bytes.length cb, .slice av o.vals.length cv, .slice ak o.keys.length ck, .int .i64 o.num, .int .u64 o.re, .int .u64 o.im] 50)) (w.heap.size + 1) #[.int .i64 o.kind, .slice ab o.bytes.length cb, .slice av o.vals.length cv, .slice ak o.keys.length ck, .int .i64 o.num, .int .u64 o.re, .int .u64 o.im] 50 by simpa using Blk.new (w.alloc (.cells #[.int .i64 H.1, .slice ah H.2.length ch] 32)) #[.int .i64 o.kind, .slice ab o.bytes.length cb, .slice av o.vals.length cv, .slice ak o.keys.length ck, .int .i64 o.num, .int .u64 o.re, .int .u64 o.im] 50) | apply Blk.lay | apply Blk.alloc))).bw hb1); have z9 := B9.out.cell; have hs9 : w.heap.size + 1 < w1.heap.size := B9.out.lt; have hcv1 := conv_nil w1; have hcv2 : (convert 46 9 (.slice ab o.bytes.length cb)).run Tryz.prog w1 = .ok (.string (strOfNums [])) w1 := (conv_sl (HOL.out.1.below HW1.out)).trans (by rw [HBY.out]); clear hly hb1)
    | (go_at_call 100; refine (len_no _ hU _ (HSS.out.bw HW1.out) (by rw [HKK.out]; decide)).mono ?_; rintro e w2 ⟨rfl, hly⟩; have hb2 := hly.bw; have HW2 := hid (Bw.trans HW1.out hb2); have B92 := hid (B9.out.bw hb2); have z92 := B92.out.cell; have hs92 : w.heap.size + 1 < w2.heap.size := B92.out.lt; clear hly hb2)
    | (go_at_call 101; refine (keys_no _ hU _ (HSS.out.bw HW2.out) (by rw [HKK.out]; decide)).mono ?_; rintro e w3 ⟨rfl, hly⟩; have hb3 := hly.bw; have HW3 := hid (Bw.trans HW2.out hb3); have B93 := hid (B92.out.bw hb3); have z93 := B93.out.cell; have hs93 : w.heap.size + 1 < w3.heap.size := B93.out.lt; clear hly hb3)
    | (go_at_call 99; refine (num_any _ _).mono ?_; rintro e wq ⟨rfl, hwq⟩; subst wq))
  go_loopw [15] (fun j wr => ∃ (i : Nat), i ≤ 0 ∧ j = .int .i64 i ∧ Blk wr (w.heap.size + 1) #[.int .i64 o.kind, .slice ab o.bytes.length cb, .slice av o.vals.length cv, .slice ak o.keys.length ck, .int .i64 o.num, .int .u64 o.re, .int .u64 o.im] 50 ∧ Bw w wr ∧ Bw w3 wr) (fun j _ => 0 - (intOf j).toNat)
  case atStart => exact ⟨0, by omega, rfl, B93.out, HW3.out, Bw.refl _⟩
  case round =>
    obtain ⟨i, hi, rfl, hB, hW, hW3⟩ := hrel
    have B9r := hid hB
    have HWr := hid hW
    have BW3r := hid hW3
    have z9r := hB.cell
    have hs9r : w.heap.size + 1 < wr.heap.size := hB.lt
    clear hB hW hW3
    obtain rfl : i = 0 := by omega
    go_wp2_with (first
      | (go_at_call 102; refine (funOf_no _ hU _ (HSS.out.bw HWr.out) (by rw [HKK.out]; decide)).mono ?_; rintro e w4 ⟨rfl, hly⟩; have hb4 := hly.bw; have HW4 := hid (Bw.trans HWr.out hb4); have B94 := hid (B9r.out.bw hb4); have z94 := B94.out.cell; have hs94 : w.heap.size + 1 < w4.heap.size := B94.out.lt; clear hly hb4)
      | (go_at_call 88; refine (cplxOf_yes _ hU _ (HSS.out.bw HW4.out) HKK.out).mono ?_; rw [HOB.out]; rintro e w5 ⟨rfl, hly⟩; have hb5 := hly.bw; have HW5 := hid (Bw.trans HW4.out hb5); have B95 := hid (B94.out.bw hb5); have z95 := B95.out.cell; have hs95 : w.heap.size + 1 < w5.heap.size := B95.out.lt; clear hly hb5)
      | (go_at_call 104; refine (itemOf_no _ hU _ (HSS.out.bw HW5.out) (by rw [HKK.out]; decide)).mono ?_; rintro e w6 ⟨rfl, hly⟩; have hb6 := hly.bw; have HW6 := hid (Bw.trans HW5.out hb6); have B96 := hid (B95.out.bw hb6); have z96 := B96.out.cell; have hs96 : w.heap.size + 1 < w6.heap.size := B96.out.lt; clear hly hb6)
      | (go_at_call 99; refine (num_any _ _).mono ?_; rintro e wq ⟨rfl, hwq⟩; subst wq))
    all_goals go_ret
    all_goals exact ⟨rfl, HW6.out⟩

set_option maxRecDepth 100000 in
set_option maxHeartbeats 16000000 in
theorem whole_mon (G : Nat → Prop) (rv : Value) {b0 : Nat} {H : AHeap} {bs : List Nat} (v : Int) (hU : U v) (w : World) (hS : HS w b0 H bs) (h : RdH w G rv H) (hN : NeatH H) (hm : H.2.length ≤ 1000000) (hk : kk H v = 7) :
    Calls Tryz.prog 50 #[.pointer (some ⟨b0, 0, none⟩), rv, .int .u64 v, .int .i64 7] w fun e w' => e = .returned (.bool true) ∧ Bw w w' := by
  have HSS := hid hS
  have HR := hid h
  have HKK := hid hk
  obtain ⟨va, t, rfl, ht, hs, ho⟩ := h
  obtain ⟨ah, ch, rfl⟩ := hs.form
  have hkr := kk_ref (H := H) (v := v) (by omega)
  obtain ⟨hg, hge⟩ := ob_get (H := H) hU hkr.2.1
  have HOO := hid (ob_ok (v := v) hS.ok hU hkr.2.1)
  have HNE := hid (hN _ (List.mem_of_getElem? hg))
  have HG := hid hg
  have HGE := hid hge
  have HK2 := hid hkr.2.2
  clear hS ht hs ho hg hge hkr hN hk
  generalize hob : ob H v = o at *
  have HOB := hid hob
  clear hob
  have hl6 : o.vals.length ≤ 1000000 := HOO.out.2.2.2.2.2.2.1
  have hl7 : o.keys.length ≤ 1000000 := HOO.out.2.2.2.2.2.2.2
  have hl8 : o.bytes.length ≤ 1000000 := HOO.out.2.2.2.2.2.1
  have hko : o.kind = 7 := HK2.out.symm.trans HKK.out
  have HBY := hid (show o.bytes = [] from HOO.out.2.1 (by omega))
  have hbl : (o.bytes.length : Int) = 0 := by rw [HBY.out]; rfl
  have hkl : (o.keys.length : Int) = 0 := by rw [show o.keys = [] from HNE.out.1 (by omega)]; rfl
  have hre : ((0 : Int) != o.re) = false := by rw [(HNE.out.2.1 (by omega)).1]; rfl
  have him : ((0 : Int) != o.im) = false := by rw [(HNE.out.2.1 (by omega)).2]; rfl
  clear hko
  go_enter Tryz.func50, Tryz.ntmps50
  go_wp2_with (first
    | (go_at_call 40; refine (rof_any G _ H _ hU _ HGE.out _ HG.out w _ (Ly.bw (by repeat (first | exact Ly.refl _ | apply Ly.lay | apply Ly.alloc | apply Ly.drewN | apply Ly.drew))) HR.out (by omega)).mono ?_; rintro e w' ⟨vb, vv, vk, rfl, hol, os0, m0, rfl⟩; obtain ⟨ab, cb, rfl⟩ := hol.1.form; obtain ⟨av, cv, rfl⟩ := hol.2.1.form; obtain ⟨ak, ck, rfl⟩ := hol.2.2.form; have HOL := hid hol; clear hol)
    | (go_at_call 17; refine (bytes_no _ hU _ (HSS.out.bw (Ly.bw (by repeat (first | exact Ly.refl _ | apply Ly.lay | apply Ly.alloc | apply Ly.drewN | apply Ly.drew)))) (by rw [HKK.out]; decide)).mono ?_; rintro e w1 ⟨rfl, hly⟩; have hb1 := hly.bw; have HW1 := hid (Bw.trans (show Bw w _ from Ly.bw (by repeat (first | exact Ly.refl _ | apply Ly.lay | apply Ly.alloc | apply Ly.drewN | apply Ly.drew))) hb1); have B9 := hid ((show Blk _ (w.heap.size + 1) #[.int .i64 o.kind, .slice ab o.bytes.length cb, .slice av o.vals.length cv, .slice ak o.keys.length ck, .int .i64 o.num, .int .u64 o.re, .int .u64 o.im] 50 from (by repeat (first | exact (show Blk ((w.alloc (.cells #[.int .i64 H.1, .slice ah H.2.length ch] 32)).alloc (.cells #[.int .i64 o.kind, .slice ab o.bytes.length cb, .slice av o.vals.length cv, .slice ak o.keys.length ck, .int .i64 o.num, .int .u64 o.re, .int .u64 o.im] 50)) (w.heap.size + 1) #[.int .i64 o.kind, .slice ab o.bytes.length cb, .slice av o.vals.length cv, .slice ak o.keys.length ck, .int .i64 o.num, .int .u64 o.re, .int .u64 o.im] 50 by simpa using Blk.new (w.alloc (.cells #[.int .i64 H.1, .slice ah H.2.length ch] 32)) #[.int .i64 o.kind, .slice ab o.bytes.length cb, .slice av o.vals.length cv, .slice ak o.keys.length ck, .int .i64 o.num, .int .u64 o.re, .int .u64 o.im] 50) | apply Blk.lay | apply Blk.alloc))).bw hb1); have z9 := B9.out.cell; have hs9 : w.heap.size + 1 < w1.heap.size := B9.out.lt; have hcv1 := conv_nil w1; have hcv2 : (convert 46 9 (.slice ab o.bytes.length cb)).run Tryz.prog w1 = .ok (.string (strOfNums [])) w1 := (conv_sl (HOL.out.1.below HW1.out)).trans (by rw [HBY.out]); clear hly hb1)
    | (go_at_call 100; refine (len_no _ hU _ (HSS.out.bw HW1.out) (by rw [HKK.out]; decide)).mono ?_; rintro e w2 ⟨rfl, hly⟩; have hb2 := hly.bw; have HW2 := hid (Bw.trans HW1.out hb2); have B92 := hid (B9.out.bw hb2); have z92 := B92.out.cell; have hs92 : w.heap.size + 1 < w2.heap.size := B92.out.lt; clear hly hb2)
    | (go_at_call 101; refine (keys_no _ hU _ (HSS.out.bw HW2.out) (by rw [HKK.out]; decide)).mono ?_; rintro e w3 ⟨rfl, hly⟩; have hb3 := hly.bw; have HW3 := hid (Bw.trans HW2.out hb3); have B93 := hid (B92.out.bw hb3); have z93 := B93.out.cell; have hs93 : w.heap.size + 1 < w3.heap.size := B93.out.lt; clear hly hb3)
    | (go_at_call 99; refine (num_any _ _).mono ?_; rintro e wq ⟨rfl, hwq⟩; subst wq))
  go_loopw [15] (fun j wr => ∃ (i : Nat), i ≤ 0 ∧ j = .int .i64 i ∧ Blk wr (w.heap.size + 1) #[.int .i64 o.kind, .slice ab o.bytes.length cb, .slice av o.vals.length cv, .slice ak o.keys.length ck, .int .i64 o.num, .int .u64 o.re, .int .u64 o.im] 50 ∧ Bw w wr ∧ Bw w3 wr) (fun j _ => 0 - (intOf j).toNat)
  case atStart => exact ⟨0, by omega, rfl, B93.out, HW3.out, Bw.refl _⟩
  case round =>
    obtain ⟨i, hi, rfl, hB, hW, hW3⟩ := hrel
    have B9r := hid hB
    have HWr := hid hW
    have BW3r := hid hW3
    have z9r := hB.cell
    have hs9r : w.heap.size + 1 < wr.heap.size := hB.lt
    clear hB hW hW3
    obtain rfl : i = 0 := by omega
    go_wp2_with (first
      | (go_at_call 102; refine (funOf_no _ hU _ (HSS.out.bw HWr.out) (by rw [HKK.out]; decide)).mono ?_; rintro e w4 ⟨rfl, hly⟩; have hb4 := hly.bw; have HW4 := hid (Bw.trans HWr.out hb4); have B94 := hid (B9r.out.bw hb4); have z94 := B94.out.cell; have hs94 : w.heap.size + 1 < w4.heap.size := B94.out.lt; clear hly hb4)
      | (go_at_call 88; refine (cplxOf_no _ hU _ (HSS.out.bw HW4.out) (by rw [HKK.out]; decide)).mono ?_; rintro e w5 ⟨rfl, hly⟩; have hb5 := hly.bw; have HW5 := hid (Bw.trans HW4.out hb5); have B95 := hid (B94.out.bw hb5); have z95 := B95.out.cell; have hs95 : w.heap.size + 1 < w5.heap.size := B95.out.lt; clear hly hb5)
      | (go_at_call 104; refine (itemOf_yes _ hU _ (HSS.out.bw HW5.out) (by rw [HKK.out]; decide)).mono ?_; rw [HOB.out]; rintro e w6 ⟨rfl, hly⟩; have hb6 := hly.bw; have HW6 := hid (Bw.trans HW5.out hb6); have B96 := hid (B95.out.bw hb6); have z96 := B96.out.cell; have hs96 : w.heap.size + 1 < w6.heap.size := B96.out.lt; clear hly hb6)
      | (go_at_call 99; refine (num_any _ _).mono ?_; rintro e wq ⟨rfl, hwq⟩; subst wq))
    all_goals go_ret
    all_goals exact ⟨rfl, HW6.out⟩

set_option maxRecDepth 100000 in
set_option maxHeartbeats 16000000 in
theorem whole_box (G : Nat → Prop) (rv : Value) {b0 : Nat} {H : AHeap} {bs : List Nat} (v : Int) (hU : U v) (w : World) (hS : HS w b0 H bs) (h : RdH w G rv H) (hN : NeatH H) (hm : H.2.length ≤ 1000000) (hk : kk H v = 8) :
    Calls Tryz.prog 50 #[.pointer (some ⟨b0, 0, none⟩), rv, .int .u64 v, .int .i64 8] w fun e w' => e = .returned (.bool true) ∧ Bw w w' := by
  have HSS := hid hS
  have HR := hid h
  have HKK := hid hk
  obtain ⟨va, t, rfl, ht, hs, ho⟩ := h
  obtain ⟨ah, ch, rfl⟩ := hs.form
  have hkr := kk_ref (H := H) (v := v) (by omega)
  obtain ⟨hg, hge⟩ := ob_get (H := H) hU hkr.2.1
  have HOO := hid (ob_ok (v := v) hS.ok hU hkr.2.1)
  have HNE := hid (hN _ (List.mem_of_getElem? hg))
  have HG := hid hg
  have HGE := hid hge
  have HK2 := hid hkr.2.2
  clear hS ht hs ho hg hge hkr hN hk
  generalize hob : ob H v = o at *
  have HOB := hid hob
  clear hob
  have hl6 : o.vals.length ≤ 1000000 := HOO.out.2.2.2.2.2.2.1
  have hl7 : o.keys.length ≤ 1000000 := HOO.out.2.2.2.2.2.2.2
  have hl8 : o.bytes.length ≤ 1000000 := HOO.out.2.2.2.2.2.1
  have hko : o.kind = 8 := HK2.out.symm.trans HKK.out
  have HBY := hid (show o.bytes = [] from HOO.out.2.1 (by omega))
  have hbl : (o.bytes.length : Int) = 0 := by rw [HBY.out]; rfl
  have hkl : (o.keys.length : Int) = 0 := by rw [show o.keys = [] from HNE.out.1 (by omega)]; rfl
  have hre : ((0 : Int) != o.re) = false := by rw [(HNE.out.2.1 (by omega)).1]; rfl
  have him : ((0 : Int) != o.im) = false := by rw [(HNE.out.2.1 (by omega)).2]; rfl
  clear hko
  go_enter Tryz.func50, Tryz.ntmps50
  go_wp2_with (first
    | (go_at_call 40; refine (rof_any G _ H _ hU _ HGE.out _ HG.out w _ (Ly.bw (by repeat (first | exact Ly.refl _ | apply Ly.lay | apply Ly.alloc | apply Ly.drewN | apply Ly.drew))) HR.out (by omega)).mono ?_; rintro e w' ⟨vb, vv, vk, rfl, hol, os0, m0, rfl⟩; obtain ⟨ab, cb, rfl⟩ := hol.1.form; obtain ⟨av, cv, rfl⟩ := hol.2.1.form; obtain ⟨ak, ck, rfl⟩ := hol.2.2.form; have HOL := hid hol; clear hol)
    | (go_at_call 17; refine (bytes_no _ hU _ (HSS.out.bw (Ly.bw (by repeat (first | exact Ly.refl _ | apply Ly.lay | apply Ly.alloc | apply Ly.drewN | apply Ly.drew)))) (by rw [HKK.out]; decide)).mono ?_; rintro e w1 ⟨rfl, hly⟩; have hb1 := hly.bw; have HW1 := hid (Bw.trans (show Bw w _ from Ly.bw (by repeat (first | exact Ly.refl _ | apply Ly.lay | apply Ly.alloc | apply Ly.drewN | apply Ly.drew))) hb1); have B9 := hid ((show Blk _ (w.heap.size + 1) #[.int .i64 o.kind, .slice ab o.bytes.length cb, .slice av o.vals.length cv, .slice ak o.keys.length ck, .int .i64 o.num, .int .u64 o.re, .int .u64 o.im] 50 from (by repeat (first | exact (show Blk ((w.alloc (.cells #[.int .i64 H.1, .slice ah H.2.length ch] 32)).alloc (.cells #[.int .i64 o.kind, .slice ab o.bytes.length cb, .slice av o.vals.length cv, .slice ak o.keys.length ck, .int .i64 o.num, .int .u64 o.re, .int .u64 o.im] 50)) (w.heap.size + 1) #[.int .i64 o.kind, .slice ab o.bytes.length cb, .slice av o.vals.length cv, .slice ak o.keys.length ck, .int .i64 o.num, .int .u64 o.re, .int .u64 o.im] 50 by simpa using Blk.new (w.alloc (.cells #[.int .i64 H.1, .slice ah H.2.length ch] 32)) #[.int .i64 o.kind, .slice ab o.bytes.length cb, .slice av o.vals.length cv, .slice ak o.keys.length ck, .int .i64 o.num, .int .u64 o.re, .int .u64 o.im] 50) | apply Blk.lay | apply Blk.alloc))).bw hb1); have z9 := B9.out.cell; have hs9 : w.heap.size + 1 < w1.heap.size := B9.out.lt; have hcv1 := conv_nil w1; have hcv2 : (convert 46 9 (.slice ab o.bytes.length cb)).run Tryz.prog w1 = .ok (.string (strOfNums [])) w1 := (conv_sl (HOL.out.1.below HW1.out)).trans (by rw [HBY.out]); clear hly hb1)
    | (go_at_call 100; refine (len_no _ hU _ (HSS.out.bw HW1.out) (by rw [HKK.out]; decide)).mono ?_; rintro e w2 ⟨rfl, hly⟩; have hb2 := hly.bw; have HW2 := hid (Bw.trans HW1.out hb2); have B92 := hid (B9.out.bw hb2); have z92 := B92.out.cell; have hs92 : w.heap.size + 1 < w2.heap.size := B92.out.lt; clear hly hb2)
    | (go_at_call 101; refine (keys_no _ hU _ (HSS.out.bw HW2.out) (by rw [HKK.out]; decide)).mono ?_; rintro e w3 ⟨rfl, hly⟩; have hb3 := hly.bw; have HW3 := hid (Bw.trans HW2.out hb3); have B93 := hid (B92.out.bw hb3); have z93 := B93.out.cell; have hs93 : w.heap.size + 1 < w3.heap.size := B93.out.lt; clear hly hb3)
    | (go_at_call 99; refine (num_any _ _).mono ?_; rintro e wq ⟨rfl, hwq⟩; subst wq))
  go_loopw [15] (fun j wr => ∃ (i : Nat), i ≤ 0 ∧ j = .int .i64 i ∧ Blk wr (w.heap.size + 1) #[.int .i64 o.kind, .slice ab o.bytes.length cb, .slice av o.vals.length cv, .slice ak o.keys.length ck, .int .i64 o.num, .int .u64 o.re, .int .u64 o.im] 50 ∧ Bw w wr ∧ Bw w3 wr) (fun j _ => 0 - (intOf j).toNat)
  case atStart => exact ⟨0, by omega, rfl, B93.out, HW3.out, Bw.refl _⟩
  case round =>
    obtain ⟨i, hi, rfl, hB, hW, hW3⟩ := hrel
    have B9r := hid hB
    have HWr := hid hW
    have BW3r := hid hW3
    have z9r := hB.cell
    have hs9r : w.heap.size + 1 < wr.heap.size := hB.lt
    clear hB hW hW3
    obtain rfl : i = 0 := by omega
    go_wp2_with (first
      | (go_at_call 102; refine (funOf_no _ hU _ (HSS.out.bw HWr.out) (by rw [HKK.out]; decide)).mono ?_; rintro e w4 ⟨rfl, hly⟩; have hb4 := hly.bw; have HW4 := hid (Bw.trans HWr.out hb4); have B94 := hid (B9r.out.bw hb4); have z94 := B94.out.cell; have hs94 : w.heap.size + 1 < w4.heap.size := B94.out.lt; clear hly hb4)
      | (go_at_call 88; refine (cplxOf_no _ hU _ (HSS.out.bw HW4.out) (by rw [HKK.out]; decide)).mono ?_; rintro e w5 ⟨rfl, hly⟩; have hb5 := hly.bw; have HW5 := hid (Bw.trans HW4.out hb5); have B95 := hid (B94.out.bw hb5); have z95 := B95.out.cell; have hs95 : w.heap.size + 1 < w5.heap.size := B95.out.lt; clear hly hb5)
      | (go_at_call 104; refine (itemOf_yes _ hU _ (HSS.out.bw HW5.out) (by rw [HKK.out]; decide)).mono ?_; rw [HOB.out]; rintro e w6 ⟨rfl, hly⟩; have hb6 := hly.bw; have HW6 := hid (Bw.trans HW5.out hb6); have B96 := hid (B95.out.bw hb6); have z96 := B96.out.cell; have hs96 : w.heap.size + 1 < w6.heap.size := B96.out.lt; clear hly hb6)
      | (go_at_call 99; refine (num_any _ _).mono ?_; rintro e wq ⟨rfl, hwq⟩; subst wq))
    all_goals go_ret
    all_goals exact ⟨rfl, HW6.out⟩

set_option maxRecDepth 100000 in
set_option maxHeartbeats 16000000 in
theorem whole_thr (G : Nat → Prop) (rv : Value) {b0 : Nat} {H : AHeap} {bs : List Nat} (v : Int) (hU : U v) (w : World) (hS : HS w b0 H bs) (h : RdH w G rv H) (hN : NeatH H) (hm : H.2.length ≤ 1000000) (hk : kk H v = 9) :
    Calls Tryz.prog 50 #[.pointer (some ⟨b0, 0, none⟩), rv, .int .u64 v, .int .i64 9] w fun e w' => e = .returned (.bool true) ∧ Bw w w' := by
  have HSS := hid hS
  have HR := hid h
  have HKK := hid hk
  obtain ⟨va, t, rfl, ht, hs, ho⟩ := h
  obtain ⟨ah, ch, rfl⟩ := hs.form
  have hkr := kk_ref (H := H) (v := v) (by omega)
  obtain ⟨hg, hge⟩ := ob_get (H := H) hU hkr.2.1
  have HOO := hid (ob_ok (v := v) hS.ok hU hkr.2.1)
  have HNE := hid (hN _ (List.mem_of_getElem? hg))
  have HG := hid hg
  have HGE := hid hge
  have HK2 := hid hkr.2.2
  clear hS ht hs ho hg hge hkr hN hk
  generalize hob : ob H v = o at *
  have HOB := hid hob
  clear hob
  have hl6 : o.vals.length ≤ 1000000 := HOO.out.2.2.2.2.2.2.1
  have hl7 : o.keys.length ≤ 1000000 := HOO.out.2.2.2.2.2.2.2
  have hl8 : o.bytes.length ≤ 1000000 := HOO.out.2.2.2.2.2.1
  have hko : o.kind = 9 := HK2.out.symm.trans HKK.out
  have HBY := hid (show o.bytes = [] from HOO.out.2.1 (by omega))
  have hbl : (o.bytes.length : Int) = 0 := by rw [HBY.out]; rfl
  have hkl : (o.keys.length : Int) = 0 := by rw [show o.keys = [] from HNE.out.1 (by omega)]; rfl
  have hre : ((0 : Int) != o.re) = false := by rw [(HNE.out.2.1 (by omega)).1]; rfl
  have him : ((0 : Int) != o.im) = false := by rw [(HNE.out.2.1 (by omega)).2]; rfl
  clear hko
  go_enter Tryz.func50, Tryz.ntmps50
  go_wp2_with (first
    | (go_at_call 40; refine (rof_any G _ H _ hU _ HGE.out _ HG.out w _ (Ly.bw (by repeat (first | exact Ly.refl _ | apply Ly.lay | apply Ly.alloc | apply Ly.drewN | apply Ly.drew))) HR.out (by omega)).mono ?_; rintro e w' ⟨vb, vv, vk, rfl, hol, os0, m0, rfl⟩; obtain ⟨ab, cb, rfl⟩ := hol.1.form; obtain ⟨av, cv, rfl⟩ := hol.2.1.form; obtain ⟨ak, ck, rfl⟩ := hol.2.2.form; have HOL := hid hol; clear hol)
    | (go_at_call 17; refine (bytes_no _ hU _ (HSS.out.bw (Ly.bw (by repeat (first | exact Ly.refl _ | apply Ly.lay | apply Ly.alloc | apply Ly.drewN | apply Ly.drew)))) (by rw [HKK.out]; decide)).mono ?_; rintro e w1 ⟨rfl, hly⟩; have hb1 := hly.bw; have HW1 := hid (Bw.trans (show Bw w _ from Ly.bw (by repeat (first | exact Ly.refl _ | apply Ly.lay | apply Ly.alloc | apply Ly.drewN | apply Ly.drew))) hb1); have B9 := hid ((show Blk _ (w.heap.size + 1) #[.int .i64 o.kind, .slice ab o.bytes.length cb, .slice av o.vals.length cv, .slice ak o.keys.length ck, .int .i64 o.num, .int .u64 o.re, .int .u64 o.im] 50 from (by repeat (first | exact (show Blk ((w.alloc (.cells #[.int .i64 H.1, .slice ah H.2.length ch] 32)).alloc (.cells #[.int .i64 o.kind, .slice ab o.bytes.length cb, .slice av o.vals.length cv, .slice ak o.keys.length ck, .int .i64 o.num, .int .u64 o.re, .int .u64 o.im] 50)) (w.heap.size + 1) #[.int .i64 o.kind, .slice ab o.bytes.length cb, .slice av o.vals.length cv, .slice ak o.keys.length ck, .int .i64 o.num, .int .u64 o.re, .int .u64 o.im] 50 by simpa using Blk.new (w.alloc (.cells #[.int .i64 H.1, .slice ah H.2.length ch] 32)) #[.int .i64 o.kind, .slice ab o.bytes.length cb, .slice av o.vals.length cv, .slice ak o.keys.length ck, .int .i64 o.num, .int .u64 o.re, .int .u64 o.im] 50) | apply Blk.lay | apply Blk.alloc))).bw hb1); have z9 := B9.out.cell; have hs9 : w.heap.size + 1 < w1.heap.size := B9.out.lt; have hcv1 := conv_nil w1; have hcv2 : (convert 46 9 (.slice ab o.bytes.length cb)).run Tryz.prog w1 = .ok (.string (strOfNums [])) w1 := (conv_sl (HOL.out.1.below HW1.out)).trans (by rw [HBY.out]); clear hly hb1)
    | (go_at_call 100; refine (len_no _ hU _ (HSS.out.bw HW1.out) (by rw [HKK.out]; decide)).mono ?_; rintro e w2 ⟨rfl, hly⟩; have hb2 := hly.bw; have HW2 := hid (Bw.trans HW1.out hb2); have B92 := hid (B9.out.bw hb2); have z92 := B92.out.cell; have hs92 : w.heap.size + 1 < w2.heap.size := B92.out.lt; clear hly hb2)
    | (go_at_call 101; refine (keys_no _ hU _ (HSS.out.bw HW2.out) (by rw [HKK.out]; decide)).mono ?_; rintro e w3 ⟨rfl, hly⟩; have hb3 := hly.bw; have HW3 := hid (Bw.trans HW2.out hb3); have B93 := hid (B92.out.bw hb3); have z93 := B93.out.cell; have hs93 : w.heap.size + 1 < w3.heap.size := B93.out.lt; clear hly hb3)
    | (go_at_call 99; refine (num_any _ _).mono ?_; rintro e wq ⟨rfl, hwq⟩; subst wq))
  go_loopw [15] (fun j wr => ∃ (i : Nat), i ≤ 0 ∧ j = .int .i64 i ∧ Blk wr (w.heap.size + 1) #[.int .i64 o.kind, .slice ab o.bytes.length cb, .slice av o.vals.length cv, .slice ak o.keys.length ck, .int .i64 o.num, .int .u64 o.re, .int .u64 o.im] 50 ∧ Bw w wr ∧ Bw w3 wr) (fun j _ => 0 - (intOf j).toNat)
  case atStart => exact ⟨0, by omega, rfl, B93.out, HW3.out, Bw.refl _⟩
  case round =>
    obtain ⟨i, hi, rfl, hB, hW, hW3⟩ := hrel
    have B9r := hid hB
    have HWr := hid hW
    have BW3r := hid hW3
    have z9r := hB.cell
    have hs9r : w.heap.size + 1 < wr.heap.size := hB.lt
    clear hB hW hW3
    obtain rfl : i = 0 := by omega
    go_wp2_with (first
      | (go_at_call 102; refine (funOf_no _ hU _ (HSS.out.bw HWr.out) (by rw [HKK.out]; decide)).mono ?_; rintro e w4 ⟨rfl, hly⟩; have hb4 := hly.bw; have HW4 := hid (Bw.trans HWr.out hb4); have B94 := hid (B9r.out.bw hb4); have z94 := B94.out.cell; have hs94 : w.heap.size + 1 < w4.heap.size := B94.out.lt; clear hly hb4)
      | (go_at_call 88; refine (cplxOf_no _ hU _ (HSS.out.bw HW4.out) (by rw [HKK.out]; decide)).mono ?_; rintro e w5 ⟨rfl, hly⟩; have hb5 := hly.bw; have HW5 := hid (Bw.trans HW4.out hb5); have B95 := hid (B94.out.bw hb5); have z95 := B95.out.cell; have hs95 : w.heap.size + 1 < w5.heap.size := B95.out.lt; clear hly hb5)
      | (go_at_call 104; refine (itemOf_yes _ hU _ (HSS.out.bw HW5.out) (by rw [HKK.out]; decide)).mono ?_; rw [HOB.out]; rintro e w6 ⟨rfl, hly⟩; have hb6 := hly.bw; have HW6 := hid (Bw.trans HW5.out hb6); have B96 := hid (B95.out.bw hb6); have z96 := B96.out.cell; have hs96 : w.heap.size + 1 < w6.heap.size := B96.out.lt; clear hly hb6)
      | (go_at_call 99; refine (num_any _ _).mono ?_; rintro e wq ⟨rfl, hwq⟩; subst wq))
    all_goals go_ret
    all_goals exact ⟨rfl, HW6.out⟩

end Go.Proofs.YtjcoifdfemejkaaGreatDoor

