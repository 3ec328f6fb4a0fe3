/- heightsOf: the contract. -/
import Derived.Test.YtcljlmjcjfmppaaDoorVl
import Derived.Test.YtcljlmjcjfmppaaDoorVm
set_option linter.unusedSimpArgs false
set_option linter.unusedVariables false
namespace Go.Proofs.YtcljlmjcjfmppaaDoor
open Go Go.RowKit

/-- What heightsOf answers. -/
def HtP (w : World) (F : HSt) (e : Ending) (w' : World) : Prop := Bw w w' ∧ ∃ a c, e = .returned (.tuple #[.slice a F.h.length c, .int .i64 F.f]) ∧ Sl w' (fun _ => True) (.slice a F.h.length c) F.h.length 1 (F.h.map (Value.int .i64))

theorem HI.out {w : World} {bh bf hb br : Nat} {s : HSt} (h : HI w bh bf hb br s) : Sl w (fun _ => True) (.slice (some ⟨hb, 0, none⟩) s.h.length s.h.length) s.h.length 1 (s.h.map (Value.int .i64)) :=
  ⟨by simp, _, _, rfl, ⟨Nat.le_refl _, fun h => by cases h⟩, .inr ⟨hb, 0, rfl, h.hs.lt, trivial, fun i hi => by rw [Nat.zero_add, h.hs.cell i]; simp⟩⟩

/-- The heights and the fault stored once more. -/
theorem HI.same {w : World} {bh bf hb br : Nat} {s : HSt} (h : HI w bh bf hb br s) : HI (w.setCell ⟨bh, 0, none⟩ (.slice (some ⟨hb, 0, none⟩) s.h.length s.h.length)) bh bf hb br s ∧ HI ((w.setCell ⟨bh, 0, none⟩ (.slice (some ⟨hb, 0, none⟩) s.h.length s.h.length)).setCell ⟨bf, 0, none⟩ (.int .i64 s.f)) bh bf hb br s := by
  have k : HI (w.setCell ⟨bh, 0, none⟩ (.slice (some ⟨hb, 0, none⟩) s.h.length s.h.length)) bh bf hb br s := by
    obtain ⟨vr, h1, h2⟩ := h.pr
    have o1 := h.o1; have o2 := h.o2; have o3 := h.o3
    exact ⟨by simpa using h.ph.set 0 (.slice (some ⟨hb, 0, none⟩) s.h.length s.h.length), h.pf.other (p := ⟨bh, 0, none⟩) (by simp only; omega) _, h.hs.other (p := ⟨bh, 0, none⟩) (by simp only; omega) _, ⟨vr, h1.other (p := ⟨bh, 0, none⟩) (by simp only; omega) _, own_set h2 (by omega) 0 _⟩, o1, o2, o3⟩
  refine ⟨k, ?_⟩
  obtain ⟨vr, h1, h2⟩ := k.pr
  have o1 := h.o1; have o2 := h.o2; have o3 := h.o3
  exact ⟨k.ph.other (p := ⟨bf, 0, none⟩) (by simp only; omega) _, by simpa using k.pf.set 0 (.int .i64 s.f), k.hs.other (p := ⟨bf, 0, none⟩) (by simp only; omega) _, ⟨vr, h1.other (p := ⟨bf, 0, none⟩) (by simp only; omega) _, own_set h2 (by omega) 0 _⟩, o1, o2, o3⟩
theorem HI.fault {w : World} {bh bf hb br : Nat} {s : HSt} (h : HI w bh bf hb br s) (p : Int) : HI (w.setCell ⟨bf, 0, none⟩ (.int .i64 p)) bh bf hb br { s with f := p } := by
  obtain ⟨vr, h1, h2⟩ := h.pr
  have o1 := h.o1; have o2 := h.o2; have o3 := h.o3
  exact ⟨h.ph.other (p := ⟨bf, 0, none⟩) (by simp only; omega) _, by simpa using h.pf.set 0 (.int .i64 p), h.hs.other (p := ⟨bf, 0, none⟩) (by simp only; omega) _, ⟨vr, h1.other (p := ⟨bf, 0, none⟩) (by simp only; omega) _, own_set h2 (by omega) 0 _⟩, o1, o2, o3⟩

theorem stp_set {w : World} {g : Nat} (kept after op a bb : Int) (p : Nat) (h : Int) (hb : Blk w g #[.int .i64 0, .int .i64 0, .int .i64 0, .int .i64 0, .int .i64 0, .int .i64 0, .int .i64 0] 58) : Blk (((((((w.setCell ⟨g, 0, none⟩ (.int .i64 op)).setCell ⟨g, 1, none⟩ (.int .i64 a)).setCell ⟨g, 2, none⟩ (.int .i64 bb)).setCell ⟨g, 3, none⟩ (.int .i64 p)).setCell ⟨g, 4, none⟩ (.int .i64 h)).setCell ⟨g, 5, none⟩ (.int .i64 kept)).setCell ⟨g, 6, none⟩ (.int .i64 after)) g #[.int .i64 op, .int .i64 a, .int .i64 bb, .int .i64 p, .int .i64 h, .int .i64 kept, .int .i64 after] 58 := by
  have := ((((((hb.set 0 (.int .i64 op)).set 1 (.int .i64 a)).set 2 (.int .i64 bb)).set 3 (.int .i64 p)).set 4 (.int .i64 h)).set 5 (.int .i64 kept)).set 6 (.int .i64 after)
  simpa using this
theorem stp_bw {a' w : World} {g : Nat} (hb : Bw a' w) (hg : a'.heap.size ≤ g) (op a bb : Int) (p : Nat) (h kept after : Int) : Bw a' (((((((w.setCell ⟨g, 0, none⟩ (.int .i64 op)).setCell ⟨g, 1, none⟩ (.int .i64 a)).setCell ⟨g, 2, none⟩ (.int .i64 bb)).setCell ⟨g, 3, none⟩ (.int .i64 p)).setCell ⟨g, 4, none⟩ (.int .i64 h)).setCell ⟨g, 5, none⟩ (.int .i64 kept)).setCell ⟨g, 6, none⟩ (.int .i64 after)) :=
  ((((((hb.setCell (p := ⟨g, 0, none⟩) hg _).setCell (p := ⟨g, 1, none⟩) hg _).setCell (p := ⟨g, 2, none⟩) hg _).setCell (p := ⟨g, 3, none⟩) hg _).setCell (p := ⟨g, 4, none⟩) hg _).setCell (p := ⟨g, 5, none⟩) hg _).setCell (p := ⟨g, 6, none⟩) hg _
theorem made_int (n : Nat) : (madeCells (Value.int .i64 0).cells (n * 1)).toList = (List.replicate n (0 : Int)).map (Value.int .i64) := by
  unfold madeCells
  apply List.ext_getElem
  · simp
  · intro i h1 h2
    simp [Value.cells, Nat.mod_one]

section
variable {w w' : World}

set_option maxRecDepth 100000 in
set_option maxHeartbeats 40000000 in
theorem heightsOf_any (m : AIm) (G : Nat → Prop) (vf vs vk : Value) (x : MFn) (N : Nat) (F : HSt) (ho : Og w) (hm : RIm w G vf vs vk m) (ha : RFn w G x) (hcd : CdOk m x.f) (hn1 : 1 ≤ x.f.code.length) (hn2 : x.f.code.length ≤ 65536) (hy : ∀ l ∈ m.keys, l.length ≤ 1000000) (hN : x.f.code.length < N) (hF : flow m x.f N 0 (flow0 x.f) = F) :
    Calls Tryd.prog 13 #[imV vf vs vk m, .agg #[.int .i64 x.f.params, .int .i64 x.f.slots, x.vb, x.vc, x.vo, x.vt]] w (HtP w F) := by
  obtain ⟨af, kf, az, ks, ak, kk, e1, e2, e3⟩ := hm.forms
  subst e1 e2 e3
  unfold imV
  obtain ⟨f, xb, xc, xo, xt⟩ := x
  obtain ⟨a1, c1, e1⟩ := ha.b.form
  obtain ⟨a2, c2, e2⟩ := ha.c.form
  obtain ⟨a3, c3, e3⟩ := ha.o.form
  obtain ⟨a4, c4, e4⟩ := ha.t.form
  simp only at e1 e2 e3 e4 hcd hn1 hn2 hN hF ⊢
  subst e1 e2 e3 e4
  have HM := hid hm
  have HA := hid ha
  have HOG := hid ho
  have HCD := hid hcd
  have HN1 := hid hn1
  have HN2 := hid hn2
  have HNN := hid hN
  have HFF := hid hF
  have HYK := hid hy
  have l4 : f.tries.length ≤ 9223372036854775807 := by have := ha.t.2.2.1; unfold maxLen at this; simp only at this; omega
  obtain ⟨W0, hW0⟩ : ∃ W0, ((((w.alloc (.cells #[.slice af m.funs.length kf, .slice az m.strs.length ks, .slice ak m.keys.length kk, .int .i64 m.globals] 26)).alloc (.cells #[.int .i64 f.params, .int .i64 f.slots, .slice a1 f.boxes.length c1, .slice a2 f.caps.length c2, .slice a3 f.code.length c3, .slice a4 f.tries.length c4] 38)).alloc (.cells #[.slice none 0 0] 33)).alloc (.cells #[.int .i64 0] 3)) = W0 := ⟨_, rfl⟩
  have HWE := hid hW0
  have HW0 := hid (show Bw w W0 from by rw [← hW0]; exact Bw.alloc (Bw.alloc (Bw.alloc (Bw.alloc (Bw.refl w) _) _) _) _)
  have HSZ := hid (show W0.heap.size = w.heap.size + 1 + 1 + 1 + 1 from by rw [← hW0]; simp only [World.size_alloc])
  have HPI := hid (show Blk W0 w.heap.size #[.slice af m.funs.length kf, .slice az m.strs.length ks, .slice ak m.keys.length kk, .int .i64 m.globals] 26 from by rw [← hW0]; exact (((Blk.new w _ 26).alloc _).alloc _).alloc _)
  have HPC := hid (show Blk W0 (w.heap.size + 1) #[.int .i64 f.params, .int .i64 f.slots, .slice a1 f.boxes.length c1, .slice a2 f.caps.length c2, .slice a3 f.code.length c3, .slice a4 f.tries.length c4] 38 from by rw [← hW0]; have := ((Blk.new (w.alloc (.cells #[.slice af m.funs.length kf, .slice az m.strs.length ks, .slice ak m.keys.length kk, .int .i64 m.globals] 26)) #[.int .i64 f.params, .int .i64 f.slots, .slice a1 f.boxes.length c1, .slice a2 f.caps.length c2, .slice a3 f.code.length c3, .slice a4 f.tries.length c4] 38).alloc (.cells #[.slice none 0 0] 33)).alloc (.cells #[.int .i64 0] 3); simpa only [World.size_alloc] using this)
  have HPH := hid (show Blk W0 (w.heap.size + 1 + 1) #[.slice none 0 0] 33 from by rw [← hW0]; have := (Blk.new ((w.alloc (.cells #[.slice af m.funs.length kf, .slice az m.strs.length ks, .slice ak m.keys.length kk, .int .i64 m.globals] 26)).alloc (.cells #[.int .i64 f.params, .int .i64 f.slots, .slice a1 f.boxes.length c1, .slice a2 f.caps.length c2, .slice a3 f.code.length c3, .slice a4 f.tries.length c4] 38)) #[.slice none 0 0] 33).alloc (.cells #[.int .i64 0] 3); simpa only [World.size_alloc] using this)
  have HPF := hid (show Blk W0 (w.heap.size + 1 + 1 + 1) #[.int .i64 0] 3 from by rw [← hW0]; have := Blk.new (((w.alloc (.cells #[.slice af m.funs.length kf, .slice az m.strs.length ks, .slice ak m.keys.length kk, .int .i64 m.globals] 26)).alloc (.cells #[.int .i64 f.params, .int .i64 f.slots, .slice a1 f.boxes.length c1, .slice a2 f.caps.length c2, .slice a3 f.code.length c3, .slice a4 f.tries.length c4] 38)).alloc (.cells #[.slice none 0 0] 33)) #[.int .i64 0] 3; simpa only [World.size_alloc] using this)
  obtain ⟨i1, hi1, hz1, hs1, hy1⟩ := info_parts2 infoI64
  have I1 := hid (And.intro hi1 (And.intro hz1 (And.intro hs1 hy1)))
  have l3 : f.code.length ≤ 9223372036854775807 := by omega
  clear hm ha ho hcd hW0 hn1 hn2 hN hF hy hi1 hz1 hs1 hy1
  go_enter Tryd.func13, Tryd.ntmps13
  go_wp2
  go_step3
  go_wp2_with (first
    | (at_make; refine wpList_make_full _ rfl _ _ 33 rfl 0 3 i1 (.int .i64 0) 1 undIs I1.out.1 I1.out.2.1 I1.out.2.2.1 _ _ _ _ f.code.length rfl rfl rfl rfl (by rw [I1.out.2.2.2]; have := HN2.out; omega) (by have := HN2.out; unfold maxLen; omega) (Nat.zero_le _) ?_; intro w1 hown hgr; have hb1 : Bw W0 w1 := (by rw [← HWE.out]; exact ⟨hgr.os, hgr.tape, hgr.output, hgr.size, fun k hk => hgr.block k hk (by simp)⟩); have HB1 := hid hb1; have hbk := own_blk hown; simp only [World.size_alloc] at hbk ⊢; have HBK := hid (show Blk w1 (w.heap.size + 1 + 1 + 1 + 1) ((List.replicate f.code.length (0 : Int)).map (Value.int .i64)).toArray 3 from by rw [← made_int]; exact hbk); have z := (HPH.out.bw hb1).cell; have zf := (HPH.out.bw hb1).free; have zl := (HPH.out.bw hb1).lt; clear hown hgr hb1 hbk)
    | fail)
  go_loopw [19] (fun j wr => ∃ i, i ≤ f.code.length ∧ j = .int .i64 (i : Nat) ∧ Blk wr (w.heap.size + 1 + 1 + 1 + 1) ((List.replicate i (-1 : Int) ++ List.replicate (f.code.length - i) 0).map (Value.int .i64)).toArray 3 ∧ Blk wr (w.heap.size + 1 + 1) #[.slice (some ⟨(w.heap.size + 1 + 1 + 1 + 1), 0, none⟩) f.code.length f.code.length] 33 ∧ Blk wr (w.heap.size + 1 + 1 + 1) #[.int .i64 0] 3 ∧ Blk wr w.heap.size #[.slice af m.funs.length kf, .slice az m.strs.length ks, .slice ak m.keys.length kk, .int .i64 m.globals] 26 ∧ Blk wr (w.heap.size + 1) #[.int .i64 f.params, .int .i64 f.slots, .slice a1 f.boxes.length c1, .slice a2 f.caps.length c2, .slice a3 f.code.length c3, .slice a4 f.tries.length c4] 38 ∧ Bw w wr) (fun j _ => f.code.length - (intOf j).toNat)
  case atStart =>
    refine ⟨0, Nat.zero_le _, rfl, ?_, ?_, ?_, ?_, ?_, ?_⟩
    · simpa using HBK.out.other (p := ⟨(w.heap.size + 1 + 1), 0, none⟩) (by simp only; omega) _
    · simpa using (HPH.out.bw HB1.out).set 0 (.slice (some ⟨(w.heap.size + 1 + 1 + 1 + 1), 0, none⟩) f.code.length f.code.length)
    · exact (HPF.out.bw HB1.out).other (p := ⟨(w.heap.size + 1 + 1), 0, none⟩) (by simp only; omega) _
    · exact (HPI.out.bw HB1.out).other (p := ⟨(w.heap.size + 1 + 1), 0, none⟩) (by simp only; omega) _
    · exact (HPC.out.bw HB1.out).other (p := ⟨(w.heap.size + 1 + 1), 0, none⟩) (by simp only; omega) _
    · exact Bw.setCell (HW0.out.trans HB1.out) (show w.heap.size ≤ (w.heap.size + 1 + 1) by omega) _
  case round =>
    obtain ⟨i, hi, rfl, b1, b2, b3, b4, b5, b7⟩ := hrel
    have R1 := hid b1
    have R2 := hid b2
    have R3 := hid b3
    have R4 := hid b4
    have R5 := hid b5
    have R7 := hid b7
    have z2 := b2.cell 0
    have z2l := b2.lt
    simp only [List.getElem?_toArray, List.getElem?_cons_zero] at z2
    clear z zf zl
    by_cases hlt : i < f.code.length
    · have hlt2 : (i : Int) < (f.code.length : Int) := by omega
      have z1 : ∃ v, wr.cell? ⟨(w.heap.size + 1 + 1 + 1 + 1), i, none⟩ = some v := ⟨_, (b1.cell i).trans (by rw [List.getElem?_toArray, List.getElem?_eq_getElem (by simp; omega)])⟩
      obtain ⟨v1, z1⟩ := z1
      have z1f := b1.free
      have z1l := b1.lt
      clear b1 b2 b3 b4 b5 b7
      go_wp2
      go_roundw
      case rel =>
        refine ⟨i + 1, by omega, by go_num, ?_, ?_, ?_, ?_, ?_, ?_⟩
        · rw [← set_fill f.code.length i hlt, ← arr_set]; exact R1.out.set i (.int .i64 (-1))
        · exact R2.out.other (p := ⟨(w.heap.size + 1 + 1 + 1 + 1), i, none⟩) (by simp only; omega) _
        · exact R3.out.other (p := ⟨(w.heap.size + 1 + 1 + 1 + 1), i, none⟩) (by simp only; omega) _
        · exact R4.out.other (p := ⟨(w.heap.size + 1 + 1 + 1 + 1), i, none⟩) (by simp only; omega) _
        · exact R5.out.other (p := ⟨(w.heap.size + 1 + 1 + 1 + 1), i, none⟩) (by simp only; omega) _
        · exact Bw.setCell R7.out (show w.heap.size ≤ (w.heap.size + 1 + 1 + 1 + 1) by omega) _
      case measure => simp [intOf]; omega
    · obtain rfl : i = f.code.length := by omega
      obtain ⟨wm, hwm⟩ : ∃ x, x = wr := ⟨_, rfl⟩
      subst hwm
      have z3f := b3.free
      have z3 := b3.cell 0
      have z3l := b3.lt
      have z4l := b1.lt
      simp only [List.getElem?_toArray, List.getElem?_cons_zero] at z3
      have hrp : List.replicate f.code.length (-1 : Int) ++ List.replicate (f.code.length - f.code.length) 0 = List.replicate f.code.length (-1) := by simp
      rw [hrp] at b1
      obtain ⟨W3, hW3⟩ : ∃ W3, ((wm.setCell ⟨(w.heap.size + 1 + 1 + 1), 0, none⟩ (.int .i64 (-1))).alloc (.cells #[.slice none 0 0] 33)) = W3 := ⟨_, rfl⟩
      have HW3E := hid hW3
      have HH0 := hid (show HI W3 (w.heap.size + 1 + 1) (w.heap.size + 1 + 1 + 1) (w.heap.size + 1 + 1 + 1 + 1) wm.heap.size ⟨List.replicate f.code.length (-1), [], -1⟩ from by
        rw [← hW3]
        refine ⟨?_, ?_, ?_, ⟨.slice none 0 0, ?_, World.ownsRow_nil _ _ _ _⟩, by omega, by omega, by omega⟩
        · simpa using (b2.other (p := ⟨(w.heap.size + 1 + 1 + 1), 0, none⟩) (by simp only; omega) (.int .i64 (-1))).alloc (.cells #[.slice none 0 0] 33)
        · simpa using (b3.set 0 (.int .i64 (-1))).alloc (.cells #[.slice none 0 0] 33)
        · exact (b1.other (p := ⟨(w.heap.size + 1 + 1 + 1), 0, none⟩) (by simp only; omega) (.int .i64 (-1))).alloc (.cells #[.slice none 0 0] 33)
        · have := Blk.new (wm.setCell ⟨(w.heap.size + 1 + 1 + 1), 0, none⟩ (.int .i64 (-1))) #[.slice none 0 0] 33
          simpa only [World.size_setCell] using this)
      have HI3 := hid (show Blk W3 w.heap.size #[.slice af m.funs.length kf, .slice az m.strs.length ks, .slice ak m.keys.length kk, .int .i64 m.globals] 26 from by rw [← hW3]; exact (b4.other (p := ⟨(w.heap.size + 1 + 1 + 1), 0, none⟩) (by simp only; omega) _).alloc _)
      have HC3 := hid (show Blk W3 (w.heap.size + 1) #[.int .i64 f.params, .int .i64 f.slots, .slice a1 f.boxes.length c1, .slice a2 f.caps.length c2, .slice a3 f.code.length c3, .slice a4 f.tries.length c4] 38 from by rw [← hW3]; exact (b5.other (p := ⟨(w.heap.size + 1 + 1 + 1), 0, none⟩) (by simp only; omega) _).alloc _)
      have HB3 := hid (show Bw w W3 from by rw [← hW3]; exact (Bw.setCell b7 (show w.heap.size ≤ (w.heap.size + 1 + 1 + 1) by omega) _).alloc _)
      have HOK0 := hid (HOk.init (n := f.code.length) (by have := HN1.out; omega))
      have HBF := hid (show w.heap.size ≤ (w.heap.size + 1 + 1 + 1) by omega)
      have HF0 := hid (show flow m f N 0 (reachM ⟨List.replicate f.code.length (-1), [], -1⟩ 0 0) = F from by have := HFF.out; unfold flow0 at this; exact this)
      have HR0 := hid (show (reachM ⟨List.replicate f.code.length (-1), [], -1⟩ 0 0).row.length = 1 ∧ (reachM ⟨List.replicate f.code.length (-1), [], -1⟩ 0 0).f = -1 from by
        have hn0 : 0 < f.code.length := by have := HN1.out; omega
        unfold reachM
        have : (List.replicate f.code.length (-1 : Int)).getD (Int.toNat 0) 0 = -1 := by simp [List.getD_eq_getElem?_getD, hn0]
        rw [if_pos this]
        simp)
      have HLL := hid (show (0 : Int) ≤ 0 ∧ (0 : Int) < ((List.replicate f.code.length (-1 : Int)).length : Int) from by have := HN1.out; simp; omega)
      have HLN := hid (show (List.replicate f.code.length (-1 : Int)).length ≤ 1000000 from by have := HN2.out; simp; omega)
      clear b1 b2 b3 b4 b5 b7 hrp hW3 R1 R2 R3 R4 R5 R7 HPI HPC HPH HPF HBK HB1 hlt hi
      go_wp2_with (first
        | (go_at_call 20; refine (reach_anyI (s := ⟨List.replicate f.code.length (-1), [], -1⟩) 0 0 (by rw [HW3E.out]; exact HH0.out) HLL.out (by simp) HLN.out).mono ?_; rintro e W4 ⟨rfl, hh, hw⟩; have HH4 := hid hh; have HW4 := hid (show Wh (w.heap.size + 1 + 1 + 1) W3 W4 from by rw [← HW3E.out]; exact hw); clear hh hw)
        | fail)
      go_step3
      go_wp2
      go_loopw [9] (fun j wr => ∃ (k : Nat) (s' : HSt), j = .int .i64 (k : Nat) ∧ k ≤ s'.row.length ∧ flow m f (N - k) k s' = F ∧ HI wr (w.heap.size + 1 + 1) (w.heap.size + 1 + 1 + 1) (w.heap.size + 1 + 1 + 1 + 1) wm.heap.size s' ∧ HOk f.code.length s' ∧ s'.f = -1 ∧ Wh (w.heap.size + 1 + 1 + 1) W4 wr) (fun j _ => f.code.length - (intOf j).toNat)
      case atStart => exact ⟨0, _, rfl, Nat.zero_le _, by simpa using HF0.out, HH4.out, HOK0.out, HR0.out.2, Wh.refl _ _⟩
      case round =>
        obtain ⟨wo, hwo⟩ : ∃ x, x = wr := ⟨_, rfl⟩
        subst hwo
        obtain ⟨k, s', rfl, hk, hfl, hh, hok, hsf, hwh⟩ := hrel
        have HH := hid hh
        have HOK := hid hok
        have HWH := hid hwh
        have HFL := hid hfl
        have HSF := hid hsf
        have HBW := hid (show Bw w wo from (HB3.out.wh HW4.out HBF.out).wh hwh HBF.out)
        have HLEN := hid (show s'.h.length = f.code.length from hok.len)
        obtain ⟨vr, hr1, hr2⟩ := hh.pr
        have yr := hr1.cell 0
        have yrl := hr1.lt
        simp only [List.getElem?_toArray, List.getElem?_cons_zero] at yr
        obtain ⟨ar, cr, er⟩ := own_form hr2
        subst er
        have hrl := hok.rowLe
        have HRL := hid hrl
        have hrb : s'.row.length ≤ 9223372036854775807 := by have := HN2.out; omega
        by_cases hlt : k < s'.row.length
        · have hlt2 : (k : Int) < (s'.row.length : Int) := by omega
          obtain ⟨p, hp⟩ : ∃ p : Nat, s'.row[k] = (p : Int) := ⟨s'.row[k].toNat, by have := hok.row _ (List.getElem_mem hlt); omega⟩
          have hpr := hok.row _ (List.getElem_mem hlt)
          rw [hp] at hpr
          have hpl : p < f.code.length := by omega
          have hpl2 : (p : Int) < (f.code.length : Int) := by omega
          have HPL := hid hpl
          obtain ⟨gr, orr, eg, hgl, _, hcc⟩ := (own_sl (G := fun _ => True) hr2 (fun _ _ => trivial)).cellAt (by omega)
          subst eg
          have hcr := hcc k (by omega)
          rw [List.getElem?_map, List.getElem?_eq_getElem hlt, hp] at hcr
          simp only [Option.map_some] at hcr
          obtain ⟨h, hh9⟩ : ∃ h, s'.h.getD p 0 = h := ⟨_, rfl⟩
          have hch : wo.cell? ⟨(w.heap.size + 1 + 1 + 1 + 1), p, none⟩ = some (.int .i64 h) := by
            rw [hh.hs.cell p, ← hh9]
            simp [List.getD_eq_getElem?_getD, hok.len, hpl]
          have hhb : -1 ≤ h ∧ h ≤ 257 := by
            rw [← hh9, List.getD_eq_getElem?_getD, List.getElem?_eq_getElem (by rw [hok.len]; exact hpl)]
            exact hok.bd _ (List.getElem_mem _)
          have hh0 : 0 ≤ h := by have := hpr.2.2; rw [Int.toNat_natCast, hh9] at this; omega
          have HHB := hid hhb
          have HH00 := hid hh0
          obtain ⟨op, a, bb, hop⟩ : ∃ op a bb, f.code[p] = (op, a, bb) := ⟨_, _, _, rfl⟩
          have HOP := hid hop
          obtain ⟨⟨e1, e2, e3⟩, hef⟩ : ∃ z, effM m.keys op a = z := ⟨_, rfl⟩
          have HEF := hid hef
          have HEB := hid (show 0 ≤ e1 ∧ e1 ≤ 1000003 ∧ 0 ≤ e2 ∧ e2 ≤ 1 from by have := eff_bd (op := op) (a := a) HYK.out; rw [hef] at this; exact this)
          have hgd : s'.row.getD k 0 = (p : Int) := by rw [List.getD_eq_getElem?_getD, List.getElem?_eq_getElem hlt, hp]; rfl
          have HON := hid (show oneM m f s' (s'.row.getD k 0) = if fitM f op p (h - e1) (h - e1 + e2) = true then (if (f.tries.any fun t => cov t p && decide (h - e1 < t.2.2.2)) = true then ({ s' with f := (p : Int) }, false) else runL s' (leads f op a p h (h - e1 + e2))) else ({ s' with f := (p : Int) }, false) from by
            rw [hgd]
            have hc9 : f.code.getD p (0, 0, 0) = (op, a, bb) := by rw [List.getD_eq_getElem?_getD, List.getElem?_eq_getElem hpl]; exact hop
            unfold oneM
            simp only [hc9, Int.toNat_natCast, hh9, hef])
          have HNK := hid (show N - k = (N - (k + 1)) + 1 from by have := HNN.out; omega)
          have HLT := hid hlt
          have HAB := hid (show RFn w (fun b => b < (w.heap.size + 1 + 1 + 1)) ⟨f, .slice a1 f.boxes.length c1, .slice a2 f.caps.length c2, .slice a3 f.code.length c3, .slice a4 f.tries.length c4⟩ from HA.out.keep (Nat.le_refl _) (fun _ _ _ => rfl) (fun b hb _ => by have := HBF.out; omega))
          have FS := hid (show ∀ w', Bw wo w' → (∀ j, w'.cell? ⟨w.heap.size, j, none⟩ = (#[.slice af m.funs.length kf, .slice az m.strs.length ks, .slice ak m.keys.length kk, .int .i64 m.globals] : Array Value)[j]?) ∧ (∀ j, w'.cell? ⟨w.heap.size + 1, j, none⟩ = (#[.int .i64 f.params, .int .i64 f.slots, .slice a1 f.boxes.length c1, .slice a2 f.caps.length c2, .slice a3 f.code.length c3, .slice a4 f.tries.length c4] : Array Value)[j]?) ∧ w'.cell? ⟨wm.heap.size, 0, none⟩ = some (.slice (some ⟨gr, orr, none⟩) s'.row.length cr) ∧ w'.cell? ⟨gr, orr + k, none⟩ = some (.int .i64 p) ∧ w'.cell? ⟨(w.heap.size + 1 + 1), 0, none⟩ = some (.slice (some ⟨(w.heap.size + 1 + 1 + 1 + 1), 0, none⟩) f.code.length f.code.length) ∧ w'.cell? ⟨(w.heap.size + 1 + 1 + 1 + 1), p, none⟩ = some (.int .i64 h) from fun w' hb => by
            have h1 := (hh.ph.bw hb).cell 0
            rw [hok.len] at h1
            exact ⟨(((HI3.out.wh HW4.out (by decide) (by decide)).wh hwh (by decide) (by decide)).bw hb).cell, (((HC3.out.wh HW4.out (by decide) (by decide)).wh hwh (by decide) (by decide)).bw hb).cell, (hr1.bw hb).cell 0, (World.cell?_of_block (w := wo) (w' := w') (a := ⟨gr, orr + k, none⟩) (hb.block gr hgl)).trans hcr, h1, (World.cell?_of_block (w := wo) (w' := w') (a := ⟨(w.heap.size + 1 + 1 + 1 + 1), p, none⟩) (hb.block _ hh.hs.lt)).trans hch⟩)
          have HWP := hid (show Blk wo (w.heap.size + 1) #[.int .i64 f.params, .int .i64 f.slots, .slice a1 f.boxes.length c1, .slice a2 f.caps.length c2, .slice a3 f.code.length c3, .slice a4 f.tries.length c4] 38 from (HC3.out.wh HW4.out (by decide) (by decide)).wh hwh (by decide) (by decide))
          clear hh hok hwh hfl hsf hr1 hr2 hrl hcc hcr hch hop hef hgd hpr hp hh9
          go_upto_region 14 with fail
          go_cut [10] from 29 to 80 (fun v wc => ∃ sb, v = .pointer (some ⟨sb, 0, none⟩) ∧ Blk wc sb #[.int .i64 op, .int .i64 a, .int .i64 bb, .int .i64 p, .int .i64 h, .int .i64 (h - e1), .int .i64 (h - e1 + e2)] 58 ∧ Bw wo wc)
          case first =>
            refine wp_region_W (fun w' => (∀ j, w'.cell? ⟨w.heap.size, j, none⟩ = (#[.slice af m.funs.length kf, .slice az m.strs.length ks, .slice ak m.keys.length kk, .int .i64 m.globals] : Array Value)[j]?) ∧ (∀ j, w'.cell? ⟨w.heap.size + 1, j, none⟩ = (#[.int .i64 f.params, .int .i64 f.slots, .slice a1 f.boxes.length c1, .slice a2 f.caps.length c2, .slice a3 f.code.length c3, .slice a4 f.tries.length c4] : Array Value)[j]?) ∧ w'.cell? ⟨wm.heap.size, 0, none⟩ = some (.slice (some ⟨gr, orr, none⟩) s'.row.length cr) ∧ w'.cell? ⟨gr, orr + k, none⟩ = some (.int .i64 p) ∧ w'.cell? ⟨(w.heap.size + 1 + 1), 0, none⟩ = some (.slice (some ⟨(w.heap.size + 1 + 1 + 1 + 1), 0, none⟩) f.code.length f.code.length) ∧ w'.cell? ⟨(w.heap.size + 1 + 1 + 1 + 1), p, none⟩ = some (.int .i64 h)) (fun j => if j == 13 || j == 14 || j == 15 then 0 else 1) (by kernel_rfl) ?_
            refine wpAnyW_load (i := 0) (oi := { dst := some 35, op := Op.load 26 (Operand.tmp 2), type := 26, pos := "heights.go:47", after := #[], guard := none }) (v := ?_) rfl (by kernel_rfl) (by kernel_rfl) (by kernel_rfl) (by kernel_rfl) (by kernel_rfl) (fun _ _ _ h => h) (Or.inl ⟨by rfl, fun w hS => ?_⟩) (FS.out _ (by repeat (first | exact Bw.refl _ | apply Bw.alloc | apply Bw.drewN | apply Bw.drew))) ?_
            rotate_left
            · (obtain ⟨q0, q1, q2, q3, q4, q5⟩ := hS; go_simp; first | done | with_reducible rfl)
            try simp only [Act.put, List.setIfInBounds_toArray, List.set_cons_zero, List.set_cons_succ]
            refine wpAnyW_load (i := 1) (oi := { dst := some 36, op := Op.load 38 (Operand.tmp 3), type := 38, pos := "heights.go:47", after := #[], guard := none }) (v := ?_) rfl (by kernel_rfl) (by kernel_rfl) (by kernel_rfl) (by kernel_rfl) (by kernel_rfl) (fun _ _ _ h => h) (Or.inl ⟨by rfl, fun w hS => ?_⟩) (FS.out _ (by repeat (first | exact Bw.refl _ | apply Bw.alloc | apply Bw.drewN | apply Bw.drew))) ?_
            rotate_left
            · (obtain ⟨q0, q1, q2, q3, q4, q5⟩ := hS; go_simp; first | done | with_reducible rfl)
            try simp only [Act.put, List.setIfInBounds_toArray, List.set_cons_zero, List.set_cons_succ]
            refine wpAnyW_load (i := 2) (oi := { dst := some 37, op := Op.load 33 (Operand.tmp 7), type := 33, pos := "heights.go:47", after := #[], guard := none }) (v := ?_) rfl (by kernel_rfl) (by kernel_rfl) (by kernel_rfl) (by kernel_rfl) (by kernel_rfl) (fun _ _ _ h => h) (Or.inl ⟨by rfl, fun w hS => ?_⟩) (FS.out _ (by repeat (first | exact Bw.refl _ | apply Bw.alloc | apply Bw.drewN | apply Bw.drew))) ?_
            rotate_left
            · (obtain ⟨q0, q1, q2, q3, q4, q5⟩ := hS; go_simp; first | done | with_reducible rfl)
            try simp only [Act.put, List.setIfInBounds_toArray, List.set_cons_zero, List.set_cons_succ]
            refine wpAnyW_take (i := 3) (oi := { dst := some 38, op := Op.move (Operand.tmp 9), type := 3, pos := "heights.go:47", after := #[], guard := none }) (v := ?_) rfl (by kernel_rfl) (by kernel_rfl) (by kernel_rfl) (by kernel_rfl) (fun _ _ _ h => h) (Or.inl ⟨by rfl, fun w _ => ?_⟩) ?_
            rotate_left
            · (go_simp; first | done | with_reducible rfl)
            try simp only [Act.put, List.setIfInBounds_toArray, List.set_cons_zero, List.set_cons_succ]
            refine wpAnyW_take (i := 4) (oi := { dst := some 39, op := Op.indexAddr 33 (Operand.tmp 37) (Operand.tmp 38), type := 0, pos := "heights.go:47", after := #[{ on := 2, ground := Ground.data }, { on := 3, ground := Ground.data }], guard := none }) (v := ?_) rfl (by kernel_rfl) (by kernel_rfl) (by kernel_rfl) (by kernel_rfl) (fun _ _ _ h => h) (Or.inl ⟨by rfl, fun w _ => ?_⟩) ?_
            rotate_left
            · (go_simp; first | done | with_reducible rfl)
            try simp only [Act.put, List.setIfInBounds_toArray, List.set_cons_zero, List.set_cons_succ]
            refine wpAnyW_load (i := 5) (oi := { dst := some 40, op := Op.load 3 (Operand.tmp 39), type := 3, pos := "heights.go:47", after := #[{ on := 4, ground := Ground.data }], guard := none }) (v := ?_) rfl (by kernel_rfl) (by kernel_rfl) (by kernel_rfl) (by kernel_rfl) (by kernel_rfl) (fun _ _ _ h => h) (Or.inl ⟨by rfl, fun w hS => ?_⟩) (FS.out _ (by repeat (first | exact Bw.refl _ | apply Bw.alloc | apply Bw.drewN | apply Bw.drew))) ?_
            rotate_left
            · (obtain ⟨q0, q1, q2, q3, q4, q5⟩ := hS; go_simp; first | done | with_reducible rfl)
            try simp only [Act.put, List.setIfInBounds_toArray, List.set_cons_zero, List.set_cons_succ]
            refine wpAnyW_load (i := 6) (oi := { dst := some 41, op := Op.load 33 (Operand.tmp 4), type := 33, pos := "heights.go:47", after := #[], guard := none }) (v := ?_) rfl (by kernel_rfl) (by kernel_rfl) (by kernel_rfl) (by kernel_rfl) (by kernel_rfl) (fun _ _ _ h => h) (Or.inl ⟨by rfl, fun w hS => ?_⟩) (FS.out _ (by repeat (first | exact Bw.refl _ | apply Bw.alloc | apply Bw.drewN | apply Bw.drew))) ?_
            rotate_left
            · (obtain ⟨q0, q1, q2, q3, q4, q5⟩ := hS; go_simp; first | done | with_reducible rfl)
            try simp only [Act.put, List.setIfInBounds_toArray, List.set_cons_zero, List.set_cons_succ]
            refine wpAnyW_load (i := 7) (oi := { dst := some 42, op := Op.load 33 (Operand.tmp 7), type := 33, pos := "heights.go:47", after := #[], guard := none }) (v := ?_) rfl (by kernel_rfl) (by kernel_rfl) (by kernel_rfl) (by kernel_rfl) (by kernel_rfl) (fun _ _ _ h => h) (Or.inl ⟨by rfl, fun w hS => ?_⟩) (FS.out _ (by repeat (first | exact Bw.refl _ | apply Bw.alloc | apply Bw.drewN | apply Bw.drew))) ?_
            rotate_left
            · (obtain ⟨q0, q1, q2, q3, q4, q5⟩ := hS; go_simp; first | done | with_reducible rfl)
            try simp only [Act.put, List.setIfInBounds_toArray, List.set_cons_zero, List.set_cons_succ]
            refine wpAnyW_take (i := 8) (oi := { dst := some 43, op := Op.move (Operand.tmp 9), type := 3, pos := "heights.go:47", after := #[], guard := none }) (v := ?_) rfl (by kernel_rfl) (by kernel_rfl) (by kernel_rfl) (by kernel_rfl) (fun _ _ _ h => h) (Or.inl ⟨by rfl, fun w _ => ?_⟩) ?_
            rotate_left
            · (go_simp; first | done | with_reducible rfl)
            try simp only [Act.put, List.setIfInBounds_toArray, List.set_cons_zero, List.set_cons_succ]
            refine wpAnyW_take (i := 9) (oi := { dst := some 44, op := Op.indexAddr 33 (Operand.tmp 42) (Operand.tmp 43), type := 0, pos := "heights.go:47", after := #[{ on := 7, ground := Ground.data }, { on := 8, ground := Ground.data }], guard := none }) (v := ?_) rfl (by kernel_rfl) (by kernel_rfl) (by kernel_rfl) (by kernel_rfl) (fun _ _ _ h => h) (Or.inl ⟨by rfl, fun w _ => ?_⟩) ?_
            rotate_left
            · (go_simp; first | done | with_reducible rfl)
            try simp only [Act.put, List.setIfInBounds_toArray, List.set_cons_zero, List.set_cons_succ]
            refine wpAnyW_load (i := 10) (oi := { dst := some 45, op := Op.load 3 (Operand.tmp 44), type := 3, pos := "heights.go:47", after := #[{ on := 9, ground := Ground.data }], guard := none }) (v := ?_) rfl (by kernel_rfl) (by kernel_rfl) (by kernel_rfl) (by kernel_rfl) (by kernel_rfl) (fun _ _ _ h => h) (Or.inl ⟨by rfl, fun w hS => ?_⟩) (FS.out _ (by repeat (first | exact Bw.refl _ | apply Bw.alloc | apply Bw.drewN | apply Bw.drew))) ?_
            rotate_left
            · (obtain ⟨q0, q1, q2, q3, q4, q5⟩ := hS; go_simp; first | done | with_reducible rfl)
            try simp only [Act.put, List.setIfInBounds_toArray, List.set_cons_zero, List.set_cons_succ]
            refine wpAnyW_take (i := 11) (oi := { dst := some 46, op := Op.indexAddr 33 (Operand.tmp 41) (Operand.tmp 45), type := 0, pos := "heights.go:47", after := #[{ on := 6, ground := Ground.data }, { on := 10, ground := Ground.data }], guard := none }) (v := ?_) rfl (by kernel_rfl) (by kernel_rfl) (by kernel_rfl) (by kernel_rfl) (fun _ _ _ h => h) (Or.inl ⟨by rfl, fun w _ => ?_⟩) ?_
            rotate_left
            · (go_simp; first | done | with_reducible rfl)
            try simp only [Act.put, List.setIfInBounds_toArray, List.set_cons_zero, List.set_cons_succ]
            refine wpAnyW_load (i := 12) (oi := { dst := some 47, op := Op.load 3 (Operand.tmp 46), type := 3, pos := "heights.go:47", after := #[{ on := 11, ground := Ground.data }], guard := none }) (v := ?_) rfl (by kernel_rfl) (by kernel_rfl) (by kernel_rfl) (by kernel_rfl) (by kernel_rfl) (fun _ _ _ h => h) (Or.inl ⟨by rfl, fun w hS => ?_⟩) (FS.out _ (by repeat (first | exact Bw.refl _ | apply Bw.alloc | apply Bw.drewN | apply Bw.drew))) ?_
            rotate_left
            · (obtain ⟨q0, q1, q2, q3, q4, q5⟩ := hS; go_simp; first | done | with_reducible rfl)
            try simp only [Act.put, List.setIfInBounds_toArray, List.set_cons_zero, List.set_cons_succ]
            refine wpAnyW_ready (rs := [13, 14]) (by kernel_rfl) (by simp) ?_
            refine (AllReadyW.cons (o := { dst := some 48, op := Op.call { callee := Callee.value (Operand.func 21), args := #[Operand.tmp 35, Operand.tmp 36, Operand.tmp 40, Operand.tmp 47], argTypes := #[26, 38, 3, 3] }, type := 58, pos := "heights.go:47", after := #[{ on := 0, ground := Ground.data }, { on := 1, ground := Ground.data }, { on := 5, ground := Ground.data }, { on := 12, ground := Ground.data }], guard := none }) rfl (fun K hK => ?_) (AllReadyW.cons (o := { dst := some 10, op := Op.alloc 58, type := 0, pos := "heights.go:47", after := #[], guard := none }) rfl (fun K hK => ?_) AllReadyW.nil))
            · go_simp
              refine (stepAt_any m G _ _ _ ⟨f, .slice a1 f.boxes.length c1, .slice a2 f.caps.length c2, .slice a3 f.code.length c3, .slice a4 f.tries.length c4⟩ p h op a bb (HOG.out.bw (HBW.out.trans (by repeat (first | exact Bw.refl _ | apply Bw.alloc | apply Bw.drewN | apply Bw.drew)))) (HM.out.bw (HBW.out.trans (by repeat (first | exact Bw.refl _ | apply Bw.alloc | apply Bw.drewN | apply Bw.drew)))) (HA.out.bw (HBW.out.trans (by repeat (first | exact Bw.refl _ | apply Bw.alloc | apply Bw.drewN | apply Bw.drew)))) HPL.out HOP.out HHB.out HYK.out).mono ?_
              rw [HEF.out]
              rintro e w5 ⟨rfl, hb5⟩
              have HB5 := hid (show Bw wo w5 from Bw.trans (by repeat (first | exact Bw.refl _ | apply Bw.alloc | apply Bw.drewN | apply Bw.drew)) hb5)
              unfold stpV
              clear hb5
              refine hK.out _ _ (FS.out _ HB5.out) ?_
              clear hK K
              try simp only [Act.put, List.setIfInBounds_toArray, List.set_cons_zero, List.set_cons_succ]
              refine wpAnyW_ready (rs := [14]) (by kernel_rfl) (by simp) ?_
              refine (AllReadyW.cons (o := { dst := some 10, op := Op.alloc 58, type := 0, pos := "heights.go:47", after := #[], guard := none }) rfl (fun K hK => ?_) AllReadyW.nil)
              go_simp
              refine hK.out _ _ (FS.out _ (HB5.out.trans (by repeat (first | exact Bw.refl _ | apply Bw.alloc | apply Bw.drewN | apply Bw.drew)))) ?_
              clear hK K
              try simp only [Act.put, List.setIfInBounds_toArray, List.set_cons_zero, List.set_cons_succ]
              have HZB := hid (Blk.new w5 #[.int .i64 0, .int .i64 0, .int .i64 0, .int .i64 0, .int .i64 0, .int .i64 0, .int .i64 0] 58)
              have n0 := HZB.out.cell
              have n0f := HZB.out.free
              have n0l := HZB.out.lt
              refine wpAnyW_ready (rs := [15]) (by kernel_rfl) (by simp) ?_
              refine (AllReadyW.cons (o := { dst := none, op := Op.store 58 (Operand.tmp 10) (Operand.tmp 48), type := 0, pos := "heights.go:47", after := #[{ on := 14, ground := Ground.data }, { on := 13, ground := Ground.data }, { on := 13, ground := Ground.chain }, { on := 0, ground := Ground.phase }, { on := 1, ground := Ground.phase }, { on := 2, ground := Ground.phase }, { on := 3, ground := Ground.phase }, { on := 4, ground := Ground.phase }, { on := 5, ground := Ground.phase }, { on := 6, ground := Ground.phase }, { on := 7, ground := Ground.phase }, { on := 8, ground := Ground.phase }, { on := 9, ground := Ground.phase }, { on := 10, ground := Ground.phase }, { on := 11, ground := Ground.phase }, { on := 12, ground := Ground.phase }, { on := 13, ground := Ground.phase }, { on := 14, ground := Ground.phase }], guard := none }) rfl (fun K hK => ?_) AllReadyW.nil)
              go_simp
              have HST := hid (Blk.new w5 #[.int .i64 op, .int .i64 a, .int .i64 bb, .int .i64 p, .int .i64 h, .int .i64 (h - e1), .int .i64 (h - e1 + e2)] 58)
              have HSW := hid (show Bw wo (w5.alloc (.cells #[.int .i64 op, .int .i64 a, .int .i64 bb, .int .i64 p, .int .i64 h, .int .i64 (h - e1), .int .i64 (h - e1 + e2)] 58)) from HB5.out.trans (Bw.alloc (Bw.refl _) _))
              refine hK.out _ _ (FS.out _ HSW.out) ?_
              clear hK K
              try simp only [Act.put, List.setIfInBounds_toArray, List.set_cons_zero, List.set_cons_succ]
              refine wpAnyW_done (by kernel_rfl) ?_ _
              go_wp2
              go_meet
              case rel => exact ⟨_, rfl, HST.out, HSW.out⟩
            · go_simp
              refine hK.out _ _ (FS.out _ (by repeat (first | exact Bw.refl _ | apply Bw.alloc | apply Bw.drewN | apply Bw.drew))) ?_
              clear hK K
              try simp only [Act.put, List.setIfInBounds_toArray, List.set_cons_zero, List.set_cons_succ]
              refine wpAnyW_ready (rs := [13]) (by kernel_rfl) (by simp) ?_
              refine (AllReadyW.cons (o := { dst := some 48, op := Op.call { callee := Callee.value (Operand.func 21), args := #[Operand.tmp 35, Operand.tmp 36, Operand.tmp 40, Operand.tmp 47], argTypes := #[26, 38, 3, 3] }, type := 58, pos := "heights.go:47", after := #[{ on := 0, ground := Ground.data }, { on := 1, ground := Ground.data }, { on := 5, ground := Ground.data }, { on := 12, ground := Ground.data }], guard := none }) rfl (fun K hK => ?_) AllReadyW.nil)
              go_simp
              refine (stepAt_any m G _ _ _ ⟨f, .slice a1 f.boxes.length c1, .slice a2 f.caps.length c2, .slice a3 f.code.length c3, .slice a4 f.tries.length c4⟩ p h op a bb (HOG.out.bw (HBW.out.trans (by repeat (first | exact Bw.refl _ | apply Bw.alloc | apply Bw.drewN | apply Bw.drew)))) (HM.out.bw (HBW.out.trans (by repeat (first | exact Bw.refl _ | apply Bw.alloc | apply Bw.drewN | apply Bw.drew)))) (HA.out.bw (HBW.out.trans (by repeat (first | exact Bw.refl _ | apply Bw.alloc | apply Bw.drewN | apply Bw.drew)))) HPL.out HOP.out HHB.out HYK.out).mono ?_
              rw [HEF.out]
              rintro e w5 ⟨rfl, hb5⟩
              have HB5 := hid (show Bw wo w5 from Bw.trans (by repeat (first | exact Bw.refl _ | apply Bw.alloc | apply Bw.drewN | apply Bw.drew)) hb5)
              unfold stpV
              have HZB := hid (show Blk w5 wo.heap.size #[.int .i64 0, .int .i64 0, .int .i64 0, .int .i64 0, .int .i64 0, .int .i64 0, .int .i64 0] 58 from (Blk.new wo #[.int .i64 0, .int .i64 0, .int .i64 0, .int .i64 0, .int .i64 0, .int .i64 0, .int .i64 0] 58).bw (Bw.trans (by repeat (first | exact Bw.refl _ | apply Bw.alloc | apply Bw.drewN | apply Bw.drew)) hb5))
              have n0 := HZB.out.cell
              have n0f := HZB.out.free
              have n0l := HZB.out.lt
              clear hb5
              refine hK.out _ _ (FS.out _ HB5.out) ?_
              clear hK K
              try simp only [Act.put, List.setIfInBounds_toArray, List.set_cons_zero, List.set_cons_succ]
              refine wpAnyW_ready (rs := [15]) (by kernel_rfl) (by simp) ?_
              refine (AllReadyW.cons (o := { dst := none, op := Op.store 58 (Operand.tmp 10) (Operand.tmp 48), type := 0, pos := "heights.go:47", after := #[{ on := 14, ground := Ground.data }, { on := 13, ground := Ground.data }, { on := 13, ground := Ground.chain }, { on := 0, ground := Ground.phase }, { on := 1, ground := Ground.phase }, { on := 2, ground := Ground.phase }, { on := 3, ground := Ground.phase }, { on := 4, ground := Ground.phase }, { on := 5, ground := Ground.phase }, { on := 6, ground := Ground.phase }, { on := 7, ground := Ground.phase }, { on := 8, ground := Ground.phase }, { on := 9, ground := Ground.phase }, { on := 10, ground := Ground.phase }, { on := 11, ground := Ground.phase }, { on := 12, ground := Ground.phase }, { on := 13, ground := Ground.phase }, { on := 14, ground := Ground.phase }], guard := none }) rfl (fun K hK => ?_) AllReadyW.nil)
              go_simp
              have HST := hid (stp_set (h - e1) (h - e1 + e2) op a bb p h HZB.out)
              have HSW := hid (stp_bw HB5.out (Nat.le_refl _) op a bb p h (h - e1) (h - e1 + e2))
              refine hK.out _ _ (FS.out _ HSW.out) ?_
              clear hK K
              try simp only [Act.put, List.setIfInBounds_toArray, List.set_cons_zero, List.set_cons_succ]
              refine wpAnyW_done (by kernel_rfl) ?_ _
              go_wp2
              go_meet
              case rel => exact ⟨_, rfl, HST.out, HSW.out⟩
          case rest =>
            obtain ⟨sb, rfl, hsb, hbc⟩ := hcut
            have HSB := hid hsb
            have HBC := hid hbc
            have v1 := hsb.cell
            have v1l := hsb.lt
            have v2 := (HWP.out.bw hbc).cell
            have v2l := (HWP.out.bw hbc).lt
            have HPX := hid (show (p : Int) < 9223372036854775807 from by have := HN2.out; have := HPL.out; omega)
            clear hsb hbc FS
            cases hft : fitM f op p (h - e1) (h - e1 + e2)
            · have HFT := hid hft
              have HFE := hid (show F = { s' with f := (p : Int) } from by
                have ho : oneM m f s' (s'.row.getD k 0) = ({ s' with f := (p : Int) }, false) := by rw [HON.out, hft]; rfl
                rw [← HFL.out, HNK.out, flow_no HLT.out (by rw [ho]), ho])
              clear hft
              go_upto_region 24 with (first
                | (go_at_call 22; refine (fits_any ⟨f, .slice a1 f.boxes.length c1, .slice a2 f.caps.length c2, .slice a3 f.code.length c3, .slice a4 f.tries.length c4⟩ G (HA.out.bw (HBW.out.trans (HBC.out.trans (by repeat (first | exact Bw.refl _ | apply Bw.alloc | apply Bw.drewN | apply Bw.drew))))) op a bb h (h - e1) (h - e1 + e2) p HPX.out).mono ?_; rw [HFT.out]; rintro e w6 ⟨rfl, hb6⟩; have HC6 := hid (show Bw wc w6 from Bw.trans (by repeat (first | exact Bw.refl _ | apply Bw.alloc | apply Bw.drewN | apply Bw.drew)) hb6); have HB6 := hid (HBC.out.trans HC6.out); have v3 := (HSB.out.bw HC6.out).cell; have v3l := (HSB.out.bw HC6.out).lt; have v4 := (HWP.out.bw HB6.out).cell; have v4l := (HWP.out.bw HB6.out).lt; have v5 := (HH.out.pf.bw HB6.out).cell 0; have v5f := (HH.out.pf.bw HB6.out).free; have v5l := (HH.out.pf.bw HB6.out).lt; simp only [List.getElem?_toArray, List.getElem?_cons_zero] at v5; clear hb6)
                | fail)
              have HHF := hid (HI.fault (HH.out.bw HB6.out) (p : Int))
              have HBF2 := hid (show Bw w (w6.setCell ⟨(w.heap.size + 1 + 1 + 1), 0, none⟩ (.int .i64 p)) from Bw.setCell (HBW.out.trans HB6.out) HBF.out _)
              have HSA := hid (HI.same HHF.out)
              have HLQ := hid (show ({ s' with f := (p : Int) }).h.length = f.code.length from HLEN.out)
              have FS := hid (show ∀ w', Bw (w6.setCell ⟨(w.heap.size + 1 + 1 + 1), 0, none⟩ (.int .i64 p)) w' → w'.cell? ⟨(w.heap.size + 1 + 1), 0, none⟩ = some (.slice (some ⟨(w.heap.size + 1 + 1 + 1 + 1), 0, none⟩) f.code.length f.code.length) ∧ w'.cell? ⟨(w.heap.size + 1 + 1 + 1), 0, none⟩ = some (.int .i64 ({ s' with f := (p : Int) }).f) from fun w' hb => by have h1 := (HHF.out.ph.bw hb).cell 0; have h2 := (HHF.out.pf.bw hb).cell 0; rw [HLQ.out] at h1; exact ⟨h1, h2⟩)
              have FT2 := hid (show ∀ q : Nat, (((w6.setCell ⟨(w.heap.size + 1 + 1 + 1), 0, none⟩ (.int .i64 p)).setCell ⟨(w.heap.size + 1 + 1), 0, none⟩ (.slice (some ⟨(w.heap.size + 1 + 1 + 1 + 1), 0, none⟩) f.code.length f.code.length)).drewN q).cell? ⟨(w.heap.size + 1 + 1), 0, none⟩ = some (.slice (some ⟨(w.heap.size + 1 + 1 + 1 + 1), 0, none⟩) f.code.length f.code.length) ∧ (((w6.setCell ⟨(w.heap.size + 1 + 1 + 1), 0, none⟩ (.int .i64 p)).setCell ⟨(w.heap.size + 1 + 1), 0, none⟩ (.slice (some ⟨(w.heap.size + 1 + 1 + 1 + 1), 0, none⟩) f.code.length f.code.length)).drewN q).cell? ⟨(w.heap.size + 1 + 1 + 1), 0, none⟩ = some (.int .i64 ({ s' with f := (p : Int) }).f) from fun q => by have h := HSA.out.1; rw [HLQ.out] at h; have h1 := (h.ph.drewN q).cell 0; have h2 := (h.pf.drewN q).cell 0; rw [HLQ.out] at h1; exact ⟨h1, h2⟩)
              have HSB := hid (show HI (((w6.setCell ⟨(w.heap.size + 1 + 1 + 1), 0, none⟩ (.int .i64 p)).setCell ⟨(w.heap.size + 1 + 1), 0, none⟩ (.slice (some ⟨(w.heap.size + 1 + 1 + 1 + 1), 0, none⟩) f.code.length f.code.length)).setCell ⟨(w.heap.size + 1 + 1 + 1), 0, none⟩ (.int .i64 ({ s' with f := (p : Int) }).f)) (w.heap.size + 1 + 1) (w.heap.size + 1 + 1 + 1) (w.heap.size + 1 + 1 + 1 + 1) wm.heap.size ({ s' with f := (p : Int) }) from by have h := HSA.out.2; rw [HLQ.out] at h; exact h)
              have FT3 := hid (show ∀ q : Nat, ((((w6.setCell ⟨(w.heap.size + 1 + 1 + 1), 0, none⟩ (.int .i64 p)).setCell ⟨(w.heap.size + 1 + 1), 0, none⟩ (.slice (some ⟨(w.heap.size + 1 + 1 + 1 + 1), 0, none⟩) f.code.length f.code.length)).setCell ⟨(w.heap.size + 1 + 1 + 1), 0, none⟩ (.int .i64 ({ s' with f := (p : Int) }).f)).drewN q).cell? ⟨(w.heap.size + 1 + 1), 0, none⟩ = some (.slice (some ⟨(w.heap.size + 1 + 1 + 1 + 1), 0, none⟩) f.code.length f.code.length) ∧ ((((w6.setCell ⟨(w.heap.size + 1 + 1 + 1), 0, none⟩ (.int .i64 p)).setCell ⟨(w.heap.size + 1 + 1), 0, none⟩ (.slice (some ⟨(w.heap.size + 1 + 1 + 1 + 1), 0, none⟩) f.code.length f.code.length)).setCell ⟨(w.heap.size + 1 + 1 + 1), 0, none⟩ (.int .i64 ({ s' with f := (p : Int) }).f)).drewN q).cell? ⟨(w.heap.size + 1 + 1 + 1), 0, none⟩ = some (.int .i64 ({ s' with f := (p : Int) }).f) from fun q => by have h1 := (HSB.out.ph.drewN q).cell 0; have h2 := (HSB.out.pf.drewN q).cell 0; rw [HLQ.out] at h1; exact ⟨h1, h2⟩)
              have cA := HHF.out.ph.cell 0
              have cAf := HHF.out.ph.free
              have cAl := HHF.out.ph.lt
              have cB := HHF.out.pf.cell 0
              have cBf := HHF.out.pf.free
              have cBl := HHF.out.pf.lt
              simp only [List.getElem?_toArray, List.getElem?_cons_zero] at cA cB
              rw [HLQ.out] at cA
              have FZ := hid (show ∀ q : Nat, HtP w F (.returned (.tuple #[.slice (some ⟨(w.heap.size + 1 + 1 + 1 + 1), 0, none⟩) f.code.length f.code.length, .int .i64 ({ s' with f := (p : Int) }).f])) ((((w6.setCell ⟨(w.heap.size + 1 + 1 + 1), 0, none⟩ (.int .i64 p)).setCell ⟨(w.heap.size + 1 + 1), 0, none⟩ (.slice (some ⟨(w.heap.size + 1 + 1 + 1 + 1), 0, none⟩) f.code.length f.code.length)).setCell ⟨(w.heap.size + 1 + 1 + 1), 0, none⟩ (.int .i64 ({ s' with f := (p : Int) }).f)).drewN q) from fun q => by
                have h9 := HSB.out.out
                rw [HFE.out]
                rw [HLQ.out] at h9
                refine ⟨(Bw.setCell (Bw.setCell HBF2.out (show w.heap.size ≤ (w.heap.size + 1 + 1) by omega) _) (show w.heap.size ≤ (w.heap.size + 1 + 1 + 1) by omega) _).drewN q, some ⟨(w.heap.size + 1 + 1 + 1 + 1), 0, none⟩, f.code.length, ?_, ?_⟩
                · rw [HLQ.out]
                · rw [HLQ.out]; exact h9.below (bw_drewN _ _))
              refine wp_region_W (fun w' => w'.cell? ⟨(w.heap.size + 1 + 1), 0, none⟩ = some (.slice (some ⟨(w.heap.size + 1 + 1 + 1 + 1), 0, none⟩) f.code.length f.code.length) ∧ w'.cell? ⟨(w.heap.size + 1 + 1 + 1), 0, none⟩ = some (.int .i64 ({ s' with f := (p : Int) }).f)) (fun j => if j == 2 || j == 3 then 0 else 1) (by kernel_rfl) ?_
              refine wpAnyW_load (i := 0) (oi := { dst := some 81, op := Op.load 33 (Operand.tmp 4), type := 33, pos := "heights.go:62", after := #[], guard := none }) (v := ?_) rfl (by kernel_rfl) (by kernel_rfl) (by kernel_rfl) (by kernel_rfl) (by kernel_rfl) (fun _ _ _ h => h) (Or.inl ⟨by rfl, fun w hS => ?_⟩) (FS.out _ (by repeat (first | exact Bw.refl _ | apply Bw.alloc | apply Bw.drewN | apply Bw.drew))) ?_
              rotate_left
              · (obtain ⟨q0, q1⟩ := hS; go_simp; first | done | with_reducible rfl)
              try simp only [Act.put, List.setIfInBounds_toArray, List.set_cons_zero, List.set_cons_succ]
              refine wpAnyW_load (i := 1) (oi := { dst := some 82, op := Op.load 3 (Operand.tmp 5), type := 3, pos := "heights.go:62", after := #[], guard := none }) (v := ?_) rfl (by kernel_rfl) (by kernel_rfl) (by kernel_rfl) (by kernel_rfl) (by kernel_rfl) (fun _ _ _ h => h) (Or.inl ⟨by rfl, fun w hS => ?_⟩) (FS.out _ (by repeat (first | exact Bw.refl _ | apply Bw.alloc | apply Bw.drewN | apply Bw.drew))) ?_
              rotate_left
              · (obtain ⟨q0, q1⟩ := hS; go_simp; first | done | with_reducible rfl)
              try simp only [Act.put, List.setIfInBounds_toArray, List.set_cons_zero, List.set_cons_succ]
              refine wpAnyW_ready (rs := [2]) (by kernel_rfl) (by simp) ?_
              refine (AllReadyW.cons (o := { dst := none, op := Op.store 33 (Operand.tmp 4) (Operand.tmp 81), type := 0, pos := "heights.go:62", after := #[{ on := 0, ground := Ground.data }, { on := 0, ground := Ground.phase }, { on := 1, ground := Ground.textOnly Departure.inlinedCapture }], guard := none }) rfl (fun K hK => ?_) AllReadyW.nil)
              go_simp
              refine hK.out _ _ (FT2.out _) ?_
              clear hK K
              try simp only [Act.put, List.setIfInBounds_toArray, List.set_cons_zero, List.set_cons_succ]
              refine wpAnyW_ready (rs := [3]) (by kernel_rfl) (by simp) ?_
              refine (AllReadyW.cons (o := { dst := none, op := Op.store 3 (Operand.tmp 5) (Operand.tmp 82), type := 0, pos := "heights.go:62", after := #[{ on := 1, ground := Ground.data }, { on := 2, ground := Ground.chain }, { on := 0, ground := Ground.phase }, { on := 1, ground := Ground.phase }, { on := 2, ground := Ground.phase }], guard := none }) rfl (fun K hK => ?_) AllReadyW.nil)
              go_simp
              refine hK.out _ _ (FT3.out _) ?_
              clear hK K
              try simp only [Act.put, List.setIfInBounds_toArray, List.set_cons_zero, List.set_cons_succ]
              refine wpAnyW_done (by kernel_rfl) ?_ _
              go_wp2
              all_goals (try rw [Exit.noGoto_ret])
              all_goals
                have hq := FT3.out
                refine bodyPost_ret (v := .tuple #[.slice (some ⟨(w.heap.size + 1 + 1 + 1 + 1), 0, none⟩) f.code.length f.code.length, .int .i64 ({ s' with f := (p : Int) }).f]) (by simp [results, Tryd.results13, go_sem, hq, cA, cAl, cB, cBl]) rfl ?_
                exact FZ.out _
            · have HFT := hid hft
              have HON2 := hid (show oneM m f s' (s'.row.getD k 0) = if (f.tries.any fun t => cov t p && decide (h - e1 < t.2.2.2)) = true then ({ s' with f := (p : Int) }, false) else runL s' (leads f op a p h (h - e1 + e2)) from by rw [HON.out, hft]; rfl)
              clear hft
              go_wp2_with (first
                | (go_at_call 22; refine (fits_any ⟨f, .slice a1 f.boxes.length c1, .slice a2 f.caps.length c2, .slice a3 f.code.length c3, .slice a4 f.tries.length c4⟩ G (HA.out.bw (HBW.out.trans (HBC.out.trans (by repeat (first | exact Bw.refl _ | apply Bw.alloc | apply Bw.drewN | apply Bw.drew))))) op a bb h (h - e1) (h - e1 + e2) p HPX.out).mono ?_; rw [HFT.out]; rintro e w6 ⟨rfl, hb6⟩; have HC6 := hid (show Bw wc w6 from Bw.trans (by repeat (first | exact Bw.refl _ | apply Bw.alloc | apply Bw.drewN | apply Bw.drew)) hb6); have HB6 := hid (HBC.out.trans HC6.out); have v3 := (HSB.out.bw HC6.out).cell; have v3l := (HSB.out.bw HC6.out).lt; have v4 := (HWP.out.bw HB6.out).cell; have v4l := (HWP.out.bw HB6.out).lt; have v5 := (HH.out.pf.bw HB6.out).cell 0; have v5f := (HH.out.pf.bw HB6.out).free; have v5l := (HH.out.pf.bw HB6.out).lt; simp only [List.getElem?_toArray, List.getElem?_cons_zero] at v5; clear hb6)
                | fail)
              go_loopw [58] (fun j wr => ∃ i, i ≤ f.tries.length ∧ j = .int .i64 (i : Nat) ∧ (f.tries.take i).any (fun t => cov t p && decide (h - e1 < t.2.2.2)) = false ∧ Bw w6 wr) (fun j _ => f.tries.length - (intOf j).toNat)
              case atStart => exact ⟨0, Nat.zero_le _, rfl, rfl, Bw.refl _⟩
              case round =>
                obtain ⟨i, hi, rfl, hal, hbw⟩ := hrel
                have HAL := hid hal
                have HC7 := hid (show Bw wc wr from HC6.out.trans hbw)
                have HB7 := hid (show Bw wo wr from HB6.out.trans hbw)
                have b1 := (HSB.out.bw HC7.out).cell
                have b1l := (HSB.out.bw HC7.out).lt
                have b2 := (HWP.out.bw HB7.out).cell
                have b2l := (HWP.out.bw HB7.out).lt
                have HC76 := hid hbw
                clear hal hbw
                by_cases hlt7 : i < f.tries.length
                · obtain ⟨g1, o1, d1, e9, _, hg1, _, x⟩ := (RL.bw HA.out.t (HBW.out.trans HB7.out)).parts hlt7 (by decide)
                  simp only at e9 x
                  cases e9
                  have x0 := x 0 (by decide)
                  have x1 := x 1 (by decide)
                  have x2 := x 2 (by decide)
                  have x3 := x 3 (by decide)
                  simp only [Nat.add_zero, ← Nat.add_assoc, tryC, List.getElem?_cons_zero, List.getElem?_cons_succ] at x0 x1 x2 x3
                  have hlt8 : (i : Int) < (f.tries.length : Int) := by omega
                  have HNX := hid (show (fun t => cov t p && decide (h - e1 < t.2.2.2)) f.tries[i] = false → (f.tries.take (i + 1)).any (fun t => cov t p && decide (h - e1 < t.2.2.2)) = false from fun h9 => by
                    rw [List.take_succ_eq_append_getElem hlt7, List.any_append, HAL.out]
                    simpa using h9)
                  have HYX := hid (show (fun t => cov t p && decide (h - e1 < t.2.2.2)) f.tries[i] = true → f.tries.any (fun t => cov t p && decide (h - e1 < t.2.2.2)) = true from fun h9 => List.any_eq_true.2 ⟨_, List.getElem_mem hlt7, h9⟩)
                  generalize f.tries[i] = y at x0 x1 x2 x3 HNX HYX
                  obtain ⟨tp, tq, tr, td⟩ := y
                  simp only at x0 x1 x2 x3 HNX HYX
                  have HTB := hid (show Blk (wr.alloc (.cells #[.int .i64 tp, .int .i64 tq, .int .i64 tr, .int .i64 td] 55)) wr.heap.size #[.int .i64 tp, .int .i64 tq, .int .i64 tr, .int .i64 td] 55 from Blk.new wr _ 55)
                  clear x
                  cases hq : cov (tp, tq, tr, td) p
                  · have HR7 := hid (HNX.out (by rw [hq]; rfl))
                    have HQ := hid hq
                    clear hq
                    go_wp2_with (first
                      | (go_at_call 23; refine (covers_any tp tq tr td p _).mono ?_; rw [HQ.out]; rintro e w8 ⟨rfl, hb8⟩; have HC8 := hid (show Bw wr w8 from Bw.trans (by repeat (first | exact Bw.refl _ | apply Bw.alloc | apply Bw.drewN | apply Bw.drew)) hb8); have b9 := (HTB.out.bw hb8).cell; have b9l := (HTB.out.bw hb8).lt; have b10 := (HSB.out.bw (HC7.out.trans HC8.out)).cell; have b10l := (HSB.out.bw (HC7.out.trans HC8.out)).lt; have b11 := (HH.out.pf.bw (HB7.out.trans HC8.out)).cell 0; have b11f := (HH.out.pf.bw (HB7.out.trans HC8.out)).free; have b11l := (HH.out.pf.bw (HB7.out.trans HC8.out)).lt; simp only [List.getElem?_toArray, List.getElem?_cons_zero] at b11; clear hb8)
                      | fail)
                    go_roundw
                    case rel => exact ⟨i + 1, by omega, by go_num, HR7.out, HC76.out.trans (HC8.out.trans (by repeat (first | exact Bw.refl _ | apply Bw.alloc | apply Bw.drewN | apply Bw.drew)))⟩
                    case measure => simp [intOf]; omega
                  · by_cases hd : h - e1 < td
                    · have hdb : decide (h - e1 < td) = true := decide_eq_true hd
                      have HFE := hid (show F = { s' with f := (p : Int) } from by
                        have hy := HYX.out (by rw [hq, hdb]; rfl)
                        have ho : oneM m f s' (s'.row.getD k 0) = ({ s' with f := (p : Int) }, false) := by rw [HON2.out, hy]; rfl
                        rw [← HFL.out, HNK.out, flow_no HLT.out (by rw [ho]), ho])
                      have HQ := hid hq
                      clear hq hd
                      go_upto_region 24 with (first
                        | (go_at_call 23; refine (covers_any tp tq tr td p _).mono ?_; rw [HQ.out]; rintro e w8 ⟨rfl, hb8⟩; have HC8 := hid (show Bw wr w8 from Bw.trans (by repeat (first | exact Bw.refl _ | apply Bw.alloc | apply Bw.drewN | apply Bw.drew)) hb8); have b9 := (HTB.out.bw hb8).cell; have b9l := (HTB.out.bw hb8).lt; have b10 := (HSB.out.bw (HC7.out.trans HC8.out)).cell; have b10l := (HSB.out.bw (HC7.out.trans HC8.out)).lt; have b11 := (HH.out.pf.bw (HB7.out.trans HC8.out)).cell 0; have b11f := (HH.out.pf.bw (HB7.out.trans HC8.out)).free; have b11l := (HH.out.pf.bw (HB7.out.trans HC8.out)).lt; simp only [List.getElem?_toArray, List.getElem?_cons_zero] at b11; clear hb8)
                        | fail)
                      have HHF := hid (HI.fault (HH.out.bw (HB7.out.trans HC8.out)) (p : Int))
                      have HBF2 := hid (show Bw w (w8.setCell ⟨(w.heap.size + 1 + 1 + 1), 0, none⟩ (.int .i64 p)) from Bw.setCell (HBW.out.trans (HB7.out.trans HC8.out)) HBF.out _)
                      have HSA := hid (HI.same HHF.out)
                      have HLQ := hid (show ({ s' with f := (p : Int) }).h.length = f.code.length from HLEN.out)
                      have FS := hid (show ∀ w', Bw (w8.setCell ⟨(w.heap.size + 1 + 1 + 1), 0, none⟩ (.int .i64 p)) w' → w'.cell? ⟨(w.heap.size + 1 + 1), 0, none⟩ = some (.slice (some ⟨(w.heap.size + 1 + 1 + 1 + 1), 0, none⟩) f.code.length f.code.length) ∧ w'.cell? ⟨(w.heap.size + 1 + 1 + 1), 0, none⟩ = some (.int .i64 ({ s' with f := (p : Int) }).f) from fun w' hb => by have h1 := (HHF.out.ph.bw hb).cell 0; have h2 := (HHF.out.pf.bw hb).cell 0; rw [HLQ.out] at h1; exact ⟨h1, h2⟩)
                      have FT2 := hid (show ∀ q : Nat, (((w8.setCell ⟨(w.heap.size + 1 + 1 + 1), 0, none⟩ (.int .i64 p)).setCell ⟨(w.heap.size + 1 + 1), 0, none⟩ (.slice (some ⟨(w.heap.size + 1 + 1 + 1 + 1), 0, none⟩) f.code.length f.code.length)).drewN q).cell? ⟨(w.heap.size + 1 + 1), 0, none⟩ = some (.slice (some ⟨(w.heap.size + 1 + 1 + 1 + 1), 0, none⟩) f.code.length f.code.length) ∧ (((w8.setCell ⟨(w.heap.size + 1 + 1 + 1), 0, none⟩ (.int .i64 p)).setCell ⟨(w.heap.size + 1 + 1), 0, none⟩ (.slice (some ⟨(w.heap.size + 1 + 1 + 1 + 1), 0, none⟩) f.code.length f.code.length)).drewN q).cell? ⟨(w.heap.size + 1 + 1 + 1), 0, none⟩ = some (.int .i64 ({ s' with f := (p : Int) }).f) from fun q => by have h := HSA.out.1; rw [HLQ.out] at h; have h1 := (h.ph.drewN q).cell 0; have h2 := (h.pf.drewN q).cell 0; rw [HLQ.out] at h1; exact ⟨h1, h2⟩)
                      have HSB := hid (show HI (((w8.setCell ⟨(w.heap.size + 1 + 1 + 1), 0, none⟩ (.int .i64 p)).setCell ⟨(w.heap.size + 1 + 1), 0, none⟩ (.slice (some ⟨(w.heap.size + 1 + 1 + 1 + 1), 0, none⟩) f.code.length f.code.length)).setCell ⟨(w.heap.size + 1 + 1 + 1), 0, none⟩ (.int .i64 ({ s' with f := (p : Int) }).f)) (w.heap.size + 1 + 1) (w.heap.size + 1 + 1 + 1) (w.heap.size + 1 + 1 + 1 + 1) wm.heap.size ({ s' with f := (p : Int) }) from by have h := HSA.out.2; rw [HLQ.out] at h; exact h)
                      have FT3 := hid (show ∀ q : Nat, ((((w8.setCell ⟨(w.heap.size + 1 + 1 + 1), 0, none⟩ (.int .i64 p)).setCell ⟨(w.heap.size + 1 + 1), 0, none⟩ (.slice (some ⟨(w.heap.size + 1 + 1 + 1 + 1), 0, none⟩) f.code.length f.code.length)).setCell ⟨(w.heap.size + 1 + 1 + 1), 0, none⟩ (.int .i64 ({ s' with f := (p : Int) }).f)).drewN q).cell? ⟨(w.heap.size + 1 + 1), 0, none⟩ = some (.slice (some ⟨(w.heap.size + 1 + 1 + 1 + 1), 0, none⟩) f.code.length f.code.length) ∧ ((((w8.setCell ⟨(w.heap.size + 1 + 1 + 1), 0, none⟩ (.int .i64 p)).setCell ⟨(w.heap.size + 1 + 1), 0, none⟩ (.slice (some ⟨(w.heap.size + 1 + 1 + 1 + 1), 0, none⟩) f.code.length f.code.length)).setCell ⟨(w.heap.size + 1 + 1 + 1), 0, none⟩ (.int .i64 ({ s' with f := (p : Int) }).f)).drewN q).cell? ⟨(w.heap.size + 1 + 1 + 1), 0, none⟩ = some (.int .i64 ({ s' with f := (p : Int) }).f) from fun q => by have h1 := (HSB.out.ph.drewN q).cell 0; have h2 := (HSB.out.pf.drewN q).cell 0; rw [HLQ.out] at h1; exact ⟨h1, h2⟩)
                      have cA := HHF.out.ph.cell 0
                      have cAf := HHF.out.ph.free
                      have cAl := HHF.out.ph.lt
                      have cB := HHF.out.pf.cell 0
                      have cBf := HHF.out.pf.free
                      have cBl := HHF.out.pf.lt
                      simp only [List.getElem?_toArray, List.getElem?_cons_zero] at cA cB
                      rw [HLQ.out] at cA
                      have FZ := hid (show ∀ q : Nat, HtP w F (.returned (.tuple #[.slice (some ⟨(w.heap.size + 1 + 1 + 1 + 1), 0, none⟩) f.code.length f.code.length, .int .i64 ({ s' with f := (p : Int) }).f])) ((((w8.setCell ⟨(w.heap.size + 1 + 1 + 1), 0, none⟩ (.int .i64 p)).setCell ⟨(w.heap.size + 1 + 1), 0, none⟩ (.slice (some ⟨(w.heap.size + 1 + 1 + 1 + 1), 0, none⟩) f.code.length f.code.length)).setCell ⟨(w.heap.size + 1 + 1 + 1), 0, none⟩ (.int .i64 ({ s' with f := (p : Int) }).f)).drewN q) from fun q => by
                        have h9 := HSB.out.out
                        rw [HFE.out]
                        rw [HLQ.out] at h9
                        refine ⟨(Bw.setCell (Bw.setCell HBF2.out (show w.heap.size ≤ (w.heap.size + 1 + 1) by omega) _) (show w.heap.size ≤ (w.heap.size + 1 + 1 + 1) by omega) _).drewN q, some ⟨(w.heap.size + 1 + 1 + 1 + 1), 0, none⟩, f.code.length, ?_, ?_⟩
                        · rw [HLQ.out]
                        · rw [HLQ.out]; exact h9.below (bw_drewN _ _))
                      refine wp_region_W (fun w' => w'.cell? ⟨(w.heap.size + 1 + 1), 0, none⟩ = some (.slice (some ⟨(w.heap.size + 1 + 1 + 1 + 1), 0, none⟩) f.code.length f.code.length) ∧ w'.cell? ⟨(w.heap.size + 1 + 1 + 1), 0, none⟩ = some (.int .i64 ({ s' with f := (p : Int) }).f)) (fun j => if j == 2 || j == 3 then 0 else 1) (by kernel_rfl) ?_
                      refine wpAnyW_load (i := 0) (oi := { dst := some 81, op := Op.load 33 (Operand.tmp 4), type := 33, pos := "heights.go:62", after := #[], guard := none }) (v := ?_) rfl (by kernel_rfl) (by kernel_rfl) (by kernel_rfl) (by kernel_rfl) (by kernel_rfl) (fun _ _ _ h => h) (Or.inl ⟨by rfl, fun w hS => ?_⟩) (FS.out _ (by repeat (first | exact Bw.refl _ | apply Bw.alloc | apply Bw.drewN | apply Bw.drew))) ?_
                      rotate_left
                      · (obtain ⟨q0, q1⟩ := hS; go_simp; first | done | with_reducible rfl)
                      try simp only [Act.put, List.setIfInBounds_toArray, List.set_cons_zero, List.set_cons_succ]
                      refine wpAnyW_load (i := 1) (oi := { dst := some 82, op := Op.load 3 (Operand.tmp 5), type := 3, pos := "heights.go:62", after := #[], guard := none }) (v := ?_) rfl (by kernel_rfl) (by kernel_rfl) (by kernel_rfl) (by kernel_rfl) (by kernel_rfl) (fun _ _ _ h => h) (Or.inl ⟨by rfl, fun w hS => ?_⟩) (FS.out _ (by repeat (first | exact Bw.refl _ | apply Bw.alloc | apply Bw.drewN | apply Bw.drew))) ?_
                      rotate_left
                      · (obtain ⟨q0, q1⟩ := hS; go_simp; first | done | with_reducible rfl)
                      try simp only [Act.put, List.setIfInBounds_toArray, List.set_cons_zero, List.set_cons_succ]
                      refine wpAnyW_ready (rs := [2]) (by kernel_rfl) (by simp) ?_
                      refine (AllReadyW.cons (o := { dst := none, op := Op.store 33 (Operand.tmp 4) (Operand.tmp 81), type := 0, pos := "heights.go:62", after := #[{ on := 0, ground := Ground.data }, { on := 0, ground := Ground.phase }, { on := 1, ground := Ground.textOnly Departure.inlinedCapture }], guard := none }) rfl (fun K hK => ?_) AllReadyW.nil)
                      go_simp
                      refine hK.out _ _ (FT2.out _) ?_
                      clear hK K
                      try simp only [Act.put, List.setIfInBounds_toArray, List.set_cons_zero, List.set_cons_succ]
                      refine wpAnyW_ready (rs := [3]) (by kernel_rfl) (by simp) ?_
                      refine (AllReadyW.cons (o := { dst := none, op := Op.store 3 (Operand.tmp 5) (Operand.tmp 82), type := 0, pos := "heights.go:62", after := #[{ on := 1, ground := Ground.data }, { on := 2, ground := Ground.chain }, { on := 0, ground := Ground.phase }, { on := 1, ground := Ground.phase }, { on := 2, ground := Ground.phase }], guard := none }) rfl (fun K hK => ?_) AllReadyW.nil)
                      go_simp
                      refine hK.out _ _ (FT3.out _) ?_
                      clear hK K
                      try simp only [Act.put, List.setIfInBounds_toArray, List.set_cons_zero, List.set_cons_succ]
                      refine wpAnyW_done (by kernel_rfl) ?_ _
                      go_wp2
                      all_goals (try rw [Exit.noGoto_ret])
                      all_goals
                        have hq := FT3.out
                        refine bodyPost_ret (v := .tuple #[.slice (some ⟨(w.heap.size + 1 + 1 + 1 + 1), 0, none⟩) f.code.length f.code.length, .int .i64 ({ s' with f := (p : Int) }).f]) (by simp [results, Tryd.results13, go_sem, hq, cA, cAl, cB, cBl]) rfl ?_
                        exact FZ.out _
                    · have hdb : decide (h - e1 < td) = false := decide_eq_false hd
                      have HR7 := hid (HNX.out (by rw [hq, hdb]; rfl))
                      have HQ := hid hq
                      clear hq hd
                      go_wp2_with (first
                        | (go_at_call 23; refine (covers_any tp tq tr td p _).mono ?_; rw [HQ.out]; rintro e w8 ⟨rfl, hb8⟩; have HC8 := hid (show Bw wr w8 from Bw.trans (by repeat (first | exact Bw.refl _ | apply Bw.alloc | apply Bw.drewN | apply Bw.drew)) hb8); have b9 := (HTB.out.bw hb8).cell; have b9l := (HTB.out.bw hb8).lt; have b10 := (HSB.out.bw (HC7.out.trans HC8.out)).cell; have b10l := (HSB.out.bw (HC7.out.trans HC8.out)).lt; have b11 := (HH.out.pf.bw (HB7.out.trans HC8.out)).cell 0; have b11f := (HH.out.pf.bw (HB7.out.trans HC8.out)).free; have b11l := (HH.out.pf.bw (HB7.out.trans HC8.out)).lt; simp only [List.getElem?_toArray, List.getElem?_cons_zero] at b11; clear hb8)
                        | fail)
                      go_roundw
                      case rel => exact ⟨i + 1, by omega, by go_num, HR7.out, HC76.out.trans (HC8.out.trans (by repeat (first | exact Bw.refl _ | apply Bw.alloc | apply Bw.drewN | apply Bw.drew)))⟩
                      case measure => simp [intOf]; omega
                · obtain rfl : i = f.tries.length := by omega
                  have HON3 := hid (show oneM m f s' (s'.row.getD k 0) = runL s' (leads f op a p h (h - e1 + e2)) from by
                    have := HAL.out
                    rw [List.take_length] at this
                    rw [HON2.out, this]; rfl)
                  have hfi := HFT.out
                  have hge1 : 0 ≤ h - e1 ∧ h - e1 + e2 ≤ 256 := by
                    simp only [fitM, Bool.and_eq_true, decide_eq_true_eq] at hfi
                    exact ⟨hfi.1.1, hfi.1.2⟩
                  have HLD := hid (leads_ok (kept := h - e1) HCD.out HPL.out HOP.out HFT.out (.inr trivial) (by have := HEB.out; omega) (show 0 ≤ h ∧ h ≤ 257 from ⟨HH00.out, HHB.out.2⟩))
                  have HAF := hid (show I64 (h - e1 + e2) from by unfold I64; have := HEB.out; omega)
                  obtain ⟨R, hR⟩ : ∃ R, runL s' (leads f op a p h (h - e1 + e2)) = R := ⟨_, rfl⟩
                  have HRR := hid hR
                  have HOKR := hid (show HOk f.code.length R.1 from by rw [← hR]; exact HOk.run _ _ HOK.out HLD.out)
                  have HRW := hid (show s'.row.length ≤ R.1.row.length from by rw [← hR]; exact runL_row _ _)
                  have HRF := hid (show R.2 = true → R.1.f = -1 from fun h9 => by rw [← hR] at h9 ⊢; exact runL_f _ _ HSF.out h9)
                  clear hR hfi hge1 hlt7
                  cases hb9 : R.2
                  · have HB9 := hid hb9
                    have HFE := hid (show F = R.1 from by rw [← HFL.out, HNK.out, flow_no HLT.out (by rw [HON3.out, HRR.out]; exact hb9), HON3.out, HRR.out])
                    clear hb9
                    replace HLEN := hid (show R.1.h.length = f.code.length from HOKR.out.len)
                    go_upto_region 24 with (first
                      | (go_at_call 24; refine (goOn_any ⟨f, .slice a1 f.boxes.length c1, .slice a2 f.caps.length c2, .slice a3 f.code.length c3, .slice a4 f.tries.length c4⟩ p f.code.length op a bb h (h - e1) (h - e1 + e2) (HH.out.bw (HB7.out.trans (by repeat (first | exact Bw.refl _ | apply Bw.alloc | apply Bw.drewN | apply Bw.drew)))) (HAB.out.bw (HBW.out.trans (HB7.out.trans (by repeat (first | exact Bw.refl _ | apply Bw.alloc | apply Bw.drewN | apply Bw.drew))))) HOK.out HN2.out HCD.out.2 HLD.out HAF.out HPL.out).mono ?_; rw [HRR.out]; rintro e w9 ⟨rfl, hh9, hw9⟩; rw [HB9.out]; have HH9 := hid hh9; have HW9 := hid (show Wh (w.heap.size + 1 + 1 + 1) wo w9 from (Wh.of_bw (HB7.out.trans (by repeat (first | exact Bw.refl _ | apply Bw.alloc | apply Bw.drewN | apply Bw.drew)))).trans hw9); have HBW9 := hid (show Bw w w9 from HBW.out.wh HW9.out HBF.out); clear hh9 hw9)
                      | fail)
                    have HSA := hid (HI.same HH9.out)
                    have HLQ := hid (show (R.1).h.length = f.code.length from HLEN.out)
                    have FS := hid (show ∀ w', Bw w9 w' → w'.cell? ⟨(w.heap.size + 1 + 1), 0, none⟩ = some (.slice (some ⟨(w.heap.size + 1 + 1 + 1 + 1), 0, none⟩) f.code.length f.code.length) ∧ w'.cell? ⟨(w.heap.size + 1 + 1 + 1), 0, none⟩ = some (.int .i64 (R.1).f) from fun w' hb => by have h1 := (HH9.out.ph.bw hb).cell 0; have h2 := (HH9.out.pf.bw hb).cell 0; rw [HLQ.out] at h1; exact ⟨h1, h2⟩)
                    have FT2 := hid (show ∀ q : Nat, ((w9.setCell ⟨(w.heap.size + 1 + 1), 0, none⟩ (.slice (some ⟨(w.heap.size + 1 + 1 + 1 + 1), 0, none⟩) f.code.length f.code.length)).drewN q).cell? ⟨(w.heap.size + 1 + 1), 0, none⟩ = some (.slice (some ⟨(w.heap.size + 1 + 1 + 1 + 1), 0, none⟩) f.code.length f.code.length) ∧ ((w9.setCell ⟨(w.heap.size + 1 + 1), 0, none⟩ (.slice (some ⟨(w.heap.size + 1 + 1 + 1 + 1), 0, none⟩) f.code.length f.code.length)).drewN q).cell? ⟨(w.heap.size + 1 + 1 + 1), 0, none⟩ = some (.int .i64 (R.1).f) from fun q => by have h := HSA.out.1; rw [HLQ.out] at h; have h1 := (h.ph.drewN q).cell 0; have h2 := (h.pf.drewN q).cell 0; rw [HLQ.out] at h1; exact ⟨h1, h2⟩)
                    have HSB := hid (show HI ((w9.setCell ⟨(w.heap.size + 1 + 1), 0, none⟩ (.slice (some ⟨(w.heap.size + 1 + 1 + 1 + 1), 0, none⟩) f.code.length f.code.length)).setCell ⟨(w.heap.size + 1 + 1 + 1), 0, none⟩ (.int .i64 (R.1).f)) (w.heap.size + 1 + 1) (w.heap.size + 1 + 1 + 1) (w.heap.size + 1 + 1 + 1 + 1) wm.heap.size (R.1) from by have h := HSA.out.2; rw [HLQ.out] at h; exact h)
                    have FT3 := hid (show ∀ q : Nat, (((w9.setCell ⟨(w.heap.size + 1 + 1), 0, none⟩ (.slice (some ⟨(w.heap.size + 1 + 1 + 1 + 1), 0, none⟩) f.code.length f.code.length)).setCell ⟨(w.heap.size + 1 + 1 + 1), 0, none⟩ (.int .i64 (R.1).f)).drewN q).cell? ⟨(w.heap.size + 1 + 1), 0, none⟩ = some (.slice (some ⟨(w.heap.size + 1 + 1 + 1 + 1), 0, none⟩) f.code.length f.code.length) ∧ (((w9.setCell ⟨(w.heap.size + 1 + 1), 0, none⟩ (.slice (some ⟨(w.heap.size + 1 + 1 + 1 + 1), 0, none⟩) f.code.length f.code.length)).setCell ⟨(w.heap.size + 1 + 1 + 1), 0, none⟩ (.int .i64 (R.1).f)).drewN q).cell? ⟨(w.heap.size + 1 + 1 + 1), 0, none⟩ = some (.int .i64 (R.1).f) from fun q => by have h1 := (HSB.out.ph.drewN q).cell 0; have h2 := (HSB.out.pf.drewN q).cell 0; rw [HLQ.out] at h1; exact ⟨h1, h2⟩)
                    have cA := HH9.out.ph.cell 0
                    have cAf := HH9.out.ph.free
                    have cAl := HH9.out.ph.lt
                    have cB := HH9.out.pf.cell 0
                    have cBf := HH9.out.pf.free
                    have cBl := HH9.out.pf.lt
                    simp only [List.getElem?_toArray, List.getElem?_cons_zero] at cA cB
                    rw [HLQ.out] at cA
                    have FZ := hid (show ∀ q : Nat, HtP w F (.returned (.tuple #[.slice (some ⟨(w.heap.size + 1 + 1 + 1 + 1), 0, none⟩) f.code.length f.code.length, .int .i64 (R.1).f])) (((w9.setCell ⟨(w.heap.size + 1 + 1), 0, none⟩ (.slice (some ⟨(w.heap.size + 1 + 1 + 1 + 1), 0, none⟩) f.code.length f.code.length)).setCell ⟨(w.heap.size + 1 + 1 + 1), 0, none⟩ (.int .i64 (R.1).f)).drewN q) from fun q => by
                      have h9 := HSB.out.out
                      rw [HFE.out]
                      rw [HLQ.out] at h9
                      refine ⟨(Bw.setCell (Bw.setCell HBW9.out (show w.heap.size ≤ (w.heap.size + 1 + 1) by omega) _) (show w.heap.size ≤ (w.heap.size + 1 + 1 + 1) by omega) _).drewN q, some ⟨(w.heap.size + 1 + 1 + 1 + 1), 0, none⟩, f.code.length, ?_, ?_⟩
                      · rw [HLQ.out]
                      · rw [HLQ.out]; exact h9.below (bw_drewN _ _))
                    refine wp_region_W (fun w' => w'.cell? ⟨(w.heap.size + 1 + 1), 0, none⟩ = some (.slice (some ⟨(w.heap.size + 1 + 1 + 1 + 1), 0, none⟩) f.code.length f.code.length) ∧ w'.cell? ⟨(w.heap.size + 1 + 1 + 1), 0, none⟩ = some (.int .i64 (R.1).f)) (fun j => if j == 2 || j == 3 then 0 else 1) (by kernel_rfl) ?_
                    refine wpAnyW_load (i := 0) (oi := { dst := some 81, op := Op.load 33 (Operand.tmp 4), type := 33, pos := "heights.go:62", after := #[], guard := none }) (v := ?_) rfl (by kernel_rfl) (by kernel_rfl) (by kernel_rfl) (by kernel_rfl) (by kernel_rfl) (fun _ _ _ h => h) (Or.inl ⟨by rfl, fun w hS => ?_⟩) (FS.out _ (by repeat (first | exact Bw.refl _ | apply Bw.alloc | apply Bw.drewN | apply Bw.drew))) ?_
                    rotate_left
                    · (obtain ⟨q0, q1⟩ := hS; go_simp; first | done | with_reducible rfl)
                    try simp only [Act.put, List.setIfInBounds_toArray, List.set_cons_zero, List.set_cons_succ]
                    refine wpAnyW_load (i := 1) (oi := { dst := some 82, op := Op.load 3 (Operand.tmp 5), type := 3, pos := "heights.go:62", after := #[], guard := none }) (v := ?_) rfl (by kernel_rfl) (by kernel_rfl) (by kernel_rfl) (by kernel_rfl) (by kernel_rfl) (fun _ _ _ h => h) (Or.inl ⟨by rfl, fun w hS => ?_⟩) (FS.out _ (by repeat (first | exact Bw.refl _ | apply Bw.alloc | apply Bw.drewN | apply Bw.drew))) ?_
                    rotate_left
                    · (obtain ⟨q0, q1⟩ := hS; go_simp; first | done | with_reducible rfl)
                    try simp only [Act.put, List.setIfInBounds_toArray, List.set_cons_zero, List.set_cons_succ]
                    refine wpAnyW_ready (rs := [2]) (by kernel_rfl) (by simp) ?_
                    refine (AllReadyW.cons (o := { dst := none, op := Op.store 33 (Operand.tmp 4) (Operand.tmp 81), type := 0, pos := "heights.go:62", after := #[{ on := 0, ground := Ground.data }, { on := 0, ground := Ground.phase }, { on := 1, ground := Ground.textOnly Departure.inlinedCapture }], guard := none }) rfl (fun K hK => ?_) AllReadyW.nil)
                    go_simp
                    refine hK.out _ _ (FT2.out _) ?_
                    clear hK K
                    try simp only [Act.put, List.setIfInBounds_toArray, List.set_cons_zero, List.set_cons_succ]
                    refine wpAnyW_ready (rs := [3]) (by kernel_rfl) (by simp) ?_
                    refine (AllReadyW.cons (o := { dst := none, op := Op.store 3 (Operand.tmp 5) (Operand.tmp 82), type := 0, pos := "heights.go:62", after := #[{ on := 1, ground := Ground.data }, { on := 2, ground := Ground.chain }, { on := 0, ground := Ground.phase }, { on := 1, ground := Ground.phase }, { on := 2, ground := Ground.phase }], guard := none }) rfl (fun K hK => ?_) AllReadyW.nil)
                    go_simp
                    refine hK.out _ _ (FT3.out _) ?_
                    clear hK K
                    try simp only [Act.put, List.setIfInBounds_toArray, List.set_cons_zero, List.set_cons_succ]
                    refine wpAnyW_done (by kernel_rfl) ?_ _
                    go_wp2
                    all_goals (try rw [Exit.noGoto_ret])
                    all_goals
                      have hq := FT3.out
                      refine bodyPost_ret (v := .tuple #[.slice (some ⟨(w.heap.size + 1 + 1 + 1 + 1), 0, none⟩) f.code.length f.code.length, .int .i64 (R.1).f]) (by simp [results, Tryd.results13, go_sem, hq, cA, cAl, cB, cBl]) rfl ?_
                      exact FZ.out _
                  · have HB9 := hid hb9
                    have HFN := hid (show flow m f (N - (k + 1)) (k + 1) R.1 = F from by rw [← HFL.out, HNK.out, flow_go HLT.out (by rw [HON3.out, HRR.out]; exact hb9), HON3.out, HRR.out])
                    have HRF2 := hid (HRF.out hb9)
                    clear hb9
                    go_wp2_with (first
                      | (go_at_call 24; refine (goOn_any ⟨f, .slice a1 f.boxes.length c1, .slice a2 f.caps.length c2, .slice a3 f.code.length c3, .slice a4 f.tries.length c4⟩ p f.code.length op a bb h (h - e1) (h - e1 + e2) (HH.out.bw (HB7.out.trans (by repeat (first | exact Bw.refl _ | apply Bw.alloc | apply Bw.drewN | apply Bw.drew)))) (HAB.out.bw (HBW.out.trans (HB7.out.trans (by repeat (first | exact Bw.refl _ | apply Bw.alloc | apply Bw.drewN | apply Bw.drew))))) HOK.out HN2.out HCD.out.2 HLD.out HAF.out HPL.out).mono ?_; rw [HRR.out]; rintro e w9 ⟨rfl, hh9, hw9⟩; rw [HB9.out]; have HH9 := hid hh9; have HW9 := hid (show Wh (w.heap.size + 1 + 1 + 1) wo w9 from (Wh.of_bw (HB7.out.trans (by repeat (first | exact Bw.refl _ | apply Bw.alloc | apply Bw.drewN | apply Bw.drew)))).trans hw9); have HBW9 := hid (show Bw w w9 from HBW.out.wh HW9.out HBF.out); clear hh9 hw9)
                      | fail)
                    go_roundw
                    case rel => exact ⟨k + 1, R.1, by go_num, by have := HLT.out; have := HRW.out; omega, HFN.out, HH9.out.bw (by repeat (first | exact Bw.refl _ | apply Bw.alloc | apply Bw.drewN | apply Bw.drew)), HOKR.out, HRF2.out, (HWH.out.trans HW9.out).bw (by repeat (first | exact Bw.refl _ | apply Bw.alloc | apply Bw.drewN | apply Bw.drew))⟩
                    case measure => have := HLT.out; have := HRL.out; simp [intOf]; omega
        · have hge : ¬ (k : Int) < (s'.row.length : Int) := by omega
          have HFE := hid (show F = s' from by rw [← hfl, flow_stop hlt])
          clear hh hok hwh hfl hsf hr1 hr2 hrl
          have HSA := hid (HI.same HH.out)
          have HLQ := hid (show (s').h.length = f.code.length from HLEN.out)
          have FS := hid (show ∀ w', Bw wo w' → w'.cell? ⟨(w.heap.size + 1 + 1), 0, none⟩ = some (.slice (some ⟨(w.heap.size + 1 + 1 + 1 + 1), 0, none⟩) f.code.length f.code.length) ∧ w'.cell? ⟨(w.heap.size + 1 + 1 + 1), 0, none⟩ = some (.int .i64 (s').f) from fun w' hb => by have h1 := (HH.out.ph.bw hb).cell 0; have h2 := (HH.out.pf.bw hb).cell 0; rw [HLQ.out] at h1; exact ⟨h1, h2⟩)
          have FT2 := hid (show ∀ q : Nat, ((wo.setCell ⟨(w.heap.size + 1 + 1), 0, none⟩ (.slice (some ⟨(w.heap.size + 1 + 1 + 1 + 1), 0, none⟩) f.code.length f.code.length)).drewN q).cell? ⟨(w.heap.size + 1 + 1), 0, none⟩ = some (.slice (some ⟨(w.heap.size + 1 + 1 + 1 + 1), 0, none⟩) f.code.length f.code.length) ∧ ((wo.setCell ⟨(w.heap.size + 1 + 1), 0, none⟩ (.slice (some ⟨(w.heap.size + 1 + 1 + 1 + 1), 0, none⟩) f.code.length f.code.length)).drewN q).cell? ⟨(w.heap.size + 1 + 1 + 1), 0, none⟩ = some (.int .i64 (s').f) from fun q => by have h := HSA.out.1; rw [HLQ.out] at h; have h1 := (h.ph.drewN q).cell 0; have h2 := (h.pf.drewN q).cell 0; rw [HLQ.out] at h1; exact ⟨h1, h2⟩)
          have HSB := hid (show HI ((wo.setCell ⟨(w.heap.size + 1 + 1), 0, none⟩ (.slice (some ⟨(w.heap.size + 1 + 1 + 1 + 1), 0, none⟩) f.code.length f.code.length)).setCell ⟨(w.heap.size + 1 + 1 + 1), 0, none⟩ (.int .i64 (s').f)) (w.heap.size + 1 + 1) (w.heap.size + 1 + 1 + 1) (w.heap.size + 1 + 1 + 1 + 1) wm.heap.size (s') from by have h := HSA.out.2; rw [HLQ.out] at h; exact h)
          have FT3 := hid (show ∀ q : Nat, (((wo.setCell ⟨(w.heap.size + 1 + 1), 0, none⟩ (.slice (some ⟨(w.heap.size + 1 + 1 + 1 + 1), 0, none⟩) f.code.length f.code.length)).setCell ⟨(w.heap.size + 1 + 1 + 1), 0, none⟩ (.int .i64 (s').f)).drewN q).cell? ⟨(w.heap.size + 1 + 1), 0, none⟩ = some (.slice (some ⟨(w.heap.size + 1 + 1 + 1 + 1), 0, none⟩) f.code.length f.code.length) ∧ (((wo.setCell ⟨(w.heap.size + 1 + 1), 0, none⟩ (.slice (some ⟨(w.heap.size + 1 + 1 + 1 + 1), 0, none⟩) f.code.length f.code.length)).setCell ⟨(w.heap.size + 1 + 1 + 1), 0, none⟩ (.int .i64 (s').f)).drewN q).cell? ⟨(w.heap.size + 1 + 1 + 1), 0, none⟩ = some (.int .i64 (s').f) from fun q => by have h1 := (HSB.out.ph.drewN q).cell 0; have h2 := (HSB.out.pf.drewN q).cell 0; rw [HLQ.out] at h1; exact ⟨h1, h2⟩)
          have cA := HH.out.ph.cell 0
          have cAf := HH.out.ph.free
          have cAl := HH.out.ph.lt
          have cB := HH.out.pf.cell 0
          have cBf := HH.out.pf.free
          have cBl := HH.out.pf.lt
          simp only [List.getElem?_toArray, List.getElem?_cons_zero] at cA cB
          rw [HLQ.out] at cA
          have FZ := hid (show ∀ q : Nat, HtP w F (.returned (.tuple #[.slice (some ⟨(w.heap.size + 1 + 1 + 1 + 1), 0, none⟩) f.code.length f.code.length, .int .i64 (s').f])) (((wo.setCell ⟨(w.heap.size + 1 + 1), 0, none⟩ (.slice (some ⟨(w.heap.size + 1 + 1 + 1 + 1), 0, none⟩) f.code.length f.code.length)).setCell ⟨(w.heap.size + 1 + 1 + 1), 0, none⟩ (.int .i64 (s').f)).drewN q) from fun q => by
            have h9 := HSB.out.out
            rw [HFE.out]
            rw [HLQ.out] at h9
            refine ⟨(Bw.setCell (Bw.setCell HBW.out (show w.heap.size ≤ (w.heap.size + 1 + 1) by omega) _) (show w.heap.size ≤ (w.heap.size + 1 + 1 + 1) by omega) _).drewN q, some ⟨(w.heap.size + 1 + 1 + 1 + 1), 0, none⟩, f.code.length, ?_, ?_⟩
            · rw [HLQ.out]
            · rw [HLQ.out]; exact h9.below (bw_drewN _ _))
          go_upto_region 24 with fail
          refine wp_region_W (fun w' => w'.cell? ⟨(w.heap.size + 1 + 1), 0, none⟩ = some (.slice (some ⟨(w.heap.size + 1 + 1 + 1 + 1), 0, none⟩) f.code.length f.code.length) ∧ w'.cell? ⟨(w.heap.size + 1 + 1 + 1), 0, none⟩ = some (.int .i64 (s').f)) (fun j => if j == 2 || j == 3 then 0 else 1) (by kernel_rfl) ?_
          refine wpAnyW_load (i := 0) (oi := { dst := some 81, op := Op.load 33 (Operand.tmp 4), type := 33, pos := "heights.go:62", after := #[], guard := none }) (v := ?_) rfl (by kernel_rfl) (by kernel_rfl) (by kernel_rfl) (by kernel_rfl) (by kernel_rfl) (fun _ _ _ h => h) (Or.inl ⟨by rfl, fun w hS => ?_⟩) (FS.out _ (by repeat (first | exact Bw.refl _ | apply Bw.alloc | apply Bw.drewN | apply Bw.drew))) ?_
          rotate_left
          · (obtain ⟨q0, q1⟩ := hS; go_simp; first | done | with_reducible rfl)
          try simp only [Act.put, List.setIfInBounds_toArray, List.set_cons_zero, List.set_cons_succ]
          refine wpAnyW_load (i := 1) (oi := { dst := some 82, op := Op.load 3 (Operand.tmp 5), type := 3, pos := "heights.go:62", after := #[], guard := none }) (v := ?_) rfl (by kernel_rfl) (by kernel_rfl) (by kernel_rfl) (by kernel_rfl) (by kernel_rfl) (fun _ _ _ h => h) (Or.inl ⟨by rfl, fun w hS => ?_⟩) (FS.out _ (by repeat (first | exact Bw.refl _ | apply Bw.alloc | apply Bw.drewN | apply Bw.drew))) ?_
          rotate_left
          · (obtain ⟨q0, q1⟩ := hS; go_simp; first | done | with_reducible rfl)
          try simp only [Act.put, List.setIfInBounds_toArray, List.set_cons_zero, List.set_cons_succ]
          refine wpAnyW_ready (rs := [2]) (by kernel_rfl) (by simp) ?_
          refine (AllReadyW.cons (o := { dst := none, op := Op.store 33 (Operand.tmp 4) (Operand.tmp 81), type := 0, pos := "heights.go:62", after := #[{ on := 0, ground := Ground.data }, { on := 0, ground := Ground.phase }, { on := 1, ground := Ground.textOnly Departure.inlinedCapture }], guard := none }) rfl (fun K hK => ?_) AllReadyW.nil)
          go_simp
          refine hK.out _ _ (FT2.out _) ?_
          clear hK K
          try simp only [Act.put, List.setIfInBounds_toArray, List.set_cons_zero, List.set_cons_succ]
          refine wpAnyW_ready (rs := [3]) (by kernel_rfl) (by simp) ?_
          refine (AllReadyW.cons (o := { dst := none, op := Op.store 3 (Operand.tmp 5) (Operand.tmp 82), type := 0, pos := "heights.go:62", after := #[{ on := 1, ground := Ground.data }, { on := 2, ground := Ground.chain }, { on := 0, ground := Ground.phase }, { on := 1, ground := Ground.phase }, { on := 2, ground := Ground.phase }], guard := none }) rfl (fun K hK => ?_) AllReadyW.nil)
          go_simp
          refine hK.out _ _ (FT3.out _) ?_
          clear hK K
          try simp only [Act.put, List.setIfInBounds_toArray, List.set_cons_zero, List.set_cons_succ]
          refine wpAnyW_done (by kernel_rfl) ?_ _
          go_wp2
          all_goals (try rw [Exit.noGoto_ret])
          all_goals
            have hq := FT3.out
            refine bodyPost_ret (v := .tuple #[.slice (some ⟨(w.heap.size + 1 + 1 + 1 + 1), 0, none⟩) f.code.length f.code.length, .int .i64 (s').f]) (by simp [results, Tryd.results13, go_sem, hq, cA, cAl, cB, cBl]) rfl ?_
            exact FZ.out _

end

end Go.Proofs.YtcljlmjcjfmppaaDoor
