/- The heights, the row and the fault in memory; the function that is handed on: contracts. -/
import Derived.Test.YtcljlmjcjfmppaaDoorVe
set_option linter.unusedSimpArgs false
set_option linter.unusedVariables false
namespace Go.Proofs.YtcljlmjcjfmppaaDoor
open Go Go.RowKit

/-- What a walk over heights may turn: from bf on, rows of numbers and what holds such. -/
structure Wh (bf : Nat) (w w' : World) : Prop where
  os : w'.os = w.os
  tape : w'.tape = w.tape
  output : w'.output = w.output
  size : w.heap.size ≤ w'.heap.size
  block : ∀ k, k < w.heap.size → (k < bf ∨ ∀ cur z, w.heap[k]? ≠ some (.cells cur 3 z) ∧ w.heap[k]? ≠ some (.cells cur 33 z)) → w'.heap[k]? = w.heap[k]?

theorem Wh.refl (bf : Nat) (w : World) : Wh bf w w := ⟨rfl, rfl, rfl, Nat.le_refl _, fun _ _ _ => rfl⟩
theorem Wh.trans {bf : Nat} {a b c : World} (h : Wh bf a b) (g : Wh bf b c) : Wh bf a c :=
  ⟨g.os.trans h.os, g.tape.trans h.tape, g.output.trans h.output, Nat.le_trans h.size g.size, fun k hk hc => by
    have e := h.block k hk hc
    exact (g.block k (Nat.lt_of_lt_of_le hk h.size) (by rw [e]; exact hc)).trans e⟩
theorem Wh.of_bw {bf : Nat} {a b : World} (g : Bw a b) : Wh bf a b := ⟨g.os, g.tape, g.output, g.size, fun k hk _ => g.block k hk⟩
theorem Wh.bw {bf : Nat} {a b c : World} (h : Wh bf a b) (g : Bw b c) : Wh bf a c := h.trans (Wh.of_bw g)
theorem Wh.set {bf : Nat} {a b : World} (h : Wh bf a b) {g j : Nat} {cur : Array Value} {e : TypeId} (hb : Blk b g cur e) (he : e = 3 ∨ e = 33) (hg : bf ≤ g) (v : Value) : Wh bf a (b.setCell ⟨g, j, none⟩ v) :=
  h.trans ⟨rfl, rfl, rfl, by simp [World.setCell], fun k hk hc => Below.heap_setCell b ⟨g, j, none⟩ v k (fun e' => by
    have e'' : k = g := e'
    subst e''
    have hb' : b.heap[k]? = some (.cells cur e (0, 0)) := hb
    rcases hc with hc | hc
    · omega
    · have := hc cur (0, 0)
      rcases he with rfl | rfl
      · exact this.1 hb'
      · exact this.2 hb')⟩
theorem Wh.grown {bf : Nat} {a b c : World} {base n : Nat} {v : Value} {xs : List Value} (h : Wh bf a b) (ho : b.ownsRow base 3 1 v n xs) (hb : bf ≤ base) (g : b.grownBy c v.ownBlock) : Wh bf a c :=
  h.trans ⟨g.os, g.tape, g.output, g.size, fun k hk hc => g.block k hk (fun e => by
    rcases ho.2 with ⟨rfl, _⟩ | ⟨g', cap', cur', rfl, hb', hg', _⟩
    · cases e
    · simp only [Value.ownBlock, Option.some.injEq] at e
      subst e
      rcases hc with hc | hc
      · omega
      · exact (hc cur' (0, 0)).1 hg')⟩
theorem Wh.toBw {bf : Nat} {a b : World} (h : Wh bf a b) (hb : a.heap.size ≤ bf) : Bw a b := ⟨h.os, h.tape, h.output, h.size, fun k hk => h.block k hk (.inl (by omega))⟩
theorem Bw.wh {bf : Nat} {a b c : World} (h : Bw a b) (g : Wh bf b c) (hb : a.heap.size ≤ bf) : Bw a c :=
  ⟨g.os.trans h.os, g.tape.trans h.tape, g.output.trans h.output, Nat.le_trans h.size g.size, fun k hk => (g.block k (Nat.lt_of_lt_of_le hk h.size) (.inl (by omega))).trans (h.block k hk)⟩
theorem Blk.wh {w w' : World} {bf g : Nat} {cur : Array Value} {e : TypeId} (h : Blk w g cur e) (k : Wh bf w w') (h1 : e ≠ 3) (h2 : e ≠ 33) : Blk w' g cur e :=
  h.keep (k.block g h.lt (.inr (fun c z => by
    have h' : w.heap[g]? = some (.cells cur e (0, 0)) := h
    rw [h']
    exact ⟨fun hc => by simp only [Option.some.injEq, Obj.cells.injEq] at hc; exact h1 hc.2.1, fun hc => by simp only [Option.some.injEq, Obj.cells.injEq] at hc; exact h2 hc.2.1⟩)))
theorem RL.wh {α : Type} {w w' : World} {bf : Nat} {v : Value} {k : Nat} {c : α → List Value} {ok : α → Prop} {l : List α} (h : RL w (fun b => b < bf) v k c ok l) (hk : Wh bf w w') : RL w' (fun b => b < bf) v k c ok l :=
  h.keep hk.size (fun b hlt hG => hk.block b hlt (.inl hG)) (fun _ _ g => g)
theorem RFn.wh {w w' : World} {bf : Nat} {x : MFn} (h : RFn w (fun b => b < bf) x) (hk : Wh bf w w') : RFn w' (fun b => b < bf) x :=
  h.keep hk.size (fun b hlt hG => hk.block b hlt (.inl hG)) (fun _ _ g => g)

/-- The heights' list at hb (its slice in bh), the fault in bf, the row in br. -/
structure HI (w : World) (bh bf hb br : Nat) (s : HSt) : Prop where
  ph : Blk w bh #[.slice (some ⟨hb, 0, none⟩) s.h.length s.h.length] 33
  pf : Blk w bf #[.int .i64 s.f] 3
  hs : Blk w hb (s.h.map (Value.int .i64)).toArray 3
  pr : ∃ vr, Blk w br #[vr] 33 ∧ w.ownsRow (br + 1) 3 1 vr s.row.length (s.row.map (Value.int .i64))
  o1 : bh < bf
  o2 : bf < hb
  o3 : hb < br

theorem HI.bw {w w' : World} {bh bf hb br : Nat} {s : HSt} (h : HI w bh bf hb br s) (k : Bw w w') : HI w' bh bf hb br s := by
  obtain ⟨vr, h1, h2⟩ := h.pr
  exact ⟨h.ph.bw k, h.pf.bw k, h.hs.bw k, ⟨vr, h1.bw k, own_bw h2 k⟩, h.o1, h.o2, h.o3⟩

theorem own_oneT (w : World) (x : Value) (T : TypeId) : (w.alloc (.cells #[x] T)).ownsRow w.heap.size T 1 (.slice (some ⟨w.heap.size, 0, none⟩) 1 1) 1 [x] :=
  ⟨rfl, .inr ⟨w.heap.size, 1, #[x], rfl, Nat.le_refl _, heap_alloc_new w _, Nat.le_refl _, by decide, rfl, rfl⟩⟩
theorem Blk.low {w w' : World} {g base n : Nat} {cur : Array Value} {e e' : TypeId} {size : Nat} {v : Value} {xs : List Value} (h : Blk w g cur e) (ho : w.ownsRow base e' size v n xs) (hg : w.grownBy w' v.ownBlock) (hl : g < base) : Blk w' g cur e :=
  h.keep (hg.block g h.lt (fun e => by have := (ho.lt g e.symm).1; omega))
theorem infoI64 : (Tryd.prog.info? 3).map (fun i => (i.zero, i.size, i.bytes)) = some (some (.int .i64 0), 1, 8) := by kernel_rfl
theorem undIs : Tryd.prog.underlying 33 = some (.slice 3) := by kernel_rfl
theorem info_parts2 {e : TypeId} {z : Value} {sz by' : Nat} (h : (Tryd.prog.info? e).map (fun i => (i.zero, i.size, i.bytes)) = some (some z, sz, by')) : ∃ i, Tryd.prog.info? e = some i ∧ i.zero = some z ∧ i.size = sz ∧ i.bytes = by' := by
  cases hi : Tryd.prog.info? e with
  | none => rw [hi] at h; cases h
  | some i => rw [hi] at h; simp at h; exact ⟨i, rfl, h.1, h.2.1, h.2.2⟩
theorem arr_set (l : List Int) (k : Nat) (n : Int) : ((l.map (Value.int .i64)).toArray.setIfInBounds k (.int .i64 n)) = ((l.set k n).map (Value.int .i64)).toArray := by
  simp [List.map_set]

theorem own_lo {w : World} {g base n : Nat} {e : TypeId} {size : Nat} {v : Value} {xs : List Value} (h : w.ownsRow base e size v n xs) (hg : g < base) : v.ownBlock = none ∨ v.ownBlock ≠ some g := by
  cases hv : v.ownBlock with
  | none => exact .inl rfl
  | some k => exact .inr (fun e => by have := (h.lt k hv).1; cases e; omega)
theorem own_set {w : World} {g base n : Nat} {e : TypeId} {size : Nat} {v : Value} {xs : List Value} (h : w.ownsRow base e size v n xs) (hg : g < base) (j : Nat) (u : Value) : (w.setCell ⟨g, j, none⟩ u).ownsRow base e size v n xs :=
  h.kept (row := some g) (grown_set _ _ _ _) (own_lo h hg)

/-- What is handed on. -/
def clo (bh bf br : Nat) : Value := .func (.func 20) #[] #[.pointer (some ⟨bh, 0, none⟩), .pointer (some ⟨br, 0, none⟩), .pointer (some ⟨bf, 0, none⟩)]

section
variable {w w' : World} {bh bf hb br : Nat} {s : HSt}

set_option maxRecDepth 100000 in
set_option maxHeartbeats 2000000 in
theorem reach_any (k : Nat) (n : Int) (h : HI w bh bf hb br s) (hk : k < s.h.length) (hl : s.row.length ≤ 1000000) (hl2 : s.h.length ≤ 1000000) :
    Calls Tryd.prog 20 #[.int .i64 k, .int .i64 n, .pointer (some ⟨bh, 0, none⟩), .pointer (some ⟨br, 0, none⟩), .pointer (some ⟨bf, 0, none⟩)] w fun e w' => e = .returned (.bool ((reachM s k n).f == -1)) ∧ HI w' bh bf hb br (reachM s k n) ∧ Wh bf w w' := by
  have HH := hid h
  have z1 := h.ph.cell 0
  have z1l := h.ph.lt
  have z2 := h.pf.cell 0
  have z2f := h.pf.free
  have z2l := h.pf.lt
  have z3l := h.hs.lt
  have z3f := h.hs.free
  have z3 : w.cell? ⟨hb, k, none⟩ = some (.int .i64 (s.h.getD k 0)) := by
    rw [h.hs.cell k]
    simp [List.getD_eq_getElem?_getD, hk]
  simp only [List.getElem?_toArray, List.getElem?_cons_zero] at z1 z2
  have hk2 : (k : Int) < (s.h.length : Int) := by omega
  have HHK := hid hk
  have ho := And.intro h.o1 (And.intro h.o2 h.o3)
  have HHO := hid ho
  have hn1 : bh ≠ hb := by omega
  have hn2 : bf ≠ hb := by omega
  have hn3 : br ≠ hb := by omega
  unfold reachM
  rw [Int.toNat_natCast]
  obtain ⟨x, hx⟩ : ∃ x, s.h.getD k 0 = x := ⟨_, rfl⟩
  rw [hx] at z3 ⊢
  by_cases h0 : x = -1
  · rw [if_pos h0]
    have hb0 : (x == -1) = true := by simp [h0]
    obtain ⟨vr, hr1, hr2⟩ := h.pr
    have HR1 := hid hr1
    have HR2 := hid hr2
    have y := hr1.cell 0
    have yf := hr1.free
    have yl := hr1.lt
    simp only [List.getElem?_toArray, List.getElem?_cons_zero] at y
    obtain ⟨ar, cr, er⟩ := own_form hr2
    subst er
    have HLR := hid hl
    have hcl : (n == n) = true := by simp
    obtain ⟨i1, hi1, hz1, hs1, hy1⟩ := info_parts2 infoI64
    have I1 := hid (And.intro hi1 (And.intro hz1 (And.intro hs1 hy1)))
    have HS := hid (h.hs.set k (.int .i64 n))
    have HOA := hid (show ((w.setCell ⟨hb, k, none⟩ (.int .i64 n)).alloc (.cells #[.int .i64 k] 3)).ownsRow (br + 1) 3 1 (.slice ar s.row.length cr) s.row.length (s.row.map (Value.int .i64)) from (own_set hr2 (by omega) k _).alloc _)
    have HNS := hid (show ((w.setCell ⟨hb, k, none⟩ (.int .i64 n)).alloc (.cells #[.int .i64 k] 3)).ownsRow w.heap.size 3 1 (.slice (some ⟨w.heap.size, 0, none⟩) 1 1) 1 [.int .i64 k] from by have := own_oneT (w.setCell ⟨hb, k, none⟩ (.int .i64 n)) (.int .i64 k) 3; simpa only [World.size_setCell] using this)
    have hm1 : br ≠ bh := by omega
    have hm2 : br ≠ bf := by omega
    clear hr1 hr2 h hi1 hz1 hs1 hy1 ho hl hl2 hx h0
    go_enter Tryd.func20, Tryd.ntmps20
    go_wp2_with (first
      | (at_builtin; refine wpList_append_sl (G := fun _ => True) _ rfl _ _ 33 rfl (br + 1) 3 i1 (.int .i64 0) 1 8 undIs I1.out.1 I1.out.2.1 I1.out.2.2.1 I1.out.2.2.2 rfl (by decide) (.slice ar s.row.length cr) s.row.length (s.row.map (Value.int .i64)) rfl HOA.out (.slice (some ⟨w.heap.size, 0, none⟩) 1 1) 1 [.int .i64 k] rfl (own_sl HNS.out (fun _ _ => trivial)) (by intro u hu; simp at hu; subst hu; rfl) (by have := HLR.out; unfold maxLen; omega) (by have := HLR.out; omega) (by simp only [World.size_alloc, World.size_setCell]; omega) ?_)
      | fail)
    intro v3 w3 hown hgr
    obtain ⟨av, cv, ev⟩ := own_form hown
    subst ev
    have o1 := HHO.out.1
    have o2 := HHO.out.2.1
    have o3 := HHO.out.2.2
    have b1 := ((HH.out.ph.other (p := ⟨hb, k, none⟩) (by simp only; omega) (.int .i64 n)).alloc (.cells #[.int .i64 k] 3)).low HOA.out hgr (by omega)
    have b2 := ((HH.out.pf.other (p := ⟨hb, k, none⟩) (by simp only; omega) (.int .i64 n)).alloc (.cells #[.int .i64 k] 3)).low HOA.out hgr (by omega)
    have b3 := (HS.out.alloc (.cells #[.int .i64 k] 3)).low HOA.out hgr (by omega)
    have b4 := ((HR1.out.other (p := ⟨hb, k, none⟩) (by simp only; omega) (.int .i64 n)).alloc (.cells #[.int .i64 k] 3)).low HOA.out hgr (by omega)
    have HW := hid (((((Wh.refl bf w).set (j := k) HH.out.hs (.inl rfl) (by omega) (.int .i64 n)).bw (Bw.alloc (Bw.refl _) (.cells #[.int .i64 k] 3))).grown HOA.out (by omega) hgr).set (j := 0) b4 (.inr rfl) (by omega) (.slice av (s.row.length + 1) cv))
    have HFIN := hid (show HI (w3.setCell ⟨br, 0, none⟩ (.slice av (s.row.length + 1) cv)) bh bf hb br { s with h := s.h.set k n, row := s.row ++ [(k : Int)] } from
      ⟨by simpa using b1.other (p := ⟨br, 0, none⟩) (by simp only; omega) (.slice av (s.row.length + 1) cv), b2.other (p := ⟨br, 0, none⟩) (by simp only; omega) _, by rw [← arr_set]; exact b3.other (p := ⟨br, 0, none⟩) (by simp only; omega) _,
        ⟨.slice av (s.row.length + 1) cv, by simpa using b4.set 0 (.slice av (s.row.length + 1) cv), by simpa using own_set hown (show br < br + 1 by omega) 0 (.slice av (s.row.length + 1) cv)⟩, o1, o2, o3⟩)
    have q1 := b1.cell 0
    have q1l := b1.lt
    have q2 := b2.cell 0
    have q2l := b2.lt
    have q3 : w3.cell? ⟨hb, k, none⟩ = some (.int .i64 n) := by
      rw [b3.cell k, arr_set]
      simp [HHK.out]
    have q3l := b3.lt
    have q4 := b4.cell 0
    have q4f := b4.free
    have q4l := b4.lt
    simp only [List.getElem?_toArray, List.getElem?_cons_zero] at q1 q2 q4
    have hcn : (n != n) = false := by simp
    clear hown hgr b1 b2 b3 b4 z1 z2 z3 z1l z2l z3l z2f z3f y yf yl
    go_wp2
    all_goals go_ret
    all_goals exact ⟨rfl, HFIN.out, HW.out⟩
  · have hb0 : (x == -1) = false := by simp [h0]
    rw [if_neg h0]
    by_cases h1 : x = n
    · rw [if_pos h1]
      have hb1 : (x != n) = false := by simp [h1]
      clear h1 h0 hx h ho
      go_enter Tryd.func20, Tryd.ntmps20
      go_wp2
      all_goals go_ret
      all_goals exact ⟨rfl, HH.out, Wh.refl _ _⟩
    · rw [if_neg h1]
      have hb1 : (x != n) = true := by simp [h1]
      have HFIN := hid (show HI (w.setCell ⟨bf, 0, none⟩ (.int .i64 k)) bh bf hb br { s with f := (k : Int) } from by
        obtain ⟨vr, hr1, hr2⟩ := h.pr
        exact ⟨h.ph.other (p := ⟨bf, 0, none⟩) (by simp only; omega) _, by simpa using h.pf.set 0 (.int .i64 k), h.hs.other (p := ⟨bf, 0, none⟩) (by simp only; omega) _, ⟨vr, hr1.other (p := ⟨bf, 0, none⟩) (by simp only; omega) _, own_set hr2 (by omega) 0 _⟩, h.o1, h.o2, h.o3⟩)
      have HW := hid ((Wh.refl bf w).set (j := 0) h.pf (.inl rfl) (Nat.le_refl _) (.int .i64 k))
      have hk9 : ((k : Int) == -1) = false := by simp
      clear h1 h0 hx h ho
      go_enter Tryd.func20, Tryd.ntmps20
      go_wp2
      all_goals go_ret
      all_goals exact ⟨by simp [hk9], HFIN.out, HW.out⟩

end

end Go.Proofs.YtcljlmjcjfmppaaDoor
