/- The resolver: enter, leave. -/
import Derived.Test.YtdhkcdehedbpcaaDoorM25
import Derived.Test.YtdhkcdehedbpcaaDoorM10
import Derived.Carry
import Derived.Maps.RangeWalk
import Derived.Defers
set_option linter.unusedSimpArgs false
set_option linter.unusedVariables false
namespace Go.Proofs.YtdhkcdehedbpcaaDoor
open Go Go.RowKit
section
variable {w : World} {X : ZX} {z : ZS} {B : ZB}
theorem MS.mapTurned {w w' : World} {a b n : Nat} {M : ByteArray → Option Int} (h : MS w b M n) (ht : w.mapTurned w' a) (hne : b ≠ a) : MS w' b M n := h.keep (ht.grown.block b h.lt (fun e => hne (by cases e; rfl)))

/-- What a map from texts to numbers makes of an entry that is written. -/
theorem MS.store {w : World} {b n : Nat} {M : ByteArray → Option Int} (h : MS w b M n) {t : ByteArray} (ht : t.size ≤ maxLen) (hn : n ≤ 1000000) (x : Int) (hx : (Lit.int .i64 x).wf = true) : ∃ w', (Instr.mapUpdate 77 (.map (some b)) (.string t) (.int .i64 x)).run Tryd.prog w = .ok () w' ∧ MS w' b (mput M t x) (n + 1) ∧ w.mapTurned w' b := by
  obtain ⟨D, h1, h2⟩ := h
  obtain ⟨w', r1, r2, r3⟩ := h1.store key9 underMs (by unfold maxLen; omega) (key_lit ht) (plainElem_int int3 hx)
  exact ⟨w', r1, ⟨_, r2, h2.put t x⟩, r3⟩

theorem RS.shown {w1 : World} {m M1 : ByteArray → Option Int} (h : RS w X z B) (hnm : z.names = some m) (ht : w.mapTurned w1 B.nb) (hm : MS w1 B.nb M1 (z.nc + 1)) {t : ByteArray} (hts : t.size ≤ maxLen) (hc : z.cnt < 100000 ∧ z.nc < 100000) (d : Int) (hd : 0 ≤ d ∧ d ≤ 100000) :
    ∃ w2, (Instr.mapUpdate 77 (.map (some B.sb)) (.string t) (.int .i64 d)).run Tryd.prog w1.drew = .ok () w2 ∧ RS w2 X { z with names := some M1, seen := mput z.seen t d, cnt := z.cnt + 1, nc := z.nc + 1 } B ∧ NX B.ρ w w2 B.ρ ∧ w1.cell? ⟨X.r, 10, none⟩ = some (.map (some B.sb)) ∧ X.r < w1.heap.size := by
  obtain ⟨A0, N0⟩ := h.nam hnm ht hm (by omega)
  have A1 := A0.bw (Bw.drew (Bw.refl w1))
  have N1 := N0.bw (Bw.drew (Bw.refl w1))
  obtain ⟨w2, r2, M2, T2⟩ := (A1.x.seen (by decide)).1.store hts (by simp only; omega) d (WalkArith.wf_i64 (by omega))
  obtain ⟨A2, N2⟩ := A1.see T2 M2 (by simp only; omega)
  exact ⟨w2, r2, A2, N1.trans N2, A0.blk.cell 10, A0.blk.lt⟩

set_option maxRecDepth 100000 in
set_option maxHeartbeats 4000000 in
theorem show_any (h : RS w X z B) (i : Nat) (hi : i < X.L.length) (y : ZS) (hy : zshow X.L z i = some y) : Calls Tryd.prog 93 #[.pointer (some ⟨X.r, 0, none⟩), .int .i64 i] w fun e' w' => e' = .returned (.tuple #[]) ∧ RS w' X y B ∧ NX B.ρ w w' B.ρ := by
  obtain ⟨ub, uc, u, hu1, hue, c6, u0, u1, hul, huf, huρ, hune⟩ := h.us hi
  obtain ⟨ct, htm⟩ := h.x.nc.1.text hi
  have cn : w.cell? ⟨X.r, 3, none⟩ = some (.slice (some ⟨X.g, X.o, none⟩) X.L.length X.cap) := h.blk.cell 3
  have c10 : w.cell? ⟨X.r, 10, none⟩ = some (.map (some B.sb)) := h.blk.cell 10
  have hf := h.blk.free
  have hl := h.blk.lt
  have gl := h.x.nc.1.lt
  have hi2 : (i : Int) < (X.L.length : Int) := by omega
  unfold zshow at hy
  rw [hu1] at hy
  simp only at hy
  obtain ⟨a, d⟩ := u
  simp only at hy u0 u1
  by_cases h1 : a = 1
  · subst h1
    rw [if_neg (by simp)] at hy
    cases hnm : z.names with
    | none => rw [hnm] at hy; cases hy
    | some m =>
      rw [hnm] at hy
      simp only at hy
      by_cases hc : (z.cnt < 100000 ∧ z.nc < 100000) ∧ 0 ≤ d ∧ d ≤ 100000
      case neg => rw [if_neg hc] at hy; cases hy
      rw [if_pos hc] at hy
      cases hy
      have c0 : w.cell? ⟨X.r, 0, none⟩ = some (.map (some B.nb)) := by
        have := h.blk.cell 0
        rw [this]
        show some (Value.map (nmO z.names B.nb)) = _
        rw [hnm]; rfl
      obtain ⟨hm1, hr1⟩ := h.x.nams (by decide) m hnm
      have A0 := hid (h.bw (Bw.alloc (Bw.refl w) (.cells #[.int .i64 1, .int .i64 d] 57)))
      obtain ⟨D1, ho1, hd1⟩ := (A0.out.x.nams (by decide) m hnm).1
      obtain ⟨D2, ho2, hd2⟩ := (A0.out.x.seen (by decide)).1
      have HO1 := hid ho1
      have HO2 := hid ho2
      have HD1 := hid hd1
      have HD2 := hid hd2
      have HK := hid (key_lit htm)
      have HTM := hid htm
      have HNL := hid hm1.lt
      have HC := hid hc
      have HNM := hid hnm
      generalize zT X.L i = t at ct HK HTM ⊢
      clear h hu1 hue huρ hune htm hnm hm1 hr1 ho1 ho2 hd1 hd2 hc
      cases hs : z.seen t with
      | none =>
        have hhas : Maps.has D2 (.string t.data.toList) = false := by rw [HD2.out.has, hs]; rfl
        clear hs
        go_enter Tryd.func93, Tryd.ntmps93
        go_upto_region 7 with (first
          | (at_lookup; refine wpList_lookup_own_ok_int _ rfl _ _ 77 rfl 9 3 .i64 key9 underMs int3 (zero3 _) B.sb z.cnt D2 rfl HO2.out _ _ rfl HK.out ?_; intro c1 hat hwc; rw [hhas]; clear hat hwc)
          | (at_mapUpdate; refine wpList_mapUpdate_in _ rfl _ _ _ 77 rfl 9 3 key9 underMs _ B.nb z.nc D1 rfl HO1.out (by have := HC.out; unfold maxLen; omega) _ _ _ rfl rfl HK.out _ [] (plainElem_int int3 (WalkArith.wf_i64 (by omega))) ?_; intro w1 hown1 hturn1; have T1 := hid hturn1; have O1 := hid hown1; clear hown1 hturn1)
          | fail)
        obtain ⟨w2, r2, A2, N2, q10, q1⟩ := A0.out.shown HNM.out T1.out ⟨_, O1.out, HD1.out.put t (-1)⟩ HTM.out HC.out.1 d HC.out.2
        have q4 : w1.cell? ⟨w.heap.size, 1, none⟩ = some (.int .i64 d) := ((Blk.new w #[.int .i64 1, .int .i64 d] 57).keep (T1.out.grown.block _ (by simp) (fun e => by have := HNL.out; have := Option.some.inj e; omega))).cell 1
        have AA := hid A2
        have NN := hid ((NX.of_bw B.ρ (Bw.alloc (Bw.refl w) _)).trans N2)
        clear A2 N2
        go_region
        all_goals go_end0
        all_goals exact ⟨rfl, AA.out, NN.out⟩
      | some x =>
        have hhas : Maps.has D2 (.string t.data.toList) = true := by rw [HD2.out.has, hs]; rfl
        have HS := hid hs
        clear hs
        go_enter Tryd.func93, Tryd.ntmps93
        go_upto_region 7 with (first
          | (at_lookup; refine wpList_lookup_own_ok_int _ rfl _ _ 77 rfl 9 3 .i64 key9 underMs int3 (zero3 _) B.sb z.cnt D2 rfl HO2.out _ _ rfl HK.out ?_; intro c1 hat hwc; rw [hhas]; have HW := hid hwc; have HX := hid (show c1 = x by have h2 := HD2.out.at_ t x HS.out; rw [h2] at hat; cases hat; rfl); clear hat hwc)
          | (at_mapUpdate; refine wpList_mapUpdate_in _ rfl _ _ _ 77 rfl 9 3 key9 underMs _ B.nb z.nc D1 rfl HO1.out (by have := HC.out; unfold maxLen; omega) _ _ _ rfl rfl HK.out _ [] (plainElem_int int3 HW.out) ?_; intro w1 hown1 hturn1; have T1 := hid hturn1; have O1 := hid hown1; clear hown1 hturn1)
          | fail)
        obtain ⟨w2, r2, A2, N2, q10, q1⟩ := A0.out.shown HNM.out T1.out ⟨_, O1.out, HD1.out.put t c1⟩ HTM.out HC.out.1 d HC.out.2
        have q4 : w1.cell? ⟨w.heap.size, 1, none⟩ = some (.int .i64 d) := ((Blk.new w #[.int .i64 1, .int .i64 d] 57).keep (T1.out.grown.block _ (by simp) (fun e => by have := HNL.out; have := Option.some.inj e; omega))).cell 1
        have AA := hid A2
        have NN := hid ((NX.of_bw B.ρ (Bw.alloc (Bw.refl w) _)).trans N2)
        clear A2 N2
        go_region
        all_goals go_end0
        all_goals exact ⟨rfl, HX.out ▸ AA.out, NN.out⟩
  · rw [if_pos h1] at hy
    cases hy
    have A0 := hid (h.bw (Bw.alloc (Bw.refl w) (.cells #[.int .i64 a, .int .i64 d] 57)))
    have NN := hid (NX.of_bw B.ρ (Bw.alloc (Bw.refl w) (.cells #[.int .i64 a, .int .i64 d] 57)))
    have e1 : (a != 1) = true := by simpa using h1
    clear h hu1 hue huρ hune htm h1
    go_enter Tryd.func93, Tryd.ntmps93
    go_wp2
    all_goals refine bodyPost_ret (v := .tuple #[]) (by simp [results, Tryd.results93, go_sem]) rfl ?_
    all_goals exact ⟨rfl, A0.out, NN.out⟩
end
end Go.Proofs.YtdhkcdehedbpcaaDoor

set_option linter.unusedSimpArgs false
set_option linter.unusedVariables false
namespace Go.Proofs.YtdhkcdehedbpcaaDoor
open Go Go.RowKit
section
variable {w : World} {X : ZX} {z : ZS} {B : ZB}

/-- The roles behind an entry into a node that may declare: nb is the new map. -/
def entρ (names : Option (ByteArray → Option Int)) (old nb : Nat) (ρ : Nat → Nat) : Nat → Nat := fun b => if b = nb then 7 else if names.isSome = true ∧ b = old then 0 else ρ b

/-- What is kept for the way back. -/
def Bk (w : World) (X : ZX) (z : ZS) (nb : Nat) (ρ : Nat → Nat) : Prop := (∀ m, z.names = some m → MS w nb m z.nc ∧ ρ nb = 0 ∧ nb ≠ X.g ∧ nb ≠ X.ab ∧ nb ≠ 0) ∧ z.nc ≤ 100000

theorem RS.entered (h : RS w X z B) (g : Nat) (n : Int) {W : World} (hW : W = (w.alloc (.map #[] 0))) :
    RS (((W.setCell ⟨X.r, 0, none⟩ (.map (some w.heap.size))).setCell ⟨X.r, 1, none⟩ (.int .i64 g)).setCell ⟨X.r, 2, none⟩ (.int .i64 n)) X (zenter z g n) { B with nb := w.heap.size, ρ := entρ z.names B.nb w.heap.size B.ρ } ∧
    NX B.ρ w (((W.setCell ⟨X.r, 0, none⟩ (.map (some w.heap.size))).setCell ⟨X.r, 1, none⟩ (.int .i64 g)).setCell ⟨X.r, 2, none⟩ (.int .i64 n)) (entρ z.names B.nb w.heap.size B.ρ) ∧
    Bk (((W.setCell ⟨X.r, 0, none⟩ (.map (some w.heap.size))).setCell ⟨X.r, 1, none⟩ (.int .i64 g)).setCell ⟨X.r, 2, none⟩ (.int .i64 n)) X z B.nb (entρ z.names B.nb w.heap.size B.ρ) := by
  have hb : Bw w W := by rw [hW]; exact Bw.alloc (Bw.refl w) _
  have hsz : W.heap.size = w.heap.size + 1 := by rw [hW]; simp
  have hM : MS W w.heap.size (fun _ => none) 0 := by rw [hW]; exact MS.new w
  have hH := h.x.bw hb
  have hB := h.blk.bw hb
  have hlt := h.x.rl
  -- roles of what is not names
  have hnew : ∀ {b : Nat}, b < w.heap.size → B.ρ b ≠ 7 → entρ z.names B.nb w.heap.size B.ρ b = B.ρ b := by
    intro b hb1 h7
    unfold entρ
    rw [if_neg (by omega)]
    split
    · rename_i e
      obtain ⟨e1, e2⟩ := e
      cases hn : z.names with
      | none => rw [hn] at e1; cases e1
      | some m => exact absurd (e2 ▸ (h.x.nams (by decide) m hn).2) h7
    · rfl
  have row : ∀ {j e size k : Nat} {v : Value} {xs : List Value}, W.ownsRow 0 e size v k xs ∧ (∀ b, v.ownBlock = some b → B.ρ b = j) → w.ownsRow 0 e size v k xs → j ≠ 7 → W.ownsRow 0 e size v k xs ∧ (∀ b, v.ownBlock = some b → entρ z.names B.nb w.heap.size B.ρ b = j) := by
    intro j e size k v xs h1 h0 hj
    exact ⟨h1.1, fun b hb => by rw [hnew (h0.lt b hb).2 (by rw [h1.2 b hb]; exact hj)]; exact h1.2 b hb⟩
  have hx : RX 1 W X (zenter z g n) { B with nb := w.heap.size, ρ := entρ z.names B.nb w.heap.size B.ρ } := by
    refine ⟨(hnew hlt (by rw [h.x.rr]; decide)).trans h.x.rr, by omega, fun e => row (hH.funs (by decide)) (h.x.funs (by decide)).1 (by decide), fun e => row (hH.uses (by decide)) (h.x.uses (by decide)).1 (by decide), fun e => row (hH.globs (by decide)) (h.x.globs (by decide)).1 (by decide), fun e => row (hH.decl (by decide)) (h.x.decl (by decide)).1 (by decide), fun _ => ?_, fun _ m e => ?_, fun i q hq e => row (hH.caps i q hq (by omega)) (h.x.caps i q hq (by omega)).1 (by omega), hH.map0, fun i q hq hi e => ?_, ⟨hH.nc.1, (hnew h.x.nc.1.lt (by rw [h.x.nc.2]; decide)).trans h.x.nc.2⟩, ⟨hH.ah.1, (hnew h.x.ah.1.lt (by rw [h.x.ah.2]; decide)).trans h.x.ah.2⟩, ⟨hH.pr.1, (hnew h.x.pr.1.1 (by rw [h.x.pr.2]; decide)).trans h.x.pr.2⟩, fun b hb2 => ?_, hH.kf, hH.ul, hH.nl, hH.ll, ⟨hH.bd.1, hH.bd.2.1, hH.bd.2.2.1, hH.bd.2.2.2.1, Nat.zero_le _⟩, hH.bf⟩
    · exact ⟨(hH.seen (by decide)).1, (hnew (h.x.seen (by decide)).1.lt (by rw [(h.x.seen (by decide)).2]; decide)).trans (h.x.seen (by decide)).2⟩
    · cases e
      exact ⟨hM, by simp [entρ]⟩
    · obtain ⟨b, h1, h2, h3⟩ := hH.maps i q hq hi (by omega)
      obtain ⟨b', h1', h2', h3'⟩ := h.x.maps i q hq hi (by omega)
      rw [h1] at h1'
      cases h1'
      exact ⟨b, h1, h2, (hnew h2'.lt (by rw [h3]; omega)).trans h3⟩
    · show entρ z.names B.nb w.heap.size B.ρ b = 0
      unfold entρ
      rw [if_neg (by omega)]
      split
      · rfl
      · exact h.x.top b (by omega)
  refine ⟨⟨((hB.set 0 _).set 1 _).set 2 _, ((hx.setR 0 _).setR 1 _).setR 2 _⟩, ?_, ?_⟩
  · have hr : entρ z.names B.nb w.heap.size B.ρ X.r ≠ 0 := by rw [hnew hlt (by rw [h.x.rr]; decide), h.x.rr]; decide
    refine NX.set (NX.set (NX.set ?_ hr 0 _) hr 1 _) hr 2 _
    refine ⟨hb.os, hb.tape, hb.output, hb.size, fun b hb1 _ => hb.block b hb1, fun b hb1 h0 => ?_⟩
    unfold entρ
    rw [if_neg (by omega)]
    split
    · rfl
    · exact h0
  · refine ⟨fun m hm => ?_, h.x.bd.2.2.2.2⟩
    obtain ⟨h1, h2⟩ := h.x.nams (by decide) m hm
    have hne : B.nb ≠ X.r := fun e => by rw [e, h.x.rr] at h2; cases h2
    refine ⟨h1.keep ?_, ?_, ?_, ?_, ?_⟩
    rotate_left 2
    · exact fun e => by rw [e, h.x.nc.2] at h2; cases h2
    · exact fun e => by rw [e, h.x.ah.2] at h2; cases h2
    · exact fun e => by rw [e, h.x.pr.2] at h2; cases h2
    · rw [Below.heap_setCell _ _ _ _ hne, Below.heap_setCell _ _ _ _ hne, Below.heap_setCell _ _ _ _ hne]
      exact hb.block _ h1.lt
    · have := h1.lt
      unfold entρ
      rw [if_neg (by omega), if_pos ⟨by rw [hm]; rfl, rfl⟩]

end
end Go.Proofs.YtdhkcdehedbpcaaDoor

