/- Things: what their calls promise; a thing's parts. · A part whose row came of a row that was read; of two parts. -/
import Derived.Test.YtlcieebneclmpaaDoorK4
set_option linter.unusedSimpArgs false
set_option linter.unusedVariables false
namespace Go.Proofs.YtlcieebneclmpaaDoor
open Go Go.RowKit

/-- What comes of a call that reads a thing. -/
def GotT (B : World) (r g cap : Nat) (T : List ATok) (ex : Nat → Value) (o : Nat) (w : World) (R : Res) (e : Ending) (w' : World) : Prop :=
  match R with
  | .ok x c i => ∃ b, e = .returned (.tuple #[.pointer (some ⟨b, 0, none⟩), .bool c]) ∧ PtM w' (Fp w No w') x b ∧ RI B w' r g cap T ex i o ∧ Kp r w w'
  | .bad n a => e = .panicked (fltV n a) ∧ Kp r w w'
  | .out => True

def RdT (B : World) (r g cap : Nat) (T : List ATok) (ex : Nat → Value) (f : Nat) : Prop :=
  ∀ w i o, RI B w r g cap T ex i o → o ≤ 64 → pP T f .thing i o ≠ .out → Calls Tryd.prog 74 #[.pointer (some ⟨r, 0, none⟩)] w (GotT B r g cap T ex o w (pP T f .thing i o))

section
variable {B w W W' : World} {S : Nat → Prop} {r g cap : Nat} {T : List ATok} {ex : Nat → Value} {i o : Nat} {Ps : List (Prt × Nat)}

/-- A part's own row. -/
theorem SI.kids (h : SI B w S W r g cap T ex i o Ps) {x : Prt} {b : Nat} (hx : (x, b) ∈ Ps) :
    ∃ av cv, W.cell? ⟨b, 5, none⟩ = some (.slice av x.kids.length cv) ∧ b < W.heap.size ∧ b ≠ r ∧ ∀ W', Kp r W W' → ∃ bs, RowM W' (Fp w S W') (.slice av x.kids.length cv) bs ∧ PtsM W' (Fp w S W') x.kids bs := by
  have hp := h.ps _ hx
  obtain ⟨v, _, _, h5, hl, bs, hr, hk⟩ := hp.at
  obtain ⟨av, cv, e⟩ := own_form hr.1
  rw [hk.len] at e
  subst e
  refine ⟨av, cv, h5, hl, ?_, fun W' k => ⟨bs, hr.keep (fun n hn hl => k.block n hl (h.ne hn).1) (fun n hn _ => hn.mono k.size), PtsM.keep (fun n hn hl => k.block n hl (h.ne hn).1) (fun n hn _ => hn.mono k.size) _ _ hk⟩⟩
  have : Fp w S W b := by
    cases x
    exact hp.1
  exact (h.ne this).1

theorem SI.only (h : SI B w S W r g cap T ex i o Ps) {x : Prt} {b : Nat} (hx : (x, b) ∈ Ps) : SI B w S W r g cap T ex i o [(x, b)] :=
  ⟨h.ri, h.kp, fun p hp => by rw [List.mem_singleton.1 hp]; exact h.ps _ hx, h.hs, h.r0⟩

theorem one_own {w1 w2 : World} {b : Nat} (hk : Kp r (w1.alloc (.cells #[.pointer (some ⟨b, 0, none⟩)] 57)) w2) (hr : r < w1.heap.size) : w2.ownsRow w1.heap.size 57 1 (.slice (some ⟨w1.heap.size, 0, none⟩) 1 1) 1 [.pointer (some ⟨b, 0, none⟩)] :=
  ⟨rfl, .inr ⟨w1.heap.size, 1, #[.pointer (some ⟨b, 0, none⟩)], rfl, Nat.le_refl _, (Blk.new w1 #[.pointer (some ⟨b, 0, none⟩)] 57).kp hk (by omega), Nat.le_refl _, by simp [maxLen], rfl, rfl⟩⟩

theorem ptrs_one (bs : List Nat) : ∀ u ∈ (bs.map fun b => Value.pointer (some ⟨b, 0, none⟩)), u.oneCell' = true := by
  intro u hu
  obtain ⟨b, _, rfl⟩ := List.mem_map.1 hu
  rfl

theorem SI.setNew (h : SI B w No W r g cap T ex i o []) (hB : B.heap.size ≤ w.heap.size) {b j : Nat} (hb : w.heap.size ≤ b) (v : Value) : SI B w No (W.setCell ⟨b, j, none⟩ v) r g cap T ex i o [] :=
  ⟨h.ri.other (by have := h.r0; omega) (Nat.le_trans hB hb) v, h.kp.setNew hb j v, fun p hp => absurd hp (by simp), h.hs, h.r0⟩

/-- A thing and what it is called with, in one row. -/
theorem SI.callRow (h : SI B w No W r g cap T ex i o Ps) {x : Prt} {b : Nat} (hx : (x, b) ∈ Ps) {w2 w3 : World} {v v' : Value} {ks : List Prt} {bs : List Nat}
    (hk : Kp r (W.alloc (.cells #[.pointer (some ⟨b, 0, none⟩)] 57)) w2)
    (hrw : PtsM w2 (fun n => (W.alloc (.cells #[.pointer (some ⟨b, 0, none⟩)] 57)).heap.size ≤ n ∧ n < w2.heap.size ∧ v.ownBlock ≠ some n) ks bs)
    (ho : w3.ownsRow W.heap.size 57 1 v' (1 + ks.length) ([.pointer (some ⟨b, 0, none⟩)] ++ bs.map fun b => .pointer (some ⟨b, 0, none⟩))) (hg : w2.grownBy w3 (some W.heap.size)) :
    RowM w3 (Fp w No w3) v' (b :: bs) ∧ PtsM w3 (Fp w No w3) (x :: ks) (b :: bs) := by
  have hb := Bw.alloc (Bw.refl W) (.cells #[.pointer (some ⟨b, 0, none⟩)] 57)
  have hs : (W.alloc (.cells #[.pointer (some ⟨b, 0, none⟩)] 57)).heap.size = W.heap.size + 1 := by simp
  have hw := h.kp.size
  refine ⟨⟨?_, fun k hk' => .inr ⟨Nat.le_trans hw (ho.lt k hk').1, (ho.lt k hk').2⟩⟩, b, bs, rfl, ?_, ?_⟩
  · have e := hrw.len
    have := own_base ho (Nat.zero_le _)
    rw [show 1 + ks.length = (b :: bs).length by simp; omega] at this
    simpa using this
  · refine PtM.keep (S := Fp w No W) (fun n hn hl => ?_) (fun n hn hl => ?_) _ _ (h.ps _ hx)
    · have h1 := hb.block n hl
      have h2 := hk.block n (Nat.lt_of_lt_of_le hl hb.size) (h.ne hn).1
      have h3 := hg.block n (Nat.lt_of_lt_of_le (Nat.lt_of_lt_of_le hl hb.size) hk.size) (fun e => by injection e with e; omega)
      exact h3.trans (h2.trans h1)
    · exact hn.mono (Nat.le_trans hb.size (Nat.le_trans hk.size hg.size))
  · refine PtsM.keep (fun n hn hl => hg.block n hl (fun e => by injection e with e; omega)) (fun n hn hl => .inr ⟨by omega, Nat.lt_of_lt_of_le hl hg.size⟩) _ _ hrw

end

end Go.Proofs.YtlcieebneclmpaaDoor

set_option linter.unusedSimpArgs false
set_option linter.unusedVariables false
namespace Go.Proofs.YtlcieebneclmpaaDoor
open Go Go.RowKit

theorem XI.body {w0 w w2 : World} {b : Nat} {k : Int} {x : List Int} {a : Int} {v : Value} {ks : List Prt} (n : Int) (hrw : RwI w w2 v ks) (hbk : Blk w2 b (prtC k x 0 a (.slice none 0 0)) 83) (h0 : w0.heap.size ≤ b) (hb : b < w.heap.size) (hw : w0.heap.size ≤ w.heap.size) :
    XI w0 ((w2.setCell ⟨b, 5, none⟩ v).setCell ⟨b, 3, none⟩ (.int .i64 n)) b k x n a v ks := by
  obtain ⟨bs, h1, h2⟩ := hrw
  have e : ∀ q, q ≠ b → ((w2.setCell ⟨b, 5, none⟩ v).setCell ⟨b, 3, none⟩ (.int .i64 n)).heap[q]? = w2.heap[q]? := fun q hq => (Below.heap_setCell _ ⟨b, 3, none⟩ _ q hq).trans (Below.heap_setCell _ ⟨b, 5, none⟩ _ q hq)
  have hs : ((w2.setCell ⟨b, 5, none⟩ v).setCell ⟨b, 3, none⟩ (.int .i64 n)).heap.size = w2.heap.size := by simp [World.setCell]
  refine ⟨h0, ?_, bs, ?_, ?_⟩
  · have := (hbk.set 5 v).set 3 (.int .i64 n)
    simpa [prtC] using this
  · refine own_raise (own_keep (own_base h1 (Nat.zero_le _)) (fun q hq => e q (by have := (h1.lt q hq).1; omega))) (fun q hq => Nat.le_trans hw (h1.lt q hq).1)
  · exact PtsM.keep (fun q hq _ => e q (by omega)) (fun q hq _ => ⟨Nat.le_trans hw hq.1, by rw [hs]; exact hq.2.1, hq.2.2, by omega⟩) _ _ h2

theorem XI.of2 {B w W w3 : World} {r g cap : Nat} {T : List ATok} {ex : Nat → Value} {i o : Nat} {Ps : List (Prt × Nat)} {x y : Prt} {b c b3 : Nat} {k a : Int} (h : SI B w No W r g cap T ex i o Ps) (hx : (x, b) ∈ Ps) (hy : (y, c) ∈ Ps)
    (hb : Bw (W.alloc (.cells #[.pointer (some ⟨b, 0, none⟩), .pointer (some ⟨c, 0, none⟩)] 57)) w3) (hn : (W.alloc (.cells #[.pointer (some ⟨b, 0, none⟩), .pointer (some ⟨c, 0, none⟩)] 57)).heap.size ≤ b3)
    (hk : Blk w3 b3 (prtC k [] 0 a (.slice (some ⟨W.heap.size, 0, none⟩) 2 2)) 83) : XI w w3 b3 k [] 0 a (.slice (some ⟨W.heap.size, 0, none⟩) 2 2) [x, y] := by
  have hb0 := Bw.alloc (Bw.refl W) (.cells #[.pointer (some ⟨b, 0, none⟩), .pointer (some ⟨c, 0, none⟩)] 57)
  have hs : (W.alloc (.cells #[.pointer (some ⟨b, 0, none⟩), .pointer (some ⟨c, 0, none⟩)] 57)).heap.size = W.heap.size + 1 := by simp
  have hw := h.kp.size
  have hbl : W.heap.size < w3.heap.size := by have := hb.size; omega
  refine ⟨by omega, hk, [b, c], ⟨rfl, .inr ⟨W.heap.size, 2, _, rfl, hw, (Blk.new W #[.pointer (some ⟨b, 0, none⟩), .pointer (some ⟨c, 0, none⟩)] 57).bw hb, Nat.le_refl _, by simp [maxLen], rfl, rfl⟩⟩, b, [c], rfl, ?_, c, [], rfl, ?_, rfl⟩
  · refine PtM.keep (S := Fp w No W) (fun n hn hl => (hb.block n (by omega)).trans (hb0.block n hl)) (fun n hn hl => ?_) _ _ (h.ps _ hx)
    rcases hn with hn | hn
    · exact False.elim hn
    · exact ⟨hn.1, by omega, fun e => by have e9 : W.heap.size = n := Option.some.inj e; omega, by omega⟩
  · refine PtM.keep (S := Fp w No W) (fun n hn hl => (hb.block n (by omega)).trans (hb0.block n hl)) (fun n hn hl => ?_) _ _ (h.ps _ hy)
    rcases hn with hn | hn
    · exact False.elim hn
    · exact ⟨hn.1, by omega, fun e => by have e9 : W.heap.size = n := Option.some.inj e; omega, by omega⟩

/-- A row that was read since W, in what is new since w. -/
theorem SI.rowUp {B w W W' : World} {r g cap : Nat} {T : List ATok} {ex : Nat → Value} {i o : Nat} {Ps : List (Prt × Nat)} {v : Value} {ks : List Prt} {bs : List Nat} (h : SI B w No W r g cap T ex i o Ps) (hk : Kp r W W') (h1 : RowM W' (Fp W No W') v bs) (h2 : PtsM W' (Fp W No W') ks bs) : RowM W' (Fp w No W') v bs ∧ PtsM W' (Fp w No W') ks bs := by
  have e : ∀ n, Fp W No W' n → n < W'.heap.size → Fp w No W' n := fun n hn hl => hn.elim (fun q => False.elim q) (fun q => .inr ⟨Nat.le_trans h.kp.size q.1, q.2⟩)
  exact ⟨h1.keep (fun _ _ _ => rfl) e, PtsM.keep (fun _ _ _ => rfl) e _ _ h2⟩

/-- What the call that reads a function's names and block promises: w0: the world ahead of its part. -/
def RdB (B : World) (r g cap : Nat) (T : List ATok) (ex : Nat → Value) (f : Nat) : Prop :=
  ∀ (w0 w : World) (i o b : Nat) (kind : Int) (text : List Int) (at_ : Int), SI B w0 No w r g cap T ex i o [] → Blk w b (prtC kind text 0 at_ (.slice none 0 0)) 83 → w0.heap.size ≤ b → B.heap.size ≤ w0.heap.size → o ≤ 64 → pP T f (.body kind text at_) i o ≠ .out →
    Calls Tryd.prog 83 #[.pointer (some ⟨r, 0, none⟩), .pointer (some ⟨b, 0, none⟩)] w (Got B r g cap T ex o No w0 (pP T f (.body kind text at_) i o))

end Go.Proofs.YtlcieebneclmpaaDoor

