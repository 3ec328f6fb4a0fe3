/- A part whose row came of a row that was read; of two parts. -/
import Derived.Test.YthkiddohjilfhaaDoorK6
set_option linter.unusedSimpArgs false
set_option linter.unusedVariables false
namespace Go.Proofs.YthkiddohjilfhaaDoor
open Go Go.RowKit

theorem XI.body {w0 w w2 : World} {b : Nat} {k : Int} {x : List Int} {a : Int} {v : Value} {ks : List Prt} (n : Int) (hrw : RwI w w2 v ks) (hbk : Blk w2 b (prtC k x 0 a (.slice none 0 0)) 84) (h0 : w0.heap.size ≤ b) (hb : b < w.heap.size) (hw : w0.heap.size ≤ w.heap.size) :
    XI w0 ((w2.setCell ⟨b, 5, none⟩ v).setCell ⟨b, 3, none⟩ (.int .i64 n)) b k x n a v ks := by
  obtain ⟨bs, h1, h2⟩ := hrw
  have e : ∀ q, q ≠ b → ((w2.setCell ⟨b, 5, none⟩ v).setCell ⟨b, 3, none⟩ (.int .i64 n)).heap[q]? = w2.heap[q]? := fun q hq => (Below.heap_setCell _ ⟨b, 3, none⟩ _ q hq).trans (Below.heap_setCell _ ⟨b, 5, none⟩ _ q hq)
  have hs : ((w2.setCell ⟨b, 5, none⟩ v).setCell ⟨b, 3, none⟩ (.int .i64 n)).heap.size = w2.heap.size := by simp [World.setCell]
  refine ⟨h0, ?_, bs, ?_, ?_⟩
  · have := (hbk.set 5 v).set 3 (.int .i64 n)
    simpa [prtC] using this
  · refine own_raise (own_keep (own_base h1 (Nat.zero_le _)) (fun q hq => e q (by have := (h1.lt q hq).1; omega))) (fun q hq => Nat.le_trans hw (h1.lt q hq).1)
  · exact PtsM.keep (fun q hq _ => e q (by omega)) (fun q hq _ => ⟨Nat.le_trans hw hq.1, by rw [hs]; exact hq.2.1, hq.2.2, by omega⟩) _ _ h2

theorem XI.of2 {B w W w3 : World} {r g cap : Nat} {T : List ATok} {ex : Nat → Value} {i o : Nat} {Ps : List (Prt × Nat)} {x y : Prt} {b c b3 : Nat} {k a : Int} (h : SI B w No W r g cap T ex i o Ps) (hx : (x, b) ∈ Ps) (hy : (y, c) ∈ Ps)
    (hb : Bw (W.alloc (.cells #[.pointer (some ⟨b, 0, none⟩), .pointer (some ⟨c, 0, none⟩)] 58)) w3) (hn : (W.alloc (.cells #[.pointer (some ⟨b, 0, none⟩), .pointer (some ⟨c, 0, none⟩)] 58)).heap.size ≤ b3)
    (hk : Blk w3 b3 (prtC k [] 0 a (.slice (some ⟨W.heap.size, 0, none⟩) 2 2)) 84) : XI w w3 b3 k [] 0 a (.slice (some ⟨W.heap.size, 0, none⟩) 2 2) [x, y] := by
  have hb0 := Bw.alloc (Bw.refl W) (.cells #[.pointer (some ⟨b, 0, none⟩), .pointer (some ⟨c, 0, none⟩)] 58)
  have hs : (W.alloc (.cells #[.pointer (some ⟨b, 0, none⟩), .pointer (some ⟨c, 0, none⟩)] 58)).heap.size = W.heap.size + 1 := by simp
  have hw := h.kp.size
  have hbl : W.heap.size < w3.heap.size := by have := hb.size; omega
  refine ⟨by omega, hk, [b, c], ⟨rfl, .inr ⟨W.heap.size, 2, _, rfl, hw, (Blk.new W #[.pointer (some ⟨b, 0, none⟩), .pointer (some ⟨c, 0, none⟩)] 58).bw hb, Nat.le_refl _, by simp [maxLen], rfl, rfl⟩⟩, b, [c], rfl, ?_, c, [], rfl, ?_, rfl⟩
  · refine PtM.keep (S := Fp w No W) (fun n hn hl => (hb.block n (by omega)).trans (hb0.block n hl)) (fun n hn hl => ?_) _ _ (h.ps _ hx)
    rcases hn with hn | hn
    · exact False.elim hn
    · exact ⟨hn.1, by omega, fun e => by have e9 : W.heap.size = n := Option.some.inj e; omega, by omega⟩
  · refine PtM.keep (S := Fp w No W) (fun n hn hl => (hb.block n (by omega)).trans (hb0.block n hl)) (fun n hn hl => ?_) _ _ (h.ps _ hy)
    rcases hn with hn | hn
    · exact False.elim hn
    · exact ⟨hn.1, by omega, fun e => by have e9 : W.heap.size = n := Option.some.inj e; omega, by omega⟩

/-- A row that was read since W, in what is new since w. -/
theorem SI.rowUp {B w W W' : World} {r g cap : Nat} {T : List ATok} {ex : Nat → Value} {i o : Nat} {Ps : List (Prt × Nat)} {v : Value} {ks : List Prt} {bs : List Nat} (h : SI B w No W r g cap T ex i o Ps) (hk : Kp r W W') (h1 : RowM W' (Fp W No W') v bs) (h2 : PtsM W' (Fp W No W') ks bs) : RowM W' (Fp w No W') v bs ∧ PtsM W' (Fp w No W') ks bs := by
  have e : ∀ n, Fp W No W' n → n < W'.heap.size → Fp w No W' n := fun n hn hl => hn.elim (fun q => False.elim q) (fun q => .inr ⟨Nat.le_trans h.kp.size q.1, q.2⟩)
  exact ⟨h1.keep (fun _ _ _ => rfl) e, PtsM.keep (fun _ _ _ => rfl) e _ _ h2⟩

/-- What the call that reads a function's names and block promises: w0: the world ahead of its part. -/
def RdB (B : World) (r g cap : Nat) (T : List ATok) (ex : Nat → Value) (f : Nat) : Prop :=
  ∀ (w0 w : World) (i o b : Nat) (kind : Int) (text : List Int) (at_ : Int), SI B w0 No w r g cap T ex i o [] → Blk w b (prtC kind text 0 at_ (.slice none 0 0)) 84 → w0.heap.size ≤ b → B.heap.size ≤ w0.heap.size → o ≤ 64 → pP T f (.body kind text at_) i o ≠ .out →
    Calls Tryd.prog 83 #[.pointer (some ⟨r, 0, none⟩), .pointer (some ⟨b, 0, none⟩)] w (Got B r g cap T ex o No w0 (pP T f (.body kind text at_) i o))

end Go.Proofs.YthkiddohjilfhaaDoor

