/- How a new part comes of those that are there; what reading calls promise. -/
import Derived.Test.YthkiddohjilfhaaDoorPqk
set_option linter.unusedSimpArgs false
set_option linter.unusedVariables false
namespace Go.Proofs.YthkiddohjilfhaaDoor
open Go Go.RowKit

section
variable {B w W W' : World} {S : Nat → Prop} {r g cap : Nat} {T : List ATok} {ex : Nat → Value} {i o : Nat} {Ps : List (Prt × Nat)}

theorem SI.fin (h : SI B w S W r g cap T ex i o Ps) (hb : Bw W W') {x : Prt} {b : Nat} (hp : PtM W' (Fp W (Fp w S W) W') x b) : PtM W' (Fp w S W') x b ∧ RI B W' r g cap T ex i o ∧ Kp r w W' := by
  refine ⟨PtM.keep (fun _ _ _ => rfl) (fun n hn _ => ?_) _ _ hp, h.ri.bw hb, h.kp.bw hb⟩
  rcases hn with hn | hn
  · exact hn.mono hb.size
  · exact .inr ⟨Nat.le_trans h.kp.size hn.1, hn.2⟩

theorem SI.put (h : SI B w S W r g cap T ex i o Ps) (hb : Bw W W') {x : Prt} {b : Nat} (hp : PtM W' (Fp W (Fp w S W) W') x b) : SI B w S W' r g cap T ex i o ((x, b) :: Ps) := by
  have h1 := h.bw hb
  refine ⟨h1.ri, h1.kp, fun p hm => ?_, h1.hs, h1.r0⟩
  rcases List.mem_cons.1 hm with rfl | hm
  · exact (h.fin hb hp).1
  · exact h1.ps p hm

theorem SI.outp (h : SI B w S W r g cap T ex i o Ps) {x : Prt} {b : Nat} (hx : (x, b) ∈ Ps) : PtM W (Fp w S W) x b ∧ RI B W r g cap T ex i o ∧ Kp r w W := ⟨h.ps _ hx, h.ri, h.kp⟩

/-- A part that comes of one that was there, and of new ones. -/
theorem SI.turn (h : SI B w S W r g cap T ex i o Ps) {i' o' : Nat} (hr : RI B W' r g cap T ex i' o') (hk : Kp r W W') {x : Prt} {b : Nat} (hp : PtM W' (Fp W (Fp w S W) W') x b) : SI B w S W' r g cap T ex i' o' [(x, b)] := by
  refine ⟨hr, h.kp.trans hk, fun p hm => ?_, h.hs, h.r0⟩
  rw [List.mem_singleton.1 hm]
  refine PtM.keep (fun _ _ _ => rfl) (fun n hn _ => ?_) _ _ hp
  rcases hn with hn | hn
  · exact hn.mono hk.size
  · exact .inr ⟨Nat.le_trans h.kp.size hn.1, hn.2⟩

theorem SI.row1 (h : SI B w S W r g cap T ex i o Ps) {x : Prt} {b : Nat} (hx : (x, b) ∈ Ps) :
    RowM (W.alloc (.cells #[.pointer (some ⟨b, 0, none⟩)] 58)) (Fp w S (W.alloc (.cells #[.pointer (some ⟨b, 0, none⟩)] 58))) (.slice (some ⟨W.heap.size, 0, none⟩) 1 1) [b] ∧
    PtsM (W.alloc (.cells #[.pointer (some ⟨b, 0, none⟩)] 58)) (Fp w S (W.alloc (.cells #[.pointer (some ⟨b, 0, none⟩)] 58))) [x] [b] := by
  have h1 := h.bw (Bw.alloc (Bw.refl W) (.cells #[.pointer (some ⟨b, 0, none⟩)] 58))
  exact ⟨RowM.new W _ [b] (by simp [maxLen]) (.inr ⟨h.kp.size, by simp⟩), b, [], rfl, h1.ps _ hx, rfl⟩

theorem SI.row2 (h : SI B w S W r g cap T ex i o Ps) {x y : Prt} {b c : Nat} (hx : (x, b) ∈ Ps) (hy : (y, c) ∈ Ps) :
    RowM (W.alloc (.cells #[.pointer (some ⟨b, 0, none⟩), .pointer (some ⟨c, 0, none⟩)] 58)) (Fp w S (W.alloc (.cells #[.pointer (some ⟨b, 0, none⟩), .pointer (some ⟨c, 0, none⟩)] 58))) (.slice (some ⟨W.heap.size, 0, none⟩) 2 2) [b, c] ∧
    PtsM (W.alloc (.cells #[.pointer (some ⟨b, 0, none⟩), .pointer (some ⟨c, 0, none⟩)] 58)) (Fp w S (W.alloc (.cells #[.pointer (some ⟨b, 0, none⟩), .pointer (some ⟨c, 0, none⟩)] 58))) [x, y] [b, c] := by
  have h1 := h.bw (Bw.alloc (Bw.refl W) (.cells #[.pointer (some ⟨b, 0, none⟩), .pointer (some ⟨c, 0, none⟩)] 58))
  exact ⟨RowM.new W _ [b, c] (by simp [maxLen]) (.inr ⟨h.kp.size, by simp⟩), b, [c], rfl, h1.ps _ hx, c, [], rfl, h1.ps _ hy, rfl⟩

theorem PtM.at {x : Prt} {b : Nat} (hp : PtM W S x b) : ∃ v, W.cell? ⟨b, 4, none⟩ = some (.int .i64 x.at_) ∧ W.cell? ⟨b, 0, none⟩ = some (.int .i64 x.kind) ∧ W.cell? ⟨b, 5, none⟩ = some v ∧ b < W.heap.size ∧ ∃ bs, RowM W S v bs ∧ PtsM W S x.kids bs := by
  cases x with
  | mk k t n a ks =>
    obtain ⟨_, v, bs, h2, h3, h4⟩ := hp
    exact ⟨v, h2.cell 4, h2.cell 0, h2.cell 5, h2.lt, bs, h3, h4⟩

end

/-- Which token is next. -/
def nxt (w : World) (r : Nat) : Nat := match w.cell? ⟨r, 1, none⟩ with | some (.int _ n) => n.toNat | _ => 0

theorem RI.nx {B w : World} {r g cap : Nat} {T : List ATok} {ex : Nat → Value} {i o : Nat} (h : RI B w r g cap T ex i o) : nxt w r = i := by
  unfold nxt
  rw [h.k.cell 1]
  simp

theorem isO_ne {T : List ATok} {i : Nat} {l : List ByteArray} (h : isO T i l = true) : (tk T i).1 ≠ 0 := by
  obtain ⟨s, _, hs⟩ := List.any_eq_true.1 h
  exact isT_ne hs

/-- What a function that reads promises, at so many steps. -/
def RdP (B : World) (r g cap : Nat) (T : List ATok) (ex : Nat → Value) (f fn : Nat) (args : Array Value) (nt : Nt) : Prop :=
  ∀ w i o, RI B w r g cap T ex i o → o ≤ 64 → pP T f nt i o ≠ .out → Calls Tryd.prog fn args w (Got B r g cap T ex o No w (pP T f nt i o))

end Go.Proofs.YthkiddohjilfhaaDoor

