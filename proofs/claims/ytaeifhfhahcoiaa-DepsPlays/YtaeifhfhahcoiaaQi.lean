/- DepsPlays: what stands between its calls. -/
import Derived.Test.YtaeifhfhahcoiaaQh
set_option linter.unusedSimpArgs false
set_option linter.unusedVariables false
namespace Go.Proofs.Ytaeifhfhahcoiaa
open Go Go.RowKit

/-- Both registries, and the box with the document's. -/
structure PX (w wr : World) (p : Nat) (bs : List Nat) (F G : Nat) (rv : Value) (L : List (VV × Value)) (v : Value) (LR : List (VV × Value)) (k B : Nat) : Prop where
  pw : PW w wr p bs F G rv L v LR k (fun b => b ≠ B)
  box : Blk wr B #[.int .i64 F, .int .i64 G, v] 31
  nB : B ∉ bs
  hB : w.heap.size ≤ B

section
variable {w wr w' : World} {p F G k B : Nat} {bs bs' : List Nat} {rv rv' v v' : Value} {L L' LR LR' : List (VV × Value)}
theorem PX.on (h : PX w wr p bs F G rv L v LR k B) (hb : Bw wr w') : PX w w' p bs F G rv L v LR k B := ⟨h.pw.on hb, h.box.bw hb, h.nB, h.hB⟩
theorem PX.made {w1 : World} (hm : MS w w1 p [p] F G (.slice none 0 0) [] 0) : PX w (w1.alloc (.cells #[.int .i64 F, .int .i64 G, .slice none 0 0] 31)) p [p] F G (.slice none 0 0) [] (.slice none 0 0) [] 0 w1.heap.size :=
  ⟨⟨hm.on (Bw.alloc (Bw.refl _) _), Good.nil F, RS.nil _ _, fun b hb => by simp at hb; omega, rfl⟩, Blk.new _ _ _, fun h => by have := hm.ds.lt _ h; omega, hm.bw.size⟩
/-- A step, and the box is written. -/
theorem PX.step {w1 w2 X : World} (h : PX w wr p bs F G rv L v LR k B) (hw : PW w w1 p bs' F G rv' L' v' LR' (k + 1) (fun b => b ≠ B)) (hn : Nx bs wr w1 bs') (h2 : Bw w1 w2) (hx : Ex [B] w2 X) (hb : Blk X B #[.int .i64 F, .int .i64 G, v'] 31) : PX w X p bs' F G rv' L' v' LR' (k + 1) B := by
  have hnB := hn.notin h.box.lt h.nB
  refine ⟨⟨(hw.ms.on h2).exOut h.hB hnB hx, hw.good, (hw.rs.bw h2).keep hx.size (fun b hlt hg => hx.block b hlt (by simpa using hg.2)) (fun _ _ g => g), fun b hb2 => by have := hb.lt; omega, hw.eq⟩, hb, hnB, h.hB⟩
/-- The same, beside a box that was made ahead. -/
theorem PW.two (h : PW w wr p bs F G rv L v LR k (fun b => b ≠ B)) (hb : Bw wr w') {N : Nat} (hN : wr.heap.size ≤ N) (hN2 : N < w'.heap.size) : PW w w' p bs F G rv L v LR k (fun b => b ≠ B ∧ b ≠ N) :=
  ⟨h.ms.on hb, h.good, (h.rs.keep hb.size (fun b hlt _ => hb.block b hlt) (fun b hlt hg => ⟨hg.1, hg.2, by omega⟩)), fun b hb2 => ⟨h.lB b (by have := hb.size; omega), by omega⟩, h.eq⟩
theorem PW.one {X : World} {N : Nat} (h : PW w wr p bs F G rv L v LR k (fun b => b ≠ B ∧ b ≠ N)) (hx : Ex [N] wr X) (hw : w.heap.size ≤ N) (hn : N ∉ bs) : PW w X p bs F G rv L v LR k (fun b => b ≠ B) :=
  ⟨h.ms.exOut hw hn hx, h.good, h.rs.keep hx.size (fun b hlt hg => hx.block b hlt (by simpa using hg.2.2)) (fun b _ hg => ⟨hg.1, hg.2.1⟩), fun b hb2 => (h.lB b (Nat.le_trans hx.size hb2)).1, h.eq⟩
theorem PX.valid (h : PX w wr p bs F G rv L v LR k B) {n : Nat} (hn : n < LR.length) : validL (L.map Prod.fst) n = LR[n].1.ok := by
  have hl : LR.length = L.length := by have := congrArg List.length h.pw.eq; simpa using this
  have h2 : n < L.length := by omega
  have hk : LR[n].1 = L[n].1 := by
    have := congrArg (·[n]?) h.pw.eq
    simp only [List.getElem?_map, List.getElem?_eq_getElem hn, List.getElem?_eq_getElem h2, Option.map_some, Option.some.injEq] at this
    exact this
  rw [validL_nat (by simpa using h2), hk]
  simp
theorem PX.few (h : PX w wr p bs F G rv L v LR k B) : LR.length ≤ k := by
  have hl : LR.length = L.length := by have := congrArg List.length h.pw.eq; simpa using this
  have := h.pw.ms.len
  omega
end

end Go.Proofs.Ytaeifhfhahcoiaa
