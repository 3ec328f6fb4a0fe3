/- What serves the statements: a list of the statement's own beside the heap; heaps of one array. -/
import Derived.Test.YtajnpdiepiinjaaGreatDoorPQ
import Derived.Test.YtajnpdiepiinjaaGreatDoorPU
import Derived.Test.YtajnpdiepiinjaaGreatDoorRS
import Derived.BigQuiet
set_option linter.unusedSimpArgs false
set_option linter.unusedVariables false
namespace Go.Proofs.YtajnpdiepiinjaaGreatDoor
open Go Go.RowKit

/-- The list o, made behind the world w0, says l; none of the blocks bs is its own. -/
def InRow (w0 wr : World) (bs : List Nat) (o : Value) (l : List Int) : Prop :=
  wr.ownsRow 0 27 1 o l.length (l.map (Value.int .u64)) ∧ ∀ b, o.ownBlock = some b → w0.heap.size ≤ b ∧ b ∉ bs

theorem InRow.nx {w0 wr w' : World} {bs bs' : List Nat} {o : Value} {l : List Int} (h : InRow w0 wr bs o l) (hn : Nx bs wr w' bs') : InRow w0 w' bs' o l :=
  ⟨own_same h.1 (fun k hk => hn.1.block k (own_lt h.1 hk) (h.2 k hk).2), fun b hb => ⟨(h.2 b hb).1, fun hm => (hn.2 b hm).elim (h.2 b hb).2 (fun hh => by have := own_lt h.1 hb; omega)⟩⟩

theorem InRow.bw {w0 wr w' : World} {bs : List Nat} {o : Value} {l : List Int} (h : InRow w0 wr bs o l) (hb : Bw wr w') : InRow w0 w' bs o l :=
  h.nx (hb.nx bs)

theorem HS.grown {w w' : World} {b0 : Nat} {H : AHeap} {bs : List Nat} {row : Option Nat} (h : HS w b0 H bs) (hg : w.grownBy w' row) (hr : ∀ k, row = some k → k ∉ bs) : HS w' b0 H bs := by
  obtain ⟨vo, t, h, rfl⟩ := h
  exact ⟨vo, t, h.same (fun k hk => hg.block k (h.lt hk) (fun e => hr k e.symm hk)), rfl⟩

theorem InRow.grown {w0 w w' : World} {bs : List Nat} {o v' : Value} {l l' : List Int} (h : InRow w0 w bs o l) (hb : Bw w0 w) (hlt : ∀ b ∈ bs, b < w.heap.size)
    (how : w'.ownsRow 0 27 1 v' l'.length (l'.map (Value.int .u64))) (hvb : v'.ownBlock = o.ownBlock ∨ ∀ k, v'.ownBlock = some k → w.heap.size ≤ k) : InRow w0 w' bs v' l' := by
  refine ⟨how, fun b e => ?_⟩
  rcases hvb with hv | hv
  · exact h.2 b (hv ▸ e)
  · exact ⟨Nat.le_trans hb.size (hv b e), fun hm => by have := hlt b hm; have := hv b e; omega⟩

theorem InRow.bwGrown {w0 w w' : World} {bs : List Nat} {o : Value} {l : List Int} (h : InRow w0 w bs o l) (hb : Bw w0 w) (hg : w.grownBy w' o.ownBlock) : Bw w0 w' :=
  Below.grown hb hg hb.size (fun k hk => (h.2 k hk).1)

theorem InRow.sl {w0 wr : World} {bs : List Nat} {o : Value} {l : List Int} (h : InRow w0 wr bs o l) : Sl wr (fun _ => True) o l.length 1 (l.map (Value.int .u64)) := own_sl h.1 (fun _ _ => trivial)

theorem InRow.nil (w0 wr : World) (bs : List Nat) : InRow w0 wr bs (.slice none 0 0) [] := ⟨World.ownsRow_nil wr _ _ _, fun b e => by cases e⟩

theorem kd2 : kd 2 = 2 := by decide

theorem idx2 : idxV 2 = 0 := by decide

theorem kk_one (n : Int) (L : List Int) : kk (n, [oArr L]) 2 = 2 := by simp [kk, kd2, idx2, oArr, AObj.kind]

theorem ob_one (n : Int) (L : List Int) : ob (n, [oArr L]) 2 = oArr L := by simp [ob, idx2]

theorem oArr_vals (L : List Int) : (oArr L).vals = L := rfl

theorem withVals_arr (L M : List Int) : withVals (oArr L) M = oArr M := rfl

theorem pushE_one (n : Int) (L : List Int) (x : Int) (hL : L.length ≤ 400) : aPushE (n, [oArr L]) 2 x = if gd 1 x = true then 0 else 1 := by
  have : L.length ≠ 65536 := by omega
  simp [aPushE, kk_one, ob_one, oArr_vals, this]

theorem pushH_one (n : Int) (L : List Int) (x : Int) (hL : L.length ≤ 400) : aPushH (n, [oArr L]) 2 x = (n, [oArr (if gd 1 x = true then L ++ [x] else L)]) := by
  have h6 : L.length ≠ 65536 := by omega
  cases hg : gd 1 x <;> simp [aPushH, kk_one, ob_one, oArr_vals, h6, hg, idx2, withVals_arr]

theorem popE_one (n : Int) (L : List Int) (x : Int) : aPopE (n, [oArr (L ++ [x])]) 2 = 0 := by
  simp [aPopE, kk_one, ob_one, oArr_vals]

theorem popV_one (n : Int) (L : List Int) (x : Int) : aPopV (n, [oArr (L ++ [x])]) 2 = x := by
  simp [aPopV, kk_one, ob_one, oArr_vals]

theorem popH_one (n : Int) (L : List Int) (x : Int) : aPopH (n, [oArr (L ++ [x])]) 2 = (n, [oArr L]) := by
  simp [aPopH, kk_one, ob_one, oArr_vals, idx2, withVals_arr]

theorem make9 (l : List Int) (h : l.length ≤ 400) : aMakeE (9, []) (oArr l) = if pSound 0 (oArr l) = true then 0 else 1 := by
  have hp : pLong (oArr l) = false := by
    show decide ((65536 : Int) < (l.length : Int)) = false
    exact decide_eq_false (by omega)
  unfold aMakeE
  rw [hp]
  cases hs : pSound 0 (oArr l)
  · simp [hs]
  · simp [hs]

theorem good_one {b0 : Nat} {n : Int} {o : AObj} {bs : List Nat} (v : Int) (hU : U v) (w : World) (h : HS w b0 (n, [o]) bs) :
    Calls Tryz.prog 30 #[.pointer (some ⟨b0, 0, none⟩), .int .u64 v] w fun e w' => e = .returned (.bool (gd 1 v)) ∧ w' = w := good_hs v hU w h

theorem take_filter (l : List Int) (k : Nat) (h : k < l.length) (p : Int → Bool) : (l.take (k + 1)).filter p = (l.take k).filter p ++ (if p l[k] = true then [l[k]] else []) := by
  rw [List.take_succ_eq_append_getElem h, List.filter_append]
  cases hp : p l[k] <;> simp [hp]

theorem cell_bw {w w' : World} (h : Bw w w') {b o : Nat} (hb : b < w.heap.size) : w'.cell? ⟨b, o, none⟩ = w.cell? ⟨b, o, none⟩ :=
  World.cell?_of_block (a := ⟨b, o, none⟩) (h.block b hb)

end Go.Proofs.YtajnpdiepiinjaaGreatDoor
