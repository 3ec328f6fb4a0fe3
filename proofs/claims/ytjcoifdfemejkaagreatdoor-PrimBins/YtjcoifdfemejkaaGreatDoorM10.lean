/- The program's objects, written to: a record's field: the contracts. · The document's arrays, one entry less: the contract. · The document's records, a field put: the contract. -/
import Derived.Test.YtjcoifdfemejkaaGreatDoorPQk
import Derived.Test.YtjcoifdfemejkaaGreatDoorR3Gk
set_option linter.unusedSimpArgs false
set_option linter.unusedVariables false
namespace Go.Proofs.YtjcoifdfemejkaaGreatDoor
open Go Go.RowKit

def withKV (o : AObj) (k : List ByteArray) (l : List Int) : AObj := (o.1, o.2.1, l, k, o.2.2.2.2)

theorem withKV_cell (o : AObj) (k : List ByteArray) (l : List Int) (x : V3) : pcell (withKV o k l) x = pcell o x := rfl

theorem ph_setOK {W : World} {b0 : Nat} {H : AHeap} {vo : Value} {t : List V3} (hp : PH W b0 H vo t) {k : Nat} {o : AObj} {xb xk : Value} {bb cap : Nat} (ho : H.2[k]? = some o) (hx : t[k]? = some (xb, xk, .slice (some ⟨bb, 0, none⟩) o.vals.length cap))
    (j : Nat) (u : Int) (hok : OKo (withVals o (o.vals.set j u))) :
    HS (W.setCell ⟨bb, j, none⟩ (.int .u64 u)) b0 (H.1, H.2.set k (withVals o (o.vals.set j u))) (hbs b0 vo t) ∧ Nx (hbs b0 vo t) W (W.setCell ⟨bb, j, none⟩ (.int .u64 u)) (hbs b0 vo t) := by
  obtain ⟨nd, ap, _, _⟩ := hp.apart hx
  have hl := hp.ls k _ _ ho hx
  have hbb : bb ∈ lbs (xb, xk, .slice (some ⟨bb, 0, none⟩) o.vals.length cap) := mem_lbs.2 (.inr (.inr rfl))
  obtain ⟨d1, d2, d3⟩ := lbs_apart nd
  have ht : t.set k (xb, xk, .slice (some ⟨bb, 0, none⟩) o.vals.length cap) = t := by
    obtain ⟨hk, e⟩ := List.getElem?_eq_some_iff.1 hx
    rw [← e]; exact List.set_getElem_self hk
  have hh : ∀ b, b ≠ bb → (W.setCell ⟨bb, j, none⟩ (.int .u64 u)).heap[b]? = W.heap[b]? := fun b hb => Below.heap_setCell W ⟨bb, j, none⟩ _ b hb
  have st := (hl.2.2.stored j (.int .u64 u)).1
  have hm : (o.vals.map (Value.int .u64)).set j (.int .u64 u) = (o.vals.set j u).map (Value.int .u64) := by rw [List.map_set]
  rw [hm] at st
  have key := ph_upd (w' := W.setCell ⟨bb, j, none⟩ (.int .u64 u)) (o' := withVals o (o.vals.set j u)) (x' := (xb, xk, .slice (some ⟨bb, 0, none⟩) o.vals.length cap)) hp ho hx ⟨rfl, rfl, rfl⟩ (by simp)
    (fun b hb _ hn => hh b (fun e => hn (e ▸ hbb)))
    (by rw [ht, pcells_same _ _ _ _ _ ho (withVals_cell o _)]; exact own_same hp.row (fun b hb => hh b (fun e => ap bb hbb (e ▸ hb))))
    ⟨own_same hl.1 (fun b hb => hh b (fun e => d1 b hb (by rw [e]; rfl))), own_same hl.2.1 (fun b hb => hh b (fun e => d2 b hb (by rw [e]; rfl))), by simpa [withVals, AObj.vals] using st⟩
    nd (fun b hb => .inl hb) hok
  rw [ht] at key
  exact key

/-- A key and a value more: two rows grown, one behind the other. -/
theorem ph_put2 {W w5 w7 : World} {b0 : Nat} {H : AHeap} {t : List V3} {g n' cap' : Nat} (hp : PH W b0 H (.slice (some ⟨g, 0, none⟩) n' cap') t) {k : Nat} {o : AObj} {xb xk xl vk vl : Value} (ho : H.2[k]? = some o) (hx : t[k]? = some (xb, xk, xl))
    (s : ByteArray) (u : Int) (ob1 ob2 : Obj) (hok : OKo (withKV o (o.keys ++ [s]) (o.vals ++ [u])))
    (ok5 : w5.ownsRow 0 9 1 vk (o.keys.length + 1) (o.keys.map Value.string ++ [.string s])) (gr5 : (W.alloc ob1).grownBy w5 xk.ownBlock)
    (hvk : vk.ownBlock = xk.ownBlock ∨ ∀ q, vk.ownBlock = some q → (W.alloc ob1).heap.size ≤ q)
    (ow7 : w7.ownsRow 0 27 1 vl (o.vals.length + 1) (o.vals.map (Value.int .u64) ++ [.int .u64 u])) (gr7 : ((w5.setCell ⟨g, k * 7 + 2, none⟩ vk).alloc ob2).grownBy w7 xl.ownBlock)
    (hvl : vl.ownBlock = xl.ownBlock ∨ ∀ q, vl.ownBlock = some q → ((w5.setCell ⟨g, k * 7 + 2, none⟩ vk).alloc ob2).heap.size ≤ q) :
    HS (w7.setCell ⟨g, k * 7 + 3, none⟩ vl) b0 (H.1, H.2.set k (withKV o (o.keys ++ [s]) (o.vals ++ [u]))) (hbs b0 (.slice (some ⟨g, 0, none⟩) n' cap') (t.set k (xb, vk, vl))) ∧
      Nx (hbs b0 (.slice (some ⟨g, 0, none⟩) n' cap') t) W (w7.setCell ⟨g, k * 7 + 3, none⟩ vl) (hbs b0 (.slice (some ⟨g, 0, none⟩) n' cap') (t.set k (xb, vk, vl))) := by
  obtain ⟨nd, ap, _, _⟩ := hp.apart hx
  have hl := hp.ls k _ _ ho hx
  obtain ⟨d1, d2, d3⟩ := lbs_apart nd
  have hWs : (W.alloc ob1).heap.size = W.heap.size + 1 := World.size_alloc ..
  have hs6 : ((w5.setCell ⟨g, k * 7 + 2, none⟩ vk).alloc ob2).heap.size = w5.heap.size + 1 := by simp
  have hgs := gr5.size
  have hgs7 := gr7.size
  rw [hs6] at hgs7 hvl
  rw [hWs] at hgs hvk
  have hg : g < W.heap.size := own_lt hp.row rfl
  have e1 : n' = H.2.length := by
    obtain ⟨a, c, e⟩ := own_form hp.row
    cases e; rfl
  subst e1
  have hxg : xl.ownBlock ≠ some g := fun e => ap g (mem_lbs.2 (.inr (.inr e))) rfl
  have hkg : xk.ownBlock ≠ some g := fun e => ap g (mem_lbs.2 (.inr (.inl e))) rfl
  have hb1 : ∀ b, xb.ownBlock = some b → b < W.heap.size := fun b hb => own_lt hl.1 hb
  have hb2 : ∀ b, xk.ownBlock = some b → b < W.heap.size := fun b hb => own_lt hl.2.1 hb
  have hb3 : ∀ b, xl.ownBlock = some b → b < W.heap.size := fun b hb => own_lt hl.2.2 hb
  have hvk5 : ∀ b, vk.ownBlock = some b → b < w5.heap.size := fun b hb => own_lt ok5 hb
  have h5 : ∀ b, b < W.heap.size → xk.ownBlock ≠ some b → w5.heap[b]? = W.heap[b]? := fun b hb h => by
    rw [gr5.block b (by omega) (fun e => h e.symm), Below.heap_alloc W ob1 b hb]
  have h7 : ∀ b, b < w5.heap.size → b ≠ g → xl.ownBlock ≠ some b → w7.heap[b]? = w5.heap[b]? := fun b hb h1 h2 => by
    rw [gr7.block b (by rw [hs6]; omega) (fun e => h2 e.symm), Below.heap_alloc _ ob2 b (by simpa using hb), Below.heap_setCell w5 ⟨g, k * 7 + 2, none⟩ vk b h1]
  have h8 : ∀ b, b ≠ g → (w7.setCell ⟨g, k * 7 + 3, none⟩ vl).heap[b]? = w7.heap[b]? := fun b hb => Below.heap_setCell w7 ⟨g, k * 7 + 3, none⟩ vl b hb
  have hh : ∀ b, b < W.heap.size → b ≠ g → xk.ownBlock ≠ some b → xl.ownBlock ≠ some b → (w7.setCell ⟨g, k * 7 + 3, none⟩ vl).heap[b]? = W.heap[b]? := fun b hb h1 h2 h3 => by
    rw [h8 b h1, h7 b (by omega) h1 h3, h5 b hb h2]
  have hvkg : vk.ownBlock ≠ some g := by
    rcases hvk with e | e
    · rw [e]; exact hkg
    · intro h; have := e g h; omega
  have hvlg : vl.ownBlock ≠ some g := by
    rcases hvl with e | e
    · rw [e]; exact hxg
    · intro h; have := e g h; omega
  have hkl : ∀ b, vk.ownBlock = some b → xl.ownBlock ≠ some b := fun b hb e => by
    rcases hvk with h | h
    · exact d2 b (h ▸ hb) e
    · have := h b hb; have := hb3 b e; omega
  have r5 : w5.ownsRow 0 105 7 (.slice (some ⟨g, 0, none⟩) H.2.length cap') H.2.length (pcells H.2 t) :=
    own_same hp.row (fun b hb => by cases hb; exact h5 g hg hkg)
  have st5 := (r5.stored (k * 7 + 2) vk).1
  rw [pcells_put2 _ _ _ _ _ hp.len hx] at st5
  have r7 : w7.ownsRow 0 105 7 (.slice (some ⟨g, 0, none⟩) H.2.length cap') H.2.length (pcells H.2 (t.set k (xb, vk, xl))) :=
    own_same st5 (fun b hb => by
      cases hb
      rw [gr7.block g (by rw [hs6]; omega) (fun e => hxg e.symm)]
      exact Below.heap_alloc _ ob2 g (by simp; omega))
  have st7 := (r7.stored (k * 7 + 3) vl).1
  have hkt : k < t.length := (List.getElem?_eq_some_iff.1 hx).1
  rw [pcells_put3 _ _ _ (xb, vk, xl) _ (by rw [List.length_set]; exact hp.len) (by simp [hkt])] at st7
  simp only [List.set_set] at st7
  have m1 : ∀ b, xb.ownBlock = some b → b ≠ g := fun b hb e => ap b (mem_lbs.2 (.inl hb)) (by rw [e]; rfl)
  refine ph_upd (w' := w7.setCell ⟨g, k * 7 + 3, none⟩ vl) (o' := withKV o (o.keys ++ [s]) (o.vals ++ [u])) (x' := (xb, vk, vl)) hp ho hx ⟨gr7.os.trans gr5.os, gr7.tape.trans gr5.tape, gr7.output.trans gr5.output⟩ (by simp; omega)
    (fun b hb hn hm => hh b hb (fun e => hn (by rw [e]; rfl)) (fun e => hm (mem_lbs.2 (.inr (.inl e)))) (fun e => hm (mem_lbs.2 (.inr (.inr e)))))
    (by rw [pcells_same _ _ _ _ _ ho (withKV_cell o _ _)]; exact st7)
    ⟨own_same hl.1 (fun b hb => hh b (hb1 b hb) (m1 b hb) (d3 b hb) (d1 b hb)), ?_, ?_⟩ ?_ ?_ hok
  · have := own_same (w' := w7.setCell ⟨g, k * 7 + 3, none⟩ vl) ok5 (fun b hb => by
      have hne : b ≠ g := fun e => hvkg (e ▸ hb)
      rw [h8 b hne, h7 b (hvk5 b hb) hne (hkl b hb)])
    simpa [withKV, AObj.keys] using this
  · have := own_same (w' := w7.setCell ⟨g, k * 7 + 3, none⟩ vl) ow7 (fun b hb => h8 b (fun e => hvlg (e ▸ hb)))
    simpa [withKV, AObj.vals] using this
  · refine lbs_nodup (fun b hb e => ?_) (fun b hb e => ?_) (fun b hb e => ?_)
    · rcases hvl with h | h
      · exact d1 b hb (h ▸ e)
      · have := h b e; have := hb1 b hb; omega
    · rcases hvl with h | h
      · exact hkl b hb (h ▸ e)
      · have := h b e; have := hvk5 b hb; omega
    · rcases hvk with h | h
      · exact d3 b hb (h ▸ e)
      · have := h b e; have := hb1 b hb; omega
  · intro b hb
    rcases mem_lbs.1 hb with h | h | h
    · exact .inl (mem_lbs.2 (.inl h))
    · rcases hvk with e | e
      · exact .inl (mem_lbs.2 (.inr (.inl (e ▸ h))))
      · have := e b h; exact .inr (by omega)
    · rcases hvl with e | e
      · exact .inl (mem_lbs.2 (.inr (.inr (e ▸ h))))
      · have := e b h; exact .inr (by omega)

def aPutE (H : AHeap) (v : Int) (s : ByteArray) (x : Int) : Int :=
  if kk H v = 3 then (if gd H.2.length x = true then (if 0 ≤ aKey (ob H v).keys s then 0 else if (ob H v).keys.length = 256 then 2 else 0) else 1) else 8

def aPutH (H : AHeap) (v : Int) (s : ByteArray) (x : Int) : AHeap :=
  if kk H v = 3 ∧ gd H.2.length x = true then
    (if 0 ≤ aKey (ob H v).keys s then (H.1, H.2.set (idxV v).toNat (withVals (ob H v) ((ob H v).vals.set (aKey (ob H v).keys s).toNat x)))
    else if (ob H v).keys.length = 256 then H else (H.1, H.2.set (idxV v).toNat (withKV (ob H v) ((ob H v).keys ++ [s]) ((ob H v).vals ++ [x])))) else H











end Go.Proofs.YtjcoifdfemejkaaGreatDoor

set_option linter.unusedSimpArgs false
set_option linter.unusedVariables false
namespace Go.Proofs.YtjcoifdfemejkaaGreatDoor
open Go Go.RowKit

theorem Sl.take1 {w : World} {G : Nat → Prop} {a : Option Addr} {n cap : Nat} {cs : List Value} (h : Sl w G (.slice a (n + 1) cap) (n + 1) 1 cs) : Sl w G (.slice a n cap) n 1 (cs.take n) := by
  obtain ⟨hl, a', cap', e, hn, hc⟩ := h
  cases e
  refine ⟨by simp; omega, a, cap, rfl, ⟨by omega, hn.2⟩, ?_⟩
  rcases hc with h0 | ⟨b, o, rfl, hlt, hg, hc⟩
  · omega
  · refine .inr ⟨b, o, rfl, hlt, hg, fun i hi => ?_⟩
    rw [hc i (by omega), List.getElem?_take, if_pos (by omega)]









end Go.Proofs.YtjcoifdfemejkaaGreatDoor

set_option linter.unusedSimpArgs false
set_option linter.unusedVariables false
namespace Go.Proofs.YtjcoifdfemejkaaGreatDoor
open Go Go.RowKit













end Go.Proofs.YtjcoifdfemejkaaGreatDoor

