/- The program's objects, written to: a record's field: the contracts. -/
import Derived.Test.YtajnpdiepiinjaaGreatDoorPQ
set_option linter.unusedSimpArgs false
set_option linter.unusedVariables false
namespace Go.Proofs.YtajnpdiepiinjaaGreatDoor
open Go Go.RowKit

def withKV (o : AObj) (k : List ByteArray) (l : List Int) : AObj := (o.1, o.2.1, l, k, o.2.2.2.2)

theorem withKV_cell (o : AObj) (k : List ByteArray) (l : List Int) (x : V3) : pcell (withKV o k l) x = pcell o x := rfl

theorem ph_setOK {W : World} {b0 : Nat} {H : AHeap} {vo : Value} {t : List V3} (hp : PH W b0 H vo t) {k : Nat} {o : AObj} {xb xk : Value} {bb cap : Nat} (ho : H.2[k]? = some o) (hx : t[k]? = some (xb, xk, .slice (some ⟨bb, 0, none⟩) o.vals.length cap))
    (j : Nat) (u : Int) (hok : OKo (withVals o (o.vals.set j u))) :
    HS (W.setCell ⟨bb, j, none⟩ (.int .u64 u)) b0 (H.1, H.2.set k (withVals o (o.vals.set j u))) (hbs b0 vo t) ∧ Nx (hbs b0 vo t) W (W.setCell ⟨bb, j, none⟩ (.int .u64 u)) (hbs b0 vo t) := by
  obtain ⟨nd, ap, _, _⟩ := hp.apart hx
  have hl := hp.ls k _ _ ho hx
  have hbb : bb ∈ lbs (xb, xk, .slice (some ⟨bb, 0, none⟩) o.vals.length cap) := mem_lbs.2 (.inr (.inr rfl))
  obtain ⟨d1, d2, d3⟩ := lbs_apart nd
  have ht : t.set k (xb, xk, .slice (some ⟨bb, 0, none⟩) o.vals.length cap) = t := by
    obtain ⟨hk, e⟩ := List.getElem?_eq_some_iff.1 hx
    rw [← e]; exact List.set_getElem_self hk
  have hh : ∀ b, b ≠ bb → (W.setCell ⟨bb, j, none⟩ (.int .u64 u)).heap[b]? = W.heap[b]? := fun b hb => Below.heap_setCell W ⟨bb, j, none⟩ _ b hb
  have st := (hl.2.2.stored j (.int .u64 u)).1
  have hm : (o.vals.map (Value.int .u64)).set j (.int .u64 u) = (o.vals.set j u).map (Value.int .u64) := by rw [List.map_set]
  rw [hm] at st
  have key := ph_upd (w' := W.setCell ⟨bb, j, none⟩ (.int .u64 u)) (o' := withVals o (o.vals.set j u)) (x' := (xb, xk, .slice (some ⟨bb, 0, none⟩) o.vals.length cap)) hp ho hx ⟨rfl, rfl, rfl⟩ (by simp)
    (fun b hb _ hn => hh b (fun e => hn (e ▸ hbb)))
    (by rw [ht, pcells_same _ _ _ _ _ ho (withVals_cell o _)]; exact own_same hp.row (fun b hb => hh b (fun e => ap bb hbb (e ▸ hb))))
    ⟨own_same hl.1 (fun b hb => hh b (fun e => d1 b hb (by rw [e]; rfl))), own_same hl.2.1 (fun b hb => hh b (fun e => d2 b hb (by rw [e]; rfl))), by simpa [withVals, AObj.vals] using st⟩
    nd (fun b hb => .inl hb) hok
  rw [ht] at key
  exact key

/-- A key and a value more: two rows grown, one behind the other. -/
theorem ph_put2 {W w5 w7 : World} {b0 : Nat} {H : AHeap} {t : List V3} {g n' cap' : Nat} (hp : PH W b0 H (.slice (some ⟨g, 0, none⟩) n' cap') t) {k : Nat} {o : AObj} {xb xk xl vk vl : Value} (ho : H.2[k]? = some o) (hx : t[k]? = some (xb, xk, xl))
    (s : ByteArray) (u : Int) (ob1 ob2 : Obj) (hok : OKo (withKV o (o.keys ++ [s]) (o.vals ++ [u])))
    (ok5 : w5.ownsRow 0 9 1 vk (o.keys.length + 1) (o.keys.map Value.string ++ [.string s])) (gr5 : (W.alloc ob1).grownBy w5 xk.ownBlock)
    (hvk : vk.ownBlock = xk.ownBlock ∨ ∀ q, vk.ownBlock = some q → (W.alloc ob1).heap.size ≤ q)
    (ow7 : w7.ownsRow 0 27 1 vl (o.vals.length + 1) (o.vals.map (Value.int .u64) ++ [.int .u64 u])) (gr7 : ((w5.setCell ⟨g, k * 7 + 2, none⟩ vk).alloc ob2).grownBy w7 xl.ownBlock)
    (hvl : vl.ownBlock = xl.ownBlock ∨ ∀ q, vl.ownBlock = some q → ((w5.setCell ⟨g, k * 7 + 2, none⟩ vk).alloc ob2).heap.size ≤ q) :
    HS (w7.setCell ⟨g, k * 7 + 3, none⟩ vl) b0 (H.1, H.2.set k (withKV o (o.keys ++ [s]) (o.vals ++ [u]))) (hbs b0 (.slice (some ⟨g, 0, none⟩) n' cap') (t.set k (xb, vk, vl))) ∧
      Nx (hbs b0 (.slice (some ⟨g, 0, none⟩) n' cap') t) W (w7.setCell ⟨g, k * 7 + 3, none⟩ vl) (hbs b0 (.slice (some ⟨g, 0, none⟩) n' cap') (t.set k (xb, vk, vl))) := by
  obtain ⟨nd, ap, _, _⟩ := hp.apart hx
  have hl := hp.ls k _ _ ho hx
  obtain ⟨d1, d2, d3⟩ := lbs_apart nd
  have hWs : (W.alloc ob1).heap.size = W.heap.size + 1 := World.size_alloc ..
  have hs6 : ((w5.setCell ⟨g, k * 7 + 2, none⟩ vk).alloc ob2).heap.size = w5.heap.size + 1 := by simp
  have hgs := gr5.size
  have hgs7 := gr7.size
  rw [hs6] at hgs7 hvl
  rw [hWs] at hgs hvk
  have hg : g < W.heap.size := own_lt hp.row rfl
  have e1 : n' = H.2.length := by
    obtain ⟨a, c, e⟩ := own_form hp.row
    cases e; rfl
  subst e1
  have hxg : xl.ownBlock ≠ some g := fun e => ap g (mem_lbs.2 (.inr (.inr e))) rfl
  have hkg : xk.ownBlock ≠ some g := fun e => ap g (mem_lbs.2 (.inr (.inl e))) rfl
  have hb1 : ∀ b, xb.ownBlock = some b → b < W.heap.size := fun b hb => own_lt hl.1 hb
  have hb2 : ∀ b, xk.ownBlock = some b → b < W.heap.size := fun b hb => own_lt hl.2.1 hb
  have hb3 : ∀ b, xl.ownBlock = some b → b < W.heap.size := fun b hb => own_lt hl.2.2 hb
  have hvk5 : ∀ b, vk.ownBlock = some b → b < w5.heap.size := fun b hb => own_lt ok5 hb
  have h5 : ∀ b, b < W.heap.size → xk.ownBlock ≠ some b → w5.heap[b]? = W.heap[b]? := fun b hb h => by
    rw [gr5.block b (by omega) (fun e => h e.symm), Below.heap_alloc W ob1 b hb]
  have h7 : ∀ b, b < w5.heap.size → b ≠ g → xl.ownBlock ≠ some b → w7.heap[b]? = w5.heap[b]? := fun b hb h1 h2 => by
    rw [gr7.block b (by rw [hs6]; omega) (fun e => h2 e.symm), Below.heap_alloc _ ob2 b (by simpa using hb), Below.heap_setCell w5 ⟨g, k * 7 + 2, none⟩ vk b h1]
  have h8 : ∀ b, b ≠ g → (w7.setCell ⟨g, k * 7 + 3, none⟩ vl).heap[b]? = w7.heap[b]? := fun b hb => Below.heap_setCell w7 ⟨g, k * 7 + 3, none⟩ vl b hb
  have hh : ∀ b, b < W.heap.size → b ≠ g → xk.ownBlock ≠ some b → xl.ownBlock ≠ some b → (w7.setCell ⟨g, k * 7 + 3, none⟩ vl).heap[b]? = W.heap[b]? := fun b hb h1 h2 h3 => by
    rw [h8 b h1, h7 b (by omega) h1 h3, h5 b hb h2]
  have hvkg : vk.ownBlock ≠ some g := by
    rcases hvk with e | e
    · rw [e]; exact hkg
    · intro h; have := e g h; omega
  have hvlg : vl.ownBlock ≠ some g := by
    rcases hvl with e | e
    · rw [e]; exact hxg
    · intro h; have := e g h; omega
  have hkl : ∀ b, vk.ownBlock = some b → xl.ownBlock ≠ some b := fun b hb e => by
    rcases hvk with h | h
    · exact d2 b (h ▸ hb) e
    · have := h b hb; have := hb3 b e; omega
  have r5 : w5.ownsRow 0 125 7 (.slice (some ⟨g, 0, none⟩) H.2.length cap') H.2.length (pcells H.2 t) :=
    own_same hp.row (fun b hb => by cases hb; exact h5 g hg hkg)
  have st5 := (r5.stored (k * 7 + 2) vk).1
  rw [pcells_put2 _ _ _ _ _ hp.len hx] at st5
  have r7 : w7.ownsRow 0 125 7 (.slice (some ⟨g, 0, none⟩) H.2.length cap') H.2.length (pcells H.2 (t.set k (xb, vk, xl))) :=
    own_same st5 (fun b hb => by
      cases hb
      rw [gr7.block g (by rw [hs6]; omega) (fun e => hxg e.symm)]
      exact Below.heap_alloc _ ob2 g (by simp; omega))
  have st7 := (r7.stored (k * 7 + 3) vl).1
  have hkt : k < t.length := (List.getElem?_eq_some_iff.1 hx).1
  rw [pcells_put3 _ _ _ (xb, vk, xl) _ (by rw [List.length_set]; exact hp.len) (by simp [hkt])] at st7
  simp only [List.set_set] at st7
  have m1 : ∀ b, xb.ownBlock = some b → b ≠ g := fun b hb e => ap b (mem_lbs.2 (.inl hb)) (by rw [e]; rfl)
  refine ph_upd (w' := w7.setCell ⟨g, k * 7 + 3, none⟩ vl) (o' := withKV o (o.keys ++ [s]) (o.vals ++ [u])) (x' := (xb, vk, vl)) hp ho hx ⟨gr7.os.trans gr5.os, gr7.tape.trans gr5.tape, gr7.output.trans gr5.output⟩ (by simp; omega)
    (fun b hb hn hm => hh b hb (fun e => hn (by rw [e]; rfl)) (fun e => hm (mem_lbs.2 (.inr (.inl e)))) (fun e => hm (mem_lbs.2 (.inr (.inr e)))))
    (by rw [pcells_same _ _ _ _ _ ho (withKV_cell o _ _)]; exact st7)
    ⟨own_same hl.1 (fun b hb => hh b (hb1 b hb) (m1 b hb) (d3 b hb) (d1 b hb)), ?_, ?_⟩ ?_ ?_ hok
  · have := own_same (w' := w7.setCell ⟨g, k * 7 + 3, none⟩ vl) ok5 (fun b hb => by
      have hne : b ≠ g := fun e => hvkg (e ▸ hb)
      rw [h8 b hne, h7 b (hvk5 b hb) hne (hkl b hb)])
    simpa [withKV, AObj.keys] using this
  · have := own_same (w' := w7.setCell ⟨g, k * 7 + 3, none⟩ vl) ow7 (fun b hb => h8 b (fun e => hvlg (e ▸ hb)))
    simpa [withKV, AObj.vals] using this
  · refine lbs_nodup (fun b hb e => ?_) (fun b hb e => ?_) (fun b hb e => ?_)
    · rcases hvl with h | h
      · exact d1 b hb (h ▸ e)
      · have := h b e; have := hb1 b hb; omega
    · rcases hvl with h | h
      · exact hkl b hb (h ▸ e)
      · have := h b e; have := hvk5 b hb; omega
    · rcases hvk with h | h
      · exact d3 b hb (h ▸ e)
      · have := h b e; have := hb1 b hb; omega
  · intro b hb
    rcases mem_lbs.1 hb with h | h | h
    · exact .inl (mem_lbs.2 (.inl h))
    · rcases hvk with e | e
      · exact .inl (mem_lbs.2 (.inr (.inl (e ▸ h))))
      · have := e b h; exact .inr (by omega)
    · rcases hvl with e | e
      · exact .inl (mem_lbs.2 (.inr (.inr (e ▸ h))))
      · have := e b h; exact .inr (by omega)

def aPutE (H : AHeap) (v : Int) (s : ByteArray) (x : Int) : Int :=
  if kk H v = 3 then (if gd H.2.length x = true then (if 0 ≤ aKey (ob H v).keys s then 0 else if (ob H v).keys.length = 256 then 2 else 0) else 1) else 8

def aPutH (H : AHeap) (v : Int) (s : ByteArray) (x : Int) : AHeap :=
  if kk H v = 3 ∧ gd H.2.length x = true then
    (if 0 ≤ aKey (ob H v).keys s then (H.1, H.2.set (idxV v).toNat (withVals (ob H v) ((ob H v).vals.set (aKey (ob H v).keys s).toNat x)))
    else if (ob H v).keys.length = 256 then H else (H.1, H.2.set (idxV v).toNat (withKV (ob H v) ((ob H v).keys ++ [s]) ((ob H v).vals ++ [x])))) else H

set_option maxHeartbeats 4000000 in
theorem put_arg {b0 : Nat} {H : AHeap} {bs : List Nat} (v : Int) (s : ByteArray) (x : Int) (hU : U v) (hUx : U x) (w : World) (hp : HS w b0 H bs) (hk : kk H v = 3) (hgx : gd H.2.length x = false) :
    Calls Tryz.prog 69 #[.pointer (some ⟨b0, 0, none⟩), .int .u64 v, .string s, .int .u64 x] w fun e w' => e = .returned (.int .i64 1) ∧ Ly w w' := by
  obtain ⟨vo, t, hph, rfl⟩ := hp
  have HP0 := hid hph
  have HP := hid (hph.bw ((Bw.refl w).alloc (.cells #[.int .i64 3] 3)))
  have hkr := kk_ref (H := H) (v := v) (by omega)
  have hg1 := (ob_get (H := H) hU hkr.2.1).1
  obtain ⟨g, cap, xb, xk, xl, rfl, hx, hl, hg, hkl, q0, q1, q2, q3, q4, q5, q6, hf⟩ := hph.obj hU (by omega)
  have HX := hid hx
  have HG1 := hid hg1
  have HS0 := hid (sl_new w [.int .i64 3] 3 1 rfl)
  have hoo := ob_ok (v := v) hph.ok hU hkr.2.1
  have HOO := hid hoo
  have hmo := hph.most
  have hto := hph.top
  have HKK0 := hid hkr.2.2
  obtain ⟨ak, ck, rfl⟩ := own_form hl.2.1
  obtain ⟨al, cl, rfl⟩ := own_form hl.2.2
  have HSK := hid (own_sl (G := fun _ => True) hl.2.1 (fun _ _ => trivial))
  have hkm := hoo.2.2.2.2.2.2.2
  clear hph hl hx hg1 hoo hkr q0 q1 q2 q3 q4 q5 q6
  go_enter Tryz.func69, Tryz.ntmps69
  go_wp2_with (first
    | (go_at_call 76; refine (find_yes (fun _ => True) _ hU _ [3] _ HP.out HS0.out (by decide) (by decide) (by simp [hk])).mono ?_; rintro e w' ⟨g', cap', hvo, rfl, rfl⟩; cases hvo)
    | (go_at_call 30; refine (good_any _ hUx _ HP.out).mono ?_; rintro e w' ⟨rfl, rfl⟩))
  all_goals go_ret
  all_goals exact ⟨rfl, by repeat (first | exact Ly.refl _ | apply Ly.lay | apply Ly.alloc | apply Ly.drewN | apply Ly.drew)⟩

set_option maxHeartbeats 4000000 in
theorem put_long {b0 : Nat} {H : AHeap} {bs : List Nat} (v : Int) (s : ByteArray) (x : Int) (hU : U v) (hUx : U x) (w : World) (hp : HS w b0 H bs) (hk : kk H v = 3) (hgx : gd H.2.length x = true) (h0 : ¬ 0 ≤ aKey (ob H v).keys s) (h2 : (ob H v).keys.length = 256) :
    Calls Tryz.prog 69 #[.pointer (some ⟨b0, 0, none⟩), .int .u64 v, .string s, .int .u64 x] w fun e w' => e = .returned (.int .i64 2) ∧ Ly w w' := by
  obtain ⟨vo, t, hph, rfl⟩ := hp
  have HP0 := hid hph
  have HP := hid (hph.bw ((Bw.refl w).alloc (.cells #[.int .i64 3] 3)))
  have hkr := kk_ref (H := H) (v := v) (by omega)
  have hg1 := (ob_get (H := H) hU hkr.2.1).1
  obtain ⟨g, cap, xb, xk, xl, rfl, hx, hl, hg, hkl, q0, q1, q2, q3, q4, q5, q6, hf⟩ := hph.obj hU (by omega)
  have HX := hid hx
  have HG1 := hid hg1
  have HS0 := hid (sl_new w [.int .i64 3] 3 1 rfl)
  have hoo := ob_ok (v := v) hph.ok hU hkr.2.1
  have HOO := hid hoo
  have hmo := hph.most
  have hto := hph.top
  have HKK0 := hid hkr.2.2
  obtain ⟨ak, ck, rfl⟩ := own_form hl.2.1
  obtain ⟨al, cl, rfl⟩ := own_form hl.2.2
  have HSK := hid (own_sl (G := fun _ => True) hl.2.1 (fun _ _ => trivial))
  have hkm := hoo.2.2.2.2.2.2.2
  clear hph hl hx hg1 hoo hkr q0 q1 q3 q4 q5 q6
  have h6 : decide ((256 : Int) ≤ ((ob H v).keys.length : Int)) = true := decide_eq_true (by omega)
  have hneg : aKey (ob H v).keys s < 0 := by omega
  clear h0 h2
  go_enter Tryz.func69, Tryz.ntmps69
  go_wp2_with (first
    | (go_at_call 76; refine (find_yes (fun _ => True) _ hU _ [3] _ HP.out HS0.out (by decide) (by decide) (by simp [hk])).mono ?_; rintro e w' ⟨g', cap', hvo, rfl, rfl⟩; cases hvo)
    | (go_at_call 30; refine (good_any _ hUx _ HP.out).mono ?_; rintro e w' ⟨rfl, rfl⟩)
    | (go_at_call 134; refine (ixS_any (fun _ => True) _ (ob H v).keys _ _ (Sl.below HSK.out (Bw.alloc (Bw.refl _) _)) (by omega)).mono ?_; rintro e w' ⟨rfl, rfl⟩))
  all_goals go_ret
  all_goals exact ⟨rfl, by repeat (first | exact Ly.refl _ | apply Ly.lay | apply Ly.alloc | apply Ly.drewN | apply Ly.drew)⟩

set_option maxHeartbeats 4000000 in
theorem put_old {b0 : Nat} {H : AHeap} {bs : List Nat} (v : Int) (s : ByteArray) (x : Int) (hU : U v) (hUx : U x) (w : World) (hp : HS w b0 H bs) (hk : kk H v = 3) (hgx : gd H.2.length x = true) (h0 : 0 ≤ aKey (ob H v).keys s) :
    Calls Tryz.prog 69 #[.pointer (some ⟨b0, 0, none⟩), .int .u64 v, .string s, .int .u64 x] w fun e w' => e = .returned (.int .i64 0) ∧ ∃ bs', HS w' b0 (H.1, H.2.set (idxV v).toNat (withVals (ob H v) ((ob H v).vals.set (aKey (ob H v).keys s).toNat x))) bs' ∧ Nx bs w w' bs' := by
  have hlt := aKey_lt (ob H v).keys s
  obtain ⟨j, hj⟩ : ∃ j : Nat, aKey (ob H v).keys s = j := ⟨(aKey (ob H v).keys s).toNat, by omega⟩
  rw [hj]
  obtain ⟨vo, t, hph, rfl⟩ := hp
  have HP0 := hid hph
  have HP := hid (hph.bw ((Bw.refl w).alloc (.cells #[.int .i64 3] 3)))
  have hkr := kk_ref (H := H) (v := v) (by omega)
  have hg1 := (ob_get (H := H) hU hkr.2.1).1
  obtain ⟨g, cap, xb, xk, xl, rfl, hx, hl, hg, hkl, q0, q1, q2, q3, q4, q5, q6, hf⟩ := hph.obj hU (by omega)
  have HX := hid hx
  have HG1 := hid hg1
  have HS0 := hid (sl_new w [.int .i64 3] 3 1 rfl)
  have hoo := ob_ok (v := v) hph.ok hU hkr.2.1
  have HOO := hid hoo
  have hmo := hph.most
  have hto := hph.top
  have HKK0 := hid hkr.2.2
  obtain ⟨ak, ck, rfl⟩ := own_form hl.2.1
  obtain ⟨al, cl, rfl⟩ := own_form hl.2.2
  have HSK := hid (own_sl (G := fun _ => True) hl.2.1 (fun _ _ => trivial))
  have hkm := hoo.2.2.2.2.2.2.2
  have hlen := hoo.2.2.1 (by have := hkr.2.2; omega)
  have hjl : j < (ob H v).vals.length := by omega
  obtain ⟨bb, rfl, hbs, c1⟩ := own_at hl.2.2 hjl
  have c2 : w.cell? ⟨bb, j, none⟩ = some (.int .u64 (ob H v).vals[j]) := by rw [c1]; simp [hjl]
  have c2f : w.frozen? ⟨bb, j, none⟩ = false := hl.2.2.frozenAt j
  have hok : OKo (withVals (ob H v) ((ob H v).vals.set j x)) :=
    ⟨fun e => absurd (show (ob H v).kind = 1 from e) (by have := HKK0.out; omega), hoo.2.1, fun e => by show (ob H v).keys.length = ((ob H v).vals.set j x).length; rw [List.length_set]; exact hlen, fun u hu => by
      rcases List.mem_or_eq_of_mem_set hu with h | h
      · exact hoo.2.2.2.1 u h
      · exact h ▸ hUx, hoo.2.2.2.2.1, hoo.2.2.2.2.2.1, by show ((ob H v).vals.set j x).length ≤ 1000000; rw [List.length_set]; exact hoo.2.2.2.2.2.2.1, hoo.2.2.2.2.2.2.2⟩
  have HS1 := hid (ph_setOK HP.out HG1.out HX.out j x hok)
  have hi2 : (j : Int) < ((ob H v).vals.length : Int) := by omega
  have hj0 : ¬ (j : Int) < 0 := by omega
  generalize (ob H v).vals[j] = old at c2
  have HHJ := hid hj
  clear hph hl hx hg1 hoo hkr q0 q1 q4 q5 q6 c1 h0 hlt hlen hok hj
  go_enter Tryz.func69, Tryz.ntmps69
  go_wp2_with (first
    | (go_at_call 76; refine (find_yes (fun _ => True) _ hU _ [3] _ HP.out HS0.out (by decide) (by decide) (by simp [hk])).mono ?_; rintro e w' ⟨g', cap', hvo, rfl, rfl⟩; cases hvo)
    | (go_at_call 30; refine (good_any _ hUx _ HP.out).mono ?_; rintro e w' ⟨rfl, rfl⟩)
    | (go_at_call 134; refine (ixS_any (fun _ => True) _ (ob H v).keys _ _ (Sl.below HSK.out (Bw.alloc (Bw.refl _) _)) (by omega)).mono ?_; rw [HHJ.out]; rintro e w' ⟨rfl, rfl⟩))
  all_goals go_ret
  all_goals
    have hsw : (w.alloc (.cells #[.int .i64 3] 3)).setCell ⟨bb, j, none⟩ (.int .u64 x) = (w.setCell ⟨bb, j, none⟩ (.int .u64 x)).alloc (.cells #[.int .i64 3] 3) := World.setCell_alloc_past _ bb j _ hbs
    have h2 := HS1.out
    first
      | exact ⟨rfl, _, h2.1, Bw.nxBefore (Bw.alloc (Bw.refl _) _) h2.2⟩
      | (rw [hsw] at h2; exact ⟨rfl, _, h2.1, Bw.nxBefore (Bw.alloc (Bw.refl _) _) h2.2⟩)

set_option maxHeartbeats 8000000 in
theorem put_new {b0 : Nat} {H : AHeap} {bs : List Nat} (v : Int) (s : ByteArray) (x : Int) (hU : U v) (hUx : U x) (w : World) (hp : HS w b0 H bs) (hk : kk H v = 3) (hgx : gd H.2.length x = true) (h0 : ¬ 0 ≤ aKey (ob H v).keys s) (h2 : (ob H v).keys.length < 256) :
    Calls Tryz.prog 69 #[.pointer (some ⟨b0, 0, none⟩), .int .u64 v, .string s, .int .u64 x] w fun e w' => e = .returned (.int .i64 0) ∧ ∃ bs', HS w' b0 (H.1, H.2.set (idxV v).toNat (withKV (ob H v) ((ob H v).keys ++ [s]) ((ob H v).vals ++ [x]))) bs' ∧ Nx bs w w' bs' := by
  obtain ⟨vo, t, hph, rfl⟩ := hp
  have HP0 := hid hph
  have HP := hid (hph.bw ((Bw.refl w).alloc (.cells #[.int .i64 3] 3)))
  have hkr := kk_ref (H := H) (v := v) (by omega)
  have hg1 := (ob_get (H := H) hU hkr.2.1).1
  obtain ⟨g, cap, xb, xk, xl, rfl, hx, hl, hg, hkl, q0, q1, q2, q3, q4, q5, q6, hf⟩ := hph.obj hU (by omega)
  have HX := hid hx
  have HG1 := hid hg1
  have HS0 := hid (sl_new w [.int .i64 3] 3 1 rfl)
  have hoo := ob_ok (v := v) hph.ok hU hkr.2.1
  have HOO := hid hoo
  have hmo := hph.most
  have hto := hph.top
  have HKK0 := hid hkr.2.2
  obtain ⟨ak, ck, rfl⟩ := own_form hl.2.1
  obtain ⟨al, cl, rfl⟩ := own_form hl.2.2
  have HSK := hid (own_sl (G := fun _ => True) hl.2.1 (fun _ _ => trivial))
  have hkm := hoo.2.2.2.2.2.2.2
  have hlen := hoo.2.2.1 (by have := hkr.2.2; omega)
  have hok : OKo (withKV (ob H v) ((ob H v).keys ++ [s]) ((ob H v).vals ++ [x])) :=
    ⟨fun e => absurd (show (ob H v).kind = 1 from e) (by have := HKK0.out; omega), hoo.2.1, fun e => by show ((ob H v).keys ++ [s]).length = ((ob H v).vals ++ [x]).length; simp; exact hlen, fun u hu => by
      rcases List.mem_append.1 hu with h | h
      · exact hoo.2.2.2.1 u h
      · rw [List.mem_singleton] at h; exact h ▸ hUx, hoo.2.2.2.2.1, hoo.2.2.2.2.2.1, by show ((ob H v).vals ++ [x]).length ≤ 1000000; simp; omega, by show ((ob H v).keys ++ [s]).length ≤ 1000000; simp; omega⟩
  have HOK2 := hid hok
  have HLK := hid (own_bw hl.2.1 ((Bw.refl w).alloc (.cells #[.int .i64 3] 3)))
  have HLL := hid (own_bw hl.2.2 ((Bw.refl w).alloc (.cells #[.int .i64 3] 3)))
  have h6 : decide ((256 : Int) ≤ ((ob H v).keys.length : Int)) = false := decide_eq_false (by omega)
  have hneg : aKey (ob H v).keys s < 0 := by omega
  have hvl : (ob H v).vals.length < 256 := by omega
  have HL2 := hid (And.intro h2 hvl)
  have HAP := hid (HP.out.apart HX.out)
  have HDA := hid (lbs_apart (HAP.out.1))
  obtain ⟨i2, hi2, hz2, hs2, hy2⟩ := info_parts infoV
  have I2 := hid (And.intro hi2 (And.intro hz2 (And.intro hs2 hy2)))
  obtain ⟨i3, hi3, hz3, hs3, hy3⟩ := info_parts infoS
  have I3 := hid (And.intro hi3 (And.intro hz3 (And.intro hs3 hy3)))
  have HNW := hid (heap_alloc_new (w.alloc (.cells #[.int .i64 3] 3)) (.cells #[.string s] 9))
  have HQ3 := hid q3
  clear hph hl hx hg1 hoo hkr q0 q1 q3 q4 q5 q6 h0 h2 hvl hlen hok hi2 hz2 hs2 hy2 hi3 hz3 hs3 hy3
  go_enter Tryz.func69, Tryz.ntmps69
  go_wp2_with (first
    | (go_at_call 76; refine (find_yes (fun _ => True) _ hU _ [3] _ HP.out HS0.out (by decide) (by decide) (by simp [hk])).mono ?_; rintro e w' ⟨g', cap', hvo, rfl, rfl⟩; cases hvo)
    | (go_at_call 30; refine (good_any _ hUx _ HP.out).mono ?_; rintro e w' ⟨rfl, rfl⟩)
    | (go_at_call 134; refine (ixS_any (fun _ => True) _ (ob H v).keys _ _ (Sl.below HSK.out (Bw.alloc (Bw.refl _) _)) (by omega)).mono ?_; rintro e w' ⟨rfl, rfl⟩)
    | (at_builtin; refine wpList_append_row _ rfl _ _ 67 rfl 9 i3 (.string ByteArray.empty) 1 16 Tryz.underlying67 I3.out.1 I3.out.2.1 I3.out.2.2.1 I3.out.2.2.2 rfl (by decide) (.slice ak (ob H v).keys.length ck) (ob H v).keys.length ((ob H v).keys.map Value.string) rfl ?c0 ⟨w.heap.size + 1, 0, none⟩ 1 1 [.string s] rfl rfl ?c1 ?c2 ?c3 ?c4 ?_)
    | go_in)
  case c0 => exact HLK.out.alloc _
  case c1 => exact new_cells (by simpa using HNW.out) rfl
  case c2 => intro u hu; simp at hu; subst hu; rfl
  case c3 => have := HL2.out.1; unfold maxLen; omega
  case c4 => have := HL2.out.1; omega
  intro v' w5 how hgr hvb
  obtain ⟨av', cv', rfl⟩ := own_form how
  have hgw : w5.cell? ⟨g, (idxV v).toNat * 7 + 2, none⟩ = some (.slice ak (ob H v).keys.length ck) ∧ w5.frozen? ⟨g, (idxV v).toNat * 7 + 2, none⟩ = false ∧ w5.cell? ⟨g, (idxV v).toNat * 7 + 3, none⟩ = some (.slice al (ob H v).vals.length cl) ∧ w5.frozen? ⟨g, (idxV v).toNat * 7 + 3, none⟩ = false := by
    have hne : some g ≠ Value.ownBlock (.slice ak (ob H v).keys.length ck) := fun e => HAP.out.2.1 g (mem_lbs.2 (.inr (.inl e.symm))) rfl
    have hb : w5.heap[g]? = w.heap[g]? := (hgr.block g (by simp; omega) hne).trans ((Below.heap_alloc _ _ g (by simp; omega)).trans (Below.heap_alloc _ _ g hg))
    exact ⟨(World.cell?_of_block (a := ⟨g, (idxV v).toNat * 7 + 2, none⟩) hb).trans q2, (World.frozen?_of_block (a := ⟨g, (idxV v).toNat * 7 + 2, none⟩) hb).trans (hf _), (World.cell?_of_block (a := ⟨g, (idxV v).toNat * 7 + 3, none⟩) hb).trans HQ3.out, (World.frozen?_of_block (a := ⟨g, (idxV v).toNat * 7 + 3, none⟩) hb).trans (hf _)⟩
  obtain ⟨y1, y2, y3, y4⟩ := hgw
  have hg5 : g < w5.heap.size := by have := hgr.size; simp at this; omega
  have hll5 : w5.ownsRow 0 27 1 (.slice al (ob H v).vals.length cl) (ob H v).vals.length ((ob H v).vals.map (Value.int .u64)) :=
    own_same (own_bw HLL.out ((Bw.refl _).alloc (.cells #[.string s] 9))) (fun b hb => hgr.block b (by have := own_lt (own_bw HLL.out ((Bw.refl _).alloc (.cells #[.string s] 9))) hb; exact this) (fun e => HDA.out.2.1 b e.symm hb))
  have hll6 : (w5.setCell ⟨g, (idxV v).toNat * 7 + 2, none⟩ (.slice av' ((ob H v).keys.length + 1) cv')).ownsRow 0 27 1 (.slice al (ob H v).vals.length cl) (ob H v).vals.length ((ob H v).vals.map (Value.int .u64)) :=
    own_same hll5 (fun b hb => Below.heap_setCell w5 ⟨g, (idxV v).toNat * 7 + 2, none⟩ _ b (fun e => HAP.out.2.1 b (mem_lbs.2 (.inr (.inr hb))) (by rw [show b = g from e]; rfl)))
  have HLL6 := hid hll6
  have HGR := hid hgr
  have HOW := hid how
  have HVB := hid hvb
  have HN7 := hid (heap_alloc_new (w5.setCell ⟨g, (idxV v).toNat * 7 + 2, none⟩ (.slice av' ((ob H v).keys.length + 1) cv')) (.cells #[.int .u64 x] 27))
  clear how hgr hvb hll5 hll6 q2
  go_wp2_with (first
    | (at_builtin; refine wpList_append_row _ rfl _ _ 61 rfl 27 i2 (.int .u64 0) 1 8 Tryz.underlying61 I2.out.1 I2.out.2.1 I2.out.2.2.1 I2.out.2.2.2 rfl (by decide) (.slice al (ob H v).vals.length cl) (ob H v).vals.length ((ob H v).vals.map (Value.int .u64)) rfl ?d0 ⟨w5.heap.size, 0, none⟩ 1 1 [.int .u64 x] rfl rfl ?d1 ?d2 ?d3 ?d4 ?_)
    | go_in)
  case d0 => exact HLL6.out.alloc _
  case d1 => exact new_cells (by simpa using HN7.out) rfl
  case d2 => intro u hu; simp at hu; subst hu; rfl
  case d3 => have := HL2.out.2; unfold maxLen; omega
  case d4 => have := HL2.out.2; omega
  intro v7 w7 how hgr hvb
  obtain ⟨av7, cv7, rfl⟩ := own_form how
  have hgw : w7.cell? ⟨g, (idxV v).toNat * 7 + 3, none⟩ = some (.slice al (ob H v).vals.length cl) ∧ w7.frozen? ⟨g, (idxV v).toNat * 7 + 3, none⟩ = false := by
    have hne : some g ≠ Value.ownBlock (.slice al (ob H v).vals.length cl) := fun e => HAP.out.2.1 g (mem_lbs.2 (.inr (.inr e.symm))) rfl
    have hb := (hgr.block g (by simp; omega) hne).trans (Below.heap_alloc _ _ g (by simp; omega))
    refine ⟨(World.cell?_of_block (a := ⟨g, (idxV v).toNat * 7 + 3, none⟩) hb).trans ?_, (World.frozen?_of_block (a := ⟨g, (idxV v).toNat * 7 + 3, none⟩) hb).trans ?_⟩
    · simp [go_sem, y3]
    · simp [go_sem, y4]
  obtain ⟨z1, z2⟩ := hgw
  have HPP := hid (ph_put2 HP.out HG1.out HX.out s x _ _ HOK2.out HOW.out HGR.out (by simpa only [World.size_alloc] using HVB.out) how hgr (by simpa using hvb))
  clear how hgr hvb
  go_wp2
  all_goals go_ret
  all_goals exact ⟨rfl, _, HPP.out.1, Bw.nxBefore (Bw.alloc (Bw.refl _) _) HPP.out.2⟩

theorem put_any {b0 : Nat} {H : AHeap} {bs : List Nat} (v : Int) (s : ByteArray) (x : Int) (hU : U v) (hUx : U x) (w : World) (hp : HS w b0 H bs) (hcap : ∀ o ∈ H.2, o.keys.length ≤ 256) :
    Calls Tryz.prog 69 #[.pointer (some ⟨b0, 0, none⟩), .int .u64 v, .string s, .int .u64 x] w fun e w' => e = .returned (.int .i64 (aPutE H v s x)) ∧ ∃ bs', HS w' b0 (aPutH H v s x) bs' ∧ Nx bs w w' bs' := by
  unfold aPutE aPutH
  by_cases hk : kk H v = 3
  · rw [if_pos hk]
    have hle : (ob H v).keys.length ≤ 256 := hcap _ (List.mem_of_getElem? (ob_get (H := H) hU (kk_ref (by omega)).2.1).1)
    cases hg : gd H.2.length x
    · rw [if_neg (by simp), if_neg (by simp)]
      exact (put_arg v s x hU hUx w hp hk hg).mono fun e w' ⟨he, hb⟩ => ⟨he, _, hp.ly hb, hb.nx _⟩
    · rw [if_pos rfl, if_pos (show kk H v = 3 ∧ true = true from ⟨hk, rfl⟩)]
      by_cases h0 : 0 ≤ aKey (ob H v).keys s
      · rw [if_pos h0, if_pos h0]
        exact put_old v s x hU hUx w hp hk hg h0
      · rw [if_neg h0, if_neg h0]
        by_cases hl : (ob H v).keys.length = 256
        · rw [if_pos hl, if_pos hl]
          exact (put_long v s x hU hUx w hp hk hg h0 hl).mono fun e w' ⟨he, hb⟩ => ⟨he, _, hp.ly hb, hb.nx _⟩
        · rw [if_neg hl, if_neg hl]
          exact put_new v s x hU hUx w hp hk hg h0 (by omega)
  · rw [if_neg hk, if_neg (fun k => hk k.1)]
    exact (put_no v s x hU w hp (by simpa using hk)).mono fun e w' ⟨he, hb⟩ => ⟨he, _, hp.ly hb, hb.nx _⟩

end Go.Proofs.YtajnpdiepiinjaaGreatDoor
