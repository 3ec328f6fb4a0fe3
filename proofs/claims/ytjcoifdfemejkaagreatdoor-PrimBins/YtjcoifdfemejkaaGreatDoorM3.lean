/- A heap of the program with one object more: how it lies in memory. Nothing of the program's calls is in it. · The program's heap as one thing, and its blocks; from one world to the next. Nothing of the program's calls is in it. · The program keeps no object: of a nil heap, of what is too long, wrong, or one too many: the contracts. -/
import Derived.Test.YtjcoifdfemejkaaGreatDoorPDk
import Derived.Test.YtjcoifdfemejkaaGreatDoorM1
set_option linter.unusedSimpArgs false
set_option linter.unusedVariables false
namespace Go.Proofs.YtjcoifdfemejkaaGreatDoor
open Go Go.RowKit

theorem own_bw {w w' : World} {base : Nat} {e : TypeId} {size : Nat} {v : Value} {n : Nat} {xs : List Value} (h : w.ownsRow base e size v n xs) (hb : Bw w w') : w'.ownsRow base e size v n xs :=
  own_same h (fun k hk => hb.block k (own_lt h hk))

theorem pcells_snoc : ∀ (l : List AObj) (t : List (Value × Value × Value)) (o : AObj) (x : Value × Value × Value), t.length = l.length → pcells (l ++ [o]) (t ++ [x]) = pcells l t ++ pcell o x
  | [], [], _, _, _ => by simp [pcells]
  | [], _ :: _, _, _, h => by simp at h
  | _ :: _, [], _, _, h => by simp at h
  | a :: r, y :: q, o, x, h => by
    have := pcells_snoc r q o x (by simpa using h)
    simp only [List.cons_append, pcells, this, List.append_assoc]

theorem addr_add (g o j : Nat) : (⟨g, o, none⟩ : Addr).add j = ⟨g, o + j, none⟩ := by
  unfold Addr.add
  split
  · rename_i h0; subst h0; rfl
  · rfl
theorem new_cells {w : World} {g : Nat} {e : TypeId} {cur : Array Value} {l : List Value} (h : w.heap[g]? = some (.cells cur e (0, 0))) (hl : cur.toList = l) : ∀ j u, l[j]? = some u → w.cell? ((⟨g, 0, none⟩ : Addr).add j) = some u := by
  intro j u hj
  rw [addr_add, cell_of_row w g (0 + j) cur e (0, 0) h, ← Array.getElem?_toList, hl, Nat.zero_add]; exact hj
theorem pcell_one (o : AObj) (x : Value × Value × Value) (h1 : x.1.oneCell' = true) (h2 : x.2.1.oneCell' = true) (h3 : x.2.2.oneCell' = true) : ∀ u ∈ pcell o x, u.oneCell' = true := by
  intro u hu
  simp only [pcell, List.mem_cons, List.not_mem_nil, or_false] at hu
  rcases hu with rfl | rfl | rfl | rfl | rfl | rfl | rfl
  · rfl
  · exact h1
  · exact h2
  · exact h3
  · rfl
  · rfl
  · rfl

/-- The three rows of a new object: apart, and new. -/
structure New3 (w : World) (lo : Nat) (o : AObj) (x : Value × Value × Value) : Prop where
  r1 : w.ownsRow lo 5 1 x.1 o.bytes.length (o.bytes.map (Value.int .u8))
  r2 : w.ownsRow lo 9 1 x.2.1 o.keys.length (o.keys.map Value.string)
  r3 : w.ownsRow lo 27 1 x.2.2 o.vals.length (o.vals.map (Value.int .u64))
  d12 : ∀ p q, x.1.ownBlock = some p → x.2.1.ownBlock = some q → p < q
  d23 : ∀ p q, x.2.1.ownBlock = some p → x.2.2.ownBlock = some q → p < q
  d13 : ∀ p q, x.1.ownBlock = some p → x.2.2.ownBlock = some q → p < q

theorem New3.range {w : World} {lo : Nat} {o : AObj} {x : Value × Value × Value} (h : New3 w lo o x) {k : Nat} (hk : k ∈ lbs x) : lo ≤ k ∧ k < w.heap.size := by
  simp only [lbs, List.mem_append, Option.mem_toList] at hk
  rcases hk with hk | hk | hk
  · exact h.r1.lt k hk
  · exact h.r2.lt k hk
  · exact h.r3.lt k hk
theorem New3.nodup {w : World} {lo : Nat} {o : AObj} {x : Value × Value × Value} (h : New3 w lo o x) : (lbs x).Nodup := by
  obtain ⟨x1, x2, x3⟩ := x
  have d12 := h.d12
  have d23 := h.d23
  have d13 := h.d13
  simp only [lbs] at *
  cases h1 : x1.ownBlock <;> cases h2 : x2.ownBlock <;> cases h3 : x3.ownBlock <;> simp [h1, h2, h3] at d12 d23 d13 ⊢ <;> omega

theorem ph_add {w wc w5 : World} {b0 : Nat} {H : AHeap} {vo v' : Value} {t : List (Value × Value × Value)} {o : AObj} {x : Value × Value × Value} {ob : Obj} (hp : PH w b0 H vo t) (hw : Bw w wc)
    (hx : New3 wc (w.heap.size + 1) o x) (hok : OKo o) (hmost : (H.2.length : Int) < H.1)
    (ow : w5.ownsRow 0 105 7 v' (H.2.length + 1) (pcells H.2 t ++ pcell o x)) (gr : (wc.alloc ob).drew.grownBy w5 vo.ownBlock)
    (hv : v'.ownBlock = vo.ownBlock ∨ ∀ k, v'.ownBlock = some k → (wc.alloc ob).drew.heap.size ≤ k) :
    PH (w5.setCell ⟨b0, 1, none⟩ v') b0 (H.1, H.2 ++ [o]) v' (t ++ [x]) ∧ Fr (hbs b0 vo t) w (w5.setCell ⟨b0, 1, none⟩ v') ∧ (∀ b ∈ hbs b0 v' (t ++ [x]), b ∈ hbs b0 vo t ∨ w.heap.size ≤ b) := by
  have hpc := hp.bw hw
  have hsw := hw.size
  have hWs : (wc.alloc ob).drew.heap.size = wc.heap.size + 1 := show (wc.alloc ob).heap.size = _ from World.size_alloc ..
  have hal : ∀ k, k < wc.heap.size → (wc.alloc ob).drew.heap[k]? = wc.heap[k]? := fun k hk => Below.heap_alloc wc ob k hk
  have hnd := hp.nd
  simp only [hbs, List.nodup_cons, List.mem_append, Option.mem_toList, not_or, List.nodup_append] at hnd
  obtain ⟨⟨n1, n2⟩, n3, n4, n5⟩ := hnd
  have hb0 : b0 < w.heap.size := hp.blk.lt
  have hgs := gr.size
  have hvo : ∀ k, vo.ownBlock = some k → k < w.heap.size := fun k hk => own_lt hp.row hk
  have hun : ∀ k, k < wc.heap.size → k ≠ b0 → vo.ownBlock ≠ some k → (w5.setCell ⟨b0, 1, none⟩ v').heap[k]? = wc.heap[k]? := fun k hk h1 h2 => by
    rw [Below.heap_setCell w5 ⟨b0, 1, none⟩ v' k h1, gr.block k (by omega) (fun e => h2 e.symm), hal k hk]
  have hvb : v'.ownBlock ≠ some b0 := by
    rcases hv with e | e
    · rw [e]; exact n1
    · intro h; have := e b0 h; omega
  have hflat : ∀ k, k ∈ t.flatMap lbs → k < w.heap.size := fun k hk => hp.lt (by simp only [hbs, List.mem_cons, List.mem_append]; exact .inr (.inr hk))
  refine ⟨⟨?_, by simp [hp.len], ?_, ?_, ?_, ?_, hp.top, ?_⟩, ?_, ?_⟩
  · have b1 : Blk (wc.alloc ob).drew b0 #[.int .i64 H.1, vo] 102 := hpc.blk.keep (hal b0 (by omega))
    have b2 : Blk w5 b0 #[.int .i64 H.1, vo] 102 := b1.keep (gr.block b0 (by omega) (fun e => n1 e.symm))
    simpa using b2.set 1 v'
  · rw [pcells_snoc _ _ _ _ hp.len]
    simp only [List.length_append, List.length_cons, List.length_nil]
    exact own_same ow (fun k hk => Below.heap_setCell w5 ⟨b0, 1, none⟩ v' k (fun e => hvb ((show k = b0 from e) ▸ hk)))
  · intro i o' x' ho' hx'
    by_cases hi : i < H.2.length
    · have ho : H.2[i]? = some o' := by rw [List.getElem?_append_left hi] at ho'; exact ho'
      have hxx : t[i]? = some x' := by rw [List.getElem?_append_left (by rw [hp.len]; exact hi)] at hx'; exact hx'
      refine (hpc.ls i o' x' ho hxx).same (fun k hk => ?_)
      have hmem : k ∈ t.flatMap lbs := List.mem_flatMap.2 ⟨x', List.mem_of_getElem? hxx, hk⟩
      have hkl := hflat k hmem
      exact hun k (by omega) (fun e => n2 (e ▸ hmem)) (fun e => n5 k e k hmem rfl)
    · have hil : i = H.2.length := by
        have h2 : i < (H.2 ++ [o]).length := (List.getElem?_eq_some_iff.1 ho').1
        simp at h2; omega
      subst hil
      have e1 : o' = o := by
        rw [List.getElem?_append_right (Nat.le_refl _)] at ho'; simpa using ho'.symm
      have e2 : x' = x := by
        rw [List.getElem?_append_right (by rw [hp.len]; exact Nat.le_refl _), hp.len] at hx'; simpa using hx'.symm
      subst e1 e2
      have hsame : ∀ k ∈ lbs x', (w5.setCell ⟨b0, 1, none⟩ v').heap[k]? = wc.heap[k]? := fun k hk => by
        have hr := hx.range hk
        exact hun k hr.2 (by omega) (fun e => by have := hvo k e; omega)
      exact PL.same ⟨own_base hx.r1 (Nat.zero_le _), own_base hx.r2 (Nat.zero_le _), own_base hx.r3 (Nat.zero_le _)⟩ hsame
  · simp only [hbs, List.nodup_cons, List.mem_append, Option.mem_toList, not_or, List.nodup_append, List.flatMap_append, List.flatMap_cons, List.flatMap_nil, List.append_nil]
    refine ⟨⟨hvb, n2, fun h => by have := (hx.range h).1; omega⟩, ?_, ⟨n4, hx.nodup, fun a ha b hb e => by have := hflat a ha; have := (hx.range hb).1; omega⟩, ?_⟩
    · cases v'.ownBlock <;> simp
    · intro a ha b hb e
      subst e
      rcases hv with e | e
      · rw [e] at ha
        rcases hb with hb | hb
        · exact n5 a ha a hb rfl
        · have := hvo a ha; have := (hx.range hb).1; omega
      · have h1 := e a ha
        rcases hb with hb | hb
        · have := hflat a hb; omega
        · have := (hx.range hb).2; omega
  · simp only [List.length_append, List.length_cons, List.length_nil]; omega
  · intro o' ho'
    rcases List.mem_append.1 ho' with h | h
    · exact hp.ok o' h
    · rw [List.mem_singleton] at h; exact h ▸ hok
  · have hos : (wc.alloc ob).drew.os = wc.os ∧ (wc.alloc ob).drew.tape = wc.tape ∧ (wc.alloc ob).drew.output = wc.output := ⟨rfl, rfl, rfl⟩
    refine ⟨gr.os.trans (hos.1.trans hw.os), gr.tape.trans (hos.2.1.trans hw.tape), gr.output.trans (hos.2.2.trans hw.output), ?_, ?_⟩
    · have : (w5.setCell ⟨b0, 1, none⟩ v').heap.size = w5.heap.size := by simp
      omega
    · intro b hb hn
      simp only [hbs, List.mem_cons, List.mem_append, Option.mem_toList, not_or] at hn
      rw [hun b (by omega) hn.1 hn.2.1]
      exact hw.block b hb
  · intro b hb
    simp only [hbs, List.mem_cons, List.mem_append, Option.mem_toList, List.flatMap_append, List.flatMap_cons, List.flatMap_nil, List.append_nil] at hb ⊢
    rcases hb with hb | hb | hb | hb
    · exact .inl (.inl hb)
    · rcases hv with e | e
      · exact .inl (.inr (.inl (e ▸ hb)))
      · have := e b hb; exact .inr (by omega)
    · exact .inl (.inr (.inr hb))
    · exact .inr (by have := (hx.range hb).1; omega)

/-- Behind the three copies: the new object's own rows. -/
theorem cut9 {w W w1 w2 w3 : World} {o : AObj} {yb yk yl x1 x2 x3 : Value} (HB : Blk W w.heap.size #[.int .i64 o.kind, yb, yk, yl, .int .i64 o.num, .int .u64 o.re, .int .u64 o.im] 105) (HW : Bw w W)
    (O1 : w1.ownsRow W.drew.heap.size 5 1 x1 o.bytes.length (o.bytes.map (Value.int .u8))) (B1 : Bw W.drew w1)
    (O2 : w2.ownsRow w1.heap.size 9 1 x2 o.keys.length (o.keys.map Value.string)) (B2 : Bw w1 w2)
    (O3 : w3.ownsRow w2.heap.size 27 1 x3 o.vals.length (o.vals.map (Value.int .u64))) (B3 : Bw w2 w3) :
    Blk (((w3.setCell ⟨w.heap.size, 1, none⟩ x1).setCell ⟨w.heap.size, 2, none⟩ x2).setCell ⟨w.heap.size, 3, none⟩ x3) w.heap.size #[.int .i64 o.kind, x1, x2, x3, .int .i64 o.num, .int .u64 o.re, .int .u64 o.im] 105 ∧
    New3 (((w3.setCell ⟨w.heap.size, 1, none⟩ x1).setCell ⟨w.heap.size, 2, none⟩ x2).setCell ⟨w.heap.size, 3, none⟩ x3) (w.heap.size + 1) o (x1, x2, x3) ∧
    Bw w (((w3.setCell ⟨w.heap.size, 1, none⟩ x1).setCell ⟨w.heap.size, 2, none⟩ x2).setCell ⟨w.heap.size, 3, none⟩ x3) := by
  have hB3 : Blk w3 w.heap.size _ _ := ((Blk.bw (w := W.drew) HB B1).bw B2).bw B3
  have hl := HB.lt
  have s1 : W.heap.size ≤ w1.heap.size := B1.size
  have s2 := B2.size
  have s3 := B3.size
  have p1 := own_base O1 (show w.heap.size + 1 ≤ W.drew.heap.size from hl)
  have p2 := own_base O2 (show w.heap.size + 1 ≤ w1.heap.size by omega)
  have p3 := own_base O3 (show w.heap.size + 1 ≤ w2.heap.size by omega)
  refine ⟨by simpa using ((hB3.set 1 x1).set 2 x2).set 3 x3, ⟨?_, ?_, ?_, ?_, ?_, ?_⟩, ?_⟩
  · exact ownsRow_setCell_below (ownsRow_setCell_below (ownsRow_setCell_below (own_bw (own_bw p1 B2) B3) (Nat.lt_succ_self _) _) (Nat.lt_succ_self _) _) (Nat.lt_succ_self _) _
  · exact ownsRow_setCell_below (ownsRow_setCell_below (ownsRow_setCell_below (own_bw p2 B3) (Nat.lt_succ_self _) _) (Nat.lt_succ_self _) _) (Nat.lt_succ_self _) _
  · exact ownsRow_setCell_below (ownsRow_setCell_below (ownsRow_setCell_below p3 (Nat.lt_succ_self _) _) (Nat.lt_succ_self _) _) (Nat.lt_succ_self _) _
  · intro p q hp hq; have := own_lt O1 hp; have := (O2.lt q hq).1; omega
  · intro p q hp hq; have := own_lt O2 hp; have := (O3.lt q hq).1; omega
  · intro p q hp hq; have := own_lt O1 hp; have := (O3.lt q hq).1; omega
  · exact Bw.setCell (Bw.setCell (Bw.setCell (((Bw.drew HW).trans B1).trans B2 |>.trans B3) (p := ⟨w.heap.size, 1, none⟩) (Nat.le_refl _) _) (p := ⟨w.heap.size, 2, none⟩) (Nat.le_refl _) _) (p := ⟨w.heap.size, 3, none⟩) (Nat.le_refl _) _

end Go.Proofs.YtjcoifdfemejkaaGreatDoor

set_option linter.unusedSimpArgs false
set_option linter.unusedVariables false
namespace Go.Proofs.YtjcoifdfemejkaaGreatDoor
open Go Go.RowKit

/-- The block b0 is a heap of the program that reads as H, in the blocks bs. -/
def HS (w : World) (b0 : Nat) (H : AHeap) (bs : List Nat) : Prop := ∃ vo t, PH w b0 H vo t ∧ bs = hbs b0 vo t
/-- From one world to the next: only these blocks may turn; the heap's blocks then are of them, or new. -/
def Nx (bs : List Nat) (w w' : World) (bs' : List Nat) : Prop := Fr bs w w' ∧ ∀ b ∈ bs', b ∈ bs ∨ w.heap.size ≤ b

theorem Nx.trans {a b c : World} {bs bs1 bs2 : List Nat} (h : Nx bs a b bs1) (k : Nx bs1 b c bs2) : Nx bs a c bs2 :=
  ⟨h.1.trans k.1 h.2, fun x hx => (k.2 x hx).elim (fun hm => h.2 x hm) (fun hh => .inr (Nat.le_trans h.1.size hh))⟩
theorem Bw.nx {a b : World} (h : Bw a b) (bs : List Nat) : Nx bs a b bs := ⟨h.fr bs, fun x hx => .inl hx⟩
theorem Ly.nx {a b : World} (h : Ly a b) (bs : List Nat) : Nx bs a b bs := h.bw.nx bs
theorem Bw.nxBefore {a b c : World} {bs bs' : List Nat} (h : Bw a b) (k : Nx bs b c bs') : Nx bs a c bs' := (h.nx bs).trans k
theorem HS.bw {w w' : World} {b0 : Nat} {H : AHeap} {bs : List Nat} (h : HS w b0 H bs) (hb : Bw w w') : HS w' b0 H bs := by
  obtain ⟨vo, t, h, rfl⟩ := h
  exact ⟨vo, t, h.bw hb, rfl⟩
theorem HS.ly {w w' : World} {b0 : Nat} {H : AHeap} {bs : List Nat} (h : HS w b0 H bs) (hb : Ly w w') : HS w' b0 H bs := h.bw hb.bw
theorem HS.lt {w : World} {b0 : Nat} {H : AHeap} {bs : List Nat} (h : HS w b0 H bs) {k : Nat} (hk : k ∈ bs) : k < w.heap.size := by
  obtain ⟨vo, t, h, rfl⟩ := h
  exact h.lt hk
theorem HS.ok {w : World} {b0 : Nat} {H : AHeap} {bs : List Nat} (h : HS w b0 H bs) : HOK H := by
  obtain ⟨vo, t, h, rfl⟩ := h
  exact h.ok
theorem HS.most {w : World} {b0 : Nat} {H : AHeap} {bs : List Nat} (h : HS w b0 H bs) : (H.2.length : Int) ≤ H.1 ∧ H.1 ≤ 65536 := by
  obtain ⟨vo, t, h, rfl⟩ := h
  exact ⟨h.most, h.top⟩
theorem HS.fr {w w' : World} {b0 : Nat} {H : AHeap} {bs bs' : List Nat} (h : HS w b0 H bs) (hb : Fr bs' w w') (hd : ∀ k ∈ bs, k ∉ bs') : HS w' b0 H bs := by
  obtain ⟨vo, t, h, rfl⟩ := h
  exact ⟨vo, t, h.fr hb hd, rfl⟩

/-- The object of a word, where it lies. -/
theorem PH.obj {w : World} {b0 : Nat} {H : AHeap} {vo : Value} {t : List (Value × Value × Value)} (h : PH w b0 H vo t) {v : Int} (hU : U v) (hk : kk H v ≠ 0) :
    ∃ g cap xb xk xl, vo = .slice (some ⟨g, 0, none⟩) H.2.length cap ∧ t[(idxV v).toNat]? = some (xb, xk, xl) ∧ PL w (ob H v) (xb, xk, xl) ∧ g < w.heap.size ∧ (idxV v).toNat < H.2.length ∧
      w.cell? ⟨g, (idxV v).toNat * 7, none⟩ = some (.int .i64 (kk H v)) ∧ w.cell? ⟨g, (idxV v).toNat * 7 + 1, none⟩ = some xb ∧ w.cell? ⟨g, (idxV v).toNat * 7 + 2, none⟩ = some xk ∧ w.cell? ⟨g, (idxV v).toNat * 7 + 3, none⟩ = some xl ∧
      w.cell? ⟨g, (idxV v).toNat * 7 + 4, none⟩ = some (.int .i64 (ob H v).num) ∧ w.cell? ⟨g, (idxV v).toNat * 7 + 5, none⟩ = some (.int .u64 (ob H v).re) ∧ w.cell? ⟨g, (idxV v).toNat * 7 + 6, none⟩ = some (.int .u64 (ob H v).im) ∧
      (∀ j, w.frozen? ⟨g, j, none⟩ = false) := by
  have hkr := kk_ref hk
  obtain ⟨hg, _⟩ := ob_get (H := H) hU hkr.2.1
  have hl : (idxV v).toNat < H.2.length := (List.getElem?_eq_some_iff.1 hg).1
  obtain ⟨g, cap, ⟨xb, xk, xl⟩, e, hx, hgs, hc, hf⟩ := h.at hl
  have ho : H.2[(idxV v).toNat] = ob H v := by
    have := List.getElem?_eq_getElem hl
    rw [hg] at this
    exact (Option.some.inj this).symm
  rw [ho] at hc
  rw [hkr.2.2]
  exact ⟨g, cap, xb, xk, xl, e, hx, h.ls _ _ _ hg hx, hgs, hl, hc 0 (by omega), hc 1 (by omega), hc 2 (by omega), hc 3 (by omega), hc 4 (by omega), hc 5 (by omega), hc 6 (by omega), hf⟩

/-- A list of ints that was just laid. -/
theorem sl_new (w : World) (l : List Value) (e : TypeId) (n : Nat) (hn : l.length = n) : Sl (w.alloc (.cells l.toArray e)) (fun _ => True) (.slice (some ⟨w.heap.size, 0, none⟩) n n) n 1 l := by
  refine ⟨by omega, _, n, rfl, ⟨Nat.le_refl _, fun h => by cases h⟩, .inr ⟨_, 0, rfl, by simp, trivial, fun i hi => ?_⟩⟩
  have h := heap_alloc_new w (.cells l.toArray e)
  rw [cell_of_row _ _ _ _ _ _ h]
  simp

end Go.Proofs.YtjcoifdfemejkaaGreatDoor

set_option linter.unusedSimpArgs false
set_option linter.unusedVariables false
namespace Go.Proofs.YtjcoifdfemejkaaGreatDoor
open Go Go.RowKit

set_option maxHeartbeats 2000000 in
theorem add_nil (o : AObj) (vb vk vl : Value) (w : World) (hv : ∃ a n c, vb = .slice a n c) (hk : ∃ a n c, vk = .slice a n c) (hl : ∃ a n c, vl = .slice a n c) :
    Calls Tryz.prog 56 #[.pointer none, pobj o (vb, vk, vl)] w fun e w' => e = .returned (.tuple #[.int .u64 0, .int .i64 5]) ∧ Ly w w' := by
  obtain ⟨a1, n1, c1, rfl⟩ := hv
  obtain ⟨a2, n2, c2, rfl⟩ := hk
  obtain ⟨a3, n3, c3, rfl⟩ := hl
  go_enter Tryz.func56, Tryz.ntmps56
  go_wp2
  go_ret2
  exact ⟨rfl, by repeat (first | exact Ly.refl _ | apply Ly.lay | apply Ly.alloc | apply Ly.drewN | apply Ly.drew)⟩

set_option maxHeartbeats 4000000 in
theorem add_long (G : Nat → Prop) {b0 : Nat} {H : AHeap} {vo : Value} {t : List (Value × Value × Value)} (o : AObj) (x : Value × Value × Value) (w : World) (hp : PH w b0 H vo t) (h : PO w G o x) (m1 : o.bytes.length ≤ 9223372036854775807) (m2 : o.vals.length ≤ 9223372036854775807) (m3 : o.keys.length ≤ 9223372036854775807) (hlong : pLong o = true) :
    Calls Tryz.prog 56 #[.pointer (some ⟨b0, 0, none⟩), pobj o x] w fun e w' => e = .returned (.tuple #[.int .u64 0, .int .i64 2]) ∧ Ly w w' := by
  obtain ⟨vb, vk, vl⟩ := x
  have HO := hid h
  obtain ⟨ab, cb, rfl⟩ := h.1.form
  obtain ⟨ak, ck, rfl⟩ := h.2.1.form
  obtain ⟨al, cl, rfl⟩ := h.2.2.form
  clear h hp
  go_enter Tryz.func56, Tryz.ntmps56
  go_wp2_with (first
    | (go_at_call 110; refine (tooLong_any G o _ _ (PO.bw HO.out (Bw.alloc (Bw.refl _) _)) (by omega) (by omega) (by omega)).mono ?_; rintro e w' ⟨rfl, os1, m1, rfl⟩))
  go_ret2
  exact ⟨rfl, by repeat (first | exact Ly.refl _ | apply Ly.lay | apply Ly.alloc | apply Ly.drewN | apply Ly.drew)⟩

set_option maxHeartbeats 4000000 in
theorem add_arg (G : Nat → Prop) {b0 : Nat} {H : AHeap} {vo : Value} {t : List (Value × Value × Value)} (o : AObj) (x : Value × Value × Value) (w : World) (hp : PH w b0 H vo t) (h : PO w G o x) (hU : ∀ v ∈ o.vals, U v) (m1 : o.bytes.length ≤ 1000000000) (m2 : o.vals.length ≤ 1000000000) (m3 : o.keys.length ≤ 1000000000) (hlong : pLong o = false) (hs : pSound H.2.length o = false) :
    Calls Tryz.prog 56 #[.pointer (some ⟨b0, 0, none⟩), pobj o x] w fun e w' => e = .returned (.tuple #[.int .u64 0, .int .i64 1]) ∧ Ly w w' := by
  obtain ⟨vb, vk, vl⟩ := x
  have HO := hid h
  have HP := hid hp
  have HU := hid hU
  obtain ⟨ab, cb, rfl⟩ := h.1.form
  obtain ⟨ak, ck, rfl⟩ := h.2.1.form
  obtain ⟨al, cl, rfl⟩ := h.2.2.form
  clear h hp hU
  go_enter Tryz.func56, Tryz.ntmps56
  go_wp2_with (first
    | (go_at_call 110; refine (tooLong_any G o _ _ (PO.bw HO.out (Bw.alloc (Bw.refl _) _)) (by omega) (by omega) (by omega)).mono ?_; rintro e w' ⟨rfl, os1, m1, rfl⟩)
    | (go_at_call 111; refine (sound_any G o _ _ (PH.ly HP.out (by repeat (first | exact Ly.refl _ | apply Ly.lay | apply Ly.alloc | apply Ly.drewN | apply Ly.drew))) (PO.bw HO.out (Ly.bw (by repeat (first | exact Ly.refl _ | apply Ly.lay | apply Ly.alloc | apply Ly.drewN | apply Ly.drew)))) HU.out (by omega) (by omega) (by omega)).mono ?_; rintro e w' ⟨rfl, os2, m2, rfl⟩))
  go_ret2
  exact ⟨rfl, by repeat (first | exact Ly.refl _ | apply Ly.lay | apply Ly.alloc | apply Ly.drewN | apply Ly.drew)⟩

set_option maxHeartbeats 4000000 in
theorem add_many (G : Nat → Prop) {b0 : Nat} {H : AHeap} {vo : Value} {t : List (Value × Value × Value)} (o : AObj) (x : Value × Value × Value) (w : World) (hp : PH w b0 H vo t) (h : PO w G o x) (hU : ∀ v ∈ o.vals, U v) (m1 : o.bytes.length ≤ 1000000000) (m2 : o.vals.length ≤ 1000000000) (m3 : o.keys.length ≤ 1000000000) (hlong : pLong o = false) (hs : pSound H.2.length o = true) (hmost : H.1 ≤ (H.2.length : Int)) :
    Calls Tryz.prog 56 #[.pointer (some ⟨b0, 0, none⟩), pobj o x] w fun e w' => e = .returned (.tuple #[.int .u64 0, .int .i64 3]) ∧ Ly w w' := by
  obtain ⟨vb, vk, vl⟩ := x
  have HO := hid h
  have HP := hid hp
  have HU := hid hU
  obtain ⟨ab, cb, rfl⟩ := h.1.form
  obtain ⟨ak, ck, rfl⟩ := h.2.1.form
  obtain ⟨al, cl, rfl⟩ := h.2.2.form
  obtain ⟨ao, co, rfl⟩ := own_form hp.row
  have z0 := hp.blk.cell
  have hb0 : b0 < w.heap.size := hp.blk.lt
  have hll := hp.most
  have hlt := hp.top
  clear h hp hU
  go_enter Tryz.func56, Tryz.ntmps56
  go_upto_region 7 with (first
    | (go_at_call 110; refine (tooLong_any G o _ _ (PO.bw HO.out (Bw.alloc (Bw.refl _) _)) (by omega) (by omega) (by omega)).mono ?_; rintro e w' ⟨rfl, os1, m1, rfl⟩)
    | (go_at_call 111; refine (sound_any G o _ _ (PH.ly HP.out (by repeat (first | exact Ly.refl _ | apply Ly.lay | apply Ly.alloc | apply Ly.drewN | apply Ly.drew))) (PO.bw HO.out (Ly.bw (by repeat (first | exact Ly.refl _ | apply Ly.lay | apply Ly.alloc | apply Ly.drewN | apply Ly.drew)))) HU.out (by omega) (by omega) (by omega)).mono ?_; rintro e w' ⟨rfl, os2, m2, rfl⟩))
  go_region
  all_goals go_wp2
  all_goals go_ret2
  all_goals exact ⟨rfl, by repeat (first | exact Ly.refl _ | apply Ly.lay | apply Ly.alloc | apply Ly.drewN | apply Ly.drew)⟩

end Go.Proofs.YtjcoifdfemejkaaGreatDoor

