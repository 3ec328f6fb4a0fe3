/- The document's maker of objects: the contract. -/
import Derived.Test.YtjcoifdfemejkaaGreatDoorM9
import Derived.Test.YtjcoifdfemejkaaGreatDoorR3Ck
import Derived.Test.YtjcoifdfemejkaaGreatDoorM1
import Derived.Test.YtjcoifdfemejkaaGreatDoorM3
import Derived.Deep.RegionLaw
set_option linter.unusedSimpArgs false
set_option linter.unusedVariables false
namespace Go.Proofs.YtjcoifdfemejkaaGreatDoor
open Go Go.RowKit

theorem RdH.any {w : World} {G : Nat → Prop} {v : Value} {H : AHeap} (h : RdH w G v H) : RdH w (fun _ => True) v H := h.keep (Nat.le_refl _) (fun _ _ _ => rfl) (fun _ _ _ => trivial)

theorem OL.any {w : World} {G : Nat → Prop} {o : AObj} {vb vv vk : Value} (h : OL w G o vb vv vk) : OL w (fun _ => True) o vb vv vk := h.keep (Nat.le_refl _) (fun _ _ _ => rfl) (fun _ _ _ => trivial)

theorem step_append_sl {P : Program} {ops : Array Oper} {o : Oper} {a : Act} {w : World} {K : Act → World → Prop} {Q : Exit → Act → World → Prop} {E : Prop} {G : Nat → Prop}
    (hgd : o.guard = none) (s x : Operand) (t : TypeId) (ho : o.op = Op.call { callee := Callee.builtin Builtin.append, args := #[s, x], argTypes := #[t, t] })
    (base : Nat) (e : TypeId) (i : TypeInfo) (z : Value) (size bytes : Nat) (ht : P.underlying t = some (.slice e)) (hi : P.info? e = some i) (hz : i.zero = some z)
    (hsize : i.size = size) (hby : i.bytes = bytes) (hzs : z.cells.size = size) (hsz : 0 < size)
    (v : Value) (n : Nat) (xs : List Value) (hs : a.eval s = v) (hown : w.ownsRow base e size v n xs)
    (xv : Value) (m : Nat) (news : List Value) (hx : a.eval x = xv) (hsl : Sl w G xv m size news) (h1 : ∀ u ∈ news, u.oneCell' = true)
    (h63 : n + m ≤ maxLen) (hbytes : (n + m) * bytes ≤ 140737488355328) (hbase : base ≤ w.heap.size)
    (h : ∀ v' w', w'.ownsRow base e size v' (n + m) (xs ++ news) → w.grownBy w' v.ownBlock → K (a.put o.dst v') w') :
    if Region.wanted o (yielded ops a.tmps) = true then Oper.wp P o a w K Q else E := by
  have hw : Region.wanted o (yielded ops a.tmps) = true := by simp [Region.wanted, hgd]
  rw [if_pos hw]
  obtain ⟨hl, ad, cap, rfl, hn, hc⟩ := hsl
  cases ad with
  | none =>
    obtain rfl : cap = 0 := hn.2 rfl
    obtain rfl : m = 0 := by have := hn.1; omega
    have hnews : news = [] := List.eq_nil_of_length_eq_zero (by simpa using hl)
    subst hnews
    have hrun := run_append_owned_none (P := P) (w := w) base t o.type e i size ht hi v n xs hown
    unfold Oper.wp execOp
    simp only [ho, resolve, invoke, builtin, Sem.run_bind, Sem.run_pure, Result.andThen_ok, List.map_toArray, List.map_cons, List.map_nil, hs, hx, hrun]
    exact h v w (by simpa using hown) (grown_refl w _)
  | some ad =>
    have hcell : ∀ j u, news[j]? = some u → w.cell? (ad.add j) = some u := by
      intro j u hj
      have hjl : j < news.length := (List.getElem?_eq_some_iff.1 hj).1
      rcases hc with rfl | ⟨b, off, he, hlt, hg, hcs⟩
      · have h0 : news.length = 0 := by rw [hl]; omega
        omega
      · cases he
        have e1 : (⟨b, off, none⟩ : Addr).add j = ⟨b, off + j, none⟩ := by
          unfold Addr.add
          split
          · rename_i h0; subst h0; rfl
          · rfl
        rw [e1, hcs j (by omega), hj]
    obtain ⟨v', w', hr, h2, h3, _⟩ := run_append_own (P := P) w base t o.type e i z size bytes ht hi hz hsize hby hzs hsz v n xs hown ad m cap news hl hcell h1 h63 hbytes hbase
    unfold Oper.wp execOp
    simp only [ho, resolve, invoke, builtin, Sem.run_bind, Sem.run_pure, Result.andThen_ok, List.map_toArray, List.map_cons, List.map_nil, hs, hx, hr]
    exact h v' w' h2 h3

theorem own_diff' {g b n cap : Nat} (h : b ≠ g) : some b ≠ Value.ownBlock (.slice (some ⟨g, 0, none⟩) n cap) := fun e => h (Option.some.inj e)

theorem Blk.drew {w : World} {g : Nat} {cur : Array Value} {e : TypeId} (h : Blk w g cur e) : Blk w.drew g cur e := h

theorem sl_new7 (w : World) (l : List Value) (e : TypeId) (hl : l.length = 7) : Sl (w.alloc (.cells l.toArray e)) (fun _ => True) (.slice (some ⟨w.heap.size, 0, none⟩) 1 1) 1 7 l := by
  refine ⟨by omega, _, 1, rfl, ⟨Nat.le_refl _, fun h => by cases h⟩, .inr ⟨_, 0, rfl, by simp, trivial, fun i hi => ?_⟩⟩
  have h := heap_alloc_new w (.cells l.toArray e)
  rw [cell_of_row _ _ _ _ _ _ h]
  simp

theorem ocells_one (o : AObj) (xb xv xk : Value) (h1 : xb.oneCell' = true) (h2 : xv.oneCell' = true) (h3 : xk.oneCell' = true) : ∀ u ∈ [Value.int .i64 o.kind, xb, xv, xk, .int .i64 o.num, .int .u64 o.re, .int .u64 o.im], u.oneCell' = true := by
  intro u hu
  simp at hu
  rcases hu with rfl | rfl | rfl | rfl | rfl | rfl | rfl <;> first | rfl | assumption

theorem after6 {w w5 w6 : World} {ob : Obj} {c0 c1 c2 : Array Value} {v : Value} {n : Nat} {xs : List Value} {base : Nat} {x1 x2 x3 : Value} {n1 n2 n3 : Nat} {l1 l2 l3 : List Value}
    (b0 : Blk w5 w.heap.size c0 32) (b1 : Blk w5 (w.heap.size + 1) c1 50) (b2 : Blk w5 (w.heap.size + 1 + 1) c2 32) (hrow : w5.ownsRow (w.heap.size + 3) 50 7 v n xs)
    (o1 : w5.ownsRow base 5 1 x1 n1 l1) (o2 : w5.ownsRow base 27 1 x2 n2 l2) (o3 : w5.ownsRow base 9 1 x3 n3 l3) (hw : Bw w w5) (hg : (w5.alloc ob).grownBy w6 v.ownBlock) :
    Blk w6 w.heap.size c0 32 ∧ Blk w6 (w.heap.size + 1) c1 50 ∧ Blk w6 (w.heap.size + 1 + 1) c2 32 ∧ w6.ownsRow base 5 1 x1 n1 l1 ∧ w6.ownsRow base 27 1 x2 n2 l2 ∧ w6.ownsRow base 9 1 x3 n3 l3 ∧ Bw w w6 := by
  have hne : ∀ q, q < w.heap.size + 3 → some q ≠ v.ownBlock := fun q hq e => by have := (hrow.lt _ e.symm).1; omega
  have hrow' := hrow.alloc ob
  refine ⟨(b0.alloc ob).keep (hg.block _ (b0.alloc ob).lt (hne _ (by omega))), (b1.alloc ob).keep (hg.block _ (b1.alloc ob).lt (hne _ (by omega))), (b2.alloc ob).keep (hg.block _ (b2.alloc ob).lt (hne _ (by omega))), ?_, ?_, ?_, bw_grown (Bw.alloc hw ob) (by omega) hrow' hg⟩
  · exact (o1.alloc ob).kept hg (own_apart (own_base hrow' (Nat.zero_le _)) (own_base (o1.alloc ob) (Nat.zero_le _)) (by decide))
  · exact (o2.alloc ob).kept hg (own_apart (own_base hrow' (Nat.zero_le _)) (own_base (o2.alloc ob) (Nat.zero_le _)) (by decide))
  · exact (o3.alloc ob).kept hg (own_apart (own_base hrow' (Nat.zero_le _)) (own_base (o3.alloc ob) (Nat.zero_le _)) (by decide))

theorem hcells_snoc : ∀ (l : List AObj) (t : List (Value × Value × Value)) (o : AObj) (x : Value × Value × Value), t.length = l.length → hcells (l ++ [o]) (t ++ [x]) = hcells l t ++ ocells o x.1 x.2.1 x.2.2
  | [], [], o, x, _ => by simp [hcells]
  | [], _ :: _, _, _, h => by simp at h
  | _ :: _, [], _, _, h => by simp at h
  | a :: r, y :: q, o, x, h => by
    simp only [List.cons_append, hcells, hcells_snoc r q o x (by simpa using h), List.append_assoc]

theorem rdh_snoc {w w6 W : World} {G : Nat → Prop} {H : AHeap} {o : AObj} {t : List (Value × Value × Value)} {v x1 x2 x3 : Value} {base : Nat} (hG : ∀ b, w.heap.size ≤ b → G b) (ht : t.length = H.2.length)
    (hall : ∀ (i : Nat) (o : AObj) (x : Value × Value × Value), H.2[i]? = some o → t[i]? = some x → OL w G o x.1 x.2.1 x.2.2)
    (hrow : w6.ownsRow (w.heap.size + 3) 50 7 v (H.2.length + 1) (hcells H.2 t ++ ocells o x1 x2 x3)) (hb : w.heap.size + 3 ≤ base)
    (o1 : w6.ownsRow base 5 1 x1 o.bytes.length (o.bytes.map (Value.int .u8))) (o2 : w6.ownsRow base 27 1 x2 o.vals.length (o.vals.map (Value.int .u64))) (o3 : w6.ownsRow base 9 1 x3 o.keys.length (o.keys.map Value.string))
    (hW : ∀ b, w.heap.size + 3 ≤ b → W.heap[b]? = w6.heap[b]?) (hbw : Bw w W) : RdH W G (.agg #[.int .i64 H.1, v]) (H.1, H.2 ++ [o]) := by
  have hk : ∀ {bs : Nat} {e : TypeId} {sz : Nat} {v : Value} {n : Nat} {xs : List Value}, w.heap.size + 3 ≤ bs → w6.ownsRow bs e sz v n xs → Sl W G v n sz xs := fun hbs h =>
    own_sl (own_same h (fun k hk => hW k (by have := (h.lt k hk).1; omega))) (fun b hb => hG b (by omega))
  refine ⟨v, t ++ [(x1, x2, x3)], rfl, by simp [ht], ?_, fun i o' x' ho hx => ?_⟩
  · show Sl W G v (H.2 ++ [o]).length 7 (hcells (H.2 ++ [o]) (t ++ [(x1, x2, x3)]))
    rw [hcells_snoc _ _ _ _ ht, List.length_append, List.length_singleton]
    exact hk (Nat.le_refl _) hrow
  · by_cases hi : i < H.2.length
    · rw [show (H.1, H.2 ++ [o]).2[i]? = (H.2 ++ [o])[i]? from rfl, List.getElem?_append_left hi] at ho
      rw [List.getElem?_append_left (by omega)] at hx
      exact (hall i o' x' ho hx).below hbw
    · rw [show (H.1, H.2 ++ [o]).2[i]? = (H.2 ++ [o])[i]? from rfl, List.getElem?_append_right (by omega)] at ho
      rw [List.getElem?_append_right (by omega)] at hx
      have h0 : i - H.2.length = 0 := by
        cases h3 : i - H.2.length with
        | zero => rfl
        | succ n => rw [h3] at ho; simp at ho
      rw [h0] at ho
      rw [ht, h0] at hx
      simp at ho hx
      subst ho hx
      exact ⟨hk hb o1, hk hb o2, hk hb o3⟩

/-- What the document answers to a call that makes an object. -/
def dMakeE (H : AHeap) (o : AObj) : Int := if aLong o = true then 2 else if aRight H.2.length o = false then 1 else if H.1 ≤ (H.2.length : Int) then 3 else 0

def dMakeV (H : AHeap) (o : AObj) : Int := if dMakeE H o = 0 then 4 * (H.2.length : Int) + 2 else 0

def dMakeH (H : AHeap) (o : AObj) : AHeap := if dMakeE H o = 0 then (H.1, H.2 ++ [o]) else H

set_option maxRecDepth 100000 in
set_option maxHeartbeats 4000000 in
theorem rmake_long (G G2 : Nat → Prop) (hv : Value) (H : AHeap) (o : AObj) (vb vv vk : Value) (w : World) (hGn : ∀ b, w.heap.size ≤ b → G b) (h : RdH w G hv H) (hol : OL w G2 o vb vv vk) (hU : ∀ v ∈ o.vals, U v) (hm : H.2.length ≤ 1000000) (l1 : o.bytes.length ≤ 1000000) (l2 : o.vals.length ≤ 1000000) (l3 : o.keys.length ≤ 1000000) (hl : aLong o = true) :
    Calls Tryz.prog 24 #[hv, objV o vb vv vk] w fun e w' => e = .returned (.tuple #[hv, .int .u64 0, .int .i64 2]) ∧ Bw w w' := by
  have HR := hid h
  have HO := hid hol
  have HU := hid hU
  have HGN := hid hGn
  obtain ⟨ab, cb, rfl⟩ := HO.out.1.form
  obtain ⟨av, cv, rfl⟩ := HO.out.2.1.form
  obtain ⟨ak, ck, rfl⟩ := HO.out.2.2.form
  obtain ⟨va, t, rfl, ht, hs, hall⟩ := h
  obtain ⟨ah, ch, rfl⟩ := hs.form
  clear hol hU hGn
  have HL := hid hl
  clear hl
  clear ht hs hall
  go_enter Tryz.func24, Tryz.ntmps24
  go_wp2_with (first
    | (go_at_call 67; refine (rlong_any G2 o _ _ _ _ (OL.below HO.out (Ly.bw (by repeat (first | exact Ly.refl _ | apply Ly.lay | apply Ly.alloc | apply Ly.drewN | apply Ly.drew)))) (by omega) (by omega) (by omega)).mono ?_; rw [HL.out]; rintro e w' ⟨rfl, os1, m1, rfl⟩))
  refine bodyPost_ret (v := .tuple #[.agg #[.int .i64 H.1, .slice ah H.2.length ch], .int .u64 0, .int .i64 2]) (by simp [results, Tryz.results24, go_sem]) rfl ?_
  exact ⟨rfl, Ly.bw (by repeat (first | exact Ly.refl _ | apply Ly.lay | apply Ly.alloc | apply Ly.drewN | apply Ly.drew))⟩

set_option maxRecDepth 100000 in
set_option maxHeartbeats 4000000 in
theorem rmake_arg (G G2 : Nat → Prop) (hv : Value) (H : AHeap) (o : AObj) (vb vv vk : Value) (w : World) (hGn : ∀ b, w.heap.size ≤ b → G b) (h : RdH w G hv H) (hol : OL w G2 o vb vv vk) (hU : ∀ v ∈ o.vals, U v) (hm : H.2.length ≤ 1000000) (l1 : o.bytes.length ≤ 1000000) (l2 : o.vals.length ≤ 1000000) (l3 : o.keys.length ≤ 1000000) (hl : aLong o = false) (hr : aRight H.2.length o = false) :
    Calls Tryz.prog 24 #[hv, objV o vb vv vk] w fun e w' => e = .returned (.tuple #[hv, .int .u64 0, .int .i64 1]) ∧ Bw w w' := by
  have HR := hid h
  have HO := hid hol
  have HU := hid hU
  have HGN := hid hGn
  obtain ⟨ab, cb, rfl⟩ := HO.out.1.form
  obtain ⟨av, cv, rfl⟩ := HO.out.2.1.form
  obtain ⟨ak, ck, rfl⟩ := HO.out.2.2.form
  obtain ⟨va, t, rfl, ht, hs, hall⟩ := h
  obtain ⟨ah, ch, rfl⟩ := hs.form
  clear hol hU hGn
  have HL := hid hl
  have HRI := hid hr
  clear hl hr
  clear ht hs hall
  go_enter Tryz.func24, Tryz.ntmps24
  go_wp2_with (first
    | (go_at_call 67; refine (rlong_any G2 o _ _ _ _ (OL.below HO.out (Ly.bw (by repeat (first | exact Ly.refl _ | apply Ly.lay | apply Ly.alloc | apply Ly.drewN | apply Ly.drew)))) (by omega) (by omega) (by omega)).mono ?_; rw [HL.out]; rintro e w' ⟨rfl, os1, m1, rfl⟩)
    | (go_at_call 68; refine (rright_any (fun _ => True) _ H o _ _ _ _ (RdH.any (RdH.below HR.out (Ly.bw (by repeat (first | exact Ly.refl _ | apply Ly.lay | apply Ly.alloc | apply Ly.drewN | apply Ly.drew))))) (OL.any (OL.below HO.out (Ly.bw (by repeat (first | exact Ly.refl _ | apply Ly.lay | apply Ly.alloc | apply Ly.drewN | apply Ly.drew))))) HU.out (by omega) (by omega) (by omega)).mono ?_; rw [HRI.out]; rintro e w' ⟨rfl, os2, m2, rfl⟩))
  refine bodyPost_ret (v := .tuple #[.agg #[.int .i64 H.1, .slice ah H.2.length ch], .int .u64 0, .int .i64 1]) (by simp [results, Tryz.results24, go_sem]) rfl ?_
  exact ⟨rfl, Ly.bw (by repeat (first | exact Ly.refl _ | apply Ly.lay | apply Ly.alloc | apply Ly.drewN | apply Ly.drew))⟩

set_option maxRecDepth 100000 in
set_option maxHeartbeats 4000000 in
theorem rmake_many (G G2 : Nat → Prop) (hv : Value) (H : AHeap) (o : AObj) (vb vv vk : Value) (w : World) (hGn : ∀ b, w.heap.size ≤ b → G b) (h : RdH w G hv H) (hol : OL w G2 o vb vv vk) (hU : ∀ v ∈ o.vals, U v) (hm : H.2.length ≤ 1000000) (l1 : o.bytes.length ≤ 1000000) (l2 : o.vals.length ≤ 1000000) (l3 : o.keys.length ≤ 1000000) (hl : aLong o = false) (hr : aRight H.2.length o = true) (hf : H.1 ≤ (H.2.length : Int)) :
    Calls Tryz.prog 24 #[hv, objV o vb vv vk] w fun e w' => e = .returned (.tuple #[hv, .int .u64 0, .int .i64 3]) ∧ Bw w w' := by
  have HR := hid h
  have HO := hid hol
  have HU := hid hU
  have HGN := hid hGn
  obtain ⟨ab, cb, rfl⟩ := HO.out.1.form
  obtain ⟨av, cv, rfl⟩ := HO.out.2.1.form
  obtain ⟨ak, ck, rfl⟩ := HO.out.2.2.form
  obtain ⟨va, t, rfl, ht, hs, hall⟩ := h
  obtain ⟨ah, ch, rfl⟩ := hs.form
  clear hol hU hGn
  have HL := hid hl
  have HRI := hid hr
  clear hl hr
  clear ht hs hall
  go_enter Tryz.func24, Tryz.ntmps24
  go_wp2_with (first
    | (go_at_call 67; refine (rlong_any G2 o _ _ _ _ (OL.below HO.out (Ly.bw (by repeat (first | exact Ly.refl _ | apply Ly.lay | apply Ly.alloc | apply Ly.drewN | apply Ly.drew)))) (by omega) (by omega) (by omega)).mono ?_; rw [HL.out]; rintro e w' ⟨rfl, os1, m1, rfl⟩)
    | (go_at_call 68; refine (rright_any (fun _ => True) _ H o _ _ _ _ (RdH.any (RdH.below HR.out (Ly.bw (by repeat (first | exact Ly.refl _ | apply Ly.lay | apply Ly.alloc | apply Ly.drewN | apply Ly.drew))))) (OL.any (OL.below HO.out (Ly.bw (by repeat (first | exact Ly.refl _ | apply Ly.lay | apply Ly.alloc | apply Ly.drewN | apply Ly.drew))))) HU.out (by omega) (by omega) (by omega)).mono ?_; rw [HRI.out]; rintro e w' ⟨rfl, os2, m2, rfl⟩))
  refine bodyPost_ret (v := .tuple #[.agg #[.int .i64 H.1, .slice ah H.2.length ch], .int .u64 0, .int .i64 3]) (by simp [results, Tryz.results24, go_sem]) rfl ?_
  exact ⟨rfl, Ly.bw (by repeat (first | exact Ly.refl _ | apply Ly.lay | apply Ly.alloc | apply Ly.drewN | apply Ly.drew))⟩

set_option maxRecDepth 100000 in
set_option maxHeartbeats 16000000 in
theorem rmake_in (G G2 : Nat → Prop) (hv : Value) (H : AHeap) (o : AObj) (vb vv vk : Value) (w : World) (hGn : ∀ b, w.heap.size ≤ b → G b) (h : RdH w G hv H) (hol : OL w G2 o vb vv vk) (hU : ∀ v ∈ o.vals, U v) (hm : H.2.length ≤ 1000000) (l1 : o.bytes.length ≤ 1000000) (l2 : o.vals.length ≤ 1000000) (l3 : o.keys.length ≤ 1000000) (hl : aLong o = false) (hr : aRight H.2.length o = true) (hf : ¬ H.1 ≤ (H.2.length : Int)) :
    Calls Tryz.prog 24 #[hv, objV o vb vv vk] w fun e w' => ∃ v', e = .returned (.tuple #[v', .int .u64 (4 * (H.2.length : Int) + 2), .int .i64 0]) ∧ RdH w' G v' (H.1, H.2 ++ [o]) ∧ Bw w w' := by
  have HR := hid h
  have HO := hid hol
  have HU := hid hU
  have HGN := hid hGn
  obtain ⟨ab, cb, rfl⟩ := HO.out.1.form
  obtain ⟨av, cv, rfl⟩ := HO.out.2.1.form
  obtain ⟨ak, ck, rfl⟩ := HO.out.2.2.form
  obtain ⟨va, t, rfl, ht, hs, hall⟩ := h
  obtain ⟨ah, ch, rfl⟩ := hs.form
  clear hol hU hGn
  have HL := hid hl
  have HRI := hid hr
  have HREF := hid (show refV (H.2.length : Int) = 4 * (H.2.length : Int) + 2 ∧ erI (H.2.length : Int) = 0 by
    unfold refV erI
    rw [if_pos (by omega), if_pos (by omega)]
    exact ⟨rfl, rfl⟩)
  have HS := hid hs
  have HT := hid ht
  have HALL := hid hall
  have hone : ∀ x ∈ t, x.1.oneCell' = true ∧ x.2.1.oneCell' = true ∧ x.2.2.oneCell' = true := by
    intro x hx
    obtain ⟨j, hj, rfl⟩ := List.getElem_of_mem hx
    have hl := hall j (H.2[j]'(by omega)) t[j] (List.getElem?_eq_getElem (by omega)) (List.getElem?_eq_getElem hj)
    exact ⟨sl_one hl.1, sl_one hl.2.1, sl_one hl.2.2⟩
  have HONE := hid hone
  obtain ⟨i1, hi1, hz1, hs1, hy1⟩ := info_parts infoO
  have I1 := hid (And.intro hi1 (And.intro hz1 (And.intro hs1 hy1)))
  have B0 := hid (((Blk.new w #[.int .i64 H.1, .slice ah H.2.length ch] 32).alloc (.cells #[.int .i64 o.kind, .slice ab o.bytes.length cb, .slice av o.vals.length cv, .slice ak o.keys.length ck, .int .i64 o.num, .int .u64 o.re, .int .u64 o.im] 50)).alloc (.cells #[.int .i64 0, .slice none 0 0] 32))
  have B1 := hid (show Blk (((w.alloc (.cells #[.int .i64 H.1, .slice ah H.2.length ch] 32)).alloc (.cells #[.int .i64 o.kind, .slice ab o.bytes.length cb, .slice av o.vals.length cv, .slice ak o.keys.length ck, .int .i64 o.num, .int .u64 o.re, .int .u64 o.im] 50)).alloc (.cells #[.int .i64 0, .slice none 0 0] 32)) (w.heap.size + 1) #[.int .i64 o.kind, .slice ab o.bytes.length cb, .slice av o.vals.length cv, .slice ak o.keys.length ck, .int .i64 o.num, .int .u64 o.re, .int .u64 o.im] 50 by simpa using ((Blk.new (w.alloc (.cells #[.int .i64 H.1, .slice ah H.2.length ch] 32)) #[.int .i64 o.kind, .slice ab o.bytes.length cb, .slice av o.vals.length cv, .slice ak o.keys.length ck, .int .i64 o.num, .int .u64 o.re, .int .u64 o.im] 50).alloc (.cells #[.int .i64 0, .slice none 0 0] 32)))
  have B2 := hid (show Blk (((w.alloc (.cells #[.int .i64 H.1, .slice ah H.2.length ch] 32)).alloc (.cells #[.int .i64 o.kind, .slice ab o.bytes.length cb, .slice av o.vals.length cv, .slice ak o.keys.length ck, .int .i64 o.num, .int .u64 o.re, .int .u64 o.im] 50)).alloc (.cells #[.int .i64 0, .slice none 0 0] 32)) (w.heap.size + 1 + 1) #[.int .i64 0, .slice none 0 0] 32 by simpa using Blk.new ((w.alloc (.cells #[.int .i64 H.1, .slice ah H.2.length ch] 32)).alloc (.cells #[.int .i64 o.kind, .slice ab o.bytes.length cb, .slice av o.vals.length cv, .slice ak o.keys.length ck, .int .i64 o.num, .int .u64 o.re, .int .u64 o.im] 50)) #[.int .i64 0, .slice none 0 0] 32)
  clear hi1 hz1 hs1 hy1 ht hs hall hone hl hr
  go_enter Tryz.func24, Tryz.ntmps24
  go_upto_region 8 with (first
    | (go_at_call 67; refine (rlong_any G2 o _ _ _ _ (OL.below HO.out (Ly.bw (by repeat (first | exact Ly.refl _ | apply Ly.lay | apply Ly.alloc | apply Ly.drewN | apply Ly.drew)))) (by omega) (by omega) (by omega)).mono ?_; rw [HL.out]; rintro e w' ⟨rfl, os1, m1, rfl⟩)
    | (go_at_call 68; refine (rright_any (fun _ => True) _ H o _ _ _ _ (RdH.any (RdH.below HR.out (Ly.bw (by repeat (first | exact Ly.refl _ | apply Ly.lay | apply Ly.alloc | apply Ly.drewN | apply Ly.drew))))) (OL.any (OL.below HO.out (Ly.bw (by repeat (first | exact Ly.refl _ | apply Ly.lay | apply Ly.alloc | apply Ly.drewN | apply Ly.drew))))) HU.out (by omega) (by omega) (by omega)).mono ?_; rw [HRI.out]; rintro e w' ⟨rfl, os2, m2, rfl⟩)
    | (go_at_call 69; refine (rref_any _ _).mono ?_; rw [HREF.out.1, HREF.out.2]; rintro e wq ⟨rfl, hwq⟩; subst wq))
  go_region_law (first
      | (refine step_append_sl (G := G) (by rfl) (.tmp 31) (.tmp 33) 22 (by rfl) (w.heap.size + 3) 50 i1 _ 7 104 Tryz.underlying22 I1.out.1 I1.out.2.1 I1.out.2.2.1 I1.out.2.2.2 (by rfl) (by decide) _ 0 [] (by rfl) (by first | exact own_empty _ 50 7 _ _ (by simp) (by first | (simp; done) | (simp; omega)) | exact (own_empty _ 50 7 _ _ (by simp) (by first | (simp; done) | (simp; omega))).drew) _ H.2.length (hcells H.2 t) (by rfl) (HS.out.below (Ly.bw (by repeat (first | exact Ly.refl _ | apply Ly.lay | apply Ly.alloc | apply Ly.drewN | apply Ly.drew)))) (hcells_one _ _ HONE.out) (by unfold maxLen; omega) (by omega) (by first | (simp; done) | (simp; omega)) ?_; intro v4 w4 how4 hgr4; simp only [Nat.zero_add, List.nil_append] at how4; obtain ⟨a4, c4, rfl⟩ := own_form how4; have hw4 := Below.grown (show Bw w _ from Ly.bw (by repeat (first | exact Ly.refl _ | apply Ly.lay | apply Ly.alloc | apply Ly.drewN | apply Ly.drew))) hgr4 (by first | (simp; done) | (simp; omega)) (fun k hk => by cases hk; first | (simp; done) | (simp; omega)); have B40 := hid ((show Blk _ w.heap.size #[.int .i64 H.1, .slice ah H.2.length ch] 32 from by repeat (first | exact B0.out | apply Blk.lay | apply Blk.drew | apply Blk.alloc)).keep (hgr4.block _ (by first | (simp; done) | (simp; omega)) (own_diff' (by first | (simp; done) | (simp; omega))))); have B41 := hid ((show Blk _ (w.heap.size + 1) #[.int .i64 o.kind, .slice ab o.bytes.length cb, .slice av o.vals.length cv, .slice ak o.keys.length ck, .int .i64 o.num, .int .u64 o.re, .int .u64 o.im] 50 from by repeat (first | exact B1.out | apply Blk.lay | apply Blk.drew | apply Blk.alloc)).keep (hgr4.block _ (by first | (simp; done) | (simp; omega)) (own_diff' (by first | (simp; done) | (simp; omega))))); have B42 := hid ((show Blk _ (w.heap.size + 1 + 1) #[.int .i64 0, .slice none 0 0] 32 from by repeat (first | exact B2.out | apply Blk.lay | apply Blk.drew | apply Blk.alloc)).keep (hgr4.block _ (by first | (simp; done) | (simp; omega)) (own_diff' (by first | (simp; done) | (simp; omega))))); have y40 := B40.out.cell; have y41 := B41.out.cell; have HO4 := hid how4; have HW4 := hid hw4; have hs4 : w.heap.size < w4.heap.size := B40.out.lt; have hs41 : w.heap.size + 1 < w4.heap.size := B41.out.lt; clear how4 hgr4 hw4)
      | (go_simp; go_at_call 70; refine (rcopy_any G2 o _ _ _ _ (OL.below HO.out (by repeat (first | exact HW4.out | apply Bw.drew | apply Bw.drewN | apply Bw.alloc))) l1 l2 l3).mono ?_; rintro e w5 ⟨xb, xv, xk, rfl, o1, o2, o3, hbw5⟩; obtain ⟨xab, xcb, rfl⟩ := own_form o1; obtain ⟨xav, xcv, rfl⟩ := own_form o2; obtain ⟨xak, xck, rfl⟩ := own_form o3; have B50 := hid (B40.out.bw hbw5); have B51 := hid (B41.out.bw hbw5); have B52 := hid (B42.out.bw hbw5); have y50 := B50.out.cell; have y51 := B51.out.cell; have HO5 := hid (own_bw HO4.out hbw5); have O1 := hid o1; have O2 := hid o2; have O3 := hid o3; have HW5 := hid (Bw.trans HW4.out hbw5); have hs5 : w.heap.size < w5.heap.size := B50.out.lt; have hs51 : w.heap.size + 1 < w5.heap.size := B51.out.lt; have HS45 := hid hbw5.size; clear o1 o2 o3 hbw5)
      | (refine step_append_sl (G := fun _ => True) (by rfl) (.tmp 34) (.tmp 37) 22 (by rfl) (w.heap.size + 3) 50 i1 _ 7 104 Tryz.underlying22 I1.out.1 I1.out.2.1 I1.out.2.2.1 I1.out.2.2.2 (by rfl) (by decide) (.slice a4 H.2.length c4) H.2.length (hcells H.2 t) (by rfl) (HO5.out.alloc _) _ 1 [.int .i64 o.kind, .slice xab o.bytes.length xcb, .slice xav o.vals.length xcv, .slice xak o.keys.length xck, .int .i64 o.num, .int .u64 o.re, .int .u64 o.im] (by rfl) (sl_new7 w5 [.int .i64 o.kind, .slice xab o.bytes.length xcb, .slice xav o.vals.length xcv, .slice xak o.keys.length xck, .int .i64 o.num, .int .u64 o.re, .int .u64 o.im] 50 rfl) (ocells_one o _ _ _ rfl rfl rfl) (by unfold maxLen; omega) (by omega) (by first | (simp; done) | (simp; omega)) ?_; intro v6 w6 how6 hgr6; obtain ⟨a6, c6, rfl⟩ := own_form how6; obtain ⟨b60, b61, b62, p1, p2, p3, hw6⟩ := after6 B50.out B51.out B52.out HO5.out O1.out O2.out O3.out HW5.out hgr6; have B60 := hid b60; have B61 := hid b61; have B62 := hid b62; have P1 := hid p1; have P2 := hid p2; have P3 := hid p3; have HW6 := hid hw6; have y60 := b60.cell; have y60f := b60.free; have y61 := b61.cell; have y62 := b62.cell; have y62f := b62.free; have hs62 : w.heap.size + 1 + 1 < w6.heap.size := b62.lt; have hs6 : w.heap.size < w6.heap.size := b60.lt; have hs61 : w.heap.size + 1 < w6.heap.size := b61.lt; have HO6 := hid how6; clear how6 hgr6 b60 b61 b62 p1 p2 p3 hw6)
      | fail)
  all_goals go_wp2
  all_goals
    have bb := ((B62.out.other (p := ⟨w.heap.size, 1, none⟩) (show w.heap.size ≠ w.heap.size + 1 + 1 by omega) (.slice a6 (H.2.length + 1) c6)).set 0 (.int .i64 H.1)).set 1 (.slice a6 (H.2.length + 1) c6)
    have bc := bb.cell
    refine bodyPost_ret (v := .tuple #[.agg #[.int .i64 H.1, .slice a6 (H.2.length + 1) c6], .int .u64 (4 * (H.2.length : Int) + 2), .int .i64 0]) (by simp [results, Tryz.results24, go_sem, bc]) rfl ?_
    have hbw := Bw.setCell (Bw.setCell (Bw.setCell HW6.out (p := ⟨w.heap.size, 1, none⟩) (Nat.le_refl _) (.slice a6 (H.2.length + 1) c6)) (p := ⟨w.heap.size + 1 + 1, 0, none⟩) (show w.heap.size ≤ w.heap.size + 1 + 1 by omega) (.int .i64 H.1)) (p := ⟨w.heap.size + 1 + 1, 1, none⟩) (show w.heap.size ≤ w.heap.size + 1 + 1 by omega) (.slice a6 (H.2.length + 1) c6)
    have hb42 := B42.out.lt
    refine ⟨_, rfl, rdh_snoc (base := w4.heap.size) HGN.out HT.out HALL.out HO6.out (by omega) P1.out P2.out P3.out (fun b hb => ?_) hbw, hbw⟩
    exact (Below.heap_setCell _ ⟨w.heap.size + 1 + 1, 1, none⟩ _ b (show b ≠ w.heap.size + 1 + 1 by omega)).trans ((Below.heap_setCell _ ⟨w.heap.size + 1 + 1, 0, none⟩ _ b (show b ≠ w.heap.size + 1 + 1 by omega)).trans (Below.heap_setCell _ ⟨w.heap.size, 1, none⟩ _ b (show b ≠ w.heap.size by omega)))

theorem rmake_any (G G2 : Nat → Prop) (hv : Value) (H : AHeap) (o : AObj) (vb vv vk : Value) (w : World) (hGn : ∀ b, w.heap.size ≤ b → G b) (h : RdH w G hv H) (hol : OL w G2 o vb vv vk) (hU : ∀ v ∈ o.vals, U v) (hm : H.2.length ≤ 1000000) (l1 : o.bytes.length ≤ 1000000) (l2 : o.vals.length ≤ 1000000) (l3 : o.keys.length ≤ 1000000) :
    Calls Tryz.prog 24 #[hv, objV o vb vv vk] w fun e w' => ∃ v', e = .returned (.tuple #[v', .int .u64 (dMakeV H o), .int .i64 (dMakeE H o)]) ∧ RdH w' G v' (dMakeH H o) ∧ Bw w w' := by
  cases hl : aLong o
  · cases hr : aRight H.2.length o
    · have hE : dMakeE H o = 1 := by unfold dMakeE; rw [hl, hr, if_neg (by simp), if_pos rfl]
      rw [dMakeV, dMakeH, hE, if_neg (by decide), if_neg (by decide)]
      exact (rmake_arg G G2 hv H o vb vv vk w hGn h hol hU hm l1 l2 l3 hl hr).mono fun e w' ⟨he, hb⟩ => ⟨hv, he, h.below hb, hb⟩
    · by_cases hf : H.1 ≤ (H.2.length : Int)
      · have hE : dMakeE H o = 3 := by unfold dMakeE; rw [hl, hr, if_neg (by simp), if_neg (by simp), if_pos hf]
        rw [dMakeV, dMakeH, hE, if_neg (by decide), if_neg (by decide)]
        exact (rmake_many G G2 hv H o vb vv vk w hGn h hol hU hm l1 l2 l3 hl hr hf).mono fun e w' ⟨he, hb⟩ => ⟨hv, he, h.below hb, hb⟩
      · have hE : dMakeE H o = 0 := by unfold dMakeE; rw [hl, hr, if_neg (by simp), if_neg (by simp), if_neg hf]
        rw [dMakeV, dMakeH, hE, if_pos rfl, if_pos rfl]
        exact rmake_in G G2 hv H o vb vv vk w hGn h hol hU hm l1 l2 l3 hl hr hf
  · have hE : dMakeE H o = 2 := by unfold dMakeE; rw [hl, if_pos rfl]
    rw [dMakeV, dMakeH, hE, if_neg (by decide), if_neg (by decide)]
    exact (rmake_long G G2 hv H o vb vv vk w hGn h hol hU hm l1 l2 l3 hl).mono fun e w' ⟨he, hb⟩ => ⟨hv, he, h.below hb, hb⟩

end Go.Proofs.YtjcoifdfemejkaaGreatDoor

