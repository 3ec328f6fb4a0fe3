/- A pair is put behind those that were met: what the document's two appends and two stores leave. · A region that draws its order, where what is held is written at its end alone: loads are taken first though the last stores write what they read. -/
import Derived.Test.YtlhgdknmgdohkaaGreatDoorK16
import Derived.Test.YtlhgdknmgdohkaaGreatDoorK1
import Derived.Deep.RegionHeld3
set_option linter.unusedSimpArgs false
set_option linter.unusedVariables false
namespace Go.Proofs.YtlhgdknmgdohkaaGreatDoor
open Go Go.RowKit

/-- Between the appends and the stores: what is stored (ua, ub), what is at hand (va, vb). -/
structure DJ (w : World) (k0 : Int) (ah : Option Addr) (ch : Nat) (H : AHeap) (sb : Nat) (ua ub va vb : Value) (Xs Ys : List Int) (fl : Bool) : Prop where
  rd : RdH w (fun b => b < sb) (.agg #[.int .i64 k0, .slice ah H.2.length ch]) H
  k : Blk w sb #[ua, ub, .bool fl] 81
  oa : w.ownsRow (sb + 1) 27 1 va Xs.length (Xs.map (Value.int .u64))
  ob : w.ownsRow (sb + 1) 27 1 vb Ys.length (Ys.map (Value.int .u64))
  ne : ∀ b, va.ownBlock = some b → vb.ownBlock ≠ some b

theorem DI.dj {w : World} {k0 : Int} {ah : Option Addr} {ch : Nat} {H : AHeap} {sb : Nat} {va vb : Value} {Ms : List (Int × Int)} {fl : Bool} (h : DI w k0 ah ch H sb va vb Ms fl) : DJ w k0 ah ch H sb va vb va vb (Ms.map Prod.fst) (Ms.map Prod.snd) fl :=
  ⟨h.rd, h.k, by simpa [Function.comp_def] using h.oa, by simpa [Function.comp_def] using h.ob, h.ne⟩

theorem DJ.bw {w w' : World} {k0 : Int} {ah : Option Addr} {ch : Nat} {H : AHeap} {sb : Nat} {ua ub va vb : Value} {Xs Ys : List Int} {fl : Bool} (h : DJ w k0 ah ch H sb ua ub va vb Xs Ys fl) (hb : Bw w w') : DJ w' k0 ah ch H sb ua ub va vb Xs Ys fl :=
  ⟨h.rd.below hb, h.k.bw hb, own_bw h.oa hb, own_bw h.ob hb, h.ne⟩

theorem own_lift {w : World} {base : Nat} {e : TypeId} {size : Nat} {v : Value} {n : Nat} {xs : List Value} (h : w.ownsRow 0 e size v n xs) (hb : ∀ k, v.ownBlock = some k → base ≤ k) : w.ownsRow base e size v n xs := by
  refine ⟨h.1, ?_⟩
  rcases h.2 with ⟨rfl, h0⟩ | ⟨g, cap, cur, rfl, _, r⟩
  · exact .inl ⟨rfl, h0⟩
  · exact .inr ⟨g, cap, cur, rfl, hb g rfl, r⟩

theorem DJ.pushA {w w2 : World} {k0 : Int} {ah : Option Addr} {ch : Nat} {H : AHeap} {sb : Nat} {ua ub va vb va' : Value} {Xs Ys : List Int} {fl : Bool} (h : DJ w k0 ah ch H sb ua ub va vb Xs Ys fl) {a : Int}
    (ho : w2.ownsRow 0 27 1 va' (Xs.length + 1) (Xs.map (Value.int .u64) ++ [.int .u64 a])) (hg : w.grownBy w2 va.ownBlock) (hv : va'.ownBlock = va.ownBlock ∨ ∀ k, va'.ownBlock = some k → w.heap.size ≤ k) :
    DJ w2 k0 ah ch H sb ua ub va' vb (Xs ++ [a]) Ys fl ∧ DS sb w va vb w2 va' vb := by
  have hsb := h.k.lt
  have hsame : ∀ b, b < w.heap.size → va.ownBlock ≠ some b → w2.heap[b]? = w.heap[b]? := fun b hb hn => hg.block b hb (fun e => hn e.symm)
  have hlo : ∀ b, va.ownBlock = some b → sb + 1 ≤ b := fun b e => (h.oa.lt b e).1
  have hva : ∀ b, va'.ownBlock = some b → va.ownBlock = some b ∨ w.heap.size ≤ b := by
    intro b e
    rcases hv with hv | hv
    · exact .inl (hv ▸ e)
    · exact .inr (hv b e)
  refine ⟨⟨h.rd.keep hg.size (fun b hb hs => hsame b hb (fun e => ?_)) (fun _ _ g => g), h.k.keep (hsame sb hsb (fun e => ?_)), own_lift (by simpa using ho) (fun b e => ?_), own_same h.ob (fun b e => hsame b (own_lt h.ob e) (fun e' => h.ne b e' e)), fun b e e' => ?_⟩, ⟨hg.os, hg.tape, hg.output, hg.size, fun b hb _ hn _ => hsame b hb hn, hva, fun b e => .inl e⟩⟩
  · have h1 := hlo b e
    have h2 : b < sb := hs
    omega
  · have := hlo sb e; omega
  · rcases hva b e with e' | e'
    · exact hlo b e'
    · omega
  · rcases hva b e with e1 | e1
    · exact h.ne b e1 e'
    · have := own_lt h.ob e'; omega

theorem DJ.swap {w : World} {k0 : Int} {ah : Option Addr} {ch : Nat} {H : AHeap} {sb : Nat} {ua ub va vb : Value} {Xs Ys : List Int} {fl : Bool} (h : DJ w k0 ah ch H sb ua ub va vb Xs Ys fl) : DJ w k0 ah ch H sb ua ub vb va Ys Xs fl :=
  ⟨h.rd, h.k, h.ob, h.oa, fun b e e' => h.ne b e' e⟩

theorem DS.swap {sb : Nat} {w w' : World} {va vb va' vb' : Value} (h : DS sb w va vb w' va' vb') : DS sb w vb va w' vb' va' :=
  ⟨h.os, h.tape, h.output, h.size, fun b h1 h2 h3 h4 => h.block b h1 h2 h4 h3, h.nb, h.na⟩

theorem DJ.pushB {w w2 : World} {k0 : Int} {ah : Option Addr} {ch : Nat} {H : AHeap} {sb : Nat} {ua ub va vb vb' : Value} {Xs Ys : List Int} {fl : Bool} (h : DJ w k0 ah ch H sb ua ub va vb Xs Ys fl) {b : Int}
    (ho : w2.ownsRow 0 27 1 vb' (Ys.length + 1) (Ys.map (Value.int .u64) ++ [.int .u64 b])) (hg : w.grownBy w2 vb.ownBlock) (hv : vb'.ownBlock = vb.ownBlock ∨ ∀ k, vb'.ownBlock = some k → w.heap.size ≤ k) :
    DJ w2 k0 ah ch H sb ua ub va vb' Xs (Ys ++ [b]) fl ∧ DS sb w va vb w2 va vb' := by
  obtain ⟨h1, h2⟩ := h.swap.pushA ho hg hv
  exact ⟨h1.swap, h2.swap⟩

theorem DJ.cell {w : World} {k0 : Int} {ah : Option Addr} {ch : Nat} {H : AHeap} {sb : Nat} {ua ub va vb : Value} {Xs Ys : List Int} {fl : Bool} (h : DJ w k0 ah ch H sb ua ub va vb Xs Ys fl) (j : Nat) (v ua' ub' : Value) (hk : (#[ua, ub, .bool fl] : Array Value).setIfInBounds j v = #[ua', ub', .bool fl]) :
    DJ (w.setCell ⟨sb, j, none⟩ v) k0 ah ch H sb ua' ub' va vb Xs Ys fl ∧ DS sb w va vb (w.setCell ⟨sb, j, none⟩ v) va vb := by
  have hg := grown_set w sb j v
  have hne : ∀ b, b < w.heap.size → b ≠ sb → (w.setCell ⟨sb, j, none⟩ v).heap[b]? = w.heap[b]? := fun b hb hn => hg.block b hb (fun e => hn (Option.some.inj e))
  refine ⟨⟨h.rd.keep hg.size (fun b hb hs => hne b hb (Nat.ne_of_lt hs)) (fun _ _ g => g), hk ▸ h.k.set j v, own_same h.oa (fun b hb => ?_), own_same h.ob (fun b hb => ?_), h.ne⟩, ⟨hg.os, hg.tape, hg.output, hg.size, fun b hb hn _ _ => hne b hb hn, fun _ e => .inl e, fun _ e => .inl e⟩⟩
  · exact hne b (h.oa.lt b hb).2 (by have := (h.oa.lt b hb).1; omega)
  · exact hne b (h.ob.lt b hb).2 (by have := (h.ob.lt b hb).1; omega)

/-- The two stores behind the two appends. -/
theorem DJ.done {w : World} {k0 : Int} {ah : Option Addr} {ch : Nat} {H : AHeap} {sb : Nat} {ua ub va vb : Value} {Ms : List (Int × Int)} {fl : Bool} (h : DJ w k0 ah ch H sb ua ub va vb (Ms.map Prod.fst) (Ms.map Prod.snd) fl) :
    DI ((w.setCell ⟨sb, 0, none⟩ va).setCell ⟨sb, 1, none⟩ vb) k0 ah ch H sb va vb Ms fl ∧ DS sb w va vb ((w.setCell ⟨sb, 0, none⟩ va).setCell ⟨sb, 1, none⟩ vb) va vb := by
  obtain ⟨h1, s1⟩ := h.cell 0 va va ub rfl
  obtain ⟨h2, s2⟩ := h1.cell 1 vb va vb rfl
  exact ⟨⟨h2.rd, h2.k, by simpa [Function.comp_def] using h2.oa, by simpa [Function.comp_def] using h2.ob, h2.ne⟩, s1.trans s2⟩

end Go.Proofs.YtlhgdknmgdohkaaGreatDoor

set_option linter.unusedSimpArgs false
set_option linter.unusedVariables false
namespace Go.Proofs.YtlhgdknmgdohkaaGreatDoor
open Go Go.RowKit

/-- The i-th pair that the document goes through. -/
theorem dkids_opt {H : AHeap} {a b : Int} (hok : HOK H) (hn : Neat H) (ha : U a) (h2 : kk H a = kk H b) (h3 : kk H a = 2 ∨ kk H a = 3 ∨ kk H a = 4) (hl : (ob H a).vals.length = (ob H b).vals.length) (i : Nat) (u : Int) (hu : (ob H a).vals[i]? = some u) :
    (kk H a ≠ 3 → ∀ v, (ob H b).vals[i]? = some v → (dkids H a b)[i]? = some (u, v)) ∧ (kk H a = 3 → ∀ s, (ob H a).keys[i]? = some s → (dkids H a b)[i]? = some (u, fldV (ob H b) s)) := by
  obtain ⟨hi, rfl⟩ := List.getElem?_eq_some_iff.1 hu
  have h := dkids_at hok hn ha h2 h3 hl i hi
  refine ⟨fun e v hv => ?_, fun e s hs => ?_⟩
  · obtain ⟨hj, rfl⟩ := List.getElem?_eq_some_iff.1 hv
    exact h.1 e
  · obtain ⟨hk, rfl⟩ := List.getElem?_eq_some_iff.1 hs
    exact h.2 e hk

/-- What the document's lists read is kept while pairs are met. -/
theorem OL.ds {w w' : World} {k0 : Int} {ah : Option Addr} {ch : Nat} {H : AHeap} {sb : Nat} {va vb va' vb' : Value} {Ms : List (Int × Int)} {fl : Bool} {o : AObj} {ob' ov ok : Value} (h : OL w (fun b => b < sb) o ob' ov ok) (hi : DI w k0 ah ch H sb va vb Ms fl) (hs : DS sb w va vb w' va' vb') : OL w' (fun b => b < sb) o ob' ov ok :=
  h.keep hs.size (fun b hb hG => hs.block b hb (Nat.ne_of_lt hG) (fun e => by have h1 := (hi.oa.lt b e).1; have h2 : b < sb := hG; omega) (fun e => by have h1 := (hi.ob.lt b e).1; have h2 : b < sb := hG; omega)) (fun _ _ g => g)

section
variable {P : Program} {ops : Array Oper} {Q : Exit → Act → World → Prop} {md : Region.Mode} {S : World → Prop} {W : Nat → Nat}

/-- What is asked behind an operation: 0: S; 1: S, if it held ahead of it; else nothing. -/
def askW (S : World → Prop) (c : Nat) (w w' : World) : Prop :=
  match c with
  | 0 => S w'
  | 1 => S w → S w'
  | _ => True

/-- Whatever order is picked from here on, and behind each operation what W says of it. -/
def wpAnyW (P : Program) (md : Region.Mode) (ops : Array Oper) (Q : Exit → Act → World → Prop) (S : World → Prop) (W : Nat → Nat) : Nat → Array Bool → Act → World → Prop
  | 0, listed, a, w => Region.ready md ops listed = [] ∧ Q .normal a w
  | fuel + 1, listed, a, w =>
    (Region.ready md ops listed = [] → Q .normal a w) ∧
    ∀ i ∈ Region.ready md ops listed, wpOp P ops Q i (fun a' w' => askW S (W i) w w' ∧ wpAnyW P md ops Q S W fuel (listed.setIfInBounds i true) a' w') a w

theorem wpAny_of_W : ∀ (fuel : Nat) (listed : Array Bool) (a : Act) (w : World), wpAnyW P md ops Q S W fuel listed a w → wpAny P md ops Q fuel listed a w
  | 0, _, _, _, h => h
  | fuel + 1, _, _, _, h => ⟨h.1, fun i hi => wpOp_mono (fun a' w' h' => wpAny_of_W fuel _ a' w' h'.2) (h.2 i hi)⟩

/-- T: what the operation asks of the world; those that may come ahead of it leave T as it is. -/
theorem wpAnyW_first {T : World → Prop} {i : Nat} {oi : Oper} {v : Value} (hi : ops[i]? = some oi) (hsel : ∀ (j : Nat) (o : Oper) cs b, ops[j]? = some o → o.op ≠ .select cs b)
    (hQ : ∀ c a w, Q (.panic c) (a.put oi.dst v) w → Q (.panic c) a w) (hW : W i = 1)
    (hT : ∀ j oj, ops[j]? = some oj → (∀ e ∈ oj.after, Region.binds md e = true → e.on ≠ i) → ∀ w w', askW S (W j) w w' → T w → T w') :
    ∀ (fuel : Nat) (listed : Array Bool) (a : Act) (w : World),
      (∀ j oj, ops[j]? = some oj → j ≠ i → listed.getD j true = false → (∀ e ∈ oj.after, Region.binds md e = true → e.on ≠ i) → oi.apart ops oj = true) →
      i ∈ Region.ready md ops listed → YieldsIf P ops T oi v a → T w →
      wpAnyW P md ops Q S W fuel (listed.setIfInBounds i true) (a.put oi.dst v) w → wpAnyW P md ops Q S W (fuel + 1) listed a w := by
  have hSi : ∀ w, askW S (W i) w w := fun w => by rw [hW]; exact id
  intro fuel
  induction fuel with
  | zero =>
    intro listed a w _ hr hy hS H
    refine ⟨fun h => (by rw [h] at hr; cases hr), fun j hj => ?_⟩
    by_cases hji : j = i
    · subst hji; exact hy.wpOp hi hS ⟨hSi w, H⟩
    · have := ready_mono hj hji
      rw [H.1] at this
      cases this
  | succ fuel ih =>
    intro listed a w hfree hr hy hS H
    refine ⟨fun h => (by rw [h] at hr; cases hr), fun j hj => ?_⟩
    by_cases hji : j = i
    · subst hji; exact hy.wpOp hi hS ⟨hSi w, H⟩
    · have h1 := H.2 j (ready_mono hj hji)
      obtain ⟨hjun, oj, hoj, hall⟩ := mem_ready.1 hj
      have hnot : ∀ e ∈ oj.after, Region.binds md e = true → e.on ≠ i := fun e he hb heq => by
        have h1 := hall e he hb
        have h0 := (mem_ready.1 hr).1
        rw [heq] at h1
        rcases Nat.lt_or_ge i listed.size with h' | h'
        · simp [h'] at h0 h1; rw [h0] at h1; cases h1
        · simp [Array.getElem?_eq_none h'] at h1
      have h2 := wpOp_putIf hoj (hfree j oj hoj hji hjun hnot) (fun cs b => hsel i oi cs b hi) (fun cs b => hsel j oj cs b hoj) hQ hy h1
      have hfree' : ∀ k ok, ops[k]? = some ok → k ≠ i → (listed.setIfInBounds j true).getD k true = false →
          (∀ e ∈ ok.after, Region.binds md e = true → e.on ≠ i) → oi.apart ops ok = true := fun k ok hk hki hun hno => by
        refine hfree k ok hk hki ?_ hno
        by_cases hjk : j = k
        · subst hjk; exact hjun
        · rw [getD_set_ne true hjk] at hun; exact hun
      refine wpOp_mono (fun a' w' h3 => ?_) h2
      refine ⟨h3.2.1, ih (listed.setIfInBounds j true) a' w' hfree' (ready_mono hr (Ne.symm hji)) h3.1 (hT j oj hoj hnot w w' h3.2.1 hS) ?_⟩
      rw [Array.setIfInBounds_comm _ _ hji]
      exact h3.2.2

/-- What yields in whatever world is taken first. -/
theorem wpAnyW_take {i : Nat} {oi : Oper} {v : Value} {fuel : Nat} {listed : Array Bool} {a : Act} {w : World} (hi : ops[i]? = some oi)
    (hs : Region.noSelect ops = true) (hf : Region.free md ops listed i = true) (hr : (Region.ready md ops listed).contains i = true) (hW : W i = 1)
    (hQ : ∀ c a w, Q (.panic c) (a.put oi.dst v) w → Q (.panic c) a w) (hy : YieldsIf P ops (fun _ => True) oi v a)
    (h : wpAnyW P md ops Q S W fuel (listed.setIfInBounds i true) (a.put oi.dst v) w) : wpAnyW P md ops Q S W (fuel + 1) listed a w :=
  wpAnyW_first (T := fun _ => True) hi (Region.noSelect_spec hs) hQ hW (fun _ _ _ _ _ _ _ _ => trivial) fuel listed a w (Region.free_spec hi hf) (by simpa using hr) hy trivial h

/-- Do all of which nothing is asked wait for number i? -/
def waitsW (md : Region.Mode) (ops : Array Oper) (W : Nat → Nat) (i : Nat) : Bool :=
  (List.range ops.size).all fun j => decide (W j < 2) || match ops[j]? with
    | some oj => oj.after.any fun e => Region.binds md e && e.on == i
    | none => true

/-- A load is taken first. -/
theorem wpAnyW_load {i : Nat} {oi : Oper} {v : Value} {fuel : Nat} {listed : Array Bool} {a : Act} {w : World} (hi : ops[i]? = some oi)
    (hs : Region.noSelect ops = true) (hf : Region.free md ops listed i = true) (hr : (Region.ready md ops listed).contains i = true) (hW : W i = 1) (hw : waitsW md ops W i = true)
    (hQ : ∀ c a w, Q (.panic c) (a.put oi.dst v) w → Q (.panic c) a w) (hy : YieldsIf P ops S oi v a) (hS : S w)
    (h : wpAnyW P md ops Q S W fuel (listed.setIfInBounds i true) (a.put oi.dst v) w) : wpAnyW P md ops Q S W (fuel + 1) listed a w := by
  refine wpAnyW_first (T := S) hi (Region.noSelect_spec hs) hQ hW (fun j oj hj hno w w' hA hS => ?_) fuel listed a w (Region.free_spec hi hf) (by simpa using hr) hy hS h
  match c : W j, hA with
  | 0, hA => exact hA
  | 1, hA => exact hA hS
  | n + 2, _ =>
    simp only [waitsW, List.all_eq_true, List.mem_range] at hw
    have h1 := hw j (Array.getElem?_eq_some_iff.1 hj).1
    rw [hj, c, decide_eq_false (by omega), Bool.false_or] at h1
    obtain ⟨e, he, hb⟩ := Array.any_eq_true'.1 h1
    simp only [Bool.and_eq_true, beq_iff_eq] at hb
    exact absurd hb.2 (hno e he hb.1)

/-- Each of the operations rs comes up next. -/
def AllReadyW (P : Program) (md : Region.Mode) (ops : Array Oper) (Q : Exit → Act → World → Prop) (S : World → Prop) (W : Nat → Nat) (fuel : Nat) (listed : Array Bool) (a : Act) (w : World) (rs : List Nat) : Prop :=
  ∀ i ∈ rs, wpOp P ops Q i (fun a' w' => askW S (W i) w w' ∧ wpAnyW P md ops Q S W fuel (listed.setIfInBounds i true) a' w') a w

theorem AllReadyW.nil {fuel : Nat} {listed : Array Bool} {a : Act} {w : World} : AllReadyW P md ops Q S W fuel listed a w [] := fun _ h => by cases h

theorem AllReadyW.cons {fuel : Nat} {listed : Array Bool} {a : Act} {w : World} {i : Nat} {o : Oper} {rs : List Nat} (ho : ops[i]? = some o)
    (h : ∀ K' : Act → World → Prop, Shut (∀ a' w', askW S (W i) w w' → wpAnyW P md ops Q S W fuel (listed.setIfInBounds i true) a' w' → K' a' w') → if Region.wanted o (yielded ops a.tmps) = true then Oper.wp P o a w K' Q else K' (a.put o.dst undef) w)
    (hs : AllReadyW P md ops Q S W fuel listed a w rs) : AllReadyW P md ops Q S W fuel listed a w (i :: rs) := fun j hj => by
  rcases List.mem_cons.1 hj with rfl | hj
  · exact wpOp_step ho (fun K' hK => h K' (fun a w hS hW => hK a w ⟨hS, hW⟩))
  · exact hs j hj

theorem wpAnyW_ready {rs : List Nat} {fuel : Nat} {listed : Array Bool} {a : Act} {w : World} (hr : Region.ready md ops listed = rs) (hne : rs ≠ [])
    (h : AllReadyW P md ops Q S W fuel listed a w rs) : wpAnyW P md ops Q S W (fuel + 1) listed a w := ⟨fun h0 => absurd (hr ▸ h0) hne, hr ▸ h⟩

theorem wpAnyW_done {listed : Array Bool} {a : Act} {w : World} (hr : Region.ready md ops listed = []) (h : Q .normal a w) :
    ∀ fuel, wpAnyW P md ops Q S W fuel listed a w
  | 0 => ⟨hr, h⟩
  | _ + 1 => ⟨fun _ => h, by rw [hr]; simp⟩

/-- The beginning. -/
theorem wp_region_W {id : Nat} {a : Act} {w : World} (S : World → Prop) (W : Nat → Nat) (hm : P.follows .mixedOrders = true)
    (h : wpAnyW P .any ops Q S W ops.size (Array.replicate ops.size false) a w.drew) : (Code.region id ops true).wp P Q a w :=
  wp_region_any hm (wpAny_of_W _ _ _ _ h)

end

end Go.Proofs.YtlhgdknmgdohkaaGreatDoor

