/- A region that draws its order, walked by hand: what is held may be written at its end; operations that a guard passes over. · The document's parser: about: contracts, by steps. · The document's parser: statement: contracts, by steps. -/
import Derived.WalkKit
import Derived.Deep.RegionHeld3
import Derived.Test.YtdhkcdehedbpcaaDoorM15
import Derived.Test.YtdhkcdehedbpcaaDoorM13
set_option linter.unusedSimpArgs false
set_option linter.unusedVariables false
namespace Go.Proofs.YtdhkcdehedbpcaaDoor
open Go Go.RowKit

section
variable {P : Program} {ops : Array Oper} {Q : Exit → Act → World → Prop} {md : Region.Mode} {S : World → Prop} {W : Nat → Nat}

def askW (S : World → Prop) (c : Nat) (w w' : World) : Prop :=
 match c with
 | 0 => S w'
 | 1 => S w → S w'
 | _ => True

def wpAnyW (P : Program) (md : Region.Mode) (ops : Array Oper) (Q : Exit → Act → World → Prop) (S : World → Prop) (W : Nat → Nat) : Nat → Array Bool → Act → World → Prop
 | 0, listed, a, w => Region.ready md ops listed = [] ∧ Q .normal a w
 | fuel + 1, listed, a, w =>
  (Region.ready md ops listed = [] → Q .normal a w) ∧
  ∀ i ∈ Region.ready md ops listed, wpOp P ops Q i (fun a' w' => askW S (W i) w w' ∧ wpAnyW P md ops Q S W fuel (listed.setIfInBounds i true) a' w') a w

theorem wpAny_of_W : ∀ (fuel : Nat) (listed : Array Bool) (a : Act) (w : World), wpAnyW P md ops Q S W fuel listed a w → wpAny P md ops Q fuel listed a w
 | 0, _, _, _, h => h
 | fuel + 1, _, _, _, h => ⟨h.1, fun i hi => wpOp_mono (fun a' w' h' => wpAny_of_W fuel _ a' w' h'.2) (h.2 i hi)⟩

theorem wpAnyW_first {T : World → Prop} {i : Nat} {oi : Oper} {v : Value} (hi : ops[i]? = some oi) (hsel : ∀ (j : Nat) (o : Oper) cs b, ops[j]? = some o → o.op ≠ .select cs b)
  (hQ : ∀ c a w, Q (.panic c) (a.put oi.dst v) w → Q (.panic c) a w) (hW : W i = 1)
  (hT : ∀ j oj, ops[j]? = some oj → (∀ e ∈ oj.after, Region.binds md e = true → e.on ≠ i) → ∀ w w', askW S (W j) w w' → T w → T w') :
  ∀ (fuel : Nat) (listed : Array Bool) (a : Act) (w : World),
   (∀ j oj, ops[j]? = some oj → j ≠ i → listed.getD j true = false → (∀ e ∈ oj.after, Region.binds md e = true → e.on ≠ i) → oi.apart ops oj = true) →
   i ∈ Region.ready md ops listed → YieldsIf P ops T oi v a → T w →
   wpAnyW P md ops Q S W fuel (listed.setIfInBounds i true) (a.put oi.dst v) w → wpAnyW P md ops Q S W (fuel + 1) listed a w := by
 have hSi : ∀ w, askW S (W i) w w := fun w => by rw [hW]; exact id
 intro fuel
 induction fuel with
 | zero =>
  intro listed a w _ hr hy hS H
  refine ⟨fun h => (by rw [h] at hr; cases hr), fun j hj => ?_⟩
  by_cases hji : j = i
  ·subst hji; exact hy.wpOp hi hS ⟨hSi w, H⟩
  ·have := ready_mono hj hji
   rw [H.1] at this
   cases this
 | succ fuel ih =>
  intro listed a w hfree hr hy hS H
  refine ⟨fun h => (by rw [h] at hr; cases hr), fun j hj => ?_⟩
  by_cases hji : j = i
  ·subst hji; exact hy.wpOp hi hS ⟨hSi w, H⟩
  ·have h1 := H.2 j (ready_mono hj hji)
   obtain ⟨hjun, oj, hoj, hall⟩ := mem_ready.1 hj
   have hnot : ∀ e ∈ oj.after, Region.binds md e = true → e.on ≠ i := fun e he hb heq => by
    have h1 := hall e he hb
    have h0 := (mem_ready.1 hr).1
    rw [heq] at h1
    rcases Nat.lt_or_ge i listed.size with h' | h'
    ·simp [h'] at h0 h1; rw [h0] at h1; cases h1
    ·simp [Array.getElem?_eq_none h'] at h1
   have h2 := wpOp_putIf hoj (hfree j oj hoj hji hjun hnot) (fun cs b => hsel i oi cs b hi) (fun cs b => hsel j oj cs b hoj) hQ hy h1
   have hfree' : ∀ k ok, ops[k]? = some ok → k ≠ i → (listed.setIfInBounds j true).getD k true = false →
     (∀ e ∈ ok.after, Region.binds md e = true → e.on ≠ i) → oi.apart ops ok = true := fun k ok hk hki hun hno => by
    refine hfree k ok hk hki ?_ hno
    by_cases hjk : j = k
    ·subst hjk; exact hjun
    ·rw [getD_set_ne true hjk] at hun; exact hun
   refine wpOp_mono (fun a' w' h3 => ?_) h2
   refine ⟨h3.2.1, ih (listed.setIfInBounds j true) a' w' hfree' (ready_mono hr (Ne.symm hji)) h3.1 (hT j oj hoj hnot w w' h3.2.1 hS) ?_⟩
   rw [Array.setIfInBounds_comm _ _ hji]
   exact h3.2.2

theorem wpAnyW_take {i : Nat} {oi : Oper} {v : Value} {fuel : Nat} {listed : Array Bool} {a : Act} {w : World} (hi : ops[i]? = some oi)
  (hs : Region.noSelect ops = true) (hf : Region.free md ops listed i = true) (hr : (Region.ready md ops listed).contains i = true) (hW : W i = 1)
  (hQ : ∀ c a w, Q (.panic c) (a.put oi.dst v) w → Q (.panic c) a w) (hy : YieldsIf P ops (fun _ => True) oi v a)
  (h : wpAnyW P md ops Q S W fuel (listed.setIfInBounds i true) (a.put oi.dst v) w) : wpAnyW P md ops Q S W (fuel + 1) listed a w :=
 wpAnyW_first (T := fun _ => True) hi (Region.noSelect_spec hs) hQ hW (fun _ _ _ _ _ _ _ _ => trivial) fuel listed a w (Region.free_spec hi hf) (by simpa using hr) hy trivial h

theorem tkW {i : Nat} {oi : Oper} {v : Value} {fuel : Nat} {listed : Array Bool} {a : Act} {w : World} (hi : ops[i]? = some oi) (hy : YieldsIf P ops (fun _ => True) oi v a)
  (h : wpAnyW P md ops Q S W fuel (listed.setIfInBounds i true) (a.put oi.dst v) w) (hs : Region.noSelect ops = true := by kernel_rfl) (hf : Region.free md ops listed i = true := by kernel_rfl) (hr : (Region.ready md ops listed).contains i = true := by kernel_rfl) (hW : W i = 1 := by kernel_rfl)
  (hQ : ∀ c a w, Q (.panic c) (a.put oi.dst v) w → Q (.panic c) a w := by exact fun _ _ _ h => h) : wpAnyW P md ops Q S W (fuel + 1) listed a w := wpAnyW_take hi hs hf hr hW hQ hy h
theorem sqA {α : Type} (l : List α) (i : Nat) (a : α) : l.toArray.setIfInBounds i a = (l.set i a).toArray := List.setIfInBounds_toArray l i a
theorem sqZ {α : Type} (l : List α) (a b : α) : (a :: l).set 0 b = b :: l := rfl
theorem sqS {α : Type} (l : List α) (a b : α) (n : Nat) : (a :: l).set (n + 1) b = a :: l.set n b := rfl

def waitsW (md : Region.Mode) (ops : Array Oper) (W : Nat → Nat) (i : Nat) : Bool :=
 (List.range ops.size).all fun j => decide (W j < 2) || match ops[j]? with
  | some oj => oj.after.any fun e => Region.binds md e && e.on == i
  | none => true

theorem wpAnyW_load {i : Nat} {oi : Oper} {v : Value} {fuel : Nat} {listed : Array Bool} {a : Act} {w : World} (hi : ops[i]? = some oi)
  (hs : Region.noSelect ops = true) (hf : Region.free md ops listed i = true) (hr : (Region.ready md ops listed).contains i = true) (hW : W i = 1) (hw : waitsW md ops W i = true)
  (hQ : ∀ c a w, Q (.panic c) (a.put oi.dst v) w → Q (.panic c) a w) (hy : YieldsIf P ops S oi v a) (hS : S w)
  (h : wpAnyW P md ops Q S W fuel (listed.setIfInBounds i true) (a.put oi.dst v) w) : wpAnyW P md ops Q S W (fuel + 1) listed a w := by
 refine wpAnyW_first (T := S) hi (Region.noSelect_spec hs) hQ hW (fun j oj hj hno w w' hA hS => ?_) fuel listed a w (Region.free_spec hi hf) (by simpa using hr) hy hS h
 match c : W j, hA with
 | 0, hA => exact hA
 | 1, hA => exact hA hS
 | n + 2, _ =>
  simp only [waitsW, List.all_eq_true, List.mem_range] at hw
  have h1 := hw j (Array.getElem?_eq_some_iff.1 hj).1
  rw [hj, c, decide_eq_false (by omega), Bool.false_or] at h1
  obtain ⟨e, he, hb⟩ := Array.any_eq_true'.1 h1
  simp only [Bool.and_eq_true, beq_iff_eq] at hb
  exact absurd hb.2 (hno e he hb.1)

def AllReadyW (P : Program) (md : Region.Mode) (ops : Array Oper) (Q : Exit → Act → World → Prop) (S : World → Prop) (W : Nat → Nat) (fuel : Nat) (listed : Array Bool) (a : Act) (w : World) (rs : List Nat) : Prop :=
 ∀ i ∈ rs, wpOp P ops Q i (fun a' w' => askW S (W i) w w' ∧ wpAnyW P md ops Q S W fuel (listed.setIfInBounds i true) a' w') a w

theorem AllReadyW.nil {fuel : Nat} {listed : Array Bool} {a : Act} {w : World} : AllReadyW P md ops Q S W fuel listed a w [] := fun _ h => by cases h

theorem AllReadyW.cons {fuel : Nat} {listed : Array Bool} {a : Act} {w : World} {i : Nat} {o : Oper} {rs : List Nat} (ho : ops[i]? = some o)
  (h : ∀ K' : Act → World → Prop, Shut (∀ a' w', askW S (W i) w w' → wpAnyW P md ops Q S W fuel (listed.setIfInBounds i true) a' w' → K' a' w') → if Region.wanted o (yielded ops a.tmps) = true then Oper.wp P o a w K' Q else K' (a.put o.dst undef) w)
  (hs : AllReadyW P md ops Q S W fuel listed a w rs) : AllReadyW P md ops Q S W fuel listed a w (i :: rs) := fun j hj => by
 rcases List.mem_cons.1 hj with rfl | hj
 ·exact wpOp_step ho (fun K' hK => h K' (fun a w hS hW => hK a w ⟨hS, hW⟩))
 ·exact hs j hj

theorem ldW {i : Nat} {oi : Oper} {v : Value} {fuel : Nat} {listed : Array Bool} {a : Act} {w : World} (hi : ops[i]? = some oi) (hy : YieldsIf P ops S oi v a) (hS : S w)
  (h : wpAnyW P md ops Q S W fuel (listed.setIfInBounds i true) (a.put oi.dst v) w) (hs : Region.noSelect ops = true := by kernel_rfl) (hf : Region.free md ops listed i = true := by kernel_rfl) (hr : (Region.ready md ops listed).contains i = true := by kernel_rfl) (hW : W i = 1 := by kernel_rfl) (hw : waitsW md ops W i = true := by kernel_rfl)
  (hQ : ∀ c a w, Q (.panic c) (a.put oi.dst v) w → Q (.panic c) a w := by exact fun _ _ _ h => h) : wpAnyW P md ops Q S W (fuel + 1) listed a w := wpAnyW_load hi hs hf hr hW hw hQ hy hS h

theorem wpAnyW_ready {rs : List Nat} {fuel : Nat} {listed : Array Bool} {a : Act} {w : World} (hr : Region.ready md ops listed = rs) (hne : rs ≠ [])
  (h : AllReadyW P md ops Q S W fuel listed a w rs) : wpAnyW P md ops Q S W (fuel + 1) listed a w := ⟨fun h0 => absurd (hr ▸ h0) hne, hr ▸ h⟩

theorem wpAnyW_done {listed : Array Bool} {a : Act} {w : World} (hr : Region.ready md ops listed = []) (h : Q .normal a w) :
  ∀ fuel, wpAnyW P md ops Q S W fuel listed a w
 | 0 => ⟨hr, h⟩
 | _ + 1 => ⟨fun _ => h, by rw [hr]; simp⟩

theorem wp_region_W {id : Nat} {a : Act} {w : World} (S : World → Prop) (W : Nat → Nat) (hm : P.follows .mixedOrders = true)
  (h : wpAnyW P .any ops Q S W ops.size (Array.replicate ops.size false) a w.drew) : (Code.region id ops true).wp P Q a w :=
 wp_region_any hm (wpAny_of_W _ _ _ _ h)

end

end Go.Proofs.YtdhkcdehedbpcaaDoor

namespace Go.Proofs.YtdhkcdehedbpcaaDoor
open Go Go.RowKit

section
variable {w w' : World} {r f : Nat} {T : List ATok} {o : Int} {s s' : DS} {l : List ANode} {k : Int}

theorem eat_no (t : ByteArray) (h : RdM w r T o s) (hi : dIs T s t = false) : Calls Tryd.prog 47 #[.pointer (some ⟨r, 0, none⟩), .string t] w fun e w' => e = .returned (.bool false) ∧ RdM w' r T o (s) ∧ Kp r w w' := by
 refine (deat_any t h).mono ?_
 rintro e w1 ⟨rfl, h1, h2⟩
 unfold dEat at h1
 rw [hi] at h1 ⊢
 exact ⟨rfl, h1, h2⟩
theorem eat_yes (t : ByteArray) (h : RdM w r T o s) (hi : dIs T s t = true) : Calls Tryd.prog 47 #[.pointer (some ⟨r, 0, none⟩), .string t] w fun e w' => e = .returned (.bool true) ∧ RdM w' r T o (dNx s) ∧ Kp r w w' := by
 refine (deat_any t h).mono ?_
 rintro e w1 ⟨rfl, h1, h2⟩
 unfold dEat at h1
 rw [hi] at h1 ⊢
 exact ⟨rfl, h1, h2⟩
theorem is_no (t : ByteArray) (h : RdM w r T o s) (hi : dIs T s t = false) : Calls Tryd.prog 42 #[.pointer (some ⟨r, 0, none⟩), .string t] w fun e w' => e = .returned (.bool false) ∧ RdM w' r T o (s) ∧ Kp r w w' := by
 refine (dis_any t h).mono ?_
 rintro e w1 ⟨rfl, h1⟩
 rw [hi]
 exact ⟨rfl, h.bw h1, Kp.of_bw h1⟩
theorem is_yes (t : ByteArray) (h : RdM w r T o s) (hi : dIs T s t = true) : Calls Tryd.prog 42 #[.pointer (some ⟨r, 0, none⟩), .string t] w fun e w' => e = .returned (.bool true) ∧ RdM w' r T o (s) ∧ Kp r w w' := by
 refine (dis_any t h).mono ?_
 rintro e w1 ⟨rfl, h1⟩
 rw [hi]
 exact ⟨rfl, h.bw h1, Kp.of_bw h1⟩
end

end Go.Proofs.YtdhkcdehedbpcaaDoor

namespace Go.Proofs.YtdhkcdehedbpcaaDoor
open Go Go.RowKit

@[go_sem] def oDfn0 : Oper := { dst := some 23, op := Op.move (Operand.tmp 0), type := 66, pos := "ref.go:158", after := #[], guard := none }
@[go_sem] def oDfn1 : Oper := { dst := some 24, op := Op.call { callee := Callee.value (Operand.func 42), args := #[Operand.tmp 23, Operand.const (Value.string { data := #[102, 110] })], argTypes := #[66, 9] }, type := 4, pos := "ref.go:158", after := #[{ on := 0, ground := Ground.data }], guard := none }
@[go_sem] def oDfn2 : Oper := { dst := some 25, op := Op.move (Operand.tmp 24), type := 4, pos := "ref.go:158", after := #[{ on := 1, ground := Ground.data }, { on := 1, ground := Ground.chain }], guard := none }
@[go_sem] def oDfn3 : Oper := { dst := some 26, op := Op.move (Operand.tmp 0), type := 66, pos := "ref.go:158", after := #[{ on := 2, ground := Ground.guard }], guard := some (2, true) }
@[go_sem] def oDfn4 : Oper := { dst := some 27, op := Op.nilCheck (Operand.tmp 26), type := 0, pos := "ref.go:158", after := #[{ on := 3, ground := Ground.data }, { on := 2, ground := Ground.guard }], guard := some (2, true) }
@[go_sem] def oDfn5 : Oper := { dst := some 28, op := Op.fieldAddr 68 (Operand.tmp 27) 0, type := 0, pos := "ref.go:158", after := #[{ on := 4, ground := Ground.data }, { on := 2, ground := Ground.guard }], guard := some (2, true) }
@[go_sem] def oDfn6 : Oper := { dst := some 29, op := Op.load 63 (Operand.tmp 28), type := 63, pos := "ref.go:158", after := #[{ on := 5, ground := Ground.data }, { on := 2, ground := Ground.guard }], guard := some (2, true) }
@[go_sem] def oDfn7 : Oper := { dst := some 30, op := Op.move (Operand.tmp 0), type := 66, pos := "ref.go:158", after := #[{ on := 2, ground := Ground.guard }], guard := some (2, true) }
@[go_sem] def oDfn8 : Oper := { dst := some 31, op := Op.nilCheck (Operand.tmp 30), type := 0, pos := "ref.go:158", after := #[{ on := 7, ground := Ground.data }, { on := 2, ground := Ground.guard }], guard := some (2, true) }
@[go_sem] def oDfn9 : Oper := { dst := some 32, op := Op.fieldAddr 68 (Operand.tmp 31) 1, type := 0, pos := "ref.go:158", after := #[{ on := 8, ground := Ground.data }, { on := 2, ground := Ground.guard }], guard := some (2, true) }
@[go_sem] def oDfn10 : Oper := { dst := some 33, op := Op.load 3 (Operand.tmp 32), type := 3, pos := "ref.go:158", after := #[{ on := 9, ground := Ground.data }, { on := 2, ground := Ground.guard }], guard := some (2, true) }
@[go_sem] def oDfn11 : Oper := { dst := some 34, op := Op.binOp BinOp.add 3 (Operand.tmp 33) (Operand.const (Value.int IntKind.i64 1)) 3, type := 3, pos := "ref.go:158", after := #[{ on := 10, ground := Ground.data }, { on := 2, ground := Ground.guard }], guard := some (2, true) }
@[go_sem] def oDfn12 : Oper := { dst := some 35, op := Op.indexAddr 63 (Operand.tmp 29) (Operand.tmp 34), type := 0, pos := "ref.go:158", after := #[{ on := 6, ground := Ground.data }, { on := 11, ground := Ground.data }, { on := 2, ground := Ground.guard }], guard := some (2, true) }
@[go_sem] def oDfn13 : Oper := { dst := some 36, op := Op.fieldAddr 70 (Operand.tmp 35) 0, type := 0, pos := "ref.go:158", after := #[{ on := 12, ground := Ground.data }, { on := 2, ground := Ground.guard }], guard := some (2, true) }
@[go_sem] def oDfn14 : Oper := { dst := some 37, op := Op.load 3 (Operand.tmp 36), type := 3, pos := "ref.go:158", after := #[{ on := 13, ground := Ground.data }, { on := 2, ground := Ground.guard }], guard := some (2, true) }
@[go_sem] def oDfn15 : Oper := { dst := some 38, op := Op.binOp BinOp.eql 3 (Operand.tmp 37) (Operand.const (Value.int IntKind.i64 1)) 3, type := 4, pos := "ref.go:158", after := #[{ on := 14, ground := Ground.data }, { on := 2, ground := Ground.guard }], guard := some (2, true) }
@[go_sem] def oDfn16 : Oper := { dst := some 39, op := Op.pick (Operand.tmp 25) (Operand.tmp 38) (Operand.const (Value.bool false)), type := 4, pos := "ref.go:158", after := #[{ on := 2, ground := Ground.data }, { on := 15, ground := Ground.data }], guard := none }
@[go_sem] def oDfn17 : Oper := { dst := some 22, op := Op.assign (Operand.tmp 39), type := 4, pos := "ref.go:158", after := #[{ on := 16, ground := Ground.data }, { on := 2, ground := Ground.chain }], guard := none }

section
attribute [local irreducible] dIs
variable {w w' : World} {r f : Nat} {T : List ATok} {o : Int} {s s' : DS} {l : List ANode} {k : Int}

theorem dIs_kind {t : ByteArray} (h : dIs T s t = true) : (dtk T s.i).1 ≠ 0 := by
 unfold dIs at h
 intro e
 rw [e] at h
 simp at h
theorem is_ahead {g c : Nat} {q : Int} {w0 : World} (t : ByteArray) (h0 : RdM w0 r T o s) (x : Rdx w0 r g c q T o s) (hb0 : Bw w0 w) (hi : dIs T s t = true) : Calls Tryd.prog 42 #[.pointer (some ⟨r, 0, none⟩), .string t] w fun e w' => e = .returned (.bool true) ∧ RdM w' r T o s ∧ Kp r w w' ∧ (w'.cell? ⟨r, 0, none⟩ = some (.slice (some ⟨g, 0, none⟩) T.length c) ∧ w'.cell? ⟨r, 1, none⟩ = some (.int .i64 s.i) ∧ ∀ i, i < T.length → w'.cell? ⟨g, i * 4, none⟩ = some (.int .i64 (dtk T i).1)) := by
 have h := h0.bw hb0
 refine (dis_any t h).mono ?_
 rintro e w1 ⟨rfl, hb⟩
 rw [hi]
 obtain ⟨g', c', q', x'⟩ := (h.bw hb).x
 have e0 := (x.b.bw (hb0.trans hb)).cell 0
 have e1 := x'.b.cell 0
 rw [e0] at e1
 cases e1
 exact ⟨rfl, h.bw hb, Kp.of_bw hb, (x.b.bw (hb0.trans hb)).cell 0, (x.b.bw (hb0.trans hb)).cell 1, x'.c0⟩

set_option maxRecDepth 100000 in
set_option maxHeartbeats 8000000 in
theorem stmt_plain2 (i0 : dIs T s ⟨#[123]⟩ = false) (i1 : dIs T s ⟨#[105, 102]⟩ = false) (i3 : dIs T s ⟨#[118, 97, 114]⟩ = false) (i4 : dIs T s ⟨#[119, 104, 105, 108, 101]⟩ = false) (i5 : dIs T s ⟨#[98, 114, 101, 97, 107]⟩ = false) (i6 : dIs T s ⟨#[99, 111, 110, 116, 105, 110, 117, 101]⟩ = false) (i7 : dIs T s ⟨#[114, 101, 116, 117, 114, 110]⟩ = false) (i8 : dIs T s ⟨#[116, 104, 114, 111, 119]⟩ = false) (i9 : dIs T s ⟨#[116, 114, 121]⟩ = false) (y : dIs T s ⟨#[102, 110]⟩ = true) (k1 : (dtk T (s.i + 1)).1 ≠ 1) (HV : ∀ w1 : World, RdM w1 r T o s → Calls Tryd.prog 51 #[.pointer (some ⟨r, 0, none⟩)] w1 (DG w1 r T o l s')) (hr : RdM w r T o s) : Calls Tryd.prog 21 #[.pointer (some ⟨r, 0, none⟩)] w (DG w r T o l s') := by
 have HR := hid hr
 have hrl := hr.lt
 have HAT := hid (fun w1 (hw : Bw w w1) => dat_any (hr.bw hw))
 have hn := hr.n s.i hr.i (dIs_kind y)
 have HN := hid hn
 have hi1 : (0 : Int) ≤ (s.i : Int) := by omega
 obtain ⟨gz, cz, qz, xz⟩ := hr.x
 have hl1 := xz.l
 have hi2 : (s.i : Int) + 1 < (T.length : Int) := by omega
 have hi3 : (0 : Int) ≤ (s.i : Int) + 1 := by omega
 have WR : IntKind.i64.wrap ((s.i : Int) + 1) = (s.i : Int) + 1 := by rw [IntKind.wrap_i64]; omega
 have hto : ((s.i : Int) + 1).toNat = s.i + 1 := by omega
 obtain ⟨kn, hkn⟩ : ∃ kn, (dtk T (s.i + 1)).1 = kn := ⟨_, rfl⟩
 rw [hkn] at k1
 have KN := hid hkn
 have ek : (kn == 1) = false := by simpa using k1
 clear k1
 have i0 := hid i0
 have i1 := hid i1
 have i3 := hid i3
 have i4 := hid i4
 have i5 := hid i5
 have i6 := hid i6
 have i7 := hid i7
 have i8 := hid i8
 have i9 := hid i9
 have y := hid y
 have HV := hid HV
 clear hr hkn xz hn
 unfold DG at *
 generalize dAt T s = p0 at *
 go_enter Tryd.func21, Tryd.ntmps21
 go_wp2_with (first
  | (go_at_call 41; (fail_if_success (have _g := B1)); refine (HAT.out _ (Bw.refl _)).mono ?_; rintro e wa ⟨rfl, hb1⟩; have B1 := hid hb1; have hra : w.heap.size ≤ wa.heap.size := hb1.size; have R := hid (HR.out.bw hb1); have KP := hid (Kp.of_bw (r := r) hb1); clear hb1)
  | (go_at_call 42; (fail_if_success (have _g := m0)); have m0 := hid trivial; refine (is_no ⟨#[123]⟩ (R.out.bw bq) i0.out).mono ?_; rintro e w1 ⟨rfl, hr1, hk1⟩; have KP := hid (show Kp r w w1 from KP.out.trans (Kp.trans (Kp.of_bw bq) hk1)); have R := hid hr1; have P := hid (show Blk w1 wa.heap.size #[.int .i64 0, .int .i64 0, .string ⟨#[]⟩, .int .i64 0, .int .i64 p0] 43 from (Blk.new wa _ _).kp hk1 (by omega)); have ul := P.out.lt; have uc := P.out.cell; have uf := P.out.free; have ur : r < w1.heap.size := R.out.lt; clear hr1 hk1)
  | (go_at_call 42; have _g := m0; clear _g; (fail_if_success (have _g := m1)); have m1 := hid trivial; refine (is_no ⟨#[105, 102]⟩ (R.out.bw bq) i1.out).mono ?_; clear ul uc uf ur; rintro e w1 ⟨rfl, hr1, hk1⟩; have KP := hid (show Kp r w w1 from KP.out.trans (Kp.trans (Kp.of_bw bq) hk1)); have P := hid (show Blk w1 wa.heap.size #[.int .i64 0, .int .i64 0, .string ⟨#[]⟩, .int .i64 0, .int .i64 p0] 43 from P.out.kp (Kp.trans (Kp.of_bw bq) hk1) (by omega)); have R := hid hr1; have ul := P.out.lt; have uc := P.out.cell; have uf := P.out.free; have ur : r < w1.heap.size := R.out.lt; clear hr1 hk1)
  | fail)
 obtain ⟨g, c, q, x⟩ := R.out.x
 have X := hid x
 have gl := x.gl
 clear x
 refine wp_region_W (fun w' => w'.cell? ⟨r, 0, none⟩ = some (.slice (some ⟨g, 0, none⟩) T.length c) ∧ w'.cell? ⟨r, 1, none⟩ = some (.int .i64 s.i) ∧ w'.cell? ⟨g, (s.i + 1) * 4, none⟩ = some (.int .i64 kn)) (fun j => if j == 1 then 0 else 1) (by kernel_rfl) ?_
 refine tkW (i := 0) (oi := oDfn0) (v := ?_) rfl (Or.inl ⟨by rfl, fun w _ => ?_⟩) ?_
 rotate_left
 ·(go_simp; first | done | with_reducible rfl)
 try simp only [oDfn0, Act.put, sqA, sqZ, sqS]
 refine wpAnyW_ready (rs := [1]) (by kernel_rfl) (by simp) ?_
 refine (AllReadyW.cons (o := oDfn1) rfl (fun K hK => ?_) AllReadyW.nil)
 go_simp
 have m2 := hid trivial
 refine (is_ahead ⟨#[102, 110]⟩ R.out X.out bq y.out).mono ?_
 clear ul uc uf ur
 rintro e w1 ⟨he1, hr1, hk1, f0, f1, f2⟩
 subst he1
 have f3 := f2 (s.i + 1) HN.out
 rw [KN.out] at f3
 clear f2
 have KP := hid (show Kp r w w1 from KP.out.trans (Kp.trans (Kp.of_bw bq) hk1))
 have P := hid (show Blk w1 wa.heap.size #[.int .i64 0, .int .i64 0, .string ⟨#[]⟩, .int .i64 0, .int .i64 p0] 43 from P.out.kp (Kp.trans (Kp.of_bw bq) hk1) (by omega))
 have R := hid hr1
 have ul := P.out.lt
 have uc := P.out.cell
 have uf := P.out.free
 have ur : r < w1.heap.size := R.out.lt
 clear hr1 hk1
 refine hK.out _ _ (show _ ∧ _ ∧ _ from ⟨f0, f1, f3⟩) ?_
 clear hK K
 try simp only [oDfn1, Act.put, sqA, sqZ, sqS]
 refine tkW (i := 2) (oi := oDfn2) (v := ?_) rfl (Or.inl ⟨by rfl, fun w _ => ?_⟩) ?_
 rotate_left
 ·(go_simp; first | done | with_reducible rfl)
 try simp only [oDfn2, Act.put, sqA, sqZ, sqS]
 refine tkW (i := 3) (oi := oDfn3) (v := ?_) rfl (Or.inl ⟨by rfl, fun w _ => ?_⟩) ?_
 rotate_left
 ·(go_simp; first | done | with_reducible rfl)
 try simp only [oDfn3, Act.put, sqA, sqZ, sqS]
 refine tkW (i := 4) (oi := oDfn4) (v := ?_) rfl (Or.inl ⟨by rfl, fun w _ => ?_⟩) ?_
 rotate_left
 ·(go_simp; first | done | with_reducible rfl)
 try simp only [oDfn4, Act.put, sqA, sqZ, sqS]
 refine tkW (i := 5) (oi := oDfn5) (v := ?_) rfl (Or.inl ⟨by rfl, fun w _ => ?_⟩) ?_
 rotate_left
 ·(go_simp; first | done | with_reducible rfl)
 try simp only [oDfn5, Act.put, sqA, sqZ, sqS]
 refine ldW (i := 6) (oi := oDfn6) (v := ?_) rfl (Or.inl ⟨by rfl, fun w hS => ?_⟩) (show _ ∧ _ ∧ _ from ⟨f0, f1, f3⟩) ?_
 rotate_left
 ·(obtain ⟨hs0, hs1, hs2⟩ := hS; go_simp; first | done | with_reducible rfl)
 try simp only [oDfn6, Act.put, sqA, sqZ, sqS]
 refine tkW (i := 7) (oi := oDfn7) (v := ?_) rfl (Or.inl ⟨by rfl, fun w _ => ?_⟩) ?_
 rotate_left
 ·(go_simp; first | done | with_reducible rfl)
 try simp only [oDfn7, Act.put, sqA, sqZ, sqS]
 refine tkW (i := 8) (oi := oDfn8) (v := ?_) rfl (Or.inl ⟨by rfl, fun w _ => ?_⟩) ?_
 rotate_left
 ·(go_simp; first | done | with_reducible rfl)
 try simp only [oDfn8, Act.put, sqA, sqZ, sqS]
 refine tkW (i := 9) (oi := oDfn9) (v := ?_) rfl (Or.inl ⟨by rfl, fun w _ => ?_⟩) ?_
 rotate_left
 ·(go_simp; first | done | with_reducible rfl)
 try simp only [oDfn9, Act.put, sqA, sqZ, sqS]
 refine ldW (i := 10) (oi := oDfn10) (v := ?_) rfl (Or.inl ⟨by rfl, fun w hS => ?_⟩) (show _ ∧ _ ∧ _ from ⟨f0, f1, f3⟩) ?_
 rotate_left
 ·(obtain ⟨hs0, hs1, hs2⟩ := hS; go_simp; first | done | with_reducible rfl)
 try simp only [oDfn10, Act.put, sqA, sqZ, sqS]
 refine tkW (i := 11) (oi := oDfn11) (v := ?_) rfl (Or.inl ⟨by rfl, fun w _ => ?_⟩) ?_
 rotate_left
 ·(go_simp; first | done | with_reducible rfl)
 try simp only [oDfn11, Act.put, sqA, sqZ, sqS]
 try simp only [WR]
 refine tkW (i := 12) (oi := oDfn12) (v := ?_) rfl (Or.inl ⟨by rfl, fun w _ => ?_⟩) ?_
 rotate_left
 ·(go_simp; first | done | with_reducible rfl)
 try simp only [oDfn12, Act.put, sqA, sqZ, sqS]
 try simp only [hto]
 refine tkW (i := 13) (oi := oDfn13) (v := ?_) rfl (Or.inl ⟨by rfl, fun w _ => ?_⟩) ?_
 rotate_left
 ·(go_simp; first | done | with_reducible rfl)
 try simp only [oDfn13, Act.put, sqA, sqZ, sqS]
 refine ldW (i := 14) (oi := oDfn14) (v := ?_) rfl (Or.inl ⟨by rfl, fun w hS => ?_⟩) (show _ ∧ _ ∧ _ from ⟨f0, f1, f3⟩) ?_
 rotate_left
 ·(obtain ⟨hs0, hs1, hs2⟩ := hS; go_simp; first | done | with_reducible rfl)
 try simp only [oDfn14, Act.put, sqA, sqZ, sqS]
 refine tkW (i := 15) (oi := oDfn15) (v := ?_) rfl (Or.inl ⟨by rfl, fun w _ => ?_⟩) ?_
 rotate_left
 ·(go_simp; first | done | with_reducible rfl)
 try simp only [oDfn15, Act.put, sqA, sqZ, sqS]
 refine tkW (i := 16) (oi := oDfn16) (v := ?_) rfl (Or.inl ⟨by rfl, fun w _ => ?_⟩) ?_
 rotate_left
 ·(go_simp; first | done | with_reducible rfl)
 try simp only [oDfn16, Act.put, sqA, sqZ, sqS]
 refine tkW (i := 17) (oi := oDfn17) (v := ?_) rfl (Or.inl ⟨by rfl, fun w _ => ?_⟩) ?_
 rotate_left
 ·(go_simp; first | done | with_reducible rfl)
 try simp only [oDfn17, Act.put, sqA, sqZ, sqS]
 refine wpAnyW_done (by kernel_rfl) ?_ _
 all_goals go_wp2_with (first
  | (go_at_call 47; have _g := m2; clear _g; (fail_if_success (have _g := m3)); have m3 := hid trivial; refine (eat_no ⟨#[118, 97, 114]⟩ (R.out.bw bq) i3.out).mono ?_; clear ul uc uf ur; rintro e w1 ⟨rfl, hr1, hk1⟩; have KP := hid (show Kp r w w1 from KP.out.trans (Kp.trans (Kp.of_bw bq) hk1)); have P := hid (show Blk w1 wa.heap.size #[.int .i64 0, .int .i64 0, .string ⟨#[]⟩, .int .i64 0, .int .i64 p0] 43 from P.out.kp (Kp.trans (Kp.of_bw bq) hk1) (by omega)); have R := hid hr1; have ul := P.out.lt; have uc := P.out.cell; have uf := P.out.free; have ur : r < w1.heap.size := R.out.lt; clear hr1 hk1)
  | (go_at_call 47; have _g := m3; clear _g; (fail_if_success (have _g := m4)); have m4 := hid trivial; refine (eat_no ⟨#[119, 104, 105, 108, 101]⟩ (R.out.bw bq) i4.out).mono ?_; clear ul uc uf ur; rintro e w1 ⟨rfl, hr1, hk1⟩; have KP := hid (show Kp r w w1 from KP.out.trans (Kp.trans (Kp.of_bw bq) hk1)); have P := hid (show Blk w1 wa.heap.size #[.int .i64 0, .int .i64 0, .string ⟨#[]⟩, .int .i64 0, .int .i64 p0] 43 from P.out.kp (Kp.trans (Kp.of_bw bq) hk1) (by omega)); have R := hid hr1; have ul := P.out.lt; have uc := P.out.cell; have uf := P.out.free; have ur : r < w1.heap.size := R.out.lt; clear hr1 hk1)
  | (go_at_call 47; have _g := m4; clear _g; (fail_if_success (have _g := m5)); have m5 := hid trivial; refine (eat_no ⟨#[98, 114, 101, 97, 107]⟩ (R.out.bw bq) i5.out).mono ?_; clear ul uc uf ur; rintro e w1 ⟨rfl, hr1, hk1⟩; have KP := hid (show Kp r w w1 from KP.out.trans (Kp.trans (Kp.of_bw bq) hk1)); have P := hid (show Blk w1 wa.heap.size #[.int .i64 0, .int .i64 0, .string ⟨#[]⟩, .int .i64 0, .int .i64 p0] 43 from P.out.kp (Kp.trans (Kp.of_bw bq) hk1) (by omega)); have R := hid hr1; have ul := P.out.lt; have uc := P.out.cell; have uf := P.out.free; have ur : r < w1.heap.size := R.out.lt; clear hr1 hk1)
  | (go_at_call 47; have _g := m5; clear _g; (fail_if_success (have _g := m6)); have m6 := hid trivial; refine (eat_no ⟨#[99, 111, 110, 116, 105, 110, 117, 101]⟩ (R.out.bw bq) i6.out).mono ?_; clear ul uc uf ur; rintro e w1 ⟨rfl, hr1, hk1⟩; have KP := hid (show Kp r w w1 from KP.out.trans (Kp.trans (Kp.of_bw bq) hk1)); have P := hid (show Blk w1 wa.heap.size #[.int .i64 0, .int .i64 0, .string ⟨#[]⟩, .int .i64 0, .int .i64 p0] 43 from P.out.kp (Kp.trans (Kp.of_bw bq) hk1) (by omega)); have R := hid hr1; have ul := P.out.lt; have uc := P.out.cell; have uf := P.out.free; have ur : r < w1.heap.size := R.out.lt; clear hr1 hk1)
  | (go_at_call 47; have _g := m6; clear _g; (fail_if_success (have _g := m7)); have m7 := hid trivial; refine (eat_no ⟨#[114, 101, 116, 117, 114, 110]⟩ (R.out.bw bq) i7.out).mono ?_; clear ul uc uf ur; rintro e w1 ⟨rfl, hr1, hk1⟩; have KP := hid (show Kp r w w1 from KP.out.trans (Kp.trans (Kp.of_bw bq) hk1)); have P := hid (show Blk w1 wa.heap.size #[.int .i64 0, .int .i64 0, .string ⟨#[]⟩, .int .i64 0, .int .i64 p0] 43 from P.out.kp (Kp.trans (Kp.of_bw bq) hk1) (by omega)); have R := hid hr1; have ul := P.out.lt; have uc := P.out.cell; have uf := P.out.free; have ur : r < w1.heap.size := R.out.lt; clear hr1 hk1)
  | (go_at_call 47; have _g := m7; clear _g; (fail_if_success (have _g := m8)); have m8 := hid trivial; refine (eat_no ⟨#[116, 104, 114, 111, 119]⟩ (R.out.bw bq) i8.out).mono ?_; clear ul uc uf ur; rintro e w1 ⟨rfl, hr1, hk1⟩; have KP := hid (show Kp r w w1 from KP.out.trans (Kp.trans (Kp.of_bw bq) hk1)); have P := hid (show Blk w1 wa.heap.size #[.int .i64 0, .int .i64 0, .string ⟨#[]⟩, .int .i64 0, .int .i64 p0] 43 from P.out.kp (Kp.trans (Kp.of_bw bq) hk1) (by omega)); have R := hid hr1; have ul := P.out.lt; have uc := P.out.cell; have uf := P.out.free; have ur : r < w1.heap.size := R.out.lt; clear hr1 hk1)
  | (go_at_call 47; have _g := m8; clear _g; (fail_if_success (have _g := m9)); have m9 := hid trivial; refine (eat_no ⟨#[116, 114, 121]⟩ (R.out.bw bq) i9.out).mono ?_; clear ul uc uf ur; rintro e w1 ⟨rfl, hr1, hk1⟩; have KP := hid (show Kp r w w1 from KP.out.trans (Kp.trans (Kp.of_bw bq) hk1)); have P := hid (show Blk w1 wa.heap.size #[.int .i64 0, .int .i64 0, .string ⟨#[]⟩, .int .i64 0, .int .i64 p0] 43 from P.out.kp (Kp.trans (Kp.of_bw bq) hk1) (by omega)); have R := hid hr1; have ul := P.out.lt; have uc := P.out.cell; have uf := P.out.free; have ur : r < w1.heap.size := R.out.lt; clear hr1 hk1)
  | (go_at_call 51; (fail_if_success (have _g := m20)); have m20 := hid trivial; refine (HV.out _ (R.out.bw bq)).mono ?_; rintro e w2 ⟨a2, c2, rfl, hn2, hr2, hk2, hl2⟩; have N := hid (hn2.low (b' := w.heap.size) (Nat.le_trans KP.out.size (by first | (simp; done) | exact Nat.le_refl _))); have KP := hid (show Kp r w w2 from KP.out.trans (Kp.trans (Kp.of_bw bq) hk2)); have R := hid hr2; have L := hid hl2; clear hn2 hr2 hk2 hl2)
  | fail)
 all_goals go_ret
 all_goals exact ⟨_, _, rfl, N.out, R.out, KP.out, L.out⟩

theorem RdM.nx3 (h : RdM w r T o s) (hk : (dtk T s.i).1 ≠ 0) : RdM (w.setCell ⟨r, 1, none⟩ (.int .i64 ((s.i : Int) + 1))) r T o (dNx s) := h.nx2 hk

set_option maxRecDepth 100000 in
set_option maxHeartbeats 8000000 in
theorem stmt_fn (i0 : dIs T s ⟨#[123]⟩ = false) (i1 : dIs T s ⟨#[105, 102]⟩ = false) (y : dIs T s ⟨#[102, 110]⟩ = true) (k1 : (dtk T (s.i + 1)).1 = 1) (HV : ∀ w1 : World, RdM w1 r T o (dNameS T (dNx s)) → Calls Tryd.prog 46 #[.pointer (some ⟨r, 0, none⟩), nodeV (12, 0, dNameT T (dNx s), 0, dAt T s)] w1 (DG w1 r T o l s')) (hr : RdM w r T o s) : Calls Tryd.prog 21 #[.pointer (some ⟨r, 0, none⟩)] w (DG w r T o l s') := by
 have HR := hid hr
 have hrl := hr.lt
 have HAT := hid (fun w1 (hw : Bw w w1) => dat_any (hr.bw hw))
 have hn := hr.n s.i hr.i (dIs_kind y)
 have HN := hid hn
 have hi1 : (0 : Int) ≤ (s.i : Int) := by omega
 obtain ⟨gz, cz, qz, xz⟩ := hr.x
 have hl1 := xz.l
 have hi2 : (s.i : Int) + 1 < (T.length : Int) := by omega
 have hi3 : (0 : Int) ≤ (s.i : Int) + 1 := by omega
 have WR : IntKind.i64.wrap ((s.i : Int) + 1) = (s.i : Int) + 1 := by rw [IntKind.wrap_i64]; omega
 have hto : ((s.i : Int) + 1).toNat = s.i + 1 := by omega
 obtain ⟨kn, hkn⟩ : ∃ kn, (dtk T (s.i + 1)).1 = kn := ⟨_, rfl⟩
 rw [hkn] at k1
 have KN := hid hkn
 have ek : (kn == 1) = true := by simpa using k1
 have HK0 := hid (dIs_kind y)
 clear k1
 have i0 := hid i0
 have i1 := hid i1
 have y := hid y
 have HV := hid HV
 have HNM := hid (fun w1 (hw : RdM w1 r T o (dNx s)) => dname_any hw)
 simp only [nodeV] at HV
 generalize dNameS T (dNx s) = D at *
 generalize dNameT T (dNx s) = nx at *
 clear hr hkn xz hn
 unfold DG at *
 generalize dAt T s = p0 at *
 go_enter Tryd.func21, Tryd.ntmps21
 go_wp2_with (first
  | (go_at_call 41; (fail_if_success (have _g := B1)); refine (HAT.out _ (Bw.refl _)).mono ?_; rintro e wa ⟨rfl, hb1⟩; have B1 := hid hb1; have hra : w.heap.size ≤ wa.heap.size := hb1.size; have R := hid (HR.out.bw hb1); have KP := hid (Kp.of_bw (r := r) hb1); clear hb1)
  | (go_at_call 42; (fail_if_success (have _g := m0)); have m0 := hid trivial; refine (is_no ⟨#[123]⟩ (R.out.bw bq) i0.out).mono ?_; rintro e w1 ⟨rfl, hr1, hk1⟩; have KP := hid (show Kp r w w1 from KP.out.trans (Kp.trans (Kp.of_bw bq) hk1)); have R := hid hr1; have P := hid (show Blk w1 wa.heap.size #[.int .i64 0, .int .i64 0, .string ⟨#[]⟩, .int .i64 0, .int .i64 p0] 43 from (Blk.new wa _ _).kp hk1 (by omega)); have ul := P.out.lt; have uc := P.out.cell; have uf := P.out.free; have ur : r < w1.heap.size := R.out.lt; clear hr1 hk1)
  | (go_at_call 42; have _g := m0; clear _g; (fail_if_success (have _g := m1)); have m1 := hid trivial; refine (is_no ⟨#[105, 102]⟩ (R.out.bw bq) i1.out).mono ?_; clear ul uc uf ur; rintro e w1 ⟨rfl, hr1, hk1⟩; have KP := hid (show Kp r w w1 from KP.out.trans (Kp.trans (Kp.of_bw bq) hk1)); have P := hid (show Blk w1 wa.heap.size #[.int .i64 0, .int .i64 0, .string ⟨#[]⟩, .int .i64 0, .int .i64 p0] 43 from P.out.kp (Kp.trans (Kp.of_bw bq) hk1) (by omega)); have R := hid hr1; have ul := P.out.lt; have uc := P.out.cell; have uf := P.out.free; have ur : r < w1.heap.size := R.out.lt; clear hr1 hk1)
  | fail)
 obtain ⟨g, c, q, x⟩ := R.out.x
 have X := hid x
 have gl := x.gl
 clear x
 refine wp_region_W (fun w' => w'.cell? ⟨r, 0, none⟩ = some (.slice (some ⟨g, 0, none⟩) T.length c) ∧ w'.cell? ⟨r, 1, none⟩ = some (.int .i64 s.i) ∧ w'.cell? ⟨g, (s.i + 1) * 4, none⟩ = some (.int .i64 kn)) (fun j => if j == 1 then 0 else 1) (by kernel_rfl) ?_
 refine tkW (i := 0) (oi := oDfn0) (v := ?_) rfl (Or.inl ⟨by rfl, fun w _ => ?_⟩) ?_
 rotate_left
 ·(go_simp; first | done | with_reducible rfl)
 try simp only [oDfn0, Act.put, sqA, sqZ, sqS]
 refine wpAnyW_ready (rs := [1]) (by kernel_rfl) (by simp) ?_
 refine (AllReadyW.cons (o := oDfn1) rfl (fun K hK => ?_) AllReadyW.nil)
 go_simp
 have m2 := hid trivial
 refine (is_ahead ⟨#[102, 110]⟩ R.out X.out bq y.out).mono ?_
 clear ul uc uf ur
 rintro e w1 ⟨he1, hr1, hk1, f0, f1, f2⟩
 subst he1
 have fr : w1.frozen? ⟨r, 1, none⟩ = false := (by (obtain ⟨_, _, _, x2⟩ := hr1.x); exact x2.b.free 1)
 have f3 := f2 (s.i + 1) HN.out
 rw [KN.out] at f3
 clear f2
 have KP := hid (show Kp r w w1 from KP.out.trans (Kp.trans (Kp.of_bw bq) hk1))
 have P := hid (show Blk w1 wa.heap.size #[.int .i64 0, .int .i64 0, .string ⟨#[]⟩, .int .i64 0, .int .i64 p0] 43 from P.out.kp (Kp.trans (Kp.of_bw bq) hk1) (by omega))
 have R := hid hr1
 have ul := P.out.lt
 have uc := P.out.cell
 have uf := P.out.free
 have ur : r < w1.heap.size := R.out.lt
 clear hr1 hk1
 refine hK.out _ _ (show _ ∧ _ ∧ _ from ⟨f0, f1, f3⟩) ?_
 clear hK K
 try simp only [oDfn1, Act.put, sqA, sqZ, sqS]
 refine tkW (i := 2) (oi := oDfn2) (v := ?_) rfl (Or.inl ⟨by rfl, fun w _ => ?_⟩) ?_
 rotate_left
 ·(go_simp; first | done | with_reducible rfl)
 try simp only [oDfn2, Act.put, sqA, sqZ, sqS]
 refine tkW (i := 3) (oi := oDfn3) (v := ?_) rfl (Or.inl ⟨by rfl, fun w _ => ?_⟩) ?_
 rotate_left
 ·(go_simp; first | done | with_reducible rfl)
 try simp only [oDfn3, Act.put, sqA, sqZ, sqS]
 refine tkW (i := 4) (oi := oDfn4) (v := ?_) rfl (Or.inl ⟨by rfl, fun w _ => ?_⟩) ?_
 rotate_left
 ·(go_simp; first | done | with_reducible rfl)
 try simp only [oDfn4, Act.put, sqA, sqZ, sqS]
 refine tkW (i := 5) (oi := oDfn5) (v := ?_) rfl (Or.inl ⟨by rfl, fun w _ => ?_⟩) ?_
 rotate_left
 ·(go_simp; first | done | with_reducible rfl)
 try simp only [oDfn5, Act.put, sqA, sqZ, sqS]
 refine ldW (i := 6) (oi := oDfn6) (v := ?_) rfl (Or.inl ⟨by rfl, fun w hS => ?_⟩) (show _ ∧ _ ∧ _ from ⟨f0, f1, f3⟩) ?_
 rotate_left
 ·(obtain ⟨hs0, hs1, hs2⟩ := hS; go_simp; first | done | with_reducible rfl)
 try simp only [oDfn6, Act.put, sqA, sqZ, sqS]
 refine tkW (i := 7) (oi := oDfn7) (v := ?_) rfl (Or.inl ⟨by rfl, fun w _ => ?_⟩) ?_
 rotate_left
 ·(go_simp; first | done | with_reducible rfl)
 try simp only [oDfn7, Act.put, sqA, sqZ, sqS]
 refine tkW (i := 8) (oi := oDfn8) (v := ?_) rfl (Or.inl ⟨by rfl, fun w _ => ?_⟩) ?_
 rotate_left
 ·(go_simp; first | done | with_reducible rfl)
 try simp only [oDfn8, Act.put, sqA, sqZ, sqS]
 refine tkW (i := 9) (oi := oDfn9) (v := ?_) rfl (Or.inl ⟨by rfl, fun w _ => ?_⟩) ?_
 rotate_left
 ·(go_simp; first | done | with_reducible rfl)
 try simp only [oDfn9, Act.put, sqA, sqZ, sqS]
 refine ldW (i := 10) (oi := oDfn10) (v := ?_) rfl (Or.inl ⟨by rfl, fun w hS => ?_⟩) (show _ ∧ _ ∧ _ from ⟨f0, f1, f3⟩) ?_
 rotate_left
 ·(obtain ⟨hs0, hs1, hs2⟩ := hS; go_simp; first | done | with_reducible rfl)
 try simp only [oDfn10, Act.put, sqA, sqZ, sqS]
 refine tkW (i := 11) (oi := oDfn11) (v := ?_) rfl (Or.inl ⟨by rfl, fun w _ => ?_⟩) ?_
 rotate_left
 ·(go_simp; first | done | with_reducible rfl)
 try simp only [oDfn11, Act.put, sqA, sqZ, sqS]
 try simp only [WR]
 refine tkW (i := 12) (oi := oDfn12) (v := ?_) rfl (Or.inl ⟨by rfl, fun w _ => ?_⟩) ?_
 rotate_left
 ·(go_simp; first | done | with_reducible rfl)
 try simp only [oDfn12, Act.put, sqA, sqZ, sqS]
 try simp only [hto]
 refine tkW (i := 13) (oi := oDfn13) (v := ?_) rfl (Or.inl ⟨by rfl, fun w _ => ?_⟩) ?_
 rotate_left
 ·(go_simp; first | done | with_reducible rfl)
 try simp only [oDfn13, Act.put, sqA, sqZ, sqS]
 refine ldW (i := 14) (oi := oDfn14) (v := ?_) rfl (Or.inl ⟨by rfl, fun w hS => ?_⟩) (show _ ∧ _ ∧ _ from ⟨f0, f1, f3⟩) ?_
 rotate_left
 ·(obtain ⟨hs0, hs1, hs2⟩ := hS; go_simp; first | done | with_reducible rfl)
 try simp only [oDfn14, Act.put, sqA, sqZ, sqS]
 refine tkW (i := 15) (oi := oDfn15) (v := ?_) rfl (Or.inl ⟨by rfl, fun w _ => ?_⟩) ?_
 rotate_left
 ·(go_simp; first | done | with_reducible rfl)
 try simp only [oDfn15, Act.put, sqA, sqZ, sqS]
 refine tkW (i := 16) (oi := oDfn16) (v := ?_) rfl (Or.inl ⟨by rfl, fun w _ => ?_⟩) ?_
 rotate_left
 ·(go_simp; first | done | with_reducible rfl)
 try simp only [oDfn16, Act.put, sqA, sqZ, sqS]
 refine tkW (i := 17) (oi := oDfn17) (v := ?_) rfl (Or.inl ⟨by rfl, fun w _ => ?_⟩) ?_
 rotate_left
 ·(go_simp; first | done | with_reducible rfl)
 try simp only [oDfn17, Act.put, sqA, sqZ, sqS]
 refine wpAnyW_done (by kernel_rfl) ?_ _
 all_goals go_wp2_with (first
  | (go_at_call 45; refine (HNM.out _ (R.out.nx3 HK0.out)).mono ?_; clear ul uc uf ur; rintro e w1 ⟨rfl, hr1, hk1⟩; have KP := hid (show Kp r w w1 from Kp.trans (KP.out.set 1 _) hk1); have P := hid (show Blk w1 wa.heap.size #[.int .i64 0, .int .i64 0, .string ⟨#[]⟩, .int .i64 0, .int .i64 p0] 43 from (P.out.kp ((Kp.refl r _).set 1 _) (by omega)).kp hk1 (by omega)); have R := hid hr1; have ul := P.out.lt; have uc := P.out.cell; have uf := P.out.free; have ur : r < w1.heap.size := R.out.lt; clear hr1 hk1)
  | (go_at_call 46; refine (HV.out _ ((R.out.setO P.out 0 _).setO (P.out.set 0 _) 2 _)).mono ?_; rintro e w2 ⟨a2, c2, rfl, hn2, hr2, hk2, hl2⟩; have N := hid (hn2.low (b' := w.heap.size) (by simp only [World.size_setCell]; omega)); have KP := hid (show Kp r w w2 from Kp.trans ((KP.out.setNew hra 0 _).setNew hra 2 _) hk2); have R := hid hr2; have L := hid hl2; clear hn2 hr2 hk2 hl2)
  | fail)
 all_goals go_ret
 all_goals exact ⟨_, _, rfl, N.out, R.out, KP.out, L.out⟩

end

end Go.Proofs.YtdhkcdehedbpcaaDoor

