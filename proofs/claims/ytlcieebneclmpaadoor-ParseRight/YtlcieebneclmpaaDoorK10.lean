/- A region that draws its order, walked by hand: what is held may be written at its end; operations that a guard passes over. · A block: contract. · A program: contract. · Functions: contracts. -/
import Derived.WalkKit
import Derived.Deep.RegionHeld3
import Derived.Test.YtlcieebneclmpaaDoorK9
set_option linter.unusedSimpArgs false
set_option linter.unusedVariables false
namespace Go.Proofs.YtlcieebneclmpaaDoor
open Go Go.RowKit

section
variable {P : Program} {ops : Array Oper} {Q : Exit → Act → World → Prop} {md : Region.Mode} {S : World → Prop} {W : Nat → Nat}

/-- What is asked behind an operation: 0: S; 1: S, if it held ahead of it; else nothing. -/
def askW (S : World → Prop) (c : Nat) (w w' : World) : Prop :=
  match c with
  | 0 => S w'
  | 1 => S w → S w'
  | _ => True

/-- Whatever order is picked from here on, and behind each operation what W says of it. -/
def wpAnyW (P : Program) (md : Region.Mode) (ops : Array Oper) (Q : Exit → Act → World → Prop) (S : World → Prop) (W : Nat → Nat) : Nat → Array Bool → Act → World → Prop
  | 0, listed, a, w => Region.ready md ops listed = [] ∧ Q .normal a w
  | fuel + 1, listed, a, w =>
    (Region.ready md ops listed = [] → Q .normal a w) ∧
    ∀ i ∈ Region.ready md ops listed, wpOp P ops Q i (fun a' w' => askW S (W i) w w' ∧ wpAnyW P md ops Q S W fuel (listed.setIfInBounds i true) a' w') a w

theorem wpAny_of_W : ∀ (fuel : Nat) (listed : Array Bool) (a : Act) (w : World), wpAnyW P md ops Q S W fuel listed a w → wpAny P md ops Q fuel listed a w
  | 0, _, _, _, h => h
  | fuel + 1, _, _, _, h => ⟨h.1, fun i hi => wpOp_mono (fun a' w' h' => wpAny_of_W fuel _ a' w' h'.2) (h.2 i hi)⟩

/-- T: what the operation asks of the world; those that may come ahead of it leave T as it is. -/
theorem wpAnyW_first {T : World → Prop} {i : Nat} {oi : Oper} {v : Value} (hi : ops[i]? = some oi) (hsel : ∀ (j : Nat) (o : Oper) cs b, ops[j]? = some o → o.op ≠ .select cs b)
    (hQ : ∀ c a w, Q (.panic c) (a.put oi.dst v) w → Q (.panic c) a w) (hW : W i = 1)
    (hT : ∀ j oj, ops[j]? = some oj → (∀ e ∈ oj.after, Region.binds md e = true → e.on ≠ i) → ∀ w w', askW S (W j) w w' → T w → T w') :
    ∀ (fuel : Nat) (listed : Array Bool) (a : Act) (w : World),
      (∀ j oj, ops[j]? = some oj → j ≠ i → listed.getD j true = false → (∀ e ∈ oj.after, Region.binds md e = true → e.on ≠ i) → oi.apart ops oj = true) →
      i ∈ Region.ready md ops listed → YieldsIf P ops T oi v a → T w →
      wpAnyW P md ops Q S W fuel (listed.setIfInBounds i true) (a.put oi.dst v) w → wpAnyW P md ops Q S W (fuel + 1) listed a w := by
  have hSi : ∀ w, askW S (W i) w w := fun w => by rw [hW]; exact id
  intro fuel
  induction fuel with
  | zero =>
    intro listed a w _ hr hy hS H
    refine ⟨fun h => (by rw [h] at hr; cases hr), fun j hj => ?_⟩
    by_cases hji : j = i
    · subst hji; exact hy.wpOp hi hS ⟨hSi w, H⟩
    · have := ready_mono hj hji
      rw [H.1] at this
      cases this
  | succ fuel ih =>
    intro listed a w hfree hr hy hS H
    refine ⟨fun h => (by rw [h] at hr; cases hr), fun j hj => ?_⟩
    by_cases hji : j = i
    · subst hji; exact hy.wpOp hi hS ⟨hSi w, H⟩
    · have h1 := H.2 j (ready_mono hj hji)
      obtain ⟨hjun, oj, hoj, hall⟩ := mem_ready.1 hj
      have hnot : ∀ e ∈ oj.after, Region.binds md e = true → e.on ≠ i := fun e he hb heq => by
        have h1 := hall e he hb
        have h0 := (mem_ready.1 hr).1
        rw [heq] at h1
        rcases Nat.lt_or_ge i listed.size with h' | h'
        · simp [h'] at h0 h1; rw [h0] at h1; cases h1
        · simp [Array.getElem?_eq_none h'] at h1
      have h2 := wpOp_putIf hoj (hfree j oj hoj hji hjun hnot) (fun cs b => hsel i oi cs b hi) (fun cs b => hsel j oj cs b hoj) hQ hy h1
      have hfree' : ∀ k ok, ops[k]? = some ok → k ≠ i → (listed.setIfInBounds j true).getD k true = false →
          (∀ e ∈ ok.after, Region.binds md e = true → e.on ≠ i) → oi.apart ops ok = true := fun k ok hk hki hun hno => by
        refine hfree k ok hk hki ?_ hno
        by_cases hjk : j = k
        · subst hjk; exact hjun
        · rw [getD_set_ne true hjk] at hun; exact hun
      refine wpOp_mono (fun a' w' h3 => ?_) h2
      refine ⟨h3.2.1, ih (listed.setIfInBounds j true) a' w' hfree' (ready_mono hr (Ne.symm hji)) h3.1 (hT j oj hoj hnot w w' h3.2.1 hS) ?_⟩
      rw [Array.setIfInBounds_comm _ _ hji]
      exact h3.2.2

/-- What yields in whatever world is taken first. -/
theorem wpAnyW_take {i : Nat} {oi : Oper} {v : Value} {fuel : Nat} {listed : Array Bool} {a : Act} {w : World} (hi : ops[i]? = some oi)
    (hs : Region.noSelect ops = true) (hf : Region.free md ops listed i = true) (hr : (Region.ready md ops listed).contains i = true) (hW : W i = 1)
    (hQ : ∀ c a w, Q (.panic c) (a.put oi.dst v) w → Q (.panic c) a w) (hy : YieldsIf P ops (fun _ => True) oi v a)
    (h : wpAnyW P md ops Q S W fuel (listed.setIfInBounds i true) (a.put oi.dst v) w) : wpAnyW P md ops Q S W (fuel + 1) listed a w :=
  wpAnyW_first (T := fun _ => True) hi (Region.noSelect_spec hs) hQ hW (fun _ _ _ _ _ _ _ _ => trivial) fuel listed a w (Region.free_spec hi hf) (by simpa using hr) hy trivial h

/-- Do all of which nothing is asked wait for number i? -/
def waitsW (md : Region.Mode) (ops : Array Oper) (W : Nat → Nat) (i : Nat) : Bool :=
  (List.range ops.size).all fun j => decide (W j < 2) || match ops[j]? with
    | some oj => oj.after.any fun e => Region.binds md e && e.on == i
    | none => true

/-- A load is taken first. -/
theorem wpAnyW_load {i : Nat} {oi : Oper} {v : Value} {fuel : Nat} {listed : Array Bool} {a : Act} {w : World} (hi : ops[i]? = some oi)
    (hs : Region.noSelect ops = true) (hf : Region.free md ops listed i = true) (hr : (Region.ready md ops listed).contains i = true) (hW : W i = 1) (hw : waitsW md ops W i = true)
    (hQ : ∀ c a w, Q (.panic c) (a.put oi.dst v) w → Q (.panic c) a w) (hy : YieldsIf P ops S oi v a) (hS : S w)
    (h : wpAnyW P md ops Q S W fuel (listed.setIfInBounds i true) (a.put oi.dst v) w) : wpAnyW P md ops Q S W (fuel + 1) listed a w := by
  refine wpAnyW_first (T := S) hi (Region.noSelect_spec hs) hQ hW (fun j oj hj hno w w' hA hS => ?_) fuel listed a w (Region.free_spec hi hf) (by simpa using hr) hy hS h
  match c : W j, hA with
  | 0, hA => exact hA
  | 1, hA => exact hA hS
  | n + 2, _ =>
    simp only [waitsW, List.all_eq_true, List.mem_range] at hw
    have h1 := hw j (Array.getElem?_eq_some_iff.1 hj).1
    rw [hj, c, decide_eq_false (by omega), Bool.false_or] at h1
    obtain ⟨e, he, hb⟩ := Array.any_eq_true'.1 h1
    simp only [Bool.and_eq_true, beq_iff_eq] at hb
    exact absurd hb.2 (hno e he hb.1)

/-- Each of the operations rs comes up next. -/
def AllReadyW (P : Program) (md : Region.Mode) (ops : Array Oper) (Q : Exit → Act → World → Prop) (S : World → Prop) (W : Nat → Nat) (fuel : Nat) (listed : Array Bool) (a : Act) (w : World) (rs : List Nat) : Prop :=
  ∀ i ∈ rs, wpOp P ops Q i (fun a' w' => askW S (W i) w w' ∧ wpAnyW P md ops Q S W fuel (listed.setIfInBounds i true) a' w') a w

theorem AllReadyW.nil {fuel : Nat} {listed : Array Bool} {a : Act} {w : World} : AllReadyW P md ops Q S W fuel listed a w [] := fun _ h => by cases h

theorem AllReadyW.cons {fuel : Nat} {listed : Array Bool} {a : Act} {w : World} {i : Nat} {o : Oper} {rs : List Nat} (ho : ops[i]? = some o)
    (h : ∀ K' : Act → World → Prop, Shut (∀ a' w', askW S (W i) w w' → wpAnyW P md ops Q S W fuel (listed.setIfInBounds i true) a' w' → K' a' w') → if Region.wanted o (yielded ops a.tmps) = true then Oper.wp P o a w K' Q else K' (a.put o.dst undef) w)
    (hs : AllReadyW P md ops Q S W fuel listed a w rs) : AllReadyW P md ops Q S W fuel listed a w (i :: rs) := fun j hj => by
  rcases List.mem_cons.1 hj with rfl | hj
  · exact wpOp_step ho (fun K' hK => h K' (fun a w hS hW => hK a w ⟨hS, hW⟩))
  · exact hs j hj

theorem wpAnyW_ready {rs : List Nat} {fuel : Nat} {listed : Array Bool} {a : Act} {w : World} (hr : Region.ready md ops listed = rs) (hne : rs ≠ [])
    (h : AllReadyW P md ops Q S W fuel listed a w rs) : wpAnyW P md ops Q S W (fuel + 1) listed a w := ⟨fun h0 => absurd (hr ▸ h0) hne, hr ▸ h⟩

theorem wpAnyW_done {listed : Array Bool} {a : Act} {w : World} (hr : Region.ready md ops listed = []) (h : Q .normal a w) :
    ∀ fuel, wpAnyW P md ops Q S W fuel listed a w
  | 0 => ⟨hr, h⟩
  | _ + 1 => ⟨fun _ => h, by rw [hr]; simp⟩

/-- The beginning. -/
theorem wp_region_W {id : Nat} {a : Act} {w : World} (S : World → Prop) (W : Nat → Nat) (hm : P.follows .mixedOrders = true)
    (h : wpAnyW P .any ops Q S W ops.size (Array.replicate ops.size false) a w.drew) : (Code.region id ops true).wp P Q a w :=
  wp_region_any hm (wpAny_of_W _ _ _ _ h)

end

end Go.Proofs.YtlcieebneclmpaaDoor

set_option linter.unusedSimpArgs false
set_option linter.unusedVariables false
namespace Go.Proofs.YtlcieebneclmpaaDoor
open Go Go.RowKit

section
variable {B : World} {r g cap : Nat} {T : List ATok} {ex : Nat → Value}

set_option maxRecDepth 100000 in
set_option maxHeartbeats 8000000 in
theorem block_any (f : Nat) (hst : ∀ f', f' ≤ f → RdP B r g cap T ex f' 45 #[.pointer (some ⟨r, 0, none⟩)] .stmt) : RdP B r g cap T ex (f + 1) 59 #[.pointer (some ⟨r, 0, none⟩)] .block := by
  intro w i o h ho hne
  have e : pP T (f + 1) .block i o = entr T ⟨#[123]⟩ i o fun j o => pP T f (.stmts (tk T i).2.2.2 []) j o := by
    simp only [pP]
  rw [e] at hne ⊢
  have HS := hid (SI.begin h)
  have HC := hid hst
  have HR0 := hid h.k.lt
  have HBB := hid h.kb.size
  have HLL := hid h.len
  obtain ⟨i1, hi1, hz1, hs1, hy1⟩ := info_parts infoPp
  have I1 := hid (And.intro hi1 (And.intro hz1 (And.intro hs1 hy1)))
  clear hi1 hz1 hs1 hy1
  have zz := HS.out.ri.k.cell; have zf := HS.out.ri.k.free; have zl := HS.out.ri.k.lt
  clear h hst e
  unfold entr at hne ⊢
  cases hb : isT T i ⟨#[123]⟩
  · rw [if_neg (by decide)]
    have HI := hid hb
    have HO := hid ho
    unfold here
    clear hne hb
    go_enter Tryd.func59, Tryd.ntmps59
    go_wp2_with (first
      | (go_at_call 77; refine (enter_no _ (HS.out.ri.bw (by repeat (first | exact Bw.refl _ | apply Bw.alloc | apply Bw.drewN | apply Bw.drew))) HI.out HO.out).mono ?_; rintro e w1 ⟨rfl, hk1⟩; have HK := hid ((HS.out.kp.bw (by repeat (first | exact Bw.refl _ | apply Bw.alloc | apply Bw.drewN | apply Bw.drew))).trans hk1); clear hk1)
      | fail)
    all_goals exact ⟨rfl, rfl, HK.out⟩
  · rw [hb, if_pos rfl] at hne
    rw [if_pos rfl]
    have HI := hid hb
    clear hb
    by_cases h64 : o = 64
    · rw [if_pos h64]
      have H64 := hid h64
      unfold here
      clear hne h64
      go_enter Tryd.func59, Tryd.ntmps59
      go_wp2_with (first
        | (go_at_call 77; refine (enter_many _ (HS.out.ri.bw (by repeat (first | exact Bw.refl _ | apply Bw.alloc | apply Bw.drewN | apply Bw.drew))) HI.out H64.out).mono ?_; rintro e w1 ⟨rfl, hk1⟩; have HK := hid ((HS.out.kp.bw (by repeat (first | exact Bw.refl _ | apply Bw.alloc | apply Bw.drewN | apply Bw.drew))).trans hk1); clear hk1)
        | fail)
      all_goals exact ⟨rfl, rfl, HK.out⟩
    · rw [if_neg h64] at hne ⊢
      dsimp only at hne ⊢
      have H64 := hid (show o < 64 by omega)
      have H65 := hid (show o + 1 ≤ 64 by omega)
      clear h64
      generalize hr : pP T f (.stmts (tk T i).2.2.2 []) (i + 1) (o + 1) = R9 at hne ⊢
      have HR := hid hr
      have HNR := hid hne
      clear hr hne
      go_enter Tryd.func59, Tryd.ntmps59
      go_wp2_with (first
        | (go_at_call 77; refine (enter_yes _ (HS.out.ri.bw (by repeat (first | exact Bw.refl _ | apply Bw.alloc | apply Bw.drewN | apply Bw.drew))) HI.out H64.out).mono ?_; rintro e w1 ⟨rfl, hr1, hk1⟩; have HS := hid ((HS.out.bw (by repeat (first | exact Bw.refl _ | apply Bw.alloc | apply Bw.drewN | apply Bw.drew))).go hr1 hk1); have zz := HS.out.ri.k.cell; have zf := HS.out.ri.k.free; have zl := HS.out.ri.k.lt; clear hr1 hk1)
        | (go_at_call 43; refine (made_any _ _ _ [] [] _ _ (HS.out.bw (by repeat (first | exact Bw.refl _ | apply Bw.alloc | apply Bw.drewN | apply Bw.drew))).row0.1 (HS.out.bw (by repeat (first | exact Bw.refl _ | apply Bw.alloc | apply Bw.drewN | apply Bw.drew))).row0.2).mono ?_; rintro e w3 ⟨b3, rfl, hp3, hb3, hn3, hc3⟩; have HX := hid (XI.new (w := w) hc3 (Nat.le_trans (HS.out.bw (by repeat (first | exact Bw.refl _ | apply Bw.alloc | apply Bw.drewN | apply Bw.drew))).kp.size hn3)); have HS := hid ((HS.out.bw (by repeat (first | exact Bw.refl _ | apply Bw.alloc | apply Bw.drewN | apply Bw.drew))).put hb3 hp3).drop; have zz := HS.out.ri.k.cell; have zf := HS.out.ri.k.free; have zl := HS.out.ri.k.lt; clear hp3 hb3)
        | fail)
      go_loopw [9] (fun _ wr => ∃ f' acc av cv i', f' ≤ f ∧ pP T f' (.stmts (tk T i).2.2.2 acc) i' (o + 1) = R9 ∧ SI B w No wr r g cap T ex i' (o + 1) [] ∧ XI w wr b3 2 [] 0 (tk T i).2.2.2 (.slice av acc.length cv) acc ∧ acc.length ≤ i') (fun _ wr => T.length - nxt wr r)
      case atStart => exact ⟨f, [], none, 0, (i + 1), Nat.le_refl _, HR.out, HS.out, HX.out, by simp⟩
      case round =>
        clear HS HR HX zz zf zl
        obtain ⟨f', acc, av, cv, i', hf, hr, hs, hx, hla⟩ := hrel
        rename World => wr
        have HS := hid hs
        have HX := hid hx
        have x5 := HX.out.2.1.cell 5
        have xl := HX.out.2.1.lt
        have hll := HLL.out
        have zz := HS.out.ri.k.cell; have zf := HS.out.ri.k.free; have zl := HS.out.ri.k.lt
        cases f' with
        | zero => exact absurd hr.symm HNR.out
        | succ f' =>
        have hnx : nxt wr r = i' := hs.ri.nx
        have hil := hs.ri.lt
        rw [hnx]
        clear hs hx
        simp only [pP] at hr
        cases ho1 : isT T i' ⟨#[125]⟩
        · rw [ho1, if_neg (by decide)] at hr
          have HNE := hid (show pP T f' .stmt i' (o + 1) ≠ .out from fun q => HNR.out (by rw [← hr, q]; rfl))
          generalize hq : pP T f' .stmt i' (o + 1) = R1 at hr
          have HQ := hid hq
          clear hq
          cases R1 with
          | out => exact absurd HQ.out HNE.out
          | bad n m =>
            simp only [Res.bind] at hr
            subst hr
            go_upto_region 3 with (first
              | (go_at_call 58; refine (is_any _ (HS.out.ri.bw (by repeat (first | exact Bw.refl _ | apply Bw.alloc | apply Bw.drewN | apply Bw.drew)))).mono ?_; rintro e w1 ⟨rfl, hb1⟩; have HX := hid (HX.out.bw (Bw.trans (by repeat (first | exact Bw.refl _ | apply Bw.alloc | apply Bw.drewN | apply Bw.drew)) hb1)); have x5 := HX.out.2.1.cell 5; have xl := HX.out.2.1.lt; have HS := hid (HS.out.bw (Bw.trans (by repeat (first | exact Bw.refl _ | apply Bw.alloc | apply Bw.drewN | apply Bw.drew)) hb1)); have zz := HS.out.ri.k.cell; have zf := HS.out.ri.k.free; have zl := HS.out.ri.k.lt; clear hb1)
              | fail)
            refine wp_region_W (fun w' => w'.cell? ⟨b3, 5, none⟩ = some (.slice av acc.length cv)) (fun j => if j == 6 then 0 else 1) (by kernel_rfl) ?_
            refine wpAnyW_take (i := 0) (oi := { dst := some 10, op := Op.move (Operand.tmp 3), type := 57, pos := "statement.go:16", after := #[], guard := none }) (v := ?_) rfl (by kernel_rfl) (by kernel_rfl) (by kernel_rfl) (by kernel_rfl) (fun _ _ _ h => h) (Or.inl ⟨by rfl, fun w _ => ?_⟩) ?_
            rotate_left
            · (go_simp; first | done | with_reducible rfl)
            try simp only [Act.put, List.setIfInBounds_toArray, List.set_cons_zero, List.set_cons_succ]
            refine wpAnyW_take (i := 1) (oi := { dst := some 11, op := Op.move (Operand.tmp 3), type := 57, pos := "statement.go:16", after := #[], guard := none }) (v := ?_) rfl (by kernel_rfl) (by kernel_rfl) (by kernel_rfl) (by kernel_rfl) (fun _ _ _ h => h) (Or.inl ⟨by rfl, fun w _ => ?_⟩) ?_
            rotate_left
            · (go_simp; first | done | with_reducible rfl)
            try simp only [Act.put, List.setIfInBounds_toArray, List.set_cons_zero, List.set_cons_succ]
            refine wpAnyW_take (i := 2) (oi := { dst := some 12, op := Op.nilCheck (Operand.tmp 11), type := 0, pos := "statement.go:16", after := #[{ on := 1, ground := Ground.data }], guard := none }) (v := ?_) rfl (by kernel_rfl) (by kernel_rfl) (by kernel_rfl) (by kernel_rfl) (fun _ _ _ h => h) (Or.inl ⟨by rfl, fun w _ => ?_⟩) ?_
            rotate_left
            · (go_simp; first | done | with_reducible rfl)
            try simp only [Act.put, List.setIfInBounds_toArray, List.set_cons_zero, List.set_cons_succ]
            refine wpAnyW_take (i := 3) (oi := { dst := some 13, op := Op.fieldAddr 83 (Operand.tmp 12) 1, type := 0, pos := "statement.go:16", after := #[{ on := 2, ground := Ground.data }], guard := none }) (v := ?_) rfl (by kernel_rfl) (by kernel_rfl) (by kernel_rfl) (by kernel_rfl) (fun _ _ _ h => h) (Or.inl ⟨by rfl, fun w _ => ?_⟩) ?_
            rotate_left
            · (go_simp; first | done | with_reducible rfl)
            try simp only [Act.put, List.setIfInBounds_toArray, List.set_cons_zero, List.set_cons_succ]
            refine wpAnyW_load (i := 4) (oi := { dst := some 14, op := Op.load 81 (Operand.tmp 13), type := 81, pos := "statement.go:16", after := #[{ on := 3, ground := Ground.data }], guard := none }) (v := ?_) rfl (by kernel_rfl) (by kernel_rfl) (by kernel_rfl) (by kernel_rfl) (by kernel_rfl) (fun _ _ _ h => h) (Or.inl ⟨by rfl, fun w hS => ?_⟩) (by first | exact x5 | (simp [go_sem]; done) | (simp [go_sem, *]; done)) ?_
            rotate_left
            · (skip; go_simp; first | done | with_reducible rfl)
            try simp only [Act.put, List.setIfInBounds_toArray, List.set_cons_zero, List.set_cons_succ]
            refine wpAnyW_take (i := 5) (oi := { dst := some 15, op := Op.move (Operand.tmp 0), type := 58, pos := "statement.go:16", after := #[], guard := none }) (v := ?_) rfl (by kernel_rfl) (by kernel_rfl) (by kernel_rfl) (by kernel_rfl) (fun _ _ _ h => h) (Or.inl ⟨by rfl, fun w _ => ?_⟩) ?_
            rotate_left
            · (go_simp; first | done | with_reducible rfl)
            try simp only [Act.put, List.setIfInBounds_toArray, List.set_cons_zero, List.set_cons_succ]
            refine wpAnyW_ready (rs := [6]) (by kernel_rfl) (by simp) ?_
            refine (AllReadyW.cons (o := { dst := some 16, op := Op.call { callee := Callee.value (Operand.func 45), args := #[Operand.tmp 15], argTypes := #[58] }, type := 57, pos := "statement.go:16", after := #[{ on := 5, ground := Ground.data }], guard := none }) rfl (fun K hK => ?_) AllReadyW.nil)
            go_simp
            refine (HC.out f' (by omega) _ _ _ (HS.out.ri.bw (by repeat (first | exact Bw.refl _ | apply Bw.alloc | apply Bw.drewN | apply Bw.drew))) H65.out HNE.out).mono ?_
            intro e w2 h2
            rw [HQ.out] at h2
            obtain ⟨he2, hk2⟩ := h2
            subst he2
            exact ⟨rfl, rfl, (HS.out.kp.bw (by repeat (first | exact Bw.refl _ | apply Bw.alloc | apply Bw.drewN | apply Bw.drew))).trans hk2⟩
          | ok y c1 j1 =>
            simp only [Res.bind] at hr
            have HR := hid hr
            have hj := stmt_lt HQ.out
            clear hr
            go_upto_region 3 with (first
              | (go_at_call 58; refine (is_any _ (HS.out.ri.bw (by repeat (first | exact Bw.refl _ | apply Bw.alloc | apply Bw.drewN | apply Bw.drew)))).mono ?_; rintro e w1 ⟨rfl, hb1⟩; have HX := hid (HX.out.bw (Bw.trans (by repeat (first | exact Bw.refl _ | apply Bw.alloc | apply Bw.drewN | apply Bw.drew)) hb1)); have x5 := HX.out.2.1.cell 5; have xl := HX.out.2.1.lt; have HS := hid (HS.out.bw (Bw.trans (by repeat (first | exact Bw.refl _ | apply Bw.alloc | apply Bw.drewN | apply Bw.drew)) hb1)); have zz := HS.out.ri.k.cell; have zf := HS.out.ri.k.free; have zl := HS.out.ri.k.lt; clear hb1)
              | fail)
            refine wp_region_W (fun w' => w'.cell? ⟨b3, 5, none⟩ = some (.slice av acc.length cv)) (fun j => if j == 6 || j == 7 then 0 else if j == 8 || j == 11 then 2 else 1) (by kernel_rfl) ?_
            refine wpAnyW_take (i := 0) (oi := { dst := some 10, op := Op.move (Operand.tmp 3), type := 57, pos := "statement.go:16", after := #[], guard := none }) (v := ?_) rfl (by kernel_rfl) (by kernel_rfl) (by kernel_rfl) (by kernel_rfl) (fun _ _ _ h => h) (Or.inl ⟨by rfl, fun w _ => ?_⟩) ?_
            rotate_left
            · (go_simp; first | done | with_reducible rfl)
            try simp only [Act.put, List.setIfInBounds_toArray, List.set_cons_zero, List.set_cons_succ]
            refine wpAnyW_take (i := 1) (oi := { dst := some 11, op := Op.move (Operand.tmp 3), type := 57, pos := "statement.go:16", after := #[], guard := none }) (v := ?_) rfl (by kernel_rfl) (by kernel_rfl) (by kernel_rfl) (by kernel_rfl) (fun _ _ _ h => h) (Or.inl ⟨by rfl, fun w _ => ?_⟩) ?_
            rotate_left
            · (go_simp; first | done | with_reducible rfl)
            try simp only [Act.put, List.setIfInBounds_toArray, List.set_cons_zero, List.set_cons_succ]
            refine wpAnyW_take (i := 2) (oi := { dst := some 12, op := Op.nilCheck (Operand.tmp 11), type := 0, pos := "statement.go:16", after := #[{ on := 1, ground := Ground.data }], guard := none }) (v := ?_) rfl (by kernel_rfl) (by kernel_rfl) (by kernel_rfl) (by kernel_rfl) (fun _ _ _ h => h) (Or.inl ⟨by rfl, fun w _ => ?_⟩) ?_
            rotate_left
            · (go_simp; first | done | with_reducible rfl)
            try simp only [Act.put, List.setIfInBounds_toArray, List.set_cons_zero, List.set_cons_succ]
            refine wpAnyW_take (i := 3) (oi := { dst := some 13, op := Op.fieldAddr 83 (Operand.tmp 12) 1, type := 0, pos := "statement.go:16", after := #[{ on := 2, ground := Ground.data }], guard := none }) (v := ?_) rfl (by kernel_rfl) (by kernel_rfl) (by kernel_rfl) (by kernel_rfl) (fun _ _ _ h => h) (Or.inl ⟨by rfl, fun w _ => ?_⟩) ?_
            rotate_left
            · (go_simp; first | done | with_reducible rfl)
            try simp only [Act.put, List.setIfInBounds_toArray, List.set_cons_zero, List.set_cons_succ]
            refine wpAnyW_load (i := 4) (oi := { dst := some 14, op := Op.load 81 (Operand.tmp 13), type := 81, pos := "statement.go:16", after := #[{ on := 3, ground := Ground.data }], guard := none }) (v := ?_) rfl (by kernel_rfl) (by kernel_rfl) (by kernel_rfl) (by kernel_rfl) (by kernel_rfl) (fun _ _ _ h => h) (Or.inl ⟨by rfl, fun w hS => ?_⟩) (by first | exact x5 | (simp [go_sem]; done) | (simp [go_sem, *]; done)) ?_
            rotate_left
            · (skip; go_simp; first | done | with_reducible rfl)
            try simp only [Act.put, List.setIfInBounds_toArray, List.set_cons_zero, List.set_cons_succ]
            refine wpAnyW_take (i := 5) (oi := { dst := some 15, op := Op.move (Operand.tmp 0), type := 58, pos := "statement.go:16", after := #[], guard := none }) (v := ?_) rfl (by kernel_rfl) (by kernel_rfl) (by kernel_rfl) (by kernel_rfl) (fun _ _ _ h => h) (Or.inl ⟨by rfl, fun w _ => ?_⟩) ?_
            rotate_left
            · (go_simp; first | done | with_reducible rfl)
            try simp only [Act.put, List.setIfInBounds_toArray, List.set_cons_zero, List.set_cons_succ]
            refine wpAnyW_ready (rs := [6]) (by kernel_rfl) (by simp) ?_
            refine (AllReadyW.cons (o := { dst := some 16, op := Op.call { callee := Callee.value (Operand.func 45), args := #[Operand.tmp 15], argTypes := #[58] }, type := 57, pos := "statement.go:16", after := #[{ on := 5, ground := Ground.data }], guard := none }) rfl (fun K hK => ?_) AllReadyW.nil)
            go_simp
            refine (HC.out f' (by omega) _ _ _ (HS.out.ri.bw (by repeat (first | exact Bw.refl _ | apply Bw.alloc | apply Bw.drewN | apply Bw.drew))) H65.out HNE.out).mono ?_
            intro e w2 h2
            rw [HQ.out] at h2
            obtain ⟨b2, he2, hp2, hr2, hk2⟩ := h2
            subst he2
            obtain ⟨bs, ho2, hbk, hpush⟩ := (HX.out.bw (by repeat (first | exact Bw.refl _ | apply Bw.alloc | apply Bw.drewN | apply Bw.drew))).app (HS.out.kp.bw (by repeat (first | exact Bw.refl _ | apply Bw.alloc | apply Bw.drewN | apply Bw.drew))).size hk2 HR0.out hp2
            have HO2 := hid ho2
            have HPU := hid hpush
            have HBK := hid hbk
            have HX2 := hid ((HX.out.bw (by repeat (first | exact Bw.refl _ | apply Bw.alloc | apply Bw.drewN | apply Bw.drew))).kp hk2 HR0.out)
            have HS := hid ((HS.out.bw (by repeat (first | exact Bw.refl _ | apply Bw.alloc | apply Bw.drewN | apply Bw.drew))).go hr2 hk2)
            clear hp2 hr2 hk2 ho2 hpush hbk
            refine hK.out _ _ (HX2.out.2.1.cell 5) ?_
            clear hK K
            try simp only [Act.put, List.setIfInBounds_toArray, List.set_cons_zero, List.set_cons_succ]
            refine wpAnyW_ready (rs := [7]) (by kernel_rfl) (by simp) ?_
            refine (AllReadyW.cons (o := { dst := some 17, op := Op.buildSlice 81 1 #[(0, Operand.tmp 16)], type := 81, pos := "statement.go:16", after := #[{ on := 6, ground := Ground.data }], guard := none }) rfl (fun K hK => ?_) AllReadyW.nil)
            go_simp
            refine hK.out _ _ ((HX2.out.bw (Bw.alloc (Bw.refl _) _)).2.1.cell 5) ?_
            clear hK K
            try simp only [Act.put, List.setIfInBounds_toArray, List.set_cons_zero, List.set_cons_succ]
            refine wpAnyW_ready (rs := [8]) (by kernel_rfl) (by simp) ?_
            refine (AllReadyW.cons (o := { dst := some 18, op := Op.call { callee := Callee.builtin Builtin.append, args := #[Operand.tmp 14, Operand.tmp 17], argTypes := #[81, 81] }, type := 81, pos := "statement.go:16", after := #[{ on := 4, ground := Ground.data }, { on := 7, ground := Ground.data }, { on := 6, ground := Ground.chain }], guard := none }) rfl (fun K hK => ?_) AllReadyW.nil)
            refine step_append_row (by rfl) (.tmp 14) (.tmp 17) 81 (by rfl) 57 i1 _ 1 8 underPps I1.out.1 I1.out.2.1 I1.out.2.2.1 I1.out.2.2.2 (by rfl) (by decide) (.slice av acc.length cv) acc.length _ (by rfl) HO2.out ⟨w2.heap.size, 0, none⟩ 1 1 [.pointer (some ⟨b2, 0, none⟩)] (by rfl) (by rfl) (one_new w2 _ _) (by intro u hu; rw [List.mem_singleton] at hu; subst hu; rfl) (by unfold maxLen; omega) (by omega) ?_
            intro v4 w4 ho4 hg4 hv4
            obtain ⟨a4, c4, e4⟩ := own_form ho4
            subst e4
            obtain ⟨e1, hx4⟩ := HPU.out _ _ ho4 hg4 hv4
            have HX := hid hx4
            have y5 := e1.cell
            have yf := e1.free
            have yl := e1.lt
            have HS := hid ((HS.out.bw (Bw.alloc (Bw.refl w2) _)).grown HBB.out hg4 (fun k e => (HBK.out k e).1))
            have z3 := HS.out.ri.k.cell 3
            have HS := hid (HS.out.setNew (j := 5) HBB.out HX2.out.1 (.slice a4 (acc.length + 1) c4))
            clear ho4 hg4 hv4 e1 hx4
            refine hK.out _ _ trivial ?_
            clear hK K
            try simp only [Act.put, List.setIfInBounds_toArray, List.set_cons_zero, List.set_cons_succ]
            refine wpAnyW_take (i := 9) (oi := { dst := some 19, op := Op.nilCheck (Operand.tmp 10), type := 0, pos := "statement.go:16", after := #[{ on := 0, ground := Ground.data }, { on := 0, ground := Ground.phase }, { on := 1, ground := Ground.phase }, { on := 2, ground := Ground.phase }, { on := 3, ground := Ground.phase }, { on := 4, ground := Ground.phase }, { on := 5, ground := Ground.phase }, { on := 6, ground := Ground.phase }, { on := 7, ground := Ground.phase }, { on := 8, ground := Ground.phase }], guard := none }) (v := ?_) rfl (by kernel_rfl) (by kernel_rfl) (by kernel_rfl) (by kernel_rfl) (fun _ _ _ h => h) (Or.inl ⟨by rfl, fun w _ => ?_⟩) ?_
            rotate_left
            · (go_simp; first | done | with_reducible rfl)
            try simp only [Act.put, List.setIfInBounds_toArray, List.set_cons_zero, List.set_cons_succ]
            refine wpAnyW_take (i := 10) (oi := { dst := some 20, op := Op.fieldAddr 83 (Operand.tmp 19) 1, type := 0, pos := "statement.go:16", after := #[{ on := 9, ground := Ground.data }, { on := 0, ground := Ground.phase }, { on := 1, ground := Ground.phase }, { on := 2, ground := Ground.phase }, { on := 3, ground := Ground.phase }, { on := 4, ground := Ground.phase }, { on := 5, ground := Ground.phase }, { on := 6, ground := Ground.phase }, { on := 7, ground := Ground.phase }, { on := 8, ground := Ground.phase }], guard := none }) (v := ?_) rfl (by kernel_rfl) (by kernel_rfl) (by kernel_rfl) (by kernel_rfl) (fun _ _ _ h => h) (Or.inl ⟨by rfl, fun w _ => ?_⟩) ?_
            rotate_left
            · (go_simp; first | done | with_reducible rfl)
            try simp only [Act.put, List.setIfInBounds_toArray, List.set_cons_zero, List.set_cons_succ]
            refine wpAnyW_ready (rs := [11]) (by kernel_rfl) (by simp) ?_
            refine (AllReadyW.cons (o := { dst := none, op := Op.store 81 (Operand.tmp 20) (Operand.tmp 18), type := 0, pos := "statement.go:16", after := #[{ on := 10, ground := Ground.data }, { on := 8, ground := Ground.data }, { on := 8, ground := Ground.chain }, { on := 0, ground := Ground.phase }, { on := 1, ground := Ground.phase }, { on := 2, ground := Ground.phase }, { on := 3, ground := Ground.phase }, { on := 4, ground := Ground.phase }, { on := 5, ground := Ground.phase }, { on := 6, ground := Ground.phase }, { on := 7, ground := Ground.phase }, { on := 8, ground := Ground.phase }], guard := none }) rfl (fun K hK => ?_) AllReadyW.nil)
            go_simp
            refine hK.out _ _ trivial ?_
            clear hK K
            try simp only [Act.put, List.setIfInBounds_toArray, List.set_cons_zero, List.set_cons_succ]
            refine wpAnyW_done (by kernel_rfl) ?_ _
            go_wp2
            go_roundw
            case rel => exact ⟨f', acc ++ [y], a4, c4, j1, by omega, HR.out, HS.out, by simpa using HX.out, by simp; omega⟩
            case measure =>
              have h1 := HS.out.ri.nx
              have h2 := HS.out.ri.lt
              rw [h1]
              omega
        · rw [ho1, if_pos rfl] at hr
          subst hr
          have HL := hid ho1
          go_wp2_with (first
            | (go_at_call 58; refine (is_any _ (HS.out.ri.bw (by repeat (first | exact Bw.refl _ | apply Bw.alloc | apply Bw.drewN | apply Bw.drew)))).mono ?_; rintro e w1 ⟨rfl, hb1⟩; have HX := hid (HX.out.bw (Bw.trans (by repeat (first | exact Bw.refl _ | apply Bw.alloc | apply Bw.drewN | apply Bw.drew)) hb1)); have x5 := HX.out.2.1.cell 5; have xl := HX.out.2.1.lt; have HS := hid (HS.out.bw (Bw.trans (by repeat (first | exact Bw.refl _ | apply Bw.alloc | apply Bw.drewN | apply Bw.drew)) hb1)); have zz := HS.out.ri.k.cell; have zf := HS.out.ri.k.free; have zl := HS.out.ri.k.lt; clear hb1)
            | (go_at_call 78; refine (leave_yes _ (HS.out.ri.bw (by repeat (first | exact Bw.refl _ | apply Bw.alloc | apply Bw.drewN | apply Bw.drew))) HL.out).mono ?_; rintro e w1 ⟨rfl, hr1, hk1⟩; have HX := hid ((HX.out.bw (by repeat (first | exact Bw.refl _ | apply Bw.alloc | apply Bw.drewN | apply Bw.drew))).kp hk1 HR0.out); have HS := hid ((HS.out.bw (by repeat (first | exact Bw.refl _ | apply Bw.alloc | apply Bw.drewN | apply Bw.drew))).go hr1 hk1); have zz := HS.out.ri.k.cell; have zf := HS.out.ri.k.free; have zl := HS.out.ri.k.lt; clear hr1 hk1)
            | fail)
          all_goals go_ret
          all_goals exact ⟨_, rfl, HX.out.part, HS.out.ri, HS.out.kp⟩

end

end Go.Proofs.YtlcieebneclmpaaDoor

set_option linter.unusedSimpArgs false
set_option linter.unusedVariables false
namespace Go.Proofs.YtlcieebneclmpaaDoor
open Go Go.RowKit

section
variable {B : World} {r g cap : Nat} {T : List ATok} {ex : Nat → Value}

set_option maxRecDepth 100000 in
set_option maxHeartbeats 8000000 in
theorem prog_any (f : Nat) (hst : ∀ f', f' ≤ f → RdP B r g cap T ex f' 45 #[.pointer (some ⟨r, 0, none⟩)] .stmt) : RdP B r g cap T ex f 27 #[.pointer (some ⟨r, 0, none⟩)] (.prog []) := by
  intro w i o h ho hne
  have HS := hid (SI.begin h)
  have HC := hid hst
  have HR0 := hid h.k.lt
  have HBB := hid h.kb.size
  have HLL := hid h.len
  obtain ⟨i1, hi1, hz1, hs1, hy1⟩ := info_parts infoPp
  have I1 := hid (And.intro hi1 (And.intro hz1 (And.intro hs1 hy1)))
  clear hi1 hz1 hs1 hy1
  have zz := HS.out.ri.k.cell; have zf := HS.out.ri.k.free; have zl := HS.out.ri.k.lt
  clear h hst
  generalize hr : pP T f (.prog []) i o = R9 at hne ⊢
  have HR := hid hr
  have HNR := hid hne
  clear hr hne
  go_enter Tryd.func27, Tryd.ntmps27
  go_wp2_with (first
    | (go_at_call 43; refine (made_any _ _ _ [] [] _ _ (HS.out.bw (by repeat (first | exact Bw.refl _ | apply Bw.alloc | apply Bw.drewN | apply Bw.drew))).row0.1 (HS.out.bw (by repeat (first | exact Bw.refl _ | apply Bw.alloc | apply Bw.drewN | apply Bw.drew))).row0.2).mono ?_; rintro e w3 ⟨b3, rfl, hp3, hb3, hn3, hc3⟩; have HX := hid (XI.new (w := w) hc3 (Nat.le_trans (HS.out.bw (by repeat (first | exact Bw.refl _ | apply Bw.alloc | apply Bw.drewN | apply Bw.drew))).kp.size hn3)); have HS := hid ((HS.out.bw (by repeat (first | exact Bw.refl _ | apply Bw.alloc | apply Bw.drewN | apply Bw.drew))).put hb3 hp3).drop; have zz := HS.out.ri.k.cell; have zf := HS.out.ri.k.free; have zl := HS.out.ri.k.lt; clear hp3 hb3)
    | fail)
  go_loopw [9] (fun _ wr => ∃ f' acc av cv i', f' ≤ f ∧ pP T f' (.prog acc) i' o = R9 ∧ SI B w No wr r g cap T ex i' o [] ∧ XI w wr b3 1 [] 0 0 (.slice av acc.length cv) acc ∧ acc.length ≤ i') (fun _ wr => T.length - nxt wr r)
  case atStart => exact ⟨f, [], none, 0, i, Nat.le_refl _, HR.out, HS.out, HX.out, by simp⟩
  case round =>
    clear HS HR HX zz zf zl
    obtain ⟨f', acc, av, cv, i', hf, hr, hs, hx, hla⟩ := hrel
    rename World => wr
    have HS := hid hs
    have HX := hid hx
    have x5 := HX.out.2.1.cell 5
    have xl := HX.out.2.1.lt
    have hll := HLL.out
    have zz := HS.out.ri.k.cell; have zf := HS.out.ri.k.free; have zl := HS.out.ri.k.lt
    cases f' with
    | zero => exact absurd hr.symm HNR.out
    | succ f' =>
    have hnx : nxt wr r = i' := hs.ri.nx
    have hil := hs.ri.lt
    rw [hnx]
    clear hs hx
    simp only [pP] at hr
    by_cases hk0 : (tk T i').1 = 0
    · rw [if_pos hk0] at hr
      have hk1 : ((tk T i').1 == 0) = true := by simp [hk0]
      clear hk0
      subst hr
      go_wp2_with (first
        | (go_at_call 44; refine (isKind_any _ (HS.out.ri.bw (by repeat (first | exact Bw.refl _ | apply Bw.alloc | apply Bw.drewN | apply Bw.drew)))).mono ?_; rintro e w1 ⟨rfl, hb1⟩; have HX := hid (HX.out.bw (Bw.trans (by repeat (first | exact Bw.refl _ | apply Bw.alloc | apply Bw.drewN | apply Bw.drew)) hb1)); have x5 := HX.out.2.1.cell 5; have xl := HX.out.2.1.lt; have HS := hid (HS.out.bw (Bw.trans (by repeat (first | exact Bw.refl _ | apply Bw.alloc | apply Bw.drewN | apply Bw.drew)) hb1)); have zz := HS.out.ri.k.cell; have zf := HS.out.ri.k.free; have zl := HS.out.ri.k.lt; clear hb1)
        | fail)
      all_goals go_ret
      all_goals exact ⟨_, rfl, HX.out.part, HS.out.ri, HS.out.kp⟩
    · rw [if_neg hk0] at hr
      have hk1 : ((tk T i').1 == 0) = false := by simp [hk0]
      clear hk0
      have HNE := hid (show pP T f' .stmt i' o ≠ .out from fun q => HNR.out (by rw [← hr, q]; rfl))
      generalize hq : pP T f' .stmt i' o = R1 at hr
      have HQ := hid hq
      clear hq
      cases R1 with
      | out => exact absurd HQ.out HNE.out
      | bad n m =>
        simp only [Res.bind] at hr
        subst hr
        go_upto_region 3 with (first
          | (go_at_call 44; refine (isKind_any _ (HS.out.ri.bw (by repeat (first | exact Bw.refl _ | apply Bw.alloc | apply Bw.drewN | apply Bw.drew)))).mono ?_; rintro e w1 ⟨rfl, hb1⟩; have HX := hid (HX.out.bw (Bw.trans (by repeat (first | exact Bw.refl _ | apply Bw.alloc | apply Bw.drewN | apply Bw.drew)) hb1)); have x5 := HX.out.2.1.cell 5; have xl := HX.out.2.1.lt; have HS := hid (HS.out.bw (Bw.trans (by repeat (first | exact Bw.refl _ | apply Bw.alloc | apply Bw.drewN | apply Bw.drew)) hb1)); have zz := HS.out.ri.k.cell; have zf := HS.out.ri.k.free; have zl := HS.out.ri.k.lt; clear hb1)
          | fail)
        refine wp_region_W (fun w' => w'.cell? ⟨b3, 5, none⟩ = some (.slice av acc.length cv)) (fun j => if j == 6 then 0 else 1) (by kernel_rfl) ?_
        refine wpAnyW_take (i := 0) (oi := { dst := some 8, op := Op.move (Operand.tmp 3), type := 57, pos := "statement.go:8", after := #[], guard := none }) (v := ?_) rfl (by kernel_rfl) (by kernel_rfl) (by kernel_rfl) (by kernel_rfl) (fun _ _ _ h => h) (Or.inl ⟨by rfl, fun w _ => ?_⟩) ?_
        rotate_left
        · (go_simp; first | done | with_reducible rfl)
        try simp only [Act.put, List.setIfInBounds_toArray, List.set_cons_zero, List.set_cons_succ]
        refine wpAnyW_take (i := 1) (oi := { dst := some 9, op := Op.move (Operand.tmp 3), type := 57, pos := "statement.go:8", after := #[], guard := none }) (v := ?_) rfl (by kernel_rfl) (by kernel_rfl) (by kernel_rfl) (by kernel_rfl) (fun _ _ _ h => h) (Or.inl ⟨by rfl, fun w _ => ?_⟩) ?_
        rotate_left
        · (go_simp; first | done | with_reducible rfl)
        try simp only [Act.put, List.setIfInBounds_toArray, List.set_cons_zero, List.set_cons_succ]
        refine wpAnyW_take (i := 2) (oi := { dst := some 10, op := Op.nilCheck (Operand.tmp 9), type := 0, pos := "statement.go:8", after := #[{ on := 1, ground := Ground.data }], guard := none }) (v := ?_) rfl (by kernel_rfl) (by kernel_rfl) (by kernel_rfl) (by kernel_rfl) (fun _ _ _ h => h) (Or.inl ⟨by rfl, fun w _ => ?_⟩) ?_
        rotate_left
        · (go_simp; first | done | with_reducible rfl)
        try simp only [Act.put, List.setIfInBounds_toArray, List.set_cons_zero, List.set_cons_succ]
        refine wpAnyW_take (i := 3) (oi := { dst := some 11, op := Op.fieldAddr 83 (Operand.tmp 10) 1, type := 0, pos := "statement.go:8", after := #[{ on := 2, ground := Ground.data }], guard := none }) (v := ?_) rfl (by kernel_rfl) (by kernel_rfl) (by kernel_rfl) (by kernel_rfl) (fun _ _ _ h => h) (Or.inl ⟨by rfl, fun w _ => ?_⟩) ?_
        rotate_left
        · (go_simp; first | done | with_reducible rfl)
        try simp only [Act.put, List.setIfInBounds_toArray, List.set_cons_zero, List.set_cons_succ]
        refine wpAnyW_load (i := 4) (oi := { dst := some 12, op := Op.load 81 (Operand.tmp 11), type := 81, pos := "statement.go:8", after := #[{ on := 3, ground := Ground.data }], guard := none }) (v := ?_) rfl (by kernel_rfl) (by kernel_rfl) (by kernel_rfl) (by kernel_rfl) (by kernel_rfl) (fun _ _ _ h => h) (Or.inl ⟨by rfl, fun w hS => ?_⟩) (by first | exact x5 | (simp [go_sem]; done) | (simp [go_sem, *]; done)) ?_
        rotate_left
        · (skip; go_simp; first | done | with_reducible rfl)
        try simp only [Act.put, List.setIfInBounds_toArray, List.set_cons_zero, List.set_cons_succ]
        refine wpAnyW_take (i := 5) (oi := { dst := some 13, op := Op.move (Operand.tmp 0), type := 58, pos := "statement.go:8", after := #[], guard := none }) (v := ?_) rfl (by kernel_rfl) (by kernel_rfl) (by kernel_rfl) (by kernel_rfl) (fun _ _ _ h => h) (Or.inl ⟨by rfl, fun w _ => ?_⟩) ?_
        rotate_left
        · (go_simp; first | done | with_reducible rfl)
        try simp only [Act.put, List.setIfInBounds_toArray, List.set_cons_zero, List.set_cons_succ]
        refine wpAnyW_ready (rs := [6]) (by kernel_rfl) (by simp) ?_
        refine (AllReadyW.cons (o := { dst := some 14, op := Op.call { callee := Callee.value (Operand.func 45), args := #[Operand.tmp 13], argTypes := #[58] }, type := 57, pos := "statement.go:8", after := #[{ on := 5, ground := Ground.data }], guard := none }) rfl (fun K hK => ?_) AllReadyW.nil)
        go_simp
        refine (HC.out f' (by omega) _ _ _ (HS.out.ri.bw (by repeat (first | exact Bw.refl _ | apply Bw.alloc | apply Bw.drewN | apply Bw.drew))) ho HNE.out).mono ?_
        intro e w2 h2
        rw [HQ.out] at h2
        obtain ⟨he2, hk2⟩ := h2
        subst he2
        exact ⟨rfl, rfl, (HS.out.kp.bw (by repeat (first | exact Bw.refl _ | apply Bw.alloc | apply Bw.drewN | apply Bw.drew))).trans hk2⟩
      | ok y c1 j1 =>
        simp only [Res.bind] at hr
        have HR := hid hr
        have hj := stmt_lt HQ.out
        clear hr
        go_upto_region 3 with (first
          | (go_at_call 44; refine (isKind_any _ (HS.out.ri.bw (by repeat (first | exact Bw.refl _ | apply Bw.alloc | apply Bw.drewN | apply Bw.drew)))).mono ?_; rintro e w1 ⟨rfl, hb1⟩; have HX := hid (HX.out.bw (Bw.trans (by repeat (first | exact Bw.refl _ | apply Bw.alloc | apply Bw.drewN | apply Bw.drew)) hb1)); have x5 := HX.out.2.1.cell 5; have xl := HX.out.2.1.lt; have HS := hid (HS.out.bw (Bw.trans (by repeat (first | exact Bw.refl _ | apply Bw.alloc | apply Bw.drewN | apply Bw.drew)) hb1)); have zz := HS.out.ri.k.cell; have zf := HS.out.ri.k.free; have zl := HS.out.ri.k.lt; clear hb1)
          | fail)
        refine wp_region_W (fun w' => w'.cell? ⟨b3, 5, none⟩ = some (.slice av acc.length cv)) (fun j => if j == 6 || j == 7 then 0 else if j == 8 || j == 11 then 2 else 1) (by kernel_rfl) ?_
        refine wpAnyW_take (i := 0) (oi := { dst := some 8, op := Op.move (Operand.tmp 3), type := 57, pos := "statement.go:8", after := #[], guard := none }) (v := ?_) rfl (by kernel_rfl) (by kernel_rfl) (by kernel_rfl) (by kernel_rfl) (fun _ _ _ h => h) (Or.inl ⟨by rfl, fun w _ => ?_⟩) ?_
        rotate_left
        · (go_simp; first | done | with_reducible rfl)
        try simp only [Act.put, List.setIfInBounds_toArray, List.set_cons_zero, List.set_cons_succ]
        refine wpAnyW_take (i := 1) (oi := { dst := some 9, op := Op.move (Operand.tmp 3), type := 57, pos := "statement.go:8", after := #[], guard := none }) (v := ?_) rfl (by kernel_rfl) (by kernel_rfl) (by kernel_rfl) (by kernel_rfl) (fun _ _ _ h => h) (Or.inl ⟨by rfl, fun w _ => ?_⟩) ?_
        rotate_left
        · (go_simp; first | done | with_reducible rfl)
        try simp only [Act.put, List.setIfInBounds_toArray, List.set_cons_zero, List.set_cons_succ]
        refine wpAnyW_take (i := 2) (oi := { dst := some 10, op := Op.nilCheck (Operand.tmp 9), type := 0, pos := "statement.go:8", after := #[{ on := 1, ground := Ground.data }], guard := none }) (v := ?_) rfl (by kernel_rfl) (by kernel_rfl) (by kernel_rfl) (by kernel_rfl) (fun _ _ _ h => h) (Or.inl ⟨by rfl, fun w _ => ?_⟩) ?_
        rotate_left
        · (go_simp; first | done | with_reducible rfl)
        try simp only [Act.put, List.setIfInBounds_toArray, List.set_cons_zero, List.set_cons_succ]
        refine wpAnyW_take (i := 3) (oi := { dst := some 11, op := Op.fieldAddr 83 (Operand.tmp 10) 1, type := 0, pos := "statement.go:8", after := #[{ on := 2, ground := Ground.data }], guard := none }) (v := ?_) rfl (by kernel_rfl) (by kernel_rfl) (by kernel_rfl) (by kernel_rfl) (fun _ _ _ h => h) (Or.inl ⟨by rfl, fun w _ => ?_⟩) ?_
        rotate_left
        · (go_simp; first | done | with_reducible rfl)
        try simp only [Act.put, List.setIfInBounds_toArray, List.set_cons_zero, List.set_cons_succ]
        refine wpAnyW_load (i := 4) (oi := { dst := some 12, op := Op.load 81 (Operand.tmp 11), type := 81, pos := "statement.go:8", after := #[{ on := 3, ground := Ground.data }], guard := none }) (v := ?_) rfl (by kernel_rfl) (by kernel_rfl) (by kernel_rfl) (by kernel_rfl) (by kernel_rfl) (fun _ _ _ h => h) (Or.inl ⟨by rfl, fun w hS => ?_⟩) (by first | exact x5 | (simp [go_sem]; done) | (simp [go_sem, *]; done)) ?_
        rotate_left
        · (skip; go_simp; first | done | with_reducible rfl)
        try simp only [Act.put, List.setIfInBounds_toArray, List.set_cons_zero, List.set_cons_succ]
        refine wpAnyW_take (i := 5) (oi := { dst := some 13, op := Op.move (Operand.tmp 0), type := 58, pos := "statement.go:8", after := #[], guard := none }) (v := ?_) rfl (by kernel_rfl) (by kernel_rfl) (by kernel_rfl) (by kernel_rfl) (fun _ _ _ h => h) (Or.inl ⟨by rfl, fun w _ => ?_⟩) ?_
        rotate_left
        · (go_simp; first | done | with_reducible rfl)
        try simp only [Act.put, List.setIfInBounds_toArray, List.set_cons_zero, List.set_cons_succ]
        refine wpAnyW_ready (rs := [6]) (by kernel_rfl) (by simp) ?_
        refine (AllReadyW.cons (o := { dst := some 14, op := Op.call { callee := Callee.value (Operand.func 45), args := #[Operand.tmp 13], argTypes := #[58] }, type := 57, pos := "statement.go:8", after := #[{ on := 5, ground := Ground.data }], guard := none }) rfl (fun K hK => ?_) AllReadyW.nil)
        go_simp
        refine (HC.out f' (by omega) _ _ _ (HS.out.ri.bw (by repeat (first | exact Bw.refl _ | apply Bw.alloc | apply Bw.drewN | apply Bw.drew))) ho HNE.out).mono ?_
        intro e w2 h2
        rw [HQ.out] at h2
        obtain ⟨b2, he2, hp2, hr2, hk2⟩ := h2
        subst he2
        obtain ⟨bs, ho2, hbk, hpush⟩ := (HX.out.bw (by repeat (first | exact Bw.refl _ | apply Bw.alloc | apply Bw.drewN | apply Bw.drew))).app (HS.out.kp.bw (by repeat (first | exact Bw.refl _ | apply Bw.alloc | apply Bw.drewN | apply Bw.drew))).size hk2 HR0.out hp2
        have HO2 := hid ho2
        have HPU := hid hpush
        have HBK := hid hbk
        have HX2 := hid ((HX.out.bw (by repeat (first | exact Bw.refl _ | apply Bw.alloc | apply Bw.drewN | apply Bw.drew))).kp hk2 HR0.out)
        have HS := hid ((HS.out.bw (by repeat (first | exact Bw.refl _ | apply Bw.alloc | apply Bw.drewN | apply Bw.drew))).go hr2 hk2)
        clear hp2 hr2 hk2 ho2 hpush hbk
        refine hK.out _ _ (HX2.out.2.1.cell 5) ?_
        clear hK K
        try simp only [Act.put, List.setIfInBounds_toArray, List.set_cons_zero, List.set_cons_succ]
        refine wpAnyW_ready (rs := [7]) (by kernel_rfl) (by simp) ?_
        refine (AllReadyW.cons (o := { dst := some 15, op := Op.buildSlice 81 1 #[(0, Operand.tmp 14)], type := 81, pos := "statement.go:8", after := #[{ on := 6, ground := Ground.data }], guard := none }) rfl (fun K hK => ?_) AllReadyW.nil)
        go_simp
        refine hK.out _ _ ((HX2.out.bw (Bw.alloc (Bw.refl _) _)).2.1.cell 5) ?_
        clear hK K
        try simp only [Act.put, List.setIfInBounds_toArray, List.set_cons_zero, List.set_cons_succ]
        refine wpAnyW_ready (rs := [8]) (by kernel_rfl) (by simp) ?_
        refine (AllReadyW.cons (o := { dst := some 16, op := Op.call { callee := Callee.builtin Builtin.append, args := #[Operand.tmp 12, Operand.tmp 15], argTypes := #[81, 81] }, type := 81, pos := "statement.go:8", after := #[{ on := 4, ground := Ground.data }, { on := 7, ground := Ground.data }, { on := 6, ground := Ground.chain }], guard := none }) rfl (fun K hK => ?_) AllReadyW.nil)
        refine step_append_row (by rfl) (.tmp 12) (.tmp 15) 81 (by rfl) 57 i1 _ 1 8 underPps I1.out.1 I1.out.2.1 I1.out.2.2.1 I1.out.2.2.2 (by rfl) (by decide) (.slice av acc.length cv) acc.length _ (by rfl) HO2.out ⟨w2.heap.size, 0, none⟩ 1 1 [.pointer (some ⟨b2, 0, none⟩)] (by rfl) (by rfl) (one_new w2 _ _) (by intro u hu; rw [List.mem_singleton] at hu; subst hu; rfl) (by unfold maxLen; omega) (by omega) ?_
        intro v4 w4 ho4 hg4 hv4
        obtain ⟨a4, c4, e4⟩ := own_form ho4
        subst e4
        obtain ⟨e1, hx4⟩ := HPU.out _ _ ho4 hg4 hv4
        have HX := hid hx4
        have y5 := e1.cell
        have yf := e1.free
        have yl := e1.lt
        have HS := hid ((HS.out.bw (Bw.alloc (Bw.refl w2) _)).grown HBB.out hg4 (fun k e => (HBK.out k e).1))
        have z3 := HS.out.ri.k.cell 3
        have HS := hid (HS.out.setNew (j := 5) HBB.out HX2.out.1 (.slice a4 (acc.length + 1) c4))
        clear ho4 hg4 hv4 e1 hx4
        refine hK.out _ _ trivial ?_
        clear hK K
        try simp only [Act.put, List.setIfInBounds_toArray, List.set_cons_zero, List.set_cons_succ]
        refine wpAnyW_take (i := 9) (oi := { dst := some 17, op := Op.nilCheck (Operand.tmp 8), type := 0, pos := "statement.go:8", after := #[{ on := 0, ground := Ground.data }, { on := 0, ground := Ground.phase }, { on := 1, ground := Ground.phase }, { on := 2, ground := Ground.phase }, { on := 3, ground := Ground.phase }, { on := 4, ground := Ground.phase }, { on := 5, ground := Ground.phase }, { on := 6, ground := Ground.phase }, { on := 7, ground := Ground.phase }, { on := 8, ground := Ground.phase }], guard := none }) (v := ?_) rfl (by kernel_rfl) (by kernel_rfl) (by kernel_rfl) (by kernel_rfl) (fun _ _ _ h => h) (Or.inl ⟨by rfl, fun w _ => ?_⟩) ?_
        rotate_left
        · (go_simp; first | done | with_reducible rfl)
        try simp only [Act.put, List.setIfInBounds_toArray, List.set_cons_zero, List.set_cons_succ]
        refine wpAnyW_take (i := 10) (oi := { dst := some 18, op := Op.fieldAddr 83 (Operand.tmp 17) 1, type := 0, pos := "statement.go:8", after := #[{ on := 9, ground := Ground.data }, { on := 0, ground := Ground.phase }, { on := 1, ground := Ground.phase }, { on := 2, ground := Ground.phase }, { on := 3, ground := Ground.phase }, { on := 4, ground := Ground.phase }, { on := 5, ground := Ground.phase }, { on := 6, ground := Ground.phase }, { on := 7, ground := Ground.phase }, { on := 8, ground := Ground.phase }], guard := none }) (v := ?_) rfl (by kernel_rfl) (by kernel_rfl) (by kernel_rfl) (by kernel_rfl) (fun _ _ _ h => h) (Or.inl ⟨by rfl, fun w _ => ?_⟩) ?_
        rotate_left
        · (go_simp; first | done | with_reducible rfl)
        try simp only [Act.put, List.setIfInBounds_toArray, List.set_cons_zero, List.set_cons_succ]
        refine wpAnyW_ready (rs := [11]) (by kernel_rfl) (by simp) ?_
        refine (AllReadyW.cons (o := { dst := none, op := Op.store 81 (Operand.tmp 18) (Operand.tmp 16), type := 0, pos := "statement.go:8", after := #[{ on := 10, ground := Ground.data }, { on := 8, ground := Ground.data }, { on := 8, ground := Ground.chain }, { on := 0, ground := Ground.phase }, { on := 1, ground := Ground.phase }, { on := 2, ground := Ground.phase }, { on := 3, ground := Ground.phase }, { on := 4, ground := Ground.phase }, { on := 5, ground := Ground.phase }, { on := 6, ground := Ground.phase }, { on := 7, ground := Ground.phase }, { on := 8, ground := Ground.phase }], guard := none }) rfl (fun K hK => ?_) AllReadyW.nil)
        go_simp
        refine hK.out _ _ trivial ?_
        clear hK K
        try simp only [Act.put, List.setIfInBounds_toArray, List.set_cons_zero, List.set_cons_succ]
        refine wpAnyW_done (by kernel_rfl) ?_ _
        go_wp2
        go_roundw
        case rel => exact ⟨f', acc ++ [y], a4, c4, j1, by omega, HR.out, HS.out, by simpa using HX.out, by simp; omega⟩
        case measure =>
          have h1 := HS.out.ri.nx
          have h2 := HS.out.ri.lt
          rw [h1]
          omega

end

end Go.Proofs.YtlcieebneclmpaaDoor

set_option linter.unusedSimpArgs false
set_option linter.unusedVariables false
namespace Go.Proofs.YtlcieebneclmpaaDoor
open Go Go.RowKit

section
variable {B : World} {r g cap : Nat} {T : List ATok} {ex : Nat → Value}

set_option maxRecDepth 100000 in
set_option maxHeartbeats 8000000 in
theorem withBody_any (f : Nat) (hrr : RdR B r g cap T ex f 90 .par) (hbk : RdP B r g cap T ex f 59 #[.pointer (some ⟨r, 0, none⟩)] .block) (w0 w : World) (i o b : Nat) (kind : Int) (text : List Int) (at_ : Int)
    (h : SI B w0 No w r g cap T ex i o []) (hx : Blk w b (prtC kind text 0 at_ (.slice none 0 0)) 83) (h0 : w0.heap.size ≤ b) (hB : B.heap.size ≤ w0.heap.size) (ho : o ≤ 64) (hne : pP T (f + 1) (.body kind text at_) i o ≠ .out) :
    Calls Tryd.prog 83 #[.pointer (some ⟨r, 0, none⟩), .pointer (some ⟨b, 0, none⟩)] w (Got B r g cap T ex o No w0 (pP T (f + 1) (.body kind text at_) i o)) := by
  have e : pP T (f + 1) (.body kind text at_) i o = (pP T f (.row .par ⟨#[40]⟩ ⟨#[41]⟩) i o).bind fun r _ i => (pP T f .block i o).bind fun b _ i => .ok (.mk kind text r.kids.length at_ (r.kids ++ [b])) false i := by
    simp only [pP]
  rw [e] at hne ⊢
  have HS := hid h
  have HRR := hid hrr
  have HBK := hid hbk
  have HX0 := hid hx
  have HB0 := hid h0
  have HBB := hid hB
  have HR0 := hid h.r0
  have HBR := hid (show b ≠ r by have := h.r0; omega)
  have HBL := hid hx.lt
  have HLL := hid h.ri.len
  have hmf : ∀ (fn : Fn) (first cap : Array Value) (w : World), (Instr.makeFunc fn first cap).run Tryd.prog w = .ok (.func fn first cap) w := fun _ _ _ _ => rfl
  obtain ⟨i1, hi1, hz1, hs1, hy1⟩ := info_parts infoPp
  have I1 := hid (And.intro hi1 (And.intro hz1 (And.intro hs1 hy1)))
  clear hi1 hz1 hs1 hy1
  have zl := h.ri.k.lt
  have bl := hx.lt
  clear h hrr hbk hx h0 hB e
  have HNE1 := hid (show pP T f (.row .par ⟨#[40]⟩ ⟨#[41]⟩) i o ≠ .out from fun q => hne (by rw [q]; rfl))
  generalize hq1 : pP T f (.row .par ⟨#[40]⟩ ⟨#[41]⟩) i o = R1 at hne ⊢
  have HQ1 := hid hq1
  clear hq1
  cases R1 with
  | out => exact absurd HQ1.out HNE1.out
  | bad n1 m1 =>
    simp only [Res.bind]
    clear hne
    go_enter Tryd.func83, Tryd.ntmps83
    go_wp2_with (first
      | (go_at_call 88; refine (HRR.out _ _ _ _ _ (HS.out.ri.bw (by repeat (first | exact Bw.refl _ | apply Bw.alloc | apply Bw.drewN | apply Bw.drew))) ho HNE1.out).mono ?_; intro e w2 h2; rw [HQ1.out] at h2; obtain ⟨rfl, hk2⟩ := h2; have HK := hid ((HS.out.kp.bw (by repeat (first | exact Bw.refl _ | apply Bw.alloc | apply Bw.drewN | apply Bw.drew))).trans hk2); clear hk2)
      | fail)
    all_goals exact ⟨rfl, rfl, HK.out⟩
  | ok x1 c1 j1 =>
    simp only [Res.bind] at hne ⊢
    have HNE2 := hid (show pP T f .block j1 o ≠ .out from fun q => hne (by rw [q]))
    have HLEN := hid (row_len HQ1.out)
    clear hne
    generalize hq2 : pP T f .block j1 o = R2
    have HQ2 := hid hq2
    clear hq2
    cases R2 with
    | out => exact absurd HQ2.out HNE2.out
    | bad n2 m2 =>
      go_enter Tryd.func83, Tryd.ntmps83
      go_upto_region 3 with (first
        | (go_at_call 88; refine (HRR.out _ _ _ _ _ HS.out.ri ho HNE1.out).mono ?_; intro e w2 h2; rw [HQ1.out] at h2; obtain ⟨v2, rfl, hrw, hr2, hk2⟩ := h2; obtain ⟨av, cv, ev⟩ : ∃ av cv, v2 = .slice av x1.kids.length cv := (by obtain ⟨bs9, ho9, _⟩ := hrw; exact own_form ho9); subst ev; have hxb := HX0.out.kp hk2 HBR.out; have y5 := hxb.cell; have yf := hxb.free; have yl := hxb.lt; have HX := hid (XI.body (w0 := w0) (x1.kids.length : Int) hrw hxb HB0.out HBL.out HS.out.kp.size); have hll : x1.kids.length ≤ 20000 := (by have a1 := HLEN.out; have a2 := hr2.lt; have a3 := HLL.out; omega); have HS := hid (((HS.out.go hr2 hk2).setNew (j := 5) HBB.out HB0.out (.slice av x1.kids.length cv)).setNew (j := 3) HBB.out HB0.out (.int .i64 (x1.kids.length : Int))); clear hrw hr2 hk2 hxb)
        | fail)
      have x5 := HX.out.2.1.cell 5
      have xl := HX.out.2.1.lt
      refine wp_region_W (fun w' => w'.cell? ⟨b, 5, none⟩ = some (.slice av x1.kids.length cv)) (fun j => if j == 6 then 0 else 1) (by kernel_rfl) ?_
      refine wpAnyW_take (i := 0) (oi := { dst := some 21, op := Op.move (Operand.tmp 1), type := 57, pos := "reader.go:103", after := #[], guard := none }) (v := ?_) rfl (by kernel_rfl) (by kernel_rfl) (by kernel_rfl) (by kernel_rfl) (fun _ _ _ h => h) (Or.inl ⟨by rfl, fun w _ => ?_⟩) ?_
      rotate_left
      · (go_simp; first | done | with_reducible rfl)
      try simp only [Act.put, List.setIfInBounds_toArray, List.set_cons_zero, List.set_cons_succ]
      refine wpAnyW_take (i := 1) (oi := { dst := some 22, op := Op.move (Operand.tmp 1), type := 57, pos := "reader.go:103", after := #[], guard := none }) (v := ?_) rfl (by kernel_rfl) (by kernel_rfl) (by kernel_rfl) (by kernel_rfl) (fun _ _ _ h => h) (Or.inl ⟨by rfl, fun w _ => ?_⟩) ?_
      rotate_left
      · (go_simp; first | done | with_reducible rfl)
      try simp only [Act.put, List.setIfInBounds_toArray, List.set_cons_zero, List.set_cons_succ]
      refine wpAnyW_take (i := 2) (oi := { dst := some 23, op := Op.nilCheck (Operand.tmp 22), type := 0, pos := "reader.go:103", after := #[{ on := 1, ground := Ground.data }], guard := none }) (v := ?_) rfl (by kernel_rfl) (by kernel_rfl) (by kernel_rfl) (by kernel_rfl) (fun _ _ _ h => h) (Or.inl ⟨by rfl, fun w _ => ?_⟩) ?_
      rotate_left
      · (go_simp; first | done | with_reducible rfl)
      try simp only [Act.put, List.setIfInBounds_toArray, List.set_cons_zero, List.set_cons_succ]
      refine wpAnyW_take (i := 3) (oi := { dst := some 24, op := Op.fieldAddr 83 (Operand.tmp 23) 1, type := 0, pos := "reader.go:103", after := #[{ on := 2, ground := Ground.data }], guard := none }) (v := ?_) rfl (by kernel_rfl) (by kernel_rfl) (by kernel_rfl) (by kernel_rfl) (fun _ _ _ h => h) (Or.inl ⟨by rfl, fun w _ => ?_⟩) ?_
      rotate_left
      · (go_simp; first | done | with_reducible rfl)
      try simp only [Act.put, List.setIfInBounds_toArray, List.set_cons_zero, List.set_cons_succ]
      refine wpAnyW_load (i := 4) (oi := { dst := some 25, op := Op.load 81 (Operand.tmp 24), type := 81, pos := "reader.go:103", after := #[{ on := 3, ground := Ground.data }], guard := none }) (v := ?_) rfl (by kernel_rfl) (by kernel_rfl) (by kernel_rfl) (by kernel_rfl) (by kernel_rfl) (fun _ _ _ h => h) (Or.inl ⟨by rfl, fun w hS => ?_⟩) (by first | exact x5 | (simp [go_sem]; done) | (simp [go_sem, *]; done)) ?_
      rotate_left
      · (skip; go_simp; first | done | with_reducible rfl)
      try simp only [Act.put, List.setIfInBounds_toArray, List.set_cons_zero, List.set_cons_succ]
      refine wpAnyW_take (i := 5) (oi := { dst := some 26, op := Op.move (Operand.tmp 0), type := 58, pos := "reader.go:103", after := #[], guard := none }) (v := ?_) rfl (by kernel_rfl) (by kernel_rfl) (by kernel_rfl) (by kernel_rfl) (fun _ _ _ h => h) (Or.inl ⟨by rfl, fun w _ => ?_⟩) ?_
      rotate_left
      · (go_simp; first | done | with_reducible rfl)
      try simp only [Act.put, List.setIfInBounds_toArray, List.set_cons_zero, List.set_cons_succ]
      refine wpAnyW_ready (rs := [6]) (by kernel_rfl) (by simp) ?_
      refine (AllReadyW.cons (o := { dst := some 27, op := Op.call { callee := Callee.value (Operand.func 59), args := #[Operand.tmp 26], argTypes := #[58] }, type := 57, pos := "reader.go:103", after := #[{ on := 5, ground := Ground.data }], guard := none }) rfl (fun K hK => ?_) AllReadyW.nil)
      go_simp
      refine (HBK.out _ _ _ (HS.out.ri.bw (by repeat (first | exact Bw.refl _ | apply Bw.alloc | apply Bw.drewN | apply Bw.drew))) ho HNE2.out).mono ?_
      intro e w2 h2
      rw [HQ2.out] at h2
      obtain ⟨he2, hk2⟩ := h2
      subst he2
      exact ⟨rfl, rfl, (HS.out.kp.bw (by repeat (first | exact Bw.refl _ | apply Bw.alloc | apply Bw.drewN | apply Bw.drew))).trans hk2⟩
    | ok x2 c2 j2 =>
      go_enter Tryd.func83, Tryd.ntmps83
      go_upto_region 3 with (first
        | (go_at_call 88; refine (HRR.out _ _ _ _ _ HS.out.ri ho HNE1.out).mono ?_; intro e w2 h2; rw [HQ1.out] at h2; obtain ⟨v2, rfl, hrw, hr2, hk2⟩ := h2; obtain ⟨av, cv, ev⟩ : ∃ av cv, v2 = .slice av x1.kids.length cv := (by obtain ⟨bs9, ho9, _⟩ := hrw; exact own_form ho9); subst ev; have hxb := HX0.out.kp hk2 HBR.out; have y5 := hxb.cell; have yf := hxb.free; have yl := hxb.lt; have HX := hid (XI.body (w0 := w0) (x1.kids.length : Int) hrw hxb HB0.out HBL.out HS.out.kp.size); have hll : x1.kids.length ≤ 20000 := (by have a1 := HLEN.out; have a2 := hr2.lt; have a3 := HLL.out; omega); have HS := hid (((HS.out.go hr2 hk2).setNew (j := 5) HBB.out HB0.out (.slice av x1.kids.length cv)).setNew (j := 3) HBB.out HB0.out (.int .i64 (x1.kids.length : Int))); clear hrw hr2 hk2 hxb)
        | fail)
      have x5 := HX.out.2.1.cell 5
      have xl := HX.out.2.1.lt
      refine wp_region_W (fun w' => w'.cell? ⟨b, 5, none⟩ = some (.slice av x1.kids.length cv)) (fun j => if j == 6 || j == 7 then 0 else if j == 8 || j == 11 then 2 else 1) (by kernel_rfl) ?_
      refine wpAnyW_take (i := 0) (oi := { dst := some 21, op := Op.move (Operand.tmp 1), type := 57, pos := "reader.go:103", after := #[], guard := none }) (v := ?_) rfl (by kernel_rfl) (by kernel_rfl) (by kernel_rfl) (by kernel_rfl) (fun _ _ _ h => h) (Or.inl ⟨by rfl, fun w _ => ?_⟩) ?_
      rotate_left
      · (go_simp; first | done | with_reducible rfl)
      try simp only [Act.put, List.setIfInBounds_toArray, List.set_cons_zero, List.set_cons_succ]
      refine wpAnyW_take (i := 1) (oi := { dst := some 22, op := Op.move (Operand.tmp 1), type := 57, pos := "reader.go:103", after := #[], guard := none }) (v := ?_) rfl (by kernel_rfl) (by kernel_rfl) (by kernel_rfl) (by kernel_rfl) (fun _ _ _ h => h) (Or.inl ⟨by rfl, fun w _ => ?_⟩) ?_
      rotate_left
      · (go_simp; first | done | with_reducible rfl)
      try simp only [Act.put, List.setIfInBounds_toArray, List.set_cons_zero, List.set_cons_succ]
      refine wpAnyW_take (i := 2) (oi := { dst := some 23, op := Op.nilCheck (Operand.tmp 22), type := 0, pos := "reader.go:103", after := #[{ on := 1, ground := Ground.data }], guard := none }) (v := ?_) rfl (by kernel_rfl) (by kernel_rfl) (by kernel_rfl) (by kernel_rfl) (fun _ _ _ h => h) (Or.inl ⟨by rfl, fun w _ => ?_⟩) ?_
      rotate_left
      · (go_simp; first | done | with_reducible rfl)
      try simp only [Act.put, List.setIfInBounds_toArray, List.set_cons_zero, List.set_cons_succ]
      refine wpAnyW_take (i := 3) (oi := { dst := some 24, op := Op.fieldAddr 83 (Operand.tmp 23) 1, type := 0, pos := "reader.go:103", after := #[{ on := 2, ground := Ground.data }], guard := none }) (v := ?_) rfl (by kernel_rfl) (by kernel_rfl) (by kernel_rfl) (by kernel_rfl) (fun _ _ _ h => h) (Or.inl ⟨by rfl, fun w _ => ?_⟩) ?_
      rotate_left
      · (go_simp; first | done | with_reducible rfl)
      try simp only [Act.put, List.setIfInBounds_toArray, List.set_cons_zero, List.set_cons_succ]
      refine wpAnyW_load (i := 4) (oi := { dst := some 25, op := Op.load 81 (Operand.tmp 24), type := 81, pos := "reader.go:103", after := #[{ on := 3, ground := Ground.data }], guard := none }) (v := ?_) rfl (by kernel_rfl) (by kernel_rfl) (by kernel_rfl) (by kernel_rfl) (by kernel_rfl) (fun _ _ _ h => h) (Or.inl ⟨by rfl, fun w hS => ?_⟩) (by first | exact x5 | (simp [go_sem]; done) | (simp [go_sem, *]; done)) ?_
      rotate_left
      · (skip; go_simp; first | done | with_reducible rfl)
      try simp only [Act.put, List.setIfInBounds_toArray, List.set_cons_zero, List.set_cons_succ]
      refine wpAnyW_take (i := 5) (oi := { dst := some 26, op := Op.move (Operand.tmp 0), type := 58, pos := "reader.go:103", after := #[], guard := none }) (v := ?_) rfl (by kernel_rfl) (by kernel_rfl) (by kernel_rfl) (by kernel_rfl) (fun _ _ _ h => h) (Or.inl ⟨by rfl, fun w _ => ?_⟩) ?_
      rotate_left
      · (go_simp; first | done | with_reducible rfl)
      try simp only [Act.put, List.setIfInBounds_toArray, List.set_cons_zero, List.set_cons_succ]
      refine wpAnyW_ready (rs := [6]) (by kernel_rfl) (by simp) ?_
      refine (AllReadyW.cons (o := { dst := some 27, op := Op.call { callee := Callee.value (Operand.func 59), args := #[Operand.tmp 26], argTypes := #[58] }, type := 57, pos := "reader.go:103", after := #[{ on := 5, ground := Ground.data }], guard := none }) rfl (fun K hK => ?_) AllReadyW.nil)
      go_simp
      refine (HBK.out _ _ _ (HS.out.ri.bw (by repeat (first | exact Bw.refl _ | apply Bw.alloc | apply Bw.drewN | apply Bw.drew))) ho HNE2.out).mono ?_
      intro e w2 h2
      rw [HQ2.out] at h2
      obtain ⟨b2, he2, hp2, hr2, hk2⟩ := h2
      subst he2
      obtain ⟨bs, ho2, hbk, hpush⟩ := (HX.out.bw (by repeat (first | exact Bw.refl _ | apply Bw.alloc | apply Bw.drewN | apply Bw.drew))).app (HS.out.kp.bw (by repeat (first | exact Bw.refl _ | apply Bw.alloc | apply Bw.drewN | apply Bw.drew))).size hk2 HR0.out hp2
      have HO2 := hid ho2
      have HPU := hid hpush
      have HBK := hid hbk
      have HX2 := hid ((HX.out.bw (by repeat (first | exact Bw.refl _ | apply Bw.alloc | apply Bw.drewN | apply Bw.drew))).kp hk2 HR0.out)
      have HS := hid ((HS.out.bw (by repeat (first | exact Bw.refl _ | apply Bw.alloc | apply Bw.drewN | apply Bw.drew))).go hr2 hk2)
      clear hp2 hr2 hk2 ho2 hpush hbk
      refine hK.out _ _ (HX2.out.2.1.cell 5) ?_
      clear hK K
      try simp only [Act.put, List.setIfInBounds_toArray, List.set_cons_zero, List.set_cons_succ]
      refine wpAnyW_ready (rs := [7]) (by kernel_rfl) (by simp) ?_
      refine (AllReadyW.cons (o := { dst := some 28, op := Op.buildSlice 81 1 #[(0, Operand.tmp 27)], type := 81, pos := "reader.go:103", after := #[{ on := 6, ground := Ground.data }], guard := none }) rfl (fun K hK => ?_) AllReadyW.nil)
      go_simp
      refine hK.out _ _ ((HX2.out.bw (Bw.alloc (Bw.refl _) _)).2.1.cell 5) ?_
      clear hK K
      try simp only [Act.put, List.setIfInBounds_toArray, List.set_cons_zero, List.set_cons_succ]
      refine wpAnyW_ready (rs := [8]) (by kernel_rfl) (by simp) ?_
      refine (AllReadyW.cons (o := { dst := some 29, op := Op.call { callee := Callee.builtin Builtin.append, args := #[Operand.tmp 25, Operand.tmp 28], argTypes := #[81, 81] }, type := 81, pos := "reader.go:103", after := #[{ on := 4, ground := Ground.data }, { on := 7, ground := Ground.data }, { on := 6, ground := Ground.chain }], guard := none }) rfl (fun K hK => ?_) AllReadyW.nil)
      refine step_append_row (by rfl) (.tmp 25) (.tmp 28) 81 (by rfl) 57 i1 _ 1 8 underPps I1.out.1 I1.out.2.1 I1.out.2.2.1 I1.out.2.2.2 (by rfl) (by decide) (.slice av x1.kids.length cv) x1.kids.length _ (by rfl) HO2.out ⟨w2.heap.size, 0, none⟩ 1 1 [.pointer (some ⟨b2, 0, none⟩)] (by rfl) (by rfl) (one_new w2 _ _) (by intro u hu; rw [List.mem_singleton] at hu; subst hu; rfl) (by unfold maxLen; omega) (by omega) ?_
      intro v4 w4 ho4 hg4 hv4
      obtain ⟨a4, c4, e4⟩ := own_form ho4
      subst e4
      obtain ⟨e1, hx4⟩ := HPU.out _ _ ho4 hg4 hv4
      have HX := hid hx4
      have y5 := e1.cell
      have yf := e1.free
      have yl := e1.lt
      have HS := hid ((HS.out.bw (Bw.alloc (Bw.refl w2) _)).grown HBB.out hg4 (fun k e => (HBK.out k e).1))
      have z3 := HS.out.ri.k.cell 3
      have HS := hid (HS.out.setNew (j := 5) HBB.out HX2.out.1 (.slice a4 (x1.kids.length + 1) c4))
      clear ho4 hg4 hv4 e1 hx4
      refine hK.out _ _ trivial ?_
      clear hK K
      try simp only [Act.put, List.setIfInBounds_toArray, List.set_cons_zero, List.set_cons_succ]
      refine wpAnyW_take (i := 9) (oi := { dst := some 30, op := Op.nilCheck (Operand.tmp 21), type := 0, pos := "reader.go:103", after := #[{ on := 0, ground := Ground.data }, { on := 0, ground := Ground.phase }, { on := 1, ground := Ground.phase }, { on := 2, ground := Ground.phase }, { on := 3, ground := Ground.phase }, { on := 4, ground := Ground.phase }, { on := 5, ground := Ground.phase }, { on := 6, ground := Ground.phase }, { on := 7, ground := Ground.phase }, { on := 8, ground := Ground.phase }], guard := none }) (v := ?_) rfl (by kernel_rfl) (by kernel_rfl) (by kernel_rfl) (by kernel_rfl) (fun _ _ _ h => h) (Or.inl ⟨by rfl, fun w _ => ?_⟩) ?_
      rotate_left
      · (go_simp; first | done | with_reducible rfl)
      try simp only [Act.put, List.setIfInBounds_toArray, List.set_cons_zero, List.set_cons_succ]
      refine wpAnyW_take (i := 10) (oi := { dst := some 31, op := Op.fieldAddr 83 (Operand.tmp 30) 1, type := 0, pos := "reader.go:103", after := #[{ on := 9, ground := Ground.data }, { on := 0, ground := Ground.phase }, { on := 1, ground := Ground.phase }, { on := 2, ground := Ground.phase }, { on := 3, ground := Ground.phase }, { on := 4, ground := Ground.phase }, { on := 5, ground := Ground.phase }, { on := 6, ground := Ground.phase }, { on := 7, ground := Ground.phase }, { on := 8, ground := Ground.phase }], guard := none }) (v := ?_) rfl (by kernel_rfl) (by kernel_rfl) (by kernel_rfl) (by kernel_rfl) (fun _ _ _ h => h) (Or.inl ⟨by rfl, fun w _ => ?_⟩) ?_
      rotate_left
      · (go_simp; first | done | with_reducible rfl)
      try simp only [Act.put, List.setIfInBounds_toArray, List.set_cons_zero, List.set_cons_succ]
      refine wpAnyW_ready (rs := [11]) (by kernel_rfl) (by simp) ?_
      refine (AllReadyW.cons (o := { dst := none, op := Op.store 81 (Operand.tmp 31) (Operand.tmp 29), type := 0, pos := "reader.go:103", after := #[{ on := 10, ground := Ground.data }, { on := 8, ground := Ground.data }, { on := 8, ground := Ground.chain }, { on := 0, ground := Ground.phase }, { on := 1, ground := Ground.phase }, { on := 2, ground := Ground.phase }, { on := 3, ground := Ground.phase }, { on := 4, ground := Ground.phase }, { on := 5, ground := Ground.phase }, { on := 6, ground := Ground.phase }, { on := 7, ground := Ground.phase }, { on := 8, ground := Ground.phase }], guard := none }) rfl (fun K hK => ?_) AllReadyW.nil)
      go_simp
      refine hK.out _ _ trivial ?_
      clear hK K
      try simp only [Act.put, List.setIfInBounds_toArray, List.set_cons_zero, List.set_cons_succ]
      refine wpAnyW_done (by kernel_rfl) ?_ _
      go_wp2
      all_goals go_ret
      all_goals exact ⟨_, rfl, HX.out.part, HS.out.ri, HS.out.kp⟩

set_option maxRecDepth 100000 in
set_option maxHeartbeats 8000000 in
theorem function_any (f : Nat) (hbd : RdB B r g cap T ex f) (w : World) (i o : Nat) (h : RI B w r g cap T ex i o) (ho : o ≤ 64) (hs : isT T i ⟨#[102, 110]⟩ = true) (hn : (tk T (i + 1)).1 = 1) (hne : (pP T f (.body 12 (tk T (i + 1)).2.1 (tk T i).2.2.2) (i + 2) o) ≠ .out) :
    Calls Tryd.prog 66 #[.pointer (some ⟨r, 0, none⟩)] w (Got B r g cap T ex o No w (pP T f (.body 12 (tk T (i + 1)).2.1 (tk T i).2.2.2) (i + 2) o)) := by
  have HS := hid (SI.begin h)
  have HBD := hid hbd
  have HV := hid hs
  have HN := hid hn
  have HBB := hid h.kb.size
  have HNE := hid hne
  have zz := HS.out.ri.k.cell; have zf := HS.out.ri.k.free; have zl := HS.out.ri.k.lt
  clear h hbd hs hn hne
  generalize hq : (pP T f (.body 12 (tk T (i + 1)).2.1 (tk T i).2.2.2) (i + 2) o) = R
  have HQ := hid hq
  clear hq
  cases R with
  | out => exact absurd HQ.out HNE.out
  | bad n m =>
    go_enter Tryd.func66, Tryd.ntmps66
    go_wp2_with (first
      | (go_at_call 62; refine (want_yes _ (HS.out.ri.bw (by repeat (first | exact Bw.refl _ | apply Bw.alloc | apply Bw.drewN | apply Bw.drew))) HV.out).mono ?_; rintro e w1 ⟨rfl, hr1, hk1⟩; have HS := hid ((HS.out.bw (by repeat (first | exact Bw.refl _ | apply Bw.alloc | apply Bw.drewN | apply Bw.drew))).go hr1 hk1); have zz := HS.out.ri.k.cell; have zf := HS.out.ri.k.free; have zl := HS.out.ri.k.lt; clear hr1 hk1)
      | (go_at_call 79; refine (wantName_yes (HS.out.ri.bw (by repeat (first | exact Bw.refl _ | apply Bw.alloc | apply Bw.drewN | apply Bw.drew))) HN.out).mono ?_; unfold tokV; rintro e w1 ⟨rfl, hr1, hk1⟩; have HS := hid ((HS.out.bw (by repeat (first | exact Bw.refl _ | apply Bw.alloc | apply Bw.drewN | apply Bw.drew))).go hr1 hk1); have zz := HS.out.ri.k.cell; have zf := HS.out.ri.k.free; have zl := HS.out.ri.k.lt; clear hr1 hk1)
      | (go_at_call 80; refine (madeNamed_any _ _ _ _ [] [] _ _ (HS.out.bw (by repeat (first | exact Bw.refl _ | apply Bw.alloc | apply Bw.drewN | apply Bw.drew))).row0.1 (HS.out.bw (by repeat (first | exact Bw.refl _ | apply Bw.alloc | apply Bw.drewN | apply Bw.drew))).row0.2).mono ?_; rintro e w3 ⟨b3, rfl, hp3, hb3, hn3, hc3⟩; have HC3 := hid hc3; have HN3 := hid (Nat.le_trans (HS.out.bw (by repeat (first | exact Bw.refl _ | apply Bw.alloc | apply Bw.drewN | apply Bw.drew))).kp.size hn3); have HS := hid ((HS.out.bw (by repeat (first | exact Bw.refl _ | apply Bw.alloc | apply Bw.drewN | apply Bw.drew))).put hb3 hp3).drop; have zz := HS.out.ri.k.cell; have zf := HS.out.ri.k.free; have zl := HS.out.ri.k.lt; clear hp3 hb3)
      | (go_at_call 83; refine (HBD.out w _ _ _ _ _ _ _ (HS.out.bw (by repeat (first | exact Bw.refl _ | apply Bw.alloc | apply Bw.drewN | apply Bw.drew))) (HC3.out.bw (by repeat (first | exact Bw.refl _ | apply Bw.alloc | apply Bw.drewN | apply Bw.drew))) HN3.out HBB.out ho HNE.out).mono ?_; intro e w5 h5; rw [HQ.out] at h5; obtain ⟨rfl, hk5⟩ := h5; have HK := hid hk5; clear hk5)
      | fail)
    all_goals exact ⟨rfl, rfl, HK.out⟩
  | ok x c j =>
    go_enter Tryd.func66, Tryd.ntmps66
    go_wp2_with (first
      | (go_at_call 62; refine (want_yes _ (HS.out.ri.bw (by repeat (first | exact Bw.refl _ | apply Bw.alloc | apply Bw.drewN | apply Bw.drew))) HV.out).mono ?_; rintro e w1 ⟨rfl, hr1, hk1⟩; have HS := hid ((HS.out.bw (by repeat (first | exact Bw.refl _ | apply Bw.alloc | apply Bw.drewN | apply Bw.drew))).go hr1 hk1); have zz := HS.out.ri.k.cell; have zf := HS.out.ri.k.free; have zl := HS.out.ri.k.lt; clear hr1 hk1)
      | (go_at_call 79; refine (wantName_yes (HS.out.ri.bw (by repeat (first | exact Bw.refl _ | apply Bw.alloc | apply Bw.drewN | apply Bw.drew))) HN.out).mono ?_; unfold tokV; rintro e w1 ⟨rfl, hr1, hk1⟩; have HS := hid ((HS.out.bw (by repeat (first | exact Bw.refl _ | apply Bw.alloc | apply Bw.drewN | apply Bw.drew))).go hr1 hk1); have zz := HS.out.ri.k.cell; have zf := HS.out.ri.k.free; have zl := HS.out.ri.k.lt; clear hr1 hk1)
      | (go_at_call 80; refine (madeNamed_any _ _ _ _ [] [] _ _ (HS.out.bw (by repeat (first | exact Bw.refl _ | apply Bw.alloc | apply Bw.drewN | apply Bw.drew))).row0.1 (HS.out.bw (by repeat (first | exact Bw.refl _ | apply Bw.alloc | apply Bw.drewN | apply Bw.drew))).row0.2).mono ?_; rintro e w3 ⟨b3, rfl, hp3, hb3, hn3, hc3⟩; have HC3 := hid hc3; have HN3 := hid (Nat.le_trans (HS.out.bw (by repeat (first | exact Bw.refl _ | apply Bw.alloc | apply Bw.drewN | apply Bw.drew))).kp.size hn3); have HS := hid ((HS.out.bw (by repeat (first | exact Bw.refl _ | apply Bw.alloc | apply Bw.drewN | apply Bw.drew))).put hb3 hp3).drop; have zz := HS.out.ri.k.cell; have zf := HS.out.ri.k.free; have zl := HS.out.ri.k.lt; clear hp3 hb3)
      | (go_at_call 83; refine (HBD.out w _ _ _ _ _ _ _ (HS.out.bw (by repeat (first | exact Bw.refl _ | apply Bw.alloc | apply Bw.drewN | apply Bw.drew))) (HC3.out.bw (by repeat (first | exact Bw.refl _ | apply Bw.alloc | apply Bw.drewN | apply Bw.drew))) HN3.out HBB.out ho HNE.out).mono ?_; intro e w5 h5; rw [HQ.out] at h5; obtain ⟨b5, rfl, hp5, hr5, hk5⟩ := h5; have HF := hid (And.intro hp5 (And.intro hr5 hk5)); clear hp5 hr5 hk5)
      | fail)
    all_goals go_ret
    all_goals exact ⟨_, rfl, HF.out⟩

end

end Go.Proofs.YtlcieebneclmpaaDoor

