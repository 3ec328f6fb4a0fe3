/- A region that draws its order, walked by hand: what is held may be written at its end; operations that a guard passes over. · The resolver: declareGlobal, set. -/
import Derived.WalkKit
import Derived.Deep.RegionHeld3
import Derived.Test.YtekkjpecdflajaaDoorM10
import Derived.Carry
import Derived.Test.YtekkjpecdflajaaDoorM2
set_option linter.unusedSimpArgs false
set_option linter.unusedVariables false
namespace Go.Proofs.YtekkjpecdflajaaDoor
open Go Go.RowKit

section
variable {P : Program} {ops : Array Oper} {Q : Exit → Act → World → Prop} {md : Region.Mode} {S : World → Prop} {W : Nat → Nat}

/-- What is asked behind an operation: 0: S; 1: S, if it held ahead of it; else nothing. -/
def askW (S : World → Prop) (c : Nat) (w w' : World) : Prop :=
  match c with
  | 0 => S w'
  | 1 => S w → S w'
  | _ => True

/-- Whatever order is picked from here on, and behind each operation what W says of it. -/
def wpAnyW (P : Program) (md : Region.Mode) (ops : Array Oper) (Q : Exit → Act → World → Prop) (S : World → Prop) (W : Nat → Nat) : Nat → Array Bool → Act → World → Prop
  | 0, listed, a, w => Region.ready md ops listed = [] ∧ Q .normal a w
  | fuel + 1, listed, a, w =>
    (Region.ready md ops listed = [] → Q .normal a w) ∧
    ∀ i ∈ Region.ready md ops listed, wpOp P ops Q i (fun a' w' => askW S (W i) w w' ∧ wpAnyW P md ops Q S W fuel (listed.setIfInBounds i true) a' w') a w

theorem wpAny_of_W : ∀ (fuel : Nat) (listed : Array Bool) (a : Act) (w : World), wpAnyW P md ops Q S W fuel listed a w → wpAny P md ops Q fuel listed a w
  | 0, _, _, _, h => h
  | fuel + 1, _, _, _, h => ⟨h.1, fun i hi => wpOp_mono (fun a' w' h' => wpAny_of_W fuel _ a' w' h'.2) (h.2 i hi)⟩

/-- T: what the operation asks of the world; those that may come ahead of it leave T as it is. -/
theorem wpAnyW_first {T : World → Prop} {i : Nat} {oi : Oper} {v : Value} (hi : ops[i]? = some oi) (hsel : ∀ (j : Nat) (o : Oper) cs b, ops[j]? = some o → o.op ≠ .select cs b)
    (hQ : ∀ c a w, Q (.panic c) (a.put oi.dst v) w → Q (.panic c) a w) (hW : W i = 1)
    (hT : ∀ j oj, ops[j]? = some oj → (∀ e ∈ oj.after, Region.binds md e = true → e.on ≠ i) → ∀ w w', askW S (W j) w w' → T w → T w') :
    ∀ (fuel : Nat) (listed : Array Bool) (a : Act) (w : World),
      (∀ j oj, ops[j]? = some oj → j ≠ i → listed.getD j true = false → (∀ e ∈ oj.after, Region.binds md e = true → e.on ≠ i) → oi.apart ops oj = true) →
      i ∈ Region.ready md ops listed → YieldsIf P ops T oi v a → T w →
      wpAnyW P md ops Q S W fuel (listed.setIfInBounds i true) (a.put oi.dst v) w → wpAnyW P md ops Q S W (fuel + 1) listed a w := by
  have hSi : ∀ w, askW S (W i) w w := fun w => by rw [hW]; exact id
  intro fuel
  induction fuel with
  | zero =>
    intro listed a w _ hr hy hS H
    refine ⟨fun h => (by rw [h] at hr; cases hr), fun j hj => ?_⟩
    by_cases hji : j = i
    · subst hji; exact hy.wpOp hi hS ⟨hSi w, H⟩
    · have := ready_mono hj hji
      rw [H.1] at this
      cases this
  | succ fuel ih =>
    intro listed a w hfree hr hy hS H
    refine ⟨fun h => (by rw [h] at hr; cases hr), fun j hj => ?_⟩
    by_cases hji : j = i
    · subst hji; exact hy.wpOp hi hS ⟨hSi w, H⟩
    · have h1 := H.2 j (ready_mono hj hji)
      obtain ⟨hjun, oj, hoj, hall⟩ := mem_ready.1 hj
      have hnot : ∀ e ∈ oj.after, Region.binds md e = true → e.on ≠ i := fun e he hb heq => by
        have h1 := hall e he hb
        have h0 := (mem_ready.1 hr).1
        rw [heq] at h1
        rcases Nat.lt_or_ge i listed.size with h' | h'
        · simp [h'] at h0 h1; rw [h0] at h1; cases h1
        · simp [Array.getElem?_eq_none h'] at h1
      have h2 := wpOp_putIf hoj (hfree j oj hoj hji hjun hnot) (fun cs b => hsel i oi cs b hi) (fun cs b => hsel j oj cs b hoj) hQ hy h1
      have hfree' : ∀ k ok, ops[k]? = some ok → k ≠ i → (listed.setIfInBounds j true).getD k true = false →
          (∀ e ∈ ok.after, Region.binds md e = true → e.on ≠ i) → oi.apart ops ok = true := fun k ok hk hki hun hno => by
        refine hfree k ok hk hki ?_ hno
        by_cases hjk : j = k
        · subst hjk; exact hjun
        · rw [getD_set_ne true hjk] at hun; exact hun
      refine wpOp_mono (fun a' w' h3 => ?_) h2
      refine ⟨h3.2.1, ih (listed.setIfInBounds j true) a' w' hfree' (ready_mono hr (Ne.symm hji)) h3.1 (hT j oj hoj hnot w w' h3.2.1 hS) ?_⟩
      rw [Array.setIfInBounds_comm _ _ hji]
      exact h3.2.2

/-- What yields in whatever world is taken first. -/
theorem wpAnyW_take {i : Nat} {oi : Oper} {v : Value} {fuel : Nat} {listed : Array Bool} {a : Act} {w : World} (hi : ops[i]? = some oi)
    (hs : Region.noSelect ops = true) (hf : Region.free md ops listed i = true) (hr : (Region.ready md ops listed).contains i = true) (hW : W i = 1)
    (hQ : ∀ c a w, Q (.panic c) (a.put oi.dst v) w → Q (.panic c) a w) (hy : YieldsIf P ops (fun _ => True) oi v a)
    (h : wpAnyW P md ops Q S W fuel (listed.setIfInBounds i true) (a.put oi.dst v) w) : wpAnyW P md ops Q S W (fuel + 1) listed a w :=
  wpAnyW_first (T := fun _ => True) hi (Region.noSelect_spec hs) hQ hW (fun _ _ _ _ _ _ _ _ => trivial) fuel listed a w (Region.free_spec hi hf) (by simpa using hr) hy trivial h

/-- Do all of which nothing is asked wait for number i? -/
def waitsW (md : Region.Mode) (ops : Array Oper) (W : Nat → Nat) (i : Nat) : Bool :=
  (List.range ops.size).all fun j => decide (W j < 2) || match ops[j]? with
    | some oj => oj.after.any fun e => Region.binds md e && e.on == i
    | none => true

/-- A load is taken first. -/
theorem wpAnyW_load {i : Nat} {oi : Oper} {v : Value} {fuel : Nat} {listed : Array Bool} {a : Act} {w : World} (hi : ops[i]? = some oi)
    (hs : Region.noSelect ops = true) (hf : Region.free md ops listed i = true) (hr : (Region.ready md ops listed).contains i = true) (hW : W i = 1) (hw : waitsW md ops W i = true)
    (hQ : ∀ c a w, Q (.panic c) (a.put oi.dst v) w → Q (.panic c) a w) (hy : YieldsIf P ops S oi v a) (hS : S w)
    (h : wpAnyW P md ops Q S W fuel (listed.setIfInBounds i true) (a.put oi.dst v) w) : wpAnyW P md ops Q S W (fuel + 1) listed a w := by
  refine wpAnyW_first (T := S) hi (Region.noSelect_spec hs) hQ hW (fun j oj hj hno w w' hA hS => ?_) fuel listed a w (Region.free_spec hi hf) (by simpa using hr) hy hS h
  match c : W j, hA with
  | 0, hA => exact hA
  | 1, hA => exact hA hS
  | n + 2, _ =>
    simp only [waitsW, List.all_eq_true, List.mem_range] at hw
    have h1 := hw j (Array.getElem?_eq_some_iff.1 hj).1
    rw [hj, c, decide_eq_false (by omega), Bool.false_or] at h1
    obtain ⟨e, he, hb⟩ := Array.any_eq_true'.1 h1
    simp only [Bool.and_eq_true, beq_iff_eq] at hb
    exact absurd hb.2 (hno e he hb.1)

/-- Each of the operations rs comes up next. -/
def AllReadyW (P : Program) (md : Region.Mode) (ops : Array Oper) (Q : Exit → Act → World → Prop) (S : World → Prop) (W : Nat → Nat) (fuel : Nat) (listed : Array Bool) (a : Act) (w : World) (rs : List Nat) : Prop :=
  ∀ i ∈ rs, wpOp P ops Q i (fun a' w' => askW S (W i) w w' ∧ wpAnyW P md ops Q S W fuel (listed.setIfInBounds i true) a' w') a w

theorem AllReadyW.nil {fuel : Nat} {listed : Array Bool} {a : Act} {w : World} : AllReadyW P md ops Q S W fuel listed a w [] := fun _ h => by cases h

theorem AllReadyW.cons {fuel : Nat} {listed : Array Bool} {a : Act} {w : World} {i : Nat} {o : Oper} {rs : List Nat} (ho : ops[i]? = some o)
    (h : ∀ K' : Act → World → Prop, Shut (∀ a' w', askW S (W i) w w' → wpAnyW P md ops Q S W fuel (listed.setIfInBounds i true) a' w' → K' a' w') → if Region.wanted o (yielded ops a.tmps) = true then Oper.wp P o a w K' Q else K' (a.put o.dst undef) w)
    (hs : AllReadyW P md ops Q S W fuel listed a w rs) : AllReadyW P md ops Q S W fuel listed a w (i :: rs) := fun j hj => by
  rcases List.mem_cons.1 hj with rfl | hj
  · exact wpOp_step ho (fun K' hK => h K' (fun a w hS hW => hK a w ⟨hS, hW⟩))
  · exact hs j hj

theorem wpAnyW_ready {rs : List Nat} {fuel : Nat} {listed : Array Bool} {a : Act} {w : World} (hr : Region.ready md ops listed = rs) (hne : rs ≠ [])
    (h : AllReadyW P md ops Q S W fuel listed a w rs) : wpAnyW P md ops Q S W (fuel + 1) listed a w := ⟨fun h0 => absurd (hr ▸ h0) hne, hr ▸ h⟩

theorem wpAnyW_done {listed : Array Bool} {a : Act} {w : World} (hr : Region.ready md ops listed = []) (h : Q .normal a w) :
    ∀ fuel, wpAnyW P md ops Q S W fuel listed a w
  | 0 => ⟨hr, h⟩
  | _ + 1 => ⟨fun _ => h, by rw [hr]; simp⟩

/-- The beginning. -/
theorem wp_region_W {id : Nat} {a : Act} {w : World} (S : World → Prop) (W : Nat → Nat) (hm : P.follows .mixedOrders = true)
    (h : wpAnyW P .any ops Q S W ops.size (Array.replicate ops.size false) a w.drew) : (Code.region id ops true).wp P Q a w :=
  wp_region_any hm (wpAny_of_W _ _ _ _ h)

end

end Go.Proofs.YtekkjpecdflajaaDoor

set_option linter.unusedSimpArgs false
set_option linter.unusedVariables false
namespace Go.Proofs.YtekkjpecdflajaaDoor
open Go Go.RowKit
section
variable {w : World} {X : ZX} {z : ZS} {B : ZB}
theorem MS.mapTurned {w w' : World} {a b n : Nat} {M : ByteArray → Option Int} (h : MS w b M n) (ht : w.mapTurned w' a) (hne : b ≠ a) : MS w' b M n := h.keep (ht.grown.block b h.lt (fun e => hne (by cases e; rfl)))

theorem step_mapUpdate {P : Program} {ops : Array Oper} {o : Oper} {a : Act} {w w' : World} {K : Act → World → Prop} {Q : Exit → Act → World → Prop} {E : Prop} (hgd : o.guard = none) (t : TypeId) (m k v : Operand) (ho : o.op = Op.mapUpdate t m k v) (hd : o.dst = none) (hr : (Instr.mapUpdate t (a.eval m) (a.eval k) (a.eval v)).run P w = .ok () w') (h : K a w') :
    if Region.wanted o (yielded ops a.tmps) = true then Oper.wp P o a w K Q else E := by
  have hw : Region.wanted o (yielded ops a.tmps) = true := by simp [Region.wanted, hgd]
  rw [if_pos hw]
  unfold Oper.wp execOp
  simp only [ho, Sem.run_bind, Sem.run_pure, hr, Result.andThen_ok]
  unfold Oper.upon
  rw [hd]
  exact h
/-- What a map from texts to numbers makes of an entry that is written. -/
theorem MS.store {w : World} {b n : Nat} {M : ByteArray → Option Int} (h : MS w b M n) {t : ByteArray} (ht : t.size ≤ maxLen) (hn : n ≤ 1000000) (x : Int) (hx : (Lit.int .i64 x).wf = true) : ∃ w', (Instr.mapUpdate 65 (.map (some b)) (.string t) (.int .i64 x)).run Tryd.prog w = .ok () w' ∧ MS w' b (mput M t x) (n + 1) ∧ w.mapTurned w' b := by
  obtain ⟨D, h1, h2⟩ := h
  obtain ⟨w', r1, r2, r3⟩ := h1.store key9 underMs (by unfold maxLen; omega) (key_lit ht) (plainElem_int int3 hx)
  exact ⟨w', r1, ⟨_, r2, h2.put t x⟩, r3⟩

theorem RS.shown {w1 : World} {m M1 : ByteArray → Option Int} (h : RS w X z B) (hnm : z.names = some m) (ht : w.mapTurned w1 B.nb) (hm : MS w1 B.nb M1 (z.nc + 1)) {t : ByteArray} (hts : t.size ≤ maxLen) (hc : z.cnt < 100000 ∧ z.nc < 100000) (d : Int) (hd : 0 ≤ d ∧ d ≤ 100000) :
    ∃ w2, (Instr.mapUpdate 65 (.map (some B.sb)) (.string t) (.int .i64 d)).run Tryd.prog w1.drew = .ok () w2 ∧ RS w2 X { z with names := some M1, seen := mput z.seen t d, cnt := z.cnt + 1, nc := z.nc + 1 } B ∧ NX B.ρ w w2 B.ρ ∧ w1.cell? ⟨X.r, 10, none⟩ = some (.map (some B.sb)) ∧ X.r < w1.heap.size := by
  obtain ⟨A0, N0⟩ := h.nam hnm ht hm (by omega)
  have A1 := A0.bw (Bw.drew (Bw.refl w1))
  have N1 := N0.bw (Bw.drew (Bw.refl w1))
  obtain ⟨w2, r2, M2, T2⟩ := (A1.x.seen (by decide)).1.store hts (by simp only; omega) d (WalkArith.wf_i64 (by omega))
  obtain ⟨A2, N2⟩ := A1.see T2 M2 (by simp only; omega)
  exact ⟨w2, r2, A2, N1.trans N2, A0.blk.cell 10, A0.blk.lt⟩

set_option maxRecDepth 100000 in
set_option maxHeartbeats 4000000 in
theorem show_any (h : RS w X z B) (i : Nat) (hi : i < X.L.length) (y : ZS) (hy : zshow X.L z i = some y) : Calls Tryd.prog 70 #[.pointer (some ⟨X.r, 0, none⟩), .int .i64 i] w fun e' w' => e' = .returned (.tuple #[]) ∧ RS w' X y B ∧ NX B.ρ w w' B.ρ := by
  obtain ⟨ub, uc, u, hu1, hue, c6, u0, u1, hul, huf, huρ, hune⟩ := h.us hi
  obtain ⟨ct, htm⟩ := h.x.nc.1.text hi
  have cn : w.cell? ⟨X.r, 3, none⟩ = some (.slice (some ⟨X.g, X.o, none⟩) X.L.length X.cap) := h.blk.cell 3
  have c10 : w.cell? ⟨X.r, 10, none⟩ = some (.map (some B.sb)) := h.blk.cell 10
  have hf := h.blk.free
  have hl := h.blk.lt
  have gl := h.x.nc.1.lt
  have hi2 : (i : Int) < (X.L.length : Int) := by omega
  unfold zshow at hy
  rw [hu1] at hy
  simp only at hy
  obtain ⟨a, d⟩ := u
  simp only at hy u0 u1
  by_cases h1 : a = 1
  · subst h1
    rw [if_neg (by simp)] at hy
    cases hnm : z.names with
    | none => rw [hnm] at hy; cases hy
    | some m =>
      rw [hnm] at hy
      simp only at hy
      by_cases hc : (z.cnt < 100000 ∧ z.nc < 100000) ∧ 0 ≤ d ∧ d ≤ 100000
      case neg => rw [if_neg hc] at hy; cases hy
      rw [if_pos hc] at hy
      cases hy
      have c0 : w.cell? ⟨X.r, 0, none⟩ = some (.map (some B.nb)) := by
        have := h.blk.cell 0
        rw [this]
        show some (Value.map (nmO z.names B.nb)) = _
        rw [hnm]; rfl
      obtain ⟨hm1, hr1⟩ := h.x.nams (by decide) m hnm
      have A0 := hid (h.bw (Bw.alloc (Bw.refl w) (.cells #[.int .i64 1, .int .i64 d] 97)))
      obtain ⟨D1, ho1, hd1⟩ := (A0.out.x.nams (by decide) m hnm).1
      obtain ⟨D2, ho2, hd2⟩ := (A0.out.x.seen (by decide)).1
      have HO1 := hid ho1
      have HO2 := hid ho2
      have HD1 := hid hd1
      have HD2 := hid hd2
      have HK := hid (key_lit htm)
      have HTM := hid htm
      have HNL := hid hm1.lt
      have HC := hid hc
      have HNM := hid hnm
      generalize zT X.L i = t at ct HK HTM ⊢
      clear h hu1 hue huρ hune htm hnm hm1 hr1 ho1 ho2 hd1 hd2 hc
      cases hs : z.seen t with
      | none =>
        have hhas : Maps.has D2 (.string t.data.toList) = false := by rw [HD2.out.has, hs]; rfl
        clear hs
        go_enter Tryd.func70, Tryd.ntmps70
        go_upto_region 7 with (first
          | (at_lookup; refine wpList_lookup_own_ok_int _ rfl _ _ 65 rfl 9 3 .i64 key9 underMs int3 (zero3 _) B.sb z.cnt D2 rfl HO2.out _ _ rfl HK.out ?_; intro c1 hat hwc; rw [hhas]; clear hat hwc)
          | (at_mapUpdate; refine wpList_mapUpdate_in _ rfl _ _ _ 65 rfl 9 3 key9 underMs _ B.nb z.nc D1 rfl HO1.out (by have := HC.out; unfold maxLen; omega) _ _ _ rfl rfl HK.out _ [] (plainElem_int int3 (WalkArith.wf_i64 (by omega))) ?_; intro w1 hown1 hturn1; have T1 := hid hturn1; have O1 := hid hown1; clear hown1 hturn1)
          | fail)
        obtain ⟨w2, r2, A2, N2, q10, q1⟩ := A0.out.shown HNM.out T1.out ⟨_, O1.out, HD1.out.put t (-1)⟩ HTM.out HC.out.1 d HC.out.2
        have q4 : w1.cell? ⟨w.heap.size, 1, none⟩ = some (.int .i64 d) := ((Blk.new w #[.int .i64 1, .int .i64 d] 97).keep (T1.out.grown.block _ (by simp) (fun e => by have := HNL.out; have := Option.some.inj e; omega))).cell 1
        have AA := hid A2
        have NN := hid ((NX.of_bw B.ρ (Bw.alloc (Bw.refl w) _)).trans N2)
        clear A2 N2
        go_region
        all_goals go_end0
        all_goals exact ⟨rfl, AA.out, NN.out⟩
      | some x =>
        have hhas : Maps.has D2 (.string t.data.toList) = true := by rw [HD2.out.has, hs]; rfl
        have HS := hid hs
        clear hs
        go_enter Tryd.func70, Tryd.ntmps70
        go_upto_region 7 with (first
          | (at_lookup; refine wpList_lookup_own_ok_int _ rfl _ _ 65 rfl 9 3 .i64 key9 underMs int3 (zero3 _) B.sb z.cnt D2 rfl HO2.out _ _ rfl HK.out ?_; intro c1 hat hwc; rw [hhas]; have HW := hid hwc; have HX := hid (show c1 = x by have h2 := HD2.out.at_ t x HS.out; rw [h2] at hat; cases hat; rfl); clear hat hwc)
          | (at_mapUpdate; refine wpList_mapUpdate_in _ rfl _ _ _ 65 rfl 9 3 key9 underMs _ B.nb z.nc D1 rfl HO1.out (by have := HC.out; unfold maxLen; omega) _ _ _ rfl rfl HK.out _ [] (plainElem_int int3 HW.out) ?_; intro w1 hown1 hturn1; have T1 := hid hturn1; have O1 := hid hown1; clear hown1 hturn1)
          | fail)
        obtain ⟨w2, r2, A2, N2, q10, q1⟩ := A0.out.shown HNM.out T1.out ⟨_, O1.out, HD1.out.put t c1⟩ HTM.out HC.out.1 d HC.out.2
        have q4 : w1.cell? ⟨w.heap.size, 1, none⟩ = some (.int .i64 d) := ((Blk.new w #[.int .i64 1, .int .i64 d] 97).keep (T1.out.grown.block _ (by simp) (fun e => by have := HNL.out; have := Option.some.inj e; omega))).cell 1
        have AA := hid A2
        have NN := hid ((NX.of_bw B.ρ (Bw.alloc (Bw.refl w) _)).trans N2)
        clear A2 N2
        go_region
        all_goals go_end0
        all_goals exact ⟨rfl, HX.out ▸ AA.out, NN.out⟩
  · rw [if_pos h1] at hy
    cases hy
    have A0 := hid (h.bw (Bw.alloc (Bw.refl w) (.cells #[.int .i64 a, .int .i64 d] 97)))
    have NN := hid (NX.of_bw B.ρ (Bw.alloc (Bw.refl w) (.cells #[.int .i64 a, .int .i64 d] 97)))
    have e1 : (a != 1) = true := by simpa using h1
    clear h hu1 hue huρ hune htm h1
    go_enter Tryd.func70, Tryd.ntmps70
    go_wp2
    all_goals refine bodyPost_ret (v := .tuple #[]) (by simp [results, Tryd.results70, go_sem]) rfl ?_
    all_goals exact ⟨rfl, A0.out, NN.out⟩
end
end Go.Proofs.YtekkjpecdflajaaDoor

set_option linter.unusedSimpArgs false
set_option linter.unusedVariables false
namespace Go.Proofs.YtekkjpecdflajaaDoor
open Go Go.RowKit
section
variable {w : World} {X : ZX} {z : ZS} {B : ZB}

theorem Zp.self {w' : World} {z' : ZS} (h : RS w' X z' B) (k : NX B.ρ w w' B.ρ) : Zp w X B z' w' := ⟨B, h, k⟩
theorem ahead_get {A : ByteArray → Option Int} {D : DataW Unit} (hD : SmD D A) {t : ByteArray} {c : Int} (h : D.atKey (.string t.data.toList) (.lit (.int .i64 0)) = .lit (.int .i64 c)) : c = (A t).getD 0 := by
  cases ha : A t with
  | none =>
    rw [Maps.atKey_of_not_has (by rw [hD.has, ha]; rfl)] at h
    cases h; rfl
  | some x =>
    rw [hD.at_ t x ha] at h
    cases h; rfl

theorem undSs8 : Tryd.prog.underlying 25 = some (.slice 9) := by kernel_rfl

set_option maxRecDepth 100000 in
set_option maxHeartbeats 4000000 in
theorem declareGlobal_any (h : RS w X z B) (i : Nat) (hi : i < X.L.length) : Calls Tryd.prog 75 #[.pointer (some ⟨X.r, 0, none⟩), .int .i64 i] w fun e' w' => e' = .returned (.tuple #[]) ∧ Zp w X B (zglobal X.L X.A z i) w' := by
  obtain ⟨ub, uc, u, hu1, hue, c6, u0, u1, hul, huf, huρ, hune⟩ := h.us hi
  obtain ⟨ct, htm⟩ := h.x.nc.1.text hi
  have cn : w.cell? ⟨X.r, 3, none⟩ = some (.slice (some ⟨X.g, X.o, none⟩) X.L.length X.cap) := h.blk.cell 3
  have c8 : w.cell? ⟨X.r, 8, none⟩ = some (.map (some X.ab)) := h.blk.cell 8
  have c7 : w.cell? ⟨X.r, 7, none⟩ = some B.gv := h.blk.cell 7
  obtain ⟨hgo, hgρ⟩ := h.x.globs (by decide)
  obtain ⟨ga, gc, hgv⟩ := own_form hgo
  rw [hgv] at c7
  have hf := h.blk.free
  have hl := h.blk.lt
  have gl := h.x.nc.1.lt
  have hi2 : (i : Int) < (X.L.length : Int) := by omega
  obtain ⟨DA, hoa, hda⟩ := h.x.ah.1
  have HOA := hid hoa
  have HDA := hid hda
  have HK := hid (key_lit htm)
  have H := hid h
  have hgb := h.x.bd.2.1
  have HUE := hid hue
  have HI := hid hi
  unfold zglobal
  generalize ht : zT X.L i = t at ct HK ⊢
  generalize hA : (X.A t).getD 0 = av
  have HA := hid hA
  generalize hgl : z.globals.length = n at c7 hgb hgv ⊢
  have HGL := hid hgl
  have HGV := hid hgv
  clear h hu1 hue htm hgo hgρ hgv hoa hda hA hgl huρ hune u0 u1 hi
  by_cases h1 : av < (n : Int)
  · rw [if_pos h1]
    go_enter Tryd.func75, Tryd.ntmps75
    go_wp2_with (first
      | (at_lookup; refine wpList_lookup_own_int _ rfl _ _ 65 rfl 9 3 .i64 key9 underMs int3 (zero3 _) X.ab X.an DA rfl HOA.out _ _ rfl HK.out ?_; intro c1 hat hwc; have hc1 := ahead_get HDA.out hat; rw [HA.out] at hc1; subst hc1; clear hat hwc)
      | (go_at_call 71; refine (fail_any H.out i 80).mono ?_; rintro e w1 ⟨rfl, hr, hn⟩; have R := hid hr; have N := hid hn; clear hr hn)
      | fail)
    all_goals go_end0
    all_goals exact ⟨rfl, Zp.self R.out N.out⟩
  · rw [if_neg h1]
    by_cases h2 : n = 1024
    · rw [if_pos h2]
      have h3 : ((n : Int) == 1024) = true := by simp [h2]
      clear h2
      go_enter Tryd.func75, Tryd.ntmps75
      go_wp2_with (first
        | (at_lookup; refine wpList_lookup_own_int _ rfl _ _ 65 rfl 9 3 .i64 key9 underMs int3 (zero3 _) X.ab X.an DA rfl HOA.out _ _ rfl HK.out ?_; intro c1 hat hwc; have hc1 := ahead_get HDA.out hat; rw [HA.out] at hc1; subst hc1; clear hat hwc)
        | (go_at_call 71; refine (fail_any H.out i 3).mono ?_; rintro e w1 ⟨rfl, hr, hn⟩; have R := hid hr; have N := hid hn; clear hr hn)
        | fail)
      all_goals go_end0
      all_goals exact ⟨rfl, Zp.self R.out N.out⟩
    · rw [if_neg h2]
      have h3 : ((n : Int) == 1024) = false := by simp; omega
      have HB := hid (show n < 1024 by omega)
      clear h2 hgb
      obtain ⟨i1, I1⟩ := info_parts8 infoS
      have I1 := hid I1
      have HGO := hid (fun (o : Obj) => own_alloc8 (w := w) (by have := (H.out.x.globs (by decide)).1; rw [HGL.out, HGV.out] at this; exact this) o)
      have A0 := hid (fun (o : Obj) => H.out.bw (Bw.alloc (Bw.refl w) o))
      have N0 := hid (fun (o : Obj) => NX.of_bw B.ρ (Bw.alloc (Bw.refl w) o))
      go_enter Tryd.func75, Tryd.ntmps75
      go_upto_region 3 with (first
        | (at_lookup; refine wpList_lookup_own_int _ rfl _ _ 65 rfl 9 3 .i64 key9 underMs int3 (zero3 _) X.ab X.an DA rfl HOA.out _ _ rfl HK.out ?_; intro c1 hat hwc; have hc1 := ahead_get HDA.out hat; rw [HA.out] at hc1; subst hc1; clear hat hwc)
        | (at_builtin; refine wpList_append_row _ rfl _ _ 25 rfl 9 i1 (.string ByteArray.empty) 1 16 undSs8 I1.out.1 I1.out.2.1 I1.out.2.2.1 I1.out.2.2.2 rfl (by decide) (.slice ga n gc) n _ rfl (HGO.out _) ⟨w.heap.size, 0, none⟩ 1 1 [.string t] rfl rfl (new_news w [.string t] 9) (by intro u hu; simp at hu; subst hu; rfl) (by have := HB.out; unfold maxLen; omega) (by have := HB.out; omega) ?_; intro v1 w1 ho1 hg1 hvb1; have E := (A0.out _).glob HGV.out HGL.out t HB.out ho1 hg1 hvb1; obtain ⟨ρ1, hr1, hn1, q7, q1, qf⟩ := E; have R1 := hid hr1; have N1 := hid ((N0.out _).trans hn1); obtain ⟨a1, cc1, e1⟩ := own_form ho1; subst e1; clear ho1 hg1 hvb1 hr1 hn1)
        | fail)
      obtain ⟨u2, y6, y0, y1, yl, yf, yn⟩ := R1.out.us2 HI.out HUE.out
      have U := hid (R1.out.use HI.out HUE.out 4 n)
      have hyf := R1.out.blk.free
      have hyl := R1.out.blk.lt
      generalize World.setCell w1 ⟨X.r, 7, none⟩ (.slice a1 (n + 1) cc1) = w2 at *
      clear q7 q1 qf c6 cn c8 hf hl huf hul
      go_wp2
      all_goals go_end0
      all_goals exact ⟨rfl, _, U.out.1, N1.out.trans U.out.2⟩
end
end Go.Proofs.YtekkjpecdflajaaDoor

