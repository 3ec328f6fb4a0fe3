/- Appends to a row of bytes that the call owns: step laws; a function's bytes, part by part. -/
import Derived.Test.YtfhnhbpmiodomaaDoorEc
import Derived.Test.YtfhnhbpmiodomaaDoorWA
set_option linter.unusedVariables false
set_option linter.unusedSimpArgs false
namespace Go.Proofs.YtfhnhbpmiodomaaDoor
open Go Go.RowKit

theorem step_append_sl {P : Program} {ops : Array Oper} {o : Oper} {a : Act} {w : World} {K : Act → World → Prop} {Q : Exit → Act → World → Prop} {E : Prop} {G : Nat → Prop}
    (hgd : o.guard = none) (s x : Operand) (t : TypeId) (ho : o.op = Op.call { callee := Callee.builtin Builtin.append, args := #[s, x], argTypes := #[t, t] })
    (base : Nat) (e : TypeId) (i : TypeInfo) (z : Value) (size bytes : Nat) (ht : P.underlying t = some (.slice e)) (hi : P.info? e = some i) (hz : i.zero = some z)
    (hsize : i.size = size) (hby : i.bytes = bytes) (hzs : z.cells.size = size) (hsz : 0 < size)
    (v : Value) (n : Nat) (xs : List Value) (hs : a.eval s = v) (hown : w.ownsRow base e size v n xs)
    (xv : Value) (m : Nat) (news : List Value) (hx : a.eval x = xv) (hsl : Sl w G xv m size news) (h1 : ∀ u ∈ news, u.oneCell' = true)
    (h63 : n + m ≤ maxLen) (hbytes : (n + m) * bytes ≤ 140737488355328) (hbase : base ≤ w.heap.size)
    (h : ∀ v' w', w'.ownsRow base e size v' (n + m) (xs ++ news) → w.grownBy w' v.ownBlock → K (a.put o.dst v') w') :
    if Region.wanted o (yielded ops a.tmps) = true then Oper.wp P o a w K Q else E := by
  have hw : Region.wanted o (yielded ops a.tmps) = true := by simp [Region.wanted, hgd]
  rw [if_pos hw]
  obtain ⟨hl, ad, cap, rfl, hn, hc⟩ := hsl
  cases ad with
  | none =>
    obtain rfl : cap = 0 := hn.2 rfl
    obtain rfl : m = 0 := by have := hn.1; omega
    have hnews : news = [] := List.eq_nil_of_length_eq_zero (by simpa using hl)
    subst hnews
    have hrun := run_append_owned_none (P := P) (w := w) base t o.type e i size ht hi v n xs hown
    unfold Oper.wp execOp
    simp only [ho, resolve, invoke, builtin, Sem.run_bind, Sem.run_pure, Result.andThen_ok, List.map_toArray, List.map_cons, List.map_nil, hs, hx, hrun]
    exact h v w (by simpa using hown) (grown_refl w _)
  | some ad =>
    have hcell : ∀ j u, news[j]? = some u → w.cell? (ad.add j) = some u := by
      intro j u hj
      have hjl : j < news.length := (List.getElem?_eq_some_iff.1 hj).1
      rcases hc with rfl | ⟨b, off, he, hlt, hg, hcs⟩
      · have h0 : news.length = 0 := by rw [hl]; omega
        omega
      · cases he
        have e1 : (⟨b, off, none⟩ : Addr).add j = ⟨b, off + j, none⟩ := by
          unfold Addr.add
          split
          · rename_i h0; subst h0; rfl
          · rfl
        rw [e1, hcs j (by omega), hj]
    obtain ⟨v', w', hr, h2, h3, _⟩ := run_append_own (P := P) w base t o.type e i z size bytes ht hi hz hsize hby hzs hsz v n xs hown ad m cap news hl hcell h1 h63 hbytes hbase
    unfold Oper.wp execOp
    simp only [ho, resolve, invoke, builtin, Sem.run_bind, Sem.run_pure, Result.andThen_ok, List.map_toArray, List.map_cons, List.map_nil, hs, hx, hr]
    exact h v' w' h2 h3

/-- A row of bytes of the call's own. -/
def OwnB (w : World) (base : Nat) (v : Value) (l : List Int) : Prop := w.ownsRow base 5 1 v l.length (l.map (Value.int .u8))

theorem OwnB.bw {w w' : World} {base : Nat} {v : Value} {l : List Int} (h : OwnB w base v l) (hb : Bw w w') : OwnB w' base v l := own_bw h hb
theorem OwnB.form {w : World} {base : Nat} {v : Value} {l : List Int} (h : OwnB w base v l) : ∃ a cap, v = .slice a l.length cap := own_form h
theorem OwnB.low {w : World} {base base' : Nat} {v : Value} {l : List Int} (h : OwnB w base v l) (hb : base' ≤ base) : OwnB w base' v l := own_base h hb
theorem OwnB.sl {w : World} {base : Nat} {v : Value} {l : List Int} (h : OwnB w base v l) : Sl w (fun _ => True) v l.length 1 (l.map (Value.int .u8)) := own_sl h (fun _ _ => trivial)
theorem OwnB.of {w : World} {base : Nat} {v : Value} {l l' : List Int} (h : OwnB w base v l) (e : l = l') : OwnB w base v l' := e ▸ h
theorem OwnB.grown {a w w' : World} {base : Nat} {v : Value} {l : List Int} (h : OwnB w base v l) (ha : Bw a w) (hb : a.heap.size ≤ base) (hg : w.grownBy w' v.ownBlock) : Bw a w' := bw_grown ha hb h hg
theorem OwnB.blk {w w' : World} {base g : Nat} {v : Value} {l : List Int} {cur : Array Value} {e : TypeId} (h : OwnB w base v l) (hb : Blk w g cur e) (hne : 5 ≠ e) (hg : w.grownBy w' v.ownBlock) : Blk w' g cur e := hb.grownOwn h hne hg

theorem row_app {w : World} {base : Nat} {v : Value} {P Q : List Int} (h : w.ownsRow base 5 1 v (P.length + Q.length) (P.map (Value.int .u8) ++ Q.map (Value.int .u8))) : OwnB w base v (P ++ Q) := by
  unfold OwnB
  rw [List.length_append, List.map_append]
  exact h

theorem step_appB {ops : Array Oper} {o : Oper} {a : Act} {w : World} {K : Act → World → Prop} {Q : Exit → Act → World → Prop} {E : Prop}
    (hgd : o.guard = none) (s x : Operand) (ho : o.op = Op.call { callee := Callee.builtin Builtin.append, args := #[s, x], argTypes := #[29, 29] })
    (base : Nat) (v : Value) (L : List Int) (hs : a.eval s = v) (hown : OwnB w base v L)
    (xv : Value) (M : List Int) (hx : a.eval x = xv) (hsl : Sl w (fun _ => True) xv M.length 1 (M.map (Value.int .u8)))
    (hlen : L.length + M.length ≤ 100000000) (hbase : base ≤ w.heap.size)
    (h : ∀ v' w', OwnB w' base v' (L ++ M) → w.grownBy w' v.ownBlock → K (a.put o.dst v') w') :
    if Region.wanted o (yielded ops a.tmps) = true then Oper.wp Tryd.prog o a w K Q else E := by
  obtain ⟨i1, hi1, hz1, hs1, hy1⟩ := info_parts infoU8
  exact step_append_sl hgd s x 29 ho base 5 i1 (.int .u8 0) 1 1 under22 hi1 hz1 hs1 hy1 rfl (by decide) v L.length _ hs hown xv M.length _ hx hsl (ints_one _ _) (by unfold maxLen; omega) (by omega) hbase (fun v' w' h1 h2 => h v' w' (row_app h1) h2)

theorem wpList_appB {ops : Array Oper} {rest : List Oper} {o : Oper} {a : Act} {w : World} {Q : Exit → Act → World → Prop} (hgd : o.guard = none) (s x : Operand)
    (ho : o.op = .call { callee := .builtin .append, args := #[s, x], argTypes := #[29, 29] })
    (base : Nat) (v : Value) (L : List Int) (hs : a.eval s = v) (hown : OwnB w base v L)
    (xv : Value) (M : List Int) (hx : a.eval x = xv) (hsl : Sl w (fun _ => True) xv M.length 1 (M.map (Value.int .u8)))
    (hlen : L.length + M.length ≤ 100000000) (hbase : base ≤ w.heap.size)
    (h : ∀ v' w', OwnB w' base v' (L ++ M) → w.grownBy w' v.ownBlock → wpList Tryd.prog ops Q rest (a.put o.dst v') w') : wpList Tryd.prog ops Q (o :: rest) a w := by
  obtain ⟨i1, hi1, hz1, hs1, hy1⟩ := info_parts infoU8
  exact wpList_append_sl w hgd s x 29 ho base 5 i1 (.int .u8 0) 1 1 under22 hi1 hz1 hs1 hy1 rfl (by decide) v L.length _ hs hown xv M.length _ hx hsl (ints_one _ _) (by unfold maxLen; omega) (by omega) hbase (fun v' w' h1 h2 => h v' w' (row_app h1) h2)

/-! ## a function's bytes -/

theorem ok_cons {x : It} {l : List It} : oks (x :: l) = (x.ok && oks l) := rfl
theorem ok_app {a b : List It} : oks (a ++ b) = (oks a && oks b) := List.all_append
theorem ok_nil : oks [] = true := rfl
theorem by_app (a b : List It) : byts (a ++ b) = byts a ++ byts b := List.flatMap_append
theorem by_cons (x : It) (b : List It) : byts (x :: b) = x.b ++ byts b := List.flatMap_cons
theorem ok_iL {α : Type} {f : α → List It} {l : List α} (h : oks (iL f l) = true) : pl (l.length : Int) = true ∧ ∀ x ∈ l, oks (f x) = true := by
  unfold iL at h
  rw [ok_cons, Bool.and_eq_true] at h
  refine ⟨h.1, fun x hx => ?_⟩
  unfold oks at h ⊢
  rw [List.all_eq_true] at h ⊢
  exact fun y hy => h.2 y (List.mem_flatMap.2 ⟨x, hx, hy⟩)
theorem oks_fn {f : AFn} (h : oks (iFn f) = true) : pl f.params = true ∧ pl f.slots = true ∧ oks (iL iN f.boxes) = true ∧ oks (iL iCap f.caps) = true ∧ oks (iL iIns f.code) = true ∧ oks (iL iTry f.tries) = true := by
  unfold iFn at h
  rw [ok_cons, ok_cons, ok_app, ok_app, ok_app, Bool.and_eq_true, Bool.and_eq_true, Bool.and_eq_true, Bool.and_eq_true, Bool.and_eq_true] at h
  exact ⟨h.1, h.2.1, h.2.2.1, h.2.2.2.1, h.2.2.2.2.1, h.2.2.2.2.2⟩
theorem by_iL {α : Type} {f : α → List It} {l : List α} (h : pl (l.length : Int) = true) : byts (iL f l) = nb l.length ++ byts (l.flatMap f) := by
  unfold iL
  rw [by_cons, nb_it h, Int.toNat_natCast]
theorem zz_it {z : Int} (h : sg z = true) : It.b (.Z z) = nb (zz z).toNat := by simp [It.b, h]

def fp0 (f : AFn) : List Int := nb f.params.toNat ++ nb f.slots.toNat
def fp1 (f : AFn) : List Int := fp0 f ++ byts (iL iN f.boxes)
def fp2 (f : AFn) : List Int := fp1 f ++ nb f.caps.length
def fp3 (f : AFn) (i : Nat) : List Int := fp2 f ++ byts ((f.caps.take i).flatMap iCap)
def fp4 (f : AFn) : List Int := fp3 f f.caps.length ++ nb f.code.length
def fp5 (f : AFn) (i : Nat) : List Int := fp4 f ++ byts ((f.code.take i).flatMap iIns)
def fp6 (f : AFn) : List Int := fp5 f f.code.length ++ nb f.tries.length
def fp7 (f : AFn) (i : Nat) : List Int := fp6 f ++ byts ((f.tries.take i).flatMap iTry)

theorem fp_end {f : AFn} (h : oks (iFn f) = true) : fp7 f f.tries.length = byts (iFn f) := by
  obtain ⟨h1, h2, h3, h4, h5, h6⟩ := oks_fn h
  unfold fp7 fp6 fp5 fp4 fp3 fp2 fp1 fp0 iFn
  rw [by_cons, by_cons, by_app, by_app, by_app, nb_it h1, nb_it h2, by_iL (ok_iL h4).1, by_iL (ok_iL h5).1, by_iL (ok_iL h6).1]
  simp only [List.take_length, List.append_assoc]

/-- How long the parts are. -/
structure FpL (f : AFn) : Prop where
  l0 : (fp0 f).length ≤ 4194304
  l1 : (fp1 f).length ≤ 4194304
  l2 : (fp2 f).length ≤ 4194304
  l3 : ∀ i, (fp3 f i).length ≤ 4194304
  l4 : (fp4 f).length ≤ 4194304
  l5 : ∀ i, (fp5 f i).length ≤ 4194304
  l6 : (fp6 f).length ≤ 4194304
  l7 : ∀ i, (fp7 f i).length ≤ 4194304
  lb : (byts (iL iN f.boxes)).length ≤ 4194304

theorem fp_len {f : AFn} (h : oks (iFn f) = true) (hl : (byts (iFn f)).length ≤ 4194304) : FpL f := by
  rw [← fp_end h] at hl
  have e7 : (fp7 f f.tries.length).length = (fp6 f).length + (byts (f.tries.flatMap iTry)).length := by unfold fp7; rw [List.length_append, List.take_length]
  have e6 : (fp6 f).length = (fp5 f f.code.length).length + (nb f.tries.length).length := by unfold fp6; rw [List.length_append]
  have e5 : (fp5 f f.code.length).length = (fp4 f).length + (byts (f.code.flatMap iIns)).length := by unfold fp5; rw [List.length_append, List.take_length]
  have e4 : (fp4 f).length = (fp3 f f.caps.length).length + (nb f.code.length).length := by unfold fp4; rw [List.length_append]
  have e3 : (fp3 f f.caps.length).length = (fp2 f).length + (byts (f.caps.flatMap iCap)).length := by unfold fp3; rw [List.length_append, List.take_length]
  have e2 : (fp2 f).length = (fp1 f).length + (nb f.caps.length).length := by unfold fp2; rw [List.length_append]
  have e1 : (fp1 f).length = (fp0 f).length + (byts (iL iN f.boxes)).length := by unfold fp1; rw [List.length_append]
  refine ⟨by omega, by omega, by omega, fun i => ?_, by omega, fun i => ?_, by omega, fun i => ?_, by omega⟩
  · have := byts_part (f := iCap) (l := f.caps) i
    unfold fp3; rw [List.length_append]; omega
  · have := byts_part (f := iIns) (l := f.code) i
    unfold fp5; rw [List.length_append]; omega
  · have := byts_part (f := iTry) (l := f.tries) i
    unfold fp7; rw [List.length_append]; omega

theorem fp3_step {f : AFn} {i : Nat} (hi : i < f.caps.length) {a b : Int} (he : f.caps[i] = (a, b)) (h : oks (iCap (a, b)) = true) : (pl a = true ∧ pl b = true) ∧ fp3 f i ++ nb a.toNat ++ nb b.toNat = fp3 f (i + 1) := by
  have h' : pl a = true ∧ pl b = true := by simpa [iCap, oks, It.ok] using h
  refine ⟨h', ?_⟩
  unfold fp3
  rw [byts_take hi, he]
  simp only [iCap, byts, List.flatMap_cons, List.flatMap_nil, List.append_nil, nb_it h'.1, nb_it h'.2, List.append_assoc]
theorem fp5_step {f : AFn} {i : Nat} (hi : i < f.code.length) {a b c : Int} (he : f.code[i] = (a, b, c)) (h : oks (iIns (a, b, c)) = true) : (pl a = true ∧ sg b = true ∧ sg c = true) ∧ fp5 f i ++ nb a.toNat ++ nb (zz b).toNat ++ nb (zz c).toNat = fp5 f (i + 1) := by
  have h' : pl a = true ∧ sg b = true ∧ sg c = true := by simpa [iIns, oks, It.ok] using h
  refine ⟨h', ?_⟩
  unfold fp5
  rw [byts_take hi, he]
  simp only [iIns, byts, List.flatMap_cons, List.flatMap_nil, List.append_nil, nb_it h'.1, zz_it h'.2.1, zz_it h'.2.2, List.append_assoc]
theorem fp7_step {f : AFn} {i : Nat} (hi : i < f.tries.length) {a b c d : Int} (he : f.tries[i] = (a, b, c, d)) (h : oks (iTry (a, b, c, d)) = true) : (pl a = true ∧ pl b = true ∧ pl c = true ∧ pl d = true) ∧ fp7 f i ++ nb a.toNat ++ nb b.toNat ++ nb c.toNat ++ nb d.toNat = fp7 f (i + 1) := by
  have h' : pl a = true ∧ pl b = true ∧ pl c = true ∧ pl d = true := by simpa [iTry, oks, It.ok] using h
  refine ⟨h', ?_⟩
  unfold fp7
  rw [byts_take hi, he]
  simp only [iTry, byts, List.flatMap_cons, List.flatMap_nil, List.append_nil, nb_it h'.1, nb_it h'.2.1, nb_it h'.2.2.1, nb_it h'.2.2.2, List.append_assoc]

end Go.Proofs.YtfhnhbpmiodomaaDoor
