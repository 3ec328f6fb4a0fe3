/- Notify: a contract. -/
import Derived.Test.YteeeijbjokkomaaPh
set_option linter.unusedSimpArgs false
set_option linter.unusedVariables false
namespace Go.Proofs.Yteeeijbjokkomaa
open Go Go.RowKit

theorem own_slb {w : World} {base : Nat} {e : TypeId} {size : Nat} {v : Value} {n : Nat} {xs : List Value} (h : w.ownsRow base e size v n xs) : Sl w (fun b => v.ownBlock = some b) v n size xs := by
  refine ⟨h.1, ?_⟩
  rcases h.2 with ⟨rfl, rfl⟩ | ⟨g, cap, cur, rfl, h1, h3, h4, h5, h6, h7⟩
  · exact ⟨none, 0, rfl, ⟨Nat.le_refl _, fun _ => rfl⟩, .inl rfl⟩
  · refine ⟨_, cap, rfl, ⟨h4, fun e => by cases e⟩, .inr ⟨g, 0, rfl, (Array.getElem?_eq_some_iff.1 h3).1, rfl, fun i hi => ?_⟩⟩
    rw [Nat.zero_add, cell_of_row w g i cur _ (0, 0) h3, ← h7, List.getElem?_take, if_pos hi]
    simp

theorem spl_mem {α : Type} (P : α → Bool) (most : Int) (l : List α) : ∀ x, (x ∈ (spl P most l).1 → x ∈ l) ∧ (x ∈ (spl P most l).2 → x ∈ l) := by
  have key : ∀ (l : List α) (r : List α × List α) (x : α), (x ∈ (l.foldl (splS P most) r).1 → x ∈ r.1 ∨ x ∈ l) ∧ (x ∈ (l.foldl (splS P most) r).2 → x ∈ r.2 ∨ x ∈ l) := by
    intro l
    induction l with
    | nil => intro r x; exact ⟨.inl, .inl⟩
    | cons y l ih =>
      intro r x
      rw [List.foldl_cons]
      have h1 := ih (splS P most r y) x
      have h2 : (x ∈ (splS P most r y).1 → x ∈ r.1 ∨ x = y) ∧ (x ∈ (splS P most r y).2 → x ∈ r.2 ∨ x = y) := by
        unfold splS
        split
        · exact ⟨fun h => by simpa using h, .inl⟩
        · exact ⟨.inl, fun h => by simpa using h⟩
      constructor
      · intro h
        rcases h1.1 h with h | h
        · rcases h2.1 h with h | h
          · exact .inl h
          · exact .inr (by simp [h])
        · exact .inr (by simp [h])
      · intro h
        rcases h1.2 h with h | h
        · rcases h2.2 h with h | h
          · exact .inl h
          · exact .inr (by simp [h])
        · exact .inr (by simp [h])
  intro x
  have := key l ([], []) x
  exact ⟨fun h => by simpa using this.1 h, fun h => by simpa using this.2 h⟩

section
variable {w w1 : World} {p : Nat} {bs : List Nat} {mv wv kv : Value} {R : List MM} {A : LL}

/-- Those that were split off, while the others are put in the row's place: all that wake wants. -/
theorem split_fin {v1 v2 : Value} {l1 l2 : List WW} (h : PS w p bs mv wv kv R A) (hb : Bw w w1) (h1 : w1.ownsRow w.heap.size 89 4 v1 l1.length (l1.flatMap wC)) (h2 : w1.ownsRow w.heap.size 89 4 v2 l2.length (l2.flatMap wC)) (hap : ∀ b, v1.ownBlock = some b → v2.ownBlock ≠ some b)
    (m2 : ∀ x ∈ l2, x ∈ A.W) (hl : l2.length ≤ A.W.length) :
    PS (w1.setCell ⟨p, 1, none⟩ v2) p (bs ++ v2.ownBlock.toList) mv v2 kv R { A with W := l2 } ∧ Nx bs w (w1.setCell ⟨p, 1, none⟩ v2) (bs ++ v2.ownBlock.toList) ∧ Sl (w1.setCell ⟨p, 1, none⟩ v2) (fun b => b ∉ bs ++ v2.ownBlock.toList) v1 l1.length 4 (l1.flatMap wC) := by
  have h' := h.bw hb
  have hbg := h.big
  have HX := PS.turnW h l2 h'.blk h'.rm h'.rk (own_base h2 (Nat.zero_le _)) (Ex.of_bw hb) (fun b e => .inr (h2.lt b e).1) (fun x hx => h.ok.W x (m2 x hx)) (by omega)
  refine ⟨HX.1, HX.2, ?_⟩
  refine (own_slb h1).keep (by simp) (fun b hb1 hG => Below.heap_setCell _ _ _ b (fun e => ?_)) (fun b hb1 hG => ?_)
  · have e2 : b = p := e
    have := (h1.lt b hG).1
    have := h.lt p h.mp
    omega
  · intro hm
    rcases List.mem_append.1 hm with hm | hm
    · have := (h1.lt b hG).1
      have := h.lt b hm
      omega
    · exact hap b hG (by simpa using hm)

set_option maxRecDepth 100000 in
set_option maxHeartbeats 1000000 in
theorem Notify_wr (h : PS w p bs mv wv kv R A) (m t : Int) (all : Bool) (hw : wrongA A m t = true) : Calls Try.prog 14 #[.pointer (some ⟨p, 0, none⟩), .int .i64 m, .int .i64 t, .bool all] w fun e w' => e = .returned (.tuple #[.slice none 0 0, .int .i64 1]) ∧ Bw w w' := by
  have HW := hid (wrong_any (h.bw (Bw.alloc (Bw.refl w) (.cells #[.int .i64 m] 3))) m t)
  rw [hw] at HW
  simp only [if_true] at HW
  clear h hw
  go_enter Try.func14, Try.ntmps14
  go_wp2_with (first
    | (go_at_call 37; refine HW.out.mono ?_; rintro e w1 ⟨rfl, hw⟩; subst w1)
    | fail)
  all_goals go_ret2
  all_goals exact ⟨rfl, Bw.alloc (Bw.refl _) _⟩

set_option maxRecDepth 100000 in
set_option maxHeartbeats 1000000 in
theorem Notify_no (h : PS w p bs mv wv kv R A) (m t : Int) (all : Bool) (hw : wrongA A m t = false) (hfr : ((monA A m).1 == t) = false) : Calls Try.prog 14 #[.pointer (some ⟨p, 0, none⟩), .int .i64 m, .int .i64 t, .bool all] w fun e w' => e = .returned (.tuple #[.slice none 0 0, .int .i64 8]) ∧ Bw w w' := by
  obtain ⟨hlp, c0, c1, c2, hfz⟩ := h.cells
  obtain ⟨am, cm, rfl⟩ := own_form h.rm
  have HW := hid (wrong_any (h.bw (Bw.alloc (Bw.refl w) (.cells #[.int .i64 m] 3))) m t)
  rw [hw] at HW
  simp only [if_neg Bool.false_ne_true] at HW
  obtain ⟨z1, z2, z3, z4⟩ := wrong_no hw
  rw [h.len] at z2
  obtain ⟨n, rfl⟩ : ∃ n : Nat, m = n := ⟨m.toNat, by omega⟩
  have hn : n < R.length := by omega
  obtain ⟨g, e, hlg, x0, x1, hfg⟩ := h.mon hn
  subst e
  have HR := hid (h.raw _ (List.getElem_mem hn))
  have HA := hid (h.at hn)
  clear h hw
  obtain ⟨x, hx⟩ : ∃ x, R[n] = x := ⟨_, rfl⟩
  rw [hx] at x0 x1 HR HA
  clear hx
  obtain ⟨a, b⟩ := x
  simp only at x0 x1
  have hf := fun w => isOf_any a b t w
  have e1 : ofR a b t = false := by rw [ofR_nrm HR.out z3, ← HA.out]; exact hfr
  simp only [e1] at hf
  clear hfr
  go_enter Try.func14, Try.ntmps14
  go_wp2_with (first
    | (go_at_call 37; refine HW.out.mono ?_; rintro e w1 ⟨rfl, hw⟩; subst w1)
    | fail)
  go_region_with (go_at_call 38; refine (hf _).mono ?_; rintro e w1 ⟨rfl, os, k, rfl⟩)
  all_goals go_wp2
  all_goals go_ret2
  all_goals exact ⟨rfl, (by repeat (first | exact Bw.refl _ | apply Bw.lay | apply Bw.alloc | apply Bw.drewN | apply Bw.drew))⟩

set_option maxRecDepth 100000 in
set_option maxHeartbeats 2000000 in
theorem Notify_ok (h : PS w p bs mv wv kv R A) (m t : Int) (all : Bool) (hw : wrongA A m t = false) (hfr : ((monA A m).1 == t) = true) : Calls Try.prog 14 #[.pointer (some ⟨p, 0, none⟩), .int .i64 m, .int .i64 t, .bool all] w fun e w' => ∃ r bs', e = .returned (.tuple #[r, .int .i64 0]) ∧ w'.ownsRow w.heap.size 3 1 r (notS A m all).1.length ((notS A m all).1.map (fun x => Value.int .i64 x.t)) ∧ PX w' p bs' ⟨A.M, (notS A m all).2, A.K ++ (notS A m all).1.map (fun x => (x, true))⟩ ∧ Nx bs w w' bs' ∧ ∀ b, r.ownBlock = some b → b ∉ bs' := by
  obtain ⟨hlp, c0, c1, c2, hfz⟩ := h.cells
  obtain ⟨am, cm, rfl⟩ := own_form h.rm
  obtain ⟨aw, cw, rfl⟩ := own_form h.rw
  have HW := hid (wrong_any (h.bw (Bw.alloc (Bw.refl w) (.cells #[.int .i64 m] 3))) m t)
  rw [hw] at HW
  simp only [if_neg Bool.false_ne_true] at HW
  obtain ⟨z1, z2, z3, z4⟩ := wrong_no hw
  rw [h.len] at z2
  obtain ⟨n, rfl⟩ : ∃ n : Nat, m = n := ⟨m.toNat, by omega⟩
  have hn : n < R.length := by omega
  obtain ⟨g, e, hlg, x0, x1, hfg⟩ := h.mon hn
  subst e
  have HR := hid (h.raw _ (List.getElem_mem hn))
  have HA := hid (h.at hn)
  have HP := hid h
  have HBG := hid h.big
  clear h hw
  obtain ⟨x, hx⟩ : ∃ x, R[n] = x := ⟨_, rfl⟩
  rw [hx] at x0 x1 HR HA
  clear hx
  obtain ⟨a, b⟩ := x
  simp only at x0 x1
  have hf := fun w => isOf_any a b t w
  have e1 : ofR a b t = true := by rw [ofR_nrm HR.out z3, ← HA.out]; exact hfr
  simp only [e1] at hf
  clear hfr
  have hmf : ∀ (fn : Fn) (first cap : Array Value) (w : World), (Instr.makeFunc fn first cap).run Try.prog w = .ok (.func fn first cap) w := fun _ _ _ _ => rfl
  have HSP := hid (fun (W : World) (most : Int) (hb : Bw (w.alloc (.cells #[.int .i64 (n : Int)] 3)) W) => splW_any (w := W) 40 #[.pointer (some ⟨w.heap.size, 0, none⟩)] (fun x : WW => x.m == (n : Int)) (fun _ _ => by kernel_rfl) (.slice aw A.W.length cw) A.W most (HP.out.bw ((Bw.alloc (Bw.refl _) _).trans hb)).sw (by have := HBG.out; omega)
    (fun x _ W' hb' => notify1_any W' w.heap.size (n : Int) (by rw [Below.cell (hb.trans hb') (p := ⟨w.heap.size, 0, none⟩) (by simp)]; exact (Blk.new w _ _).cell 0) x))
  have HM := hid (fun most => spl_mem (fun x : WW => x.m == (n : Int)) most A.W)
  have HL := hid (fun most => spl_len (fun x : WW => x.m == (n : Int)) most A.W)
  unfold notS
  cases all
  · simp only [if_neg Bool.false_ne_true]
    all_goals go_enter Try.func14, Try.ntmps14
    all_goals go_wp2_with (first
      | (go_at_call 37; refine HW.out.mono ?_; rintro e w1 ⟨rfl, hw⟩; subst w1)
      | fail)
    all_goals go_region_with (go_at_call 38; refine (hf _).mono ?_; rintro e w1 ⟨rfl, os, k, rfl⟩; have HB1 := hid (show Bw (w.alloc (.cells #[.int .i64 (n : Int)] 3)) _ from (by repeat (first | exact Bw.refl _ | apply Bw.lay | apply Bw.alloc | apply Bw.drewN | apply Bw.drew))))
    all_goals go_wp2_with (first
      | (go_at_call 39; refine (HSP.out _ _ (by repeat (first | exact Bw.refl _ | apply Bw.lay | apply Bw.alloc | apply Bw.drewN | apply Bw.drew))).mono ?_; rintro e w2 ⟨v1, v2, rfl, ho1, ho2, hap, hb2⟩; obtain ⟨a1, c1', e⟩ := own_form ho1; subst e; obtain ⟨a2, c2', e⟩ := own_form ho2; subst e; have HB2 := hid ((Bw.alloc (Bw.refl w) (.cells #[.int .i64 (n : Int)] 3)).trans (Bw.trans (by repeat (first | exact Bw.refl _ | apply Bw.lay | apply Bw.alloc | apply Bw.drewN | apply Bw.drew)) hb2)); have HF := hid (split_fin HP.out HB2.out (own_base ho1 (by simp <;> omega)) (own_base ho2 (by simp <;> omega)) hap (fun x hx => (HM.out _ x).2 hx) (by have := HL.out (1); omega)); obtain ⟨hlp2, f0, f1, f2, hfz2⟩ := (HP.out.bw HB2.out).cells; clear ho1 ho2 hap hb2)
      | (go_at_call 41; refine (wake_any HF.out.1 _ _ true HF.out.2.2 (fun x hx => HP.out.ok.W x ((HM.out _ x).1 hx)) (by have := HL.out (1); have := HBG.out; simp only; omega)).mono ?_; rintro e w3 ⟨r, bs3, rfl, ho3, hp3, hn3, hg3⟩; obtain ⟨a3, c3', e⟩ := own_form ho3; subst e; have HO3 := hid ho3; have HP3 := hid hp3; have HN3 := hid hn3; have HG3 := hid hg3; clear ho3 hp3 hn3 hg3)
      | fail)
    all_goals go_ret2
    all_goals exact ⟨_, _, rfl, own_base HO3.out (by have := HB2.out.size; simp <;> omega), HP3.out, HF.out.2.1.trans HN3.out, HG3.out⟩
  · simp only [if_true]
    all_goals go_enter Try.func14, Try.ntmps14
    all_goals go_wp2_with (first
      | (go_at_call 37; refine HW.out.mono ?_; rintro e w1 ⟨rfl, hw⟩; subst w1)
      | fail)
    all_goals go_region_with (go_at_call 38; refine (hf _).mono ?_; rintro e w1 ⟨rfl, os, k, rfl⟩; have HB1 := hid (show Bw (w.alloc (.cells #[.int .i64 (n : Int)] 3)) _ from (by repeat (first | exact Bw.refl _ | apply Bw.lay | apply Bw.alloc | apply Bw.drewN | apply Bw.drew))))
    all_goals go_wp2_with (first
      | (go_at_call 39; refine (HSP.out _ _ (by repeat (first | exact Bw.refl _ | apply Bw.lay | apply Bw.alloc | apply Bw.drewN | apply Bw.drew))).mono ?_; rintro e w2 ⟨v1, v2, rfl, ho1, ho2, hap, hb2⟩; obtain ⟨a1, c1', e⟩ := own_form ho1; subst e; obtain ⟨a2, c2', e⟩ := own_form ho2; subst e; have HB2 := hid ((Bw.alloc (Bw.refl w) (.cells #[.int .i64 (n : Int)] 3)).trans (Bw.trans (by repeat (first | exact Bw.refl _ | apply Bw.lay | apply Bw.alloc | apply Bw.drewN | apply Bw.drew)) hb2)); have HF := hid (split_fin HP.out HB2.out (own_base ho1 (by simp <;> omega)) (own_base ho2 (by simp <;> omega)) hap (fun x hx => (HM.out _ x).2 hx) (by have := HL.out ((A.W.length : Int)); omega)); obtain ⟨hlp2, f0, f1, f2, hfz2⟩ := (HP.out.bw HB2.out).cells; clear ho1 ho2 hap hb2)
      | (go_at_call 41; refine (wake_any HF.out.1 _ _ true HF.out.2.2 (fun x hx => HP.out.ok.W x ((HM.out _ x).1 hx)) (by have := HL.out ((A.W.length : Int)); have := HBG.out; simp only; omega)).mono ?_; rintro e w3 ⟨r, bs3, rfl, ho3, hp3, hn3, hg3⟩; obtain ⟨a3, c3', e⟩ := own_form ho3; subst e; have HO3 := hid ho3; have HP3 := hid hp3; have HN3 := hid hn3; have HG3 := hid hg3; clear ho3 hp3 hn3 hg3)
      | fail)
    all_goals go_ret2
    all_goals exact ⟨_, _, rfl, own_base HO3.out (by have := HB2.out.size; simp <;> omega), HP3.out, HF.out.2.1.trans HN3.out, HG3.out⟩

end

end Go.Proofs.Yteeeijbjokkomaa
