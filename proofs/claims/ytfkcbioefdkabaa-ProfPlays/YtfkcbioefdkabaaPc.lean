/- Kinds and Pair: contracts. -/
import Derived.Test.YtfkcbioefdkabaaPb
import Derived.Test.YtfkcbioefdkabaaWA
set_option linter.unusedSimpArgs false
set_option linter.unusedVariables false
namespace Go.Proofs.Ytfkcbioefdkabaa
open Go Go.RowKit Go.ChangeMaps

theorem zeroI (w : World) : (zeroValue 3).run Try.prog w = .ok (.int .i64 0) w := by kernel_rfl

theorem wf_of {c : Int} (h : 0 ≤ c ∧ c < 256) : (Lit.int .i64 c).wf = true := wf_i64 ⟨by omega, by omega⟩

set_option maxRecDepth 100000 in
/-- What a map tells of a place, and what it is when another number is laid there. -/
theorem MK.look {w : World} {mb n : Nat} {K : Int → Int → Int} (h : MK w mb K n) {f t : Int} (hf : I64 f) (ht : I64 t) :
    (Instr.lookup 65 (.map (some mb)) (.agg #[.int .i64 f, .int .i64 t]) false).run Try.prog w = .ok (.int .i64 (K f t)) w := by
  obtain ⟨D, hown, hat⟩ := h
  obtain ⟨l, hl⟩ := keyP (f, t) hf ht
  obtain ⟨c, hrun, hc, _⟩ := hown.lookup_int lawP underMk underInt (zeroI w) hl
  rw [hat (f, t) l hl] at hc
  injection hc with e1
  injection e1 with _ e2
  subst e2
  exact hrun

set_option maxRecDepth 100000 in
theorem MK.store {w : World} {mb n : Nat} {K : Int → Int → Int} (h : MK w mb K n) (hn : n < maxLen) {f t : Int} (hf : I64 f) (ht : I64 t) :
    ∃ v0 st w1, (Instr.mapEntry 65 (.map (some mb)) (.agg #[.int .i64 f, .int .i64 t])).run Try.prog w = .ok (.tuple #[v0, goInt st]) w1 ∧ Ex [mb] w w1 ∧ MK w1 mb K (n + 1) ∧
      ∀ c : Int, 0 ≤ c ∧ c < 256 → ∃ w2, (Instr.entryStore 65 (.map (some mb)) (goInt st) (.int .i64 c)).run Try.prog w1 = .ok () w2 ∧ Ex [mb] w w2 ∧ MK w2 mb (fun f' t' => if f' = f ∧ t' = t then c else K f' t') (n + 1) := by
  have hlk := h.look hf ht
  have h0 := h
  obtain ⟨D, hown, hat⟩ := h
  obtain ⟨l, hl⟩ := keyP (f, t) hf ht
  have hown' := hown
  obtain ⟨es, clock, hbk, Ft, hsz, hD⟩ := hown'
  obtain ⟨v0, st, es1, clock1, r1, _, r2⟩ := WideElems.entry_then_store lawD underMk (z := .int .i64 0) (fun u => zeroI u) hbk Ft hl
  have hb1 : (setBlock w mb (.map es1 clock1)).heap[mb]? = some (.map es1 clock1) := heap_setBlock_same hbk _
  have ex1 : Ex [mb] w (setBlock w mb (.map es1 clock1)) := ⟨rfl, rfl, rfl, by simp [setBlock], fun b _ hb => heap_setBlock_other hbk _ (by simpa using hb)⟩
  have keep1 : MK (setBlock w mb (.map es1 clock1)) mb K (n + 1) := by
    rcases lawD.find w hl es.toList Ft.keys with ⟨h1, h2⟩ | ⟨j, e0, h1, h2, h3⟩
    · have r1' : (Instr.mapEntry 65 (.map (some mb)) (pk (f, t))).run Try.prog w = .ok (.tuple #[.int .i64 0, goInt clock]) (setBlock w mb (.map (es.push ⟨pk (f, t), .int .i64 0, clock⟩) (clock + 1))) := by
        simp [Instr.mapEntry, run_underlying underMk, MapKept.run_getObj_map hbk, lawD.check w false hl, h1, zeroI, MapKept.run_setObj_map _ hbk, Result.andThen, setBlock]
      have u' : (Instr.mapUpdate 65 (.map (some mb)) (pk (f, t)) (.int .i64 0)).run Try.prog w = .ok () (setBlock w mb (.map (es.push ⟨pk (f, t), .int .i64 0, clock⟩) (clock + 1))) := by
        simp [Instr.mapUpdate, run_underlying underMk, MapKept.run_getObj_map hbk, lawD.check w false hl, h1, MapKept.run_setObj_map _ hbk, Result.andThen, setBlock]
      have l' : (Instr.lookup 65 (.map (some mb)) (pk (f, t)) false).run Try.prog w = .ok (.int .i64 0) w := by
        simp [Instr.lookup, run_underlying underMk, MapKept.run_getObj_map hbk, lawD.check w _ hl, h1, zeroI, Result.andThen]
      have hk0 : K f t = 0 := by
        have := hlk.symm.trans l'
        simpa using this
      obtain ⟨w', u1, u2, u3⟩ := hown.update lawP underMk hn hl (plainElem_int (H := Unit) underInt (wf_of (c := 0) ⟨by omega, by omega⟩))
      have e1 : setBlock w mb (.map es1 clock1) = w' := by
        have a1 := r1.symm.trans r1'
        have a2 := u'.symm.trans u1
        simp at a1 a2
        rw [a1.2, a2]
      rw [e1]
      refine ⟨_, u2, fun q m hm => ?_⟩
      by_cases hq : q = (f, t)
      · subst hq
        obtain rfl : m = l := Option.some.inj (hm.symm.trans hl)
        rw [Maps.atKey_put_same hown.isMap (lawP.key hl)]
        simp [hk0]
      · have hne : m ≠ l := fun e => by
          subst e
          exact hq (pk_inj (lawP.inj hm hl))
        rw [Maps.atKey_put_other hne, hat q m hm]
    · have hj : es[j]? = some e0 := by simpa using h2
      have hsame : es.modify j (fun e => { e with key := pk (f, t) }) = es := by
        apply Array.ext'
        rw [Array.toList_modify, modify_eq_set _ _ _ _ h2]
        have : ({ e0 with key := pk (f, t) } : MapEntry) = e0 := by rw [← h3]
        rw [this]
        exact WideElems.set_self _ _ _ h2
      have r1' : (Instr.mapEntry 65 (.map (some mb)) (pk (f, t))).run Try.prog w = .ok (.tuple #[e0.val, goInt e0.born]) (setBlock w mb (.map es clock)) := by
        simp [Instr.mapEntry, run_underlying underMk, MapKept.run_getObj_map hbk, lawD.check w false hl, h1, hj, h3, lawD.stays w hl, hsame, MapKept.run_setObj_map _ hbk, Result.andThen, setBlock]
      have e1 : setBlock w mb (.map es1 clock1) = setBlock w mb (.map es clock) := by
        have a1 := r1.symm.trans r1'
        simp at a1
        exact a1.2
      rw [e1]
      exact (h0.keep (heap_setBlock_same hbk _ |>.trans hbk.symm)).mono (by omega)
  refine ⟨v0, st, _, r1, ex1, keep1, fun c hc => ?_⟩
  obtain ⟨es', clock', s1, s2⟩ := r2 _ (.int .i64 c) hb1
  obtain ⟨w', u1, u2, u3⟩ := hown.update lawP underMk hn hl (plainElem_int (H := Unit) underInt (wf_of hc))
  have e : setBlock w mb (.map es' clock') = w' := by
    have := s2.symm.trans u1
    simpa using this
  have hm' : MK w' mb (fun f' t' => if f' = f ∧ t' = t then c else K f' t') (n + 1) := by
    refine ⟨_, u2, fun q m hm => ?_⟩
    by_cases hq : q = (f, t)
    · subst hq
      obtain rfl : m = l := Option.some.inj (hm.symm.trans hl)
      rw [Maps.atKey_put_same hown.isMap (lawP.key hl)]
      simp
    · have hne : m ≠ l := fun e => by
        subst e
        exact hq (pk_inj (lawP.inj hm hl))
      have hq' : ¬ (q.1 = f ∧ q.2 = t) := fun k => hq (Prod.ext k.1 k.2)
      rw [Maps.atKey_put_other hne, hat q m hm]
      simp only [if_neg hq']
  refine ⟨_, s1, ?_, hm'.keep ?_⟩
  · exact ex1.trans ⟨rfl, rfl, rfl, by simp [setBlock], fun b _ hb => heap_setBlock_other hb1 _ (by simpa using hb)⟩
  · rw [← e, heap_setBlock_same hb1 _, heap_setBlock_same hbk _]

section
variable {P : Program} {ops : Array Oper} {o : Oper} {a : Act} {w w' : World} {K : Act → World → Prop} {Q : Exit → Act → World → Prop} {E : Prop}

theorem step_mapEntry (hgd : o.guard = none) (t : TypeId) (m k : Operand) (ho : o.op = Op.mapEntry t m k) {v : Value} (hr : (Instr.mapEntry t (a.eval m) (a.eval k)).run P w = .ok v w') (h : K (a.put o.dst v) w') :
    if Region.wanted o (yielded ops a.tmps) = true then Oper.wp P o a w K Q else E := by
  have hw : Region.wanted o (yielded ops a.tmps) = true := by simp [Region.wanted, hgd]
  rw [if_pos hw]
  unfold Oper.wp execOp
  simp [ho, hr, Result.andThen]
  exact h

theorem step_entryStore (hgd : o.guard = none) (t : TypeId) (m s x : Operand) (ho : o.op = Op.entryStore t m s x) (hd : o.dst = none) (hr : (Instr.entryStore t (a.eval m) (a.eval s) (a.eval x)).run P w = .ok () w') (h : K a w') :
    if Region.wanted o (yielded ops a.tmps) = true then Oper.wp P o a w K Q else E := by
  have hw : Region.wanted o (yielded ops a.tmps) = true := by simp [Region.wanted, hgd]
  rw [if_pos hw]
  unfold Oper.wp execOp
  simp only [ho, Sem.run_bind, Sem.run_pure, hr, Result.andThen_ok]
  unfold Oper.upon
  rw [hd]
  exact h
end

theorem wrap_small (n : Nat) (h : n < 1000) : IntKind.i64.wrap (n : Int) = n := by simp [IntKind.wrap, IntKind.bits, IntKind.signed]; omega

theorem or_small (n m : Nat) (hn : n < 256) (hm : m < 256) : IntKind.i64.wrap (((BitVec.ofInt 64 (n : Int) ||| BitVec.ofInt 64 (m : Int)).toNat : Nat) : Int) = ((n ||| m : Nat) : Int) := by
  have h := Nat.or_lt_two_pow (n := 8) hn hm
  rw [BitVec.toNat_or]
  have e1 : (BitVec.ofInt 64 (n : Int)).toNat = n := by simp; omega
  have e2 : (BitVec.ofInt 64 (m : Int)).toNat = m := by simp; omega
  rw [e1, e2]
  exact wrap_small _ (by omega)

theorem shl1 {a : Int} (h : 0 ≤ a ∧ a ≤ 3) : IntKind.i64.wrap (2 ^ a.toNat) = ((1 <<< (a.toNat % 4) : Nat) : Int) := by
  obtain ⟨k, rfl⟩ : ∃ k : Nat, a = k := ⟨a.toNat, by omega⟩
  have hk : ∀ k : Fin 4, IntKind.i64.wrap (2 ^ (k.val : Int).toNat) = ((1 <<< ((k.val : Int).toNat % 4) : Nat) : Int) := by decide
  exact hk ⟨k, by omega⟩
theorem shl16 {a : Int} (h : 0 ≤ a ∧ a ≤ 3) : IntKind.i64.wrap (16 * 2 ^ a.toNat) = ((16 <<< (a.toNat % 4) : Nat) : Int) := by
  obtain ⟨k, rfl⟩ : ∃ k : Nat, a = k := ⟨a.toNat, by omega⟩
  have hk : ∀ k : Fin 4, IntKind.i64.wrap (16 * 2 ^ (k.val : Int).toNat) = ((16 <<< ((k.val : Int).toNat % 4) : Nat) : Int) := by decide
  exact hk ⟨k, by omega⟩

section
variable {w w' : World} {p hb wb mb F G : Nat} {L : List AA}

set_option maxRecDepth 100000 in
set_option maxHeartbeats 1000000 in
theorem Kinds_no (h : PS w p hb wb mb F G L) (i t : Int) (hi : ¬ (0 ≤ i ∧ i < F ∧ 0 ≤ t ∧ t < 65536)) : Calls Try.prog 16 #[.pointer (some ⟨p, 0, none⟩), .int .i64 i, .int .i64 t] w fun e w' => e = .returned (.tuple #[.int .i64 0, .int .i64 1]) ∧ Bw w w' := by
  have HP := hid h
  have c0 := h.blk.cell 0
  have c1 := h.blk.cell 1
  have c2 := h.blk.cell 2
  simp only [List.getElem?_toArray, List.getElem?_cons_zero, List.getElem?_cons_succ] at c0 c1 c2
  have hlp := h.lts.1
  have hp := place_any h i t
  rw [if_neg hi] at hp
  have HC := hid hp
  clear h hp
  go_enter Try.func16, Try.ntmps16
  go_wp2_with (first
    | (go_at_call 33; refine (HC.out).mono ?_; rintro e w1 ⟨rfl, hw1⟩; subst w1)
    | fail)
  all_goals go_ret2
  all_goals exact ⟨rfl, Bw.refl _⟩

set_option maxRecDepth 100000 in
set_option maxHeartbeats 1000000 in
theorem Kinds_yes (h : PS w p hb wb mb F G L) (i t : Int) (hF : F ≤ 1024) (hi : 0 ≤ i ∧ i < F ∧ 0 ≤ t ∧ t < 65536) : Calls Try.prog 16 #[.pointer (some ⟨p, 0, none⟩), .int .i64 i, .int .i64 t] w fun e w' => e = .returned (.tuple #[.int .i64 (kindOf L i t), .int .i64 0]) ∧ Bw w w' := by
  have HP := hid h
  have c0 := h.blk.cell 0
  have c1 := h.blk.cell 1
  have c2 := h.blk.cell 2
  simp only [List.getElem?_toArray, List.getElem?_cons_zero, List.getElem?_cons_succ] at c0 c1 c2
  have hlp := h.lts.1
  have hp := place_any h i t
  rw [if_pos hi] at hp
  have HC := hid hp
  have hlk := h.mp.look (f := i) (t := t) ⟨by omega, by omega⟩ ⟨by omega, by omega⟩
  generalize hcc : (kindOf L i t : Int) = c at hlk ⊢
  clear h hp
  go_enter Try.func16, Try.ntmps16
  go_wp2_with (first
    | (go_at_call 33; refine (HC.out).mono ?_; rintro e w1 ⟨rfl, hw1⟩; subst w1)
    | fail)
  all_goals go_ret2
  all_goals exact ⟨rfl, Bw.refl _⟩

set_option maxRecDepth 100000 in
set_option maxHeartbeats 1000000 in
theorem Pair_no1 (h : PS w p hb wb mb F G L) (i t a b : Int) (hi : ¬ (0 ≤ i ∧ i < F ∧ 0 ≤ t ∧ t < 65536)) : Calls Try.prog 26 #[.pointer (some ⟨p, 0, none⟩), .int .i64 i, .int .i64 t, .int .i64 a, .int .i64 b] w fun e w' => e = .returned (.int .i64 1) ∧ Bw w w' := by
  have hp := place_any h i t
  rw [if_neg hi] at hp
  have HC := hid hp
  clear h hp
  go_enter Try.func26, Try.ntmps26
  go_wp2_with (first
    | (go_at_call 33; refine (HC.out).mono ?_; rintro e w1 ⟨rfl, hw1⟩; subst w1)
    | fail)
  all_goals go_ret
  all_goals exact ⟨rfl, Bw.refl _⟩

set_option maxRecDepth 100000 in
set_option maxHeartbeats 1000000 in
theorem Pair_no2 (h : PS w p hb wb mb F G L) (i t a b : Int) (hi : 0 ≤ i ∧ i < F ∧ 0 ≤ t ∧ t < 65536) (hab : ¬ (0 ≤ a ∧ a ≤ 3 ∧ 0 ≤ b ∧ b ≤ 3)) : Calls Try.prog 26 #[.pointer (some ⟨p, 0, none⟩), .int .i64 i, .int .i64 t, .int .i64 a, .int .i64 b] w fun e w' => e = .returned (.int .i64 1) ∧ Bw w w' := by
  have hp := place_any h i t
  rw [if_pos hi] at hp
  have HC := hid hp
  clear h hp
  by_cases ha : 0 ≤ a ∧ a ≤ 3
  · have hda : decide (0 ≤ a ∧ a ≤ 3) = true := decide_eq_true ha
    have hdb : decide (0 ≤ b ∧ b ≤ 3) = false := decide_eq_false (fun hb => hab ⟨ha.1, ha.2, hb⟩)
    clear hab
    go_enter Try.func26, Try.ntmps26
    go_wp2_with (first
      | (go_at_call 33; refine (HC.out).mono ?_; rintro e w1 ⟨rfl, hw1⟩; subst w1)
      | (go_at_call 38; refine (isKind_any _ _).mono ?_; rintro e w1 ⟨rfl, hw1⟩; subst w1)
      | fail)
    all_goals go_ret
    all_goals exact ⟨rfl, Bw.refl _⟩
  · have hda : decide (0 ≤ a ∧ a ≤ 3) = false := decide_eq_false ha
    clear hab
    go_enter Try.func26, Try.ntmps26
    go_wp2_with (first
      | (go_at_call 33; refine (HC.out).mono ?_; rintro e w1 ⟨rfl, hw1⟩; subst w1)
      | (go_at_call 38; refine (isKind_any _ _).mono ?_; rintro e w1 ⟨rfl, hw1⟩; subst w1)
      | fail)
    all_goals go_ret
    all_goals exact ⟨rfl, Bw.refl _⟩

set_option maxRecDepth 100000 in
set_option maxHeartbeats 1000000 in
theorem Pair_yes (h : PS w p hb wb mb F G L) (i t a b : Int) (hF : F ≤ 1024) (hL : L.length < 1000) (hi : 0 ≤ i ∧ i < F ∧ 0 ≤ t ∧ t < 65536) (ha : 0 ≤ a ∧ a ≤ 3) (hb3 : 0 ≤ b ∧ b ≤ 3) : Calls Try.prog 26 #[.pointer (some ⟨p, 0, none⟩), .int .i64 i, .int .i64 t, .int .i64 a, .int .i64 b] w fun e w' => e = .returned (.int .i64 0) ∧ (∀ x : AA, x.d = 2 → x.f = i → x.t = t → x.a = a → x.b = b → PS w' p hb wb mb F G (L ++ [x])) ∧ Ex (bsOf hb wb mb) w w' := by
  have HP := hid h
  have c0 := h.blk.cell 0
  have c1 := h.blk.cell 1
  have c2 := h.blk.cell 2
  simp only [List.getElem?_toArray, List.getElem?_cons_zero, List.getElem?_cons_succ] at c0 c1 c2
  have hlp := h.lts.1
  have hp := place_any h i t
  rw [if_pos hi] at hp
  have HC := hid hp
  have hda : decide (0 ≤ a ∧ a ≤ 3) = true := decide_eq_true ha
  have hdb : decide (0 ≤ b ∧ b ≤ 3) = true := decide_eq_true hb3
  have hm : MK w.drew mb (fun f t => kindOf L f t) L.length := h.mp.keep rfl
  have hlk := hm.look (f := i) (t := t) ⟨by omega, by omega⟩ ⟨by omega, by omega⟩
  obtain ⟨v0, st, w1, r1, x1, m1, r2⟩ := hm.store (by unfold maxLen; omega) (f := i) (t := t) ⟨by omega, by omega⟩ ⟨by omega, by omega⟩
  have hk := kindOf_lt L i t
  have bt := bits_lt a.toNat b.toNat
  have q1 : (1 <<< (a.toNat % 4) : Nat) < 256 := Nat.lt_of_le_of_lt (Nat.left_le_or) bt
  have q2 : (16 <<< (b.toNat % 4) : Nat) < 256 := Nat.lt_of_le_of_lt (Nat.right_le_or) bt
  have o1 := or_small _ _ q1 q2
  have o2 := or_small _ _ hk bt
  obtain ⟨c, hc⟩ : ∃ c : Int, (kindOf L i t : Int) = c := ⟨_, rfl⟩
  obtain ⟨X, hX⟩ : ∃ X : Int, ((1 <<< (a.toNat % 4) : Nat) : Int) = X := ⟨_, rfl⟩
  obtain ⟨Y, hY⟩ : ∃ X : Int, ((16 <<< (b.toNat % 4) : Nat) : Int) = X := ⟨_, rfl⟩
  obtain ⟨Z, hZ⟩ : ∃ X : Int, ((1 <<< (a.toNat % 4) ||| 16 <<< (b.toNat % 4) : Nat) : Int) = X := ⟨_, rfl⟩
  obtain ⟨d, hd⟩ : ∃ d : Int, ((kindOf L i t ||| (1 <<< (a.toNat % 4) ||| 16 <<< (b.toNat % 4)) : Nat) : Int) = d := ⟨_, rfl⟩
  have sx : IntKind.i64.wrap (2 ^ a.toNat) = X := (shl1 ha).trans hX
  have sy : IntKind.i64.wrap (16 * 2 ^ b.toNat) = Y := (shl16 hb3).trans hY
  rw [hX, hY, hZ] at o1
  rw [hd, hc, hZ] at o2
  have o1 : bits BinOp.or IntKind.i64 X Y = Z := o1
  have o2 : bits BinOp.or IntKind.i64 c Z = d := o2
  rw [hc] at hlk
  have hd2 : 0 ≤ d ∧ d < 256 := by
    have := Nat.or_lt_two_pow (n := 8) hk bt
    omega
  have R2 := hid (r2 d hd2)
  have X1 := hid x1
  have R1 := hid r1
  have hlk1 := m1.look (f := i) (t := t) ⟨by omega, by omega⟩ ⟨by omega, by omega⟩
  rw [hc] at hlk1
  have c2' : w1.cell? ⟨p, 2, none⟩ = some (.map (some mb)) := (World.cell?_of_block (w := w.drew) (w' := w1) (a := ⟨p, 2, none⟩) (x1.block p hlp (by simpa using h.ne.2.2.1))).trans c2
  have na : ¬ a < 0 := by omega
  have nb : ¬ b < 0 := by omega
  have hS0 := hid (show ((fun w' => w'.cell? ⟨p, 2, none⟩ = some (.map (some mb)) ∧ (Instr.lookup 65 (.map (some mb)) (.agg #[.int .i64 i, .int .i64 t]) false).run Try.prog w' = .ok (.int .i64 c) w') w.drew) from ⟨c2, hlk⟩)
  have hS1 := hid (show ((fun w' => w'.cell? ⟨p, 2, none⟩ = some (.map (some mb)) ∧ (Instr.lookup 65 (.map (some mb)) (.agg #[.int .i64 i, .int .i64 t]) false).run Try.prog w' = .ok (.int .i64 c) w') w1) from ⟨c2', hlk1⟩)
  have HD := hid hd
  clear q1 q2 bt hX hY hZ h hp hlk r1 r2 x1 hm hk hd hlk1 c2' m1
  go_enter Try.func26, Try.ntmps26
  go_wp2_with (first
    | (go_at_call 33; refine (HC.out).mono ?_; rintro e w1 ⟨rfl, hw1⟩; subst w1)
    | (go_at_call 38; refine (isKind_any _ _).mono ?_; rintro e w1 ⟨rfl, hw1⟩; subst w1)
    | fail)
  refine wp_region_W (fun w' => w'.cell? ⟨p, 2, none⟩ = some (.map (some mb)) ∧ (Instr.lookup 65 (.map (some mb)) (.agg #[.int .i64 i, .int .i64 t]) false).run Try.prog w' = .ok (.int .i64 c) w') (fun j => if j == 16 then 2 else 1) (by kernel_rfl) ?_
  refine wpAnyW_take (i := 0) (oi := { dst := some 27, op := Op.move (Operand.tmp 0), type := 24, pos := "prof.go:67", after := #[], guard := none }) (v := ?_) rfl (by kernel_rfl) (by kernel_rfl) (by kernel_rfl) (by kernel_rfl) (fun _ _ _ h => h) (Or.inl ⟨by rfl, fun w _ => ?_⟩) ?_
  rotate_left
  · (go_simp; first | done | with_reducible rfl)
  try simp only [Act.put, List.setIfInBounds_toArray, List.set_cons_zero, List.set_cons_succ]
  refine wpAnyW_take (i := 1) (oi := { dst := some 28, op := Op.nilCheck (Operand.tmp 27), type := 0, pos := "prof.go:67", after := #[{ on := 0, ground := Ground.data }], guard := none }) (v := ?_) rfl (by kernel_rfl) (by kernel_rfl) (by kernel_rfl) (by kernel_rfl) (fun _ _ _ h => h) (Or.inl ⟨by rfl, fun w _ => ?_⟩) ?_
  rotate_left
  · (go_simp; first | done | with_reducible rfl)
  try simp only [Act.put, List.setIfInBounds_toArray, List.set_cons_zero, List.set_cons_succ]
  refine wpAnyW_take (i := 2) (oi := { dst := some 29, op := Op.fieldAddr 67 (Operand.tmp 28) 2, type := 0, pos := "prof.go:67", after := #[{ on := 1, ground := Ground.data }], guard := none }) (v := ?_) rfl (by kernel_rfl) (by kernel_rfl) (by kernel_rfl) (by kernel_rfl) (fun _ _ _ h => h) (Or.inl ⟨by rfl, fun w _ => ?_⟩) ?_
  rotate_left
  · (go_simp; first | done | with_reducible rfl)
  try simp only [Act.put, List.setIfInBounds_toArray, List.set_cons_zero, List.set_cons_succ]
  refine wpAnyW_load (i := 3) (oi := { dst := some 30, op := Op.load 65 (Operand.tmp 29), type := 65, pos := "prof.go:67", after := #[{ on := 2, ground := Ground.data }], guard := none }) (v := ?_) rfl (by kernel_rfl) (by kernel_rfl) (by kernel_rfl) (by kernel_rfl) (by kernel_rfl) (fun _ _ _ h => h) (Or.inl ⟨by rfl, fun w hS => ?_⟩) hS0.out ?_
  rotate_left
  · (obtain ⟨s1, s2⟩ := hS; go_simp; first | done | with_reducible rfl)
  try simp only [Act.put, List.setIfInBounds_toArray, List.set_cons_zero, List.set_cons_succ]
  refine wpAnyW_take (i := 4) (oi := { dst := some 31, op := Op.move (Operand.tmp 1), type := 3, pos := "prof.go:67", after := #[], guard := none }) (v := ?_) rfl (by kernel_rfl) (by kernel_rfl) (by kernel_rfl) (by kernel_rfl) (fun _ _ _ h => h) (Or.inl ⟨by rfl, fun w _ => ?_⟩) ?_
  rotate_left
  · (go_simp; first | done | with_reducible rfl)
  try simp only [Act.put, List.setIfInBounds_toArray, List.set_cons_zero, List.set_cons_succ]
  refine wpAnyW_take (i := 5) (oi := { dst := some 32, op := Op.move (Operand.tmp 2), type := 3, pos := "prof.go:67", after := #[], guard := none }) (v := ?_) rfl (by kernel_rfl) (by kernel_rfl) (by kernel_rfl) (by kernel_rfl) (fun _ _ _ h => h) (Or.inl ⟨by rfl, fun w _ => ?_⟩) ?_
  rotate_left
  · (go_simp; first | done | with_reducible rfl)
  try simp only [Act.put, List.setIfInBounds_toArray, List.set_cons_zero, List.set_cons_succ]
  refine wpAnyW_take (i := 6) (oi := { dst := some 33, op := Op.build 81 #[(0, Operand.tmp 31), (1, Operand.tmp 32)], type := 81, pos := "prof.go:67", after := #[{ on := 4, ground := Ground.data }, { on := 5, ground := Ground.data }], guard := none }) (v := ?_) rfl (by kernel_rfl) (by kernel_rfl) (by kernel_rfl) (by kernel_rfl) (fun _ _ _ h => h) (Or.inl ⟨by rfl, fun w _ => ?_⟩) ?_
  rotate_left
  · (go_simp; first | done | with_reducible rfl)
  try simp only [Act.put, List.setIfInBounds_toArray, List.set_cons_zero, List.set_cons_succ]
  refine wpAnyW_load (i := 7) (oi := { dst := some 34, op := Op.lookup 65 (Operand.tmp 30) (Operand.tmp 33) false, type := 3, pos := "prof.go:67", after := #[{ on := 3, ground := Ground.data }, { on := 6, ground := Ground.data }], guard := none }) (v := ?_) rfl (by kernel_rfl) (by kernel_rfl) (by kernel_rfl) (by kernel_rfl) (by kernel_rfl) (fun _ _ _ h => h) (Or.inl ⟨by rfl, fun w hS => ?_⟩) hS0.out ?_
  rotate_left
  · (obtain ⟨s1, s2⟩ := hS; go_simp; first | done | with_reducible rfl)
  try simp only [Act.put, List.setIfInBounds_toArray, List.set_cons_zero, List.set_cons_succ]
  refine wpAnyW_take (i := 8) (oi := { dst := some 35, op := Op.move (Operand.tmp 3), type := 3, pos := "prof.go:67", after := #[], guard := none }) (v := ?_) rfl (by kernel_rfl) (by kernel_rfl) (by kernel_rfl) (by kernel_rfl) (fun _ _ _ h => h) (Or.inl ⟨by rfl, fun w _ => ?_⟩) ?_
  rotate_left
  · (go_simp; first | done | with_reducible rfl)
  try simp only [Act.put, List.setIfInBounds_toArray, List.set_cons_zero, List.set_cons_succ]
  refine wpAnyW_take (i := 9) (oi := { dst := some 36, op := Op.binOp BinOp.shl 3 (Operand.const (Value.int IntKind.i64 1)) (Operand.tmp 35) 3, type := 3, pos := "prof.go:67", after := #[{ on := 8, ground := Ground.data }], guard := none }) (v := ?_) rfl (by kernel_rfl) (by kernel_rfl) (by kernel_rfl) (by kernel_rfl) (fun _ _ _ h => h) (Or.inl ⟨by rfl, fun w _ => ?_⟩) ?_
  rotate_left
  · (go_simp; first | done | with_reducible rfl)
  try simp only [Act.put, List.setIfInBounds_toArray, List.set_cons_zero, List.set_cons_succ]
  try rw [sx]
  refine wpAnyW_take (i := 10) (oi := { dst := some 37, op := Op.move (Operand.tmp 4), type := 3, pos := "prof.go:67", after := #[], guard := none }) (v := ?_) rfl (by kernel_rfl) (by kernel_rfl) (by kernel_rfl) (by kernel_rfl) (fun _ _ _ h => h) (Or.inl ⟨by rfl, fun w _ => ?_⟩) ?_
  rotate_left
  · (go_simp; first | done | with_reducible rfl)
  try simp only [Act.put, List.setIfInBounds_toArray, List.set_cons_zero, List.set_cons_succ]
  refine wpAnyW_take (i := 11) (oi := { dst := some 38, op := Op.binOp BinOp.shl 3 (Operand.const (Value.int IntKind.i64 16)) (Operand.tmp 37) 3, type := 3, pos := "prof.go:67", after := #[{ on := 10, ground := Ground.data }], guard := none }) (v := ?_) rfl (by kernel_rfl) (by kernel_rfl) (by kernel_rfl) (by kernel_rfl) (fun _ _ _ h => h) (Or.inl ⟨by rfl, fun w _ => ?_⟩) ?_
  rotate_left
  · (go_simp; first | done | with_reducible rfl)
  try simp only [Act.put, List.setIfInBounds_toArray, List.set_cons_zero, List.set_cons_succ]
  try rw [sy]
  refine wpAnyW_take (i := 12) (oi := { dst := some 39, op := Op.binOp BinOp.or 3 (Operand.tmp 36) (Operand.tmp 38) 3, type := 3, pos := "prof.go:67", after := #[{ on := 9, ground := Ground.data }, { on := 11, ground := Ground.data }], guard := none }) (v := ?_) rfl (by kernel_rfl) (by kernel_rfl) (by kernel_rfl) (by kernel_rfl) (fun _ _ _ h => h) (Or.inl ⟨by rfl, fun w _ => ?_⟩) ?_
  rotate_left
  · (go_simp; first | done | with_reducible rfl)
  try simp only [Act.put, List.setIfInBounds_toArray, List.set_cons_zero, List.set_cons_succ]
  try rw [o1]
  refine wpAnyW_take (i := 13) (oi := { dst := some 40, op := Op.binOp BinOp.or 3 (Operand.tmp 34) (Operand.tmp 39) 3, type := 3, pos := "prof.go:67", after := #[{ on := 7, ground := Ground.data }, { on := 12, ground := Ground.data }], guard := none }) (v := ?_) rfl (by kernel_rfl) (by kernel_rfl) (by kernel_rfl) (by kernel_rfl) (fun _ _ _ h => h) (Or.inl ⟨by rfl, fun w _ => ?_⟩) ?_
  rotate_left
  · (go_simp; first | done | with_reducible rfl)
  try simp only [Act.put, List.setIfInBounds_toArray, List.set_cons_zero, List.set_cons_succ]
  try rw [o2]
  refine wpAnyW_ready (rs := [14]) (by kernel_rfl) (by simp) ?_
  refine (AllReadyW.cons (o := { dst := some 41, op := Op.mapEntry 65 (Operand.tmp 30) (Operand.tmp 33), type := 0, pos := "prof.go:67", after := #[{ on := 3, ground := Ground.data }, { on := 6, ground := Ground.data }, { on := 0, ground := Ground.phase }, { on := 1, ground := Ground.phase }, { on := 2, ground := Ground.phase }, { on := 3, ground := Ground.phase }, { on := 4, ground := Ground.phase }, { on := 5, ground := Ground.phase }, { on := 6, ground := Ground.phase }, { on := 7, ground := Ground.textOnly Departure.mapOpAssignEntry }, { on := 8, ground := Ground.phase }, { on := 9, ground := Ground.phase }, { on := 10, ground := Ground.phase }, { on := 11, ground := Ground.phase }, { on := 12, ground := Ground.phase }, { on := 13, ground := Ground.textOnly Departure.mapOpAssignEntry }], guard := none }) rfl (fun K hK => ?_) AllReadyW.nil)
  refine step_mapEntry rfl _ _ _ rfl R1.out ?_
  refine hK.out _ _ (fun _ => hS1.out) ?_
  clear hK K
  try simp only [Act.put, List.setIfInBounds_toArray, List.set_cons_zero, List.set_cons_succ]
  refine wpAnyW_take (i := 15) (oi := { dst := some 42, op := Op.extract (Operand.tmp 41) 1, type := 3, pos := "prof.go:67", after := #[{ on := 14, ground := Ground.data }], guard := none }) (v := ?_) rfl (by kernel_rfl) (by kernel_rfl) (by kernel_rfl) (by kernel_rfl) (fun _ _ _ h => h) (Or.inl ⟨by rfl, fun w _ => ?_⟩) ?_
  rotate_left
  · (go_simp; first | done | with_reducible rfl)
  try simp only [Act.put, List.setIfInBounds_toArray, List.set_cons_zero, List.set_cons_succ]
  refine wpAnyW_ready (rs := [16]) (by kernel_rfl) (by simp) ?_
  refine (AllReadyW.cons (o := { dst := none, op := Op.entryStore 65 (Operand.tmp 30) (Operand.tmp 42) (Operand.tmp 40), type := 0, pos := "prof.go:67", after := #[{ on := 3, ground := Ground.data }, { on := 15, ground := Ground.data }, { on := 13, ground := Ground.data }, { on := 14, ground := Ground.chain }, { on := 0, ground := Ground.phase }, { on := 1, ground := Ground.phase }, { on := 2, ground := Ground.phase }, { on := 3, ground := Ground.phase }, { on := 4, ground := Ground.phase }, { on := 5, ground := Ground.phase }, { on := 6, ground := Ground.phase }, { on := 7, ground := Ground.phase }, { on := 8, ground := Ground.phase }, { on := 9, ground := Ground.phase }, { on := 10, ground := Ground.phase }, { on := 11, ground := Ground.phase }, { on := 12, ground := Ground.phase }, { on := 13, ground := Ground.phase }, { on := 14, ground := Ground.phase }, { on := 15, ground := Ground.phase }], guard := none }) rfl (fun K hK => ?_) AllReadyW.nil)
  obtain ⟨w2, r3, x2, m2⟩ := R2.out
  refine step_entryStore rfl _ _ _ _ rfl rfl r3 ?_
  refine hK.out _ _ trivial ?_
  clear hK K
  try simp only [Act.put, List.setIfInBounds_toArray, List.set_cons_zero, List.set_cons_succ]
  refine wpAnyW_done (by kernel_rfl) ?_ _
  all_goals go_wp2
  all_goals go_ret
  all_goals refine ⟨rfl, fun x hxd hxf hxt hxa hxb => HP.out.toldK x hxd ((Ex.of_bw (Bw.drew (Bw.refl w))).trans x2) (m2.congr fun f' t' => ?_), ((Ex.of_bw (Bw.drew (Bw.refl w))).trans x2).mono (by simp)⟩
  all_goals rw [kind_snoc]
  all_goals unfold kind1
  all_goals by_cases hft : f' = i ∧ t' = t
  · obtain ⟨rfl, rfl⟩ := hft
    rw [if_pos ⟨rfl, rfl⟩, if_pos ⟨hxd, hxf, hxt⟩, hxa, hxb]
    exact HD.out.symm
  · rw [if_neg hft, if_neg (fun k => hft ⟨by rw [← k.2.1, hxf], by rw [← k.2.2, hxt]⟩)]

end

end Go.Proofs.Ytfkcbioefdkabaa
