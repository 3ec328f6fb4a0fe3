/- Things: what their calls promise; a thing's parts. · A block: contract. -/
import Derived.Test.YthkiddohjilfhaaDoorK6
import Derived.Test.YthkiddohjilfhaaDoorWA
set_option linter.unusedSimpArgs false
set_option linter.unusedVariables false
namespace Go.Proofs.YthkiddohjilfhaaDoor
open Go Go.RowKit

/-- What comes of a call that reads a thing. -/
def GotT (B : World) (r g cap : Nat) (T : List ATok) (ex : Nat → Value) (o : Nat) (w : World) (R : Res) (e : Ending) (w' : World) : Prop :=
  match R with
  | .ok x c i => ∃ b, e = .returned (.tuple #[.pointer (some ⟨b, 0, none⟩), .bool c]) ∧ PtM w' (Fp w No w') x b ∧ RI B w' r g cap T ex i o ∧ Kp r w w'
  | .bad n a => e = .panicked (fltV n a) ∧ Kp r w w'
  | .out => True

def RdT (B : World) (r g cap : Nat) (T : List ATok) (ex : Nat → Value) (f : Nat) : Prop :=
  ∀ w i o, RI B w r g cap T ex i o → o ≤ 64 → pP T f .thing i o ≠ .out → Calls Tryd.prog 74 #[.pointer (some ⟨r, 0, none⟩)] w (GotT B r g cap T ex o w (pP T f .thing i o))

section
variable {B w W W' : World} {S : Nat → Prop} {r g cap : Nat} {T : List ATok} {ex : Nat → Value} {i o : Nat} {Ps : List (Prt × Nat)}

/-- A part's own row. -/
theorem SI.kids (h : SI B w S W r g cap T ex i o Ps) {x : Prt} {b : Nat} (hx : (x, b) ∈ Ps) :
    ∃ av cv, W.cell? ⟨b, 5, none⟩ = some (.slice av x.kids.length cv) ∧ b < W.heap.size ∧ b ≠ r ∧ ∀ W', Kp r W W' → ∃ bs, RowM W' (Fp w S W') (.slice av x.kids.length cv) bs ∧ PtsM W' (Fp w S W') x.kids bs := by
  have hp := h.ps _ hx
  obtain ⟨v, _, _, h5, hl, bs, hr, hk⟩ := hp.at
  obtain ⟨av, cv, e⟩ := own_form hr.1
  rw [hk.len] at e
  subst e
  refine ⟨av, cv, h5, hl, ?_, fun W' k => ⟨bs, hr.keep (fun n hn hl => k.block n hl (h.ne hn).1) (fun n hn _ => hn.mono k.size), PtsM.keep (fun n hn hl => k.block n hl (h.ne hn).1) (fun n hn _ => hn.mono k.size) _ _ hk⟩⟩
  have : Fp w S W b := by
    cases x
    exact hp.1
  exact (h.ne this).1

theorem SI.only (h : SI B w S W r g cap T ex i o Ps) {x : Prt} {b : Nat} (hx : (x, b) ∈ Ps) : SI B w S W r g cap T ex i o [(x, b)] :=
  ⟨h.ri, h.kp, fun p hp => by rw [List.mem_singleton.1 hp]; exact h.ps _ hx, h.hs, h.r0⟩

theorem one_own {w1 w2 : World} {b : Nat} (hk : Kp r (w1.alloc (.cells #[.pointer (some ⟨b, 0, none⟩)] 58)) w2) (hr : r < w1.heap.size) : w2.ownsRow w1.heap.size 58 1 (.slice (some ⟨w1.heap.size, 0, none⟩) 1 1) 1 [.pointer (some ⟨b, 0, none⟩)] :=
  ⟨rfl, .inr ⟨w1.heap.size, 1, #[.pointer (some ⟨b, 0, none⟩)], rfl, Nat.le_refl _, (Blk.new w1 #[.pointer (some ⟨b, 0, none⟩)] 58).kp hk (by omega), Nat.le_refl _, by simp [maxLen], rfl, rfl⟩⟩

theorem ptrs_one (bs : List Nat) : ∀ u ∈ (bs.map fun b => Value.pointer (some ⟨b, 0, none⟩)), u.oneCell' = true := by
  intro u hu
  obtain ⟨b, _, rfl⟩ := List.mem_map.1 hu
  rfl

theorem SI.setNew (h : SI B w No W r g cap T ex i o []) (hB : B.heap.size ≤ w.heap.size) {b j : Nat} (hb : w.heap.size ≤ b) (v : Value) : SI B w No (W.setCell ⟨b, j, none⟩ v) r g cap T ex i o [] :=
  ⟨h.ri.other (by have := h.r0; omega) (Nat.le_trans hB hb) v, h.kp.setNew hb j v, fun p hp => absurd hp (by simp), h.hs, h.r0⟩

/-- A thing and what it is called with, in one row. -/
theorem SI.callRow (h : SI B w No W r g cap T ex i o Ps) {x : Prt} {b : Nat} (hx : (x, b) ∈ Ps) {w2 w3 : World} {v v' : Value} {ks : List Prt} {bs : List Nat}
    (hk : Kp r (W.alloc (.cells #[.pointer (some ⟨b, 0, none⟩)] 58)) w2)
    (hrw : PtsM w2 (fun n => (W.alloc (.cells #[.pointer (some ⟨b, 0, none⟩)] 58)).heap.size ≤ n ∧ n < w2.heap.size ∧ v.ownBlock ≠ some n) ks bs)
    (ho : w3.ownsRow W.heap.size 58 1 v' (1 + ks.length) ([.pointer (some ⟨b, 0, none⟩)] ++ bs.map fun b => .pointer (some ⟨b, 0, none⟩))) (hg : w2.grownBy w3 (some W.heap.size)) :
    RowM w3 (Fp w No w3) v' (b :: bs) ∧ PtsM w3 (Fp w No w3) (x :: ks) (b :: bs) := by
  have hb := Bw.alloc (Bw.refl W) (.cells #[.pointer (some ⟨b, 0, none⟩)] 58)
  have hs : (W.alloc (.cells #[.pointer (some ⟨b, 0, none⟩)] 58)).heap.size = W.heap.size + 1 := by simp
  have hw := h.kp.size
  refine ⟨⟨?_, fun k hk' => .inr ⟨Nat.le_trans hw (ho.lt k hk').1, (ho.lt k hk').2⟩⟩, b, bs, rfl, ?_, ?_⟩
  · have e := hrw.len
    have := own_base ho (Nat.zero_le _)
    rw [show 1 + ks.length = (b :: bs).length by simp; omega] at this
    simpa using this
  · refine PtM.keep (S := Fp w No W) (fun n hn hl => ?_) (fun n hn hl => ?_) _ _ (h.ps _ hx)
    · have h1 := hb.block n hl
      have h2 := hk.block n (Nat.lt_of_lt_of_le hl hb.size) (h.ne hn).1
      have h3 := hg.block n (Nat.lt_of_lt_of_le (Nat.lt_of_lt_of_le hl hb.size) hk.size) (fun e => by injection e with e; omega)
      exact h3.trans (h2.trans h1)
    · exact hn.mono (Nat.le_trans hb.size (Nat.le_trans hk.size hg.size))
  · refine PtsM.keep (fun n hn hl => hg.block n hl (fun e => by injection e with e; omega)) (fun n hn hl => .inr ⟨by omega, Nat.lt_of_lt_of_le hl hg.size⟩) _ _ hrw

end

end Go.Proofs.YthkiddohjilfhaaDoor

set_option linter.unusedSimpArgs false
set_option linter.unusedVariables false
namespace Go.Proofs.YthkiddohjilfhaaDoor
open Go Go.RowKit

section
variable {B : World} {r g cap : Nat} {T : List ATok} {ex : Nat → Value}

set_option maxRecDepth 100000 in
set_option maxHeartbeats 8000000 in
theorem block_any (f : Nat) (hst : ∀ f', f' ≤ f → RdP B r g cap T ex f' 45 #[.pointer (some ⟨r, 0, none⟩)] .stmt) : RdP B r g cap T ex (f + 1) 59 #[.pointer (some ⟨r, 0, none⟩)] .block := by
  intro w i o h ho hne
  have e : pP T (f + 1) .block i o = entr T ⟨#[123]⟩ i o fun j o => pP T f (.stmts (tk T i).2.2.2 []) j o := by
    simp only [pP]
  rw [e] at hne ⊢
  have HS := hid (SI.begin h)
  have HC := hid hst
  have HR0 := hid h.k.lt
  have HBB := hid h.kb.size
  have HLL := hid h.len
  obtain ⟨i1, hi1, hz1, hs1, hy1⟩ := info_parts infoPp
  have I1 := hid (And.intro hi1 (And.intro hz1 (And.intro hs1 hy1)))
  clear hi1 hz1 hs1 hy1
  have zz := HS.out.ri.k.cell; have zf := HS.out.ri.k.free; have zl := HS.out.ri.k.lt
  clear h hst e
  unfold entr at hne ⊢
  cases hb : isT T i ⟨#[123]⟩
  · rw [if_neg (by decide)]
    have HI := hid hb
    have HO := hid ho
    unfold here
    clear hne hb
    go_enter Tryd.func59, Tryd.ntmps59
    go_wp2_with (first
      | (go_at_call 77; refine (enter_no _ (HS.out.ri.bw (by repeat (first | exact Bw.refl _ | apply Bw.alloc | apply Bw.drewN | apply Bw.drew))) HI.out HO.out).mono ?_; rintro e w1 ⟨rfl, hk1⟩; have HK := hid ((HS.out.kp.bw (by repeat (first | exact Bw.refl _ | apply Bw.alloc | apply Bw.drewN | apply Bw.drew))).trans hk1); clear hk1)
      | fail)
    all_goals exact ⟨rfl, rfl, HK.out⟩
  · rw [hb, if_pos rfl] at hne
    rw [if_pos rfl]
    have HI := hid hb
    clear hb
    by_cases h64 : o = 64
    · rw [if_pos h64]
      have H64 := hid h64
      unfold here
      clear hne h64
      go_enter Tryd.func59, Tryd.ntmps59
      go_wp2_with (first
        | (go_at_call 77; refine (enter_many _ (HS.out.ri.bw (by repeat (first | exact Bw.refl _ | apply Bw.alloc | apply Bw.drewN | apply Bw.drew))) HI.out H64.out).mono ?_; rintro e w1 ⟨rfl, hk1⟩; have HK := hid ((HS.out.kp.bw (by repeat (first | exact Bw.refl _ | apply Bw.alloc | apply Bw.drewN | apply Bw.drew))).trans hk1); clear hk1)
        | fail)
      all_goals exact ⟨rfl, rfl, HK.out⟩
    · rw [if_neg h64] at hne ⊢
      dsimp only at hne ⊢
      have H64 := hid (show o < 64 by omega)
      have H65 := hid (show o + 1 ≤ 64 by omega)
      clear h64
      generalize hr : pP T f (.stmts (tk T i).2.2.2 []) (i + 1) (o + 1) = R9 at hne ⊢
      have HR := hid hr
      have HNR := hid hne
      clear hr hne
      go_enter Tryd.func59, Tryd.ntmps59
      go_wp2_with (first
        | (go_at_call 77; refine (enter_yes _ (HS.out.ri.bw (by repeat (first | exact Bw.refl _ | apply Bw.alloc | apply Bw.drewN | apply Bw.drew))) HI.out H64.out).mono ?_; rintro e w1 ⟨rfl, hr1, hk1⟩; have HS := hid ((HS.out.bw (by repeat (first | exact Bw.refl _ | apply Bw.alloc | apply Bw.drewN | apply Bw.drew))).go hr1 hk1); have zz := HS.out.ri.k.cell; have zf := HS.out.ri.k.free; have zl := HS.out.ri.k.lt; clear hr1 hk1)
        | (go_at_call 43; refine (made_any _ _ _ [] [] _ _ (HS.out.bw (by repeat (first | exact Bw.refl _ | apply Bw.alloc | apply Bw.drewN | apply Bw.drew))).row0.1 (HS.out.bw (by repeat (first | exact Bw.refl _ | apply Bw.alloc | apply Bw.drewN | apply Bw.drew))).row0.2).mono ?_; rintro e w3 ⟨b3, rfl, hp3, hb3, hn3, hc3⟩; have HX := hid (XI.new (w := w) hc3 (Nat.le_trans (HS.out.bw (by repeat (first | exact Bw.refl _ | apply Bw.alloc | apply Bw.drewN | apply Bw.drew))).kp.size hn3)); have HS := hid ((HS.out.bw (by repeat (first | exact Bw.refl _ | apply Bw.alloc | apply Bw.drewN | apply Bw.drew))).put hb3 hp3).drop; have zz := HS.out.ri.k.cell; have zf := HS.out.ri.k.free; have zl := HS.out.ri.k.lt; clear hp3 hb3)
        | fail)
      go_loopw [9] (fun _ wr => ∃ f' acc av cv i', f' ≤ f ∧ pP T f' (.stmts (tk T i).2.2.2 acc) i' (o + 1) = R9 ∧ SI B w No wr r g cap T ex i' (o + 1) [] ∧ XI w wr b3 2 [] 0 (tk T i).2.2.2 (.slice av acc.length cv) acc ∧ acc.length ≤ i') (fun _ wr => T.length - nxt wr r)
      case atStart => exact ⟨f, [], none, 0, (i + 1), Nat.le_refl _, HR.out, HS.out, HX.out, by simp⟩
      case round =>
        clear HS HR HX zz zf zl
        obtain ⟨f', acc, av, cv, i', hf, hr, hs, hx, hla⟩ := hrel
        rename World => wr
        have HS := hid hs
        have HX := hid hx
        have x5 := HX.out.2.1.cell 5
        have xl := HX.out.2.1.lt
        have hll := HLL.out
        have zz := HS.out.ri.k.cell; have zf := HS.out.ri.k.free; have zl := HS.out.ri.k.lt
        cases f' with
        | zero => exact absurd hr.symm HNR.out
        | succ f' =>
        have hnx : nxt wr r = i' := hs.ri.nx
        have hil := hs.ri.lt
        rw [hnx]
        clear hs hx
        simp only [pP] at hr
        cases ho1 : isT T i' ⟨#[125]⟩
        · rw [ho1, if_neg (by decide)] at hr
          have HNE := hid (show pP T f' .stmt i' (o + 1) ≠ .out from fun q => HNR.out (by rw [← hr, q]; rfl))
          generalize hq : pP T f' .stmt i' (o + 1) = R1 at hr
          have HQ := hid hq
          clear hq
          cases R1 with
          | out => exact absurd HQ.out HNE.out
          | bad n m =>
            simp only [Res.bind] at hr
            subst hr
            go_upto_region 3 with (first
              | (go_at_call 58; refine (is_any _ (HS.out.ri.bw (by repeat (first | exact Bw.refl _ | apply Bw.alloc | apply Bw.drewN | apply Bw.drew)))).mono ?_; rintro e w1 ⟨rfl, hb1⟩; have HX := hid (HX.out.bw (Bw.trans (by repeat (first | exact Bw.refl _ | apply Bw.alloc | apply Bw.drewN | apply Bw.drew)) hb1)); have x5 := HX.out.2.1.cell 5; have xl := HX.out.2.1.lt; have HS := hid (HS.out.bw (Bw.trans (by repeat (first | exact Bw.refl _ | apply Bw.alloc | apply Bw.drewN | apply Bw.drew)) hb1)); have zz := HS.out.ri.k.cell; have zf := HS.out.ri.k.free; have zl := HS.out.ri.k.lt; clear hb1)
              | fail)
            refine wp_region_W (fun w' => w'.cell? ⟨b3, 5, none⟩ = some (.slice av acc.length cv)) (fun j => if j == 6 then 0 else 1) (by kernel_rfl) ?_
            refine wpAnyW_take (i := 0) (oi := { dst := some 10, op := Op.move (Operand.tmp 3), type := 58, pos := "statement.go:16", after := #[], guard := none }) (v := ?_) rfl (by kernel_rfl) (by kernel_rfl) (by kernel_rfl) (by kernel_rfl) (fun _ _ _ h => h) (Or.inl ⟨by rfl, fun w _ => ?_⟩) ?_
            rotate_left
            · (go_simp; first | done | with_reducible rfl)
            try simp only [Act.put, List.setIfInBounds_toArray, List.set_cons_zero, List.set_cons_succ]
            refine wpAnyW_take (i := 1) (oi := { dst := some 11, op := Op.move (Operand.tmp 3), type := 58, pos := "statement.go:16", after := #[], guard := none }) (v := ?_) rfl (by kernel_rfl) (by kernel_rfl) (by kernel_rfl) (by kernel_rfl) (fun _ _ _ h => h) (Or.inl ⟨by rfl, fun w _ => ?_⟩) ?_
            rotate_left
            · (go_simp; first | done | with_reducible rfl)
            try simp only [Act.put, List.setIfInBounds_toArray, List.set_cons_zero, List.set_cons_succ]
            refine wpAnyW_take (i := 2) (oi := { dst := some 12, op := Op.nilCheck (Operand.tmp 11), type := 0, pos := "statement.go:16", after := #[{ on := 1, ground := Ground.data }], guard := none }) (v := ?_) rfl (by kernel_rfl) (by kernel_rfl) (by kernel_rfl) (by kernel_rfl) (fun _ _ _ h => h) (Or.inl ⟨by rfl, fun w _ => ?_⟩) ?_
            rotate_left
            · (go_simp; first | done | with_reducible rfl)
            try simp only [Act.put, List.setIfInBounds_toArray, List.set_cons_zero, List.set_cons_succ]
            refine wpAnyW_take (i := 3) (oi := { dst := some 13, op := Op.fieldAddr 84 (Operand.tmp 12) 1, type := 0, pos := "statement.go:16", after := #[{ on := 2, ground := Ground.data }], guard := none }) (v := ?_) rfl (by kernel_rfl) (by kernel_rfl) (by kernel_rfl) (by kernel_rfl) (fun _ _ _ h => h) (Or.inl ⟨by rfl, fun w _ => ?_⟩) ?_
            rotate_left
            · (go_simp; first | done | with_reducible rfl)
            try simp only [Act.put, List.setIfInBounds_toArray, List.set_cons_zero, List.set_cons_succ]
            refine wpAnyW_load (i := 4) (oi := { dst := some 14, op := Op.load 82 (Operand.tmp 13), type := 82, pos := "statement.go:16", after := #[{ on := 3, ground := Ground.data }], guard := none }) (v := ?_) rfl (by kernel_rfl) (by kernel_rfl) (by kernel_rfl) (by kernel_rfl) (by kernel_rfl) (fun _ _ _ h => h) (Or.inl ⟨by rfl, fun w hS => ?_⟩) (by first | exact x5 | (simp [go_sem]; done) | (simp [go_sem, *]; done)) ?_
            rotate_left
            · (skip; go_simp; first | done | with_reducible rfl)
            try simp only [Act.put, List.setIfInBounds_toArray, List.set_cons_zero, List.set_cons_succ]
            refine wpAnyW_take (i := 5) (oi := { dst := some 15, op := Op.move (Operand.tmp 0), type := 59, pos := "statement.go:16", after := #[], guard := none }) (v := ?_) rfl (by kernel_rfl) (by kernel_rfl) (by kernel_rfl) (by kernel_rfl) (fun _ _ _ h => h) (Or.inl ⟨by rfl, fun w _ => ?_⟩) ?_
            rotate_left
            · (go_simp; first | done | with_reducible rfl)
            try simp only [Act.put, List.setIfInBounds_toArray, List.set_cons_zero, List.set_cons_succ]
            refine wpAnyW_ready (rs := [6]) (by kernel_rfl) (by simp) ?_
            refine (AllReadyW.cons (o := { dst := some 16, op := Op.call { callee := Callee.value (Operand.func 45), args := #[Operand.tmp 15], argTypes := #[59] }, type := 58, pos := "statement.go:16", after := #[{ on := 5, ground := Ground.data }], guard := none }) rfl (fun K hK => ?_) AllReadyW.nil)
            go_simp
            refine (HC.out f' (by omega) _ _ _ (HS.out.ri.bw (by repeat (first | exact Bw.refl _ | apply Bw.alloc | apply Bw.drewN | apply Bw.drew))) H65.out HNE.out).mono ?_
            intro e w2 h2
            rw [HQ.out] at h2
            obtain ⟨he2, hk2⟩ := h2
            subst he2
            exact ⟨rfl, rfl, (HS.out.kp.bw (by repeat (first | exact Bw.refl _ | apply Bw.alloc | apply Bw.drewN | apply Bw.drew))).trans hk2⟩
          | ok y c1 j1 =>
            simp only [Res.bind] at hr
            have HR := hid hr
            have hj := stmt_lt HQ.out
            clear hr
            go_upto_region 3 with (first
              | (go_at_call 58; refine (is_any _ (HS.out.ri.bw (by repeat (first | exact Bw.refl _ | apply Bw.alloc | apply Bw.drewN | apply Bw.drew)))).mono ?_; rintro e w1 ⟨rfl, hb1⟩; have HX := hid (HX.out.bw (Bw.trans (by repeat (first | exact Bw.refl _ | apply Bw.alloc | apply Bw.drewN | apply Bw.drew)) hb1)); have x5 := HX.out.2.1.cell 5; have xl := HX.out.2.1.lt; have HS := hid (HS.out.bw (Bw.trans (by repeat (first | exact Bw.refl _ | apply Bw.alloc | apply Bw.drewN | apply Bw.drew)) hb1)); have zz := HS.out.ri.k.cell; have zf := HS.out.ri.k.free; have zl := HS.out.ri.k.lt; clear hb1)
              | fail)
            refine wp_region_W (fun w' => w'.cell? ⟨b3, 5, none⟩ = some (.slice av acc.length cv)) (fun j => if j == 6 || j == 7 then 0 else if j == 8 || j == 11 then 2 else 1) (by kernel_rfl) ?_
            refine wpAnyW_take (i := 0) (oi := { dst := some 10, op := Op.move (Operand.tmp 3), type := 58, pos := "statement.go:16", after := #[], guard := none }) (v := ?_) rfl (by kernel_rfl) (by kernel_rfl) (by kernel_rfl) (by kernel_rfl) (fun _ _ _ h => h) (Or.inl ⟨by rfl, fun w _ => ?_⟩) ?_
            rotate_left
            · (go_simp; first | done | with_reducible rfl)
            try simp only [Act.put, List.setIfInBounds_toArray, List.set_cons_zero, List.set_cons_succ]
            refine wpAnyW_take (i := 1) (oi := { dst := some 11, op := Op.move (Operand.tmp 3), type := 58, pos := "statement.go:16", after := #[], guard := none }) (v := ?_) rfl (by kernel_rfl) (by kernel_rfl) (by kernel_rfl) (by kernel_rfl) (fun _ _ _ h => h) (Or.inl ⟨by rfl, fun w _ => ?_⟩) ?_
            rotate_left
            · (go_simp; first | done | with_reducible rfl)
            try simp only [Act.put, List.setIfInBounds_toArray, List.set_cons_zero, List.set_cons_succ]
            refine wpAnyW_take (i := 2) (oi := { dst := some 12, op := Op.nilCheck (Operand.tmp 11), type := 0, pos := "statement.go:16", after := #[{ on := 1, ground := Ground.data }], guard := none }) (v := ?_) rfl (by kernel_rfl) (by kernel_rfl) (by kernel_rfl) (by kernel_rfl) (fun _ _ _ h => h) (Or.inl ⟨by rfl, fun w _ => ?_⟩) ?_
            rotate_left
            · (go_simp; first | done | with_reducible rfl)
            try simp only [Act.put, List.setIfInBounds_toArray, List.set_cons_zero, List.set_cons_succ]
            refine wpAnyW_take (i := 3) (oi := { dst := some 13, op := Op.fieldAddr 84 (Operand.tmp 12) 1, type := 0, pos := "statement.go:16", after := #[{ on := 2, ground := Ground.data }], guard := none }) (v := ?_) rfl (by kernel_rfl) (by kernel_rfl) (by kernel_rfl) (by kernel_rfl) (fun _ _ _ h => h) (Or.inl ⟨by rfl, fun w _ => ?_⟩) ?_
            rotate_left
            · (go_simp; first | done | with_reducible rfl)
            try simp only [Act.put, List.setIfInBounds_toArray, List.set_cons_zero, List.set_cons_succ]
            refine wpAnyW_load (i := 4) (oi := { dst := some 14, op := Op.load 82 (Operand.tmp 13), type := 82, pos := "statement.go:16", after := #[{ on := 3, ground := Ground.data }], guard := none }) (v := ?_) rfl (by kernel_rfl) (by kernel_rfl) (by kernel_rfl) (by kernel_rfl) (by kernel_rfl) (fun _ _ _ h => h) (Or.inl ⟨by rfl, fun w hS => ?_⟩) (by first | exact x5 | (simp [go_sem]; done) | (simp [go_sem, *]; done)) ?_
            rotate_left
            · (skip; go_simp; first | done | with_reducible rfl)
            try simp only [Act.put, List.setIfInBounds_toArray, List.set_cons_zero, List.set_cons_succ]
            refine wpAnyW_take (i := 5) (oi := { dst := some 15, op := Op.move (Operand.tmp 0), type := 59, pos := "statement.go:16", after := #[], guard := none }) (v := ?_) rfl (by kernel_rfl) (by kernel_rfl) (by kernel_rfl) (by kernel_rfl) (fun _ _ _ h => h) (Or.inl ⟨by rfl, fun w _ => ?_⟩) ?_
            rotate_left
            · (go_simp; first | done | with_reducible rfl)
            try simp only [Act.put, List.setIfInBounds_toArray, List.set_cons_zero, List.set_cons_succ]
            refine wpAnyW_ready (rs := [6]) (by kernel_rfl) (by simp) ?_
            refine (AllReadyW.cons (o := { dst := some 16, op := Op.call { callee := Callee.value (Operand.func 45), args := #[Operand.tmp 15], argTypes := #[59] }, type := 58, pos := "statement.go:16", after := #[{ on := 5, ground := Ground.data }], guard := none }) rfl (fun K hK => ?_) AllReadyW.nil)
            go_simp
            refine (HC.out f' (by omega) _ _ _ (HS.out.ri.bw (by repeat (first | exact Bw.refl _ | apply Bw.alloc | apply Bw.drewN | apply Bw.drew))) H65.out HNE.out).mono ?_
            intro e w2 h2
            rw [HQ.out] at h2
            obtain ⟨b2, he2, hp2, hr2, hk2⟩ := h2
            subst he2
            obtain ⟨bs, ho2, hbk, hpush⟩ := (HX.out.bw (by repeat (first | exact Bw.refl _ | apply Bw.alloc | apply Bw.drewN | apply Bw.drew))).app (HS.out.kp.bw (by repeat (first | exact Bw.refl _ | apply Bw.alloc | apply Bw.drewN | apply Bw.drew))).size hk2 HR0.out hp2
            have HO2 := hid ho2
            have HPU := hid hpush
            have HBK := hid hbk
            have HX2 := hid ((HX.out.bw (by repeat (first | exact Bw.refl _ | apply Bw.alloc | apply Bw.drewN | apply Bw.drew))).kp hk2 HR0.out)
            have HS := hid ((HS.out.bw (by repeat (first | exact Bw.refl _ | apply Bw.alloc | apply Bw.drewN | apply Bw.drew))).go hr2 hk2)
            clear hp2 hr2 hk2 ho2 hpush hbk
            refine hK.out _ _ (HX2.out.2.1.cell 5) ?_
            clear hK K
            try simp only [Act.put, List.setIfInBounds_toArray, List.set_cons_zero, List.set_cons_succ]
            refine wpAnyW_ready (rs := [7]) (by kernel_rfl) (by simp) ?_
            refine (AllReadyW.cons (o := { dst := some 17, op := Op.buildSlice 82 1 #[(0, Operand.tmp 16)], type := 82, pos := "statement.go:16", after := #[{ on := 6, ground := Ground.data }], guard := none }) rfl (fun K hK => ?_) AllReadyW.nil)
            go_simp
            refine hK.out _ _ ((HX2.out.bw (Bw.alloc (Bw.refl _) _)).2.1.cell 5) ?_
            clear hK K
            try simp only [Act.put, List.setIfInBounds_toArray, List.set_cons_zero, List.set_cons_succ]
            refine wpAnyW_ready (rs := [8]) (by kernel_rfl) (by simp) ?_
            refine (AllReadyW.cons (o := { dst := some 18, op := Op.call { callee := Callee.builtin Builtin.append, args := #[Operand.tmp 14, Operand.tmp 17], argTypes := #[82, 82] }, type := 82, pos := "statement.go:16", after := #[{ on := 4, ground := Ground.data }, { on := 7, ground := Ground.data }, { on := 6, ground := Ground.chain }], guard := none }) rfl (fun K hK => ?_) AllReadyW.nil)
            refine step_append_row (by rfl) (.tmp 14) (.tmp 17) 82 (by rfl) 58 i1 _ 1 8 underPps I1.out.1 I1.out.2.1 I1.out.2.2.1 I1.out.2.2.2 (by rfl) (by decide) (.slice av acc.length cv) acc.length _ (by rfl) HO2.out ⟨w2.heap.size, 0, none⟩ 1 1 [.pointer (some ⟨b2, 0, none⟩)] (by rfl) (by rfl) (one_new w2 _ _) (by intro u hu; rw [List.mem_singleton] at hu; subst hu; rfl) (by unfold maxLen; omega) (by omega) ?_
            intro v4 w4 ho4 hg4 hv4
            obtain ⟨a4, c4, e4⟩ := own_form ho4
            subst e4
            obtain ⟨e1, hx4⟩ := HPU.out _ _ ho4 hg4 hv4
            have HX := hid hx4
            have y5 := e1.cell
            have yf := e1.free
            have yl := e1.lt
            have HS := hid ((HS.out.bw (Bw.alloc (Bw.refl w2) _)).grown HBB.out hg4 (fun k e => (HBK.out k e).1))
            have z3 := HS.out.ri.k.cell 3
            have HS := hid (HS.out.setNew (j := 5) HBB.out HX2.out.1 (.slice a4 (acc.length + 1) c4))
            clear ho4 hg4 hv4 e1 hx4
            refine hK.out _ _ trivial ?_
            clear hK K
            try simp only [Act.put, List.setIfInBounds_toArray, List.set_cons_zero, List.set_cons_succ]
            refine wpAnyW_take (i := 9) (oi := { dst := some 19, op := Op.nilCheck (Operand.tmp 10), type := 0, pos := "statement.go:16", after := #[{ on := 0, ground := Ground.data }, { on := 0, ground := Ground.phase }, { on := 1, ground := Ground.phase }, { on := 2, ground := Ground.phase }, { on := 3, ground := Ground.phase }, { on := 4, ground := Ground.phase }, { on := 5, ground := Ground.phase }, { on := 6, ground := Ground.phase }, { on := 7, ground := Ground.phase }, { on := 8, ground := Ground.phase }], guard := none }) (v := ?_) rfl (by kernel_rfl) (by kernel_rfl) (by kernel_rfl) (by kernel_rfl) (fun _ _ _ h => h) (Or.inl ⟨by rfl, fun w _ => ?_⟩) ?_
            rotate_left
            · (go_simp; first | done | with_reducible rfl)
            try simp only [Act.put, List.setIfInBounds_toArray, List.set_cons_zero, List.set_cons_succ]
            refine wpAnyW_take (i := 10) (oi := { dst := some 20, op := Op.fieldAddr 84 (Operand.tmp 19) 1, type := 0, pos := "statement.go:16", after := #[{ on := 9, ground := Ground.data }, { on := 0, ground := Ground.phase }, { on := 1, ground := Ground.phase }, { on := 2, ground := Ground.phase }, { on := 3, ground := Ground.phase }, { on := 4, ground := Ground.phase }, { on := 5, ground := Ground.phase }, { on := 6, ground := Ground.phase }, { on := 7, ground := Ground.phase }, { on := 8, ground := Ground.phase }], guard := none }) (v := ?_) rfl (by kernel_rfl) (by kernel_rfl) (by kernel_rfl) (by kernel_rfl) (fun _ _ _ h => h) (Or.inl ⟨by rfl, fun w _ => ?_⟩) ?_
            rotate_left
            · (go_simp; first | done | with_reducible rfl)
            try simp only [Act.put, List.setIfInBounds_toArray, List.set_cons_zero, List.set_cons_succ]
            refine wpAnyW_ready (rs := [11]) (by kernel_rfl) (by simp) ?_
            refine (AllReadyW.cons (o := { dst := none, op := Op.store 82 (Operand.tmp 20) (Operand.tmp 18), type := 0, pos := "statement.go:16", after := #[{ on := 10, ground := Ground.data }, { on := 8, ground := Ground.data }, { on := 8, ground := Ground.chain }, { on := 0, ground := Ground.phase }, { on := 1, ground := Ground.phase }, { on := 2, ground := Ground.phase }, { on := 3, ground := Ground.phase }, { on := 4, ground := Ground.phase }, { on := 5, ground := Ground.phase }, { on := 6, ground := Ground.phase }, { on := 7, ground := Ground.phase }, { on := 8, ground := Ground.phase }], guard := none }) rfl (fun K hK => ?_) AllReadyW.nil)
            go_simp
            refine hK.out _ _ trivial ?_
            clear hK K
            try simp only [Act.put, List.setIfInBounds_toArray, List.set_cons_zero, List.set_cons_succ]
            refine wpAnyW_done (by kernel_rfl) ?_ _
            go_wp2
            go_roundw
            case rel => exact ⟨f', acc ++ [y], a4, c4, j1, by omega, HR.out, HS.out, by simpa using HX.out, by simp; omega⟩
            case measure =>
              have h1 := HS.out.ri.nx
              have h2 := HS.out.ri.lt
              rw [h1]
              omega
        · rw [ho1, if_pos rfl] at hr
          subst hr
          have HL := hid ho1
          go_wp2_with (first
            | (go_at_call 58; refine (is_any _ (HS.out.ri.bw (by repeat (first | exact Bw.refl _ | apply Bw.alloc | apply Bw.drewN | apply Bw.drew)))).mono ?_; rintro e w1 ⟨rfl, hb1⟩; have HX := hid (HX.out.bw (Bw.trans (by repeat (first | exact Bw.refl _ | apply Bw.alloc | apply Bw.drewN | apply Bw.drew)) hb1)); have x5 := HX.out.2.1.cell 5; have xl := HX.out.2.1.lt; have HS := hid (HS.out.bw (Bw.trans (by repeat (first | exact Bw.refl _ | apply Bw.alloc | apply Bw.drewN | apply Bw.drew)) hb1)); have zz := HS.out.ri.k.cell; have zf := HS.out.ri.k.free; have zl := HS.out.ri.k.lt; clear hb1)
            | (go_at_call 78; refine (leave_yes _ (HS.out.ri.bw (by repeat (first | exact Bw.refl _ | apply Bw.alloc | apply Bw.drewN | apply Bw.drew))) HL.out).mono ?_; rintro e w1 ⟨rfl, hr1, hk1⟩; have HX := hid ((HX.out.bw (by repeat (first | exact Bw.refl _ | apply Bw.alloc | apply Bw.drewN | apply Bw.drew))).kp hk1 HR0.out); have HS := hid ((HS.out.bw (by repeat (first | exact Bw.refl _ | apply Bw.alloc | apply Bw.drewN | apply Bw.drew))).go hr1 hk1); have zz := HS.out.ri.k.cell; have zf := HS.out.ri.k.free; have zl := HS.out.ri.k.lt; clear hr1 hk1)
            | fail)
          all_goals go_ret
          all_goals exact ⟨_, rfl, HX.out.part, HS.out.ri, HS.out.kp⟩

end

end Go.Proofs.YthkiddohjilfhaaDoor

