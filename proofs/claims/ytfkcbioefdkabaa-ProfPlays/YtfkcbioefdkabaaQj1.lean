/- What can be asked: the ways, one by one. -/
import Derived.Test.YtfkcbioefdkabaaQi
set_option linter.unusedSimpArgs false
set_option linter.unusedVariables false
namespace Go.Proofs.Ytfkcbioefdkabaa
open Go Go.RowKit

set_option maxRecDepth 100000 in
set_option maxHeartbeats 4000000 in
theorem asks_in_F_neg {w : World} {q : PP} {F G : Nat} {Gd : Nat → Prop} {aL : Option Addr} {cL : Nat} {L : List AA} (d t a b v : Int) (i : Nat) (hf : i < F) (hg : G ≤ i) (ht : t < 0) (h : PS w q.p q.hb q.wb q.mb F G L) (hr : RLs w Gd (.slice aL L.length cL) L) (hpo : PairOk L) (hF : F ≤ 1024) (hG : G ≤ 1024) :
    Calls Try.prog 14 #[.pointer (some ⟨q.p, 0, none⟩), rpV F G (.slice aL L.length cL), .agg #[.int .i64 d, .int .i64 (i : Nat), .int .i64 t, .int .i64 a, .int .i64 b, .int .u64 v]] w fun e w' => e = .returned (.bool true) ∧ Bw w w' := by
  have HB := hid (Bw.refl ((w.alloc (.cells #[.int .i64 F, .int .i64 G, .slice aL L.length cL] 29)).alloc (.cells #[.int .i64 d, .int .i64 (i : Nat), .int .i64 t, .int .i64 a, .int .i64 b, .int .u64 v] 36)))
  have hw2 : Bw w ((w.alloc (.cells #[.int .i64 F, .int .i64 G, .slice aL L.length cL] 29)).alloc (.cells #[.int .i64 d, .int .i64 (i : Nat), .int .i64 t, .int .i64 a, .int .i64 b, .int .u64 v] 36)) := Bw.alloc (Bw.alloc (Bw.refl _) _) _
  have HW2 := hid hw2
  have HPS := hid (fun w' (k : Bw ((w.alloc (.cells #[.int .i64 F, .int .i64 G, .slice aL L.length cL] 29)).alloc (.cells #[.int .i64 d, .int .i64 (i : Nat), .int .i64 t, .int .i64 a, .int .i64 b, .int .u64 v] 36)) w') => (h.bw hw2).bw k)
  have HRL := hid (fun w' (k : Bw ((w.alloc (.cells #[.int .i64 F, .int .i64 G, .slice aL L.length cL] 29)).alloc (.cells #[.int .i64 d, .int .i64 (i : Nat), .int .i64 t, .int .i64 a, .int .i64 b, .int .u64 v] 36)) w') => ((hr.bw hw2).bw k).acts)
  have HCE := hid (show ∀ w', Bw ((w.alloc (.cells #[.int .i64 F, .int .i64 G, .slice aL L.length cL] 29)).alloc (.cells #[.int .i64 d, .int .i64 (i : Nat), .int .i64 t, .int .i64 a, .int .i64 b, .int .u64 v] 36)) w' → (w'.cell? ⟨w.heap.size, 0, none⟩ = some (.int .i64 F) ∧ w'.cell? ⟨w.heap.size, 1, none⟩ = some (.int .i64 G) ∧ w'.cell? ⟨w.heap.size, 2, none⟩ = some (.slice aL L.length cL) ∧ w'.cell? ⟨w.heap.size + 1, 0, none⟩ = some (.int .i64 d) ∧ w'.cell? ⟨w.heap.size + 1, 1, none⟩ = some (.int .i64 (i : Nat)) ∧ w'.cell? ⟨w.heap.size + 1, 2, none⟩ = some (.int .i64 t) ∧ w'.cell? ⟨w.heap.size + 1, 3, none⟩ = some (.int .i64 a) ∧ w.heap.size + 1 < w'.heap.size ∧ w.heap.size < w'.heap.size) from fun w' k => by
    have b0 : Blk ((w.alloc (.cells #[.int .i64 F, .int .i64 G, .slice aL L.length cL] 29)).alloc (.cells #[.int .i64 d, .int .i64 (i : Nat), .int .i64 t, .int .i64 a, .int .i64 b, .int .u64 v] 36)) w.heap.size #[.int .i64 F, .int .i64 G, .slice aL L.length cL] 29 := (Blk.new w _ _).alloc _
    have b1 : Blk ((w.alloc (.cells #[.int .i64 F, .int .i64 G, .slice aL L.length cL] 29)).alloc (.cells #[.int .i64 d, .int .i64 (i : Nat), .int .i64 t, .int .i64 a, .int .i64 b, .int .u64 v] 36)) (w.heap.size + 1) #[.int .i64 d, .int .i64 (i : Nat), .int .i64 t, .int .i64 a, .int .i64 b, .int .u64 v] 36 := Blk.newAt _ _ _ _ (by simp only [World.size_alloc])
    exact ⟨(b0.bw k).cell 0, (b0.bw k).cell 1, (b0.bw k).cell 2, (b1.bw k).cell 0, (b1.bw k).cell 1, (b1.bw k).cell 2, (b1.bw k).cell 3, (b1.bw k).lt, (b0.bw k).lt⟩)
  have hL := hr.2.1
  have HPO := hid hpo
  clear h hr hw2 hpo
  have q1 : decide (0 ≤ (i : Int)) = true := decide_eq_true (by omega)
  have q2 : (i : Int) < (F : Int) := by omega
  have HH := hid (fun w' k => Heat_yes (HPS.out w' k) hf)
  have HRH := hid (fun w' k => rHeat_any (F := F) (G := G) (HRL.out w' k) hL (i : Int))
  generalize heatOf L (i : Int) = hn at HH HRH
  have s1 : ¬ 0 ≤ t := by omega
  have HK := hid (fun w' k => Kinds_no (HPS.out w' k) (i : Int) t (by omega))
  have g2 : ¬ (i : Int) < (G : Int) := by omega
  have HWr := hid (fun w' k => Writes_no (i := (i : Int)) (HPS.out w' k) (by omega))
  have HRW := hid (fun w' k => rWrites_any (F := F) (G := G) (HRL.out w' k) hL (i : Int))
  generalize (writeOf L (i : Int)).1 = wn1 at HRW
  generalize (writeOf L (i : Int)).2 = wv1 at HRW
  go_enter Try.func14, Try.ntmps14
  go_wp2_with (first
    | (go_at_call 15; refine (HH.out _ HB.out).mono ?_; rintro e wn ⟨rfl, hbn⟩; have HB := hid (HB.out.trans hbn); obtain ⟨p0, p1, p2, y0, y1, y2, y3, y4, y5⟩ := HCE.out _ HB.out; clear hbn)
    | (go_at_call 16; refine (HK.out _ HB.out).mono ?_; rintro e wn ⟨rfl, hbn⟩; have HB := hid (HB.out.trans hbn); obtain ⟨p0, p1, p2, y0, y1, y2, y3, y4, y5⟩ := HCE.out _ HB.out; clear hbn)
    | (go_at_call 17; refine (HWr.out _ HB.out).mono ?_; rintro e wn ⟨rfl, hbn⟩; have HB := hid (HB.out.trans hbn); obtain ⟨p0, p1, p2, y0, y1, y2, y3, y4, y5⟩ := HCE.out _ HB.out; clear hbn)
    | (go_at_call 29; refine (HRH.out _ HB.out).mono ?_; rintro e wn ⟨rfl, hbn⟩; have HB := hid (HB.out.trans hbn); obtain ⟨p0, p1, p2, y0, y1, y2, y3, y4, y5⟩ := HCE.out _ HB.out; clear hbn)
    | (go_at_call 31; refine (HRW.out _ HB.out).mono ?_; rintro e wn ⟨rfl, hbn⟩; have HB := hid (HB.out.trans hbn); obtain ⟨p0, p1, p2, y0, y1, y2, y3, y4, y5⟩ := HCE.out _ HB.out; clear hbn)
    | (go_at_call 11; refine (num_any _ _).mono ?_; rintro e wm ⟨rfl, hwm⟩; subst wm)
    | fail)
  have hm5 : (hotL (hsOf L) a F).length ≤ 1000000 := by have := hotL_len (hsOf L) a F; have := hots_len (hsOf L) a F; omega
  have hs5 : (stableL G L).length ≤ 1000000 := by have := stab_len (wsOf L) G; unfold stableL; omega
  have HM5 := hid hm5
  have HS5 := hid hs5
  clear hm5 hs5
  refine wp_region_W (fun w' => w'.cell? ⟨w.heap.size, 0, none⟩ = some (.int .i64 F) ∧ w'.cell? ⟨w.heap.size, 1, none⟩ = some (.int .i64 G) ∧ w'.cell? ⟨w.heap.size, 2, none⟩ = some (.slice aL L.length cL) ∧ w'.cell? ⟨w.heap.size + 1, 3, none⟩ = some (.int .i64 a)) (fun j => if j == 3 || j == 7 || j == 8 || j == 11 || j == 13 || j == 14 then 0 else 1) (by kernel_rfl) ?_
  have HSX := hid (show ∀ W', Bw ((w.alloc (.cells #[.int .i64 F, .int .i64 G, .slice aL L.length cL] 29)).alloc (.cells #[.int .i64 d, .int .i64 (i : Nat), .int .i64 t, .int .i64 a, .int .i64 b, .int .u64 v] 36)) W' → (fun w' => w'.cell? ⟨w.heap.size, 0, none⟩ = some (.int .i64 F) ∧ w'.cell? ⟨w.heap.size, 1, none⟩ = some (.int .i64 G) ∧ w'.cell? ⟨w.heap.size, 2, none⟩ = some (.slice aL L.length cL) ∧ w'.cell? ⟨w.heap.size + 1, 3, none⟩ = some (.int .i64 a)) W' from fun W' k => by obtain ⟨p0, p1, p2, y0, y1, y2, y3, y4, y5⟩ := HCE.out _ k; exact ⟨p0, p1, p2, y3⟩)
  have HB := hid (HB.out.drew)
  refine wpAnyW_take (i := 0) (oi := { dst := some 161, op := Op.move (Operand.tmp 0), type := 24, pos := "law.go:59", after := #[], guard := none }) (v := ?_) rfl (by kernel_rfl) (by kernel_rfl) (by kernel_rfl) (by kernel_rfl) (fun _ _ _ h => h) (Or.inl ⟨by rfl, fun w _ => ?_⟩) ?_
  rotate_left
  · (go_simp; first | done | with_reducible rfl)
  try simp only [Act.put, List.setIfInBounds_toArray, List.set_cons_zero, List.set_cons_succ]
  refine wpAnyW_take (i := 1) (oi := { dst := some 162, op := Op.fieldAddr 36 (Operand.tmp 5) 3, type := 0, pos := "law.go:59", after := #[], guard := none }) (v := ?_) rfl (by kernel_rfl) (by kernel_rfl) (by kernel_rfl) (by kernel_rfl) (fun _ _ _ h => h) (Or.inl ⟨by rfl, fun w _ => ?_⟩) ?_
  rotate_left
  · (go_simp; first | done | with_reducible rfl)
  try simp only [Act.put, List.setIfInBounds_toArray, List.set_cons_zero, List.set_cons_succ]
  refine wpAnyW_load (i := 2) (oi := { dst := some 163, op := Op.load 3 (Operand.tmp 162), type := 3, pos := "law.go:59", after := #[{ on := 1, ground := Ground.data }], guard := none }) (v := ?_) rfl (by kernel_rfl) (by kernel_rfl) (by kernel_rfl) (by kernel_rfl) (by kernel_rfl) (fun _ _ _ h => h) (Or.inl ⟨by rfl, fun w hS => ?_⟩) (HSX.out _ HB.out) ?_
  rotate_left
  · (obtain ⟨s1, s2, s3, s4⟩ := hS; go_simp; first | done | with_reducible rfl)
  try simp only [Act.put, List.setIfInBounds_toArray, List.set_cons_zero, List.set_cons_succ]
  refine wpAnyW_load (i := 4) (oi := { dst := some 165, op := Op.load 29 (Operand.tmp 4), type := 29, pos := "law.go:59", after := #[], guard := none }) (v := ?_) rfl (by kernel_rfl) (by kernel_rfl) (by kernel_rfl) (by kernel_rfl) (by kernel_rfl) (fun _ _ _ h => h) (Or.inl ⟨by rfl, fun w hS => ?_⟩) (HSX.out _ HB.out) ?_
  rotate_left
  · (obtain ⟨s1, s2, s3, s4⟩ := hS; go_simp; first | done | with_reducible rfl)
  try simp only [Act.put, List.setIfInBounds_toArray, List.set_cons_zero, List.set_cons_succ]
  refine wpAnyW_take (i := 5) (oi := { dst := some 166, op := Op.fieldAddr 36 (Operand.tmp 5) 3, type := 0, pos := "law.go:59", after := #[], guard := none }) (v := ?_) rfl (by kernel_rfl) (by kernel_rfl) (by kernel_rfl) (by kernel_rfl) (fun _ _ _ h => h) (Or.inl ⟨by rfl, fun w _ => ?_⟩) ?_
  rotate_left
  · (go_simp; first | done | with_reducible rfl)
  try simp only [Act.put, List.setIfInBounds_toArray, List.set_cons_zero, List.set_cons_succ]
  refine wpAnyW_load (i := 6) (oi := { dst := some 167, op := Op.load 3 (Operand.tmp 166), type := 3, pos := "law.go:59", after := #[{ on := 5, ground := Ground.data }], guard := none }) (v := ?_) rfl (by kernel_rfl) (by kernel_rfl) (by kernel_rfl) (by kernel_rfl) (by kernel_rfl) (fun _ _ _ h => h) (Or.inl ⟨by rfl, fun w hS => ?_⟩) (HSX.out _ HB.out) ?_
  rotate_left
  · (obtain ⟨s1, s2, s3, s4⟩ := hS; go_simp; first | done | with_reducible rfl)
  try simp only [Act.put, List.setIfInBounds_toArray, List.set_cons_zero, List.set_cons_succ]
  refine wpAnyW_ready (rs := [3]) (by kernel_rfl) (by simp) ?_
  refine (AllReadyW.cons (o := { dst := some 164, op := Op.call { callee := Callee.value (Operand.func 18), args := #[Operand.tmp 161, Operand.tmp 163], argTypes := #[24, 3] }, type := 46, pos := "law.go:59", after := #[{ on := 0, ground := Ground.data }, { on := 2, ground := Ground.data }], guard := none }) rfl (fun K hK => ?_) AllReadyW.nil)
  go_simp
  refine ((Hot_any (HPS.out _ HB.out) hF a)).mono ?_
  rintro e x1 ⟨r1, he, ho, hbn⟩
  subst he
  obtain ⟨a1, c1, e1⟩ := own_form ho
  subst e1
  have OW1 := hid (own_sl (G := fun _ => True) ho (fun _ _ => trivial))
  have HB := hid (HB.out.trans hbn)
  clear ho hbn
  refine hK.out _ _ (HSX.out _ HB.out) ?_
  clear hK K
  try simp only [Act.put, List.setIfInBounds_toArray, List.set_cons_zero, List.set_cons_succ]
  refine wpAnyW_ready (rs := [7]) (by kernel_rfl) (by simp) ?_
  refine (AllReadyW.cons (o := { dst := some 168, op := Op.call { callee := Callee.value (Operand.func 21), args := #[Operand.tmp 165, Operand.tmp 167], argTypes := #[29, 3] }, type := 46, pos := "law.go:59", after := #[{ on := 4, ground := Ground.data }, { on := 6, ground := Ground.data }, { on := 3, ground := Ground.chain }], guard := none }) rfl (fun K hK => ?_) AllReadyW.nil)
  go_simp
  refine ((rHot_any (F := F) (G := G) (HRL.out _ HB.out) hL hF a)).mono ?_
  rintro e x3 ⟨r3, he, ho, hbn⟩
  subst he
  obtain ⟨a3, c3, e3⟩ := own_form ho
  subst e3
  have OW3 := hid (own_sl (G := fun _ => True) ho (fun _ _ => trivial))
  have OW1b := hid (OW1.out.below hbn)
  have HB := hid (HB.out.trans hbn)
  clear ho hbn OW1
  refine hK.out _ _ (HSX.out _ HB.out) ?_
  clear hK K
  try simp only [Act.put, List.setIfInBounds_toArray, List.set_cons_zero, List.set_cons_succ]
  refine wpAnyW_ready (rs := [8]) (by kernel_rfl) (by simp) ?_
  refine (AllReadyW.cons (o := { dst := some 169, op := Op.call { callee := Callee.value (Operand.func 20), args := #[Operand.tmp 164, Operand.tmp 168], argTypes := #[46, 46] }, type := 4, pos := "law.go:59", after := #[{ on := 3, ground := Ground.data }, { on := 7, ground := Ground.data }, { on := 7, ground := Ground.chain }], guard := none }) rfl (fun K hK => ?_) AllReadyW.nil)
  go_simp
  refine (sameInts_any _ _ _ OW1b.out OW3.out HM5.out).mono ?_
  rintro e x4 ⟨he, hd⟩
  subst he
  have hbn := hd.bw
  have HB := hid (HB.out.trans hbn)
  clear hd hbn OW1b OW3
  refine hK.out _ _ (HSX.out _ HB.out) ?_
  clear hK K
  try simp only [Act.put, List.setIfInBounds_toArray, List.set_cons_zero, List.set_cons_succ]
  refine wpAnyW_take (i := 9) (oi := { dst := some 170, op := Op.move (Operand.tmp 169), type := 4, pos := "law.go:59", after := #[{ on := 8, ground := Ground.data }, { on := 8, ground := Ground.chain }], guard := none }) (v := ?_) rfl (by kernel_rfl) (by kernel_rfl) (by kernel_rfl) (by kernel_rfl) (fun _ _ _ h => h) (Or.inl ⟨by rfl, fun w _ => ?_⟩) ?_
  rotate_left
  · (go_simp; first | done | with_reducible rfl)
  try simp only [Act.put, List.setIfInBounds_toArray, List.set_cons_zero, List.set_cons_succ]
  refine wpAnyW_take (i := 10) (oi := { dst := some 171, op := Op.move (Operand.tmp 0), type := 24, pos := "law.go:59", after := #[{ on := 9, ground := Ground.guard }], guard := some (9, true) }) (v := ?_) rfl (by kernel_rfl) (by kernel_rfl) (by kernel_rfl) (by kernel_rfl) (fun _ _ _ h => h) (Or.inl ⟨by rfl, fun w _ => ?_⟩) ?_
  rotate_left
  · (go_simp; first | done | with_reducible rfl)
  try simp only [Act.put, List.setIfInBounds_toArray, List.set_cons_zero, List.set_cons_succ]
  refine wpAnyW_load (i := 12) (oi := { dst := some 173, op := Op.load 29 (Operand.tmp 4), type := 29, pos := "law.go:59", after := #[{ on := 9, ground := Ground.guard }], guard := some (9, true) }) (v := ?_) rfl (by kernel_rfl) (by kernel_rfl) (by kernel_rfl) (by kernel_rfl) (by kernel_rfl) (fun _ _ _ h => h) (Or.inl ⟨by rfl, fun w hS => ?_⟩) (HSX.out _ HB.out) ?_
  rotate_left
  · (obtain ⟨s1, s2, s3, s4⟩ := hS; go_simp; first | done | with_reducible rfl)
  try simp only [Act.put, List.setIfInBounds_toArray, List.set_cons_zero, List.set_cons_succ]
  refine wpAnyW_ready (rs := [11]) (by kernel_rfl) (by simp) ?_
  refine (AllReadyW.cons (o := { dst := some 172, op := Op.call { callee := Callee.value (Operand.func 19), args := #[Operand.tmp 171], argTypes := #[24] }, type := 48, pos := "law.go:59", after := #[{ on := 10, ground := Ground.data }, { on := 9, ground := Ground.chain }, { on := 9, ground := Ground.guard }], guard := some (9, true) }) rfl (fun K hK => ?_) AllReadyW.nil)
  go_simp
  refine ((Stable_any (HPS.out _ HB.out) hG)).mono ?_
  rintro e x7 ⟨r7, he, ho, hbn⟩
  subst he
  obtain ⟨a7, c7, e7⟩ := own_form ho
  subst e7
  have OW7 := hid (own_sl (G := fun _ => True) ho (fun _ _ => trivial))
  have HB := hid (HB.out.trans hbn)
  clear ho hbn
  refine hK.out _ _ (HSX.out _ HB.out) ?_
  clear hK K
  try simp only [Act.put, List.setIfInBounds_toArray, List.set_cons_zero, List.set_cons_succ]
  refine wpAnyW_ready (rs := [13]) (by kernel_rfl) (by simp) ?_
  refine (AllReadyW.cons (o := { dst := some 174, op := Op.call { callee := Callee.value (Operand.func 23), args := #[Operand.tmp 173], argTypes := #[29] }, type := 48, pos := "law.go:59", after := #[{ on := 12, ground := Ground.data }, { on := 11, ground := Ground.chain }, { on := 9, ground := Ground.guard }], guard := some (9, true) }) rfl (fun K hK => ?_) AllReadyW.nil)
  go_simp
  refine ((rStable_any (F := F) (G := G) (HRL.out _ HB.out) hL hG)).mono ?_
  rintro e x9 ⟨r9, he, ho, hbn⟩
  subst he
  obtain ⟨a9, c9, e9⟩ := own_form ho
  subst e9
  have OW9 := hid (own_sl (G := fun _ => True) ho (fun _ _ => trivial))
  have OW7b := hid (OW7.out.below hbn)
  have HB := hid (HB.out.trans hbn)
  clear ho hbn OW7
  refine hK.out _ _ (HSX.out _ HB.out) ?_
  clear hK K
  try simp only [Act.put, List.setIfInBounds_toArray, List.set_cons_zero, List.set_cons_succ]
  refine wpAnyW_ready (rs := [14]) (by kernel_rfl) (by simp) ?_
  refine (AllReadyW.cons (o := { dst := some 175, op := Op.call { callee := Callee.value (Operand.func 22), args := #[Operand.tmp 172, Operand.tmp 174], argTypes := #[48, 48] }, type := 4, pos := "law.go:59", after := #[{ on := 11, ground := Ground.data }, { on := 13, ground := Ground.data }, { on := 13, ground := Ground.chain }, { on := 9, ground := Ground.guard }], guard := some (9, true) }) rfl (fun K hK => ?_) AllReadyW.nil)
  go_simp
  refine (sameDeps_any _ _ _ OW7b.out OW9.out HS5.out).mono ?_
  rintro e x10 ⟨he, hd⟩
  subst he
  have hbn := hd.bw
  have HB := hid (HB.out.trans hbn)
  clear hd hbn OW7b OW9
  refine hK.out _ _ (HSX.out _ HB.out) ?_
  clear hK K
  try simp only [Act.put, List.setIfInBounds_toArray, List.set_cons_zero, List.set_cons_succ]
  refine wpAnyW_take (i := 15) (oi := { dst := some 176, op := Op.pick (Operand.tmp 170) (Operand.tmp 175) (Operand.const (Value.bool false)), type := 4, pos := "law.go:59", after := #[{ on := 9, ground := Ground.data }, { on := 14, ground := Ground.data }], guard := none }) (v := ?_) rfl (by kernel_rfl) (by kernel_rfl) (by kernel_rfl) (by kernel_rfl) (fun _ _ _ h => h) (Or.inl ⟨by rfl, fun w _ => ?_⟩) ?_
  rotate_left
  · (go_simp; first | done | with_reducible rfl)
  try simp only [Act.put, List.setIfInBounds_toArray, List.set_cons_zero, List.set_cons_succ]
  refine wpAnyW_take (i := 16) (oi := { dst := some 6, op := Op.assign (Operand.tmp 176), type := 4, pos := "law.go:59", after := #[{ on := 15, ground := Ground.data }, { on := 14, ground := Ground.chain }, { on := 0, ground := Ground.phase }, { on := 1, ground := Ground.phase }, { on := 2, ground := Ground.phase }, { on := 3, ground := Ground.phase }, { on := 4, ground := Ground.phase }, { on := 5, ground := Ground.phase }, { on := 6, ground := Ground.phase }, { on := 7, ground := Ground.phase }, { on := 8, ground := Ground.phase }, { on := 9, ground := Ground.phase }, { on := 10, ground := Ground.phase }, { on := 11, ground := Ground.phase }, { on := 12, ground := Ground.phase }, { on := 13, ground := Ground.phase }, { on := 14, ground := Ground.phase }, { on := 15, ground := Ground.phase }], guard := none }) (v := ?_) rfl (by kernel_rfl) (by kernel_rfl) (by kernel_rfl) (by kernel_rfl) (fun _ _ _ h => h) (Or.inl ⟨by rfl, fun w _ => ?_⟩) ?_
  rotate_left
  · (go_simp; first | done | with_reducible rfl)
  try simp only [Act.put, List.setIfInBounds_toArray, List.set_cons_zero, List.set_cons_succ]
  refine wpAnyW_done (by kernel_rfl) ?_ _
  all_goals go_wp2
  all_goals go_ret
  all_goals exact ⟨rfl, HW2.out.trans HB.out⟩

set_option maxRecDepth 100000 in
set_option maxHeartbeats 4000000 in
theorem asks_in_F_in {w : World} {q : PP} {F G : Nat} {Gd : Nat → Prop} {aL : Option Addr} {cL : Nat} {L : List AA} (d t a b v : Int) (i : Nat) (hf : i < F) (hg : G ≤ i) (ht : 0 ≤ t ∧ t < 65536) (h : PS w q.p q.hb q.wb q.mb F G L) (hr : RLs w Gd (.slice aL L.length cL) L) (hpo : PairOk L) (hF : F ≤ 1024) (hG : G ≤ 1024) :
    Calls Try.prog 14 #[.pointer (some ⟨q.p, 0, none⟩), rpV F G (.slice aL L.length cL), .agg #[.int .i64 d, .int .i64 (i : Nat), .int .i64 t, .int .i64 a, .int .i64 b, .int .u64 v]] w fun e w' => e = .returned (.bool true) ∧ Bw w w' := by
  have HB := hid (Bw.refl ((w.alloc (.cells #[.int .i64 F, .int .i64 G, .slice aL L.length cL] 29)).alloc (.cells #[.int .i64 d, .int .i64 (i : Nat), .int .i64 t, .int .i64 a, .int .i64 b, .int .u64 v] 36)))
  have hw2 : Bw w ((w.alloc (.cells #[.int .i64 F, .int .i64 G, .slice aL L.length cL] 29)).alloc (.cells #[.int .i64 d, .int .i64 (i : Nat), .int .i64 t, .int .i64 a, .int .i64 b, .int .u64 v] 36)) := Bw.alloc (Bw.alloc (Bw.refl _) _) _
  have HW2 := hid hw2
  have HPS := hid (fun w' (k : Bw ((w.alloc (.cells #[.int .i64 F, .int .i64 G, .slice aL L.length cL] 29)).alloc (.cells #[.int .i64 d, .int .i64 (i : Nat), .int .i64 t, .int .i64 a, .int .i64 b, .int .u64 v] 36)) w') => (h.bw hw2).bw k)
  have HRL := hid (fun w' (k : Bw ((w.alloc (.cells #[.int .i64 F, .int .i64 G, .slice aL L.length cL] 29)).alloc (.cells #[.int .i64 d, .int .i64 (i : Nat), .int .i64 t, .int .i64 a, .int .i64 b, .int .u64 v] 36)) w') => ((hr.bw hw2).bw k).acts)
  have HCE := hid (show ∀ w', Bw ((w.alloc (.cells #[.int .i64 F, .int .i64 G, .slice aL L.length cL] 29)).alloc (.cells #[.int .i64 d, .int .i64 (i : Nat), .int .i64 t, .int .i64 a, .int .i64 b, .int .u64 v] 36)) w' → (w'.cell? ⟨w.heap.size, 0, none⟩ = some (.int .i64 F) ∧ w'.cell? ⟨w.heap.size, 1, none⟩ = some (.int .i64 G) ∧ w'.cell? ⟨w.heap.size, 2, none⟩ = some (.slice aL L.length cL) ∧ w'.cell? ⟨w.heap.size + 1, 0, none⟩ = some (.int .i64 d) ∧ w'.cell? ⟨w.heap.size + 1, 1, none⟩ = some (.int .i64 (i : Nat)) ∧ w'.cell? ⟨w.heap.size + 1, 2, none⟩ = some (.int .i64 t) ∧ w'.cell? ⟨w.heap.size + 1, 3, none⟩ = some (.int .i64 a) ∧ w.heap.size + 1 < w'.heap.size ∧ w.heap.size < w'.heap.size) from fun w' k => by
    have b0 : Blk ((w.alloc (.cells #[.int .i64 F, .int .i64 G, .slice aL L.length cL] 29)).alloc (.cells #[.int .i64 d, .int .i64 (i : Nat), .int .i64 t, .int .i64 a, .int .i64 b, .int .u64 v] 36)) w.heap.size #[.int .i64 F, .int .i64 G, .slice aL L.length cL] 29 := (Blk.new w _ _).alloc _
    have b1 : Blk ((w.alloc (.cells #[.int .i64 F, .int .i64 G, .slice aL L.length cL] 29)).alloc (.cells #[.int .i64 d, .int .i64 (i : Nat), .int .i64 t, .int .i64 a, .int .i64 b, .int .u64 v] 36)) (w.heap.size + 1) #[.int .i64 d, .int .i64 (i : Nat), .int .i64 t, .int .i64 a, .int .i64 b, .int .u64 v] 36 := Blk.newAt _ _ _ _ (by simp only [World.size_alloc])
    exact ⟨(b0.bw k).cell 0, (b0.bw k).cell 1, (b0.bw k).cell 2, (b1.bw k).cell 0, (b1.bw k).cell 1, (b1.bw k).cell 2, (b1.bw k).cell 3, (b1.bw k).lt, (b0.bw k).lt⟩)
  have hL := hr.2.1
  have HPO := hid hpo
  clear h hr hw2 hpo
  have q1 : decide (0 ≤ (i : Int)) = true := decide_eq_true (by omega)
  have q2 : (i : Int) < (F : Int) := by omega
  have HH := hid (fun w' k => Heat_yes (HPS.out w' k) hf)
  have HRH := hid (fun w' k => rHeat_any (F := F) (G := G) (HRL.out w' k) hL (i : Int))
  generalize heatOf L (i : Int) = hn at HH HRH
  have s1 : 0 ≤ t := ht.1
  have s2 : t < 65536 := ht.2
  have HK := hid (fun w' k => Kinds_yes (HPS.out w' k) (i : Int) t hF ⟨by omega, by omega, ht.1, ht.2⟩)
  have HRK := hid (fun w' k => rKinds_any (F := F) (G := G) (HRL.out w' k) HPO.out hL (i : Int) t)
  generalize kindOf L (i : Int) t = kn at HK HRK
  have g2 : ¬ (i : Int) < (G : Int) := by omega
  have HWr := hid (fun w' k => Writes_no (i := (i : Int)) (HPS.out w' k) (by omega))
  have HRW := hid (fun w' k => rWrites_any (F := F) (G := G) (HRL.out w' k) hL (i : Int))
  generalize (writeOf L (i : Int)).1 = wn1 at HRW
  generalize (writeOf L (i : Int)).2 = wv1 at HRW
  go_enter Try.func14, Try.ntmps14
  go_wp2_with (first
    | (go_at_call 15; refine (HH.out _ HB.out).mono ?_; rintro e wn ⟨rfl, hbn⟩; have HB := hid (HB.out.trans hbn); obtain ⟨p0, p1, p2, y0, y1, y2, y3, y4, y5⟩ := HCE.out _ HB.out; clear hbn)
    | (go_at_call 16; refine (HK.out _ HB.out).mono ?_; rintro e wn ⟨rfl, hbn⟩; have HB := hid (HB.out.trans hbn); obtain ⟨p0, p1, p2, y0, y1, y2, y3, y4, y5⟩ := HCE.out _ HB.out; clear hbn)
    | (go_at_call 17; refine (HWr.out _ HB.out).mono ?_; rintro e wn ⟨rfl, hbn⟩; have HB := hid (HB.out.trans hbn); obtain ⟨p0, p1, p2, y0, y1, y2, y3, y4, y5⟩ := HCE.out _ HB.out; clear hbn)
    | (go_at_call 29; refine (HRH.out _ HB.out).mono ?_; rintro e wn ⟨rfl, hbn⟩; have HB := hid (HB.out.trans hbn); obtain ⟨p0, p1, p2, y0, y1, y2, y3, y4, y5⟩ := HCE.out _ HB.out; clear hbn)
    | (go_at_call 30; refine (HRK.out _ HB.out).mono ?_; rintro e wn ⟨rfl, hbn⟩; have HB := hid (HB.out.trans hbn); obtain ⟨p0, p1, p2, y0, y1, y2, y3, y4, y5⟩ := HCE.out _ HB.out; clear hbn)
    | (go_at_call 31; refine (HRW.out _ HB.out).mono ?_; rintro e wn ⟨rfl, hbn⟩; have HB := hid (HB.out.trans hbn); obtain ⟨p0, p1, p2, y0, y1, y2, y3, y4, y5⟩ := HCE.out _ HB.out; clear hbn)
    | (go_at_call 11; refine (num_any _ _).mono ?_; rintro e wm ⟨rfl, hwm⟩; subst wm)
    | fail)
  have hm5 : (hotL (hsOf L) a F).length ≤ 1000000 := by have := hotL_len (hsOf L) a F; have := hots_len (hsOf L) a F; omega
  have hs5 : (stableL G L).length ≤ 1000000 := by have := stab_len (wsOf L) G; unfold stableL; omega
  have HM5 := hid hm5
  have HS5 := hid hs5
  clear hm5 hs5
  refine wp_region_W (fun w' => w'.cell? ⟨w.heap.size, 0, none⟩ = some (.int .i64 F) ∧ w'.cell? ⟨w.heap.size, 1, none⟩ = some (.int .i64 G) ∧ w'.cell? ⟨w.heap.size, 2, none⟩ = some (.slice aL L.length cL) ∧ w'.cell? ⟨w.heap.size + 1, 3, none⟩ = some (.int .i64 a)) (fun j => if j == 3 || j == 7 || j == 8 || j == 11 || j == 13 || j == 14 then 0 else 1) (by kernel_rfl) ?_
  have HSX := hid (show ∀ W', Bw ((w.alloc (.cells #[.int .i64 F, .int .i64 G, .slice aL L.length cL] 29)).alloc (.cells #[.int .i64 d, .int .i64 (i : Nat), .int .i64 t, .int .i64 a, .int .i64 b, .int .u64 v] 36)) W' → (fun w' => w'.cell? ⟨w.heap.size, 0, none⟩ = some (.int .i64 F) ∧ w'.cell? ⟨w.heap.size, 1, none⟩ = some (.int .i64 G) ∧ w'.cell? ⟨w.heap.size, 2, none⟩ = some (.slice aL L.length cL) ∧ w'.cell? ⟨w.heap.size + 1, 3, none⟩ = some (.int .i64 a)) W' from fun W' k => by obtain ⟨p0, p1, p2, y0, y1, y2, y3, y4, y5⟩ := HCE.out _ k; exact ⟨p0, p1, p2, y3⟩)
  have HB := hid (HB.out.drew)
  refine wpAnyW_take (i := 0) (oi := { dst := some 161, op := Op.move (Operand.tmp 0), type := 24, pos := "law.go:59", after := #[], guard := none }) (v := ?_) rfl (by kernel_rfl) (by kernel_rfl) (by kernel_rfl) (by kernel_rfl) (fun _ _ _ h => h) (Or.inl ⟨by rfl, fun w _ => ?_⟩) ?_
  rotate_left
  · (go_simp; first | done | with_reducible rfl)
  try simp only [Act.put, List.setIfInBounds_toArray, List.set_cons_zero, List.set_cons_succ]
  refine wpAnyW_take (i := 1) (oi := { dst := some 162, op := Op.fieldAddr 36 (Operand.tmp 5) 3, type := 0, pos := "law.go:59", after := #[], guard := none }) (v := ?_) rfl (by kernel_rfl) (by kernel_rfl) (by kernel_rfl) (by kernel_rfl) (fun _ _ _ h => h) (Or.inl ⟨by rfl, fun w _ => ?_⟩) ?_
  rotate_left
  · (go_simp; first | done | with_reducible rfl)
  try simp only [Act.put, List.setIfInBounds_toArray, List.set_cons_zero, List.set_cons_succ]
  refine wpAnyW_load (i := 2) (oi := { dst := some 163, op := Op.load 3 (Operand.tmp 162), type := 3, pos := "law.go:59", after := #[{ on := 1, ground := Ground.data }], guard := none }) (v := ?_) rfl (by kernel_rfl) (by kernel_rfl) (by kernel_rfl) (by kernel_rfl) (by kernel_rfl) (fun _ _ _ h => h) (Or.inl ⟨by rfl, fun w hS => ?_⟩) (HSX.out _ HB.out) ?_
  rotate_left
  · (obtain ⟨s1, s2, s3, s4⟩ := hS; go_simp; first | done | with_reducible rfl)
  try simp only [Act.put, List.setIfInBounds_toArray, List.set_cons_zero, List.set_cons_succ]
  refine wpAnyW_load (i := 4) (oi := { dst := some 165, op := Op.load 29 (Operand.tmp 4), type := 29, pos := "law.go:59", after := #[], guard := none }) (v := ?_) rfl (by kernel_rfl) (by kernel_rfl) (by kernel_rfl) (by kernel_rfl) (by kernel_rfl) (fun _ _ _ h => h) (Or.inl ⟨by rfl, fun w hS => ?_⟩) (HSX.out _ HB.out) ?_
  rotate_left
  · (obtain ⟨s1, s2, s3, s4⟩ := hS; go_simp; first | done | with_reducible rfl)
  try simp only [Act.put, List.setIfInBounds_toArray, List.set_cons_zero, List.set_cons_succ]
  refine wpAnyW_take (i := 5) (oi := { dst := some 166, op := Op.fieldAddr 36 (Operand.tmp 5) 3, type := 0, pos := "law.go:59", after := #[], guard := none }) (v := ?_) rfl (by kernel_rfl) (by kernel_rfl) (by kernel_rfl) (by kernel_rfl) (fun _ _ _ h => h) (Or.inl ⟨by rfl, fun w _ => ?_⟩) ?_
  rotate_left
  · (go_simp; first | done | with_reducible rfl)
  try simp only [Act.put, List.setIfInBounds_toArray, List.set_cons_zero, List.set_cons_succ]
  refine wpAnyW_load (i := 6) (oi := { dst := some 167, op := Op.load 3 (Operand.tmp 166), type := 3, pos := "law.go:59", after := #[{ on := 5, ground := Ground.data }], guard := none }) (v := ?_) rfl (by kernel_rfl) (by kernel_rfl) (by kernel_rfl) (by kernel_rfl) (by kernel_rfl) (fun _ _ _ h => h) (Or.inl ⟨by rfl, fun w hS => ?_⟩) (HSX.out _ HB.out) ?_
  rotate_left
  · (obtain ⟨s1, s2, s3, s4⟩ := hS; go_simp; first | done | with_reducible rfl)
  try simp only [Act.put, List.setIfInBounds_toArray, List.set_cons_zero, List.set_cons_succ]
  refine wpAnyW_ready (rs := [3]) (by kernel_rfl) (by simp) ?_
  refine (AllReadyW.cons (o := { dst := some 164, op := Op.call { callee := Callee.value (Operand.func 18), args := #[Operand.tmp 161, Operand.tmp 163], argTypes := #[24, 3] }, type := 46, pos := "law.go:59", after := #[{ on := 0, ground := Ground.data }, { on := 2, ground := Ground.data }], guard := none }) rfl (fun K hK => ?_) AllReadyW.nil)
  go_simp
  refine ((Hot_any (HPS.out _ HB.out) hF a)).mono ?_
  rintro e x1 ⟨r1, he, ho, hbn⟩
  subst he
  obtain ⟨a1, c1, e1⟩ := own_form ho
  subst e1
  have OW1 := hid (own_sl (G := fun _ => True) ho (fun _ _ => trivial))
  have HB := hid (HB.out.trans hbn)
  clear ho hbn
  refine hK.out _ _ (HSX.out _ HB.out) ?_
  clear hK K
  try simp only [Act.put, List.setIfInBounds_toArray, List.set_cons_zero, List.set_cons_succ]
  refine wpAnyW_ready (rs := [7]) (by kernel_rfl) (by simp) ?_
  refine (AllReadyW.cons (o := { dst := some 168, op := Op.call { callee := Callee.value (Operand.func 21), args := #[Operand.tmp 165, Operand.tmp 167], argTypes := #[29, 3] }, type := 46, pos := "law.go:59", after := #[{ on := 4, ground := Ground.data }, { on := 6, ground := Ground.data }, { on := 3, ground := Ground.chain }], guard := none }) rfl (fun K hK => ?_) AllReadyW.nil)
  go_simp
  refine ((rHot_any (F := F) (G := G) (HRL.out _ HB.out) hL hF a)).mono ?_
  rintro e x3 ⟨r3, he, ho, hbn⟩
  subst he
  obtain ⟨a3, c3, e3⟩ := own_form ho
  subst e3
  have OW3 := hid (own_sl (G := fun _ => True) ho (fun _ _ => trivial))
  have OW1b := hid (OW1.out.below hbn)
  have HB := hid (HB.out.trans hbn)
  clear ho hbn OW1
  refine hK.out _ _ (HSX.out _ HB.out) ?_
  clear hK K
  try simp only [Act.put, List.setIfInBounds_toArray, List.set_cons_zero, List.set_cons_succ]
  refine wpAnyW_ready (rs := [8]) (by kernel_rfl) (by simp) ?_
  refine (AllReadyW.cons (o := { dst := some 169, op := Op.call { callee := Callee.value (Operand.func 20), args := #[Operand.tmp 164, Operand.tmp 168], argTypes := #[46, 46] }, type := 4, pos := "law.go:59", after := #[{ on := 3, ground := Ground.data }, { on := 7, ground := Ground.data }, { on := 7, ground := Ground.chain }], guard := none }) rfl (fun K hK => ?_) AllReadyW.nil)
  go_simp
  refine (sameInts_any _ _ _ OW1b.out OW3.out HM5.out).mono ?_
  rintro e x4 ⟨he, hd⟩
  subst he
  have hbn := hd.bw
  have HB := hid (HB.out.trans hbn)
  clear hd hbn OW1b OW3
  refine hK.out _ _ (HSX.out _ HB.out) ?_
  clear hK K
  try simp only [Act.put, List.setIfInBounds_toArray, List.set_cons_zero, List.set_cons_succ]
  refine wpAnyW_take (i := 9) (oi := { dst := some 170, op := Op.move (Operand.tmp 169), type := 4, pos := "law.go:59", after := #[{ on := 8, ground := Ground.data }, { on := 8, ground := Ground.chain }], guard := none }) (v := ?_) rfl (by kernel_rfl) (by kernel_rfl) (by kernel_rfl) (by kernel_rfl) (fun _ _ _ h => h) (Or.inl ⟨by rfl, fun w _ => ?_⟩) ?_
  rotate_left
  · (go_simp; first | done | with_reducible rfl)
  try simp only [Act.put, List.setIfInBounds_toArray, List.set_cons_zero, List.set_cons_succ]
  refine wpAnyW_take (i := 10) (oi := { dst := some 171, op := Op.move (Operand.tmp 0), type := 24, pos := "law.go:59", after := #[{ on := 9, ground := Ground.guard }], guard := some (9, true) }) (v := ?_) rfl (by kernel_rfl) (by kernel_rfl) (by kernel_rfl) (by kernel_rfl) (fun _ _ _ h => h) (Or.inl ⟨by rfl, fun w _ => ?_⟩) ?_
  rotate_left
  · (go_simp; first | done | with_reducible rfl)
  try simp only [Act.put, List.setIfInBounds_toArray, List.set_cons_zero, List.set_cons_succ]
  refine wpAnyW_load (i := 12) (oi := { dst := some 173, op := Op.load 29 (Operand.tmp 4), type := 29, pos := "law.go:59", after := #[{ on := 9, ground := Ground.guard }], guard := some (9, true) }) (v := ?_) rfl (by kernel_rfl) (by kernel_rfl) (by kernel_rfl) (by kernel_rfl) (by kernel_rfl) (fun _ _ _ h => h) (Or.inl ⟨by rfl, fun w hS => ?_⟩) (HSX.out _ HB.out) ?_
  rotate_left
  · (obtain ⟨s1, s2, s3, s4⟩ := hS; go_simp; first | done | with_reducible rfl)
  try simp only [Act.put, List.setIfInBounds_toArray, List.set_cons_zero, List.set_cons_succ]
  refine wpAnyW_ready (rs := [11]) (by kernel_rfl) (by simp) ?_
  refine (AllReadyW.cons (o := { dst := some 172, op := Op.call { callee := Callee.value (Operand.func 19), args := #[Operand.tmp 171], argTypes := #[24] }, type := 48, pos := "law.go:59", after := #[{ on := 10, ground := Ground.data }, { on := 9, ground := Ground.chain }, { on := 9, ground := Ground.guard }], guard := some (9, true) }) rfl (fun K hK => ?_) AllReadyW.nil)
  go_simp
  refine ((Stable_any (HPS.out _ HB.out) hG)).mono ?_
  rintro e x7 ⟨r7, he, ho, hbn⟩
  subst he
  obtain ⟨a7, c7, e7⟩ := own_form ho
  subst e7
  have OW7 := hid (own_sl (G := fun _ => True) ho (fun _ _ => trivial))
  have HB := hid (HB.out.trans hbn)
  clear ho hbn
  refine hK.out _ _ (HSX.out _ HB.out) ?_
  clear hK K
  try simp only [Act.put, List.setIfInBounds_toArray, List.set_cons_zero, List.set_cons_succ]
  refine wpAnyW_ready (rs := [13]) (by kernel_rfl) (by simp) ?_
  refine (AllReadyW.cons (o := { dst := some 174, op := Op.call { callee := Callee.value (Operand.func 23), args := #[Operand.tmp 173], argTypes := #[29] }, type := 48, pos := "law.go:59", after := #[{ on := 12, ground := Ground.data }, { on := 11, ground := Ground.chain }, { on := 9, ground := Ground.guard }], guard := some (9, true) }) rfl (fun K hK => ?_) AllReadyW.nil)
  go_simp
  refine ((rStable_any (F := F) (G := G) (HRL.out _ HB.out) hL hG)).mono ?_
  rintro e x9 ⟨r9, he, ho, hbn⟩
  subst he
  obtain ⟨a9, c9, e9⟩ := own_form ho
  subst e9
  have OW9 := hid (own_sl (G := fun _ => True) ho (fun _ _ => trivial))
  have OW7b := hid (OW7.out.below hbn)
  have HB := hid (HB.out.trans hbn)
  clear ho hbn OW7
  refine hK.out _ _ (HSX.out _ HB.out) ?_
  clear hK K
  try simp only [Act.put, List.setIfInBounds_toArray, List.set_cons_zero, List.set_cons_succ]
  refine wpAnyW_ready (rs := [14]) (by kernel_rfl) (by simp) ?_
  refine (AllReadyW.cons (o := { dst := some 175, op := Op.call { callee := Callee.value (Operand.func 22), args := #[Operand.tmp 172, Operand.tmp 174], argTypes := #[48, 48] }, type := 4, pos := "law.go:59", after := #[{ on := 11, ground := Ground.data }, { on := 13, ground := Ground.data }, { on := 13, ground := Ground.chain }, { on := 9, ground := Ground.guard }], guard := some (9, true) }) rfl (fun K hK => ?_) AllReadyW.nil)
  go_simp
  refine (sameDeps_any _ _ _ OW7b.out OW9.out HS5.out).mono ?_
  rintro e x10 ⟨he, hd⟩
  subst he
  have hbn := hd.bw
  have HB := hid (HB.out.trans hbn)
  clear hd hbn OW7b OW9
  refine hK.out _ _ (HSX.out _ HB.out) ?_
  clear hK K
  try simp only [Act.put, List.setIfInBounds_toArray, List.set_cons_zero, List.set_cons_succ]
  refine wpAnyW_take (i := 15) (oi := { dst := some 176, op := Op.pick (Operand.tmp 170) (Operand.tmp 175) (Operand.const (Value.bool false)), type := 4, pos := "law.go:59", after := #[{ on := 9, ground := Ground.data }, { on := 14, ground := Ground.data }], guard := none }) (v := ?_) rfl (by kernel_rfl) (by kernel_rfl) (by kernel_rfl) (by kernel_rfl) (fun _ _ _ h => h) (Or.inl ⟨by rfl, fun w _ => ?_⟩) ?_
  rotate_left
  · (go_simp; first | done | with_reducible rfl)
  try simp only [Act.put, List.setIfInBounds_toArray, List.set_cons_zero, List.set_cons_succ]
  refine wpAnyW_take (i := 16) (oi := { dst := some 6, op := Op.assign (Operand.tmp 176), type := 4, pos := "law.go:59", after := #[{ on := 15, ground := Ground.data }, { on := 14, ground := Ground.chain }, { on := 0, ground := Ground.phase }, { on := 1, ground := Ground.phase }, { on := 2, ground := Ground.phase }, { on := 3, ground := Ground.phase }, { on := 4, ground := Ground.phase }, { on := 5, ground := Ground.phase }, { on := 6, ground := Ground.phase }, { on := 7, ground := Ground.phase }, { on := 8, ground := Ground.phase }, { on := 9, ground := Ground.phase }, { on := 10, ground := Ground.phase }, { on := 11, ground := Ground.phase }, { on := 12, ground := Ground.phase }, { on := 13, ground := Ground.phase }, { on := 14, ground := Ground.phase }, { on := 15, ground := Ground.phase }], guard := none }) (v := ?_) rfl (by kernel_rfl) (by kernel_rfl) (by kernel_rfl) (by kernel_rfl) (fun _ _ _ h => h) (Or.inl ⟨by rfl, fun w _ => ?_⟩) ?_
  rotate_left
  · (go_simp; first | done | with_reducible rfl)
  try simp only [Act.put, List.setIfInBounds_toArray, List.set_cons_zero, List.set_cons_succ]
  refine wpAnyW_done (by kernel_rfl) ?_ _
  all_goals go_wp2
  all_goals go_ret
  all_goals exact ⟨rfl, HW2.out.trans HB.out⟩

set_option maxRecDepth 100000 in
set_option maxHeartbeats 4000000 in
theorem asks_in_F_big {w : World} {q : PP} {F G : Nat} {Gd : Nat → Prop} {aL : Option Addr} {cL : Nat} {L : List AA} (d t a b v : Int) (i : Nat) (hf : i < F) (hg : G ≤ i) (ht : 65536 ≤ t) (h : PS w q.p q.hb q.wb q.mb F G L) (hr : RLs w Gd (.slice aL L.length cL) L) (hpo : PairOk L) (hF : F ≤ 1024) (hG : G ≤ 1024) :
    Calls Try.prog 14 #[.pointer (some ⟨q.p, 0, none⟩), rpV F G (.slice aL L.length cL), .agg #[.int .i64 d, .int .i64 (i : Nat), .int .i64 t, .int .i64 a, .int .i64 b, .int .u64 v]] w fun e w' => e = .returned (.bool true) ∧ Bw w w' := by
  have HB := hid (Bw.refl ((w.alloc (.cells #[.int .i64 F, .int .i64 G, .slice aL L.length cL] 29)).alloc (.cells #[.int .i64 d, .int .i64 (i : Nat), .int .i64 t, .int .i64 a, .int .i64 b, .int .u64 v] 36)))
  have hw2 : Bw w ((w.alloc (.cells #[.int .i64 F, .int .i64 G, .slice aL L.length cL] 29)).alloc (.cells #[.int .i64 d, .int .i64 (i : Nat), .int .i64 t, .int .i64 a, .int .i64 b, .int .u64 v] 36)) := Bw.alloc (Bw.alloc (Bw.refl _) _) _
  have HW2 := hid hw2
  have HPS := hid (fun w' (k : Bw ((w.alloc (.cells #[.int .i64 F, .int .i64 G, .slice aL L.length cL] 29)).alloc (.cells #[.int .i64 d, .int .i64 (i : Nat), .int .i64 t, .int .i64 a, .int .i64 b, .int .u64 v] 36)) w') => (h.bw hw2).bw k)
  have HRL := hid (fun w' (k : Bw ((w.alloc (.cells #[.int .i64 F, .int .i64 G, .slice aL L.length cL] 29)).alloc (.cells #[.int .i64 d, .int .i64 (i : Nat), .int .i64 t, .int .i64 a, .int .i64 b, .int .u64 v] 36)) w') => ((hr.bw hw2).bw k).acts)
  have HCE := hid (show ∀ w', Bw ((w.alloc (.cells #[.int .i64 F, .int .i64 G, .slice aL L.length cL] 29)).alloc (.cells #[.int .i64 d, .int .i64 (i : Nat), .int .i64 t, .int .i64 a, .int .i64 b, .int .u64 v] 36)) w' → (w'.cell? ⟨w.heap.size, 0, none⟩ = some (.int .i64 F) ∧ w'.cell? ⟨w.heap.size, 1, none⟩ = some (.int .i64 G) ∧ w'.cell? ⟨w.heap.size, 2, none⟩ = some (.slice aL L.length cL) ∧ w'.cell? ⟨w.heap.size + 1, 0, none⟩ = some (.int .i64 d) ∧ w'.cell? ⟨w.heap.size + 1, 1, none⟩ = some (.int .i64 (i : Nat)) ∧ w'.cell? ⟨w.heap.size + 1, 2, none⟩ = some (.int .i64 t) ∧ w'.cell? ⟨w.heap.size + 1, 3, none⟩ = some (.int .i64 a) ∧ w.heap.size + 1 < w'.heap.size ∧ w.heap.size < w'.heap.size) from fun w' k => by
    have b0 : Blk ((w.alloc (.cells #[.int .i64 F, .int .i64 G, .slice aL L.length cL] 29)).alloc (.cells #[.int .i64 d, .int .i64 (i : Nat), .int .i64 t, .int .i64 a, .int .i64 b, .int .u64 v] 36)) w.heap.size #[.int .i64 F, .int .i64 G, .slice aL L.length cL] 29 := (Blk.new w _ _).alloc _
    have b1 : Blk ((w.alloc (.cells #[.int .i64 F, .int .i64 G, .slice aL L.length cL] 29)).alloc (.cells #[.int .i64 d, .int .i64 (i : Nat), .int .i64 t, .int .i64 a, .int .i64 b, .int .u64 v] 36)) (w.heap.size + 1) #[.int .i64 d, .int .i64 (i : Nat), .int .i64 t, .int .i64 a, .int .i64 b, .int .u64 v] 36 := Blk.newAt _ _ _ _ (by simp only [World.size_alloc])
    exact ⟨(b0.bw k).cell 0, (b0.bw k).cell 1, (b0.bw k).cell 2, (b1.bw k).cell 0, (b1.bw k).cell 1, (b1.bw k).cell 2, (b1.bw k).cell 3, (b1.bw k).lt, (b0.bw k).lt⟩)
  have hL := hr.2.1
  have HPO := hid hpo
  clear h hr hw2 hpo
  have q1 : decide (0 ≤ (i : Int)) = true := decide_eq_true (by omega)
  have q2 : (i : Int) < (F : Int) := by omega
  have HH := hid (fun w' k => Heat_yes (HPS.out w' k) hf)
  have HRH := hid (fun w' k => rHeat_any (F := F) (G := G) (HRL.out w' k) hL (i : Int))
  generalize heatOf L (i : Int) = hn at HH HRH
  have s1 : 0 ≤ t := by omega
  have s2 : ¬ t < 65536 := by omega
  have HK := hid (fun w' k => Kinds_no (HPS.out w' k) (i : Int) t (by omega))
  have g2 : ¬ (i : Int) < (G : Int) := by omega
  have HWr := hid (fun w' k => Writes_no (i := (i : Int)) (HPS.out w' k) (by omega))
  have HRW := hid (fun w' k => rWrites_any (F := F) (G := G) (HRL.out w' k) hL (i : Int))
  generalize (writeOf L (i : Int)).1 = wn1 at HRW
  generalize (writeOf L (i : Int)).2 = wv1 at HRW
  go_enter Try.func14, Try.ntmps14
  go_wp2_with (first
    | (go_at_call 15; refine (HH.out _ HB.out).mono ?_; rintro e wn ⟨rfl, hbn⟩; have HB := hid (HB.out.trans hbn); obtain ⟨p0, p1, p2, y0, y1, y2, y3, y4, y5⟩ := HCE.out _ HB.out; clear hbn)
    | (go_at_call 16; refine (HK.out _ HB.out).mono ?_; rintro e wn ⟨rfl, hbn⟩; have HB := hid (HB.out.trans hbn); obtain ⟨p0, p1, p2, y0, y1, y2, y3, y4, y5⟩ := HCE.out _ HB.out; clear hbn)
    | (go_at_call 17; refine (HWr.out _ HB.out).mono ?_; rintro e wn ⟨rfl, hbn⟩; have HB := hid (HB.out.trans hbn); obtain ⟨p0, p1, p2, y0, y1, y2, y3, y4, y5⟩ := HCE.out _ HB.out; clear hbn)
    | (go_at_call 29; refine (HRH.out _ HB.out).mono ?_; rintro e wn ⟨rfl, hbn⟩; have HB := hid (HB.out.trans hbn); obtain ⟨p0, p1, p2, y0, y1, y2, y3, y4, y5⟩ := HCE.out _ HB.out; clear hbn)
    | (go_at_call 31; refine (HRW.out _ HB.out).mono ?_; rintro e wn ⟨rfl, hbn⟩; have HB := hid (HB.out.trans hbn); obtain ⟨p0, p1, p2, y0, y1, y2, y3, y4, y5⟩ := HCE.out _ HB.out; clear hbn)
    | (go_at_call 11; refine (num_any _ _).mono ?_; rintro e wm ⟨rfl, hwm⟩; subst wm)
    | fail)
  have hm5 : (hotL (hsOf L) a F).length ≤ 1000000 := by have := hotL_len (hsOf L) a F; have := hots_len (hsOf L) a F; omega
  have hs5 : (stableL G L).length ≤ 1000000 := by have := stab_len (wsOf L) G; unfold stableL; omega
  have HM5 := hid hm5
  have HS5 := hid hs5
  clear hm5 hs5
  refine wp_region_W (fun w' => w'.cell? ⟨w.heap.size, 0, none⟩ = some (.int .i64 F) ∧ w'.cell? ⟨w.heap.size, 1, none⟩ = some (.int .i64 G) ∧ w'.cell? ⟨w.heap.size, 2, none⟩ = some (.slice aL L.length cL) ∧ w'.cell? ⟨w.heap.size + 1, 3, none⟩ = some (.int .i64 a)) (fun j => if j == 3 || j == 7 || j == 8 || j == 11 || j == 13 || j == 14 then 0 else 1) (by kernel_rfl) ?_
  have HSX := hid (show ∀ W', Bw ((w.alloc (.cells #[.int .i64 F, .int .i64 G, .slice aL L.length cL] 29)).alloc (.cells #[.int .i64 d, .int .i64 (i : Nat), .int .i64 t, .int .i64 a, .int .i64 b, .int .u64 v] 36)) W' → (fun w' => w'.cell? ⟨w.heap.size, 0, none⟩ = some (.int .i64 F) ∧ w'.cell? ⟨w.heap.size, 1, none⟩ = some (.int .i64 G) ∧ w'.cell? ⟨w.heap.size, 2, none⟩ = some (.slice aL L.length cL) ∧ w'.cell? ⟨w.heap.size + 1, 3, none⟩ = some (.int .i64 a)) W' from fun W' k => by obtain ⟨p0, p1, p2, y0, y1, y2, y3, y4, y5⟩ := HCE.out _ k; exact ⟨p0, p1, p2, y3⟩)
  have HB := hid (HB.out.drew)
  refine wpAnyW_take (i := 0) (oi := { dst := some 161, op := Op.move (Operand.tmp 0), type := 24, pos := "law.go:59", after := #[], guard := none }) (v := ?_) rfl (by kernel_rfl) (by kernel_rfl) (by kernel_rfl) (by kernel_rfl) (fun _ _ _ h => h) (Or.inl ⟨by rfl, fun w _ => ?_⟩) ?_
  rotate_left
  · (go_simp; first | done | with_reducible rfl)
  try simp only [Act.put, List.setIfInBounds_toArray, List.set_cons_zero, List.set_cons_succ]
  refine wpAnyW_take (i := 1) (oi := { dst := some 162, op := Op.fieldAddr 36 (Operand.tmp 5) 3, type := 0, pos := "law.go:59", after := #[], guard := none }) (v := ?_) rfl (by kernel_rfl) (by kernel_rfl) (by kernel_rfl) (by kernel_rfl) (fun _ _ _ h => h) (Or.inl ⟨by rfl, fun w _ => ?_⟩) ?_
  rotate_left
  · (go_simp; first | done | with_reducible rfl)
  try simp only [Act.put, List.setIfInBounds_toArray, List.set_cons_zero, List.set_cons_succ]
  refine wpAnyW_load (i := 2) (oi := { dst := some 163, op := Op.load 3 (Operand.tmp 162), type := 3, pos := "law.go:59", after := #[{ on := 1, ground := Ground.data }], guard := none }) (v := ?_) rfl (by kernel_rfl) (by kernel_rfl) (by kernel_rfl) (by kernel_rfl) (by kernel_rfl) (fun _ _ _ h => h) (Or.inl ⟨by rfl, fun w hS => ?_⟩) (HSX.out _ HB.out) ?_
  rotate_left
  · (obtain ⟨s1, s2, s3, s4⟩ := hS; go_simp; first | done | with_reducible rfl)
  try simp only [Act.put, List.setIfInBounds_toArray, List.set_cons_zero, List.set_cons_succ]
  refine wpAnyW_load (i := 4) (oi := { dst := some 165, op := Op.load 29 (Operand.tmp 4), type := 29, pos := "law.go:59", after := #[], guard := none }) (v := ?_) rfl (by kernel_rfl) (by kernel_rfl) (by kernel_rfl) (by kernel_rfl) (by kernel_rfl) (fun _ _ _ h => h) (Or.inl ⟨by rfl, fun w hS => ?_⟩) (HSX.out _ HB.out) ?_
  rotate_left
  · (obtain ⟨s1, s2, s3, s4⟩ := hS; go_simp; first | done | with_reducible rfl)
  try simp only [Act.put, List.setIfInBounds_toArray, List.set_cons_zero, List.set_cons_succ]
  refine wpAnyW_take (i := 5) (oi := { dst := some 166, op := Op.fieldAddr 36 (Operand.tmp 5) 3, type := 0, pos := "law.go:59", after := #[], guard := none }) (v := ?_) rfl (by kernel_rfl) (by kernel_rfl) (by kernel_rfl) (by kernel_rfl) (fun _ _ _ h => h) (Or.inl ⟨by rfl, fun w _ => ?_⟩) ?_
  rotate_left
  · (go_simp; first | done | with_reducible rfl)
  try simp only [Act.put, List.setIfInBounds_toArray, List.set_cons_zero, List.set_cons_succ]
  refine wpAnyW_load (i := 6) (oi := { dst := some 167, op := Op.load 3 (Operand.tmp 166), type := 3, pos := "law.go:59", after := #[{ on := 5, ground := Ground.data }], guard := none }) (v := ?_) rfl (by kernel_rfl) (by kernel_rfl) (by kernel_rfl) (by kernel_rfl) (by kernel_rfl) (fun _ _ _ h => h) (Or.inl ⟨by rfl, fun w hS => ?_⟩) (HSX.out _ HB.out) ?_
  rotate_left
  · (obtain ⟨s1, s2, s3, s4⟩ := hS; go_simp; first | done | with_reducible rfl)
  try simp only [Act.put, List.setIfInBounds_toArray, List.set_cons_zero, List.set_cons_succ]
  refine wpAnyW_ready (rs := [3]) (by kernel_rfl) (by simp) ?_
  refine (AllReadyW.cons (o := { dst := some 164, op := Op.call { callee := Callee.value (Operand.func 18), args := #[Operand.tmp 161, Operand.tmp 163], argTypes := #[24, 3] }, type := 46, pos := "law.go:59", after := #[{ on := 0, ground := Ground.data }, { on := 2, ground := Ground.data }], guard := none }) rfl (fun K hK => ?_) AllReadyW.nil)
  go_simp
  refine ((Hot_any (HPS.out _ HB.out) hF a)).mono ?_
  rintro e x1 ⟨r1, he, ho, hbn⟩
  subst he
  obtain ⟨a1, c1, e1⟩ := own_form ho
  subst e1
  have OW1 := hid (own_sl (G := fun _ => True) ho (fun _ _ => trivial))
  have HB := hid (HB.out.trans hbn)
  clear ho hbn
  refine hK.out _ _ (HSX.out _ HB.out) ?_
  clear hK K
  try simp only [Act.put, List.setIfInBounds_toArray, List.set_cons_zero, List.set_cons_succ]
  refine wpAnyW_ready (rs := [7]) (by kernel_rfl) (by simp) ?_
  refine (AllReadyW.cons (o := { dst := some 168, op := Op.call { callee := Callee.value (Operand.func 21), args := #[Operand.tmp 165, Operand.tmp 167], argTypes := #[29, 3] }, type := 46, pos := "law.go:59", after := #[{ on := 4, ground := Ground.data }, { on := 6, ground := Ground.data }, { on := 3, ground := Ground.chain }], guard := none }) rfl (fun K hK => ?_) AllReadyW.nil)
  go_simp
  refine ((rHot_any (F := F) (G := G) (HRL.out _ HB.out) hL hF a)).mono ?_
  rintro e x3 ⟨r3, he, ho, hbn⟩
  subst he
  obtain ⟨a3, c3, e3⟩ := own_form ho
  subst e3
  have OW3 := hid (own_sl (G := fun _ => True) ho (fun _ _ => trivial))
  have OW1b := hid (OW1.out.below hbn)
  have HB := hid (HB.out.trans hbn)
  clear ho hbn OW1
  refine hK.out _ _ (HSX.out _ HB.out) ?_
  clear hK K
  try simp only [Act.put, List.setIfInBounds_toArray, List.set_cons_zero, List.set_cons_succ]
  refine wpAnyW_ready (rs := [8]) (by kernel_rfl) (by simp) ?_
  refine (AllReadyW.cons (o := { dst := some 169, op := Op.call { callee := Callee.value (Operand.func 20), args := #[Operand.tmp 164, Operand.tmp 168], argTypes := #[46, 46] }, type := 4, pos := "law.go:59", after := #[{ on := 3, ground := Ground.data }, { on := 7, ground := Ground.data }, { on := 7, ground := Ground.chain }], guard := none }) rfl (fun K hK => ?_) AllReadyW.nil)
  go_simp
  refine (sameInts_any _ _ _ OW1b.out OW3.out HM5.out).mono ?_
  rintro e x4 ⟨he, hd⟩
  subst he
  have hbn := hd.bw
  have HB := hid (HB.out.trans hbn)
  clear hd hbn OW1b OW3
  refine hK.out _ _ (HSX.out _ HB.out) ?_
  clear hK K
  try simp only [Act.put, List.setIfInBounds_toArray, List.set_cons_zero, List.set_cons_succ]
  refine wpAnyW_take (i := 9) (oi := { dst := some 170, op := Op.move (Operand.tmp 169), type := 4, pos := "law.go:59", after := #[{ on := 8, ground := Ground.data }, { on := 8, ground := Ground.chain }], guard := none }) (v := ?_) rfl (by kernel_rfl) (by kernel_rfl) (by kernel_rfl) (by kernel_rfl) (fun _ _ _ h => h) (Or.inl ⟨by rfl, fun w _ => ?_⟩) ?_
  rotate_left
  · (go_simp; first | done | with_reducible rfl)
  try simp only [Act.put, List.setIfInBounds_toArray, List.set_cons_zero, List.set_cons_succ]
  refine wpAnyW_take (i := 10) (oi := { dst := some 171, op := Op.move (Operand.tmp 0), type := 24, pos := "law.go:59", after := #[{ on := 9, ground := Ground.guard }], guard := some (9, true) }) (v := ?_) rfl (by kernel_rfl) (by kernel_rfl) (by kernel_rfl) (by kernel_rfl) (fun _ _ _ h => h) (Or.inl ⟨by rfl, fun w _ => ?_⟩) ?_
  rotate_left
  · (go_simp; first | done | with_reducible rfl)
  try simp only [Act.put, List.setIfInBounds_toArray, List.set_cons_zero, List.set_cons_succ]
  refine wpAnyW_load (i := 12) (oi := { dst := some 173, op := Op.load 29 (Operand.tmp 4), type := 29, pos := "law.go:59", after := #[{ on := 9, ground := Ground.guard }], guard := some (9, true) }) (v := ?_) rfl (by kernel_rfl) (by kernel_rfl) (by kernel_rfl) (by kernel_rfl) (by kernel_rfl) (fun _ _ _ h => h) (Or.inl ⟨by rfl, fun w hS => ?_⟩) (HSX.out _ HB.out) ?_
  rotate_left
  · (obtain ⟨s1, s2, s3, s4⟩ := hS; go_simp; first | done | with_reducible rfl)
  try simp only [Act.put, List.setIfInBounds_toArray, List.set_cons_zero, List.set_cons_succ]
  refine wpAnyW_ready (rs := [11]) (by kernel_rfl) (by simp) ?_
  refine (AllReadyW.cons (o := { dst := some 172, op := Op.call { callee := Callee.value (Operand.func 19), args := #[Operand.tmp 171], argTypes := #[24] }, type := 48, pos := "law.go:59", after := #[{ on := 10, ground := Ground.data }, { on := 9, ground := Ground.chain }, { on := 9, ground := Ground.guard }], guard := some (9, true) }) rfl (fun K hK => ?_) AllReadyW.nil)
  go_simp
  refine ((Stable_any (HPS.out _ HB.out) hG)).mono ?_
  rintro e x7 ⟨r7, he, ho, hbn⟩
  subst he
  obtain ⟨a7, c7, e7⟩ := own_form ho
  subst e7
  have OW7 := hid (own_sl (G := fun _ => True) ho (fun _ _ => trivial))
  have HB := hid (HB.out.trans hbn)
  clear ho hbn
  refine hK.out _ _ (HSX.out _ HB.out) ?_
  clear hK K
  try simp only [Act.put, List.setIfInBounds_toArray, List.set_cons_zero, List.set_cons_succ]
  refine wpAnyW_ready (rs := [13]) (by kernel_rfl) (by simp) ?_
  refine (AllReadyW.cons (o := { dst := some 174, op := Op.call { callee := Callee.value (Operand.func 23), args := #[Operand.tmp 173], argTypes := #[29] }, type := 48, pos := "law.go:59", after := #[{ on := 12, ground := Ground.data }, { on := 11, ground := Ground.chain }, { on := 9, ground := Ground.guard }], guard := some (9, true) }) rfl (fun K hK => ?_) AllReadyW.nil)
  go_simp
  refine ((rStable_any (F := F) (G := G) (HRL.out _ HB.out) hL hG)).mono ?_
  rintro e x9 ⟨r9, he, ho, hbn⟩
  subst he
  obtain ⟨a9, c9, e9⟩ := own_form ho
  subst e9
  have OW9 := hid (own_sl (G := fun _ => True) ho (fun _ _ => trivial))
  have OW7b := hid (OW7.out.below hbn)
  have HB := hid (HB.out.trans hbn)
  clear ho hbn OW7
  refine hK.out _ _ (HSX.out _ HB.out) ?_
  clear hK K
  try simp only [Act.put, List.setIfInBounds_toArray, List.set_cons_zero, List.set_cons_succ]
  refine wpAnyW_ready (rs := [14]) (by kernel_rfl) (by simp) ?_
  refine (AllReadyW.cons (o := { dst := some 175, op := Op.call { callee := Callee.value (Operand.func 22), args := #[Operand.tmp 172, Operand.tmp 174], argTypes := #[48, 48] }, type := 4, pos := "law.go:59", after := #[{ on := 11, ground := Ground.data }, { on := 13, ground := Ground.data }, { on := 13, ground := Ground.chain }, { on := 9, ground := Ground.guard }], guard := some (9, true) }) rfl (fun K hK => ?_) AllReadyW.nil)
  go_simp
  refine (sameDeps_any _ _ _ OW7b.out OW9.out HS5.out).mono ?_
  rintro e x10 ⟨he, hd⟩
  subst he
  have hbn := hd.bw
  have HB := hid (HB.out.trans hbn)
  clear hd hbn OW7b OW9
  refine hK.out _ _ (HSX.out _ HB.out) ?_
  clear hK K
  try simp only [Act.put, List.setIfInBounds_toArray, List.set_cons_zero, List.set_cons_succ]
  refine wpAnyW_take (i := 15) (oi := { dst := some 176, op := Op.pick (Operand.tmp 170) (Operand.tmp 175) (Operand.const (Value.bool false)), type := 4, pos := "law.go:59", after := #[{ on := 9, ground := Ground.data }, { on := 14, ground := Ground.data }], guard := none }) (v := ?_) rfl (by kernel_rfl) (by kernel_rfl) (by kernel_rfl) (by kernel_rfl) (fun _ _ _ h => h) (Or.inl ⟨by rfl, fun w _ => ?_⟩) ?_
  rotate_left
  · (go_simp; first | done | with_reducible rfl)
  try simp only [Act.put, List.setIfInBounds_toArray, List.set_cons_zero, List.set_cons_succ]
  refine wpAnyW_take (i := 16) (oi := { dst := some 6, op := Op.assign (Operand.tmp 176), type := 4, pos := "law.go:59", after := #[{ on := 15, ground := Ground.data }, { on := 14, ground := Ground.chain }, { on := 0, ground := Ground.phase }, { on := 1, ground := Ground.phase }, { on := 2, ground := Ground.phase }, { on := 3, ground := Ground.phase }, { on := 4, ground := Ground.phase }, { on := 5, ground := Ground.phase }, { on := 6, ground := Ground.phase }, { on := 7, ground := Ground.phase }, { on := 8, ground := Ground.phase }, { on := 9, ground := Ground.phase }, { on := 10, ground := Ground.phase }, { on := 11, ground := Ground.phase }, { on := 12, ground := Ground.phase }, { on := 13, ground := Ground.phase }, { on := 14, ground := Ground.phase }, { on := 15, ground := Ground.phase }], guard := none }) (v := ?_) rfl (by kernel_rfl) (by kernel_rfl) (by kernel_rfl) (by kernel_rfl) (fun _ _ _ h => h) (Or.inl ⟨by rfl, fun w _ => ?_⟩) ?_
  rotate_left
  · (go_simp; first | done | with_reducible rfl)
  try simp only [Act.put, List.setIfInBounds_toArray, List.set_cons_zero, List.set_cons_succ]
  refine wpAnyW_done (by kernel_rfl) ?_ _
  all_goals go_wp2
  all_goals go_ret
  all_goals exact ⟨rfl, HW2.out.trans HB.out⟩

end Go.Proofs.Ytfkcbioefdkabaa
