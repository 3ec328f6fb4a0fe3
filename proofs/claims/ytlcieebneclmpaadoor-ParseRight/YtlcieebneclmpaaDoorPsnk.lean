/- Two joined by a sign: contracts. -/
import Derived.Test.YtlcieebneclmpaaDoorK8
import Derived.Test.YtlcieebneclmpaaDoorK10
set_option linter.unusedSimpArgs false
set_option linter.unusedVariables false
namespace Go.Proofs.YtlcieebneclmpaaDoor
open Go Go.RowKit

section
variable {B w : World} {S : Nat → Prop} {r g cap : Nat} {T : List ATok} {ex : Nat → Value} {i o : Nat}

set_option maxRecDepth 100000 in
set_option maxHeartbeats 8000000 in
theorem joined_n (f k : Nat) (hc : RdP B r g cap T ex f 54 #[.pointer (some ⟨r, 0, none⟩)] (.lev k)) (h : RI B w r g cap T ex i o) (ho : o ≤ 64) (hn : (tk T i).1 ≠ 0) (x : Prt) (b : Nat) (hp : PtM w S x b) (hS : ∀ n, S n → n < w.heap.size ∧ n ≠ r) (hne : pP T f (.lev k) (i + 1) o ≠ .out) :
    Calls Tryd.prog 71 #[.pointer (some ⟨r, 0, none⟩), .pointer (some ⟨b, 0, none⟩), .func (.func 54) #[.pointer (some ⟨r, 0, none⟩)] #[]] w (Got B r g cap T ex o S w ((pP T f (.lev k) (i + 1) o).bind fun y _ j => .ok (jn (tk T i) x y) false j)) := by
  have HS := hid (SI.begin1 h hp hS)
  have HN := hid hn
  have HNE := hid hne
  have HC := hid hc
  obtain ⟨v0, p4, p0, p5, pl, _⟩ := hp.at
  clear hn hp hS hne hc h
  unfold jn
  generalize hq : pP T f (.lev k) (i + 1) o = R at HNE ⊢
  have HQ := hid hq
  clear hq
  cases R with
  | out => exact absurd rfl HNE.out
  | bad n a =>
    have HNE := hid (show pP T f (.lev k) (i + 1) o ≠ .out by rw [HQ.out]; exact nofun)
    simp only [Res.bind]
    by_cases h1 : strOfNums (tk T i).2.1 = ⟨#[111, 114]⟩
    · have h1' : ((strOfNums (tk T i).2.1).toList == [111, 114]) = true := by rw [h1, ByteArray.toList_eq]; rfl
      clear h1
      go_enter Tryd.func71, Tryd.ntmps71
      go_wp2_with (first
        | (go_at_call 81; refine (take_any (HS.out.ri.bw (by repeat (first | exact Bw.refl _ | apply Bw.alloc | apply Bw.drewN | apply Bw.drew))) HN.out).mono ?_; unfold tokV; rintro e w1 ⟨rfl, hr1, hk1⟩; have HS := hid ((HS.out.bw (by repeat (first | exact Bw.refl _ | apply Bw.alloc | apply Bw.drewN | apply Bw.drew))).go hr1 hk1); have HT := hid (Blk.new w1 #[.int .i64 (tk T i).1, .string (strOfNums (tk T i).2.1), .int .i64 (tk T i).2.2.1, .int .i64 (tk T i).2.2.2] 72); have HRT := hid (show w1.heap.size ≠ r by have := HS.out.ri.k.lt; omega); clear hr1 hk1)
        | (go_at_call 54; refine (HC.out _ _ _ (HS.out.ri.bw (by repeat (first | exact Bw.refl _ | apply Bw.alloc | apply Bw.drewN | apply Bw.drew))) ho HNE.out).mono ?_; intro e w2 h2; rw [HQ.out] at h2; obtain ⟨rfl, hk2⟩ := h2; have HK := hid ((HS.out.kp.bw (by repeat (first | exact Bw.refl _ | apply Bw.alloc | apply Bw.drewN | apply Bw.drew))).trans hk2); clear hk2)
        | fail)
      all_goals exact ⟨rfl, rfl, HK.out⟩
    · have h1' : ((strOfNums (tk T i).2.1).toList == [111, 114]) = false := by have h9 := str_ne h1; rwa [ByteArray.toList_eq ⟨#[111, 114]⟩] at h9
      clear h1
      by_cases h2 : strOfNums (tk T i).2.1 = ⟨#[97, 110, 100]⟩
      · have h2' : ((strOfNums (tk T i).2.1).toList == [97, 110, 100]) = true := by rw [h2, ByteArray.toList_eq]; rfl
        clear h2
        skip
        go_enter Tryd.func71, Tryd.ntmps71
        go_wp2_with (first
          | (go_at_call 81; refine (take_any (HS.out.ri.bw (by repeat (first | exact Bw.refl _ | apply Bw.alloc | apply Bw.drewN | apply Bw.drew))) HN.out).mono ?_; unfold tokV; rintro e w1 ⟨rfl, hr1, hk1⟩; have HS := hid ((HS.out.bw (by repeat (first | exact Bw.refl _ | apply Bw.alloc | apply Bw.drewN | apply Bw.drew))).go hr1 hk1); have HT := hid (Blk.new w1 #[.int .i64 (tk T i).1, .string (strOfNums (tk T i).2.1), .int .i64 (tk T i).2.2.1, .int .i64 (tk T i).2.2.2] 72); have HRT := hid (show w1.heap.size ≠ r by have := HS.out.ri.k.lt; omega); clear hr1 hk1)
          | (go_at_call 54; refine (HC.out _ _ _ (HS.out.ri.bw (by repeat (first | exact Bw.refl _ | apply Bw.alloc | apply Bw.drewN | apply Bw.drew))) ho HNE.out).mono ?_; intro e w2 h2; rw [HQ.out] at h2; obtain ⟨rfl, hk2⟩ := h2; have HK := hid ((HS.out.kp.bw (by repeat (first | exact Bw.refl _ | apply Bw.alloc | apply Bw.drewN | apply Bw.drew))).trans hk2); clear hk2)
          | fail)
        all_goals exact ⟨rfl, rfl, HK.out⟩
      · have h2' : ((strOfNums (tk T i).2.1).toList == [97, 110, 100]) = false := by have h9 := str_ne h2; rwa [ByteArray.toList_eq ⟨#[97, 110, 100]⟩] at h9
        clear h2
        skip
        go_enter Tryd.func71, Tryd.ntmps71
        go_upto_region 4 with (first
          | (go_at_call 81; refine (take_any (HS.out.ri.bw (by repeat (first | exact Bw.refl _ | apply Bw.alloc | apply Bw.drewN | apply Bw.drew))) HN.out).mono ?_; unfold tokV; rintro e w1 ⟨rfl, hr1, hk1⟩; have HS := hid ((HS.out.bw (by repeat (first | exact Bw.refl _ | apply Bw.alloc | apply Bw.drewN | apply Bw.drew))).go hr1 hk1); have HT := hid (Blk.new w1 #[.int .i64 (tk T i).1, .string (strOfNums (tk T i).2.1), .int .i64 (tk T i).2.2.1, .int .i64 (tk T i).2.2.2] 72); have HRT := hid (show w1.heap.size ≠ r by have := HS.out.ri.k.lt; omega); clear hr1 hk1)
          | (go_at_call 54; refine (HC.out _ _ _ (HS.out.ri.bw (by repeat (first | exact Bw.refl _ | apply Bw.alloc | apply Bw.drewN | apply Bw.drew))) ho HNE.out).mono ?_; intro e w2 h2; rw [HQ.out] at h2; obtain ⟨rfl, hk2⟩ := h2; have HK := hid ((HS.out.kp.bw (by repeat (first | exact Bw.refl _ | apply Bw.alloc | apply Bw.drewN | apply Bw.drew))).trans hk2); clear hk2)
          | fail)
        have t0 := HT.out.cell
        have tl0 := HT.out.lt
        refine wp_region_W (fun w' => w'.cell? ⟨w1.heap.size, 1, none⟩ = some (.string (strOfNums (tk T i).2.1))) (fun j => if j == 5 then 0 else 1) (by kernel_rfl) ?_
        refine wpAnyW_take (i := 0) (oi := { dst := some 18, op := Op.fieldAddr 72 (Operand.tmp 8) 1, type := 0, pos := "expression.go:78", after := #[], guard := none }) (v := ?_) rfl (by kernel_rfl) (by kernel_rfl) (by kernel_rfl) (by kernel_rfl) (fun _ _ _ h => h) (Or.inl ⟨by rfl, fun w _ => ?_⟩) ?_
        rotate_left
        · (go_simp; first | done | with_reducible rfl)
        try simp only [Act.put, List.setIfInBounds_toArray, List.set_cons_zero, List.set_cons_succ]
        refine wpAnyW_load (i := 1) (oi := { dst := some 19, op := Op.load 9 (Operand.tmp 18), type := 9, pos := "expression.go:78", after := #[{ on := 0, ground := Ground.data }], guard := none }) (v := ?_) rfl (by kernel_rfl) (by kernel_rfl) (by kernel_rfl) (by kernel_rfl) (by kernel_rfl) (fun _ _ _ h => h) (Or.inl ⟨by rfl, fun w hS => ?_⟩) (by first | exact t0 1 | (simp [go_sem]; done) | (simp [go_sem, *]; done)) ?_
        rotate_left
        · (skip; go_simp; first | done | with_reducible rfl)
        try simp only [Act.put, List.setIfInBounds_toArray, List.set_cons_zero, List.set_cons_succ]
        refine wpAnyW_take (i := 2) (oi := { dst := some 20, op := Op.move (Operand.tmp 7), type := 3, pos := "expression.go:78", after := #[], guard := none }) (v := ?_) rfl (by kernel_rfl) (by kernel_rfl) (by kernel_rfl) (by kernel_rfl) (fun _ _ _ h => h) (Or.inl ⟨by rfl, fun w _ => ?_⟩) ?_
        rotate_left
        · (go_simp; first | done | with_reducible rfl)
        try simp only [Act.put, List.setIfInBounds_toArray, List.set_cons_zero, List.set_cons_succ]
        refine wpAnyW_take (i := 3) (oi := { dst := some 21, op := Op.move (Operand.tmp 1), type := 57, pos := "expression.go:78", after := #[], guard := none }) (v := ?_) rfl (by kernel_rfl) (by kernel_rfl) (by kernel_rfl) (by kernel_rfl) (fun _ _ _ h => h) (Or.inl ⟨by rfl, fun w _ => ?_⟩) ?_
        rotate_left
        · (go_simp; first | done | with_reducible rfl)
        try simp only [Act.put, List.setIfInBounds_toArray, List.set_cons_zero, List.set_cons_succ]
        refine wpAnyW_take (i := 4) (oi := { dst := some 22, op := Op.move (Operand.tmp 2), type := 75, pos := "expression.go:78", after := #[], guard := none }) (v := ?_) rfl (by kernel_rfl) (by kernel_rfl) (by kernel_rfl) (by kernel_rfl) (fun _ _ _ h => h) (Or.inl ⟨by rfl, fun w _ => ?_⟩) ?_
        rotate_left
        · (go_simp; first | done | with_reducible rfl)
        try simp only [Act.put, List.setIfInBounds_toArray, List.set_cons_zero, List.set_cons_succ]
        refine wpAnyW_ready (rs := [5]) (by kernel_rfl) (by simp) ?_
        refine (AllReadyW.cons (o := { dst := some 23, op := Op.call { callee := Callee.value (Operand.tmp 22), args := #[], argTypes := #[] }, type := 57, pos := "expression.go:78", after := #[{ on := 4, ground := Ground.data }], guard := none }) rfl (fun K hK => ?_) AllReadyW.nil)
        go_simp
        refine (HC.out _ _ _ (HS.out.ri.bw (by repeat (first | exact Bw.refl _ | apply Bw.alloc | apply Bw.drewN | apply Bw.drew))) ho HNE.out).mono ?_
        intro e w2 h2
        rw [HQ.out] at h2
        obtain ⟨he2, hk2⟩ := h2
        subst he2
        exact ⟨rfl, rfl, (HS.out.kp.bw (by repeat (first | exact Bw.refl _ | apply Bw.alloc | apply Bw.drewN | apply Bw.drew))).trans hk2⟩
  | ok y c j =>
    have HNE := hid (show pP T f (.lev k) (i + 1) o ≠ .out by rw [HQ.out]; exact nofun)
    simp only [Res.bind]
    by_cases h1 : strOfNums (tk T i).2.1 = ⟨#[111, 114]⟩
    · have h1' : ((strOfNums (tk T i).2.1).toList == [111, 114]) = true := by rw [h1, ByteArray.toList_eq]; rfl
      rw [if_pos h1]
      clear h1
      go_enter Tryd.func71, Tryd.ntmps71
      go_wp2_with (first
        | (go_at_call 81; refine (take_any (HS.out.ri.bw (by repeat (first | exact Bw.refl _ | apply Bw.alloc | apply Bw.drewN | apply Bw.drew))) HN.out).mono ?_; unfold tokV; rintro e w1 ⟨rfl, hr1, hk1⟩; have HS := hid ((HS.out.bw (by repeat (first | exact Bw.refl _ | apply Bw.alloc | apply Bw.drewN | apply Bw.drew))).go hr1 hk1); have HT := hid (Blk.new w1 #[.int .i64 (tk T i).1, .string (strOfNums (tk T i).2.1), .int .i64 (tk T i).2.2.1, .int .i64 (tk T i).2.2.2] 72); have HRT := hid (show w1.heap.size ≠ r by have := HS.out.ri.k.lt; omega); clear hr1 hk1)
        | (go_at_call 54; refine (HC.out _ _ _ (HS.out.ri.bw (by repeat (first | exact Bw.refl _ | apply Bw.alloc | apply Bw.drewN | apply Bw.drew))) ho HNE.out).mono ?_; intro e w2 h2; rw [HQ.out] at h2; obtain ⟨b2, rfl, hp2, hr2, hk2⟩ := h2; have HT := hid (HT.out.kp ((Kp.of_bw (by repeat (first | exact Bw.refl _ | apply Bw.alloc | apply Bw.drewN | apply Bw.drew))).trans hk2) HRT.out); have HS := hid ((HS.out.bw (by repeat (first | exact Bw.refl _ | apply Bw.alloc | apply Bw.drewN | apply Bw.drew))).add hr2 hk2 hp2); have t1 := HT.out.cell; have tl := HT.out.lt; clear hp2 hr2 hk2)
        | (go_at_call 43; refine (made_any _ _ _ [x, y] [b, b2] _ _ (HS.out.row2 (x := x) (y := y) (b := b) (c := b2) (by simp) (by simp)).1 (HS.out.row2 (x := x) (y := y) (b := b) (c := b2) (by simp) (by simp)).2).mono ?_; rintro e w3 ⟨b3, rfl, hp3, hb3, _⟩; have HF := hid ((HS.out.bw (Bw.alloc (Bw.refl _) _)).fin hb3 hp3); clear hp3 hb3)
        | fail)
      all_goals go_ret
      all_goals exact ⟨_, rfl, HF.out⟩
    · have h1' : ((strOfNums (tk T i).2.1).toList == [111, 114]) = false := by have h9 := str_ne h1; rwa [ByteArray.toList_eq ⟨#[111, 114]⟩] at h9
      rw [if_neg h1]
      clear h1
      by_cases h2 : strOfNums (tk T i).2.1 = ⟨#[97, 110, 100]⟩
      · have h2' : ((strOfNums (tk T i).2.1).toList == [97, 110, 100]) = true := by rw [h2, ByteArray.toList_eq]; rfl
        rw [if_pos h2]
        clear h2
        skip
        go_enter Tryd.func71, Tryd.ntmps71
        go_wp2_with (first
          | (go_at_call 81; refine (take_any (HS.out.ri.bw (by repeat (first | exact Bw.refl _ | apply Bw.alloc | apply Bw.drewN | apply Bw.drew))) HN.out).mono ?_; unfold tokV; rintro e w1 ⟨rfl, hr1, hk1⟩; have HS := hid ((HS.out.bw (by repeat (first | exact Bw.refl _ | apply Bw.alloc | apply Bw.drewN | apply Bw.drew))).go hr1 hk1); have HT := hid (Blk.new w1 #[.int .i64 (tk T i).1, .string (strOfNums (tk T i).2.1), .int .i64 (tk T i).2.2.1, .int .i64 (tk T i).2.2.2] 72); have HRT := hid (show w1.heap.size ≠ r by have := HS.out.ri.k.lt; omega); clear hr1 hk1)
          | (go_at_call 54; refine (HC.out _ _ _ (HS.out.ri.bw (by repeat (first | exact Bw.refl _ | apply Bw.alloc | apply Bw.drewN | apply Bw.drew))) ho HNE.out).mono ?_; intro e w2 h2; rw [HQ.out] at h2; obtain ⟨b2, rfl, hp2, hr2, hk2⟩ := h2; have HT := hid (HT.out.kp ((Kp.of_bw (by repeat (first | exact Bw.refl _ | apply Bw.alloc | apply Bw.drewN | apply Bw.drew))).trans hk2) HRT.out); have HS := hid ((HS.out.bw (by repeat (first | exact Bw.refl _ | apply Bw.alloc | apply Bw.drewN | apply Bw.drew))).add hr2 hk2 hp2); have t1 := HT.out.cell; have tl := HT.out.lt; clear hp2 hr2 hk2)
          | (go_at_call 43; refine (made_any _ _ _ [x, y] [b, b2] _ _ (HS.out.row2 (x := x) (y := y) (b := b) (c := b2) (by simp) (by simp)).1 (HS.out.row2 (x := x) (y := y) (b := b) (c := b2) (by simp) (by simp)).2).mono ?_; rintro e w3 ⟨b3, rfl, hp3, hb3, _⟩; have HF := hid ((HS.out.bw (Bw.alloc (Bw.refl _) _)).fin hb3 hp3); clear hp3 hb3)
          | fail)
        all_goals go_ret
        all_goals exact ⟨_, rfl, HF.out⟩
      · have h2' : ((strOfNums (tk T i).2.1).toList == [97, 110, 100]) = false := by have h9 := str_ne h2; rwa [ByteArray.toList_eq ⟨#[97, 110, 100]⟩] at h9
        rw [if_neg h2]
        clear h2
        skip
        go_enter Tryd.func71, Tryd.ntmps71
        go_upto_region 4 with (first
          | (go_at_call 81; refine (take_any (HS.out.ri.bw (by repeat (first | exact Bw.refl _ | apply Bw.alloc | apply Bw.drewN | apply Bw.drew))) HN.out).mono ?_; unfold tokV; rintro e w1 ⟨rfl, hr1, hk1⟩; have HS := hid ((HS.out.bw (by repeat (first | exact Bw.refl _ | apply Bw.alloc | apply Bw.drewN | apply Bw.drew))).go hr1 hk1); have HT := hid (Blk.new w1 #[.int .i64 (tk T i).1, .string (strOfNums (tk T i).2.1), .int .i64 (tk T i).2.2.1, .int .i64 (tk T i).2.2.2] 72); have HRT := hid (show w1.heap.size ≠ r by have := HS.out.ri.k.lt; omega); clear hr1 hk1)
          | (go_at_call 54; refine (HC.out _ _ _ (HS.out.ri.bw (by repeat (first | exact Bw.refl _ | apply Bw.alloc | apply Bw.drewN | apply Bw.drew))) ho HNE.out).mono ?_; intro e w2 h2; rw [HQ.out] at h2; obtain ⟨b2, rfl, hp2, hr2, hk2⟩ := h2; have HT := hid (HT.out.kp ((Kp.of_bw (by repeat (first | exact Bw.refl _ | apply Bw.alloc | apply Bw.drewN | apply Bw.drew))).trans hk2) HRT.out); have HS := hid ((HS.out.bw (by repeat (first | exact Bw.refl _ | apply Bw.alloc | apply Bw.drewN | apply Bw.drew))).add hr2 hk2 hp2); have t1 := HT.out.cell; have tl := HT.out.lt; clear hp2 hr2 hk2)
          | (go_at_call 80; refine (madeNamed_any _ _ _ _ [x, y] [b, b2] _ _ (HS.out.row2 (x := x) (y := y) (b := b) (c := b2) (by simp) (by simp)).1 (HS.out.row2 (x := x) (y := y) (b := b) (c := b2) (by simp) (by simp)).2).mono ?_; rintro e w3 ⟨b3, rfl, hp3, hb3, _⟩; have HF := hid ((HS.out.bw (Bw.alloc (Bw.refl _) _)).fin hb3 hp3); clear hp3 hb3)
          | fail)
        have t0 := HT.out.cell
        have tl0 := HT.out.lt
        refine wp_region_W (fun w' => w'.cell? ⟨w1.heap.size, 1, none⟩ = some (.string (strOfNums (tk T i).2.1))) (fun j => if j == 5 || j == 6 then 0 else if j == 7 then 2 else 1) (by kernel_rfl) ?_
        refine wpAnyW_take (i := 0) (oi := { dst := some 18, op := Op.fieldAddr 72 (Operand.tmp 8) 1, type := 0, pos := "expression.go:78", after := #[], guard := none }) (v := ?_) rfl (by kernel_rfl) (by kernel_rfl) (by kernel_rfl) (by kernel_rfl) (fun _ _ _ h => h) (Or.inl ⟨by rfl, fun w _ => ?_⟩) ?_
        rotate_left
        · (go_simp; first | done | with_reducible rfl)
        try simp only [Act.put, List.setIfInBounds_toArray, List.set_cons_zero, List.set_cons_succ]
        refine wpAnyW_load (i := 1) (oi := { dst := some 19, op := Op.load 9 (Operand.tmp 18), type := 9, pos := "expression.go:78", after := #[{ on := 0, ground := Ground.data }], guard := none }) (v := ?_) rfl (by kernel_rfl) (by kernel_rfl) (by kernel_rfl) (by kernel_rfl) (by kernel_rfl) (fun _ _ _ h => h) (Or.inl ⟨by rfl, fun w hS => ?_⟩) (by first | exact t0 1 | (simp [go_sem]; done) | (simp [go_sem, *]; done)) ?_
        rotate_left
        · (skip; go_simp; first | done | with_reducible rfl)
        try simp only [Act.put, List.setIfInBounds_toArray, List.set_cons_zero, List.set_cons_succ]
        refine wpAnyW_take (i := 2) (oi := { dst := some 20, op := Op.move (Operand.tmp 7), type := 3, pos := "expression.go:78", after := #[], guard := none }) (v := ?_) rfl (by kernel_rfl) (by kernel_rfl) (by kernel_rfl) (by kernel_rfl) (fun _ _ _ h => h) (Or.inl ⟨by rfl, fun w _ => ?_⟩) ?_
        rotate_left
        · (go_simp; first | done | with_reducible rfl)
        try simp only [Act.put, List.setIfInBounds_toArray, List.set_cons_zero, List.set_cons_succ]
        refine wpAnyW_take (i := 3) (oi := { dst := some 21, op := Op.move (Operand.tmp 1), type := 57, pos := "expression.go:78", after := #[], guard := none }) (v := ?_) rfl (by kernel_rfl) (by kernel_rfl) (by kernel_rfl) (by kernel_rfl) (fun _ _ _ h => h) (Or.inl ⟨by rfl, fun w _ => ?_⟩) ?_
        rotate_left
        · (go_simp; first | done | with_reducible rfl)
        try simp only [Act.put, List.setIfInBounds_toArray, List.set_cons_zero, List.set_cons_succ]
        refine wpAnyW_take (i := 4) (oi := { dst := some 22, op := Op.move (Operand.tmp 2), type := 75, pos := "expression.go:78", after := #[], guard := none }) (v := ?_) rfl (by kernel_rfl) (by kernel_rfl) (by kernel_rfl) (by kernel_rfl) (fun _ _ _ h => h) (Or.inl ⟨by rfl, fun w _ => ?_⟩) ?_
        rotate_left
        · (go_simp; first | done | with_reducible rfl)
        try simp only [Act.put, List.setIfInBounds_toArray, List.set_cons_zero, List.set_cons_succ]
        refine wpAnyW_ready (rs := [5]) (by kernel_rfl) (by simp) ?_
        refine (AllReadyW.cons (o := { dst := some 23, op := Op.call { callee := Callee.value (Operand.tmp 22), args := #[], argTypes := #[] }, type := 57, pos := "expression.go:78", after := #[{ on := 4, ground := Ground.data }], guard := none }) rfl (fun K hK => ?_) AllReadyW.nil)
        go_simp
        refine (HC.out _ _ _ (HS.out.ri.bw (by repeat (first | exact Bw.refl _ | apply Bw.alloc | apply Bw.drewN | apply Bw.drew))) ho HNE.out).mono ?_
        intro e w2 h2
        rw [HQ.out] at h2
        obtain ⟨b2, he2, hp2, hr2, hk2⟩ := h2
        subst he2
        have HT := hid (HT.out.kp ((Kp.of_bw (by repeat (first | exact Bw.refl _ | apply Bw.alloc | apply Bw.drewN | apply Bw.drew))).trans hk2) HRT.out)
        have HS := hid ((HS.out.bw (by repeat (first | exact Bw.refl _ | apply Bw.alloc | apply Bw.drewN | apply Bw.drew))).add hr2 hk2 hp2)
        have t1 := HT.out.cell
        have tl := HT.out.lt
        clear hp2 hr2 hk2
        refine hK.out _ _ (t1 1) ?_
        clear hK K
        try simp only [Act.put, List.setIfInBounds_toArray, List.set_cons_zero, List.set_cons_succ]
        refine wpAnyW_ready (rs := [6]) (by kernel_rfl) (by simp) ?_
        refine (AllReadyW.cons (o := { dst := some 24, op := Op.buildSlice 81 2 #[(0, Operand.tmp 21), (1, Operand.tmp 23)], type := 81, pos := "expression.go:78", after := #[{ on := 3, ground := Ground.data }, { on := 5, ground := Ground.data }], guard := none }) rfl (fun K hK => ?_) AllReadyW.nil)
        go_simp
        refine hK.out _ _ ((HT.out.bw (Bw.alloc (Bw.refl _) _)).cell 1) ?_
        clear hK K
        try simp only [Act.put, List.setIfInBounds_toArray, List.set_cons_zero, List.set_cons_succ]
        refine wpAnyW_ready (rs := [7]) (by kernel_rfl) (by simp) ?_
        refine (AllReadyW.cons (o := { dst := some 25, op := Op.call { callee := Callee.value (Operand.func 80), args := #[Operand.const (Value.int IntKind.i64 23), Operand.tmp 19, Operand.tmp 20, Operand.tmp 24], argTypes := #[3, 9, 3, 81] }, type := 57, pos := "expression.go:78", after := #[{ on := 1, ground := Ground.data }, { on := 2, ground := Ground.data }, { on := 6, ground := Ground.data }, { on := 5, ground := Ground.chain }], guard := none }) rfl (fun K hK => ?_) AllReadyW.nil)
        go_simp
        refine (madeNamed_any _ _ _ _ [x, y] [b, b2] _ _ (HS.out.row2 (x := x) (y := y) (b := b) (c := b2) (by simp) (by simp)).1 (HS.out.row2 (x := x) (y := y) (b := b) (c := b2) (by simp) (by simp)).2).mono ?_
        rintro e w3 ⟨b3, he3, hp3, hb3, _⟩
        subst he3
        have HF := hid ((HS.out.bw (Bw.alloc (Bw.refl _) _)).fin hb3 hp3)
        clear hp3 hb3
        refine hK.out _ _ trivial ?_
        clear hK K
        try simp only [Act.put, List.setIfInBounds_toArray, List.set_cons_zero, List.set_cons_succ]
        refine wpAnyW_take (i := 8) (oi := { dst := some 6, op := Op.assign (Operand.tmp 25), type := 57, pos := "expression.go:78", after := #[{ on := 7, ground := Ground.data }, { on := 7, ground := Ground.chain }, { on := 0, ground := Ground.phase }, { on := 1, ground := Ground.phase }, { on := 2, ground := Ground.phase }, { on := 3, ground := Ground.phase }, { on := 4, ground := Ground.phase }, { on := 5, ground := Ground.phase }, { on := 6, ground := Ground.phase }, { on := 7, ground := Ground.phase }], guard := none }) (v := ?_) rfl (by kernel_rfl) (by kernel_rfl) (by kernel_rfl) (by kernel_rfl) (fun _ _ _ h => h) (Or.inl ⟨by rfl, fun w _ => ?_⟩) ?_
        rotate_left
        · (go_simp; first | done | with_reducible rfl)
        try simp only [Act.put, List.setIfInBounds_toArray, List.set_cons_zero, List.set_cons_succ]
        refine wpAnyW_done (by kernel_rfl) ?_ _
        go_wp2
        all_goals go_ret
        all_goals exact ⟨_, rfl, HF.out⟩

end

end Go.Proofs.YtlcieebneclmpaaDoor

