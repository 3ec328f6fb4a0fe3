/- What stands alone: contract. -/
import Derived.Test.YtlcieebneclmpaaDoorPyak
import Derived.Test.YtlcieebneclmpaaDoorK9
import Derived.Test.YtlcieebneclmpaaDoorK10
set_option linter.unusedSimpArgs false
set_option linter.unusedVariables false
namespace Go.Proofs.YtlcieebneclmpaaDoor
open Go Go.RowKit

section
variable {B : World} {r g cap : Nat} {T : List ATok} {ex : Nat → Value}

set_option maxRecDepth 100000 in
set_option maxHeartbeats 8000000 in
theorem single_any (pa pb pc : Nat) (e0 : ex 0 = .func (.func 69) #[] #[.pointer (some ⟨pa, 0, none⟩), .pointer (some ⟨pb, 0, none⟩), .pointer (some ⟨pc, 0, none⟩)]) (f : Nat) (he : RdP B r g cap T ex f 69 #[.pointer (some ⟨pa, 0, none⟩), .pointer (some ⟨pb, 0, none⟩), .pointer (some ⟨pc, 0, none⟩)] (.lev 0)) (hre : RdR B r g cap T ex f 93 .ent) (hrk : RdR B r g cap T ex f 94 .key) (hbd : RdB B r g cap T ex f) : RdP B r g cap T ex (f + 1) 87 #[.pointer (some ⟨r, 0, none⟩)] .single := by
  intro w i o h ho hne
  simp only [pP] at hne ⊢
  have HS := hid (SI.begin h)
  have HE := hid he
  have HRE := hid hre
  have HRK := hid hrk
  have HBD := hid hbd
  have HBB := hid h.kb.size
  have hmf : ∀ (fn : Fn) (first cap : Array Value) (w : World), (Instr.makeFunc fn first cap).run Tryd.prog w = .ok (.func fn first cap) w := fun _ _ _ _ => rfl
  have zz := HS.out.ri.k.cell; have zf := HS.out.ri.k.free; have zl := HS.out.ri.k.lt
  clear h he hre hrk hbd
  by_cases hk3 : (tk T i).1 = 3
  · rw [if_pos hk3]
    have q3 : ((tk T i).1 == 3) = true := by simp [hk3]
    have HN := hid (show (tk T i).1 ≠ 0 by omega)
    clear hk3 hne
    go_enter Tryd.func87, Tryd.ntmps87
    go_wp2_with (first
      | (go_at_call 57; refine (token_any (HS.out.ri.bw (by repeat (first | exact Bw.refl _ | apply Bw.alloc | apply Bw.drewN | apply Bw.drew)))).mono ?_; unfold tokV; rintro e wt ⟨rfl, hb1⟩; have HS := hid (HS.out.bw (Bw.trans (by repeat (first | exact Bw.refl _ | apply Bw.alloc | apply Bw.drewN | apply Bw.drew)) hb1)); have HT := hid (Blk.new wt #[.int .i64 (tk T i).1, .string (strOfNums (tk T i).2.1), .int .i64 (tk T i).2.2.1, .int .i64 (tk T i).2.2.2] 72); have HRT := hid (show wt.heap.size ≠ r by have := HS.out.ri.k.lt; omega); have zz := HS.out.ri.k.cell; have zf := HS.out.ri.k.free; have zl := HS.out.ri.k.lt; clear hb1)
      | (go_at_call 81; refine (take_any (HS.out.ri.bw (by repeat (first | exact Bw.refl _ | apply Bw.alloc | apply Bw.drewN | apply Bw.drew))) HN.out).mono ?_; unfold tokV; rintro e w1 ⟨rfl, hr1, hk1⟩; have HT := hid (HT.out.kp ((Kp.of_bw (by repeat (first | exact Bw.refl _ | apply Bw.alloc | apply Bw.drewN | apply Bw.drew))).trans hk1) HRT.out); have t1 := HT.out.cell; have tl := HT.out.lt; have HS := hid ((HS.out.bw (by repeat (first | exact Bw.refl _ | apply Bw.alloc | apply Bw.drewN | apply Bw.drew))).go hr1 hk1); have zz := HS.out.ri.k.cell; have zf := HS.out.ri.k.free; have zl := HS.out.ri.k.lt; clear hr1 hk1)
      | fail)
    all_goals go_ret
    all_goals have HP9 := ptm_new (w := w1) (w' := w1.alloc (.cells (prtC 14 [] (tk T i).2.2.1 (tk T i).2.2.2 (.slice none 0 0)) 83)) (S := Fp w No w1) (k := 14) (x := []) (n := (tk T i).2.2.1) (a := (tk T i).2.2.2) (v := .slice none 0 0) (ks := []) (bs := []) (b := w1.heap.size) (RowM.nil _ _) (show PtsM _ _ [] [] from rfl) (Bw.alloc (Bw.refl _) _) (Nat.le_refl _) (Blk.new _ _ _)
    all_goals exact ⟨_, rfl, (HS.out.put (Bw.alloc (Bw.refl _) _) HP9).outp (by simp)⟩
  rw [if_neg hk3] at hne ⊢
  have q3 : ((tk T i).1 == 3) = false := by simp [hk3]
  clear hk3
  by_cases hk4 : (tk T i).1 = 4
  · rw [if_pos hk4]
    have q4 : ((tk T i).1 == 4) = true := by simp [hk4]
    have HN := hid (show (tk T i).1 ≠ 0 by omega)
    clear hk4 hne
    go_enter Tryd.func87, Tryd.ntmps87
    go_wp2_with (first
      | (go_at_call 57; refine (token_any (HS.out.ri.bw (by repeat (first | exact Bw.refl _ | apply Bw.alloc | apply Bw.drewN | apply Bw.drew)))).mono ?_; unfold tokV; rintro e wt ⟨rfl, hb1⟩; have HS := hid (HS.out.bw (Bw.trans (by repeat (first | exact Bw.refl _ | apply Bw.alloc | apply Bw.drewN | apply Bw.drew)) hb1)); have HT := hid (Blk.new wt #[.int .i64 (tk T i).1, .string (strOfNums (tk T i).2.1), .int .i64 (tk T i).2.2.1, .int .i64 (tk T i).2.2.2] 72); have HRT := hid (show wt.heap.size ≠ r by have := HS.out.ri.k.lt; omega); have zz := HS.out.ri.k.cell; have zf := HS.out.ri.k.free; have zl := HS.out.ri.k.lt; clear hb1)
      | (go_at_call 81; refine (take_any (HS.out.ri.bw (by repeat (first | exact Bw.refl _ | apply Bw.alloc | apply Bw.drewN | apply Bw.drew))) HN.out).mono ?_; unfold tokV; rintro e w1 ⟨rfl, hr1, hk1⟩; have HT := hid (HT.out.kp ((Kp.of_bw (by repeat (first | exact Bw.refl _ | apply Bw.alloc | apply Bw.drewN | apply Bw.drew))).trans hk1) HRT.out); have t1 := HT.out.cell; have tl := HT.out.lt; have HS := hid ((HS.out.bw (by repeat (first | exact Bw.refl _ | apply Bw.alloc | apply Bw.drewN | apply Bw.drew))).go hr1 hk1); have zz := HS.out.ri.k.cell; have zf := HS.out.ri.k.free; have zl := HS.out.ri.k.lt; clear hr1 hk1)
      | (go_at_call 80; refine (madeNamed_any _ _ _ _ [] [] _ _ (HS.out.bw (by repeat (first | exact Bw.refl _ | apply Bw.alloc | apply Bw.drewN | apply Bw.drew))).row0.1 (HS.out.bw (by repeat (first | exact Bw.refl _ | apply Bw.alloc | apply Bw.drewN | apply Bw.drew))).row0.2).mono ?_; rintro e w3 ⟨b3, rfl, hp3, hb3, hn3, hc3⟩; have HS := hid ((HS.out.bw (by repeat (first | exact Bw.refl _ | apply Bw.alloc | apply Bw.drewN | apply Bw.drew))).put hb3 hp3); have zz := HS.out.ri.k.cell; have zf := HS.out.ri.k.free; have zl := HS.out.ri.k.lt; clear hp3 hb3)
      | fail)
    all_goals go_ret
    all_goals exact ⟨_, rfl, HS.out.outp (by simp)⟩
  rw [if_neg hk4] at hne ⊢
  have q4 : ((tk T i).1 == 4) = false := by simp [hk4]
  clear hk4
  by_cases hk1 : (tk T i).1 = 1
  · rw [if_pos hk1]
    have q1 : ((tk T i).1 == 1) = true := by simp [hk1]
    have HN := hid (show (tk T i).1 ≠ 0 by omega)
    clear hk1 hne
    go_enter Tryd.func87, Tryd.ntmps87
    go_wp2_with (first
      | (go_at_call 57; refine (token_any (HS.out.ri.bw (by repeat (first | exact Bw.refl _ | apply Bw.alloc | apply Bw.drewN | apply Bw.drew)))).mono ?_; unfold tokV; rintro e wt ⟨rfl, hb1⟩; have HS := hid (HS.out.bw (Bw.trans (by repeat (first | exact Bw.refl _ | apply Bw.alloc | apply Bw.drewN | apply Bw.drew)) hb1)); have HT := hid (Blk.new wt #[.int .i64 (tk T i).1, .string (strOfNums (tk T i).2.1), .int .i64 (tk T i).2.2.1, .int .i64 (tk T i).2.2.2] 72); have HRT := hid (show wt.heap.size ≠ r by have := HS.out.ri.k.lt; omega); have zz := HS.out.ri.k.cell; have zf := HS.out.ri.k.free; have zl := HS.out.ri.k.lt; clear hb1)
      | (go_at_call 81; refine (take_any (HS.out.ri.bw (by repeat (first | exact Bw.refl _ | apply Bw.alloc | apply Bw.drewN | apply Bw.drew))) HN.out).mono ?_; unfold tokV; rintro e w1 ⟨rfl, hr1, hk1⟩; have HT := hid (HT.out.kp ((Kp.of_bw (by repeat (first | exact Bw.refl _ | apply Bw.alloc | apply Bw.drewN | apply Bw.drew))).trans hk1) HRT.out); have t1 := HT.out.cell; have tl := HT.out.lt; have HS := hid ((HS.out.bw (by repeat (first | exact Bw.refl _ | apply Bw.alloc | apply Bw.drewN | apply Bw.drew))).go hr1 hk1); have zz := HS.out.ri.k.cell; have zf := HS.out.ri.k.free; have zl := HS.out.ri.k.lt; clear hr1 hk1)
      | (go_at_call 80; refine (madeNamed_any _ _ _ _ [] [] _ _ (HS.out.bw (by repeat (first | exact Bw.refl _ | apply Bw.alloc | apply Bw.drewN | apply Bw.drew))).row0.1 (HS.out.bw (by repeat (first | exact Bw.refl _ | apply Bw.alloc | apply Bw.drewN | apply Bw.drew))).row0.2).mono ?_; rintro e w3 ⟨b3, rfl, hp3, hb3, hn3, hc3⟩; have HS := hid ((HS.out.bw (by repeat (first | exact Bw.refl _ | apply Bw.alloc | apply Bw.drewN | apply Bw.drew))).put hb3 hp3); have zz := HS.out.ri.k.cell; have zf := HS.out.ri.k.free; have zl := HS.out.ri.k.lt; clear hp3 hb3)
      | fail)
    all_goals go_ret
    all_goals exact ⟨_, rfl, HS.out.outp (by simp)⟩
  rw [if_neg hk1] at hne ⊢
  have q1 : ((tk T i).1 == 1) = false := by simp [hk1]
  clear hk1
  cases o16 : isT T i ⟨#[116, 114, 117, 101]⟩
  case true =>
    rw [if_pos rfl]
    have HI := hid o16
    clear hne
    go_enter Tryd.func87, Tryd.ntmps87
    go_wp2_with (first
      | (go_at_call 57; refine (token_any (HS.out.ri.bw (by repeat (first | exact Bw.refl _ | apply Bw.alloc | apply Bw.drewN | apply Bw.drew)))).mono ?_; unfold tokV; rintro e wt ⟨rfl, hb1⟩; have HS := hid (HS.out.bw (Bw.trans (by repeat (first | exact Bw.refl _ | apply Bw.alloc | apply Bw.drewN | apply Bw.drew)) hb1)); have HT := hid (Blk.new wt #[.int .i64 (tk T i).1, .string (strOfNums (tk T i).2.1), .int .i64 (tk T i).2.2.1, .int .i64 (tk T i).2.2.2] 72); have HRT := hid (show wt.heap.size ≠ r by have := HS.out.ri.k.lt; omega); have zz := HS.out.ri.k.cell; have zf := HS.out.ri.k.free; have zl := HS.out.ri.k.lt; clear hb1)
      | (go_at_call 58; refine (is_any _ (HS.out.ri.bw (by repeat (first | exact Bw.refl _ | apply Bw.alloc | apply Bw.drewN | apply Bw.drew)))).mono ?_; rintro e w1 ⟨rfl, hb1⟩; have HT := hid (HT.out.bw (Bw.trans (by repeat (first | exact Bw.refl _ | apply Bw.alloc | apply Bw.drewN | apply Bw.drew)) hb1)); have t1 := HT.out.cell; have tl := HT.out.lt; have HS := hid (HS.out.bw (Bw.trans (by repeat (first | exact Bw.refl _ | apply Bw.alloc | apply Bw.drewN | apply Bw.drew)) hb1)); have zz := HS.out.ri.k.cell; have zf := HS.out.ri.k.free; have zl := HS.out.ri.k.lt; clear hb1)
      | (go_at_call 62; refine (want_yes _ (HS.out.ri.bw (by repeat (first | exact Bw.refl _ | apply Bw.alloc | apply Bw.drewN | apply Bw.drew))) HI.out).mono ?_; rintro e w1 ⟨rfl, hr1, hk1⟩; have HS := hid ((HS.out.bw (by repeat (first | exact Bw.refl _ | apply Bw.alloc | apply Bw.drewN | apply Bw.drew))).go hr1 hk1); have zz := HS.out.ri.k.cell; have zf := HS.out.ri.k.free; have zl := HS.out.ri.k.lt; clear hr1 hk1)
      | (go_at_call 43; refine (made_any _ _ _ [] [] _ _ (HS.out.bw (by repeat (first | exact Bw.refl _ | apply Bw.alloc | apply Bw.drewN | apply Bw.drew))).row0.1 (HS.out.bw (by repeat (first | exact Bw.refl _ | apply Bw.alloc | apply Bw.drewN | apply Bw.drew))).row0.2).mono ?_; rintro e w3 ⟨b3, rfl, hp3, hb3, hn3, hc3⟩; have HS := hid ((HS.out.bw (by repeat (first | exact Bw.refl _ | apply Bw.alloc | apply Bw.drewN | apply Bw.drew))).put hb3 hp3); have zz := HS.out.ri.k.cell; have zf := HS.out.ri.k.free; have zl := HS.out.ri.k.lt; clear hp3 hb3)
      | fail)
    all_goals go_ret
    all_goals exact ⟨_, rfl, HS.out.outp (by simp)⟩
  rw [o16, if_neg (by decide)] at hne
  rw [if_neg (by decide)]
  cases o17 : isT T i ⟨#[102, 97, 108, 115, 101]⟩
  case true =>
    rw [if_pos rfl]
    have HI := hid o17
    clear hne
    go_enter Tryd.func87, Tryd.ntmps87
    go_wp2_with (first
      | (go_at_call 57; refine (token_any (HS.out.ri.bw (by repeat (first | exact Bw.refl _ | apply Bw.alloc | apply Bw.drewN | apply Bw.drew)))).mono ?_; unfold tokV; rintro e wt ⟨rfl, hb1⟩; have HS := hid (HS.out.bw (Bw.trans (by repeat (first | exact Bw.refl _ | apply Bw.alloc | apply Bw.drewN | apply Bw.drew)) hb1)); have HT := hid (Blk.new wt #[.int .i64 (tk T i).1, .string (strOfNums (tk T i).2.1), .int .i64 (tk T i).2.2.1, .int .i64 (tk T i).2.2.2] 72); have HRT := hid (show wt.heap.size ≠ r by have := HS.out.ri.k.lt; omega); have zz := HS.out.ri.k.cell; have zf := HS.out.ri.k.free; have zl := HS.out.ri.k.lt; clear hb1)
      | (go_at_call 58; refine (is_any _ (HS.out.ri.bw (by repeat (first | exact Bw.refl _ | apply Bw.alloc | apply Bw.drewN | apply Bw.drew)))).mono ?_; rintro e w1 ⟨rfl, hb1⟩; have HT := hid (HT.out.bw (Bw.trans (by repeat (first | exact Bw.refl _ | apply Bw.alloc | apply Bw.drewN | apply Bw.drew)) hb1)); have t1 := HT.out.cell; have tl := HT.out.lt; have HS := hid (HS.out.bw (Bw.trans (by repeat (first | exact Bw.refl _ | apply Bw.alloc | apply Bw.drewN | apply Bw.drew)) hb1)); have zz := HS.out.ri.k.cell; have zf := HS.out.ri.k.free; have zl := HS.out.ri.k.lt; clear hb1)
      | (go_at_call 62; refine (want_yes _ (HS.out.ri.bw (by repeat (first | exact Bw.refl _ | apply Bw.alloc | apply Bw.drewN | apply Bw.drew))) HI.out).mono ?_; rintro e w1 ⟨rfl, hr1, hk1⟩; have HS := hid ((HS.out.bw (by repeat (first | exact Bw.refl _ | apply Bw.alloc | apply Bw.drewN | apply Bw.drew))).go hr1 hk1); have zz := HS.out.ri.k.cell; have zf := HS.out.ri.k.free; have zl := HS.out.ri.k.lt; clear hr1 hk1)
      | (go_at_call 43; refine (made_any _ _ _ [] [] _ _ (HS.out.bw (by repeat (first | exact Bw.refl _ | apply Bw.alloc | apply Bw.drewN | apply Bw.drew))).row0.1 (HS.out.bw (by repeat (first | exact Bw.refl _ | apply Bw.alloc | apply Bw.drewN | apply Bw.drew))).row0.2).mono ?_; rintro e w3 ⟨b3, rfl, hp3, hb3, hn3, hc3⟩; have HS := hid ((HS.out.bw (by repeat (first | exact Bw.refl _ | apply Bw.alloc | apply Bw.drewN | apply Bw.drew))).put hb3 hp3); have zz := HS.out.ri.k.cell; have zf := HS.out.ri.k.free; have zl := HS.out.ri.k.lt; clear hp3 hb3)
      | fail)
    all_goals go_ret
    all_goals exact ⟨_, rfl, HS.out.outp (by simp)⟩
  rw [o17, if_neg (by decide)] at hne
  rw [if_neg (by decide)]
  cases o18 : isT T i ⟨#[110, 105, 108]⟩
  case true =>
    rw [if_pos rfl]
    have HI := hid o18
    clear hne
    go_enter Tryd.func87, Tryd.ntmps87
    go_wp2_with (first
      | (go_at_call 57; refine (token_any (HS.out.ri.bw (by repeat (first | exact Bw.refl _ | apply Bw.alloc | apply Bw.drewN | apply Bw.drew)))).mono ?_; unfold tokV; rintro e wt ⟨rfl, hb1⟩; have HS := hid (HS.out.bw (Bw.trans (by repeat (first | exact Bw.refl _ | apply Bw.alloc | apply Bw.drewN | apply Bw.drew)) hb1)); have HT := hid (Blk.new wt #[.int .i64 (tk T i).1, .string (strOfNums (tk T i).2.1), .int .i64 (tk T i).2.2.1, .int .i64 (tk T i).2.2.2] 72); have HRT := hid (show wt.heap.size ≠ r by have := HS.out.ri.k.lt; omega); have zz := HS.out.ri.k.cell; have zf := HS.out.ri.k.free; have zl := HS.out.ri.k.lt; clear hb1)
      | (go_at_call 58; refine (is_any _ (HS.out.ri.bw (by repeat (first | exact Bw.refl _ | apply Bw.alloc | apply Bw.drewN | apply Bw.drew)))).mono ?_; rintro e w1 ⟨rfl, hb1⟩; have HT := hid (HT.out.bw (Bw.trans (by repeat (first | exact Bw.refl _ | apply Bw.alloc | apply Bw.drewN | apply Bw.drew)) hb1)); have t1 := HT.out.cell; have tl := HT.out.lt; have HS := hid (HS.out.bw (Bw.trans (by repeat (first | exact Bw.refl _ | apply Bw.alloc | apply Bw.drewN | apply Bw.drew)) hb1)); have zz := HS.out.ri.k.cell; have zf := HS.out.ri.k.free; have zl := HS.out.ri.k.lt; clear hb1)
      | (go_at_call 62; refine (want_yes _ (HS.out.ri.bw (by repeat (first | exact Bw.refl _ | apply Bw.alloc | apply Bw.drewN | apply Bw.drew))) HI.out).mono ?_; rintro e w1 ⟨rfl, hr1, hk1⟩; have HS := hid ((HS.out.bw (by repeat (first | exact Bw.refl _ | apply Bw.alloc | apply Bw.drewN | apply Bw.drew))).go hr1 hk1); have zz := HS.out.ri.k.cell; have zf := HS.out.ri.k.free; have zl := HS.out.ri.k.lt; clear hr1 hk1)
      | (go_at_call 43; refine (made_any _ _ _ [] [] _ _ (HS.out.bw (by repeat (first | exact Bw.refl _ | apply Bw.alloc | apply Bw.drewN | apply Bw.drew))).row0.1 (HS.out.bw (by repeat (first | exact Bw.refl _ | apply Bw.alloc | apply Bw.drewN | apply Bw.drew))).row0.2).mono ?_; rintro e w3 ⟨b3, rfl, hp3, hb3, hn3, hc3⟩; have HS := hid ((HS.out.bw (by repeat (first | exact Bw.refl _ | apply Bw.alloc | apply Bw.drewN | apply Bw.drew))).put hb3 hp3); have zz := HS.out.ri.k.cell; have zf := HS.out.ri.k.free; have zl := HS.out.ri.k.lt; clear hp3 hb3)
      | fail)
    all_goals go_ret
    all_goals exact ⟨_, rfl, HS.out.outp (by simp)⟩
  rw [o18, if_neg (by decide)] at hne
  rw [if_neg (by decide)]
  cases o20 : isT T i ⟨#[91]⟩
  case true =>
    rw [o20, if_pos rfl] at hne
    rw [if_pos rfl]
    have HNE := hid (show pP T f (.row .ent ⟨#[91]⟩ ⟨#[93]⟩) i o ≠ .out from fun q => hne (by rw [q]; rfl))
    clear hne
    generalize hq : pP T f (.row .ent ⟨#[91]⟩ ⟨#[93]⟩) i o = R
    have HQ := hid hq
    clear hq
    cases R with
    | out => exact absurd HQ.out HNE.out
    | bad n m =>
      simp only [Res.bind]
      go_enter Tryd.func87, Tryd.ntmps87
      go_upto_region 18 with (first
        | (go_at_call 57; refine (token_any (HS.out.ri.bw (by repeat (first | exact Bw.refl _ | apply Bw.alloc | apply Bw.drewN | apply Bw.drew)))).mono ?_; unfold tokV; rintro e wt ⟨rfl, hb1⟩; have HS := hid (HS.out.bw (Bw.trans (by repeat (first | exact Bw.refl _ | apply Bw.alloc | apply Bw.drewN | apply Bw.drew)) hb1)); have HT := hid (Blk.new wt #[.int .i64 (tk T i).1, .string (strOfNums (tk T i).2.1), .int .i64 (tk T i).2.2.1, .int .i64 (tk T i).2.2.2] 72); have HRT := hid (show wt.heap.size ≠ r by have := HS.out.ri.k.lt; omega); have zz := HS.out.ri.k.cell; have zf := HS.out.ri.k.free; have zl := HS.out.ri.k.lt; clear hb1)
        | (go_at_call 58; refine (is_any _ (HS.out.ri.bw (by repeat (first | exact Bw.refl _ | apply Bw.alloc | apply Bw.drewN | apply Bw.drew)))).mono ?_; rintro e w1 ⟨rfl, hb1⟩; have HT := hid (HT.out.bw (Bw.trans (by repeat (first | exact Bw.refl _ | apply Bw.alloc | apply Bw.drewN | apply Bw.drew)) hb1)); have t1 := HT.out.cell; have tl := HT.out.lt; have HS := hid (HS.out.bw (Bw.trans (by repeat (first | exact Bw.refl _ | apply Bw.alloc | apply Bw.drewN | apply Bw.drew)) hb1)); have zz := HS.out.ri.k.cell; have zf := HS.out.ri.k.free; have zl := HS.out.ri.k.lt; clear hb1)
        | fail)
      refine wp_region_W (fun w' => w'.cell? ⟨wt.heap.size, 3, none⟩ = some (.int .i64 (tk T i).2.2.2)) (fun j => if j == 5 then 0 else 1) (by kernel_rfl) ?_
      refine wpAnyW_take (i := 0) (oi := { dst := some 62, op := Op.fieldAddr 72 (Operand.tmp 3) 3, type := 0, pos := "expression.go:160", after := #[], guard := none }) (v := ?_) rfl (by kernel_rfl) (by kernel_rfl) (by kernel_rfl) (by kernel_rfl) (fun _ _ _ h => h) (Or.inl ⟨by rfl, fun w _ => ?_⟩) ?_
      rotate_left
      · (go_simp; first | done | with_reducible rfl)
      try simp only [Act.put, List.setIfInBounds_toArray, List.set_cons_zero, List.set_cons_succ]
      refine wpAnyW_load (i := 1) (oi := { dst := some 63, op := Op.load 3 (Operand.tmp 62), type := 3, pos := "expression.go:160", after := #[{ on := 0, ground := Ground.data }], guard := none }) (v := ?_) rfl (by kernel_rfl) (by kernel_rfl) (by kernel_rfl) (by kernel_rfl) (by kernel_rfl) (fun _ _ _ h => h) (Or.inl ⟨by rfl, fun w hS => ?_⟩) (t1 3) ?_
      rotate_left
      · (skip; go_simp; first | done | with_reducible rfl)
      try simp only [Act.put, List.setIfInBounds_toArray, List.set_cons_zero, List.set_cons_succ]
      refine wpAnyW_take (i := 2) (oi := { dst := some 64, op := Op.move (Operand.tmp 0), type := 58, pos := "expression.go:160", after := #[], guard := none }) (v := ?_) rfl (by kernel_rfl) (by kernel_rfl) (by kernel_rfl) (by kernel_rfl) (fun _ _ _ h => h) (Or.inl ⟨by rfl, fun w _ => ?_⟩) ?_
      rotate_left
      · (go_simp; first | done | with_reducible rfl)
      try simp only [Act.put, List.setIfInBounds_toArray, List.set_cons_zero, List.set_cons_succ]
      refine wpAnyW_take (i := 3) (oi := { dst := some 65, op := Op.move (Operand.tmp 0), type := 58, pos := "expression.go:160", after := #[], guard := none }) (v := ?_) rfl (by kernel_rfl) (by kernel_rfl) (by kernel_rfl) (by kernel_rfl) (fun _ _ _ h => h) (Or.inl ⟨by rfl, fun w _ => ?_⟩) ?_
      rotate_left
      · (go_simp; first | done | with_reducible rfl)
      try simp only [Act.put, List.setIfInBounds_toArray, List.set_cons_zero, List.set_cons_succ]
      refine wpAnyW_take (i := 4) (oi := { dst := some 66, op := Op.makeFunc (Fn.func 93) #[Operand.tmp 65] #[], type := 105, pos := "expression.go:160", after := #[{ on := 3, ground := Ground.data }], guard := none }) (v := ?_) rfl (by kernel_rfl) (by kernel_rfl) (by kernel_rfl) (by kernel_rfl) (fun _ _ _ h => h) (Or.inl ⟨by rfl, fun w _ => ?_⟩) ?_
      rotate_left
      · (go_simp; first | done | with_reducible rfl)
      try simp only [Act.put, List.setIfInBounds_toArray, List.set_cons_zero, List.set_cons_succ]
      refine wpAnyW_ready (rs := [5]) (by kernel_rfl) (by simp) ?_
      refine (AllReadyW.cons (o := { dst := some 67, op := Op.call { callee := Callee.value (Operand.func 88), args := #[Operand.tmp 64, Operand.const (Value.string { data := #[91] }), Operand.const (Value.string { data := #[93] }), Operand.tmp 66], argTypes := #[58, 9, 9, 105] }, type := 81, pos := "expression.go:160", after := #[{ on := 2, ground := Ground.data }, { on := 4, ground := Ground.data }], guard := none }) rfl (fun K hK => ?_) AllReadyW.nil)
      go_simp
      refine (HRE.out _ _ _ _ _ (HS.out.ri.bw (by repeat (first | exact Bw.refl _ | apply Bw.alloc | apply Bw.drewN | apply Bw.drew))) ho HNE.out).mono ?_
      intro e w2 h2
      rw [HQ.out] at h2
      obtain ⟨he2, hk2⟩ := h2
      subst he2
      exact ⟨rfl, rfl, (HS.out.kp.bw (by repeat (first | exact Bw.refl _ | apply Bw.alloc | apply Bw.drewN | apply Bw.drew))).trans hk2⟩
    | ok x c j =>
      simp only [Res.bind]
      go_enter Tryd.func87, Tryd.ntmps87
      go_upto_region 18 with (first
        | (go_at_call 57; refine (token_any (HS.out.ri.bw (by repeat (first | exact Bw.refl _ | apply Bw.alloc | apply Bw.drewN | apply Bw.drew)))).mono ?_; unfold tokV; rintro e wt ⟨rfl, hb1⟩; have HS := hid (HS.out.bw (Bw.trans (by repeat (first | exact Bw.refl _ | apply Bw.alloc | apply Bw.drewN | apply Bw.drew)) hb1)); have HT := hid (Blk.new wt #[.int .i64 (tk T i).1, .string (strOfNums (tk T i).2.1), .int .i64 (tk T i).2.2.1, .int .i64 (tk T i).2.2.2] 72); have HRT := hid (show wt.heap.size ≠ r by have := HS.out.ri.k.lt; omega); have zz := HS.out.ri.k.cell; have zf := HS.out.ri.k.free; have zl := HS.out.ri.k.lt; clear hb1)
        | (go_at_call 58; refine (is_any _ (HS.out.ri.bw (by repeat (first | exact Bw.refl _ | apply Bw.alloc | apply Bw.drewN | apply Bw.drew)))).mono ?_; rintro e w1 ⟨rfl, hb1⟩; have HT := hid (HT.out.bw (Bw.trans (by repeat (first | exact Bw.refl _ | apply Bw.alloc | apply Bw.drewN | apply Bw.drew)) hb1)); have t1 := HT.out.cell; have tl := HT.out.lt; have HS := hid (HS.out.bw (Bw.trans (by repeat (first | exact Bw.refl _ | apply Bw.alloc | apply Bw.drewN | apply Bw.drew)) hb1)); have zz := HS.out.ri.k.cell; have zf := HS.out.ri.k.free; have zl := HS.out.ri.k.lt; clear hb1)
        | fail)
      refine wp_region_W (fun w' => w'.cell? ⟨wt.heap.size, 3, none⟩ = some (.int .i64 (tk T i).2.2.2)) (fun j => if j == 5 then 0 else if j == 6 then 2 else 1) (by kernel_rfl) ?_
      refine wpAnyW_take (i := 0) (oi := { dst := some 62, op := Op.fieldAddr 72 (Operand.tmp 3) 3, type := 0, pos := "expression.go:160", after := #[], guard := none }) (v := ?_) rfl (by kernel_rfl) (by kernel_rfl) (by kernel_rfl) (by kernel_rfl) (fun _ _ _ h => h) (Or.inl ⟨by rfl, fun w _ => ?_⟩) ?_
      rotate_left
      · (go_simp; first | done | with_reducible rfl)
      try simp only [Act.put, List.setIfInBounds_toArray, List.set_cons_zero, List.set_cons_succ]
      refine wpAnyW_load (i := 1) (oi := { dst := some 63, op := Op.load 3 (Operand.tmp 62), type := 3, pos := "expression.go:160", after := #[{ on := 0, ground := Ground.data }], guard := none }) (v := ?_) rfl (by kernel_rfl) (by kernel_rfl) (by kernel_rfl) (by kernel_rfl) (by kernel_rfl) (fun _ _ _ h => h) (Or.inl ⟨by rfl, fun w hS => ?_⟩) (t1 3) ?_
      rotate_left
      · (skip; go_simp; first | done | with_reducible rfl)
      try simp only [Act.put, List.setIfInBounds_toArray, List.set_cons_zero, List.set_cons_succ]
      refine wpAnyW_take (i := 2) (oi := { dst := some 64, op := Op.move (Operand.tmp 0), type := 58, pos := "expression.go:160", after := #[], guard := none }) (v := ?_) rfl (by kernel_rfl) (by kernel_rfl) (by kernel_rfl) (by kernel_rfl) (fun _ _ _ h => h) (Or.inl ⟨by rfl, fun w _ => ?_⟩) ?_
      rotate_left
      · (go_simp; first | done | with_reducible rfl)
      try simp only [Act.put, List.setIfInBounds_toArray, List.set_cons_zero, List.set_cons_succ]
      refine wpAnyW_take (i := 3) (oi := { dst := some 65, op := Op.move (Operand.tmp 0), type := 58, pos := "expression.go:160", after := #[], guard := none }) (v := ?_) rfl (by kernel_rfl) (by kernel_rfl) (by kernel_rfl) (by kernel_rfl) (fun _ _ _ h => h) (Or.inl ⟨by rfl, fun w _ => ?_⟩) ?_
      rotate_left
      · (go_simp; first | done | with_reducible rfl)
      try simp only [Act.put, List.setIfInBounds_toArray, List.set_cons_zero, List.set_cons_succ]
      refine wpAnyW_take (i := 4) (oi := { dst := some 66, op := Op.makeFunc (Fn.func 93) #[Operand.tmp 65] #[], type := 105, pos := "expression.go:160", after := #[{ on := 3, ground := Ground.data }], guard := none }) (v := ?_) rfl (by kernel_rfl) (by kernel_rfl) (by kernel_rfl) (by kernel_rfl) (fun _ _ _ h => h) (Or.inl ⟨by rfl, fun w _ => ?_⟩) ?_
      rotate_left
      · (go_simp; first | done | with_reducible rfl)
      try simp only [Act.put, List.setIfInBounds_toArray, List.set_cons_zero, List.set_cons_succ]
      refine wpAnyW_ready (rs := [5]) (by kernel_rfl) (by simp) ?_
      refine (AllReadyW.cons (o := { dst := some 67, op := Op.call { callee := Callee.value (Operand.func 88), args := #[Operand.tmp 64, Operand.const (Value.string { data := #[91] }), Operand.const (Value.string { data := #[93] }), Operand.tmp 66], argTypes := #[58, 9, 9, 105] }, type := 81, pos := "expression.go:160", after := #[{ on := 2, ground := Ground.data }, { on := 4, ground := Ground.data }], guard := none }) rfl (fun K hK => ?_) AllReadyW.nil)
      go_simp
      refine (HRE.out _ _ _ _ _ (HS.out.ri.bw (by repeat (first | exact Bw.refl _ | apply Bw.alloc | apply Bw.drewN | apply Bw.drew))) ho HNE.out).mono ?_
      intro e w2 h2
      rw [HQ.out] at h2
      obtain ⟨v2, he2, hrw, hr2, hk2⟩ := h2
      subst he2
      have HT := hid (HT.out.kp ((Kp.of_bw (by repeat (first | exact Bw.refl _ | apply Bw.alloc | apply Bw.drewN | apply Bw.drew))).trans hk2) HRT.out)
      obtain ⟨bs2, rw1, rw2⟩ := hrw.row
      have HRW := hid ((HS.out.bw (by repeat (first | exact Bw.refl _ | apply Bw.alloc | apply Bw.drewN | apply Bw.drew))).rowUp hk2 rw1 rw2)
      obtain ⟨av2, cv2, ev2⟩ := own_form rw1.1
      subst ev2
      have HS := hid ((HS.out.bw (by repeat (first | exact Bw.refl _ | apply Bw.alloc | apply Bw.drewN | apply Bw.drew))).go hr2 hk2)
      clear hrw hr2 hk2 rw1 rw2
      refine hK.out _ _ (HT.out.cell 3) ?_
      clear hK K
      try simp only [Act.put, List.setIfInBounds_toArray, List.set_cons_zero, List.set_cons_succ]
      refine wpAnyW_ready (rs := [6]) (by kernel_rfl) (by simp) ?_
      refine (AllReadyW.cons (o := { dst := some 68, op := Op.call { callee := Callee.value (Operand.func 43), args := #[Operand.const (Value.int IntKind.i64 20), Operand.tmp 63, Operand.tmp 67], argTypes := #[3, 3, 81] }, type := 57, pos := "expression.go:160", after := #[{ on := 1, ground := Ground.data }, { on := 5, ground := Ground.data }, { on := 5, ground := Ground.chain }], guard := none }) rfl (fun K hK => ?_) AllReadyW.nil)
      go_simp
      refine (made_any _ _ _ x.kids bs2 _ _ HRW.out.1 HRW.out.2).mono ?_
      rintro e w3 ⟨b3, he3, hp3, hb3, hn3, hc3⟩
      subst he3
      have HS := hid (HS.out.put hb3 hp3)
      clear hp3 hb3 hn3 hc3
      refine hK.out _ _ trivial ?_
      clear hK K
      try simp only [Act.put, List.setIfInBounds_toArray, List.set_cons_zero, List.set_cons_succ]
      refine wpAnyW_take (i := 7) (oi := { dst := some 2, op := Op.assign (Operand.tmp 68), type := 57, pos := "expression.go:160", after := #[{ on := 6, ground := Ground.data }, { on := 6, ground := Ground.chain }, { on := 0, ground := Ground.phase }, { on := 1, ground := Ground.phase }, { on := 2, ground := Ground.phase }, { on := 3, ground := Ground.phase }, { on := 4, ground := Ground.phase }, { on := 5, ground := Ground.phase }, { on := 6, ground := Ground.phase }], guard := none }) (v := ?_) rfl (by kernel_rfl) (by kernel_rfl) (by kernel_rfl) (by kernel_rfl) (fun _ _ _ h => h) (Or.inl ⟨by rfl, fun w _ => ?_⟩) ?_
      rotate_left
      · (go_simp; first | done | with_reducible rfl)
      try simp only [Act.put, List.setIfInBounds_toArray, List.set_cons_zero, List.set_cons_succ]
      refine wpAnyW_done (by kernel_rfl) ?_ _
      go_wp2
      all_goals go_ret
      all_goals exact ⟨_, rfl, HS.out.outp (by simp)⟩
  rw [o20, if_neg (by decide)] at hne
  rw [if_neg (by decide)]
  cases o21 : isT T i ⟨#[123]⟩
  case true =>
    rw [o21, if_pos rfl] at hne
    rw [if_pos rfl]
    have HNE := hid (show pP T f (.row .key ⟨#[123]⟩ ⟨#[125]⟩) i o ≠ .out from fun q => hne (by rw [q]; rfl))
    clear hne
    generalize hq : pP T f (.row .key ⟨#[123]⟩ ⟨#[125]⟩) i o = R
    have HQ := hid hq
    clear hq
    cases R with
    | out => exact absurd HQ.out HNE.out
    | bad n m =>
      simp only [Res.bind]
      go_enter Tryd.func87, Tryd.ntmps87
      go_upto_region 20 with (first
        | (go_at_call 57; refine (token_any (HS.out.ri.bw (by repeat (first | exact Bw.refl _ | apply Bw.alloc | apply Bw.drewN | apply Bw.drew)))).mono ?_; unfold tokV; rintro e wt ⟨rfl, hb1⟩; have HS := hid (HS.out.bw (Bw.trans (by repeat (first | exact Bw.refl _ | apply Bw.alloc | apply Bw.drewN | apply Bw.drew)) hb1)); have HT := hid (Blk.new wt #[.int .i64 (tk T i).1, .string (strOfNums (tk T i).2.1), .int .i64 (tk T i).2.2.1, .int .i64 (tk T i).2.2.2] 72); have HRT := hid (show wt.heap.size ≠ r by have := HS.out.ri.k.lt; omega); have zz := HS.out.ri.k.cell; have zf := HS.out.ri.k.free; have zl := HS.out.ri.k.lt; clear hb1)
        | (go_at_call 58; refine (is_any _ (HS.out.ri.bw (by repeat (first | exact Bw.refl _ | apply Bw.alloc | apply Bw.drewN | apply Bw.drew)))).mono ?_; rintro e w1 ⟨rfl, hb1⟩; have HT := hid (HT.out.bw (Bw.trans (by repeat (first | exact Bw.refl _ | apply Bw.alloc | apply Bw.drewN | apply Bw.drew)) hb1)); have t1 := HT.out.cell; have tl := HT.out.lt; have HS := hid (HS.out.bw (Bw.trans (by repeat (first | exact Bw.refl _ | apply Bw.alloc | apply Bw.drewN | apply Bw.drew)) hb1)); have zz := HS.out.ri.k.cell; have zf := HS.out.ri.k.free; have zl := HS.out.ri.k.lt; clear hb1)
        | fail)
      refine wp_region_W (fun w' => w'.cell? ⟨wt.heap.size, 3, none⟩ = some (.int .i64 (tk T i).2.2.2)) (fun j => if j == 5 then 0 else 1) (by kernel_rfl) ?_
      refine wpAnyW_take (i := 0) (oi := { dst := some 72, op := Op.fieldAddr 72 (Operand.tmp 3) 3, type := 0, pos := "expression.go:162", after := #[], guard := none }) (v := ?_) rfl (by kernel_rfl) (by kernel_rfl) (by kernel_rfl) (by kernel_rfl) (fun _ _ _ h => h) (Or.inl ⟨by rfl, fun w _ => ?_⟩) ?_
      rotate_left
      · (go_simp; first | done | with_reducible rfl)
      try simp only [Act.put, List.setIfInBounds_toArray, List.set_cons_zero, List.set_cons_succ]
      refine wpAnyW_load (i := 1) (oi := { dst := some 73, op := Op.load 3 (Operand.tmp 72), type := 3, pos := "expression.go:162", after := #[{ on := 0, ground := Ground.data }], guard := none }) (v := ?_) rfl (by kernel_rfl) (by kernel_rfl) (by kernel_rfl) (by kernel_rfl) (by kernel_rfl) (fun _ _ _ h => h) (Or.inl ⟨by rfl, fun w hS => ?_⟩) (t1 3) ?_
      rotate_left
      · (skip; go_simp; first | done | with_reducible rfl)
      try simp only [Act.put, List.setIfInBounds_toArray, List.set_cons_zero, List.set_cons_succ]
      refine wpAnyW_take (i := 2) (oi := { dst := some 74, op := Op.move (Operand.tmp 0), type := 58, pos := "expression.go:162", after := #[], guard := none }) (v := ?_) rfl (by kernel_rfl) (by kernel_rfl) (by kernel_rfl) (by kernel_rfl) (fun _ _ _ h => h) (Or.inl ⟨by rfl, fun w _ => ?_⟩) ?_
      rotate_left
      · (go_simp; first | done | with_reducible rfl)
      try simp only [Act.put, List.setIfInBounds_toArray, List.set_cons_zero, List.set_cons_succ]
      refine wpAnyW_take (i := 3) (oi := { dst := some 75, op := Op.move (Operand.tmp 0), type := 58, pos := "expression.go:162", after := #[], guard := none }) (v := ?_) rfl (by kernel_rfl) (by kernel_rfl) (by kernel_rfl) (by kernel_rfl) (fun _ _ _ h => h) (Or.inl ⟨by rfl, fun w _ => ?_⟩) ?_
      rotate_left
      · (go_simp; first | done | with_reducible rfl)
      try simp only [Act.put, List.setIfInBounds_toArray, List.set_cons_zero, List.set_cons_succ]
      refine wpAnyW_take (i := 4) (oi := { dst := some 76, op := Op.makeFunc (Fn.func 94) #[Operand.tmp 75] #[], type := 105, pos := "expression.go:162", after := #[{ on := 3, ground := Ground.data }], guard := none }) (v := ?_) rfl (by kernel_rfl) (by kernel_rfl) (by kernel_rfl) (by kernel_rfl) (fun _ _ _ h => h) (Or.inl ⟨by rfl, fun w _ => ?_⟩) ?_
      rotate_left
      · (go_simp; first | done | with_reducible rfl)
      try simp only [Act.put, List.setIfInBounds_toArray, List.set_cons_zero, List.set_cons_succ]
      refine wpAnyW_ready (rs := [5]) (by kernel_rfl) (by simp) ?_
      refine (AllReadyW.cons (o := { dst := some 77, op := Op.call { callee := Callee.value (Operand.func 88), args := #[Operand.tmp 74, Operand.const (Value.string { data := #[123] }), Operand.const (Value.string { data := #[125] }), Operand.tmp 76], argTypes := #[58, 9, 9, 105] }, type := 81, pos := "expression.go:162", after := #[{ on := 2, ground := Ground.data }, { on := 4, ground := Ground.data }], guard := none }) rfl (fun K hK => ?_) AllReadyW.nil)
      go_simp
      refine (HRK.out _ _ _ _ _ (HS.out.ri.bw (by repeat (first | exact Bw.refl _ | apply Bw.alloc | apply Bw.drewN | apply Bw.drew))) ho HNE.out).mono ?_
      intro e w2 h2
      rw [HQ.out] at h2
      obtain ⟨he2, hk2⟩ := h2
      subst he2
      exact ⟨rfl, rfl, (HS.out.kp.bw (by repeat (first | exact Bw.refl _ | apply Bw.alloc | apply Bw.drewN | apply Bw.drew))).trans hk2⟩
    | ok x c j =>
      simp only [Res.bind]
      go_enter Tryd.func87, Tryd.ntmps87
      go_upto_region 20 with (first
        | (go_at_call 57; refine (token_any (HS.out.ri.bw (by repeat (first | exact Bw.refl _ | apply Bw.alloc | apply Bw.drewN | apply Bw.drew)))).mono ?_; unfold tokV; rintro e wt ⟨rfl, hb1⟩; have HS := hid (HS.out.bw (Bw.trans (by repeat (first | exact Bw.refl _ | apply Bw.alloc | apply Bw.drewN | apply Bw.drew)) hb1)); have HT := hid (Blk.new wt #[.int .i64 (tk T i).1, .string (strOfNums (tk T i).2.1), .int .i64 (tk T i).2.2.1, .int .i64 (tk T i).2.2.2] 72); have HRT := hid (show wt.heap.size ≠ r by have := HS.out.ri.k.lt; omega); have zz := HS.out.ri.k.cell; have zf := HS.out.ri.k.free; have zl := HS.out.ri.k.lt; clear hb1)
        | (go_at_call 58; refine (is_any _ (HS.out.ri.bw (by repeat (first | exact Bw.refl _ | apply Bw.alloc | apply Bw.drewN | apply Bw.drew)))).mono ?_; rintro e w1 ⟨rfl, hb1⟩; have HT := hid (HT.out.bw (Bw.trans (by repeat (first | exact Bw.refl _ | apply Bw.alloc | apply Bw.drewN | apply Bw.drew)) hb1)); have t1 := HT.out.cell; have tl := HT.out.lt; have HS := hid (HS.out.bw (Bw.trans (by repeat (first | exact Bw.refl _ | apply Bw.alloc | apply Bw.drewN | apply Bw.drew)) hb1)); have zz := HS.out.ri.k.cell; have zf := HS.out.ri.k.free; have zl := HS.out.ri.k.lt; clear hb1)
        | fail)
      refine wp_region_W (fun w' => w'.cell? ⟨wt.heap.size, 3, none⟩ = some (.int .i64 (tk T i).2.2.2)) (fun j => if j == 5 then 0 else if j == 6 then 2 else 1) (by kernel_rfl) ?_
      refine wpAnyW_take (i := 0) (oi := { dst := some 72, op := Op.fieldAddr 72 (Operand.tmp 3) 3, type := 0, pos := "expression.go:162", after := #[], guard := none }) (v := ?_) rfl (by kernel_rfl) (by kernel_rfl) (by kernel_rfl) (by kernel_rfl) (fun _ _ _ h => h) (Or.inl ⟨by rfl, fun w _ => ?_⟩) ?_
      rotate_left
      · (go_simp; first | done | with_reducible rfl)
      try simp only [Act.put, List.setIfInBounds_toArray, List.set_cons_zero, List.set_cons_succ]
      refine wpAnyW_load (i := 1) (oi := { dst := some 73, op := Op.load 3 (Operand.tmp 72), type := 3, pos := "expression.go:162", after := #[{ on := 0, ground := Ground.data }], guard := none }) (v := ?_) rfl (by kernel_rfl) (by kernel_rfl) (by kernel_rfl) (by kernel_rfl) (by kernel_rfl) (fun _ _ _ h => h) (Or.inl ⟨by rfl, fun w hS => ?_⟩) (t1 3) ?_
      rotate_left
      · (skip; go_simp; first | done | with_reducible rfl)
      try simp only [Act.put, List.setIfInBounds_toArray, List.set_cons_zero, List.set_cons_succ]
      refine wpAnyW_take (i := 2) (oi := { dst := some 74, op := Op.move (Operand.tmp 0), type := 58, pos := "expression.go:162", after := #[], guard := none }) (v := ?_) rfl (by kernel_rfl) (by kernel_rfl) (by kernel_rfl) (by kernel_rfl) (fun _ _ _ h => h) (Or.inl ⟨by rfl, fun w _ => ?_⟩) ?_
      rotate_left
      · (go_simp; first | done | with_reducible rfl)
      try simp only [Act.put, List.setIfInBounds_toArray, List.set_cons_zero, List.set_cons_succ]
      refine wpAnyW_take (i := 3) (oi := { dst := some 75, op := Op.move (Operand.tmp 0), type := 58, pos := "expression.go:162", after := #[], guard := none }) (v := ?_) rfl (by kernel_rfl) (by kernel_rfl) (by kernel_rfl) (by kernel_rfl) (fun _ _ _ h => h) (Or.inl ⟨by rfl, fun w _ => ?_⟩) ?_
      rotate_left
      · (go_simp; first | done | with_reducible rfl)
      try simp only [Act.put, List.setIfInBounds_toArray, List.set_cons_zero, List.set_cons_succ]
      refine wpAnyW_take (i := 4) (oi := { dst := some 76, op := Op.makeFunc (Fn.func 94) #[Operand.tmp 75] #[], type := 105, pos := "expression.go:162", after := #[{ on := 3, ground := Ground.data }], guard := none }) (v := ?_) rfl (by kernel_rfl) (by kernel_rfl) (by kernel_rfl) (by kernel_rfl) (fun _ _ _ h => h) (Or.inl ⟨by rfl, fun w _ => ?_⟩) ?_
      rotate_left
      · (go_simp; first | done | with_reducible rfl)
      try simp only [Act.put, List.setIfInBounds_toArray, List.set_cons_zero, List.set_cons_succ]
      refine wpAnyW_ready (rs := [5]) (by kernel_rfl) (by simp) ?_
      refine (AllReadyW.cons (o := { dst := some 77, op := Op.call { callee := Callee.value (Operand.func 88), args := #[Operand.tmp 74, Operand.const (Value.string { data := #[123] }), Operand.const (Value.string { data := #[125] }), Operand.tmp 76], argTypes := #[58, 9, 9, 105] }, type := 81, pos := "expression.go:162", after := #[{ on := 2, ground := Ground.data }, { on := 4, ground := Ground.data }], guard := none }) rfl (fun K hK => ?_) AllReadyW.nil)
      go_simp
      refine (HRK.out _ _ _ _ _ (HS.out.ri.bw (by repeat (first | exact Bw.refl _ | apply Bw.alloc | apply Bw.drewN | apply Bw.drew))) ho HNE.out).mono ?_
      intro e w2 h2
      rw [HQ.out] at h2
      obtain ⟨v2, he2, hrw, hr2, hk2⟩ := h2
      subst he2
      have HT := hid (HT.out.kp ((Kp.of_bw (by repeat (first | exact Bw.refl _ | apply Bw.alloc | apply Bw.drewN | apply Bw.drew))).trans hk2) HRT.out)
      obtain ⟨bs2, rw1, rw2⟩ := hrw.row
      have HRW := hid ((HS.out.bw (by repeat (first | exact Bw.refl _ | apply Bw.alloc | apply Bw.drewN | apply Bw.drew))).rowUp hk2 rw1 rw2)
      obtain ⟨av2, cv2, ev2⟩ := own_form rw1.1
      subst ev2
      have HS := hid ((HS.out.bw (by repeat (first | exact Bw.refl _ | apply Bw.alloc | apply Bw.drewN | apply Bw.drew))).go hr2 hk2)
      clear hrw hr2 hk2 rw1 rw2
      refine hK.out _ _ (HT.out.cell 3) ?_
      clear hK K
      try simp only [Act.put, List.setIfInBounds_toArray, List.set_cons_zero, List.set_cons_succ]
      refine wpAnyW_ready (rs := [6]) (by kernel_rfl) (by simp) ?_
      refine (AllReadyW.cons (o := { dst := some 78, op := Op.call { callee := Callee.value (Operand.func 43), args := #[Operand.const (Value.int IntKind.i64 21), Operand.tmp 73, Operand.tmp 77], argTypes := #[3, 3, 81] }, type := 57, pos := "expression.go:162", after := #[{ on := 1, ground := Ground.data }, { on := 5, ground := Ground.data }, { on := 5, ground := Ground.chain }], guard := none }) rfl (fun K hK => ?_) AllReadyW.nil)
      go_simp
      refine (made_any _ _ _ x.kids bs2 _ _ HRW.out.1 HRW.out.2).mono ?_
      rintro e w3 ⟨b3, he3, hp3, hb3, hn3, hc3⟩
      subst he3
      have HS := hid (HS.out.put hb3 hp3)
      clear hp3 hb3 hn3 hc3
      refine hK.out _ _ trivial ?_
      clear hK K
      try simp only [Act.put, List.setIfInBounds_toArray, List.set_cons_zero, List.set_cons_succ]
      refine wpAnyW_take (i := 7) (oi := { dst := some 2, op := Op.assign (Operand.tmp 78), type := 57, pos := "expression.go:162", after := #[{ on := 6, ground := Ground.data }, { on := 6, ground := Ground.chain }, { on := 0, ground := Ground.phase }, { on := 1, ground := Ground.phase }, { on := 2, ground := Ground.phase }, { on := 3, ground := Ground.phase }, { on := 4, ground := Ground.phase }, { on := 5, ground := Ground.phase }, { on := 6, ground := Ground.phase }], guard := none }) (v := ?_) rfl (by kernel_rfl) (by kernel_rfl) (by kernel_rfl) (by kernel_rfl) (fun _ _ _ h => h) (Or.inl ⟨by rfl, fun w _ => ?_⟩) ?_
      rotate_left
      · (go_simp; first | done | with_reducible rfl)
      try simp only [Act.put, List.setIfInBounds_toArray, List.set_cons_zero, List.set_cons_succ]
      refine wpAnyW_done (by kernel_rfl) ?_ _
      go_wp2
      all_goals go_ret
      all_goals exact ⟨_, rfl, HS.out.outp (by simp)⟩
  rw [o21, if_neg (by decide)] at hne
  rw [if_neg (by decide)]
  cases o31 : isT T i ⟨#[102, 110]⟩
  case true =>
    rw [o31, if_pos rfl] at hne
    rw [if_pos rfl]
    have HI := hid o31
    have HNE := hid hne
    clear hne
    generalize hq : pP T f (.body 31 [] (tk T i).2.2.2) (i + 1) o = R
    have HQ := hid hq
    clear hq
    cases R with
    | out => exact absurd HQ.out HNE.out
    | bad n m =>
      go_enter Tryd.func87, Tryd.ntmps87
      go_wp2_with (first
        | (go_at_call 57; refine (token_any (HS.out.ri.bw (by repeat (first | exact Bw.refl _ | apply Bw.alloc | apply Bw.drewN | apply Bw.drew)))).mono ?_; unfold tokV; rintro e wt ⟨rfl, hb1⟩; have HS := hid (HS.out.bw (Bw.trans (by repeat (first | exact Bw.refl _ | apply Bw.alloc | apply Bw.drewN | apply Bw.drew)) hb1)); have HT := hid (Blk.new wt #[.int .i64 (tk T i).1, .string (strOfNums (tk T i).2.1), .int .i64 (tk T i).2.2.1, .int .i64 (tk T i).2.2.2] 72); have HRT := hid (show wt.heap.size ≠ r by have := HS.out.ri.k.lt; omega); have zz := HS.out.ri.k.cell; have zf := HS.out.ri.k.free; have zl := HS.out.ri.k.lt; clear hb1)
        | (go_at_call 58; refine (is_any _ (HS.out.ri.bw (by repeat (first | exact Bw.refl _ | apply Bw.alloc | apply Bw.drewN | apply Bw.drew)))).mono ?_; rintro e w1 ⟨rfl, hb1⟩; have HT := hid (HT.out.bw (Bw.trans (by repeat (first | exact Bw.refl _ | apply Bw.alloc | apply Bw.drewN | apply Bw.drew)) hb1)); have t1 := HT.out.cell; have tl := HT.out.lt; have HS := hid (HS.out.bw (Bw.trans (by repeat (first | exact Bw.refl _ | apply Bw.alloc | apply Bw.drewN | apply Bw.drew)) hb1)); have zz := HS.out.ri.k.cell; have zf := HS.out.ri.k.free; have zl := HS.out.ri.k.lt; clear hb1)
        | (go_at_call 62; refine (want_yes _ (HS.out.ri.bw (by repeat (first | exact Bw.refl _ | apply Bw.alloc | apply Bw.drewN | apply Bw.drew))) HI.out).mono ?_; rintro e w1 ⟨rfl, hr1, hk1⟩; have HS := hid ((HS.out.bw (by repeat (first | exact Bw.refl _ | apply Bw.alloc | apply Bw.drewN | apply Bw.drew))).go hr1 hk1); have zz := HS.out.ri.k.cell; have zf := HS.out.ri.k.free; have zl := HS.out.ri.k.lt; clear hr1 hk1)
        | (go_at_call 43; refine (made_any _ _ _ [] [] _ _ (HS.out.bw (by repeat (first | exact Bw.refl _ | apply Bw.alloc | apply Bw.drewN | apply Bw.drew))).row0.1 (HS.out.bw (by repeat (first | exact Bw.refl _ | apply Bw.alloc | apply Bw.drewN | apply Bw.drew))).row0.2).mono ?_; rintro e w3 ⟨b3, rfl, hp3, hb3, hn3, hc3⟩; have HC3 := hid hc3; have HN3 := hid (Nat.le_trans (HS.out.bw (by repeat (first | exact Bw.refl _ | apply Bw.alloc | apply Bw.drewN | apply Bw.drew))).kp.size hn3); have HS := hid ((HS.out.bw (by repeat (first | exact Bw.refl _ | apply Bw.alloc | apply Bw.drewN | apply Bw.drew))).put hb3 hp3).drop; have zz := HS.out.ri.k.cell; have zf := HS.out.ri.k.free; have zl := HS.out.ri.k.lt; clear hp3 hb3)
        | (go_at_call 83; refine (HBD.out w _ _ _ _ _ _ _ (HS.out.bw (by repeat (first | exact Bw.refl _ | apply Bw.alloc | apply Bw.drewN | apply Bw.drew))) (HC3.out.bw (by repeat (first | exact Bw.refl _ | apply Bw.alloc | apply Bw.drewN | apply Bw.drew))) HN3.out HBB.out ho HNE.out).mono ?_; intro e w5 h5; rw [HQ.out] at h5; obtain ⟨rfl, hk5⟩ := h5; have HK := hid hk5; clear hk5)
        | fail)
      all_goals exact ⟨rfl, rfl, HK.out⟩
    | ok x c j =>
      go_enter Tryd.func87, Tryd.ntmps87
      go_wp2_with (first
        | (go_at_call 57; refine (token_any (HS.out.ri.bw (by repeat (first | exact Bw.refl _ | apply Bw.alloc | apply Bw.drewN | apply Bw.drew)))).mono ?_; unfold tokV; rintro e wt ⟨rfl, hb1⟩; have HS := hid (HS.out.bw (Bw.trans (by repeat (first | exact Bw.refl _ | apply Bw.alloc | apply Bw.drewN | apply Bw.drew)) hb1)); have HT := hid (Blk.new wt #[.int .i64 (tk T i).1, .string (strOfNums (tk T i).2.1), .int .i64 (tk T i).2.2.1, .int .i64 (tk T i).2.2.2] 72); have HRT := hid (show wt.heap.size ≠ r by have := HS.out.ri.k.lt; omega); have zz := HS.out.ri.k.cell; have zf := HS.out.ri.k.free; have zl := HS.out.ri.k.lt; clear hb1)
        | (go_at_call 58; refine (is_any _ (HS.out.ri.bw (by repeat (first | exact Bw.refl _ | apply Bw.alloc | apply Bw.drewN | apply Bw.drew)))).mono ?_; rintro e w1 ⟨rfl, hb1⟩; have HT := hid (HT.out.bw (Bw.trans (by repeat (first | exact Bw.refl _ | apply Bw.alloc | apply Bw.drewN | apply Bw.drew)) hb1)); have t1 := HT.out.cell; have tl := HT.out.lt; have HS := hid (HS.out.bw (Bw.trans (by repeat (first | exact Bw.refl _ | apply Bw.alloc | apply Bw.drewN | apply Bw.drew)) hb1)); have zz := HS.out.ri.k.cell; have zf := HS.out.ri.k.free; have zl := HS.out.ri.k.lt; clear hb1)
        | (go_at_call 62; refine (want_yes _ (HS.out.ri.bw (by repeat (first | exact Bw.refl _ | apply Bw.alloc | apply Bw.drewN | apply Bw.drew))) HI.out).mono ?_; rintro e w1 ⟨rfl, hr1, hk1⟩; have HS := hid ((HS.out.bw (by repeat (first | exact Bw.refl _ | apply Bw.alloc | apply Bw.drewN | apply Bw.drew))).go hr1 hk1); have zz := HS.out.ri.k.cell; have zf := HS.out.ri.k.free; have zl := HS.out.ri.k.lt; clear hr1 hk1)
        | (go_at_call 43; refine (made_any _ _ _ [] [] _ _ (HS.out.bw (by repeat (first | exact Bw.refl _ | apply Bw.alloc | apply Bw.drewN | apply Bw.drew))).row0.1 (HS.out.bw (by repeat (first | exact Bw.refl _ | apply Bw.alloc | apply Bw.drewN | apply Bw.drew))).row0.2).mono ?_; rintro e w3 ⟨b3, rfl, hp3, hb3, hn3, hc3⟩; have HC3 := hid hc3; have HN3 := hid (Nat.le_trans (HS.out.bw (by repeat (first | exact Bw.refl _ | apply Bw.alloc | apply Bw.drewN | apply Bw.drew))).kp.size hn3); have HS := hid ((HS.out.bw (by repeat (first | exact Bw.refl _ | apply Bw.alloc | apply Bw.drewN | apply Bw.drew))).put hb3 hp3).drop; have zz := HS.out.ri.k.cell; have zf := HS.out.ri.k.free; have zl := HS.out.ri.k.lt; clear hp3 hb3)
        | (go_at_call 83; refine (HBD.out w _ _ _ _ _ _ _ (HS.out.bw (by repeat (first | exact Bw.refl _ | apply Bw.alloc | apply Bw.drewN | apply Bw.drew))) (HC3.out.bw (by repeat (first | exact Bw.refl _ | apply Bw.alloc | apply Bw.drewN | apply Bw.drew))) HN3.out HBB.out ho HNE.out).mono ?_; intro e w5 h5; rw [HQ.out] at h5; obtain ⟨b5, rfl, hp5, hr5, hk5⟩ := h5; have HF := hid (And.intro hp5 (And.intro hr5 hk5)); clear hp5 hr5 hk5)
        | fail)
      all_goals go_ret
      all_goals exact ⟨_, rfl, HF.out⟩
  rw [o31, if_neg (by decide)] at hne
  rw [if_neg (by decide)]
  have HNE := hid hne
  clear hne
  generalize hq : (entr T ⟨#[40]⟩ i o fun i o => (pP T f (.lev 0) i o).bind fun x _ i => want T ⟨#[41]⟩ i fun i => .ok x false i) = R
  have HQ := hid hq
  clear hq
  cases R with
  | out => exact absurd HQ.out HNE.out
  | bad n m =>
    go_enter Tryd.func87, Tryd.ntmps87
    go_wp2_with (first
      | (go_at_call 57; refine (token_any (HS.out.ri.bw (by repeat (first | exact Bw.refl _ | apply Bw.alloc | apply Bw.drewN | apply Bw.drew)))).mono ?_; unfold tokV; rintro e wt ⟨rfl, hb1⟩; have HS := hid (HS.out.bw (Bw.trans (by repeat (first | exact Bw.refl _ | apply Bw.alloc | apply Bw.drewN | apply Bw.drew)) hb1)); have HT := hid (Blk.new wt #[.int .i64 (tk T i).1, .string (strOfNums (tk T i).2.1), .int .i64 (tk T i).2.2.1, .int .i64 (tk T i).2.2.2] 72); have HRT := hid (show wt.heap.size ≠ r by have := HS.out.ri.k.lt; omega); have zz := HS.out.ri.k.cell; have zf := HS.out.ri.k.free; have zl := HS.out.ri.k.lt; clear hb1)
      | (go_at_call 58; refine (is_any _ (HS.out.ri.bw (by repeat (first | exact Bw.refl _ | apply Bw.alloc | apply Bw.drewN | apply Bw.drew)))).mono ?_; rintro e w1 ⟨rfl, hb1⟩; have HT := hid (HT.out.bw (Bw.trans (by repeat (first | exact Bw.refl _ | apply Bw.alloc | apply Bw.drewN | apply Bw.drew)) hb1)); have t1 := HT.out.cell; have tl := HT.out.lt; have HS := hid (HS.out.bw (Bw.trans (by repeat (first | exact Bw.refl _ | apply Bw.alloc | apply Bw.drewN | apply Bw.drew)) hb1)); have zz := HS.out.ri.k.cell; have zf := HS.out.ri.k.free; have zl := HS.out.ri.k.lt; clear hb1)
      | (go_at_call 95; refine (inParens_any pa pb pc e0 f HE.out _ _ _ (HS.out.ri.bw (by repeat (first | exact Bw.refl _ | apply Bw.alloc | apply Bw.drewN | apply Bw.drew))) ho HNE.out).mono ?_; intro e w5 h5; rw [HQ.out] at h5; obtain ⟨rfl, hk5⟩ := h5; have HK := hid ((HS.out.kp.bw (by repeat (first | exact Bw.refl _ | apply Bw.alloc | apply Bw.drewN | apply Bw.drew))).trans hk5); clear hk5)
      | fail)
    all_goals exact ⟨rfl, rfl, HK.out⟩
  | ok x c j =>
    go_enter Tryd.func87, Tryd.ntmps87
    go_wp2_with (first
      | (go_at_call 57; refine (token_any (HS.out.ri.bw (by repeat (first | exact Bw.refl _ | apply Bw.alloc | apply Bw.drewN | apply Bw.drew)))).mono ?_; unfold tokV; rintro e wt ⟨rfl, hb1⟩; have HS := hid (HS.out.bw (Bw.trans (by repeat (first | exact Bw.refl _ | apply Bw.alloc | apply Bw.drewN | apply Bw.drew)) hb1)); have HT := hid (Blk.new wt #[.int .i64 (tk T i).1, .string (strOfNums (tk T i).2.1), .int .i64 (tk T i).2.2.1, .int .i64 (tk T i).2.2.2] 72); have HRT := hid (show wt.heap.size ≠ r by have := HS.out.ri.k.lt; omega); have zz := HS.out.ri.k.cell; have zf := HS.out.ri.k.free; have zl := HS.out.ri.k.lt; clear hb1)
      | (go_at_call 58; refine (is_any _ (HS.out.ri.bw (by repeat (first | exact Bw.refl _ | apply Bw.alloc | apply Bw.drewN | apply Bw.drew)))).mono ?_; rintro e w1 ⟨rfl, hb1⟩; have HT := hid (HT.out.bw (Bw.trans (by repeat (first | exact Bw.refl _ | apply Bw.alloc | apply Bw.drewN | apply Bw.drew)) hb1)); have t1 := HT.out.cell; have tl := HT.out.lt; have HS := hid (HS.out.bw (Bw.trans (by repeat (first | exact Bw.refl _ | apply Bw.alloc | apply Bw.drewN | apply Bw.drew)) hb1)); have zz := HS.out.ri.k.cell; have zf := HS.out.ri.k.free; have zl := HS.out.ri.k.lt; clear hb1)
      | (go_at_call 95; refine (inParens_any pa pb pc e0 f HE.out _ _ _ (HS.out.ri.bw (by repeat (first | exact Bw.refl _ | apply Bw.alloc | apply Bw.drewN | apply Bw.drew))) ho HNE.out).mono ?_; intro e w5 h5; rw [HQ.out] at h5; obtain ⟨b5, rfl, hp5, hr5, hk5⟩ := h5; have HS := hid ((HS.out.bw (by repeat (first | exact Bw.refl _ | apply Bw.alloc | apply Bw.drewN | apply Bw.drew))).add hr5 hk5 hp5); clear hp5 hr5 hk5)
      | fail)
    all_goals go_ret
    all_goals exact ⟨_, rfl, HS.out.outp (by simp)⟩

end

end Go.Proofs.YtlcieebneclmpaaDoor

