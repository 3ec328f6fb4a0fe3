/- An image of one function that has code alone: in memory, checked; live. -/
import Derived.Test.YtcljlmjcjfmppaaDoorVs
import Derived.Test.YtcljlmjcjfmppaaDoorVt
set_option linter.unusedSimpArgs false
set_option linter.unusedVariables false
namespace Go.Proofs.YtcljlmjcjfmppaaDoor
open Go Go.RowKit

theorem rins_lit {w : World} {g : Nat} {cur : Array Value} {l : List (Int × Int × Int)} (hb : Blk w g cur 40) (hc : cur.toList = l.flatMap insC) (hn : cur.toList.length = l.length * 3) (hok : ∀ p ∈ l, I64 p.1 ∧ I64 p.2.1 ∧ I64 p.2.2) (hl : l.length ≤ maxLen) :
    RIns w (fun _ => True) (.slice (some ⟨g, 0, none⟩) l.length l.length) l :=
  ⟨⟨by rw [← hc]; exact hn, some ⟨g, 0, none⟩, l.length, rfl, ⟨Nat.le_refl _, fun e => by cases e⟩, .inr ⟨g, 0, rfl, hb.lt, trivial, fun i hi => by rw [Nat.zero_add, hb.cell, ← hc, Array.getElem?_toList]⟩⟩, hok, hl, fun _ => rfl⟩

theorem rim_one {w : World} {v : Value} {l : List (Int × Int × Int)} {g : Nat} (h : RIns w (fun _ => True) v l) (hb : Blk w g #[.int .i64 0, .int .i64 0, .slice none 0 0, .slice none 0 0, v, .slice none 0 0] 38) :
    RIm w (fun _ => True) (.slice (some ⟨g, 0, none⟩) 1 1) (.slice none 0 0) (.slice none 0 0) (oneI l) := by
  refine ⟨⟨[⟨oneF l, .slice none 0 0, .slice none 0 0, v, .slice none 0 0⟩], rfl, ⟨rfl, some ⟨g, 0, none⟩, 1, rfl, ⟨Nat.le_refl _, fun e => by cases e⟩, .inr ⟨g, 0, rfl, hb.lt, trivial, fun i hi => ?_⟩⟩, ?_, by unfold maxLen; simp, fun _ => rfl⟩, ⟨Sl.nil _ _ _, by simp [oneI], by simp [oneI], fun _ => rfl⟩, ⟨[], rfl, Sl.nil _ _ _, by simp, by simp, fun _ => rfl⟩, by unfold I64 oneI; simp⟩
  · rw [Nat.zero_add, hb.cell]
    simp [fnC, oneF]
  · intro x hx
    obtain rfl := List.mem_singleton.1 hx
    exact ⟨by unfold I64 oneF; simp, by unfold I64 oneF; simp, ⟨Sl.nil _ _ _, by simp [oneF], by simp [oneF], fun _ => rfl⟩, ⟨Sl.nil _ _ _, by simp [oneF], by simp [oneF], fun _ => rfl⟩, h, ⟨Sl.nil _ _ _, by simp [oneF], by simp [oneF], fun _ => rfl⟩⟩

section
variable {w w' : World}

theorem img_one {l : List (Int × Int × Int)} (g : Option Addr) (w1 : World) : Calls Tryd.prog 10 #[imV (.slice g 1 1) (.slice none 0 0) (.slice none 0 0) (oneI l)] w1 fun e w' => e = .returned (.int .i64 0) ∧ Bw w1 w' :=
  image_none g none none 1 1 0 0 0

theorem chk_one {v : Value} {l : List (Int × Int × Int)} {g N : Nat} {F : HSt} (ho : Og w) (h : RIns w (fun _ => True) v l) (hb : Blk w g #[.int .i64 0, .int .i64 0, .slice none 0 0, .slice none 0 0, v, .slice none 0 0] 38)
    (hc : CdOk (oneI l) (oneF l)) (h1 : 1 ≤ l.length) (h2 : l.length ≤ 65536) (hN : l.length < N) (hF : flow (oneI l) (oneF l) N 0 (flow0 (oneF l)) = F) :
    Calls Tryd.prog 6 #[.agg #[.slice (some ⟨g, 0, none⟩) 1 1, .slice none 0 0, .slice none 0 0, .int .i64 0]] w (CkP w 1 fun _ => F) :=
  check_fine (oneI l) (fun _ => True) _ _ _ N (fun _ => F) ho (rim_one h hb) (fun w1 _ => img_one _ w1)
    (fun i hi => by obtain rfl : i = 0 := Nat.lt_one_iff.1 hi; exact fr_ok l h1 h2)
    (fun f hf => by obtain rfl := List.mem_singleton.1 hf; exact hc) (fun f hf => by obtain rfl := List.mem_singleton.1 hf; exact h1) (fun f hf => by obtain rfl := List.mem_singleton.1 hf; exact h2)
    (fun l hl => by cases hl) (fun f hf => by obtain rfl := List.mem_singleton.1 hf; exact hN)
    (fun i hi => by obtain rfl : i = 0 := Nat.lt_one_iff.1 hi; exact hF)

theorem hts_one {v : Value} {l : List (Int × Int × Int)} {g N : Nat} {F : HSt} (ho : Og w) (h : RIns w (fun _ => True) v l) (hb : Blk w g #[.int .i64 0, .int .i64 0, .slice none 0 0, .slice none 0 0, v, .slice none 0 0] 38)
    (hc : CdOk (oneI l) (oneF l)) (h1 : 1 ≤ l.length) (h2 : l.length ≤ 65536) (hN : l.length < N) (hF : flow (oneI l) (oneF l) N 0 (flow0 (oneF l)) = F) :
    Calls Tryd.prog 9 #[.agg #[.slice (some ⟨g, 0, none⟩) 1 1, .slice none 0 0, .slice none 0 0, .int .i64 0], .int .i64 0] w (HgP w 1 (fun _ => F) 0) :=
  heights_fine (oneI l) (fun _ => True) _ _ _ N (fun _ => F) 0 (by simp [oneI]) ho (rim_one h hb) (fun w1 _ => img_one _ w1)
    (fun i hi => by obtain rfl : i = 0 := Nat.lt_one_iff.1 hi; exact fr_ok l h1 h2)
    (fun f hf => by obtain rfl := List.mem_singleton.1 hf; exact hc) (fun f hf => by obtain rfl := List.mem_singleton.1 hf; exact h1) (fun f hf => by obtain rfl := List.mem_singleton.1 hf; exact h2)
    (fun l hl => by cases hl) (fun f hf => by obtain rfl := List.mem_singleton.1 hf; exact hN)
    (fun i hi => by obtain rfl : i = 0 := Nat.lt_one_iff.1 hi; exact hF)

set_option maxRecDepth 100000 in
set_option maxHeartbeats 1000000 in
theorem one_any (a : Option Addr) (n c : Nat) : Calls Tryd.prog 8 #[.slice a n c] w fun e w' => e = .returned (.agg #[.slice (some ⟨w.heap.size + 1, 0, none⟩) 1 1, .slice none 0 0, .slice none 0 0, .int .i64 0]) ∧ Bw w w' ∧ Blk w' (w.heap.size + 1) #[.int .i64 0, .int .i64 0, .slice none 0 0, .slice none 0 0, .slice a n c, .slice none 0 0] 38 := by
  go_enter Tryd.func8, Tryd.ntmps8
  go_wp2
  all_goals refine bodyPost_ret (v := .agg #[.slice (some ⟨w.heap.size + 1, 0, none⟩) 1 1, .slice none 0 0, .slice none 0 0, .int .i64 0]) (by simp [results, Tryd.results8, go_sem]) rfl ?_
  all_goals exact ⟨rfl, (by repeat (first | exact Bw.refl _ | apply Bw.alloc | apply Bw.drewN | apply Bw.drew)), by have := Blk.new (w.alloc (.cells #[.slice (some ⟨w.heap.size + 1, 0, none⟩) 1 1, .slice none 0 0, .slice none 0 0, .int .i64 0] 26)) #[.int .i64 0, .int .i64 0, .slice none 0 0, .slice none 0 0, .slice a n c, .slice none 0 0] 38; simpa only [World.size_alloc] using this⟩

theorem one_any' (a : Option Addr) (n c : Nat) : Calls Tryd.prog 8 #[.slice a n c] w fun e w' => ∃ g, e = .returned (.agg #[.slice (some ⟨g, 0, none⟩) 1 1, .slice none 0 0, .slice none 0 0, .int .i64 0]) ∧ Bw w w' ∧ Blk w' g #[.int .i64 0, .int .i64 0, .slice none 0 0, .slice none 0 0, .slice a n c, .slice none 0 0] 38 :=
  (one_any a n c).mono fun e w' h => ⟨_, h⟩

def lv1 : List (Int × Int × Int) := [(0, 1, 0), (27, 0, 0)]
def lv2 : List (Int × Int × Int) := [(27, 0, 0)]
theorem lv1_ok : CdOk (oneI lv1) (oneF lv1) := by
  refine ⟨fun i hi => ?_, fun t ht => by cases ht⟩
  have : i = 0 ∨ i = 1 := by simp [oneF, lv1] at hi; omega
  rcases this with rfl | rfl <;> simp [oneF, lv1, inF, isOp, rngM]
theorem lv2_ok : CdOk (oneI lv2) (oneF lv2) := by
  refine ⟨fun i hi => ?_, fun t ht => by cases ht⟩
  have : i = 0 := by simp [oneF, lv2] at hi; omega
  subst this
  simp [oneF, lv2, inF, isOp, rngM]
theorem lv1_flow : flow (oneI lv1) (oneF lv1) 3 0 (flow0 (oneF lv1)) = ⟨[0, 1], [0, 1], -1⟩ := by rfl
theorem lv2_flow : flow (oneI lv2) (oneF lv2) 3 0 (flow0 (oneF lv2)) = ⟨[0], [0], 0⟩ := by rfl

theorem lv1_row (w : World) : RIns (w.alloc (.cells #[.int .i64 0, .int .i64 1, .int .i64 0, .int .i64 27, .int .i64 0, .int .i64 0] 40)) (fun _ => True) (.slice (some ⟨w.heap.size, 0, none⟩) 2 2) lv1 :=
  rins_lit (l := lv1) (Blk.new w _ _) rfl rfl (by intro p hp; simp [lv1] at hp; rcases hp with rfl | rfl <;> simp [I64]) (by unfold maxLen lv1; simp)
theorem lv2_row (w : World) : RIns (w.alloc (.cells #[.int .i64 27, .int .i64 0, .int .i64 0] 40)) (fun _ => True) (.slice (some ⟨w.heap.size, 0, none⟩) 1 1) lv2 :=
  rins_lit (l := lv2) (Blk.new w _ _) rfl rfl (by intro p hp; simp [lv2] at hp; subst hp; simp [I64]) (by unfold maxLen lv2; simp)

theorem hts_lv {v : Value} {g : Nat} (ho : Og w) (h : RIns w (fun _ => True) v lv1) (hb : Blk w g #[.int .i64 0, .int .i64 0, .slice none 0 0, .slice none 0 0, v, .slice none 0 0] 38) :
    Calls Tryd.prog 9 #[.agg #[.slice (some ⟨g, 0, none⟩) 1 1, .slice none 0 0, .slice none 0 0, .int .i64 0], .int .i64 0] w fun e w' => Bw w w' ∧ ∃ b o c, e = .returned (.tuple #[.slice (some ⟨b, o, none⟩) 2 c, .int .i64 0]) ∧ b < w'.heap.size ∧ w'.cell? ⟨b, o, none⟩ = some (.int .i64 0) ∧ w'.cell? ⟨b, o + 1, none⟩ = some (.int .i64 1) := by
  refine (hts_one ho h hb lv1_ok (by decide) (by decide) (show lv1.length < 3 by decide) lv1_flow).mono ?_
  rintro e w' ⟨hbw, ⟨_, a, c, rfl, hs⟩ | ⟨hn, _⟩⟩
  · refine ⟨hbw, ?_⟩
    obtain ⟨_, a', c', e1, _, h0 | ⟨b, o, rfl, hlt, _, hc⟩⟩ := hs
    · cases h0
    · cases e1
      have c0 := hc 0 (by decide)
      have c1 := hc 1 (by decide)
      exact ⟨b, o, c, rfl, hlt, by simpa using c0, by simpa using c1⟩
  · exact absurd (fun _ _ => rfl) hn

theorem chk_lv {v : Value} {g : Nat} (ho : Og w) (h : RIns w (fun _ => True) v lv2) (hb : Blk w g #[.int .i64 0, .int .i64 0, .slice none 0 0, .slice none 0 0, v, .slice none 0 0] 38) :
    Calls Tryd.prog 6 #[.agg #[.slice (some ⟨g, 0, none⟩) 1 1, .slice none 0 0, .slice none 0 0, .int .i64 0]] w fun e w' => Bw w w' ∧ e = .returned (.tuple #[.int .i64 0, .int .i64 0, .int .i64 6]) := by
  refine (chk_one ho h hb lv2_ok (by decide) (by decide) (show lv2.length < 3 by decide) lv2_flow).mono ?_
  rintro e w' ⟨hbw, ⟨j, hj, _, _, rfl⟩ | ⟨hn, _⟩⟩
  · obtain rfl : j = 0 := by omega
    exact ⟨hbw, rfl⟩
  · have := hn 0 (by decide)
    simp at this

end

end Go.Proofs.YtcljlmjcjfmppaaDoor
