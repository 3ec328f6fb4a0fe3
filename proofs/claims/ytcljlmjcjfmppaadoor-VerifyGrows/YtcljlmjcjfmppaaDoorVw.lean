/- VerifyStraight: what its walk carries. -/
import Derived.Test.YtcljlmjcjfmppaaDoorVv
import Derived.Test.YtcljlmjcjfmppaaDoorFr
set_option linter.unusedSimpArgs false
set_option linter.unusedVariables false
namespace Go.Proofs.YtcljlmjcjfmppaaDoor
open Go Go.RowKit

theorem infoEN : (Tryd.prog.info? 40).map (fun i => (i.zero, i.size, i.bytes)) = some (some (.agg #[.int .i64 0, .int .i64 0, .int .i64 0]), 3, 24) := by kernel_rfl
theorem undLN : Tryd.prog.underlying 35 = some (.slice 40) := by kernel_rfl

theorem sl_ownk {w : World} {base : Nat} {e : TypeId} {v : Value} {n size : Nat} {xs : List Value} (h : w.ownsRow base e size v n xs) : Sl w (fun _ => True) v n size xs := by
  refine ⟨h.1, ?_⟩
  rcases h.2 with ⟨rfl, rfl⟩ | ⟨g, cap, cur, rfl, h1, h3, h4, h5, h6, h7⟩
  · exact ⟨none, 0, rfl, ⟨Nat.le_refl _, fun _ => rfl⟩, .inl rfl⟩
  · refine ⟨_, cap, rfl, ⟨h4, fun e => by cases e⟩, .inr ⟨g, 0, rfl, (Array.getElem?_eq_some_iff.1 h3).1, trivial, fun i hi => ?_⟩⟩
    rw [Nat.zero_add, cell_of_row w g i cur _ (0, 0) h3, ← h7, List.getElem?_take, if_pos hi]
    simp

/-- A row of instructions that grows; all else stays. -/
structure OR (w wr : World) (v : Value) (l : List (Int × Int × Int)) : Prop where
  own : wr.ownsRow 0 40 3 v l.length (l.flatMap insC)
  ob : ∀ b, v.ownBlock = some b → w.heap.size ≤ b
  bw : Bw w wr

theorem OR.nil (w : World) : OR w w (.slice none 0 0) [] := ⟨World.ownsRow_nil _ _ _ _, fun n h => (by cases h), Bw.refl w⟩

theorem OR.push {w wr wA w2 : World} {v v' : Value} {l : List (Int × Int × Int)} {p : Int × Int × Int} (h : OR w wr v l) (hb : Bw wr wA) (hg : wA.grownBy w2 v.ownBlock) (hown : w2.ownsRow 0 40 3 v' (l.length + 1) (l.flatMap insC ++ insC p)) (hnew : v'.ownBlock = v.ownBlock ∨ ∀ k, v'.ownBlock = some k → wA.heap.size ≤ k) : OR w w2 v' (l ++ [p]) := by
  refine ⟨by simpa using hown, fun b hv => ?_, ?_⟩
  · rcases hnew with e | e
    · exact h.ob b (by rw [← e]; exact hv)
    · have h1 := e b hv
      have h2 := h.bw.size
      have h3 := hb.size
      omega
  · cases ho : v.ownBlock with
    | none => rw [ho] at hg; exact (h.bw.trans hb).trans (bw_none hg)
    | some b => rw [ho] at hg; exact bw_grownAt (h.bw.trans hb) hg (h.ob b ho)

theorem OR.row {w wr : World} {v : Value} {l : List (Int × Int × Int)} (h : OR w wr v l) (hok : ∀ p ∈ l, I64 p.1 ∧ I64 p.2.1 ∧ I64 p.2.2) (hl : l.length ≤ maxLen) : RIns wr (fun _ => True) v l := ⟨sl_ownk h.own, hok, hl, fun _ => rfl⟩

theorem stI_succ (i : Nat) : stI (i + 1) = stI i ++ [(0, (i : Int), 0)] := by simp [stI, List.range_succ]
theorem stP_succ (i : Nat) : stP (i + 1) = stP i ++ [(4, 0, 0)] := by simp [stP, List.replicate_succ']
theorem stI_len (i : Nat) : (stI i).length = i := by simp [stI]
theorem stP_len (i : Nat) : (stP i).length = i := by simp [stP]
theorem st_i64 {n : Nat} (h : n ≤ 300) : ∀ p ∈ stC n, I64 p.1 ∧ I64 p.2.1 ∧ I64 p.2.2 := by
  intro p hp
  unfold stC stI stP at hp
  simp only [List.mem_append, List.mem_map, List.mem_range, List.mem_replicate, List.mem_singleton] at hp
  rcases hp with (⟨i, hi, rfl⟩ | ⟨_, rfl⟩) | rfl <;> unfold I64 <;> simp <;> omega

section
variable {w : World}

theorem chk_st {v : Value} {g n : Nat} (hn : 1 ≤ n) (h2 : n ≤ 256) (ho : Og w) (h : RIns w (fun _ => True) v (stC n)) (hb : Blk w g #[.int .i64 0, .int .i64 0, .slice none 0 0, .slice none 0 0, v, .slice none 0 0] 38) :
    Calls Tryd.prog 6 #[.agg #[.slice (some ⟨g, 0, none⟩) 1 1, .slice none 0 0, .slice none 0 0, .int .i64 0]] w fun e w' => Bw w w' ∧ e = .returned (.tuple #[.int .i64 0, .int .i64 0, .int .i64 0]) := by
  refine (chk_one ho h hb (st_ok hn (by omega)) (by rw [stC_len hn]; omega) (by rw [stC_len hn]; omega) (show (stC n).length < 2 * n + 1 by rw [stC_len hn]; omega) (flow_st hn h2 (by omega))).mono ?_
  rintro e w' ⟨hbw, ⟨j, hj, _, hne, rfl⟩ | ⟨hn, rfl⟩⟩
  · exact absurd rfl hne
  · exact ⟨hbw, rfl⟩

theorem chk_stB {v : Value} {g n : Nat} (h2 : 256 < n) (h3 : n ≤ 300) (ho : Og w) (h : RIns w (fun _ => True) v (stC n)) (hb : Blk w g #[.int .i64 0, .int .i64 0, .slice none 0 0, .slice none 0 0, v, .slice none 0 0] 38) :
    Calls Tryd.prog 6 #[.agg #[.slice (some ⟨g, 0, none⟩) 1 1, .slice none 0 0, .slice none 0 0, .int .i64 0]] w fun e w' => Bw w w' ∧ e = .returned (.tuple #[.int .i64 0, .int .i64 256, .int .i64 6]) := by
  have hn : 1 ≤ n := by omega
  refine (chk_one ho h hb (st_ok hn (by omega)) (by rw [stC_len hn]; omega) (by rw [stC_len hn]; omega) (show (stC n).length < 2 * n + 1 by rw [stC_len hn]; omega) rfl).mono ?_
  have hf := flow_stB (n := n) (N := 2 * n + 1) h2 (by omega)
  rintro e w' ⟨hbw, ⟨j, hj, _, hne, rfl⟩ | ⟨hn, rfl⟩⟩
  · obtain rfl : j = 0 := by omega
    refine ⟨hbw, ?_⟩
    simp only [hf]
    rfl
  · have := hn 0 (by decide)
    simp only [hf] at this
    exact absurd this (by decide)

theorem hts_st {v : Value} {g n : Nat} (hn : 1 ≤ n) (h2 : n ≤ 256) (ho : Og w) (h : RIns w (fun _ => True) v (stC n)) (hb : Blk w g #[.int .i64 0, .int .i64 0, .slice none 0 0, .slice none 0 0, v, .slice none 0 0] 38) :
    Calls Tryd.prog 9 #[.agg #[.slice (some ⟨g, 0, none⟩) 1 1, .slice none 0 0, .slice none 0 0, .int .i64 0], .int .i64 0] w fun e w' => Bw w w' ∧ ∃ b o c L, e = .returned (.tuple #[.slice (some ⟨b, o, none⟩) L c, .int .i64 0]) ∧ L = 2 * n ∧ b < w'.heap.size ∧ ∀ i, i < 2 * n → w'.cell? ⟨b, o + i, none⟩ = some (.int .i64 (hgt n i)) := by
  refine (hts_one ho h hb (st_ok hn (by omega)) (by rw [stC_len hn]; omega) (by rw [stC_len hn]; omega) (show (stC n).length < 2 * n + 1 by rw [stC_len hn]; omega) (flow_st hn h2 (by omega))).mono ?_
  have hl : (stS n (2 * n - 1)).h.length = 2 * n := by rw [stS_end n hn]; simp
  rintro e w' ⟨hbw, ⟨_, a, c, rfl, hs⟩ | ⟨hn, _⟩⟩
  · refine ⟨hbw, ?_⟩
    obtain ⟨_, a', c', e1, _, h0 | ⟨b, o, rfl, hlt, _, hc⟩⟩ := hs
    · simp only [hl] at h0
      omega
    · cases e1
      refine ⟨b, o, c, _, rfl, hl, hlt, fun i hi => ?_⟩
      rw [hc i (by simp only [hl]; omega)]
      simp only [stS_end n hn]
      simp [hi]
  · exact absurd (fun _ _ => rfl) hn

theorem hts_stB {v : Value} {g n : Nat} (h2 : 256 < n) (h3 : n ≤ 300) (ho : Og w) (h : RIns w (fun _ => True) v (stC n)) (hb : Blk w g #[.int .i64 0, .int .i64 0, .slice none 0 0, .slice none 0 0, v, .slice none 0 0] 38) :
    Calls Tryd.prog 9 #[.agg #[.slice (some ⟨g, 0, none⟩) 1 1, .slice none 0 0, .slice none 0 0, .int .i64 0], .int .i64 0] w fun e w' => Bw w w' ∧ e = .returned (.tuple #[.slice none 0 0, .int .i64 6]) := by
  have hn : 1 ≤ n := by omega
  refine (hts_one ho h hb (st_ok hn (by omega)) (by rw [stC_len hn]; omega) (by rw [stC_len hn]; omega) (show (stC n).length < 2 * n + 1 by rw [stC_len hn]; omega) rfl).mono ?_
  have hf := flow_stB (n := n) (N := 2 * n + 1) h2 (by omega)
  rintro e w' ⟨hbw, ⟨hn, _⟩ | ⟨_, rfl⟩⟩
  · have := hn 0 (by decide)
    simp only [hf] at this
    exact absurd this (by decide)
  · exact ⟨hbw, rfl⟩

end

end Go.Proofs.YtcljlmjcjfmppaaDoor
