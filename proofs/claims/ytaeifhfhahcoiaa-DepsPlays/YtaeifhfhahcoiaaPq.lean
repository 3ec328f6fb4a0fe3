/- What always holds of versions; rows beside a registry. -/
import Derived.Test.YtaeifhfhahcoiaaPo
set_option linter.unusedSimpArgs false
set_option linter.unusedVariables false
namespace Go.Proofs.Ytaeifhfhahcoiaa
open Go Go.RowKit

theorem idx_count (P : VV → Bool) (K : List VV) : ∀ k, k ≤ K.length → (idx P K k).length = (K.take k).countP P
  | 0, _ => by simp [idx]
  | k + 1, h => by
    have hk : k < K.length := by omega
    rw [List.take_add_one, List.getElem?_eq_getElem hk, List.countP_append]
    unfold idx
    rw [List.length_append, idx_count P K k (by omega), List.getElem?_eq_getElem hk]
    by_cases hp : P K[k] = true <;> simp [hp]
theorem all_count (P : VV → Bool) (K : List VV) : (all P K).length = K.countP P := by
  unfold all
  rw [idx_count P K _ (Nat.le_refl _), List.take_length]

theorem countP_modify {P : VV → Bool} (h : ∀ x, P (off x) = true → P x = true) : ∀ (K : List VV) (i : Nat), (K.modify i off).countP P ≤ K.countP P
  | [], i => by simp
  | x :: K, 0 => by
    simp only [List.modify_zero_cons, List.countP_cons]
    by_cases hx : P (off x) = true
    · simp [hx, h x hx]
    · simp [hx]
  | x :: K, i + 1 => by
    simp only [List.modify_succ_cons, List.countP_cons]
    have := countP_modify h K i
    omega

/-- What always holds of versions. -/
structure Good (F : Nat) (K : List VV) : Prop where
  fr : ∀ x ∈ K, 0 ≤ x.f ∧ x.f < F
  one : ∀ f, K.countP (vof f) ≤ 1
  four : ∀ f, K.countP (aof f) ≤ 4

theorem Good.nil (F : Nat) : Good F [] := ⟨fun x hx => (by simp at hx), fun f => (by simp), fun f => (by simp)⟩
theorem Good.add {F G : Nat} {K : List VV} (h : Good F K) (f : Int) (l : List (Int × Int)) : Good F (addL F G K f l) := by
  unfold addL
  split
  · rename_i h0
    unfold addE at h0
    have h1 : ¬ (oneOf f F = false ∨ nms G l = false) := fun e => by rw [if_pos e] at h0; cases h0
    rw [if_neg h1] at h0
    have h2 : all (vof f) K = [] := Classical.byContradiction fun e => by
      have e : all (vof f) K ≠ [] := e
      rw [if_pos e] at h0; cases h0
    rw [if_neg (fun e => e h2)] at h0
    have h3 : ¬ 4 ≤ cnt f K := fun e => by rw [if_pos e] at h0; cases h0
    have h4 : oneOf f F = true := by
      cases hh : oneOf f F
      · exact absurd (.inl hh) h1
      · rfl
    have h5 := oneOf_iff.1 h4
    have h6 : K.countP (vof f) = 0 := by rw [← all_count, h2]; rfl
    have h7 : K.countP (aof f) < 4 := by rw [← all_count]; unfold cnt at h3; omega
    refine ⟨fun x hx => ?_, fun f' => ?_, fun f' => ?_⟩
    · rcases List.mem_append.1 hx with hx | hx
      · exact h.fr x hx
      · rw [List.mem_singleton.1 hx]; exact h5
    · rw [List.countP_append]
      by_cases e : f = f'
      · subst e; rw [h6]; simp [vof]
      · have := h.one f'
        have e2 : vof f' ⟨f, l, true⟩ = false := by simp [vof, e]
        simp [e2]
        exact this
    · rw [List.countP_append]
      by_cases e : f = f'
      · subst e
        have e2 : aof f ⟨f, l, true⟩ = true := by simp [aof]
        simp [e2]
        omega
      · have := h.four f'
        have e2 : aof f' ⟨f, l, true⟩ = false := by simp [aof, e]
        simp [e2]
        exact this
  · exact h
theorem Good.wr {F G : Nat} {K : List VV} (h : Good F K) (g v : Int) : Good F (wrL G g v K) := by
  unfold wrL
  split
  · unfold wroteL
    refine ⟨fun x hx => ?_, fun f => ?_, fun f => ?_⟩
    · obtain ⟨y, hy, rfl⟩ := List.mem_map.1 hx
      have := h.fr y hy
      split <;> exact this
    · rw [List.countP_map]
      refine Nat.le_trans (List.countP_mono_left fun x hx hp => ?_) (h.one f)
      simp only [Function.comp_apply] at hp
      split at hp
      · simp [vof, off] at hp
      · exact hp
    · rw [List.countP_map]
      refine Nat.le_trans (List.countP_mono_left fun x hx hp => ?_) (h.four f)
      simp only [Function.comp_apply] at hp
      split at hp
      · exact hp
      · exact hp
  · exact h
theorem Good.dr {F : Nat} {K : List VV} (h : Good F K) (i : Int) : Good F (drL i K) := by
  unfold drL
  split
  · refine ⟨fun x hx => ?_, fun f => Nat.le_trans (countP_modify (fun x hx => by simp [vof, off] at hx) K _) (h.one f), fun f => Nat.le_trans (countP_modify (P := aof f) (fun x hx => hx) K _) (h.four f)⟩
    obtain ⟨j, hj, rfl⟩ := List.getElem_of_mem hx
    rw [List.getElem_modify]
    have hj2 : j < K.length := by simpa using hj
    have := h.fr _ (List.getElem_mem hj2)
    split <;> exact this
  · exact h

/-- The functions of versions. -/
def fsOf (K : List VV) : List Int := K.map (·.f)
theorem fsOf_len (K : List VV) : (fsOf K).length = K.length := by simp [fsOf]
theorem fsOf_wr (G : Nat) (g v : Int) (K : List VV) : fsOf (wrL G g v K) = fsOf K := by
  unfold wrL fsOf wroteL
  split
  · rw [List.map_map]
    apply List.map_congr_left
    intro x _
    simp only [Function.comp_apply]
    split <;> rfl
  · rfl
theorem fsOf_dr (i : Int) (K : List VV) : fsOf (drL i K) = fsOf K := by
  unfold drL fsOf
  split
  · apply List.ext_getElem?
    intro j
    simp only [List.getElem?_map, List.getElem?_modify]
    cases K[j]? with
    | none => rfl
    | some x => by_cases h : i.toNat = j <;> simp [h, off]
  · rfl
theorem fsOf_snoc (K : List VV) (x : VV) : fsOf (K ++ [x]) = fsOf K ++ [x.f] := by simp [fsOf]

/-- vs says of each version that it was valid, if it is. -/
def Was (K : List VV) (vs : List Bool) : Prop := vs.length = K.length ∧ ∀ (j : Nat) (x : VV), K[j]? = some x → x.ok = true → vs[j]? = some true
theorem Was.nil : Was [] [] := ⟨rfl, fun j x h => by simp at h⟩
theorem Was.wr {G : Nat} {g v : Int} {K : List VV} {vs : List Bool} (h : Was K vs) : Was (wrL G g v K) vs := by
  refine ⟨by rw [wrL_len]; exact h.1, fun j x hx ho => ?_⟩
  unfold wrL at hx
  split at hx
  · unfold wroteL at hx
    rw [List.getElem?_map, Option.map_eq_some_iff] at hx
    obtain ⟨y, hy, rfl⟩ := hx
    split at ho
    · cases ho
    · exact h.2 j y hy ho
  · exact h.2 j x hx ho
theorem Was.dr {i : Int} {K : List VV} {vs : List Bool} (h : Was K vs) : Was (drL i K) vs := by
  refine ⟨by rw [drL_len]; exact h.1, fun j x hx ho => ?_⟩
  unfold drL at hx
  split at hx
  · rw [List.getElem?_modify] at hx
    simp only [Option.map_eq_map, Option.map_eq_some_iff] at hx
    obtain ⟨y, hy, rfl⟩ := hx
    split at ho
    · cases ho
    · exact h.2 j y hy ho
  · exact h.2 j x hx ho
theorem Was.snoc {K : List VV} {vs : List Bool} (h : Was K vs) (x : VV) : Was (K ++ [x]) (vs ++ [true]) := by
  refine ⟨by simp [h.1], fun j y hy ho => ?_⟩
  by_cases hj : j < K.length
  · rw [List.getElem?_append_left hj] at hy
    rw [List.getElem?_append_left (by rw [h.1]; exact hj)]
    exact h.2 j y hy ho
  · have : j < (K ++ [x]).length := (List.getElem?_eq_some_iff.1 hy).1
    have hj2 : j = vs.length := by rw [h.1]; simp at this; omega
    subst hj2
    simp

/-- Two rows of one's own beside a registry: functions, and whether they were valid. -/
structure TR (w : World) (base : Nat) (bs : List Nat) (fv : Value) (fs : List Int) (vv : Value) (vs : List Bool) : Prop where
  fo : w.ownsRow 0 3 1 fv fs.length (fs.map (Value.int .i64))
  vo : w.ownsRow 0 4 1 vv vs.length (vs.map Value.bool)
  fb : ∀ b, fv.ownBlock = some b → base ≤ b ∧ b ∉ bs
  vb : ∀ b, vv.ownBlock = some b → base ≤ b ∧ b ∉ bs

theorem TR.nil (w : World) (base : Nat) (bs : List Nat) : TR w base bs (.slice none 0 0) [] (.slice none 0 0) [] :=
  ⟨World.ownsRow_nil _ _ _ _, World.ownsRow_nil _ _ _ _, fun b h => by simp [Value.ownBlock] at h, fun b h => by simp [Value.ownBlock] at h⟩

section
variable {w w' : World} {base : Nat} {bs bs' : List Nat} {fv vv : Value} {fs : List Int} {vs : List Bool}

theorem TR.nx (h : TR w base bs fv fs vv vs) (k : Nx bs w w' bs') : TR w' base bs' fv fs vv vs := by
  refine ⟨own_keep h.fo (fun b hb => k.ex.block b (h.fo.lt b hb).2 (h.fb b hb).2), own_keep h.vo (fun b hb => k.ex.block b (h.vo.lt b hb).2 (h.vb b hb).2), fun b hb => ⟨(h.fb b hb).1, fun hm => ?_⟩, fun b hb => ⟨(h.vb b hb).1, fun hm => ?_⟩⟩
  · rcases k.new b hm with h1 | h1
    · exact (h.fb b hb).2 h1
    · have := (h.fo.lt b hb).2; omega
  · rcases k.new b hm with h1 | h1
    · exact (h.vb b hb).2 h1
    · have := (h.vo.lt b hb).2; omega
theorem TR.bw (h : TR w base bs fv fs vv vs) (k : Bw w w') : TR w' base bs fv fs vv vs := h.nx (Nx.of_bw k)
/-- Their blocks are apart. -/
theorem TR.apart (h : TR w base bs fv fs vv vs) : ∀ b, fv.ownBlock = some b → vv.ownBlock ≠ some b := by
  intro b hb hv
  rcases own_apart h.fo h.vo (by decide) with h1 | h1
  · rw [h1] at hv; cases hv
  · exact h1 (hv.trans hb.symm)
theorem TR.fput (h : TR w base bs fv fs vv vs) (hbs : ∀ b ∈ bs, b < w.heap.size) (hbase : base ≤ w.heap.size) {v' : Value} {f : Int} (ho : w'.ownsRow 0 3 1 v' (fs.length + 1) (fs.map (Value.int .i64) ++ [.int .i64 f])) (hg : w.grownBy w' fv.ownBlock) (hv : v'.ownBlock = fv.ownBlock ∨ ∀ k, v'.ownBlock = some k → w.heap.size ≤ k) :
    TR w' base bs v' (fs ++ [f]) vv vs := by
  refine ⟨by simpa using ho, own_keep h.vo (fun b hb => hg.block b (h.vo.lt b hb).2 (fun e => h.apart b e.symm hb)), fun b hb => ?_, h.vb⟩
  rcases hv with e | e
  · exact h.fb b (e ▸ hb)
  · have := e b hb
    exact ⟨by omega, fun hm => by have := hbs b hm; omega⟩
theorem TR.vput (h : TR w base bs fv fs vv vs) (hbs : ∀ b ∈ bs, b < w.heap.size) (hbase : base ≤ w.heap.size) {v' : Value} {q : Bool} (ho : w'.ownsRow 0 4 1 v' (vs.length + 1) (vs.map Value.bool ++ [.bool q])) (hg : w.grownBy w' vv.ownBlock) (hv : v'.ownBlock = vv.ownBlock ∨ ∀ k, v'.ownBlock = some k → w.heap.size ≤ k) :
    TR w' base bs fv fs v' (vs ++ [q]) := by
  refine ⟨own_keep h.fo (fun b hb => hg.block b (h.fo.lt b hb).2 (fun e => h.apart b hb e.symm)), by simpa using ho, h.fb, fun b hb => ?_⟩
  rcases hv with e | e
  · exact h.vb b (e ▸ hb)
  · have := e b hb
    exact ⟨by omega, fun hm => by have := hbs b hm; omega⟩
/-- Another row of one's own grew: the registry stays. -/
theorem MS.grown {w0 wr : World} {p F G k : Nat} {rv : Value} {L : List (VV × Value)} (h : MS w0 wr p bs F G rv L k) {r : Option Nat} (hg : wr.grownBy w' r) (hr : ∀ b, r = some b → w0.heap.size ≤ b ∧ b ∉ bs) : MS w0 w' p bs F G rv L k :=
  ⟨Below.grown h.bw hg h.bw.size (fun k hk => (hr k hk).1), h.ds.keep hg.size (fun b hb => hg.block b (h.ds.lt b hb) (fun e => (hr b e.symm).2 hb)), h.new, h.len⟩
/-- The mark of one is set. -/
theorem TR.vset {g c : Nat} (h : TR w base bs fv fs (.slice (some ⟨g, 0, none⟩) vs.length c) vs) {j : Nat} (hj : j < vs.length) (q : Bool) : TR (w.setCell ⟨g, j, none⟩ (.bool q)) base bs fv fs (.slice (some ⟨g, 0, none⟩) vs.length c) (vs.set j q) := by
  refine ⟨ownsRow_setCell_other (a := ⟨g, j, none⟩) h.fo (fun e => h.apart g e rfl) _, ?_, h.fb, h.vb⟩
  have := own_set h.vo (j := j) (by omega) (.bool q)
  rw [List.length_set]
  rw [List.map_set]
  exact this
theorem MS.setOut {w0 wr : World} {p F G k g j : Nat} {rv : Value} {L : List (VV × Value)} (h : MS w0 wr p bs F G rv L k) (hg : w0.heap.size ≤ g ∧ g ∉ bs) (u : Value) : MS w0 (wr.setCell ⟨g, j, none⟩ u) p bs F G rv L k :=
  ⟨Bw.setCell h.bw hg.1 u, h.ds.ex (cs := [g]) (Ex.set (Ex.refl _ _) (.inl (by simp)) _ _) (fun b hb hm => by simp at hm; subst hm; exact hg.2 hb), h.new, h.len⟩
theorem TR.setOut {g j : Nat} (h : TR w base bs fv fs vv vs) (hf : fv.ownBlock ≠ some g) (hv : vv.ownBlock ≠ some g) (u : Value) : TR (w.setCell ⟨g, j, none⟩ u) base bs fv fs vv vs :=
  ⟨ownsRow_setCell_other (a := ⟨g, j, none⟩) h.fo hf _, ownsRow_setCell_other (a := ⟨g, j, none⟩) h.vo hv _, h.fb, h.vb⟩
theorem TR.fcell {a : Option Addr} {c : Nat} (h : TR w base bs (.slice a fs.length c) fs vv vs) {j : Nat} (hj : j < fs.length) : ∃ g, a = some ⟨g, 0, none⟩ ∧ g < w.heap.size ∧ w.cell? ⟨g, j, none⟩ = some (.int .i64 fs[j]) := by
  obtain ⟨g, cap, cur, e, _, hb, h1, h2, h3, h4⟩ := own_parts h.fo (by omega)
  cases e
  refine ⟨g, rfl, hb.lt, ?_⟩
  rw [hb.cell]
  have := congrArg (·[j]?) h4
  simp only [List.getElem?_take] at this
  rw [if_pos (by omega)] at this
  simpa [hj] using this
theorem TR.vcell {a : Option Addr} {c : Nat} (h : TR w base bs fv fs (.slice a vs.length c) vs) {j : Nat} (hj : j < vs.length) : ∃ g, a = some ⟨g, 0, none⟩ ∧ g < w.heap.size ∧ w.cell? ⟨g, j, none⟩ = some (.bool vs[j]) ∧ (∀ i, w.frozen? ⟨g, i, none⟩ = false) ∧ base ≤ g ∧ g ∉ bs := by
  obtain ⟨g, cap, cur, e, _, hb, h1, h2, h3, h4⟩ := own_parts h.vo (by omega)
  cases e
  refine ⟨g, rfl, hb.lt, ?_, hb.free, h.vb g rfl⟩
  rw [hb.cell]
  have := congrArg (·[j]?) h4
  simp only [List.getElem?_take] at this
  rw [if_pos (by omega)] at this
  simpa [hj] using this
end

end Go.Proofs.Ytaeifhfhahcoiaa
