/- What VerifyGrows' loop carries: so many functions have a return more behind their code. Nothing of the program is in it. -/
import Derived.Test.YtcljlmjcjfmppaaDoorGk
set_option linter.unusedSimpArgs false
set_option linter.unusedVariables false
namespace Go.Proofs.YtcljlmjcjfmppaaDoor
open Go Go.RowKit

def grM (x : MFn) (v : Value) : MFn := ⟨growF x.f, x.vb, x.vc, v, x.vt⟩
def mor : List Int := [109, 111, 114, 101]
def moV : Value := .string { data := #[109, 111, 114, 101] }
theorem moV_eq : moV = .string (strOfNums mor) := by rfl

theorem Rw.setAt {W0 w : World} {e : TypeId} {size n cap g : Nat} {xs : List Value} (h : Rw W0 w e size (.slice (some ⟨g, 0, none⟩) n cap) n xs) (j : Nat) (u : Value) :
    Rw W0 (w.setCell ⟨g, j, none⟩ u) e size (.slice (some ⟨g, 0, none⟩) n cap) n (xs.set j u) := by
  obtain ⟨⟨hl, h1⟩, h2⟩ := h
  refine ⟨⟨by simpa using hl, ?_⟩, h2⟩
  rcases h1 with ⟨h1, _⟩ | ⟨g', cap', cur, e1, hb, hg, hn, hm, hs, ht⟩
  · cases h1
  · cases e1
    refine .inr ⟨_, _, cur.setIfInBounds j u, rfl, hb, Blk.set (show Blk w g cur e from hg) j u, hn, hm, by simpa using hs, ?_⟩
    rw [← ht, Array.toList_setIfInBounds, List.take_set]

theorem flat_set {α : Type} {c : α → List Value} {k : Nat} (hk : ∀ x, (c x).length = k) : ∀ (l : List α) (i j : Nat) (y : α) (hi : i < l.length) (u : Value), j < k → c y = (c l[i]).set j u → (l.set i y).flatMap c = (l.flatMap c).set (i * k + j) u
  | x :: l, 0, j, y, _, u, hj, h => by
    have := hk x
    simp only [List.set_cons_zero, List.flatMap_cons, Nat.zero_mul, Nat.zero_add]
    rw [List.set_append_left _ _ (by omega)]
    rw [h]
    rfl
  | x :: l, i + 1, j, y, hi, u, hj, h => by
    have := hk x
    simp only [List.set_cons_succ, List.flatMap_cons]
    rw [flat_set hk l i j y (by simpa using hi) u hj h, List.set_append_right _ _ (by rw [hk x, Nat.succ_mul]; omega), hk x, Nat.succ_mul]
    congr 2
    omega

theorem fnC_len (x : MFn) : (fnC x).length = 6 := rfl

structure GS (W0 w : World) (m : AIm) (x44 vk : Value) (gi r cF : Nat) (ms : List MFn) (i : Nat) : Prop where
  b : Bw W0 w
  gi0 : W0.heap.size ≤ gi
  im : Blk w gi #[.slice (some ⟨r, 0, none⟩) m.funs.length cF, x44, vk, .int .i64 (m.globals + 1)] 26
  st : Rw W0 w 9 1 x44 (m.strs.length + 1) (m.strs.flatMap (fun s => [Value.string (strOfNums s)]) ++ [moV])
  e : ms.map (·.f) = (m.funs.take i).map growF ++ m.funs.drop i
  row : Rw W0 w 38 6 (.slice (some ⟨r, 0, none⟩) m.funs.length cF) m.funs.length (ms.flatMap fnC)
  fn : ∀ x ∈ ms, RFn w (fun b => b ≠ r ∧ b ≠ gi) x

section
variable {W0 w w1 : World} {m : AIm} {x44 vk : Value} {gi r cF i : Nat} {ms : List MFn}

theorem GS.bw (h : GS W0 w m x44 vk gi r cF ms i) (hb : Bw w w1) : GS W0 w1 m x44 vk gi r cF ms i :=
  ⟨h.b.trans hb, h.gi0, h.im.bw hb, h.st.bw hb, h.e, h.row.bw hb, fun x hx => (h.fn x hx).bw hb⟩
theorem GS.r0 (h : GS W0 w m x44 vk gi r cF ms i) : W0.heap.size ≤ r := h.row.2 r rfl
theorem GS.rlt (h : GS W0 w m x44 vk gi r cF ms i) : r < w.heap.size := h.row.lt rfl
theorem GS.ne (h : GS W0 w m x44 vk gi r cF ms i) : r ≠ gi := fun k => h.row.notBlk h.im (by decide) (by rw [k]; rfl)
theorem GS.len (h : GS W0 w m x44 vk gi r cF ms i) (hi : i ≤ m.funs.length) : ms.length = m.funs.length := by
  have := congrArg List.length h.e
  simp only [List.length_map, List.length_append, List.length_take, List.length_drop] at this
  omega
theorem GS.atf (h : GS W0 w m x44 vk gi r cF ms i) (hi : i < m.funs.length) (hm : i < ms.length) : ms[i].f = m.funs[i] := by
  have e1 : (ms.map (·.f))[i]? = some ms[i].f := by rw [List.getElem?_map, List.getElem?_eq_getElem hm]; rfl
  rw [h.e, List.getElem?_append_right (by simp; omega), List.length_map, List.length_take, Nat.min_eq_left (by omega), Nat.sub_self, List.getElem?_drop, Nat.add_zero, List.getElem?_eq_getElem hi] at e1
  exact (Option.some.inj e1).symm
theorem ins_one (l : List (Int × Int × Int)) : ∀ u ∈ l.flatMap insC, u.oneCell' = true := by
  intro u hu
  obtain ⟨x, hx, hu⟩ := List.mem_flatMap.1 hu
  simp only [insC, List.mem_cons, List.not_mem_nil, or_false] at hu
  rcases hu with rfl | rfl | rfl <;> rfl

theorem GS.free (h : GS W0 w m x44 vk gi r cF ms i) (j : Nat) : w.frozen? ⟨r, j, none⟩ = false := by
  rcases h.row.1.2 with ⟨h1, _⟩ | ⟨g', cap', cur, e1, hb, hg, _⟩
  · cases h1
  · cases e1
    exact Blk.free (show Blk w r cur _ from hg) j

/-- The code of function i. -/
theorem GS.code (h : GS W0 w m x44 vk gi r cF ms i) (hi : i < m.funs.length) : ∃ oa oc, w.cell? ⟨r, i * 6 + 4, none⟩ = some (.slice oa (m.funs[i]).code.length oc) ∧ Sl w (fun _ => True) (.slice oa (m.funs[i]).code.length oc) (m.funs[i]).code.length 3 ((m.funs[i]).code.flatMap insC) := by
  have hm : i < ms.length := by rw [h.len (by omega)]; exact hi
  have hf := h.fn ms[i] (List.getElem_mem hm)
  have e := h.atf hi hm
  obtain ⟨oa, oc, eo⟩ := hf.o.form
  have h1 := hf.o.1
  rw [e, eo] at h1
  rw [e] at eo h1
  refine ⟨oa, oc, ?_, h1.keep (Nat.le_refl _) (fun _ _ _ => rfl) (fun _ _ _ => trivial)⟩
  obtain ⟨_, a, cap, e1, _, h2⟩ := h.row.sl
  cases e1
  rcases h2 with h2 | ⟨b, o, e2, _, _, h2⟩
  · omega
  · cases e2
    have h3 := h2 (i * 6 + 4) (by omega)
    rw [Nat.zero_add, flat_at fnC_len ms i 4 hm (by decide)] at h3
    rw [h3]
    show some ms[i].vo = _
    rw [eo]

/-- It has grown. -/
theorem GS.put (h : GS W0 w m x44 vk gi r cF ms i) (hi : i < m.funs.length) (hc : (m.funs[i]).code.length ≤ 60000) (hb : Bw w w1) {x80 : Value}
    (hr : Rw w w1 40 3 x80 ((m.funs[i]).code.length + 1) ((m.funs[i]).code.flatMap insC ++ [.int .i64 27, .int .i64 0, .int .i64 0])) :
    ∃ ms', GS W0 (w1.setCell ⟨r, i * 6 + 4, none⟩ x80) m x44 vk gi r cF ms' (i + 1) := by
  have hm : i < ms.length := by rw [h.len (by omega)]; exact hi
  have e := h.atf hi hm
  have h1 := h.bw hb
  have hs : ∀ b, b ≠ r → (w1.setCell ⟨r, i * 6 + 4, none⟩ x80).heap[b]? = w1.heap[b]? := fun b hb => setCell_ne w1 _ _ hb
  have hf := h1.fn ms[i] (List.getElem_mem hm)
  refine ⟨ms.set i (grM ms[i] x80), ?_, h.gi0, ?_, ?_, ?_, ?_, ?_⟩
  · exact ⟨h1.b.os, h1.b.tape, h1.b.output, by simpa [World.setCell] using h1.b.size, fun k hk => (hs k (by have := h1.r0; omega)).trans (h1.b.block k hk)⟩
  · exact h1.im.keep (hs gi (Ne.symm h1.ne))
  · exact h1.st.keep (fun b e => hs b (fun k => (h1.st.apart h1.row (by decide)) b e (by rw [k]; rfl)))
  · rw [List.map_set, h.e]
    have hl : ((m.funs.take i).map growF).length = i := by simp; omega
    rw [List.set_append_right _ _ (by omega), hl, Nat.sub_self]
    have hd : m.funs.drop i = m.funs[i] :: m.funs.drop (i + 1) := List.drop_eq_getElem_cons hi
    rw [hd, List.set_cons_zero, ← List.take_append_getElem hi, List.map_append, List.append_assoc]
    show _ ++ ((growF ms[i].f) :: _) = _
    rw [e]
    rfl
  · rw [flat_set fnC_len ms i 4 (grM ms[i] x80) hm x80 (by decide) rfl]
    exact h1.row.setAt _ _
  · have hsz : w1.heap.size ≤ (w1.setCell ⟨r, i * 6 + 4, none⟩ x80).heap.size := by simp [World.setCell]
    intro x hx
    rcases List.mem_or_eq_of_mem_set hx with hx | rfl
    · exact (h1.fn x hx).keep hsz (fun b _ hG => hs b hG.1) (fun _ _ g => g)
    · have hf' := hf.keep hsz (fun b _ hG => hs b hG.1) (fun _ _ g => g)
      refine ⟨hf'.p, hf'.s, hf'.b, hf'.c, ?_, hf'.t⟩
      show RIns _ _ x80 (ms[i].f.code ++ [rtI])
      rw [e]
      have hlen : (m.funs[i].code ++ [rtI]).length = m.funs[i].code.length + 1 := by simp
      refine ⟨?_, ?_, by rw [hlen]; unfold maxLen; omega, fun _ => rfl⟩
      · rw [hlen, List.flatMap_append]
        have h5 : Sl w1 (fun b => w.heap.size ≤ b) x80 (m.funs[i].code.length + 1) 3 ((m.funs[i]).code.flatMap insC ++ [.int .i64 27, .int .i64 0, .int .i64 0]) := by
          refine ⟨hr.1.1, ?_⟩
          obtain ⟨_, a, cap, e1, e2, e3⟩ := hr.sl
          refine ⟨a, cap, e1, e2, e3.imp id ?_⟩
          rintro ⟨b, o, rfl, q1, _, q2⟩
          exact ⟨b, o, rfl, q1, hr.2 b (by rw [e1]; rfl), q2⟩
        have hn := h.rlt
        have hn2 := h.im.lt
        exact h5.keep hsz (fun b _ hG => hs b (by have : w.heap.size ≤ b := hG; omega)) (fun b _ hG => by have : w.heap.size ≤ b := hG; exact ⟨by omega, by omega⟩)
      · intro x hx
        rcases List.mem_append.1 hx with hx | hx
        · have := hf.o.2.1 x (by rw [e]; exact hx)
          exact this
        · rw [List.mem_singleton.1 hx]
          exact ⟨by unfold I64 rtI; omega, by unfold I64 rtI; simp, by unfold I64 rtI; simp⟩

def lastM (v : Value) : MFn := ⟨lastF, .slice none 0 0, .slice none 0 0, v, .slice none 0 0⟩

/-- The end: a function more. -/
theorem GS.last (h : GS W0 w m x44 vk gi r cF ms m.funs.length) (hk : RKeys W0 (fun _ => True) vk m.keys) (hg : I64 (m.globals + 1)) (h20 : m.funs.length ≤ 20) {vs : Value} (hst : RStrs W0 (fun _ => True) vs m.strs) (hsl : m.strs.length ≤ 1000000)
    {w3 w' : World} (hb : Bw w w3) {x87 v' : Value} (h87 : RIns w3 (fun b => w.heap.size ≤ b) x87 [(1, 0, 0), (27, 0, 0)])
    (how : w'.ownsRow 0 38 6 v' (m.funs.length + 1) (ms.flatMap fnC ++ fnC (lastM x87))) (hgr : w3.grownBy w' (some r)) (hnew : v'.ownBlock = some r ∨ ∀ k, v'.ownBlock = some k → w3.heap.size ≤ k) :
    RIm (w'.setCell ⟨gi, 0, none⟩ v') (fun _ => True) v' x44 vk (growI m mor) ∧ Blk (w'.setCell ⟨gi, 0, none⟩ v') gi #[v', x44, vk, .int .i64 (m.globals + 1)] 26 ∧ Bw W0 (w'.setCell ⟨gi, 0, none⟩ v') := by
  have h1 := h.bw hb
  have hlt3 := h1.im.lt
  have hlt := h.im.lt
  have hrl := h.rlt
  have hgrb : ∀ b, b < w3.heap.size → b ≠ r → w'.heap[b]? = w3.heap[b]? := fun b hb hne => hgr.block b hb (fun k => hne (by cases k; rfl))
  have hB' : Bw W0 w' := Below.grown h1.b hgr h1.b.size (fun k e => by cases e; exact h1.r0)
  have hI' : Blk w' gi #[.slice (some ⟨r, 0, none⟩) m.funs.length cF, x44, vk, .int .i64 (m.globals + 1)] 26 := h1.im.keep (hgrb gi hlt3 (Ne.symm h1.ne))
  have hs : ∀ b, b ≠ gi → (w'.setCell ⟨gi, 0, none⟩ v').heap[b]? = w'.heap[b]? := fun b hb => setCell_ne w' _ _ hb
  have hsz : w'.heap.size ≤ (w'.setCell ⟨gi, 0, none⟩ v').heap.size := by simp [World.setCell]
  have hBE : Bw W0 (w'.setCell ⟨gi, 0, none⟩ v') := ⟨hB'.os, hB'.tape, hB'.output, by simpa [World.setCell] using hB'.size, fun k hk => (hs k (by have := h1.gi0; omega)).trans (hB'.block k hk)⟩
  refine ⟨⟨⟨ms ++ [lastM x87], ?_, ?_⟩, ?_, ?_, hg⟩, ?_, hBE⟩
  · rw [List.map_append, h.e, List.take_length, List.drop_length, List.append_nil]
    rfl
  · have hml := h.len (Nat.le_refl _)
    have hl : (ms ++ [lastM x87]).length = m.funs.length + 1 := by simp [hml]
    refine ⟨?_, ?_, by rw [hl]; unfold maxLen; omega, fnC_len⟩
    · rw [hl, List.flatMap_append]
      have hv : v'.ownBlock ≠ some gi := by
        rcases hnew with h2 | h2
        · rw [h2]; intro k; cases k; exact h1.ne rfl
        · intro k; have := h2 gi k; omega
      refine (own_sl (G := fun _ => True) ((Rw.keep (W0 := W0) (w := w') (w' := w'.setCell ⟨gi, 0, none⟩ v') ⟨how, fun b hb => ?_⟩ (fun b hb => hs b (fun k => hv (by rw [hb, k])))).1) (fun _ _ => trivial))
      rcases hnew with h2 | h2
      · rw [h2] at hb; cases hb; exact h.r0
      · exact Nat.le_trans h1.b.size (h2 b hb)
    · intro x hx
      have hkeep : ∀ {y : MFn}, RFn w3 (fun b => b ≠ r ∧ b ≠ gi) y → RFn (w'.setCell ⟨gi, 0, none⟩ v') (fun _ => True) y := fun hy =>
        hy.keep (Nat.le_trans hgr.size hsz) (fun b hlt hG => (hs b hG.2).trans (hgrb b hlt hG.1)) (fun _ _ _ => trivial)
      rcases List.mem_append.1 hx with hx | hx
      · exact hkeep (h1.fn x hx)
      · rw [List.mem_singleton.1 hx]
        refine hkeep ⟨?_, ?_, ?_, ?_, ?_, ?_⟩
        · show I64 0; unfold I64; omega
        · show I64 0; unfold I64; omega
        · exact ⟨Sl.nil _ _ _, (fun _ h => nomatch h), Nat.zero_le _, fun _ => rfl⟩
        · exact ⟨Sl.nil _ _ _, (fun _ h => nomatch h), Nat.zero_le _, fun _ => rfl⟩
        · exact h87.keep (Nat.le_refl _) (fun _ _ _ => rfl) (fun b _ hG => by have : w.heap.size ≤ b := hG; exact ⟨by omega, by omega⟩)
        · exact ⟨Sl.nil _ _ _, (fun _ h => nomatch h), Nat.zero_le _, fun _ => rfl⟩
  · have hS : Rw W0 (w'.setCell ⟨gi, 0, none⟩ v') 9 1 x44 (m.strs.length + 1) (m.strs.flatMap (fun s => [Value.string (strOfNums s)]) ++ [moV]) := by
      refine h1.st.keep (fun b hb => ?_)
      refine (hs b (fun k => h1.st.notBlk h1.im (by decide) (by rw [hb, k]))).trans (hgrb b (h1.st.lt hb) (fun k => (h1.st.apart h1.row (by decide)) b hb (by rw [k]; rfl)))
    have hl : (growI m mor).strs.length = m.strs.length + 1 := by simp [growI]
    refine ⟨?_, ?_, by rw [hl]; unfold maxLen; omega, fun _ => rfl⟩
    · rw [hl]
      show Sl _ _ _ _ _ ((m.strs ++ [mor]).flatMap _)
      rw [List.flatMap_append]
      have := hS.sl
      rw [moV_eq] at this
      exact this
    · intro s hs'
      rcases List.mem_append.1 hs' with hx | hx
      · exact hst.2.1 s hx
      · rw [List.mem_singleton.1 hx]
        refine ⟨?_, by decide⟩
        decide
  · exact hk.keep hBE.size (fun b hlt _ => hBE.block b hlt) (fun _ _ g => g)
  · exact Blk.set hI' 0 v'

theorem two_ins (w : World) (o : Obj) : RIns ((w.alloc (.cells #[.int .i64 1, .int .i64 0, .int .i64 0, .int .i64 27, .int .i64 0, .int .i64 0] 40)).alloc o) (fun b => w.heap.size ≤ b) (.slice (some ⟨w.heap.size, 0, none⟩) 2 2) [(1, 0, 0), (27, 0, 0)] := by
  refine ⟨own_sl (own_bw (World.ownsRow_lit (e := 40) w #[.int .i64 1, .int .i64 0, .int .i64 0, .int .i64 27, .int .i64 0, .int .i64 0] 2 (Nat.le_refl _) (by decide) rfl) ((Bw.refl _).alloc o)) (fun b hb => hb), ?_, by decide, fun _ => rfl⟩
  intro x hx
  simp only [List.mem_cons, List.not_mem_nil, or_false] at hx
  rcases hx with rfl | rfl <;> (unfold I64; simp)

theorem take_more {l : List AFn} {i : Nat} (h : ∀ f ∈ l.take i, f.code.length ≤ 60000) (hi : i < l.length) (hc : l[i].code.length ≤ 60000) : ∀ f ∈ l.take (i + 1), f.code.length ≤ 60000 := by
  intro f hf
  rw [← List.take_append_getElem hi] at hf
  rcases List.mem_append.1 hf with hf | hf
  · exact h f hf
  · rw [List.mem_singleton.1 hf]; exact hc

end

end Go.Proofs.YtcljlmjcjfmppaaDoor
