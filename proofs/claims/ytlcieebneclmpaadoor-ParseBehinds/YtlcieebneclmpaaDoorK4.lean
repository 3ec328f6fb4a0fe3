/- How a new part comes of those that are there; what reading calls promise. · Rows of parts while they grow. -/
import Derived.Test.YtlcieebneclmpaaDoorPqk
import Derived.Test.YtlcieebneclmpaaDoorPtk
import Derived.Test.YtlcieebneclmpaaDoorK2
set_option linter.unusedSimpArgs false
set_option linter.unusedVariables false
namespace Go.Proofs.YtlcieebneclmpaaDoor
open Go Go.RowKit

section
variable {B w W W' : World} {S : Nat → Prop} {r g cap : Nat} {T : List ATok} {ex : Nat → Value} {i o : Nat} {Ps : List (Prt × Nat)}

theorem SI.fin (h : SI B w S W r g cap T ex i o Ps) (hb : Bw W W') {x : Prt} {b : Nat} (hp : PtM W' (Fp W (Fp w S W) W') x b) : PtM W' (Fp w S W') x b ∧ RI B W' r g cap T ex i o ∧ Kp r w W' := by
  refine ⟨PtM.keep (fun _ _ _ => rfl) (fun n hn _ => ?_) _ _ hp, h.ri.bw hb, h.kp.bw hb⟩
  rcases hn with hn | hn
  · exact hn.mono hb.size
  · exact .inr ⟨Nat.le_trans h.kp.size hn.1, hn.2⟩

theorem SI.put (h : SI B w S W r g cap T ex i o Ps) (hb : Bw W W') {x : Prt} {b : Nat} (hp : PtM W' (Fp W (Fp w S W) W') x b) : SI B w S W' r g cap T ex i o ((x, b) :: Ps) := by
  have h1 := h.bw hb
  refine ⟨h1.ri, h1.kp, fun p hm => ?_, h1.hs, h1.r0⟩
  rcases List.mem_cons.1 hm with rfl | hm
  · exact (h.fin hb hp).1
  · exact h1.ps p hm

theorem SI.outp (h : SI B w S W r g cap T ex i o Ps) {x : Prt} {b : Nat} (hx : (x, b) ∈ Ps) : PtM W (Fp w S W) x b ∧ RI B W r g cap T ex i o ∧ Kp r w W := ⟨h.ps _ hx, h.ri, h.kp⟩

/-- A part that comes of one that was there, and of new ones. -/
theorem SI.turn (h : SI B w S W r g cap T ex i o Ps) {i' o' : Nat} (hr : RI B W' r g cap T ex i' o') (hk : Kp r W W') {x : Prt} {b : Nat} (hp : PtM W' (Fp W (Fp w S W) W') x b) : SI B w S W' r g cap T ex i' o' [(x, b)] := by
  refine ⟨hr, h.kp.trans hk, fun p hm => ?_, h.hs, h.r0⟩
  rw [List.mem_singleton.1 hm]
  refine PtM.keep (fun _ _ _ => rfl) (fun n hn _ => ?_) _ _ hp
  rcases hn with hn | hn
  · exact hn.mono hk.size
  · exact .inr ⟨Nat.le_trans h.kp.size hn.1, hn.2⟩

theorem SI.row1 (h : SI B w S W r g cap T ex i o Ps) {x : Prt} {b : Nat} (hx : (x, b) ∈ Ps) :
    RowM (W.alloc (.cells #[.pointer (some ⟨b, 0, none⟩)] 57)) (Fp w S (W.alloc (.cells #[.pointer (some ⟨b, 0, none⟩)] 57))) (.slice (some ⟨W.heap.size, 0, none⟩) 1 1) [b] ∧
    PtsM (W.alloc (.cells #[.pointer (some ⟨b, 0, none⟩)] 57)) (Fp w S (W.alloc (.cells #[.pointer (some ⟨b, 0, none⟩)] 57))) [x] [b] := by
  have h1 := h.bw (Bw.alloc (Bw.refl W) (.cells #[.pointer (some ⟨b, 0, none⟩)] 57))
  exact ⟨RowM.new W _ [b] (by simp [maxLen]) (.inr ⟨h.kp.size, by simp⟩), b, [], rfl, h1.ps _ hx, rfl⟩

theorem SI.row2 (h : SI B w S W r g cap T ex i o Ps) {x y : Prt} {b c : Nat} (hx : (x, b) ∈ Ps) (hy : (y, c) ∈ Ps) :
    RowM (W.alloc (.cells #[.pointer (some ⟨b, 0, none⟩), .pointer (some ⟨c, 0, none⟩)] 57)) (Fp w S (W.alloc (.cells #[.pointer (some ⟨b, 0, none⟩), .pointer (some ⟨c, 0, none⟩)] 57))) (.slice (some ⟨W.heap.size, 0, none⟩) 2 2) [b, c] ∧
    PtsM (W.alloc (.cells #[.pointer (some ⟨b, 0, none⟩), .pointer (some ⟨c, 0, none⟩)] 57)) (Fp w S (W.alloc (.cells #[.pointer (some ⟨b, 0, none⟩), .pointer (some ⟨c, 0, none⟩)] 57))) [x, y] [b, c] := by
  have h1 := h.bw (Bw.alloc (Bw.refl W) (.cells #[.pointer (some ⟨b, 0, none⟩), .pointer (some ⟨c, 0, none⟩)] 57))
  exact ⟨RowM.new W _ [b, c] (by simp [maxLen]) (.inr ⟨h.kp.size, by simp⟩), b, [c], rfl, h1.ps _ hx, c, [], rfl, h1.ps _ hy, rfl⟩

theorem PtM.at {x : Prt} {b : Nat} (hp : PtM W S x b) : ∃ v, W.cell? ⟨b, 4, none⟩ = some (.int .i64 x.at_) ∧ W.cell? ⟨b, 0, none⟩ = some (.int .i64 x.kind) ∧ W.cell? ⟨b, 5, none⟩ = some v ∧ b < W.heap.size ∧ ∃ bs, RowM W S v bs ∧ PtsM W S x.kids bs := by
  cases x with
  | mk k t n a ks =>
    obtain ⟨_, v, bs, h2, h3, h4⟩ := hp
    exact ⟨v, h2.cell 4, h2.cell 0, h2.cell 5, h2.lt, bs, h3, h4⟩

end

/-- Which token is next. -/
def nxt (w : World) (r : Nat) : Nat := match w.cell? ⟨r, 1, none⟩ with | some (.int _ n) => n.toNat | _ => 0

theorem RI.nx {B w : World} {r g cap : Nat} {T : List ATok} {ex : Nat → Value} {i o : Nat} (h : RI B w r g cap T ex i o) : nxt w r = i := by
  unfold nxt
  rw [h.k.cell 1]
  simp

theorem isO_ne {T : List ATok} {i : Nat} {l : List ByteArray} (h : isO T i l = true) : (tk T i).1 ≠ 0 := by
  obtain ⟨s, _, hs⟩ := List.any_eq_true.1 h
  exact isT_ne hs

/-- What a function that reads promises, at so many steps. -/
def RdP (B : World) (r g cap : Nat) (T : List ATok) (ex : Nat → Value) (f fn : Nat) (args : Array Value) (nt : Nt) : Prop :=
  ∀ w i o, RI B w r g cap T ex i o → o ≤ 64 → pP T f nt i o ≠ .out → Calls Tryd.prog fn args w (Got B r g cap T ex o No w (pP T f nt i o))

end Go.Proofs.YtlcieebneclmpaaDoor

set_option linter.unusedSimpArgs false
set_option linter.unusedVariables false
namespace Go.Proofs.YtlcieebneclmpaaDoor
open Go Go.RowKit

theorem infoPp : (Tryd.prog.info? 57).map (fun i => (i.zero, i.size, i.bytes)) = some (some (.pointer none), 1, 8) := by kernel_rfl
theorem underPps : Tryd.prog.underlying 81 = some (.slice 57) := by kernel_rfl

/-- A row that the call is filling: its block is new since w; its parts lie apart from it. -/
def RwI (w wr : World) (v : Value) (acc : List Prt) : Prop :=
  ∃ bs, wr.ownsRow w.heap.size 57 1 v acc.length (bs.map fun b => .pointer (some ⟨b, 0, none⟩)) ∧ PtsM wr (fun n => w.heap.size ≤ n ∧ n < wr.heap.size ∧ v.ownBlock ≠ some n) acc bs

theorem RwI.nil (w wr : World) : RwI w wr (.slice none 0 0) [] := ⟨[], World.ownsRow_nil _ _ _ _, rfl⟩

theorem RwI.kp {w w1 w2 : World} {r : Nat} {v : Value} {acc : List Prt} (h : RwI w w1 v acc) (k : Kp r w1 w2) (hr : r < w.heap.size) : RwI w w2 v acc := by
  obtain ⟨bs, h1, h2⟩ := h
  refine ⟨bs, own_keep h1 (fun q hq => k.block q (h1.lt q hq).2 (by have := (h1.lt q hq).1; omega)), PtsM.keep (fun n hn hl => k.block n hl (by omega)) (fun n hn _ => ⟨hn.1, Nat.lt_of_lt_of_le hn.2.1 k.size, hn.2.2⟩) _ _ h2⟩

theorem RwI.bw {w w1 w2 : World} {v : Value} {acc : List Prt} (h : RwI w w1 v acc) (k : Bw w1 w2) : RwI w w2 v acc := by
  obtain ⟨bs, h1, h2⟩ := h
  refine ⟨bs, own_keep h1 (fun q hq => k.block q (h1.lt q hq).2), PtsM.keep (fun n hn hl => k.block n hl) (fun n hn _ => ⟨hn.1, Nat.lt_of_lt_of_le hn.2.1 k.size, hn.2.2⟩) _ _ h2⟩

theorem own_raise {w : World} {base : Nat} {e : TypeId} {size : Nat} {v : Value} {n : Nat} {xs : List Value} (h : w.ownsRow 0 e size v n xs) (hb : ∀ k, v.ownBlock = some k → base ≤ k) : w.ownsRow base e size v n xs := by
  refine ⟨h.1, ?_⟩
  rcases h.2 with h2 | ⟨g, cap, cur, rfl, h1, h3, h4⟩
  · exact .inl h2
  · exact .inr ⟨g, cap, cur, rfl, hb g rfl, h3, h4⟩

/-- One more part: appended. -/
theorem RwI.push {w w2 w3 : World} {v v' : Value} {acc : List Prt} {bs : List Nat} {x : Prt} {b : Nat} {q : Nat → Prop}
    (h1 : w2.ownsRow w.heap.size 57 1 v acc.length (bs.map fun b => .pointer (some ⟨b, 0, none⟩))) (h2 : PtsM w2 (fun n => w.heap.size ≤ n ∧ n < w2.heap.size ∧ v.ownBlock ≠ some n) acc bs)
    (hp : PtM w2 q x b) (hq : ∀ n, q n → w.heap.size ≤ n ∧ n < w2.heap.size ∧ v.ownBlock ≠ some n) (hw : w.heap.size ≤ w2.heap.size)
    (ho : w3.ownsRow 0 57 1 v' (acc.length + 1) ((bs.map fun b => .pointer (some ⟨b, 0, none⟩)) ++ [.pointer (some ⟨b, 0, none⟩)]))
    (hg : w2.grownBy w3 v.ownBlock) (hv : v'.ownBlock = v.ownBlock ∨ ∀ k, v'.ownBlock = some k → w2.heap.size ≤ k) : RwI w w3 v' (acc ++ [x]) := by
  have keep : ∀ n, (w.heap.size ≤ n ∧ n < w2.heap.size ∧ v.ownBlock ≠ some n) → n < w2.heap.size → w3.heap[n]? = w2.heap[n]? := fun n hn hl => hg.block n hl (fun e => hn.2.2 e.symm)
  have into : ∀ n, (w.heap.size ≤ n ∧ n < w2.heap.size ∧ v.ownBlock ≠ some n) → n < w2.heap.size → (w.heap.size ≤ n ∧ n < w3.heap.size ∧ v'.ownBlock ≠ some n) := fun n hn hl => ⟨hn.1, Nat.lt_of_lt_of_le hl hg.size, fun e => hv.elim (fun h => hn.2.2 (h ▸ e)) (fun h => by have := h n e; omega)⟩
  refine ⟨bs ++ [b], ?_, PtsM.snoc (PtM.keep (fun n hn hl => keep n (hq n hn) hl) (fun n hn hl => into n (hq n hn) hl) _ _ hp) (PtsM.keep keep into _ _ h2)⟩
  refine own_raise (by simpa using ho) (fun k hk => ?_)
  rcases hv with hv | hv
  · exact (h1.lt k (hv ▸ hk)).1
  · exact Nat.le_trans hw (hv k hk)

/-- A part that was read behind the row's last state: what appending it makes. -/
theorem RwI.app {w wr w2 : World} {r : Nat} {v : Value} {acc : List Prt} {x : Prt} {b : Nat} (h : RwI w wr v acc) (hw : w.heap.size ≤ wr.heap.size) (k : Kp r wr w2) (hr : r < w.heap.size) (hp : PtM w2 (Fp wr No w2) x b) :
    ∃ bs : List Nat, (w2.alloc (.cells #[.pointer (some ⟨b, 0, none⟩)] 57)).ownsRow 0 57 1 v acc.length (bs.map fun b => .pointer (some ⟨b, 0, none⟩)) ∧ (∀ k, v.ownBlock = some k → w.heap.size ≤ k) ∧
      ∀ v' w3, w3.ownsRow 0 57 1 v' (acc.length + 1) ((bs.map fun b => .pointer (some ⟨b, 0, none⟩)) ++ [.pointer (some ⟨b, 0, none⟩)]) → (w2.alloc (.cells #[.pointer (some ⟨b, 0, none⟩)] 57)).grownBy w3 v.ownBlock → (v'.ownBlock = v.ownBlock ∨ ∀ k, v'.ownBlock = some k → (w2.alloc (.cells #[.pointer (some ⟨b, 0, none⟩)] 57)).heap.size ≤ k) → RwI w w3 v' (acc ++ [x]) := by
  have hlt : ∀ k, v.ownBlock = some k → w.heap.size ≤ k ∧ k < wr.heap.size := by
    obtain ⟨bs, h1, _⟩ := h
    exact h1.lt
  have hb := Bw.alloc (Bw.refl w2) (.cells #[.pointer (some ⟨b, 0, none⟩)] 57)
  obtain ⟨bs, h1, h2⟩ := (h.kp k hr).bw hb
  refine ⟨bs, own_base h1 (Nat.zero_le _), fun k hk => (hlt k hk).1, fun v' w3 ho hg hv => ?_⟩
  refine RwI.push h1 h2 (PtM.keep (S' := Fp wr No w2) (fun n _ hl => hb.block n hl) (fun n hn _ => hn) _ _ hp) (fun n hn => ?_) (Nat.le_trans hw (Nat.le_trans k.size hb.size)) ho hg hv
  rcases hn with hn | hn
  · exact False.elim hn
  · exact ⟨Nat.le_trans hw hn.1, Nat.lt_of_lt_of_le hn.2 hb.size, fun e => by have := (hlt n e).2; omega⟩

theorem one_new (w : World) (x : Value) (e : TypeId) : ∀ j u, [x][j]? = some u → (w.alloc (.cells #[x] e)).cell? (Addr.add ⟨w.heap.size, 0, none⟩ j) = some u := by
  intro j u hu
  cases j with
  | zero =>
    have := (Blk.new w #[x] e).cell 0
    simpa [Addr.add] using this.trans hu
  | succ j => simp at hu

theorem RwI.row {w w1 : World} {v : Value} {acc : List Prt} (h : RwI w w1 v acc) : ∃ bs, RowM w1 (Fp w No w1) v bs ∧ PtsM w1 (Fp w No w1) acc bs := by
  obtain ⟨bs, h1, h2⟩ := h
  have e := h2.len
  refine ⟨bs, ⟨by rw [e]; exact own_base h1 (Nat.zero_le _), fun k hk => .inr (h1.lt k hk)⟩, PtsM.keep (fun _ _ _ => rfl) (fun n hn _ => .inr ⟨hn.1, hn.2.1⟩) _ _ h2⟩

section
variable {B w W W' : World} {S : Nat → Prop} {r g cap : Nat} {T : List ATok} {ex : Nat → Value} {i o : Nat}

theorem RI.grown (h : RI B W r g cap T ex i o) {q : Option Nat} (hg : W.grownBy W' q) (hq : ∀ k, q = some k → B.heap.size ≤ k ∧ k ≠ r) : RI B W' r g cap T ex i o :=
  ⟨h.k.keep (hg.block r h.k.lt (fun e => (hq r e.symm).2 rfl)), h.kb.grown hg (fun k e => (hq k e).1), h.t, h.lv, h.ne, h.lt, h.ho, h.len, h.e⟩

theorem SI.grown (h : SI B w No W r g cap T ex i o []) {q : Option Nat} (hB : B.heap.size ≤ w.heap.size) (hg : W.grownBy W' q) (hq : ∀ k, q = some k → w.heap.size ≤ k) : SI B w No W' r g cap T ex i o [] :=
  ⟨h.ri.grown hg (fun k e => ⟨Nat.le_trans hB (hq k e), by have := hq k e; have := h.r0; omega⟩), h.kp.grown hg hq, fun p hp => absurd hp (by simp), h.hs, h.r0⟩

theorem SI.row0 {Ps : List (Prt × Nat)} (h : SI B w S W r g cap T ex i o Ps) : RowM W (Fp w S W) (.slice none 0 0) [] ∧ PtsM W (Fp w S W) [] [] := ⟨RowM.nil _ _, rfl⟩

theorem SI.drop {Ps : List (Prt × Nat)} (h : SI B w S W r g cap T ex i o Ps) : SI B w S W r g cap T ex i o [] := ⟨h.ri, h.kp, fun p hp => absurd hp (by simp), h.hs, h.r0⟩

end

/-- A part that the call is filling. -/
def XI (w wr : World) (b : Nat) (k : Int) (x : List Int) (n a : Int) (v : Value) (acc : List Prt) : Prop :=
  w.heap.size ≤ b ∧ Blk wr b (prtC k x n a v) 83 ∧ ∃ bs : List Nat, wr.ownsRow w.heap.size 57 1 v acc.length (bs.map fun b => .pointer (some ⟨b, 0, none⟩)) ∧ PtsM wr (fun n => w.heap.size ≤ n ∧ n < wr.heap.size ∧ v.ownBlock ≠ some n ∧ n ≠ b) acc bs

section
variable {w wr w1 w2 : World} {r b : Nat} {k : Int} {x : List Int} {n a : Int} {v : Value} {acc : List Prt}

theorem XI.kp (h : XI w wr b k x n a v acc) (q : Kp r wr w2) (hr : r < w.heap.size) : XI w w2 b k x n a v acc := by
  obtain ⟨h0, h1, bs, h2, h3⟩ := h
  refine ⟨h0, h1.kp q (by omega), bs, own_keep h2 (fun k hk => q.block k (h2.lt k hk).2 (by have := (h2.lt k hk).1; omega)), PtsM.keep (fun n hn hl => q.block n hl (by omega)) (fun n hn _ => ⟨hn.1, Nat.lt_of_lt_of_le hn.2.1 q.size, hn.2.2⟩) _ _ h3⟩

theorem XI.bw (h : XI w wr b k x n a v acc) (q : Bw wr w2) : XI w w2 b k x n a v acc := by
  obtain ⟨h0, h1, bs, h2, h3⟩ := h
  refine ⟨h0, h1.bw q, bs, own_keep h2 (fun k hk => q.block k (h2.lt k hk).2), PtsM.keep (fun n hn hl => q.block n hl) (fun n hn _ => ⟨hn.1, Nat.lt_of_lt_of_le hn.2.1 q.size, hn.2.2⟩) _ _ h3⟩

theorem XI.part (h : XI w wr b k x n a v acc) : PtM wr (Fp w No wr) (.mk k x n a acc) b := by
  obtain ⟨h0, h1, bs, h2, h3⟩ := h
  refine ⟨.inr ⟨h0, h1.lt⟩, v, bs, h1, ⟨by rw [h3.len]; exact own_base h2 (Nat.zero_le _), fun k hk => .inr (h2.lt k hk)⟩, PtsM.keep (fun _ _ _ => rfl) (fun n hn _ => .inr ⟨hn.1, hn.2.1⟩) _ _ h3⟩

/-- A part that was read behind the last state: what appending it, and keeping the row, makes. -/
theorem XI.app {y : Prt} {c : Nat} (h : XI w wr b k x n a v acc) (hw : w.heap.size ≤ wr.heap.size) (q : Kp r wr w2) (hr : r < w.heap.size) (hp : PtM w2 (Fp wr No w2) y c) :
    ∃ bs : List Nat, (w2.alloc (.cells #[.pointer (some ⟨c, 0, none⟩)] 57)).ownsRow 0 57 1 v acc.length (bs.map fun b => .pointer (some ⟨b, 0, none⟩)) ∧ (∀ k, v.ownBlock = some k → w.heap.size ≤ k ∧ k ≠ b) ∧
      ∀ v' w3, w3.ownsRow 0 57 1 v' (acc.length + 1) ((bs.map fun b => .pointer (some ⟨b, 0, none⟩)) ++ [.pointer (some ⟨c, 0, none⟩)]) → (w2.alloc (.cells #[.pointer (some ⟨c, 0, none⟩)] 57)).grownBy w3 v.ownBlock → (v'.ownBlock = v.ownBlock ∨ ∀ k, v'.ownBlock = some k → (w2.alloc (.cells #[.pointer (some ⟨c, 0, none⟩)] 57)).heap.size ≤ k) → Blk w3 b (prtC k x n a v) 83 ∧ XI w (w3.setCell ⟨b, 5, none⟩ v') b k x n a v' (acc ++ [y]) := by
  obtain ⟨h0, h1, bs0, h2, h3⟩ := h
  have hne : ∀ k, v.ownBlock = some k → k ≠ b := fun k hk e => by
    rcases own_not h2 h1 (by decide) with h | h
    · rw [h] at hk; cases hk
    · exact h (by rw [hk, e])
  have hlt : ∀ k, v.ownBlock = some k → w.heap.size ≤ k ∧ k < wr.heap.size := h2.lt
  have hb := Bw.alloc (Bw.refl w2) (.cells #[.pointer (some ⟨c, 0, none⟩)] 57)
  obtain ⟨_, g1, bs, g2, g3⟩ := ((show XI w wr b k x n a v acc from ⟨h0, h1, bs0, h2, h3⟩).kp q hr).bw hb
  have hbl : b < wr.heap.size := h1.lt
  refine ⟨bs, own_base g2 (Nat.zero_le _), fun k hk => ⟨(hlt k hk).1, hne k hk⟩, fun v' w3 ho hg hv => ?_⟩
  have e1 : Blk w3 b (prtC k x n a v) 83 := g1.keep (hg.block b g1.lt (fun e => hne b e.symm rfl))
  have hv' : ∀ k, v'.ownBlock = some k → k ≠ b := fun k hk e => hv.elim (fun h => hne k (h ▸ hk) e) (fun h => by have := h k hk; have := g1.lt; omega)
  refine ⟨e1, h0, by have := e1.set 5 v'; simpa [prtC] using this, bs ++ [c], ?_, ?_⟩
  · refine own_raise (own_keep (by simpa using ho) (fun k hk => Below.heap_setCell w3 ⟨b, 5, none⟩ v' k (hv' k hk))) (fun k hk => ?_)
    rcases hv with hv | hv
    · exact (hlt k (hv ▸ hk)).1
    · exact Nat.le_trans (Nat.le_trans hw (Nat.le_trans q.size hb.size)) (hv k hk)
  · have keep : ∀ n, n < (w2.alloc (.cells #[.pointer (some ⟨c, 0, none⟩)] 57)).heap.size → v.ownBlock ≠ some n → n ≠ b → (w3.setCell ⟨b, 5, none⟩ v').heap[n]? = (w2.alloc (.cells #[.pointer (some ⟨c, 0, none⟩)] 57)).heap[n]? :=
      fun n hl hn hnb => (Below.heap_setCell w3 ⟨b, 5, none⟩ v' n hnb).trans (hg.block n hl (fun e => hn e.symm))
    have into : ∀ n, w.heap.size ≤ n → n < (w2.alloc (.cells #[.pointer (some ⟨c, 0, none⟩)] 57)).heap.size → v.ownBlock ≠ some n → n ≠ b → (w.heap.size ≤ n ∧ n < (w3.setCell ⟨b, 5, none⟩ v').heap.size ∧ v'.ownBlock ≠ some n ∧ n ≠ b) :=
      fun n h1 hl hn hnb => ⟨h1, by have := hg.size; simp [World.setCell] at *; omega, fun e => hv.elim (fun h => hn (h ▸ e)) (fun h => by have := h n e; omega), hnb⟩
    refine PtsM.snoc (PtM.keep (w := w2) (S := Fp wr No w2) (fun n hn hl => ?_) (fun n hn hl => ?_) _ _ hp) (PtsM.keep (fun n hn hl => keep n hl hn.2.2.1 hn.2.2.2) (fun n hn hl => into n hn.1 hl hn.2.2.1 hn.2.2.2) _ _ g3)
    · rcases hn with hn | hn
      · exact False.elim hn
      · exact (keep n (Nat.lt_of_lt_of_le hl hb.size) (fun e => by have := (hlt n e).2; omega) (by omega)).trans (hb.block n hl)
    · rcases hn with hn | hn
      · exact False.elim hn
      · exact into n (Nat.le_trans hw hn.1) (Nat.lt_of_lt_of_le hl hb.size) (fun e => by have := (hlt n e).2; omega) (by omega)

theorem XI.new (h : Blk wr b (prtC k x n a (.slice none 0 0)) 83) (hb : w.heap.size ≤ b) : XI w wr b k x n a (.slice none 0 0) [] := ⟨hb, h, [], World.ownsRow_nil _ _ _ _, rfl⟩

end

/-- What comes of a call that reads a row. -/
def GotR (B : World) (r g cap : Nat) (T : List ATok) (ex : Nat → Value) (o : Nat) (w : World) (R : Res) (e : Ending) (w' : World) : Prop :=
  match R with
  | .ok x c i => ∃ v, e = .returned v ∧ RwI w w' v x.kids ∧ RI B w' r g cap T ex i o ∧ Kp r w w'
  | .bad n a => e = .panicked (fltV n a) ∧ Kp r w w'
  | .out => True

/-- What a function that reads one of a row promises. -/
def RdN (B : World) (r g cap : Nat) (T : List ATok) (ex : Nat → Value) (f fn : Nat) (rd : Rd) : Prop :=
  ∀ (n : Nat) w i o, RI B w r g cap T ex i o → o ≤ 64 → pP T f (.read rd n) i o ≠ .out → Calls Tryd.prog fn #[.pointer (some ⟨r, 0, none⟩), .int .i64 (n : Int)] w (Got B r g cap T ex o No w (pP T f (.read rd n) i o))

/-- What the call that reads a row promises. -/
def RdR (B : World) (r g cap : Nat) (T : List ATok) (ex : Nat → Value) (f fn : Nat) (rd : Rd) : Prop :=
  ∀ (b e : ByteArray) w i o, RI B w r g cap T ex i o → o ≤ 64 → pP T f (.row rd b e) i o ≠ .out → Calls Tryd.prog 88 #[.pointer (some ⟨r, 0, none⟩), .string b, .string e, .func (.func fn) #[.pointer (some ⟨r, 0, none⟩)] #[]] w (GotR B r g cap T ex o w (pP T f (.row rd b e) i o))

end Go.Proofs.YtlcieebneclmpaaDoor

