/- A registry in memory: its block, its row of versions, their lists; what may change. -/
import Derived.Test.YtaeifhfhahcoiaaPm
import Derived.Test.YtaeifhfhahcoiaaAp
set_option linter.unusedSimpArgs false
set_option linter.unusedVariables false
namespace Go.Proofs.Ytaeifhfhahcoiaa
open Go Go.RowKit

def I64 (a : Int) : Prop := -9223372036854775808 ≤ a ∧ a ≤ 9223372036854775807
def U (a : Int) : Prop := 0 ≤ a ∧ a ≤ 18446744073709551615

/-- w' is w but for the blocks bs, and for new ones. -/
structure Ex (bs : List Nat) (w w' : World) : Prop where
  os : w'.os = w.os
  tape : w'.tape = w.tape
  output : w'.output = w.output
  size : w.heap.size ≤ w'.heap.size
  block : ∀ b, b < w.heap.size → b ∉ bs → w'.heap[b]? = w.heap[b]?

theorem Ex.refl (bs : List Nat) (w : World) : Ex bs w w := ⟨rfl, rfl, rfl, Nat.le_refl _, fun _ _ _ => rfl⟩
theorem Ex.trans {bs : List Nat} {a b c : World} (h : Ex bs a b) (k : Ex bs b c) : Ex bs a c :=
  ⟨k.os.trans h.os, k.tape.trans h.tape, k.output.trans h.output, Nat.le_trans h.size k.size, fun x hx hn => (k.block x (Nat.lt_of_lt_of_le hx h.size) hn).trans (h.block x hx hn)⟩
theorem Ex.of_bw {bs : List Nat} {a b : World} (h : Bw a b) : Ex bs a b := ⟨h.os, h.tape, h.output, h.size, fun x hx _ => h.block x hx⟩
theorem Ex.bw {bs : List Nat} {a b c : World} (h : Ex bs a b) (k : Bw b c) : Ex bs a c := h.trans (Ex.of_bw k)
theorem Bw.ex {bs : List Nat} {a b c : World} (h : Bw a b) (k : Ex bs b c) (hb : ∀ x ∈ bs, a.heap.size ≤ x) : Bw a c :=
  ⟨k.os.trans h.os, k.tape.trans h.tape, k.output.trans h.output, Nat.le_trans h.size k.size, fun x hx => (k.block x (Nat.lt_of_lt_of_le hx h.size) (fun hm => by have := hb x hm; omega)).trans (h.block x hx)⟩
theorem Ex.mono {bs cs : List Nat} {a b : World} (h : Ex bs a b) (hs : ∀ x ∈ bs, x ∈ cs) : Ex cs a b := ⟨h.os, h.tape, h.output, h.size, fun x hx hn => h.block x hx (fun hm => hn (hs x hm))⟩
theorem Ex.set {bs : List Nat} {a w : World} (h : Ex bs a w) {g : Nat} (hg : g ∈ bs ∨ a.heap.size ≤ g) (j : Nat) (v : Value) : Ex bs a (w.setCell ⟨g, j, none⟩ v) :=
  ⟨h.os, h.tape, h.output, by simpa using h.size, fun x hx hn => (Below.heap_setCell w ⟨g, j, none⟩ v x (fun e => by
    simp only at e
    rcases hg with hg | hg
    · exact hn (e ▸ hg)
    · omega)).trans (h.block x hx hn)⟩
theorem Ex.alloc {bs : List Nat} {a w : World} (h : Ex bs a w) (o : Obj) : Ex bs a (w.alloc o) := h.bw (Bw.alloc (Bw.refl _) o)
theorem Ex.drewN {bs : List Nat} {a w : World} (h : Ex bs a w) (n : Nat) : Ex bs a (w.drewN n) := h.bw (bw_drewN w n)
theorem Ex.drew {bs : List Nat} {a w : World} (h : Ex bs a w) : Ex bs a w.drew := h.bw (Bw.drew (Bw.refl _))

theorem Blk.ex {bs : List Nat} {w w' : World} {g : Nat} {cur : Array Value} {e : TypeId} (h : Blk w g cur e) (k : Ex bs w w') (hg : g ∉ bs) : Blk w' g cur e := h.keep (k.block g h.lt hg)
theorem Sl.ex {bs : List Nat} {w w' : World} {v : Value} {n size : Nat} {cs : List Value} (h : Sl w (fun b => b ∉ bs) v n size cs) (k : Ex bs w w') : Sl w' (fun b => b ∉ bs) v n size cs :=
  h.keep k.size (fun b hb hg => k.block b hb hg) (fun _ _ g => g)

theorem Blk.newAt (w : World) (cur : Array Value) (e : TypeId) (g : Nat) (h : w.heap.size = g) : Blk (w.alloc (.cells cur e)) g cur e := h ▸ Blk.new w cur e


/-! ## the registry -/

/-- The registry of F functions and G globals in the block p, with these versions: all its blocks are in bs. -/
structure DS (w : World) (p : Nat) (bs : List Nat) (F G : Nat) (rv : Value) (L : List (VV × Value)) : Prop where
  blk : Blk w p #[.int .i64 F, .int .i64 G, rv] 68
  row : w.ownsRow 0 78 3 rv L.length (rowC L)
  ons : ∀ q ∈ L, Sl w (fun b => b ∈ bs ∧ b ≠ p ∧ rv.ownBlock ≠ some b) q.2 q.1.on.length 2 (depC q.1.on)
  mp : p ∈ bs
  mr : ∀ b, rv.ownBlock = some b → b ∈ bs ∧ b ≠ p
  lt : ∀ b ∈ bs, b < w.heap.size
  big : L.length ≤ 1000 ∧ ∀ q ∈ L, q.1.on.length ≤ 1000
  once : ∀ q ∈ L, nmsP G q.1.on q.1.on.length

theorem own_keep {w w' : World} {base : Nat} {e : TypeId} {size : Nat} {v : Value} {n : Nat} {xs : List Value} (h : w.ownsRow base e size v n xs) (hb : ∀ b, v.ownBlock = some b → w'.heap[b]? = w.heap[b]?) : w'.ownsRow base e size v n xs := by
  refine ⟨h.1, ?_⟩
  rcases h.2 with h1 | ⟨g, cap, cur, e1, hbb, hg, r⟩
  · exact .inl h1
  · subst e1
    exact .inr ⟨g, cap, cur, rfl, hbb, (hb g rfl).trans hg, r⟩

theorem own_bw {w w' : World} {base : Nat} {e : TypeId} {size : Nat} {v : Value} {n : Nat} {xs : List Value} (h : w.ownsRow base e size v n xs) (hb : Bw w w') : w'.ownsRow base e size v n xs := own_keep h (fun b hv => hb.block b (h.lt b hv).2)

section
variable {w w' : World} {p F G : Nat} {bs : List Nat} {rv : Value} {L : List (VV × Value)}

theorem DS.keep (h : DS w p bs F G rv L) (hs : w.heap.size ≤ w'.heap.size) (hk : ∀ b ∈ bs, w'.heap[b]? = w.heap[b]?) : DS w' p bs F G rv L :=
  ⟨h.blk.keep (hk p h.mp), own_keep h.row (fun b hb => hk b (h.mr b hb).1), fun q hq => (h.ons q hq).keep hs (fun b _ hg => hk b hg.1) (fun _ _ g => g), h.mp, h.mr, fun b hb => Nat.lt_of_lt_of_le (h.lt b hb) hs, h.big, h.once⟩
theorem DS.bw (h : DS w p bs F G rv L) (k : Bw w w') : DS w' p bs F G rv L := h.keep k.size (fun b hb => k.block b (h.lt b hb))
theorem DS.ex {cs : List Nat} (h : DS w p bs F G rv L) (k : Ex cs w w') (hn : ∀ b ∈ bs, b ∉ cs) : DS w' p bs F G rv L := h.keep k.size (fun b hb => k.block b (h.lt b hb) (hn b hb))
end

/-- Only blocks of bs have changed; those of bs' are of bs or new. -/
structure Nx (bs : List Nat) (w w' : World) (bs' : List Nat) : Prop where
  ex : Ex bs w w'
  new : ∀ b ∈ bs', b ∈ bs ∨ w.heap.size ≤ b
theorem Nx.refl (bs : List Nat) (w : World) : Nx bs w w bs := ⟨Ex.refl bs w, fun b hb => .inl hb⟩
theorem Nx.of_bw {bs : List Nat} {w w' : World} (h : Bw w w') : Nx bs w w' bs := ⟨Ex.of_bw h, fun b hb => .inl hb⟩
theorem Nx.trans {a b c : World} {bs cs ds : List Nat} (h : Nx bs a b cs) (k : Nx cs b c ds) : Nx bs a c ds := by
  refine ⟨⟨k.ex.os.trans h.ex.os, k.ex.tape.trans h.ex.tape, k.ex.output.trans h.ex.output, Nat.le_trans h.ex.size k.ex.size, fun x hx hn => ?_⟩, fun x hx => ?_⟩
  · refine (k.ex.block x (Nat.lt_of_lt_of_le hx h.ex.size) (fun hm => ?_)).trans (h.ex.block x hx hn)
    rcases h.new x hm with h1 | h1
    · exact hn h1
    · omega
  · rcases k.new x hx with h1 | h1
    · exact h.new x h1
    · exact .inr (Nat.le_trans h.ex.size h1)
theorem Nx.bw {a b : World} {bs cs : List Nat} (h : Nx bs a b cs) {c : World} (k : Bw b c) : Nx bs a c cs := ⟨h.ex.bw k, h.new⟩

theorem info_parts {P : Program} {t : TypeId} {z : Value} {n b : Nat} (h : (P.info? t).map (fun i => (i.zero, i.size, i.bytes)) = some (some z, n, b)) : ∃ i, P.info? t = some i ∧ i.zero = some z ∧ i.size = n ∧ i.bytes = b := by
  obtain ⟨i, hi, e⟩ := Option.map_eq_some_iff.1 h
  simp only [Prod.mk.injEq] at e
  exact ⟨i, hi, e.1, e.2.1, e.2.2⟩
theorem infoDp : (Try.prog.info? 61).map (fun i => (i.zero, i.size, i.bytes)) = some (some (.agg #[.int .i64 0, .int .u64 0]), 2, 16) := by kernel_rfl
theorem infoI : (Try.prog.info? 3).map (fun i => (i.zero, i.size, i.bytes)) = some (some (.int .i64 0), 1, 8) := by kernel_rfl
theorem infoVe : (Try.prog.info? 78).map (fun i => (i.zero, i.size, i.bytes)) = some (some (.agg #[.int .i64 0, .slice none 0 0, .bool false]), 3, 40) := by kernel_rfl
theorem infoRv : (Try.prog.info? 45).map (fun i => (i.zero, i.size, i.bytes)) = some (some (.agg #[.int .i64 0, .slice none 0 0, .bool false]), 3, 40) := by kernel_rfl
theorem infoBo : (Try.prog.info? 4).map (fun i => (i.zero, i.size, i.bytes)) = some (some (.bool false), 1, 1) := by kernel_rfl

end Go.Proofs.Ytaeifhfhahcoiaa
