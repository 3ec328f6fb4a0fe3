/- A profile in memory: its rows, its map; what may change. -/
import Derived.Test.YtfkcbioefdkabaaDa
import Derived.Test.YtfkcbioefdkabaaPm
import Derived.Maps.OwnSet
import Derived.DeepKeys4
import Derived.WideKeyEntry
set_option linter.unusedSimpArgs false
set_option linter.unusedVariables false
namespace Go.Proofs.Ytfkcbioefdkabaa
open Go Go.RowKit

def I64 (a : Int) : Prop := -9223372036854775808 ≤ a ∧ a ≤ 9223372036854775807
def U (a : Int) : Prop := 0 ≤ a ∧ a ≤ 18446744073709551615

/-- w' is w but for the blocks bs, and for new ones. -/
structure Ex (bs : List Nat) (w w' : World) : Prop where
  os : w'.os = w.os
  tape : w'.tape = w.tape
  output : w'.output = w.output
  size : w.heap.size ≤ w'.heap.size
  block : ∀ b, b < w.heap.size → b ∉ bs → w'.heap[b]? = w.heap[b]?

theorem Ex.refl (bs : List Nat) (w : World) : Ex bs w w := ⟨rfl, rfl, rfl, Nat.le_refl _, fun _ _ _ => rfl⟩
theorem Ex.trans {bs : List Nat} {a b c : World} (h : Ex bs a b) (k : Ex bs b c) : Ex bs a c :=
  ⟨k.os.trans h.os, k.tape.trans h.tape, k.output.trans h.output, Nat.le_trans h.size k.size, fun x hx hn => (k.block x (Nat.lt_of_lt_of_le hx h.size) hn).trans (h.block x hx hn)⟩
theorem Ex.of_bw {bs : List Nat} {a b : World} (h : Bw a b) : Ex bs a b := ⟨h.os, h.tape, h.output, h.size, fun x hx _ => h.block x hx⟩
theorem Ex.bw {bs : List Nat} {a b c : World} (h : Ex bs a b) (k : Bw b c) : Ex bs a c := h.trans (Ex.of_bw k)
theorem Bw.ex {bs : List Nat} {a b c : World} (h : Bw a b) (k : Ex bs b c) (hb : ∀ x ∈ bs, a.heap.size ≤ x) : Bw a c :=
  ⟨k.os.trans h.os, k.tape.trans h.tape, k.output.trans h.output, Nat.le_trans h.size k.size, fun x hx => (k.block x (Nat.lt_of_lt_of_le hx h.size) (fun hm => by have := hb x hm; omega)).trans (h.block x hx)⟩
theorem Ex.mono {bs cs : List Nat} {a b : World} (h : Ex bs a b) (hs : ∀ x ∈ bs, x ∈ cs) : Ex cs a b := ⟨h.os, h.tape, h.output, h.size, fun x hx hn => h.block x hx (fun hm => hn (hs x hm))⟩
theorem Ex.set {bs : List Nat} {a w : World} (h : Ex bs a w) {g : Nat} (hg : g ∈ bs ∨ a.heap.size ≤ g) (j : Nat) (v : Value) : Ex bs a (w.setCell ⟨g, j, none⟩ v) :=
  ⟨h.os, h.tape, h.output, by simpa using h.size, fun x hx hn => (Below.heap_setCell w ⟨g, j, none⟩ v x (fun e => by
    simp only at e
    rcases hg with hg | hg
    · exact hn (e ▸ hg)
    · omega)).trans (h.block x hx hn)⟩
theorem Ex.alloc {bs : List Nat} {a w : World} (h : Ex bs a w) (o : Obj) : Ex bs a (w.alloc o) := h.bw (Bw.alloc (Bw.refl _) o)
theorem Ex.drewN {bs : List Nat} {a w : World} (h : Ex bs a w) (n : Nat) : Ex bs a (w.drewN n) := h.bw (bw_drewN w n)
theorem Ex.drew {bs : List Nat} {a w : World} (h : Ex bs a w) : Ex bs a w.drew := h.bw (Bw.drew (Bw.refl _))

theorem Blk.ex {bs : List Nat} {w w' : World} {g : Nat} {cur : Array Value} {e : TypeId} (h : Blk w g cur e) (k : Ex bs w w') (hg : g ∉ bs) : Blk w' g cur e := h.keep (k.block g h.lt hg)
theorem Sl.ex {bs : List Nat} {w w' : World} {v : Value} {n size : Nat} {cs : List Value} (h : Sl w (fun b => b ∉ bs) v n size cs) (k : Ex bs w w') : Sl w' (fun b => b ∉ bs) v n size cs :=
  h.keep k.size (fun b hb hg => k.block b hb hg) (fun _ _ g => g)

theorem Blk.newAt (w : World) (cur : Array Value) (e : TypeId) (g : Nat) (h : w.heap.size = g) : Blk (w.alloc (.cells cur e)) g cur e := h ▸ Blk.new w cur e

/-! ## the map -/

/-- A place as a key. -/
def pk (p : Int × Int) : Value := .agg #[.int .i64 p.1, .int .i64 p.2]

theorem laidOutP : laidOutB Try.prog = true := by kernel_rfl
theorem lawD : WideMaps.KeyLaw Try.prog 81 := deep_law_laid laidOutP (m := 2) (by omega) (of_decide_eq_true (by kernel_rfl)) (by kernel_rfl) (by kernel_rfl)
theorem lawP : Maps.Keyed Try.prog 81 := Maps.Keyed.of_law lawD
theorem underMk : Try.prog.underlying 65 = some (.map 81 3) := by kernel_rfl
theorem underInt : Try.prog.underlying 3 = some (.int .i64) := by kernel_rfl

theorem pk_inj {p q : Int × Int} (h : pk p = pk q) : p = q := by
  unfold pk at h
  simp at h
  exact Prod.ext h.1 h.2

theorem wf_i64 {a : Int} (h : I64 a) : (Lit.int .i64 a).wf = true := by
  unfold I64 at h
  simp [Lit.wf, IntKind.min, IntKind.max, IntKind.bits, IntKind.signed]
  omega

set_option maxRecDepth 100000 in
theorem keyP (p : Int × Int) (h1 : I64 p.1) (h2 : I64 p.2) : ∃ l, keyOf Try.prog 81 (pk p) = some l := by
  have w1 := wf_i64 h1
  have w2 := wf_i64 h2
  have c1 : Try.prog.cellsOf 3 = 1 := by kernel_rfl
  have c2 : Try.prog.cellsOf 81 = 2 := by kernel_rfl
  have hkt : Try.prog.keyType 81 = true := by kernel_rfl
  have hf : (pk p).formed Try.prog 81 = true := by unfold pk Value.formed; simp [Try.underlying81, c2]
  obtain ⟨n, hn⟩ : ∃ n, Try.prog.types.size = n + 1 := ⟨Try.prog.types.size - 1, by have : 0 < Try.prog.types.size := of_decide_eq_true (by kernel_rfl); omega⟩
  unfold keyOf
  rw [Try.underlying81]
  simp only [hkt, hf, Bool.and_self, if_true]
  rw [hn]
  simp [Program.keyLits, Try.underlying81, c1, c2, underInt, pk, Value.cells, w1, w2]

/-- The block mb is a map of at most n entries, with these values. -/
def MK (w : World) (mb : Nat) (K : Int → Int → Int) (n : Nat) : Prop :=
  ∃ D, w.ownsMap Try.prog 81 (plainElem (H := Unit) Try.prog 3) mb n D ∧ ∀ (p : Int × Int) (l : Lit), keyOf Try.prog 81 (pk p) = some l → D.atKey l (.lit (.int .i64 0)) = .lit (.int .i64 (K p.1 p.2))

theorem MK.lt {w : World} {mb n : Nat} {K : Int → Int → Int} (h : MK w mb K n) : mb < w.heap.size := by
  obtain ⟨D, h, _⟩ := h
  exact h.lt
theorem MK.keep {w w' : World} {mb n : Nat} {K : Int → Int → Int} (h : MK w mb K n) (hb : w'.heap[mb]? = w.heap[mb]?) : MK w' mb K n := by
  obtain ⟨D, ⟨es, clock, h1, r⟩, hr⟩ := h
  exact ⟨D, ⟨es, clock, hb.trans h1, r⟩, hr⟩
theorem MK.congr {w : World} {mb n : Nat} {K K' : Int → Int → Int} (h : MK w mb K n) (e : ∀ f t, K f t = K' f t) : MK w mb K' n := by
  have : K = K' := by funext f t; exact e f t
  exact this ▸ h
theorem MK.mono {w : World} {mb n m : Nat} {K : Int → Int → Int} (h : MK w mb K n) (e : n ≤ m) : MK w mb K m := by
  obtain ⟨D, h, hr⟩ := h
  exact ⟨D, h.mono e, hr⟩
theorem MK.new (w : World) : MK (w.alloc (.map #[] 0)) w.heap.size (fun _ _ => 0) 0 :=
  ⟨.map [], World.ownsMap_made w Try.prog 81 _, fun p l hl => by simp [DataW.atKey]⟩

/-! ## the profile -/

/-- The profile of F functions and G globals, to which the things L were told: the block p, its rows hb, wb, its map mb. -/
structure PS (w : World) (p hb wb mb F G : Nat) (L : List AA) : Prop where
  blk : Blk w p #[.slice (some ⟨hb, 0, none⟩) F F, .slice (some ⟨wb, 0, none⟩) G G, .map (some mb)] 67
  hs : ∃ cur, Blk w hb cur 76 ∧ cur.size = F ∧ ∀ i : Nat, i < F → cur[i]? = some (.int .i64 (heatOf L i))
  ws : ∃ cur, Blk w wb cur 83 ∧ cur.size = G * 2 ∧ ∀ i : Nat, i < G → cur[i * 2]? = some (.int .i64 (writeOf L i).1) ∧ cur[i * 2 + 1]? = some (.int .u64 (writeOf L i).2)
  mp : MK w mb (fun f t => kindOf L f t) L.length
  ne : p ≠ hb ∧ p ≠ wb ∧ p ≠ mb ∧ hb ≠ wb ∧ hb ≠ mb ∧ wb ≠ mb

section
variable {w w' : World} {p hb wb mb F G : Nat} {L : List AA}

theorem PS.keep (h : PS w p hb wb mb F G L) (hk : ∀ b, b ∈ [p, hb, wb, mb] → w'.heap[b]? = w.heap[b]?) : PS w' p hb wb mb F G L := by
  obtain ⟨c1, a1, a2, a3⟩ := h.hs
  obtain ⟨c2, b1, b2, b3⟩ := h.ws
  exact ⟨h.blk.keep (hk p (by simp)), ⟨c1, a1.keep (hk hb (by simp)), a2, a3⟩, ⟨c2, b1.keep (hk wb (by simp)), b2, b3⟩, h.mp.keep (hk mb (by simp)), h.ne⟩
theorem PS.lts (h : PS w p hb wb mb F G L) : p < w.heap.size ∧ hb < w.heap.size ∧ wb < w.heap.size ∧ mb < w.heap.size := by
  obtain ⟨c1, a1, a2, a3⟩ := h.hs
  obtain ⟨c2, b1, b2, b3⟩ := h.ws
  exact ⟨h.blk.lt, a1.lt, b1.lt, h.mp.lt⟩
theorem PS.bw (h : PS w p hb wb mb F G L) (k : Bw w w') : PS w' p hb wb mb F G L := by
  obtain ⟨h1, h2, h3, h4⟩ := h.lts
  refine h.keep (fun b hb => k.block b ?_)
  simp only [List.mem_cons, List.not_mem_nil, or_false] at hb
  rcases hb with rfl | rfl | rfl | rfl <;> assumption
theorem PS.ex {bs : List Nat} (h : PS w p hb wb mb F G L) (k : Ex bs w w') (hn : ∀ b ∈ [p, hb, wb, mb], b ∉ bs) : PS w' p hb wb mb F G L := by
  obtain ⟨h1, h2, h3, h4⟩ := h.lts
  refine h.keep (fun b hb => k.block b ?_ (hn b hb))
  simp only [List.mem_cons, List.not_mem_nil, or_false] at hb
  rcases hb with rfl | rfl | rfl | rfl <;> assumption
end

end Go.Proofs.Ytfkcbioefdkabaa
