/- Memory read as plain data: blocks, rows; the table of signs; tokens. Nothing of the program's calls is in it. · The program's small questions of one byte: the contracts. · The program's words and names: the contracts. · The program's names, remarks, what begins a token: the contracts. · append to a row that one owns: the row stays where it is, or is new. Nothing of the program is in it. -/
import Derived.Test.YtlcieebneclmpaaDoorRows
import Derived.Test.YtlcieebneclmpaaDoorMm
import Derived.Test.YtlcieebneclmpaaDoorLy
import Derived.Test.YtlcieebneclmpaaDoorLlk
import Derived.WalkKit
import Derived.WalkSpells
import Derived.WalkLawsBesides
import Derived.Deep.RegionHeld3
import Derived.Deep.RegionLaw
import Derived.Deep.DeepCutAuto
import Derived.Laws.MakeOwn
import Derived.Laws.OwnMore
import Derived.Laws.CopyOwn
import Derived.Laws.BytesArg
import Derived.ArgAppend
import Derived.Deep.MidRow
import Derived.Laws.AppendOwnNone
set_option linter.unusedSimpArgs false
set_option linter.unusedVariables false
namespace Go.Proofs.YtlcieebneclmpaaDoor
open Go Go.RowKit

theorem ret_int {k : IntKind} {a b : Int} (h : a = b) : Ending.returned (.int k a) = .returned (.int k b) := by rw [h]

theorem ret_bool {a b : Bool} (h : a = b) : Ending.returned (.bool a) = .returned (.bool b) := by rw [h]

theorem ret_ii {k l : IntKind} {a b c d : Int} (h : a = b) (g : c = d) : Ending.returned (.tuple #[.int k a, .int l c]) = .returned (.tuple #[.int k b, .int l d]) := by rw [h, g]

theorem ret_ib {k : IntKind} {a b : Int} {c d : Bool} (h : a = b) (g : c = d) : Ending.returned (.tuple #[.int k a, .bool c]) = .returned (.tuple #[.int k b, .bool d]) := by rw [h, g]

theorem Sl.cellAt {w : World} {G : Nat → Prop} {a : Option Addr} {cap n size : Nat} {cs : List Value} (h : Sl w G (.slice a n cap) n size cs) (hn : n ≠ 0) :
    ∃ b o, a = some ⟨b, o, none⟩ ∧ b < w.heap.size ∧ G b ∧ ∀ i, i < n * size → w.cell? ⟨b, o + i, none⟩ = cs[i]? := by
  obtain ⟨_, a', cap', e, _, h⟩ := h
  cases e
  rcases h with h | h
  · exact absurd h hn
  · exact h

theorem hid {p : Prop} (h : p) : Hid p := h

/-- The block g has just these cells, none of them frozen. -/
def Blk (w : World) (g : Nat) (cur : Array Value) (e : TypeId) : Prop := w.heap[g]? = some (.cells cur e (0, 0))

theorem Blk.lt {w : World} {g : Nat} {cur : Array Value} {e : TypeId} (h : Blk w g cur e) : g < w.heap.size := (Array.getElem?_eq_some_iff.1 h).1

theorem Blk.cell {w : World} {g : Nat} {cur : Array Value} {e : TypeId} (h : Blk w g cur e) (j : Nat) : w.cell? ⟨g, j, none⟩ = cur[j]? := cell_of_row w g j cur e (0, 0) h

theorem Blk.free {w : World} {g : Nat} {cur : Array Value} {e : TypeId} (h : Blk w g cur e) (j : Nat) : w.frozen? ⟨g, j, none⟩ = false := by
  simp [World.frozen?, show w.heap[g]? = _ from h]

theorem Blk.new (w : World) (cur : Array Value) (e : TypeId) : Blk (w.alloc (.cells cur e)) w.heap.size cur e := heap_alloc_new w _

theorem Blk.alloc {w : World} {g : Nat} {cur : Array Value} {e : TypeId} (h : Blk w g cur e) (o : Obj) : Blk (w.alloc o) g cur e := (Below.heap_alloc w o g h.lt).trans h

theorem Blk.keep {w w' : World} {g : Nat} {cur : Array Value} {e : TypeId} (h : Blk w g cur e) (hb : w'.heap[g]? = w.heap[g]?) : Blk w' g cur e := hb.trans h

theorem Blk.set {w : World} {g : Nat} {cur : Array Value} {e : TypeId} (h : Blk w g cur e) (j : Nat) (v : Value) : Blk (w.setCell ⟨g, j, none⟩ v) g (cur.setIfInBounds j v) e := by
  unfold Blk at *
  simp [World.setCell, Array.getElem?_modify, h]

theorem Blk.other {w : World} {g : Nat} {cur : Array Value} {e : TypeId} (h : Blk w g cur e) {p : Addr} (hp : p.block ≠ g) (v : Value) : Blk (w.setCell p v) g cur e :=
  (Below.heap_setCell w p v g (fun k => hp k.symm)).trans h

theorem Blk.drewN {w : World} {g : Nat} {cur : Array Value} {e : TypeId} (h : Blk w g cur e) (n : Nat) : Blk (w.drewN n) g cur e := h

theorem infoU8 : (Tryd.prog.info? 5).map (fun i => (i.zero, i.size, i.bytes)) = some (some (.int .u8 0), 1, 1) := by kernel_rfl

theorem infoS : (Tryd.prog.info? 9).map (fun i => (i.zero, i.size, i.bytes)) = some (some (.string ByteArray.empty), 1, 16) := by kernel_rfl

theorem own_base {w : World} {base base' : Nat} {e : TypeId} {size : Nat} {v : Value} {n : Nat} {xs : List Value} (h : w.ownsRow base e size v n xs) (hb : base' ≤ base) : w.ownsRow base' e size v n xs := by
  refine ⟨h.1, ?_⟩
  rcases h.2 with h | ⟨g, cap, cur, e1, h1, r⟩
  · exact .inl h
  · exact .inr ⟨g, cap, cur, e1, by omega, r⟩

theorem own_form {w : World} {base : Nat} {e : TypeId} {size : Nat} {v : Value} {n : Nat} {xs : List Value} (h : w.ownsRow base e size v n xs) : ∃ a cap, v = .slice a n cap := by
  rcases h.2 with ⟨rfl, rfl⟩ | ⟨g, cap, cur, rfl, _⟩
  · exact ⟨none, 0, rfl⟩
  · exact ⟨_, cap, rfl⟩

theorem own_ne {w : World} {base : Nat} {e : TypeId} {size : Nat} {v : Value} {n : Nat} {xs : List Value} (h : w.ownsRow base e size v n xs) {g : Nat} (hg : w.heap.size ≤ g) : v.ownBlock = none ∨ v.ownBlock ≠ some g := by
  cases hv : v.ownBlock with
  | none => exact .inl rfl
  | some k => exact .inr (fun e => by have := (h.lt k hv).2; cases e; omega)

theorem own_empty (w : World) (e : TypeId) (size base g : Nat) (hg : w.heap.size = g) (hb : base ≤ g) : (w.alloc (.cells #[] e)).ownsRow base e size (.slice (some ⟨g, 0, none⟩) 0 0) 0 [] := by
  subst hg
  exact World.ownsRow_made w #[] 0 hb (Nat.zero_le _) (by simp)

theorem ints_one (k : IntKind) (l : List Int) : ∀ u ∈ l.map (Value.int k), u.oneCell' = true := by
  intro u hu
  obtain ⟨x, _, rfl⟩ := List.mem_map.1 hu
  rfl

theorem strs_one (l : List ByteArray) : ∀ u ∈ l.map Value.string, u.oneCell' = true := by
  intro u hu
  obtain ⟨x, _, rfl⟩ := List.mem_map.1 hu
  rfl

/-- A new row appended to: what stays of the rest. -/
theorem Blk.grown {w w' : World} {g h : Nat} {cur : Array Value} {e : TypeId} (hb : Blk w g cur e) (hg : w.grownBy w' (some h)) (hne : g ≠ h) : Blk w' g cur e :=
  hb.keep (hg.block g hb.lt (fun k => hne (by cases k; rfl)))

theorem bw_grownAt {a w w' : World} {h : Nat} (hb : Bw a w) (hg : w.grownBy w' (some h)) (hh : a.heap.size ≤ h) : Bw a w' :=
  Below.grown hb hg hb.size (fun k e => by cases e; exact hh)

theorem Sl.at {w : World} {G : Nat → Prop} {a : Option Addr} {cap n : Nat} {cs : List Value} (h : Sl w G (.slice a n cap) n 1 cs) {i : Nat} (hi : i < n) :
    ∃ b o, a = some ⟨b, o, none⟩ ∧ b < w.heap.size ∧ w.cell? ⟨b, o + i, none⟩ = cs[i]? := by
  obtain ⟨b, o, e, hlt, _, hc⟩ := h.cellAt (by omega)
  exact ⟨b, o, e, hlt, hc i (by omega)⟩

theorem str_inj {z s : ByteArray} (h : z.toList = s.toList) : z = s := by
  rw [ByteArray.toList_eq, ByteArray.toList_eq] at h
  cases z; cases s
  simp only [ByteArray.mk.injEq]
  exact Array.toList_inj.1 h

theorem str_ne {z s : ByteArray} (h : ¬ z = s) : (z.toList == s.toList) = false := by
  rw [beq_eq_false_iff_ne]
  exact fun k => h (str_inj k)

theorem sl_one {w : World} {G : Nat → Prop} {v : Value} {n size : Nat} {cs : List Value} (h : Sl w G v n size cs) : v.oneCell' = true := by
  obtain ⟨a, c, rfl⟩ := h.form
  rfl

theorem Blk.lay {w : World} {g : Nat} {cur : Array Value} {e : TypeId} (h : Blk w g cur e) (os : List Obj) (n : Nat) : Blk (lay w os n) g cur e := h.keep ((foldl_heap os w).2 g h.lt)

theorem Blk.bw {w w' : World} {g : Nat} {cur : Array Value} {e : TypeId} (h : Blk w g cur e) (hb : Bw w w') : Blk w' g cur e := h.keep (hb.block g h.lt)

theorem grown_set (w : World) (g j : Nat) (v : Value) : w.grownBy (w.setCell ⟨g, j, none⟩ v) (some g) :=
  ⟨rfl, rfl, rfl, by simp [World.setCell], fun k _ hne => Below.heap_setCell w ⟨g, j, none⟩ v k (fun e => hne (by rw [e]))⟩

theorem own_not {w : World} {base : Nat} {e e' : TypeId} {size : Nat} {v : Value} {n g : Nat} {xs : List Value} {cur : Array Value} (h : w.ownsRow base e size v n xs) (hb : Blk w g cur e') (hne : e ≠ e') : v.ownBlock = none ∨ v.ownBlock ≠ some g := by
  rcases h.2 with ⟨rfl, _⟩ | ⟨g', cap', cur', rfl, _, hg', _⟩
  · exact .inl rfl
  · right
    simp only [Value.ownBlock, ne_eq, Option.some.injEq]
    rintro rfl
    have hb' : w.heap[g']? = some (.cells cur e' (0, 0)) := hb
    rw [hb'] at hg'
    simp only [Option.some.injEq, Obj.cells.injEq] at hg'
    exact hne hg'.2.1.symm

theorem own_lay {w : World} {base : Nat} {e : TypeId} {size : Nat} {v : Value} {n : Nat} {xs : List Value} (h : w.ownsRow base e size v n xs) (os : List Obj) (m : Nat) : (lay w os m).ownsRow base e size v n xs :=
  h.kept (row := none) ⟨(foldl_rest os w).1, (foldl_rest os w).2.1, (foldl_rest os w).2.2, by rw [lay_size]; omega, fun k hk _ => (foldl_heap os w).2 k hk⟩ (by cases v.ownBlock <;> simp)

theorem Blk.grownOwn {w w' : World} {g : Nat} {cur : Array Value} {e e' : TypeId} {base size n : Nat} {v : Value} {xs : List Value} (h : Blk w g cur e) (ho : w.ownsRow base e' size v n xs) (hne : e' ≠ e) (hg : w.grownBy w' v.ownBlock) : Blk w' g cur e := by
  refine h.keep (hg.block g h.lt (fun k => ?_))
  rcases own_not ho h hne with h1 | h1
  · rw [h1] at k; cases k
  · exact h1 k.symm

theorem own_apart {w : World} {base : Nat} {e e' : TypeId} {size size' : Nat} {v v' : Value} {n n' : Nat} {xs xs' : List Value}
    (h : w.ownsRow base e size v n xs) (h' : w.ownsRow base e' size' v' n' xs') (hne : e ≠ e') : v'.ownBlock = none ∨ v'.ownBlock ≠ v.ownBlock := by
  rcases h.2 with ⟨rfl, _⟩ | ⟨g, cap, cur, rfl, _, hg, _⟩
  · cases hv : v'.ownBlock
    · exact .inl rfl
    · exact .inr (by simp [Value.ownBlock])
  · exact own_not h' (show Blk w g cur e from hg) hne.symm

theorem bw_grown {a w w' : World} {base : Nat} {e : TypeId} {size : Nat} {v : Value} {n : Nat} {xs : List Value} (h : Bw a w) (hb : a.heap.size ≤ base) (hown : w.ownsRow base e size v n xs) (hg : w.grownBy w' v.ownBlock) : Bw a w' :=
  Below.grown h hg h.size (fun k hk => by have := (hown.lt k hk).1; omega)

theorem ret_3 {a b c a' b' c' : Value} (h : a = a') (g : b = b') (k : c = c') : Ending.returned (.tuple #[a, b, c]) = .returned (.tuple #[a', b', c']) := by rw [h, g, k]

theorem infoT : (Tryd.prog.info? 72).map (fun i => (i.zero, i.size, i.bytes)) = some (some (.agg #[.int .i64 0, .string ByteArray.empty, .int .i64 0, .int .i64 0]), 4, 40) := by kernel_rfl

/-- The table of signs. -/
def sgs : List (List Int) := [[61, 61], [33, 61], [60, 61], [62, 61], [43], [45], [42], [47], [37], [60], [62], [61], [40], [41], [91], [93], [123], [125], [44], [59], [58], [46]]

/-- The program's table holds it. -/
def Sg (w : World) : Prop := 1 < w.heap.size ∧ ∀ i s, sgs[i]? = some s → w.cell? ⟨1, i, none⟩ = some (.string (strOfNums s))

theorem Sg.bw {w w' : World} (h : Sg w) (hb : Bw w w') : Sg w' := by
  refine ⟨Nat.lt_of_lt_of_le h.1 hb.size, fun i s hs => ?_⟩
  rw [← h.2 i s hs]
  exact World.cell?_of_block (w := w) (w' := w') (a := ⟨1, i, none⟩) (hb.block 1 h.1)

/-- Bytes in memory. -/
def By (w : World) (v : Value) (b : List Int) : Prop := Sl w (fun _ => True) v b.length 1 (b.map (Value.int .u8)) ∧ (∀ c ∈ b, 0 ≤ c ∧ c ≤ 255) ∧ b.length ≤ 9223372036854775807

theorem By.bw {w w' : World} {v : Value} {b : List Int} (h : By w v b) (hb : Bw w w') : By w' v b := ⟨h.1.below hb, h.2⟩

theorem By.form {w : World} {v : Value} {b : List Int} (h : By w v b) : ∃ a cap, v = .slice a b.length cap := h.1.form

theorem By.at {w : World} {a : Option Addr} {cap : Nat} {b : List Int} (h : By w (.slice a b.length cap) b) {i : Nat} (hi : i < b.length) :
    ∃ g o, a = some ⟨g, o, none⟩ ∧ g < w.heap.size ∧ w.cell? ⟨g, o + i, none⟩ = some (.int .u8 b[i]) := by
  obtain ⟨g, o, e, hlt, hc⟩ := h.1.at hi
  exact ⟨g, o, e, hlt, by rw [hc]; simp [hi]⟩

/-- Tokens in memory, in a row of one's own. -/
def Tk (w : World) (base : Nat) (v : Value) (l : List ATok) : Prop := w.ownsRow base 72 4 v l.length (l.flatMap tkV)

theorem tk_one (l : List ATok) : ∀ u ∈ l.flatMap tkV, u.oneCell' = true := by
  intro u hu
  simp only [List.mem_flatMap, tkV] at hu
  obtain ⟨t, _, ht⟩ := hu
  simp only [List.mem_cons, List.not_mem_nil, or_false] at ht
  rcases ht with rfl | rfl | rfl | rfl <;> rfl

end Go.Proofs.YtlcieebneclmpaaDoor

set_option linter.unusedSimpArgs false
set_option linter.unusedVariables false
namespace Go.Proofs.YtlcieebneclmpaaDoor
open Go Go.RowKit

set_option maxRecDepth 100000 in
set_option maxHeartbeats 400000 in
theorem xisBlank_any (c : Int) (w : World) :
    Calls Tryd.prog 38 #[.int .u8 c] w fun e w' => e = .returned (.bool (isBl c)) ∧ w' = w := by
  go_enter Tryd.func38, Tryd.ntmps38
  go_wp2
  all_goals go_ret
  all_goals refine ⟨ret_bool ?_, rfl⟩
  all_goals (rw [Bool.eq_iff_iff]; simp_all [isBl]; try omega)

set_option maxRecDepth 100000 in
set_option maxHeartbeats 400000 in
theorem xisDigit_any (c : Int) (w : World) :
    Calls Tryd.prog 46 #[.int .u8 c] w fun e w' => e = .returned (.bool (isDg c)) ∧ w' = w := by
  go_enter Tryd.func46, Tryd.ntmps46
  go_wp2
  all_goals go_ret
  all_goals refine ⟨ret_bool ?_, rfl⟩
  all_goals (rw [Bool.eq_iff_iff]; simp_all [isDg]; try omega)

set_option maxRecDepth 100000 in
set_option maxHeartbeats 400000 in
theorem xisLetter_any (c : Int) (w : World) :
    Calls Tryd.prog 47 #[.int .u8 c] w fun e w' => e = .returned (.bool (isLt c)) ∧ w' = w := by
  go_enter Tryd.func47, Tryd.ntmps47
  go_wp2
  all_goals go_ret
  all_goals refine ⟨ret_bool ?_, rfl⟩
  all_goals (rw [Bool.eq_iff_iff]; simp_all [isLt]; try omega)

set_option maxRecDepth 100000 in
set_option maxHeartbeats 400000 in
theorem xhexDigit_any (c : Int) (h0 : 0 ≤ c) (h1 : c ≤ 255) (w : World) :
    Calls Tryd.prog 91 #[.int .u8 c] w fun e w' => e = .returned (.tuple #[.int .u8 ((hexV c).getD 0), .bool (hexV c).isSome]) ∧ w' = w := by
  go_enter Tryd.func91, Tryd.ntmps91
  go_wp2
  all_goals go_ret2
  all_goals
    refine ⟨?_, rfl⟩
    first
      | (have e : hexV c = none := by (unfold hexV; repeat' split) <;> first | rfl | omega
         rw [e]; rfl)
      | (have e : hexV c = some (c - 48) := by (unfold hexV; repeat' split) <;> first | rfl | omega
         rw [e]; rfl)
      | (have e : hexV c = some (c - 97 + 10) := by (unfold hexV; repeat' split) <;> first | rfl | omega
         rw [e]; rfl)
      | (have e : hexV c = some (c - 65 + 10) := by (unfold hexV; repeat' split) <;> first | rfl | omega
         rw [e]; rfl)

end Go.Proofs.YtlcieebneclmpaaDoor

set_option linter.unusedSimpArgs false
set_option linter.unusedVariables false
namespace Go.Proofs.YtlcieebneclmpaaDoor
open Go Go.RowKit

theorem strOf_toList (l : List Int) : (strOfNums l).toList = l.map fun n => UInt8.ofNat n.toNat := by
  rw [ByteArray.toList_eq, strOfNums_data]

theorem strOf_inj {l k : List Int} (hl : ∀ c ∈ l, 0 ≤ c ∧ c ≤ 255) (hk : ∀ c ∈ k, 0 ≤ c ∧ c ≤ 255) (h : strOfNums l = strOfNums k) : l = k := by
  have h1 : (l.map fun n => UInt8.ofNat n.toNat) = k.map fun n => UInt8.ofNat n.toNat := by rw [← strOf_toList, ← strOf_toList, h]
  clear h
  induction l generalizing k with
  | nil => cases k with | nil => rfl | cons c t => simp at h1
  | cons c t ih =>
    cases k with
    | nil => simp at h1
    | cons d u =>
      simp only [List.map_cons, List.cons.injEq] at h1
      have hc := hl c (by simp)
      have hd := hk d (by simp)
      have e : c = d := by
        have := congrArg UInt8.toNat h1.1
        simp at this
        omega
      rw [e, ih (fun x hx => hl x (by simp [hx])) (fun x hx => hk x (by simp [hx])) h1.2]

theorem strOf_ne {l k : List Int} (hl : ∀ c ∈ l, 0 ≤ c ∧ c ≤ 255) (hk : ∀ c ∈ k, 0 ≤ c ∧ c ≤ 255) (h : l ≠ k) : ((strOfNums l).toList == (strOfNums k).toList) = false :=
  str_ne (fun e => h (strOf_inj hl hk e))

theorem ne_word {l : List Int} (hl : ∀ c ∈ l, 0 ≤ c ∧ c ≤ 255) (hw : isWord l = false) (k : List UInt8) (hk : isWord (k.map fun u => (u.toNat : Int)) = true) : ((strOfNums l).toList == k) = false := by
  rw [beq_eq_false_iff_ne]
  intro e
  rw [strOf_toList] at e
  have : l = k.map fun u => (u.toNat : Int) := by
    rw [← e, List.map_map]
    conv => lhs; rw [← List.map_id l]
    refine List.map_congr_left fun c hc => ?_
    have := hl c hc
    simp
    omega
  rw [← this, hw] at hk
  cases hk

theorem word_cases {l : List Int} (h : isWord l = true) : l = [118, 97, 114] ∨ l = [102, 110] ∨ l = [105, 102] ∨ l = [101, 108, 115, 101] ∨ l = [119, 104, 105, 108, 101] ∨ l = [98, 114, 101, 97, 107] ∨ l = [99, 111, 110, 116, 105, 110, 117, 101] ∨ l = [114, 101, 116, 117, 114, 110] ∨ l = [116, 104, 114, 111, 119] ∨ l = [116, 114, 121] ∨ l = [99, 97, 116, 99, 104] ∨ l = [115, 112, 97, 119, 110] ∨ l = [116, 114, 117, 101] ∨ l = [102, 97, 108, 115, 101] ∨ l = [110, 105, 108] ∨ l = [97, 110, 100] ∨ l = [111, 114] ∨ l = [110, 111, 116] := by
  simpa [isWord, words] using h

set_option maxRecDepth 100000 in
set_option maxHeartbeats 4000000 in
theorem xWord_no (l : List Int) (hb : ∀ c ∈ l, 0 ≤ c ∧ c ≤ 255) (hw : isWord l = false) (w : World) :
    Calls Tryd.prog 48 #[.string (strOfNums l)] w fun e w' => e = .returned (.bool false) ∧ w' = w := by
  have k0 : ((strOfNums l).toList == [118, 97, 114]) = false := ne_word hb hw [118, 97, 114] (by decide)
  have k1 : ((strOfNums l).toList == [102, 110]) = false := ne_word hb hw [102, 110] (by decide)
  have k2 : ((strOfNums l).toList == [105, 102]) = false := ne_word hb hw [105, 102] (by decide)
  have k3 : ((strOfNums l).toList == [101, 108, 115, 101]) = false := ne_word hb hw [101, 108, 115, 101] (by decide)
  have k4 : ((strOfNums l).toList == [119, 104, 105, 108, 101]) = false := ne_word hb hw [119, 104, 105, 108, 101] (by decide)
  have k5 : ((strOfNums l).toList == [98, 114, 101, 97, 107]) = false := ne_word hb hw [98, 114, 101, 97, 107] (by decide)
  have k6 : ((strOfNums l).toList == [99, 111, 110, 116, 105, 110, 117, 101]) = false := ne_word hb hw [99, 111, 110, 116, 105, 110, 117, 101] (by decide)
  have k7 : ((strOfNums l).toList == [114, 101, 116, 117, 114, 110]) = false := ne_word hb hw [114, 101, 116, 117, 114, 110] (by decide)
  have k8 : ((strOfNums l).toList == [116, 104, 114, 111, 119]) = false := ne_word hb hw [116, 104, 114, 111, 119] (by decide)
  have k9 : ((strOfNums l).toList == [116, 114, 121]) = false := ne_word hb hw [116, 114, 121] (by decide)
  have k10 : ((strOfNums l).toList == [99, 97, 116, 99, 104]) = false := ne_word hb hw [99, 97, 116, 99, 104] (by decide)
  have k11 : ((strOfNums l).toList == [115, 112, 97, 119, 110]) = false := ne_word hb hw [115, 112, 97, 119, 110] (by decide)
  have k12 : ((strOfNums l).toList == [116, 114, 117, 101]) = false := ne_word hb hw [116, 114, 117, 101] (by decide)
  have k13 : ((strOfNums l).toList == [102, 97, 108, 115, 101]) = false := ne_word hb hw [102, 97, 108, 115, 101] (by decide)
  have k14 : ((strOfNums l).toList == [110, 105, 108]) = false := ne_word hb hw [110, 105, 108] (by decide)
  have k15 : ((strOfNums l).toList == [97, 110, 100]) = false := ne_word hb hw [97, 110, 100] (by decide)
  have k16 : ((strOfNums l).toList == [111, 114]) = false := ne_word hb hw [111, 114] (by decide)
  have k17 : ((strOfNums l).toList == [110, 111, 116]) = false := ne_word hb hw [110, 111, 116] (by decide)
  generalize strOfNums l = s at *
  clear hw hb
  go_enter Tryd.func48, Tryd.ntmps48
  go_wp2
  all_goals go_ret
  all_goals exact ⟨rfl, rfl⟩

set_option maxRecDepth 100000 in
set_option maxHeartbeats 4000000 in
theorem xWord_0 (w : World) : Calls Tryd.prog 48 #[.string ⟨#[118, 97, 114]⟩] w fun e w' => e = .returned (.bool true) ∧ w' = w := by
  go_enter Tryd.func48, Tryd.ntmps48
  go_wp2
  all_goals go_ret
  all_goals exact ⟨rfl, rfl⟩

set_option maxRecDepth 100000 in
set_option maxHeartbeats 4000000 in
theorem xWord_1 (w : World) : Calls Tryd.prog 48 #[.string ⟨#[102, 110]⟩] w fun e w' => e = .returned (.bool true) ∧ w' = w := by
  go_enter Tryd.func48, Tryd.ntmps48
  go_wp2
  all_goals go_ret
  all_goals exact ⟨rfl, rfl⟩

set_option maxRecDepth 100000 in
set_option maxHeartbeats 4000000 in
theorem xWord_2 (w : World) : Calls Tryd.prog 48 #[.string ⟨#[105, 102]⟩] w fun e w' => e = .returned (.bool true) ∧ w' = w := by
  go_enter Tryd.func48, Tryd.ntmps48
  go_wp2
  all_goals go_ret
  all_goals exact ⟨rfl, rfl⟩

set_option maxRecDepth 100000 in
set_option maxHeartbeats 4000000 in
theorem xWord_3 (w : World) : Calls Tryd.prog 48 #[.string ⟨#[101, 108, 115, 101]⟩] w fun e w' => e = .returned (.bool true) ∧ w' = w := by
  go_enter Tryd.func48, Tryd.ntmps48
  go_wp2
  all_goals go_ret
  all_goals exact ⟨rfl, rfl⟩

set_option maxRecDepth 100000 in
set_option maxHeartbeats 4000000 in
theorem xWord_4 (w : World) : Calls Tryd.prog 48 #[.string ⟨#[119, 104, 105, 108, 101]⟩] w fun e w' => e = .returned (.bool true) ∧ w' = w := by
  go_enter Tryd.func48, Tryd.ntmps48
  go_wp2
  all_goals go_ret
  all_goals exact ⟨rfl, rfl⟩

set_option maxRecDepth 100000 in
set_option maxHeartbeats 4000000 in
theorem xWord_5 (w : World) : Calls Tryd.prog 48 #[.string ⟨#[98, 114, 101, 97, 107]⟩] w fun e w' => e = .returned (.bool true) ∧ w' = w := by
  go_enter Tryd.func48, Tryd.ntmps48
  go_wp2
  all_goals go_ret
  all_goals exact ⟨rfl, rfl⟩

set_option maxRecDepth 100000 in
set_option maxHeartbeats 4000000 in
theorem xWord_6 (w : World) : Calls Tryd.prog 48 #[.string ⟨#[99, 111, 110, 116, 105, 110, 117, 101]⟩] w fun e w' => e = .returned (.bool true) ∧ w' = w := by
  go_enter Tryd.func48, Tryd.ntmps48
  go_wp2
  all_goals go_ret
  all_goals exact ⟨rfl, rfl⟩

set_option maxRecDepth 100000 in
set_option maxHeartbeats 4000000 in
theorem xWord_7 (w : World) : Calls Tryd.prog 48 #[.string ⟨#[114, 101, 116, 117, 114, 110]⟩] w fun e w' => e = .returned (.bool true) ∧ w' = w := by
  go_enter Tryd.func48, Tryd.ntmps48
  go_wp2
  all_goals go_ret
  all_goals exact ⟨rfl, rfl⟩

set_option maxRecDepth 100000 in
set_option maxHeartbeats 4000000 in
theorem xWord_8 (w : World) : Calls Tryd.prog 48 #[.string ⟨#[116, 104, 114, 111, 119]⟩] w fun e w' => e = .returned (.bool true) ∧ w' = w := by
  go_enter Tryd.func48, Tryd.ntmps48
  go_wp2
  all_goals go_ret
  all_goals exact ⟨rfl, rfl⟩

set_option maxRecDepth 100000 in
set_option maxHeartbeats 4000000 in
theorem xWord_9 (w : World) : Calls Tryd.prog 48 #[.string ⟨#[116, 114, 121]⟩] w fun e w' => e = .returned (.bool true) ∧ w' = w := by
  go_enter Tryd.func48, Tryd.ntmps48
  go_wp2
  all_goals go_ret
  all_goals exact ⟨rfl, rfl⟩

set_option maxRecDepth 100000 in
set_option maxHeartbeats 4000000 in
theorem xWord_10 (w : World) : Calls Tryd.prog 48 #[.string ⟨#[99, 97, 116, 99, 104]⟩] w fun e w' => e = .returned (.bool true) ∧ w' = w := by
  go_enter Tryd.func48, Tryd.ntmps48
  go_wp2
  all_goals go_ret
  all_goals exact ⟨rfl, rfl⟩

set_option maxRecDepth 100000 in
set_option maxHeartbeats 4000000 in
theorem xWord_11 (w : World) : Calls Tryd.prog 48 #[.string ⟨#[115, 112, 97, 119, 110]⟩] w fun e w' => e = .returned (.bool true) ∧ w' = w := by
  go_enter Tryd.func48, Tryd.ntmps48
  go_wp2
  all_goals go_ret
  all_goals exact ⟨rfl, rfl⟩

set_option maxRecDepth 100000 in
set_option maxHeartbeats 4000000 in
theorem xWord_12 (w : World) : Calls Tryd.prog 48 #[.string ⟨#[116, 114, 117, 101]⟩] w fun e w' => e = .returned (.bool true) ∧ w' = w := by
  go_enter Tryd.func48, Tryd.ntmps48
  go_wp2
  all_goals go_ret
  all_goals exact ⟨rfl, rfl⟩

set_option maxRecDepth 100000 in
set_option maxHeartbeats 4000000 in
theorem xWord_13 (w : World) : Calls Tryd.prog 48 #[.string ⟨#[102, 97, 108, 115, 101]⟩] w fun e w' => e = .returned (.bool true) ∧ w' = w := by
  go_enter Tryd.func48, Tryd.ntmps48
  go_wp2
  all_goals go_ret
  all_goals exact ⟨rfl, rfl⟩

set_option maxRecDepth 100000 in
set_option maxHeartbeats 4000000 in
theorem xWord_14 (w : World) : Calls Tryd.prog 48 #[.string ⟨#[110, 105, 108]⟩] w fun e w' => e = .returned (.bool true) ∧ w' = w := by
  go_enter Tryd.func48, Tryd.ntmps48
  go_wp2
  all_goals go_ret
  all_goals exact ⟨rfl, rfl⟩

set_option maxRecDepth 100000 in
set_option maxHeartbeats 4000000 in
theorem xWord_15 (w : World) : Calls Tryd.prog 48 #[.string ⟨#[97, 110, 100]⟩] w fun e w' => e = .returned (.bool true) ∧ w' = w := by
  go_enter Tryd.func48, Tryd.ntmps48
  go_wp2
  all_goals go_ret
  all_goals exact ⟨rfl, rfl⟩

set_option maxRecDepth 100000 in
set_option maxHeartbeats 4000000 in
theorem xWord_16 (w : World) : Calls Tryd.prog 48 #[.string ⟨#[111, 114]⟩] w fun e w' => e = .returned (.bool true) ∧ w' = w := by
  go_enter Tryd.func48, Tryd.ntmps48
  go_wp2
  all_goals go_ret
  all_goals exact ⟨rfl, rfl⟩

set_option maxRecDepth 100000 in
set_option maxHeartbeats 4000000 in
theorem xWord_17 (w : World) : Calls Tryd.prog 48 #[.string ⟨#[110, 111, 116]⟩] w fun e w' => e = .returned (.bool true) ∧ w' = w := by
  go_enter Tryd.func48, Tryd.ntmps48
  go_wp2
  all_goals go_ret
  all_goals exact ⟨rfl, rfl⟩

theorem xWord_any (l : List Int) (hb : ∀ c ∈ l, 0 ≤ c ∧ c ≤ 255) (w : World) :
    Calls Tryd.prog 48 #[.string (strOfNums l)] w fun e w' => e = .returned (.bool (isWord l)) ∧ w' = w := by
  cases hw : isWord l
  · exact xWord_no l hb hw w
  · rcases word_cases hw with rfl | rfl | rfl | rfl | rfl | rfl | rfl | rfl | rfl | rfl | rfl | rfl | rfl | rfl | rfl | rfl | rfl | rfl
    · exact xWord_0 w
    · exact xWord_1 w
    · exact xWord_2 w
    · exact xWord_3 w
    · exact xWord_4 w
    · exact xWord_5 w
    · exact xWord_6 w
    · exact xWord_7 w
    · exact xWord_8 w
    · exact xWord_9 w
    · exact xWord_10 w
    · exact xWord_11 w
    · exact xWord_12 w
    · exact xWord_13 w
    · exact xWord_14 w
    · exact xWord_15 w
    · exact xWord_16 w
    · exact xWord_17 w

end Go.Proofs.YtlcieebneclmpaaDoor

set_option linter.unusedSimpArgs false
set_option linter.unusedVariables false
namespace Go.Proofs.YtlcieebneclmpaaDoor
open Go Go.RowKit

def isName (l : List Int) : Bool := match l with | [] => false | c :: t => !isDg c && l.all isNm && !isWord l

/-- The byte at a place. -/
def nth (l : List Int) (i : Nat) : Int := l.getD i 0

theorem nth_eq {l : List Int} {i : Nat} (h : i < l.length) : nth l i = l[i] := by
  unfold nth; rw [List.getD_eq_getElem?_getD, List.getElem?_eq_getElem h]; rfl

theorem strOf_get {l : List Int} (hb : ∀ c ∈ l, 0 ≤ c ∧ c ≤ 255) (i : Nat) (h : i < (strOfNums l).size) : (((strOfNums l)[i]'h).toNat : Int) = nth l i := by
  have hl : i < l.length := by rw [strOfNums_size] at h; exact h
  have := hb _ (List.getElem_mem hl)
  have e : (strOfNums l)[i]'h = UInt8.ofNat (l[i]).toNat := by
    show (strOfNums l).data[i] = _
    simp [strOfNums]
  rw [e, nth_eq hl]
  simp
  omega

theorem all_take_succ (p : Int → Bool) (l : List Int) (k : Nat) (h : k < l.length) : (l.take (k + 1)).all p = ((l.take k).all p && p (nth l k)) := by
  rw [List.take_succ_eq_append_getElem h, List.all_append, nth_eq h]
  simp

theorem all_false_of (p : Int → Bool) (l : List Int) (k : Nat) (h : k < l.length) (hp : p (nth l k) = false) : l.all p = false := by
  rw [List.all_eq_false]
  exact ⟨l[k], List.getElem_mem h, by rw [← nth_eq h, hp]; simp⟩

set_option maxRecDepth 100000 in
set_option maxHeartbeats 4000000 in
theorem xName_any (l : List Int) (hb : ∀ c ∈ l, 0 ≤ c ∧ c ≤ 255) (hm : l.length ≤ 1000000) (w : World) :
    Calls Tryd.prog 32 #[.string (strOfNums l)] w fun e w' => e = .returned (.bool (isName l)) ∧ w' = w := by
  have W1 := hid (xWord_any l hb)
  cases l with
  | nil =>
    go_enter Tryd.func32, Tryd.ntmps32
    rw [show strOfNums [] = ⟨#[]⟩ from rfl]
    go_wp2
    all_goals go_ret
    all_goals exact ⟨rfl, rfl⟩
  | cons c0 t =>
    have hn : ((strOfNums (c0 :: t)).toList == []) = false := by rw [strOf_toList]; simp
    have S := strOf_get hb
    have Z : (strOfNums (c0 :: t)).size = (c0 :: t).length := strOfNums_size _
    have hl : 0 < (c0 :: t).length := by simp
    have e1 : isName (c0 :: t) = (!isDg (nth (c0 :: t) 0) && (c0 :: t).all isNm && !isWord (c0 :: t)) := rfl
    generalize (c0 :: t) = l at *
    generalize strOfNums l = s at *
    have E1 := hid e1
    clear e1 hb
    cases hd : isDg (nth l 0)
    · go_enter Tryd.func32, Tryd.ntmps32
      go_wp2_with (first
        | (go_at_call 46; refine (xisDigit_any _ _).mono ?_; rintro e w' ⟨rfl, hw'⟩; subst w'))
      go_loopw [13] (fun j wr => ∃ k, k ≤ l.length ∧ j = .int .i64 (k : Nat) ∧ wr = w ∧ (l.take k).all isNm = true) (fun j _ => l.length - (intOf j).toNat)
      case atStart => exact ⟨0, Nat.zero_le _, rfl, rfl, by simp⟩
      case round =>
        obtain ⟨k, hk, rfl, hwr, ha⟩ := hrel
        subst wr
        have HA := hid ha
        clear ha
        by_cases hlt : k < l.length
        · have hlt2 : (k : Int) < (l.length : Int) := by omega
          cases h1 : isLt (nth l k) <;> cases h2 : isDg (nth l k)
          · have hf : isName l = false := by rw [E1.out, all_false_of isNm l k hlt (by simp [isNm, h1, h2])]; simp
            have HF := hid hf
            clear hf
            go_wp2_with (first
              | (go_at_call 46; refine (xisDigit_any _ _).mono ?_; rintro e w' ⟨rfl, hw'⟩; subst w')
              | (go_at_call 47; refine (xisLetter_any _ _).mono ?_; rintro e w' ⟨rfl, hw'⟩; subst w'))
            all_goals go_ret
            all_goals exact ⟨ret_bool HF.out.symm, rfl⟩
          all_goals
            have hs : (l.take (k + 1)).all isNm = true := by rw [all_take_succ _ _ _ hlt, HA.out]; simp [isNm, h1, h2]
            have HSS := hid hs
            clear hs
            go_wp2_with (first
              | (go_at_call 46; refine (xisDigit_any _ _).mono ?_; rintro e w' ⟨rfl, hw'⟩; subst w')
              | (go_at_call 47; refine (xisLetter_any _ _).mono ?_; rintro e w' ⟨rfl, hw'⟩; subst w'))
            go_roundw
            case rel => exact ⟨k + 1, by omega, by go_num, trivial, HSS.out⟩
            case measure => simp [intOf]; omega
        · have hfin : isName l = !isWord l := by
            have := HA.out
            rw [List.take_of_length_le (by omega)] at this
            rw [E1.out, this, hd]; simp
          have HF := hid hfin
          clear hfin
          go_wp2_with (first
            | (go_at_call 48; refine (W1.out _).mono ?_; rintro e w' ⟨rfl, hw'⟩; subst w'))
          all_goals go_ret
          all_goals exact ⟨ret_bool HF.out.symm, rfl⟩
    · have : isName l = false := by rw [E1.out, hd]; rfl
      rw [this]
      clear this
      go_enter Tryd.func32, Tryd.ntmps32
      go_wp2_with (first
        | (go_at_call 46; refine (xisDigit_any _ _).mono ?_; rintro e w' ⟨rfl, hw'⟩; subst w'))
      all_goals go_ret
      all_goals exact ⟨rfl, rfl⟩

set_option maxRecDepth 100000 in
set_option maxHeartbeats 4000000 in
theorem xbehindRemark_any (v : Value) (b : List Int) (k : Nat) (w : World) (h : By w v b) (hk : k ≤ b.length) (hm : b.length ≤ 1000000) :
    Calls Tryd.prog 39 #[v, .int .i64 k] w fun e w' => e = .returned (.int .i64 ((k + twl (· != 10) (b.drop k) : Nat) : Int)) ∧ Dn w w' := by
  have HB := hid h
  obtain ⟨a, cap, rfl⟩ := h.form
  clear h
  go_enter Tryd.func39, Tryd.ntmps39
  go_wp2
  go_loopw [1] (fun j wr => ∃ m n, j = .int .i64 ((k + m : Nat) : Int) ∧ m ≤ twl (· != 10) (b.drop k) ∧ wr = w.drewN n) (fun j _ => b.length - (intOf j).toNat)
  case atStart => exact ⟨0, 0, by simp, Nat.zero_le _, rfl⟩
  case round =>
    obtain ⟨m, n, rfl, hm1, rfl⟩ := hrel
    have hle := twl_le (· != 10) (b.drop k)
    rw [List.length_drop] at hle
    by_cases hlt : k + m < b.length
    · obtain ⟨g, o, rfl, hg, hc⟩ := HB.out.at hlt
      have hlt2 : ((k + m : Nat) : Int) < (b.length : Int) := by omega
      have hml : m < (b.drop k).length := by rw [List.length_drop]; omega
      have hge : (b.drop k)[m] = b[k + m] := by simp
      have TG := hid (@twl_go (· != 10) (b.drop k) m hm1 hml)
      have TN := hid (@twl_no (· != 10) (b.drop k) m hm1 hml)
      rw [hge] at TG TN
      generalize b[k + m] = c at hc TG TN
      clear hge hml hle
      cases hc10 : (c != 10)
      · have HF := hid (TN.out hc10)
        clear hm1 TG TN
        go_wp2
        all_goals go_ret
        all_goals exact ⟨ret_int (by rw [HF.out]; omega), _, rfl⟩
      · have hg1 := hid (TG.out hc10)
        clear hm1 TG TN
        go_wp2
        go_roundw
        case rel => exact ⟨m + 1, n, by go_num, hg1.out, rfl⟩
        case measure => simp [intOf]; omega
    · have hfin : twl (· != 10) (b.drop k) = m := twl_end hm1 (by rw [List.length_drop]; omega)
      have HF := hid hfin
      clear hfin hm1 hle
      go_wp2
      all_goals go_ret
      all_goals exact ⟨ret_int (by rw [HF.out]; try omega), _, rfl⟩

/-- The table of signs, as values. -/
def sgv : List Value := sgs.map fun s => .string (strOfNums s)

theorem sgv_len : sgv.length = 22 := rfl
theorem under49 : Tryd.prog.underlying 86 = some (.array 22 9) := by kernel_rfl
theorem info49 : (Tryd.prog.info? 86).map (·.size) = some sgv.length := by rw [sgv_len]; kernel_rfl

theorem Sg.range {w : World} (h : Sg w) : w.rangeAt 1 0 sgv := by
  intro j v hv
  unfold sgv at hv
  rw [List.getElem?_map, Option.map_eq_some_iff] at hv
  obtain ⟨s, hs, rfl⟩ := hv
  rw [Nat.zero_add]
  exact h.2 j s hs

theorem sgs_get (i : Nat) (h : i < 22) : ∃ s, sgs[i]? = some s ∧ sgv[i]? = some (.string (strOfNums s)) ∧ 0 < s.length ∧ s.length ≤ 2 ∧ (∀ c ∈ s, 0 ≤ c ∧ c ≤ 255) := by
  have : ∀ i : Fin 22, 0 < (sgs.getD i.val []).length ∧ (sgs.getD i.val []).length ≤ 2 ∧ (∀ c ∈ sgs.getD i.val [], 0 ≤ c ∧ c ≤ 255) := by decide
  have hi : sgs[i]? = some (sgs.getD i []) := by
    rw [List.getD_eq_getElem?_getD, List.getElem?_eq_getElem (by exact h)]; rfl
  refine ⟨_, hi, ?_, this ⟨i, h⟩⟩
  unfold sgv
  rw [List.getElem?_map, hi]; rfl

theorem info9 : (Tryd.prog.info? 9).map (·.size) = some 1 := by kernel_rfl
theorem under9 : Tryd.prog.underlying 9 = some .string := by kernel_rfl

theorem run_index_sgv (w : World) (k : Nat) (x : ByteArray) (h : k < 22) (hx : sgv[k]? = some (.string x)) :
    (Instr.index 86 (.agg sgv.toArray) (.int .i64 (k : Nat))).run Tryd.prog w = .ok (.string x) w := by
  have hn : (0 ≤ (k : Int) ∧ (k : Int) < ((22 : Nat) : Int)) := by omega
  cases hq : Tryd.prog.info? 9 with
  | none => have := info9; simp [hq] at this
  | some i =>
    have hs : i.size = 1 := by have := info9; simpa [hq] using this
    have hk : k < sgv.length := h
    have hg : sgv[k] = .string x := by rw [List.getElem?_eq_getElem hk] at hx; exact Option.some.inj hx
    simp [Instr.index, run_underlying under49, asIntOf, hn, go_sem, sizeOf, typeInfo, hq, hs, part, isAgg, run_underlying under9, hk, hg, h]

theorem sg_head {k : Nat} {s : List Int} (h : sgs[k]? = some s) : isSg (nth s 0) = true ∧ s.head? = some (nth s 0) := by
  have hk : k < 22 := (List.getElem?_eq_some_iff.1 h).1
  have : ∀ i : Fin 22, isSg (nth (sgs.getD i.val []) 0) = true ∧ (sgs.getD i.val []).head? = some (nth (sgs.getD i.val []) 0) := by decide
  have t := this ⟨k, hk⟩
  simp only [List.getD_eq_getElem?_getD, h, Option.getD_some] at t
  exact t

theorem sg_none {c : Int} (h : (sgs.all fun s => s.head? != some c) = true) : isSg c = false := by
  simp [sgs] at h
  simp [isSg, sg1]
  omega

theorem all_take_get {α : Type} (p : α → Bool) {l : List α} {k : Nat} {s : α} (h : l[k]? = some s) : (l.take (k + 1)).all p = ((l.take k).all p && p s) := by
  obtain ⟨hk, rfl⟩ := List.getElem?_eq_some_iff.1 h
  rw [List.take_succ_eq_append_getElem hk, List.all_append]
  simp

set_option maxRecDepth 100000 in
set_option maxHeartbeats 4000000 in
theorem xbegins_any (c : Int) (w : World) (hs : Sg w) :
    Calls Tryd.prog 40 #[.int .u8 c] w fun e w' => e = .returned (.bool (begn c)) ∧ w' = w := by
  have HS := hid hs
  clear hs
  cases h1 : isLt c
  · cases h2 : isDg c
    · cases h3 : (c == 34)
      · go_enter Tryd.func40, Tryd.ntmps40
        go_wp2_with (first
          | (go_at_call 46; refine (xisDigit_any _ _).mono ?_; rintro e w' ⟨rfl, hw'⟩; subst w')
          | (go_at_call 47; refine (xisLetter_any _ _).mono ?_; rintro e w' ⟨rfl, hw'⟩; subst w')
          | (refine wpList_load_mid rfl 86 (.global 1) rfl 1 0 rfl sgv _ HS.out.range under49 rfl info49 ?_))
        go_loopw [16] (fun j wr => ∃ k, k ≤ 22 ∧ j = .int .i64 (k : Nat) ∧ wr = w ∧ (sgs.take k).all (fun s => s.head? != some c) = true) (fun j _ => 22 - (intOf j).toNat)
        case atStart => exact ⟨0, Nat.zero_le _, rfl, rfl, by simp⟩
        case round =>
          obtain ⟨k, hk, rfl, hwr, ha⟩ := hrel
          subst wr
          have HA := hid ha
          clear ha
          by_cases hlt : k < 22
          · obtain ⟨s, hs1, hs2, hs3, hs4, hs5⟩ := sgs_get k hlt
            have hlt2 : (k : Int) < 22 := by omega
            have S := strOf_get hs5
            have Z : (strOfNums s).size = s.length := strOfNums_size _
            have H5 := hid (And.intro hs1 hs5)
            have hrun := fun w => run_index_sgv w k _ hlt hs2
            clear hs5 hs1 hs2
            generalize strOfNums s = x at *
            have HG := hid (sg_head H5.out.1)
            cases hq : (nth s 0 == c)
            · have hs' : (sgs.take (k + 1)).all (fun s => s.head? != some c) = true := by
                rw [all_take_get _ H5.out.1, HA.out, HG.out.2]
                simpa using hq
              have HS' := hid hs'
              clear hs'
              go_wp2
              go_roundw
              case rel => exact ⟨k + 1, by omega, by go_num, trivial, HS'.out⟩
              case measure => simp [intOf]; omega
            · have hf : begn c = true := by
                rw [beq_iff_eq] at hq
                have := HG.out.1
                rw [hq] at this
                simp [begn, this]
              have HF := hid hf
              clear hf
              go_wp2
              all_goals go_ret
              all_goals exact ⟨ret_bool HF.out.symm, rfl⟩
          · have hf : begn c = false := by
              have := HA.out
              rw [List.take_of_length_le (by show sgs.length ≤ k; have : sgs.length = 22 := rfl; omega)] at this
              simp [begn, h1, h2, h3, sg_none this]
            have HF := hid hf
            clear hf
            go_wp2
            all_goals go_ret
            all_goals exact ⟨ret_bool HF.out.symm, rfl⟩
      · go_enter Tryd.func40, Tryd.ntmps40
        go_wp2_with (first
          | (go_at_call 46; refine (xisDigit_any _ _).mono ?_; rintro e w' ⟨rfl, hw'⟩; subst w')
          | (go_at_call 47; refine (xisLetter_any _ _).mono ?_; rintro e w' ⟨rfl, hw'⟩; subst w'))
        all_goals go_ret
        all_goals exact ⟨ret_bool (by simp [begn, h1, h2, h3]), rfl⟩
    · go_enter Tryd.func40, Tryd.ntmps40
      go_wp2_with (first
        | (go_at_call 46; refine (xisDigit_any _ _).mono ?_; rintro e w' ⟨rfl, hw'⟩; subst w')
        | (go_at_call 47; refine (xisLetter_any _ _).mono ?_; rintro e w' ⟨rfl, hw'⟩; subst w'))
      all_goals go_ret
      all_goals exact ⟨ret_bool (by simp [begn, h1, h2]), rfl⟩
  · go_enter Tryd.func40, Tryd.ntmps40
    go_wp2_with (first
      | (go_at_call 46; refine (xisDigit_any _ _).mono ?_; rintro e w' ⟨rfl, hw'⟩; subst w')
      | (go_at_call 47; refine (xisLetter_any _ _).mono ?_; rintro e w' ⟨rfl, hw'⟩; subst w'))
    all_goals go_ret
    all_goals exact ⟨ret_bool (by simp [begn, h1]), rfl⟩

end Go.Proofs.YtlcieebneclmpaaDoor

set_option linter.unusedSimpArgs false
set_option linter.unusedVariables false
namespace Go.Proofs.YtlcieebneclmpaaDoor
open Go Go.RowKit

theorem run_append_row {P : Program} (w : World) (t ty e : TypeId) (i : TypeInfo) (z : Value) (size bytes : Nat) (ht : P.underlying t = some (.slice e)) (hi : P.info? e = some i) (hz : i.zero = some z)
    (hsize : i.size = size) (hby : i.bytes = bytes) (hzs : z.cells.size = size) (hsz : 0 < size)
    (v : Value) (n : Nat) (xs : List Value) (hown : w.ownsRow 0 e size v n xs)
    (ad : Addr) (m c : Nat) (news : List Value) (hl : news.length = m * size) (hnews : ∀ j u, news[j]? = some u → w.cell? (ad.add j) = some u) (h1 : ∀ u ∈ news, u.oneCell' = true)
    (h63 : n + m ≤ maxLen) (hbytes : (n + m) * bytes ≤ 140737488355328) :
    ∃ v' w', (Builtin.append_ #[t, t] ty #[v, .slice (some ad) m c]).run P w = .ok v' w' ∧ w'.ownsRow 0 e size v' (n + m) (xs ++ news) ∧ w.grownBy w' v.ownBlock ∧
      (v'.ownBlock = v.ownBlock ∨ ∀ k, v'.ownBlock = some k → w.heap.size ≤ k) := by
  have hown' := hown
  rcases hown'.2 with ⟨rfl, rfl⟩ | ⟨g, cap, cur, rfl, hb, hg, hnc, hm, hs, htake⟩
  · have hx : xs = [] := List.eq_nil_of_length_eq_zero (by simpa using hown.1)
    subst hx
    obtain ⟨v', w', hrun, r1, r2, _⟩ := run_append_own (P := P) w w.heap.size t ty e i z size bytes ht hi hz hsize hby hzs hsz (.slice none 0 0) 0 [] (World.ownsRow_nil w _ e size) ad m c news hl hnews h1 h63 hbytes (Nat.le_refl _)
    exact ⟨v', w', hrun, own_base r1 (Nat.zero_le _), r2, .inr (fun k hk => (r1.lt k hk).1)⟩
  · by_cases hroom : n + m ≤ cap
    · obtain ⟨w', hrun, r1, r2⟩ := run_append_fits (P := P) w 0 t ty e i size ht hi hsize g n cap xs hown ad m c news hl hnews h1 hroom
      exact ⟨_, w', hrun, r1, r2, .inl rfl⟩
    · obtain ⟨v', w', hrun, r1, r2⟩ := run_append_arg_grows (P := P) w t ty e i z size bytes ht hi hz hsize hby hzs hsz ⟨g, 0, none⟩ n cap xs hown.1 (hown.cells rfl) ad m c news hl hnews (by omega) h63 hbytes
      exact ⟨v', w', hrun, own_base r1 (Nat.zero_le _), ⟨r2.os, r2.tape, r2.output, r2.size, fun k hk _ => r2.block k hk (by simp)⟩, .inr (fun k hk => (r1.lt k hk).1)⟩

theorem step_append_row {P : Program} {ops : Array Oper} {o : Oper} {a : Act} {w : World} {K : Act → World → Prop} {Q : Exit → Act → World → Prop} {E : Prop}
    (hgd : o.guard = none) (s x : Operand) (t : TypeId) (ho : o.op = Op.call { callee := Callee.builtin Builtin.append, args := #[s, x], argTypes := #[t, t] })
    (e : TypeId) (i : TypeInfo) (z : Value) (size bytes : Nat) (ht : P.underlying t = some (.slice e)) (hi : P.info? e = some i) (hz : i.zero = some z)
    (hsize : i.size = size) (hby : i.bytes = bytes) (hzs : z.cells.size = size) (hsz : 0 < size)
    (v : Value) (n : Nat) (xs : List Value) (hs : a.eval s = v) (hown : w.ownsRow 0 e size v n xs)
    (ad : Addr) (m c : Nat) (news : List Value) (hx : a.eval x = .slice (some ad) m c) (hl : news.length = m * size) (hnews : ∀ j u, news[j]? = some u → w.cell? (ad.add j) = some u) (h1 : ∀ u ∈ news, u.oneCell' = true)
    (h63 : n + m ≤ maxLen) (hbytes : (n + m) * bytes ≤ 140737488355328)
    (h : ∀ v' w', w'.ownsRow 0 e size v' (n + m) (xs ++ news) → w.grownBy w' v.ownBlock → (v'.ownBlock = v.ownBlock ∨ ∀ k, v'.ownBlock = some k → w.heap.size ≤ k) → K (a.put o.dst v') w') :
    if Region.wanted o (yielded ops a.tmps) = true then Oper.wp P o a w K Q else E := by
  have hw : Region.wanted o (yielded ops a.tmps) = true := by simp [Region.wanted, hgd]
  rw [if_pos hw]
  obtain ⟨v', w', hr, h2, h3, h4⟩ := run_append_row (P := P) w t o.type e i z size bytes ht hi hz hsize hby hzs hsz v n xs hown ad m c news hl hnews h1 h63 hbytes
  unfold Oper.wp execOp
  simp only [ho, resolve, invoke, builtin, Sem.run_bind, Sem.run_pure, Result.andThen_ok, List.map_toArray, List.map_cons, List.map_nil, hs, hx, hr]
  exact h v' w' h2 h3 h4

theorem wpList_append_row {P : Program} (w : World) {ops : Array Oper} {rest : List Oper} {o : Oper} {a : Act} {Q : Exit → Act → World → Prop}
    (hgd : o.guard = none) (s x : Operand) (t : TypeId) (ho : o.op = Op.call { callee := Callee.builtin Builtin.append, args := #[s, x], argTypes := #[t, t] })
    (e : TypeId) (i : TypeInfo) (z : Value) (size bytes : Nat) (ht : P.underlying t = some (.slice e)) (hi : P.info? e = some i) (hz : i.zero = some z)
    (hsize : i.size = size) (hby : i.bytes = bytes) (hzs : z.cells.size = size) (hsz : 0 < size)
    (v : Value) (n : Nat) (xs : List Value) (hs : a.eval s = v) (hown : w.ownsRow 0 e size v n xs)
    (ad : Addr) (m c : Nat) (news : List Value) (hx : a.eval x = .slice (some ad) m c) (hl : news.length = m * size) (hnews : ∀ j u, news[j]? = some u → w.cell? (ad.add j) = some u) (h1 : ∀ u ∈ news, u.oneCell' = true)
    (h63 : n + m ≤ maxLen) (hbytes : (n + m) * bytes ≤ 140737488355328)
    (h : ∀ v' w', w'.ownsRow 0 e size v' (n + m) (xs ++ news) → w.grownBy w' v.ownBlock → (v'.ownBlock = v.ownBlock ∨ ∀ k, v'.ownBlock = some k → w.heap.size ≤ k) → wpList P ops Q rest (a.put o.dst v') w') :
    wpList P ops Q (o :: rest) a w := by
  refine wpList_plain hgd fun K hK' => ?_
  obtain ⟨v', w', hrun, r1, r2, r3⟩ := run_append_row (P := P) w t o.type e i z size bytes ht hi hz hsize hby hzs hsz v n xs hown ad m c news hl hnews h1 h63 hbytes
  unfold Oper.wp
  simp [execOp, ho, resolve, invoke, builtin, hs, hx, hrun, Result.andThen]
  exact hK' _ _ (h v' w' r1 r2 r3)

theorem sl_own {w : World} {base : Nat} {e : TypeId} {v : Value} {n : Nat} {xs : List Value} (h : w.ownsRow base e 1 v n xs) : Sl w (fun _ => True) v n 1 xs := by
  refine ⟨h.1, ?_⟩
  rcases h.2 with ⟨rfl, rfl⟩ | ⟨g, cap, cur, rfl, h1, h3, h4, h5, h6, h7⟩
  · exact ⟨none, 0, rfl, ⟨Nat.le_refl _, fun _ => rfl⟩, .inl rfl⟩
  · refine ⟨_, cap, rfl, ⟨h4, fun e => by cases e⟩, .inr ⟨g, 0, rfl, (Array.getElem?_eq_some_iff.1 h3).1, trivial, fun i hi => ?_⟩⟩
    rw [Nat.zero_add, cell_of_row w g i cur _ (0, 0) h3, ← h7, List.getElem?_take, if_pos hi]
    simp

end Go.Proofs.YtlcieebneclmpaaDoor

