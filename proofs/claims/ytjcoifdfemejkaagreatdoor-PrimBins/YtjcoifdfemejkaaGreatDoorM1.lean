/- What heaps are as plain data, and memory read as it: objects, references, what is good; blocks, rows. Nothing of the program's calls is in it. · append to a row that one owns: the row stays where it is, or is new. Nothing of the program is in it. · cplx: numbers of their parts' bits, of two ints; the bits of the parts: contracts. -/
import Derived.Test.YtjcoifdfemejkaaGreatDoorRows
import Derived.Test.YtjcoifdfemejkaaGreatDoorPlain
import Derived.Test.YtjcoifdfemejkaaGreatDoorMm
import Derived.Test.YtjcoifdfemejkaaGreatDoorLy
import Derived.WalkKit
import Derived.WalkSpells
import Derived.WalkLawsBesides
import Derived.Deep.RegionHeld3
import Derived.Deep.DeepCutAuto
import Derived.Laws.MakeOwn
import Derived.Laws.OwnMore
import Derived.Laws.CopyOwn
import Derived.ArgAppend
import Derived.Deep.RegionLaw
import Derived.Test.YtjcoifdfemejkaaGreatDoorFl
import Derived.Laws.Externs
import Derived.BigQuiet
set_option linter.unusedSimpArgs false
set_option linter.unusedVariables false
namespace Go.Proofs.YtjcoifdfemejkaaGreatDoor
open Go Go.RowKit

theorem ret_int {k : IntKind} {a b : Int} (h : a = b) : Ending.returned (.int k a) = .returned (.int k b) := by rw [h]

theorem ret_bool {a b : Bool} (h : a = b) : Ending.returned (.bool a) = .returned (.bool b) := by rw [h]

theorem ret_ii {k l : IntKind} {a b c d : Int} (h : a = b) (g : c = d) : Ending.returned (.tuple #[.int k a, .int l c]) = .returned (.tuple #[.int k b, .int l d]) := by rw [h, g]

theorem ret_ib {k : IntKind} {a b : Int} {c d : Bool} (h : a = b) (g : c = d) : Ending.returned (.tuple #[.int k a, .bool c]) = .returned (.tuple #[.int k b, .bool d]) := by rw [h, g]

theorem idx_yes {v : Int} (h : kd v = 2 ∨ kd v = 3) : v / 4 = idxV v := (if_pos h).symm

theorem idx_no {v : Int} (h : ¬ (kd v = 2 ∨ kd v = 3)) : 0 = idxV v := (if_neg h).symm

theorem has_yes {v : Int} (h : kd v = 2 ∨ kd v = 3) : true = hasI v := (decide_eq_true h).symm

theorem has_no {v : Int} (h : ¬ (kd v = 2 ∨ kd v = 3)) : false = hasI v := (decide_eq_false h).symm

theorem tdiv4 (v : Int) (hv : U v) : IntKind.u64.wrap (v.tdiv 4) = v / 4 := by
  rw [IntKind.wrap_u64, Int.tdiv_eq_ediv_of_nonneg hv.1]; have := hv.1; have := hv.2; omega

/-- An object as data: its kind, bytes, values, keys, number, bits. -/
abbrev AObj := Int × List Int × List Int × List ByteArray × Int × Int × Int

def AObj.kind (o : AObj) : Int := o.1

def AObj.bytes (o : AObj) : List Int := o.2.1

def AObj.vals (o : AObj) : List Int := o.2.2.1

def AObj.keys (o : AObj) : List ByteArray := o.2.2.2.1

def AObj.num (o : AObj) : Int := o.2.2.2.2.1

def AObj.re (o : AObj) : Int := o.2.2.2.2.2.1

def AObj.im (o : AObj) : Int := o.2.2.2.2.2.2

/-- A heap as data: how many there may be, all objects. -/
abbrev AHeap := Int × List AObj

/-- Which words are good in a heap of n objects. -/
def gd (n : Nat) (v : Int) : Bool := decide (kd v ≠ 4) && (decide (kd v ≠ 2) || decide (idxV v < n))

/-- The kind of the object of a word. -/
def kk (H : AHeap) (v : Int) : Int := if kd v = 2 ∧ idxV v < H.2.length then ((H.2.getD (idxV v).toNat (0, [], [], [], 0, 0, 0)) : AObj).kind else 0

theorem Sl.cellAt {w : World} {G : Nat → Prop} {a : Option Addr} {cap n size : Nat} {cs : List Value} (h : Sl w G (.slice a n cap) n size cs) (hn : n ≠ 0) :
    ∃ b o, a = some ⟨b, o, none⟩ ∧ b < w.heap.size ∧ G b ∧ ∀ i, i < n * size → w.cell? ⟨b, o + i, none⟩ = cs[i]? := by
  obtain ⟨_, a', cap', e, _, h⟩ := h
  cases e
  rcases h with h | h
  · exact absurd h hn
  · exact h

theorem idx_bd (v : Int) (hU : U v) : 0 ≤ idxV v := by
  unfold idxV; split
  · have := hU.1; omega
  · omega

theorem hid {p : Prop} (h : p) : Hid p := h

/-- The block g has just these cells, none of them frozen. -/
def Blk (w : World) (g : Nat) (cur : Array Value) (e : TypeId) : Prop := w.heap[g]? = some (.cells cur e (0, 0))

theorem Blk.lt {w : World} {g : Nat} {cur : Array Value} {e : TypeId} (h : Blk w g cur e) : g < w.heap.size := (Array.getElem?_eq_some_iff.1 h).1

theorem Blk.cell {w : World} {g : Nat} {cur : Array Value} {e : TypeId} (h : Blk w g cur e) (j : Nat) : w.cell? ⟨g, j, none⟩ = cur[j]? := cell_of_row w g j cur e (0, 0) h

theorem Blk.free {w : World} {g : Nat} {cur : Array Value} {e : TypeId} (h : Blk w g cur e) (j : Nat) : w.frozen? ⟨g, j, none⟩ = false := by
  simp [World.frozen?, show w.heap[g]? = _ from h]

theorem Blk.new (w : World) (cur : Array Value) (e : TypeId) : Blk (w.alloc (.cells cur e)) w.heap.size cur e := heap_alloc_new w _

theorem Blk.alloc {w : World} {g : Nat} {cur : Array Value} {e : TypeId} (h : Blk w g cur e) (o : Obj) : Blk (w.alloc o) g cur e := (Below.heap_alloc w o g h.lt).trans h

theorem Blk.keep {w w' : World} {g : Nat} {cur : Array Value} {e : TypeId} (h : Blk w g cur e) (hb : w'.heap[g]? = w.heap[g]?) : Blk w' g cur e := hb.trans h

theorem Blk.set {w : World} {g : Nat} {cur : Array Value} {e : TypeId} (h : Blk w g cur e) (j : Nat) (v : Value) : Blk (w.setCell ⟨g, j, none⟩ v) g (cur.setIfInBounds j v) e := by
  unfold Blk at *
  simp [World.setCell, Array.getElem?_modify, h]

theorem Blk.other {w : World} {g : Nat} {cur : Array Value} {e : TypeId} (h : Blk w g cur e) {p : Addr} (hp : p.block ≠ g) (v : Value) : Blk (w.setCell p v) g cur e :=
  (Below.heap_setCell w p v g (fun k => hp k.symm)).trans h

theorem Blk.drewN {w : World} {g : Nat} {cur : Array Value} {e : TypeId} (h : Blk w g cur e) (n : Nat) : Blk (w.drewN n) g cur e := h

theorem infoU8 : (Tryz.prog.info? 5).map (fun i => (i.zero, i.size, i.bytes)) = some (some (.int .u8 0), 1, 1) := by kernel_rfl

theorem infoV : (Tryz.prog.info? 27).map (fun i => (i.zero, i.size, i.bytes)) = some (some (.int .u64 0), 1, 8) := by kernel_rfl

theorem infoS : (Tryz.prog.info? 9).map (fun i => (i.zero, i.size, i.bytes)) = some (some (.string ByteArray.empty), 1, 16) := by kernel_rfl

theorem own_base {w : World} {base base' : Nat} {e : TypeId} {size : Nat} {v : Value} {n : Nat} {xs : List Value} (h : w.ownsRow base e size v n xs) (hb : base' ≤ base) : w.ownsRow base' e size v n xs := by
  refine ⟨h.1, ?_⟩
  rcases h.2 with h | ⟨g, cap, cur, e1, h1, r⟩
  · exact .inl h
  · exact .inr ⟨g, cap, cur, e1, by omega, r⟩

theorem own_form {w : World} {base : Nat} {e : TypeId} {size : Nat} {v : Value} {n : Nat} {xs : List Value} (h : w.ownsRow base e size v n xs) : ∃ a cap, v = .slice a n cap := by
  rcases h.2 with ⟨rfl, rfl⟩ | ⟨g, cap, cur, rfl, _⟩
  · exact ⟨none, 0, rfl⟩
  · exact ⟨_, cap, rfl⟩

theorem own_ne {w : World} {base : Nat} {e : TypeId} {size : Nat} {v : Value} {n : Nat} {xs : List Value} (h : w.ownsRow base e size v n xs) {g : Nat} (hg : w.heap.size ≤ g) : v.ownBlock = none ∨ v.ownBlock ≠ some g := by
  cases hv : v.ownBlock with
  | none => exact .inl rfl
  | some k => exact .inr (fun e => by have := (h.lt k hv).2; cases e; omega)

theorem own_empty (w : World) (e : TypeId) (size base g : Nat) (hg : w.heap.size = g) (hb : base ≤ g) : (w.alloc (.cells #[] e)).ownsRow base e size (.slice (some ⟨g, 0, none⟩) 0 0) 0 [] := by
  subst hg
  exact World.ownsRow_made w #[] 0 hb (Nat.zero_le _) (by simp)

theorem ints_one (k : IntKind) (l : List Int) : ∀ u ∈ l.map (Value.int k), u.oneCell' = true := by
  intro u hu
  obtain ⟨x, _, rfl⟩ := List.mem_map.1 hu
  rfl

theorem strs_one (l : List ByteArray) : ∀ u ∈ l.map Value.string, u.oneCell' = true := by
  intro u hu
  obtain ⟨x, _, rfl⟩ := List.mem_map.1 hu
  rfl

/-- A new row appended to: what stays of the rest. -/
theorem Blk.grown {w w' : World} {g h : Nat} {cur : Array Value} {e : TypeId} (hb : Blk w g cur e) (hg : w.grownBy w' (some h)) (hne : g ≠ h) : Blk w' g cur e :=
  hb.keep (hg.block g hb.lt (fun k => hne (by cases k; rfl)))

theorem bw_grownAt {a w w' : World} {h : Nat} (hb : Bw a w) (hg : w.grownBy w' (some h)) (hh : a.heap.size ≤ h) : Bw a w' :=
  Below.grown hb hg hb.size (fun k e => by cases e; exact hh)

theorem Sl.at {w : World} {G : Nat → Prop} {a : Option Addr} {cap n : Nat} {cs : List Value} (h : Sl w G (.slice a n cap) n 1 cs) {i : Nat} (hi : i < n) :
    ∃ b o, a = some ⟨b, o, none⟩ ∧ b < w.heap.size ∧ w.cell? ⟨b, o + i, none⟩ = cs[i]? := by
  obtain ⟨b, o, e, hlt, _, hc⟩ := h.cellAt (by omega)
  exact ⟨b, o, e, hlt, hc i (by omega)⟩

theorem str_inj {z s : ByteArray} (h : z.toList = s.toList) : z = s := by
  rw [ByteArray.toList_eq, ByteArray.toList_eq] at h
  cases z; cases s
  simp only [ByteArray.mk.injEq]
  exact Array.toList_inj.1 h

theorem str_ne {z s : ByteArray} (h : ¬ z = s) : (z.toList == s.toList) = false := by
  rw [beq_eq_false_iff_ne]
  exact fun k => h (str_inj k)

/-- The place of a key; -1: there is none. -/
def aKey (l : List ByteArray) (k : ByteArray) : Int := match l.findIdx? (fun x => decide (x = k)) with | some i => i | none => -1

theorem aKey_hit {l : List ByteArray} {k : ByteArray} {i : Nat} (hi : i < l.length) (h : l[i] = k) (hb : ∀ j (hj : j < i), l[j]'(by omega) ≠ k) : aKey l k = i := by
  have : l.findIdx? (fun x => decide (x = k)) = some i := by
    rw [List.findIdx?_eq_some_iff_getElem]
    exact ⟨hi, by simpa using h, fun j hj => by simpa using hb j hj⟩
  simp [aKey, this]

theorem aKey_miss {l : List ByteArray} {k : ByteArray} (hb : ∀ j (hj : j < l.length), l[j] ≠ k) : aKey l k = -1 := by
  have : l.findIdx? (fun x => decide (x = k)) = none := by
    rw [List.findIdx?_eq_none_iff]
    intro x hx
    obtain ⟨j, hj, rfl⟩ := List.getElem_of_mem hx
    simpa using hb j hj
  simp [aKey, this]

/-- Is what an object is made of too long? -/
def aLong (o : AObj) : Bool := decide ((65536 : Int) < o.bytes.length) || (decide (o.kind = 2) && decide ((65536 : Int) < o.vals.length)) || decide ((256 : Int) < o.keys.length) || (decide (o.kind = 5) && decide ((256 : Int) < o.vals.length))

/-- May an object be made of that? -/
def aRight (n : Nat) (o : AObj) : Bool := o.vals.all (gd n) && decide o.keys.Nodup && !(decide (o.kind = 3) && ((o.keys.length : Int) != (o.vals.length : Int))) && decide (0 ≤ o.num) && decide (1 ≤ o.kind) && decide (o.kind ≤ 9)

theorem right_vals {n : Nat} {o : AObj} {k : Nat} (hk : k < o.vals.length) (h : gd n o.vals[k] = false) : aRight n o = false := by
  have : o.vals.all (gd n) = false := by
    rw [List.all_eq_false]
    exact ⟨o.vals[k], List.getElem_mem hk, by simp [h]⟩
  simp [aRight, this]

/-- What holds of every object that was made. -/
def OKo (o : AObj) : Prop := (o.kind = 1 → o.vals = []) ∧ (o.kind ≠ 1 → o.bytes = []) ∧ (o.kind = 3 → o.keys.length = o.vals.length) ∧ (∀ v ∈ o.vals, U v) ∧ (∀ b ∈ o.bytes, 0 ≤ b ∧ b ≤ 255) ∧
  o.bytes.length ≤ 1000000 ∧ o.vals.length ≤ 1000000 ∧ o.keys.length ≤ 1000000

def HOK (H : AHeap) : Prop := ∀ o ∈ H.2, OKo o

def noObj : AObj := (0, [], [], [], 0, 0, 0)

/-- The object of a word. -/
def ob (H : AHeap) (v : Int) : AObj := H.2.getD (idxV v).toNat noObj

theorem kk_ref {H : AHeap} {v : Int} (h : kk H v ≠ 0) : kd v = 2 ∧ idxV v < H.2.length ∧ kk H v = (ob H v).kind := by
  unfold kk at h ⊢
  split at h
  · rename_i hk
    exact ⟨hk.1, hk.2, by rw [if_pos hk]; rfl⟩
  · exact absurd rfl h

theorem ob_get {H : AHeap} {v : Int} (hU : U v) (h : idxV v < H.2.length) : H.2[(idxV v).toNat]? = some (ob H v) ∧ idxV v = ((idxV v).toNat : Nat) := by
  have h0 := idx_bd v hU
  have hl : (idxV v).toNat < H.2.length := by omega
  refine ⟨?_, by omega⟩
  rw [ob, List.getD_eq_getElem?_getD, List.getElem?_eq_getElem hl]; rfl

theorem ob_ok {H : AHeap} {v : Int} (hok : HOK H) (hU : U v) (h : idxV v < H.2.length) : OKo (ob H v) :=
  hok _ (List.mem_of_getElem? (ob_get hU h).1)

def aAtV (H : AHeap) (v i : Int) : Int :=
  if kk H v = 1 then (if 0 ≤ i ∧ i < (ob H v).bytes.length then mk ((ob H v).bytes.getD i.toNat 0) else 0)
  else if kk H v = 2 ∨ kk H v = 4 then (if 0 ≤ i ∧ i < (ob H v).vals.length then (ob H v).vals.getD i.toNat 0 else 0) else 0

def aAtE (H : AHeap) (v i : Int) : Int :=
  if kk H v = 1 then (if 0 ≤ i ∧ i < (ob H v).bytes.length then 0 else 9)
  else if kk H v = 2 ∨ kk H v = 4 then (if 0 ≤ i ∧ i < (ob H v).vals.length then 0 else 9) else 8

def aFieldV (H : AHeap) (v : Int) (s : ByteArray) : Int := if kk H v = 3 then (if 0 ≤ aKey (ob H v).keys s then (ob H v).vals.getD (aKey (ob H v).keys s).toNat 0 else 0) else 0

def aFieldE (H : AHeap) (v : Int) (s : ByteArray) : Int := if kk H v = 3 then (if 0 ≤ aKey (ob H v).keys s then 0 else 4) else 8

theorem aKey_lt (l : List ByteArray) (s : ByteArray) : aKey l s < l.length := by
  unfold aKey
  split
  · rename_i i hi
    have := (List.findIdx?_eq_some_iff_getElem.1 hi).1
    omega
  · omega

theorem sl_one {w : World} {G : Nat → Prop} {v : Value} {n size : Nat} {cs : List Value} (h : Sl w G v n size cs) : v.oneCell' = true := by
  obtain ⟨a, c, rfl⟩ := h.form
  rfl

theorem Blk.lay {w : World} {g : Nat} {cur : Array Value} {e : TypeId} (h : Blk w g cur e) (os : List Obj) (n : Nat) : Blk (lay w os n) g cur e := h.keep ((foldl_heap os w).2 g h.lt)

theorem Blk.bw {w w' : World} {g : Nat} {cur : Array Value} {e : TypeId} (h : Blk w g cur e) (hb : Bw w w') : Blk w' g cur e := h.keep (hb.block g h.lt)

theorem grown_set (w : World) (g j : Nat) (v : Value) : w.grownBy (w.setCell ⟨g, j, none⟩ v) (some g) :=
  ⟨rfl, rfl, rfl, by simp [World.setCell], fun k _ hne => Below.heap_setCell w ⟨g, j, none⟩ v k (fun e => hne (by rw [e]))⟩

theorem own_not {w : World} {base : Nat} {e e' : TypeId} {size : Nat} {v : Value} {n g : Nat} {xs : List Value} {cur : Array Value} (h : w.ownsRow base e size v n xs) (hb : Blk w g cur e') (hne : e ≠ e') : v.ownBlock = none ∨ v.ownBlock ≠ some g := by
  rcases h.2 with ⟨rfl, _⟩ | ⟨g', cap', cur', rfl, _, hg', _⟩
  · exact .inl rfl
  · right
    simp only [Value.ownBlock, ne_eq, Option.some.injEq]
    rintro rfl
    have hb' : w.heap[g']? = some (.cells cur e' (0, 0)) := hb
    rw [hb'] at hg'
    simp only [Option.some.injEq, Obj.cells.injEq] at hg'
    exact hne hg'.2.1.symm

theorem own_lay {w : World} {base : Nat} {e : TypeId} {size : Nat} {v : Value} {n : Nat} {xs : List Value} (h : w.ownsRow base e size v n xs) (os : List Obj) (m : Nat) : (lay w os m).ownsRow base e size v n xs :=
  h.kept (row := none) ⟨(foldl_rest os w).1, (foldl_rest os w).2.1, (foldl_rest os w).2.2, by rw [lay_size]; omega, fun k hk _ => (foldl_heap os w).2 k hk⟩ (by cases v.ownBlock <;> simp)

def withVals (o : AObj) (l : List Int) : AObj := (o.1, o.2.1, l, o.2.2.2)

def aSetH (H : AHeap) (v i x : Int) : AHeap :=
  if (kk H v = 2 ∨ kk H v = 4) ∧ gd H.2.length x = true ∧ 0 ≤ i ∧ i < (ob H v).vals.length then (H.1, H.2.set (idxV v).toNat (withVals (ob H v) ((ob H v).vals.set i.toNat x))) else H

def aSetE (H : AHeap) (v i x : Int) : Int :=
  if kk H v = 2 ∨ kk H v = 4 then (if gd H.2.length x = true then (if 0 ≤ i ∧ i < (ob H v).vals.length then 0 else 9) else 1) else 8

theorem Blk.grownOwn {w w' : World} {g : Nat} {cur : Array Value} {e e' : TypeId} {base size n : Nat} {v : Value} {xs : List Value} (h : Blk w g cur e) (ho : w.ownsRow base e' size v n xs) (hne : e' ≠ e) (hg : w.grownBy w' v.ownBlock) : Blk w' g cur e := by
  refine h.keep (hg.block g h.lt (fun k => ?_))
  rcases own_not ho h hne with h1 | h1
  · rw [h1] at k; cases k
  · exact h1 k.symm

theorem own_apart {w : World} {base : Nat} {e e' : TypeId} {size size' : Nat} {v v' : Value} {n n' : Nat} {xs xs' : List Value}
    (h : w.ownsRow base e size v n xs) (h' : w.ownsRow base e' size' v' n' xs') (hne : e ≠ e') : v'.ownBlock = none ∨ v'.ownBlock ≠ v.ownBlock := by
  rcases h.2 with ⟨rfl, _⟩ | ⟨g, cap, cur, rfl, _, hg, _⟩
  · cases hv : v'.ownBlock
    · exact .inl rfl
    · exact .inr (by simp [Value.ownBlock])
  · exact own_not h' (show Blk w g cur e from hg) hne.symm

theorem bw_grown {a w w' : World} {base : Nat} {e : TypeId} {size : Nat} {v : Value} {n : Nat} {xs : List Value} (h : Bw a w) (hb : a.heap.size ≤ base) (hown : w.ownsRow base e size v n xs) (hg : w.grownBy w' v.ownBlock) : Bw a w' :=
  Below.grown h hg h.size (fun k hk => by have := (hown.lt k hk).1; omega)

def aPushH (H : AHeap) (v x : Int) : AHeap :=
  if kk H v = 2 ∧ gd H.2.length x = true ∧ (ob H v).vals.length ≠ 65536 then (H.1, H.2.set (idxV v).toNat (withVals (ob H v) ((ob H v).vals ++ [x]))) else H

def aPushE (H : AHeap) (v x : Int) : Int :=
  if kk H v = 2 then (if gd H.2.length x = true then (if (ob H v).vals.length ≠ 65536 then 0 else 2) else 1) else 8

end Go.Proofs.YtjcoifdfemejkaaGreatDoor

set_option linter.unusedSimpArgs false
set_option linter.unusedVariables false
namespace Go.Proofs.YtjcoifdfemejkaaGreatDoor
open Go Go.RowKit

theorem run_append_row {P : Program} (w : World) (t ty e : TypeId) (i : TypeInfo) (z : Value) (size bytes : Nat) (ht : P.underlying t = some (.slice e)) (hi : P.info? e = some i) (hz : i.zero = some z)
    (hsize : i.size = size) (hby : i.bytes = bytes) (hzs : z.cells.size = size) (hsz : 0 < size)
    (v : Value) (n : Nat) (xs : List Value) (hown : w.ownsRow 0 e size v n xs)
    (ad : Addr) (m c : Nat) (news : List Value) (hl : news.length = m * size) (hnews : ∀ j u, news[j]? = some u → w.cell? (ad.add j) = some u) (h1 : ∀ u ∈ news, u.oneCell' = true)
    (h63 : n + m ≤ maxLen) (hbytes : (n + m) * bytes ≤ 140737488355328) :
    ∃ v' w', (Builtin.append_ #[t, t] ty #[v, .slice (some ad) m c]).run P w = .ok v' w' ∧ w'.ownsRow 0 e size v' (n + m) (xs ++ news) ∧ w.grownBy w' v.ownBlock ∧
      (v'.ownBlock = v.ownBlock ∨ ∀ k, v'.ownBlock = some k → w.heap.size ≤ k) := by
  have hown' := hown
  rcases hown'.2 with ⟨rfl, rfl⟩ | ⟨g, cap, cur, rfl, hb, hg, hnc, hm, hs, htake⟩
  · have hx : xs = [] := List.eq_nil_of_length_eq_zero (by simpa using hown.1)
    subst hx
    obtain ⟨v', w', hrun, r1, r2, _⟩ := run_append_own (P := P) w w.heap.size t ty e i z size bytes ht hi hz hsize hby hzs hsz (.slice none 0 0) 0 [] (World.ownsRow_nil w _ e size) ad m c news hl hnews h1 h63 hbytes (Nat.le_refl _)
    exact ⟨v', w', hrun, own_base r1 (Nat.zero_le _), r2, .inr (fun k hk => (r1.lt k hk).1)⟩
  · by_cases hroom : n + m ≤ cap
    · obtain ⟨w', hrun, r1, r2⟩ := run_append_fits (P := P) w 0 t ty e i size ht hi hsize g n cap xs hown ad m c news hl hnews h1 hroom
      exact ⟨_, w', hrun, r1, r2, .inl rfl⟩
    · obtain ⟨v', w', hrun, r1, r2⟩ := run_append_arg_grows (P := P) w t ty e i z size bytes ht hi hz hsize hby hzs hsz ⟨g, 0, none⟩ n cap xs hown.1 (hown.cells rfl) ad m c news hl hnews (by omega) h63 hbytes
      exact ⟨v', w', hrun, own_base r1 (Nat.zero_le _), ⟨r2.os, r2.tape, r2.output, r2.size, fun k hk _ => r2.block k hk (by simp)⟩, .inr (fun k hk => (r1.lt k hk).1)⟩

theorem step_append_row {P : Program} {ops : Array Oper} {o : Oper} {a : Act} {w : World} {K : Act → World → Prop} {Q : Exit → Act → World → Prop} {E : Prop}
    (hgd : o.guard = none) (s x : Operand) (t : TypeId) (ho : o.op = Op.call { callee := Callee.builtin Builtin.append, args := #[s, x], argTypes := #[t, t] })
    (e : TypeId) (i : TypeInfo) (z : Value) (size bytes : Nat) (ht : P.underlying t = some (.slice e)) (hi : P.info? e = some i) (hz : i.zero = some z)
    (hsize : i.size = size) (hby : i.bytes = bytes) (hzs : z.cells.size = size) (hsz : 0 < size)
    (v : Value) (n : Nat) (xs : List Value) (hs : a.eval s = v) (hown : w.ownsRow 0 e size v n xs)
    (ad : Addr) (m c : Nat) (news : List Value) (hx : a.eval x = .slice (some ad) m c) (hl : news.length = m * size) (hnews : ∀ j u, news[j]? = some u → w.cell? (ad.add j) = some u) (h1 : ∀ u ∈ news, u.oneCell' = true)
    (h63 : n + m ≤ maxLen) (hbytes : (n + m) * bytes ≤ 140737488355328)
    (h : ∀ v' w', w'.ownsRow 0 e size v' (n + m) (xs ++ news) → w.grownBy w' v.ownBlock → (v'.ownBlock = v.ownBlock ∨ ∀ k, v'.ownBlock = some k → w.heap.size ≤ k) → K (a.put o.dst v') w') :
    if Region.wanted o (yielded ops a.tmps) = true then Oper.wp P o a w K Q else E := by
  have hw : Region.wanted o (yielded ops a.tmps) = true := by simp [Region.wanted, hgd]
  rw [if_pos hw]
  obtain ⟨v', w', hr, h2, h3, h4⟩ := run_append_row (P := P) w t o.type e i z size bytes ht hi hz hsize hby hzs hsz v n xs hown ad m c news hl hnews h1 h63 hbytes
  unfold Oper.wp execOp
  simp only [ho, resolve, invoke, builtin, Sem.run_bind, Sem.run_pure, Result.andThen_ok, List.map_toArray, List.map_cons, List.map_nil, hs, hx, hr]
  exact h v' w' h2 h3 h4

end Go.Proofs.YtjcoifdfemejkaaGreatDoor

set_option linter.unusedSimpArgs false
set_option linter.unusedVariables false
namespace Go.Proofs.YtjcoifdfemejkaaGreatDoor
open Go Go.RowKit

theorem ccall_bits (b : Nat) (w : World) : (callFunc 124 #[.float .f64 b]).run Tryz.prog w = .ok (.value (.int .u64 (b : Int))) w := by
  rw [run_callFunc_extern Tryz.func124 (by kernel_rfl) (by kernel_rfl) (by kernel_rfl) (e := Extern.MathFloatBits.float64bits) (by kernel_rfl)]
  rfl
theorem ccall_frombits (n : Int) (w : World) : (callFunc 121 #[.int .u64 n]).run Tryz.prog w = .ok (.value (.float .f64 n.toNat)) w := by
  rw [run_callFunc_extern Tryz.func121 (by kernel_rfl) (by kernel_rfl) (by kernel_rfl) (e := Extern.MathFloatBits.float64frombits) (by kernel_rfl)]
  rfl

theorem corder_self (x : Nat) : (F.order x x != some .eq) = isn x := by
  unfold isn Ieee.Format.order
  cases F.read x <;> simp [Ieee.Datum.order, Ieee.Datum.isNaN]

theorem cisNaN_any (x : Nat) (w : World) : Calls Tryz.prog 131 #[.float .f64 x] w fun e w' => e = .returned (.bool (isn x)) ∧ w' = w := by
  have h := corder_self x
  go_enter Tryz.func131, Tryz.ntmps131
  go_wp2
  go_ret
  exact ⟨rfl, rfl⟩

theorem csettled_any (x : Nat) (w : World) : Calls Tryz.prog 125 #[.float .f64 x] w fun e w' => e = .returned (.float .f64 (cn x)) ∧ w' = w := by
  have hb := ccall_frombits
  by_cases h : isn x = true
  · have hc : cn x = nn := by simp [cn, h]
    rw [hc]
    go_enter Tryz.func125, Tryz.ntmps125
    go_wp2_with (go_at_call 131; refine (cisNaN_any _ _).mono ?_; rintro e w' ⟨rfl, rfl⟩)
    all_goals go_ret
    all_goals exact ⟨rfl, rfl⟩
  · have h : isn x = false := by simpa using h
    have hc : cn x = x := cn_of x h
    rw [hc]
    go_enter Tryz.func125, Tryz.ntmps125
    go_wp2_with (go_at_call 131; refine (cisNaN_any _ _).mono ?_; rintro e w' ⟨rfl, rfl⟩)
    all_goals go_ret
    all_goals exact ⟨rfl, rfl⟩


theorem cjoin_any (x y : Nat) (w : World) : Calls Tryz.prog 109 #[.float .f64 x, .float .f64 y] w fun e w' => e = .returned (.complex .f64 (cn x) (cn y)) ∧ w' = w := by
  go_enter Tryz.func109, Tryz.ntmps109
  go_wp2_with (go_at_call 125; refine (csettled_any _ _).mono ?_; rintro e w' ⟨rfl, rfl⟩)
  go_ret
  exact ⟨rfl, rfl⟩

theorem cbits_any (x y : Nat) (w : World) : Calls Tryz.prog 107 #[.complex .f64 x y] w fun e w' => e = .returned (.tuple #[.int .u64 (cn x : Nat), .int .u64 (cn y : Nat)]) ∧ w' = w := by
  have hb := ccall_bits
  go_enter Tryz.func107, Tryz.ntmps107
  go_wp2_with (go_at_call 125; refine (csettled_any _ _).mono ?_; rintro e w' ⟨rfl, rfl⟩)
  go_ret2
  exact ⟨rfl, rfl⟩

theorem cmade_any (x y : Int) (w : World) : Calls Tryz.prog 89 #[.int .u64 x, .int .u64 y] w fun e w' => e = .returned (.complex .f64 (cn x.toNat) (cn y.toNat)) ∧ w' = w := by
  have hb := ccall_frombits
  go_enter Tryz.func89, Tryz.ntmps89
  go_wp2_with (go_at_call 109; refine (cjoin_any _ _ _).mono ?_; rintro e w' ⟨rfl, rfl⟩)
  go_ret
  exact ⟨rfl, rfl⟩

theorem cmake_any (x y : Int) (w : World) : Calls Tryz.prog 87 #[.int .i64 x, .int .i64 y] w fun e w' => e = .returned (.complex .f64 (floatOfInt .f64 x) (floatOfInt .f64 y)) ∧ w' = w := by
  go_enter Tryz.func87, Tryz.ntmps87
  go_wp2
  go_ret
  exact ⟨rfl, rfl⟩


end Go.Proofs.YtjcoifdfemejkaaGreatDoor

