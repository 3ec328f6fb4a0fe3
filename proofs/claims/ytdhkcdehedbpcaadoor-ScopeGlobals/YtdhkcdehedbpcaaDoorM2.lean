/- Memory read as plain data: blocks, rows; the table of signs; tokens. Nothing of the program's calls is in it. · What the document's Lex takes of the texts that walk the program's: no function of the program. -/
import Derived.Test.YtdhkcdehedbpcaaDoorRows
import Derived.Test.YtdhkcdehedbpcaaDoorMm
import Derived.Test.YtdhkcdehedbpcaaDoorLy
import Derived.Test.YtdhkcdehedbpcaaDoorLlk
import Derived.WalkKit
import Derived.WalkSpells
import Derived.WalkLawsBesides
import Derived.Deep.RegionHeld3
import Derived.Deep.RegionLaw
import Derived.Deep.DeepCutAuto
import Derived.Laws.MakeOwn
import Derived.Laws.OwnMore
import Derived.Laws.CopyOwn
import Derived.Laws.BytesArg
import Derived.ArgAppend
import Derived.Deep.MidRow
import Derived.Laws.BitsAllLaws
import Derived.WalkMore
import Derived.Lib.SlBytesConst
set_option linter.unusedSimpArgs false
set_option linter.unusedVariables false
namespace Go.Proofs.YtdhkcdehedbpcaaDoor
open Go Go.RowKit

theorem ret_int {k : IntKind} {a b : Int} (h : a = b) : Ending.returned (.int k a) = .returned (.int k b) := by rw [h]

theorem ret_bool {a b : Bool} (h : a = b) : Ending.returned (.bool a) = .returned (.bool b) := by rw [h]

theorem Sl.cellAt {w : World} {G : Nat → Prop} {a : Option Addr} {cap n size : Nat} {cs : List Value} (h : Sl w G (.slice a n cap) n size cs) (hn : n ≠ 0) :
    ∃ b o, a = some ⟨b, o, none⟩ ∧ b < w.heap.size ∧ G b ∧ ∀ i, i < n * size → w.cell? ⟨b, o + i, none⟩ = cs[i]? := by
  obtain ⟨_, a', cap', e, _, h⟩ := h
  cases e
  rcases h with h | h
  · exact absurd h hn
  · exact h

theorem hid {p : Prop} (h : p) : Hid p := h

/-- The block g has just these cells, none of them frozen. -/
def Blk (w : World) (g : Nat) (cur : Array Value) (e : TypeId) : Prop := w.heap[g]? = some (.cells cur e (0, 0))

theorem Blk.lt {w : World} {g : Nat} {cur : Array Value} {e : TypeId} (h : Blk w g cur e) : g < w.heap.size := (Array.getElem?_eq_some_iff.1 h).1

theorem Blk.cell {w : World} {g : Nat} {cur : Array Value} {e : TypeId} (h : Blk w g cur e) (j : Nat) : w.cell? ⟨g, j, none⟩ = cur[j]? := cell_of_row w g j cur e (0, 0) h

theorem Blk.free {w : World} {g : Nat} {cur : Array Value} {e : TypeId} (h : Blk w g cur e) (j : Nat) : w.frozen? ⟨g, j, none⟩ = false := by
  simp [World.frozen?, show w.heap[g]? = _ from h]

theorem Blk.new (w : World) (cur : Array Value) (e : TypeId) : Blk (w.alloc (.cells cur e)) w.heap.size cur e := heap_alloc_new w _

theorem Blk.alloc {w : World} {g : Nat} {cur : Array Value} {e : TypeId} (h : Blk w g cur e) (o : Obj) : Blk (w.alloc o) g cur e := (Below.heap_alloc w o g h.lt).trans h

theorem Blk.keep {w w' : World} {g : Nat} {cur : Array Value} {e : TypeId} (h : Blk w g cur e) (hb : w'.heap[g]? = w.heap[g]?) : Blk w' g cur e := hb.trans h

theorem Blk.set {w : World} {g : Nat} {cur : Array Value} {e : TypeId} (h : Blk w g cur e) (j : Nat) (v : Value) : Blk (w.setCell ⟨g, j, none⟩ v) g (cur.setIfInBounds j v) e := by
  unfold Blk at *
  simp [World.setCell, Array.getElem?_modify, h]

theorem Blk.other {w : World} {g : Nat} {cur : Array Value} {e : TypeId} (h : Blk w g cur e) {p : Addr} (hp : p.block ≠ g) (v : Value) : Blk (w.setCell p v) g cur e :=
  (Below.heap_setCell w p v g (fun k => hp k.symm)).trans h

theorem Blk.drewN {w : World} {g : Nat} {cur : Array Value} {e : TypeId} (h : Blk w g cur e) (n : Nat) : Blk (w.drewN n) g cur e := h

theorem infoU8 : (Tryd.prog.info? 5).map (fun i => (i.zero, i.size, i.bytes)) = some (some (.int .u8 0), 1, 1) := by kernel_rfl

theorem infoS : (Tryd.prog.info? 9).map (fun i => (i.zero, i.size, i.bytes)) = some (some (.string ByteArray.empty), 1, 16) := by kernel_rfl

theorem own_base {w : World} {base base' : Nat} {e : TypeId} {size : Nat} {v : Value} {n : Nat} {xs : List Value} (h : w.ownsRow base e size v n xs) (hb : base' ≤ base) : w.ownsRow base' e size v n xs := by
  refine ⟨h.1, ?_⟩
  rcases h.2 with h | ⟨g, cap, cur, e1, h1, r⟩
  · exact .inl h
  · exact .inr ⟨g, cap, cur, e1, by omega, r⟩

theorem own_form {w : World} {base : Nat} {e : TypeId} {size : Nat} {v : Value} {n : Nat} {xs : List Value} (h : w.ownsRow base e size v n xs) : ∃ a cap, v = .slice a n cap := by
  rcases h.2 with ⟨rfl, rfl⟩ | ⟨g, cap, cur, rfl, _⟩
  · exact ⟨none, 0, rfl⟩
  · exact ⟨_, cap, rfl⟩

theorem own_empty (w : World) (e : TypeId) (size base g : Nat) (hg : w.heap.size = g) (hb : base ≤ g) : (w.alloc (.cells #[] e)).ownsRow base e size (.slice (some ⟨g, 0, none⟩) 0 0) 0 [] := by
  subst hg
  exact World.ownsRow_made w #[] 0 hb (Nat.zero_le _) (by simp)

/-- A new row appended to: what stays of the rest. -/
theorem Blk.grown {w w' : World} {g h : Nat} {cur : Array Value} {e : TypeId} (hb : Blk w g cur e) (hg : w.grownBy w' (some h)) (hne : g ≠ h) : Blk w' g cur e :=
  hb.keep (hg.block g hb.lt (fun k => hne (by cases k; rfl)))

theorem bw_grownAt {a w w' : World} {h : Nat} (hb : Bw a w) (hg : w.grownBy w' (some h)) (hh : a.heap.size ≤ h) : Bw a w' :=
  Below.grown hb hg hb.size (fun k e => by cases e; exact hh)

theorem Sl.at {w : World} {G : Nat → Prop} {a : Option Addr} {cap n : Nat} {cs : List Value} (h : Sl w G (.slice a n cap) n 1 cs) {i : Nat} (hi : i < n) :
    ∃ b o, a = some ⟨b, o, none⟩ ∧ b < w.heap.size ∧ w.cell? ⟨b, o + i, none⟩ = cs[i]? := by
  obtain ⟨b, o, e, hlt, _, hc⟩ := h.cellAt (by omega)
  exact ⟨b, o, e, hlt, hc i (by omega)⟩

theorem str_inj {z s : ByteArray} (h : z.toList = s.toList) : z = s := by
  rw [ByteArray.toList_eq, ByteArray.toList_eq] at h
  cases z; cases s
  simp only [ByteArray.mk.injEq]
  exact Array.toList_inj.1 h

theorem str_ne {z s : ByteArray} (h : ¬ z = s) : (z.toList == s.toList) = false := by
  rw [beq_eq_false_iff_ne]
  exact fun k => h (str_inj k)

theorem Blk.lay {w : World} {g : Nat} {cur : Array Value} {e : TypeId} (h : Blk w g cur e) (os : List Obj) (n : Nat) : Blk (lay w os n) g cur e := h.keep ((foldl_heap os w).2 g h.lt)

theorem Blk.bw {w w' : World} {g : Nat} {cur : Array Value} {e : TypeId} (h : Blk w g cur e) (hb : Bw w w') : Blk w' g cur e := h.keep (hb.block g h.lt)

theorem grown_set (w : World) (g j : Nat) (v : Value) : w.grownBy (w.setCell ⟨g, j, none⟩ v) (some g) :=
  ⟨rfl, rfl, rfl, by simp [World.setCell], fun k _ hne => Below.heap_setCell w ⟨g, j, none⟩ v k (fun e => hne (by rw [e]))⟩

theorem own_not {w : World} {base : Nat} {e e' : TypeId} {size : Nat} {v : Value} {n g : Nat} {xs : List Value} {cur : Array Value} (h : w.ownsRow base e size v n xs) (hb : Blk w g cur e') (hne : e ≠ e') : v.ownBlock = none ∨ v.ownBlock ≠ some g := by
  rcases h.2 with ⟨rfl, _⟩ | ⟨g', cap', cur', rfl, _, hg', _⟩
  · exact .inl rfl
  · right
    simp only [Value.ownBlock, ne_eq, Option.some.injEq]
    rintro rfl
    have hb' : w.heap[g']? = some (.cells cur e' (0, 0)) := hb
    rw [hb'] at hg'
    simp only [Option.some.injEq, Obj.cells.injEq] at hg'
    exact hne hg'.2.1.symm

theorem Blk.grownOwn {w w' : World} {g : Nat} {cur : Array Value} {e e' : TypeId} {base size n : Nat} {v : Value} {xs : List Value} (h : Blk w g cur e) (ho : w.ownsRow base e' size v n xs) (hne : e' ≠ e) (hg : w.grownBy w' v.ownBlock) : Blk w' g cur e := by
  refine h.keep (hg.block g h.lt (fun k => ?_))
  rcases own_not ho h hne with h1 | h1
  · rw [h1] at k; cases k
  · exact h1 k.symm

theorem bw_grown {a w w' : World} {base : Nat} {e : TypeId} {size : Nat} {v : Value} {n : Nat} {xs : List Value} (h : Bw a w) (hb : a.heap.size ≤ base) (hown : w.ownsRow base e size v n xs) (hg : w.grownBy w' v.ownBlock) : Bw a w' :=
  Below.grown h hg h.size (fun k hk => by have := (hown.lt k hk).1; omega)

theorem infoT : (Tryd.prog.info? 70).map (fun i => (i.zero, i.size, i.bytes)) = some (some (.agg #[.int .i64 0, .string ByteArray.empty, .int .i64 0, .int .i64 0]), 4, 40) := by kernel_rfl

/-- The table of signs. -/
def sgs : List (List Int) := [[61, 61], [33, 61], [60, 61], [62, 61], [43], [45], [42], [47], [37], [60], [62], [61], [40], [41], [91], [93], [123], [125], [44], [59], [58], [46]]

/-- Bytes in memory. -/
def By (w : World) (v : Value) (b : List Int) : Prop := Sl w (fun _ => True) v b.length 1 (b.map (Value.int .u8)) ∧ (∀ c ∈ b, 0 ≤ c ∧ c ≤ 255) ∧ b.length ≤ 9223372036854775807

theorem By.bw {w w' : World} {v : Value} {b : List Int} (h : By w v b) (hb : Bw w w') : By w' v b := ⟨h.1.below hb, h.2⟩

theorem By.form {w : World} {v : Value} {b : List Int} (h : By w v b) : ∃ a cap, v = .slice a b.length cap := h.1.form

theorem By.at {w : World} {a : Option Addr} {cap : Nat} {b : List Int} (h : By w (.slice a b.length cap) b) {i : Nat} (hi : i < b.length) :
    ∃ g o, a = some ⟨g, o, none⟩ ∧ g < w.heap.size ∧ w.cell? ⟨g, o + i, none⟩ = some (.int .u8 b[i]) := by
  obtain ⟨g, o, e, hlt, hc⟩ := h.1.at hi
  exact ⟨g, o, e, hlt, by rw [hc]; simp [hi]⟩

/-- Tokens in memory, in a row of one's own. -/
def Tk (w : World) (base : Nat) (v : Value) (l : List ATok) : Prop := w.ownsRow base 70 4 v l.length (l.flatMap tkV)

end Go.Proofs.YtdhkcdehedbpcaaDoor

set_option linter.unusedSimpArgs false
set_option linter.unusedVariables false
namespace Go.Proofs.YtdhkcdehedbpcaaDoor
open Go Go.RowKit

theorem strOf_toList (l : List Int) : (strOfNums l).toList = l.map fun n => UInt8.ofNat n.toNat := by
  rw [ByteArray.toList_eq, strOfNums_data]

theorem strOf_inj {l k : List Int} (hl : ∀ c ∈ l, 0 ≤ c ∧ c ≤ 255) (hk : ∀ c ∈ k, 0 ≤ c ∧ c ≤ 255) (h : strOfNums l = strOfNums k) : l = k := by
  have h1 : (l.map fun n => UInt8.ofNat n.toNat) = k.map fun n => UInt8.ofNat n.toNat := by rw [← strOf_toList, ← strOf_toList, h]
  clear h
  induction l generalizing k with
  | nil => cases k with | nil => rfl | cons c t => simp at h1
  | cons c t ih =>
    cases k with
    | nil => simp at h1
    | cons d u =>
      simp only [List.map_cons, List.cons.injEq] at h1
      have hc := hl c (by simp)
      have hd := hk d (by simp)
      have e : c = d := by
        have := congrArg UInt8.toNat h1.1
        simp at this
        omega
      rw [e, ih (fun x hx => hl x (by simp [hx])) (fun x hx => hk x (by simp [hx])) h1.2]

theorem strOf_ne {l k : List Int} (hl : ∀ c ∈ l, 0 ≤ c ∧ c ≤ 255) (hk : ∀ c ∈ k, 0 ≤ c ∧ c ≤ 255) (h : l ≠ k) : ((strOfNums l).toList == (strOfNums k).toList) = false :=
  str_ne (fun e => h (strOf_inj hl hk e))

def isName (l : List Int) : Bool := match l with | [] => false | c :: t => !isDg c && l.all isNm && !isWord l

/-- The byte at a place. -/
def nth (l : List Int) (i : Nat) : Int := l.getD i 0

theorem nth_eq {l : List Int} {i : Nat} (h : i < l.length) : nth l i = l[i] := by
  unfold nth; rw [List.getD_eq_getElem?_getD, List.getElem?_eq_getElem h]; rfl

theorem strOf_get {l : List Int} (hb : ∀ c ∈ l, 0 ≤ c ∧ c ≤ 255) (i : Nat) (h : i < (strOfNums l).size) : (((strOfNums l)[i]'h).toNat : Int) = nth l i := by
  have hl : i < l.length := by rw [strOfNums_size] at h; exact h
  have := hb _ (List.getElem_mem hl)
  have e : (strOfNums l)[i]'h = UInt8.ofNat (l[i]).toNat := by
    show (strOfNums l).data[i] = _
    simp [strOfNums]
  rw [e, nth_eq hl]
  simp
  omega

theorem all_take_succ (p : Int → Bool) (l : List Int) (k : Nat) (h : k < l.length) : (l.take (k + 1)).all p = ((l.take k).all p && p (nth l k)) := by
  rw [List.take_succ_eq_append_getElem h, List.all_append, nth_eq h]
  simp

theorem all_false_of (p : Int → Bool) (l : List Int) (k : Nat) (h : k < l.length) (hp : p (nth l k) = false) : l.all p = false := by
  rw [List.all_eq_false]
  exact ⟨l[k], List.getElem_mem h, by rw [← nth_eq h, hp]; simp⟩

theorem under9 : Tryd.prog.underlying 9 = some .string := by kernel_rfl

theorem all_take_get {α : Type} (p : α → Bool) {l : List α} {k : Nat} {s : α} (h : l[k]? = some s) : (l.take (k + 1)).all p = ((l.take k).all p && p s) := by
  obtain ⟨hk, rfl⟩ := List.getElem?_eq_some_iff.1 h
  rw [List.take_succ_eq_append_getElem hk, List.all_append]
  simp

theorem strOf_nil : strOfNums [] = ⟨#[]⟩ := rfl

theorem By.parts {w : World} {v : Value} {b : List Int} {k : Nat} (h : By w v b) (hk : k < b.length) :
    ∃ g o cap, v = .slice (some ⟨g, o, none⟩) b.length cap ∧ b.length ≤ cap ∧ g < w.heap.size ∧ ∀ i (hi : i < b.length), w.cell? ⟨g, o + i, none⟩ = some (.int .u8 b[i]) := by
  obtain ⟨hl, a, cap, rfl, hn, hc⟩ := h.1
  rcases hc with hc | ⟨g, o, rfl, hg, _, hc⟩
  · omega
  · exact ⟨g, o, cap, rfl, hn.1, hg, fun i hi => by rw [hc i (by omega)]; simp [hi]⟩

theorem under22 : Tryd.prog.underlying 22 = some (.slice 5) := by kernel_rfl

theorem under5 : Tryd.prog.underlying 5 = some (.int .u8) := by kernel_rfl

/-- A part of the bytes as a string. -/
theorem By.conv {w : World} {g o cap : Nat} {b : List Int} (h : By w (.slice (some ⟨g, o, none⟩) b.length cap) b) (k m c : Nat) (hk : k + m ≤ b.length) :
    (convert 22 9 (.slice (some ⟨g, o + k, none⟩) m c)).run Tryd.prog w = .ok (.string (strOfNums ((b.drop k).take m))) w := by
  refine run_convert_bytes_arg w 22 5 under22 under5 g (o + k) m c ((b.drop k).take m) (by simp; omega) (fun i hi => ?_) 9 under9
  have hi' : k + i < b.length := by omega
  obtain ⟨g', o', cap', e, _, _, hc⟩ := h.parts hi'
  cases e
  rw [Nat.add_assoc, hc _ hi']
  congr 2
  rw [List.getD_eq_getElem?_getD, List.getElem?_take, if_pos hi, List.getElem?_drop, List.getElem?_eq_getElem hi']
  rfl

/-- The result's block as it begins. -/
abbrev tk0 : Obj := .cells #[.int .i64 0, .string ByteArray.empty, .int .i64 0, .int .i64 0] 70

theorem numOf_take_succ {r : List Int} {m : Nat} (h : m < r.length) : numOf (r.take (m + 1)) = numStep (numOf (r.take m)) r[m] := by
  rw [List.take_succ_eq_append_getElem h, numOf_snoc]

theorem numStep_bd {s : Int × Bool} {d : Int} (h0 : 0 ≤ s.1) (h1 : s.1 ≤ 2305843009213693951) (hd : isDg d = true) : 0 ≤ (numStep s d).1 ∧ (numStep s d).1 ≤ 2305843009213693951 := by
  simp [isDg] at hd
  unfold numStep
  have e : (2305843009213693951 - (d - 48)).tdiv 10 = (2305843009213693951 - (d - 48)) / 10 := Int.tdiv_eq_ediv_of_nonneg (by omega)
  rw [e]
  split
  · exact ⟨h0, h1⟩
  · simp only; omega

/-- What two digits say: the byte; or how far the fault is. -/
def hex2 (r : List Int) : Int ⊕ Nat :=
  match r with
  | [] => .inr 0
  | x :: u =>
    match hexV x with
    | none => .inr 0
    | some i =>
      match u with
      | [] => .inr 1
      | y :: _ =>
        match hexV y with
        | none => .inr 1
        | some j => .inl (16 * i + j)

theorem hexV_bd {c i : Int} (h : hexV c = some i) : 0 ≤ i ∧ i ≤ 15 := by
  unfold hexV at h
  repeat' split at h
  all_goals simp at h
  all_goals omega

/-- How far it is with the two digits. -/
def St (r : List Int) (i : Nat) (x : Int) : Prop :=
  (i = 0 ∧ x = 0) ∨ (i = 1 ∧ ∃ c t, r = c :: t ∧ hexV c = some x) ∨ (i = 2 ∧ ∃ c d t p q, r = c :: d :: t ∧ hexV c = some p ∧ hexV d = some q ∧ x = 16 * p + q)

theorem St.end {r : List Int} {x : Int} (h : St r 2 x) : hex2 r = .inl x := by
  rcases h with ⟨h, _⟩ | ⟨h, _⟩ | ⟨_, c, d, t, p, q, rfl, h1, h2, rfl⟩
  · omega
  · omega
  · simp [hex2, h1, h2]

theorem St.short {r : List Int} {i : Nat} {x : Int} (h : St r i x) (hi : i < 2) (hr : r.length = i) : hex2 r = .inr i := by
  rcases h with ⟨rfl, _⟩ | ⟨rfl, c, t, rfl, h1⟩ | ⟨h, _⟩
  · rw [List.eq_nil_of_length_eq_zero hr]; rfl
  · have : t = [] := List.eq_nil_of_length_eq_zero (by simpa using hr)
    subst this
    simp [hex2, h1]
  · omega

theorem St.bad {r : List Int} {i : Nat} {x c : Int} (h : St r i x) (hi : i < 2) (hr : r[i]? = some c) (hc : hexV c = none) : hex2 r = .inr i := by
  rcases h with ⟨rfl, _⟩ | ⟨rfl, d, t, rfl, h1⟩ | ⟨h, _⟩
  · cases r with
    | nil => simp at hr
    | cons d t => simp at hr; subst hr; simp [hex2, hc]
  · cases t with
    | nil => simp at hr
    | cons e u => simp at hr; subst hr; simp [hex2, h1, hc]
  · omega

theorem or16 (x y : Int) (h0 : 0 ≤ x) (h1 : x ≤ 15) (g0 : 0 ≤ y) (g1 : y ≤ 15) : bits .or .u8 (x * 16) y = 16 * x + y := by
  rw [u8_or (x * 16) y (by omega) (by omega) (by omega) (by omega)]
  have h := Nat.two_pow_add_eq_or_of_lt (i := 4) (b := y.toNat) (by omega) x.toNat
  rw [show (x * 16).toNat = 2 ^ 4 * x.toNat by omega, ← h]; omega

theorem St.next {r : List Int} {i : Nat} {x c d : Int} (h : St r i x) (hi : i < 2) (hr : r[i]? = some c) (hc : hexV c = some d) : ∃ y, bits .or .u8 (x * 16 % 256) d = y ∧ bits .or .u8 (x * 16) d = y ∧ St r (i + 1) y ∧ 0 ≤ x ∧ x ≤ 15 := by
  have hd := hexV_bd hc
  rcases h with ⟨rfl, rfl⟩ | ⟨rfl, e, t, rfl, h1⟩ | ⟨h, _⟩
  · have := or16 0 d (by omega) (by omega) hd.1 hd.2
    simp at this
    refine ⟨d, by simpa using this, by simpa using this, .inr (.inl ⟨rfl, ?_⟩), by omega, by omega⟩
    cases r with
    | nil => simp at hr
    | cons f u => simp at hr; subst hr; exact ⟨f, u, rfl, hc⟩
  · have he := hexV_bd h1
    have := or16 x d he.1 he.2 hd.1 hd.2
    refine ⟨16 * x + d, by rw [show x * 16 % 256 = x * 16 by omega]; exact this, this, .inr (.inr ⟨rfl, ?_⟩), he.1, he.2⟩
    cases t with
    | nil => simp at hr
    | cons f u => simp at hr; subst hr; exact ⟨e, f, u, x, d, rfl, h1, hc, rfl⟩
  · omega

theorem esc_hex (t : List Int) : esc (120 :: t) = match hex2 t with | .inl x => .inl (x, 4) | .inr m => .inr (2 + m) := by
  cases t with
  | nil => simp [esc, hex2]
  | cons x u =>
    cases hx : hexV x with
    | none => simp [esc, hex2, hx]
    | some i =>
      cases u with
      | nil => simp [esc, hex2, hx]
      | cons y z => cases hy : hexV y <;> simp [esc, hex2, hx, hy]

theorem own_conv {w : World} {base n : Nat} {v : Value} {l : List Int} (h : w.ownsRow base 5 1 v n (l.map (Value.int .u8))) :
    (convert 22 9 v).run Tryd.prog w = .ok (.string (strOfNums l)) w := by
  have hl : l.length = n := by have := h.1; simpa using this
  rcases h.2 with ⟨rfl, rfl⟩ | ⟨g, cap, cur, rfl, hb, hg, hnc, hmx, hsz, htake⟩
  · have : l = [] := List.eq_nil_of_length_eq_zero hl
    subst this
    exact run_convert_bytes_nil w 22 5 under22 under5 0 0 9 under9
  · refine run_convert_bytes_arg w 22 5 under22 under5 g 0 n cap l hl (fun i hi => ?_) 9 under9
    rw [Nat.zero_add, cell_of_row w g i cur 5 (0, 0) hg]
    have e : cur.toList[i]? = (l.map (Value.int .u8))[i]? := by rw [← htake, List.getElem?_take, if_pos (by omega)]
    have : cur[i]? = cur.toList[i]? := by simp
    rw [this, e, List.getElem?_map, List.getElem?_eq_getElem (by omega), List.getD_eq_getElem?_getD, List.getElem?_eq_getElem (by omega)]
    rfl

theorem map_snoc8 (l : List Int) (c : Int) : l.map (Value.int .u8) ++ [.int .u8 c] = (l ++ [c]).map (Value.int .u8) := by simp

theorem underT : Tryd.prog.underlying 63 = some (.slice 70) := by kernel_rfl

theorem tk_snoc (l : List ATok) (t : ATok) : l.flatMap tkV ++ tkV t = (l ++ [t]).flatMap tkV := by simp

theorem Tk.bw {w w' : World} {base : Nat} {v : Value} {l : List ATok} (h : Tk w base v l) (hb : Bw w w') : Tk w' base v l :=
  h.kept (row := none) ⟨hb.os, hb.tape, hb.output, hb.size, fun k hk _ => hb.block k hk⟩ (by cases v.ownBlock <;> simp)

theorem Tk.form {w : World} {base : Nat} {v : Value} {l : List ATok} (h : Tk w base v l) : ∃ a cap, v = .slice a l.length cap := own_form h

theorem flat_get : ∀ (l : List ATok) (i : Nat) (hi : i < l.length) (j : Nat) (hj : j < 4), (l.flatMap tkV)[i * 4 + j]? = (tkV l[i])[j]?
  | [], i, hi, _, _ => by simp at hi
  | t :: u, 0, _, j, hj => by
    rw [List.flatMap_cons, Nat.zero_mul, Nat.zero_add, List.getElem?_append_left (by simp [tkV]; omega)]
    rfl
  | t :: u, i + 1, hi, j, hj => by
    have hi' : i < u.length := by simpa using hi
    rw [List.flatMap_cons, List.getElem?_append_right (by simp [tkV]; omega)]
    have e : (i + 1) * 4 + j - (tkV t).length = i * 4 + j := by simp [tkV]; omega
    rw [e, flat_get u i hi' j hj]
    simp

theorem Tk.at {w : World} {base : Nat} {v : Value} {l : List ATok} (h : Tk w base v l) (hl : 0 < l.length) :
    ∃ g cap, v = .slice (some ⟨g, 0, none⟩) l.length cap ∧ base ≤ g ∧ g < w.heap.size ∧ l.length ≤ cap ∧ ∀ i (hi : i < l.length), w.cell? ⟨g, i * 4, none⟩ = some (.int .i64 l[i].1) ∧ w.cell? ⟨g, i * 4 + 1, none⟩ = some (.string (strOfNums l[i].2.1)) ∧ w.cell? ⟨g, i * 4 + 2, none⟩ = some (.int .i64 l[i].2.2.1) ∧ w.cell? ⟨g, i * 4 + 3, none⟩ = some (.int .i64 l[i].2.2.2) := by
  rcases h.2 with ⟨_, h0⟩ | ⟨g, cap, cur, rfl, hb, hg, hnc, hmx, hsz, htake⟩
  · omega
  · refine ⟨g, cap, rfl, hb, (Array.getElem?_eq_some_iff.1 hg).1, hnc, fun i hi => ?_⟩
    have key : ∀ j, j < 4 → w.cell? ⟨g, i * 4 + j, none⟩ = (tkV l[i])[j]? := by
      intro j hj
      rw [cell_of_row w g (i * 4 + j) cur _ (0, 0) hg, ← flat_get l i hi j hj, ← htake, List.getElem?_take, if_pos (by omega)]
      simp
    have k0 := key 0 (by omega)
    have k1 := key 1 (by omega)
    have k2 := key 2 (by omega)
    have k3 := key 3 (by omega)
    exact ⟨k0, k1, k2, k3⟩

end Go.Proofs.YtdhkcdehedbpcaaDoor

