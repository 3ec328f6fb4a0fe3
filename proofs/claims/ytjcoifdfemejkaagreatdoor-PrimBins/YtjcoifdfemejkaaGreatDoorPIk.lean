/- The program's objects, made: all ends in one; new heaps: the contracts. -/
import Derived.Test.YtjcoifdfemejkaaGreatDoorPEk
import Derived.Test.YtjcoifdfemejkaaGreatDoorM3
set_option linter.unusedSimpArgs false
set_option linter.unusedVariables false
namespace Go.Proofs.YtjcoifdfemejkaaGreatDoor
open Go Go.RowKit

/-- What an object is made of fits its kind. -/
structure Shp (o : AObj) : Prop where
  k1 : 1 ≤ o.kind
  k9 : o.kind ≤ 9
  v1 : o.kind ≠ 2 → o.kind ≠ 3 → o.kind ≠ 4 → o.kind ≠ 5 → o.vals = []
  v4 : o.kind = 4 → o.vals.length = 1
  b1 : o.kind ≠ 1 → o.bytes = []
  s3 : o.kind ≠ 3 → o.keys = []
  n0 : o.kind ≠ 5 → o.kind ≠ 7 → o.kind ≠ 8 → o.kind ≠ 9 → o.num = 0
  u : ∀ v ∈ o.vals, U v
  y : ∀ b ∈ o.bytes, 0 ≤ b ∧ b ≤ 255
  m1 : o.bytes.length ≤ 1000000000
  m2 : o.vals.length ≤ 1000000000
  m3 : o.keys.length ≤ 1000000000

theorem Shp.ok {n : Nat} {o : AObj} (h : Shp o) (hl : pLong o = false) (hs : pSound n o = true) : OKo o := by
  have k1 := h.k1
  have k9 := h.k9
  have hb := h.b1
  have hv := h.v1
  have hk := h.s3
  have h4 := h.v4
  refine ⟨fun e => hv (by omega) (by omega) (by omega) (by omega), hb, fun e => ?_, h.u, h.y, ?_, ?_, ?_⟩
  · simp [pSound, e] at hs; omega
  · by_cases e : o.kind = 1
    · simp [pLong, e] at hl; omega
    · rw [hb e]; simp
  · by_cases e2 : o.kind = 2
    · simp [pLong, e2] at hl; omega
    · by_cases e3 : o.kind = 3
      · simp [pLong, e3] at hl; simp [pSound, e3] at hs; omega
      · by_cases e4 : o.kind = 4
        · rw [h4 e4]; omega
        · by_cases e5 : o.kind = 5
          · simp [pLong, e5] at hl; omega
          · rw [hv e2 e3 e4 e5]; simp
  · by_cases e3 : o.kind = 3
    · simp [pLong, e3] at hl; omega
    · rw [hk e3]; simp

def aMakeE (H : AHeap) (o : AObj) : Int := if pLong o = true then 2 else if pSound H.2.length o = false then 1 else if H.1 ≤ (H.2.length : Int) then 3 else 0
def aMakeV (H : AHeap) (o : AObj) : Int := if aMakeE H o = 0 then 4 * (H.2.length : Int) + 2 else 0
def aMakeH (H : AHeap) (o : AObj) : AHeap := if aMakeE H o = 0 then (H.1, H.2 ++ [o]) else H

theorem add_any (G : Nat → Prop) {b0 : Nat} {H : AHeap} {bs : List Nat} (o : AObj) (x : Value × Value × Value) (w : World) (hp : HS w b0 H bs) (h : PO w G o x) (hs : Shp o) :
    Calls Tryz.prog 56 #[.pointer (some ⟨b0, 0, none⟩), pobj o x] w fun e w' => e = .returned (.tuple #[.int .u64 (aMakeV H o), .int .i64 (aMakeE H o)]) ∧ ∃ bs', HS w' b0 (aMakeH H o) bs' ∧ Nx bs w w' bs' := by
  have hm1 := hs.m1
  have hm2 := hs.m2
  have hm3 := hs.m3
  have hp' := hp
  obtain ⟨vo, t, hph, rfl⟩ := hp
  unfold aMakeV aMakeH aMakeE
  cases hl : pLong o
  · cases hsd : pSound H.2.length o
    · simp only [hl, hsd, if_true, if_false, reduceCtorEq]
      exact (add_arg G o x w hph h hs.u hm1 hm2 hm3 hl hsd).mono fun e w' ⟨he, hb⟩ => ⟨by simpa using he, _, hp'.ly hb, hb.nx _⟩
    · by_cases hmo : H.1 ≤ (H.2.length : Int)
      · simp only [hl, hsd, hmo, if_true, if_false, reduceCtorEq]
        exact (add_many G o x w hph h hs.u hm1 hm2 hm3 hl hsd hmo).mono fun e w' ⟨he, hb⟩ => ⟨by simpa using he, _, hp'.ly hb, hb.nx _⟩
      · simp only [hl, hsd, hmo, if_true, if_false, reduceCtorEq]
        exact (add_ok G o x w hph h (hs.ok hl hsd) hl hsd (by omega)).mono fun e w' ⟨vo', t', he, h1, h2, h3⟩ => ⟨he, _, ⟨vo', t', h1, rfl⟩, h2, h3⟩
  · simp only [hl, if_true, if_false, reduceCtorEq]
    exact (add_long G o x w hph h (by omega) (by omega) (by omega) hl).mono fun e w' ⟨he, hb⟩ => ⟨by simpa using he, _, hp'.ly hb, hb.nx _⟩

theorem Sl.any {w : World} {G : Nat → Prop} {v : Value} {n size : Nat} {cs : List Value} (h : Sl w G v n size cs) : Sl w (fun _ => True) v n size cs :=
  h.keep (Nat.le_refl _) (fun _ _ _ => rfl) (fun _ _ _ => trivial)

def oStr (b : List Int) : AObj := (1, b, [], [], 0, 0, 0)
def oArr (l : List Int) : AObj := (2, [], l, [], 0, 0, 0)
def oRec (k : List ByteArray) (l : List Int) : AObj := (3, [], l, k, 0, 0, 0)
def oCell (x : Int) : AObj := (4, [], [x], [], 0, 0, 0)
def oFun (n : Int) (l : List Int) : AObj := (5, [], l, [], n, 0, 0)
def oCplx (a b : Int) : AObj := (6, [], [], [], 0, a, b)
def oItem (k n : Int) : AObj := (k, [], [], [], n, 0, 0)

theorem shp_str {b : List Int} (h : ∀ x ∈ b, 0 ≤ x ∧ x ≤ 255) (hm : b.length ≤ 1000000000) : Shp (oStr b) := by
  refine ⟨?_, ?_, ?_, ?_, ?_, ?_, ?_, ?_, ?_, ?_, ?_, ?_⟩ <;> simp [oStr, AObj.kind, AObj.vals, AObj.bytes, AObj.keys, AObj.num]
  · exact h
  · exact hm
theorem shp_arr {l : List Int} (h : ∀ x ∈ l, U x) (hm : l.length ≤ 1000000000) : Shp (oArr l) := by
  refine ⟨?_, ?_, ?_, ?_, ?_, ?_, ?_, ?_, ?_, ?_, ?_, ?_⟩ <;> simp [oArr, AObj.kind, AObj.vals, AObj.bytes, AObj.keys, AObj.num]
  · exact h
  · exact hm
theorem shp_rec {k : List ByteArray} {l : List Int} (h : ∀ x ∈ l, U x) (hm : l.length ≤ 1000000000) (hk : k.length ≤ 1000000000) : Shp (oRec k l) := by
  refine ⟨?_, ?_, ?_, ?_, ?_, ?_, ?_, ?_, ?_, ?_, ?_, ?_⟩ <;> simp [oRec, AObj.kind, AObj.vals, AObj.bytes, AObj.keys, AObj.num]
  · exact h
  · exact hm
  · exact hk
theorem shp_cell {x : Int} (h : U x) : Shp (oCell x) := by
  refine ⟨?_, ?_, ?_, ?_, ?_, ?_, ?_, ?_, ?_, ?_, ?_, ?_⟩ <;> simp [oCell, AObj.kind, AObj.vals, AObj.bytes, AObj.keys, AObj.num]
  exact h
theorem shp_fun {n : Int} {l : List Int} (h : ∀ x ∈ l, U x) (hm : l.length ≤ 1000000000) : Shp (oFun n l) := by
  refine ⟨?_, ?_, ?_, ?_, ?_, ?_, ?_, ?_, ?_, ?_, ?_, ?_⟩ <;> simp [oFun, AObj.kind, AObj.vals, AObj.bytes, AObj.keys, AObj.num]
  · exact h
  · exact hm
theorem shp_cplx {a b : Int} : Shp (oCplx a b) := by
  refine ⟨?_, ?_, ?_, ?_, ?_, ?_, ?_, ?_, ?_, ?_, ?_, ?_⟩ <;> simp [oCplx, AObj.kind, AObj.vals, AObj.bytes, AObj.keys, AObj.num]
theorem shp_item {k n : Int} (h : k = 7 ∨ k = 8 ∨ k = 9) : Shp (oItem k n) := by
  refine ⟨?_, ?_, ?_, ?_, ?_, ?_, ?_, ?_, ?_, ?_, ?_, ?_⟩ <;> simp [oItem, AObj.kind, AObj.vals, AObj.bytes, AObj.keys, AObj.num] <;> omega

theorem po_str {w : World} {v : Value} {b : List Int} (h : Sl w (fun _ => True) v b.length 1 (b.map (Value.int .u8))) : PO w (fun _ => True) (oStr b) (v, .slice none 0 0, .slice none 0 0) := ⟨h, Sl.nil .., Sl.nil ..⟩
theorem po_arr {w : World} {v : Value} {l : List Int} (h : Sl w (fun _ => True) v l.length 1 (l.map (Value.int .u64))) : PO w (fun _ => True) (oArr l) (.slice none 0 0, .slice none 0 0, v) := ⟨Sl.nil .., Sl.nil .., h⟩
theorem po_rec {w : World} {vk v : Value} {k : List ByteArray} {l : List Int} (hk : Sl w (fun _ => True) vk k.length 1 (k.map Value.string)) (h : Sl w (fun _ => True) v l.length 1 (l.map (Value.int .u64))) : PO w (fun _ => True) (oRec k l) (.slice none 0 0, vk, v) := ⟨Sl.nil .., hk, h⟩
theorem po_fun {w : World} {v : Value} {n : Int} {l : List Int} (h : Sl w (fun _ => True) v l.length 1 (l.map (Value.int .u64))) : PO w (fun _ => True) (oFun n l) (.slice none 0 0, .slice none 0 0, v) := ⟨Sl.nil .., Sl.nil .., h⟩
theorem po_cell (w : World) (x : Int) (e : TypeId) : PO (w.alloc (.cells #[.int .u64 x] e)) (fun _ => True) (oCell x) (.slice none 0 0, .slice none 0 0, .slice (some ⟨w.heap.size, 0, none⟩) 1 1) := by
  refine ⟨Sl.nil .., Sl.nil .., rfl, _, 1, rfl, ⟨Nat.le_refl _, fun h => by cases h⟩, .inr ⟨_, 0, rfl, by simp, trivial, fun i hi => ?_⟩⟩
  have h := heap_alloc_new w (.cells #[.int .u64 x] e)
  rw [cell_of_row _ _ _ _ _ _ h]
  have : i = 0 := by simp [oCell, AObj.vals] at hi; omega
  subst this
  rfl
theorem po_num (w : World) (o : AObj) (h1 : o.bytes = []) (h2 : o.keys = []) (h3 : o.vals = []) : PO w (fun _ => True) o (.slice none 0 0, .slice none 0 0, .slice none 0 0) := by
  refine ⟨?_, ?_, ?_⟩
  · rw [h1]; exact Sl.nil ..
  · rw [h2]; exact Sl.nil ..
  · rw [h3]; exact Sl.nil ..

set_option maxHeartbeats 1000000 in
theorem str_any (G : Nat → Prop) {b0 : Nat} {H : AHeap} {bs : List Nat} (v : Value) (b : List Int) (w : World) (hp : HS w b0 H bs) (h : Sl w G v b.length 1 (b.map (Value.int .u8))) (hb : ∀ x ∈ b, 0 ≤ x ∧ x ≤ 255) (hm : b.length ≤ 1000000000) :
    Calls Tryz.prog 16 #[.pointer (some ⟨b0, 0, none⟩), v] w fun e w' => e = .returned (.tuple #[.int .u64 (aMakeV H (oStr b)), .int .i64 (aMakeE H (oStr b))]) ∧ ∃ bs', HS w' b0 (aMakeH H (oStr b)) bs' ∧ Nx bs w w' bs' := by
  have HA := hid (add_any (fun _ => True) (oStr b) _ w hp (po_str h.any) (shp_str hb hm))
  obtain ⟨a, c, rfl⟩ := h.form
  clear h hp hb
  go_enter Tryz.func16, Tryz.ntmps16
  go_wp2_with (first | (go_at_call 56; refine HA.out.mono ?_; rintro e w' ⟨rfl, H2⟩))
  go_ret2
  exact ⟨rfl, H2⟩

set_option maxHeartbeats 1000000 in
theorem arr_any (G : Nat → Prop) {b0 : Nat} {H : AHeap} {bs : List Nat} (v : Value) (l : List Int) (w : World) (hp : HS w b0 H bs) (h : Sl w G v l.length 1 (l.map (Value.int .u64))) (hu : ∀ x ∈ l, U x) (hm : l.length ≤ 1000000000) :
    Calls Tryz.prog 18 #[.pointer (some ⟨b0, 0, none⟩), v] w fun e w' => e = .returned (.tuple #[.int .u64 (aMakeV H (oArr l)), .int .i64 (aMakeE H (oArr l))]) ∧ ∃ bs', HS w' b0 (aMakeH H (oArr l)) bs' ∧ Nx bs w w' bs' := by
  have HA := hid (add_any (fun _ => True) (oArr l) _ w hp (po_arr h.any) (shp_arr hu hm))
  obtain ⟨a, c, rfl⟩ := h.form
  clear h hp hu
  go_enter Tryz.func18, Tryz.ntmps18
  go_wp2_with (first | (go_at_call 56; refine HA.out.mono ?_; rintro e w' ⟨rfl, H2⟩))
  go_ret2
  exact ⟨rfl, H2⟩

set_option maxHeartbeats 1000000 in
theorem cell_any {b0 : Nat} {H : AHeap} {bs : List Nat} (x : Int) (w : World) (hp : HS w b0 H bs) (hu : U x) :
    Calls Tryz.prog 63 #[.pointer (some ⟨b0, 0, none⟩), .int .u64 x] w fun e w' => e = .returned (.tuple #[.int .u64 (aMakeV H (oCell x)), .int .i64 (aMakeE H (oCell x))]) ∧ ∃ bs', HS w' b0 (aMakeH H (oCell x)) bs' ∧ Nx bs w w' bs' := by
  have HA := hid (add_any (fun _ => True) (oCell x) _ _ (hp.bw ((Bw.refl w).alloc (.cells #[.int .u64 x] 27))) (po_cell w x 27) (shp_cell hu))
  have HB := hid (((Bw.refl w).alloc (.cells #[.int .u64 x] 27)).nx bs)
  clear hp hu
  go_enter Tryz.func63, Tryz.ntmps63
  go_wp2_with (first | (go_at_call 56; refine HA.out.mono ?_; rintro e w' ⟨rfl, bs', H2, H3⟩))
  go_ret2
  exact ⟨rfl, bs', H2, HB.out.trans H3⟩

set_option maxHeartbeats 1000000 in
theorem new_ok (n : Int) (w : World) (h1 : 1 ≤ n) (h2 : n ≤ 65536) :
    Calls Tryz.prog 15 #[.int .i64 n] w fun e w' => e = .returned (.tuple #[.pointer (some ⟨w.heap.size, 0, none⟩), .int .i64 0]) ∧ HS w' w.heap.size (n, []) [w.heap.size] ∧ Bw w w' ∧ w.heap.size < w'.heap.size := by
  have hB := Blk.new w #[.int .i64 n, .slice none 0 0] 102
  have HH : Hid (HS (w.alloc (.cells #[.int .i64 n, .slice none 0 0] 102)) w.heap.size (n, []) [w.heap.size]) := by
    refine ⟨.slice none 0 0, [], ⟨hB, rfl, World.ownsRow_nil .., ?_, ?_, ?_, h2, ?_⟩, rfl⟩
    · intro i o x ho; simp at ho
    · simp [hbs, Value.ownBlock]
    · simp; omega
    · intro o ho; simp at ho
  have hS : (w.alloc (.cells #[.int .i64 n, .slice none 0 0] 102)).heap.size = w.heap.size + 1 := World.size_alloc ..
  have HS' := hid hS
  clear hB hS
  go_enter Tryz.func15, Tryz.ntmps15
  go_wp2
  go_ret2
  exact ⟨rfl, HH.out, Bw.alloc (Bw.refl _) _, by rw [HS'.out]; omega⟩

set_option maxHeartbeats 1000000 in
theorem new_no (n : Int) (w : World) (h : ¬ (1 ≤ n ∧ n ≤ 65536)) :
    Calls Tryz.prog 15 #[.int .i64 n] w fun e w' => e = .returned (.tuple #[.pointer none, .int .i64 1]) ∧ w' = w := by
  have h01 : n < 1 ∨ (¬ n < 1 ∧ 65536 < n) := by omega
  clear h
  rcases h01 with h0 | ⟨h0, h1⟩
  all_goals
    go_enter Tryz.func15, Tryz.ntmps15
    go_wp2
    go_ret2
    exact ⟨rfl, rfl⟩

end Go.Proofs.YtjcoifdfemejkaaGreatDoor

