/- The document's reader in memory: the small functions: contracts. · A map from strings to ints in memory, as a function. Nothing of the program's functions is in it. · The primitives' names: the program's table, Prim, PrimName; the document's. -/
import Derived.Test.YtdhkcdehedbpcaaDoorM3
import Derived.Test.YtdhkcdehedbpcaaDoorM4
import Derived.Laws.EntriesVeiled
import Derived.BigRegion
import Derived.BigQuiet
import Derived.Maps.OwnSet
import Derived.Maps.Own
import Derived.Deep.MidRow
set_option linter.unusedSimpArgs false
set_option linter.unusedVariables false
namespace Go.Proofs.YtdhkcdehedbpcaaDoor
open Go Go.RowKit

def TkM (w : World) (r : Nat) (v : Value) (T : List ATok) : Prop := ∃ g c cur, v = .slice (some ⟨g, 0, none⟩) T.length c ∧ g ≠ r ∧ Blk w g cur 70 ∧ T.length ≤ 100000 ∧ (∀ i j, i < T.length → j < 4 → cur[i * 4 + j]? = (tkV (dtk T i))[j]?)

theorem TkM.kp {w w' : World} {r : Nat} {v : Value} {T : List ATok} (h : TkM w r v T) (k : Kp r w w') : TkM w' r v T := by
 obtain ⟨g, c, cur, e, h1, h2, h3⟩ := h
 exact ⟨g, c, cur, e, h1, h2.keep (k.block g h2.lt h1), h3⟩

structure RdM (w : World) (r : Nat) (T : List ATok) (o : Int) (s : DS) : Prop where
 b : ∃ vt q, Blk w r #[vt, .int .i64 s.i, .int .i64 q, .int .i64 s.e, .int .i64 s.p] 68 ∧ TkM w r vt T ∧ (s.e = 0 → q = o)
 i : s.i < T.length
 o : s.e = 0 → 0 ≤ o ∧ o ≤ 64
 n : EndT8 T

structure Rdx (w : World) (r g c : Nat) (q : Int) (T : List ATok) (o : Int) (s : DS) : Prop where
 b : Blk w r #[.slice (some ⟨g, 0, none⟩) T.length c, .int .i64 s.i, .int .i64 q, .int .i64 s.e, .int .i64 s.p] 68
 ne : g ≠ r
 gl : g < w.heap.size
 t : TkM w r (.slice (some ⟨g, 0, none⟩) T.length c) T
 q : s.e = 0 → q = o
 l : T.length ≤ 100000
 c0 : ∀ i, i < T.length → w.cell? ⟨g, i * 4, none⟩ = some (.int .i64 (dtk T i).1)
 c1 : ∀ i, i < T.length → w.cell? ⟨g, i * 4 + 1, none⟩ = some (.string (strOfNums (dtk T i).2.1))
 c2 : ∀ i, i < T.length → w.cell? ⟨g, i * 4 + 2, none⟩ = some (.int .i64 (dtk T i).2.2.1)
 c3 : ∀ i, i < T.length → w.cell? ⟨g, i * 4 + 3, none⟩ = some (.int .i64 (dtk T i).2.2.2)

theorem RdM.x {w : World} {r : Nat} {T : List ATok} {o : Int} {s : DS} (h : RdM w r T o s) : ∃ g c q, Rdx w r g c q T o s := by
 obtain ⟨vt, q, h1, h2, h3⟩ := h.b
 have h2' := h2
 obtain ⟨g, c, cur, rfl, h4, h5, h6, h7⟩ := h2
 refine ⟨g, c, q, h1, h4, h5.lt, h2', h3, h6, fun i hi => ?_, fun i hi => ?_, fun i hi => ?_, fun i hi => ?_⟩
 ·rw [h5.cell (i * 4), show i * 4 = i * 4 + 0 from rfl, h7 i 0 hi (by decide)]; rfl
 ·rw [h5.cell (i * 4 + 1), h7 i 1 hi (by decide)]; rfl
 ·rw [h5.cell (i * 4 + 2), h7 i 2 hi (by decide)]; rfl
 ·rw [h5.cell (i * 4 + 3), h7 i 3 hi (by decide)]; rfl

theorem RdM.kp {w w' : World} {r : Nat} {T : List ATok} {o : Int} {s : DS} (h : RdM w r T o s) (k : Kp r w w') {o' : Int} {s' : DS} {vt : Value} {q : Int} (hb : Blk w' r #[vt, .int .i64 s'.i, .int .i64 q, .int .i64 s'.e, .int .i64 s'.p] 68) (ht : TkM w r vt T) (hi : s'.i < T.length) (hq : s'.e = 0 → q = o' ∧ 0 ≤ o' ∧ o' ≤ 64) : RdM w' r T o' s' :=
 ⟨⟨vt, q, hb, ht.kp k, fun e => (hq e).1⟩, hi, fun e => (hq e).2, h.n⟩
theorem RdM.bw {w w' : World} {r : Nat} {T : List ATok} {o : Int} {s : DS} (h : RdM w r T o s) (hb : Bw w w') : RdM w' r T o s := by
 obtain ⟨vt, q, h1, h2, h3⟩ := h.b
 exact ⟨⟨vt, q, h1.bw hb, h2.kp (Kp.of_bw hb), h3⟩, h.i, h.o, h.n⟩
theorem RdM.lt {w : World} {r : Nat} {T : List ATok} {o : Int} {s : DS} (h : RdM w r T o s) : r < w.heap.size := by
 obtain ⟨vt, q, h1, h2, h3⟩ := h.b
 exact h1.lt

theorem str_dec (a b : ByteArray) : (a.toList == b.toList) = decide (a = b) := by
 by_cases h : a = b
 ·subst h; simp
 ·rw [decide_eq_false h]; exact str_ne h

section
variable {w w' : World} {r : Nat} {T : List ATok} {o : Int} {s : DS}

set_option maxRecDepth 100000 in
set_option maxHeartbeats 4000000 in
theorem dat_any (h : RdM w r T o s) : Calls Tryd.prog 41 #[.pointer (some ⟨r, 0, none⟩)] w fun e w' => e = .returned (.int .i64 (dAt T s)) ∧ Bw w w' := by
 obtain ⟨g, c, q, x⟩ := h.x
 have z := x.b.cell
 have zl := x.b.lt
 have gl := x.gl
 have c3 := x.c3 s.i h.i
 have l1 := x.l
 have hi1 : (0 : Int) ≤ (s.i : Int) := by omega
 have hi2 : (s.i : Int) < (T.length : Int) := by have := h.i; omega
 unfold dAt
 clear h x
 generalize dtk T s.i = t at c3 ⊢
 go_enter Tryd.func41, Tryd.ntmps41
 go_upto_region 1 with fail
 go_region
 all_goals go_wp2
 all_goals go_ret
 all_goals exact ⟨rfl, by repeat (first | exact Bw.refl _ | apply Bw.alloc | apply Bw.drewN | apply Bw.drew)⟩

end

end Go.Proofs.YtdhkcdehedbpcaaDoor

namespace Go.Proofs.YtdhkcdehedbpcaaDoor
open Go Go.RowKit

theorem key9 : Maps.Keyed Tryd.prog 9 := Maps.string_keyed Tryd.underlying9
theorem key_lit {s : ByteArray} (hs : s.size ≤ maxLen) : keyOf Tryd.prog 9 (.string s) = some (.string s.data.toList) := WideMaps.keyOf_string_mk Tryd.underlying9 hs
theorem int3 : Tryd.prog.underlying 3 = some (.int .i64) := by kernel_rfl
theorem is_key (s : ByteArray) : WideAt.IsKeyLit (.string s.data.toList) := by simp [WideAt.IsKeyLit]
theorem lit_ne {s u : ByteArray} (h : u ≠ s) : (Lit.string u.data.toList) ≠ .string s.data.toList := by
 intro e
 injection e with e
 apply h
 have : u.data = s.data := Array.toList_inj.1 e
 cases u; cases s
 simp_all

structure SmD (D : DataW Unit) (M : ByteArray → Option Int) : Prop where
 tidy : Maps.Tidy D
 has : ∀ s : ByteArray, Maps.has D (.string s.data.toList) = (M s).isSome
 at_ : ∀ (s : ByteArray) (x : Int), M s = some x → D.atKey (.string s.data.toList) (.lit (.int .i64 0)) = .lit (.int .i64 x)

def mput (M : ByteArray → Option Int) (s : ByteArray) (x : Int) : ByteArray → Option Int := fun u => if u = s then some x else M u
def mdel (M : ByteArray → Option Int) (s : ByteArray) : ByteArray → Option Int := fun u => if u = s then none else M u

theorem SmD.nil : SmD (.map []) (fun _ => none) := ⟨Maps.tidy_empty, fun s => by simp [Maps.has], fun s x h => by cases h⟩
theorem SmD.put {D : DataW Unit} {M : ByteArray → Option Int} (h : SmD D M) (s : ByteArray) (x : Int) : SmD (D.put (.string s.data.toList) (.lit (.int .i64 x))) (mput M s x) where
 tidy := h.tidy.put (is_key s) _
 has := fun u => by
  unfold mput
  by_cases hu : u = s
  ·subst hu
   rw [Maps.has_put_same h.tidy.isMap (is_key u), if_pos rfl]; rfl
  ·rw [Maps.has_put_other (lit_ne hu), h.has u, if_neg hu]
 at_ := fun u y hy => by
  unfold mput at hy
  by_cases hu : u = s
  ·subst hu
   rw [if_pos rfl] at hy
   cases hy
   rw [Maps.atKey_put_same h.tidy.isMap (is_key u)]
  ·rw [if_neg hu] at hy
   rw [Maps.atKey_put_other (lit_ne hu)]
   exact h.at_ u y hy
theorem SmD.del {D : DataW Unit} {M : ByteArray → Option Int} (h : SmD D M) (s : ByteArray) : SmD (D.del (.string s.data.toList)) (mdel M s) where
 tidy := h.tidy.del _
 has := fun u => by
  unfold mdel
  by_cases hu : u = s
  ·subst hu
   rw [Maps.has_del_same, if_pos rfl]; rfl
  ·rw [Maps.has_del_other (lit_ne hu), h.has u, if_neg hu]
 at_ := fun u y hy => by
  unfold mdel at hy
  by_cases hu : u = s
  ·subst hu
   rw [if_pos rfl] at hy
   cases hy
  ·rw [if_neg hu] at hy
   rw [Maps.atKey_del_other (lit_ne hu)]
   exact h.at_ u y hy

def MS (w : World) (b : Nat) (M : ByteArray → Option Int) (n : Nat) : Prop := ∃ D, w.ownsMap Tryd.prog 9 (plainElem (H := Unit) Tryd.prog 3) b n D ∧ SmD D M

theorem MS.lt {w : World} {b n : Nat} {M : ByteArray → Option Int} (h : MS w b M n) : b < w.heap.size := by
 obtain ⟨D, h1, _⟩ := h
 exact h1.lt
theorem MS.mono {w : World} {b n m : Nat} {M : ByteArray → Option Int} (h : MS w b M n) (e : n ≤ m) : MS w b M m := by
 obtain ⟨D, h1, h2⟩ := h
 exact ⟨D, h1.mono e, h2⟩
theorem MS.keep {w w' : World} {b n : Nat} {M : ByteArray → Option Int} (h : MS w b M n) (hb : w'.heap[b]? = w.heap[b]?) : MS w' b M n := by
 obtain ⟨D, h1, h2⟩ := h
 obtain ⟨es, clock, hm, r⟩ := h1
 exact ⟨D, ⟨es, clock, hb.trans hm, r⟩, h2⟩
theorem MS.new (w : World) : MS (w.alloc (.map #[] 0)) w.heap.size (fun _ => none) 0 := ⟨.map [], World.ownsMap_made w _ _ _, SmD.nil⟩

end Go.Proofs.YtdhkcdehedbpcaaDoor

namespace Go.Proofs.YtdhkcdehedbpcaaDoor
open Go Go.RowKit

def prs : List ByteArray := [⟨#[112, 114, 105, 110, 116]⟩, ⟨#[108, 101, 110]⟩, ⟨#[112, 117, 115, 104]⟩, ⟨#[112, 111, 112]⟩, ⟨#[107, 101, 121, 115]⟩, ⟨#[104, 97, 115]⟩, ⟨#[103, 101, 116]⟩, ⟨#[112, 117, 116]⟩, ⟨#[115, 97, 109, 101]⟩, ⟨#[116, 101, 120, 116]⟩, ⟨#[99, 120]⟩, ⟨#[114, 101]⟩, ⟨#[105, 109]⟩, ⟨#[107, 105, 110, 100]⟩, ⟨#[121, 105, 101, 108, 100]⟩, ⟨#[115, 108, 101, 101, 112]⟩, ⟨#[110, 111, 119]⟩, ⟨#[114, 97, 110, 100]⟩, ⟨#[106, 111, 105, 110]⟩, ⟨#[98, 111, 120]⟩, ⟨#[115, 101, 110, 100]⟩, ⟨#[114, 101, 99, 118]⟩, ⟨#[109, 111, 110, 105, 116, 111, 114]⟩, ⟨#[108, 111, 99, 107]⟩, ⟨#[117, 110, 108, 111, 99, 107]⟩, ⟨#[119, 97, 105, 116]⟩, ⟨#[119, 97, 105, 116, 102, 111, 114]⟩, ⟨#[110, 111, 116, 105, 102, 121]⟩, ⟨#[110, 111, 116, 105, 102, 121, 97, 108, 108]⟩, ⟨#[115, 101, 108, 102]⟩]
def prL : List Value := prs.map Value.string
def prV : Array Value := prL.toArray
def primF (s : ByteArray) : Option Nat := prs.findIdx? fun t => decide (t = s)

def PrM (w : World) : Prop := 0 < w.heap.size ∧ ∀ i s, prs[i]? = some s → w.cell? ⟨0, i, none⟩ = some (.string s)
theorem PrM.bw {w w' : World} (h : PrM w) (hb : Bw w w') : PrM w' := by
 refine ⟨Nat.lt_of_lt_of_le h.1 hb.size, fun i s hs => ?_⟩
 rw [← h.2 i s hs]
 exact World.cell?_of_block (w := w) (w' := w') (a := ⟨0, i, none⟩) (hb.block 0 h.1)
theorem PrM.range {w : World} (h : PrM w) : w.rangeAt 0 0 prL := by
 intro j v hv
 unfold prL at hv
 rw [List.getElem?_map] at hv
 obtain ⟨s, hs, rfl⟩ := Option.map_eq_some_iff.1 hv
 rw [Nat.zero_add]
 exact h.2 j s hs

def primN (s : ByteArray) : Int := match primF s with | some n => (n : Int) | none => -1
theorem primN_some {s : ByteArray} {n : Nat} (h : primF s = some n) : primN s = n := by unfold primN; rw [h]
theorem primN_none {s : ByteArray} (h : primF s = none) : primN s = -1 := by unfold primN; rw [h]

theorem pr_get {i : Nat} (h : i < 30) : ∃ s, prs[i]? = some s ∧ prV[i]? = some (.string s) := by
 have h' : i < prs.length := h
 refine ⟨prs[i], List.getElem?_eq_getElem h', ?_⟩
 unfold prV prL
 rw [List.getElem?_toArray, List.getElem?_map, List.getElem?_eq_getElem h']
 rfl

theorem pr_index : ∀ (i : Nat), i < 30 → ∀ w : World, (Instr.index 97 (.agg prV) (.int .i64 (i : Nat))).run Tryd.prog w = .ok (prV.getD i undef) w
 | 0, _ => fun _ => by kernel_rfl
 | 1, _ => fun _ => by kernel_rfl
 | 2, _ => fun _ => by kernel_rfl
 | 3, _ => fun _ => by kernel_rfl
 | 4, _ => fun _ => by kernel_rfl
 | 5, _ => fun _ => by kernel_rfl
 | 6, _ => fun _ => by kernel_rfl
 | 7, _ => fun _ => by kernel_rfl
 | 8, _ => fun _ => by kernel_rfl
 | 9, _ => fun _ => by kernel_rfl
 | 10, _ => fun _ => by kernel_rfl
 | 11, _ => fun _ => by kernel_rfl
 | 12, _ => fun _ => by kernel_rfl
 | 13, _ => fun _ => by kernel_rfl
 | 14, _ => fun _ => by kernel_rfl
 | 15, _ => fun _ => by kernel_rfl
 | 16, _ => fun _ => by kernel_rfl
 | 17, _ => fun _ => by kernel_rfl
 | 18, _ => fun _ => by kernel_rfl
 | 19, _ => fun _ => by kernel_rfl
 | 20, _ => fun _ => by kernel_rfl
 | 21, _ => fun _ => by kernel_rfl
 | 22, _ => fun _ => by kernel_rfl
 | 23, _ => fun _ => by kernel_rfl
 | 24, _ => fun _ => by kernel_rfl
 | 25, _ => fun _ => by kernel_rfl
 | 26, _ => fun _ => by kernel_rfl
 | 27, _ => fun _ => by kernel_rfl
 | 28, _ => fun _ => by kernel_rfl
 | 29, _ => fun _ => by kernel_rfl
 | i + 30, h => by omega

theorem primF_hit {s : ByteArray} {i : Nat} (h : prs[i]? = some s) (hn : ∀ j, j < i → ∀ t, prs[j]? = some t → t ≠ s) : primF s = some i := by
 unfold primF
 rw [List.findIdx?_eq_some_iff_getElem]
 obtain ⟨hi, e⟩ := List.getElem?_eq_some_iff.1 h
 refine ⟨hi, by simpa using e, fun j hj => ?_⟩
 have := hn j hj _ (List.getElem?_eq_getElem (by omega))
 simpa using this
theorem primF_miss {s : ByteArray} (hn : ∀ j, j < 30 → ∀ t, prs[j]? = some t → t ≠ s) : primF s = none := by
 unfold primF
 rw [List.findIdx?_eq_none_iff]
 intro t ht
 obtain ⟨j, hj, e⟩ := List.mem_iff_getElem.1 ht
 have := hn j hj t (by rw [List.getElem?_eq_getElem hj, e])
 simpa using this

section
variable {w : World}

set_option maxRecDepth 100000 in
set_option maxHeartbeats 4000000 in
theorem prim_any (h : PrM w) (s : ByteArray) : Calls Tryd.prog 19 #[.string s] w fun e w' => e = .returned (.tuple #[.int .i64 ((primF s).getD 0 : Nat), .bool (primF s).isSome]) ∧ Bw w w' := by
 have H := hid h
 clear h
 go_enter Tryd.func19, Tryd.ntmps19
 go_wp2_with (refine wpList_load_mid rfl 97 _ rfl 0 0 rfl prL _ H.out.range Tryd.underlying97 rfl (by kernel_rfl) ?_)
 go_loopw [7] (fun j wr => ∃ i : Nat, i ≤ 30 ∧ j = .int .i64 (i : Nat) ∧ wr = w ∧ ∀ k, k < i → ∀ t, prs[k]? = some t → t ≠ s) (fun j _ => 30 - (intOf j).toNat)
 case atStart => exact ⟨0, Nat.zero_le _, rfl, rfl, fun k hk => by omega⟩
 case round =>
  obtain ⟨i, hi, rfl, hwr, ha⟩ := hrel
  subst wr
  have HA := hid ha
  clear ha
  by_cases hlt : i < 30
  ·obtain ⟨u, hu1, hu2⟩ := pr_get hlt
   have hlt2 : (i : Int) < 30 := by omega
   have hix : ∀ w : World, (Instr.index 97 (.agg prL.toArray) (.int .i64 (i : Nat))).run Tryd.prog w = .ok (.string u) w := by
    intro w
    rw [show prL.toArray = prV from rfl, pr_index i hlt]
    simp [Array.getD_eq_getD_getElem?, hu2]
   have hu := hid hu1
   clear hu2
   by_cases hus : u = s
   ·subst hus
    have hf : primF u = some i := primF_hit hu1 HA.out
    have HF := hid hf
    clear hf hu1
    go_wp2
    all_goals go_ret2
    all_goals exact ⟨by rw [HF.out]; rfl, Bw.refl _⟩
   ·have hq : (u.toList == s.toList) = false := by rw [str_dec, decide_eq_false hus]
    have hw1 : i + 1 ≤ 30 := hlt
    have HN := hid (show ∀ k, k < i + 1 → ∀ t, prs[k]? = some t → t ≠ s from fun k hk t ht => by
     by_cases hki : k < i
     ·exact HA.out k hki t ht
     ·obtain rfl : k = i := by omega
      rw [hu1] at ht
      cases ht
      exact hus)
    clear hu1 hus
    go_wp2
    go_roundw
    case rel => exact ⟨i + 1, hw1, by go_num, (by first | trivial | rfl), HN.out⟩
    case measure => simp [intOf]; omega
  ·have hf : primF s = none := primF_miss fun k hk => HA.out k (by omega)
   obtain rfl : i = 30 := by omega
   have HF := hid hf
   clear hf
   go_wp2
   all_goals go_ret2
   all_goals exact ⟨by rw [HF.out]; rfl, Bw.refl _⟩

set_option maxRecDepth 100000 in
set_option maxHeartbeats 4000000 in
theorem rNames_any (w : World) : Calls Tryd.prog 30 #[] w fun e w' => e = .returned (.slice (some ⟨w.heap.size, 0, none⟩) 30 30) ∧ w' = w.alloc (.cells prV 9) := by
 go_enter Tryd.func30, Tryd.ntmps30
 go_wp2
 all_goals go_ret
 all_goals exact ⟨rfl, rfl⟩

set_option maxRecDepth 100000 in
set_option maxHeartbeats 4000000 in
theorem rPrim_any (w : World) (s : ByteArray) : Calls Tryd.prog 15 #[.string s] w fun e w' => e = .returned (.int .i64 (primN s)) ∧ Bw w w' := by
 go_enter Tryd.func15, Tryd.ntmps15
 go_wp2_with (first
  | (go_at_call 30; refine (rNames_any _).mono ?_; rintro e w1 ⟨rfl, rfl⟩)
  | fail)
 have hsz : (w.alloc (.cells prV 9)).heap.size = w.heap.size + 1 := by simp
 go_loopw [4] (fun j wr => ∃ i : Nat, i ≤ 30 ∧ j = .int .i64 (i : Nat) ∧ wr = w.alloc (.cells prV 9) ∧ ∀ k, k < i → ∀ t, prs[k]? = some t → t ≠ s) (fun j _ => 30 - (intOf j).toNat)
 case atStart => exact ⟨0, Nat.zero_le _, rfl, rfl, fun k hk => by omega⟩
 case round =>
  obtain ⟨i, hi, rfl, hwr, ha⟩ := hrel
  subst wr
  have HA := hid ha
  clear ha
  by_cases hlt : i < 30
  ·obtain ⟨u, hu1, hu2⟩ := pr_get hlt
   have hlt2 : (i : Int) < 30 := by omega
   have hc : (w.alloc (.cells prV 9)).cell? ⟨w.heap.size, i, none⟩ = some (.string u) := by
    rw [World.cell?_alloc_mark]; exact hu2
   clear hu2
   by_cases hus : u = s
   ·subst hus
    have hf : primF u = some i := primF_hit hu1 HA.out
    have HF := hid (primN_some hf)
    clear hf hu1
    go_wp2
    all_goals go_ret
    all_goals exact ⟨(by rw [HF.out]; rfl), by repeat (first | exact Bw.refl _ | apply Bw.alloc | apply Bw.drewN | apply Bw.drew)⟩
   ·have hq : (u.toList == s.toList) = false := by rw [str_dec, decide_eq_false hus]
    have hw1 : i + 1 ≤ 30 := hlt
    have HN := hid (show ∀ k, k < i + 1 → ∀ t, prs[k]? = some t → t ≠ s from fun k hk t ht => by
     by_cases hki : k < i
     ·exact HA.out k hki t ht
     ·obtain rfl : k = i := by omega
      rw [hu1] at ht
      cases ht
      exact hus)
    clear hu1 hus
    go_wp2
    go_roundw
    case rel => exact ⟨i + 1, hw1, by go_num, (by first | trivial | rfl), HN.out⟩
    case measure => simp [intOf]; omega
  ·have hf : primF s = none := primF_miss fun k hk => HA.out k (by omega)
   obtain rfl : i = 30 := by omega
   have HF := hid (primN_none hf)
   clear hf
   go_wp2
   all_goals go_ret
   all_goals exact ⟨(by rw [HF.out]; rfl), by repeat (first | exact Bw.refl _ | apply Bw.alloc | apply Bw.drewN | apply Bw.drew)⟩
end

end Go.Proofs.YtdhkcdehedbpcaaDoor

