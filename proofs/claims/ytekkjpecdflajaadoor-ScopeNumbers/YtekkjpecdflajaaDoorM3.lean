/- A map from strings to ints in memory, as a function. Nothing of the program's functions is in it. · The primitives' names: the program's table, Prim, PrimName; the document's. · The resolver as plain data: what it makes of a program, step by step; none: more steps are wanted, or a number is beyond what is reckoned with. Nothing of the program's functions is in it. -/
import Derived.Test.YtekkjpecdflajaaDoorM2
import Derived.Maps.OwnSet
import Derived.Maps.Own
import Derived.Deep.MidRow
set_option linter.unusedSimpArgs false
set_option linter.unusedVariables false
namespace Go.Proofs.YtekkjpecdflajaaDoor
open Go Go.RowKit

theorem key9 : Maps.Keyed Tryd.prog 9 := Maps.string_keyed Tryd.underlying9
theorem key_lit {s : ByteArray} (hs : s.size ≤ maxLen) : keyOf Tryd.prog 9 (.string s) = some (.string s.data.toList) := WideMaps.keyOf_string_mk Tryd.underlying9 hs
theorem int3 : Tryd.prog.underlying 3 = some (.int .i64) := by kernel_rfl
theorem is_key (s : ByteArray) : WideAt.IsKeyLit (.string s.data.toList) := by simp [WideAt.IsKeyLit]
theorem lit_ne {s u : ByteArray} (h : u ≠ s) : (Lit.string u.data.toList) ≠ .string s.data.toList := by
  intro e
  injection e with e
  apply h
  have : u.data = s.data := Array.toList_inj.1 e
  cases u; cases s
  simp_all

/-- The datum of such a map. -/
structure SmD (D : DataW Unit) (M : ByteArray → Option Int) : Prop where
  tidy : Maps.Tidy D
  has : ∀ s : ByteArray, Maps.has D (.string s.data.toList) = (M s).isSome
  at_ : ∀ (s : ByteArray) (x : Int), M s = some x → D.atKey (.string s.data.toList) (.lit (.int .i64 0)) = .lit (.int .i64 x)

def mput (M : ByteArray → Option Int) (s : ByteArray) (x : Int) : ByteArray → Option Int := fun u => if u = s then some x else M u
def mdel (M : ByteArray → Option Int) (s : ByteArray) : ByteArray → Option Int := fun u => if u = s then none else M u

theorem SmD.nil : SmD (.map []) (fun _ => none) := ⟨Maps.tidy_empty, fun s => by simp [Maps.has], fun s x h => by cases h⟩
theorem SmD.put {D : DataW Unit} {M : ByteArray → Option Int} (h : SmD D M) (s : ByteArray) (x : Int) : SmD (D.put (.string s.data.toList) (.lit (.int .i64 x))) (mput M s x) where
  tidy := h.tidy.put (is_key s) _
  has := fun u => by
    unfold mput
    by_cases hu : u = s
    · subst hu
      rw [Maps.has_put_same h.tidy.isMap (is_key u), if_pos rfl]; rfl
    · rw [Maps.has_put_other (lit_ne hu), h.has u, if_neg hu]
  at_ := fun u y hy => by
    unfold mput at hy
    by_cases hu : u = s
    · subst hu
      rw [if_pos rfl] at hy
      cases hy
      rw [Maps.atKey_put_same h.tidy.isMap (is_key u)]
    · rw [if_neg hu] at hy
      rw [Maps.atKey_put_other (lit_ne hu)]
      exact h.at_ u y hy
theorem SmD.del {D : DataW Unit} {M : ByteArray → Option Int} (h : SmD D M) (s : ByteArray) : SmD (D.del (.string s.data.toList)) (mdel M s) where
  tidy := h.tidy.del _
  has := fun u => by
    unfold mdel
    by_cases hu : u = s
    · subst hu
      rw [Maps.has_del_same, if_pos rfl]; rfl
    · rw [Maps.has_del_other (lit_ne hu), h.has u, if_neg hu]
  at_ := fun u y hy => by
    unfold mdel at hy
    by_cases hu : u = s
    · subst hu
      rw [if_pos rfl] at hy
      cases hy
    · rw [if_neg hu] at hy
      rw [Maps.atKey_del_other (lit_ne hu)]
      exact h.at_ u y hy

/-- The block b is such a map, of no more than n keys. -/
def MS (w : World) (b : Nat) (M : ByteArray → Option Int) (n : Nat) : Prop := ∃ D, w.ownsMap Tryd.prog 9 (plainElem (H := Unit) Tryd.prog 3) b n D ∧ SmD D M

theorem MS.lt {w : World} {b n : Nat} {M : ByteArray → Option Int} (h : MS w b M n) : b < w.heap.size := by
  obtain ⟨D, h1, _⟩ := h
  exact h1.lt
theorem MS.mono {w : World} {b n m : Nat} {M : ByteArray → Option Int} (h : MS w b M n) (e : n ≤ m) : MS w b M m := by
  obtain ⟨D, h1, h2⟩ := h
  exact ⟨D, h1.mono e, h2⟩
theorem MS.keep {w w' : World} {b n : Nat} {M : ByteArray → Option Int} (h : MS w b M n) (hb : w'.heap[b]? = w.heap[b]?) : MS w' b M n := by
  obtain ⟨D, h1, h2⟩ := h
  obtain ⟨es, clock, hm, r⟩ := h1
  exact ⟨D, ⟨es, clock, hb.trans hm, r⟩, h2⟩
theorem MS.new (w : World) : MS (w.alloc (.map #[] 0)) w.heap.size (fun _ => none) 0 := ⟨.map [], World.ownsMap_made w _ _ _, SmD.nil⟩

end Go.Proofs.YtekkjpecdflajaaDoor

set_option linter.unusedSimpArgs false
set_option linter.unusedVariables false
namespace Go.Proofs.YtekkjpecdflajaaDoor
open Go Go.RowKit

def prs : List ByteArray := [⟨#[112, 114, 105, 110, 116]⟩, ⟨#[108, 101, 110]⟩, ⟨#[112, 117, 115, 104]⟩, ⟨#[112, 111, 112]⟩, ⟨#[107, 101, 121, 115]⟩, ⟨#[104, 97, 115]⟩, ⟨#[103, 101, 116]⟩, ⟨#[112, 117, 116]⟩, ⟨#[115, 97, 109, 101]⟩, ⟨#[116, 101, 120, 116]⟩, ⟨#[99, 120]⟩, ⟨#[114, 101]⟩, ⟨#[105, 109]⟩, ⟨#[107, 105, 110, 100]⟩, ⟨#[121, 105, 101, 108, 100]⟩, ⟨#[115, 108, 101, 101, 112]⟩, ⟨#[110, 111, 119]⟩, ⟨#[114, 97, 110, 100]⟩, ⟨#[106, 111, 105, 110]⟩, ⟨#[98, 111, 120]⟩, ⟨#[115, 101, 110, 100]⟩, ⟨#[114, 101, 99, 118]⟩, ⟨#[109, 111, 110, 105, 116, 111, 114]⟩, ⟨#[108, 111, 99, 107]⟩, ⟨#[117, 110, 108, 111, 99, 107]⟩, ⟨#[119, 97, 105, 116]⟩, ⟨#[119, 97, 105, 116, 102, 111, 114]⟩, ⟨#[110, 111, 116, 105, 102, 121]⟩, ⟨#[110, 111, 116, 105, 102, 121, 97, 108, 108]⟩, ⟨#[115, 101, 108, 102]⟩]
def prL : List Value := prs.map Value.string
def prV : Array Value := prL.toArray
/-- A primitive's number: of what is a name. -/
def primF (s : ByteArray) : Option Nat := prs.findIdx? fun t => decide (t = s)

/-- The program's table in memory. -/
def PrM (w : World) : Prop := 0 < w.heap.size ∧ ∀ i s, prs[i]? = some s → w.cell? ⟨0, i, none⟩ = some (.string s)
theorem PrM.bw {w w' : World} (h : PrM w) (hb : Bw w w') : PrM w' := by
  refine ⟨Nat.lt_of_lt_of_le h.1 hb.size, fun i s hs => ?_⟩
  rw [← h.2 i s hs]
  exact World.cell?_of_block (w := w) (w' := w') (a := ⟨0, i, none⟩) (hb.block 0 h.1)
theorem PrM.range {w : World} (h : PrM w) : w.rangeAt 0 0 prL := by
  intro j v hv
  unfold prL at hv
  rw [List.getElem?_map] at hv
  obtain ⟨s, hs, rfl⟩ := Option.map_eq_some_iff.1 hv
  rw [Nat.zero_add]
  exact h.2 j s hs

/-- A primitive's number; -1: it is none. -/
def primN (s : ByteArray) : Int := match primF s with | some n => (n : Int) | none => -1
theorem primN_some {s : ByteArray} {n : Nat} (h : primF s = some n) : primN s = n := by unfold primN; rw [h]
theorem primN_none {s : ByteArray} (h : primF s = none) : primN s = -1 := by unfold primN; rw [h]

theorem pr_get {i : Nat} (h : i < 30) : ∃ s, prs[i]? = some s ∧ prV[i]? = some (.string s) := by
  have h' : i < prs.length := h
  refine ⟨prs[i], List.getElem?_eq_getElem h', ?_⟩
  unfold prV prL
  rw [List.getElem?_toArray, List.getElem?_map, List.getElem?_eq_getElem h']
  rfl

theorem pr_index : ∀ (i : Nat), i < 30 → ∀ w : World, (Instr.index 31 (.agg prV) (.int .i64 (i : Nat))).run Tryd.prog w = .ok (prV.getD i undef) w
  | 0, _ => fun _ => by kernel_rfl
  | 1, _ => fun _ => by kernel_rfl
  | 2, _ => fun _ => by kernel_rfl
  | 3, _ => fun _ => by kernel_rfl
  | 4, _ => fun _ => by kernel_rfl
  | 5, _ => fun _ => by kernel_rfl
  | 6, _ => fun _ => by kernel_rfl
  | 7, _ => fun _ => by kernel_rfl
  | 8, _ => fun _ => by kernel_rfl
  | 9, _ => fun _ => by kernel_rfl
  | 10, _ => fun _ => by kernel_rfl
  | 11, _ => fun _ => by kernel_rfl
  | 12, _ => fun _ => by kernel_rfl
  | 13, _ => fun _ => by kernel_rfl
  | 14, _ => fun _ => by kernel_rfl
  | 15, _ => fun _ => by kernel_rfl
  | 16, _ => fun _ => by kernel_rfl
  | 17, _ => fun _ => by kernel_rfl
  | 18, _ => fun _ => by kernel_rfl
  | 19, _ => fun _ => by kernel_rfl
  | 20, _ => fun _ => by kernel_rfl
  | 21, _ => fun _ => by kernel_rfl
  | 22, _ => fun _ => by kernel_rfl
  | 23, _ => fun _ => by kernel_rfl
  | 24, _ => fun _ => by kernel_rfl
  | 25, _ => fun _ => by kernel_rfl
  | 26, _ => fun _ => by kernel_rfl
  | 27, _ => fun _ => by kernel_rfl
  | 28, _ => fun _ => by kernel_rfl
  | 29, _ => fun _ => by kernel_rfl
  | i + 30, h => by omega

theorem primF_hit {s : ByteArray} {i : Nat} (h : prs[i]? = some s) (hn : ∀ j, j < i → ∀ t, prs[j]? = some t → t ≠ s) : primF s = some i := by
  unfold primF
  rw [List.findIdx?_eq_some_iff_getElem]
  obtain ⟨hi, e⟩ := List.getElem?_eq_some_iff.1 h
  refine ⟨hi, by simpa using e, fun j hj => ?_⟩
  have := hn j hj _ (List.getElem?_eq_getElem (by omega))
  simpa using this
theorem primF_miss {s : ByteArray} (hn : ∀ j, j < 30 → ∀ t, prs[j]? = some t → t ≠ s) : primF s = none := by
  unfold primF
  rw [List.findIdx?_eq_none_iff]
  intro t ht
  obtain ⟨j, hj, e⟩ := List.mem_iff_getElem.1 ht
  have := hn j hj t (by rw [List.getElem?_eq_getElem hj, e])
  simpa using this

section
variable {w : World}

set_option maxRecDepth 100000 in
set_option maxHeartbeats 4000000 in
theorem prim_any (h : PrM w) (s : ByteArray) : Calls Tryd.prog 5 #[.string s] w fun e w' => e = .returned (.tuple #[.int .i64 ((primF s).getD 0 : Nat), .bool (primF s).isSome]) ∧ Bw w w' := by
  have H := hid h
  clear h
  go_enter Tryd.func5, Tryd.ntmps5
  go_wp2_with (refine wpList_load_mid rfl 31 _ rfl 0 0 rfl prL _ H.out.range Tryd.underlying31 rfl (by kernel_rfl) ?_)
  go_loopw [7] (fun j wr => ∃ i : Nat, i ≤ 30 ∧ j = .int .i64 (i : Nat) ∧ wr = w ∧ ∀ k, k < i → ∀ t, prs[k]? = some t → t ≠ s) (fun j _ => 30 - (intOf j).toNat)
  case atStart => exact ⟨0, Nat.zero_le _, rfl, rfl, fun k hk => by omega⟩
  case round =>
    obtain ⟨i, hi, rfl, hwr, ha⟩ := hrel
    subst wr
    have HA := hid ha
    clear ha
    by_cases hlt : i < 30
    · obtain ⟨u, hu1, hu2⟩ := pr_get hlt
      have hlt2 : (i : Int) < 30 := by omega
      have hix : ∀ w : World, (Instr.index 31 (.agg prL.toArray) (.int .i64 (i : Nat))).run Tryd.prog w = .ok (.string u) w := by
        intro w
        rw [show prL.toArray = prV from rfl, pr_index i hlt]
        simp [Array.getD_eq_getD_getElem?, hu2]
      have hu := hid hu1
      clear hu2
      by_cases hus : u = s
      · subst hus
        have hf : primF u = some i := primF_hit hu1 HA.out
        have HF := hid hf
        clear hf hu1
        go_wp2
        all_goals go_ret2
        all_goals exact ⟨by rw [HF.out]; rfl, Bw.refl _⟩
      · have hq : (u.toList == s.toList) = false := by rw [str_dec, decide_eq_false hus]
        have hw1 : i + 1 ≤ 30 := hlt
        have HN := hid (show ∀ k, k < i + 1 → ∀ t, prs[k]? = some t → t ≠ s from fun k hk t ht => by
          by_cases hki : k < i
          · exact HA.out k hki t ht
          · obtain rfl : k = i := by omega
            rw [hu1] at ht
            cases ht
            exact hus)
        clear hu1 hus
        go_wp2
        go_roundw
        case rel => exact ⟨i + 1, hw1, by go_num, (by first | trivial | rfl), HN.out⟩
        case measure => simp [intOf]; omega
    · have hf : primF s = none := primF_miss fun k hk => HA.out k (by omega)
      obtain rfl : i = 30 := by omega
      have HF := hid hf
      clear hf
      go_wp2
      all_goals go_ret2
      all_goals exact ⟨by rw [HF.out]; rfl, Bw.refl _⟩

set_option maxRecDepth 100000 in
set_option maxHeartbeats 4000000 in
theorem primName_any (h : PrM w) (i : Int) : Calls Tryd.prog 8 #[.int .i64 i] w fun e w' => e = .returned (.string (if 0 ≤ i ∧ i < 30 then prs.getD i.toNat ⟨#[]⟩ else ⟨#[]⟩)) ∧ Bw w w' := by
  by_cases h0 : 0 ≤ i ∧ i < 30
  · obtain ⟨n, rfl⟩ : ∃ n : Nat, i = n := ⟨i.toNat, by omega⟩
    have hlt : n < 30 := by omega
    obtain ⟨u, hu1, hu2⟩ := pr_get hlt
    have hc : w.cell? ⟨0, n, none⟩ = some (.string u) := h.2 n u hu1
    have HF := hid (show (if (0 : Int) ≤ (n : Int) ∧ (n : Int) < 30 then prs.getD (n : Int).toNat ⟨#[]⟩ else ⟨#[]⟩) = u by rw [if_pos h0, Int.toNat_natCast, List.getD_eq_getElem?_getD, hu1]; rfl)
    have hz : 0 < w.heap.size := h.1
    have h1 : (n : Int) < 30 := h0.2
    have h2 : ¬ ((30 : Int) ≤ (n : Int)) := by omega
    have h3 : ¬ ((n : Int) < 0) := by omega
    clear hu1 hu2 h
    generalize (if (0 : Int) ≤ (n : Int) ∧ (n : Int) < 30 then prs.getD (n : Int).toNat ⟨#[]⟩ else ⟨#[]⟩) = z at HF ⊢
    go_enter Tryd.func8, Tryd.ntmps8
    go_wp2
    all_goals go_ret
    all_goals exact ⟨(by rw [HF.out]; rfl), by repeat (first | exact Bw.refl _ | apply Bw.alloc | apply Bw.drewN | apply Bw.drew)⟩
  · rw [if_neg h0]
    have hcase : i < 0 ∨ (30 ≤ i ∧ ¬ i < 0) := by omega
    clear h h0
    go_enter Tryd.func8, Tryd.ntmps8
    rcases hcase with h1 | ⟨h1, h2⟩
    · go_wp2
      all_goals go_ret
      all_goals exact ⟨rfl, by repeat (first | exact Bw.refl _ | apply Bw.alloc | apply Bw.drewN | apply Bw.drew)⟩
    · go_wp2
      all_goals go_ret
      all_goals exact ⟨rfl, by repeat (first | exact Bw.refl _ | apply Bw.alloc | apply Bw.drewN | apply Bw.drew)⟩

set_option maxRecDepth 100000 in
set_option maxHeartbeats 4000000 in
theorem rNames_any (w : World) : Calls Tryd.prog 7 #[] w fun e w' => e = .returned (.slice (some ⟨w.heap.size, 0, none⟩) 30 30) ∧ w' = w.alloc (.cells prV 9) := by
  go_enter Tryd.func7, Tryd.ntmps7
  go_wp2
  all_goals go_ret
  all_goals exact ⟨rfl, rfl⟩

set_option maxRecDepth 100000 in
set_option maxHeartbeats 4000000 in
theorem rPrim_any (w : World) (s : ByteArray) : Calls Tryd.prog 6 #[.string s] w fun e w' => e = .returned (.int .i64 (primN s)) ∧ Bw w w' := by
  go_enter Tryd.func6, Tryd.ntmps6
  go_wp2_with (first
    | (go_at_call 7; refine (rNames_any _).mono ?_; rintro e w1 ⟨rfl, rfl⟩)
    | fail)
  have hsz : (w.alloc (.cells prV 9)).heap.size = w.heap.size + 1 := by simp
  go_loopw [4] (fun j wr => ∃ i : Nat, i ≤ 30 ∧ j = .int .i64 (i : Nat) ∧ wr = w.alloc (.cells prV 9) ∧ ∀ k, k < i → ∀ t, prs[k]? = some t → t ≠ s) (fun j _ => 30 - (intOf j).toNat)
  case atStart => exact ⟨0, Nat.zero_le _, rfl, rfl, fun k hk => by omega⟩
  case round =>
    obtain ⟨i, hi, rfl, hwr, ha⟩ := hrel
    subst wr
    have HA := hid ha
    clear ha
    by_cases hlt : i < 30
    · obtain ⟨u, hu1, hu2⟩ := pr_get hlt
      have hlt2 : (i : Int) < 30 := by omega
      have hc : (w.alloc (.cells prV 9)).cell? ⟨w.heap.size, i, none⟩ = some (.string u) := by
        rw [World.cell?_alloc_mark]; exact hu2
      clear hu2
      by_cases hus : u = s
      · subst hus
        have hf : primF u = some i := primF_hit hu1 HA.out
        have HF := hid (primN_some hf)
        clear hf hu1
        go_wp2
        all_goals go_ret
        all_goals exact ⟨(by rw [HF.out]; rfl), by repeat (first | exact Bw.refl _ | apply Bw.alloc | apply Bw.drewN | apply Bw.drew)⟩
      · have hq : (u.toList == s.toList) = false := by rw [str_dec, decide_eq_false hus]
        have hw1 : i + 1 ≤ 30 := hlt
        have HN := hid (show ∀ k, k < i + 1 → ∀ t, prs[k]? = some t → t ≠ s from fun k hk t ht => by
          by_cases hki : k < i
          · exact HA.out k hki t ht
          · obtain rfl : k = i := by omega
            rw [hu1] at ht
            cases ht
            exact hus)
        clear hu1 hus
        go_wp2
        go_roundw
        case rel => exact ⟨i + 1, hw1, by go_num, (by first | trivial | rfl), HN.out⟩
        case measure => simp [intOf]; omega
    · have hf : primF s = none := primF_miss fun k hk => HA.out k (by omega)
      obtain rfl : i = 30 := by omega
      have HF := hid (primN_none hf)
      clear hf
      go_wp2
      all_goals go_ret
      all_goals exact ⟨(by rw [HF.out]; rfl), by repeat (first | exact Bw.refl _ | apply Bw.alloc | apply Bw.drewN | apply Bw.drew)⟩
end

end Go.Proofs.YtekkjpecdflajaaDoor

set_option linter.unusedSimpArgs false
set_option linter.unusedVariables false
namespace Go.Proofs.YtekkjpecdflajaaDoor
open Go Go.RowKit

/-- A function: its node, parameters, slots, what it takes, the function about it, places of declarations in what it takes. -/
structure ZF where
  node : Int
  params : Int
  slots : Int
  caps : List (Int × Int)
  about : Nat
  cm : Int → Option Int
deriving Inhabited
/-- A declaration: its function, slot, whether some function takes it. -/
structure ZD where
  fn : Nat
  slot : Int
  taken : Bool
deriving Inhabited
/-- The resolver; names: what is declared in the innermost node that may declare, with what each hides; cnt, nc: no fewer than the names that are seen, and than those in names. -/
structure ZS where
  names : Option (ByteArray → Option Int)
  fn : Nat
  loops : Int
  next : Nat
  funs : List ZF
  uses : List (Int × Int)
  globals : List ByteArray
  declared : List ZD
  seen : ByteArray → Option Int
  fault : Int
  faulty : Nat
  cnt : Nat
  nc : Nat
deriving Inhabited

/-- What is asked of the resolver: so many nodes, or a node of a kind. -/
inductive ZQ where
  | parts (due : Int)
  | block (i : Nat)
  | var (i : Nat)
  | loop
  | att (i : Nat)
  | named (i : Nat)
  | func (i : Nat)

def mputI (M : Int → Option Int) (s : Int) (x : Int) : Int → Option Int := fun u => if u = s then some x else M u

section
variable (L : List ANode) (A : ByteArray → Option Int)

def zN (i : Nat) : ANode := L.getD i (0, 0, [], 0, 0)
def zT (i : Nat) : ByteArray := strOfNums (zN L i).2.2.1
def zfail (z : ZS) (i : Nat) (e : Int) : ZS := if z.fault = 0 then { z with fault := e, faulty := i } else z
def zuse (z : ZS) (i : Nat) (u : Int × Int) : ZS := { z with uses := z.uses.set i u }

def zglobal (z : ZS) (i : Nat) : ZS :=
  if (A (zT L i)).getD 0 < z.globals.length then zfail z i 80 else if z.globals.length = 1024 then zfail z i 3
  else zuse { z with globals := z.globals ++ [zT L i] } i (4, z.globals.length)
def zslot (z : ZS) (m : ByteArray → Option Int) (i : Nat) : Option ZS :=
  match z.funs[z.fn]? with
  | none => none
  | some f =>
    if (m (zT L i)).isSome then some (zfail z i 80) else if f.slots = 256 then some (zfail z i 3)
    else if z.declared.length < 100000 then some { z with uses := z.uses.set i (1, z.declared.length), declared := z.declared ++ [⟨z.fn, f.slots, false⟩], funs := z.funs.set z.fn { f with slots := f.slots + 1 } } else none
def zdeclare (z : ZS) (i : Nat) : Option ZS :=
  if i < L.length then (if (primF (zT L i)).isSome then some (zfail z i 8) else match z.names with | none => some (zglobal L A z i) | some m => zslot L z m i) else none
def zshow (z : ZS) (i : Nat) : Option ZS :=
  match z.uses[i]? with
  | none => none
  | some u => if u.1 ≠ 1 then some z else match z.names with
    | none => none
    | some m => if (z.cnt < 100000 ∧ z.nc < 100000) ∧ 0 ≤ u.2 ∧ u.2 ≤ 100000 then some { z with names := some (mput m (zT L i) ((z.seen (zT L i)).getD (-1))), seen := mput z.seen (zT L i) u.2, cnt := z.cnt + 1, nc := z.nc + 1 } else none

/-- The place of a declaration in what a function takes. -/
def ztake : Nat → ZS → Nat → Nat → Nat → Option (Int × ZS)
  | 0, _, _, _, _ => none
  | t + 1, z, i, g, d =>
    match z.funs[g]?, z.declared[d]? with
    | some f, some e =>
      (match f.cm d with
      | some k => some (k, z)
      | none =>
        if g = 0 then none
        else (if f.about = e.fn then some ((1, e.slot), z) else (ztake t z i f.about d).map fun r => ((0, r.1), r.2)).bind fun r =>
          match r.2.funs[g]? with
          | none => none
          | some h =>
            if h.caps.length = 256 then some (0, zfail r.2 i 3)
            else some (h.caps.length, { r.2 with funs := r.2.funs.set g { h with caps := h.caps ++ [r.1], cm := mputI h.cm d h.caps.length } }))
    | _, _ => none
def zmeans (z : ZS) (i : Nat) (d : Int) : Option ZS :=
  if d < 0 then none else
  match z.declared[d.toNat]? with
  | none => none
  | some e =>
    if e.fn = z.fn then some (zuse z i (1, d))
    else (ztake (z.funs.length + 1) { z with declared := z.declared.set d.toNat { e with taken := true } } i z.fn d.toNat).map fun r => zuse r.2 i (3, r.1)
def zname (z : ZS) (i : Nat) : Option ZS :=
  match z.seen (zT L i) with
  | some d => zmeans z i d
  | none => match A (zT L i) with
    | some n => some (zuse z i (4, n))
    | none => match primF (zT L i) with
      | some n => some (zuse z i (5, n))
      | none => some (zfail z i 4)
def zset (z : ZS) (i : Nat) : Option ZS :=
  if i + 1 < L.length then (if (zN L (i + 1)).1 = 19 ∧ (primF (zT L (i + 1))).isSome then some (zfail z i 8) else some z) else none
def zplain (z : ZS) (i : Nat) : Option ZS :=
  if (zN L i).1 = 4 then zset L z i
  else if (zN L i).1 = 7 ∨ (zN L i).1 = 8 then (if z.loops = 0 then some (zfail z i 6) else some z)
  else if (zN L i).1 = 9 then (if z.fn = 0 then some (zfail z i 6) else some z)
  else if (zN L i).1 = 19 then zname L A z i else some z

def zenter (z : ZS) (g : Nat) (n : Int) : ZS := { z with names := some fun _ => none, fn := g, loops := n, nc := 0 }
/-- What is seen when names are no more: what each hides. -/
def unhide (m seen : ByteArray → Option Int) : ByteArray → Option Int := fun s => match m s with | none => seen s | some h => if h = -1 then none else some h
/-- Back to the place b. -/
def zleave (z b : ZS) : Option ZS :=
  match z.names with
  | none => none
  | some m => if z.cnt + z.nc ≤ 100000 then some { z with names := b.names, fn := b.fn, loops := b.loops, nc := b.nc, cnt := z.cnt + z.nc, seen := unhide m z.seen } else none
def zparam : Nat → ZS → Option ZS
  | 0, z => some z
  | n + 1, z => (zdeclare L A z z.next).bind fun y => (zshow L y z.next).bind fun v => zparam n { v with next := z.next + 1 }
def zopen (z : ZS) (i : Nat) : ZS := zenter { z with funs := z.funs ++ [⟨i, (zN L i).2.2.2.1, 0, [], z.fn, fun _ => none⟩] } z.funs.length 0

def zR : Nat → ZQ → ZS → Option ZS
  | 0, _, _ => none
  | t + 1, q, z => match q with
    | .parts due =>
      if 0 < due ∧ z.fault = 0 then
        (if due ≤ 1000000 ∧ z.next < L.length then
          (if (zN L z.next).1 = 2 then (zR t (.block z.next) { z with next := z.next + 1 }).bind fun v => zR t (.parts (due - 1)) v
          else if (zN L z.next).1 = 3 then (zR t (.var z.next) { z with next := z.next + 1 }).bind fun v => zR t (.parts (due - 1)) v
          else if (zN L z.next).1 = 6 then (zR t .loop { z with next := z.next + 1 }).bind fun v => zR t (.parts (due - 1)) v
          else if (zN L z.next).1 = 11 then (zR t (.att z.next) { z with next := z.next + 1 }).bind fun v => zR t (.parts (due - 1)) v
          else if (zN L z.next).1 = 12 then (zR t (.named z.next) { z with next := z.next + 1 }).bind fun v => zR t (.parts (due - 1)) v
          else if (zN L z.next).1 = 31 then (zR t (.func z.next) { z with next := z.next + 1 }).bind fun v => zR t (.parts (due - 1)) v
          else if 0 ≤ (zN L z.next).2.1 ∧ (zN L z.next).2.1 ≤ 1000000 then (zplain L A { z with next := z.next + 1 } z.next).bind fun v => zR t (.parts (due + (zN L z.next).2.1 - 1)) v
          else none)
        else none)
      else some z
    | .block i => if i < L.length then (zR t (.parts (zN L i).2.1) (zenter z z.fn z.loops)).bind fun v => zleave v z else none
    | .var i => (zdeclare L A z i).bind fun y => (zR t (.parts 1) y).bind fun v => zshow L v i
    | .loop => (zR t (.parts 1) z).bind fun v => if 0 ≤ v.loops ∧ v.loops < 100000 then (zR t (.parts 1) { v with loops := v.loops + 1 }).bind fun x => if 1 ≤ x.loops ∧ x.loops ≤ 100000 then some { x with loops := x.loops - 1 } else none else none
    | .att i => (zdeclare L A (zenter z z.fn z.loops) i).bind fun y => (zR t (.parts 1) y).bind fun v => (zshow L v i).bind fun x => (zR t (.parts 1) x).bind fun u => zleave u z
    | .named i => (zdeclare L A z i).bind fun y => (zshow L y i).bind fun v => zR t (.func i) v
    | .func i =>
      if z.funs.length = 1024 then some (zfail z i 3)
      else if (i < L.length ∧ 0 < z.funs.length) ∧ 0 ≤ (zN L i).2.2.2.1 ∧ (zN L i).2.2.2.1 ≤ 100000 then
        (zparam L A (zN L i).2.2.2.1.toNat (zopen L z i)).bind fun y => (zR t (.parts 1) y).bind fun v => zleave v z
      else none

def zstart : ZS := ⟨none, 0, 0, 1, [⟨0, 0, 0, [], 0, fun _ => none⟩], List.replicate L.length (0, 0), [], [], fun _ => none, 0, 0, 0, 0⟩
/-- What is told in the end of a use. -/
def zend (z : ZS) (u : Int × Int) : Int × Int := if u.1 = 1 then (let e := z.declared.getD u.2.toNat default; (if e.taken then (2, e.slot) else (1, e.slot))) else u
def zfit (z : ZS) (u : Int × Int) : Bool := u.1 != 1 || (decide (0 ≤ u.2) && decide (u.2 < z.declared.length))
end

end Go.Proofs.YtekkjpecdflajaaDoor

