/- What the document's Lex takes of the texts that walk the program's: no function of the program. · The document's words and names: the contracts. · The document's skipping of blanks and remarks, digits: the contracts. · The document's numbers: the contract. -/
import Derived.Test.YtdhkcdehedbpcaaDoorM4
import Derived.Deep.MidRow
import Derived.Laws.BitsAllLaws
import Derived.WalkMore
import Derived.Lib.SlBytesConst
set_option linter.unusedSimpArgs false
set_option linter.unusedVariables false
namespace Go.Proofs.YtdhkcdehedbpcaaDoor
open Go Go.RowKit

theorem strOf_toList (l : List Int) : (strOfNums l).toList = l.map fun n => UInt8.ofNat n.toNat := by
 rw [ByteArray.toList_eq, strOfNums_data]

theorem strOf_inj {l k : List Int} (hl : ∀ c ∈ l, 0 ≤ c ∧ c ≤ 255) (hk : ∀ c ∈ k, 0 ≤ c ∧ c ≤ 255) (h : strOfNums l = strOfNums k) : l = k := by
 have h1 : (l.map fun n => UInt8.ofNat n.toNat) = k.map fun n => UInt8.ofNat n.toNat := by rw [← strOf_toList, ← strOf_toList, h]
 clear h
 induction l generalizing k with
 | nil => cases k with | nil => rfl | cons c t => simp at h1
 | cons c t ih =>
  cases k with
  | nil => simp at h1
  | cons d u =>
   simp only [List.map_cons, List.cons.injEq] at h1
   have hc := hl c (by simp)
   have hd := hk d (by simp)
   have e : c = d := by
    have := congrArg UInt8.toNat h1.1
    simp at this
    omega
   rw [e, ih (fun x hx => hl x (by simp [hx])) (fun x hx => hk x (by simp [hx])) h1.2]

theorem strOf_ne {l k : List Int} (hl : ∀ c ∈ l, 0 ≤ c ∧ c ≤ 255) (hk : ∀ c ∈ k, 0 ≤ c ∧ c ≤ 255) (h : l ≠ k) : ((strOfNums l).toList == (strOfNums k).toList) = false :=
 str_ne (fun e => h (strOf_inj hl hk e))

def isName (l : List Int) : Bool := match l with | [] => false | c :: t => !isDg c && l.all isNm && !isWord l

def nth (l : List Int) (i : Nat) : Int := l.getD i 0

theorem nth_eq {l : List Int} {i : Nat} (h : i < l.length) : nth l i = l[i] := by
 unfold nth; rw [List.getD_eq_getElem?_getD, List.getElem?_eq_getElem h]; rfl

theorem strOf_get {l : List Int} (hb : ∀ c ∈ l, 0 ≤ c ∧ c ≤ 255) (i : Nat) (h : i < (strOfNums l).size) : (((strOfNums l)[i]'h).toNat : Int) = nth l i := by
 have hl : i < l.length := by rw [strOfNums_size] at h; exact h
 have := hb _ (List.getElem_mem hl)
 have e : (strOfNums l)[i]'h = UInt8.ofNat (l[i]).toNat := by
  show (strOfNums l).data[i] = _
  simp [strOfNums]
 rw [e, nth_eq hl]
 simp
 omega

theorem all_take_succ (p : Int → Bool) (l : List Int) (k : Nat) (h : k < l.length) : (l.take (k + 1)).all p = ((l.take k).all p && p (nth l k)) := by
 rw [List.take_succ_eq_append_getElem h, List.all_append, nth_eq h]
 simp

theorem all_false_of (p : Int → Bool) (l : List Int) (k : Nat) (h : k < l.length) (hp : p (nth l k) = false) : l.all p = false := by
 rw [List.all_eq_false]
 exact ⟨l[k], List.getElem_mem h, by rw [← nth_eq h, hp]; simp⟩

theorem under9 : Tryd.prog.underlying 9 = some .string := by kernel_rfl

theorem all_take_get {α : Type} (p : α → Bool) {l : List α} {k : Nat} {s : α} (h : l[k]? = some s) : (l.take (k + 1)).all p = ((l.take k).all p && p s) := by
 obtain ⟨hk, rfl⟩ := List.getElem?_eq_some_iff.1 h
 rw [List.take_succ_eq_append_getElem hk, List.all_append]
 simp

theorem strOf_nil : strOfNums [] = ⟨#[]⟩ := rfl

theorem By.parts {w : World} {v : Value} {b : List Int} {k : Nat} (h : By w v b) (hk : k < b.length) :
  ∃ g o cap, v = .slice (some ⟨g, o, none⟩) b.length cap ∧ b.length ≤ cap ∧ g < w.heap.size ∧ ∀ i (hi : i < b.length), w.cell? ⟨g, o + i, none⟩ = some (.int .u8 b[i]) := by
 obtain ⟨hl, a, cap, rfl, hn, hc⟩ := h.1
 rcases hc with hc | ⟨g, o, rfl, hg, _, hc⟩
 ·omega
 ·exact ⟨g, o, cap, rfl, hn.1, hg, fun i hi => by rw [hc i (by omega)]; simp [hi]⟩

theorem under22 : Tryd.prog.underlying 22 = some (.slice 5) := by kernel_rfl

theorem under5 : Tryd.prog.underlying 5 = some (.int .u8) := by kernel_rfl

theorem By.conv {w : World} {g o cap : Nat} {b : List Int} (h : By w (.slice (some ⟨g, o, none⟩) b.length cap) b) (k m c : Nat) (hk : k + m ≤ b.length) :
  (convert 22 9 (.slice (some ⟨g, o + k, none⟩) m c)).run Tryd.prog w = .ok (.string (strOfNums ((b.drop k).take m))) w := by
 refine run_convert_bytes_arg w 22 5 under22 under5 g (o + k) m c ((b.drop k).take m) (by simp; omega) (fun i hi => ?_) 9 under9
 have hi' : k + i < b.length := by omega
 obtain ⟨g', o', cap', e, _, _, hc⟩ := h.parts hi'
 cases e
 rw [Nat.add_assoc, hc _ hi']
 congr 2
 rw [List.getD_eq_getElem?_getD, List.getElem?_take, if_pos hi, List.getElem?_drop, List.getElem?_eq_getElem hi']
 rfl

abbrev tk0 : Obj := .cells #[.int .i64 0, .string ByteArray.empty, .int .i64 0, .int .i64 0] 70

theorem numOf_take_succ {r : List Int} {m : Nat} (h : m < r.length) : numOf (r.take (m + 1)) = numStep (numOf (r.take m)) r[m] := by
 rw [List.take_succ_eq_append_getElem h, numOf_snoc]

theorem numStep_bd {s : Int × Bool} {d : Int} (h0 : 0 ≤ s.1) (h1 : s.1 ≤ 2305843009213693951) (hd : isDg d = true) : 0 ≤ (numStep s d).1 ∧ (numStep s d).1 ≤ 2305843009213693951 := by
 simp [isDg] at hd
 unfold numStep
 have e : (2305843009213693951 - (d - 48)).tdiv 10 = (2305843009213693951 - (d - 48)) / 10 := Int.tdiv_eq_ediv_of_nonneg (by omega)
 rw [e]
 split
 ·exact ⟨h0, h1⟩
 ·simp only; omega

def hex2 (r : List Int) : Int ⊕ Nat :=
 match r with
 | [] => .inr 0
 | x :: u =>
  match hexV x with
  | none => .inr 0
  | some i =>
   match u with
   | [] => .inr 1
   | y :: _ =>
    match hexV y with
    | none => .inr 1
    | some j => .inl (16 * i + j)

theorem hexV_bd {c i : Int} (h : hexV c = some i) : 0 ≤ i ∧ i ≤ 15 := by
 unfold hexV at h
 repeat' split at h
 all_goals simp at h
 all_goals omega

def St (r : List Int) (i : Nat) (x : Int) : Prop :=
 (i = 0 ∧ x = 0) ∨ (i = 1 ∧ ∃ c t, r = c :: t ∧ hexV c = some x) ∨ (i = 2 ∧ ∃ c d t p q, r = c :: d :: t ∧ hexV c = some p ∧ hexV d = some q ∧ x = 16 * p + q)

theorem St.end {r : List Int} {x : Int} (h : St r 2 x) : hex2 r = .inl x := by
 rcases h with ⟨h, _⟩ | ⟨h, _⟩ | ⟨_, c, d, t, p, q, rfl, h1, h2, rfl⟩
 ·omega
 ·omega
 ·simp [hex2, h1, h2]

theorem St.short {r : List Int} {i : Nat} {x : Int} (h : St r i x) (hi : i < 2) (hr : r.length = i) : hex2 r = .inr i := by
 rcases h with ⟨rfl, _⟩ | ⟨rfl, c, t, rfl, h1⟩ | ⟨h, _⟩
 ·rw [List.eq_nil_of_length_eq_zero hr]; rfl
 ·have : t = [] := List.eq_nil_of_length_eq_zero (by simpa using hr)
  subst this
  simp [hex2, h1]
 ·omega

theorem St.bad {r : List Int} {i : Nat} {x c : Int} (h : St r i x) (hi : i < 2) (hr : r[i]? = some c) (hc : hexV c = none) : hex2 r = .inr i := by
 rcases h with ⟨rfl, _⟩ | ⟨rfl, d, t, rfl, h1⟩ | ⟨h, _⟩
 ·cases r with
  | nil => simp at hr
  | cons d t => simp at hr; subst hr; simp [hex2, hc]
 ·cases t with
  | nil => simp at hr
  | cons e u => simp at hr; subst hr; simp [hex2, h1, hc]
 ·omega

theorem or16 (x y : Int) (h0 : 0 ≤ x) (h1 : x ≤ 15) (g0 : 0 ≤ y) (g1 : y ≤ 15) : bits .or .u8 (x * 16) y = 16 * x + y := by
 rw [u8_or (x * 16) y (by omega) (by omega) (by omega) (by omega)]
 have h := Nat.two_pow_add_eq_or_of_lt (i := 4) (b := y.toNat) (by omega) x.toNat
 rw [show (x * 16).toNat = 2 ^ 4 * x.toNat by omega, ← h]; omega

theorem St.next {r : List Int} {i : Nat} {x c d : Int} (h : St r i x) (hi : i < 2) (hr : r[i]? = some c) (hc : hexV c = some d) : ∃ y, bits .or .u8 (x * 16 % 256) d = y ∧ bits .or .u8 (x * 16) d = y ∧ St r (i + 1) y ∧ 0 ≤ x ∧ x ≤ 15 := by
 have hd := hexV_bd hc
 rcases h with ⟨rfl, rfl⟩ | ⟨rfl, e, t, rfl, h1⟩ | ⟨h, _⟩
 ·have := or16 0 d (by omega) (by omega) hd.1 hd.2
  simp at this
  refine ⟨d, by simpa using this, by simpa using this, .inr (.inl ⟨rfl, ?_⟩), by omega, by omega⟩
  cases r with
  | nil => simp at hr
  | cons f u => simp at hr; subst hr; exact ⟨f, u, rfl, hc⟩
 ·have he := hexV_bd h1
  have := or16 x d he.1 he.2 hd.1 hd.2
  refine ⟨16 * x + d, by rw [show x * 16 % 256 = x * 16 by omega]; exact this, this, .inr (.inr ⟨rfl, ?_⟩), he.1, he.2⟩
  cases t with
  | nil => simp at hr
  | cons f u => simp at hr; subst hr; exact ⟨e, f, u, x, d, rfl, h1, hc, rfl⟩
 ·omega

theorem esc_hex (t : List Int) : esc (120 :: t) = match hex2 t with | .inl x => .inl (x, 4) | .inr m => .inr (2 + m) := by
 cases t with
 | nil => simp [esc, hex2]
 | cons x u =>
  cases hx : hexV x with
  | none => simp [esc, hex2, hx]
  | some i =>
   cases u with
   | nil => simp [esc, hex2, hx]
   | cons y z => cases hy : hexV y <;> simp [esc, hex2, hx, hy]

theorem own_conv {w : World} {base n : Nat} {v : Value} {l : List Int} (h : w.ownsRow base 5 1 v n (l.map (Value.int .u8))) :
  (convert 22 9 v).run Tryd.prog w = .ok (.string (strOfNums l)) w := by
 have hl : l.length = n := by have := h.1; simpa using this
 rcases h.2 with ⟨rfl, rfl⟩ | ⟨g, cap, cur, rfl, hb, hg, hnc, hmx, hsz, htake⟩
 ·have : l = [] := List.eq_nil_of_length_eq_zero hl
  subst this
  exact run_convert_bytes_nil w 22 5 under22 under5 0 0 9 under9
 ·refine run_convert_bytes_arg w 22 5 under22 under5 g 0 n cap l hl (fun i hi => ?_) 9 under9
  rw [Nat.zero_add, cell_of_row w g i cur 5 (0, 0) hg]
  have e : cur.toList[i]? = (l.map (Value.int .u8))[i]? := by rw [← htake, List.getElem?_take, if_pos (by omega)]
  have : cur[i]? = cur.toList[i]? := by simp
  rw [this, e, List.getElem?_map, List.getElem?_eq_getElem (by omega), List.getD_eq_getElem?_getD, List.getElem?_eq_getElem (by omega)]
  rfl

theorem map_snoc8 (l : List Int) (c : Int) : l.map (Value.int .u8) ++ [.int .u8 c] = (l ++ [c]).map (Value.int .u8) := by simp

theorem underT : Tryd.prog.underlying 63 = some (.slice 70) := by kernel_rfl

theorem tk_snoc (l : List ATok) (t : ATok) : l.flatMap tkV ++ tkV t = (l ++ [t]).flatMap tkV := by simp

theorem Tk.bw {w w' : World} {base : Nat} {v : Value} {l : List ATok} (h : Tk w base v l) (hb : Bw w w') : Tk w' base v l :=
 h.kept (row := none) ⟨hb.os, hb.tape, hb.output, hb.size, fun k hk _ => hb.block k hk⟩ (by cases v.ownBlock <;> simp)

theorem Tk.form {w : World} {base : Nat} {v : Value} {l : List ATok} (h : Tk w base v l) : ∃ a cap, v = .slice a l.length cap := own_form h

theorem flat_get : ∀ (l : List ATok) (i : Nat) (hi : i < l.length) (j : Nat) (hj : j < 4), (l.flatMap tkV)[i * 4 + j]? = (tkV l[i])[j]?
 | [], i, hi, _, _ => by simp at hi
 | t :: u, 0, _, j, hj => by
  rw [List.flatMap_cons, Nat.zero_mul, Nat.zero_add, List.getElem?_append_left (by simp [tkV]; omega)]
  rfl
 | t :: u, i + 1, hi, j, hj => by
  have hi' : i < u.length := by simpa using hi
  rw [List.flatMap_cons, List.getElem?_append_right (by simp [tkV]; omega)]
  have e : (i + 1) * 4 + j - (tkV t).length = i * 4 + j := by simp [tkV]; omega
  rw [e, flat_get u i hi' j hj]
  simp

theorem Tk.at {w : World} {base : Nat} {v : Value} {l : List ATok} (h : Tk w base v l) (hl : 0 < l.length) :
  ∃ g cap, v = .slice (some ⟨g, 0, none⟩) l.length cap ∧ base ≤ g ∧ g < w.heap.size ∧ l.length ≤ cap ∧ ∀ i (hi : i < l.length), w.cell? ⟨g, i * 4, none⟩ = some (.int .i64 l[i].1) ∧ w.cell? ⟨g, i * 4 + 1, none⟩ = some (.string (strOfNums l[i].2.1)) ∧ w.cell? ⟨g, i * 4 + 2, none⟩ = some (.int .i64 l[i].2.2.1) ∧ w.cell? ⟨g, i * 4 + 3, none⟩ = some (.int .i64 l[i].2.2.2) := by
 rcases h.2 with ⟨_, h0⟩ | ⟨g, cap, cur, rfl, hb, hg, hnc, hmx, hsz, htake⟩
 ·omega
 ·refine ⟨g, cap, rfl, hb, (Array.getElem?_eq_some_iff.1 hg).1, hnc, fun i hi => ?_⟩
  have key : ∀ j, j < 4 → w.cell? ⟨g, i * 4 + j, none⟩ = (tkV l[i])[j]? := by
   intro j hj
   rw [cell_of_row w g (i * 4 + j) cur _ (0, 0) hg, ← flat_get l i hi j hj, ← htake, List.getElem?_take, if_pos (by omega)]
   simp
  have k0 := key 0 (by omega)
  have k1 := key 1 (by omega)
  have k2 := key 2 (by omega)
  have k3 := key 3 (by omega)
  exact ⟨k0, k1, k2, k3⟩

end Go.Proofs.YtdhkcdehedbpcaaDoor

namespace Go.Proofs.YtdhkcdehedbpcaaDoor
open Go Go.RowKit

set_option maxHeartbeats 400000 in
theorem rdigit_any (c : Int) (w : World) :
  Calls Tryd.prog 36 #[.int .u8 c] w fun e w' => e = .returned (.bool (isDg c)) ∧ w' = w := by
 go_enter Tryd.func36, Tryd.ntmps36
 go_wp2
 all_goals go_ret
 all_goals refine ⟨ret_bool ?_, rfl⟩
 all_goals (rw [Bool.eq_iff_iff]; simp_all [isDg]; try omega)

set_option maxHeartbeats 400000 in
theorem rletter_any (c : Int) (w : World) :
  Calls Tryd.prog 35 #[.int .u8 c] w fun e w' => e = .returned (.bool (isLt c)) ∧ w' = w := by
 go_enter Tryd.func35, Tryd.ntmps35
 go_wp2
 all_goals go_ret
 all_goals refine ⟨ret_bool ?_, rfl⟩
 all_goals (rw [Bool.eq_iff_iff]; simp_all [isLt]; try omega)

def wdv : Array Value := (words.map fun s => Value.string (strOfNums s)).toArray

theorem wd_get (i : Nat) (h : i < 18) : ∃ s, words[i]? = some s ∧ wdv[i]? = some (.string (strOfNums s)) ∧ (∀ c ∈ s, 0 ≤ c ∧ c ≤ 255) := by
 have : ∀ i : Fin 18, (∀ c ∈ words.getD i.val [], 0 ≤ c ∧ c ≤ 255) := by decide
 have hi : words[i]? = some (words.getD i []) := by
  rw [List.getD_eq_getElem?_getD, List.getElem?_eq_getElem (by exact h)]; rfl
 refine ⟨_, hi, ?_, this ⟨i, h⟩⟩
 unfold wdv
 rw [List.getElem?_toArray, List.getElem?_map, hi]; rfl

set_option maxHeartbeats 4000000 in
theorem rWord_any (l : List Int) (hb : ∀ c ∈ l, 0 ≤ c ∧ c ≤ 255) (w : World) :
  Calls Tryd.prog 37 #[.string (strOfNums l)] w fun e w' => e = .returned (.bool (isWord l)) ∧ Ly w w' := by
 have HBD := hid hb
 clear hb
 go_enter Tryd.func37, Tryd.ntmps37
 go_wp2
 go_loopw [4] (fun j wr => ∃ i, i ≤ 18 ∧ j = .int .i64 (i : Nat) ∧ wr = w.alloc (.cells wdv 126) ∧ (words.take i).all (fun s => decide (s ≠ l)) = true) (fun j _ => 18 - (intOf j).toNat)
 case atStart => exact ⟨0, Nat.zero_le _, rfl, rfl, by simp⟩
 case round =>
  obtain ⟨i, hi, rfl, hwr, ha⟩ := hrel
  subst wr
  have HA := hid ha
  clear ha
  by_cases hlt : i < 18
  ·obtain ⟨s, hs1, hs2, hs5⟩ := wd_get i hlt
   have hlt2 : (i : Int) < 18 := by omega
   have hc : (w.alloc (.cells wdv 126)).cell? ⟨w.heap.size, i, none⟩ = some (.string (strOfNums s)) := by
    rw [World.cell?_alloc_mark]; exact hs2
   have H1 := hid hs1
   by_cases hsl : s = l
   ·subst hsl
    have hf : isWord s = true := by
     simp only [isWord, decide_eq_true_eq]
     exact List.mem_of_getElem? H1.out
    have HF := hid hf
    clear hs1 hs2 hs5 hf
    generalize strOfNums s = x at *
    go_wp2
    all_goals go_ret
    all_goals exact ⟨ret_bool HF.out.symm, Ly.alloc (Ly.refl _) _⟩
   ·have hne := strOf_ne hs5 HBD.out hsl
    have hs' : (words.take (i + 1)).all (fun s => decide (s ≠ l)) = true := by
     rw [all_take_get _ H1.out, HA.out]; simpa using hsl
    have HS' := hid hs'
    clear hs1 hs2 hs5 hs' hsl
    generalize strOfNums s = x at *
    generalize strOfNums l = y at *
    go_wp2
    go_roundw
    case rel => exact ⟨i + 1, by omega, by go_num, trivial, HS'.out⟩
    case measure => simp [intOf]; omega
  ·have hf : isWord l = false := by
    have := HA.out
    rw [List.take_of_length_le (by show words.length ≤ i; have : words.length = 18 := rfl; omega)] at this
    simp only [isWord, decide_eq_false_iff_not]
    intro hmem
    have := List.all_eq_true.1 this l hmem
    simp at this
   have HF := hid hf
   clear hf
   go_wp2
   all_goals go_ret
   all_goals exact ⟨ret_bool HF.out.symm, Ly.alloc (Ly.refl _) _⟩

end Go.Proofs.YtdhkcdehedbpcaaDoor

namespace Go.Proofs.YtdhkcdehedbpcaaDoor
open Go Go.RowKit

def Sk0 (b : List Int) (k p : Nat) : Prop :=
 k ≤ p ∧ p ≤ b.length ∧ ∀ acc f, (b.drop k).length < f → ∃ f', (b.drop p).length < f' ∧ lexF f (b.drop k) k acc = lexF f' (b.drop p) p acc

theorem Sk0.refl (b : List Int) (k : Nat) (h : k ≤ b.length) : Sk0 b k k := ⟨Nat.le_refl _, h, fun acc f hf => ⟨f, hf, rfl⟩⟩

theorem Sk0.blank {b : List Int} {k p : Nat} (h : Sk0 b k p) (hp : p < b.length) (hb : isBl b[p] = true) : Sk0 b k (p + 1) := by
 refine ⟨by have := h.1; omega, hp, fun acc f hf => ?_⟩
 obtain ⟨f', h1, h2⟩ := h.2.2 acc f hf
 rw [List.drop_eq_getElem_cons hp] at h1 h2
 obtain ⟨f'', rfl⟩ : ∃ f'', f' = f'' + 1 := ⟨f' - 1, by omega⟩
 rw [lexF_blank hb] at h2
 exact ⟨f'', by simp only [List.length_cons] at h1; omega, h2⟩

theorem Sk0.rem {b : List Int} {k p : Nat} (h : Sk0 b k p) (hp : p < b.length) (hb : b[p] = 35) : Sk0 b k (p + twl (· != 10) (b.drop p)) := by
 have hd : b.drop p = 35 :: b.drop (p + 1) := by rw [List.drop_eq_getElem_cons hp, hb]
 have htw := twl_le (· != 10) (b.drop p)
 have ht : twl (· != 10) (b.drop p) = twl (· != 10) (b.drop (p + 1)) + 1 := by rw [hd, twl_cons]; simp
 rw [List.length_drop] at htw
 refine ⟨by have := h.1; omega, by omega, fun acc f hf => ?_⟩
 obtain ⟨f', h1, h2⟩ := h.2.2 acc f hf
 rw [hd] at h1 h2
 obtain ⟨f'', rfl⟩ : ∃ f'', f' = f'' + 1 := ⟨f' - 1, by omega⟩
 rw [lexF_rem, List.drop_drop] at h2
 refine ⟨f'', ?_, ?_⟩
 ·simp only [List.length_cons, List.length_drop] at h1 ⊢; omega
 ·rw [h2, ht]
  congr 1
  ·congr 1; omega
  ·omega

def Skp (b : List Int) (k p : Nat) : Prop := Sk0 b k p ∧ ∀ h : p < b.length, isBl b[p] = false ∧ b[p] ≠ 35

set_option maxHeartbeats 8000000 in
theorem rskip_any (v : Value) (b : List Int) (k : Nat) (w : World) (h : By w v b) (hk : k ≤ b.length) (hm : b.length ≤ 1000000) :
  Calls Tryd.prog 34 #[v, .int .i64 (k : Nat)] w fun e w' => ∃ p : Nat, e = .returned (.int .i64 (p : Nat)) ∧ Skp b k p ∧ w' = w := by
 have HB := hid h
 obtain ⟨a, cap, rfl⟩ := h.form
 clear h
 go_enter Tryd.func34, Tryd.ntmps34
 go_wp2
 go_loopw [1] (fun j wr => ∃ p : Nat, j = .int .i64 (p : Nat) ∧ Sk0 b k p ∧ wr = w) (fun j _ => b.length - (intOf j).toNat)
 case atStart => exact ⟨k, rfl, Sk0.refl b k hk, rfl⟩
 case round =>
  obtain ⟨p, rfl, hsk, hwr⟩ := hrel
  subst wr
  have HSK := hid hsk
  have hpb := hsk.2.1
  clear hsk
  by_cases hlt : p < b.length
  ·obtain ⟨g, o, cap', e, hcap, hg, hcs⟩ := HB.out.parts hlt
   cases e
   have HC := hid hcs
   have hc := hcs p hlt
   have hlt2 : (p : Int) < (b.length : Int) := by omega
   have HSB := hid (fun hb => HSK.out.blank hlt hb)
   have HSR := hid (fun hb => HSK.out.rem hlt hb)
   have HST := hid (fun (h1 : isBl b[p] = false) (h2 : b[p] ≠ 35) => (show Skp b k p from ⟨HSK.out, fun _ => ⟨h1, h2⟩⟩))
   clear hcs
   generalize b[p] = c at hc HSB HSR HST
   cases h35 : (c == 35)
   ·cases hbl : isBl c
    ·have n1 : (c != 32) = true := by simp [isBl] at hbl; simp; omega
     have n2 : (c != 9) = true := by simp [isBl] at hbl; simp; omega
     have n3 : (c != 10) = true := by simp [isBl] at hbl; simp; omega
     have n4 : (c != 13) = true := by simp [isBl] at hbl; simp; omega
     have HF := hid (HST.out hbl (by simpa using h35))
     go_wp2
     all_goals go_ret
     all_goals exact ⟨p, rfl, HF.out, rfl⟩
    ·have HF := hid (HSB.out hbl)
     have hb4 : c = 32 ∨ c = 9 ∨ c = 10 ∨ c = 13 := by simpa [isBl, or_assoc] using hbl
     clear hbl
     rcases hb4 with rfl | rfl | rfl | rfl
     all_goals
      go_wp2
      go_roundw
      case rel => exact ⟨p + 1, by go_num, HF.out, trivial⟩
      case measure => simp [intOf]; omega
   ·rw [beq_iff_eq] at h35
    subst h35
    have HF := hid (HSR.out rfl)
    clear HSB HSR HST
    go_wp2
    go_loopw [1] (fun j wr => ∃ m, j = .int .i64 ((p + m : Nat) : Int) ∧ m ≤ twl (· != 10) (b.drop p) ∧ wr = w) (fun j _ => b.length - (intOf j).toNat)
    case atStart => exact ⟨0, by simp, Nat.zero_le _, rfl⟩
    case round =>
     obtain ⟨m, rfl, hm1, hwr⟩ := hrel
     subst wr
     have hle := twl_le (· != 10) (b.drop p)
     rw [List.length_drop] at hle
     have hpos : 1 ≤ twl (· != 10) (b.drop p) := by
      have := HF.out.1
      have hcc := HC.out p hlt
      have hb : b[p] = 35 := by have := hcc.symm.trans hc; simpa using this
      rw [List.drop_eq_getElem_cons hlt, twl_cons, hb]; simp
     by_cases hlm : p + m < b.length
     ·have hc2 := HC.out _ hlm
      have hlm2 : ((p + m : Nat) : Int) < (b.length : Int) := by omega
      have hml : m < (b.drop p).length := by rw [List.length_drop]; omega
      have hge : (b.drop p)[m] = b[p + m] := by simp
      have TG := hid (@twl_go (· != 10) (b.drop p) m hm1 hml)
      have TN := hid (@twl_no (· != 10) (b.drop p) m hm1 hml)
      rw [hge] at TG TN
      generalize b[p + m] = c2 at hc2 TG TN
      clear hge hml hle
      cases hc10 : (c2 != 10)
      ·have HE := hid (TN.out hc10)
       clear hm1 TG TN
       go_wp2
       go_roundw
       case rel => exact ⟨p + m, by go_num, by rw [← HE.out]; exact HF.out, trivial⟩
       case measure => have := HE.out; simp [intOf]; omega
      ·have hg1 := hid (TG.out hc10)
       clear hm1 TG TN
       go_wp2
       go_roundw
       case rel => exact ⟨m + 1, by go_num, hg1.out, trivial⟩
       case measure => simp [intOf]; omega
     ·have HE := hid (show twl (· != 10) (b.drop p) = m from twl_end hm1 (by rw [List.length_drop]; omega))
      clear hm1 hle
      go_wp2
      go_roundw
      case rel => exact ⟨p + m, by go_num, by rw [← HE.out]; exact HF.out, trivial⟩
      case measure => have := HE.out; simp [intOf]; omega
  ·have HF := hid (show Skp b k p from ⟨HSK.out, fun h => absurd h hlt⟩)
   go_wp2
   all_goals go_ret
   all_goals exact ⟨p, rfl, HF.out, rfl⟩

end Go.Proofs.YtdhkcdehedbpcaaDoor

namespace Go.Proofs.YtdhkcdehedbpcaaDoor
open Go Go.RowKit

def RV (k : Nat) : Cut → Value → Prop
 | .tok kd x n len, v => v = .tuple #[.agg #[.int .i64 kd, .string (strOfNums x), .int .i64 n, .int .i64 (k : Nat)], .int .i64 ((k + len : Nat) : Int), .int .i64 0]
 | .bad e off, v => ∃ (a c d : Int) (s : ByteArray), v = .tuple #[.agg #[.int .i64 a, .string s, .int .i64 c, .int .i64 d], .int .i64 ((k + off : Nat) : Int), .int .i64 e]

theorem numStep_sticky {s : Int × Bool} {d : Int} (h : s.2 = true) : (numStep s d).2 = true := by
 unfold numStep; split
 ·rfl
 ·exact h

theorem numOf_sticky {l : List Int} (h : (numOf l).2 = true) : ∀ k : List Int, (numOf (l ++ k)).2 = true := by
 intro k
 induction k generalizing l with
 | nil => simpa using h
 | cons d k ih =>
  have : l ++ d :: k = (l ++ [d]) ++ k := by simp
  rw [this]
  exact ih (by rw [numOf_snoc]; exact numStep_sticky h)

theorem twl_lt {p : Int → Bool} : ∀ {r : List Int} {i : Nat} (h : i < twl p r) (hl : i < r.length), p r[i] = true
 | [], i, h, hl => by simp at hl
 | c :: t, 0, h, _ => by
  rw [twl_cons] at h
  split at h
  ·assumption
  ·omega
 | c :: t, i + 1, h, hl => by
  rw [twl_cons] at h
  split at h
  ·exact twl_lt (r := t) (i := i) (by omega) (by simpa using hl)
  ·omega

theorem bwTwo (w : World) (o o' : Obj) : Bw w ((w.alloc o).alloc o') := Bw.alloc (Bw.alloc (Bw.refl w) _) _

set_option maxHeartbeats 8000000 in
theorem rnumber_any (v : Value) (b : List Int) (k : Nat) (w : World) (h : By w v b) (hk : k < b.length) (hm : b.length ≤ 1000000) :
  Calls Tryd.prog 38 #[v, .int .i64 (k : Nat)] w fun e w' => ∃ r, e = .returned r ∧ RV k (cNum (b.drop k)) r ∧ Bw w w' := by
 obtain ⟨g, o, cap, rfl, hcap, hg, hcs⟩ := h.parts hk
 have HC := hid hcs
 have hrl : (b.drop k).length = b.length - k := List.length_drop
 have hck0 := hcs k hk
 have hhd : (b.drop k).head? = some b[k] := by rw [List.drop_eq_getElem_cons hk]; rfl
 have HHD := hid hhd
 clear h hcs hhd
 generalize b[k] = c0 at hck0 HHD
 go_enter Tryd.func38, Tryd.ntmps38
 go_wp2
 go_loopw [8] (fun j wr => ∃ m, j = .int .i64 ((k + m : Nat) : Int) ∧ m ≤ twl isDg (b.drop k) ∧ wr = (w.alloc tk0).alloc (.cells #[.int .i64 3, .string ⟨#[]⟩, .int .i64 0, .int .i64 (k : Nat)] 70)) (fun j _ => b.length - (intOf j).toNat)
 case atStart => exact ⟨0, by simp, Nat.zero_le _, rfl⟩
 case round =>
  obtain ⟨m, rfl, hm1, hwr⟩ := hrel
  subst wr
  have hle := twl_le isDg (b.drop k)
  rw [List.length_drop] at hle
  have key : (twl isDg (b.drop k) = m ∧ ∀ hlt : k + m < b.length, isDg b[k + m] = false) ∨ ∃ hlt : k + m < b.length, isDg b[k + m] = true ∧ m + 1 ≤ twl isDg (b.drop k) := by
   by_cases hlt : k + m < b.length
   ·have hml : m < (b.drop k).length := by rw [List.length_drop]; omega
    have hge : (b.drop k)[m] = b[k + m] := by simp
    cases hp : isDg b[k + m]
    ·exact .inl ⟨twl_no hm1 hml (by rw [hge]; exact hp), fun _ => hp⟩
    ·exact .inr ⟨hlt, hp, twl_go hm1 hml (by rw [hge]; exact hp)⟩
   ·exact .inl ⟨twl_end hm1 (by rw [List.length_drop]; omega), fun h => absurd h hlt⟩
  rcases key with ⟨hfin, hno⟩ | ⟨hlt, hp, hg1⟩
  ·have hkm : k + m ≤ b.length := by omega
   have HFI := hid hfin
   have hgm : (b.drop k)[m]? = b[k + m]? := List.getElem?_drop
   have hcn : cNum (b.drop k) = if c0 = 48 ∧ 1 < m then .bad 6 1 else if b[k + m]?.map isLt = some true then .bad 6 m else if (numOf ((b.drop k).take m)).2 then .bad 9 0 else .tok 3 [] (numOf ((b.drop k).take m)).1 m := by
    unfold cNum
    rw [takeWhile_twl, hfin, HHD.out, hgm]
    simp only [Option.some.injEq]
   have HCN := hid hcn
   clear hm1 hfin hle hcn hgm
   -- the loop over digits, behind all tests
   by_cases hz : c0 = 48 ∧ 1 < m
   ·have HV := hid (show RV k (cNum (b.drop k)) (.tuple #[.agg #[.int .i64 3, .string ⟨#[]⟩, .int .i64 0, .int .i64 (k : Nat)], .int .i64 ((k : Int) + 1), .int .i64 6]) by
     rw [HCN.out, if_pos hz]
     exact ⟨3, 0, k, ⟨#[]⟩, by simp⟩)
    obtain ⟨rfl, hm2⟩ := hz
    have t2 : decide (((k : Int) + 1) < ((k : Int) + m)) = true := decide_eq_true (by omega)
    by_cases hlt : k + m < b.length
    ·have hc := HC.out _ hlt
     have hn := hno hlt
     have hlt2 : ((k + m : Nat) : Int) < (b.length : Int) := by omega
     clear hno
     generalize b[k + m] = c at hc hn
     go_wp2_with (first
      | (go_at_call 36; refine (rdigit_any _ _).mono ?_; rintro e w' ⟨rfl, hw'⟩; subst w')
      | (go_at_call 35; refine (rletter_any _ _).mono ?_; rintro e w' ⟨rfl, hw'⟩; subst w'))
     all_goals refine bodyPost_ret (v := _) (by simp [results, Tryd.results38, go_sem, *]; rfl) rfl ?_
     all_goals exact ⟨_, rfl, HV.out, bwTwo _ _ _⟩
    ·clear hno
     go_wp2_with (first
      | (go_at_call 36; refine (rdigit_any _ _).mono ?_; rintro e w' ⟨rfl, hw'⟩; subst w')
      | (go_at_call 35; refine (rletter_any _ _).mono ?_; rintro e w' ⟨rfl, hw'⟩; subst w'))
     all_goals refine bodyPost_ret (v := _) (by simp [results, Tryd.results38, go_sem, *]; rfl) rfl ?_
     all_goals exact ⟨_, rfl, HV.out, bwTwo _ _ _⟩
   ·have hA : (c0 == 48) = false ∨ ((c0 == 48) = true ∧ m ≤ 1) := by
     by_cases h48 : c0 = 48
     ·right
      exact ⟨by simpa using h48, by have : ¬ 1 < m := fun h => hz ⟨h48, h⟩; omega⟩
     ·left; simpa using h48
    have hB : (∃ c, w.cell? ⟨g, o + (k + m), none⟩ = some (.int .u8 c) ∧ isLt c = true ∧ isDg c = false ∧ k + m < b.length ∧ b[k + m]? = some c) ∨ (∃ c, w.cell? ⟨g, o + (k + m), none⟩ = some (.int .u8 c) ∧ isLt c = false ∧ isDg c = false ∧ k + m < b.length ∧ b[k + m]? = some c) ∨ (¬ k + m < b.length) := by
     by_cases hlt : k + m < b.length
     ·cases hl : isLt b[k + m]
      ·exact .inr (.inl ⟨_, HC.out _ hlt, hl, hno hlt, hlt, List.getElem?_eq_getElem hlt⟩)
      ·exact .inl ⟨_, HC.out _ hlt, hl, hno hlt, hlt, List.getElem?_eq_getElem hlt⟩
     ·exact .inr (.inr hlt)
    have HCN2 := hid (show cNum (b.drop k) = if b[k + m]?.map isLt = some true then .bad 6 m else if (numOf ((b.drop k).take m)).2 then .bad 9 0 else .tok 3 [] (numOf ((b.drop k).take m)).1 m by rw [HCN.out, if_neg hz])
    clear hno HCN hz
    rcases hB with ⟨c, hc, hl, hd, hlt, hge⟩ | hB
    ·have HV := hid (show RV k (cNum (b.drop k)) (.tuple #[.agg #[.int .i64 3, .string ⟨#[]⟩, .int .i64 0, .int .i64 (k : Nat)], .int .i64 ((k : Int) + m), .int .i64 6]) by
      rw [HCN2.out, hge]
      simp only [Option.map_some, hl, if_true]
      exact ⟨3, 0, k, ⟨#[]⟩, by simp⟩)
     have hlt2 : ((k + m : Nat) : Int) < (b.length : Int) := by omega
     clear hge HCN2
     rcases hA with hA | ⟨hA, hA2⟩
     all_goals
      go_wp2_with (first
       | (go_at_call 36; refine (rdigit_any _ _).mono ?_; rintro e w' ⟨rfl, hw'⟩; subst w')
       | (go_at_call 35; refine (rletter_any _ _).mono ?_; rintro e w' ⟨rfl, hw'⟩; subst w'))
      all_goals refine bodyPost_ret (v := _) (by simp [results, Tryd.results38, go_sem, *]; rfl) rfl ?_
      all_goals exact ⟨_, rfl, HV.out, bwTwo _ _ _⟩
    ·have hnl : b[k + m]?.map isLt ≠ some true := by
      rcases hB with ⟨c, _, hl, _, _, hge⟩ | hB
      ·rw [hge]; simp [hl]
      ·rw [List.getElem?_eq_none (by omega)]; simp
     have HCN3 := hid (show cNum (b.drop k) = if (numOf ((b.drop k).take m)).2 then .bad 9 0 else .tok 3 [] (numOf ((b.drop k).take m)).1 m by rw [HCN2.out, if_neg hnl])
     clear hnl HCN2
     have hB' : (∃ c, w.cell? ⟨g, o + (k + m), none⟩ = some (.int .u8 c) ∧ isLt c = false ∧ isDg c = false ∧ ((k + m : Nat) : Int) < (b.length : Int)) ∨ (¬ k + m < b.length) := by
      rcases hB with ⟨c, h1, h2, h3, h4, _⟩ | hB
      ·exact .inl ⟨c, h1, h2, h3, by omega⟩
      ·exact .inr hB
     clear hB
     rcases hA with hA | ⟨hA, hA2⟩ <;> rcases hB' with ⟨c, hc, hl, hd, hlt⟩ | hB'
     all_goals
      go_wp2_with (first
       | (go_at_call 36; refine (rdigit_any _ _).mono ?_; rintro e w' ⟨rfl, hw'⟩; subst w')
       | (go_at_call 35; refine (rletter_any _ _).mono ?_; rintro e w' ⟨rfl, hw'⟩; subst w'))
      go_loopw [9] (fun j wr => ∃ i, j = .int .i64 ((k + i : Nat) : Int) ∧ i ≤ m ∧ (numOf ((b.drop k).take i)).2 = false ∧ (0 ≤ (numOf ((b.drop k).take i)).1 ∧ (numOf ((b.drop k).take i)).1 ≤ 2305843009213693951) ∧ wr = (w.alloc tk0).alloc (.cells #[.int .i64 3, .string ⟨#[]⟩, .int .i64 (numOf ((b.drop k).take i)).1, .int .i64 (k : Nat)] 70)) (fun j _ => b.length - (intOf j).toNat)
      case atStart => exact ⟨0, by simp, Nat.zero_le _, by simp [numOf], by simp [numOf], by simp [numOf]⟩
      case round =>
       obtain ⟨i, rfl, him, hF, hbd, hwr⟩ := hrel
       subst wr
       by_cases hi : i < m
       ·have hil : k + i < b.length := by omega
        have hir : i < (b.drop k).length := by omega
        have hge : (b.drop k)[i] = b[k + i] := by simp
        have hdg : isDg b[k + i] = true := by rw [← hge]; exact twl_lt (by have := HFI.out; omega) hir
        have hc' := HC.out _ hil
        have hst := numOf_take_succ hir
        rw [hge] at hst
        have hb2 := numStep_bd hbd.1 hbd.2 hdg
        rw [← hst] at hb2
        have HB2 := hid hb2
        have HST := hid hst
        have hlim : (k : Int) + i < (k : Int) + m := by omega
        have hlib : ((k + i : Nat) : Int) < (b.length : Int) := by omega
        have HTM := hid (show (numOf ((b.drop k).take (i + 1))).2 = true → (numOf ((b.drop k).take m)).2 = true by
         intro h
         have e : (b.drop k).take m = (b.drop k).take (i + 1) ++ ((b.drop k).take m).drop (i + 1) := by
          conv => lhs; rw [← List.take_append_drop (i + 1) ((b.drop k).take m)]
          rw [List.take_take, Nat.min_eq_left (by omega)]
         rw [e]
         exact numOf_sticky h _)
        clear hst hb2 hge hir
        generalize b[k + i] = c' at hc' hdg HST
        have hpb : 48 ≤ c' ∧ c' ≤ 57 := by simpa [isDg] using hdg
        generalize hng : numOf ((b.drop k).take i) = ng at *
        obtain ⟨N, T⟩ := ng
        simp only at HST hbd hF
        subst hF
        have HNG := hid hng
        clear hng
        have etd : (2305843009213693951 - (c' - 48)).tdiv 10 = (2305843009213693951 - (c' - 48)) / 10 := Int.tdiv_eq_ediv_of_nonneg (by omega)
        by_cases ht : (2305843009213693951 - (c' - 48)) / 10 < N
        ·have hst : (numOf ((b.drop k).take (i + 1))).2 = true := by
          rw [HST.out]; unfold numStep; simp only; rw [etd, if_pos ht]
         have HV := hid (show RV k (cNum (b.drop k)) (.tuple #[.agg #[.int .i64 3, .string ⟨#[]⟩, .int .i64 N, .int .i64 (k : Nat)], .int .i64 (k : Int), .int .i64 9]) by
          rw [HCN3.out, HTM.out hst]
          exact ⟨3, N, k, ⟨#[]⟩, by simp⟩)
         clear hst etd
         go_wp2_with (first
          | (go_at_call 36; refine (rdigit_any _ _).mono ?_; rintro e w' ⟨rfl, hw'⟩; subst w')
          | (go_at_call 35; refine (rletter_any _ _).mono ?_; rintro e w' ⟨rfl, hw'⟩; subst w'))
         all_goals refine bodyPost_ret (v := _) (by simp [results, Tryd.results38, go_sem, *]; rfl) rfl ?_
         all_goals exact ⟨_, rfl, HV.out, bwTwo _ _ _⟩
        ·have hst : numOf ((b.drop k).take (i + 1)) = (10 * N + (c' - 48), false) := by
          rw [HST.out]; unfold numStep; simp only; rw [etd, if_neg (by omega)]
         have HST2 := hid hst
         clear hst etd
         go_wp2_with (first
          | (go_at_call 36; refine (rdigit_any _ _).mono ?_; rintro e w' ⟨rfl, hw'⟩; subst w')
          | (go_at_call 35; refine (rletter_any _ _).mono ?_; rintro e w' ⟨rfl, hw'⟩; subst w'))
         go_roundw
         case rel => exact ⟨i + 1, by go_num, by omega, by rw [HST2.out], HB2.out, by rw [HST2.out, Int.mul_comm 10 N]⟩
         case measure => simp [intOf]; omega
       ·obtain rfl : i = m := by omega
        have HV := hid (show RV k (cNum (b.drop k)) (.tuple #[.agg #[.int .i64 3, .string ⟨#[]⟩, .int .i64 (numOf ((b.drop k).take i)).1, .int .i64 (k : Nat)], .int .i64 ((k : Int) + i), .int .i64 0]) by
         rw [HCN3.out, hF]
         simp [RV, strOf_nil])
        have hlim : ¬ ((k : Int) + i < (k : Int) + i) := by omega
        clear hF HCN3
        generalize (numOf ((b.drop k).take i)).1 = N at *
        go_wp2_with (first
         | (go_at_call 36; refine (rdigit_any _ _).mono ?_; rintro e w' ⟨rfl, hw'⟩; subst w')
         | (go_at_call 35; refine (rletter_any _ _).mono ?_; rintro e w' ⟨rfl, hw'⟩; subst w'))
        all_goals refine bodyPost_ret (v := _) (by simp [results, Tryd.results38, go_sem, *]; rfl) rfl ?_
        all_goals exact ⟨_, rfl, HV.out, bwTwo _ _ _⟩
  ·have hc := HC.out _ hlt
   have hlt2 : ((k + m : Nat) : Int) < (b.length : Int) := by omega
   have HG1 := hid hg1
   clear hm1 hle hg1
   generalize b[k + m] = c at hc hp
   go_wp2_with (first
    | (go_at_call 36; refine (rdigit_any _ _).mono ?_; rintro e w' ⟨rfl, hw'⟩; subst w')
    | (go_at_call 35; refine (rletter_any _ _).mono ?_; rintro e w' ⟨rfl, hw'⟩; subst w'))
   go_roundw
   case rel => exact ⟨m + 1, by go_num, HG1.out, trivial⟩
   case measure => simp [intOf]; omega

end Go.Proofs.YtdhkcdehedbpcaaDoor

