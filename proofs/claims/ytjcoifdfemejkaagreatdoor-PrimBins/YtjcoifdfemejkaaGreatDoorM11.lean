/- The page's example holds: the contract of 'live'. · How the statements' frames are opened: the tables out of the condition; lists of words, bytes, texts. -/
import Derived.Test.YtjcoifdfemejkaaGreatDoorKCk
import Derived.Lib.SmallJoins
import Derived.Test.YtjcoifdfemejkaaGreatDoorTie
import Derived.Test.YtjcoifdfemejkaaGreatDoorCards
import Derived.ProofKit
import Derived.LaidMore
import Derived.OpenShut
import Derived.ShutString
import Derived.ChangeOld
import Derived.Below
import Derived.SevenTiedAt
set_option linter.unusedSimpArgs false
set_option linter.unusedVariables false
namespace Go.Proofs.YtjcoifdfemejkaaGreatDoor
open Go Go.RowKit

def Hl0 : AHeap := (9, [])
def Hl1 : AHeap := (9, [oStr [97]])
def Hl2 : AHeap := (9, [oStr [97], oStr [98]])
def Hl3 : AHeap := (9, [oStr [97], oStr [98], oStr [97, 98]])
def Hl4 : AHeap := (9, [oStr [97], oStr [98], oStr [97, 98], oArr [20]])
theorem l91 : aMakeE Hl0 (oStr [97]) = 0 ∧ aMakeV Hl0 (oStr [97]) = 2 := by decide
theorem l91h : aMakeH Hl0 (oStr [97]) = Hl1 := by unfold aMakeH; rw [l91.1, if_pos rfl]; rfl
theorem l92 : aMakeE Hl1 (oStr [98]) = 0 ∧ aMakeV Hl1 (oStr [98]) = 6 := by decide
theorem l92h : aMakeH Hl1 (oStr [98]) = Hl2 := by unfold aMakeH; rw [l92.1, if_pos rfl]; rfl
theorem l93 : aMakeE Hl2 (oStr [97, 98]) = 0 ∧ aMakeV Hl2 (oStr [97, 98]) = 10 := by decide
theorem l93h : aMakeH Hl2 (oStr [97, 98]) = Hl3 := by unfold aMakeH; rw [l93.1, if_pos rfl]; rfl
theorem l94 : aMakeE Hl3 (oArr [20]) = 0 ∧ aMakeV Hl3 (oArr [20]) = 14 := by decide
theorem l94h : aMakeH Hl3 (oArr [20]) = Hl4 := by unfold aMakeH; rw [l94.1, if_pos rfl]; rfl
theorem l9k : kk Hl2 2 = 1 ∧ kk Hl2 6 = 1 ∧ kk Hl3 10 = 1 ∧ kk Hl3 6 = 1 ∧ kd 4 = 0 ∧ kk Hl4 14 = 2 := by decide
theorem l9b : (ob Hl2 2).bytes ++ (ob Hl2 6).bytes = [97, 98] ∧ (ob Hl3 10).bytes = [97, 98] := by decide
theorem l9e : iF (aAtE Hl4 14 (nm 4)) = 3 ∧ iV (aAtE Hl4 14 (nm 4)) (aAtV Hl4 14 (nm 4)) = 0 := by decide
theorem own_nx {w w' : World} {base : Nat} {e : TypeId} {size : Nat} {v : Value} {n : Nat} {xs : List Value} {bs bs' : List Nat} (h : w.ownsRow base e size v n xs) (hs : ∀ b ∈ bs, b < base) (hn : Nx bs w w' bs') : w'.ownsRow base e size v n xs :=
  own_same h (fun k hk => hn.1.block k (own_lt h hk) (fun hm => by have := hs k hm; have := (h.lt k hk).1; omega))
theorem u_small {n : Int} (h : 0 ≤ n ∧ n ≤ 1000) : U n := by unfold U; omega

set_option maxHeartbeats 4000000 in
set_option maxRecDepth 100000 in
theorem live_any (w : World) (ht : Tf w) : Calls Tryz.prog 5 #[] w fun e w' => e = .returned (.bool true) ∧ Bw w w' := by
  have HT := hid ht
  have hu20 : ∀ x ∈ ([20] : List Int), U x := by intro x hx; rw [List.mem_singleton] at hx; subst hx; exact ⟨by decide, by decide⟩
  have hu97 : ∀ x ∈ ([97] : List Int), 0 ≤ x ∧ x ≤ 255 := by intro x hx; rw [List.mem_singleton] at hx; subst hx; exact ⟨by decide, by decide⟩
  have hu98 : ∀ x ∈ ([98] : List Int), 0 ≤ x ∧ x ≤ 255 := by intro x hx; rw [List.mem_singleton] at hx; subst hx; exact ⟨by decide, by decide⟩
  have hu2 : ∀ x ∈ ([97, 98] : List Int), 0 ≤ x ∧ x ≤ 255 := by intro x hx; simp at hx; omega
  have HU := hid (And.intro hu20 (And.intro hu97 (And.intro hu98 hu2)))
  have hcv := fun w => Lib.run_convert_bytes_const (P := Tryz.prog) w 46 5 #[.int .u8 97] 1 1 Tryz.underlying46 (by kernel_rfl)
  have hcw := fun w => Lib.run_convert_bytes_const (P := Tryz.prog) w 46 5 #[.int .u8 98] 1 1 Tryz.underlying46 (by kernel_rfl)
  simp only [List.size_toArray, List.length_cons, List.length_nil] at hcv hcw
  clear hu20 hu97 hu98 hu2 ht
  go_enter Tryz.func5, Tryz.ntmps5
  go_wp2_with (first
    | (go_at_call 15; refine (new_ok 9 _ (by decide) (by decide)).mono ?_; rintro e w1 ⟨rfl, hs1, hb1, hl1⟩; have S1 := hid (show HS w1 w.heap.size Hl0 [w.heap.size] from hs1); have B1 := hid (And.intro hb1 (show ∀ b ∈ [w.heap.size], w.heap.size ≤ b by simp)); clear hs1 hb1 hl1)
    | (go_at_call 16; have _g := S1; clear _g; (fail_if_success (have _g := S2)); refine (str_any (fun _ => True) _ [97] _ (S1.out.bw (Bw.alloc (Bw.refl _) _)) (sl_new' _ [.int .u8 97] 5 _ 1 rfl) HU.out.2.1 (by decide)).mono ?_; rw [l91.1, l91.2, l91h]; rintro e w2 ⟨rfl, bs2, hs2, hn2⟩; have S2 := hid hs2; have B2 := hid (hn2.bw (Bw.alloc B1.out.1 _) B1.out.2); clear hs2 hn2)
    | (go_at_call 16; have _g := S2; clear _g; refine (str_any (fun _ => True) _ [98] _ (S2.out.bw (Bw.alloc (Bw.refl _) _)) (sl_new' _ [.int .u8 98] 5 _ 1 rfl) HU.out.2.2.1 (by decide)).mono ?_; rw [l92.1, l92.2, l92h]; rintro e w3 ⟨rfl, bs3, hs3, hn3⟩; have S3 := hid hs3; have B3 := hid (hn3.bw (Bw.alloc B2.out.1 _) B2.out.2); clear hs3 hn3)
    | (go_at_call_of 7 (Value.int .u64 2); refine (bin_join 2 6 (u_small (by decide)) (u_small (by decide)) S3.out l9k.1 l9k.2.1).mono ?_; rw [l9b.1, l93.1, l93.2, l93h, show mF 0 = 0 from rfl]; rintro e w4 ⟨rfl, bs4, hs4, hn4⟩; have S4 := hid hs4; have B4 := hid (hn4.bw B3.out.1 B3.out.2); clear hs4 hn4)
    | (go_at_call 17; refine (bytes_yes 10 (u_small (by decide)) _ S4.out l9k.2.2.1).mono ?_; rw [l9b.2]; rintro e w5 ⟨r5, rfl, ho5, hb5⟩; obtain ⟨a5, c5, rfl⟩ := own_form ho5; have O5 := hid ho5; have L5 := hid (fun b (hm : b ∈ bs4) => S4.out.lt hm); have S5 := hid (S4.out.bw hb5); have B5 := hid (And.intro (B4.out.1.trans hb5) B4.out.2); clear ho5 hb5)
    | (go_at_call_of 7 (Value.int .u64 4); refine (bin_type 4 6 (u_small (by decide)) (u_small (by decide)) S5.out l9k.2.2.2.2.1 l9k.2.2.2.1).mono ?_; rintro e w' ⟨rfl, hw'⟩; subst w')
    | (go_at_call 18; refine (arr_any (fun _ => True) _ [20] _ (S5.out.bw (Bw.alloc (Bw.refl _) _)) (sl_new _ [.int .u64 20] 27 1 rfl) HU.out.1 (by decide)).mono ?_; rw [l94.1, l94.2, l94h]; rintro e w6 ⟨rfl, bs6, hs6, hn6⟩; have S6 := hid hs6; have B6 := hid (hn6.bw (Bw.alloc B5.out.1 _) B5.out.2); have Y6 := hid (show By w6 (.slice a5 2 c5) [97, 98] from ⟨own_sl (own_nx (own_bw O5.out (Bw.alloc (Bw.refl _) _)) L5.out hn6) (fun _ _ => trivial), HU.out.2.2.2, by decide⟩); clear hs6 hn6)
    | (go_at_call 19; refine (index_arr 14 4 (u_small (by decide)) (u_small (by decide)) S6.out l9k.2.2.2.2.2 (show N 4 from rfl)).mono ?_; rw [l9e.1, l9e.2]; rintro e w7 ⟨rfl, hb7⟩; have B7 := hid (B6.out.1.trans hb7); have hcx : (convert 46 9 (.slice a5 2 c5)).run Tryz.prog w7 = .ok (.string ⟨#[97, 98]⟩) w7 := (Y6.out.bw hb7).conv0; have HT7 := hid (HT.out.bw B7.out); clear hb7)
    | (go_at_call 20; refine (FaultText_low 1 (by decide) HT7.out).mono ?_; rw [show strOfNums (thr.getD 1 []) = ⟨#[116, 121, 112, 101]⟩ from rfl]; rintro e w' ⟨rfl, hw'⟩; subst w')
    | fail)
  all_goals go_ret
  all_goals exact ⟨rfl, B7.out⟩

end Go.Proofs.YtjcoifdfemejkaaGreatDoor

set_option linter.unusedVariables false
set_option linter.unusedSimpArgs false
namespace Go.Proofs.YtjcoifdfemejkaaGreatDoor
open Go.ChangeShapes Go.WideShapes Go.ChangeAt Go.RowKit

theorem ownK : ownKnob Tryz.prog.godebug = none := by kernel_rfl
theorem laidOut : laidOutB Tryz.prog = true := by kernel_rfl

abbrev laidT : List (String × DataW Unit) := [("jacquard/prim.thrownTexts", Rows.laid_jacquard_prim_thrownTexts), ("jacquard/prim.endingTexts", Rows.laid_jacquard_prim_endingTexts)]

/-- The door's own heap meets the condition. -/
theorem door_metT (os : Os) (args : Array Value) : laidMetH Tryz.prog laidT ((World.doorLaid Tryz.prog 400 os).forCall (fun _ _ => 0) ⟨#[], args, []⟩).memory :=
  laidMetH_of_parts3 (fuel := 8) (laidMet_of_run' 8 (by kernel_rfl) (by kernel_rfl)) (by kernel_rfl) (by kernel_rfl)

theorem gThr : Tryz.prog.globalNamed "jacquard/prim.thrownTexts" = some 0 := by kernel_rfl
theorem tThr : (Tryz.prog.globals[0]?).map (·.type) = some 115 := by kernel_rfl
theorem uThr : Tryz.prog.underlying 115 = some (.array 9 9) := by kernel_rfl
theorem gEnd : Tryz.prog.globalNamed "jacquard/prim.endingTexts" = some 1 := by kernel_rfl
theorem tEnd : (Tryz.prog.globals[1]?).map (·.type) = some 116 := by kernel_rfl
theorem uEnd : Tryz.prog.underlying 116 = some (.array 3 9) := by kernel_rfl
theorem under3 : Tryz.prog.underlying 3 = some (.int .i64) := by kernel_rfl
theorem cells9 : Tryz.prog.cellsOf 9 = 1 := by kernel_rfl
theorem cells3 : Tryz.prog.cellsOf 3 = 1 := by kernel_rfl

theorem thr_datum : (Rows.laid_jacquard_prim_thrownTexts : DataW Unit) = .agg (thr.map fun s => .lit (.string (strOfNums s).data.toList)) := by
  simp [Rows.laid_jacquard_prim_thrownTexts, thr, strOfNums]
theorem edg_datum : (Rows.laid_jacquard_prim_endingTexts : DataW Unit) = .agg (edg.map fun s => .lit (.string (strOfNums s).data.toList)) := by
  simp [Rows.laid_jacquard_prim_endingTexts, edg, strOfNums]

set_option maxRecDepth 100000 in
theorem thr_ofT {W : World} (h : laidMetH Tryz.prog laidT W) : 0 < W.heap.size ∧ ∀ i s, thr[i]? = some s → W.cell? ⟨0, i, none⟩ = some (.string (strOfNums s)) := by
  rw [MakeChecks.laidMetH_plain _ _ _ (by kernel_rfl)] at h
  obtain ⟨ps, ⟨g0, t0, cs0, f0, p0, q0, hg0, ht0, hv0, hd0, _, _⟩, _⟩ := h
  obtain rfl := Option.some.inj (gThr.symm.trans hg0)
  obtain rfl := Option.some.inj (tThr.symm.trans ht0)
  obtain ⟨xs, m1, rfl, hx1, hlen, hn, hel⟩ := DataW.trod_array uThr hd0
  rw [cells9] at hel
  simp only [Prod.mk.injEq] at hx1
  rw [thr_datum] at hx1
  have hxs : (thr.map fun s => (DataW.lit (.string (strOfNums s).data.toList) : DataW Unit)) = xs.map (·.1) := by simpa using hx1.1
  have key : ∀ i s, thr[i]? = some s → W.cell? ⟨0, i, none⟩ = some (.string (strOfNums s)) := by
    intro i s hs
    have hi : i < 9 := (List.getElem?_eq_some_iff.1 hs).1
    have h1 := hel i hi
    have hxi : i < xs.length := by omega
    rw [List.getElem?_eq_getElem hxi] at h1
    obtain ⟨z, e1, e2, _⟩ := DataW.trod_string under9 h1
    have h2 : (thr.map fun s => (DataW.lit (.string (strOfNums s).data.toList) : DataW Unit))[i]? = (xs.map (·.1))[i]? := by rw [hxs]
    rw [List.getElem?_map, hs, List.getElem?_map, List.getElem?_eq_getElem hxi, e2] at h2
    simp only [Option.map_some, Option.some.injEq, DataW.lit.injEq, Lit.string.injEq] at h2
    have hz : z = strOfNums s := by
      cases z
      simp only [strOfNums] at h2 ⊢
      congr 1
      exact Array.toList_inj.1 h2.symm
    rw [World.var?_cell hg0 hv0 i, ← hz]
    have e3 := congrArg (·[0]?) e1
    simpa [List.getElem?_take, List.getElem?_drop] using e3
  exact ⟨World.block_lt_of_cell? W _ (key 0 _ rfl), key⟩

set_option maxRecDepth 100000 in
theorem edg_ofT {W : World} (h : laidMetH Tryz.prog laidT W) : 1 < W.heap.size ∧ ∀ i s, edg[i]? = some s → W.cell? ⟨1, i, none⟩ = some (.string (strOfNums s)) := by
  rw [MakeChecks.laidMetH_plain _ _ _ (by kernel_rfl)] at h
  obtain ⟨ps, ⟨g, t, c, f, p, q, _, _, _, _, r0, _⟩, _⟩ := h
  obtain ⟨g0, t0, cs0, f0, p0, q0, hg0, ht0, hv0, hd0, _, _⟩ := r0
  obtain rfl := Option.some.inj (gEnd.symm.trans hg0)
  obtain rfl := Option.some.inj (tEnd.symm.trans ht0)
  obtain ⟨xs, m1, rfl, hx1, hlen, hn, hel⟩ := DataW.trod_array uEnd hd0
  rw [cells9] at hel
  simp only [Prod.mk.injEq] at hx1
  rw [edg_datum] at hx1
  have hxs : (edg.map fun s => (DataW.lit (.string (strOfNums s).data.toList) : DataW Unit)) = xs.map (·.1) := by simpa using hx1.1
  have key : ∀ i s, edg[i]? = some s → W.cell? ⟨1, i, none⟩ = some (.string (strOfNums s)) := by
    intro i s hs
    have hi : i < 3 := (List.getElem?_eq_some_iff.1 hs).1
    have h1 := hel i hi
    have hxi : i < xs.length := by omega
    rw [List.getElem?_eq_getElem hxi] at h1
    obtain ⟨z, e1, e2, _⟩ := DataW.trod_string under9 h1
    have h2 : (edg.map fun s => (DataW.lit (.string (strOfNums s).data.toList) : DataW Unit))[i]? = (xs.map (·.1))[i]? := by rw [hxs]
    rw [List.getElem?_map, hs, List.getElem?_map, List.getElem?_eq_getElem hxi, e2] at h2
    simp only [Option.map_some, Option.some.injEq, DataW.lit.injEq, Lit.string.injEq] at h2
    have hz : z = strOfNums s := by
      cases z
      simp only [strOfNums] at h2 ⊢
      congr 1
      exact Array.toList_inj.1 h2.symm
    rw [World.var?_cell hg0 hv0 i, ← hz]
    have e3 := congrArg (·[0]?) e1
    simpa [List.getElem?_take, List.getElem?_drop] using e3
  exact ⟨World.block_lt_of_cell? W _ (key 0 _ rfl), key⟩

theorem tf_of_laidT {W : World} (h : laidMetH Tryz.prog laidT W) : Tf W := ⟨⟨(thr_ofT h).1, (edg_ofT h).1⟩, (thr_ofT h).2, (edg_ofT h).2⟩

theorem cells_one {w : World} {a : Addr} {v : Value} (h : w.cells? 0 a 1 = some [v]) : w.cell? a = some v := by
  unfold World.cells? at h
  rw [if_pos (Nat.zero_le _), show List.range 1 = [0] from rfl] at h
  have ea : a.add 0 = a := by simp [Addr.add]
  cases h0 : w.cell? (a.add 0) with
  | none => simp [h0] at h
  | some u =>
    simp [h0] at h
    rw [ea, h] at h0
    exact h0

theorem list_of {α : Type} (q : Nat → α → Prop) : ∀ (n : Nat), (∀ i, i < n → ∃ a, q i a) → ∃ l : List α, l.length = n ∧ ∀ i (hi : i < l.length), q i l[i]
  | 0, _ => ⟨[], rfl, fun i hi => by simp at hi⟩
  | n + 1, h => by
    obtain ⟨l, hl, hq⟩ := list_of q n (fun i hi => h i (by omega))
    obtain ⟨a, ha⟩ := h n (by omega)
    refine ⟨l ++ [a], by simp [hl], fun i hi => ?_⟩
    by_cases hi2 : i < l.length
    · rw [List.getElem_append_left hi2]; exact hq i hi2
    · have : i = l.length := by simp at hi; omega
      subst this
      rw [List.getElem_append_right (Nat.le_refl _)]
      simpa [hl] using ha

theorem trod_list {α H : Type} {enc : TypeId × Value → H} {w : World} {T E : TypeId} {fuel : Nat} {cs : List Value} {x : DataW H × List MemPlace} (mk : α → Value) (ok : α → Prop)
    (ht : Tryz.prog.underlying T = some (.slice E)) (hc : Tryz.prog.cellsOf E = 1)
    (hel : ∀ n cs x, DataW.trod enc Tryz.prog w 0 (fun _ => true) true n E cs = some x → ∃ a, cs = [mk a] ∧ ok a)
    (h : DataW.trod enc Tryz.prog w 0 (fun _ => true) true fuel T cs = some x) :
    ∃ (v : Value) (l : List α), cs = [v] ∧ Sl w (fun _ => True) v l.length 1 (l.map mk) ∧ (∀ a ∈ l, ok a) ∧ l.length ≤ maxLen := by
  rcases DataW.trod_slice ht h with ⟨rfl, _⟩ | ⟨ad, len, cap, elems, rest, n, _, rfl, _, _, hl, hm, hlen, he, _, _⟩
  · exact ⟨_, [], rfl, Sl.nil _ _ 1, fun a ha => by simp at ha, Nat.zero_le _⟩
  · rw [hc] at he
    have key : ∀ i, i < len → ∃ a, w.cell? (ad.add (i * 1)) = some (mk a) ∧ ok a := by
      intro i hi
      have h1 := he i hi
      obtain ⟨y, hy⟩ : ∃ y, elems[i]? = some y := ⟨_, List.getElem?_eq_getElem (by omega)⟩
      rw [hy, Option.bind_eq_some_iff] at h1
      obtain ⟨cs', hcs, htr⟩ := h1
      obtain ⟨a, rfl, hok⟩ := hel _ _ _ htr
      exact ⟨a, cells_one hcs, hok⟩
    obtain ⟨l, hll, hq⟩ := list_of _ len key
    refine ⟨_, l, rfl, ⟨by simp, some ad, cap, by rw [hll], ⟨by omega, fun h => by cases h⟩, ?_⟩, fun a ha => ?_, by omega⟩
    · by_cases h0 : len = 0
      · exact .inl (by omega)
      · have hc0 := (hq 0 (by omega)).1
        obtain ⟨b, off, spot⟩ := ad
        have hspot : spot = none := by simpa [Addr.add] using World.cell?_spot hc0
        subst hspot
        have hlt : b < w.heap.size := by simpa [Addr.add] using World.block_lt_of_cell? w _ hc0
        refine .inr ⟨b, off, rfl, hlt, trivial, fun i hi => ?_⟩
        have hil : i < l.length := by omega
        have := (hq i hil).1
        have e1 : (⟨b, off, none⟩ : Addr).add (i * 1) = ⟨b, off + i, none⟩ := by
          rw [Nat.mul_one]
          unfold Addr.add
          split
          · rename_i h0; subst h0; rfl
          · rfl
        rw [e1] at this
        rw [this]; simp [hil]
    · obtain ⟨i, hi, rfl⟩ := List.getElem_of_mem ha
      exact (hq i hi).2

theorem cells5 : Tryz.prog.cellsOf 5 = 1 := by kernel_rfl

set_option maxRecDepth 100000 in
theorem open_bytes {H : Type} {enc : TypeId × Value → H} {W : World} {base : Nat} {v : Value} {d : DataW H} {ps : List MemPlace}
    (hval : Value.okWide Tryz.prog W .any base 46 v) (h : DataW.Trod enc Tryz.prog W 0 (fun _ => true) true 46 v d ps) :
    ∃ l : List Int, By W v l := by
  obtain ⟨a, len, cap, rfl⟩ := okWide_slice under22 hval
  obtain ⟨fuel, hf⟩ := h
  obtain ⟨v, l, e, h1, h2, h3⟩ := trod_list (Value.int .u8) (fun c => 0 ≤ c ∧ c ≤ 255) under22 cells5 (fun n cs x h => by
    obtain ⟨a, rfl, _, wa⟩ := DataW.trod_int under5 h
    have := bounds_u8 wa
    exact ⟨a, rfl, by omega⟩) hf
  simp [Value.cells] at e
  subst e
  exact ⟨l, h1, h2, by unfold maxLen at h3; omega⟩

set_option maxRecDepth 100000 in
theorem open_text {H : Type} {enc : TypeId × Value → H} {W : World} {base : Nat} {v : Value} {d : DataW H} {ps : List MemPlace}
    (hval : Value.okWide Tryz.prog W .any base 9 v) (h : DataW.Trod enc Tryz.prog W 0 (fun _ => true) true 9 v d ps) :
    ∃ l : List Int, v = .string (strOfNums l) ∧ (∀ c ∈ l, 0 ≤ c ∧ c ≤ 255) ∧ l.length ≤ maxLen := by
  obtain ⟨s, rfl, _, _, hm⟩ := Go.ChangeMaps.open_string under9 hval h
  refine ⟨s.data.toList.map fun u => (u.toNat : Int), ?_, ?_, by rw [List.length_map, Array.length_toList]; exact hm⟩
  · congr 1
    cases s
    simp [strOfNums, List.map_map, Function.comp_def]
  · intro c hc
    obtain ⟨u, _, rfl⟩ := List.mem_map.1 hc
    have := u.toNat_lt
    omega

theorem cellsV : Tryz.prog.cellsOf 27 = 1 := by kernel_rfl
theorem underV : Tryz.prog.underlying 27 = some (.int .u64) := by kernel_rfl

theorem trod_vals {H : Type} {enc : TypeId × Value → H} {w : World} {fuel : Nat} {cs : List Value} {x : DataW H × List MemPlace} (h : DataW.trod enc Tryz.prog w 0 (fun _ => true) true fuel 47 cs = some x) :
    ∃ (v : Value) (l : List Int), cs = [v] ∧ Sl w (fun _ => True) v l.length 1 (l.map (Value.int .u64)) ∧ (∀ a ∈ l, U a) ∧ l.length ≤ maxLen :=
  trod_list (Value.int .u64) U Tryz.underlying47 cellsV (fun n cs x h => by
    obtain ⟨a, rfl, _, wa⟩ := DataW.trod_int underV h
    have := bounds_u64 wa
    exact ⟨a, rfl, by unfold U; omega⟩) h

set_option maxRecDepth 100000 in
theorem open_vals {H : Type} {enc : TypeId × Value → H} {W : World} {base : Nat} {v : Value} {d : DataW H} {ps : List MemPlace}
    (hval : Value.okWide Tryz.prog W .any base 47 v) (h : DataW.Trod enc Tryz.prog W 0 (fun _ => true) true 47 v d ps) :
    ∃ l : List Int, Sl W (fun _ => True) v l.length 1 (l.map (Value.int .u64)) ∧ (∀ a ∈ l, U a) ∧ l.length ≤ maxLen := by
  obtain ⟨a, len, cap, rfl⟩ := okWide_slice Tryz.underlying47 hval
  obtain ⟨fuel, hf⟩ := h
  obtain ⟨v, l, e, h1, h2, h3⟩ := trod_vals hf
  simp [Value.cells] at e
  subst e
  exact ⟨l, h1, h2, h3⟩

theorem cellsSt : Tryz.prog.cellsOf 9 = 1 := by kernel_rfl

set_option maxRecDepth 100000 in
theorem open_strs {H : Type} {enc : TypeId × Value → H} {W : World} {base : Nat} {v : Value} {d : DataW H} {ps : List MemPlace}
    (hval : Value.okWide Tryz.prog W .any base 48 v) (h : DataW.Trod enc Tryz.prog W 0 (fun _ => true) true 48 v d ps) :
    ∃ l : List ByteArray, Sl W (fun _ => True) v l.length 1 (l.map Value.string) ∧ l.length ≤ maxLen := by
  obtain ⟨a, len, cap, rfl⟩ := okWide_slice Tryz.underlying48 hval
  obtain ⟨fuel, hf⟩ := h
  obtain ⟨v, l, e, h1, h2, h3⟩ := trod_list Value.string (fun _ => True) Tryz.underlying48 cellsSt (fun n cs x h => by
    obtain ⟨a, rfl, _⟩ := DataW.trod_string under9 h
    exact ⟨a, rfl, trivial⟩) hf
  simp [Value.cells] at e
  subst e
  exact ⟨l, h1, h3⟩

end Go.Proofs.YtjcoifdfemejkaaGreatDoor

