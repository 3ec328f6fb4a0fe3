/- The law's own example. · A scope in memory, cell by cell; plain facts of a program's globals and functions, one by one. -/
import Derived.Test.YtdhkcdehedbpcaaDoorM35
import Derived.Lib.SlBytesConst
import Derived.Test.YtdhkcdehedbpcaaDoorM40
import Derived.BigQuiet
set_option linter.unusedSimpArgs false
set_option linter.unusedVariables false
namespace Go.Proofs.YtdhkcdehedbpcaaDoor
open Go Go.RowKit

theorem by_alloc8 (w : World) (l : List Int) (fr : Nat × Nat) (hl : l.length ≤ 9223372036854775807) (hb : ∀ c ∈ l, 0 ≤ c ∧ c ≤ 255) : By (w.alloc (.cells (l.map (Value.int .u8)).toArray 5 fr)) (.slice (some ⟨w.heap.size, 0, none⟩) l.length l.length) l := by
  refine ⟨⟨by simp, _, _, rfl, ⟨Nat.le_refl _, fun h => by cases h⟩, .inr ⟨w.heap.size, 0, rfl, by simp, trivial, fun i hi => ?_⟩⟩, hb, hl⟩
  rw [World.cell?_alloc_mark]
  simp
theorem num_any (n : Int) (w : World) :
    Calls Tryd.prog 13 #[.int .i64 n] w fun e w' => e = .returned (.int .i64 n) ∧ w' = w := by
  go_enter Tryd.func13, Tryd.ntmps13
  go_wp2
  go_ret
  exact ⟨rfl, rfl⟩

theorem prim_len {w : World} (h : PrM w) : Calls Tryd.prog 19 #[.string ⟨#[108, 101, 110]⟩] w fun e w' => e = .returned (.tuple #[.int .i64 1, .bool true]) ∧ Bw w w' := by
  have h1 := prim_any h ⟨#[108, 101, 110]⟩
  rw [show primF ⟨#[108, 101, 110]⟩ = some 1 from by kernel_rfl] at h1
  exact h1

set_option maxRecDepth 100000 in
set_option maxHeartbeats 8000000 in
theorem live_any (w : World) (hh : Sh w) (hp : PrM w) : Calls Tryd.prog 8 #[] w fun e w' => e = .returned (.bool true) ∧ Bw w w' := by
  have HH := hid hh
  have HP := hid hp
  clear hh hp
  have hcv := fun (W : World) (C : Array Value) (n c : Nat) => Lib.run_convert_bytes_const (P := Tryd.prog) W 22 5 C n c under22 under5
  go_enter Tryd.func8, Tryd.ntmps8
  go_upto_region 2 with (first
    | (go_at_call 9; refine (live_parsed (by_alloc8 w liveB _ (by decide) (by decide))).mono ?_; rintro e w1 ⟨a1, c1, rfl, hn1, hb1⟩; have HB1 := hid (Bw.trans (Bw.alloc (Bw.refl w) _) hb1); obtain ⟨g, c, e1, hnc⟩ := live_nc hn1; (obtain ⟨e2, e3⟩ : a1 = some ⟨g, 0, none⟩ ∧ c1 = c := by cases e1; exact ⟨rfl, rfl⟩); subst e2 e3; have HNC := hid hnc; clear hn1 hb1 e1 hnc)
    | fail)
  clear hcv
  go_upto_region 3 with (first
    | (go_at_call 10; refine (resolve_live HNC.out (HH.out.bw HB1.out) (HP.out.bw HB1.out)).mono ?_; rintro e w2 ⟨vf, ua, uc, vg, he, hr, hb2⟩; (obtain ⟨⟨fb, fc, cb, cc, e1, fl, q11, cl, q0⟩, ⟨ga, gc, e2⟩⟩ := hr); subst e1; subst e2; subst he; have HB2 := hid (HB1.out.trans hb2); have HQ := hid (And.intro q11 q0); have HL := hid (And.intro fl cl); clear hb2 q11 q0 fl cl)
    | fail)
  have S2 := hid (Blk.new w2 #[.slice (some ⟨fb, 0, none⟩) 3 fc, .slice ua 13 uc, .slice ga 2 gc] 31)
  have BW2 := hid (Bw.alloc (Bw.refl w2) (.cells #[.slice (some ⟨fb, 0, none⟩) 3 fc, .slice ua 13 uc, .slice ga 2 gc] 31))
  go_upto_region 4 with (first
    | (go_at_call 10; refine (resolve_nil _).mono ?_; rintro e w3 ⟨rfl, hb3⟩; have HB3 := hid hb3; clear hb3)
    | fail)
  have BW3 := hid (HB3.out.alloc (.cells #[.slice none 0 0, .slice none 0 0, .slice none 0 0] 31))
  go_upto_region 5 with (first
    | (go_at_call 19; refine (prim_len (HP.out.bw ((HB2.out.trans BW2.out).trans BW3.out))).mono ?_; rintro e w4 ⟨rfl, hb4⟩; have HB4 := hid hb4; clear hb4)
    | fail)
  have B24 := hid (BW3.out.trans HB4.out)
  have B4 := hid (BW2.out.trans B24.out)
  have S4 := S2.out.bw B24.out
  have s0 := S4.cell 0
  have s1 := S4.cell 1
  have s2 := S4.cell 2
  simp only [List.getElem?_toArray, List.getElem?_cons_zero, List.getElem?_cons_succ] at s0 s1 s2
  have sl := S4.lt
  have f11 : w4.cell? ⟨fb, 11, none⟩ = some (.slice (some ⟨cb, 0, none⟩) 1 cc) := by rw [← HQ.out.1]; exact World.cell?_of_block (a := ⟨fb, 11, none⟩) (B4.out.block fb HL.out.1)
  have f0 : w4.cell? ⟨cb, 0, none⟩ = some (.int .i64 1) := by rw [← HQ.out.2]; exact World.cell?_of_block (a := ⟨cb, 0, none⟩) (B4.out.block cb HL.out.2)
  have fl := Nat.lt_of_lt_of_le HL.out.1 B4.out.size
  have cl := Nat.lt_of_lt_of_le HL.out.2 B4.out.size
  clear S4
  go_wp2_with (first
    | (go_at_call 13; refine (num_any _ _).mono ?_; rintro e w' ⟨rfl, hw'⟩; subst w')
    | fail)
  all_goals go_ret
  all_goals exact ⟨rfl, HB2.out.trans B4.out⟩

end Go.Proofs.YtdhkcdehedbpcaaDoor

set_option linter.unusedSimpArgs false
set_option linter.unusedVariables false
namespace Go.Proofs.YtdhkcdehedbpcaaDoor
open Go Go.RowKit

theorem own_at {w : World} {base : Nat} {e : TypeId} {size : Nat} {a : Option Addr} {n cap : Nat} {xs : List Value} (h : w.ownsRow base e size (.slice a n cap) n xs) (hn : 0 < n) : ∃ g, a = some ⟨g, 0, none⟩ ∧ g < w.heap.size ∧ ∀ i, i < n * size → w.cell? ⟨g, i, none⟩ = xs[i]? := by
  obtain ⟨g, c, e, hl, _, hc⟩ := own_some (own_base h (Nat.zero_le _)) hn
  injection e with e1 e2 e3
  exact ⟨g, e1, hl, fun i hi => by have := hc i hi; simpa using this⟩

section
variable {w : World} {vf vu vg : Value} {z : ZS} {a : Option Addr} {n cap : Nat}
theorem ScM.fn (h : ScM w (.slice a n cap) vu vg z) (hn : n = z.funs.length) {i : Nat} {f : ZF} (hf : z.funs[i]? = some f) :
    ∃ b, a = some ⟨b, 0, none⟩ ∧ b < w.heap.size ∧ w.cell? ⟨b, i * 4, none⟩ = some (.int .i64 f.node) ∧ w.cell? ⟨b, i * 4 + 1, none⟩ = some (.int .i64 f.params) ∧ w.cell? ⟨b, i * 4 + 2, none⟩ = some (.int .i64 f.slots) ∧
      ∃ cv, w.cell? ⟨b, i * 4 + 3, none⟩ = some cv ∧ w.ownsRow 0 59 2 cv f.caps.length (rowP f.caps) := by
  obtain ⟨K, hK, hr, hc⟩ := h.f
  have hlen : K.length = n := by rw [hn, ← hK, List.length_map]
  rw [hlen] at hr
  have hi : i < n := by rw [hn]; exact (List.getElem?_eq_some_iff.1 hf).1
  obtain ⟨b, e, hl, hcell⟩ := own_at hr (by omega)
  obtain ⟨k, hk⟩ : ∃ k, K[i]? = some k := ⟨_, List.getElem?_eq_getElem (by omega)⟩
  have hkf : k.f = f := by
    have : (K.map FK.f)[i]? = some k.f := by rw [List.getElem?_map, hk]; rfl
    rw [hK, hf] at this
    exact (Option.some.inj this).symm
  have g : ∀ j, j < 4 → w.cell? ⟨b, i * 4 + j, none⟩ = (fnC k)[j]? := fun j hj => by
    rw [hcell _ (by omega)]; exact flat_get8 fnC 4 (fun _ => rfl) K i j k hk hj
  refine ⟨b, e, hl, by have := g 0 (by omega); rw [Nat.add_zero] at this; rw [this, ← hkf]; rfl, by rw [g 1 (by omega), ← hkf]; rfl, by rw [g 2 (by omega), ← hkf]; rfl, k.cv, by rw [g 3 (by omega)]; rfl, ?_⟩
  have := hc i k hk
  rw [← hkf]
  exact this
theorem ScM.use (h : ScM w vf (.slice a n cap) vg z) (hn : n = z.uses.length) {x : Nat} {u : Int × Int} (hu : z.uses[x]? = some u) :
    ∃ b, a = some ⟨b, 0, none⟩ ∧ b < w.heap.size ∧ w.cell? ⟨b, x * 2, none⟩ = some (.int .i64 (zend z u).1) ∧ w.cell? ⟨b, x * 2 + 1, none⟩ = some (.int .i64 (zend z u).2) := by
  have hr := h.u
  rw [← hn] at hr
  have hx : x < n := by rw [hn]; exact (List.getElem?_eq_some_iff.1 hu).1
  obtain ⟨b, e, hl, hcell⟩ := own_at hr (by omega)
  have hm : (z.uses.map (zend z))[x]? = some (zend z u) := by rw [List.getElem?_map, hu]; rfl
  have g : ∀ j, j < 2 → w.cell? ⟨b, x * 2 + j, none⟩ = (prC (zend z u))[j]? := fun j hj => by
    rw [hcell _ (by omega)]; exact flat_get8 prC 2 (fun _ => rfl) _ x j _ hm hj
  exact ⟨b, e, hl, by have := g 0 (by omega); rw [Nat.add_zero] at this; rw [this]; rfl, by rw [g 1 (by omega)]; rfl⟩
theorem ScM.glob (h : ScM w vf vu (.slice a n cap) z) (hn : n = z.globals.length) {x : Nat} {s : ByteArray} (hs : z.globals[x]? = some s) :
    ∃ b, a = some ⟨b, 0, none⟩ ∧ b < w.heap.size ∧ w.cell? ⟨b, x, none⟩ = some (.string s) := by
  have hr := h.g
  rw [← hn] at hr
  have hx : x < n := by rw [hn]; exact (List.getElem?_eq_some_iff.1 hs).1
  obtain ⟨b, e, hl, hcell⟩ := own_at hr (by omega)
  exact ⟨b, e, hl, by rw [hcell _ (by omega), List.getElem?_map, hs]; rfl⟩
end

section
variable {L : List ANode}
theorem rts_lt : ∀ {es : List Int} {p q : Nat}, Fo L es p q → ∀ x ∈ rts L es.length p, p ≤ x ∧ x < L.length
  | [], p, q, h, x, hx => by cases hx
  | a :: es, p, q, h, x, hx => by
    obtain ⟨r, h1, h2⟩ := h
    rw [List.length_cons, rts, h1.behind, Int.toNat_natCast] at hx
    rcases List.mem_cons.1 hx with hx | hx
    · rw [hx]; exact ⟨Nat.le_refl _, h1.out.1⟩
    · have := rts_lt h2 x hx; have := h1.lt; omega
theorem filt_next {α : Type} (P : α → Bool) (R : List α) {i : Nat} {x : α} (hx : R[i]? = some x) :
    (P x = true → (R.filter P)[((R.take i).filter P).length]? = some x ∧ ((R.take (i + 1)).filter P).length = ((R.take i).filter P).length + 1) ∧ (P x = false → ((R.take (i + 1)).filter P).length = ((R.take i).filter P).length) := by
  have e1 : R.take (i + 1) = R.take i ++ [x] := by rw [List.take_add_one, hx]; rfl
  have e2 : R = R.take i ++ x :: R.drop (i + 1) := by
    have hi := (List.getElem?_eq_some_iff.1 hx)
    obtain ⟨hi, hxe⟩ := hi
    rw [← hxe, ← List.drop_eq_getElem_cons hi, List.take_append_drop]
  refine ⟨fun hp => ⟨?_, by rw [e1, List.filter_append]; simp [hp]⟩, fun hp => by rw [e1, List.filter_append]; simp [hp]⟩
  have : R.filter P = (R.take i).filter P ++ x :: (R.drop (i + 1)).filter P := by
    conv => lhs; rw [e2]
    rw [List.filter_append, List.filter_cons, if_pos hp]
  rw [this, List.getElem?_append_right (Nat.le_refl _), Nat.sub_self]; rfl
theorem fnR_next {i : Nat} (hi : i < L.length) : (isF (zN L i) = true → (fnR L 0 L.length)[(fnR L 0 i).length]? = some ((i : Int), (zN L i).2.2.2.1) ∧ (fnR L 0 (i + 1)).length = (fnR L 0 i).length + 1) ∧ (isF (zN L i) = false → (fnR L 0 (i + 1)).length = (fnR L 0 i).length) := by
  have e1 : fnR L 0 (i + 1) = fnR L 0 i ++ fnR L i (i + 1) := (fnR_app L (Nat.zero_le _) (Nat.le_succ _)).symm
  have e2 : fnR L 0 L.length = fnR L 0 i ++ fnR L i L.length := (fnR_app L (Nat.zero_le _) (by omega)).symm
  refine ⟨fun h => ⟨?_, ?_⟩, fun h => ?_⟩
  · rw [e2, List.getElem?_append_right (Nat.le_refl _), Nat.sub_self, fnR_yes h (by omega)]; rfl
  · rw [e1, fnR_yes h (Nat.le_refl _), fnR_self]; simp
  · rw [e1, fnR_no h (Nat.le_refl _), fnR_self]; simp
theorem fnR_le (i : Nat) : (fnR L 0 i).length ≤ i := by
  unfold fnR
  rw [List.length_map]
  exact Nat.le_trans (List.length_filter_le _ _) (by simp)
end
end Go.Proofs.YtdhkcdehedbpcaaDoor

