/- The law's own example. -/
import Derived.Test.YtekkjpecdflajaaDoorM18
import Derived.Lib.SlBytesConst
set_option linter.unusedSimpArgs false
set_option linter.unusedVariables false
namespace Go.Proofs.YtekkjpecdflajaaDoor
open Go Go.RowKit

theorem by_alloc8 (w : World) (l : List Int) (fr : Nat × Nat) (hl : l.length ≤ 9223372036854775807) (hb : ∀ c ∈ l, 0 ≤ c ∧ c ≤ 255) : By (w.alloc (.cells (l.map (Value.int .u8)).toArray 5 fr)) (.slice (some ⟨w.heap.size, 0, none⟩) l.length l.length) l := by
  refine ⟨⟨by simp, _, _, rfl, ⟨Nat.le_refl _, fun h => by cases h⟩, .inr ⟨w.heap.size, 0, rfl, by simp, trivial, fun i hi => ?_⟩⟩, hb, hl⟩
  rw [World.cell?_alloc_mark]
  simp
theorem num_any (n : Int) (w : World) :
    Calls Tryd.prog 12 #[.int .i64 n] w fun e w' => e = .returned (.int .i64 n) ∧ w' = w := by
  go_enter Tryd.func12, Tryd.ntmps12
  go_wp2
  go_ret
  exact ⟨rfl, rfl⟩

theorem prim_len {w : World} (h : PrM w) : Calls Tryd.prog 5 #[.string ⟨#[108, 101, 110]⟩] w fun e w' => e = .returned (.tuple #[.int .i64 1, .bool true]) ∧ Bw w w' := by
  have h1 := prim_any h ⟨#[108, 101, 110]⟩
  rw [show primF ⟨#[108, 101, 110]⟩ = some 1 from by kernel_rfl] at h1
  exact h1

set_option maxRecDepth 100000 in
set_option maxHeartbeats 8000000 in
theorem live_any (w : World) (hh : Sh w) (hp : PrM w) : Calls Tryd.prog 9 #[] w fun e w' => e = .returned (.bool true) ∧ Bw w w' := by
  have HH := hid hh
  have HP := hid hp
  clear hh hp
  have hcv := fun (W : World) (C : Array Value) (n c : Nat) => Lib.run_convert_bytes_const (P := Tryd.prog) W 35 5 C n c under22 under5
  go_enter Tryd.func9, Tryd.ntmps9
  go_upto_region 2 with (first
    | (go_at_call 10; refine (live_parsed (by_alloc8 w liveB _ (by decide) (by decide))).mono ?_; rintro e w1 ⟨a1, c1, rfl, hn1, hb1⟩; have HB1 := hid (Bw.trans (Bw.alloc (Bw.refl w) _) hb1); obtain ⟨g, c, e1, hnc⟩ := live_nc hn1; (obtain ⟨e2, e3⟩ : a1 = some ⟨g, 0, none⟩ ∧ c1 = c := by cases e1; exact ⟨rfl, rfl⟩); subst e2 e3; have HNC := hid hnc; clear hn1 hb1 e1 hnc)
    | fail)
  clear hcv
  go_upto_region 3 with (first
    | (go_at_call 11; refine (resolve_live HNC.out (HH.out.bw HB1.out) (HP.out.bw HB1.out)).mono ?_; rintro e w2 ⟨vf, ua, uc, vg, he, hr, hb2⟩; (obtain ⟨⟨fb, fc, cb, cc, e1, fl, q11, cl, q0⟩, ⟨ga, gc, e2⟩⟩ := hr); subst e1; subst e2; subst he; have HB2 := hid (HB1.out.trans hb2); have HQ := hid (And.intro q11 q0); have HL := hid (And.intro fl cl); clear hb2 q11 q0 fl cl)
    | fail)
  have S2 := hid (Blk.new w2 #[.slice (some ⟨fb, 0, none⟩) 3 fc, .slice ua 13 uc, .slice ga 2 gc] 39)
  have BW2 := hid (Bw.alloc (Bw.refl w2) (.cells #[.slice (some ⟨fb, 0, none⟩) 3 fc, .slice ua 13 uc, .slice ga 2 gc] 39))
  go_upto_region 4 with (first
    | (go_at_call 11; refine (resolve_nil _).mono ?_; rintro e w3 ⟨rfl, hb3⟩; have HB3 := hid hb3; clear hb3)
    | fail)
  have BW3 := hid (HB3.out.alloc (.cells #[.slice none 0 0, .slice none 0 0, .slice none 0 0] 39))
  go_upto_region 5 with (first
    | (go_at_call 5; refine (prim_len (HP.out.bw ((HB2.out.trans BW2.out).trans BW3.out))).mono ?_; rintro e w4 ⟨rfl, hb4⟩; have HB4 := hid hb4; clear hb4)
    | fail)
  have B24 := hid (BW3.out.trans HB4.out)
  have B4 := hid (BW2.out.trans B24.out)
  have S4 := S2.out.bw B24.out
  have s0 := S4.cell 0
  have s1 := S4.cell 1
  have s2 := S4.cell 2
  simp only [List.getElem?_toArray, List.getElem?_cons_zero, List.getElem?_cons_succ] at s0 s1 s2
  have sl := S4.lt
  have f11 : w4.cell? ⟨fb, 11, none⟩ = some (.slice (some ⟨cb, 0, none⟩) 1 cc) := by rw [← HQ.out.1]; exact World.cell?_of_block (a := ⟨fb, 11, none⟩) (B4.out.block fb HL.out.1)
  have f0 : w4.cell? ⟨cb, 0, none⟩ = some (.int .i64 1) := by rw [← HQ.out.2]; exact World.cell?_of_block (a := ⟨cb, 0, none⟩) (B4.out.block cb HL.out.2)
  have fl := Nat.lt_of_lt_of_le HL.out.1 B4.out.size
  have cl := Nat.lt_of_lt_of_le HL.out.2 B4.out.size
  clear S4
  go_wp2_with (first
    | (go_at_call 12; refine (num_any _ _).mono ?_; rintro e w' ⟨rfl, hw'⟩; subst w')
    | fail)
  all_goals go_ret
  all_goals exact ⟨rfl, HB2.out.trans B4.out⟩

end Go.Proofs.YtekkjpecdflajaaDoor

