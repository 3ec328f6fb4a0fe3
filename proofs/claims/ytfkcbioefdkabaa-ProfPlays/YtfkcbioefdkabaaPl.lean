/- live: the contract. -/
import Derived.Test.YtfkcbioefdkabaaPk
set_option linter.unusedSimpArgs false
set_option linter.unusedVariables false
namespace Go.Proofs.Ytfkcbioefdkabaa
open Go Go.RowKit

def L1 : List AA := [⟨0, 1, 0, 0, 0, 0⟩]
def L2 : List AA := L1 ++ [⟨1, 1, 0, 0, 0, 0⟩]
def L3 : List AA := L2 ++ [⟨0, 0, 0, 0, 0, 0⟩]
def L4 : List AA := L3 ++ [⟨2, 0, 5, 0, 1, 0⟩]
theorem L4_hot : hotL (hsOf L4) 1 2 = [1, 0] := by decide
theorem L4_kind : ((kindOf L4 0 5 : Nat) : Int) = 33 := by decide

/-- A list that was just built. -/
theorem sl_new (w : World) (G : Nat → Prop) (cs : List Value) (e : TypeId) (n size : Nat) (h : cs.length = n * size) (hg : G w.heap.size) : Sl (w.alloc (.cells cs.toArray e)) G (.slice (some ⟨w.heap.size, 0, none⟩) n n) n size cs := by
  refine ⟨h, _, n, rfl, ⟨Nat.le_refl _, fun k => by cases k⟩, .inr ⟨w.heap.size, 0, rfl, by simp, hg, fun i hi => ?_⟩⟩
  have hb : Blk (w.alloc (.cells cs.toArray e)) w.heap.size cs.toArray e := Blk.new w _ _
  rw [hb.cell]
  simp

set_option maxRecDepth 100000 in
set_option maxHeartbeats 1000000 in
theorem live_any (w : World) : Calls Try.prog 8 #[] w fun e w' => e = .returned (.bool true) ∧ Bw w w' := by
  have hN := fun w => New_yes 2 1 w (by decide) (by decide) (by decide)
  go_enter Try.func8, Try.ntmps8
  go_wp2_with (first
    | (go_at_call 9; refine (hN _).mono ?_; rintro e w1 ⟨p, hb, wb, mb, rfl, hp1, hb1, b1, b2, b3, b4⟩; have HP1 := hid hp1; have HB1 := hid hb1; have hbs := hid (show ∀ x ∈ bsOf hb wb mb, w.heap.size ≤ x by intro x hx; simp at hx; rcases hx with rfl | rfl | rfl <;> assumption); clear hp1 hb1 b1 b2 b3 b4)
    | (go_at_call 11; refine (num_any _ _).mono ?_; rintro e w1 ⟨rfl, hw1⟩; subst w1)
    | (go_at_call 24; (fail_if_success (have _g := m1)); have m1 := hid trivial; refine (Begin_yes HP1.out (i := 1) (by decide) (by decide)).mono ?_; rintro e w2 ⟨rfl, hx2, hk2⟩; have HP2 := hid (show PS w2 p hb wb mb 2 1 L1 from hx2 ⟨0, 1, 0, 0, 0, 0⟩ rfl (.inl rfl)); have HB2 := hid (HB1.out.ex hk2 hbs.out); clear hx2 hk2)
    | (go_at_call 25; refine (Loop_yes HP2.out (i := 1) (by decide) (by decide)).mono ?_; rintro e w3 ⟨rfl, hx2, hk2⟩; have HP3 := hid (show PS w3 p hb wb mb 2 1 L2 from hx2 ⟨1, 1, 0, 0, 0, 0⟩ rfl (.inr rfl)); have HB3 := hid (HB2.out.ex hk2 hbs.out); clear hx2 hk2)
    | (go_at_call 24; have _g := m1; clear _g; refine (Begin_yes HP3.out (i := 0) (by decide) (by decide)).mono ?_; rintro e w4 ⟨rfl, hx2, hk2⟩; have HP4 := hid (show PS w4 p hb wb mb 2 1 L3 from hx2 ⟨0, 0, 0, 0, 0, 0⟩ rfl (.inl rfl)); have HB4 := hid (HB3.out.ex hk2 hbs.out); clear hx2 hk2)
    | (go_at_call 26; refine (Pair_yes HP4.out 0 5 0 1 (by decide) (by decide) (by decide) (by decide) (by decide)).mono ?_; rintro e w5 ⟨rfl, hx2, hk2⟩; have HP5 := hid (show PS w5 p hb wb mb 2 1 L4 from hx2 ⟨2, 0, 5, 0, 1, 0⟩ rfl rfl rfl rfl rfl); have HB5 := hid (HB4.out.ex hk2 hbs.out); clear hx2 hk2)
    | (go_at_call 16; refine (Kinds_yes HP5.out 0 5 (by decide) (by decide)).mono ?_; rw [L4_kind]; rintro e w6 ⟨rfl, hb6⟩; have HP6 := hid (HP5.out.bw hb6); have HB6 := hid (HB5.out.trans hb6); clear hb6)
    | (go_at_call 18; refine (Hot_any HP6.out (by decide) 1).mono ?_; rw [L4_hot]; rintro e w7 ⟨r, he, ho7, hb7⟩; subst he; obtain ⟨a7, c7, e7⟩ := own_form ho7; subst e7; have HO7 := hid (own_sl (G := fun _ => True) ho7 (fun _ _ => trivial)); have HB7 := hid (HB6.out.trans hb7); clear ho7 hb7)
    | (go_at_call 20; refine (sameInts_any (G := fun _ => True) (G' := fun _ => True) _ _ [1, 0] (HO7.out.below (Bw.alloc (Bw.refl _) _)) (sl_new w7 _ [.int .i64 1, .int .i64 0] 3 2 1 rfl trivial) (by decide)).mono ?_; rintro e w8 ⟨rfl, hd8⟩; have HB8 := hid ((Bw.alloc HB7.out _).trans hd8.bw); clear hd8)
    | fail)
  all_goals go_ret
  all_goals exact ⟨rfl, HB8.out⟩

end Go.Proofs.Ytfkcbioefdkabaa
