/- Lists of numbers compared; Notify whatever is asked; the example's steps; live: contracts. -/
import Derived.Test.YteeeijbjokkomaaPk
import Derived.BigQuiet
set_option linter.unusedSimpArgs false
set_option linter.unusedVariables false
namespace Go.Proofs.Yteeeijbjokkomaa
open Go Go.RowKit

set_option maxRecDepth 100000 in
set_option maxHeartbeats 1000000 in
theorem sameInts_any {w : World} {G G' : Nat → Prop} (va vb : Value) (l : List Int) (ha : Sl w G va l.length 1 (l.map (Value.int .i64))) (hb : Sl w G' vb l.length 1 (l.map (Value.int .i64))) (hm : l.length ≤ 1000000) :
    Calls Try.prog 25 #[va, vb] w fun e w' => e = .returned (.bool true) ∧ Dn w w' := by
  have HA := hid ha
  have HB := hid hb
  obtain ⟨aa, ca, rfl⟩ := ha.form
  obtain ⟨ab, cb, rfl⟩ := hb.form
  clear ha hb
  go_enter Try.func25, Try.ntmps25
  go_wp2
  go_loopw [5] (fun j wr => ∃ (i : Nat) (m : Nat), i ≤ l.length ∧ j = .int .i64 (i : Nat) ∧ wr = w.drewN m) (fun j _ => l.length - (intOf j).toNat)
  case atStart => exact ⟨0, 0, Nat.zero_le _, rfl, rfl⟩
  case round =>
    obtain ⟨i, m, hi, rfl, rfl⟩ := hrel
    by_cases hlt : i < l.length
    · obtain ⟨g1, o1, rfl, _, x0⟩ := HA.out.at hlt
      obtain ⟨g2, o2, rfl, _, y0⟩ := HB.out.at hlt
      have x0 : w.cell? ⟨g1, o1 + i, none⟩ = some (.int .i64 l[i]) := by rw [x0]; simp [hlt]
      have y0 : w.cell? ⟨g2, o2 + i, none⟩ = some (.int .i64 l[i]) := by rw [y0]; simp [hlt]
      have hlt2 : (i : Int) < (l.length : Int) := by omega
      generalize l[i] = n at x0 y0
      have e1 : (n != n) = false := by simp
      go_wp2
      go_quiet (fail)
      go_wp2
      go_roundw
      case rel => first | exact ⟨i + 1, _, by omega, by go_num, rfl⟩ | exact ⟨i + 1, m + 1, by omega, by go_num, by simp⟩
      case measure => simp [intOf]; omega
    · have hlt2 : ¬ (i : Int) < (l.length : Int) := by omega
      go_wp2
      all_goals go_ret
      all_goals exact ⟨rfl, m, rfl⟩

section
variable {w : World} {p : Nat} {bs : List Nat} {A : LL}

theorem Notify_any (h : PX w p bs A) (m t : Int) (all : Bool) : Calls Try.prog 14 #[.pointer (some ⟨p, 0, none⟩), .int .i64 m, .int .i64 t, .bool all] w fun e w' => ∃ r bs', e = .returned (.tuple #[r, .int .i64 (hasE A m t)]) ∧ w'.ownsRow w.heap.size 3 1 r (notifyL A m t all).length ((notifyL A m t all).map (Value.int .i64)) ∧ PX w' p bs' (notifyA A m t all) ∧ Nx bs w w' bs' ∧ (∀ b, r.ownBlock = some b → b ∉ bs') := by
  obtain ⟨mv, wv, kv, R, h⟩ := h
  have key : ∀ k : Int, k ≠ 0 → hasE A m t = k → (Calls Try.prog 14 #[.pointer (some ⟨p, 0, none⟩), .int .i64 m, .int .i64 t, .bool all] w fun e w' => e = .returned (.tuple #[.slice none 0 0, .int .i64 k]) ∧ Bw w w') → Calls Try.prog 14 #[.pointer (some ⟨p, 0, none⟩), .int .i64 m, .int .i64 t, .bool all] w fun e w' => ∃ r bs', e = .returned (.tuple #[r, .int .i64 (hasE A m t)]) ∧ w'.ownsRow w.heap.size 3 1 r (notifyL A m t all).length ((notifyL A m t all).map (Value.int .i64)) ∧ PX w' p bs' (notifyA A m t all) ∧ Nx bs w w' bs' ∧ (∀ b, r.ownBlock = some b → b ∉ bs') := by
    intro k hk he hc
    unfold notifyL notifyA
    rw [he, if_neg hk, if_neg hk]
    exact hc.mono fun e w' ⟨he, hb⟩ => ⟨_, bs, he, World.ownsRow_nil _ _ _ _, ⟨_, _, _, _, h.bw hb⟩, Nx.of_bw hb, fun b e => by cases e⟩
  cases h1 : wrongA A m t
  · cases h2 : (monA A m).1 == t
    · exact key 8 (by decide) (by simp [hasE, h1, h2]) (Notify_no h m t all h1 h2)
    · have e : hasE A m t = 0 := by simp [hasE, h1, h2]
      unfold notifyL notifyA
      rw [e, if_pos rfl, if_pos rfl]
      refine (Notify_ok h m t all h1 h2).mono fun e w' ⟨r, bs', he, ho, hp, hn, hg⟩ => ⟨r, bs', he, ?_, hp, hn, hg⟩
      rw [List.length_map, List.map_map]
      exact ho
  · exact key 1 (by decide) (by simp [hasE, h1]) (Notify_wr h m t all h1)

def x1 : LL := ⟨[(-1, 0)], [], []⟩
def x2 : LL := ⟨[(1, 1)], [], []⟩
def x3 : LL := ⟨[(1, 2)], [], []⟩
def x4 : LL := ⟨[(-1, 0)], [⟨1, 2, 0, -1⟩], []⟩
def x5 : LL := ⟨[(2, 1)], [⟨1, 2, 0, -1⟩], []⟩
def x6 : LL := ⟨[(2, 1)], [], [(⟨1, 2, 0, -1⟩, true)]⟩
def x7 : LL := ⟨[(-1, 0)], [], [(⟨1, 2, 0, -1⟩, true)]⟩

theorem lv1 (h : PX w p bs ⟨[], [], []⟩) : Calls Try.prog 12 #[.pointer (some ⟨p, 0, none⟩)] w fun e w' => ∃ bs', e = .returned (.tuple #[.int .i64 0, .int .i64 0]) ∧ PX w' p bs' x1 ∧ Nx bs w w' bs' := Make_any h
theorem lv2 (h : PX w p bs x1) : Calls Try.prog 21 #[.pointer (some ⟨p, 0, none⟩), .int .i64 0, .int .i64 1] w fun e w' => e = .returned (.int .i64 0) ∧ PX w' p bs x2 ∧ Nx bs w w' bs := by
  have := Lock_any h 0 1
  rw [show lockE x1 0 1 = 0 by kernel_rfl, show lockA x1 0 1 = x2 by kernel_rfl] at this
  exact this
theorem lv3 (h : PX w p bs x2) : Calls Try.prog 21 #[.pointer (some ⟨p, 0, none⟩), .int .i64 0, .int .i64 1] w fun e w' => e = .returned (.int .i64 0) ∧ PX w' p bs x3 ∧ Nx bs w w' bs := by
  have := Lock_any h 0 1
  rw [show lockE x2 0 1 = 0 by kernel_rfl, show lockA x2 0 1 = x3 by kernel_rfl] at this
  exact this
theorem lv4 (h : PX w p bs x3) : Calls Try.prog 23 #[.pointer (some ⟨p, 0, none⟩), .int .i64 0, .int .i64 1, .int .i64 (-1)] w fun e w' => ∃ bs', e = .returned (.int .i64 0) ∧ PX w' p bs' x4 ∧ Nx bs w w' bs' := by
  have := Wait_any h 0 1 (-1) ⟨by decide, by decide⟩ (by decide)
  rw [show waitE x3 0 1 (-1) = 0 by kernel_rfl, show waitA x3 0 1 (-1) = x4 by kernel_rfl] at this
  exact this
theorem lv5 (h : PX w p bs x4) : Calls Try.prog 21 #[.pointer (some ⟨p, 0, none⟩), .int .i64 0, .int .i64 2] w fun e w' => e = .returned (.int .i64 0) ∧ PX w' p bs x5 ∧ Nx bs w w' bs := by
  have := Lock_any h 0 2
  rw [show lockE x4 0 2 = 0 by kernel_rfl, show lockA x4 0 2 = x5 by kernel_rfl] at this
  exact this
theorem lv6 (h : PX w p bs x5) : Calls Try.prog 14 #[.pointer (some ⟨p, 0, none⟩), .int .i64 0, .int .i64 2, .bool false] w fun e w' => ∃ r bs', e = .returned (.tuple #[r, .int .i64 0]) ∧ w'.ownsRow w.heap.size 3 1 r 1 ([1].map (Value.int .i64)) ∧ PX w' p bs' x6 ∧ Nx bs w w' bs' ∧ (∀ b, r.ownBlock = some b → b ∉ bs') := by
  have := Notify_any h 0 2 false
  rw [show hasE x5 0 2 = 0 by kernel_rfl, show notifyL x5 0 2 false = [1] by kernel_rfl, show notifyA x5 0 2 false = x6 by kernel_rfl] at this
  exact this
theorem lv7 (h : PX w p bs x6) : Calls Try.prog 24 #[.pointer (some ⟨p, 0, none⟩), .int .i64 1] w fun e w' => ∃ bs', e = .returned (.int .i64 7) ∧ PX w' p bs' x6 ∧ Nx bs w w' bs' := by
  have := Relock_any h 1
  rw [show relE x6 1 = 7 by kernel_rfl, show relockA x6 1 = x6 by kernel_rfl] at this
  exact this
theorem lv8 (h : PX w p bs x6) : Calls Try.prog 22 #[.pointer (some ⟨p, 0, none⟩), .int .i64 0, .int .i64 2] w fun e w' => e = .returned (.int .i64 0) ∧ PX w' p bs x7 ∧ Nx bs w w' bs := by
  have := Unlock_any h 0 2
  rw [show hasE x6 0 2 = 0 by kernel_rfl, show unlockA x6 0 2 = x7 by kernel_rfl] at this
  exact this
theorem lv9 (h : PX w p bs x7) : Calls Try.prog 24 #[.pointer (some ⟨p, 0, none⟩), .int .i64 1] w fun e w' => ∃ bs', e = .returned (.int .i64 0) ∧ PX w' p bs' x3 ∧ Nx bs w w' bs' := by
  have := Relock_any h 1
  rw [show relE x7 1 = 0 by kernel_rfl, show relockA x7 1 = x3 by kernel_rfl] at this
  exact this
theorem Owner_px (h : PX w p bs A) (m : Int) : Calls Try.prog 16 #[.pointer (some ⟨p, 0, none⟩), .int .i64 m] w fun e w' => e = .returned (ownerV A m) ∧ Bw w w' := by
  obtain ⟨mv, wv, kv, R, h⟩ := h
  exact Owner_any h m
theorem lv10 (h : PX w p bs x3) : Calls Try.prog 16 #[.pointer (some ⟨p, 0, none⟩), .int .i64 0] w fun e w' => e = .returned (.tuple #[.int .i64 1, .int .i64 2, .int .i64 0]) ∧ Bw w w' := by
  have := Owner_px h 0
  rw [show ownerV x3 0 = .tuple #[.int .i64 1, .int .i64 2, .int .i64 0] by kernel_rfl] at this
  exact this

theorem own_ex {w w' : World} {bs : List Nat} {base : Nat} {e : TypeId} {size : Nat} {v : Value} {n : Nat} {xs : List Value} (h : w.ownsRow base e size v n xs) (k : Ex bs w w') (hb : ∀ b, v.ownBlock = some b → b ∉ bs) : w'.ownsRow base e size v n xs :=
  own_keep h (fun b hv => k.block b (h.lt b hv).2 (hb b hv))
theorem note_nx {w w' : World} {bs bs' : List Nat} {base : Nat} {e : TypeId} {size : Nat} {v : Value} {n : Nat} {xs : List Value} (h : w.ownsRow base e size v n xs) (hg : ∀ b, v.ownBlock = some b → b ∉ bs) (k : Nx bs w w' bs') : ∀ b, v.ownBlock = some b → b ∉ bs' := fun b e hm => (k.new b hm).elim (hg b e) (fun h2 => by have := (h.lt b e).2; omega)
end

set_option maxRecDepth 100000 in
set_option maxHeartbeats 2000000 in
theorem live_any (w : World) : Calls Try.prog 8 #[] w fun e w' => e = .returned (.bool true) ∧ Bw w w' := by
  go_enter Try.func8, Try.ntmps8
  go_wp2_with (first
    | (go_at_call 9; refine (New_any _).mono ?_; rintro e w1 ⟨p, rfl, hp1, hb1, b1⟩; have HP1 := hid hp1; have HB1 := hid hb1; have hbs := hid b1; clear hp1 hb1 b1)
    | (go_at_call 13; refine (num_any _ _).mono ?_; rintro e w9 ⟨rfl, hw9⟩; subst w9)
    | (go_at_call 12; refine (lv1 HP1.out).mono ?_; rintro e w2 ⟨bs2, rfl, hp2, hn2⟩; have HP2 := hid hp2; have HN2 := hid hn2; clear hp2 hn2)
    | (go_at_call 21; (fail_if_success (have _g := m1)); have m1 := hid trivial; refine (lv2 HP2.out).mono ?_; rintro e w3 ⟨rfl, hp3, hn3⟩; have HP3 := hid hp3; have HN3 := hid (HN2.out.trans hn3); clear hp3 hn3)
    | (go_at_call 21; (fail_if_success (have _g := m2)); have m2 := hid trivial; refine (lv3 HP3.out).mono ?_; rintro e w4 ⟨rfl, hp4, hn4⟩; have HP4 := hid hp4; have HN4 := hid (HN3.out.trans hn4); clear hp4 hn4)
    | (go_at_call 23; refine (lv4 HP4.out).mono ?_; rintro e w5 ⟨bs5, rfl, hp5, hn5⟩; have HP5 := hid hp5; have HN5 := hid (HN4.out.trans hn5); clear hp5 hn5)
    | (go_at_call 21; have _g := m2; clear _g; refine (lv5 HP5.out).mono ?_; rintro e w6 ⟨rfl, hp6, hn6⟩; have HP6 := hid hp6; have HN6 := hid (HN5.out.trans hn6); clear hp6 hn6)
    | (go_at_call 14; refine (lv6 HP6.out).mono ?_; rintro e w7 ⟨r7, bs7, rfl, ho7, hp7, hn7, hg7⟩; obtain ⟨a7, c7, e⟩ := own_form ho7; subst e; have HO7 := hid ho7; have HP7 := hid hp7; have HN7 := hid (HN6.out.trans hn7); have HG7 := hid hg7; clear ho7 hp7 hn7 hg7)
    | (go_at_call 24; (fail_if_success (have _g := m3)); have m3 := hid trivial; refine (lv7 HP7.out).mono ?_; rintro e w8 ⟨bs8, rfl, hp8, hn8⟩; have HP8 := hid hp8; have HN8 := hid (HN7.out.trans hn8); have HO8 := hid (own_ex HO7.out hn8.ex HG7.out); have HG8 := hid (note_nx HO7.out HG7.out hn8); clear hp8 hn8)
    | (go_at_call 22; refine (lv8 HP8.out).mono ?_; rintro e wa ⟨rfl, hpa, hna⟩; have HPa := hid hpa; have HNa := hid (HN8.out.trans hna); have HOa := hid (own_ex HO8.out hna.ex HG8.out); clear hpa hna)
    | (go_at_call 24; have _g := m3; clear _g; refine (lv9 HPa.out).mono ?_; rintro e wb ⟨bsb, rfl, hpb, hnb⟩; have HPb := hid hpb; have HNb := hid (HNa.out.trans hnb); have HOb := hid (own_ex HOa.out hnb.ex HG8.out); clear hpb hnb)
    | (go_at_call 16; refine (lv10 HPb.out).mono ?_; rintro e wc ⟨rfl, hbc⟩; have HNc := hid (HNb.out.bw hbc); have HOc := hid (own_bw HOb.out hbc); clear hbc)
    | (go_at_call 25; refine (sameInts_any (G := fun _ => True) (G' := fun _ => True) _ _ [1] ((own_sl HOc.out (fun _ _ => trivial)).below (Bw.alloc (Bw.refl _) _)) (sl_new wc _ [.int .i64 1] 3 1 1 rfl trivial) (by decide)).mono ?_; rintro e wd ⟨rfl, hd⟩; have HBd := hid ((Bw.alloc (Bw.refl wc) _).trans hd.bw); clear hd)
    | fail)
  all_goals go_ret
  all_goals exact ⟨rfl, (HB1.out.ex HNc.out.ex (fun x hx => by simp at hx; subst hx; exact hbs.out)).trans HBd.out⟩

end Go.Proofs.Yteeeijbjokkomaa
