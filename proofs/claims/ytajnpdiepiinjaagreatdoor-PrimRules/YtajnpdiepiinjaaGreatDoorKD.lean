/- The page's example holds: the contract of 'live'. -/
import Derived.Test.YtajnpdiepiinjaaGreatDoorKC
import Derived.Lib.SmallJoins
set_option linter.unusedSimpArgs false
set_option linter.unusedVariables false
namespace Go.Proofs.YtajnpdiepiinjaaGreatDoor
open Go Go.RowKit

def Hl0 : AHeap := (9, [])
def Hl1 : AHeap := (9, [oStr [97]])
def Hl2 : AHeap := (9, [oStr [97], oStr [98]])
def Hl3 : AHeap := (9, [oStr [97], oStr [98], oStr [97, 98]])
def Hl4 : AHeap := (9, [oStr [97], oStr [98], oStr [97, 98], oArr [20]])
theorem l91 : aMakeE Hl0 (oStr [97]) = 0 ∧ aMakeV Hl0 (oStr [97]) = 2 := by decide
theorem l91h : aMakeH Hl0 (oStr [97]) = Hl1 := by unfold aMakeH; rw [l91.1, if_pos rfl]; rfl
theorem l92 : aMakeE Hl1 (oStr [98]) = 0 ∧ aMakeV Hl1 (oStr [98]) = 6 := by decide
theorem l92h : aMakeH Hl1 (oStr [98]) = Hl2 := by unfold aMakeH; rw [l92.1, if_pos rfl]; rfl
theorem l93 : aMakeE Hl2 (oStr [97, 98]) = 0 ∧ aMakeV Hl2 (oStr [97, 98]) = 10 := by decide
theorem l93h : aMakeH Hl2 (oStr [97, 98]) = Hl3 := by unfold aMakeH; rw [l93.1, if_pos rfl]; rfl
theorem l94 : aMakeE Hl3 (oArr [20]) = 0 ∧ aMakeV Hl3 (oArr [20]) = 14 := by decide
theorem l94h : aMakeH Hl3 (oArr [20]) = Hl4 := by unfold aMakeH; rw [l94.1, if_pos rfl]; rfl
theorem l9k : kk Hl2 2 = 1 ∧ kk Hl2 6 = 1 ∧ kk Hl3 10 = 1 ∧ kk Hl3 6 = 1 ∧ kd 4 = 0 ∧ kk Hl4 14 = 2 := by decide
theorem l9b : (ob Hl2 2).bytes ++ (ob Hl2 6).bytes = [97, 98] ∧ (ob Hl3 10).bytes = [97, 98] := by decide
theorem l9e : iF (aAtE Hl4 14 (nm 4)) = 3 ∧ iV (aAtE Hl4 14 (nm 4)) (aAtV Hl4 14 (nm 4)) = 0 := by decide
theorem own_nx {w w' : World} {base : Nat} {e : TypeId} {size : Nat} {v : Value} {n : Nat} {xs : List Value} {bs bs' : List Nat} (h : w.ownsRow base e size v n xs) (hs : ∀ b ∈ bs, b < base) (hn : Nx bs w w' bs') : w'.ownsRow base e size v n xs :=
  own_same h (fun k hk => hn.1.block k (own_lt h hk) (fun hm => by have := hs k hm; have := (h.lt k hk).1; omega))
theorem u_small {n : Int} (h : 0 ≤ n ∧ n ≤ 1000) : U n := by unfold U; omega

set_option maxHeartbeats 4000000 in
set_option maxRecDepth 100000 in
theorem live_any (w : World) (ht : Tf w) : Calls Tryz.prog 9 #[] w fun e w' => e = .returned (.bool true) ∧ Bw w w' := by
  have HT := hid ht
  have hu20 : ∀ x ∈ ([20] : List Int), U x := by intro x hx; rw [List.mem_singleton] at hx; subst hx; exact ⟨by decide, by decide⟩
  have hu97 : ∀ x ∈ ([97] : List Int), 0 ≤ x ∧ x ≤ 255 := by intro x hx; rw [List.mem_singleton] at hx; subst hx; exact ⟨by decide, by decide⟩
  have hu98 : ∀ x ∈ ([98] : List Int), 0 ≤ x ∧ x ≤ 255 := by intro x hx; rw [List.mem_singleton] at hx; subst hx; exact ⟨by decide, by decide⟩
  have hu2 : ∀ x ∈ ([97, 98] : List Int), 0 ≤ x ∧ x ≤ 255 := by intro x hx; simp at hx; omega
  have HU := hid (And.intro hu20 (And.intro hu97 (And.intro hu98 hu2)))
  have hcv := fun w => Lib.run_convert_bytes_const (P := Tryz.prog) w 52 5 #[.int .u8 97] 1 1 Tryz.underlying52 (by kernel_rfl)
  have hcw := fun w => Lib.run_convert_bytes_const (P := Tryz.prog) w 52 5 #[.int .u8 98] 1 1 Tryz.underlying52 (by kernel_rfl)
  simp only [List.size_toArray, List.length_cons, List.length_nil] at hcv hcw
  clear hu20 hu97 hu98 hu2 ht
  go_enter Tryz.func9, Tryz.ntmps9
  go_wp2_with (first
    | (go_at_call 24; refine (new_ok 9 _ (by decide) (by decide)).mono ?_; rintro e w1 ⟨rfl, hs1, hb1, hl1⟩; have S1 := hid (show HS w1 w.heap.size Hl0 [w.heap.size] from hs1); have B1 := hid (And.intro hb1 (show ∀ b ∈ [w.heap.size], w.heap.size ≤ b by simp)); clear hs1 hb1 hl1)
    | (go_at_call 25; have _g := S1; clear _g; (fail_if_success (have _g := S2)); refine (str_any (fun _ => True) _ [97] _ (S1.out.bw (Bw.alloc (Bw.refl _) _)) (sl_new' _ [.int .u8 97] 5 _ 1 rfl) HU.out.2.1 (by decide)).mono ?_; rw [l91.1, l91.2, l91h]; rintro e w2 ⟨rfl, bs2, hs2, hn2⟩; have S2 := hid hs2; have B2 := hid (hn2.bw (Bw.alloc B1.out.1 _) B1.out.2); clear hs2 hn2)
    | (go_at_call 25; have _g := S2; clear _g; refine (str_any (fun _ => True) _ [98] _ (S2.out.bw (Bw.alloc (Bw.refl _) _)) (sl_new' _ [.int .u8 98] 5 _ 1 rfl) HU.out.2.2.1 (by decide)).mono ?_; rw [l92.1, l92.2, l92h]; rintro e w3 ⟨rfl, bs3, hs3, hn3⟩; have S3 := hid hs3; have B3 := hid (hn3.bw (Bw.alloc B2.out.1 _) B2.out.2); clear hs3 hn3)
    | (go_at_call_of 11 (Value.int .u64 2); refine (bin_join 2 6 (u_small (by decide)) (u_small (by decide)) S3.out l9k.1 l9k.2.1).mono ?_; rw [l9b.1, l93.1, l93.2, l93h, show mF 0 = 0 from rfl]; rintro e w4 ⟨rfl, bs4, hs4, hn4⟩; have S4 := hid hs4; have B4 := hid (hn4.bw B3.out.1 B3.out.2); clear hs4 hn4)
    | (go_at_call 26; refine (bytes_yes 10 (u_small (by decide)) _ S4.out l9k.2.2.1).mono ?_; rw [l9b.2]; rintro e w5 ⟨r5, rfl, ho5, hb5⟩; obtain ⟨a5, c5, rfl⟩ := own_form ho5; have O5 := hid ho5; have L5 := hid (fun b (hm : b ∈ bs4) => S4.out.lt hm); have S5 := hid (S4.out.bw hb5); have B5 := hid (And.intro (B4.out.1.trans hb5) B4.out.2); clear ho5 hb5)
    | (go_at_call_of 11 (Value.int .u64 4); refine (bin_type 4 6 (u_small (by decide)) (u_small (by decide)) S5.out l9k.2.2.2.2.1 l9k.2.2.2.1).mono ?_; rintro e w' ⟨rfl, hw'⟩; subst w')
    | (go_at_call 29; refine (arr_any (fun _ => True) _ [20] _ (S5.out.bw (Bw.alloc (Bw.refl _) _)) (sl_new _ [.int .u64 20] 27 1 rfl) HU.out.1 (by decide)).mono ?_; rw [l94.1, l94.2, l94h]; rintro e w6 ⟨rfl, bs6, hs6, hn6⟩; have S6 := hid hs6; have B6 := hid (hn6.bw (Bw.alloc B5.out.1 _) B5.out.2); have Y6 := hid (show By w6 (.slice a5 2 c5) [97, 98] from ⟨own_sl (own_nx (own_bw O5.out (Bw.alloc (Bw.refl _) _)) L5.out hn6) (fun _ _ => trivial), HU.out.2.2.2, by decide⟩); clear hs6 hn6)
    | (go_at_call 23; refine (index_arr 14 4 (u_small (by decide)) (u_small (by decide)) S6.out l9k.2.2.2.2.2 (show N 4 from rfl)).mono ?_; rw [l9e.1, l9e.2]; rintro e w7 ⟨rfl, hb7⟩; have B7 := hid (B6.out.1.trans hb7); have hcx : (convert 52 9 (.slice a5 2 c5)).run Tryz.prog w7 = .ok (.string ⟨#[97, 98]⟩) w7 := (Y6.out.bw hb7).conv0; have HT7 := hid (HT.out.bw B7.out); clear hb7)
    | (go_at_call 34; refine (FaultText_low 1 (by decide) HT7.out).mono ?_; rw [show strOfNums (thr.getD 1 []) = ⟨#[116, 121, 112, 101]⟩ from rfl]; rintro e w' ⟨rfl, hw'⟩; subst w')
    | fail)
  all_goals go_ret
  all_goals exact ⟨rfl, B7.out⟩

end Go.Proofs.YtajnpdiepiinjaaGreatDoor
