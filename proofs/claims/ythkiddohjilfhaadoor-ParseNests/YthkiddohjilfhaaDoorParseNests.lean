/- For every number and every byte the statement ParseNests of layer 6 answers true: where it asks, the program's Parse of a text with so many ( [ - not or { nested answers a program up to the bound and the fault at its place beyond it; the page's examples hold; no condition beyond the program's own two tables, which the card ties to its text. -/
import Derived.Test.YthkiddohjilfhaaDoorPnek
import Derived.Test.YthkiddohjilfhaaDoorFrk
set_option linter.unusedVariables false
set_option linter.unusedSimpArgs false
namespace Go.Proofs.YthkiddohjilfhaaDoor.parseNests
open Go.ChangeShapes Go.WideShapes Go.ChangeAt Go.RowKit

theorem by_str (w : World) (l : List Int) (hb : ∀ c ∈ l, 0 ≤ c ∧ c ≤ 255) (hl : l.length ≤ 1000000) :
    ∃ cap w', (convert 9 34 (.string (strOfNums l))).run Tryd.prog w = .ok (.slice (some ⟨w.heap.size, 0, none⟩) l.length cap) w' ∧ By w' (.slice (some ⟨w.heap.size, 0, none⟩) l.length cap) l ∧ Bw w w' := by
  refine ⟨_, _, by rw [← strOfNums_size l]; exact run_bytes_of_string w 9 34 5 (strOfNums l) under9 under22 under5, ?_, Bw.alloc (Bw.drew (Bw.refl w)) _⟩
  have hge := grownCap_ge w (strOfNums l).size 0 5
  rw [strOfNums_size] at hge
  refine ⟨⟨by simp, _, _, rfl, ⟨by rw [strOfNums_size]; omega, fun h => by cases h⟩, ?_⟩, hb, by omega⟩
  by_cases h0 : l.length = 0
  · exact .inl h0
  · refine .inr ⟨w.heap.size, 0, rfl, by simp, trivial, fun i hi => ?_⟩
    have hi' : i < l.length := by omega
    have hsz : i < (strOfNums l).data.size := by have := strOfNums_size l; show i < (strOfNums l).size; omega
    rw [Nat.zero_add]
    show (w.drew.alloc _).cell? ⟨w.drew.heap.size, i, none⟩ = _
    rw [World.cell?_alloc_mark, bytesRow_at _ _ _ hsz, List.getElem?_map, List.getElem?_eq_getElem hi']
    have := strOf_get hb i (by rw [strOfNums_size]; exact hi')
    rw [nth_eq hi'] at this
    exact congrArg (fun z => some (Value.int .u8 z)) this

theorem rep_len (o : List Int) : ∀ n, (rep o n).length = n * o.length
  | 0 => by simp [rep]
  | n + 1 => by rw [rep, List.length_append, rep_len o n, Nat.succ_mul]

theorem rep_bytes (o : List Int) (h : ∀ c ∈ o, 0 ≤ c ∧ c ≤ 255) : ∀ n, ∀ c ∈ rep o n, 0 ≤ c ∧ c ≤ 255
  | 0, c, hc => by simp [rep] at hc
  | n + 1, c, hc => by
    rw [rep] at hc
    rcases List.mem_append.1 hc with hc | hc
    · exact rep_bytes o h n c hc
    · exact h c hc

theorem nest_bytes (o m e z : List Int) (h1 : ∀ c ∈ o, 0 ≤ c ∧ c ≤ 255) (h2 : ∀ c ∈ m, 0 ≤ c ∧ c ≤ 255) (h3 : ∀ c ∈ e, 0 ≤ c ∧ c ≤ 255) (h4 : ∀ c ∈ z, 0 ≤ c ∧ c ≤ 255) (n : Nat) : ∀ c ∈ nest o m e z n, 0 ≤ c ∧ c ≤ 255 := by
  intro c hc
  unfold nest at hc
  rcases List.mem_append.1 hc with hc | hc
  · rcases List.mem_append.1 hc with hc | hc
    · rcases List.mem_append.1 hc with hc | hc
      · exact rep_bytes o h1 n c hc
      · exact h2 c hc
    · exact rep_bytes e h3 n c hc
  · exact h4 c hc

set_option maxRecDepth 100000 in
set_option maxHeartbeats 4000000 in
theorem coreL (n : Int) (hn : n < 60 ∨ 70 < n) (y : Int) (w : World) (hs : Sg w) :
    Calls Tryd.prog 6 #[.int .i64 n, .int .u8 y] w fun e w' => e = .returned (.bool true) ∧ Bw w w' := by
  have HSG := hid hs
  clear hs
  by_cases h1 : n < 60
  · clear hn
    go_enter Tryd.func6, Tryd.ntmps6
    go_wp2_with (first
      | (go_at_call 9; refine (live_any _ HSG.out).mono ?_; rintro e wl ⟨rfl, hbl⟩; have BL := hid hbl; clear hbl)
      | fail)
    all_goals go_ret
    all_goals exact ⟨rfl, BL.out⟩
  · have h2 : 70 < n := by omega
    clear hn
    go_enter Tryd.func6, Tryd.ntmps6
    go_wp2_with (first
      | (go_at_call 9; refine (live_any _ HSG.out).mono ?_; rintro e wl ⟨rfl, hbl⟩; have BL := hid hbl; clear hbl)
      | fail)
    all_goals go_ret
    all_goals exact ⟨rfl, BL.out⟩

set_option maxRecDepth 100000 in
set_option maxHeartbeats 16000000 in
theorem core0 (n : Nat) (h1 : 60 ≤ n) (h2 : n ≤ 70) (y : Int) (hy : y.tmod 5 = 0) (w : World) (hs : Sg w) :
    Calls Tryd.prog 6 #[.int .i64 (n : Int), .int .u8 y] w fun e w' => e = .returned (.bool true) ∧ Bw w w' := by
  have HSG := hid hs
  clear hs
  have a1 : ∀ i w, i ≤ 70 → (Op.stringOp .add (strOfNums (rep [40] i)) ⟨#[40]⟩).run Tryd.prog w = .ok (.string (strOfNums (rep [40] (i + 1)))) w := fun i w hi => by
    have := run_string_add_sum (P := Tryd.prog) w (strOfNums (rep [40] i)) (strOfNums [40]) (by simp only [strOfNums_size, rep_len]; first | (simp; done) | (simp; omega))
    rw [str_app] at this; exact this
  have a2 : ∀ i w, i ≤ 70 → (Op.stringOp .add (strOfNums (rep [41] i)) ⟨#[41]⟩).run Tryd.prog w = .ok (.string (strOfNums (rep [41] (i + 1)))) w := fun i w hi => by
    have := run_string_add_sum (P := Tryd.prog) w (strOfNums (rep [41] i)) (strOfNums [41]) (by simp only [strOfNums_size, rep_len]; first | (simp; done) | (simp; omega))
    rw [str_app] at this; exact this
  have A1 := hid a1
  have A2 := hid a2
  clear a1 a2
  have a3 : ∀ w, (Op.stringOp .add (strOfNums (rep [40] n)) ⟨#[120]⟩).run Tryd.prog w = .ok (.string (strOfNums (rep [40] n ++ [120]))) w := fun w => by
    have := run_string_add_sum (P := Tryd.prog) w (strOfNums (rep [40] n)) (strOfNums [120]) (by simp only [strOfNums_size, rep_len]; first | (simp; done) | (simp; omega))
    rw [str_app] at this; exact this
  have a4 : ∀ w, (Op.stringOp .add (strOfNums (rep [40] n ++ [120])) (strOfNums (rep [41] n))).run Tryd.prog w = .ok (.string (strOfNums (rep [40] n ++ [120] ++ rep [41] n))) w := fun w => by
    have := run_string_add_sum (P := Tryd.prog) w (strOfNums (rep [40] n ++ [120])) (strOfNums (rep [41] n)) (by simp only [strOfNums_size, List.length_append, rep_len]; first | (simp; done) | (simp; omega))
    rw [str_app] at this; exact this
  have a5 : ∀ w, (Op.stringOp .add (strOfNums (rep [40] n ++ [120] ++ rep [41] n)) ⟨#[59]⟩).run Tryd.prog w = .ok (.string (strOfNums (rep [40] n ++ [120] ++ rep [41] n ++ [59]))) w := fun w => by
    have := run_string_add_sum (P := Tryd.prog) w (strOfNums (rep [40] n ++ [120] ++ rep [41] n)) (strOfNums [59]) (by simp only [strOfNums_size, List.length_append, rep_len]; first | (simp; done) | (simp; omega))
    rw [str_app] at this; exact this
  have A3 := hid a3
  have A4 := hid a4
  have A5 := hid a5
  clear a3 a4 a5
  have hlen : (nest [40] [120] [41] [59] n).length ≤ 1000 := by unfold nest; simp only [List.length_append, rep_len]; simp; omega
  obtain ⟨cp, w9, hcv, hby, hb9⟩ := by_str w (nest [40] [120] [41] [59] n) (nest_bytes _ _ _ _ (by decide) (by decide) (by decide) (by decide) n) (by omega)
  obtain ⟨NL, hNL⟩ : ∃ NL, NL = (nest [40] [120] [41] [59] n).length := ⟨_, rfl⟩
  rw [← hNL] at hcv hby
  have HNL := hid hNL
  clear hNL hlen
  have HBY := hid hby
  have HB9 := hid hb9
  have HCV := hid hcv
  clear hby hb9 hcv
  go_enter Tryd.func6, Tryd.ntmps6
  go_wp2
  go_loopw [8, 9, 10] (fun s t j wr => ∃ i : Nat, i ≤ n ∧ j = .int .i64 i ∧ s = .string (strOfNums (rep [40] i)) ∧ t = .string (strOfNums (rep [41] i)) ∧ wr = w) (fun _ _ j _ => n - (intOf j).toNat)
  case atStart => exact ⟨0, Nat.zero_le _, rfl, rfl, rfl, rfl⟩
  case round =>
    obtain ⟨i, hi, rfl, rfl, rfl, hwr⟩ := hrel
    subst hwr
    by_cases hlt : i < n
    · have b1 := fun w => A1.out i w (by omega)
      have b2 := fun w => A2.out i w (by omega)
      have hk2 : (i : Int) < (n : Int) := by omega
      generalize hp1 : strOfNums (rep [40] (i + 1)) = p1 at b1
      generalize hp2 : strOfNums (rep [41] (i + 1)) = p2 at b2
      have HP1 := hid hp1
      have HP2 := hid hp2
      clear hp1 hp2
      generalize strOfNums (rep [40] i) = r1 at b1 ⊢
      generalize strOfNums (rep [41] i) = r2 at b2 ⊢
      go_wp2
      go_roundw
      case rel => exact ⟨i + 1, by omega, by go_num, by rw [HP1.out], by rw [HP2.out], trivial⟩
      case measure => simp [intOf]; omega
    · obtain rfl : i = n := by omega
      have hsz : (strOfNums (nest [40] [120] [41] [59] i)).size = NL := by rw [HNL.out]; exact strOfNums_size _
      have b3 := A3.out
      have b4 := A4.out
      have b5 := A5.out
      have hcv := HCV.out
      rw [show nest [40] [120] [41] [59] i = rep [40] i ++ [120] ++ rep [41] i ++ [59] from rfl] at hsz hcv
      generalize strOfNums (rep [40] i) = r1 at b3 ⊢
      generalize strOfNums (rep [41] i) = r2 at b4 ⊢
      generalize strOfNums (rep [40] i ++ [120]) = r3 at b3 b4
      generalize strOfNums (rep [40] i ++ [120] ++ rep [41] i) = r4 at b4 b5
      generalize strOfNums (rep [40] i ++ [120] ++ rep [41] i ++ [59]) = r5 at b5 hsz hcv
      by_cases h64 : i ≤ 64
      · have hne : ¬ (64 : Int) < (i : Int) := by omega
        have hpa := parse_someS (nest_yes nest0 h1 h64) _ _ HBY.out (HSG.out.bw HB9.out)
        rw [← HNL.out] at hpa
        have HPA := hid hpa
        clear hpa HBY HNL h1 h2 h64
        go_wp2_with (first
          | (go_at_call 15; refine HPA.out.mono ?_; rintro e w5 ⟨aa, NN, cc, rfl, hb5⟩; have B5 := hid (HB9.out.trans hb5); clear hb5)
          | (go_at_call 12; refine (num_any _ _).mono ?_; rintro e w' ⟨rfl, hw'⟩; subst w')
          | (go_at_call 9; refine (live_any _ (HSG.out.bw B5.out)).mono ?_; rintro e wl ⟨rfl, hbl⟩; have BL := hid (B5.out.trans hbl); clear hbl)
          | fail)
        all_goals go_ret
        all_goals exact ⟨rfl, BL.out⟩
      · have hne : (64 : Int) < (i : Int) := by omega
        have hpa := parse_someB (nest_no nest0 (show 65 ≤ i by omega) h2) _ _ HBY.out (HSG.out.bw HB9.out)
        have HPA := hid hpa
        clear hpa HBY HNL h1 h2 h64
        go_wp2_with (first
          | (go_at_call 15; refine HPA.out.mono ?_; rintro e w5 ⟨rfl, hb5⟩; have B5 := hid (HB9.out.trans hb5); clear hb5)
          | (go_at_call 12; refine (num_any _ _).mono ?_; rintro e w' ⟨rfl, hw'⟩; subst w')
          | (go_at_call 9; refine (live_any _ (HSG.out.bw B5.out)).mono ?_; rintro e wl ⟨rfl, hbl⟩; have BL := hid (B5.out.trans hbl); clear hbl)
          | fail)
        all_goals go_ret
        all_goals exact ⟨rfl, BL.out⟩

set_option maxRecDepth 100000 in
set_option maxHeartbeats 16000000 in
theorem core1 (n : Nat) (h1 : 60 ≤ n) (h2 : n ≤ 70) (y : Int) (hy : y.tmod 5 = 1) (w : World) (hs : Sg w) :
    Calls Tryd.prog 6 #[.int .i64 (n : Int), .int .u8 y] w fun e w' => e = .returned (.bool true) ∧ Bw w w' := by
  have HSG := hid hs
  clear hs
  have a1 : ∀ i w, i ≤ 70 → (Op.stringOp .add (strOfNums (rep [91] i)) ⟨#[91]⟩).run Tryd.prog w = .ok (.string (strOfNums (rep [91] (i + 1)))) w := fun i w hi => by
    have := run_string_add_sum (P := Tryd.prog) w (strOfNums (rep [91] i)) (strOfNums [91]) (by simp only [strOfNums_size, rep_len]; first | (simp; done) | (simp; omega))
    rw [str_app] at this; exact this
  have a2 : ∀ i w, i ≤ 70 → (Op.stringOp .add (strOfNums (rep [93] i)) ⟨#[93]⟩).run Tryd.prog w = .ok (.string (strOfNums (rep [93] (i + 1)))) w := fun i w hi => by
    have := run_string_add_sum (P := Tryd.prog) w (strOfNums (rep [93] i)) (strOfNums [93]) (by simp only [strOfNums_size, rep_len]; first | (simp; done) | (simp; omega))
    rw [str_app] at this; exact this
  have A1 := hid a1
  have A2 := hid a2
  clear a1 a2
  have a3 : ∀ w, (Op.stringOp .add (strOfNums (rep [91] n)) ⟨#[]⟩).run Tryd.prog w = .ok (.string (strOfNums (rep [91] n ++ []))) w := fun w => by
    have := run_string_add_sum (P := Tryd.prog) w (strOfNums (rep [91] n)) (strOfNums []) (by simp only [strOfNums_size, rep_len]; first | (simp; done) | (simp; omega))
    rw [str_app] at this; exact this
  have a4 : ∀ w, (Op.stringOp .add (strOfNums (rep [91] n ++ [])) (strOfNums (rep [93] n))).run Tryd.prog w = .ok (.string (strOfNums (rep [91] n ++ [] ++ rep [93] n))) w := fun w => by
    have := run_string_add_sum (P := Tryd.prog) w (strOfNums (rep [91] n ++ [])) (strOfNums (rep [93] n)) (by simp only [strOfNums_size, List.length_append, rep_len]; first | (simp; done) | (simp; omega))
    rw [str_app] at this; exact this
  have a5 : ∀ w, (Op.stringOp .add (strOfNums (rep [91] n ++ [] ++ rep [93] n)) ⟨#[59]⟩).run Tryd.prog w = .ok (.string (strOfNums (rep [91] n ++ [] ++ rep [93] n ++ [59]))) w := fun w => by
    have := run_string_add_sum (P := Tryd.prog) w (strOfNums (rep [91] n ++ [] ++ rep [93] n)) (strOfNums [59]) (by simp only [strOfNums_size, List.length_append, rep_len]; first | (simp; done) | (simp; omega))
    rw [str_app] at this; exact this
  have A3 := hid a3
  have A4 := hid a4
  have A5 := hid a5
  clear a3 a4 a5
  have hlen : (nest [91] [] [93] [59] n).length ≤ 1000 := by unfold nest; simp only [List.length_append, rep_len]; simp; omega
  obtain ⟨cp, w9, hcv, hby, hb9⟩ := by_str w (nest [91] [] [93] [59] n) (nest_bytes _ _ _ _ (by decide) (by decide) (by decide) (by decide) n) (by omega)
  obtain ⟨NL, hNL⟩ : ∃ NL, NL = (nest [91] [] [93] [59] n).length := ⟨_, rfl⟩
  rw [← hNL] at hcv hby
  have HNL := hid hNL
  clear hNL hlen
  have HBY := hid hby
  have HB9 := hid hb9
  have HCV := hid hcv
  clear hby hb9 hcv
  go_enter Tryd.func6, Tryd.ntmps6
  go_wp2
  go_loopw [8, 9, 10] (fun s t j wr => ∃ i : Nat, i ≤ n ∧ j = .int .i64 i ∧ s = .string (strOfNums (rep [91] i)) ∧ t = .string (strOfNums (rep [93] i)) ∧ wr = w) (fun _ _ j _ => n - (intOf j).toNat)
  case atStart => exact ⟨0, Nat.zero_le _, rfl, rfl, rfl, rfl⟩
  case round =>
    obtain ⟨i, hi, rfl, rfl, rfl, hwr⟩ := hrel
    subst hwr
    by_cases hlt : i < n
    · have b1 := fun w => A1.out i w (by omega)
      have b2 := fun w => A2.out i w (by omega)
      have hk2 : (i : Int) < (n : Int) := by omega
      generalize hp1 : strOfNums (rep [91] (i + 1)) = p1 at b1
      generalize hp2 : strOfNums (rep [93] (i + 1)) = p2 at b2
      have HP1 := hid hp1
      have HP2 := hid hp2
      clear hp1 hp2
      generalize strOfNums (rep [91] i) = r1 at b1 ⊢
      generalize strOfNums (rep [93] i) = r2 at b2 ⊢
      go_wp2
      go_roundw
      case rel => exact ⟨i + 1, by omega, by go_num, by rw [HP1.out], by rw [HP2.out], trivial⟩
      case measure => simp [intOf]; omega
    · obtain rfl : i = n := by omega
      have hsz : (strOfNums (nest [91] [] [93] [59] i)).size = NL := by rw [HNL.out]; exact strOfNums_size _
      have b3 := A3.out
      have b4 := A4.out
      have b5 := A5.out
      have hcv := HCV.out
      rw [show nest [91] [] [93] [59] i = rep [91] i ++ [] ++ rep [93] i ++ [59] from rfl] at hsz hcv
      generalize strOfNums (rep [91] i) = r1 at b3 ⊢
      generalize strOfNums (rep [93] i) = r2 at b4 ⊢
      generalize strOfNums (rep [91] i ++ []) = r3 at b3 b4
      generalize strOfNums (rep [91] i ++ [] ++ rep [93] i) = r4 at b4 b5
      generalize strOfNums (rep [91] i ++ [] ++ rep [93] i ++ [59]) = r5 at b5 hsz hcv
      by_cases h64 : i ≤ 64
      · have hne : ¬ (64 : Int) < (i : Int) := by omega
        have hpa := parse_someS (nest_yes nest1 h1 h64) _ _ HBY.out (HSG.out.bw HB9.out)
        rw [← HNL.out] at hpa
        have HPA := hid hpa
        clear hpa HBY HNL h1 h2 h64
        go_wp2_with (first
          | (go_at_call 15; refine HPA.out.mono ?_; rintro e w5 ⟨aa, NN, cc, rfl, hb5⟩; have B5 := hid (HB9.out.trans hb5); clear hb5)
          | (go_at_call 12; refine (num_any _ _).mono ?_; rintro e w' ⟨rfl, hw'⟩; subst w')
          | (go_at_call 9; refine (live_any _ (HSG.out.bw B5.out)).mono ?_; rintro e wl ⟨rfl, hbl⟩; have BL := hid (B5.out.trans hbl); clear hbl)
          | fail)
        all_goals go_ret
        all_goals exact ⟨rfl, BL.out⟩
      · have hne : (64 : Int) < (i : Int) := by omega
        have hpa := parse_someB (nest_no nest1 (show 65 ≤ i by omega) h2) _ _ HBY.out (HSG.out.bw HB9.out)
        have HPA := hid hpa
        clear hpa HBY HNL h1 h2 h64
        go_wp2_with (first
          | (go_at_call 15; refine HPA.out.mono ?_; rintro e w5 ⟨rfl, hb5⟩; have B5 := hid (HB9.out.trans hb5); clear hb5)
          | (go_at_call 12; refine (num_any _ _).mono ?_; rintro e w' ⟨rfl, hw'⟩; subst w')
          | (go_at_call 9; refine (live_any _ (HSG.out.bw B5.out)).mono ?_; rintro e wl ⟨rfl, hbl⟩; have BL := hid (B5.out.trans hbl); clear hbl)
          | fail)
        all_goals go_ret
        all_goals exact ⟨rfl, BL.out⟩

set_option maxRecDepth 100000 in
set_option maxHeartbeats 16000000 in
theorem core2 (n : Nat) (h1 : 60 ≤ n) (h2 : n ≤ 70) (y : Int) (hy : y.tmod 5 = 2) (w : World) (hs : Sg w) :
    Calls Tryd.prog 6 #[.int .i64 (n : Int), .int .u8 y] w fun e w' => e = .returned (.bool true) ∧ Bw w w' := by
  have HSG := hid hs
  clear hs
  have a1 : ∀ i w, i ≤ 70 → (Op.stringOp .add (strOfNums (rep [45] i)) ⟨#[45]⟩).run Tryd.prog w = .ok (.string (strOfNums (rep [45] (i + 1)))) w := fun i w hi => by
    have := run_string_add_sum (P := Tryd.prog) w (strOfNums (rep [45] i)) (strOfNums [45]) (by simp only [strOfNums_size, rep_len]; first | (simp; done) | (simp; omega))
    rw [str_app] at this; exact this
  have a2 : ∀ i w, i ≤ 70 → (Op.stringOp .add (strOfNums (rep [] i)) ⟨#[]⟩).run Tryd.prog w = .ok (.string (strOfNums (rep [] (i + 1)))) w := fun i w hi => by
    have := run_string_add_sum (P := Tryd.prog) w (strOfNums (rep [] i)) (strOfNums []) (by simp only [strOfNums_size, rep_len]; first | (simp; done) | (simp; omega))
    rw [str_app] at this; exact this
  have A1 := hid a1
  have A2 := hid a2
  clear a1 a2
  have a3 : ∀ w, (Op.stringOp .add (strOfNums (rep [45] n)) ⟨#[120]⟩).run Tryd.prog w = .ok (.string (strOfNums (rep [45] n ++ [120]))) w := fun w => by
    have := run_string_add_sum (P := Tryd.prog) w (strOfNums (rep [45] n)) (strOfNums [120]) (by simp only [strOfNums_size, rep_len]; first | (simp; done) | (simp; omega))
    rw [str_app] at this; exact this
  have a4 : ∀ w, (Op.stringOp .add (strOfNums (rep [45] n ++ [120])) (strOfNums (rep [] n))).run Tryd.prog w = .ok (.string (strOfNums (rep [45] n ++ [120] ++ rep [] n))) w := fun w => by
    have := run_string_add_sum (P := Tryd.prog) w (strOfNums (rep [45] n ++ [120])) (strOfNums (rep [] n)) (by simp only [strOfNums_size, List.length_append, rep_len]; first | (simp; done) | (simp; omega))
    rw [str_app] at this; exact this
  have a5 : ∀ w, (Op.stringOp .add (strOfNums (rep [45] n ++ [120] ++ rep [] n)) ⟨#[59]⟩).run Tryd.prog w = .ok (.string (strOfNums (rep [45] n ++ [120] ++ rep [] n ++ [59]))) w := fun w => by
    have := run_string_add_sum (P := Tryd.prog) w (strOfNums (rep [45] n ++ [120] ++ rep [] n)) (strOfNums [59]) (by simp only [strOfNums_size, List.length_append, rep_len]; first | (simp; done) | (simp; omega))
    rw [str_app] at this; exact this
  have A3 := hid a3
  have A4 := hid a4
  have A5 := hid a5
  clear a3 a4 a5
  have hlen : (nest [45] [120] [] [59] n).length ≤ 1000 := by unfold nest; simp only [List.length_append, rep_len]; simp; omega
  obtain ⟨cp, w9, hcv, hby, hb9⟩ := by_str w (nest [45] [120] [] [59] n) (nest_bytes _ _ _ _ (by decide) (by decide) (by decide) (by decide) n) (by omega)
  obtain ⟨NL, hNL⟩ : ∃ NL, NL = (nest [45] [120] [] [59] n).length := ⟨_, rfl⟩
  rw [← hNL] at hcv hby
  have HNL := hid hNL
  clear hNL hlen
  have HBY := hid hby
  have HB9 := hid hb9
  have HCV := hid hcv
  clear hby hb9 hcv
  go_enter Tryd.func6, Tryd.ntmps6
  go_wp2
  go_loopw [8, 9, 10] (fun s t j wr => ∃ i : Nat, i ≤ n ∧ j = .int .i64 i ∧ s = .string (strOfNums (rep [45] i)) ∧ t = .string (strOfNums (rep [] i)) ∧ wr = w) (fun _ _ j _ => n - (intOf j).toNat)
  case atStart => exact ⟨0, Nat.zero_le _, rfl, rfl, rfl, rfl⟩
  case round =>
    obtain ⟨i, hi, rfl, rfl, rfl, hwr⟩ := hrel
    subst hwr
    by_cases hlt : i < n
    · have b1 := fun w => A1.out i w (by omega)
      have b2 := fun w => A2.out i w (by omega)
      have hk2 : (i : Int) < (n : Int) := by omega
      generalize hp1 : strOfNums (rep [45] (i + 1)) = p1 at b1
      generalize hp2 : strOfNums (rep [] (i + 1)) = p2 at b2
      have HP1 := hid hp1
      have HP2 := hid hp2
      clear hp1 hp2
      generalize strOfNums (rep [45] i) = r1 at b1 ⊢
      generalize strOfNums (rep [] i) = r2 at b2 ⊢
      go_wp2
      go_roundw
      case rel => exact ⟨i + 1, by omega, by go_num, by rw [HP1.out], by rw [HP2.out], trivial⟩
      case measure => simp [intOf]; omega
    · obtain rfl : i = n := by omega
      have hsz : (strOfNums (nest [45] [120] [] [59] i)).size = NL := by rw [HNL.out]; exact strOfNums_size _
      have b3 := A3.out
      have b4 := A4.out
      have b5 := A5.out
      have hcv := HCV.out
      rw [show nest [45] [120] [] [59] i = rep [45] i ++ [120] ++ rep [] i ++ [59] from rfl] at hsz hcv
      generalize strOfNums (rep [45] i) = r1 at b3 ⊢
      generalize strOfNums (rep [] i) = r2 at b4 ⊢
      generalize strOfNums (rep [45] i ++ [120]) = r3 at b3 b4
      generalize strOfNums (rep [45] i ++ [120] ++ rep [] i) = r4 at b4 b5
      generalize strOfNums (rep [45] i ++ [120] ++ rep [] i ++ [59]) = r5 at b5 hsz hcv
      by_cases h64 : i ≤ 64
      · have hne : ¬ (64 : Int) < (i : Int) := by omega
        have hpa := parse_someS (nest_yes nest2 h1 h64) _ _ HBY.out (HSG.out.bw HB9.out)
        rw [← HNL.out] at hpa
        have HPA := hid hpa
        clear hpa HBY HNL h1 h2 h64
        go_wp2_with (first
          | (go_at_call 15; refine HPA.out.mono ?_; rintro e w5 ⟨aa, NN, cc, rfl, hb5⟩; have B5 := hid (HB9.out.trans hb5); clear hb5)
          | (go_at_call 12; refine (num_any _ _).mono ?_; rintro e w' ⟨rfl, hw'⟩; subst w')
          | (go_at_call 9; refine (live_any _ (HSG.out.bw B5.out)).mono ?_; rintro e wl ⟨rfl, hbl⟩; have BL := hid (B5.out.trans hbl); clear hbl)
          | fail)
        all_goals go_ret
        all_goals exact ⟨rfl, BL.out⟩
      · have hne : (64 : Int) < (i : Int) := by omega
        have hpa := parse_someB (nest_no nest2 (show 65 ≤ i by omega) h2) _ _ HBY.out (HSG.out.bw HB9.out)
        have HPA := hid hpa
        clear hpa HBY HNL h1 h2 h64
        go_wp2_with (first
          | (go_at_call 15; refine HPA.out.mono ?_; rintro e w5 ⟨rfl, hb5⟩; have B5 := hid (HB9.out.trans hb5); clear hb5)
          | (go_at_call 12; refine (num_any _ _).mono ?_; rintro e w' ⟨rfl, hw'⟩; subst w')
          | (go_at_call 9; refine (live_any _ (HSG.out.bw B5.out)).mono ?_; rintro e wl ⟨rfl, hbl⟩; have BL := hid (B5.out.trans hbl); clear hbl)
          | fail)
        all_goals go_ret
        all_goals exact ⟨rfl, BL.out⟩

set_option maxRecDepth 100000 in
set_option maxHeartbeats 16000000 in
theorem core3 (n : Nat) (h1 : 60 ≤ n) (h2 : n ≤ 70) (y : Int) (hy : y.tmod 5 = 3) (w : World) (hs : Sg w) :
    Calls Tryd.prog 6 #[.int .i64 (n : Int), .int .u8 y] w fun e w' => e = .returned (.bool true) ∧ Bw w w' := by
  have HSG := hid hs
  clear hs
  have a1 : ∀ i w, i ≤ 70 → (Op.stringOp .add (strOfNums (rep [110, 111, 116, 32] i)) ⟨#[110, 111, 116, 32]⟩).run Tryd.prog w = .ok (.string (strOfNums (rep [110, 111, 116, 32] (i + 1)))) w := fun i w hi => by
    have := run_string_add_sum (P := Tryd.prog) w (strOfNums (rep [110, 111, 116, 32] i)) (strOfNums [110, 111, 116, 32]) (by simp only [strOfNums_size, rep_len]; first | (simp; done) | (simp; omega))
    rw [str_app] at this; exact this
  have a2 : ∀ i w, i ≤ 70 → (Op.stringOp .add (strOfNums (rep [] i)) ⟨#[]⟩).run Tryd.prog w = .ok (.string (strOfNums (rep [] (i + 1)))) w := fun i w hi => by
    have := run_string_add_sum (P := Tryd.prog) w (strOfNums (rep [] i)) (strOfNums []) (by simp only [strOfNums_size, rep_len]; first | (simp; done) | (simp; omega))
    rw [str_app] at this; exact this
  have A1 := hid a1
  have A2 := hid a2
  clear a1 a2
  have a3 : ∀ w, (Op.stringOp .add (strOfNums (rep [110, 111, 116, 32] n)) ⟨#[120]⟩).run Tryd.prog w = .ok (.string (strOfNums (rep [110, 111, 116, 32] n ++ [120]))) w := fun w => by
    have := run_string_add_sum (P := Tryd.prog) w (strOfNums (rep [110, 111, 116, 32] n)) (strOfNums [120]) (by simp only [strOfNums_size, rep_len]; first | (simp; done) | (simp; omega))
    rw [str_app] at this; exact this
  have a4 : ∀ w, (Op.stringOp .add (strOfNums (rep [110, 111, 116, 32] n ++ [120])) (strOfNums (rep [] n))).run Tryd.prog w = .ok (.string (strOfNums (rep [110, 111, 116, 32] n ++ [120] ++ rep [] n))) w := fun w => by
    have := run_string_add_sum (P := Tryd.prog) w (strOfNums (rep [110, 111, 116, 32] n ++ [120])) (strOfNums (rep [] n)) (by simp only [strOfNums_size, List.length_append, rep_len]; first | (simp; done) | (simp; omega))
    rw [str_app] at this; exact this
  have a5 : ∀ w, (Op.stringOp .add (strOfNums (rep [110, 111, 116, 32] n ++ [120] ++ rep [] n)) ⟨#[59]⟩).run Tryd.prog w = .ok (.string (strOfNums (rep [110, 111, 116, 32] n ++ [120] ++ rep [] n ++ [59]))) w := fun w => by
    have := run_string_add_sum (P := Tryd.prog) w (strOfNums (rep [110, 111, 116, 32] n ++ [120] ++ rep [] n)) (strOfNums [59]) (by simp only [strOfNums_size, List.length_append, rep_len]; first | (simp; done) | (simp; omega))
    rw [str_app] at this; exact this
  have A3 := hid a3
  have A4 := hid a4
  have A5 := hid a5
  clear a3 a4 a5
  have hlen : (nest [110, 111, 116, 32] [120] [] [59] n).length ≤ 1000 := by unfold nest; simp only [List.length_append, rep_len]; simp; omega
  obtain ⟨cp, w9, hcv, hby, hb9⟩ := by_str w (nest [110, 111, 116, 32] [120] [] [59] n) (nest_bytes _ _ _ _ (by decide) (by decide) (by decide) (by decide) n) (by omega)
  obtain ⟨NL, hNL⟩ : ∃ NL, NL = (nest [110, 111, 116, 32] [120] [] [59] n).length := ⟨_, rfl⟩
  rw [← hNL] at hcv hby
  have HNL := hid hNL
  clear hNL hlen
  have HBY := hid hby
  have HB9 := hid hb9
  have HCV := hid hcv
  clear hby hb9 hcv
  go_enter Tryd.func6, Tryd.ntmps6
  go_wp2
  go_loopw [8, 9, 10] (fun s t j wr => ∃ i : Nat, i ≤ n ∧ j = .int .i64 i ∧ s = .string (strOfNums (rep [110, 111, 116, 32] i)) ∧ t = .string (strOfNums (rep [] i)) ∧ wr = w) (fun _ _ j _ => n - (intOf j).toNat)
  case atStart => exact ⟨0, Nat.zero_le _, rfl, rfl, rfl, rfl⟩
  case round =>
    obtain ⟨i, hi, rfl, rfl, rfl, hwr⟩ := hrel
    subst hwr
    by_cases hlt : i < n
    · have b1 := fun w => A1.out i w (by omega)
      have b2 := fun w => A2.out i w (by omega)
      have hk2 : (i : Int) < (n : Int) := by omega
      generalize hp1 : strOfNums (rep [110, 111, 116, 32] (i + 1)) = p1 at b1
      generalize hp2 : strOfNums (rep [] (i + 1)) = p2 at b2
      have HP1 := hid hp1
      have HP2 := hid hp2
      clear hp1 hp2
      generalize strOfNums (rep [110, 111, 116, 32] i) = r1 at b1 ⊢
      generalize strOfNums (rep [] i) = r2 at b2 ⊢
      go_wp2
      go_roundw
      case rel => exact ⟨i + 1, by omega, by go_num, by rw [HP1.out], by rw [HP2.out], trivial⟩
      case measure => simp [intOf]; omega
    · obtain rfl : i = n := by omega
      have hsz : (strOfNums (nest [110, 111, 116, 32] [120] [] [59] i)).size = NL := by rw [HNL.out]; exact strOfNums_size _
      have b3 := A3.out
      have b4 := A4.out
      have b5 := A5.out
      have hcv := HCV.out
      rw [show nest [110, 111, 116, 32] [120] [] [59] i = rep [110, 111, 116, 32] i ++ [120] ++ rep [] i ++ [59] from rfl] at hsz hcv
      generalize strOfNums (rep [110, 111, 116, 32] i) = r1 at b3 ⊢
      generalize strOfNums (rep [] i) = r2 at b4 ⊢
      generalize strOfNums (rep [110, 111, 116, 32] i ++ [120]) = r3 at b3 b4
      generalize strOfNums (rep [110, 111, 116, 32] i ++ [120] ++ rep [] i) = r4 at b4 b5
      generalize strOfNums (rep [110, 111, 116, 32] i ++ [120] ++ rep [] i ++ [59]) = r5 at b5 hsz hcv
      by_cases h64 : i ≤ 64
      · have hne : ¬ (64 : Int) < (i : Int) := by omega
        have hpa := parse_someS (nest_yes nest3 h1 h64) _ _ HBY.out (HSG.out.bw HB9.out)
        rw [← HNL.out] at hpa
        have HPA := hid hpa
        clear hpa HBY HNL h1 h2 h64
        go_wp2_with (first
          | (go_at_call 15; refine HPA.out.mono ?_; rintro e w5 ⟨aa, NN, cc, rfl, hb5⟩; have B5 := hid (HB9.out.trans hb5); clear hb5)
          | (go_at_call 12; refine (num_any _ _).mono ?_; rintro e w' ⟨rfl, hw'⟩; subst w')
          | (go_at_call 9; refine (live_any _ (HSG.out.bw B5.out)).mono ?_; rintro e wl ⟨rfl, hbl⟩; have BL := hid (B5.out.trans hbl); clear hbl)
          | fail)
        all_goals go_ret
        all_goals exact ⟨rfl, BL.out⟩
      · have hne : (64 : Int) < (i : Int) := by omega
        have hpa := parse_someB (nest_no nest3 (show 65 ≤ i by omega) h2) _ _ HBY.out (HSG.out.bw HB9.out)
        have HPA := hid hpa
        clear hpa HBY HNL h1 h2 h64
        go_wp2_with (first
          | (go_at_call 15; refine HPA.out.mono ?_; rintro e w5 ⟨rfl, hb5⟩; have B5 := hid (HB9.out.trans hb5); clear hb5)
          | (go_at_call 12; refine (num_any _ _).mono ?_; rintro e w' ⟨rfl, hw'⟩; subst w')
          | (go_at_call 9; refine (live_any _ (HSG.out.bw B5.out)).mono ?_; rintro e wl ⟨rfl, hbl⟩; have BL := hid (B5.out.trans hbl); clear hbl)
          | fail)
        all_goals go_ret
        all_goals exact ⟨rfl, BL.out⟩

set_option maxRecDepth 100000 in
set_option maxHeartbeats 16000000 in
theorem core4 (n : Nat) (h1 : 60 ≤ n) (h2 : n ≤ 70) (y : Int) (hy : y.tmod 5 = 4) (w : World) (hs : Sg w) :
    Calls Tryd.prog 6 #[.int .i64 (n : Int), .int .u8 y] w fun e w' => e = .returned (.bool true) ∧ Bw w w' := by
  have HSG := hid hs
  clear hs
  have a1 : ∀ i w, i ≤ 70 → (Op.stringOp .add (strOfNums (rep [123] i)) ⟨#[123]⟩).run Tryd.prog w = .ok (.string (strOfNums (rep [123] (i + 1)))) w := fun i w hi => by
    have := run_string_add_sum (P := Tryd.prog) w (strOfNums (rep [123] i)) (strOfNums [123]) (by simp only [strOfNums_size, rep_len]; first | (simp; done) | (simp; omega))
    rw [str_app] at this; exact this
  have a2 : ∀ i w, i ≤ 70 → (Op.stringOp .add (strOfNums (rep [125] i)) ⟨#[125]⟩).run Tryd.prog w = .ok (.string (strOfNums (rep [125] (i + 1)))) w := fun i w hi => by
    have := run_string_add_sum (P := Tryd.prog) w (strOfNums (rep [125] i)) (strOfNums [125]) (by simp only [strOfNums_size, rep_len]; first | (simp; done) | (simp; omega))
    rw [str_app] at this; exact this
  have A1 := hid a1
  have A2 := hid a2
  clear a1 a2
  have a3 : ∀ w, (Op.stringOp .add (strOfNums (rep [123] n)) ⟨#[]⟩).run Tryd.prog w = .ok (.string (strOfNums (rep [123] n ++ []))) w := fun w => by
    have := run_string_add_sum (P := Tryd.prog) w (strOfNums (rep [123] n)) (strOfNums []) (by simp only [strOfNums_size, rep_len]; first | (simp; done) | (simp; omega))
    rw [str_app] at this; exact this
  have a4 : ∀ w, (Op.stringOp .add (strOfNums (rep [123] n ++ [])) (strOfNums (rep [125] n))).run Tryd.prog w = .ok (.string (strOfNums (rep [123] n ++ [] ++ rep [125] n))) w := fun w => by
    have := run_string_add_sum (P := Tryd.prog) w (strOfNums (rep [123] n ++ [])) (strOfNums (rep [125] n)) (by simp only [strOfNums_size, List.length_append, rep_len]; first | (simp; done) | (simp; omega))
    rw [str_app] at this; exact this
  have a5 : ∀ w, (Op.stringOp .add (strOfNums (rep [123] n ++ [] ++ rep [125] n)) ⟨#[]⟩).run Tryd.prog w = .ok (.string (strOfNums (rep [123] n ++ [] ++ rep [125] n ++ []))) w := fun w => by
    have := run_string_add_sum (P := Tryd.prog) w (strOfNums (rep [123] n ++ [] ++ rep [125] n)) (strOfNums []) (by simp only [strOfNums_size, List.length_append, rep_len]; first | (simp; done) | (simp; omega))
    rw [str_app] at this; exact this
  have A3 := hid a3
  have A4 := hid a4
  have A5 := hid a5
  clear a3 a4 a5
  have hlen : (nest [123] [] [125] [] n).length ≤ 1000 := by unfold nest; simp only [List.length_append, rep_len]; simp; omega
  obtain ⟨cp, w9, hcv, hby, hb9⟩ := by_str w (nest [123] [] [125] [] n) (nest_bytes _ _ _ _ (by decide) (by decide) (by decide) (by decide) n) (by omega)
  obtain ⟨NL, hNL⟩ : ∃ NL, NL = (nest [123] [] [125] [] n).length := ⟨_, rfl⟩
  rw [← hNL] at hcv hby
  have HNL := hid hNL
  clear hNL hlen
  have HBY := hid hby
  have HB9 := hid hb9
  have HCV := hid hcv
  clear hby hb9 hcv
  go_enter Tryd.func6, Tryd.ntmps6
  go_wp2
  go_loopw [8, 9, 10] (fun s t j wr => ∃ i : Nat, i ≤ n ∧ j = .int .i64 i ∧ s = .string (strOfNums (rep [123] i)) ∧ t = .string (strOfNums (rep [125] i)) ∧ wr = w) (fun _ _ j _ => n - (intOf j).toNat)
  case atStart => exact ⟨0, Nat.zero_le _, rfl, rfl, rfl, rfl⟩
  case round =>
    obtain ⟨i, hi, rfl, rfl, rfl, hwr⟩ := hrel
    subst hwr
    by_cases hlt : i < n
    · have b1 := fun w => A1.out i w (by omega)
      have b2 := fun w => A2.out i w (by omega)
      have hk2 : (i : Int) < (n : Int) := by omega
      generalize hp1 : strOfNums (rep [123] (i + 1)) = p1 at b1
      generalize hp2 : strOfNums (rep [125] (i + 1)) = p2 at b2
      have HP1 := hid hp1
      have HP2 := hid hp2
      clear hp1 hp2
      generalize strOfNums (rep [123] i) = r1 at b1 ⊢
      generalize strOfNums (rep [125] i) = r2 at b2 ⊢
      go_wp2
      go_roundw
      case rel => exact ⟨i + 1, by omega, by go_num, by rw [HP1.out], by rw [HP2.out], trivial⟩
      case measure => simp [intOf]; omega
    · obtain rfl : i = n := by omega
      have hsz : (strOfNums (nest [123] [] [125] [] i)).size = NL := by rw [HNL.out]; exact strOfNums_size _
      have b3 := A3.out
      have b4 := A4.out
      have b5 := A5.out
      have hcv := HCV.out
      rw [show nest [123] [] [125] [] i = rep [123] i ++ [] ++ rep [125] i ++ [] from rfl] at hsz hcv
      rw [List.append_nil] at hsz hcv
      generalize strOfNums (rep [123] i) = r1 at b3 ⊢
      generalize strOfNums (rep [125] i) = r2 at b4 ⊢
      generalize strOfNums (rep [123] i ++ []) = r3 at b3 b4
      clear b5
      generalize strOfNums (rep [123] i ++ [] ++ rep [125] i) = r5 at b4 hsz hcv
      by_cases h64 : i ≤ 64
      · have hne : ¬ (64 : Int) < (i : Int) := by omega
        have hpa := parse_someS (nest_yes nest4 h1 h64) _ _ HBY.out (HSG.out.bw HB9.out)
        rw [← HNL.out] at hpa
        have HPA := hid hpa
        clear hpa HBY HNL h1 h2 h64
        go_wp2_with (first
          | (go_at_call 15; refine HPA.out.mono ?_; rintro e w5 ⟨aa, NN, cc, rfl, hb5⟩; have B5 := hid (HB9.out.trans hb5); clear hb5)
          | (go_at_call 12; refine (num_any _ _).mono ?_; rintro e w' ⟨rfl, hw'⟩; subst w')
          | (go_at_call 9; refine (live_any _ (HSG.out.bw B5.out)).mono ?_; rintro e wl ⟨rfl, hbl⟩; have BL := hid (B5.out.trans hbl); clear hbl)
          | fail)
        all_goals go_ret
        all_goals exact ⟨rfl, BL.out⟩
      · have hne : (64 : Int) < (i : Int) := by omega
        have hpa := parse_someB (nest_no nest4 (show 65 ≤ i by omega) h2) _ _ HBY.out (HSG.out.bw HB9.out)
        have HPA := hid hpa
        clear hpa HBY HNL h1 h2 h64
        go_wp2_with (first
          | (go_at_call 15; refine HPA.out.mono ?_; rintro e w5 ⟨rfl, hb5⟩; have B5 := hid (HB9.out.trans hb5); clear hb5)
          | (go_at_call 12; refine (num_any _ _).mono ?_; rintro e w' ⟨rfl, hw'⟩; subst w')
          | (go_at_call 9; refine (live_any _ (HSG.out.bw B5.out)).mono ?_; rintro e wl ⟨rfl, hbl⟩; have BL := hid (B5.out.trans hbl); clear hbl)
          | fail)
        all_goals go_ret
        all_goals exact ⟨rfl, BL.out⟩

theorem walk (a0 : Int) (w0 : -9223372036854775808 ≤ a0 ∧ a0 ≤ 9223372036854775807) (a1 : Int) (w1 : 0 ≤ a1 ∧ a1 ≤ 255) (w : World) (hs : Sg w) :
    Calls Tryd.prog 6 #[.int .i64 a0, .int .u8 a1] w fun e w' => e = .returned (.bool true) ∧ Bw w w' := by
  by_cases hn : a0 < 60 ∨ 70 < a0
  · exact coreL a0 hn a1 w hs
  · obtain ⟨n, rfl⟩ : ∃ n : Nat, a0 = (n : Int) := ⟨a0.toNat, by omega⟩
    have e5 : a1.tmod 5 = a1 % 5 := Int.tmod_eq_emod_of_nonneg w1.1
    have : a1 % 5 = 0 ∨ a1 % 5 = 1 ∨ a1 % 5 = 2 ∨ a1 % 5 = 3 ∨ a1 % 5 = 4 := by omega
    rcases this with h | h | h | h | h
    · exact core0 n (by omega) (by omega) a1 (by omega) w hs
    · exact core1 n (by omega) (by omega) a1 (by omega) w hs
    · exact core2 n (by omega) (by omega) a1 (by omega) w hs
    · exact core3 n (by omega) (by omega) a1 (by omega) w hs
    · exact core4 n (by omega) (by omega) a1 (by omega) w hs

set_option maxRecDepth 100000 in
theorem lifted (os : Os) (started : os.Started) (H : Type) (enc : TypeId × Value → H) :
    ReturnsInHanded {} Tryd.checked os 6 .any (fun w args => (Rows.parseNestsSpec.pre enc Tryd.prog Tryd.f6 [] false w args ∧ laidMetH Tryd.prog laidS w) ∧ sizedMet enc Tryd.prog Tryd.f6 (OpenSpec.ofChange Rows.parseNestsSpec) false w args)
      (Rows.parseNestsSpec.post enc Tryd.prog Tryd.f6 false true false false) := by
  refine returnsInHanded_of_change_and (C := Tryd.checked) (X := fun w _ => laidMetH Tryd.prog laidS w) (fun _ _ _ hh h => h.of_heap hh) ownK started (by kernel_rfl) Tryd.func6
    (ChangeSpec.witness_shaped (enc := enc) (C := Tryd.checked) (os := os) (X := fun w _ => laidMetH Tryd.prog laidS w) false (World.doorLaid Tryd.prog 400 os) #[.int .i64 0, .int .u8 0] 8 rfl (World.shaped_of_RefB (by kernel_rfl) (by kernel_rfl)) (by kernel_rfl) (by kernel_rfl) (by kernel_rfl) (door_met os _)) ?_
  intro W base args ds gs before hval0 hW _ _ hL _
  have hval : ∀ (j : Nat) t v, Tryd.f6.params[j]? = some t → args[j]? = some v → Value.okWide Tryd.prog W .any base t v := hval0
  have hW' := hW
  obtain ⟨p, q, hA0, hV, rfl, hfz, hnd⟩ := hW
  have hA : DataW.TrodAll enc Tryd.prog W 0 (fun _ => true) true Tryd.f6.params.toList args.toList ds p := hA0
  rw [Tryd.params6] at hA hval
  obtain ⟨v0, vs0, d0, ds0, p0, q0, hargs, rfl, rfl, h0, r0⟩ := trodAll_cons hA
  obtain ⟨v1, vs1, d1, ds1, p1, q1, rfl, rfl, rfl, h1, r1⟩ := trodAll_cons r0
  obtain ⟨rfl, rfl, rfl⟩ := trodAll_nil r1
  obtain rfl : args = #[v0, v1] := by cases args; simp_all
  obtain ⟨rfl, rfl⟩ := trodVars_none hV
  have k0 := h0
  have lt0 : ∀ x ∈ p0, x.block < W.heap.size := by obtain ⟨m, hm⟩ := k0; exact DataW.trod_lt m _ _ _ hm
  have k1 := h1
  have lt1 : ∀ x ∈ p1, x.block < W.heap.size := by obtain ⟨m, hm⟩ := k1; exact DataW.trod_lt m _ _ _ hm
  obtain ⟨a0, rfl, rfl, rfl, w00⟩ := open_int Tryd.underlying3 (hval 0 3 v0 rfl rfl) h0
  have w0 := bounds_i64 w00
  obtain ⟨a1, rfl, rfl, rfl, w10⟩ := open_int Tryd.underlying5 (hval 1 5 v1 rfl rfl) h1
  have w1 : 0 ≤ a1 ∧ a1 ≤ 255 := by have := bounds_u8 w10; omega
  have hs := sg_of_laid hL
  clear hA0 hval0
  refine (walk a0 w0 a1 w1 W hs).mono fun e W' ⟨he, bel⟩ => ?_
  subst he
  exact ⟨_, rfl, _, _, _, [], _, [], hW', trodAll_mk1 (shut_bool Tryd.underlying4 _), (trodAll_cons_mk (Below.trod laidOut (by kernel_rfl) (of_decide_eq_true (by kernel_rfl)) k0 bel lt0) (trodAll_cons_mk (Below.trod laidOut (by kernel_rfl) (of_decide_eq_true (by kernel_rfl)) k1 bel lt1) trodAll_mk0)), rfl, Below.frame bel _, fun h => by cases h⟩

theorem over : Rows.parseNestsRow.holds Tryd.pinned (OpenSpec.ofChange Rows.parseNestsSpec) :=
  OpenClaim.holds_of_wide 6 Tryd.f6 rfl rfl rfl rfl rfl rfl rfl ⟨rfl, rfl, rfl, rfl, rfl⟩ rfl rfl rfl rfl rfl (by kernel_rfl) Tryd.func6 (by kernel_rfl)
    (of_decide_eq_true (by kernel_rfl)) (by unfold Func.isWrapper; first | (rw [if_pos (by decide +kernel)]; kernel_rfl) | (rw [if_neg (by decide +kernel)]; exact ⟨rfl, rfl⟩))
    (fun os started H enc _ => lifted os started H enc)

theorem card : Rows.ParseNestsCardSaid :=
  Claim7.holds_tied_plain_at .later [] [.data, .data] true (true, "36416aa127a414b8e871c5c40ef6765fd5093d814fd70c812b1480c79391dc0a") true
    over (fun _ h => by cases h) (by kernel_rfl) (fun _ h => by cases h) parseNests_row_tie rfl ⟨rfl, rfl⟩ (by kernel_rfl) rfl
    (fun f fn hf hfn => by
      obtain rfl : f = 6 := Option.some.inj ((show Tryd.prog.funcNamed "jacquard/jacquardlaw06.ParseNests" = some 6 by kernel_rfl).symm.trans hf) |>.symm
      obtain rfl : fn = Tryd.f6 := (Option.some.inj (Tryd.func6.symm.trans hfn)).symm
      exact ⟨by kernel_rfl, fun j t ht => by
        rw [Tryd.params6] at ht
        have hm : t ∈ [3, 5] := by have h9 := Array.mem_of_getElem? ht; simp at h9 ⊢; first | exact h9 | (rcases h9 with h9 | h9 <;> simp [h9]; done) | (rcases h9 with h9 | h9 | h9 <;> simp [h9]; done) | (rcases h9 with h9 | h9 | h9 | h9 <;> simp [h9]; done)
        have hall : ([3, 5].all fun u => !Tryd.prog.wantsStandIn u) = true := by kernel_rfl
        exact (show Tryd.prog.wantsStandIn t = false by simpa using List.all_eq_true.1 hall t hm)⟩)
    (by kernel_rfl)
end Go.Proofs.YthkiddohjilfhaaDoor.parseNests
namespace Go.Proofs.YthkiddohjilfhaaDoor
theorem parseNests_holds : Rows.ParseNestsCardSaid := parseNests.card
#print axioms parseNests_holds
end Go.Proofs.YthkiddohjilfhaaDoor

