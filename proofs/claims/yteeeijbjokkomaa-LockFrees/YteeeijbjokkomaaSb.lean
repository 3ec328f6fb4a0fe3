/- Those that wait put in order (fewer than 20); Expire; the least time: contracts. -/
import Derived.Test.YteeeijbjokkomaaSa
set_option linter.unusedSimpArgs false
set_option linter.unusedVariables false
namespace Go.Proofs.Yteeeijbjokkomaa
open Go Go.RowKit

set_option maxRecDepth 100000 in
set_option maxHeartbeats 1000000 in
theorem stW_few {w : World} {g cap : Nat} (L : List WW) (h : w.ownsRow 0 89 4 (.slice (some ⟨g, 0, none⟩) L.length cap) L.length (L.flatMap wC)) (hm : L.length < 20) :
    Calls Try.prog 66 #[.slice (some ⟨g, 0, none⟩) L.length cap, .int .i64 L.length, .func (.func 47) #[] #[]] w fun e w' => e = .returned (.tuple #[]) ∧ w'.ownsRow 0 89 4 (.slice (some ⟨g, 0, none⟩) L.length cap) L.length ((srt L).flatMap wC) ∧ Ex [g] w w' := by
  have HI := hid (isW_any L h (by omega))
  have i1 : ¬ (20 : Int) ≤ (L.length : Int) := by omega
  have i2 : ¬ (20 : Int) < (L.length : Int) := by omega
  clear h
  go_enter Try.func66, Try.ntmps66
  go_wp2
  go_loopw [7, 8] (fun x y wr => x = .int .i64 0 ∧ y = .int .i64 20 ∧ wr = w) (fun _ _ _ => 0)
  case atStart => exact ⟨rfl, rfl, rfl⟩
  case round =>
    obtain ⟨rfl, rfl, rfl⟩ := hrel
    go_wp2_with (first
      | (go_at_call 70; refine HI.out.mono ?_; rintro e w1 ⟨rfl, ho, hx⟩; have HO := hid ho; have HX := hid hx; clear ho hx)
      | fail)
    go_loopw [6, 7, 8, 9] (fun x _ _ _ wz => x = .int .i64 20 ∧ wz = w1) (fun _ _ _ _ _ => 0)
    case atStart => exact ⟨rfl, rfl⟩
    case round =>
      obtain ⟨rfl, rfl⟩ := hrel
      go_wp2
      all_goals go_end0
      all_goals exact ⟨rfl, HO.out, HX.out⟩

set_option maxRecDepth 100000 in
set_option maxHeartbeats 1000000 in
theorem ssW_few {w : World} {g cap : Nat} (L : List WW) (h : w.ownsRow 0 89 4 (.slice (some ⟨g, 0, none⟩) L.length cap) L.length (L.flatMap wC)) (hm : L.length < 20) :
    Calls Try.prog 51 #[.slice (some ⟨g, 0, none⟩) L.length cap, .func (.func 47) #[] #[]] w fun e w' => e = .returned (.tuple #[]) ∧ w'.ownsRow 0 89 4 (.slice (some ⟨g, 0, none⟩) L.length cap) L.length ((srt L).flatMap wC) ∧ Ex [g] w w' := by
  have HI := hid (stW_few L h hm)
  clear h
  go_enter Try.func51, Try.ntmps51
  go_wp2_with (first
    | (go_at_call 66; refine HI.out.mono ?_; rintro e w1 ⟨rfl, ho, hx⟩; have HO := hid ho; have HX := hid hx; clear ho hx)
    | fail)
  all_goals go_end0
  all_goals exact ⟨rfl, HO.out, HX.out⟩

set_option maxRecDepth 100000 in
set_option maxHeartbeats 1000000 in
theorem stW_none (w : World) : Calls Try.prog 66 #[.slice none 0 0, .int .i64 0, .func (.func 47) #[] #[]] w fun e w' => e = .returned (.tuple #[]) ∧ w' = w := by
  have hi : ∀ w : World, Calls Try.prog 70 #[.slice none 0 0, .int .i64 0, .int .i64 0, .func (.func 47) #[] #[]] w fun e w' => e = .returned (.tuple #[]) ∧ w' = w := by
    intro w
    go_enter Try.func70, Try.ntmps70
    go_wp2
    go_loopw [8, 9] (fun j _ wr => j = .int .i64 1 ∧ wr = w) (fun j _ _ => 0)
    case atStart => exact ⟨rfl, rfl⟩
    case round =>
      obtain ⟨rfl, rfl⟩ := hrel
      go_wp2
      all_goals go_end0
      all_goals exact ⟨rfl, rfl⟩
  go_enter Try.func66, Try.ntmps66
  go_wp2
  go_loopw [7, 8] (fun x y wr => x = .int .i64 0 ∧ y = .int .i64 20 ∧ wr = w) (fun _ _ _ => 0)
  case atStart => exact ⟨rfl, rfl, rfl⟩
  case round =>
    obtain ⟨rfl, rfl, rfl⟩ := hrel
    go_wp2_with (first
      | (go_at_call 70; refine (hi _).mono ?_; rintro e w1 ⟨rfl, hw⟩; subst w1)
      | fail)
    go_loopw [6, 7, 8, 9] (fun x _ _ _ wz => x = .int .i64 20 ∧ wz = wr) (fun _ _ _ _ _ => 0)
    case atStart => exact ⟨rfl, rfl⟩
    case round =>
      obtain ⟨rfl, rfl⟩ := hrel
      go_wp2
      all_goals go_end0
      all_goals exact ⟨rfl, rfl⟩

set_option maxRecDepth 100000 in
set_option maxHeartbeats 1000000 in
theorem ssW_none (w : World) : Calls Try.prog 51 #[.slice none 0 0, .func (.func 47) #[] #[]] w fun e w' => e = .returned (.tuple #[]) ∧ w' = w := by
  go_enter Try.func51, Try.ntmps51
  go_wp2_with (first
    | (go_at_call 66; refine (stW_none _).mono ?_; rintro e w1 ⟨rfl, hw⟩; subst w1)
    | fail)
  all_goals go_end0
  all_goals exact ⟨rfl, rfl⟩

/-- Whatever row of fewer than 20. -/
theorem ssW_own {w : World} {base : Nat} {v : Value} (L : List WW) (h : w.ownsRow base 89 4 v L.length (L.flatMap wC)) (hm : L.length < 20) :
    Calls Try.prog 51 #[v, .func (.func 47) #[] #[]] w fun e w' => e = .returned (.tuple #[]) ∧ w'.ownsRow base 89 4 v L.length ((srt L).flatMap wC) ∧ Ex v.ownBlock.toList w w' := by
  rcases h.2 with ⟨rfl, h0⟩ | ⟨g, cap, cur, rfl, hb, r⟩
  · have hl : L = [] := List.eq_nil_of_length_eq_zero h0
    subst hl
    exact (ssW_none w).mono fun e w' ⟨he, hw⟩ => ⟨he, by rw [hw]; exact h, by rw [hw]; exact Ex.refl _ _⟩
  · refine (ssW_few L (own_base h (Nat.zero_le _)) hm).mono fun e w' ⟨he, ho, hx⟩ => ⟨he, ⟨ho.1, ?_⟩, hx⟩
    rcases ho.2 with ⟨h1, _⟩ | ⟨g', cap', cur', e1, _, r'⟩
    · cases h1
    · cases e1
      exact .inr ⟨g, cap, cur', rfl, hb, r'⟩

section
variable {w : World} {p : Nat} {bs : List Nat} {mv wv kv : Value} {R : List MM} {A : LL}

theorem due_len (A : LL) (now : Int) : (dueL A now).length = (A.W.filter (dueP now)).length := (srt_all _).2.1
theorem due_mem (A : LL) (now : Int) (x : WW) : x ∈ dueL A now → x ∈ A.W := fun h => (List.mem_filter.1 (((srt_all _).2.2 x).1 h)).1

theorem expire_fin {w2 w3 : World} {v1 v2 : Value} {now : Int} (h : PS w p bs mv wv kv R A) (hb : Bw w w2) (h1 : w2.ownsRow w.heap.size 89 4 v1 (A.W.filter (dueP now)).length ((A.W.filter (dueP now)).flatMap wC)) (h2 : w2.ownsRow w.heap.size 89 4 v2 (A.W.filter (fun x => !dueP now x)).length ((A.W.filter (fun x => !dueP now x)).flatMap wC)) (hap : ∀ b, v1.ownBlock = some b → v2.ownBlock ≠ some b)
    (h3 : w3.ownsRow w.heap.size 89 4 v1 (A.W.filter (dueP now)).length ((srt (A.W.filter (dueP now))).flatMap wC)) (hx : Ex v1.ownBlock.toList w2 w3) (hl : (A.W.filter (fun x => !dueP now x)).length ≤ A.W.length) :
    PS w3 p bs mv wv kv R A ∧ PS (w3.setCell ⟨p, 1, none⟩ v2) p (bs ++ v2.ownBlock.toList) mv v2 kv R { A with W := A.W.filter (fun x => !dueP now x) } ∧ Nx bs w (w3.setCell ⟨p, 1, none⟩ v2) (bs ++ v2.ownBlock.toList) ∧ Sl (w3.setCell ⟨p, 1, none⟩ v2) (fun b => b ∉ bs ++ v2.ownBlock.toList) v1 (dueL A now).length 4 ((dueL A now).flatMap wC) := by
  have hb3 : Bw w w3 := hb.ex hx (fun x hx => by
    have : v1.ownBlock = some x := by simpa using hx
    exact (h1.lt x this).1)
  have h2' : w3.ownsRow w.heap.size 89 4 v2 (A.W.filter (fun x => !dueP now x)).length ((A.W.filter (fun x => !dueP now x)).flatMap wC) := own_keep h2 (fun b e => hx.block b (h2.lt b e).2 (fun hm => hap b (by simpa using hm) e))
  exact ⟨h.bw hb3, split_fin (l1 := dueL A now) h hb3 (by rw [due_len]; exact h3) h2' hap (fun x hx => (List.mem_filter.1 hx).1) hl⟩

set_option maxRecDepth 100000 in
set_option maxHeartbeats 2000000 in
theorem Expire_ps (h : PS w p bs mv wv kv R A) (now : Int) (hf : (A.W.filter (dueP now)).length < 20) : Calls Try.prog 19 #[.pointer (some ⟨p, 0, none⟩), .int .i64 now] w fun e w' => ∃ r bs', e = .returned r ∧ w'.ownsRow w.heap.size 3 1 r (dueL A now).length ((dueL A now).map (fun x => Value.int .i64 x.t)) ∧ PX w' p bs' (expireA A now) ∧ Nx bs w w' bs' ∧ ∀ b, r.ownBlock = some b → b ∉ bs' := by
  obtain ⟨hlp, c0, c1, c2, hfz⟩ := h.cells
  obtain ⟨aw, cw, rfl⟩ := own_form h.rw
  have HP := hid h
  have HBG := hid h.big
  clear h
  have hmf : ∀ (fn : Fn) (first cap : Array Value) (w : World), (Instr.makeFunc fn first cap).run Try.prog w = .ok (.func fn first cap) w := fun _ _ _ _ => rfl
  have HSP := hid (fun (W : World) (hb : Bw (w.alloc (.cells #[.int .i64 now] 3)) W) => splW_any (w := W) 50 #[.pointer (some ⟨w.heap.size, 0, none⟩)] (dueP now) (fun _ _ => by kernel_rfl) (.slice aw A.W.length cw) A.W A.W.length (HP.out.bw ((Bw.alloc (Bw.refl _) _).trans hb)).sw (by have := HBG.out; omega)
    (fun x _ W' hb' => expire1_any W' w.heap.size now (by rw [Below.cell (hb.trans hb') (p := ⟨w.heap.size, 0, none⟩) (by simp)]; exact (Blk.new w _ _).cell 0) x))
  rw [spl_all] at HSP
  simp only at HSP
  have HL := hid (show (A.W.filter (dueP now)).length + (A.W.filter (fun x => !dueP now x)).length = A.W.length by
    have := spl_len (dueP now) A.W.length A.W
    rw [spl_all] at this
    exact this)
  have HF2 := hid hf
  have HDL := hid (due_len A now)
  go_enter Try.func19, Try.ntmps19
  go_wp2
  go_region_with (go_at_call 39; refine (HSP.out _ (by repeat (first | exact Bw.refl _ | apply Bw.lay | apply Bw.alloc | apply Bw.drewN | apply Bw.drew))).mono ?_; rintro e w2 ⟨v1, v2, rfl, ho1, ho2, hap, hb2⟩; obtain ⟨a1, c1', e⟩ := own_form ho1; subst e; obtain ⟨a2, c2', e⟩ := own_form ho2; subst e; have HB2 := hid ((Bw.alloc (Bw.refl w) (.cells #[.int .i64 now] 3)).trans (Bw.trans (by repeat (first | exact Bw.refl _ | apply Bw.lay | apply Bw.alloc | apply Bw.drewN | apply Bw.drew)) hb2)); have HO1 := hid (own_base (base' := w.heap.size) ho1 (by simp <;> omega)); have HO2 := hid (own_base (base' := w.heap.size) ho2 (by simp <;> omega)); have HAP := hid hap; clear ho1 ho2 hap hb2)
  all_goals go_wp2_with (first
    | (go_at_call 51; refine (ssW_own _ HO1.out HF2.out).mono ?_; rintro e w3 ⟨rfl, ho3, hx3⟩; have HF3 := hid (expire_fin HP.out HB2.out HO1.out HO2.out HAP.out ho3 hx3 (by have := HL.out; omega)); obtain ⟨hlp3, f0, f1, f2, hfz3⟩ := HF3.out.1.cells; clear ho3 hx3)
    | (go_at_call 41; refine (wake_any HF3.out.2.1 _ (dueL A now) false HF3.out.2.2.2 (fun x hx => HP.out.ok.W x (due_mem A now x hx)) (by have := HL.out; have := HDL.out; have := HBG.out; simp only; omega)).mono ?_; rintro e w4 ⟨r, bs4, rfl, ho4, hp4, hn4, hg4⟩; obtain ⟨a4, c4', e⟩ := own_form ho4; subst e; have HO4 := hid ho4; have HP4 := hid hp4; have HN4 := hid hn4; have HG4 := hid hg4; clear ho4 hp4 hn4 hg4)
    | fail)
  all_goals go_ret
  all_goals first
    | exact ⟨_, _, rfl, own_base HO4.out HF3.out.2.2.1.ex.size, HP4.out, HF3.out.2.2.1.trans HN4.out, HG4.out⟩
    | exact ⟨_, rfl, own_base HO4.out HF3.out.2.2.1.ex.size, _, HP4.out, HF3.out.2.2.1.trans HN4.out, HG4.out⟩

theorem Expire_few (h : PX w p bs A) (now : Int) (hf : (A.W.filter (dueP now)).length < 20) : Calls Try.prog 19 #[.pointer (some ⟨p, 0, none⟩), .int .i64 now] w fun e w' => ∃ r bs', e = .returned r ∧ w'.ownsRow w.heap.size 3 1 r ((dueL A now).map (·.t)).length (((dueL A now).map (·.t)).map (Value.int .i64)) ∧ PX w' p bs' (expireA A now) ∧ Nx bs w w' bs' ∧ ∀ b, r.ownBlock = some b → b ∉ bs' := by
  obtain ⟨mv, wv, kv, R, h⟩ := h
  refine (Expire_ps h now hf).mono fun e w' ⟨r, bs', he, ho, hp, hn, hg⟩ => ⟨r, bs', he, ?_, hp, hn, hg⟩
  rw [List.length_map, List.map_map]
  exact ho
end

end Go.Proofs.Yteeeijbjokkomaa
