/- What stands behind a sign that is open: contracts. · Things: what their calls promise; a thing's parts. · A spawn, what has a - ahead: contracts. · A part whose row came of a row that was read; of two parts. -/
import Derived.Test.YtlcieebneclmpaaDoorK8
import Derived.Test.YtlcieebneclmpaaDoorPtk
set_option linter.unusedSimpArgs false
set_option linter.unusedVariables false
namespace Go.Proofs.YtlcieebneclmpaaDoor
open Go Go.RowKit

section
variable {B w : World} {r g cap : Nat} {T : List ATok} {ex : Nat → Value} {i o : Nat}

set_option maxRecDepth 100000 in
set_option maxHeartbeats 8000000 in
theorem behind_n (f k : Nat) (kind : Int) (s : ByteArray) (hc : RdP B r g cap T ex f 54 #[.pointer (some ⟨r, 0, none⟩)] (.lev k)) (h : RI B w r g cap T ex i o) (ho : o ≤ 64) (hs : isT T i s = true)
    (hne : (entr T s i o fun j o => (pP T f (.lev k) j o).bind fun x _ j => .ok (.mk kind [] 0 (tk T i).2.2.2 [x]) false j) ≠ .out) :
    Calls Tryd.prog 72 #[.pointer (some ⟨r, 0, none⟩), .int .i64 kind, .string s, .func (.func 54) #[.pointer (some ⟨r, 0, none⟩)] #[]] w (Got B r g cap T ex o No w (entr T s i o fun j o => (pP T f (.lev k) j o).bind fun x _ j => .ok (.mk kind [] 0 (tk T i).2.2.2 [x]) false j)) := by
  have HS := hid (SI.begin h)
  have HC := hid hc
  have HI := hid hs
  unfold entr at hne ⊢
  rw [if_pos hs] at hne ⊢
  clear hc h hs
  by_cases h64 : o = 64
  · rw [if_pos h64]
    have H64 := hid h64
    clear hne h64
    go_enter Tryd.func72, Tryd.ntmps72
    go_wp2_with (first
      | (go_at_call 77; refine (enter_many _ (HS.out.ri.bw (by repeat (first | exact Bw.refl _ | apply Bw.alloc | apply Bw.drewN | apply Bw.drew))) HI.out H64.out).mono ?_; rintro e w1 ⟨rfl, hk1⟩; have HK := hid ((HS.out.kp.bw (by repeat (first | exact Bw.refl _ | apply Bw.alloc | apply Bw.drewN | apply Bw.drew))).trans hk1); clear hk1)
      | fail)
    all_goals exact ⟨rfl, rfl, HK.out⟩
  · rw [if_neg h64] at hne ⊢
    dsimp only at hne ⊢
    have hlt : o < 64 := by omega
    have H64 := hid hlt
    have HNE := hid (show pP T f (.lev k) (i + 1) (o + 1) ≠ .out from fun e => hne (by rw [e]; rfl))
    clear hne h64
    generalize hq : pP T f (.lev k) (i + 1) (o + 1) = R
    have HQ := hid hq
    clear hq
    cases R with
    | out => exact absurd HQ.out HNE.out
    | bad n a =>
      simp only [Res.bind]
      go_enter Tryd.func72, Tryd.ntmps72
      go_wp2_with (first
        | (go_at_call 77; refine (enter_yes _ (HS.out.ri.bw (by repeat (first | exact Bw.refl _ | apply Bw.alloc | apply Bw.drewN | apply Bw.drew))) HI.out H64.out).mono ?_; rintro e w1 ⟨rfl, hr1, hk1⟩; have HS := hid ((HS.out.bw (by repeat (first | exact Bw.refl _ | apply Bw.alloc | apply Bw.drewN | apply Bw.drew))).go hr1 hk1); clear hr1 hk1)
        | (go_at_call 54; refine (HC.out _ _ _ (HS.out.ri.bw (by repeat (first | exact Bw.refl _ | apply Bw.alloc | apply Bw.drewN | apply Bw.drew))) (Nat.succ_le_of_lt H64.out) HNE.out).mono ?_; intro e w2 h2; rw [HQ.out] at h2; obtain ⟨rfl, hk2⟩ := h2; have HK := hid ((HS.out.kp.bw (by repeat (first | exact Bw.refl _ | apply Bw.alloc | apply Bw.drewN | apply Bw.drew))).trans hk2); clear hk2)
        | fail)
      all_goals exact ⟨rfl, rfl, HK.out⟩
    | ok x c j =>
      simp only [Res.bind]
      go_enter Tryd.func72, Tryd.ntmps72
      go_wp2_with (first
        | (go_at_call 77; refine (enter_yes _ (HS.out.ri.bw (by repeat (first | exact Bw.refl _ | apply Bw.alloc | apply Bw.drewN | apply Bw.drew))) HI.out H64.out).mono ?_; rintro e w1 ⟨rfl, hr1, hk1⟩; have HS := hid ((HS.out.bw (by repeat (first | exact Bw.refl _ | apply Bw.alloc | apply Bw.drewN | apply Bw.drew))).go hr1 hk1); clear hr1 hk1)
        | (go_at_call 54; refine (HC.out _ _ _ (HS.out.ri.bw (by repeat (first | exact Bw.refl _ | apply Bw.alloc | apply Bw.drewN | apply Bw.drew))) (Nat.succ_le_of_lt H64.out) HNE.out).mono ?_; intro e w2 h2; rw [HQ.out] at h2; obtain ⟨b2, rfl, hp2, hr2, hk2⟩ := h2; have HS := hid ((HS.out.bw (by repeat (first | exact Bw.refl _ | apply Bw.alloc | apply Bw.drewN | apply Bw.drew))).add hr2 hk2 hp2); clear hp2 hr2 hk2)
        | (go_at_call 43; refine (made_any _ _ _ [x] [b2] _ _ (HS.out.row1 (x := x) (b := b2) (by simp)).1 (HS.out.row1 (x := x) (b := b2) (by simp)).2).mono ?_; rintro e w3 ⟨b3, rfl, hp3, hb3, _⟩; have HS := hid ((HS.out.bw (Bw.alloc (Bw.refl _) _)).put hb3 hp3); have zz := HS.out.ri.k.cell; have zf := HS.out.ri.k.free; have zl := HS.out.ri.k.lt; clear hp3 hb3)
        | fail)
      all_goals go_ret
      all_goals exact ⟨_, rfl, (HS.out.go (HS.out.ri.opn o (by omega)) ((Kp.refl r _).set 2 _)).outp (by simp)⟩

set_option maxRecDepth 100000 in
set_option maxHeartbeats 8000000 in
theorem behind_d (pa pb pc : Nat) (f k : Nat) (kind : Int) (s : ByteArray) (hc : RdP B r g cap T ex f 76 #[.pointer (some ⟨pa, 0, none⟩), .pointer (some ⟨pb, 0, none⟩), .pointer (some ⟨pc, 0, none⟩)] (.lev k)) (h : RI B w r g cap T ex i o) (ho : o ≤ 64) (hs : isT T i s = true)
    (hne : (entr T s i o fun j o => (pP T f (.lev k) j o).bind fun x _ j => .ok (.mk kind [] 0 (tk T i).2.2.2 [x]) false j) ≠ .out) :
    Calls Tryd.prog 72 #[.pointer (some ⟨r, 0, none⟩), .int .i64 kind, .string s, .func (.func 76) #[] #[.pointer (some ⟨pa, 0, none⟩), .pointer (some ⟨pb, 0, none⟩), .pointer (some ⟨pc, 0, none⟩)]] w (Got B r g cap T ex o No w (entr T s i o fun j o => (pP T f (.lev k) j o).bind fun x _ j => .ok (.mk kind [] 0 (tk T i).2.2.2 [x]) false j)) := by
  have HS := hid (SI.begin h)
  have HC := hid hc
  have HI := hid hs
  unfold entr at hne ⊢
  rw [if_pos hs] at hne ⊢
  clear hc h hs
  by_cases h64 : o = 64
  · rw [if_pos h64]
    have H64 := hid h64
    clear hne h64
    go_enter Tryd.func72, Tryd.ntmps72
    go_wp2_with (first
      | (go_at_call 77; refine (enter_many _ (HS.out.ri.bw (by repeat (first | exact Bw.refl _ | apply Bw.alloc | apply Bw.drewN | apply Bw.drew))) HI.out H64.out).mono ?_; rintro e w1 ⟨rfl, hk1⟩; have HK := hid ((HS.out.kp.bw (by repeat (first | exact Bw.refl _ | apply Bw.alloc | apply Bw.drewN | apply Bw.drew))).trans hk1); clear hk1)
      | fail)
    all_goals exact ⟨rfl, rfl, HK.out⟩
  · rw [if_neg h64] at hne ⊢
    dsimp only at hne ⊢
    have hlt : o < 64 := by omega
    have H64 := hid hlt
    have HNE := hid (show pP T f (.lev k) (i + 1) (o + 1) ≠ .out from fun e => hne (by rw [e]; rfl))
    clear hne h64
    generalize hq : pP T f (.lev k) (i + 1) (o + 1) = R
    have HQ := hid hq
    clear hq
    cases R with
    | out => exact absurd HQ.out HNE.out
    | bad n a =>
      simp only [Res.bind]
      go_enter Tryd.func72, Tryd.ntmps72
      go_wp2_with (first
        | (go_at_call 77; refine (enter_yes _ (HS.out.ri.bw (by repeat (first | exact Bw.refl _ | apply Bw.alloc | apply Bw.drewN | apply Bw.drew))) HI.out H64.out).mono ?_; rintro e w1 ⟨rfl, hr1, hk1⟩; have HS := hid ((HS.out.bw (by repeat (first | exact Bw.refl _ | apply Bw.alloc | apply Bw.drewN | apply Bw.drew))).go hr1 hk1); clear hr1 hk1)
        | (go_at_call 76; refine (HC.out _ _ _ (HS.out.ri.bw (by repeat (first | exact Bw.refl _ | apply Bw.alloc | apply Bw.drewN | apply Bw.drew))) (Nat.succ_le_of_lt H64.out) HNE.out).mono ?_; intro e w2 h2; rw [HQ.out] at h2; obtain ⟨rfl, hk2⟩ := h2; have HK := hid ((HS.out.kp.bw (by repeat (first | exact Bw.refl _ | apply Bw.alloc | apply Bw.drewN | apply Bw.drew))).trans hk2); clear hk2)
        | fail)
      all_goals exact ⟨rfl, rfl, HK.out⟩
    | ok x c j =>
      simp only [Res.bind]
      go_enter Tryd.func72, Tryd.ntmps72
      go_wp2_with (first
        | (go_at_call 77; refine (enter_yes _ (HS.out.ri.bw (by repeat (first | exact Bw.refl _ | apply Bw.alloc | apply Bw.drewN | apply Bw.drew))) HI.out H64.out).mono ?_; rintro e w1 ⟨rfl, hr1, hk1⟩; have HS := hid ((HS.out.bw (by repeat (first | exact Bw.refl _ | apply Bw.alloc | apply Bw.drewN | apply Bw.drew))).go hr1 hk1); clear hr1 hk1)
        | (go_at_call 76; refine (HC.out _ _ _ (HS.out.ri.bw (by repeat (first | exact Bw.refl _ | apply Bw.alloc | apply Bw.drewN | apply Bw.drew))) (Nat.succ_le_of_lt H64.out) HNE.out).mono ?_; intro e w2 h2; rw [HQ.out] at h2; obtain ⟨b2, rfl, hp2, hr2, hk2⟩ := h2; have HS := hid ((HS.out.bw (by repeat (first | exact Bw.refl _ | apply Bw.alloc | apply Bw.drewN | apply Bw.drew))).add hr2 hk2 hp2); clear hp2 hr2 hk2)
        | (go_at_call 43; refine (made_any _ _ _ [x] [b2] _ _ (HS.out.row1 (x := x) (b := b2) (by simp)).1 (HS.out.row1 (x := x) (b := b2) (by simp)).2).mono ?_; rintro e w3 ⟨b3, rfl, hp3, hb3, _⟩; have HS := hid ((HS.out.bw (Bw.alloc (Bw.refl _) _)).put hb3 hp3); have zz := HS.out.ri.k.cell; have zf := HS.out.ri.k.free; have zl := HS.out.ri.k.lt; clear hp3 hb3)
        | fail)
      all_goals go_ret
      all_goals exact ⟨_, rfl, (HS.out.go (HS.out.ri.opn o (by omega)) ((Kp.refl r _).set 2 _)).outp (by simp)⟩

end

end Go.Proofs.YtlcieebneclmpaaDoor

set_option linter.unusedSimpArgs false
set_option linter.unusedVariables false
namespace Go.Proofs.YtlcieebneclmpaaDoor
open Go Go.RowKit

/-- What comes of a call that reads a thing. -/
def GotT (B : World) (r g cap : Nat) (T : List ATok) (ex : Nat → Value) (o : Nat) (w : World) (R : Res) (e : Ending) (w' : World) : Prop :=
  match R with
  | .ok x c i => ∃ b, e = .returned (.tuple #[.pointer (some ⟨b, 0, none⟩), .bool c]) ∧ PtM w' (Fp w No w') x b ∧ RI B w' r g cap T ex i o ∧ Kp r w w'
  | .bad n a => e = .panicked (fltV n a) ∧ Kp r w w'
  | .out => True

def RdT (B : World) (r g cap : Nat) (T : List ATok) (ex : Nat → Value) (f : Nat) : Prop :=
  ∀ w i o, RI B w r g cap T ex i o → o ≤ 64 → pP T f .thing i o ≠ .out → Calls Tryd.prog 74 #[.pointer (some ⟨r, 0, none⟩)] w (GotT B r g cap T ex o w (pP T f .thing i o))

section
variable {B w W W' : World} {S : Nat → Prop} {r g cap : Nat} {T : List ATok} {ex : Nat → Value} {i o : Nat} {Ps : List (Prt × Nat)}

/-- A part's own row. -/
theorem SI.kids (h : SI B w S W r g cap T ex i o Ps) {x : Prt} {b : Nat} (hx : (x, b) ∈ Ps) :
    ∃ av cv, W.cell? ⟨b, 5, none⟩ = some (.slice av x.kids.length cv) ∧ b < W.heap.size ∧ b ≠ r ∧ ∀ W', Kp r W W' → ∃ bs, RowM W' (Fp w S W') (.slice av x.kids.length cv) bs ∧ PtsM W' (Fp w S W') x.kids bs := by
  have hp := h.ps _ hx
  obtain ⟨v, _, _, h5, hl, bs, hr, hk⟩ := hp.at
  obtain ⟨av, cv, e⟩ := own_form hr.1
  rw [hk.len] at e
  subst e
  refine ⟨av, cv, h5, hl, ?_, fun W' k => ⟨bs, hr.keep (fun n hn hl => k.block n hl (h.ne hn).1) (fun n hn _ => hn.mono k.size), PtsM.keep (fun n hn hl => k.block n hl (h.ne hn).1) (fun n hn _ => hn.mono k.size) _ _ hk⟩⟩
  have : Fp w S W b := by
    cases x
    exact hp.1
  exact (h.ne this).1

theorem SI.only (h : SI B w S W r g cap T ex i o Ps) {x : Prt} {b : Nat} (hx : (x, b) ∈ Ps) : SI B w S W r g cap T ex i o [(x, b)] :=
  ⟨h.ri, h.kp, fun p hp => by rw [List.mem_singleton.1 hp]; exact h.ps _ hx, h.hs, h.r0⟩

theorem one_own {w1 w2 : World} {b : Nat} (hk : Kp r (w1.alloc (.cells #[.pointer (some ⟨b, 0, none⟩)] 57)) w2) (hr : r < w1.heap.size) : w2.ownsRow w1.heap.size 57 1 (.slice (some ⟨w1.heap.size, 0, none⟩) 1 1) 1 [.pointer (some ⟨b, 0, none⟩)] :=
  ⟨rfl, .inr ⟨w1.heap.size, 1, #[.pointer (some ⟨b, 0, none⟩)], rfl, Nat.le_refl _, (Blk.new w1 #[.pointer (some ⟨b, 0, none⟩)] 57).kp hk (by omega), Nat.le_refl _, by simp [maxLen], rfl, rfl⟩⟩

theorem ptrs_one (bs : List Nat) : ∀ u ∈ (bs.map fun b => Value.pointer (some ⟨b, 0, none⟩)), u.oneCell' = true := by
  intro u hu
  obtain ⟨b, _, rfl⟩ := List.mem_map.1 hu
  rfl

theorem SI.setNew (h : SI B w No W r g cap T ex i o []) (hB : B.heap.size ≤ w.heap.size) {b j : Nat} (hb : w.heap.size ≤ b) (v : Value) : SI B w No (W.setCell ⟨b, j, none⟩ v) r g cap T ex i o [] :=
  ⟨h.ri.other (by have := h.r0; omega) (Nat.le_trans hB hb) v, h.kp.setNew hb j v, fun p hp => absurd hp (by simp), h.hs, h.r0⟩

/-- A thing and what it is called with, in one row. -/
theorem SI.callRow (h : SI B w No W r g cap T ex i o Ps) {x : Prt} {b : Nat} (hx : (x, b) ∈ Ps) {w2 w3 : World} {v v' : Value} {ks : List Prt} {bs : List Nat}
    (hk : Kp r (W.alloc (.cells #[.pointer (some ⟨b, 0, none⟩)] 57)) w2)
    (hrw : PtsM w2 (fun n => (W.alloc (.cells #[.pointer (some ⟨b, 0, none⟩)] 57)).heap.size ≤ n ∧ n < w2.heap.size ∧ v.ownBlock ≠ some n) ks bs)
    (ho : w3.ownsRow W.heap.size 57 1 v' (1 + ks.length) ([.pointer (some ⟨b, 0, none⟩)] ++ bs.map fun b => .pointer (some ⟨b, 0, none⟩))) (hg : w2.grownBy w3 (some W.heap.size)) :
    RowM w3 (Fp w No w3) v' (b :: bs) ∧ PtsM w3 (Fp w No w3) (x :: ks) (b :: bs) := by
  have hb := Bw.alloc (Bw.refl W) (.cells #[.pointer (some ⟨b, 0, none⟩)] 57)
  have hs : (W.alloc (.cells #[.pointer (some ⟨b, 0, none⟩)] 57)).heap.size = W.heap.size + 1 := by simp
  have hw := h.kp.size
  refine ⟨⟨?_, fun k hk' => .inr ⟨Nat.le_trans hw (ho.lt k hk').1, (ho.lt k hk').2⟩⟩, b, bs, rfl, ?_, ?_⟩
  · have e := hrw.len
    have := own_base ho (Nat.zero_le _)
    rw [show 1 + ks.length = (b :: bs).length by simp; omega] at this
    simpa using this
  · refine PtM.keep (S := Fp w No W) (fun n hn hl => ?_) (fun n hn hl => ?_) _ _ (h.ps _ hx)
    · have h1 := hb.block n hl
      have h2 := hk.block n (Nat.lt_of_lt_of_le hl hb.size) (h.ne hn).1
      have h3 := hg.block n (Nat.lt_of_lt_of_le (Nat.lt_of_lt_of_le hl hb.size) hk.size) (fun e => by injection e with e; omega)
      exact h3.trans (h2.trans h1)
    · exact hn.mono (Nat.le_trans hb.size (Nat.le_trans hk.size hg.size))
  · refine PtsM.keep (fun n hn hl => hg.block n hl (fun e => by injection e with e; omega)) (fun n hn hl => .inr ⟨by omega, Nat.lt_of_lt_of_le hl hg.size⟩) _ _ hrw

end

end Go.Proofs.YtlcieebneclmpaaDoor

set_option linter.unusedSimpArgs false
set_option linter.unusedVariables false
namespace Go.Proofs.YtlcieebneclmpaaDoor
open Go Go.RowKit

section
variable {B : World} {r g cap : Nat} {T : List ATok} {ex : Nat → Value}

set_option maxRecDepth 100000 in
set_option maxHeartbeats 8000000 in
theorem spawned_any (f : Nat) (ht : RdT B r g cap T ex f) (w : World) (i o : Nat) (h : RI B w r g cap T ex i o) (ho : o ≤ 64) (hs : isT T i ⟨#[115, 112, 97, 119, 110]⟩ = true) (hne : (entr T ⟨#[115, 112, 97, 119, 110]⟩ i o fun j o => (pP T f .thing j o).bind fun x c j => if c then .ok (.mk 32 [] 0 (tk T i).2.2.2 x.kids) false j else here T 6 j) ≠ .out) :
    Calls Tryd.prog 73 #[.pointer (some ⟨r, 0, none⟩)] w (Got B r g cap T ex o No w (entr T ⟨#[115, 112, 97, 119, 110]⟩ i o fun j o => (pP T f .thing j o).bind fun x c j => if c then .ok (.mk 32 [] 0 (tk T i).2.2.2 x.kids) false j else here T 6 j)) := by
  have HS := hid (SI.begin h)
  have HT := hid ht
  have HI := hid hs
  have zz := HS.out.ri.k.cell; have zf := HS.out.ri.k.free; have zl := HS.out.ri.k.lt
  unfold entr at hne ⊢
  rw [if_pos hs] at hne ⊢
  clear h ht hs
  by_cases h64 : o = 64
  · rw [if_pos h64]
    have H64 := hid h64
    unfold here
    clear hne h64
    go_enter Tryd.func73, Tryd.ntmps73
    go_wp2_with (first
      | (go_at_call 77; refine (enter_many _ (HS.out.ri.bw (by repeat (first | exact Bw.refl _ | apply Bw.alloc | apply Bw.drewN | apply Bw.drew))) HI.out H64.out).mono ?_; rintro e w1 ⟨rfl, hk1⟩; have HK := hid ((HS.out.kp.bw (by repeat (first | exact Bw.refl _ | apply Bw.alloc | apply Bw.drewN | apply Bw.drew))).trans hk1); clear hk1)
      | fail)
    all_goals exact ⟨rfl, rfl, HK.out⟩
  · rw [if_neg h64] at hne ⊢
    dsimp only at hne ⊢
    have H64 := hid (show o < 64 by omega)
    have H65 := hid (show o + 1 ≤ 64 by omega)
    clear h64
    have HNE := hid (show pP T f .thing (i + 1) (o + 1) ≠ .out from fun q => hne (by rw [q]; rfl))
    generalize hq : pP T f .thing (i + 1) (o + 1) = R at hne ⊢
    have HQ := hid hq
    clear hq
    cases R with
    | out => exact absurd HQ.out HNE.out
    | bad n m =>
      simp only [Res.bind]
      clear hne
      go_enter Tryd.func73, Tryd.ntmps73
      go_wp2_with (first
        | (go_at_call 77; refine (enter_yes _ (HS.out.ri.bw (by repeat (first | exact Bw.refl _ | apply Bw.alloc | apply Bw.drewN | apply Bw.drew))) HI.out H64.out).mono ?_; rintro e w1 ⟨rfl, hr1, hk1⟩; have HS := hid ((HS.out.bw (by repeat (first | exact Bw.refl _ | apply Bw.alloc | apply Bw.drewN | apply Bw.drew))).go hr1 hk1); have zz := HS.out.ri.k.cell; have zf := HS.out.ri.k.free; have zl := HS.out.ri.k.lt; clear hr1 hk1)
        | (go_at_call 74; refine (HT.out _ _ _ (HS.out.ri.bw (by repeat (first | exact Bw.refl _ | apply Bw.alloc | apply Bw.drewN | apply Bw.drew))) H65.out HNE.out).mono ?_; intro e w2 h2; rw [HQ.out] at h2; obtain ⟨rfl, hk2⟩ := h2; have HK := hid ((HS.out.kp.bw (by repeat (first | exact Bw.refl _ | apply Bw.alloc | apply Bw.drewN | apply Bw.drew))).trans hk2); clear hk2)
        | fail)
      all_goals exact ⟨rfl, rfl, HK.out⟩
    | ok x c j =>
      simp only [Res.bind] at hne ⊢
      unfold here
      clear hne
      cases c
      · rw [if_neg (by decide)]
        go_enter Tryd.func73, Tryd.ntmps73
        go_wp2_with (first
          | (go_at_call 77; refine (enter_yes _ (HS.out.ri.bw (by repeat (first | exact Bw.refl _ | apply Bw.alloc | apply Bw.drewN | apply Bw.drew))) HI.out H64.out).mono ?_; rintro e w1 ⟨rfl, hr1, hk1⟩; have HS := hid ((HS.out.bw (by repeat (first | exact Bw.refl _ | apply Bw.alloc | apply Bw.drewN | apply Bw.drew))).go hr1 hk1); have zz := HS.out.ri.k.cell; have zf := HS.out.ri.k.free; have zl := HS.out.ri.k.lt; clear hr1 hk1)
          | (go_at_call 74; refine (HT.out _ _ _ (HS.out.ri.bw (by repeat (first | exact Bw.refl _ | apply Bw.alloc | apply Bw.drewN | apply Bw.drew))) H65.out HNE.out).mono ?_; intro e w2 h2; rw [HQ.out] at h2; obtain ⟨b2, rfl, hp2, hr2, hk2⟩ := h2; have HS := hid ((HS.out.bw (by repeat (first | exact Bw.refl _ | apply Bw.alloc | apply Bw.drewN | apply Bw.drew))).add hr2 hk2 hp2); have zz := HS.out.ri.k.cell; have zf := HS.out.ri.k.free; have zl := HS.out.ri.k.lt; clear hp2 hr2 hk2)
          | (go_at_call 82; refine (fail_any _ (HS.out.ri.bw (by repeat (first | exact Bw.refl _ | apply Bw.alloc | apply Bw.drewN | apply Bw.drew)))).mono ?_; rintro e w1 ⟨rfl, hb1⟩; have HK := hid (HS.out.kp.bw (Bw.trans (by repeat (first | exact Bw.refl _ | apply Bw.alloc | apply Bw.drewN | apply Bw.drew)) hb1)); clear hb1)
          | fail)
        all_goals exact ⟨rfl, rfl, HK.out⟩
      · rw [if_pos rfl]
        go_enter Tryd.func73, Tryd.ntmps73
        go_wp2_with (first
          | (go_at_call 77; refine (enter_yes _ (HS.out.ri.bw (by repeat (first | exact Bw.refl _ | apply Bw.alloc | apply Bw.drewN | apply Bw.drew))) HI.out H64.out).mono ?_; rintro e w1 ⟨rfl, hr1, hk1⟩; have HS := hid ((HS.out.bw (by repeat (first | exact Bw.refl _ | apply Bw.alloc | apply Bw.drewN | apply Bw.drew))).go hr1 hk1); have zz := HS.out.ri.k.cell; have zf := HS.out.ri.k.free; have zl := HS.out.ri.k.lt; clear hr1 hk1)
          | (go_at_call 74; refine (HT.out _ _ _ (HS.out.ri.bw (by repeat (first | exact Bw.refl _ | apply Bw.alloc | apply Bw.drewN | apply Bw.drew))) H65.out HNE.out).mono ?_; intro e w2 h2; rw [HQ.out] at h2; obtain ⟨b2, rfl, hp2, hr2, hk2⟩ := h2; have HS := hid ((HS.out.bw (by repeat (first | exact Bw.refl _ | apply Bw.alloc | apply Bw.drewN | apply Bw.drew))).add hr2 hk2 hp2); obtain ⟨av, cv, k5, kl, kr, hkk⟩ := HS.out.kids (x := x) (b := b2) (by simp); have HKK := hid hkk; clear hkk; have zz := HS.out.ri.k.cell; have zf := HS.out.ri.k.free; have zl := HS.out.ri.k.lt; clear hp2 hr2 hk2)
          | (go_at_call 43; obtain ⟨bs, hr5, hp5⟩ := HKK.out _ ((Kp.refl r _).set 2 (.int .i64 (o : Int))); refine (made_any _ _ _ x.kids bs _ _ hr5 hp5).mono ?_; rintro e w3 ⟨b3, rfl, hp3, hb3, hn3, hc3⟩; have HS := hid ((HS.out.go (HS.out.ri.opn o (by omega)) ((Kp.refl r _).set 2 _)).put hb3 hp3); clear hp3 hb3)
          | fail)
        all_goals go_ret
        all_goals exact ⟨_, rfl, HS.out.outp (by simp)⟩

set_option maxRecDepth 100000 in
set_option maxHeartbeats 8000000 in
theorem negated_any (f : Nat) (ht : RdT B r g cap T ex f) (h6 : RdP B r g cap T ex f 54 #[.pointer (some ⟨r, 0, none⟩)] (.lev 6)) : RdP B r g cap T ex (f + 1) 54 #[.pointer (some ⟨r, 0, none⟩)] (.lev 6) := by
  intro w i o h ho hne
  have e : pP T (f + 1) (.lev 6) i o = if isT T i ⟨#[45]⟩ then (entr T ⟨#[45]⟩ i o fun j o => (pP T f (.lev 6) j o).bind fun x _ j => .ok (.mk 27 [] 0 (tk T i).2.2.2 [x]) false j) else if isT T i ⟨#[115, 112, 97, 119, 110]⟩ then (entr T ⟨#[115, 112, 97, 119, 110]⟩ i o fun j o => (pP T f .thing j o).bind fun x c j => if c then .ok (.mk 32 [] 0 (tk T i).2.2.2 x.kids) false j else here T 6 j) else (pP T f .thing i o).bind fun x _ i => .ok x false i := by
    simp only [pP]
    rfl
  rw [e] at hne ⊢
  have HS := hid (SI.begin h)
  have HT := hid ht
  have H6 := hid h6
  have hmf : ∀ (fn : Fn) (first cap : Array Value) (w : World), (Instr.makeFunc fn first cap).run Tryd.prog w = .ok (.func fn first cap) w := fun _ _ _ _ => rfl
  have zz := HS.out.ri.k.cell; have zf := HS.out.ri.k.free; have zl := HS.out.ri.k.lt
  clear h ht e h6
  cases ho1 : isT T i ⟨#[45]⟩
  · rw [ho1, if_neg (by decide)] at hne
    rw [if_neg (by decide)]
    cases ho2 : isT T i ⟨#[115, 112, 97, 119, 110]⟩
    · rw [ho2, if_neg (by decide)] at hne
      rw [if_neg (by decide)]
      have HNE := hid (show pP T f .thing i o ≠ .out from fun q => hne (by rw [q]; rfl))
      clear hne
      generalize hq : pP T f .thing i o = R
      have HQ := hid hq
      clear hq
      cases R with
      | out => exact absurd HQ.out HNE.out
      | bad n m =>
        simp only [Res.bind]
        go_enter Tryd.func54, Tryd.ntmps54
        go_wp2_with (first
          | (go_at_call 58; refine (is_any _ (HS.out.ri.bw (by repeat (first | exact Bw.refl _ | apply Bw.alloc | apply Bw.drewN | apply Bw.drew)))).mono ?_; rintro e w1 ⟨rfl, hb1⟩; have HS := hid (HS.out.bw (Bw.trans (by repeat (first | exact Bw.refl _ | apply Bw.alloc | apply Bw.drewN | apply Bw.drew)) hb1)); have zz := HS.out.ri.k.cell; have zf := HS.out.ri.k.free; have zl := HS.out.ri.k.lt; clear hb1)
          | (go_at_call 74; refine (HT.out _ _ _ (HS.out.ri.bw (by repeat (first | exact Bw.refl _ | apply Bw.alloc | apply Bw.drewN | apply Bw.drew))) ho HNE.out).mono ?_; intro e w2 h2; rw [HQ.out] at h2; obtain ⟨rfl, hk2⟩ := h2; have HK := hid ((HS.out.kp.bw (by repeat (first | exact Bw.refl _ | apply Bw.alloc | apply Bw.drewN | apply Bw.drew))).trans hk2); clear hk2)
          | fail)
        all_goals exact ⟨rfl, rfl, HK.out⟩
      | ok x c j =>
        simp only [Res.bind]
        go_enter Tryd.func54, Tryd.ntmps54
        go_wp2_with (first
          | (go_at_call 58; refine (is_any _ (HS.out.ri.bw (by repeat (first | exact Bw.refl _ | apply Bw.alloc | apply Bw.drewN | apply Bw.drew)))).mono ?_; rintro e w1 ⟨rfl, hb1⟩; have HS := hid (HS.out.bw (Bw.trans (by repeat (first | exact Bw.refl _ | apply Bw.alloc | apply Bw.drewN | apply Bw.drew)) hb1)); have zz := HS.out.ri.k.cell; have zf := HS.out.ri.k.free; have zl := HS.out.ri.k.lt; clear hb1)
          | (go_at_call 74; refine (HT.out _ _ _ (HS.out.ri.bw (by repeat (first | exact Bw.refl _ | apply Bw.alloc | apply Bw.drewN | apply Bw.drew))) ho HNE.out).mono ?_; intro e w2 h2; rw [HQ.out] at h2; obtain ⟨b2, rfl, hp2, hr2, hk2⟩ := h2; have HS := hid ((HS.out.bw (by repeat (first | exact Bw.refl _ | apply Bw.alloc | apply Bw.drewN | apply Bw.drew))).add hr2 hk2 hp2); have zz := HS.out.ri.k.cell; have zf := HS.out.ri.k.free; have zl := HS.out.ri.k.lt; clear hp2 hr2 hk2)
          | fail)
        all_goals go_ret
        all_goals exact ⟨_, rfl, HS.out.outp (by simp)⟩
    · rw [ho2, if_pos rfl] at hne
      rw [if_pos rfl]
      have HO2 := hid ho2
      have HNE := hid hne
      clear hne
      generalize hq : (entr T ⟨#[115, 112, 97, 119, 110]⟩ i o fun j o => (pP T f .thing j o).bind fun x c j => if c then .ok (.mk 32 [] 0 (tk T i).2.2.2 x.kids) false j else here T 6 j) = R
      have HQ := hid hq
      clear hq
      cases R with
      | out => exact absurd HQ.out HNE.out
      | bad n m =>
        go_enter Tryd.func54, Tryd.ntmps54
        go_wp2_with (first
          | (go_at_call 58; refine (is_any _ (HS.out.ri.bw (by repeat (first | exact Bw.refl _ | apply Bw.alloc | apply Bw.drewN | apply Bw.drew)))).mono ?_; rintro e w1 ⟨rfl, hb1⟩; have HS := hid (HS.out.bw (Bw.trans (by repeat (first | exact Bw.refl _ | apply Bw.alloc | apply Bw.drewN | apply Bw.drew)) hb1)); have zz := HS.out.ri.k.cell; have zf := HS.out.ri.k.free; have zl := HS.out.ri.k.lt; clear hb1)
          | (go_at_call 73; refine (spawned_any f HT.out _ _ _ (HS.out.ri.bw (by repeat (first | exact Bw.refl _ | apply Bw.alloc | apply Bw.drewN | apply Bw.drew))) ho HO2.out HNE.out).mono ?_; intro e w2 h2; rw [HQ.out] at h2; obtain ⟨rfl, hk2⟩ := h2; have HK := hid ((HS.out.kp.bw (by repeat (first | exact Bw.refl _ | apply Bw.alloc | apply Bw.drewN | apply Bw.drew))).trans hk2); clear hk2)
          | fail)
        all_goals exact ⟨rfl, rfl, HK.out⟩
      | ok x c j =>
        go_enter Tryd.func54, Tryd.ntmps54
        go_wp2_with (first
          | (go_at_call 58; refine (is_any _ (HS.out.ri.bw (by repeat (first | exact Bw.refl _ | apply Bw.alloc | apply Bw.drewN | apply Bw.drew)))).mono ?_; rintro e w1 ⟨rfl, hb1⟩; have HS := hid (HS.out.bw (Bw.trans (by repeat (first | exact Bw.refl _ | apply Bw.alloc | apply Bw.drewN | apply Bw.drew)) hb1)); have zz := HS.out.ri.k.cell; have zf := HS.out.ri.k.free; have zl := HS.out.ri.k.lt; clear hb1)
          | (go_at_call 73; refine (spawned_any f HT.out _ _ _ (HS.out.ri.bw (by repeat (first | exact Bw.refl _ | apply Bw.alloc | apply Bw.drewN | apply Bw.drew))) ho HO2.out HNE.out).mono ?_; intro e w2 h2; rw [HQ.out] at h2; obtain ⟨b2, rfl, hp2, hr2, hk2⟩ := h2; have HS := hid ((HS.out.bw (by repeat (first | exact Bw.refl _ | apply Bw.alloc | apply Bw.drewN | apply Bw.drew))).add hr2 hk2 hp2); clear hp2 hr2 hk2)
          | fail)
        all_goals go_ret
        all_goals exact ⟨_, rfl, HS.out.outp (by simp)⟩
  · rw [ho1, if_pos rfl] at hne
    rw [if_pos rfl]
    have HO := hid ho1
    have HNE := hid hne
    clear hne
    generalize hq : (entr T ⟨#[45]⟩ i o fun j o => (pP T f (.lev 6) j o).bind fun x _ j => .ok (.mk 27 [] 0 (tk T i).2.2.2 [x]) false j) = R
    have HQ := hid hq
    clear hq
    cases R with
    | out => exact absurd HQ.out HNE.out
    | bad n m =>
      go_enter Tryd.func54, Tryd.ntmps54
      go_wp2_with (first
        | (go_at_call 58; refine (is_any _ (HS.out.ri.bw (by repeat (first | exact Bw.refl _ | apply Bw.alloc | apply Bw.drewN | apply Bw.drew)))).mono ?_; rintro e w1 ⟨rfl, hb1⟩; have HS := hid (HS.out.bw (Bw.trans (by repeat (first | exact Bw.refl _ | apply Bw.alloc | apply Bw.drewN | apply Bw.drew)) hb1)); have zz := HS.out.ri.k.cell; have zf := HS.out.ri.k.free; have zl := HS.out.ri.k.lt; clear hb1)
        | (go_at_call 72; refine (behind_n f 6 27 ⟨#[45]⟩ H6.out (HS.out.ri.bw (by repeat (first | exact Bw.refl _ | apply Bw.alloc | apply Bw.drewN | apply Bw.drew))) ho HO.out HNE.out).mono ?_; intro e w2 h2; rw [HQ.out] at h2; obtain ⟨rfl, hk2⟩ := h2; have HK := hid ((HS.out.kp.bw (by repeat (first | exact Bw.refl _ | apply Bw.alloc | apply Bw.drewN | apply Bw.drew))).trans hk2); clear hk2)
        | fail)
      all_goals exact ⟨rfl, rfl, HK.out⟩
    | ok x c j =>
      go_enter Tryd.func54, Tryd.ntmps54
      go_wp2_with (first
        | (go_at_call 58; refine (is_any _ (HS.out.ri.bw (by repeat (first | exact Bw.refl _ | apply Bw.alloc | apply Bw.drewN | apply Bw.drew)))).mono ?_; rintro e w1 ⟨rfl, hb1⟩; have HS := hid (HS.out.bw (Bw.trans (by repeat (first | exact Bw.refl _ | apply Bw.alloc | apply Bw.drewN | apply Bw.drew)) hb1)); have zz := HS.out.ri.k.cell; have zf := HS.out.ri.k.free; have zl := HS.out.ri.k.lt; clear hb1)
        | (go_at_call 72; refine (behind_n f 6 27 ⟨#[45]⟩ H6.out (HS.out.ri.bw (by repeat (first | exact Bw.refl _ | apply Bw.alloc | apply Bw.drewN | apply Bw.drew))) ho HO.out HNE.out).mono ?_; intro e w2 h2; rw [HQ.out] at h2; obtain ⟨b2, rfl, hp2, hr2, hk2⟩ := h2; have HS := hid ((HS.out.bw (by repeat (first | exact Bw.refl _ | apply Bw.alloc | apply Bw.drewN | apply Bw.drew))).add hr2 hk2 hp2); clear hp2 hr2 hk2)
        | fail)
      all_goals go_ret
      all_goals exact ⟨_, rfl, HS.out.outp (by simp)⟩

end

end Go.Proofs.YtlcieebneclmpaaDoor

set_option linter.unusedSimpArgs false
set_option linter.unusedVariables false
namespace Go.Proofs.YtlcieebneclmpaaDoor
open Go Go.RowKit

theorem XI.body {w0 w w2 : World} {b : Nat} {k : Int} {x : List Int} {a : Int} {v : Value} {ks : List Prt} (n : Int) (hrw : RwI w w2 v ks) (hbk : Blk w2 b (prtC k x 0 a (.slice none 0 0)) 83) (h0 : w0.heap.size ≤ b) (hb : b < w.heap.size) (hw : w0.heap.size ≤ w.heap.size) :
    XI w0 ((w2.setCell ⟨b, 5, none⟩ v).setCell ⟨b, 3, none⟩ (.int .i64 n)) b k x n a v ks := by
  obtain ⟨bs, h1, h2⟩ := hrw
  have e : ∀ q, q ≠ b → ((w2.setCell ⟨b, 5, none⟩ v).setCell ⟨b, 3, none⟩ (.int .i64 n)).heap[q]? = w2.heap[q]? := fun q hq => (Below.heap_setCell _ ⟨b, 3, none⟩ _ q hq).trans (Below.heap_setCell _ ⟨b, 5, none⟩ _ q hq)
  have hs : ((w2.setCell ⟨b, 5, none⟩ v).setCell ⟨b, 3, none⟩ (.int .i64 n)).heap.size = w2.heap.size := by simp [World.setCell]
  refine ⟨h0, ?_, bs, ?_, ?_⟩
  · have := (hbk.set 5 v).set 3 (.int .i64 n)
    simpa [prtC] using this
  · refine own_raise (own_keep (own_base h1 (Nat.zero_le _)) (fun q hq => e q (by have := (h1.lt q hq).1; omega))) (fun q hq => Nat.le_trans hw (h1.lt q hq).1)
  · exact PtsM.keep (fun q hq _ => e q (by omega)) (fun q hq _ => ⟨Nat.le_trans hw hq.1, by rw [hs]; exact hq.2.1, hq.2.2, by omega⟩) _ _ h2

theorem XI.of2 {B w W w3 : World} {r g cap : Nat} {T : List ATok} {ex : Nat → Value} {i o : Nat} {Ps : List (Prt × Nat)} {x y : Prt} {b c b3 : Nat} {k a : Int} (h : SI B w No W r g cap T ex i o Ps) (hx : (x, b) ∈ Ps) (hy : (y, c) ∈ Ps)
    (hb : Bw (W.alloc (.cells #[.pointer (some ⟨b, 0, none⟩), .pointer (some ⟨c, 0, none⟩)] 57)) w3) (hn : (W.alloc (.cells #[.pointer (some ⟨b, 0, none⟩), .pointer (some ⟨c, 0, none⟩)] 57)).heap.size ≤ b3)
    (hk : Blk w3 b3 (prtC k [] 0 a (.slice (some ⟨W.heap.size, 0, none⟩) 2 2)) 83) : XI w w3 b3 k [] 0 a (.slice (some ⟨W.heap.size, 0, none⟩) 2 2) [x, y] := by
  have hb0 := Bw.alloc (Bw.refl W) (.cells #[.pointer (some ⟨b, 0, none⟩), .pointer (some ⟨c, 0, none⟩)] 57)
  have hs : (W.alloc (.cells #[.pointer (some ⟨b, 0, none⟩), .pointer (some ⟨c, 0, none⟩)] 57)).heap.size = W.heap.size + 1 := by simp
  have hw := h.kp.size
  have hbl : W.heap.size < w3.heap.size := by have := hb.size; omega
  refine ⟨by omega, hk, [b, c], ⟨rfl, .inr ⟨W.heap.size, 2, _, rfl, hw, (Blk.new W #[.pointer (some ⟨b, 0, none⟩), .pointer (some ⟨c, 0, none⟩)] 57).bw hb, Nat.le_refl _, by simp [maxLen], rfl, rfl⟩⟩, b, [c], rfl, ?_, c, [], rfl, ?_, rfl⟩
  · refine PtM.keep (S := Fp w No W) (fun n hn hl => (hb.block n (by omega)).trans (hb0.block n hl)) (fun n hn hl => ?_) _ _ (h.ps _ hx)
    rcases hn with hn | hn
    · exact False.elim hn
    · exact ⟨hn.1, by omega, fun e => by have e9 : W.heap.size = n := Option.some.inj e; omega, by omega⟩
  · refine PtM.keep (S := Fp w No W) (fun n hn hl => (hb.block n (by omega)).trans (hb0.block n hl)) (fun n hn hl => ?_) _ _ (h.ps _ hy)
    rcases hn with hn | hn
    · exact False.elim hn
    · exact ⟨hn.1, by omega, fun e => by have e9 : W.heap.size = n := Option.some.inj e; omega, by omega⟩

/-- A row that was read since W, in what is new since w. -/
theorem SI.rowUp {B w W W' : World} {r g cap : Nat} {T : List ATok} {ex : Nat → Value} {i o : Nat} {Ps : List (Prt × Nat)} {v : Value} {ks : List Prt} {bs : List Nat} (h : SI B w No W r g cap T ex i o Ps) (hk : Kp r W W') (h1 : RowM W' (Fp W No W') v bs) (h2 : PtsM W' (Fp W No W') ks bs) : RowM W' (Fp w No W') v bs ∧ PtsM W' (Fp w No W') ks bs := by
  have e : ∀ n, Fp W No W' n → n < W'.heap.size → Fp w No W' n := fun n hn hl => hn.elim (fun q => False.elim q) (fun q => .inr ⟨Nat.le_trans h.kp.size q.1, q.2⟩)
  exact ⟨h1.keep (fun _ _ _ => rfl) e, PtsM.keep (fun _ _ _ => rfl) e _ _ h2⟩

/-- What the call that reads a function's names and block promises: w0: the world ahead of its part. -/
def RdB (B : World) (r g cap : Nat) (T : List ATok) (ex : Nat → Value) (f : Nat) : Prop :=
  ∀ (w0 w : World) (i o b : Nat) (kind : Int) (text : List Int) (at_ : Int), SI B w0 No w r g cap T ex i o [] → Blk w b (prtC kind text 0 at_ (.slice none 0 0)) 83 → w0.heap.size ≤ b → B.heap.size ≤ w0.heap.size → o ≤ 64 → pP T f (.body kind text at_) i o ≠ .out →
    Calls Tryd.prog 83 #[.pointer (some ⟨r, 0, none⟩), .pointer (some ⟨b, 0, none⟩)] w (Got B r g cap T ex o No w0 (pP T f (.body kind text at_) i o))

end Go.Proofs.YtlcieebneclmpaaDoor

