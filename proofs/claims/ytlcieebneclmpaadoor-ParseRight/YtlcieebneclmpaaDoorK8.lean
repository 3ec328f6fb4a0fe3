/- One of several signs: contracts. · How a new part comes of those that are there; what reading calls promise. · Rows of parts while they grow. · A part written out as nodes: contract. -/
import Derived.Test.YtlcieebneclmpaaDoorK7
import Derived.Test.YtlcieebneclmpaaDoorPtk
import Derived.Test.YtlcieebneclmpaaDoorK2
set_option linter.unusedSimpArgs false
set_option linter.unusedVariables false
namespace Go.Proofs.YtlcieebneclmpaaDoor
open Go Go.RowKit

theorem any_take {α : Type} (p : α → Bool) (l : List α) (k : Nat) (hk : k < l.length) (h : (l.take k).any p = false) : (l.take (k + 1)).any p = p l[k] := by
  rw [List.take_succ_eq_append_getElem hk, List.any_append, h]
  simp

section
variable {B w : World} {r g cap : Nat} {T : List ATok} {ex : Nat → Value} {i o : Nat}

set_option maxRecDepth 100000 in
set_option maxHeartbeats 4000000 in
theorem indexF_any (v : Value) (ss : List ByteArray) (h : RI B w r g cap T ex i o) (hs : SgM w r v ss) :
    Calls Tryd.prog 92 #[v, .func (.func 58) #[.pointer (some ⟨r, 0, none⟩)] #[]] w fun e w' => ∃ n : Int, e = .returned (.int .i64 n) ∧ decide (n ≥ 0) = isO T i ss ∧ Bw w w' := by
  have HR := hid h
  have HS := hid hs
  obtain ⟨s, c, rfl, hs1, hs2, hs3⟩ := hs
  clear h
  go_enter Tryd.func92, Tryd.ntmps92
  go_wp2
  go_loopw [8] (fun j wr => ∃ k : Nat, k ≤ ss.length ∧ j = .int .i64 k ∧ (ss.take k).any (isT T i) = false ∧ Bw w wr) (fun j _ => ss.length - (intOf j).toNat)
  case atStart => exact ⟨0, Nat.zero_le _, rfl, by simp, Bw.refl _⟩
  case round =>
    obtain ⟨k, hk, rfl, ha, hb⟩ := hrel
    rename World => wr
    have HB := hid hb
    have HA := hid ha
    have zc := (hs2.bw hb).cell
    have zl := (hs2.bw hb).lt
    clear ha hb
    by_cases hlt : k < ss.length
    · have hk1 : (0 : Int) ≤ (k : Int) := by omega
      have hk2 : (k : Int) < (ss.length : Int) := by omega
      have zk : wr.cell? ⟨s, k, none⟩ = some (.string ss[k]) := by rw [zc]; simp [hlt]
      have HX := hid (any_take (isT T i) ss k hlt HA.out)
      have hx2 : decide ((k : Int) ≥ 0) = true := by simp
      clear zc
      generalize hq : ss[k] = q at zk HX
      cases hp : isT T i q
      · go_wp2_with (first
          | (go_at_call 58; refine (is_any q ((HR.out.bw HB.out).bw (by repeat (first | exact Bw.refl _ | apply Bw.alloc | apply Bw.drewN | apply Bw.drew)))).mono ?_; rintro e w1 ⟨rfl, hb1⟩; rw [hp]; have HB := hid (HB.out.trans (Bw.trans (by repeat (first | exact Bw.refl _ | apply Bw.alloc | apply Bw.drewN | apply Bw.drew)) hb1)); clear hb1)
          | fail)
        go_roundw
        case rel => exact ⟨k + 1, by omega, by go_num, by rw [HX.out]; exact hp, HB.out⟩
        case measure => simp [intOf]; omega
      · go_wp2_with (first
          | (go_at_call 58; refine (is_any q ((HR.out.bw HB.out).bw (by repeat (first | exact Bw.refl _ | apply Bw.alloc | apply Bw.drewN | apply Bw.drew)))).mono ?_; rintro e w1 ⟨rfl, hb1⟩; rw [hp]; have HB := hid (HB.out.trans (Bw.trans (by repeat (first | exact Bw.refl _ | apply Bw.alloc | apply Bw.drewN | apply Bw.drew)) hb1)); clear hb1)
          | fail)
        all_goals go_ret
        all_goals exact ⟨_, rfl, by rw [show isO T i ss = true from List.any_eq_true.2 ⟨q, by rw [← hq]; exact List.getElem_mem hlt, hp⟩]; simp, HB.out⟩
    · obtain rfl : k = ss.length := by omega
      go_wp2
      all_goals go_ret
      all_goals exact ⟨_, rfl, by rw [show isO T i ss = false from by have := HA.out; rwa [List.take_length] at this]; simp, HB.out⟩

set_option maxRecDepth 100000 in
set_option maxHeartbeats 4000000 in
theorem contF_any (v : Value) (ss : List ByteArray) (h : RI B w r g cap T ex i o) (hs : SgM w r v ss) :
    Calls Tryd.prog 86 #[v, .func (.func 58) #[.pointer (some ⟨r, 0, none⟩)] #[]] w fun e w' => e = .returned (.bool (isO T i ss)) ∧ Bw w w' := by
  have HR := hid h
  have HS := hid hs
  clear h hs
  go_enter Tryd.func86, Tryd.ntmps86
  go_wp2_with (first
    | (go_at_call 92; refine (indexF_any v ss (HR.out.bw (by repeat (first | exact Bw.refl _ | apply Bw.alloc | apply Bw.drewN | apply Bw.drew))) (HS.out.bw (by repeat (first | exact Bw.refl _ | apply Bw.alloc | apply Bw.drewN | apply Bw.drew)))).mono ?_; rintro e w1 ⟨n, rfl, hn, hb1⟩; have HN := hid hn; have HB := hid (Bw.trans (by repeat (first | exact Bw.refl _ | apply Bw.alloc | apply Bw.drewN | apply Bw.drew)) hb1); clear hb1 hn)
    | fail)
  all_goals go_ret
  all_goals exact ⟨ret_bool HN.out, HB.out⟩

set_option maxRecDepth 100000 in
set_option maxHeartbeats 4000000 in
theorem isOne_any (v : Value) (ss : List ByteArray) (h : RI B w r g cap T ex i o) (hs : SgM w r v ss) :
    Calls Tryd.prog 70 #[.pointer (some ⟨r, 0, none⟩), v] w fun e w' => e = .returned (.bool (isO T i ss)) ∧ Bw w w' := by
  have HR := hid h
  have HS := hid hs
  have hmf : ∀ (fn : Fn) (first cap : Array Value) (w : World), (Instr.makeFunc fn first cap).run Tryd.prog w = .ok (.func fn first cap) w := fun _ _ _ _ => rfl
  clear h hs
  go_enter Tryd.func70, Tryd.ntmps70
  go_wp2_with (first
    | (go_at_call 86; refine (contF_any v ss (HR.out.bw (by repeat (first | exact Bw.refl _ | apply Bw.alloc | apply Bw.drewN | apply Bw.drew))) (HS.out.bw (by repeat (first | exact Bw.refl _ | apply Bw.alloc | apply Bw.drewN | apply Bw.drew)))).mono ?_; rintro e w1 ⟨rfl, hb1⟩; have HB := hid (Bw.trans (by repeat (first | exact Bw.refl _ | apply Bw.alloc | apply Bw.drewN | apply Bw.drew)) hb1); clear hb1)
    | fail)
  all_goals go_ret
  all_goals exact ⟨rfl, HB.out⟩

theorem sgm_new (w : World) (hr : r ≠ w.heap.size) (ss : List ByteArray) (hl : ss.length ≤ 100) : SgM (w.alloc (.cells (ss.map Value.string).toArray 9)) r (.slice (some ⟨w.heap.size, 0, none⟩) ss.length ss.length) ss :=
  ⟨w.heap.size, ss.length, rfl, fun e => hr e.symm, Blk.new w _ _, hl⟩

set_option maxRecDepth 100000 in
set_option maxHeartbeats 4000000 in
theorem begs_any (h : RI B w r g cap T ex i o) :
    Calls Tryd.prog 96 #[.pointer (some ⟨r, 0, none⟩)] w fun e w' => e = .returned (.bool (begs T i)) ∧ Bw w w' := by
  have HR := hid h
  have HK := hid (Kp.refl r w)
  have hr := h.k.lt
  unfold begs
  have HX := hid (fun (w1 : World) (hb : Bw w w1) => isOne_any (w := w1.alloc (.cells (begL.map Value.string).toArray 9)) (B := B) (r := r) (g := g) (cap := cap) (T := T) (ex := ex) (i := i) (o := o) (.slice (some ⟨w1.heap.size, 0, none⟩) begL.length begL.length) begL ((h.bw hb).bw (Bw.alloc (Bw.refl _) _)) (sgm_new w1 (by have := hb.size; omega) begL (by decide)))
  clear h
  generalize isO T i begL = q at HX
  go_enter Tryd.func96, Tryd.ntmps96
  go_wp2_with (first
    | (go_at_call 57; refine (token_any (HR.out.bw (by repeat (first | exact Bw.refl _ | apply Bw.alloc | apply Bw.drewN | apply Bw.drew)))).mono ?_; unfold tokV; rintro e w1 ⟨rfl, hb1⟩; have B1 := hid (Bw.trans (by repeat (first | exact Bw.refl _ | apply Bw.alloc | apply Bw.drewN | apply Bw.drew)) hb1); clear hb1)
    | (go_at_call 70; refine (HX.out _ B1.out).mono ?_; rintro e w2 ⟨rfl, hb1⟩; have B2 := hid (B1.out.trans (Bw.trans (by repeat (first | exact Bw.refl _ | apply Bw.alloc | apply Bw.drewN | apply Bw.drew)) hb1)); clear hb1)
    | fail)
  all_goals go_ret
  all_goals first | exact ⟨ret_bool (by simp [*]), B2.out⟩ | exact ⟨ret_bool (by simp [*]), B1.out⟩

end

end Go.Proofs.YtlcieebneclmpaaDoor

set_option linter.unusedSimpArgs false
set_option linter.unusedVariables false
namespace Go.Proofs.YtlcieebneclmpaaDoor
open Go Go.RowKit

section
variable {B w W W' : World} {S : Nat → Prop} {r g cap : Nat} {T : List ATok} {ex : Nat → Value} {i o : Nat} {Ps : List (Prt × Nat)}

theorem SI.fin (h : SI B w S W r g cap T ex i o Ps) (hb : Bw W W') {x : Prt} {b : Nat} (hp : PtM W' (Fp W (Fp w S W) W') x b) : PtM W' (Fp w S W') x b ∧ RI B W' r g cap T ex i o ∧ Kp r w W' := by
  refine ⟨PtM.keep (fun _ _ _ => rfl) (fun n hn _ => ?_) _ _ hp, h.ri.bw hb, h.kp.bw hb⟩
  rcases hn with hn | hn
  · exact hn.mono hb.size
  · exact .inr ⟨Nat.le_trans h.kp.size hn.1, hn.2⟩

theorem SI.put (h : SI B w S W r g cap T ex i o Ps) (hb : Bw W W') {x : Prt} {b : Nat} (hp : PtM W' (Fp W (Fp w S W) W') x b) : SI B w S W' r g cap T ex i o ((x, b) :: Ps) := by
  have h1 := h.bw hb
  refine ⟨h1.ri, h1.kp, fun p hm => ?_, h1.hs, h1.r0⟩
  rcases List.mem_cons.1 hm with rfl | hm
  · exact (h.fin hb hp).1
  · exact h1.ps p hm

theorem SI.outp (h : SI B w S W r g cap T ex i o Ps) {x : Prt} {b : Nat} (hx : (x, b) ∈ Ps) : PtM W (Fp w S W) x b ∧ RI B W r g cap T ex i o ∧ Kp r w W := ⟨h.ps _ hx, h.ri, h.kp⟩

/-- A part that comes of one that was there, and of new ones. -/
theorem SI.turn (h : SI B w S W r g cap T ex i o Ps) {i' o' : Nat} (hr : RI B W' r g cap T ex i' o') (hk : Kp r W W') {x : Prt} {b : Nat} (hp : PtM W' (Fp W (Fp w S W) W') x b) : SI B w S W' r g cap T ex i' o' [(x, b)] := by
  refine ⟨hr, h.kp.trans hk, fun p hm => ?_, h.hs, h.r0⟩
  rw [List.mem_singleton.1 hm]
  refine PtM.keep (fun _ _ _ => rfl) (fun n hn _ => ?_) _ _ hp
  rcases hn with hn | hn
  · exact hn.mono hk.size
  · exact .inr ⟨Nat.le_trans h.kp.size hn.1, hn.2⟩

theorem SI.row1 (h : SI B w S W r g cap T ex i o Ps) {x : Prt} {b : Nat} (hx : (x, b) ∈ Ps) :
    RowM (W.alloc (.cells #[.pointer (some ⟨b, 0, none⟩)] 57)) (Fp w S (W.alloc (.cells #[.pointer (some ⟨b, 0, none⟩)] 57))) (.slice (some ⟨W.heap.size, 0, none⟩) 1 1) [b] ∧
    PtsM (W.alloc (.cells #[.pointer (some ⟨b, 0, none⟩)] 57)) (Fp w S (W.alloc (.cells #[.pointer (some ⟨b, 0, none⟩)] 57))) [x] [b] := by
  have h1 := h.bw (Bw.alloc (Bw.refl W) (.cells #[.pointer (some ⟨b, 0, none⟩)] 57))
  exact ⟨RowM.new W _ [b] (by simp [maxLen]) (.inr ⟨h.kp.size, by simp⟩), b, [], rfl, h1.ps _ hx, rfl⟩

theorem SI.row2 (h : SI B w S W r g cap T ex i o Ps) {x y : Prt} {b c : Nat} (hx : (x, b) ∈ Ps) (hy : (y, c) ∈ Ps) :
    RowM (W.alloc (.cells #[.pointer (some ⟨b, 0, none⟩), .pointer (some ⟨c, 0, none⟩)] 57)) (Fp w S (W.alloc (.cells #[.pointer (some ⟨b, 0, none⟩), .pointer (some ⟨c, 0, none⟩)] 57))) (.slice (some ⟨W.heap.size, 0, none⟩) 2 2) [b, c] ∧
    PtsM (W.alloc (.cells #[.pointer (some ⟨b, 0, none⟩), .pointer (some ⟨c, 0, none⟩)] 57)) (Fp w S (W.alloc (.cells #[.pointer (some ⟨b, 0, none⟩), .pointer (some ⟨c, 0, none⟩)] 57))) [x, y] [b, c] := by
  have h1 := h.bw (Bw.alloc (Bw.refl W) (.cells #[.pointer (some ⟨b, 0, none⟩), .pointer (some ⟨c, 0, none⟩)] 57))
  exact ⟨RowM.new W _ [b, c] (by simp [maxLen]) (.inr ⟨h.kp.size, by simp⟩), b, [c], rfl, h1.ps _ hx, c, [], rfl, h1.ps _ hy, rfl⟩

theorem PtM.at {x : Prt} {b : Nat} (hp : PtM W S x b) : ∃ v, W.cell? ⟨b, 4, none⟩ = some (.int .i64 x.at_) ∧ W.cell? ⟨b, 0, none⟩ = some (.int .i64 x.kind) ∧ W.cell? ⟨b, 5, none⟩ = some v ∧ b < W.heap.size ∧ ∃ bs, RowM W S v bs ∧ PtsM W S x.kids bs := by
  cases x with
  | mk k t n a ks =>
    obtain ⟨_, v, bs, h2, h3, h4⟩ := hp
    exact ⟨v, h2.cell 4, h2.cell 0, h2.cell 5, h2.lt, bs, h3, h4⟩

end

/-- Which token is next. -/
def nxt (w : World) (r : Nat) : Nat := match w.cell? ⟨r, 1, none⟩ with | some (.int _ n) => n.toNat | _ => 0

theorem RI.nx {B w : World} {r g cap : Nat} {T : List ATok} {ex : Nat → Value} {i o : Nat} (h : RI B w r g cap T ex i o) : nxt w r = i := by
  unfold nxt
  rw [h.k.cell 1]
  simp

theorem isO_ne {T : List ATok} {i : Nat} {l : List ByteArray} (h : isO T i l = true) : (tk T i).1 ≠ 0 := by
  obtain ⟨s, _, hs⟩ := List.any_eq_true.1 h
  exact isT_ne hs

/-- What a function that reads promises, at so many steps. -/
def RdP (B : World) (r g cap : Nat) (T : List ATok) (ex : Nat → Value) (f fn : Nat) (args : Array Value) (nt : Nt) : Prop :=
  ∀ w i o, RI B w r g cap T ex i o → o ≤ 64 → pP T f nt i o ≠ .out → Calls Tryd.prog fn args w (Got B r g cap T ex o No w (pP T f nt i o))

end Go.Proofs.YtlcieebneclmpaaDoor

set_option linter.unusedSimpArgs false
set_option linter.unusedVariables false
namespace Go.Proofs.YtlcieebneclmpaaDoor
open Go Go.RowKit

theorem infoPp : (Tryd.prog.info? 57).map (fun i => (i.zero, i.size, i.bytes)) = some (some (.pointer none), 1, 8) := by kernel_rfl
theorem underPps : Tryd.prog.underlying 81 = some (.slice 57) := by kernel_rfl

/-- A row that the call is filling: its block is new since w; its parts lie apart from it. -/
def RwI (w wr : World) (v : Value) (acc : List Prt) : Prop :=
  ∃ bs, wr.ownsRow w.heap.size 57 1 v acc.length (bs.map fun b => .pointer (some ⟨b, 0, none⟩)) ∧ PtsM wr (fun n => w.heap.size ≤ n ∧ n < wr.heap.size ∧ v.ownBlock ≠ some n) acc bs

theorem RwI.nil (w wr : World) : RwI w wr (.slice none 0 0) [] := ⟨[], World.ownsRow_nil _ _ _ _, rfl⟩

theorem RwI.kp {w w1 w2 : World} {r : Nat} {v : Value} {acc : List Prt} (h : RwI w w1 v acc) (k : Kp r w1 w2) (hr : r < w.heap.size) : RwI w w2 v acc := by
  obtain ⟨bs, h1, h2⟩ := h
  refine ⟨bs, own_keep h1 (fun q hq => k.block q (h1.lt q hq).2 (by have := (h1.lt q hq).1; omega)), PtsM.keep (fun n hn hl => k.block n hl (by omega)) (fun n hn _ => ⟨hn.1, Nat.lt_of_lt_of_le hn.2.1 k.size, hn.2.2⟩) _ _ h2⟩

theorem RwI.bw {w w1 w2 : World} {v : Value} {acc : List Prt} (h : RwI w w1 v acc) (k : Bw w1 w2) : RwI w w2 v acc := by
  obtain ⟨bs, h1, h2⟩ := h
  refine ⟨bs, own_keep h1 (fun q hq => k.block q (h1.lt q hq).2), PtsM.keep (fun n hn hl => k.block n hl) (fun n hn _ => ⟨hn.1, Nat.lt_of_lt_of_le hn.2.1 k.size, hn.2.2⟩) _ _ h2⟩

theorem own_raise {w : World} {base : Nat} {e : TypeId} {size : Nat} {v : Value} {n : Nat} {xs : List Value} (h : w.ownsRow 0 e size v n xs) (hb : ∀ k, v.ownBlock = some k → base ≤ k) : w.ownsRow base e size v n xs := by
  refine ⟨h.1, ?_⟩
  rcases h.2 with h2 | ⟨g, cap, cur, rfl, h1, h3, h4⟩
  · exact .inl h2
  · exact .inr ⟨g, cap, cur, rfl, hb g rfl, h3, h4⟩

/-- One more part: appended. -/
theorem RwI.push {w w2 w3 : World} {v v' : Value} {acc : List Prt} {bs : List Nat} {x : Prt} {b : Nat} {q : Nat → Prop}
    (h1 : w2.ownsRow w.heap.size 57 1 v acc.length (bs.map fun b => .pointer (some ⟨b, 0, none⟩))) (h2 : PtsM w2 (fun n => w.heap.size ≤ n ∧ n < w2.heap.size ∧ v.ownBlock ≠ some n) acc bs)
    (hp : PtM w2 q x b) (hq : ∀ n, q n → w.heap.size ≤ n ∧ n < w2.heap.size ∧ v.ownBlock ≠ some n) (hw : w.heap.size ≤ w2.heap.size)
    (ho : w3.ownsRow 0 57 1 v' (acc.length + 1) ((bs.map fun b => .pointer (some ⟨b, 0, none⟩)) ++ [.pointer (some ⟨b, 0, none⟩)]))
    (hg : w2.grownBy w3 v.ownBlock) (hv : v'.ownBlock = v.ownBlock ∨ ∀ k, v'.ownBlock = some k → w2.heap.size ≤ k) : RwI w w3 v' (acc ++ [x]) := by
  have keep : ∀ n, (w.heap.size ≤ n ∧ n < w2.heap.size ∧ v.ownBlock ≠ some n) → n < w2.heap.size → w3.heap[n]? = w2.heap[n]? := fun n hn hl => hg.block n hl (fun e => hn.2.2 e.symm)
  have into : ∀ n, (w.heap.size ≤ n ∧ n < w2.heap.size ∧ v.ownBlock ≠ some n) → n < w2.heap.size → (w.heap.size ≤ n ∧ n < w3.heap.size ∧ v'.ownBlock ≠ some n) := fun n hn hl => ⟨hn.1, Nat.lt_of_lt_of_le hl hg.size, fun e => hv.elim (fun h => hn.2.2 (h ▸ e)) (fun h => by have := h n e; omega)⟩
  refine ⟨bs ++ [b], ?_, PtsM.snoc (PtM.keep (fun n hn hl => keep n (hq n hn) hl) (fun n hn hl => into n (hq n hn) hl) _ _ hp) (PtsM.keep keep into _ _ h2)⟩
  refine own_raise (by simpa using ho) (fun k hk => ?_)
  rcases hv with hv | hv
  · exact (h1.lt k (hv ▸ hk)).1
  · exact Nat.le_trans hw (hv k hk)

/-- A part that was read behind the row's last state: what appending it makes. -/
theorem RwI.app {w wr w2 : World} {r : Nat} {v : Value} {acc : List Prt} {x : Prt} {b : Nat} (h : RwI w wr v acc) (hw : w.heap.size ≤ wr.heap.size) (k : Kp r wr w2) (hr : r < w.heap.size) (hp : PtM w2 (Fp wr No w2) x b) :
    ∃ bs : List Nat, (w2.alloc (.cells #[.pointer (some ⟨b, 0, none⟩)] 57)).ownsRow 0 57 1 v acc.length (bs.map fun b => .pointer (some ⟨b, 0, none⟩)) ∧ (∀ k, v.ownBlock = some k → w.heap.size ≤ k) ∧
      ∀ v' w3, w3.ownsRow 0 57 1 v' (acc.length + 1) ((bs.map fun b => .pointer (some ⟨b, 0, none⟩)) ++ [.pointer (some ⟨b, 0, none⟩)]) → (w2.alloc (.cells #[.pointer (some ⟨b, 0, none⟩)] 57)).grownBy w3 v.ownBlock → (v'.ownBlock = v.ownBlock ∨ ∀ k, v'.ownBlock = some k → (w2.alloc (.cells #[.pointer (some ⟨b, 0, none⟩)] 57)).heap.size ≤ k) → RwI w w3 v' (acc ++ [x]) := by
  have hlt : ∀ k, v.ownBlock = some k → w.heap.size ≤ k ∧ k < wr.heap.size := by
    obtain ⟨bs, h1, _⟩ := h
    exact h1.lt
  have hb := Bw.alloc (Bw.refl w2) (.cells #[.pointer (some ⟨b, 0, none⟩)] 57)
  obtain ⟨bs, h1, h2⟩ := (h.kp k hr).bw hb
  refine ⟨bs, own_base h1 (Nat.zero_le _), fun k hk => (hlt k hk).1, fun v' w3 ho hg hv => ?_⟩
  refine RwI.push h1 h2 (PtM.keep (S' := Fp wr No w2) (fun n _ hl => hb.block n hl) (fun n hn _ => hn) _ _ hp) (fun n hn => ?_) (Nat.le_trans hw (Nat.le_trans k.size hb.size)) ho hg hv
  rcases hn with hn | hn
  · exact False.elim hn
  · exact ⟨Nat.le_trans hw hn.1, Nat.lt_of_lt_of_le hn.2 hb.size, fun e => by have := (hlt n e).2; omega⟩

theorem one_new (w : World) (x : Value) (e : TypeId) : ∀ j u, [x][j]? = some u → (w.alloc (.cells #[x] e)).cell? (Addr.add ⟨w.heap.size, 0, none⟩ j) = some u := by
  intro j u hu
  cases j with
  | zero =>
    have := (Blk.new w #[x] e).cell 0
    simpa [Addr.add] using this.trans hu
  | succ j => simp at hu

theorem RwI.row {w w1 : World} {v : Value} {acc : List Prt} (h : RwI w w1 v acc) : ∃ bs, RowM w1 (Fp w No w1) v bs ∧ PtsM w1 (Fp w No w1) acc bs := by
  obtain ⟨bs, h1, h2⟩ := h
  have e := h2.len
  refine ⟨bs, ⟨by rw [e]; exact own_base h1 (Nat.zero_le _), fun k hk => .inr (h1.lt k hk)⟩, PtsM.keep (fun _ _ _ => rfl) (fun n hn _ => .inr ⟨hn.1, hn.2.1⟩) _ _ h2⟩

section
variable {B w W W' : World} {S : Nat → Prop} {r g cap : Nat} {T : List ATok} {ex : Nat → Value} {i o : Nat}

theorem RI.grown (h : RI B W r g cap T ex i o) {q : Option Nat} (hg : W.grownBy W' q) (hq : ∀ k, q = some k → B.heap.size ≤ k ∧ k ≠ r) : RI B W' r g cap T ex i o :=
  ⟨h.k.keep (hg.block r h.k.lt (fun e => (hq r e.symm).2 rfl)), h.kb.grown hg (fun k e => (hq k e).1), h.t, h.lv, h.ne, h.lt, h.ho, h.len, h.e⟩

theorem SI.grown (h : SI B w No W r g cap T ex i o []) {q : Option Nat} (hB : B.heap.size ≤ w.heap.size) (hg : W.grownBy W' q) (hq : ∀ k, q = some k → w.heap.size ≤ k) : SI B w No W' r g cap T ex i o [] :=
  ⟨h.ri.grown hg (fun k e => ⟨Nat.le_trans hB (hq k e), by have := hq k e; have := h.r0; omega⟩), h.kp.grown hg hq, fun p hp => absurd hp (by simp), h.hs, h.r0⟩

theorem SI.row0 {Ps : List (Prt × Nat)} (h : SI B w S W r g cap T ex i o Ps) : RowM W (Fp w S W) (.slice none 0 0) [] ∧ PtsM W (Fp w S W) [] [] := ⟨RowM.nil _ _, rfl⟩

theorem SI.drop {Ps : List (Prt × Nat)} (h : SI B w S W r g cap T ex i o Ps) : SI B w S W r g cap T ex i o [] := ⟨h.ri, h.kp, fun p hp => absurd hp (by simp), h.hs, h.r0⟩

end

/-- A part that the call is filling. -/
def XI (w wr : World) (b : Nat) (k : Int) (x : List Int) (n a : Int) (v : Value) (acc : List Prt) : Prop :=
  w.heap.size ≤ b ∧ Blk wr b (prtC k x n a v) 83 ∧ ∃ bs : List Nat, wr.ownsRow w.heap.size 57 1 v acc.length (bs.map fun b => .pointer (some ⟨b, 0, none⟩)) ∧ PtsM wr (fun n => w.heap.size ≤ n ∧ n < wr.heap.size ∧ v.ownBlock ≠ some n ∧ n ≠ b) acc bs

section
variable {w wr w1 w2 : World} {r b : Nat} {k : Int} {x : List Int} {n a : Int} {v : Value} {acc : List Prt}

theorem XI.kp (h : XI w wr b k x n a v acc) (q : Kp r wr w2) (hr : r < w.heap.size) : XI w w2 b k x n a v acc := by
  obtain ⟨h0, h1, bs, h2, h3⟩ := h
  refine ⟨h0, h1.kp q (by omega), bs, own_keep h2 (fun k hk => q.block k (h2.lt k hk).2 (by have := (h2.lt k hk).1; omega)), PtsM.keep (fun n hn hl => q.block n hl (by omega)) (fun n hn _ => ⟨hn.1, Nat.lt_of_lt_of_le hn.2.1 q.size, hn.2.2⟩) _ _ h3⟩

theorem XI.bw (h : XI w wr b k x n a v acc) (q : Bw wr w2) : XI w w2 b k x n a v acc := by
  obtain ⟨h0, h1, bs, h2, h3⟩ := h
  refine ⟨h0, h1.bw q, bs, own_keep h2 (fun k hk => q.block k (h2.lt k hk).2), PtsM.keep (fun n hn hl => q.block n hl) (fun n hn _ => ⟨hn.1, Nat.lt_of_lt_of_le hn.2.1 q.size, hn.2.2⟩) _ _ h3⟩

theorem XI.part (h : XI w wr b k x n a v acc) : PtM wr (Fp w No wr) (.mk k x n a acc) b := by
  obtain ⟨h0, h1, bs, h2, h3⟩ := h
  refine ⟨.inr ⟨h0, h1.lt⟩, v, bs, h1, ⟨by rw [h3.len]; exact own_base h2 (Nat.zero_le _), fun k hk => .inr (h2.lt k hk)⟩, PtsM.keep (fun _ _ _ => rfl) (fun n hn _ => .inr ⟨hn.1, hn.2.1⟩) _ _ h3⟩

/-- A part that was read behind the last state: what appending it, and keeping the row, makes. -/
theorem XI.app {y : Prt} {c : Nat} (h : XI w wr b k x n a v acc) (hw : w.heap.size ≤ wr.heap.size) (q : Kp r wr w2) (hr : r < w.heap.size) (hp : PtM w2 (Fp wr No w2) y c) :
    ∃ bs : List Nat, (w2.alloc (.cells #[.pointer (some ⟨c, 0, none⟩)] 57)).ownsRow 0 57 1 v acc.length (bs.map fun b => .pointer (some ⟨b, 0, none⟩)) ∧ (∀ k, v.ownBlock = some k → w.heap.size ≤ k ∧ k ≠ b) ∧
      ∀ v' w3, w3.ownsRow 0 57 1 v' (acc.length + 1) ((bs.map fun b => .pointer (some ⟨b, 0, none⟩)) ++ [.pointer (some ⟨c, 0, none⟩)]) → (w2.alloc (.cells #[.pointer (some ⟨c, 0, none⟩)] 57)).grownBy w3 v.ownBlock → (v'.ownBlock = v.ownBlock ∨ ∀ k, v'.ownBlock = some k → (w2.alloc (.cells #[.pointer (some ⟨c, 0, none⟩)] 57)).heap.size ≤ k) → Blk w3 b (prtC k x n a v) 83 ∧ XI w (w3.setCell ⟨b, 5, none⟩ v') b k x n a v' (acc ++ [y]) := by
  obtain ⟨h0, h1, bs0, h2, h3⟩ := h
  have hne : ∀ k, v.ownBlock = some k → k ≠ b := fun k hk e => by
    rcases own_not h2 h1 (by decide) with h | h
    · rw [h] at hk; cases hk
    · exact h (by rw [hk, e])
  have hlt : ∀ k, v.ownBlock = some k → w.heap.size ≤ k ∧ k < wr.heap.size := h2.lt
  have hb := Bw.alloc (Bw.refl w2) (.cells #[.pointer (some ⟨c, 0, none⟩)] 57)
  obtain ⟨_, g1, bs, g2, g3⟩ := ((show XI w wr b k x n a v acc from ⟨h0, h1, bs0, h2, h3⟩).kp q hr).bw hb
  have hbl : b < wr.heap.size := h1.lt
  refine ⟨bs, own_base g2 (Nat.zero_le _), fun k hk => ⟨(hlt k hk).1, hne k hk⟩, fun v' w3 ho hg hv => ?_⟩
  have e1 : Blk w3 b (prtC k x n a v) 83 := g1.keep (hg.block b g1.lt (fun e => hne b e.symm rfl))
  have hv' : ∀ k, v'.ownBlock = some k → k ≠ b := fun k hk e => hv.elim (fun h => hne k (h ▸ hk) e) (fun h => by have := h k hk; have := g1.lt; omega)
  refine ⟨e1, h0, by have := e1.set 5 v'; simpa [prtC] using this, bs ++ [c], ?_, ?_⟩
  · refine own_raise (own_keep (by simpa using ho) (fun k hk => Below.heap_setCell w3 ⟨b, 5, none⟩ v' k (hv' k hk))) (fun k hk => ?_)
    rcases hv with hv | hv
    · exact (hlt k (hv ▸ hk)).1
    · exact Nat.le_trans (Nat.le_trans hw (Nat.le_trans q.size hb.size)) (hv k hk)
  · have keep : ∀ n, n < (w2.alloc (.cells #[.pointer (some ⟨c, 0, none⟩)] 57)).heap.size → v.ownBlock ≠ some n → n ≠ b → (w3.setCell ⟨b, 5, none⟩ v').heap[n]? = (w2.alloc (.cells #[.pointer (some ⟨c, 0, none⟩)] 57)).heap[n]? :=
      fun n hl hn hnb => (Below.heap_setCell w3 ⟨b, 5, none⟩ v' n hnb).trans (hg.block n hl (fun e => hn e.symm))
    have into : ∀ n, w.heap.size ≤ n → n < (w2.alloc (.cells #[.pointer (some ⟨c, 0, none⟩)] 57)).heap.size → v.ownBlock ≠ some n → n ≠ b → (w.heap.size ≤ n ∧ n < (w3.setCell ⟨b, 5, none⟩ v').heap.size ∧ v'.ownBlock ≠ some n ∧ n ≠ b) :=
      fun n h1 hl hn hnb => ⟨h1, by have := hg.size; simp [World.setCell] at *; omega, fun e => hv.elim (fun h => hn (h ▸ e)) (fun h => by have := h n e; omega), hnb⟩
    refine PtsM.snoc (PtM.keep (w := w2) (S := Fp wr No w2) (fun n hn hl => ?_) (fun n hn hl => ?_) _ _ hp) (PtsM.keep (fun n hn hl => keep n hl hn.2.2.1 hn.2.2.2) (fun n hn hl => into n hn.1 hl hn.2.2.1 hn.2.2.2) _ _ g3)
    · rcases hn with hn | hn
      · exact False.elim hn
      · exact (keep n (Nat.lt_of_lt_of_le hl hb.size) (fun e => by have := (hlt n e).2; omega) (by omega)).trans (hb.block n hl)
    · rcases hn with hn | hn
      · exact False.elim hn
      · exact into n (Nat.le_trans hw hn.1) (Nat.lt_of_lt_of_le hl hb.size) (fun e => by have := (hlt n e).2; omega) (by omega)

theorem XI.new (h : Blk wr b (prtC k x n a (.slice none 0 0)) 83) (hb : w.heap.size ≤ b) : XI w wr b k x n a (.slice none 0 0) [] := ⟨hb, h, [], World.ownsRow_nil _ _ _ _, rfl⟩

end

/-- What comes of a call that reads a row. -/
def GotR (B : World) (r g cap : Nat) (T : List ATok) (ex : Nat → Value) (o : Nat) (w : World) (R : Res) (e : Ending) (w' : World) : Prop :=
  match R with
  | .ok x c i => ∃ v, e = .returned v ∧ RwI w w' v x.kids ∧ RI B w' r g cap T ex i o ∧ Kp r w w'
  | .bad n a => e = .panicked (fltV n a) ∧ Kp r w w'
  | .out => True

/-- What a function that reads one of a row promises. -/
def RdN (B : World) (r g cap : Nat) (T : List ATok) (ex : Nat → Value) (f fn : Nat) (rd : Rd) : Prop :=
  ∀ (n : Nat) w i o, RI B w r g cap T ex i o → o ≤ 64 → pP T f (.read rd n) i o ≠ .out → Calls Tryd.prog fn #[.pointer (some ⟨r, 0, none⟩), .int .i64 (n : Int)] w (Got B r g cap T ex o No w (pP T f (.read rd n) i o))

/-- What the call that reads a row promises. -/
def RdR (B : World) (r g cap : Nat) (T : List ATok) (ex : Nat → Value) (f fn : Nat) (rd : Rd) : Prop :=
  ∀ (b e : ByteArray) w i o, RI B w r g cap T ex i o → o ≤ 64 → pP T f (.row rd b e) i o ≠ .out → Calls Tryd.prog 88 #[.pointer (some ⟨r, 0, none⟩), .string b, .string e, .func (.func fn) #[.pointer (some ⟨r, 0, none⟩)] #[]] w (GotR B r g cap T ex o w (pP T f (.row rd b e) i o))

end Go.Proofs.YtlcieebneclmpaaDoor

set_option linter.unusedSimpArgs false
set_option linter.unusedVariables false
namespace Go.Proofs.YtlcieebneclmpaaDoor
open Go Go.RowKit

theorem infoN : (Tryd.prog.info? 38).map (fun i => (i.zero, i.size, i.bytes)) = some (some (.agg #[.int .i64 0, .int .i64 0, .string ⟨#[]⟩, .int .i64 0, .int .i64 0]), 5, 48) := by kernel_rfl
theorem underNs : Tryd.prog.underlying 22 = some (.slice 38) := by kernel_rfl

/-- A node's cells. -/
def ndV (n : ANode) : List Value := [.int .i64 n.1, .int .i64 n.2.1, .string (strOfNums n.2.2.1), .int .i64 n.2.2.2.1, .int .i64 n.2.2.2.2]

/-- Nodes in a row that the call owns. -/
def Nd (w : World) (base : Nat) (v : Value) (l : List ANode) : Prop := w.ownsRow base 38 5 v l.length (l.flatMap ndV)

mutual
def Prt.size : Prt → Nat
  | .mk _ _ _ _ ks => 1 + sizes ks
def sizes : List Prt → Nat
  | [] => 0
  | p :: r => p.size + sizes r
end

mutual
theorem flat_len : ∀ p : Prt, p.flat.length = p.size
  | .mk k x n a ks => by
    rw [Prt.flat, Prt.size, List.length_cons, flats_len ks]; omega
theorem flats_len : ∀ l : List Prt, (flats l).length = sizes l
  | [] => rfl
  | p :: r => by rw [flats, sizes, List.length_append, flat_len p, flats_len r]
end

theorem ndV_one (n : ANode) : ∀ u ∈ ndV n, u.oneCell' = true := by
  intro u hu
  simp only [ndV, List.mem_cons, List.not_mem_nil, or_false] at hu
  rcases hu with rfl | rfl | rfl | rfl | rfl <;> rfl

theorem node_new (w : World) (m : Nat) (hm : w.heap.size = m) (n : ANode) (e : TypeId) : ∀ j u, (ndV n)[j]? = some u → (w.alloc (.cells (ndV n).toArray e)).cell? (Addr.add ⟨m, 0, none⟩ j) = some u := by
  subst hm
  intro j u hu
  have h := (Blk.new w (ndV n).toArray e).cell j
  have e1 : (Addr.add ⟨w.heap.size, 0, none⟩ j) = ⟨w.heap.size, j, none⟩ := by
    unfold Addr.add
    split
    · rename_i h0; subst h0; rfl
    · simp
  rw [e1, h]
  simpa using hu

/-- What writing a part out promises. -/
def ApP (p : Prt) : Prop := ∀ (w : World) (S : Nat → Prop) (b base : Nat) (v : Value) (l : List ANode), PtM w S p b → Nd w base v l → base ≤ w.heap.size → (∀ n, S n → n < base) → l.length + p.size ≤ 100000 →
  Calls Tryd.prog 28 #[.pointer (some ⟨b, 0, none⟩), v] w fun e w' => ∃ v', e = .returned v' ∧ Nd w' base v' (l ++ p.flat) ∧ Below base w w'

theorem PtsM.get {w : World} {S : Nat → Prop} : ∀ {l : List Prt} {bs : List Nat}, PtsM w S l bs → ∀ (k : Nat) (hk : k < l.length), ∃ b, bs[k]? = some b ∧ PtM w S l[k] b
  | [], bs, h, k, hk => by simp at hk
  | p :: r, bs, h, k, hk => by
    obtain ⟨b, t, e, h1, h2⟩ := h
    subst e
    cases k with
    | zero => exact ⟨b, rfl, h1⟩
    | succ k =>
      obtain ⟨c, h3, h4⟩ := PtsM.get h2 k (by simpa using hk)
      exact ⟨c, by simpa using h3, h4⟩

theorem flats_snoc (l : List Prt) (p : Prt) : flats (l ++ [p]) = flats l ++ p.flat := by
  induction l with
  | nil => simp [flats]
  | cons q r ih => simp [flats, ih, List.append_assoc]

theorem sizes_take (l : List Prt) (k : Nat) (hk : k < l.length) : sizes (l.take k) + l[k].size ≤ sizes l := by
  induction l generalizing k with
  | nil => simp at hk
  | cons q r ih =>
    cases k with
    | zero => simp [sizes]
    | succ k =>
      have := ih k (by simpa using hk)
      simp [sizes] at this ⊢
      omega

theorem sizes_ge (l : List Prt) : l.length ≤ sizes l := by
  induction l with
  | nil => simp [sizes]
  | cons q r ih =>
    have : 1 ≤ q.size := by cases q; simp [Prt.size]
    simp [sizes]
    omega

theorem below_keep {base : Nat} {w w' : World} {S : Nat → Prop} (hb : Below base w w') (hS : ∀ n, S n → n < base) {p : Prt} {b : Nat} (h : PtM w S p b) : PtM w' S p b :=
  PtM.keep (fun n hn _ => hb.block n (hS n hn)) (fun n hn _ => hn) _ _ h

set_option maxRecDepth 100000 in
set_option maxHeartbeats 8000000 in
theorem append_step (k : Int) (x : List Int) (n a : Int) (ks : List Prt) (ih : ∀ y ∈ ks, ApP y) : ApP (.mk k x n a ks) := by
  intro w S b base v l hp hn hb hS hlen
  obtain ⟨hSb, pv, bs, hk, hrow, hks⟩ := hp
  have HSB := hid hSb
  clear hSb
  have hl := hks.len
  obtain ⟨ap, cp, rfl⟩ := own_form hrow.1
  obtain ⟨av, cv, rfl⟩ := own_form hn
  have HIH := hid ih
  have HN := hid hn
  have HSS := hid hS
  have HROW := hid hrow
  have HKS := hid hks
  have HK := hid hk
  have hbl := hk.lt
  have z : ∀ j, w.cell? ⟨b, j, none⟩ = #[.int .i64 k, .int .i64 0, .string (strOfNums x), .int .i64 n, .int .i64 a, .slice ap ks.length cp][j]? := fun j => by rw [← hl]; exact hk.cell j
  have HROW := hid (show RowM w S (.slice ap ks.length cp) bs by rw [← hl]; exact hrow)
  have HK := hid (show Blk w b (prtC k x n a (.slice ap ks.length cp)) 83 by rw [← hl]; exact hk)
  have HL := hid hl
  have hlen2 : l.length + (1 + sizes ks) ≤ 100000 := hlen
  have HBA := hid hb
  obtain ⟨i1, hi1, hz1, hs1, hy1⟩ := info_parts infoN
  have I1 := hid (And.intro hi1 (And.intro hz1 (And.intro hs1 hy1)))
  have HLN := hid hlen2
  have hkl : ks.length ≤ 100000 := by have := sizes_ge ks; omega
  clear hi1 hz1 hs1 hy1 ih hn hS hrow hks hk hlen hlen2 hl
  go_enter Tryd.func28, Tryd.ntmps28
  go_wp2_with (first
    | (at_builtin; refine wpList_append_own _ rfl _ _ 22 rfl base 38 i1 _ 5 48 underNs I1.out.1 I1.out.2.1 I1.out.2.2.1 I1.out.2.2.2 rfl (by decide) (.slice av l.length cv) l.length (l.flatMap ndV) rfl (own_keep HN.out (fun q hq => (show Bw w _ from (by repeat (first | exact Bw.refl _ | apply Bw.alloc | apply Bw.drewN | apply Bw.drew))).block q (own_lt' HN.out hq))) ⟨w.heap.size + 1, 0, none⟩ 1 1 (ndV (k, (ks.length : Int), x, n, a)) rfl rfl (node_new _ (w.heap.size + 1) (by simp) (k, (ks.length : Int), x, n, a) _) (ndV_one _) (by have := HLN.out; unfold maxLen; omega) (by have := HLN.out; omega) (by have := HBA.out; simp; omega) ?_; intro v4 w4 ho4 hg4 _; obtain ⟨a4, c4, e4⟩ := own_form ho4; subst e4; have HN4 := hid ho4; have HB4 := hid (Below.grown (show Below base w _ from Below.mono (show Bw w _ from (by repeat (first | exact Bw.refl _ | apply Bw.alloc | apply Bw.drewN | apply Bw.drew))) HBA.out) hg4 (by have := HBA.out; simp; omega) (fun q hq => (HN.out.lt q hq).1)); have x5 := (HK.out.keep (HB4.out.block b (HSS.out b HSB.out))).cell; unfold prtC at x5; have xl := (HK.out.keep (HB4.out.block b (HSS.out b HSB.out))).lt; clear ho4 hg4)
    | fail)
  go_loopw [1, 27] (fun v j wr => ∃ (q : Nat) (a5 : Option Addr) (N c5 : Nat), q ≤ ks.length ∧ j = .int .i64 q ∧ v = .slice a5 N c5 ∧ Nd wr base (.slice a5 N c5) (l ++ [(k, (ks.length : Int), x, n, a)] ++ flats (ks.take q)) ∧ Below base w wr) (fun _ j _ => ks.length - (intOf j).toNat)
  case atStart => exact ⟨0, a4, _, c4, Nat.zero_le _, rfl, rfl, by simpa [Nd, flats] using HN4.out, HB4.out⟩
  case round =>
    clear x5 xl
    obtain ⟨q, a5, N, c5, hq, rfl, rfl, hn5, hb5⟩ := hrel
    rename World => wr
    have HN5 := hid hn5
    have HB5 := hid hb5
    clear hn5 hb5
    by_cases hlt : q < ks.length
    · obtain ⟨bq, hbq, hpq⟩ := HKS.out.get q hlt
      have hp5 := below_keep HB5.out HSS.out hpq
      have HP5 := hid hp5
      have h0 : (0 : Int) ≤ (q : Int) := by omega
      have h1 : (q : Int) < (ks.length : Int) := by omega
      obtain ⟨gr, hgr, hgl, hgc⟩ : ∃ gr, ap = some ⟨gr, 0, none⟩ ∧ gr < wr.heap.size ∧ wr.cell? ⟨gr, q, none⟩ = some (.pointer (some ⟨bq, 0, none⟩)) := by
        rcases HROW.out.1.2 with ⟨e, _⟩ | ⟨g', cap', cur, e, _, hg', hn', _, hs', ht'⟩
        · simp only [Value.slice.injEq] at e; omega
        · simp only [Value.slice.injEq] at e
          have hS' : S g' := HROW.out.2 g' (by rw [e.1]; rfl)
          have hblk := (HB5.out.block g' (HSS.out g' hS')).trans hg'
          refine ⟨g', e.1, (Array.getElem?_eq_some_iff.1 hblk).1, ?_⟩
          rw [cell_of_row wr g' q cur _ (0, 0) hblk]
          have hqb : q < bs.length := by have := HL.out; omega
          have := congrArg (·[q]?) ht'
          simp only [List.getElem?_take, Nat.mul_one] at this
          rw [if_pos hqb] at this
          simpa [hbq] using this
      subst hgr
      have HLE := hid (sizes_take ks q hlt)
      have HL5 := hid (show (l ++ [(k, (ks.length : Int), x, n, a)] ++ flats (ks.take q)).length + (ks[q]).size ≤ 100000 by have := sizes_take ks q hlt; have := HLN.out; simp [flats_len]; omega)
      have HAY := hid (HIH.out (ks[q]) (List.getElem_mem hlt) wr S bq base (.slice a5 N c5) (l ++ [(k, (ks.length : Int), x, n, a)] ++ flats (ks.take q)) HP5.out HN5.out (Nat.le_trans HBA.out HB5.out.size) HSS.out HL5.out)
      clear hpq hp5 hbq
      go_wp2_with (first
        | (go_at_call 28; refine HAY.out.mono ?_; rintro e w6 ⟨v6, rfl, hn6, hb6⟩; obtain ⟨a6, N6, c6, e6⟩ : ∃ a N c, v6 = .slice a N c := (by obtain ⟨a, c, e⟩ := own_form hn6; exact ⟨a, _, c, e⟩); subst e6; have HN6 := hid hn6; have HB6 := hid (HB5.out.trans hb6); clear hn6 hb6)
        | fail)
      go_roundw
      case rel =>
        have e7 : l ++ [(k, (ks.length : Int), x, n, a)] ++ flats (ks.take (q + 1)) = l ++ [(k, (ks.length : Int), x, n, a)] ++ flats (ks.take q) ++ (ks[q]).flat := by
          rw [List.take_succ_eq_append_getElem hlt, flats_snoc]; simp
        refine ⟨q + 1, a6, N6, c6, by omega, by go_num, rfl, ?_, HB6.out⟩
        rw [e7]; exact HN6.out
      case measure => simp [intOf]; omega
    · obtain rfl : q = ks.length := by omega
      go_wp2
      all_goals go_ret
      all_goals
        have e8 : l ++ (Prt.mk k x n a ks).flat = l ++ [(k, (ks.length : Int), x, n, a)] ++ flats (ks.take ks.length) := by rw [List.take_length, Prt.flat]; simp
        rw [e8]
        exact ⟨_, rfl, HN5.out, HB5.out⟩

mutual
theorem append_any : ∀ p : Prt, ApP p
  | .mk k x n a ks => append_step k x n a ks (append_all ks)
theorem append_all : ∀ (l : List Prt) (y : Prt), y ∈ l → ApP y
  | [], y, h => by simp at h
  | p :: r, y, h => by
    rcases List.mem_cons.1 h with h | h
    · rw [h]; exact append_any p
    · exact append_all r y h
end

end Go.Proofs.YtlcieebneclmpaaDoor

