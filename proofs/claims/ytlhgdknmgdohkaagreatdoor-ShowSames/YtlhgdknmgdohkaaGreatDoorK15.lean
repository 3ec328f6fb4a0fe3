/- What is under a key: the document's field. · Whether two words are alike: the document's deep, what is known while it compares; its early answers. -/
import Derived.Test.YtlhgdknmgdohkaaGreatDoorR3Ck
import Derived.Test.YtlhgdknmgdohkaaGreatDoorK14
import Derived.Test.YtlhgdknmgdohkaaGreatDoorK12
set_option linter.unusedSimpArgs false
set_option linter.unusedVariables false
namespace Go.Proofs.YtlhgdknmgdohkaaGreatDoor
open Go Go.RowKit

/-- What is under a key of an object. -/
def fldV (o : AObj) (s : ByteArray) : Int := if 0 ≤ aKey o.keys s then o.vals.getD (aKey o.keys s).toNat 0 else 0

set_option maxRecDepth 100000 in
set_option maxHeartbeats 2000000 in
theorem vfield_any (G : Nat → Prop) (o : AObj) (vb vv vk : Value) (s : ByteArray) (w : World) (h : OL w G o vb vv vk) (hm : o.keys.length ≤ 1000000) (hkv : o.keys.length ≤ o.vals.length) :
    Calls Tryz.prog 59 #[objV o vb vv vk, .string s] w fun e w' => e = .returned (.tuple #[.int .u64 (fldV o s), .bool (decide (0 ≤ aKey o.keys s))]) ∧ Ly w w' := by
  have HO := hid h
  clear h
  obtain ⟨ab, cb, rfl⟩ := HO.out.1.form
  obtain ⟨av, cv, rfl⟩ := HO.out.2.1.form
  obtain ⟨ak, ck, rfl⟩ := HO.out.2.2.form
  go_enter Tryz.func59, Tryz.ntmps59
  go_wp2
  go_loopw [6] (fun j wr => ∃ k, k ≤ o.keys.length ∧ j = .int .i64 k ∧ wr = w.alloc (.cells #[.int .i64 o.kind, .slice ab o.bytes.length cb, .slice av o.vals.length cv, .slice ak o.keys.length ck, .int .i64 o.num, .int .u64 o.re, .int .u64 o.im] 53) ∧ ∀ i (hi : i < k) (hl : i < o.keys.length), o.keys[i] ≠ s) (fun j _ => o.keys.length - (intOf j).toNat)
  case atStart => exact ⟨0, Nat.zero_le _, rfl, rfl, fun i hi => absurd hi (by omega)⟩
  case round =>
    obtain ⟨k, hk, rfl, rfl, hd⟩ := hrel
    have HD := hid hd
    clear hd
    by_cases hlt : k < o.keys.length
    · obtain ⟨b, off, rfl, hbs, c1⟩ := HO.out.2.2.at hlt
      have c2 : w.cell? ⟨b, off + k, none⟩ = some (.string o.keys[k]) := by rw [c1]; simp [hlt]
      have hlv : k < o.vals.length := by omega
      obtain ⟨b', off', rfl, hbs', d1⟩ := HO.out.2.1.at hlv
      have d2 : w.cell? ⟨b', off' + k, none⟩ = some (.int .u64 o.vals[k]) := by rw [d1]; simp [hlv]
      have hb1 : (0 : Int) ≤ (k : Int) := by omega
      have hb2 : (k : Int) < (o.keys.length : Int) := by omega
      have hb3 : (k : Int) < (o.vals.length : Int) := by omega
      clear c1 d1
      by_cases he : o.keys[k] = s
      · have hr := aKey_hit hlt he (fun j hj => HD.out j hj (by omega))
        have HR : Hid (fldV o s = o.vals[k] ∧ decide (0 ≤ aKey o.keys s) = true) := by
          refine ⟨?_, ?_⟩
          · unfold fldV; rw [hr, if_pos (by omega)]; simp [hlv]
          · rw [hr]; exact decide_eq_true (by omega)
        rw [he] at c2
        clear hr
        go_wp2
        all_goals go_ret2
        all_goals refine ⟨?_, by repeat (first | exact Ly.refl _ | apply Ly.lay | apply Ly.alloc | apply Ly.drewN | apply Ly.drew)⟩
        all_goals (rw [HR.out.1, HR.out.2]; try rfl)
      · have hn : ∀ i (hi : i < k + 1) (hl : i < o.keys.length), o.keys[i] ≠ s := by
          intro i hi hl
          by_cases hik : i = k
          · subst hik; exact he
          · exact HD.out i (by omega) hl
        have HN := hid hn
        clear hn
        generalize o.keys[k] = z at c2 he
        have hne := str_ne he
        go_wp2
        go_roundw
        case rel => exact ⟨k + 1, by omega, by go_num, trivial, HN.out⟩
        case measure => simp [intOf]; omega
    · have hr := aKey_miss (l := o.keys) (k := s) (fun j hj => HD.out j (by omega) hj)
      have HR : Hid (fldV o s = 0 ∧ decide (0 ≤ aKey o.keys s) = false) := by
        refine ⟨?_, ?_⟩
        · unfold fldV; rw [hr, if_neg (by omega)]
        · rw [hr]; rfl
      clear hr
      go_wp2
      all_goals go_ret2
      all_goals refine ⟨?_, by repeat (first | exact Ly.refl _ | apply Ly.lay | apply Ly.alloc | apply Ly.drewN | apply Ly.drew)⟩
      all_goals (rw [HR.out.1, HR.out.2]; try rfl)

theorem fld_aField {H : AHeap} {v : Int} {s : ByteArray} (hk : kk H v = 3) : fldV (ob H v) s = aFieldV H v s := by
  unfold fldV aFieldV
  rw [if_pos hk]

end Go.Proofs.YtlhgdknmgdohkaaGreatDoor

set_option linter.unusedSimpArgs false
set_option linter.unusedVariables false
namespace Go.Proofs.YtlhgdknmgdohkaaGreatDoor
open Go Go.RowKit

/-- While the document compares: its heap, the pairs met (behind sb; their two lists va, vb). -/
structure DI (w : World) (k0 : Int) (ah : Option Addr) (ch : Nat) (H : AHeap) (sb : Nat) (va vb : Value) (Ms : List (Int × Int)) (fl : Bool) : Prop where
  rd : RdH w (fun b => b < sb) (.agg #[.int .i64 k0, .slice ah H.2.length ch]) H
  k : Blk w sb #[va, vb, .bool fl] 81
  oa : w.ownsRow (sb + 1) 27 1 va Ms.length (Ms.map fun p => Value.int .u64 p.1)
  ob : w.ownsRow (sb + 1) 27 1 vb Ms.length (Ms.map fun p => Value.int .u64 p.2)
  ne : ∀ b, va.ownBlock = some b → vb.ownBlock ≠ some b

/-- From one world to the next: the pairs' blocks alone are written. -/
structure DS (sb : Nat) (w : World) (va vb : Value) (w' : World) (va' vb' : Value) : Prop where
  os : w'.os = w.os
  tape : w'.tape = w.tape
  output : w'.output = w.output
  size : w.heap.size ≤ w'.heap.size
  block : ∀ b, b < w.heap.size → b ≠ sb → va.ownBlock ≠ some b → vb.ownBlock ≠ some b → w'.heap[b]? = w.heap[b]?
  na : ∀ b, va'.ownBlock = some b → va.ownBlock = some b ∨ w.heap.size ≤ b
  nb : ∀ b, vb'.ownBlock = some b → vb.ownBlock = some b ∨ w.heap.size ≤ b

theorem DS.of_bw {sb : Nat} {w w' : World} {va vb : Value} (h : Bw w w') : DS sb w va vb w' va vb :=
  ⟨h.os, h.tape, h.output, h.size, fun b hb _ _ _ => h.block b hb, fun _ e => .inl e, fun _ e => .inl e⟩

theorem DS.trans {sb : Nat} {w1 w2 w3 : World} {a1 b1 a2 b2 a3 b3 : Value} (h : DS sb w1 a1 b1 w2 a2 b2) (k : DS sb w2 a2 b2 w3 a3 b3) : DS sb w1 a1 b1 w3 a3 b3 where
  os := k.os.trans h.os
  tape := k.tape.trans h.tape
  output := k.output.trans h.output
  size := Nat.le_trans h.size k.size
  block := fun b hb hs ha hb' => by
    refine (k.block b (Nat.lt_of_lt_of_le hb h.size) hs (fun e => ?_) (fun e => ?_)).trans (h.block b hb hs ha hb')
    · rcases h.na b e with e' | e'
      · exact ha e'
      · omega
    · rcases h.nb b e with e' | e'
      · exact hb' e'
      · omega
  na := fun b e => by
    rcases k.na b e with e' | e'
    · exact h.na b e'
    · exact .inr (Nat.le_trans h.size e')
  nb := fun b e => by
    rcases k.nb b e with e' | e'
    · exact h.nb b e'
    · exact .inr (Nat.le_trans h.size e')

theorem DI.bw {w w' : World} {k0 : Int} {ah : Option Addr} {ch : Nat} {H : AHeap} {sb : Nat} {va vb : Value} {Ms : List (Int × Int)} {fl : Bool} (h : DI w k0 ah ch H sb va vb Ms fl) (hb : Bw w w') : DI w' k0 ah ch H sb va vb Ms fl :=
  ⟨h.rd.below hb, h.k.bw hb, own_bw h.oa hb, own_bw h.ob hb, h.ne⟩

/-- A block of another kind is kept. -/
theorem Blk.ds {w w' : World} {k0 : Int} {ah : Option Addr} {ch : Nat} {H : AHeap} {sb : Nat} {va vb va' vb' : Value} {Ms : List (Int × Int)} {fl : Bool} {g : Nat} {cur : Array Value} {e : TypeId} (h : Blk w g cur e) (hi : DI w k0 ah ch H sb va vb Ms fl) (hs : DS sb w va vb w' va' vb') (n1 : e ≠ 81) (n2 : e ≠ 27) : Blk w' g cur e := by
  have hown : ∀ (v : Value) (n : Nat) (xs : List Value), w.ownsRow (sb + 1) 27 1 v n xs → v.ownBlock ≠ some g := by
    intro v n xs ho hg
    rcases ho.2 with ⟨rfl, _⟩ | ⟨g', cap, cur', rfl, _, hg', _⟩
    · simp [Value.ownBlock] at hg
    · simp only [Value.ownBlock, Option.some.injEq] at hg
      subst hg
      have := hg'.symm.trans (show w.heap[g']? = _ from h)
      simp only [Option.some.injEq, Obj.cells.injEq] at this
      exact n2 this.2.1.symm
  refine h.keep (hs.block g h.lt (fun e' => ?_) (hown _ _ _ hi.oa) (hown _ _ _ hi.ob))
  subst e'
  have := (show w.heap[g]? = _ from hi.k).symm.trans (show w.heap[g]? = _ from h)
  simp only [Option.some.injEq, Obj.cells.injEq] at this
  exact n1 this.2.1.symm

set_option maxRecDepth 100000 in
set_option maxHeartbeats 8000000 in
theorem vdeep_early {k0 : Int} {ah : Option Addr} {ch : Nat} {H : AHeap} {sb : Nat} {va vb : Value} {Ms : List (Int × Int)} (hok : HOK H) (hbr : Bare H) (hm : H.2.length ≤ 1000000) (a b : Int) (ha : U a) (hb : U b) (w : World) (h : DI w k0 ah ch H sb va vb Ms false) (r : Bool)
    (hr : (eqW H a b = true ∧ r = true) ∨ (eqW H a b = false ∧ (kk H a != kk H b || !(kk H a == 2 || kk H a == 3 || kk H a == 4)) = true ∧ r = false)) :
    Calls Tryz.prog 32 #[.agg #[.int .i64 k0, .slice ah H.2.length ch], .pointer (some ⟨sb, 0, none⟩), .int .u64 a, .int .u64 b] w fun e w' => e = .returned (.bool r) ∧ Bw w w' := by
  have HI := hid h
  have HA := hid ha
  have HB := hid hb
  have HM := hid hm
  have hq : ∀ w1, Bw w w1 → Calls Tryz.prog 13 #[.agg #[.int .i64 k0, .slice ah H.2.length ch], .int .u64 a, .int .u64 b] w1 fun e w' => e = .returned (.bool (eqW H a b)) ∧ Bw w1 w' := fun w1 hb1 => requal_any (fun b => b < sb) k0 ah ch H a b ha hb w1 (h.rd.below hb1) hok hbr hm
  clear h ha hb hok hbr hm
  rcases hr with ⟨h1, rfl⟩ | ⟨h1, h2, rfl⟩
  · rw [h1] at hq
    have HEQ := hid hq
    clear hq
    go_enter Tryz.func32, Tryz.ntmps32
    go_wp2_with (first
      | (go_at_call 13; refine (HEQ.out _ (Bw.alloc (Bw.refl _) _)).mono ?_; rintro e w1 ⟨rfl, hb1⟩; have F1 := hid (Bw.trans (Bw.alloc (Bw.refl _) _) hb1); clear hb1)
      | fail)
    all_goals go_ret
    all_goals exact ⟨rfl, F1.out⟩
  · rw [h1] at hq
    have HEQ := hid hq
    have hcs : ((kk H a != kk H b) = true) ∨ ((kk H a != kk H b) = false ∧ (kk H a != 2) = true ∧ (kk H a != 3) = true ∧ (kk H a != 4) = true) := by
      cases c : (kk H a != kk H b)
      · rw [c] at h2
        have h2' : (kk H a == 2 || kk H a == 3 || kk H a == 4) = false := by simpa using h2
        rw [Bool.or_eq_false_iff, Bool.or_eq_false_iff] at h2'
        exact .inr ⟨rfl, by simp [bne, h2'.1.1], by simp [bne, h2'.1.2], by simp [bne, h2'.2]⟩
      · exact .inl rfl
    clear hq h2
    rcases hcs with c1 | ⟨c1, c2, c3, c4⟩
    all_goals
      go_enter Tryz.func32, Tryz.ntmps32
      go_wp2_with (first
        | (go_at_call 13; refine (HEQ.out _ (Bw.alloc (Bw.refl _) _)).mono ?_; rintro e w1 ⟨rfl, hb1⟩; have yk := (Blk.new w #[.int .i64 k0, .slice ah H.2.length ch] 32).bw hb1; have y0 : w1.cell? ⟨w.heap.size, 0, none⟩ = some (.int .i64 k0) := yk.cell 0; have y1 : w1.cell? ⟨w.heap.size, 1, none⟩ = some (.slice ah H.2.length ch) := yk.cell 1; have yl := yk.lt; have F1 := hid (Bw.trans (Bw.alloc (Bw.refl _) _) hb1); clear hb1 yk)
        | (go_at_call_of 20 (Value.int .u64 a); refine (rkindH_any (fun b => b < sb) _ H _ HA.out _ ((HI.out.bw F1.out).rd.below (by repeat (first | exact Bw.refl _ | apply Bw.lay | apply Bw.alloc | apply Bw.drewN | apply Bw.drew))) (by have := HM.out; omega)).mono ?_; rintro e w' ⟨rfl, os1, m1, rfl⟩)
        | (go_at_call_of 20 (Value.int .u64 b); refine (rkindH_any (fun b => b < sb) _ H _ HB.out _ ((HI.out.bw F1.out).rd.below (by repeat (first | exact Bw.refl _ | apply Bw.lay | apply Bw.alloc | apply Bw.drewN | apply Bw.drew))) (by have := HM.out; omega)).mono ?_; rintro e w' ⟨rfl, os2, m2, rfl⟩)
        | fail)
      all_goals go_ret
      all_goals exact ⟨rfl, by repeat (first | exact F1.out | apply Bw.lay | apply Bw.alloc | apply Bw.drewN | apply Bw.drew)⟩

end Go.Proofs.YtlhgdknmgdohkaaGreatDoor

