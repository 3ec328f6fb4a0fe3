/- Whether two words are alike: the program's alike, Deep. -/
import Derived.Test.YtlhgdknmgdohkaaGreatDoorK13
import Derived.Deep.RegionLaw
import Derived.Laws.EntriesVeiled
set_option linter.unusedSimpArgs false
set_option linter.unusedVariables false
namespace Go.Proofs.YtlhgdknmgdohkaaGreatDoor
open Go Go.RowKit

/-- len of a map, as one step of a region that draws. -/
theorem step_len_own {P : Program} {ops : Array Oper} {o : Oper} {a : Act} {w : World} {K : Act → World → Prop} {Q : Exit → Act → World → Prop} {E : Prop}
    (hg : o.guard = none) (m : Operand) (t : TypeId) (hop : o.op = Op.call { callee := Callee.builtin Builtin.len, args := #[m], argTypes := #[t] })
    (k e : TypeId) (ht : P.underlying t = some (.map k e)) (R : Value → Option (DataW Unit × List MemPlace)) (b n : Nat) (D : DataW Unit) (hm : a.eval m = .map (some b)) (hown : w.ownsMap P k R b n D)
    (hK : K (a.put o.dst (.int .i64 (Maps.size D))) w) :
    if Region.wanted o (yielded ops a.tmps) = true then Oper.wp P o a w K Q else E := by
  have hw : Region.wanted o (yielded ops a.tmps) = true := by simp [Region.wanted, hg]
  rw [if_pos hw]
  unfold Oper.wp
  simp [execOp, hop, resolve, invoke, builtin, hm, hown.len ht o.type, Result.andThen]
  exact hK

theorem MP.own {w : World} {b : Nat} {Ms : List (Int × Int)} (h : MP w b Ms) : ∃ D, w.ownsMap Tryz.prog 117 (plainElem (H := Unit) Tryz.prog 3) b Ms.length D ∧ RowP D Ms := h

/-- A pair that was met, or was not: what the map says. -/
theorem MP.look {w : World} {b : Nat} {Ms : List (Int × Int)} (h : MP w b Ms) (x y : Int) (hx : U x) (hy : U y) :
    ∃ c : Int, (Instr.lookup 75 (.map (some b)) (.agg #[.int .u64 x, .int .u64 y]) true).run Tryz.prog w = .ok (.tuple #[.int .i64 c, .bool (decide ((x, y) ∈ Ms))]) w := by
  obtain ⟨D, ho, hr⟩ := h
  obtain ⟨l, hl⟩ := keyP (x, y) hx hy
  obtain ⟨v, ps, hrun, hv⟩ := ho.look_ok lawP underMm (zeroKI w) (plainElem_int underKI (by decide)) hl
  obtain ⟨c, rfl, _, _⟩ := plainElem_int_inv underKI hv
  rw [hr.has (x, y) l hl] at hrun
  exact ⟨c, hrun⟩

/-- A pair that is new is written down. -/
theorem MP.store {w : World} {b : Nat} {Ms : List (Int × Int)} (h : MP w b Ms) (x y n : Int) (hx : U x) (hy : U y) (hn : (Lit.int .i64 n).wf = true) (hlen : Ms.length ≤ 70000) (hnew : (x, y) ∉ Ms) :
    ∃ w', (Instr.mapUpdate 75 (.map (some b)) (.agg #[.int .u64 x, .int .u64 y]) (.int .i64 n)).run Tryz.prog w = .ok () w' ∧ MP w' b (Ms ++ [(x, y)]) ∧ w.mapTurned w' b := by
  obtain ⟨D, ho, hr⟩ := h
  obtain ⟨l, hl⟩ := keyP (x, y) hx hy
  obtain ⟨w', hrun, ho', ht⟩ := ho.store lawP underMm (by unfold maxLen; omega) hl (plainElem_int underKI hn)
  exact ⟨w', hrun, ⟨_, by simpa using ho', hr.snoc hl hnew _⟩, ht⟩

theorem CI.turned {w w' : World} {b0 : Nat} {H : AHeap} {bs : List Nat} {cb mb : Nat} {Ms Ms' : List (Int × Int)} {fl : Bool} (h : CI w b0 H bs cb mb Ms fl) (ht : w.mapTurned w' mb) (hm : MP w' mb Ms') : CI w' b0 H bs cb mb Ms' fl ∧ Fr [mb, cb] w w' := by
  have hg := ht.grown
  have hf : Fr [mb, cb] w w' := ⟨hg.os, hg.tape, hg.output, hg.size, fun b h1 h2 => hg.block b h1 (fun e => h2 (by rw [Option.some.inj e]; simp))⟩
  exact ⟨h.next hf (h.k.keep (hg.block cb h.k.lt (fun e => h.n.2.2 (Option.some.inj e)))) hm, hf⟩

theorem CI.flag {w : World} {b0 : Nat} {H : AHeap} {bs : List Nat} {cb mb : Nat} {Ms : List (Int × Int)} {fl : Bool} (h : CI w b0 H bs cb mb Ms fl) (t : Bool) : CI (w.setCell ⟨cb, 2, none⟩ (.bool t)) b0 H bs cb mb Ms t ∧ Fr [mb, cb] w (w.setCell ⟨cb, 2, none⟩ (.bool t)) := by
  have hg := grown_set w cb 2 (.bool t)
  have hf : Fr [mb, cb] w (w.setCell ⟨cb, 2, none⟩ (.bool t)) := ⟨hg.os, hg.tape, hg.output, hg.size, fun b h1 h2 => hg.block b h1 (fun e => h2 (by rw [Option.some.inj e]; simp))⟩
  exact ⟨h.next hf (h.k.set 2 _) (h.mp.keep (hg.block mb h.mp.lt (fun e => h.n.2.2 (Option.some.inj e).symm))), hf⟩

set_option maxRecDepth 100000 in
set_option maxHeartbeats 8000000 in
theorem alike_early {b0 : Nat} {H : AHeap} {bs : List Nat} {cb mb : Nat} {Ms : List (Int × Int)} (a b : Int) (ha : U a) (hb : U b) (w : World) (h : CI w b0 H bs cb mb Ms false) (r : Bool)
    (hr : (eqW H a b = true ∧ r = true) ∨ (eqW H a b = false ∧ (kk H a != kk H b || !(kk H a == 2 || kk H a == 3 || kk H a == 4)) = true ∧ r = false)) :
    Calls Tryz.prog 31 #[.pointer (some ⟨cb, 0, none⟩), .int .u64 a, .int .u64 b] w fun e w' => e = .returned (.bool r) ∧ CI w' b0 H bs cb mb Ms false ∧ Fr [mb, cb] w w' := by
  have HI := hid h
  have HA := hid ha
  have HB := hid hb
  have HEQ := hid (equal_any a b ha hb w h.hs)
  have z0 : w.cell? ⟨cb, 0, none⟩ = some (.pointer (some ⟨b0, 0, none⟩)) := h.k.cell 0
  clear h ha hb
  rcases hr with ⟨h1, rfl⟩ | ⟨h1, h2, rfl⟩
  · rw [h1] at HEQ
    go_enter Tryz.func31, Tryz.ntmps31
    go_wp2_with (first
      | (go_at_call 12; refine HEQ.out.mono ?_; rintro e w1 ⟨rfl, hb1⟩; have HI1 := hid (HI.out.bw hb1); have F1 := hid (hb1.fr [mb, cb]); clear hb1)
      | fail)
    all_goals go_ret
    all_goals exact ⟨rfl, HI1.out, F1.out⟩
  · rw [h1] at HEQ
    have hcs : ((kk H a != kk H b) = true) ∨ ((kk H a != kk H b) = false ∧ (kk H a == 2 || kk H a == 3 || kk H a == 4) = false) := by
      cases c : (kk H a != kk H b)
      · rw [c] at h2
        exact .inr ⟨rfl, by simpa using h2⟩
      · exact .inl rfl
    rcases hcs with c1 | ⟨c1, c2⟩
    all_goals
      go_enter Tryz.func31, Tryz.ntmps31
      go_wp2_with (first
        | (go_at_call 12; refine HEQ.out.mono ?_; rintro e w1 ⟨rfl, hb1⟩; have hi1 := HI.out.bw hb1; have y0 : w1.cell? ⟨cb, 0, none⟩ = some (.pointer (some ⟨b0, 0, none⟩)) := hi1.k.cell 0; have HI1 := hid hi1; have F1 := hid (hb1.fr [mb, cb]); clear hb1 hi1)
        | (go_at_call_of 33 (Value.int .u64 a); refine (kind_hs4 _ HA.out _ HI1.out.hs).mono ?_; rintro e w' ⟨rfl, hw'⟩; subst w')
        | (go_at_call_of 33 (Value.int .u64 b); refine (kind_hs4 _ HB.out _ HI1.out.hs).mono ?_; rintro e w' ⟨rfl, hw'⟩; subst w')
        | (go_at_call 55; refine (hasParts_any _ _).mono ?_; rintro e w' ⟨rfl, hw'⟩; subst w'; rw [c2])
        | fail)
      all_goals go_ret
      all_goals exact ⟨rfl, HI1.out, F1.out⟩

end Go.Proofs.YtlhgdknmgdohkaaGreatDoor

