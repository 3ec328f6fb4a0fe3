/- The place behind a node: the program's and the document's calls. · The place behind a node: the document's own recursion. · Lists of nodes that were handed in: for the statements' frames. -/
import Derived.Test.YtlcieebneclmpaaDoorK6
import Derived.Test.YtlcieebneclmpaaDoorK8
import Derived.Test.YtlcieebneclmpaaDoorK12
set_option linter.unusedSimpArgs false
set_option linter.unusedVariables false
namespace Go.Proofs.YtlcieebneclmpaaDoor
open Go Go.RowKit

/-- A list of nodes that was handed in: what its nodes are made of can be read. -/
structure NM (w : World) (g off : Nat) (L : List ANode) : Prop where
  lt : g < w.heap.size
  c : ∀ i (hi : i < L.length), w.cell? ⟨g, off + i * 5 + 1, none⟩ = some (.int .i64 L[i].2.1)
  b : ∀ i (hi : i < L.length), -9223372036854775808 ≤ L[i].2.1 ∧ L[i].2.1 ≤ 9223372036854775807

/-- What both answer. -/
def bhV (L : List ANode) (at_ : Int) : Int × Int :=
  if at_ < 0 ∨ (L.length : Int) ≤ at_ then (0, 1) else match bhP L at_.toNat with | some k => ((k : Int), 0) | none => (0, 6)

theorem kids_drop {L : List ANode} {a : Nat} (h : a < L.length) : (kidsN L).drop a = L[a].2.1.toNat :: (kidsN L).drop (a + 1) := by
  unfold kidsN
  rw [List.drop_eq_getElem_cons (by simpa using h)]
  simp

set_option maxRecDepth 100000 in
set_option maxHeartbeats 4000000 in
theorem behind_any (g off cap : Nat) (L : List ANode) (hl : L.length ≤ 500) (at_ : Int) (ha : -9223372036854775808 ≤ at_ ∧ at_ ≤ 9223372036854775807) (w : World) (h : L.length = 0 ∨ NM w g off L) :
    Calls Tryd.prog 13 #[.slice (some ⟨g, off, none⟩) L.length cap, .int .i64 at_] w fun e w' => e = .returned (.tuple #[.int .i64 (bhV L at_).1, .int .i64 (bhV L at_).2]) ∧ w' = w := by
  by_cases h0 : at_ < 0 ∨ (L.length : Int) ≤ at_
  · rw [show bhV L at_ = (0, 1) from if_pos h0]
    by_cases h1 : at_ < 0
    · clear h h0 ha hl
      go_enter Tryd.func13, Tryd.ntmps13
      go_wp2
      all_goals go_ret2
      all_goals exact ⟨rfl, rfl⟩
    · have h2 : (L.length : Int) ≤ at_ := by omega
      clear h h0 ha hl
      go_enter Tryd.func13, Tryd.ntmps13
      go_wp2
      all_goals go_ret2
      all_goals exact ⟨rfl, rfl⟩
  · obtain ⟨a0, rfl⟩ : ∃ a : Nat, at_ = (a : Int) := ⟨at_.toNat, by omega⟩
    have hv : bhV L (a0 : Int) = match (cns ((kidsN L).drop a0) 1).map (a0 + ·) with | some k => ((k : Int), 0) | none => (0, 6) := by
      unfold bhV
      rw [if_neg h0]
      simp [bhP]
    rw [hv]
    generalize hR : (cns ((kidsN L).drop a0) 1).map (a0 + ·) = R
    have HR := hid hR
    have hlt0 : a0 < L.length := by omega
    have HN := hid (h.resolve_left (by omega))
    have ha1 : (0 : Int) ≤ (a0 : Int) := by omega
    have ha2 : (a0 : Int) < (L.length : Int) := by omega
    clear hv h h0 ha hR
    go_enter Tryd.func13, Tryd.ntmps13
    go_wp2
    go_loopw [1, 6] (fun u v wr => ∃ a d : Nat, u = .int .i64 (a : Int) ∧ v = .int .i64 (d : Int) ∧ a + d ≤ L.length ∧ (cns ((kidsN L).drop a) d).map (a + ·) = R ∧ wr = w) (fun u _ _ => L.length - (intOf u).toNat)
    case atStart => exact ⟨a0, 1, rfl, rfl, by omega, HR.out, rfl⟩
    case round =>
      clear HR ha1 ha2 hlt0
      obtain ⟨a, d, rfl, rfl, hle, hr, hwr⟩ := hrel
      subst hwr
      have HR := hid hr
      clear hr
      cases d with
      | zero =>
        have e : R = some a := by rw [← HR.out]; cases (kidsN L).drop a <;> simp [cns]
        subst e
        go_wp2
        all_goals go_ret2
        all_goals exact ⟨rfl, rfl⟩
      | succ d =>
        have hlt : a < L.length := by omega
        have b1 : (0 : Int) ≤ (a : Int) := by omega
        have b2 : (a : Int) < (L.length : Int) := by omega
        have c1 := HN.out.c a hlt
        have c2 := HN.out.lt
        have c3 := HN.out.b a hlt
        have hk := kids_drop hlt
        have HRk := HR.out
        rw [hk, cns] at HRk
        have HB := hid (cns_le ((kidsN L).drop (a + 1)) (d + L[a].2.1.toNat))
        have hdl : ((kidsN L).drop (a + 1)).length = L.length - (a + 1) := by simp [kidsN]
        have HDL := hid hdl
        have HRK := hid HRk
        clear hk HRk hdl
        generalize hN : L[a].2.1 = N at c1 c3 HB HRK
        clear hN
        by_cases hgt : (L.length : Int) - (a : Int) - ((d : Int) + 1) < N
        · have e : R = none := by
            rw [← HRK.out]
            cases hc : cns ((kidsN L).drop (a + 1)) (d + N.toNat) with
            | none => rfl
            | some m =>
              have q := HB.out m hc
              have q2 := HDL.out
              omega
          subst e
          clear HRK HB HDL HR
          go_wp2
          all_goals go_ret2
          all_goals exact ⟨rfl, rfl⟩
        · have hle2 : N ≤ (L.length : Int) - (a : Int) - ((d : Int) + 1) := by omega
          clear hgt HB HDL HR
          go_wp2
          case roundEnd =>
            refine ⟨⟨a + 1, d + N.toNat, by rw [Int.natCast_add]; rfl, ?_, by omega, ?_, trivial⟩, ?_⟩
            · congr 1
              split <;> omega
            · rw [← HRK.out]
              cases cns ((kidsN L).drop (a + 1)) (d + N.toNat) <;> simp <;> omega
            · simp only [intOf]
              omega

end Go.Proofs.YtlcieebneclmpaaDoor

set_option linter.unusedSimpArgs false
set_option linter.unusedVariables false
namespace Go.Proofs.YtlcieebneclmpaaDoor
open Go Go.RowKit

set_option maxRecDepth 100000 in
set_option maxHeartbeats 4000000 in
theorem rbehind_out (g off cap : Nat) (L : List ANode) (at_ : Int) (h0 : at_ < 0 ∨ (L.length : Int) ≤ at_) (w : World) :
    Calls Tryd.prog 14 #[.slice (some ⟨g, off, none⟩) L.length cap, .int .i64 at_] w fun e w' => e = .returned (.tuple #[.int .i64 0, .int .i64 1]) ∧ w' = w := by
  by_cases h1 : at_ < 0
  · clear h0
    go_enter Tryd.func14, Tryd.ntmps14
    go_wp2
    all_goals go_ret2
    all_goals exact ⟨rfl, rfl⟩
  · have h2 : (L.length : Int) ≤ at_ := by omega
    clear h0
    go_enter Tryd.func14, Tryd.ntmps14
    go_wp2
    all_goals go_ret2
    all_goals exact ⟨rfl, rfl⟩

/-- One node more is gone over. -/
theorem cns_one (K : List Nat) (k n : Nat) : (cns (K.drop k) (n + 1)).map (k + ·) = ((cns (K.drop k) 1).map (k + ·)).bind fun k' => (cns (K.drop k') n).map (k' + ·) := by
  rw [show n + 1 = 1 + n by omega, cns_add]
  cases cns (K.drop k) 1 with
  | none => rfl
  | some m =>
    simp only [Option.map_some, Option.bind_some, List.drop_drop]
    cases cns (K.drop (k + m)) n <;> simp <;> omega

theorem bhP_lt {L : List ANode} {k k' : Nat} (h : bhP L k = some k') : k < k' ∧ (k ≤ L.length → k' ≤ L.length) := by
  unfold bhP at h
  cases hc : cns ((kidsN L).drop k) 1 with
  | none => rw [hc] at h; simp at h
  | some m =>
    rw [hc] at h
    simp at h
    have q := cns_le _ _ _ hc
    have q2 : ((kidsN L).drop k).length = L.length - k := by simp [kidsN]
    omega

set_option maxRecDepth 100000 in
set_option maxHeartbeats 4000000 in
theorem rbehind_any (g off cap : Nat) (L : List ANode) (hl : L.length ≤ 500) (w : World) (h : L.length = 0 ∨ NM w g off L) : ∀ (n : Nat) (at_ : Int) (ha : -9223372036854775808 ≤ at_ ∧ at_ ≤ 9223372036854775807) (hn : L.length ≤ at_.toNat + n),
    Calls Tryd.prog 14 #[.slice (some ⟨g, off, none⟩) L.length cap, .int .i64 at_] w fun e w' => e = .returned (.tuple #[.int .i64 (bhV L at_).1, .int .i64 (bhV L at_).2]) ∧ w' = w := by
  intro n
  induction n with
  | zero =>
    intro at_ ha hn
    have h0 : at_ < 0 ∨ (L.length : Int) ≤ at_ := by omega
    rw [show bhV L at_ = (0, 1) from if_pos h0]
    exact rbehind_out g off cap L at_ h0 w
  | succ n ih =>
  intro at_ ha hn
  by_cases h0 : at_ < 0 ∨ (L.length : Int) ≤ at_
  · rw [show bhV L at_ = (0, 1) from if_pos h0]
    exact rbehind_out g off cap L at_ h0 w
  · obtain ⟨a0, rfl⟩ : ∃ a : Nat, at_ = (a : Int) := ⟨at_.toNat, by omega⟩
    have hv : bhV L (a0 : Int) = match (cns ((kidsN L).drop a0) 1).map (a0 + ·) with | some k => ((k : Int), 0) | none => (0, 6) := by
      unfold bhV
      rw [if_neg h0]
      rfl
    rw [hv]
    generalize hR : (cns ((kidsN L).drop a0) 1).map (a0 + ·) = R
    have hlt0 : a0 < L.length := by omega
    have HN := h.resolve_left (by omega)
    have ha1 : (0 : Int) ≤ (a0 : Int) := by omega
    have ha2 : (a0 : Int) < (L.length : Int) := by omega
    have c1 := HN.c a0 hlt0
    have c2 := HN.lt
    have c3 := HN.b a0 hlt0
    have hk := kids_drop hlt0
    rw [hk, cns, Nat.zero_add] at hR
    have IH := hid fun (k : Nat) (hk : a0 < k) (hk2 : k ≤ L.length) => ih (k : Int) (by omega) (by omega)
    clear hv h h0 ha ih hk HN
    generalize L[a0].2.1 = N at c1 c3 hR
    have HR : Hid ((cns ((kidsN L).drop (a0 + 1)) N.toNat).map ((a0 + 1) + ·) = R) := hid (by
      rw [← hR]
      cases cns ((kidsN L).drop (a0 + 1)) N.toNat <;> simp <;> omega)
    clear hR
    go_enter Tryd.func14, Tryd.ntmps14
    go_wp2
    rename_i hx9 hK9 ha9
    clear hx9
    go_loopw [6, 7] (fun u v wr => ∃ k i : Nat, u = .int .i64 (k : Int) ∧ v = .int .i64 (i : Int) ∧ i ≤ N.toNat ∧ a0 < k ∧ k ≤ L.length ∧ (cns ((kidsN L).drop k) (N.toNat - i)).map (k + ·) = R ∧ wr = w) (fun _ v _ => N.toNat - (intOf v).toNat)
    case atStart => exact ⟨a0 + 1, 0, by simp, rfl, by omega, by omega, by omega, HR.out, rfl⟩
    case round =>
      clear HR
      obtain ⟨k, i, rfl, rfl, hi, hk1, hk2, hr, hwr⟩ := hrel
      subst hwr
      by_cases hend : N ≤ (i : Int)
      · have e : R = some k := by
          rw [← hr, show N.toNat - i = 0 by omega]
          cases (kidsN L).drop k <;> simp [cns]
        subst e
        clear hr hi hn
        go_wp2
        all_goals go_ret2
        all_goals exact ⟨rfl, rfl⟩
      · have hend2 : (i : Int) < N := by omega
        rw [show N.toNat - i = (N.toNat - (i + 1)) + 1 by omega, cns_one] at hr
        have hr2 : (bhP L k).bind (fun k' => (cns ((kidsN L).drop k') (N.toNat - (i + 1))).map (k' + ·)) = R := hr
        have HC := hid (IH.out k hk1 hk2)
        clear hr hend
        by_cases hkl : k = L.length
        · have e : R = none := by
            rw [← hr2, hkl]
            have e2 : (kidsN L).drop L.length = [] := List.drop_eq_nil_of_le (by simp [kidsN])
            simp only [bhP, e2, cns, Option.map_none, Option.bind_none]
          subst e
          have HC : Hid (Calls Tryd.prog 14 #[.slice (some ⟨g, off, none⟩) L.length cap, .int .i64 (k : Int)] wr fun e w' => e = .returned (.tuple #[.int .i64 0, .int .i64 1]) ∧ w' = wr) := hid (by have q := HC.out; rw [show bhV L (k : Int) = (0, 1) from if_pos (.inr (by omega))] at q; exact q)
          clear hr2 hi hn IH hkl hk1 hk2 hlt0
          go_wp2_with (first
            | (go_at_call 14; refine HC.out.mono ?_; rintro e w1 ⟨rfl, rfl⟩))
          all_goals go_ret2
          all_goals exact ⟨rfl, rfl⟩
        · have hb : bhV L (k : Int) = match bhP L k with | some k => ((k : Int), 0) | none => (0, 6) := by
            unfold bhV
            rw [if_neg (by omega)]
            rfl
          cases hp : bhP L k with
          | none =>
            have e : R = none := by
              rw [← hr2, hp]
              rfl
            subst e
            have HC : Hid (Calls Tryd.prog 14 #[.slice (some ⟨g, off, none⟩) L.length cap, .int .i64 (k : Int)] wr fun e w' => e = .returned (.tuple #[.int .i64 0, .int .i64 6]) ∧ w' = wr) := hid (by have q := HC.out; rw [hb, hp] at q; exact q)
            clear hr2 hi hn IH hb hp hkl hk1 hk2 hlt0
            go_wp2_with (first
              | (go_at_call 14; refine HC.out.mono ?_; rintro e w1 ⟨rfl, rfl⟩))
            all_goals go_ret2
            all_goals exact ⟨rfl, rfl⟩
          | some k' =>
            have q := bhP_lt hp
            rw [hp] at hr2
            have HR := hid (show (cns ((kidsN L).drop k') (N.toNat - (i + 1))).map (k' + ·) = R from hr2)
            have HC : Hid (Calls Tryd.prog 14 #[.slice (some ⟨g, off, none⟩) L.length cap, .int .i64 (k : Int)] wr fun e w' => e = .returned (.tuple #[.int .i64 (k' : Int), .int .i64 0]) ∧ w' = wr) := hid (by have q := HC.out; rw [hb, hp] at q; exact q)
            have HQ := hid (show i + 1 ≤ N.toNat ∧ a0 < k' ∧ k' ≤ L.length from ⟨by omega, by omega, q.2 hk2⟩)
            clear hr2 hi hn IH hb hp q hkl hk1 hk2 hlt0
            go_wp2_with (first
              | (go_at_call 14; refine HC.out.mono ?_; rintro e w1 ⟨rfl, rfl⟩))
            case roundEnd =>
              have q := HQ.out
              refine ⟨⟨k', i + 1, rfl, by simp, q.1, q.2.1, q.2.2, HR.out, trivial⟩, ?_⟩
              simp only [intOf]
              omega

end Go.Proofs.YtlcieebneclmpaaDoor

set_option linter.unusedVariables false
set_option linter.unusedSimpArgs false
namespace Go.Proofs.YtlcieebneclmpaaDoor
open Go.ChangeShapes Go.WideShapes Go.ChangeAt Go.RowKit

set_option maxRecDepth 100000 in
theorem cellsN : Tryd.prog.cellsOf 38 = 5 := by kernel_rfl
set_option maxRecDepth 100000 in
theorem cells3 : Tryd.prog.cellsOf 3 = 1 := by kernel_rfl
set_option maxRecDepth 100000 in
theorem under3' : Tryd.prog.underlying 3 = some (.int .i64) := by kernel_rfl

/-- A list of structs of 'size' cells each. -/
theorem trod_rows {α H : Type} {enc : TypeId × Value → H} {w : World} {T E : TypeId} {fuel size : Nat} {cs : List Value} {x : DataW H × List MemPlace} (mk : α → List Value) (ok : α → Prop) (hpos : 0 < size)
    (ht : Tryd.prog.underlying T = some (.slice E)) (hc : Tryd.prog.cellsOf E = size) (hmk : ∀ a, (mk a).length = size)
    (hel : ∀ n cs x, DataW.trod enc Tryd.prog w 0 (fun _ => true) true n E cs = some x → ∃ a, cs = mk a ∧ ok a)
    (h : DataW.trod enc Tryd.prog w 0 (fun _ => true) true fuel T cs = some x) :
    ∃ (a : Option Addr) (cap : Nat) (l : List α), cs = [.slice a l.length cap] ∧ l.length ≤ maxLen ∧ ∀ i (hi : i < l.length), ∃ b off, a = some ⟨b, off, none⟩ ∧ b < w.heap.size ∧ (∀ j, j < size → w.cell? ⟨b, off + (i * size + j), none⟩ = (mk l[i])[j]?) ∧ ok l[i] := by
  rcases DataW.trod_slice ht h with ⟨rfl, _⟩ | ⟨ad, len, cap, elems, rest, n, _, rfl, _, _, hl, hm, hlen, he, _, _⟩
  · exact ⟨none, 0, [], rfl, Nat.zero_le _, fun i hi => by simp at hi⟩
  · rw [hc] at he
    have key : ∀ i, i < len → ∃ q : α, (∀ j, j < size → w.cell? ((ad.add (i * size)).add j) = (mk q)[j]?) ∧ ok q := by
      intro i hi
      have h1 := he i hi
      obtain ⟨y, hy⟩ : ∃ y, elems[i]? = some y := ⟨_, List.getElem?_eq_getElem (by omega)⟩
      rw [hy, Option.bind_eq_some_iff] at h1
      obtain ⟨cs', hcs, htr⟩ := h1
      obtain ⟨a, rfl, hok⟩ := hel _ _ _ htr
      exact ⟨a, (World.cells?_some hcs).2.2, hok⟩
    obtain ⟨qs, hql, hq⟩ := list_of _ len key
    refine ⟨some ad, cap, qs, by rw [hql], by omega, fun i hi => ?_⟩
    obtain ⟨hc1, hok⟩ := hq i hi
    have hc0 := (hq 0 (by omega)).1 0 hpos
    obtain ⟨b, off, spot⟩ := ad
    obtain ⟨v0, hv0⟩ : ∃ v0, (mk (qs[0]'(by omega)))[0]? = some v0 := ⟨(mk (qs[0]'(by omega)))[0]'(by rw [hmk]; exact hpos), List.getElem?_eq_getElem _⟩
    have hsome : w.cell? ⟨b, off, spot⟩ = some v0 := by
      rw [hv0] at hc0
      simpa [Addr.add] using hc0
    have hspot : spot = none := World.cell?_spot hsome
    subst hspot
    have hlt : b < w.heap.size := World.block_lt_of_cell? w _ hsome
    have e1 : ∀ k j, ((⟨b, off, none⟩ : Addr).add k).add j = ⟨b, off + (k + j), none⟩ := by
      intro k j
      simp [Addr.add]
      split <;> split <;> simp_all <;> omega
    exact ⟨b, off, rfl, hlt, fun j hj => by rw [← e1, hc1 j hj], hok⟩

/-- A node's fields are such as there are. -/
def NdOk (n : ANode) : Prop :=
  (-9223372036854775808 ≤ n.1 ∧ n.1 ≤ 9223372036854775807) ∧ (-9223372036854775808 ≤ n.2.1 ∧ n.2.1 ≤ 9223372036854775807) ∧ ((∀ c ∈ n.2.2.1, 0 ≤ c ∧ c ≤ 255) ∧ n.2.2.1.length ≤ maxLen) ∧ (-9223372036854775808 ≤ n.2.2.2.1 ∧ n.2.2.2.1 ≤ 9223372036854775807) ∧ (-9223372036854775808 ≤ n.2.2.2.2 ∧ n.2.2.2.2 ≤ 9223372036854775807)

set_option maxRecDepth 100000 in
theorem trod_node {H : Type} {enc : TypeId × Value → H} {w : World} {fuel : Nat} {cs : List Value} {y : DataW H × List MemPlace} (h : DataW.trod enc Tryd.prog w 0 (fun _ => true) true fuel 38 cs = some y) :
    ∃ n : ANode, cs = ndV n ∧ NdOk n := by
  obtain ⟨xs, n, _, _, hl, hlen, hf⟩ := DataW.trod_struct Tryd.underlying38 h
  rw [cellsN] at hl
  match cs, hl with
  | [c0, c1, c2, c3, c4], _ =>
  have hl5 : xs.length = 5 := hlen
  match xs, hl5 with
  | [y0, y1, y2, y3, y4], _ =>
  obtain ⟨a0, e0, _, w0⟩ := DataW.trod_int under3' (hf 0 _ rfl)
  obtain ⟨a1, e1, _, w1⟩ := DataW.trod_int under3' (hf 1 _ rfl)
  obtain ⟨s2, e2, _, w2⟩ := DataW.trod_string under9 (hf 2 _ rfl)
  obtain ⟨a3, e3, _, w3⟩ := DataW.trod_int under3' (hf 3 _ rfl)
  obtain ⟨a4, e4, _, w4⟩ := DataW.trod_int under3' (hf 4 _ rfl)
  simp [cells3, cells9] at e0 e1 e2 e3 e4
  subst e0 e1 e2 e3 e4
  have es : strOfNums (s2.data.toList.map fun u => (u.toNat : Int)) = s2 := by
    cases s2
    simp [strOfNums, List.map_map, Function.comp_def]
  refine ⟨(a0, a1, s2.data.toList.map fun u => (u.toNat : Int), a3, a4), by simp only [ndV, es], bounds_i64 w0, bounds_i64 w1, ⟨?_, by rw [List.length_map, Array.length_toList]; exact w2⟩, bounds_i64 w3, bounds_i64 w4⟩
  intro c hc
  obtain ⟨u, _, rfl⟩ := List.mem_map.1 hc
  have := u.toNat_lt
  omega

/-- A list of nodes in memory. -/
def NA (w : World) (a : Option Addr) (L : List ANode) : Prop :=
  ∀ i (hi : i < L.length), ∃ b off, a = some ⟨b, off, none⟩ ∧ b < w.heap.size ∧ (∀ j, j < 5 → w.cell? ⟨b, off + (i * 5 + j), none⟩ = (ndV L[i])[j]?) ∧ NdOk L[i]

set_option maxRecDepth 100000 in
theorem open_nodes {H : Type} {enc : TypeId × Value → H} {W : World} {base : Nat} {v : Value} {d : DataW H} {ps : List MemPlace}
    (hval : Value.okWide Tryd.prog W .any base 22 v) (h : DataW.Trod enc Tryd.prog W 0 (fun _ => true) true 22 v d ps) :
    ∃ a cap L, v = .slice a (L : List ANode).length cap ∧ L.length ≤ maxLen ∧ NA W a L := by
  obtain ⟨a, len, cap, rfl⟩ := okWide_slice Tryd.underlying22 hval
  obtain ⟨fuel, hf⟩ := h
  obtain ⟨a, cap, L, e, h1, h2⟩ := trod_rows ndV NdOk (by decide) Tryd.underlying22 cellsN (fun n => rfl) (fun n cs x h => trod_node h) hf
  simp [Value.cells] at e
  obtain ⟨rfl, e2, rfl⟩ := e
  exact ⟨a, cap, L, by rw [e2], h1, h2⟩

theorem na_form {w : World} {a : Option Addr} {L : List ANode} (h : NA w a L) (h0 : 0 < L.length) : ∃ g off, a = some ⟨g, off, none⟩ ∧ NM w g off L := by
  obtain ⟨g, off, rfl, hg, _, _⟩ := h 0 h0
  refine ⟨g, off, rfl, hg, fun i hi => ?_, fun i hi => ?_⟩
  · obtain ⟨b, o, e, _, hc, _⟩ := h i hi
    injection e with e
    injection e with e1 e2
    subst e1 e2
    have := hc 1 (by decide)
    rw [← Nat.add_assoc] at this
    exact this
  · obtain ⟨b, o, e, _, _, hk⟩ := h i hi
    exact hk.2.1

set_option maxRecDepth 100000 in
set_option maxHeartbeats 4000000 in
theorem behind_nil (a : Option Addr) (cap : Nat) (at_ : Int) (w : World) :
    Calls Tryd.prog 13 #[.slice a 0 cap, .int .i64 at_] w fun e w' => e = .returned (.tuple #[.int .i64 0, .int .i64 1]) ∧ w' = w := by
  by_cases h1 : at_ < 0
  · go_enter Tryd.func13, Tryd.ntmps13
    go_wp2
    all_goals go_ret2
    all_goals exact ⟨rfl, rfl⟩
  · have h2 : 0 ≤ at_ := by omega
    clear h1
    go_enter Tryd.func13, Tryd.ntmps13
    go_wp2
    all_goals go_ret2
    all_goals exact ⟨rfl, rfl⟩

set_option maxRecDepth 100000 in
set_option maxHeartbeats 4000000 in
theorem rbehind_nil (a : Option Addr) (cap : Nat) (at_ : Int) (w : World) :
    Calls Tryd.prog 14 #[.slice a 0 cap, .int .i64 at_] w fun e w' => e = .returned (.tuple #[.int .i64 0, .int .i64 1]) ∧ w' = w := by
  by_cases h1 : at_ < 0
  · go_enter Tryd.func14, Tryd.ntmps14
    go_wp2
    all_goals go_ret2
    all_goals exact ⟨rfl, rfl⟩
  · have h2 : 0 ≤ at_ := by omega
    clear h1
    go_enter Tryd.func14, Tryd.ntmps14
    go_wp2
    all_goals go_ret2
    all_goals exact ⟨rfl, rfl⟩

/-- Both, of any list. -/
theorem behinds_any {w : World} {a : Option Addr} {L : List ANode} (h : NA w a L) (hl : L.length ≤ 500) (cap : Nat) (at_ : Int) (ha : -9223372036854775808 ≤ at_ ∧ at_ ≤ 9223372036854775807) :
    ∃ x y : Int, Calls Tryd.prog 13 #[.slice a L.length cap, .int .i64 at_] w (fun e w' => e = .returned (.tuple #[.int .i64 x, .int .i64 y]) ∧ w' = w) ∧
      Calls Tryd.prog 14 #[.slice a L.length cap, .int .i64 at_] w (fun e w' => e = .returned (.tuple #[.int .i64 x, .int .i64 y]) ∧ w' = w) := by
  by_cases h0 : L.length = 0
  · rw [h0]
    exact ⟨0, 1, behind_nil a cap at_ w, rbehind_nil a cap at_ w⟩
  · obtain ⟨g, off, rfl, hm⟩ := na_form h (by omega)
    exact ⟨_, _, behind_any g off cap L hl at_ ha w (.inr hm), rbehind_any g off cap L hl w (.inr hm) L.length at_ ha (by omega)⟩

end Go.Proofs.YtlcieebneclmpaaDoor

