/- A part written out as nodes: contract. -/
import Derived.Test.YtlcieebneclmpaaDoorK4
set_option linter.unusedSimpArgs false
set_option linter.unusedVariables false
namespace Go.Proofs.YtlcieebneclmpaaDoor
open Go Go.RowKit

theorem infoN : (Tryd.prog.info? 38).map (fun i => (i.zero, i.size, i.bytes)) = some (some (.agg #[.int .i64 0, .int .i64 0, .string ⟨#[]⟩, .int .i64 0, .int .i64 0]), 5, 48) := by kernel_rfl
theorem underNs : Tryd.prog.underlying 22 = some (.slice 38) := by kernel_rfl

/-- A node's cells. -/
def ndV (n : ANode) : List Value := [.int .i64 n.1, .int .i64 n.2.1, .string (strOfNums n.2.2.1), .int .i64 n.2.2.2.1, .int .i64 n.2.2.2.2]

/-- Nodes in a row that the call owns. -/
def Nd (w : World) (base : Nat) (v : Value) (l : List ANode) : Prop := w.ownsRow base 38 5 v l.length (l.flatMap ndV)

mutual
def Prt.size : Prt → Nat
  | .mk _ _ _ _ ks => 1 + sizes ks
def sizes : List Prt → Nat
  | [] => 0
  | p :: r => p.size + sizes r
end

mutual
theorem flat_len : ∀ p : Prt, p.flat.length = p.size
  | .mk k x n a ks => by
    rw [Prt.flat, Prt.size, List.length_cons, flats_len ks]; omega
theorem flats_len : ∀ l : List Prt, (flats l).length = sizes l
  | [] => rfl
  | p :: r => by rw [flats, sizes, List.length_append, flat_len p, flats_len r]
end

theorem ndV_one (n : ANode) : ∀ u ∈ ndV n, u.oneCell' = true := by
  intro u hu
  simp only [ndV, List.mem_cons, List.not_mem_nil, or_false] at hu
  rcases hu with rfl | rfl | rfl | rfl | rfl <;> rfl

theorem node_new (w : World) (m : Nat) (hm : w.heap.size = m) (n : ANode) (e : TypeId) : ∀ j u, (ndV n)[j]? = some u → (w.alloc (.cells (ndV n).toArray e)).cell? (Addr.add ⟨m, 0, none⟩ j) = some u := by
  subst hm
  intro j u hu
  have h := (Blk.new w (ndV n).toArray e).cell j
  have e1 : (Addr.add ⟨w.heap.size, 0, none⟩ j) = ⟨w.heap.size, j, none⟩ := by
    unfold Addr.add
    split
    · rename_i h0; subst h0; rfl
    · simp
  rw [e1, h]
  simpa using hu

/-- What writing a part out promises. -/
def ApP (p : Prt) : Prop := ∀ (w : World) (S : Nat → Prop) (b base : Nat) (v : Value) (l : List ANode), PtM w S p b → Nd w base v l → base ≤ w.heap.size → (∀ n, S n → n < base) → l.length + p.size ≤ 100000 →
  Calls Tryd.prog 28 #[.pointer (some ⟨b, 0, none⟩), v] w fun e w' => ∃ v', e = .returned v' ∧ Nd w' base v' (l ++ p.flat) ∧ Below base w w'

theorem PtsM.get {w : World} {S : Nat → Prop} : ∀ {l : List Prt} {bs : List Nat}, PtsM w S l bs → ∀ (k : Nat) (hk : k < l.length), ∃ b, bs[k]? = some b ∧ PtM w S l[k] b
  | [], bs, h, k, hk => by simp at hk
  | p :: r, bs, h, k, hk => by
    obtain ⟨b, t, e, h1, h2⟩ := h
    subst e
    cases k with
    | zero => exact ⟨b, rfl, h1⟩
    | succ k =>
      obtain ⟨c, h3, h4⟩ := PtsM.get h2 k (by simpa using hk)
      exact ⟨c, by simpa using h3, h4⟩

theorem flats_snoc (l : List Prt) (p : Prt) : flats (l ++ [p]) = flats l ++ p.flat := by
  induction l with
  | nil => simp [flats]
  | cons q r ih => simp [flats, ih, List.append_assoc]

theorem sizes_take (l : List Prt) (k : Nat) (hk : k < l.length) : sizes (l.take k) + l[k].size ≤ sizes l := by
  induction l generalizing k with
  | nil => simp at hk
  | cons q r ih =>
    cases k with
    | zero => simp [sizes]
    | succ k =>
      have := ih k (by simpa using hk)
      simp [sizes] at this ⊢
      omega

theorem sizes_ge (l : List Prt) : l.length ≤ sizes l := by
  induction l with
  | nil => simp [sizes]
  | cons q r ih =>
    have : 1 ≤ q.size := by cases q; simp [Prt.size]
    simp [sizes]
    omega

theorem below_keep {base : Nat} {w w' : World} {S : Nat → Prop} (hb : Below base w w') (hS : ∀ n, S n → n < base) {p : Prt} {b : Nat} (h : PtM w S p b) : PtM w' S p b :=
  PtM.keep (fun n hn _ => hb.block n (hS n hn)) (fun n hn _ => hn) _ _ h

set_option maxRecDepth 100000 in
set_option maxHeartbeats 8000000 in
theorem append_step (k : Int) (x : List Int) (n a : Int) (ks : List Prt) (ih : ∀ y ∈ ks, ApP y) : ApP (.mk k x n a ks) := by
  intro w S b base v l hp hn hb hS hlen
  obtain ⟨hSb, pv, bs, hk, hrow, hks⟩ := hp
  have HSB := hid hSb
  clear hSb
  have hl := hks.len
  obtain ⟨ap, cp, rfl⟩ := own_form hrow.1
  obtain ⟨av, cv, rfl⟩ := own_form hn
  have HIH := hid ih
  have HN := hid hn
  have HSS := hid hS
  have HROW := hid hrow
  have HKS := hid hks
  have HK := hid hk
  have hbl := hk.lt
  have z : ∀ j, w.cell? ⟨b, j, none⟩ = #[.int .i64 k, .int .i64 0, .string (strOfNums x), .int .i64 n, .int .i64 a, .slice ap ks.length cp][j]? := fun j => by rw [← hl]; exact hk.cell j
  have HROW := hid (show RowM w S (.slice ap ks.length cp) bs by rw [← hl]; exact hrow)
  have HK := hid (show Blk w b (prtC k x n a (.slice ap ks.length cp)) 83 by rw [← hl]; exact hk)
  have HL := hid hl
  have hlen2 : l.length + (1 + sizes ks) ≤ 100000 := hlen
  have HBA := hid hb
  obtain ⟨i1, hi1, hz1, hs1, hy1⟩ := info_parts infoN
  have I1 := hid (And.intro hi1 (And.intro hz1 (And.intro hs1 hy1)))
  have HLN := hid hlen2
  have hkl : ks.length ≤ 100000 := by have := sizes_ge ks; omega
  clear hi1 hz1 hs1 hy1 ih hn hS hrow hks hk hlen hlen2 hl
  go_enter Tryd.func28, Tryd.ntmps28
  go_wp2_with (first
    | (at_builtin; refine wpList_append_own _ rfl _ _ 22 rfl base 38 i1 _ 5 48 underNs I1.out.1 I1.out.2.1 I1.out.2.2.1 I1.out.2.2.2 rfl (by decide) (.slice av l.length cv) l.length (l.flatMap ndV) rfl (own_keep HN.out (fun q hq => (show Bw w _ from (by repeat (first | exact Bw.refl _ | apply Bw.alloc | apply Bw.drewN | apply Bw.drew))).block q (own_lt' HN.out hq))) ⟨w.heap.size + 1, 0, none⟩ 1 1 (ndV (k, (ks.length : Int), x, n, a)) rfl rfl (node_new _ (w.heap.size + 1) (by simp) (k, (ks.length : Int), x, n, a) _) (ndV_one _) (by have := HLN.out; unfold maxLen; omega) (by have := HLN.out; omega) (by have := HBA.out; simp; omega) ?_; intro v4 w4 ho4 hg4 _; obtain ⟨a4, c4, e4⟩ := own_form ho4; subst e4; have HN4 := hid ho4; have HB4 := hid (Below.grown (show Below base w _ from Below.mono (show Bw w _ from (by repeat (first | exact Bw.refl _ | apply Bw.alloc | apply Bw.drewN | apply Bw.drew))) HBA.out) hg4 (by have := HBA.out; simp; omega) (fun q hq => (HN.out.lt q hq).1)); have x5 := (HK.out.keep (HB4.out.block b (HSS.out b HSB.out))).cell; unfold prtC at x5; have xl := (HK.out.keep (HB4.out.block b (HSS.out b HSB.out))).lt; clear ho4 hg4)
    | fail)
  go_loopw [1, 27] (fun v j wr => ∃ (q : Nat) (a5 : Option Addr) (N c5 : Nat), q ≤ ks.length ∧ j = .int .i64 q ∧ v = .slice a5 N c5 ∧ Nd wr base (.slice a5 N c5) (l ++ [(k, (ks.length : Int), x, n, a)] ++ flats (ks.take q)) ∧ Below base w wr) (fun _ j _ => ks.length - (intOf j).toNat)
  case atStart => exact ⟨0, a4, _, c4, Nat.zero_le _, rfl, rfl, by simpa [Nd, flats] using HN4.out, HB4.out⟩
  case round =>
    clear x5 xl
    obtain ⟨q, a5, N, c5, hq, rfl, rfl, hn5, hb5⟩ := hrel
    rename World => wr
    have HN5 := hid hn5
    have HB5 := hid hb5
    clear hn5 hb5
    by_cases hlt : q < ks.length
    · obtain ⟨bq, hbq, hpq⟩ := HKS.out.get q hlt
      have hp5 := below_keep HB5.out HSS.out hpq
      have HP5 := hid hp5
      have h0 : (0 : Int) ≤ (q : Int) := by omega
      have h1 : (q : Int) < (ks.length : Int) := by omega
      obtain ⟨gr, hgr, hgl, hgc⟩ : ∃ gr, ap = some ⟨gr, 0, none⟩ ∧ gr < wr.heap.size ∧ wr.cell? ⟨gr, q, none⟩ = some (.pointer (some ⟨bq, 0, none⟩)) := by
        rcases HROW.out.1.2 with ⟨e, _⟩ | ⟨g', cap', cur, e, _, hg', hn', _, hs', ht'⟩
        · simp only [Value.slice.injEq] at e; omega
        · simp only [Value.slice.injEq] at e
          have hS' : S g' := HROW.out.2 g' (by rw [e.1]; rfl)
          have hblk := (HB5.out.block g' (HSS.out g' hS')).trans hg'
          refine ⟨g', e.1, (Array.getElem?_eq_some_iff.1 hblk).1, ?_⟩
          rw [cell_of_row wr g' q cur _ (0, 0) hblk]
          have hqb : q < bs.length := by have := HL.out; omega
          have := congrArg (·[q]?) ht'
          simp only [List.getElem?_take, Nat.mul_one] at this
          rw [if_pos hqb] at this
          simpa [hbq] using this
      subst hgr
      have HLE := hid (sizes_take ks q hlt)
      have HL5 := hid (show (l ++ [(k, (ks.length : Int), x, n, a)] ++ flats (ks.take q)).length + (ks[q]).size ≤ 100000 by have := sizes_take ks q hlt; have := HLN.out; simp [flats_len]; omega)
      have HAY := hid (HIH.out (ks[q]) (List.getElem_mem hlt) wr S bq base (.slice a5 N c5) (l ++ [(k, (ks.length : Int), x, n, a)] ++ flats (ks.take q)) HP5.out HN5.out (Nat.le_trans HBA.out HB5.out.size) HSS.out HL5.out)
      clear hpq hp5 hbq
      go_wp2_with (first
        | (go_at_call 28; refine HAY.out.mono ?_; rintro e w6 ⟨v6, rfl, hn6, hb6⟩; obtain ⟨a6, N6, c6, e6⟩ : ∃ a N c, v6 = .slice a N c := (by obtain ⟨a, c, e⟩ := own_form hn6; exact ⟨a, _, c, e⟩); subst e6; have HN6 := hid hn6; have HB6 := hid (HB5.out.trans hb6); clear hn6 hb6)
        | fail)
      go_roundw
      case rel =>
        have e7 : l ++ [(k, (ks.length : Int), x, n, a)] ++ flats (ks.take (q + 1)) = l ++ [(k, (ks.length : Int), x, n, a)] ++ flats (ks.take q) ++ (ks[q]).flat := by
          rw [List.take_succ_eq_append_getElem hlt, flats_snoc]; simp
        refine ⟨q + 1, a6, N6, c6, by omega, by go_num, rfl, ?_, HB6.out⟩
        rw [e7]; exact HN6.out
      case measure => simp [intOf]; omega
    · obtain rfl : q = ks.length := by omega
      go_wp2
      all_goals go_ret
      all_goals
        have e8 : l ++ (Prt.mk k x n a ks).flat = l ++ [(k, (ks.length : Int), x, n, a)] ++ flats (ks.take ks.length) := by rw [List.take_length, Prt.flat]; simp
        rw [e8]
        exact ⟨_, rfl, HN5.out, HB5.out⟩

mutual
theorem append_any : ∀ p : Prt, ApP p
  | .mk k x n a ks => append_step k x n a ks (append_all ks)
theorem append_all : ∀ (l : List Prt) (y : Prt), y ∈ l → ApP y
  | [], y, h => by simp at h
  | p :: r, y, h => by
    rcases List.mem_cons.1 h with h | h
    · rw [h]; exact append_any p
    · exact append_all r y h
end

end Go.Proofs.YtlcieebneclmpaaDoor

