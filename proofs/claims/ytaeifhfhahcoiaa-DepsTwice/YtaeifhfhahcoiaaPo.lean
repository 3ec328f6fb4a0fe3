/- Any calls of a registry that was made behind a world. -/
import Derived.Test.YtaeifhfhahcoiaaPn
set_option linter.unusedSimpArgs false
set_option linter.unusedVariables false
namespace Go.Proofs.Ytaeifhfhahcoiaa
open Go Go.RowKit

/-- A registry that was made behind the world w, with at most k versions. -/
structure MS (w wr : World) (p : Nat) (bs : List Nat) (F G : Nat) (rv : Value) (L : List (VV × Value)) (k : Nat) : Prop where
  bw : Bw w wr
  ds : DS wr p bs F G rv L
  new : ∀ x ∈ bs, w.heap.size ≤ x
  len : L.length ≤ k

section
variable {w wr w' : World} {p F G k : Nat} {bs bs' : List Nat} {rv rv' : Value} {L L' : List (VV × Value)}

theorem MS.next (h : MS w wr p bs F G rv L k) (hd : DS w' p bs' F G rv' L') (hn : Nx bs wr w' bs') {m : Nat} (hl : L'.length ≤ m) : MS w w' p bs' F G rv' L' m :=
  ⟨Bw.ex h.bw hn.ex h.new, hd, fun x hx => (hn.new x hx).elim (h.new x) (fun e => Nat.le_trans h.bw.size e), hl⟩
theorem MS.on (h : MS w wr p bs F G rv L k) (hb : Bw wr w') : MS w w' p bs F G rv L k := ⟨h.bw.trans hb, h.ds.bw hb, h.new, h.len⟩
theorem MS.more (h : MS w wr p bs F G rv L k) {m : Nat} (hm : k ≤ m) : MS w wr p bs F G rv L m := ⟨h.bw, h.ds, h.new, Nat.le_trans h.len hm⟩

theorem map_eq_len {L L' : List (VV × Value)} {K : List VV} (h : L'.map Prod.fst = K) : L'.length = K.length := by rw [← h]; simp

theorem addL_len (F G : Nat) (K : List VV) (f : Int) (l : List (Int × Int)) : (addL F G K f l).length ≤ K.length + 1 := by
  unfold addL
  split <;> simp

theorem AddM (h : MS w wr p bs F G rv L k) (hk : k < 1000) (hG : G ≤ 1024) (f : Int) {v : Value} {l : List (Int × Int)} (hs : Dl wr v l) (hm : l.length ≤ 1000) :
    Calls Try.prog 16 #[.pointer (some ⟨p, 0, none⟩), .int .i64 f, v] wr fun e w' => ∃ bs' rv' L', e = .returned (.tuple #[.int .i64 ((if addE F G (L.map Prod.fst) f l = 0 then L.length else 0 : Nat) : Int), .int .i64 (addE F G (L.map Prod.fst) f l)]) ∧ MS w w' p bs' F G rv' L' (k + 1) ∧ Nx bs wr w' bs' ∧ L'.map Prod.fst = addL F G (L.map Prod.fst) f l := by
  obtain ⟨a, c, rfl⟩ := hs.form
  refine (Add_any h.ds hG f l hs.1 hm (by have := h.len; omega)).mono fun e w' ⟨bs', rv', L', he, hd, hn, hl⟩ => ⟨bs', rv', L', he, h.next hd hn ?_, hn, hl⟩
  have := addL_len F G (L.map Prod.fst) f l
  rw [map_eq_len (L := L) hl]
  have := h.len
  simp at *
  omega

theorem wroteL_len (g v : Int) (K : List VV) : (wroteL g v K).length = K.length := by simp [wroteL]

/-- What a write tells, and leaves. -/
def wrI (G : Nat) (g v : Int) (K : List VV) : List Nat := if oneOf g G then all (hit g v) K else []
def wrL (G : Nat) (g v : Int) (K : List VV) : List VV := if oneOf g G then wroteL g v K else K
def wrE (G : Nat) (g : Int) : Int := if oneOf g G then 0 else 1
theorem wrL_len (G : Nat) (g v : Int) (K : List VV) : (wrL G g v K).length = K.length := by unfold wrL; split <;> simp [wroteL]

theorem WroteM (h : MS w wr p bs F G rv L k) (g v : Int) :
    Calls Try.prog 17 #[.pointer (some ⟨p, 0, none⟩), .int .i64 g, .int .u64 v] wr fun e w' => ∃ r L', e = .returned (.tuple #[r, .int .i64 (wrE G g)]) ∧ w'.ownsRow wr.heap.size 3 1 r (wrI G g v (L.map Prod.fst)).length (ints (wrI G g v (L.map Prod.fst))) ∧ MS w w' p bs F G rv L' k ∧ Nx bs wr w' bs ∧ L'.map Prod.fst = wrL G g v (L.map Prod.fst) := by
  unfold wrE wrI wrL
  cases h1 : oneOf g G
  · refine (Wrote_no h.ds g v h1).mono fun e w' ⟨he, hw⟩ => ?_
    subst hw
    exact ⟨_, L, he, World.ownsRow_nil _ _ _ _, h, Nx.refl _ _, rfl⟩
  · refine (Wrote_yes h.ds g v h1).mono fun e w' ⟨r, L', he, ho, hd, hn, hl⟩ => ⟨r, L', he, ho, h.next hd hn ?_, hn, hl⟩
    rw [map_eq_len (L := L) hl, wroteL_len]
    simpa using h.len

def drL (i : Int) (K : List VV) : List VV := if oneOf i K.length then K.modify i.toNat off else K
theorem drL_len (i : Int) (K : List VV) : (drL i K).length = K.length := by unfold drL; split <;> simp

theorem DropM (h : MS w wr p bs F G rv L k) (i : Int) :
    Calls Try.prog 21 #[.pointer (some ⟨p, 0, none⟩), .int .i64 i] wr fun e w' => ∃ L', e = .returned (.int .i64 (if oneOf i L.length then 0 else 1)) ∧ MS w w' p bs F G rv L' k ∧ Nx bs wr w' bs ∧ L'.map Prod.fst = drL i (L.map Prod.fst) := by
  have hll : (L.map Prod.fst).length = L.length := by simp
  refine (Drop_any h.ds i).mono fun e w' ⟨L', he, hd, hn, hl⟩ => ?_
  have hl2 : L'.map Prod.fst = drL i (L.map Prod.fst) := by unfold drL; rw [hll]; exact hl
  refine ⟨L', he, h.next hd hn ?_, hn, hl2⟩
  rw [map_eq_len (L := L) hl2, drL_len]
  simpa using h.len
end

theorem MS.made {w w1 : World} {p F G : Nat} (hd : DS w1 p [p] F G (.slice none 0 0) []) (hb : Bw w w1) (hp : w.heap.size ≤ p) : MS w w1 p [p] F G (.slice none 0 0) [] 0 := ⟨hb, hd, fun x hx => by simp at hx; subst hx; exact hp, by simp⟩

/-- Not more than is asked. -/
def Few (l : List AX) : Prop := l.length ≤ 60 ∧ ∀ x ∈ l, x.l.length ≤ 40
open Classical in
noncomputable def mchB (l : List AX) : Bool := !decide (Few l)
theorem mchB_few {l : List AX} (h : mchB l = false) : Few l := by simpa [mchB] using h
theorem mchB_no {l : List AX} (h : Few l) : mchB l = false := by simp [mchB, h]
theorem mchB_yes {l : List AX} (h : ¬ Few l) : mchB l = true := by simp [mchB, h]
def Mch (l : List AX) (e : Ending) : Prop := e = .returned (.bool (mchB l))
theorem Mch.yes {l : List AX} (h : ¬ Few l) : Mch l (.returned (.bool true)) := by unfold Mch; rw [mchB_yes h]
theorem Mch.no {l : List AX} (h : Few l) : Mch l (.returned (.bool false)) := by unfold Mch; rw [mchB_no h]

set_option maxRecDepth 100000 in
set_option maxHeartbeats 1000000 in
theorem much_any {w : World} {v : Value} {l : List AX} (h : Acts w v l) : Calls Try.prog 8 #[v] w fun e w' => Mch l e ∧ w' = w := by
  obtain ⟨a, c, rfl⟩ := h.form
  have HA := hid h
  clear h
  by_cases h6 : 60 < l.length
  · have h6' : (60 : Int) < (l.length : Int) := by omega
    go_enter Try.func8, Try.ntmps8
    go_wp2
    all_goals go_ret
    all_goals exact ⟨Mch.yes (fun h => by have := h.1; omega), rfl⟩
  · have h6' : ¬ (60 : Int) < (l.length : Int) := by omega
    go_enter Try.func8, Try.ntmps8
    go_wp2
    go_loopw [3] (fun j wr => ∃ (k : Nat), k ≤ l.length ∧ j = .int .i64 k ∧ wr = w ∧ ∀ x ∈ l.take k, x.l.length ≤ 40) (fun j _ => l.length - (intOf j).toNat)
    case atStart => exact ⟨0, by omega, rfl, rfl, fun x hx => by simp at hx⟩
    case round =>
      obtain ⟨k, hk, rfl, rfl, hx⟩ := hrel
      have HX := hid hx
      clear hx
      by_cases h4 : k < l.length
      · have h4' : (k : Int) < (l.length : Int) := by omega
        obtain ⟨b, o, e, hlb, x0, x1, x2, x3, hok⟩ := HA.out.at h4
        subst e
        have HT := hid (show l.take (k + 1) = l.take k ++ [l[k]] by rw [List.take_add_one, List.getElem?_eq_getElem h4]; rfl)
        obtain ⟨a1, c1, e1⟩ := hok.l.form
        obtain ⟨n1, hn1⟩ : ∃ n1, l[k].l.length = n1 := ⟨_, rfl⟩
        rw [hn1] at e1
        rw [e1] at x2
        have HN := hid hn1
        clear x0 x1 x3 hok e1 hn1
        by_cases h5 : 40 < n1
        · have h5' : (40 : Int) < (n1 : Int) := by omega
          go_wp2
          all_goals go_ret
          all_goals exact ⟨Mch.yes (fun h => by have := h.2 _ (List.getElem_mem h4); rw [HN.out] at this; omega), rfl⟩
        · have h5' : ¬ (40 : Int) < (n1 : Int) := by omega
          go_wp2
          go_roundw
          case rel => exact ⟨k + 1, by omega, by go_num, (by first | rfl | trivial), fun x hx => by
            rw [HT.out] at hx
            rcases List.mem_append.1 hx with hx | hx
            · exact HX.out x hx
            · rw [List.mem_singleton.1 hx, HN.out]; omega⟩
          case measure => simp [intOf]; omega
      · have h4' : ¬ (k : Int) < (l.length : Int) := by omega
        obtain rfl : k = l.length := by omega
        go_wp2
        all_goals go_ret
        all_goals exact ⟨Mch.no ⟨by omega, by have := HX.out; rwa [List.take_length] at this⟩, rfl⟩

/-- No write of v to g ends any of them. -/
def Calm (g v : Int) (K : List VV) : Prop := ∀ x ∈ K, hit g v x = false
theorem hit_off (g v : Int) (x : VV) : hit g v (off x) = false := by simp [hit, off]
theorem calm_wrote (g v : Int) (K : List VV) : Calm g v (wroteL g v K) := by
  intro x hx
  unfold wroteL at hx
  obtain ⟨y, hy, rfl⟩ := List.mem_map.1 hx
  cases h : hit g v y
  · simp [h]
  · simp [hit_off]
theorem calm_drop {g v : Int} {K : List VV} (h : Calm g v K) (i : Int) : Calm g v (drL i K) := by
  unfold drL
  split
  · intro x hx
    obtain ⟨j, hj, rfl⟩ := List.getElem_of_mem hx
    rw [List.getElem_modify]
    have hj2 : j < K.length := by simpa using hj
    split
    · exact hit_off _ _ _
    · exact h _ (List.getElem_mem hj2)
  · exact h
theorem calm_all {g v : Int} {K : List VV} (h : Calm g v K) : all (hit g v) K = [] := by
  rw [List.eq_nil_iff_forall_not_mem]
  intro i hi
  obtain ⟨x, hx, hp⟩ := mem_all.1 hi
  rw [h x (List.mem_of_getElem? hx)] at hp
  cases hp

/-- The places of those that are meant go up. -/
theorem idx_up {P : VV → Bool} {K : List VV} : ∀ (k : Nat), (idx P K k).Pairwise (· < ·)
  | 0 => by simp [idx]
  | k + 1 => by
    unfold idx
    rw [List.pairwise_append]
    refine ⟨idx_up k, ?_, ?_⟩
    · split
      · split <;> simp
      · simp
    · intro a ha b hb
      have := (mem_idx.1 ha).1
      split at hb
      · split at hb
        · simp at hb; omega
        · simp at hb
      · simp at hb

theorem validL_wrote {g v : Int} {K : List VV} {i : Nat} (h : i ∈ all (hit g v) K) : validL (wroteL g v K) i = false := by
  obtain ⟨x, hx, hp⟩ := mem_all.1 h
  have hlt := (List.getElem?_eq_some_iff.1 hx).1
  unfold validL wroteL
  simp [hx, hp, off]
theorem validL_drop {K : List VV} {i : Int} (j : Nat) (h : validL K j = false) : validL (drL i K) j = false := by
  unfold drL
  split
  · unfold validL at *
    rw [List.length_modify, List.getElem?_modify]
    cases hk : K[(j : Int).toNat]? with
    | none => simp
    | some x =>
      rw [hk] at h
      simp only [Option.map_eq_map, Option.map_some] at h ⊢
      by_cases e : i.toNat = (j : Int).toNat
      · rw [if_pos e]; simp [off]
      · rw [if_neg e]; exact h
  · exact h

/-- While those that a write ended are dropped once more. -/
structure DT (w wr : World) (p : Nat) (bs : List Nat) (F G : Nat) (rv : Value) (L : List (VV × Value)) (k : Nat) (g v : Int) (J : List Nat) (r : Value) : Prop where
  ms : MS w wr p bs F G rv L k
  own : ∃ base, wr.ownsRow base 3 1 r J.length (ints J) ∧ ∀ b ∈ bs, b < base
  calm : Calm g v (L.map Prod.fst)
  dead : ∀ i ∈ J, validL (L.map Prod.fst) (i : Nat) = false
  have_ : ∀ i ∈ J, i < L.length

theorem DT.made {w wr w1 : World} {p F G k : Nat} {bs : List Nat} {rv r : Value} {L L1 : List (VV × Value)} {g v : Int} {J : List Nat} (h0 : MS w wr p bs F G rv L k) (h : MS w w1 p bs F G rv L1 k) (ho : w1.ownsRow wr.heap.size 3 1 r J.length (ints J)) (hl : L1.map Prod.fst = wroteL g v (L.map Prod.fst))
    (hv : ∀ i ∈ J, validL (wroteL g v (L.map Prod.fst)) (i : Nat) = false) (hj : ∀ i ∈ J, i < (L.map Prod.fst).length) : DT w w1 p bs F G rv L1 k g v J r :=
  ⟨h, ⟨_, ho, fun b hb => h0.ds.lt b hb⟩, by rw [hl]; exact calm_wrote _ _ _, by rw [hl]; exact hv, fun i hi => by
    have := hj i hi
    rw [map_eq_len (L := L) hl, wroteL_len]
    exact this⟩
theorem DT.drop {w wr w' : World} {p F G k : Nat} {bs : List Nat} {rv r : Value} {L L' : List (VV × Value)} {g v : Int} {J : List Nat} (h : DT w wr p bs F G rv L k g v J r) (hm : MS w w' p bs F G rv L' k) (hn : Nx bs wr w' bs) (i : Int) (hl : L'.map Prod.fst = drL i (L.map Prod.fst)) : DT w w' p bs F G rv L' k g v J r := by
  obtain ⟨base, ho, hb⟩ := h.own
  refine ⟨hm, ⟨base, own_ex ho hn.ex hb, hb⟩, by rw [hl]; exact calm_drop h.calm i, fun j hj => by rw [hl]; exact validL_drop j (h.dead j hj), fun j hj => ?_⟩
  rw [map_eq_len (L := L) hl, drL_len]
  simpa using h.have_ j hj
theorem DT.on {w wr w' : World} {p F G k : Nat} {bs : List Nat} {rv r : Value} {L : List (VV × Value)} {g v : Int} {J : List Nat} (h : DT w wr p bs F G rv L k g v J r) (hb : Bw wr w') : DT w w' p bs F G rv L k g v J r := by
  obtain ⟨base, ho, hb2⟩ := h.own
  exact ⟨h.ms.on hb, ⟨base, own_bw ho hb, hb2⟩, h.calm, h.dead, h.have_⟩
theorem DT.cell {w wr : World} {p F G k : Nat} {bs : List Nat} {rv : Value} {ar : Option Addr} {cr : Nat} {L : List (VV × Value)} {g v : Int} {J : List Nat} (h : DT w wr p bs F G rv L k g v J (.slice ar J.length cr)) (hj : J.length ≠ 0) : ∃ b, ar = some ⟨b, 0, none⟩ ∧ b < wr.heap.size ∧ ∀ i (hi : i < J.length), wr.cell? ⟨b, i, none⟩ = some (.int .i64 (J[i] : Nat)) := by
  obtain ⟨base, ho, hb2⟩ := h.own
  obtain ⟨b, cap, cur, e, _, hbk, hc1, hc2, hsz, ht⟩ := own_parts ho hj
  cases e
  refine ⟨b, rfl, hbk.lt, fun i hi => ?_⟩
  rw [hbk.cell]
  have := congrArg (·[i]?) ht
  simp only [List.getElem?_take] at this
  rw [if_pos (by omega)] at this
  simpa [ints, hi] using this

end Go.Proofs.Ytaeifhfhahcoiaa
