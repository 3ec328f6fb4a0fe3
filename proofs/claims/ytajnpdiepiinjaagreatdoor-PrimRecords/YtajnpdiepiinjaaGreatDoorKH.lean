/- prim's keys: a record's keys as new strings, in a new array: the contract. -/
import Derived.Test.YtajnpdiepiinjaaGreatDoorKG
import Derived.Test.YtajnpdiepiinjaaGreatDoorPW
set_option linter.unusedSimpArgs false
set_option linter.unusedVariables false
namespace Go.Proofs.YtajnpdiepiinjaaGreatDoor
open Go Go.RowKit

/-- A text's bytes. -/
def nms (s : ByteArray) : List Int := s.data.toList.map fun u => (u.toNat : Int)
theorem nms_len (s : ByteArray) : (nms s).length = s.size := by simp [nms]
theorem nms_byte (s : ByteArray) : ∀ c ∈ nms s, 0 ≤ c ∧ c ≤ 255 := by
  intro c hc
  obtain ⟨u, _, rfl⟩ := List.mem_map.1 hc
  have := u.toNat_lt
  omega
theorem nms_str (s : ByteArray) : strOfNums (nms s) = s := by
  cases s
  simp [strOfNums, nms, List.map_map, Function.comp_def]

theorem by_str9 (w : World) (l : List Int) (hb : ∀ c ∈ l, 0 ≤ c ∧ c ≤ 255) (hl : l.length ≤ 1000000) :
    ∃ cap w', (convert 9 52 (.string (strOfNums l))).run Tryz.prog w = .ok (.slice (some ⟨w.heap.size, 0, none⟩) l.length cap) w' ∧ By w' (.slice (some ⟨w.heap.size, 0, none⟩) l.length cap) l ∧ Bw w w' := by
  refine ⟨_, _, by rw [← strOfNums_size l]; exact run_bytes_of_string w 9 52 5 (strOfNums l) under9 under22 under5, ?_, Bw.alloc (Bw.drew (Bw.refl w)) _⟩
  have hge := grownCap_ge w (strOfNums l).size 0 5
  rw [strOfNums_size] at hge
  refine ⟨⟨by simp, _, _, rfl, ⟨by rw [strOfNums_size]; omega, fun h => by cases h⟩, ?_⟩, hb, by omega⟩
  by_cases h0 : l.length = 0
  · exact .inl h0
  · refine .inr ⟨w.heap.size, 0, rfl, by simp, trivial, fun i hi => ?_⟩
    have hi' : i < l.length := by omega
    have hsz : i < (strOfNums l).data.size := by have := strOfNums_size l; show i < (strOfNums l).size; omega
    rw [Nat.zero_add]
    show (w.drew.alloc _).cell? ⟨w.drew.heap.size, i, none⟩ = _
    rw [World.cell?_alloc_mark, bytesRow_at _ _ _ hsz, List.getElem?_map, List.getElem?_eq_getElem hi']
    have hc := hb l[i] (List.getElem_mem hi')
    simp only [strOfNums, List.getElem_toArray, List.getElem_map, Option.map_some]
    rw [UInt8.toNat_ofNat_of_lt' (by show l[i].toNat < 256; omega)]
    congr 2
    omega

theorem own_blk {w : World} {base g n : Nat} {e : TypeId} {xs : List Value} (h : w.ownsRow base e 1 (.slice (some ⟨g, 0, none⟩) n n) n xs) : Blk w g xs.toArray e := by
  rcases h.2 with ⟨h1, _⟩ | ⟨g', cap, cur, h1, _, hg, _, _, hsz, ht⟩
  · cases h1
  · cases h1
    have hl : cur.toList = xs := by
      rw [← ht, List.take_of_length_le]
      rw [Array.length_toList, hsz]
      omega
    unfold Blk
    rw [hg, ← hl]
theorem made_u64 (n : Nat) : (madeCells (Value.int .u64 0).cells (n * 1)).toList = (List.replicate n (0 : Int)).map (Value.int .u64) := by
  unfold madeCells
  apply List.ext_getElem
  · simp
  · intro i h1 h2
    simp [Value.cells, Nat.mod_one]

theorem sl_blk {w : World} {g : Nat} {l : List Value} {e : TypeId} {n : Nat} (h : Blk w g l.toArray e) (hn : l.length = n) : Sl w (fun _ => True) (.slice (some ⟨g, 0, none⟩) n n) n 1 l :=
  ⟨by omega, _, n, rfl, ⟨Nat.le_refl _, fun h => by cases h⟩, .inr ⟨_, 0, rfl, h.lt, trivial, fun i hi => by rw [h.cell]; simp⟩⟩

theorem mk_str9 (H : AHeap) (b : List Int) (hb : b.length ≤ 65536) (hr : (H.2.length : Int) < H.1) : aMakeE H (oStr b) = 0 ∧ aMakeV H (oStr b) = 4 * (H.2.length : Int) + 2 ∧ aMakeH H (oStr b) = (H.1, H.2 ++ [oStr b]) := by
  have hp : pLong (oStr b) = false := by
    show decide ((65536 : Int) < (b.length : Int)) = false
    exact decide_eq_false (by omega)
  have hs : pSound H.2.length (oStr b) = true := by first | rfl | simp [pSound, oStr, AObj.vals, AObj.keys, AObj.num, AObj.kind]
  have he : aMakeE H (oStr b) = 0 := by
    unfold aMakeE
    rw [hp, hs]
    simp
    omega
  exact ⟨he, by unfold aMakeV; rw [he, if_pos rfl], by unfold aMakeH; rw [he, if_pos rfl]⟩

theorem gd_ref (n k : Nat) (h : k < n) (hn : n ≤ 100000) : gd n (4 * (k : Int) + 2) = true := by
  have hk : kd (4 * (k : Int) + 2) = 2 := by unfold kd; repeat' split
                                             all_goals omega
  have hi : idxV (4 * (k : Int) + 2) = k := by unfold idxV; rw [if_pos (.inl hk)]; omega
  simp [gd, hk, hi, h]

theorem mk_arr9 (H : AHeap) (l : List Int) (hl : l.length ≤ 65536) (hg : ∀ x ∈ l, gd H.2.length x = true) (hr : (H.2.length : Int) < H.1) : aMakeE H (oArr l) = 0 ∧ aMakeV H (oArr l) = 4 * (H.2.length : Int) + 2 ∧ aMakeH H (oArr l) = (H.1, H.2 ++ [oArr l]) := by
  have hp : pLong (oArr l) = false := by
    show decide ((65536 : Int) < (l.length : Int)) = false
    exact decide_eq_false (by omega)
  have hs : pSound H.2.length (oArr l) = true := by
    show l.all (gd H.2.length) = true
    exact List.all_eq_true.2 hg
  have he : aMakeE H (oArr l) = 0 := by
    unfold aMakeE
    rw [hp, hs]
    simp
    omega
  exact ⟨he, by unfold aMakeV; rw [he, if_pos rfl], by unfold aMakeH; rw [he, if_pos rfl]⟩

/-- The words of new objects from the n-th on. -/
def wds (n k : Nat) : List Int := (List.range k).map fun i => 4 * ((n + i : Nat) : Int) + 2
theorem wds_len (n k : Nat) : (wds n k).length = k := by simp [wds]
theorem wds_get (n k i : Nat) (h : i < k) : (wds n k).getD i 0 = 4 * ((n + i : Nat) : Int) + 2 := by
  rw [List.getD_eq_getElem?_getD]
  simp [wds, h]
theorem wds_set (n k i : Nat) (h : i < k) : (wds n i ++ List.replicate (k - i) (0 : Int)).set i (4 * ((n + i : Nat) : Int) + 2) = wds n (i + 1) ++ List.replicate (k - (i + 1)) 0 := by
  obtain ⟨j, hj⟩ : ∃ j, k - i = j + 1 := ⟨k - i - 1, by omega⟩
  rw [hj, show k - (i + 1) = j by omega, List.set_append, if_neg (by rw [wds_len]; omega), wds_len, Nat.sub_self, List.replicate_succ, List.set_cons_zero]
  unfold wds
  rw [List.range_succ, List.map_append, List.append_assoc]
  rfl

theorem fill_at9 (n k i : Nat) (h : i < k) : ((wds n i ++ List.replicate (k - i) (0 : Int)).map (Value.int .u64)).toArray[i]? = some (.int .u64 0) := by
  simp only [List.getElem?_toArray, List.getElem?_map]
  rw [List.getElem?_append_right (by rw [wds_len]; omega), wds_len, Nat.sub_self, List.getElem?_replicate, if_pos (by omega)]
  rfl

/-- What is carried through keys' second loop. -/
structure YI (w0 w : World) (b0 : Nat) (H : AHeap) (bs0 bs : List Nat) (g : Nat) (vn : Value) (ks : List ByteArray) (i : Nat) : Prop where
  hs : HS w b0 (H.1, H.2 ++ (ks.take i).map (fun s => oStr (nms s))) bs
  nx : Nx bs0 w0 w bs
  bk : Blk w g ((wds H.2.length i ++ List.replicate (ks.length - i) 0).map (Value.int .u64)).toArray 27
  gn : w0.heap.size ≤ g
  gb : g ∉ bs
  nm : w.ownsRow w0.heap.size 9 1 vn ks.length (ks.map Value.string)
  nb : ∀ b, vn.ownBlock = some b → b ∉ bs

theorem YI.next {w0 w w1 w2 : World} {b0 : Nat} {H : AHeap} {bs0 bs bs2 : List Nat} {g : Nat} {vn : Value} {ks : List ByteArray} {i : Nat} (h : YI w0 w b0 H bs0 bs g vn ks i) (hi : i < ks.length) (hb : Bw w w1)
    (hs : HS w2 b0 (H.1, (H.2 ++ (ks.take i).map (fun s => oStr (nms s))) ++ [oStr (nms ks[i])]) bs2) (hn : Nx bs w1 w2 bs2) :
    YI w0 (w2.setCell ⟨g, i, none⟩ (.int .u64 (4 * ((H.2.length + i : Nat) : Int) + 2))) b0 H bs0 bs2 g vn ks (i + 1) := by
  have hn2 : Nx bs w w2 bs2 := Bw.nxBefore hb hn
  have hgl := h.bk.lt
  have g2 : g ∉ bs2 := fun hm => (hn2.2 g hm).elim h.gb (fun hh => by omega)
  have hk : Blk w2 g _ 27 := h.bk.keep (hn2.1.block g hgl h.gb)
  have hst : Bw w2 w2 := Bw.refl _
  have hgs : w2.grownBy (w2.setCell ⟨g, i, none⟩ (.int .u64 (4 * ((H.2.length + i : Nat) : Int) + 2))) (some g) := grown_set w2 g i _
  have hN := h.nx.trans hn2
  have hsz : (w2.setCell ⟨g, i, none⟩ (.int .u64 (4 * ((H.2.length + i : Nat) : Int) + 2))).heap.size = w2.heap.size := by simp
  have hnm2 : w2.ownsRow w0.heap.size 9 1 vn ks.length (ks.map Value.string) := own_same h.nm (fun k hk => hn2.1.block k (own_lt h.nm hk) (h.nb k hk))
  refine ⟨?_, ⟨⟨hgs.os.trans hN.1.os, hgs.tape.trans hN.1.tape, hgs.output.trans hN.1.output, Nat.le_trans hN.1.size hgs.size, fun b hb hnb => ?_⟩, hN.2⟩, ?_, h.gn, g2, ?_, ?_⟩
  · rw [List.take_succ_eq_append_getElem hi, List.map_append, ← List.append_assoc]
    exact hs.grown hgs (fun k hk => by cases hk; exact g2)
  · rw [hgs.block b (Nat.lt_of_lt_of_le hb hN.1.size) (fun e => by have := h.gn; cases e; omega)]
    exact hN.1.block b hb hnb
  · have := hk.set i (.int .u64 (4 * ((H.2.length + i : Nat) : Int) + 2))
    rw [← wds_set _ _ _ hi, List.map_set]
    simpa using this
  · refine own_same hnm2 (fun k hk' => hgs.block k (own_lt hnm2 hk') (fun e => ?_))
    rcases own_not hnm2 hk (by decide) with h9 | h9
    · rw [h9] at hk'; cases hk'
    · rw [e] at hk'; exact h9 hk'
  · intro b e hm
    exact (hn2.2 b hm).elim (h.nb b e) (fun hh => by have := own_lt h.nm e; omega)

theorem list_nth {α : Type} (l : List α) (i : Nat) (h : i < l.length) : l.take i ++ [l[i]] = l.take (i + 1) := (List.take_succ_eq_append_getElem h).symm

section
variable {w w' : World}

set_option maxRecDepth 100000 in
set_option maxHeartbeats 4000000 in
theorem keys_any {b0 : Nat} {H : AHeap} {bs : List Nat} (r : Int) (hU : U r) (hp : HS w b0 H bs) (hk : kk H r = 3) (ks : List ByteArray) (hks : (ob H r).keys = ks) (hl : ∀ s ∈ ks, s.size ≤ 1000) (hn : ks.length ≤ 256) (hm : H.2.length ≤ 1000) (hr : (H.2.length : Int) + ks.length + 1 ≤ H.1) :
    Calls Tryz.prog 83 #[.pointer (some ⟨b0, 0, none⟩), .int .u64 r] w fun e w' => e = .returned (.tuple #[.int .u64 (4 * ((H.2.length + ks.length : Nat) : Int) + 2), .int .i64 0]) ∧ ∃ bs', HS w' b0 (H.1, (H.2 ++ ks.map (fun s => oStr (nms s))) ++ [oArr (wds H.2.length ks.length)]) bs' ∧ Nx bs w w' bs' := by
  have HC := hid (show Calls Tryz.prog 126 #[.pointer (some ⟨b0, 0, none⟩), .int .u64 r] w fun e w' => ∃ v, e = .returned (.tuple #[v, .int .i64 0]) ∧ w'.ownsRow w.heap.size 9 1 v ks.length (ks.map Value.string) ∧ Bw w w' by have := keys_yes r hU w hp hk; rwa [hks] at this)
  obtain ⟨i1, hi1, hz1, hs1, hy1⟩ := info_parts infoV
  have I1 := hid (And.intro hi1 (And.intro hz1 (And.intro hs1 hy1)))
  have HP := hid hp
  have HL := hid hl
  clear hi1 hz1 hs1 hy1 hp hk hks hl
  have hn2 : ks.length ≤ 9223372036854775807 := by omega
  go_enter Tryz.func83, Tryz.ntmps83
  go_wp2_with (first
    | (go_at_call 126; refine HC.out.mono ?_; rintro e w1 ⟨vn, rfl, ho1, hb1⟩; obtain ⟨an, cn, rfl⟩ := own_form ho1; have O1 := hid ho1; have B1 := hid hb1; clear ho1 hb1)
    | fail)
  go_loopw [26] (fun j wr => ∃ i, i ≤ ks.length ∧ j = .int .i64 (i : Nat) ∧ wr = w1) (fun j _ => ks.length - (intOf j).toNat)
  case atStart => exact ⟨0, Nat.zero_le _, rfl, rfl⟩
  case round =>
    obtain ⟨i, hi, rfl, hwr⟩ := hrel
    subst wr
    by_cases hlt : i < ks.length
    · have hlt2 : (i : Int) < (ks.length : Int) := by omega
      obtain ⟨bb, off, e, hbb, cb⟩ := (own_sl (G := fun _ => True) O1.out (fun _ _ => trivial)).at hlt
      cases e
      have c0 : w1.cell? ⟨bb, off + i, none⟩ = some (.string ks[i]) := by rw [cb]; simp [hlt]
      have hsz := HL.out _ (List.getElem_mem hlt)
      have bsz : decide ((65536 : Int) < (ks[i].size : Int)) = false := decide_eq_false (by omega)
      clear cb
      generalize ks[i] = s at c0 hsz bsz
      go_wp2
      go_roundw
      case rel => exact ⟨i + 1, by omega, by go_num, trivial⟩
      case measure => simp [intOf]; omega
    · obtain rfl : i = ks.length := by omega
      clear hlt hi
      go_wp2_with (first
        | (at_make; refine wpList_make_full _ rfl _ _ 61 rfl 0 27 i1 (.int .u64 0) 1 Tryz.underlying61 I1.out.1 I1.out.2.1 I1.out.2.2.1 _ _ _ _ ks.length rfl rfl rfl rfl (by rw [I1.out.2.2.2]; omega) (by unfold maxLen; omega) (Nat.zero_le _) ?_; intro w2 hown hgr; have HMK := hid hown; have HGR := hid hgr; clear hown hgr)
        | fail)
      have HY0 := hid (show YI w w2 b0 H bs bs w1.heap.size (.slice an ks.length cn) ks 0 from by
        have hb2 : Bw w1 w2 := Below.grown (Bw.refl w1) HGR.out (Nat.le_refl _) (fun k hk => by cases hk)
        have hbw : Bw w w2 := B1.out.trans hb2
        refine ⟨by simpa using HP.out.bw hbw, hbw.nx bs, ?_, B1.out.size, fun hm => ?_, own_bw O1.out hb2, fun b e hm => ?_⟩
        · have := own_blk HMK.out
          rw [made_u64] at this
          simpa [wds] using this
        · have := HP.out.lt hm
          have := B1.out.size
          omega
        · have := (O1.out.lt b e).1
          have := HP.out.lt hm
          omega)
      clear HMK HGR
      have HG := hid (Nat.le_refl w1.heap.size)
      obtain ⟨g, hg⟩ : ∃ g, w1.heap.size = g := ⟨_, rfl⟩
      rw [hg] at HY0 ⊢
      have HGE := hid hg
      clear hg HG
      go_loopw [39] (fun j wr => ∃ i bs', i ≤ ks.length ∧ j = .int .i64 (i : Nat) ∧ YI w wr b0 H bs bs' g (.slice an ks.length cn) ks i) (fun j _ => ks.length - (intOf j).toNat)
      case atStart => exact ⟨0, bs, Nat.zero_le _, rfl, HY0.out⟩
      case round =>
        obtain ⟨i, bs', hi, rfl, hyi⟩ := hrel
        clear HY0
        have HY := hid hyi
        by_cases hlt : i < ks.length
        · have hlt2 : (i : Int) < (ks.length : Int) := by omega
          obtain ⟨bb, off, e, hbb, cb⟩ := (own_sl (G := fun _ => True) hyi.nm (fun _ _ => trivial)).at hlt
          cases e
          have c0 : wr.cell? ⟨bb, off + i, none⟩ = some (.string ks[i]) := by rw [cb]; simp [hlt]
          have hsz := HL.out _ (List.getElem_mem hlt)
          have HNX := hid (fun (w1 w2 : World) (bs2 : List Nat) (hb : Bw wr w1) (hs : HS w2 b0 (H.1, (H.2 ++ (ks.take i).map (fun s => oStr (nms s))) ++ [oStr (nms ks[i])]) bs2) (hn : Nx bs' w1 w2 bs2) => hyi.next hlt hb hs hn)
          have hle : ((ks.take i).map (fun s => oStr (nms s))).length = i := by rw [List.length_map, List.length_take]; omega
          have HMS := hid (show aMakeE (H.1, H.2 ++ (ks.take i).map (fun s => oStr (nms s))) (oStr (nms ks[i])) = 0 ∧ aMakeV (H.1, H.2 ++ (ks.take i).map (fun s => oStr (nms s))) (oStr (nms ks[i])) = 4 * ((H.2.length + i : Nat) : Int) + 2 ∧ aMakeH (H.1, H.2 ++ (ks.take i).map (fun s => oStr (nms s))) (oStr (nms ks[i])) = (H.1, (H.2 ++ (ks.take i).map (fun s => oStr (nms s))) ++ [oStr (nms ks[i])]) from by
            have := mk_str9 (H.1, H.2 ++ (ks.take i).map (fun s => oStr (nms s))) (nms ks[i]) (by rw [nms_len]; omega) (by simp only [List.length_append, hle]; omega)
            simp only [List.length_append, hle] at this
            exact this)
          obtain ⟨cap, wc, hcv, hby, hbc⟩ := by_str9 wr (nms ks[i]) (nms_byte _) (by rw [nms_len]; omega)
          rw [nms_str] at hcv
          have HBY := hid hby
          have HBC := hid hbc
          have HHS := hid (hyi.hs.bw hbc)
          have HNL := hid (show (nms ks[i]).length ≤ 1000 by rw [nms_len]; omega)
          have HGB := hid hyi.gb
          have HGL := hid hyi.bk.lt
          have HBK := hid hyi.bk
          have HNB := hid (nms_byte ks[i])
          clear cb hle hby hbc hyi
          generalize ks[i] = s at c0 hcv HNX HMS HBY HNL hsz HNB
          generalize nms s = ns at hcv HNX HMS HBY HNL HNB
          go_wp2_with (first
            | (go_at_call 117; refine (newString_any (fun _ => True) _ ns HHS.out HBY.out.1 HNB.out (by have := HNL.out; omega)).mono ?_; rw [HMS.out.1, HMS.out.2.1, HMS.out.2.2, show mF 0 = 0 from rfl]; rintro e w4 ⟨rfl, bs4, hs4, hn4⟩; have HN4 := hid (HNX.out _ w4 bs4 HBC.out hs4 hn4); have hk4 : Blk w4 g _ 27 := (HBK.out.keep ((Bw.nxBefore HBC.out hn4).1.block g HGL.out HGB.out)); have c4 : w4.cell? ⟨g, i, none⟩ = some (.int .u64 0) := (by rw [hk4.cell]; exact fill_at9 _ _ _ hlt); have f4 := hk4.free; have l4 := hk4.lt; clear hs4 hn4 hk4)
            | fail)
          go_roundw
          case rel => exact ⟨i + 1, bs4, by omega, by go_num, HN4.out⟩
          case measure => simp [intOf]; omega
        · obtain rfl : i = ks.length := by omega
          have hs5 := hyi.hs
          rw [List.take_length] at hs5
          have HS5 := hid hs5
          have hbk := hyi.bk
          rw [Nat.sub_self, List.replicate_zero, List.append_nil] at hbk
          have HSL := hid (show Sl wr (fun _ => True) (.slice (some ⟨g, 0, none⟩) ks.length ks.length) (wds H.2.length ks.length).length 1 ((wds H.2.length ks.length).map (Value.int .u64)) from by rw [wds_len]; exact sl_blk hbk (by rw [List.length_map, wds_len]))
          have hle : (ks.map (fun s => oStr (nms s))).length = ks.length := List.length_map ..
          have HMA := hid (show aMakeE (H.1, H.2 ++ ks.map (fun s => oStr (nms s))) (oArr (wds H.2.length ks.length)) = 0 ∧ aMakeV (H.1, H.2 ++ ks.map (fun s => oStr (nms s))) (oArr (wds H.2.length ks.length)) = 4 * ((H.2.length + ks.length : Nat) : Int) + 2 ∧ aMakeH (H.1, H.2 ++ ks.map (fun s => oStr (nms s))) (oArr (wds H.2.length ks.length)) = (H.1, (H.2 ++ ks.map (fun s => oStr (nms s))) ++ [oArr (wds H.2.length ks.length)]) from by
            have := mk_arr9 (H.1, H.2 ++ ks.map (fun s => oStr (nms s))) (wds H.2.length ks.length) (by rw [wds_len]; omega) (fun x hx => by
              obtain ⟨q, hq, rfl⟩ := List.mem_map.1 hx
              have hq2 := List.mem_range.1 hq
              exact gd_ref _ (H.2.length + q) (by simp only [List.length_append, hle]; omega) (by simp only [List.length_append, hle]; omega)) (by simp only [List.length_append, hle]; omega)
            simp only [List.length_append, hle] at this
            exact this)
          have HUW := hid (show ∀ x ∈ wds H.2.length ks.length, U x from fun x hx => by
            obtain ⟨q, hq, rfl⟩ := List.mem_map.1 hx
            have hq2 := List.mem_range.1 hq
            unfold U
            omega)
          have HWL := hid (wds_len H.2.length ks.length)
          clear hlt hi hyi hs5 hbk hle
          go_wp2_with (first
            | (go_at_call 29; refine (arr_any (fun _ => True) _ (wds H.2.length ks.length) _ HS5.out HSL.out HUW.out (by rw [HWL.out]; omega)).mono ?_; rw [HMA.out.1, HMA.out.2.1, HMA.out.2.2]; rintro e w6 ⟨rfl, bs6, hs6, hn6⟩; have S6 := hid hs6; have N6 := hid (HY.out.nx.trans hn6); clear hs6 hn6)
            | (go_at_call 132; refine (madeFault_any _).mono ?_; rw [show mF 0 = 0 from rfl]; rintro e w' ⟨rfl, hw'⟩; subst w')
            | fail)
          all_goals go_ret2
          all_goals exact ⟨rfl, _, S6.out, N6.out⟩

end

end Go.Proofs.YtajnpdiepiinjaaGreatDoor
