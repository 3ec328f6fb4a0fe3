/- append to a row that one owns: the row stays where it is, or is new. Nothing of the program is in it. · The resolver: declareGlobal, set. -/
import Derived.Test.YtdhkcdehedbpcaaDoorM2
import Derived.ArgAppend
import Derived.Laws.AppendOwnNone
import Derived.Deep.RegionLaw
import Derived.Test.YtdhkcdehedbpcaaDoorM27
set_option linter.unusedSimpArgs false
set_option linter.unusedVariables false
namespace Go.Proofs.YtdhkcdehedbpcaaDoor
open Go Go.RowKit

theorem run_append_row {P : Program} (w : World) (t ty e : TypeId) (i : TypeInfo) (z : Value) (size bytes : Nat) (ht : P.underlying t = some (.slice e)) (hi : P.info? e = some i) (hz : i.zero = some z)
    (hsize : i.size = size) (hby : i.bytes = bytes) (hzs : z.cells.size = size) (hsz : 0 < size)
    (v : Value) (n : Nat) (xs : List Value) (hown : w.ownsRow 0 e size v n xs)
    (ad : Addr) (m c : Nat) (news : List Value) (hl : news.length = m * size) (hnews : ∀ j u, news[j]? = some u → w.cell? (ad.add j) = some u) (h1 : ∀ u ∈ news, u.oneCell' = true)
    (h63 : n + m ≤ maxLen) (hbytes : (n + m) * bytes ≤ 140737488355328) :
    ∃ v' w', (Builtin.append_ #[t, t] ty #[v, .slice (some ad) m c]).run P w = .ok v' w' ∧ w'.ownsRow 0 e size v' (n + m) (xs ++ news) ∧ w.grownBy w' v.ownBlock ∧
      (v'.ownBlock = v.ownBlock ∨ ∀ k, v'.ownBlock = some k → w.heap.size ≤ k) := by
  have hown' := hown
  rcases hown'.2 with ⟨rfl, rfl⟩ | ⟨g, cap, cur, rfl, hb, hg, hnc, hm, hs, htake⟩
  · have hx : xs = [] := List.eq_nil_of_length_eq_zero (by simpa using hown.1)
    subst hx
    obtain ⟨v', w', hrun, r1, r2, _⟩ := run_append_own (P := P) w w.heap.size t ty e i z size bytes ht hi hz hsize hby hzs hsz (.slice none 0 0) 0 [] (World.ownsRow_nil w _ e size) ad m c news hl hnews h1 h63 hbytes (Nat.le_refl _)
    exact ⟨v', w', hrun, own_base r1 (Nat.zero_le _), r2, .inr (fun k hk => (r1.lt k hk).1)⟩
  · by_cases hroom : n + m ≤ cap
    · obtain ⟨w', hrun, r1, r2⟩ := run_append_fits (P := P) w 0 t ty e i size ht hi hsize g n cap xs hown ad m c news hl hnews h1 hroom
      exact ⟨_, w', hrun, r1, r2, .inl rfl⟩
    · obtain ⟨v', w', hrun, r1, r2⟩ := run_append_arg_grows (P := P) w t ty e i z size bytes ht hi hz hsize hby hzs hsz ⟨g, 0, none⟩ n cap xs hown.1 (hown.cells rfl) ad m c news hl hnews (by omega) h63 hbytes
      exact ⟨v', w', hrun, own_base r1 (Nat.zero_le _), ⟨r2.os, r2.tape, r2.output, r2.size, fun k hk _ => r2.block k hk (by simp)⟩, .inr (fun k hk => (r1.lt k hk).1)⟩

theorem step_append_row {P : Program} {ops : Array Oper} {o : Oper} {a : Act} {w : World} {K : Act → World → Prop} {Q : Exit → Act → World → Prop} {E : Prop}
    (hgd : o.guard = none) (s x : Operand) (t : TypeId) (ho : o.op = Op.call { callee := Callee.builtin Builtin.append, args := #[s, x], argTypes := #[t, t] })
    (e : TypeId) (i : TypeInfo) (z : Value) (size bytes : Nat) (ht : P.underlying t = some (.slice e)) (hi : P.info? e = some i) (hz : i.zero = some z)
    (hsize : i.size = size) (hby : i.bytes = bytes) (hzs : z.cells.size = size) (hsz : 0 < size)
    (v : Value) (n : Nat) (xs : List Value) (hs : a.eval s = v) (hown : w.ownsRow 0 e size v n xs)
    (ad : Addr) (m c : Nat) (news : List Value) (hx : a.eval x = .slice (some ad) m c) (hl : news.length = m * size) (hnews : ∀ j u, news[j]? = some u → w.cell? (ad.add j) = some u) (h1 : ∀ u ∈ news, u.oneCell' = true)
    (h63 : n + m ≤ maxLen) (hbytes : (n + m) * bytes ≤ 140737488355328)
    (h : ∀ v' w', w'.ownsRow 0 e size v' (n + m) (xs ++ news) → w.grownBy w' v.ownBlock → (v'.ownBlock = v.ownBlock ∨ ∀ k, v'.ownBlock = some k → w.heap.size ≤ k) → K (a.put o.dst v') w') :
    if Region.wanted o (yielded ops a.tmps) = true then Oper.wp P o a w K Q else E := by
  have hw : Region.wanted o (yielded ops a.tmps) = true := by simp [Region.wanted, hgd]
  rw [if_pos hw]
  obtain ⟨v', w', hr, h2, h3, h4⟩ := run_append_row (P := P) w t o.type e i z size bytes ht hi hz hsize hby hzs hsz v n xs hown ad m c news hl hnews h1 h63 hbytes
  unfold Oper.wp execOp
  simp only [ho, resolve, invoke, builtin, Sem.run_bind, Sem.run_pure, Result.andThen_ok, List.map_toArray, List.map_cons, List.map_nil, hs, hx, hr]
  exact h v' w' h2 h3 h4

theorem wpList_append_row {P : Program} (w : World) {ops : Array Oper} {rest : List Oper} {o : Oper} {a : Act} {Q : Exit → Act → World → Prop}
    (hgd : o.guard = none) (s x : Operand) (t : TypeId) (ho : o.op = Op.call { callee := Callee.builtin Builtin.append, args := #[s, x], argTypes := #[t, t] })
    (e : TypeId) (i : TypeInfo) (z : Value) (size bytes : Nat) (ht : P.underlying t = some (.slice e)) (hi : P.info? e = some i) (hz : i.zero = some z)
    (hsize : i.size = size) (hby : i.bytes = bytes) (hzs : z.cells.size = size) (hsz : 0 < size)
    (v : Value) (n : Nat) (xs : List Value) (hs : a.eval s = v) (hown : w.ownsRow 0 e size v n xs)
    (ad : Addr) (m c : Nat) (news : List Value) (hx : a.eval x = .slice (some ad) m c) (hl : news.length = m * size) (hnews : ∀ j u, news[j]? = some u → w.cell? (ad.add j) = some u) (h1 : ∀ u ∈ news, u.oneCell' = true)
    (h63 : n + m ≤ maxLen) (hbytes : (n + m) * bytes ≤ 140737488355328)
    (h : ∀ v' w', w'.ownsRow 0 e size v' (n + m) (xs ++ news) → w.grownBy w' v.ownBlock → (v'.ownBlock = v.ownBlock ∨ ∀ k, v'.ownBlock = some k → w.heap.size ≤ k) → wpList P ops Q rest (a.put o.dst v') w') :
    wpList P ops Q (o :: rest) a w := by
  refine wpList_plain hgd fun K hK' => ?_
  obtain ⟨v', w', hrun, r1, r2, r3⟩ := run_append_row (P := P) w t o.type e i z size bytes ht hi hz hsize hby hzs hsz v n xs hown ad m c news hl hnews h1 h63 hbytes
  unfold Oper.wp
  simp [execOp, ho, resolve, invoke, builtin, hs, hx, hrun, Result.andThen]
  exact hK' _ _ (h v' w' r1 r2 r3)

end Go.Proofs.YtdhkcdehedbpcaaDoor

set_option linter.unusedSimpArgs false
set_option linter.unusedVariables false
namespace Go.Proofs.YtdhkcdehedbpcaaDoor
open Go Go.RowKit
section
variable {w : World} {X : ZX} {z : ZS} {B : ZB}

theorem Zp.self {w' : World} {z' : ZS} (h : RS w' X z' B) (k : NX B.ρ w w' B.ρ) : Zp w X B z' w' := ⟨B, h, k⟩
theorem ahead_get {A : ByteArray → Option Int} {D : DataW Unit} (hD : SmD D A) {t : ByteArray} {c : Int} (h : D.atKey (.string t.data.toList) (.lit (.int .i64 0)) = .lit (.int .i64 c)) : c = (A t).getD 0 := by
  cases ha : A t with
  | none =>
    rw [Maps.atKey_of_not_has (by rw [hD.has, ha]; rfl)] at h
    cases h; rfl
  | some x =>
    rw [hD.at_ t x ha] at h
    cases h; rfl

theorem undSs8 : Tryd.prog.underlying 29 = some (.slice 9) := by kernel_rfl

set_option maxRecDepth 100000 in
set_option maxHeartbeats 4000000 in
theorem declareGlobal_any (h : RS w X z B) (i : Nat) (hi : i < X.L.length) : Calls Tryd.prog 98 #[.pointer (some ⟨X.r, 0, none⟩), .int .i64 i] w fun e' w' => e' = .returned (.tuple #[]) ∧ Zp w X B (zglobal X.L X.A z i) w' := by
  obtain ⟨ub, uc, u, hu1, hue, c6, u0, u1, hul, huf, huρ, hune⟩ := h.us hi
  obtain ⟨ct, htm⟩ := h.x.nc.1.text hi
  have cn : w.cell? ⟨X.r, 3, none⟩ = some (.slice (some ⟨X.g, X.o, none⟩) X.L.length X.cap) := h.blk.cell 3
  have c8 : w.cell? ⟨X.r, 8, none⟩ = some (.map (some X.ab)) := h.blk.cell 8
  have c7 : w.cell? ⟨X.r, 7, none⟩ = some B.gv := h.blk.cell 7
  obtain ⟨hgo, hgρ⟩ := h.x.globs (by decide)
  obtain ⟨ga, gc, hgv⟩ := own_form hgo
  rw [hgv] at c7
  have hf := h.blk.free
  have hl := h.blk.lt
  have gl := h.x.nc.1.lt
  have hi2 : (i : Int) < (X.L.length : Int) := by omega
  obtain ⟨DA, hoa, hda⟩ := h.x.ah.1
  have HOA := hid hoa
  have HDA := hid hda
  have HK := hid (key_lit htm)
  have H := hid h
  have hgb := h.x.bd.2.1
  have HUE := hid hue
  have HI := hid hi
  unfold zglobal
  generalize ht : zT X.L i = t at ct HK ⊢
  generalize hA : (X.A t).getD 0 = av
  have HA := hid hA
  generalize hgl : z.globals.length = n at c7 hgb hgv ⊢
  have HGL := hid hgl
  have HGV := hid hgv
  clear h hu1 hue htm hgo hgρ hgv hoa hda hA hgl huρ hune u0 u1 hi
  by_cases h1 : av < (n : Int)
  · rw [if_pos h1]
    go_enter Tryd.func98, Tryd.ntmps98
    go_wp2_with (first
      | (at_lookup; refine wpList_lookup_own_int _ rfl _ _ 77 rfl 9 3 .i64 key9 underMs int3 (zero3 _) X.ab X.an DA rfl HOA.out _ _ rfl HK.out ?_; intro c1 hat hwc; have hc1 := ahead_get HDA.out hat; rw [HA.out] at hc1; subst hc1; clear hat hwc)
      | (go_at_call 94; refine (fail_any H.out i 80).mono ?_; rintro e w1 ⟨rfl, hr, hn⟩; have R := hid hr; have N := hid hn; clear hr hn)
      | fail)
    all_goals go_end0
    all_goals exact ⟨rfl, Zp.self R.out N.out⟩
  · rw [if_neg h1]
    by_cases h2 : n = 1024
    · rw [if_pos h2]
      have h3 : ((n : Int) == 1024) = true := by simp [h2]
      clear h2
      go_enter Tryd.func98, Tryd.ntmps98
      go_wp2_with (first
        | (at_lookup; refine wpList_lookup_own_int _ rfl _ _ 77 rfl 9 3 .i64 key9 underMs int3 (zero3 _) X.ab X.an DA rfl HOA.out _ _ rfl HK.out ?_; intro c1 hat hwc; have hc1 := ahead_get HDA.out hat; rw [HA.out] at hc1; subst hc1; clear hat hwc)
        | (go_at_call 94; refine (fail_any H.out i 3).mono ?_; rintro e w1 ⟨rfl, hr, hn⟩; have R := hid hr; have N := hid hn; clear hr hn)
        | fail)
      all_goals go_end0
      all_goals exact ⟨rfl, Zp.self R.out N.out⟩
    · rw [if_neg h2]
      have h3 : ((n : Int) == 1024) = false := by simp; omega
      have HB := hid (show n < 1024 by omega)
      clear h2 hgb
      obtain ⟨i1, I1⟩ := info_parts8 infoS
      have I1 := hid I1
      have HGO := hid (fun (o : Obj) => own_alloc8 (w := w) (by have := (H.out.x.globs (by decide)).1; rw [HGL.out, HGV.out] at this; exact this) o)
      have A0 := hid (fun (o : Obj) => H.out.bw (Bw.alloc (Bw.refl w) o))
      have N0 := hid (fun (o : Obj) => NX.of_bw B.ρ (Bw.alloc (Bw.refl w) o))
      go_enter Tryd.func98, Tryd.ntmps98
      go_upto_region 3 with (first
        | (at_lookup; refine wpList_lookup_own_int _ rfl _ _ 77 rfl 9 3 .i64 key9 underMs int3 (zero3 _) X.ab X.an DA rfl HOA.out _ _ rfl HK.out ?_; intro c1 hat hwc; have hc1 := ahead_get HDA.out hat; rw [HA.out] at hc1; subst hc1; clear hat hwc)
        | (at_builtin; refine wpList_append_row _ rfl _ _ 29 rfl 9 i1 (.string ByteArray.empty) 1 16 undSs8 I1.out.1 I1.out.2.1 I1.out.2.2.1 I1.out.2.2.2 rfl (by decide) (.slice ga n gc) n _ rfl (HGO.out _) ⟨w.heap.size, 0, none⟩ 1 1 [.string t] rfl rfl (new_news w [.string t] 9) (by intro u hu; simp at hu; subst hu; rfl) (by have := HB.out; unfold maxLen; omega) (by have := HB.out; omega) ?_; intro v1 w1 ho1 hg1 hvb1; have E := (A0.out _).glob HGV.out HGL.out t HB.out ho1 hg1 hvb1; obtain ⟨ρ1, hr1, hn1, q7, q1, qf⟩ := E; have R1 := hid hr1; have N1 := hid ((N0.out _).trans hn1); obtain ⟨a1, cc1, e1⟩ := own_form ho1; subst e1; clear ho1 hg1 hvb1 hr1 hn1)
        | fail)
      obtain ⟨u2, y6, y0, y1, yl, yf, yn⟩ := R1.out.us2 HI.out HUE.out
      have U := hid (R1.out.use HI.out HUE.out 4 n)
      have hyf := R1.out.blk.free
      have hyl := R1.out.blk.lt
      generalize World.setCell w1 ⟨X.r, 7, none⟩ (.slice a1 (n + 1) cc1) = w2 at *
      clear q7 q1 qf c6 cn c8 hf hl huf hul
      go_wp2
      all_goals go_end0
      all_goals exact ⟨rfl, _, U.out.1, N1.out.trans U.out.2⟩
end
end Go.Proofs.YtdhkcdehedbpcaaDoor

