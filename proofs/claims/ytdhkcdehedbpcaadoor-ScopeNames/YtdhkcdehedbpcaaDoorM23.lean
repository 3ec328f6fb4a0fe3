/- The document's parser: several, records: contracts, by steps. · The document's parser: several, rows and records. -/
import Derived.Test.YtdhkcdehedbpcaaDoorM16
import Derived.Test.YtdhkcdehedbpcaaDoorM20
import Derived.Test.YtdhkcdehedbpcaaDoorM15
set_option linter.unusedSimpArgs false
set_option linter.unusedVariables false
namespace Go.Proofs.YtdhkcdehedbpcaaDoor
open Go Go.RowKit

section
variable {w w' : World} {r f : Nat} {T : List ATok} {o : Int} {s s' : DS} {l : List ANode} {k : Int}

theorem step_append_sl {P : Program} {w : World} {G : Nat → Prop} {ops : Array Oper} {o : Oper} {a : Act} {K : Act → World → Prop} {Q : Exit → Act → World → Prop} {E : Prop} (hgd : o.guard = none) (s x : Operand) (t : TypeId)
    (ho : o.op = .call { callee := .builtin .append, args := #[s, x], argTypes := #[t, t] })
    (base : Nat) (e : TypeId) (i : TypeInfo) (z : Value) (size bytes : Nat) (ht : P.underlying t = some (.slice e)) (hi : P.info? e = some i) (hz : i.zero = some z)
    (hsize : i.size = size) (hby : i.bytes = bytes) (hzs : z.cells.size = size) (hsz : 0 < size)
    (v : Value) (n : Nat) (xs : List Value) (hs : a.eval s = v) (hown : w.ownsRow base e size v n xs)
    (xv : Value) (m : Nat) (news : List Value) (hx : a.eval x = xv) (hsl : Sl w G xv m size news) (h1 : ∀ u ∈ news, u.oneCell' = true)
    (h63 : n + m ≤ maxLen) (hbytes : (n + m) * bytes ≤ 140737488355328) (hbase : base ≤ w.heap.size)
    (h : ∀ v' w', w'.ownsRow base e size v' (n + m) (xs ++ news) → w.grownBy w' v.ownBlock → K (a.put o.dst v') w') :
    if Region.wanted o (yielded ops a.tmps) = true then Oper.wp P o a w K Q else E := by
  have hw : Region.wanted o (yielded ops a.tmps) = true := by simp [Region.wanted, hgd]
  rw [if_pos hw]
  obtain ⟨hl, ad, cap, rfl, hn, hc⟩ := hsl
  cases ad with
  | none =>
    obtain rfl : cap = 0 := hn.2 rfl
    obtain rfl : m = 0 := by have := hn.1; omega
    have hnews : news = [] := List.eq_nil_of_length_eq_zero (by simpa using hl)
    subst hnews
    have hrun := run_append_owned_none (P := P) (w := w) base t o.type e i size ht hi v n xs hown
    unfold Oper.wp execOp
    simp only [ho, resolve, invoke, builtin, Sem.run_bind, Sem.run_pure, Result.andThen_ok, List.map_toArray, List.map_cons, List.map_nil, hs, hx, hrun]
    exact h v w (by simpa using hown) (grown_refl w _)
  | some ad =>
    have hnw : ∀ j u, news[j]? = some u → w.cell? (ad.add j) = some u := by
      intro j u hj
      have hjl : j < news.length := (List.getElem?_eq_some_iff.1 hj).1
      rcases hc with rfl | ⟨b, off, he, hlt, hg, hcs⟩
      · have h0 : news.length = 0 := by rw [hl]; omega
        omega
      · cases he
        have e1 : (⟨b, off, none⟩ : Addr).add j = ⟨b, off + j, none⟩ := by
          unfold Addr.add
          split
          · rename_i h0; subst h0; rfl
          · rfl
        rw [e1, hcs j (by omega), hj]
    obtain ⟨v', w', hrun, r1, r2, _⟩ := run_append_own (P := P) w base t o.type e i z size bytes ht hi hz hsize hby hzs hsz v n xs hown ad m cap news hl hnw h1 h63 hbytes hbase
    unfold Oper.wp execOp
    simp only [ho, resolve, invoke, builtin, Sem.run_bind, Sem.run_pure, Result.andThen_ok, List.map_toArray, List.map_cons, List.map_nil, hs, hx, hrun]
    exact h v' w' r1 r2

theorem recL_inv {x : List ANode × Int × DS} (h : dR T f (.severalL true l k) o s = some x) : ∃ g, f = g + 1 ∧ l.length ≤ 1000000 ∧ 0 ≤ k ∧ k ≤ 1000000 ∧
    ((s.e = 0 ∧ dIs T s ⟨#[125]⟩ = false ∧ ∃ s1, s1 = (if 0 < k then dWant T s ⟨#[44]⟩ else s) ∧
      ((s1.e = 0 ∧ ∃ l1 k1 s3, dR T g (.expr 0) o (dWant T (dNameS T s1) ⟨#[58]⟩) = some (l1, k1, s3) ∧ dR T g (.severalL true (l ++ dJoin (22, 0, dNameT T s1, 0, dAt T s1) 1 l1) (k + 1)) o s3 = some x ∧ (s3.e = 0 → s.i < s3.i)) ∨
       (s1.e ≠ 0 ∧ ∃ l1 k1 s3, dR T g (.expr 0) o s1 = some (l1, k1, s3) ∧ dR T g (.severalL true (l ++ l1) (k + 1)) o s3 = some x ∧ (s3.e = 0 → s.i < s3.i)))) ∨ (¬ (s.e = 0 ∧ dIs T s ⟨#[125]⟩ = false) ∧ x = (l, k, s))) := by
  cases f with
  | zero => cases h
  | succ g =>
    unfold dR at h
    obtain ⟨h, h1, h2, h3⟩ := gde h
    refine ⟨g, rfl, h1, h2, h3, ?_⟩
    simp only [if_true, true_and] at h
    rcases ite_some h with ⟨hi, h⟩ | ⟨hn, h⟩
    · have a : Fw s (if 0 < k then dWant T s ⟨#[44]⟩ else s) := by split; exact (fs_want _ _).fw; exact Fw.refl _
      refine .inl ⟨hi.1, hi.2, _, rfl, ?_⟩
      rcases ite_some h with ⟨he, h⟩ | ⟨he, h⟩
      · obtain ⟨⟨l1, k1, s3⟩, h4, h5⟩ := bnd h
        exact .inl ⟨he, l1, k1, s3, h4, h5, fun e => ((a.then ((fs_name _).then ((fs_want _ _).fw.trans ((dR_goes _ _ _ _ _ _ _ h4).fs rfl).fw))).2 e).2⟩
      · obtain ⟨⟨l1, k1, s3⟩, h4, h5⟩ := bnd h
        exact .inr ⟨he, l1, k1, s3, h4, h5, fun e => ((a.then ((dR_goes _ _ _ _ _ _ _ h4).fs rfl)).2 e).2⟩
    · exact .inr ⟨hn, (Option.some.inj h).symm⟩

set_option maxRecDepth 100000 in
set_option maxHeartbeats 8000000 in
theorem rec_step (hc : ∀ g, g ≤ f → Con T r g) (n : ANode) (h : dR T (f + 1) (.several n true) o s = some (l, k, s')) (hr : RdM w r T o s) : Calls Tryd.prog 101 #[.pointer (some ⟨r, 0, none⟩), nodeV n, .string ⟨#[123]⟩, .string ⟨#[125]⟩] w (DG w r T o l s') := by
  unfold dR at h
  obtain ⟨⟨l1, k1, s1⟩, h1, h2⟩ := bnd h
  simp only [if_true] at h1 h2
  obtain ⟨rfl, rfl, hlen⟩ := rete3 h2
  obtain ⟨n0, n1, n2, n3, n4⟩ := n
  simp only [nodeV] at hlen ⊢
  obtain ⟨u, hu⟩ : ∃ u, strOfNums n2 = u := ⟨_, rfl⟩
  rw [hu]
  have HU := hid hu
  have HLJ := hid hlen
  have HC := hid hc
  have HR := hid hr
  have hr0 := hr.lt
  have HO := hid (fun (e : s1.e = 0) => (hr.o (((fs_enter (T := T) o s ⟨#[123]⟩).2 ((dR_goes _ _ _ _ _ _ _ h1).fw.2 e)).1)).1)
  have HL := hid h1
  obtain ⟨i1, hi1, hz1, hs1, hy1⟩ := info_parts infoN8
  have I1 := hid (And.intro hi1 (And.intro hz1 (And.intro hs1 hy1)))
  have HEN := hid (fun w1 (hw : RdM w1 r T o s) => denter_any ⟨#[123]⟩ hw)
  unfold DG
  generalize dEnter T o s ⟨#[123]⟩ = A at HL HEN
  clear h1 h2 h hc hr hi1 hz1 hs1 hy1 hu hlen
  go_enter Tryd.func101, Tryd.ntmps101
  go_wp2_with (first
    | (go_at_call 68; refine (HEN.out _ (HR.out.bw bq)).mono ?_; rintro e w2 ⟨rfl, hr2, hk2⟩; have R2 := hid hr2; have P2 := hid (show Blk w2 w.heap.size #[.int .i64 20, .int .i64 n1, .string u, .int .i64 n3, .int .i64 n4] 43 from (Blk.new w _ _).kp hk2 (by omega)); have K2 := hid (show Kp r w w2 from Kp.trans (Kp.of_bw bq) hk2); have hrl : r < w2.heap.size := hr2.lt; clear hr2 hk2)
    | fail)
  go_loopw [9, 10] (fun v4 v5 wr => ∃ (f' : Nat) (l0 : List ANode) (k0 : Int) (s0 : DS), f' ≤ f ∧ dR T f' (.severalL true l0 k0) (o + 1) s0 = some (l1, k1, s1) ∧ (∃ a c, v4 = .slice a l0.length c) ∧ Nd wr w2.heap.size v4 l0 ∧ v5 = .int .i64 k0 ∧ RdM wr r T (o + 1) s0 ∧ Kp r w2 wr) (fun _ _ wr => rdL T.length wr r)
  case atStart => exact ⟨f, [], 0, A, Nat.le_refl _, HL.out, ⟨none, 0, rfl⟩, Nd.nil _ _, rfl, R2.out, Kp.refl _ _⟩
  case round =>
    obtain ⟨f', l0, k0, s0, hf, hd, ⟨a4, c4, rfl⟩, hn, rfl, hrd, hkp⟩ := hrel
    have R3 := hid hrd
    have N3 := hid hn
    have K3 := hid hkp
    have HI := hid (dis_any ⟨#[125]⟩ hrd)
    obtain ⟨g, c, q, x⟩ := hrd.x
    have z3 : wr.cell? ⟨r, 3, none⟩ = some (.int .i64 s0.e) := x.b.cell 3
    have zl : r < wr.heap.size := x.b.lt
    obtain ⟨f2, rfl, hl0, hk0, hk1, hcase⟩ := recL_inv hd
    clear x hn hkp hrd hd
    rcases hcase with ⟨he, hi, t1, ht1, hcase⟩ | ⟨hno, hx⟩
    · have e1 : (s0.e == 0) = true := by simpa using he
      rw [hi] at HI
      have HE0 := hid he
      have HF := hid hf
      have HW := hid (fun w1 (hw : RdM w1 r T (o + 1) s0) => dwant_any ⟨#[44]⟩ hw)
      rcases hcase with ⟨te, l2, k2, s3, hst, hnx, hfl⟩ | ⟨te, l2, k2, s3, hst, hnx, hfl⟩
      · have e2 : (t1.e == 0) = true := by simpa using te
        have HX := hid (fun w1 (hw : RdM w1 r T (o + 1) (dWant T (dNameS T t1) ⟨#[58]⟩)) => (HC.out f2 (by omega)).expr 0 hst hw)
        unfold DG at HX
        have HAT := hid (fun w1 (hw : RdM w1 r T (o + 1) t1) => dat_any hw)
        have HNM := hid (fun w1 (hw : RdM w1 r T (o + 1) t1) => dname_any hw)
        have HW2 := hid (fun w1 (hw : RdM w1 r T (o + 1) (dNameS T t1)) => dwant_any ⟨#[58]⟩ hw)
        have hj := fun (w1 : World) (v : Value) (hsl : Sl w1 (fun _ => True) v l2.length 5 (l2.flatMap ndV)) (hl : l2.length ≤ 10000000) => djoin_any (22, 0, dNameT T t1, 0, dAt T t1) 1 v l2 hsl hl
        have hjl : (dJoin (22, 0, dNameT T t1, 0, dAt T t1) 1 l2).length = l2.length + 1 := rfl
        simp only [← hjl] at hj
        obtain ⟨u1, hu1⟩ : ∃ u1, strOfNums (dNameT T t1) = u1 := ⟨_, rfl⟩
        simp only [nodeV, hu1] at hj
        rw [hu1] at HNM
        generalize dJoin (22, 0, dNameT T t1, 0, dAt T t1) 1 l2 = JL at hj hjl hnx
        generalize dAt T t1 = p1 at hj HAT
        generalize dWant T (dNameS T t1) ⟨#[58]⟩ = S2 at HX HW2
        generalize dNameS T t1 = D1 at HNM HW2
        have HJ := hid hj
        have HJL := hid hjl
        have HNX := hid hnx
        have HFL := hid hfl
        have HT1 := hid ht1
        clear hst hnx hi hf hfl hj hjl hu1
        by_cases hk : 0 < k0
        · rw [if_pos hk] at ht1
          rw [← ht1] at HW
          have kk : ¬ k0 = 0 := by omega
          clear ht1 he te
          go_wp2_with (first
            | (go_at_call 42; refine HI.out.mono ?_; rintro e w4 ⟨rfl, hb4⟩; have B4 := hid hb4; have R4 := hid (R3.out.bw hb4); (obtain ⟨g4, c4', q4, x4⟩ := R4.out.x); have z4 : w4.cell? ⟨r, 3, none⟩ = some (.int .i64 s0.e) := x4.b.cell 3; have zl4 : r < w4.heap.size := x4.b.lt; clear hb4 x4)
            | (go_at_call 48; (fail_if_success (have _g := m5)); have m5 := hid trivial; refine (HW.out _ (R4.out.bw bq)).mono ?_; rintro e w5 ⟨rfl, hr5, hk5⟩; have R5 := hid hr5; have K5 := hid (show Kp r wr w5 from Kp.trans (Kp.of_bw (B4.out.trans bq)) hk5); (obtain ⟨g5, c5, q5, x5⟩ := hr5.x); have z5 : w5.cell? ⟨r, 3, none⟩ = some (.int .i64 t1.e) := x5.b.cell 3; have zl5 : r < w5.heap.size := x5.b.lt; clear hr5 hk5 x5)
            | (go_at_call 41; refine (HAT.out _ (R5.out.bw bq)).mono ?_; rintro e wa ⟨rfl, hba⟩; have RA := hid (R5.out.bw hba); have KA := hid (show Kp r wr wa from K5.out.bw (Bw.trans bq hba)); (obtain ⟨ga, ca, qa, xa⟩ := RA.out.x); have zla : r < wa.heap.size := xa.b.lt; clear hba xa)
            | (go_at_call 45; refine (HNM.out _ (RA.out.bw bq)).mono ?_; rintro e wn ⟨rfl, hrn, hkn⟩; have RN := hid hrn; have KN := hid (show Kp r wr wn from KA.out.trans (Kp.trans (Kp.of_bw bq) hkn)); have rln : r < wn.heap.size := hrn.lt; clear hrn hkn)
            | (go_at_call 48; have _g := RN; clear _g; refine (HW2.out _ (RN.out.bw bq)).mono ?_; rintro e wc ⟨rfl, hrc, hkc⟩; have RC := hid hrc; have KC := hid (show Kp r wr wc from KN.out.trans (Kp.trans (Kp.of_bw bq) hkc)); have PC := hid (show Blk wc wn.heap.size #[.int .i64 22, .int .i64 0, .string u1, .int .i64 0, .int .i64 p1] 43 from (Blk.new wn _ _).kp hkc (by omega)); clear hrc hkc)
            | fail)
          have hSP := hid (show ∀ W', Blk W' wn.heap.size #[.int .i64 22, .int .i64 0, .string u1, .int .i64 0, .int .i64 p1] 43 → (fun w' => w'.cell? ⟨wn.heap.size, 0, none⟩ = some (.int .i64 22) ∧ w'.cell? ⟨wn.heap.size, 1, none⟩ = some (.int .i64 0) ∧ w'.cell? ⟨wn.heap.size, 2, none⟩ = some (.string u1) ∧ w'.cell? ⟨wn.heap.size, 3, none⟩ = some (.int .i64 0) ∧ w'.cell? ⟨wn.heap.size, 4, none⟩ = some (.int .i64 p1)) W' from fun W' hb => ⟨hb.cell 0, hb.cell 1, hb.cell 2, hb.cell 3, hb.cell 4⟩)
          refine wp_region_W (fun w' => w'.cell? ⟨wn.heap.size, 0, none⟩ = some (.int .i64 22) ∧ w'.cell? ⟨wn.heap.size, 1, none⟩ = some (.int .i64 0) ∧ w'.cell? ⟨wn.heap.size, 2, none⟩ = some (.string u1) ∧ w'.cell? ⟨wn.heap.size, 3, none⟩ = some (.int .i64 0) ∧ w'.cell? ⟨wn.heap.size, 4, none⟩ = some (.int .i64 p1)) (fun j => if j == 3 || j == 4 || j == 5 then 0 else 1) (by kernel_rfl) ?_
          refine tkW (i := 0) (oi := _) (v := ?_) rfl (Or.inl ⟨by rfl, fun w _ => ?_⟩) ?_
          rotate_left
          · (go_simp; first | done | with_reducible rfl)
          try simp only [Act.put, sqA, sqZ, sqS]
          refine ldW (i := 1) (oi := _) (v := ?_) rfl (Or.inl ⟨by rfl, fun w hS => ?_⟩) (hSP.out _ (PC.out.bw (Bw.drew (Bw.refl _)))) ?_
          rotate_left
          · (obtain ⟨s1_, s2_, s3_, s4_, s5_⟩ := hS; go_simp; first | done | with_reducible rfl)
          try simp only [Act.put, sqA, sqZ, sqS]
          refine tkW (i := 2) (oi := _) (v := ?_) rfl (Or.inl ⟨by rfl, fun w _ => ?_⟩) ?_
          rotate_left
          · (go_simp; first | done | with_reducible rfl)
          try simp only [Act.put, sqA, sqZ, sqS]
          refine wpAnyW_ready (rs := [3]) (by kernel_rfl) (by simp) ?_
          refine (AllReadyW.cons (o := _) rfl (fun K hK => ?_) AllReadyW.nil)
          go_simp
          refine (HX.out _ (RC.out.bw (Bw.drew (Bw.refl _)))).mono ?_
          rintro e w7 ⟨a7, c7, he7, hn7, hr7, hk7, hl7⟩
          subst he7
          have N7 := hid hn7
          have R7 := hid hr7
          have K7 := hid (show Kp r wr w7 from KC.out.trans (Kp.trans (Kp.of_bw (Bw.drew (Bw.refl _))) hk7))
          have P7 := hid ((PC.out.bw (Bw.drew (Bw.refl _))).kp hk7 (by omega))
          have L7 := hid hl7
          clear hn7 hr7 hk7 hl7
          refine hK.out _ _ (hSP.out _ P7.out) ?_
          clear hK K
          try simp only [Act.put, sqA, sqZ, sqS]
          refine wpAnyW_ready (rs := [4]) (by kernel_rfl) (by simp) ?_
          refine (AllReadyW.cons (o := _) rfl (fun K hK => ?_) AllReadyW.nil)
          go_simp
          refine (HJ.out _ _ N7.out.sl (by have := L7.out; omega)).mono ?_
          rintro e w9 ⟨a9, c9, he9, hn9, hb9⟩
          subst he9
          have N9 := hid hn9
          have R9 := hid (R7.out.bw hb9)
          have K9 := hid (K7.out.bw hb9)
          have P9 := hid (P7.out.bw hb9)
          clear hn9 hb9
          refine hK.out _ _ (hSP.out _ P9.out) ?_
          clear hK K
          try simp only [Act.put, sqA, sqZ, sqS]
          refine wpAnyW_ready (rs := [5]) (by kernel_rfl) (by simp) ?_
          refine (AllReadyW.cons (o := _) rfl (fun K hK => ?_) AllReadyW.nil)
          refine step_append_sl (G := fun _ => True) rfl _ _ 24 rfl w2.heap.size 43 i1 (.agg #[.int .i64 0, .int .i64 0, .string ⟨#[]⟩, .int .i64 0, .int .i64 0]) 5 48 undN8 I1.out.1 I1.out.2.1 I1.out.2.2.1 I1.out.2.2.2 rfl (by decide) (.slice a4 l0.length c4) l0.length (l0.flatMap ndV) rfl (N3.out.kp K9.out hrl) (.slice a9 JL.length c9) JL.length (JL.flatMap ndV) rfl N9.out.sl (nd_one _) (by have := L7.out; have := HJL.out; unfold maxLen; omega) (by have := L7.out; have := HJL.out; omega) (Nat.le_trans K3.out.size K9.out.size) ?_
          intro v8 w8 ho8 hg8
          obtain ⟨a8, c8, e8⟩ := own_form ho8
          subst e8
          have ho8' : Nd w8 w2.heap.size (.slice a8 (l0.length + JL.length) c8) (l0 ++ JL) := (by unfold Nd; rw [List.length_append, List.flatMap_append]; exact ho8)
          have N8 := hid ho8'
          have R8 := hid (R9.out.grown (N3.out.kp K9.out hrl) hg8)
          have K8 := hid ((K3.out.trans K9.out).own (N3.out.kp K9.out hrl) hg8 (Nat.le_refl _))
          have P8 := hid (P9.out.keep (hg8.block _ P9.out.lt (fun e => by have h1 := (N3.out.lt _ e.symm).2; have h2 := KN.out.size; omega)))
          clear ho8 hg8 ho8'
          refine hK.out _ _ (hSP.out _ P8.out) ?_
          clear hK K
          try simp only [Act.put, sqA, sqZ, sqS]
          refine tkW (i := 6) (oi := _) (v := ?_) rfl (Or.inl ⟨by rfl, fun w _ => ?_⟩) ?_
          rotate_left
          · (go_simp; first | done | with_reducible rfl)
          try simp only [Act.put, sqA, sqZ, sqS]
          refine wpAnyW_done (by kernel_rfl) ?_ _
          all_goals go_wp2
          case roundEnd =>
            exact ⟨⟨f2, l0 ++ JL, k0 + 1, s3, by have := HF.out; omega, HNX.out, ⟨_, _, by rw [List.length_append]⟩, N8.out, rfl, R8.out, K8.out⟩, left_lt R3.out R8.out HE0.out HFL.out⟩
        · rw [if_neg hk] at ht1
          obtain rfl : k0 = 0 := by omega
          simp only [ht1] at e2 HAT HNM
          clear hk he te ht1
          go_wp2_with (first
            | (go_at_call 42; refine HI.out.mono ?_; rintro e w4 ⟨rfl, hb4⟩; have B4 := hid hb4; have R4 := hid (R3.out.bw hb4); (obtain ⟨g4, c4', q4, x4⟩ := R4.out.x); have z4 : w4.cell? ⟨r, 3, none⟩ = some (.int .i64 s0.e) := x4.b.cell 3; have zl4 : r < w4.heap.size := x4.b.lt; clear hb4 x4)
            | (go_at_call 41; refine (HAT.out _ (R4.out.bw bq)).mono ?_; rintro e wa ⟨rfl, hba⟩; have RA := hid (R4.out.bw hba); have KA := hid (show Kp r wr wa from Kp.of_bw (B4.out.trans (Bw.trans bq hba))); (obtain ⟨ga, ca, qa, xa⟩ := RA.out.x); have zla : r < wa.heap.size := xa.b.lt; clear hba xa)
            | (go_at_call 45; refine (HNM.out _ (RA.out.bw bq)).mono ?_; rintro e wn ⟨rfl, hrn, hkn⟩; have RN := hid hrn; have KN := hid (show Kp r wr wn from KA.out.trans (Kp.trans (Kp.of_bw bq) hkn)); have rln : r < wn.heap.size := hrn.lt; clear hrn hkn)
            | (go_at_call 48; have _g := RN; clear _g; refine (HW2.out _ (RN.out.bw bq)).mono ?_; rintro e wc ⟨rfl, hrc, hkc⟩; have RC := hid hrc; have KC := hid (show Kp r wr wc from KN.out.trans (Kp.trans (Kp.of_bw bq) hkc)); have PC := hid (show Blk wc wn.heap.size #[.int .i64 22, .int .i64 0, .string u1, .int .i64 0, .int .i64 p1] 43 from (Blk.new wn _ _).kp hkc (by omega)); clear hrc hkc)
            | fail)
          have hSP := hid (show ∀ W', Blk W' wn.heap.size #[.int .i64 22, .int .i64 0, .string u1, .int .i64 0, .int .i64 p1] 43 → (fun w' => w'.cell? ⟨wn.heap.size, 0, none⟩ = some (.int .i64 22) ∧ w'.cell? ⟨wn.heap.size, 1, none⟩ = some (.int .i64 0) ∧ w'.cell? ⟨wn.heap.size, 2, none⟩ = some (.string u1) ∧ w'.cell? ⟨wn.heap.size, 3, none⟩ = some (.int .i64 0) ∧ w'.cell? ⟨wn.heap.size, 4, none⟩ = some (.int .i64 p1)) W' from fun W' hb => ⟨hb.cell 0, hb.cell 1, hb.cell 2, hb.cell 3, hb.cell 4⟩)
          refine wp_region_W (fun w' => w'.cell? ⟨wn.heap.size, 0, none⟩ = some (.int .i64 22) ∧ w'.cell? ⟨wn.heap.size, 1, none⟩ = some (.int .i64 0) ∧ w'.cell? ⟨wn.heap.size, 2, none⟩ = some (.string u1) ∧ w'.cell? ⟨wn.heap.size, 3, none⟩ = some (.int .i64 0) ∧ w'.cell? ⟨wn.heap.size, 4, none⟩ = some (.int .i64 p1)) (fun j => if j == 3 || j == 4 || j == 5 then 0 else 1) (by kernel_rfl) ?_
          refine tkW (i := 0) (oi := _) (v := ?_) rfl (Or.inl ⟨by rfl, fun w _ => ?_⟩) ?_
          rotate_left
          · (go_simp; first | done | with_reducible rfl)
          try simp only [Act.put, sqA, sqZ, sqS]
          refine ldW (i := 1) (oi := _) (v := ?_) rfl (Or.inl ⟨by rfl, fun w hS => ?_⟩) (hSP.out _ (PC.out.bw (Bw.drew (Bw.refl _)))) ?_
          rotate_left
          · (obtain ⟨s1_, s2_, s3_, s4_, s5_⟩ := hS; go_simp; first | done | with_reducible rfl)
          try simp only [Act.put, sqA, sqZ, sqS]
          refine tkW (i := 2) (oi := _) (v := ?_) rfl (Or.inl ⟨by rfl, fun w _ => ?_⟩) ?_
          rotate_left
          · (go_simp; first | done | with_reducible rfl)
          try simp only [Act.put, sqA, sqZ, sqS]
          refine wpAnyW_ready (rs := [3]) (by kernel_rfl) (by simp) ?_
          refine (AllReadyW.cons (o := _) rfl (fun K hK => ?_) AllReadyW.nil)
          go_simp
          refine (HX.out _ (RC.out.bw (Bw.drew (Bw.refl _)))).mono ?_
          rintro e w7 ⟨a7, c7, he7, hn7, hr7, hk7, hl7⟩
          subst he7
          have N7 := hid hn7
          have R7 := hid hr7
          have K7 := hid (show Kp r wr w7 from KC.out.trans (Kp.trans (Kp.of_bw (Bw.drew (Bw.refl _))) hk7))
          have P7 := hid ((PC.out.bw (Bw.drew (Bw.refl _))).kp hk7 (by omega))
          have L7 := hid hl7
          clear hn7 hr7 hk7 hl7
          refine hK.out _ _ (hSP.out _ P7.out) ?_
          clear hK K
          try simp only [Act.put, sqA, sqZ, sqS]
          refine wpAnyW_ready (rs := [4]) (by kernel_rfl) (by simp) ?_
          refine (AllReadyW.cons (o := _) rfl (fun K hK => ?_) AllReadyW.nil)
          go_simp
          refine (HJ.out _ _ N7.out.sl (by have := L7.out; omega)).mono ?_
          rintro e w9 ⟨a9, c9, he9, hn9, hb9⟩
          subst he9
          have N9 := hid hn9
          have R9 := hid (R7.out.bw hb9)
          have K9 := hid (K7.out.bw hb9)
          have P9 := hid (P7.out.bw hb9)
          clear hn9 hb9
          refine hK.out _ _ (hSP.out _ P9.out) ?_
          clear hK K
          try simp only [Act.put, sqA, sqZ, sqS]
          refine wpAnyW_ready (rs := [5]) (by kernel_rfl) (by simp) ?_
          refine (AllReadyW.cons (o := _) rfl (fun K hK => ?_) AllReadyW.nil)
          refine step_append_sl (G := fun _ => True) rfl _ _ 24 rfl w2.heap.size 43 i1 (.agg #[.int .i64 0, .int .i64 0, .string ⟨#[]⟩, .int .i64 0, .int .i64 0]) 5 48 undN8 I1.out.1 I1.out.2.1 I1.out.2.2.1 I1.out.2.2.2 rfl (by decide) (.slice a4 l0.length c4) l0.length (l0.flatMap ndV) rfl (N3.out.kp K9.out hrl) (.slice a9 JL.length c9) JL.length (JL.flatMap ndV) rfl N9.out.sl (nd_one _) (by have := L7.out; have := HJL.out; unfold maxLen; omega) (by have := L7.out; have := HJL.out; omega) (Nat.le_trans K3.out.size K9.out.size) ?_
          intro v8 w8 ho8 hg8
          obtain ⟨a8, c8, e8⟩ := own_form ho8
          subst e8
          have ho8' : Nd w8 w2.heap.size (.slice a8 (l0.length + JL.length) c8) (l0 ++ JL) := (by unfold Nd; rw [List.length_append, List.flatMap_append]; exact ho8)
          have N8 := hid ho8'
          have R8 := hid (R9.out.grown (N3.out.kp K9.out hrl) hg8)
          have K8 := hid ((K3.out.trans K9.out).own (N3.out.kp K9.out hrl) hg8 (Nat.le_refl _))
          have P8 := hid (P9.out.keep (hg8.block _ P9.out.lt (fun e => by have h1 := (N3.out.lt _ e.symm).2; have h2 := KN.out.size; omega)))
          clear ho8 hg8 ho8'
          refine hK.out _ _ (hSP.out _ P8.out) ?_
          clear hK K
          try simp only [Act.put, sqA, sqZ, sqS]
          refine tkW (i := 6) (oi := _) (v := ?_) rfl (Or.inl ⟨by rfl, fun w _ => ?_⟩) ?_
          rotate_left
          · (go_simp; first | done | with_reducible rfl)
          try simp only [Act.put, sqA, sqZ, sqS]
          refine wpAnyW_done (by kernel_rfl) ?_ _
          all_goals go_wp2
          case roundEnd =>
            exact ⟨⟨f2, l0 ++ JL, 0 + 1, s3, by have := HF.out; omega, HNX.out, ⟨_, _, by rw [List.length_append]⟩, N8.out, rfl, R8.out, K8.out⟩, left_lt R3.out R8.out HE0.out HFL.out⟩
      · have e2 : (t1.e == 0) = false := by simpa using te
        have HX := hid (fun w1 (hw : RdM w1 r T (o + 1) t1) => (HC.out f2 (by omega)).expr 0 hst hw)
        unfold DG at HX
        have HNX := hid hnx
        have HFL := hid hfl
        clear hst hnx hi hf hfl
        by_cases hk : 0 < k0
        · rw [if_pos hk] at ht1
          rw [← ht1] at HW
          have kk : ¬ k0 = 0 := by omega
          clear ht1 he te
          go_wp2_with (first
            | (go_at_call 42; refine HI.out.mono ?_; rintro e w4 ⟨rfl, hb4⟩; have B4 := hid hb4; have R4 := hid (R3.out.bw hb4); (obtain ⟨g4, c4', q4, x4⟩ := R4.out.x); have z4 : w4.cell? ⟨r, 3, none⟩ = some (.int .i64 s0.e) := x4.b.cell 3; have zl4 : r < w4.heap.size := x4.b.lt; clear hb4 x4)
            | (go_at_call 48; refine (HW.out _ (R4.out.bw bq)).mono ?_; rintro e w5 ⟨rfl, hr5, hk5⟩; have R5 := hid hr5; have K5 := hid (show Kp r wr w5 from Kp.trans (Kp.of_bw (B4.out.trans bq)) hk5); (obtain ⟨g5, c5, q5, x5⟩ := hr5.x); have z5 : w5.cell? ⟨r, 3, none⟩ = some (.int .i64 t1.e) := x5.b.cell 3; have zl5 : r < w5.heap.size := x5.b.lt; clear hr5 hk5 x5)
            | (go_at_call 49; refine (HX.out _ (R5.out.bw bq)).mono ?_; rintro e w7 ⟨a7, c7, rfl, hn7, hr7, hk7, hl7⟩; have N7 := hid hn7; have R7 := hid hr7; have K7 := hid (show Kp r wr w7 from K5.out.trans (Kp.trans (Kp.of_bw bq) hk7)); have L7 := hid hl7; clear hn7 hr7 hk7 hl7)
            | (at_builtin; refine wpList_append_sl (G := fun _ => True) _ rfl _ _ 24 rfl w2.heap.size 43 i1 (.agg #[.int .i64 0, .int .i64 0, .string ⟨#[]⟩, .int .i64 0, .int .i64 0]) 5 48 undN8 I1.out.1 I1.out.2.1 I1.out.2.2.1 I1.out.2.2.2 rfl (by decide) (.slice a4 l0.length c4) l0.length (l0.flatMap ndV) rfl (N3.out.kp K7.out hrl) (.slice a7 l2.length c7) l2.length (l2.flatMap ndV) rfl N7.out.sl (nd_one _) (by have := L7.out; unfold maxLen; omega) (by have := L7.out; omega) (Nat.le_trans K3.out.size K7.out.size) ?_; intro v8 w8 ho8 hg8; obtain ⟨a8, c8, rfl⟩ := own_form ho8; have ho8' : Nd w8 w2.heap.size (.slice a8 (l0.length + l2.length) c8) (l0 ++ l2) := (by unfold Nd; rw [List.length_append, List.flatMap_append]; exact ho8); have N8 := hid ho8'; have R8 := hid (R7.out.grown (N3.out.kp K7.out hrl) hg8); have K8 := hid ((K3.out.trans K7.out).own (N3.out.kp K7.out hrl) hg8 (Nat.le_refl _)); clear ho8 hg8 ho8')
            | fail)
          case roundEnd =>
            exact ⟨⟨f2, l0 ++ l2, k0 + 1, s3, by have := HF.out; omega, HNX.out, ⟨_, _, by rw [List.length_append]⟩, N8.out, rfl, R8.out, K8.out⟩, left_lt R3.out R8.out HE0.out HFL.out⟩
        · rw [if_neg hk] at ht1
          rw [ht1] at te
          exact absurd he te
    · obtain ⟨rfl, rfl, rfl⟩ : l0 = l1 ∧ k0 = k1 ∧ s0 = s1 := by simp only [Prod.mk.injEq] at hx; exact ⟨hx.1.symm, hx.2.1.symm, hx.2.2.symm⟩
      have HW := hid (fun w1 (hw : RdM w1 r T (o + 1) s0) => dwant_any ⟨#[125]⟩ hw)
      have HOW := hid (fun (e : (dWant T s0 ⟨#[125]⟩).e = 0) => HO.out ((fs_want (T := T) s0 ⟨#[125]⟩).2 e).1)
      obtain ⟨W, hW⟩ : ∃ W, dWant T s0 ⟨#[125]⟩ = W := ⟨_, rfl⟩
      rw [hW] at HW HOW
      have HWE := hid hW
      clear hW
      have HLB := hid hl0
      have hj0 := fun (w1 : World) (v : Value) (hsl : Sl w1 (fun _ => True) v l0.length 5 (l0.flatMap ndV)) => djoin_any (21, n1, n2, n3, n4) k0 v l0 hsl (by omega)
      simp only [nodeV, HU.out] at hj0
      have HJ0 := hid hj0
      clear hj0
      clear hf hx HL hl0 hk0 hk1
      by_cases he : s0.e = 0
      · have e1 : (s0.e == 0) = true := by simpa using he
        have hi : dIs T s0 ⟨#[125]⟩ = true := by
          cases hq : dIs T s0 ⟨#[125]⟩
          · exact absurd ⟨he, hq⟩ hno
          · rfl
        rw [hi] at HI
        clear hi he hno
        go_wp2_with (first
          | (go_at_call 42; refine HI.out.mono ?_; rintro e w4 ⟨rfl, hb4⟩; have B4 := hid hb4; have R4 := hid (R3.out.bw hb4); (obtain ⟨g4, c4', q4, x4⟩ := R4.out.x); have z4 : w4.cell? ⟨r, 3, none⟩ = some (.int .i64 s0.e) := x4.b.cell 3; have zl4 : r < w4.heap.size := x4.b.lt; clear hb4 x4)
          | (go_at_call 48; refine (HW.out _ (R4.out.bw bq)).mono ?_; rintro e w6 ⟨rfl, hr6, hk6⟩; have K6 := hid (show Kp r wr w6 from Kp.trans (Kp.of_bw (B4.out.trans bq)) hk6); have N6 := hid (N3.out.kp K6.out hrl); have P6 := hid (P2.out.kp (K3.out.trans K6.out) (by omega)); have HNE := hid (show (Value.slice a4 l0.length c4).ownBlock ≠ some w.heap.size from fun e => by have h1 := (N6.out.lt _ e).1; have h2 := P2.out.lt; omega); (obtain ⟨q6, u0, u1, u2, HQ6⟩ := RdM.off hr6 HOW.out); have H6 := hid HQ6; have u3 := P6.out.cell; have u4 := P6.out.lt; have u6 := P6.out.free; have u5 : w.heap.size ≠ r := (by omega); clear hr6 hk6 HQ6)
          | (go_at_call 22; refine (HJ0.out _ _ ((N6.out.kp ((Kp.refl r w6).set 2 _) hrl).setO HNE.out 0 _).sl).mono ?_; rintro e w9 ⟨a9, c9, rfl, hn9, hb9⟩; have N9 := hid hn9; have B9 := hid hb9; clear hn9 hb9)
          | fail)
        all_goals go_ret
        all_goals exact ⟨_, _, rfl, N9.out.low (by have h1 := ((K2.out.trans K3.out).trans K6.out).size; simp only [World.size_setCell]; exact h1), by rw [HWE.out]; exact (H6.out.setO (P6.out.other (by simp; omega) _) 0 _).bw B9.out, (((((K2.out.trans K3.out).trans K6.out).set 2 _).setNew (Nat.le_refl _) 0 _).bw B9.out), HLJ.out⟩
      · have e1 : (s0.e == 0) = false := by simpa using he
        clear he hno HI
        go_wp2_with (first
          | (go_at_call 48; refine (HW.out _ (R3.out.bw bq)).mono ?_; rintro e w6 ⟨rfl, hr6, hk6⟩; have K6 := hid (show Kp r wr w6 from Kp.trans (Kp.of_bw bq) hk6); have N6 := hid (N3.out.kp K6.out hrl); have P6 := hid (P2.out.kp (K3.out.trans K6.out) (by omega)); have HNE := hid (show (Value.slice a4 l0.length c4).ownBlock ≠ some w.heap.size from fun e => by have h1 := (N6.out.lt _ e).1; have h2 := P2.out.lt; omega); (obtain ⟨q6, u0, u1, u2, HQ6⟩ := RdM.off hr6 HOW.out); have H6 := hid HQ6; have u3 := P6.out.cell; have u4 := P6.out.lt; have u6 := P6.out.free; have u5 : w.heap.size ≠ r := (by omega); clear hr6 hk6 HQ6)
          | (go_at_call 22; refine (HJ0.out _ _ ((N6.out.kp ((Kp.refl r w6).set 2 _) hrl).setO HNE.out 0 _).sl).mono ?_; rintro e w9 ⟨a9, c9, rfl, hn9, hb9⟩; have N9 := hid hn9; have B9 := hid hb9; clear hn9 hb9)
          | fail)
        all_goals go_ret
        all_goals exact ⟨_, _, rfl, N9.out.low (by have h1 := ((K2.out.trans K3.out).trans K6.out).size; simp only [World.size_setCell]; exact h1), by rw [HWE.out]; exact (H6.out.setO (P6.out.other (by simp; omega) _) 0 _).bw B9.out, (((((K2.out.trans K3.out).trans K6.out).set 2 _).setNew (Nat.le_refl _) 0 _).bw B9.out), HLJ.out⟩

end

end Go.Proofs.YtdhkcdehedbpcaaDoor

namespace Go.Proofs.YtdhkcdehedbpcaaDoor
open Go Go.RowKit

theorem several_step {w : World} {r f : Nat} {T : List ATok} {o : Int} {s s' : DS} {l : List ANode} {k : Int} (hc : ∀ g, g ≤ f → Con T r g) (n : ANode) (rc : Bool) (h : dR T (f + 1) (.several n rc) o s = some (l, k, s')) (hr : RdM w r T o s) : Calls Tryd.prog 101 #[.pointer (some ⟨r, 0, none⟩), nodeV n, .string (if rc then ⟨#[123]⟩ else ⟨#[91]⟩), .string (if rc then ⟨#[125]⟩ else ⟨#[93]⟩)] w (DG w r T o l s') := by
 cases rc with
 | false => exact row_step hc n h hr
 | true => exact rec_step hc n h hr

end Go.Proofs.YtdhkcdehedbpcaaDoor

