/-
  What chapter 4's model StmtsRun (package spec) answers: l4While, l4Run.
-/
import Derived.Test.YtdlcdllmhacaaaaGreatDoorRunData
import Derived.Test.YtdlcdllmhacaaaaGreatDoorRowT
namespace Go.Proofs.YtdlcdllmhacaaaaGreatDoor
open Go.ChangeShapes Go.WideShapes Go.ChangeAt Go.RowKit
set_option linter.unusedVariables false
set_option maxRecDepth 100000

theorem Out.refl (lo hi : Nat) (w : World) : Out lo hi w w := ⟨rfl, rfl, rfl, Nat.le_refl _, fun _ _ _ => rfl⟩

/-- A block that is new since then is written. -/
theorem Out.put {lo hi P : Nat} {w u u1 : World} (h : Out lo hi w u) (hb : Below P u u1) (hn : ∀ k, k ≠ P → u1.heap[k]? = u.heap[k]?) (hs : u1.heap.size = u.heap.size) (hP : w.heap.size ≤ P) : Out lo hi w u1 :=
  ⟨hb.os.trans h.os, hb.tape.trans h.tape, hb.output.trans h.output, by rw [hs]; exact h.size, fun k hk ho => by rw [hn k (by omega)]; exact h.block k hk ho⟩

theorem SR.out {w w' : World} {lo hi lo' hi' : Nat} {v : Value} {ss : List StmtD} (h : SR w lo' hi' v ss) (ho : Out lo hi w w') (h1 : hi' ≤ w.heap.size) (h2 : hi' ≤ lo ∨ hi ≤ lo') : SR w' lo' hi' v ss :=
  h.kept fun k h3 h4 => ho.block k (by omega) (by omega)
theorem KR.out {w w' : World} {lo hi lo' hi' : Nat} {v : Value} {es : List ExprD} (h : KR w lo' hi' v es) (ho : Out lo hi w w') (h1 : hi' ≤ w.heap.size) (h2 : hi' ≤ lo ∨ hi ≤ lo') : KR w' lo' hi' v es :=
  h.kept fun k h3 h4 => ho.block k (by omega) (by omega)

theorem MO.aggs {w : World} {lo hi : Nat} {m : Value} {d : MemD} (h : MO w lo hi m d) : ∃ pa ca pb cb pc cc, m = .agg #[.slice pa d.i.length ca, .slice pb d.o.length cb, .slice pc d.v.length cc] := by
  obtain ⟨a, b, c, rfl, h1, h2, h3, _⟩ := h
  obtain ⟨pa, ca, rfl⟩ := h1.si.shape
  obtain ⟨pb, cb, rfl⟩ := h2.si.shape
  obtain ⟨pc, cc, rfl⟩ := h3.si.shape
  exact ⟨pa, ca, pb, cb, pc, cc, rfl⟩

/-- What l4Run answers of lists not deeper than d. -/
def RunSp (dp : Nat) : Prop := ∀ (w : World) (lo hi lo' hi' : Nat) (ma mb mc v : Value) (d d1 : MemD) (ss : List StmtD) (f f1 : Nat) (c1 : Int), MO w lo hi (.agg #[ma, mb, mc]) d → hi ≤ w.heap.size → SR w lo' hi' v ss → hi' ≤ w.heap.size → (hi' ≤ lo ∨ hi ≤ lo') → memOk d = true → formT dp ss = true → sizeL ss ≤ 1048576 → f ≤ 100 →
  runL ss d f = (d1, c1, f1) →
  Calls Tryz.prog 23 #[.agg #[ma, mb, mc], v, .int .i64 f] w fun e w' => e = .returned (.tuple #[.agg #[ma, mb, mc], .int .i64 c1, .int .i64 f1]) ∧ MO w' lo hi (.agg #[ma, mb, mc]) d1 ∧ Out lo hi w w'

/-- A memory's variable, and the one that is answered. -/
structure TwoVars (u : World) (P Q : Nat) (ma mb mc : Value) : Prop where
  p : Three u P ma mb mc
  q : Three u Q (.slice none 0 0) (.slice none 0 0) (.slice none 0 0)

theorem TwoVars.at_ {u u' : World} {P Q : Nat} {ma mb mc : Value} (h : TwoVars u P Q ma mb mc) (h1 : u'.heap[P]? = u.heap[P]?) (h2 : u'.heap[Q]? = u.heap[Q]?) : TwoVars u' P Q ma mb mc := ⟨h.p.at_ h1, h.q.at_ h2⟩

set_option maxHeartbeats 8000000 in
theorem l4While_of {dp : Nat} (H : RunSp dp) (w : World) (lo hi lo' hi' : Nat) (ma mb mc : Value) (d d1 : MemD) (s : StmtD) (ax ay az : Option Go.Addr) (cx cy cz : Nat) (f f1 : Nat) (c1 : Int) (hmo : MO w lo hi (.agg #[ma, mb, mc]) d) (hhi : hi ≤ w.heap.size)
    (hx : KR w lo' hi' (.slice ax s.e.kids.length cx) s.e.kids) (hy : SR w lo' hi' (.slice ay s.th.length cy) s.th) (hhi' : hi' ≤ w.heap.size) (hap : hi' ≤ lo ∨ hi ≤ lo') (hd : memOk d = true) (he : exprOk s.e = true) (hth : formT dp s.th = true) (hsz : sizeL s.th ≤ 1048576) (hf : f ≤ 100)
    (hr : whileD (onD s.e) (runL s.th) (f + 1) d f = (d1, c1, f1)) :
    Calls Tryz.prog 48 #[.agg #[ma, mb, mc], .agg #[.int .i64 s.k, .int .i64 s.tk, .int .i64 s.ta, .int .i64 s.e.k, .int .i64 s.e.n, .int .i64 s.e.ak, .int .i64 s.e.at_, .slice ax s.e.kids.length cx, .slice ay s.th.length cy, .slice az s.el.length cz], .int .i64 f] w fun e w' => e = .returned (.tuple #[.agg #[ma, mb, mc], .int .i64 c1, .int .i64 f1]) ∧ MO w' lo hi (.agg #[ma, mb, mc]) d1 ∧ Out lo hi w w' := by
  obtain ⟨pa, ca, pb, cb, pc, cc, hm⟩ := hmo.aggs
  simp only [Value.agg.injEq, Array.mk.injEq, List.cons.injEq, and_true] at hm
  have HSL : Hid ((∃ p l c, ma = .slice p l c) ∧ (∃ p l c, mb = .slice p l c) ∧ ∃ p l c, mc = .slice p l c) := ⟨⟨_, _, _, hm.1⟩, ⟨_, _, _, hm.2.1⟩, ⟨_, _, _, hm.2.2⟩⟩
  clear hm
  obtain ⟨⟨pa', la', ca', rfl⟩, ⟨pb', lb', cb', rfl⟩, ⟨pc', lc', cc', rfl⟩⟩ := HSL.out
  clear HSL
  have HX : Hid (KR w lo' hi' (.slice ax s.e.kids.length cx) s.e.kids ∧ SR w lo' hi' (.slice ay s.th.length cy) s.th) := ⟨hx, hy⟩
  have HMO : Hid (MO w lo hi (.agg #[.slice pa' la' ca', .slice pb' lb' cb', .slice pc' lc' cc']) d) := hmo
  have HR : Hid (whileD (onD s.e) (runL s.th) (f + 1) d f = (d1, c1, f1)) := hr
  have HB : Hid (∀ d f, memOk d = true → EndOk f (runL s.th d f)) := fun d f h => runL_ok s.th d f h
  have HD : Hid (memOk d = true) := hd
  have HE : Hid (exprOk s.e = true ∧ formT dp s.th = true) := ⟨he, hth⟩
  clear hx hy hmo hr hd he hth
  go_enter Tryz.func48, Tryz.ntmps48
  go_wp2_with fail
  obtain ⟨u0, hu0, G0, V0, T0, S0⟩ : ∃ u0, ((w.alloc (.cells #[.slice pa' la' ca', .slice pb' lb' cb', .slice pc' lc' cc'] 28)).alloc (.cells #[.int .i64 s.k, .int .i64 s.tk, .int .i64 s.ta, .int .i64 s.e.k, .int .i64 s.e.n, .int .i64 s.e.ak, .int .i64 s.e.at_, .slice ax s.e.kids.length cx, .slice ay s.th.length cy, .slice az s.el.length cz] 60)).alloc (.cells #[.slice none 0 0, .slice none 0 0, .slice none 0 0] 28) = u0 ∧ Below w.heap.size w u0 ∧ TwoVars u0 w.heap.size (w.heap.size + 1 + 1) (.slice pa' la' ca') (.slice pb' lb' cb') (.slice pc' lc' cc') ∧ TenW u0 (w.heap.size + 1) (.int .i64 s.k) (.int .i64 s.tk) (.int .i64 s.ta) (.int .i64 s.e.k) (.int .i64 s.e.n) (.int .i64 s.e.ak) (.int .i64 s.e.at_) (.slice ax s.e.kids.length cx) (.slice ay s.th.length cy) (.slice az s.el.length cz) ∧ u0.heap.size = w.heap.size + 3 := by
    have b1 := (Below.refl w.heap.size w).alloc (Nat.le_refl _) (.cells #[.slice pa' la' ca', .slice pb' lb' cb', .slice pc' lc' cc'] 28)
    have n1 := three_new w (.slice pa' la' ca') (.slice pb' lb' cb') (.slice pc' lc' cc') 28
    obtain ⟨w1, e1⟩ : ∃ w1, w.alloc (.cells #[.slice pa' la' ca', .slice pb' lb' cb', .slice pc' lc' cc'] 28) = w1 := ⟨_, rfl⟩
    have s1 : w1.heap.size = w.heap.size + 1 := by rw [← e1]; simp
    rw [e1] at n1 b1 ⊢
    have b2 := (Below.refl w1.heap.size w1).alloc (Nat.le_refl _) (.cells #[.int .i64 s.k, .int .i64 s.tk, .int .i64 s.ta, .int .i64 s.e.k, .int .i64 s.e.n, .int .i64 s.e.ak, .int .i64 s.e.at_, .slice ax s.e.kids.length cx, .slice ay s.th.length cy, .slice az s.el.length cz] 60)
    have n2 := tenW_new w1 (.int .i64 s.k) (.int .i64 s.tk) (.int .i64 s.ta) (.int .i64 s.e.k) (.int .i64 s.e.n) (.int .i64 s.e.ak) (.int .i64 s.e.at_) (.slice ax s.e.kids.length cx) (.slice ay s.th.length cy) (.slice az s.el.length cz) 60
    obtain ⟨w2, e2⟩ : ∃ w2, w1.alloc (.cells #[.int .i64 s.k, .int .i64 s.tk, .int .i64 s.ta, .int .i64 s.e.k, .int .i64 s.e.n, .int .i64 s.e.ak, .int .i64 s.e.at_, .slice ax s.e.kids.length cx, .slice ay s.th.length cy, .slice az s.el.length cz] 60) = w2 := ⟨_, rfl⟩
    have s2 : w2.heap.size = w1.heap.size + 1 := by rw [← e2]; simp
    rw [e2] at n2 b2 ⊢
    have b3 := (Below.refl w2.heap.size w2).alloc (Nat.le_refl _) (.cells #[.slice none 0 0, .slice none 0 0, .slice none 0 0] 28)
    have n3 := three_new w2 (.slice none 0 0) (.slice none 0 0) (.slice none 0 0) 28
    refine ⟨_, rfl, below_two (below_two b1 b2) b3, ⟨(n1.at_ (b2.block _ (by omega))).at_ (b3.block _ (by omega)), ?_⟩, ?_, by rw [World.size_alloc]; omega⟩
    · rw [s2, s1] at n3; exact n3
    · have := n2.under b3 (by omega); rwa [s1] at this
  rw [hu0]
  clear hu0
  have HI0 : Hid (MO u0 lo hi (.agg #[.slice pa' la' ca', .slice pb' lb' cb', .slice pc' lc' cc']) d ∧ Out lo hi w u0 ∧ TwoVars u0 w.heap.size (w.heap.size + 1 + 1) (.slice pa' la' ca') (.slice pb' lb' cb') (.slice pc' lc' cc') ∧ TenW u0 (w.heap.size + 1) (.int .i64 s.k) (.int .i64 s.tk) (.int .i64 s.ta) (.int .i64 s.e.k) (.int .i64 s.e.n) (.int .i64 s.e.ak) (.int .i64 s.e.at_) (.slice ax s.e.kids.length cx) (.slice ay s.th.length cy) (.slice az s.el.length cz)) := ⟨HMO.out.below G0 hhi, out_of_below G0 lo hi, V0, T0⟩
  clear G0 V0 T0 HMO
  go_loopw [2] (fun q wr => ∃ (d : MemD) (f : Nat), q = .int .i64 f ∧ f ≤ 100 ∧ w.heap.size + 3 ≤ wr.heap.size ∧ Hid (memOk d = true ∧ whileD (onD s.e) (runL s.th) (f + 1) d f = (d1, c1, f1)) ∧ Hid (MO wr lo hi (.agg #[.slice pa' la' ca', .slice pb' lb' cb', .slice pc' lc' cc']) d ∧ Out lo hi w wr ∧ TwoVars wr w.heap.size (w.heap.size + 1 + 1) (.slice pa' la' ca') (.slice pb' lb' cb') (.slice pc' lc' cc') ∧ TenW wr (w.heap.size + 1) (.int .i64 s.k) (.int .i64 s.tk) (.int .i64 s.ta) (.int .i64 s.e.k) (.int .i64 s.e.n) (.int .i64 s.e.ak) (.int .i64 s.e.at_) (.slice ax s.e.kids.length cx) (.slice ay s.th.length cy) (.slice az s.el.length cz))) (fun q _ => (intOf q).toNat)
  case atStart => exact ⟨d, f, rfl, hf, by omega, ⟨HD.out, HR.out⟩, HI0.out⟩
  case round =>
    clear HI0 HD HR hf S0 d f
    obtain ⟨d, f, rfl, hf, hs, HR, HI⟩ := hrel
    obtain ⟨hmo, hout, hV, hT⟩ := HI.out
    have hs0 := hout.size
    have hof := ofS 6 wr lo' hi' lo hi _ _ s.e d (HX.out.1.out hout hhi' hap) hmo.mi (by omega) (by omega) (exprOk_form HE.out.1) HR.out.1
    have hst := whileD_step (c := onD s.e) HB.out d f HR.out.1
    rw [HR.out.2] at hst
    have HST : Hid _ := hst
    obtain ⟨c0, c1', c2, _⟩ := id hV.p
    obtain ⟨_, _, _, e3, e4, e5, e6, e7, _, _, _⟩ := id hT
    clear hst hmo hout hV hT
    go_wp2_with fail
    refine hof.mono ?_
    clear hof c0 c1' c2 e3 e4 e5 e6 e7
    rintro en u1 ⟨rfl, g1⟩
    have hs1 := g1.size
    obtain ⟨hmo, hout, hV, hT⟩ := HI.out
    have HI1 : Hid (MO u1 lo hi (.agg #[.slice pa' la' ca', .slice pb' lb' cb', .slice pc' lc' cc']) d ∧ Out lo hi w u1 ∧ TwoVars u1 w.heap.size (w.heap.size + 1 + 1) (.slice pa' la' ca') (.slice pb' lb' cb') (.slice pc' lc' cc') ∧ TenW u1 (w.heap.size + 1) (.int .i64 s.k) (.int .i64 s.tk) (.int .i64 s.ta) (.int .i64 s.e.k) (.int .i64 s.e.n) (.int .i64 s.e.ak) (.int .i64 s.e.at_) (.slice ax s.e.kids.length cx) (.slice ay s.th.length cy) (.slice az s.el.length cz)) :=
      ⟨hmo.below g1 (by omega), hout.trans (out_of_below g1 lo hi), hV.at_ (g1.block _ (by omega)) (g1.block _ (by omega)), hT.under g1 (by omega)⟩
    clear HI g1 hmo hout hV hT
    have hon := fun W => sOn_any (evalD 6 d s.e) W
    go_wp2_with fail
    refine (hon _).mono ?_
    rintro en u2 ⟨rfl, rfl⟩
    clear hon
    obtain ⟨hmo, hout, hV, hT⟩ := HI1.out
    have hon' : onD s.e d = (evalD 6 d s.e != 0) := rfl
    cases hc : (evalD 6 d s.e != 0) with
    | false =>
      have hst := HST.out
      rw [hon', hc] at hst
      simp only [Bool.false_eq_true, if_false, Prod.mk.injEq] at hst
      obtain ⟨rfl, rfl, rfl⟩ := hst
      obtain ⟨u3, hu3, T3, N3, S3, B3⟩ := three_store hV.q (.slice pa' la' ca') (.slice pb' lb' cb') (.slice pc' lc' cc')
      have HU3 : Hid (_ = u3) := hu3
      have HO : Hid (MO u3 lo hi (.agg #[.slice pa' la' ca', .slice pb' lb' cb', .slice pc' lc' cc']) d1 ∧ Out lo hi w u3) := ⟨hmo.kept fun k h1 h2 => N3 k (by omega), hout.put B3 N3 S3 (by omega)⟩
      have HT3 : Hid (Three u3 (w.heap.size + 1 + 1) (.slice pa' la' ca') (.slice pb' lb' cb') (.slice pc' lc' cc')) := T3
      obtain ⟨c0, c1', c2, _⟩ := id hV.p
      obtain ⟨q0, q1, q2, qf⟩ := id hV.q
      have qf0 := qf 0
      have qf1 := qf 1
      have qf2 := qf 2
      clear hu3 T3 N3 B3 qf hmo hout hV hT HI1
      go_wp2
      rw [HU3.out]
      obtain ⟨r0, r1, r2, _⟩ := HT3.out
      exact bodyPost_ret (v := .tuple #[.agg #[.slice pa' la' ca', .slice pb' lb' cb', .slice pc' lc' cc'], .int .i64 0, .int .i64 (f1 : Int)]) (by simp [results, Tryz.results48, go_sem, r0, r1, r2]) rfl ⟨rfl, HO.out.1, HO.out.2⟩
    | true =>
      have hst := HST.out
      rw [hon', hc, if_pos rfl] at hst
      have hbk := HB.out d f HR.out.1
      obtain ⟨⟨d2, c2', f2⟩, hrb⟩ : ∃ r, runL s.th d f = r := ⟨_, rfl⟩
      rw [hrb] at hst hbk
      obtain ⟨hb1, hb2, hb3⟩ := hbk
      simp only at hst hb1 hb2 hb3
      have hrun := H _ lo hi lo' hi' _ _ _ _ d d2 s.th f f2 c2' hmo (by omega) (HX.out.2.out hout hhi' hap) (by omega) hap HR.out.1 HE.out.2 hsz hf hrb
      have HST2 : Hid _ := hst
      have HB2 : Hid (memOk d2 = true ∧ f2 ≤ f) := ⟨hb1, hb2⟩
      obtain ⟨c0, c1', c2, _⟩ := id hV.p
      have e8 := hT.c8
      clear hst hmo hout hV hT HST hb1 hb2
      go_wp2_with fail
      refine hrun.mono ?_
      clear hrun c0 c1' c2 e8
      rintro en u3 ⟨rfl, hmo3, hout3⟩
      have hs3 := hout3.size
      obtain ⟨hmo, hout, hV, hT⟩ := HI1.out
      have hV3 := hV.at_ (hout3.block w.heap.size (by omega) (by omega)) (hout3.block (w.heap.size + 1 + 1) (by omega) (by omega))
      have hT3 := hT.at_ (hout3.block (w.heap.size + 1) (by omega) (by omega))
      have hout03 := hout.trans hout3
      clear hmo hout hV hT hout3 HI1
      obtain ⟨u4, hu4, T4, N4, S4, B4⟩ := three_store hV3.p (.slice pa' la' ca') (.slice pb' lb' cb') (.slice pc' lc' cc')
      have hmo4 : MO u4 lo hi (.agg #[.slice pa' la' ca', .slice pb' lb' cb', .slice pc' lc' cc']) d2 := hmo3.kept fun k h1 h2 => N4 k (by omega)
      have hout4 : Out lo hi w u4 := hout03.put B4 N4 S4 (Nat.le_refl _)
      have hV4 : TwoVars u4 w.heap.size (w.heap.size + 1 + 1) (.slice pa' la' ca') (.slice pb' lb' cb') (.slice pc' lc' cc') := ⟨T4, hV3.q.at_ (N4 _ (by omega))⟩
      have hT4 := hT3.at_ (N4 (w.heap.size + 1) (by omega))
      obtain ⟨c0, c1', c2, cf⟩ := id hV3.p
      have cf0 := cf 0
      have cf1 := cf 1
      have cf2 := cf 2
      have HU4 : Hid (_ = u4) := hu4
      have hw0 : w.heap.size < u3.heap.size := by omega
      have hw2 : w.heap.size + 1 + 1 < u3.heap.size := by omega
      have hne0 : ¬ w.heap.size = w.heap.size + 1 + 1 := by omega
      have hne1 : ¬ w.heap.size = u3.heap.size := by omega
      have hne2 : ¬ w.heap.size + 1 + 1 = u3.heap.size := by omega
      rcases hb3 with rfl | ⟨rfl, rfl⟩
      · have hst := HST2.out
        rw [if_neg (by simp)] at hst
        by_cases hf2 : f2 = 0
        · rw [if_pos hf2] at hst
          simp only [Prod.mk.injEq] at hst
          obtain ⟨rfl, rfl, rfl⟩ := hst
          have hlt : (f2 : Int) < 1 := by omega
          obtain ⟨u5, hu5, T5, N5, S5, B5⟩ := three_store hV4.q (.slice pa' la' ca') (.slice pb' lb' cb') (.slice pc' lc' cc')
          obtain ⟨u6, hu6, G6⟩ : ∃ u6, u5.alloc (.cells #[.slice pa' la' ca', .slice pb' lb' cb', .slice pc' lc' cc'] 28) = u6 ∧ Below u5.heap.size u5 u6 := ⟨_, rfl, (Below.refl _ _).alloc (Nat.le_refl _) _⟩
          have HU5 : Hid (_ = u5) := hu5
          have HU6 : Hid (_ = u6) := hu6
          have HO : Hid (MO u6 lo hi (.agg #[.slice pa' la' ca', .slice pb' lb' cb', .slice pc' lc' cc']) d1 ∧ Out lo hi w u6) := ⟨(hmo4.kept fun k h1 h2 => N5 k (by omega)).below G6 (by omega), (hout4.put B5 N5 S5 (by omega)).trans (out_of_below G6 lo hi)⟩
          have HT6 : Hid (Three u6 (w.heap.size + 1 + 1) (.slice pa' la' ca') (.slice pb' lb' cb') (.slice pc' lc' cc')) := T5.at_ (G6.block _ (by omega))
          obtain ⟨q0, q1, q2, qf⟩ := id hV3.q
          have qf0 := qf 0
          have qf1 := qf 1
          have qf2 := qf 2
          clear hu4 hu5 hu6 T5 N5 B5 qf cf T4 N4 B4 hmo4 hout4 hV4 hT4 hmo3 hout03 hV3 hT3 G6
          go_wp2
          rw [HU4.out, HU5.out, HU6.out]
          obtain ⟨r0, r1, r2, _⟩ := HT6.out
          exact bodyPost_ret (v := .tuple #[.agg #[.slice pa' la' ca', .slice pb' lb' cb', .slice pc' lc' cc'], .int .i64 1, .int .i64 0]) (by simp [results, Tryz.results48, go_sem, r0, r1, r2]) rfl ⟨rfl, HO.out.1, HO.out.2⟩
        · rw [if_neg hf2] at hst
          have hlt : ¬ (f2 : Int) < 1 := by omega
          have HN : Hid (memOk d2 = true ∧ whileD (onD s.e) (runL s.th) (f2 - 1 + 1) d2 (f2 - 1) = (d1, c1, f1)) := ⟨HB2.out.1, hst.symm⟩
          obtain ⟨u5, hu5, G5⟩ : ∃ u5, u4.alloc (.cells #[.slice pa' la' ca', .slice pb' lb' cb', .slice pc' lc' cc'] 28) = u5 ∧ Below u4.heap.size u4 u5 := ⟨_, rfl, (Below.refl _ _).alloc (Nat.le_refl _) _⟩
          have HU5 : Hid (_ = u5) := hu5
          have hs5 := G5.size
          have HI5 : Hid (MO u5 lo hi (.agg #[.slice pa' la' ca', .slice pb' lb' cb', .slice pc' lc' cc']) d2 ∧ Out lo hi w u5 ∧ TwoVars u5 w.heap.size (w.heap.size + 1 + 1) (.slice pa' la' ca') (.slice pb' lb' cb') (.slice pc' lc' cc') ∧ TenW u5 (w.heap.size + 1) (.int .i64 s.k) (.int .i64 s.tk) (.int .i64 s.ta) (.int .i64 s.e.k) (.int .i64 s.e.n) (.int .i64 s.e.ak) (.int .i64 s.e.at_) (.slice ax s.e.kids.length cx) (.slice ay s.th.length cy) (.slice az s.el.length cz)) := ⟨hmo4.below G5 (by omega), hout4.trans (out_of_below G5 lo hi), hV4.at_ (G5.block _ (by omega)) (G5.block _ (by omega)), hT4.under G5 (by omega)⟩
          have hff := HB2.out.2
          have hcast : ((f2 - 1 : Nat) : Int) = (f2 : Int) - 1 := by omega
          have HCT : Hid (((f2 - 1 : Nat) : Int) = (f2 : Int) - 1) := hcast
          clear hu4 hu5 cf T4 N4 B4 hmo4 hout4 hV4 hT4 hmo3 hout03 hV3 hT3 G5 hst hcast
          go_wp2
          rw [HU4.out, HU5.out]
          go_roundw
          case rel => exact ⟨d2, f2 - 1, by rw [HCT.out], by omega, by omega, HN.out, HI5.out⟩
          case measure => simp [intOf]; omega
      · have hst := HST2.out
        rw [if_pos (by simp)] at hst
        simp only [Prod.mk.injEq] at hst
        obtain ⟨rfl, rfl, rfl⟩ := hst
        obtain ⟨u5, hu5, T5, N5, S5, B5⟩ := three_store hV4.q (.slice pa' la' ca') (.slice pb' lb' cb') (.slice pc' lc' cc')
        obtain ⟨u6, hu6, G6⟩ : ∃ u6, u5.alloc (.cells #[.slice pa' la' ca', .slice pb' lb' cb', .slice pc' lc' cc'] 28) = u6 ∧ Below u5.heap.size u5 u6 := ⟨_, rfl, (Below.refl _ _).alloc (Nat.le_refl _) _⟩
        have HU5 : Hid (_ = u5) := hu5
        have HU6 : Hid (_ = u6) := hu6
        have HO : Hid (MO u6 lo hi (.agg #[.slice pa' la' ca', .slice pb' lb' cb', .slice pc' lc' cc']) d1 ∧ Out lo hi w u6) := ⟨(hmo4.kept fun k h1 h2 => N5 k (by omega)).below G6 (by omega), (hout4.put B5 N5 S5 (by omega)).trans (out_of_below G6 lo hi)⟩
        have HT6 : Hid (Three u6 (w.heap.size + 1 + 1) (.slice pa' la' ca') (.slice pb' lb' cb') (.slice pc' lc' cc')) := T5.at_ (G6.block _ (by omega))
        obtain ⟨q0, q1, q2, qf⟩ := id hV3.q
        have qf0 := qf 0
        have qf1 := qf 1
        have qf2 := qf 2
        clear hu4 hu5 hu6 T5 N5 B5 qf cf T4 N4 B4 hmo4 hout4 hV4 hT4 hmo3 hout03 hV3 hT3 G6
        go_wp2
        rw [HU4.out, HU5.out, HU6.out]
        obtain ⟨r0, r1, r2, _⟩ := HT6.out
        exact bodyPost_ret (v := .tuple #[.agg #[.slice pa' la' ca', .slice pb' lb' cb', .slice pc' lc' cc'], .int .i64 1, .int .i64 0]) (by simp [results, Tryz.results48, go_sem, r0, r1, r2]) rfl ⟨rfl, HO.out.1, HO.out.2⟩
end Go.Proofs.YtdlcdllmhacaaaaGreatDoor
