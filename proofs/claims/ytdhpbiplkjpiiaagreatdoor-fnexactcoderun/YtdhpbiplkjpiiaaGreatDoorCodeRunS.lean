/-
  What chapter 5's model CodeRun (package spec) answers. (Written by our generator gen_coderunspec.py.)
-/
import Derived.Test.YtdhpbiplkjpiiaaGreatDoorL5Run
import Derived.Test.YtdhpbiplkjpiiaaGreatDoorDepSpecC
import Derived.Test.YtdhpbiplkjpiiaaGreatDoorRowT
namespace Go.Proofs.YtdhpbiplkjpiiaaGreatDoor
open Go.ChangeShapes Go.WideShapes Go.ChangeAt Go.RowKit
set_option linter.unusedVariables false
set_option maxRecDepth 100000

theorem MO.wideR {w : World} {lo hi lo' hi' : Nat} {m : Value} {d : MemD} (h : MO w lo hi m d) (h1 : lo' ≤ lo) (h2 : hi ≤ hi') : MO w lo' hi' m d := by
  obtain ⟨a, b, c, rfl, x, y, z, r⟩ := h
  exact ⟨a, b, c, rfl, x.wide h1 h2, y.wide h1 h2, z.wide h1 h2, r⟩

theorem memOk_manyR {d : MemD} (h : memOk d = true) : d.many = 18 := by
  unfold memOk listOk at h
  simp only [Bool.and_eq_true, decide_eq_true_eq] at h
  unfold MemD.many
  omega

/-- A memory's variable, and the one that is answered. -/
structure TwoVarsR (u : World) (P Q : Nat) (ma mb mc : Value) : Prop where
  p : Three u P ma mb mc
  q : Three u Q (.slice none 0 0) (.slice none 0 0) (.slice none 0 0)

theorem TwoVarsR.at_ {u u' : World} {P Q : Nat} {ma mb mc : Value} (h : TwoVarsR u P Q ma mb mc) (h1 : u'.heap[P]? = u.heap[P]?) (h2 : u'.heap[Q]? = u.heap[Q]?) : TwoVarsR u' P Q ma mb mc := ⟨h.p.at_ h1, h.q.at_ h2⟩

set_option maxHeartbeats 4000000 in
theorem sCodeRun_any (w : World) (lo hi lo' hi' : Nat) (m v : Value) (d : MemD) (ps : List InsD) (f : Int) (hm : MI w lo hi m d) (hhi : hi ≤ w.heap.size) (hss : NR w lo' hi' v ps) (hhi' : hi' ≤ w.heap.size) :
    Calls Tryz.prog 6 #[m, v, .int .i64 f] w fun e w' => ∃ m', e = .returned (.tuple #[m', .int .i64 (codeRun d ps f).2.1, .int .i64 (codeRun d ps f).2.2]) ∧ MO w' w.heap.size w'.heap.size m' (codeRun d ps f).1 ∧ Below w.heap.size w w' := by
  obtain ⟨pa, la, ca, pb, lb, cb, pc, lc, cc, rfl⟩ := hm.aggs
  obtain ⟨ad, cap, rfl, _, _⟩ := hss.shape
  have HM : Hid (MI w lo hi (.agg #[.slice pa la ca, .slice pb lb cb, .slice pc lc cc]) d ∧ NR w lo' hi' (.slice ad ps.length cap) ps) := ⟨hm, hss⟩
  have HR : Hid (codeRun d ps f = if memOk d && codeOk ps && decide (0 ≤ f) && decide (f ≤ 100) then ((runC ps ⟨0, d, [], f.toNat⟩).1, (runC ps ⟨0, d, [], f.toNat⟩).2.1, ((runC ps ⟨0, d, [], f.toNat⟩).2.2 : Int)) else (⟨[], [], []⟩, 2, 0)) := rfl
  obtain ⟨⟨dr, cr, fr⟩, hr⟩ : ∃ r, codeRun d ps f = r := ⟨_, rfl⟩
  rw [hr] at HR ⊢
  clear hm hss hr
  simp only
  go_enter Tryz.func6, Tryz.ntmps6
  go_wp2_with fail
  obtain ⟨u0, hu0, G0, V0, S0⟩ : ∃ u0, (w.alloc (.cells #[.slice pa la ca, .slice pb lb cb, .slice pc lc cc] 28)).alloc (.cells #[.slice none 0 0, .slice none 0 0, .slice none 0 0] 28) = u0 ∧ Below w.heap.size w u0 ∧ TwoVarsR u0 w.heap.size (w.heap.size + 1) (.slice pa la ca) (.slice pb lb cb) (.slice pc lc cc) ∧ u0.heap.size = w.heap.size + 2 := by
    have b1 := (Below.refl w.heap.size w).alloc (Nat.le_refl _) (.cells #[.slice pa la ca, .slice pb lb cb, .slice pc lc cc] 28)
    have n1 := three_new w (.slice pa la ca) (.slice pb lb cb) (.slice pc lc cc) 28
    obtain ⟨w1, e1⟩ : ∃ w1, w.alloc (.cells #[.slice pa la ca, .slice pb lb cb, .slice pc lc cc] 28) = w1 := ⟨_, rfl⟩
    have s1 : w1.heap.size = w.heap.size + 1 := by rw [← e1]; simp
    rw [e1] at n1 b1 ⊢
    have b3 := (Below.refl w1.heap.size w1).alloc (Nat.le_refl _) (.cells #[.slice none 0 0, .slice none 0 0, .slice none 0 0] 28)
    have n3 := three_new w1 (.slice none 0 0) (.slice none 0 0) (.slice none 0 0) 28
    refine ⟨_, rfl, below_two b1 b3, ⟨n1.at_ (b3.block _ (by omega)), ?_⟩, by rw [World.size_alloc]; omega⟩
    rw [s1] at n3; exact n3
  rw [hu0]
  clear hu0
  refine (sMemOk_any _ lo hi _ d (HM.out.1.below G0 hhi) (by omega)).mono ?_
  rintro e1 u1 ⟨rfl, g1⟩
  have s1 := g1.size
  have G1 := G0.trans (g1.mono (by omega))
  have V1 := V0.at_ (g1.block _ (by omega)) (g1.block _ (by omega))
  clear g1 G0 V0
  -- what is not ok
  cases hmk : memOk d with
  | false =>
    have hrr := HR.out
    rw [hmk] at hrr
    simp only [Bool.false_and, Bool.false_eq_true, if_false, Prod.mk.injEq] at hrr
    obtain ⟨rfl, rfl, rfl⟩ := hrr
    obtain ⟨u5, hu5, T5, N5, S5, B5⟩ := three_store V1.q (.slice none 0 0) (.slice none 0 0) (.slice none 0 0)
    have HU5 : Hid (_ = u5) := hu5
    have HB : Hid (Below w.heap.size w u5) := G1.trans (B5.mono (by omega))
    have HT5 : Hid (Three u5 (w.heap.size + 1) (.slice none 0 0) (.slice none 0 0) (.slice none 0 0)) := T5
    obtain ⟨q0, q1, q2, qf⟩ := id V1.q
    have qf0 := qf 0
    have qf1 := qf 1
    have qf2 := qf 2
    clear hu5 T5 N5 B5 qf V1 G1
    go_wp2
    rw [HU5.out]
    obtain ⟨r0, r1, r2, _⟩ := HT5.out
    exact bodyPost_ret (v := .tuple #[.agg #[.slice none 0 0, .slice none 0 0, .slice none 0 0], .int .i64 2, .int .i64 0]) (by simp [results, Tryz.results6, go_sem, r0, r1, r2]) rfl ⟨_, rfl, mo_none _ _ _, HB.out⟩
  | true =>
    go_wp2_with fail
    refine (sCodeOk_any _ lo' hi' _ ps (HM.out.2.under G1 hhi') (by omega)).mono ?_
    rintro e2 u2 ⟨rfl, g2⟩
    have s2 := g2.size
    have G1 := G1.trans (g2.mono (by omega))
    have V1 := V1.at_ (g2.block _ (by omega)) (g2.block _ (by omega))
    clear g2
    cases hsk : codeOk ps with
    | false =>
      have hrr := HR.out
      rw [hmk, hsk] at hrr
      simp only [Bool.and_false, Bool.false_and, Bool.false_eq_true, if_false, Prod.mk.injEq] at hrr
      obtain ⟨rfl, rfl, rfl⟩ := hrr
      obtain ⟨u5, hu5, T5, N5, S5, B5⟩ := three_store V1.q (.slice none 0 0) (.slice none 0 0) (.slice none 0 0)
      have HU5 : Hid (_ = u5) := hu5
      have HB : Hid (Below w.heap.size w u5) := G1.trans (B5.mono (by omega))
      have HT5 : Hid (Three u5 (w.heap.size + 1) (.slice none 0 0) (.slice none 0 0) (.slice none 0 0)) := T5
      obtain ⟨q0, q1, q2, qf⟩ := id V1.q
      have qf0 := qf 0
      have qf1 := qf 1
      have qf2 := qf 2
      clear hu5 T5 N5 B5 qf V1 G1
      go_wp2
      rw [HU5.out]
      obtain ⟨r0, r1, r2, _⟩ := HT5.out
      exact bodyPost_ret (v := .tuple #[.agg #[.slice none 0 0, .slice none 0 0, .slice none 0 0], .int .i64 2, .int .i64 0]) (by simp [results, Tryz.results6, go_sem, r0, r1, r2]) rfl ⟨_, rfl, mo_none _ _ _, HB.out⟩
    | true =>
      by_cases hf0 : f < 0
      · have hrr := HR.out
        rw [hmk, hsk, decide_eq_false (show ¬ 0 ≤ f by omega)] at hrr
        simp only [Bool.and_false, Bool.false_and, Bool.false_eq_true, if_false, Prod.mk.injEq] at hrr
        obtain ⟨rfl, rfl, rfl⟩ := hrr
        obtain ⟨u5, hu5, T5, N5, S5, B5⟩ := three_store V1.q (.slice none 0 0) (.slice none 0 0) (.slice none 0 0)
        have HU5 : Hid (_ = u5) := hu5
        have HB : Hid (Below w.heap.size w u5) := G1.trans (B5.mono (by omega))
        have HT5 : Hid (Three u5 (w.heap.size + 1) (.slice none 0 0) (.slice none 0 0) (.slice none 0 0)) := T5
        obtain ⟨q0, q1, q2, qf⟩ := id V1.q
        have qf0 := qf 0
        have qf1 := qf 1
        have qf2 := qf 2
        clear hu5 T5 N5 B5 qf V1 G1
        go_wp2
        rw [HU5.out]
        obtain ⟨r0, r1, r2, _⟩ := HT5.out
        exact bodyPost_ret (v := .tuple #[.agg #[.slice none 0 0, .slice none 0 0, .slice none 0 0], .int .i64 2, .int .i64 0]) (by simp [results, Tryz.results6, go_sem, r0, r1, r2]) rfl ⟨_, rfl, mo_none _ _ _, HB.out⟩
      by_cases hf1 : 100 < f
      · have hrr := HR.out
        rw [hmk, hsk, decide_eq_false (show ¬ f ≤ 100 by omega)] at hrr
        simp only [Bool.and_false, Bool.false_eq_true, if_false, Prod.mk.injEq] at hrr
        obtain ⟨rfl, rfl, rfl⟩ := hrr
        obtain ⟨u5, hu5, T5, N5, S5, B5⟩ := three_store V1.q (.slice none 0 0) (.slice none 0 0) (.slice none 0 0)
        have HU5 : Hid (_ = u5) := hu5
        have HB : Hid (Below w.heap.size w u5) := G1.trans (B5.mono (by omega))
        have HT5 : Hid (Three u5 (w.heap.size + 1) (.slice none 0 0) (.slice none 0 0) (.slice none 0 0)) := T5
        obtain ⟨q0, q1, q2, qf⟩ := id V1.q
        have qf0 := qf 0
        have qf1 := qf 1
        have qf2 := qf 2
        clear hu5 T5 N5 B5 qf V1 G1
        go_wp2
        rw [HU5.out]
        obtain ⟨r0, r1, r2, _⟩ := HT5.out
        exact bodyPost_ret (v := .tuple #[.agg #[.slice none 0 0, .slice none 0 0, .slice none 0 0], .int .i64 2, .int .i64 0]) (by simp [results, Tryz.results6, go_sem, r0, r1, r2]) rfl ⟨_, rfl, mo_none _ _ _, HB.out⟩
      have hrr := HR.out
      rw [hmk, hsk, decide_eq_true (show 0 ≤ f by omega), decide_eq_true (show f ≤ 100 by omega)] at hrr
      simp only [Bool.and_true, if_true, Prod.mk.injEq] at hrr
      obtain ⟨n, rfl⟩ : ∃ n : Nat, f = n := ⟨f.toNat, by omega⟩
      rw [Int.toNat_natCast] at hrr
      obtain ⟨⟨d2, c2, f2⟩, hrb⟩ : ∃ r, runC ps ⟨0, d, [], n⟩ = r := ⟨_, rfl⟩
      rw [hrb] at hrr
      simp only at hrr
      obtain ⟨rfl, rfl, rfl⟩ := hrr
      obtain ⟨b0, b1, b2, _⟩ := id V1.p
      have hcp := l2Copy_any u2 lo hi _ d (HM.out.1.below G1 hhi) (by omega) (by rw [memOk_manyR hmk]; omega)
      go_wp2_with fail
      refine hcp.mono ?_
      clear hcp b0 b1 b2
      rintro e3 u3 ⟨m3, rfl, O3, g3⟩
      have s3 := g3.size
      have G3 := G1.trans (g3.mono (by omega))
      have V3 := V1.at_ (g3.block _ (by omega)) (g3.block _ (by omega))
      obtain ⟨qa, xa, ya, qb, xb, yb, qc, xc, yc, rfl⟩ := O3.mi.aggs
      obtain ⟨DD, hFl⟩ := codeOk_flow hsk
      have hrun := l5Run_any u3 u2.heap.size u3.heap.size lo' hi' qa qb qc xa ya xb yb xc yc _ d ps DD n dr cr f2 hFl hmk (by omega) hrb O3 (Nat.le_refl _) (HM.out.2.under G3 hhi') (by omega) (by omega)
      clear g3 G1 V1 O3
      go_wp2_with fail
      refine hrun.mono ?_
      clear hrun
      rintro e4 u4 ⟨rfl, O4, o4⟩
      have s4 := o4.size
      have V4 := V3.at_ (o4.block _ (by omega) (by omega)) (o4.block _ (by omega) (by omega))
      have G4 : Below w.heap.size w u4 := G3.trans (o4.below (by omega) (by omega))
      obtain ⟨u5, hu5, T5, N5, S5, B5⟩ := three_store V4.q (.slice qa xa ya) (.slice qb xb yb) (.slice qc xc yc)
      have HU5 : Hid (_ = u5) := hu5
      have HO : Hid (MO u5 w.heap.size u5.heap.size (.agg #[.slice qa xa ya, .slice qb xb yb, .slice qc xc yc]) dr ∧ Below w.heap.size w u5) := ⟨(O4.kept fun k h1 h2 => N5 k (by omega)).wideR (by omega) (by omega), G4.trans (B5.mono (by omega))⟩
      have HT5 : Hid (Three u5 (w.heap.size + 1) (.slice qa xa ya) (.slice qb xb yb) (.slice qc xc yc)) := T5
      obtain ⟨q0, q1, q2, qf⟩ := id V4.q
      have qf0 := qf 0
      have qf1 := qf 1
      have qf2 := qf 2
      clear hu5 T5 N5 B5 qf O4 o4 V4 V3 G3 G4
      go_wp2
      rw [HU5.out]
      obtain ⟨r0, r1, r2, _⟩ := HT5.out
      exact bodyPost_ret (v := .tuple #[.agg #[.slice qa xa ya, .slice qb xb yb, .slice qc xc yc], .int .i64 cr, .int .i64 (f2 : Int)]) (by simp [results, Tryz.results6, go_sem, r0, r1, r2]) rfl ⟨_, rfl, HO.out.1, HO.out.2⟩
end Go.Proofs.YtdhpbiplkjpiiaaGreatDoor
