/-
  FnExactSlimStmts, walked at every argument. (Written by our generator gen_lawslimst.py.)
-/
import Derived.Test.YtkeockippmmneaaGreatSlimZ
import Derived.Test.YtkeockippmmneaaGreatQS9
import Derived.Test.YtkeockippmmneaaGreatQS10
import Derived.Test.YtkeockippmmneaaGreatStmtMarkX
import Derived.Test.YtkeockippmmneaaGreatStmtSz
import Derived.Test.YtkeockippmmneaaGreatStmtEq
namespace Go.Proofs.YtkeockippmmneaaGreat
open Go.ChangeShapes Go.WideShapes Go.ChangeAt Go.RowKit
set_option linter.unusedVariables false
set_option maxRecDepth 100000

theorem SO.outS {w w' : World} {lo hi lo' hi' : Nat} {v : Value} {ss : List StmtD} (h : SO w lo hi v ss) (g : Out lo' hi' w w') (h1 : hi ≤ lo' ∨ hi' ≤ lo) (hs : hi ≤ w.heap.size) : SO w' lo hi v ss :=
  h.kept fun k q1 q2 => g.block k (by omega) (by omega)

set_option maxHeartbeats 4000000 in
theorem iSlimStmts_any (w : World) (lo hi : Nat) (v : Value) (ss : List StmtD) (h : SR w lo hi v ss) (hhi : hi ≤ w.heap.size) (hm : sizeL ss ≤ 1048576) :
    Calls Tryz.prog 7 #[v] w fun en w' => ∃ v', en = .returned v' ∧ SO w' w.heap.size w'.heap.size v' (slimStmts ss) ∧ Below w.heap.size w w' := by
  have HE : Hid (SR w lo hi v ss) := h
  obtain ⟨ad, cap, rfl, _, _⟩ := h.shape
  clear h
  have HR : Hid (slimStmts ss = if stmtsOk ss then slimTD 4 ss else []) := rfl
  obtain ⟨X, hX⟩ : ∃ X, slimStmts ss = X := ⟨_, rfl⟩
  rw [hX] at HR ⊢
  clear hX
  have hok0 := iStmtsOk_any w lo hi _ ss HE.out hhi hm
  go_enter Tryz.func7, Tryz.ntmps7
  go_wp2_with fail
  refine hok0.mono ?_
  clear hok0
  rintro e1 u1 ⟨rfl, G1⟩
  have S1 := G1.size
  cases hok : stmtsOk ss with
  | false =>
    have HX : Hid (X = []) := by show X = _; rw [HR.out, hok]; rfl
    go_wp2
    go_ret
    exact ⟨_, rfl, by rw [HX.out]; exact .nil _ _ _ _ (Nat.zero_le _), G1⟩
  | true =>
    have HX : Hid (X = slimTD 4 ss) := by show X = _; rw [HR.out, hok]; rfl
    have hfm : formT 4 ss = true := by unfold stmtsOk at hok; rw [Bool.and_eq_true] at hok; exact hok.2
    have hl := ltI 4 u1 lo hi _ ss hm (HE.out.under G1 hhi) (by omega) hfm
    rw [← HX.out] at hl
    clear hfm
    go_wp2_with fail
    refine hl.mono ?_
    clear hl
    rintro e2 u2 ⟨v2, rfl, O2, g2⟩
    have HB : Hid (Below w.heap.size w u2 ∧ SO u2 w.heap.size u2.heap.size v2 X) := ⟨G1.trans (g2.mono (by omega)), O2.wide (by omega) (Nat.le_refl _)⟩
    clear g2 G1 O2
    go_wp2
    go_ret
    exact ⟨_, rfl, HB.out.2, HB.out.1⟩

set_option maxHeartbeats 16000000 in
theorem exactSlimStmts_walk (w : World) (v0 : Value) (d0 : List StmtD) (r0 : SR w 0 w.heap.size v0 d0) :
    Calls Tryz.prog 3 #[v0] w fun e w' => e = .returned (.bool true) ∧ Below w.heap.size w w' := by
  obtain ⟨ad, cap, rfl, _, _⟩ := r0.shape
  have R0 : Hid (SR w 0 w.heap.size (.slice ad d0.length cap) d0) := r0
  clear r0
  have hqs := slimStmts_size d0
  obtain ⟨q, hq⟩ : ∃ q, slimStmts d0 = q := ⟨_, rfl⟩
  rw [hq] at hqs
  have HQ : Hid (slimStmts d0 = q) := hq
  clear hq
  have hqt := tk_size q
  have hdt := tk_size d0
  go_enter Tryz.func3, Tryz.ntmps3
  go_wp2_with fail
  refine (szStmtS_any _ _ _ _ d0 1048576 R0.out (Nat.le_refl _) (by omega) (by omega)).mono ?_
  by_cases big : (1048576 : Int) < (sizeL d0 : Int)
  · rw [if_pos big]
    rintro e1 u1 ⟨rfl, g1⟩
    go_wp2
    go_ret
    exact ⟨rfl, g1⟩
  rw [if_neg big]
  rintro e1 u1 ⟨rfl, G⟩
  have np : ¬ ((1048576 - (sizeL d0 : Int) : Int) < 0) := by omega
  have nb : sizeL d0 ≤ 1048576 := by omega
  have s1 := G.size
  go_wp2_with fail
  refine (toStmtS_any _ _ _ _ d0 (R0.out.under G (Nat.le_refl _)) (by omega) nb).mono ?_
  rintro e2 u2 ⟨v2, rfl, O2, g2⟩
  have s2 := g2.size
  replace G := G.trans (g2.mono (by omega))
  clear g2
  obtain ⟨a2, k2, rfl, _, _⟩ := O2.sr.shape
  have hc := sSlimStmts_any u2 _ _ _ d0 O2.sr (by omega) nb
  rw [HQ.out] at hc
  go_wp2_with fail
  refine hc.mono ?_
  clear hc
  rintro e3 u3 ⟨v3, rfl, W, g3⟩
  have s3 := g3.size
  clear O2
  replace G := G.trans (g3.mono (by omega))
  clear g3
  obtain ⟨a3, k3, rfl, _, _⟩ := W.sr.shape
  go_wp2_with fail
  refine (toStmtS_any _ _ _ _ d0 (R0.out.under G (Nat.le_refl _)) (by omega) nb).mono ?_
  rintro e4 u4 ⟨v4, rfl, X, g4⟩
  have s4 := g4.size
  replace G := G.trans (g4.mono (by omega))
  replace W := W.under g4 (by omega)
  clear g4
  obtain ⟨a4, k4, rfl, _, _⟩ := X.sr.shape
  have hc := iSlimStmts_any u4 _ _ _ d0 X.sr (by omega) nb
  rw [HQ.out] at hc
  go_wp2_with fail
  refine hc.mono ?_
  clear hc
  rintro e5 u5 ⟨v5, rfl, Y, g5⟩
  have s5 := g5.size
  replace G := G.trans (g5.mono (by omega))
  replace W := W.under g5 (by omega)
  replace X := X.under g5 (by omega)
  clear g5
  obtain ⟨a5, k5, rfl, _, _⟩ := Y.sr.shape
  go_wp2_with fail
  refine (eqStmtS_any _ _ _ _ _ _ _ q q Y.sr W.sr (by omega) (by omega)).mono ?_
  rintro e6 u6 ⟨r, rfl, hr, g6⟩
  obtain rfl : r = true := hr.mpr rfl
  have s6 := g6.size
  replace G := G.trans (g6.mono (by omega))
  replace W := W.under g6 (by omega)
  replace X := X.under g6 (by omega)
  replace Y := Y.under g6 (by omega)
  clear g6
  clear hr
  go_wp2_with fail
  refine (toStmtS_any _ _ _ _ d0 (R0.out.under G (Nat.le_refl _)) (by omega) nb).mono ?_
  rintro e7 u7 ⟨v7, rfl, Z, g7⟩
  have s7 := g7.size
  replace G := G.trans (g7.mono (by omega))
  replace W := W.under g7 (by omega)
  replace X := X.under g7 (by omega)
  replace Y := Y.under g7 (by omega)
  clear g7
  obtain ⟨a7, k7, rfl, _, _⟩ := Z.sr.shape
  go_wp2_with fail
  refine (eqStmtS_any _ _ _ _ _ _ _ d0 d0 X.sr Z.sr (by omega) (by omega)).mono ?_
  rintro e8 u8 ⟨r, rfl, hr, g8⟩
  obtain rfl : r = true := hr.mpr rfl
  have s8 := g8.size
  clear Z
  replace G := G.trans (g8.mono (by omega))
  replace W := W.under g8 (by omega)
  replace X := X.under g8 (by omega)
  replace Y := Y.under g8 (by omega)
  clear g8
  clear hr
  have hc := markX _ _ _ _ _ d0 1 (Nat.le_refl _) (by omega) (by omega) X (by omega)
  obtain ⟨M0, hM0⟩ : ∃ M : Int, (1 : Int) + (tkL d0 : Int) = M := ⟨_, rfl⟩
  rw [hM0] at hc
  have hneg : ¬ (M0 < 0) := by omega
  clear hM0
  go_wp2_with fail
  refine hc.mono ?_
  clear hc
  rintro e9 u9 ⟨rfl, X9, o9⟩
  have s9 := o9.size
  clear X X9
  replace G := G.trans (o9.below (by omega) (by omega))
  replace W := W.outS o9 (by omega) (by omega)
  replace Y := Y.outS o9 (by omega) (by omega)
  clear o9
  go_wp2_with fail
  refine (eqStmtS_any _ _ _ _ _ _ _ q q Y.sr W.sr (by omega) (by omega)).mono ?_
  rintro e10 u10 ⟨r, rfl, hr, g10⟩
  obtain rfl : r = true := hr.mpr rfl
  have s10 := g10.size
  replace G := G.trans (g10.mono (by omega))
  replace W := W.under g10 (by omega)
  replace Y := Y.under g10 (by omega)
  clear g10
  clear hr
  obtain ⟨M, hM⟩ : ∃ M : Int, (1 : Int) + (tkL q : Int) = M := ⟨_, rfl⟩
  have hm0 : ¬ (M < 0) := by omega
  have HM : Hid ((1 : Int) + (tkL q : Int) = M) := hM
  have HTQ : Hid (tkL q ≤ 7 * sizeL q ∧ sizeL q ≤ 1040) := ⟨hqt, hqs⟩
  have hc := markX _ _ _ _ _ q 1 (Nat.le_refl _) (by omega) (by omega) Y (by omega)
  rw [hM] at hc
  clear hM
  go_wp2_with fail
  refine hc.mono ?_
  clear hc
  rintro e11 u11 ⟨rfl, Y11, o11⟩
  have s11 := o11.size
  clear Y
  replace G := G.trans (o11.below (by omega) (by omega))
  replace W := W.outS o11 (by omega) (by omega)
  clear o11
  have hqk : sizeL (mkTL 1 q) = sizeL q ∨ True := .inr trivial
  obtain ⟨a11, n11, k11, hy11, hn11⟩ : ∃ ad n cap, Value.slice a5 q.length k5 = .slice ad n cap ∧ n = q.length := ⟨_, _, _, rfl, rfl⟩
  clear hy11 hn11 a11 n11 k11 hqk
  have hc := heldX _ u11 _ _ _ q 1 (Nat.le_refl _) (by omega) (by have := HTQ.out; omega) Y11.sr (by omega)
  rw [HM.out] at hc
  go_wp2_with fail
  refine hc.mono ?_
  clear hc
  rintro e12 u12 ⟨rfl, hw⟩
  have hw := hw.symm
  subst hw
  go_wp2_with fail
  refine (toStmtS_any _ _ _ _ d0 (R0.out.under G (Nat.le_refl _)) (by omega) nb).mono ?_
  rintro e13 u13 ⟨v13, rfl, V, g13⟩
  have s13 := g13.size
  replace G := G.trans (g13.mono (by omega))
  replace W := W.under g13 (by omega)
  replace Y11 := Y11.under g13 (by omega)
  clear g13
  obtain ⟨a13, k13, rfl, _, _⟩ := V.sr.shape
  have hc := iSlimStmts_any u13 _ _ _ d0 V.sr (by omega) nb
  rw [HQ.out] at hc
  go_wp2_with fail
  refine hc.mono ?_
  clear hc
  rintro e14 u14 ⟨v14, rfl, Z, g14⟩
  have s14 := g14.size
  clear V
  replace G := G.trans (g14.mono (by omega))
  replace W := W.under g14 (by omega)
  replace Y11 := Y11.under g14 (by omega)
  clear g14
  obtain ⟨a14, k14, rfl, _, _⟩ := Z.sr.shape
  go_wp2_with fail
  refine (eqStmtS_any _ _ _ _ _ _ _ q q Z.sr W.sr (by omega) (by omega)).mono ?_
  rintro e15 u15 ⟨r, rfl, hr, g15⟩
  obtain rfl : r = true := hr.mpr rfl
  have s15 := g15.size
  clear Z
  clear W
  replace G := G.trans (g15.mono (by omega))
  replace Y11 := Y11.under g15 (by omega)
  clear g15
  clear hr
  have hc := heldX _ u15 _ _ _ q 1 (Nat.le_refl _) (by omega) (by have := HTQ.out; omega) Y11.sr (by omega)
  rw [HM.out] at hc
  go_wp2_with fail
  refine hc.mono ?_
  clear hc
  rintro e16 u16 ⟨rfl, hw⟩
  have hw := hw.symm
  subst hw
  clear Y11
  go_wp2
  go_ret
  exact ⟨rfl, G⟩
end Go.Proofs.YtkeockippmmneaaGreat
