/-
  FnExactCodeOf, walked at every argument. (Written by our generator gen_lawof5.py.)
-/
import Derived.Test.YtoodhchphhhjfaaCodeSpecS
import Derived.Test.YtoodhchphhhjfaaCoderC
import Derived.Test.YtoodhchphhhjfaaInsEq
import Derived.Test.YtoodhchphhhjfaaInsMark
import Derived.Test.YtoodhchphhhjfaaStmtMark
import Derived.Test.YtoodhchphhhjfaaStmtSz
import Derived.Test.YtoodhchphhhjfaaStmtEq
namespace Go.Proofs.Ytoodhchphhhjfaa
open Go.ChangeShapes Go.WideShapes Go.ChangeAt Go.RowKit
set_option linter.unusedVariables false
set_option maxRecDepth 100000

theorem NO.out {w w' : World} {lo hi lo' hi' : Nat} {v : Value} {ps : List InsD} (h : NO w lo hi v ps) (g : Out lo' hi' w w') (h1 : hi ≤ lo' ∨ hi' ≤ lo) (hs : hi ≤ w.heap.size) : NO w' lo hi v ps :=
  h.kept fun k q1 q2 => g.block k (by omega) (by omega)

set_option maxHeartbeats 8000000 in
theorem exactCodeOf_walk (w : World) (v0 : Value) (d0 : List StmtD) (r0 : SR w 0 w.heap.size v0 d0) :
    Calls Try.prog 3 #[v0] w fun e w' => e = .returned (.bool true) ∧ Below w.heap.size w w' := by
  obtain ⟨ad, cap, rfl, _, _⟩ := r0.shape
  have R0 : Hid (SR w 0 w.heap.size (.slice ad d0.length cap) d0) := r0
  clear r0
  obtain ⟨q, hq⟩ : ∃ q, codeOf d0 = q := ⟨_, rfl⟩
  have hql : q.length ≤ 3 * sizeL d0 := by rw [← hq]; exact codeOf_len d0
  have HQ : Hid (codeOf d0 = q) := hq
  clear hq
  go_enter Try.func3, Try.ntmps3
  go_wp2_with fail
  refine (szStmtS_any _ _ _ _ d0 1048576 R0.out (Nat.le_refl _) (by omega) (by omega)).mono ?_
  by_cases big : (1048576 : Int) < (sizeL d0 : Int)
  · rw [if_pos big]
    rintro e1 u1 ⟨rfl, g1⟩
    go_wp2
    go_ret
    exact ⟨rfl, g1⟩
  rw [if_neg big]
  rintro e1 u1 ⟨rfl, G⟩
  have np : ¬ ((1048576 - (sizeL d0 : Int) : Int) < 0) := by omega
  have nb : sizeL d0 ≤ 1048576 := by omega
  have s1 := G.size
  have hqb : q.length ≤ 4194304 := by omega
  go_wp2_with fail
  refine (toStmtS_any _ _ _ _ d0 (R0.out.under G (Nat.le_refl _)) s1 nb).mono ?_
  rintro e2 u2 ⟨v2, rfl, O2, g2⟩
  have s2 := g2.size
  replace G := G.trans (g2.mono s1)
  have hsp := sCodeOf_any u2 _ _ _ d0 O2.sr (Nat.le_refl _) nb
  rw [HQ.out] at hsp
  go_wp2_with fail
  refine hsp.mono ?_
  clear hsp O2 g2
  rintro e3 u3 ⟨v3, rfl, W, g3⟩
  have s3 := g3.size
  replace G := G.trans (g3.mono (by omega))
  replace W := W.no
  obtain ⟨a3, n3, k3, rfl, hn3⟩ : ∃ ad n cap, v3 = .slice ad n cap ∧ n = q.length := by obtain ⟨ad, cap, hv, _, _⟩ := W.nr.shape; exact ⟨ad, _, cap, hv, rfl⟩
  clear g3 hn3
  go_wp2_with fail
  refine (toStmtS_any _ _ _ _ d0 (R0.out.under G (Nat.le_refl _)) (by omega) nb).mono ?_
  rintro e4 u4 ⟨v4, rfl, X, g4⟩
  have s4 := g4.size
  replace G := G.trans (g4.mono (by omega))
  replace W := W.under g4 (Nat.le_refl _)
  clear g4
  obtain ⟨a4, k4, rfl, _, _⟩ := X.sr.shape
  have him := iCodeOf_any u4 _ _ _ d0 X.sr (Nat.le_refl _) nb
  rw [HQ.out] at him
  go_wp2_with fail
  refine him.mono ?_
  clear him
  rintro e5 u5 ⟨v5, rfl, Y, g5⟩
  have s5 := g5.size
  replace G := G.trans (g5.mono (by omega))
  replace W := W.under g5 (by omega)
  replace X := X.under g5 (Nat.le_refl _)
  replace Y := Y.no
  obtain ⟨a5, n5, k5, rfl, hn5⟩ : ∃ ad n cap, v5 = .slice ad n cap ∧ n = q.length := by obtain ⟨ad, cap, hv, _, _⟩ := Y.nr.shape; exact ⟨ad, _, cap, hv, rfl⟩
  clear g5
  have HN5 : Hid (n5 = q.length) := hn5
  clear hn5
  go_wp2_with fail
  refine (eqInsS_any _ _ _ _ _ _ _ q q Y.nr W.nr (Nat.le_refl _) (by omega)).mono ?_
  rintro e6 u6 ⟨r, rfl, hr, g6⟩
  obtain rfl : r = true := hr.mpr rfl
  have s6 := g6.size
  replace G := G.trans (g6.mono (by omega))
  replace W := W.under g6 (by omega)
  replace X := X.under g6 (by omega)
  replace Y := Y.under g6 (by omega)
  clear g6 hr
  go_wp2_with fail
  refine (toStmtS_any _ _ _ _ d0 (R0.out.under G (Nat.le_refl _)) (by omega) nb).mono ?_
  rintro e7 u7 ⟨v7, rfl, Z, g7⟩
  have s7 := g7.size
  replace G := G.trans (g7.mono (by omega))
  replace W := W.under g7 (by omega)
  replace X := X.under g7 (by omega)
  replace Y := Y.under g7 (by omega)
  clear g7
  go_wp2_with fail
  refine (eqStmtS_any _ _ _ _ _ _ _ d0 d0 X.sr Z.sr (by omega) (Nat.le_refl _)).mono ?_
  rintro e8 u8 ⟨r, rfl, hr, g8⟩
  obtain rfl : r = true := hr.mpr rfl
  have s8 := g8.size
  replace G := G.trans (g8.mono (by omega))
  replace W := W.under g8 (by omega)
  replace X := X.under g8 (by omega)
  replace Y := Y.under g8 (by omega)
  clear g8 hr Z
  go_wp2_with fail
  refine (markT _ _ _ _ _ d0 1 (Nat.le_refl _) (by omega) (by omega) X (by omega)).mono ?_
  rintro e9 u9 ⟨k9, rfl, hk9, hk9', o9⟩
  have s9 := o9.size
  replace G := G.trans (o9.below (by omega) (by omega))
  replace W := W.out o9 (.inl (by omega)) (by omega)
  replace Y := Y.out o9 (.inr (by omega)) (by omega)
  clear o9 X
  have hneg : ¬ (k9 < 0) := by omega
  go_wp2_with fail
  refine (eqInsS_any _ _ _ _ _ _ _ q q Y.nr W.nr (by omega) (by omega)).mono ?_
  rintro e10 u10 ⟨r, rfl, hr, g10⟩
  obtain rfl : r = true := hr.mpr rfl
  have s10 := g10.size
  replace G := G.trans (g10.mono (by omega))
  replace W := W.under g10 (by omega)
  replace Y := Y.under g10 (by omega)
  clear g10 hr
  go_wp2_with fail
  refine (markInsS_any _ _ _ _ q 1 Y (by omega) (by omega) (by omega) (by omega)).mono ?_
  rintro e11 u11 ⟨rfl, Y11, o11⟩
  have s11 := o11.size
  replace G := G.trans (o11.below (by omega) (by omega))
  replace W := W.out o11 (.inl (by omega)) (by omega)
  clear o11 Y
  have Y := Y11
  clear Y11
  go_wp2_with fail
  refine (heldInsS_any _ _ _ _ q.length 1 Y.nr (by omega) (by omega) (by omega)).mono ?_
  rintro e12 u12 ⟨rfl, rfl⟩
  have hm0 : ¬ ((1 : Int) + 4 * (q.length : Int) < 0) := by omega
  obtain ⟨M, hM⟩ : ∃ M, (1 : Int) + 4 * (q.length : Int) = M := ⟨_, rfl⟩
  have HM : Hid ((1 : Int) + 4 * (q.length : Int) = M) := hM
  rw [hM] at hm0 ⊢
  clear hM
  go_wp2_with fail
  refine (toStmtS_any _ _ _ _ d0 (R0.out.under G (Nat.le_refl _)) (by omega) nb).mono ?_
  rintro e13 u13 ⟨v13, rfl, O13, g13⟩
  have s13 := g13.size
  replace G := G.trans (g13.mono (by omega))
  replace W := W.under g13 (by omega)
  replace Y := Y.under g13 (by omega)
  clear g13
  have him := iCodeOf_any u13 _ _ _ d0 O13.sr (Nat.le_refl _) nb
  rw [HQ.out] at him
  go_wp2_with fail
  refine him.mono ?_
  clear him O13
  rintro e14 u14 ⟨v14, rfl, Z, g14⟩
  have s14 := g14.size
  replace G := G.trans (g14.mono (by omega))
  replace W := W.under g14 (by omega)
  replace Y := Y.under g14 (by omega)
  replace Z := Z.no
  obtain ⟨a14, n14, k14, rfl, hn14⟩ : ∃ ad n cap, v14 = .slice ad n cap ∧ n = q.length := by obtain ⟨ad, cap, hv, _, _⟩ := Z.nr.shape; exact ⟨ad, _, cap, hv, rfl⟩
  clear g14 hn14
  go_wp2_with fail
  refine (eqInsS_any _ _ _ _ _ _ _ q q Z.nr W.nr (Nat.le_refl _) (by omega)).mono ?_
  rintro e15 u15 ⟨r, rfl, hr, g15⟩
  obtain rfl : r = true := hr.mpr rfl
  have s15 := g15.size
  replace G := G.trans (g15.mono (by omega))
  replace Y := Y.under g15 (by omega)
  clear g15 hr Z W
  have hh := heldInsS_any u15 _ _ _ q.length 1 Y.nr (by omega) (by omega) (by omega)
  rw [HM.out] at hh
  go_wp2_with fail
  refine hh.mono ?_
  rintro e16 u16 ⟨rfl, rfl⟩
  clear hh Y
  go_wp2
  go_ret
  exact ⟨rfl, G⟩
end Go.Proofs.Ytoodhchphhhjfaa
