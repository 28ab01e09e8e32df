/-
  FnExactStmtsOk and FnExactStmtsMany, walked at every argument, given what the program's StmtsOk and StmtsMany answer.
-/
import Derived.Test.YtdlcdllmhacaaaaStmtSz
import Derived.Test.YtdlcdllmhacaaaaStmtEq
import Derived.Test.YtdlcdllmhacaaaaStmtSpec
namespace Go.Proofs.Ytdlcdllmhacaaaa
open Go.ChangeShapes Go.WideShapes Go.ChangeAt Go.RowKit
set_option linter.unusedVariables false

set_option maxHeartbeats 4000000 in
theorem exactStmtsOk_walk
    (impl : ∀ (w : World) (m0 : Value) (lo0 hi0 : Nat) (d0 : List StmtD), SR w lo0 hi0 m0 d0 → hi0 ≤ w.heap.size → sizeL d0 ≤ 1048576 → Calls Try.prog 9 #[m0] w fun e w' => e = .returned (.bool (stmtsOk d0)) ∧ Below w.heap.size w w')
    (w : World) (v0 : Value) (d0 : List StmtD) (r0 : SR w 0 w.heap.size v0 d0) :
    Calls Try.prog 3 #[v0] w fun e w' => e = .returned (.bool true) ∧ Below w.heap.size w w' := by
  obtain ⟨ad, cap, rfl, _, _⟩ := r0.shape
  have R0 : Hid (SR w 0 w.heap.size (.slice ad d0.length cap) d0) := r0
  clear r0
  go_enter Try.func3, Try.ntmps3
  go_wp2_with fail
  refine (szStmtS_any _ _ _ _ d0 1048576 R0.out (Nat.le_refl _) (by omega) (by omega)).mono ?_
  by_cases big : (1048576 : Int) < (sizeL d0 : Int)
  · rw [if_pos big]
    rintro e1 u1 ⟨rfl, g1⟩
    go_wp2
    go_ret
    exact ⟨rfl, g1⟩
  rw [if_neg big]
  rintro e1 u1 ⟨rfl, g1⟩
  have np : ¬ ((1048576 - (sizeL d0 : Int) : Int) < 0) := by omega
  have nb : sizeL d0 ≤ 1048576 := by omega
  have s1 := g1.size
  go_wp2_with fail
  refine (toStmtS_any _ _ _ _ d0 (R0.out.under g1 (Nat.le_refl _)) s1 nb).mono ?_
  rintro e2 u2 ⟨v2, rfl, O2, g2⟩
  have G2 := g1.trans (g2.mono s1)
  have s2 := g2.size
  go_wp2_with fail
  refine (sStmtsOk_any _ _ _ _ d0 O2.sr (Nat.le_refl _) nb).mono ?_
  rintro e3 u3 ⟨rfl, g3⟩
  have G3 := G2.trans (g3.mono (by omega))
  have s3 := g3.size
  clear g1 g2 g3 G2 O2
  go_wp2_with fail
  refine (toStmtS_any _ _ _ _ d0 (R0.out.under G3 (Nat.le_refl _)) (by omega) nb).mono ?_
  rintro e4 u4 ⟨v4, rfl, O4, g4⟩
  have G4 := G3.trans (g4.mono (by omega))
  have s4 := g4.size
  clear g4 G3
  go_wp2_with fail
  refine (impl _ _ _ _ d0 O4.sr (Nat.le_refl _) nb).mono ?_
  rintro e5 u5 ⟨rfl, g5⟩
  have G5 := G4.trans (g5.mono (by omega))
  have s5 := g5.size
  have O5 := O4.under g5 (Nat.le_refl _)
  clear g5 G4 O4
  generalize stmtsOk d0 = ok at *
  go_wp2_with fail
  refine (toStmtS_any _ _ _ _ d0 (R0.out.under G5 (Nat.le_refl _)) (by omega) nb).mono ?_
  rintro e6 u6 ⟨v6, rfl, O6, g6⟩
  have G6 := G5.trans (g6.mono (by omega))
  have s6 := g6.size
  have O56 := O5.under g6 (by omega)
  clear g6 G5 O5
  go_wp2_with fail
  refine (eqStmtS_any _ _ _ _ _ _ _ d0 d0 O56.sr O6.sr (by omega) (Nat.le_refl _)).mono ?_
  rintro e7 u7 ⟨r, rfl, hr, g7⟩
  obtain rfl : r = true := hr.mpr rfl
  have G7 := G6.trans (g7.mono (by omega))
  clear g7 G6 O6 O56 hr
  go_wp2
  go_ret
  exact ⟨rfl, G7⟩

set_option maxHeartbeats 4000000 in
theorem exactStmtsMany_walk
    (impl : ∀ (w : World) (m0 : Value) (lo0 hi0 : Nat) (d0 : List StmtD), SR w lo0 hi0 m0 d0 → hi0 ≤ w.heap.size → sizeL d0 ≤ 1048576 → Calls Try.prog 14 #[m0] w fun e w' => e = .returned (.int .i64 ((stmtsMany d0 : Nat) : Int)) ∧ Below w.heap.size w w')
    (w : World) (v0 : Value) (d0 : List StmtD) (r0 : SR w 0 w.heap.size v0 d0) :
    Calls Try.prog 5 #[v0] w fun e w' => e = .returned (.bool true) ∧ Below w.heap.size w w' := by
  obtain ⟨ad, cap, rfl, _, _⟩ := r0.shape
  have R0 : Hid (SR w 0 w.heap.size (.slice ad d0.length cap) d0) := r0
  clear r0
  go_enter Try.func5, Try.ntmps5
  go_wp2_with fail
  refine (szStmtS_any _ _ _ _ d0 1048576 R0.out (Nat.le_refl _) (by omega) (by omega)).mono ?_
  by_cases big : (1048576 : Int) < (sizeL d0 : Int)
  · rw [if_pos big]
    rintro e1 u1 ⟨rfl, g1⟩
    go_wp2
    go_ret
    exact ⟨rfl, g1⟩
  rw [if_neg big]
  rintro e1 u1 ⟨rfl, g1⟩
  have np : ¬ ((1048576 - (sizeL d0 : Int) : Int) < 0) := by omega
  have nb : sizeL d0 ≤ 1048576 := by omega
  have s1 := g1.size
  go_wp2_with fail
  refine (toStmtS_any _ _ _ _ d0 (R0.out.under g1 (Nat.le_refl _)) s1 nb).mono ?_
  rintro e2 u2 ⟨v2, rfl, O2, g2⟩
  have G2 := g1.trans (g2.mono s1)
  have s2 := g2.size
  go_wp2_with fail
  refine (sStmtsMany_any _ _ _ _ d0 O2.sr (Nat.le_refl _) nb).mono ?_
  rintro e3 u3 ⟨rfl, g3⟩
  have G3 := G2.trans (g3.mono (by omega))
  have s3 := g3.size
  clear g1 g2 g3 G2 O2
  go_wp2_with fail
  refine (toStmtS_any _ _ _ _ d0 (R0.out.under G3 (Nat.le_refl _)) (by omega) nb).mono ?_
  rintro e4 u4 ⟨v4, rfl, O4, g4⟩
  have G4 := G3.trans (g4.mono (by omega))
  have s4 := g4.size
  clear g4 G3
  go_wp2_with fail
  refine (impl _ _ _ _ d0 O4.sr (Nat.le_refl _) nb).mono ?_
  rintro e5 u5 ⟨rfl, g5⟩
  have G5 := G4.trans (g5.mono (by omega))
  have s5 := g5.size
  have O5 := O4.under g5 (Nat.le_refl _)
  clear g5 G4 O4
  generalize stmtsMany d0 = ok at *
  go_wp2_with fail
  refine (toStmtS_any _ _ _ _ d0 (R0.out.under G5 (Nat.le_refl _)) (by omega) nb).mono ?_
  rintro e6 u6 ⟨v6, rfl, O6, g6⟩
  have G6 := G5.trans (g6.mono (by omega))
  have s6 := g6.size
  have O56 := O5.under g6 (by omega)
  clear g6 G5 O5
  go_wp2_with fail
  refine (eqStmtS_any _ _ _ _ _ _ _ d0 d0 O56.sr O6.sr (by omega) (Nat.le_refl _)).mono ?_
  rintro e7 u7 ⟨r, rfl, hr, g7⟩
  obtain rfl : r = true := hr.mpr rfl
  have G7 := G6.trans (g7.mono (by omega))
  clear g7 G6 O6 O56 hr
  go_wp2
  go_ret
  exact ⟨rfl, G7⟩
end Go.Proofs.Ytdlcdllmhacaaaa
