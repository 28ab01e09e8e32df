/-
  FnExactStmtsSame, walked at every argument, given what the program's StmtsSame answers.
-/
import Derived.Test.YtdlcdllmhacaaaaStmtSz
import Derived.Test.YtdlcdllmhacaaaaStmtSame
namespace Go.Proofs.Ytdlcdllmhacaaaa
open Go.ChangeShapes Go.WideShapes Go.ChangeAt Go.RowKit
set_option linter.unusedVariables false

set_option maxHeartbeats 8000000 in
theorem exactStmtsSame_walk
    (impl : ∀ (w : World) (m0 : Value) (lo0 hi0 : Nat) (d0 : List StmtD) (m1 : Value) (lo1 hi1 : Nat) (d1 : List StmtD), SO w lo0 hi0 m0 d0 → hi0 ≤ w.heap.size → sizeL d0 ≤ 1048576 → SR w lo1 hi1 m1 d1 → hi1 ≤ w.heap.size → sizeL d1 ≤ 1048576 →
      Calls Try.prog 12 #[m0, m1] w fun e w' => ∃ r : Bool, e = .returned (.bool r) ∧ (r = true ↔ d0 = d1) ∧ Below w.heap.size w w')
    (w : World) (v0 : Value) (d0 : List StmtD) (r0 : SR w 0 w.heap.size v0 d0) (v1 : Value) (d1 : List StmtD) (r1 : SR w 0 w.heap.size v1 d1) :
    Calls Try.prog 4 #[v0, v1] w fun e w' => e = .returned (.bool true) ∧ Below w.heap.size w w' := by
  obtain ⟨ad, cap, rfl, _, _⟩ := r0.shape
  obtain ⟨ad', cap', rfl, _, _⟩ := r1.shape
  have R0 : Hid (SR w 0 w.heap.size (.slice ad d0.length cap) d0) := r0
  have R1 : Hid (SR w 0 w.heap.size (.slice ad' d1.length cap') d1) := r1
  clear r0 r1
  go_enter Try.func4, Try.ntmps4
  go_wp2_with fail
  refine (szStmtS_any _ _ _ _ d0 1048576 R0.out (Nat.le_refl _) (by omega) (by omega)).mono ?_
  by_cases big : (1048576 : Int) < (sizeL d0 : Int)
  · rw [if_pos big]
    rintro e1 u1 ⟨rfl, g1⟩
    go_wp2
    go_ret
    exact ⟨rfl, g1⟩
  rw [if_neg big]
  rintro e1 u1 ⟨rfl, g1⟩
  have np : ¬ ((1048576 - (sizeL d0 : Int) : Int) < 0) := by omega
  have nb : sizeL d0 ≤ 1048576 := by omega
  have s1 := g1.size
  obtain ⟨l1, hl1⟩ : ∃ l1 : Int, 1048576 - (sizeL d0 : Int) = l1 := ⟨_, rfl⟩
  rw [hl1] at np ⊢
  have l1a : 0 ≤ l1 := by omega
  have l1b : l1 ≤ 1048576 := by omega
  clear hl1 big
  go_wp2_with fail
  refine (szStmtS_any _ _ _ _ d1 l1 (R1.out.under g1 (Nat.le_refl _)) s1 l1a l1b).mono ?_
  by_cases big : l1 < (sizeL d1 : Int)
  · rw [if_pos big]
    rintro e2 u2 ⟨rfl, g2⟩
    have G2 := g1.trans (g2.mono s1)
    clear g1 g2
    go_wp2
    go_ret
    exact ⟨rfl, G2⟩
  rw [if_neg big]
  rintro e2 u2 ⟨rfl, g2⟩
  have np2 : ¬ ((l1 - (sizeL d1 : Int) : Int) < 0) := by omega
  have nb' : sizeL d1 ≤ 1048576 := by omega
  have s2 := g2.size
  have G2 := g1.trans (g2.mono s1)
  obtain ⟨l2, hl2⟩ : ∃ l2 : Int, l1 - (sizeL d1 : Int) = l2 := ⟨_, rfl⟩
  rw [hl2] at np2 ⊢
  clear g1 g2 hl2 big
  go_wp2_with fail
  refine (toStmtS_any _ _ _ _ d0 (R0.out.under G2 (Nat.le_refl _)) (by omega) nb).mono ?_
  rintro e3 u3 ⟨v3, rfl, O3, g3⟩
  have s3 := g3.size
  have G3 := G2.trans (g3.mono (by omega))
  clear g3 G2
  go_wp2_with fail
  refine (toStmtS_any _ _ _ _ d1 (R1.out.under G3 (Nat.le_refl _)) (by omega) nb').mono ?_
  rintro e4 u4 ⟨v4, rfl, O4, g4⟩
  have s4 := g4.size
  have G4 := G3.trans (g4.mono (by omega))
  have O34 := O3.under g4 (Nat.le_refl _)
  clear g4 G3 O3
  go_wp2_with fail
  refine (sStmtsSame_any _ _ _ _ _ _ _ d0 d1 O34.sr O4.sr (by omega) (Nat.le_refl _)).mono ?_
  rintro e5 u5 ⟨ra, rfl, hra, g5⟩
  have s5 := g5.size
  have G5 := G4.trans (g5.mono (by omega))
  clear g5 G4 O34 O4
  go_wp2_with fail
  refine (toStmtS_any _ _ _ _ d0 (R0.out.under G5 (Nat.le_refl _)) (by omega) nb).mono ?_
  rintro e6 u6 ⟨v6, rfl, O6, g6⟩
  have s6 := g6.size
  have G6 := G5.trans (g6.mono (by omega))
  clear g6 G5
  go_wp2_with fail
  refine (toStmtS_any _ _ _ _ d1 (R1.out.under G6 (Nat.le_refl _)) (by omega) nb').mono ?_
  rintro e7 u7 ⟨v7, rfl, O7, g7⟩
  have s7 := g7.size
  have G7 := G6.trans (g7.mono (by omega))
  have O67 := O6.under g7 (Nat.le_refl _)
  clear g7 G6 O6
  go_wp2_with fail
  refine (impl _ _ _ _ d0 _ _ _ d1 O67 (by omega) nb O7.sr (Nat.le_refl _) nb').mono ?_
  rintro e8 u8 ⟨rb, rfl, hrb, g8⟩
  obtain rfl : rb = ra := eq_of_iff2 hrb hra
  have s8 := g8.size
  have G8 := G7.trans (g8.mono (by omega))
  have O68 := O67.under g8 (by omega)
  have O78 := O7.under g8 (Nat.le_refl _)
  clear g8 G7 O67 O7 hra hrb
  go_wp2_with fail
  refine (toStmtS_any _ _ _ _ d0 (R0.out.under G8 (Nat.le_refl _)) (by omega) nb).mono ?_
  rintro e9 u9 ⟨v9, rfl, O9, g9⟩
  have s9 := g9.size
  have G9 := G8.trans (g9.mono (by omega))
  have O69 := O68.under g9 (by omega)
  have O79 := O78.under g9 (by omega)
  clear g9 G8 O68 O78
  go_wp2_with fail
  refine (eqStmtS_any _ _ _ _ _ _ _ d0 d0 O69.sr O9.sr (by omega) (Nat.le_refl _)).mono ?_
  rintro e10 u10 ⟨r, rfl, hr, g10⟩
  obtain rfl : r = true := hr.mpr rfl
  have s10 := g10.size
  have G10 := G9.trans (g10.mono (by omega))
  have O710 := O79.under g10 (by omega)
  clear g10 G9 O69 O79 O9 hr
  go_wp2_with fail
  refine (toStmtS_any _ _ _ _ d1 (R1.out.under G10 (Nat.le_refl _)) (by omega) nb').mono ?_
  rintro e11 u11 ⟨v11, rfl, O11, g11⟩
  have s11 := g11.size
  have G11 := G10.trans (g11.mono (by omega))
  have O711 := O710.under g11 (by omega)
  clear g11 G10 O710
  go_wp2_with fail
  refine (eqStmtS_any _ _ _ _ _ _ _ d1 d1 O711.sr O11.sr (by omega) (Nat.le_refl _)).mono ?_
  rintro e12 u12 ⟨r, rfl, hr, g12⟩
  obtain rfl : r = true := hr.mpr rfl
  have G12 := G11.trans (g12.mono (by omega))
  clear g12 G11 O711 O11 hr
  go_wp2
  go_ret
  exact ⟨rfl, G12⟩
end Go.Proofs.Ytdlcdllmhacaaaa
