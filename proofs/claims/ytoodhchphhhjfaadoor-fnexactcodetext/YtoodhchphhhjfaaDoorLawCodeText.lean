/-
  FnExactCodeText, walked at every argument, where the two tables stand as the program lays them.
-/
import Derived.Test.YtoodhchphhhjfaaDoorInsTo
import Derived.Test.YtoodhchphhhjfaaDoorInsEq
import Derived.Test.YtoodhchphhhjfaaDoorCodeTextS
import Derived.Test.YtoodhchphhhjfaaDoorCodeTextJ
namespace Go.Proofs.YtoodhchphhhjfaaDoor
open Go.ChangeShapes Go.WideShapes Go.ChangeAt Go.RowKit
set_option linter.unusedVariables false

set_option maxHeartbeats 4000000 in
theorem exactCodeText_walk (w : World) (v0 : Value) (d0 : List InsD) (r0 : NR w 0 w.heap.size v0 d0) (hN : ∀ p, p ∈ d0 → InN p) (hW : WordsAt w) (hT : TabAt w) :
    Calls Tryd.prog 3 #[v0] w fun e w' => e = .returned (.bool true) ∧ Below w.heap.size w w' := by
  obtain ⟨ad, cap, rfl, _, _⟩ := r0.shape
  have R0 : Hid (NR w 0 w.heap.size (.slice ad d0.length cap) d0) := r0
  have HN : Hid (∀ p, p ∈ d0 → InN p) := hN
  have HW : Hid (WordsAt w) := hW
  have HT : Hid (TabAt w) := hT
  have hz0 := szInsS_any w _ _ _ d0 1048576 r0 (by omega) (by omega)
  clear r0 hN hW hT
  go_enter Tryd.func3, Tryd.ntmps3
  go_wp2_with fail
  refine hz0.mono ?_
  clear hz0
  by_cases big : (1048576 : Int) < (d0.length : Int)
  · rw [if_pos big]
    rintro e1 u1 ⟨rfl, rfl⟩
    go_wp2
    go_ret
    exact ⟨rfl, Below.refl _ _⟩
  rw [if_neg big]
  rintro e1 u1 ⟨rfl, rfl⟩
  have np : ¬ ((1048576 - (d0.length : Int) : Int) < 0) := by omega
  have nb : d0.length ≤ 1048576 := by omega
  go_wp2_with fail
  refine (toInsS_any _ _ _ _ d0 R0.out (Nat.le_refl _) nb).mono ?_
  rintro e2 u2 ⟨v2, rfl, O2, g2⟩
  have s2 := g2.size
  have hS := sCodeText_any u2 _ _ _ d0 O2.nr (Nat.le_refl _) HN.out nb
  obtain ⟨R, hR⟩ : ∃ R, (codeTextL d0).toArray = R := ⟨_, rfl⟩
  rw [hR] at hS
  go_wp2_with fail
  refine hS.mono ?_
  clear hS
  rintro e3 u3 ⟨rfl, g3⟩
  have s3 := g3.size
  have G3 := g2.trans (g3.mono s2)
  clear g2 O2 g3
  go_wp2_with fail
  refine (toInsS_any _ _ _ _ d0 (R0.out.under G3 (Nat.le_refl _)) (by omega) nb).mono ?_
  rintro e4 u4 ⟨v4, rfl, O4, g4⟩
  have s4 := g4.size
  have G4 := G3.trans (g4.mono (by omega))
  clear g4 G3
  have hI := iCodeText_any u4 _ _ _ d0 O4.nr (Nat.le_refl _) HN.out nb (HW.out.kept G4) (HT.out.kept G4)
  rw [hR] at hI
  clear hR
  go_wp2_with fail
  refine hI.mono ?_
  clear hI
  rintro e5 u5 ⟨rfl, g5⟩
  have s5 := g5.size
  have G5 := G4.trans (g5.mono (by omega))
  replace O4 := O4.under g5 (Nat.le_refl _)
  clear g5 G4
  go_wp2_with fail
  refine (toInsS_any _ _ _ _ d0 (R0.out.under G5 (Nat.le_refl _)) (by omega) nb).mono ?_
  rintro e6 u6 ⟨v6, rfl, O6, g6⟩
  have s6 := g6.size
  have G6 := G5.trans (g6.mono (by omega))
  replace O4 := O4.under g6 (by omega)
  clear g6 G5
  go_wp2_with fail
  refine (eqInsS_any _ _ _ _ _ _ _ d0 d0 O4.nr O6.nr (by omega) (Nat.le_refl _)).mono ?_
  rintro e7 u7 ⟨r, rfl, hr, g7⟩
  obtain rfl : r = true := hr.mpr rfl
  have G7 := G6.trans (g7.mono (by omega))
  clear g7 G6 O4 O6 hr
  go_wp2
  go_ret
  exact ⟨rfl, G7⟩
end Go.Proofs.YtoodhchphhhjfaaDoor
