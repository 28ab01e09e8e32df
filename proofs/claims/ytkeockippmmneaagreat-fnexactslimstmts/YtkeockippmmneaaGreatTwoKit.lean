/-
  What two numbers come to, by a kind: the model's.
-/
import Derived.Test.YtkeockippmmneaaGreatBase
namespace Go.Proofs.YtkeockippmmneaaGreat
open Go.ChangeShapes Go.WideShapes Go.ChangeAt Go.RowKit
set_option linter.unusedVariables false

/-- 1, if something is so, else 0. -/
def isZ (b : Bool) : Int := if b then 1 else 0

/-- What two numbers come to, by a kind. -/
def twoZ (k a b : Int) : Int :=
  if k = 3 then cutZ (cutZ a + cutZ b) else if k = 4 then cutZ (cutZ a - cutZ b) else if k = 5 then cutZ (cutZ a * cutZ b)
  else if k = 6 then isZ (decide (a < b)) else if k = 7 then isZ (a == b) else if k = 8 then isZ ((a != 0) && (b != 0)) else isZ ((a != 0) || (b != 0))

theorem sIs_any (b : Bool) (w : World) : Calls Tryz.prog 41 #[.bool b] w fun e w' => e = .returned (.int .i64 (isZ b)) ∧ w' = w := by
  cases b
  · go_enter Tryz.func41, Tryz.ntmps41
    go_wp2
    go_ret
    exact ⟨rfl, rfl⟩
  · go_enter Tryz.func41, Tryz.ntmps41
    go_wp2
    go_ret
    exact ⟨rfl, rfl⟩

theorem sOn_any (n : Int) (w : World) : Calls Tryz.prog 28 #[.int .i64 n] w fun e w' => e = .returned (.bool (n != 0)) ∧ w' = w := by
  go_enter Tryz.func28, Tryz.ntmps28
  go_wp2
  go_ret
  exact ⟨rfl, rfl⟩

set_option maxHeartbeats 4000000 in
theorem l3Two_any (k a b : Int) (w : World) : Calls Tryz.prog 58 #[.int .i64 k, .int .i64 a, .int .i64 b] w fun e w' => e = .returned (.int .i64 (twoZ k a b)) ∧ w' = w := by
  unfold twoZ
  by_cases h3 : k = 3
  · subst h3
    go_enter Tryz.func58, Tryz.ntmps58
    go_wp2_with fail
    refine (sAdd_any a b _).mono ?_
    rintro e w1 ⟨rfl, rfl⟩
    go_wp2
    go_ret
    exact ⟨rfl, rfl⟩
  rw [if_neg h3]
  have e3 : (k == 3) = false := by simpa using h3
  by_cases h4 : k = 4
  · subst h4
    go_enter Tryz.func58, Tryz.ntmps58
    go_wp2_with fail
    refine (sSub_any a b _).mono ?_
    rintro e w1 ⟨rfl, rfl⟩
    go_wp2
    go_ret
    exact ⟨rfl, rfl⟩
  rw [if_neg h4]
  have e4 : (k == 4) = false := by simpa using h4
  by_cases h5 : k = 5
  · subst h5
    go_enter Tryz.func58, Tryz.ntmps58
    go_wp2_with fail
    refine (sMul_any a b _).mono ?_
    rintro e w1 ⟨rfl, rfl⟩
    go_wp2
    go_ret
    exact ⟨rfl, rfl⟩
  rw [if_neg h5]
  have e5 : (k == 5) = false := by simpa using h5
  by_cases h6 : k = 6
  · subst h6
    go_enter Tryz.func58, Tryz.ntmps58
    go_wp2_with fail
    refine (sIs_any _ _).mono ?_
    rintro e w1 ⟨rfl, rfl⟩
    go_wp2
    go_ret
    exact ⟨rfl, rfl⟩
  rw [if_neg h6]
  have e6 : (k == 6) = false := by simpa using h6
  by_cases h7 : k = 7
  · subst h7
    go_enter Tryz.func58, Tryz.ntmps58
    go_wp2_with fail
    refine (sIs_any _ _).mono ?_
    rintro e w1 ⟨rfl, rfl⟩
    go_wp2
    go_ret
    exact ⟨rfl, rfl⟩
  rw [if_neg h7]
  have e7 : (k == 7) = false := by simpa using h7
  by_cases h8 : k = 8
  · subst h8
    go_enter Tryz.func58, Tryz.ntmps58
    go_wp2_with fail
    refine (sOn_any a _).mono ?_
    rintro e w1 ⟨rfl, rfl⟩
    cases ha : (a != 0) with
    | true =>
      go_wp2_with fail
      refine (sOn_any b _).mono ?_
      rintro e w1 ⟨rfl, rfl⟩
      go_wp2_with fail
      refine (sIs_any _ _).mono ?_
      rintro e w1 ⟨rfl, rfl⟩
      go_wp2
      go_ret
      exact ⟨by simp, rfl⟩
    | false =>
      go_wp2_with fail
      refine (sIs_any _ _).mono ?_
      rintro e w1 ⟨rfl, rfl⟩
      go_wp2
      go_ret
      exact ⟨by simp, rfl⟩
  rw [if_neg h8]
  have e8 : (k == 8) = false := by simpa using h8
  clear h3 h4 h5 h6 h7 h8
  go_enter Tryz.func58, Tryz.ntmps58
  go_wp2_with fail
  refine (sOn_any a _).mono ?_
  rintro e w1 ⟨rfl, rfl⟩
  cases ha : (a != 0) with
  | true =>
    go_wp2_with fail
    refine (sIs_any _ _).mono ?_
    rintro e w1 ⟨rfl, rfl⟩
    go_wp2
    go_ret
    exact ⟨by simp [ha], rfl⟩
  | false =>
    go_wp2_with fail
    refine (sOn_any b _).mono ?_
    rintro e w1 ⟨rfl, rfl⟩
    go_wp2_with fail
    refine (sIs_any _ _).mono ?_
    rintro e w1 ⟨rfl, rfl⟩
    go_wp2
    go_ret
    exact ⟨by simp [ha], rfl⟩
end Go.Proofs.YtkeockippmmneaaGreat
