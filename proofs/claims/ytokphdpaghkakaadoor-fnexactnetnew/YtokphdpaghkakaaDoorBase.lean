/-
  What each function of chapter 1 (package impl) and each of its models (package spec) answers, as a contract: called with any numbers, it returns its number, and the world stays as it was.
-/
import Derived.Test.YtokphdpaghkakaaDoorKit
namespace Go.Proofs.YtokphdpaghkakaaDoor
open Go.ChangeShapes Go.WideShapes Go.ChangeAt Go.RowKit

/-- A number, cut. -/
def cutZ (n : Int) : Int := if n < -1000000 then -1000000 else if 1000000 < n then 1000000 else n

theorem cutZ_bd (n : Int) : -1000000 ≤ cutZ n ∧ cutZ n ≤ 1000000 := by unfold cutZ; split <;> (try split) <;> omega
theorem cutZ_lo {n : Int} (h : n < -1000000) : cutZ n = -1000000 := by unfold cutZ; rw [if_pos h]
theorem cutZ_hi {n : Int} (h : 1000000 < n) : cutZ n = 1000000 := by unfold cutZ; rw [if_neg (by omega), if_pos h]
theorem cutZ_in {n : Int} (h : -1000000 ≤ n) (h' : n ≤ 1000000) : cutZ n = n := by unfold cutZ; rw [if_neg (by omega), if_neg (by omega)]

theorem mul_bd {a b : Int} (ha : -1000000 ≤ a) (ha' : a ≤ 1000000) (hb : -1000000 ≤ b) (hb' : b ≤ 1000000) : -1000000000000 ≤ a * b ∧ a * b ≤ 1000000000000 := by
  have h1 : 0 ≤ (1000000 - a) * (1000000 - b) := Int.mul_nonneg (by omega) (by omega)
  have h2 : 0 ≤ (1000000 + a) * (1000000 + b) := Int.mul_nonneg (by omega) (by omega)
  have h3 : 0 ≤ (1000000 - a) * (1000000 + b) := Int.mul_nonneg (by omega) (by omega)
  have h4 : 0 ≤ (1000000 + a) * (1000000 - b) := Int.mul_nonneg (by omega) (by omega)
  simp only [Int.mul_sub, Int.sub_mul, Int.mul_add, Int.add_mul] at h1 h2 h3 h4
  omega

set_option maxHeartbeats 400000 in
theorem cutWide_any (n : Int) (w : World) :
    Calls Tryd.prog 156 #[.int .i64 n] w fun e w' => e = .returned (.int .i64 (cutZ n)) ∧ w' = w := by
  by_cases h1 : n < -1000000
  · go_enter Tryd.func156, Tryd.ntmps156
    go_wp2
    all_goals first
      | (exfalso; rename_i h; rw [if_pos h1] at h; omega)
      | (go_ret; exact ⟨ret_int (cutZ_lo h1).symm, rfl⟩)
  · by_cases h2 : 1000000 < n
    · go_enter Tryd.func156, Tryd.ntmps156
      go_wp2
      all_goals (go_ret; exact ⟨ret_int (cutZ_hi h2).symm, rfl⟩)
    · have h3 : -1000000 ≤ n := by omega
      have h4 : n ≤ 1000000 := by omega
      clear h1 h2
      go_enter Tryd.func156, Tryd.ntmps156
      go_wp2
      all_goals (go_ret; exact ⟨ret_int (cutZ_in h3 h4).symm, rfl⟩)

theorem numCut_any (n : Int) (w : World) :
    Calls Tryd.prog 148 #[.int .i64 n] w fun e w' => e = .returned (.int .i64 (cutZ n)) ∧ w' = w := by
  go_enter Tryd.func148, Tryd.ntmps148
  go_wp2_with (go_at_call 156; refine (cutWide_any _ _).mono ?_; rintro e w' ⟨rfl, rfl⟩)
  go_ret
  exact ⟨rfl, rfl⟩










theorem sCut_any (n : Int) (w : World) :
    Calls Tryd.prog 106 #[.int .i64 n] w fun e w' => e = .returned (.int .i64 (cutZ n)) ∧ w' = w := by
  by_cases h1 : n < -1000000
  · have h2 : n < 1000000 := by omega
    go_enter Tryd.func106, Tryd.ntmps106
    go_wp2
    go_ret
    exact ⟨ret_int (cutZ_lo h1).symm, rfl⟩
  · by_cases h2 : 1000000 < n
    · go_enter Tryd.func106, Tryd.ntmps106
      go_wp2
      go_ret
      exact ⟨ret_int (cutZ_hi h2).symm, rfl⟩
    · have h3 : -1000000 ≤ n := by omega
      have h4 : n ≤ 1000000 := by omega
      clear h1 h2
      go_enter Tryd.func106, Tryd.ntmps106
      go_wp2
      all_goals
        go_ret
        exact ⟨ret_int (by unfold cutZ; split <;> (try split) <;> omega), rfl⟩




end Go.Proofs.YtokphdpaghkakaaDoor
