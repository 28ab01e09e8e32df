/-
  What each function of chapter 1 (package impl) and each of its models (package spec) answers, as a contract: called with any numbers, it returns its number, and the world stays as it was.
-/
import Derived.Test.YtaoiookfmgpmkaaPM1
namespace Go.Proofs.Ytaoiookfmgpmkaa
open Go.ChangeShapes Go.WideShapes Go.ChangeAt Go.RowKit

/-- A number, cut. -/
def cutZ (n : Int) : Int := if n < -1000000 then -1000000 else if 1000000 < n then 1000000 else n

theorem cutZ_bd (n : Int) : -1000000 ≤ cutZ n ∧ cutZ n ≤ 1000000 := by unfold cutZ; split <;> (try split) <;> omega
theorem cutZ_lo {n : Int} (h : n < -1000000) : cutZ n = -1000000 := by unfold cutZ; rw [if_pos h]
theorem cutZ_hi {n : Int} (h : 1000000 < n) : cutZ n = 1000000 := by unfold cutZ; rw [if_neg (by omega), if_pos h]
theorem cutZ_in {n : Int} (h : -1000000 ≤ n) (h' : n ≤ 1000000) : cutZ n = n := by unfold cutZ; rw [if_neg (by omega), if_neg (by omega)]

theorem mul_bd {a b : Int} (ha : -1000000 ≤ a) (ha' : a ≤ 1000000) (hb : -1000000 ≤ b) (hb' : b ≤ 1000000) : -1000000000000 ≤ a * b ∧ a * b ≤ 1000000000000 := by
  have h1 : 0 ≤ (1000000 - a) * (1000000 - b) := Int.mul_nonneg (by omega) (by omega)
  have h2 : 0 ≤ (1000000 + a) * (1000000 + b) := Int.mul_nonneg (by omega) (by omega)
  have h3 : 0 ≤ (1000000 - a) * (1000000 + b) := Int.mul_nonneg (by omega) (by omega)
  have h4 : 0 ≤ (1000000 + a) * (1000000 - b) := Int.mul_nonneg (by omega) (by omega)
  simp only [Int.mul_sub, Int.sub_mul, Int.mul_add, Int.add_mul] at h1 h2 h3 h4
  omega
















end Go.Proofs.Ytaoiookfmgpmkaa
