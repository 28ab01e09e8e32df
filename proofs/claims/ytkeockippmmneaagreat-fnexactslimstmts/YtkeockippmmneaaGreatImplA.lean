/-
  What the parts of chapter 2 (package impl) answer: a place's kind, AddrOk, the row of a kind, slices.Equal and slices.Clone of numbers.
-/
import Derived.Test.YtkeockippmmneaaGreatBase
import Derived.Test.YtkeockippmmneaaGreatAddrKit
namespace Go.Proofs.YtkeockippmmneaaGreat
open Go.ChangeShapes Go.WideShapes Go.ChangeAt Go.RowKit
set_option linter.unusedVariables false

/-- A kind of places is one. -/
def kindOk (k : Int) : Bool := decide (1 ≤ k) && decide (k ≤ 3)

theorem placeOk_any (w : World) (k : Int) :
    Calls Tryz.prog 102 #[.int .i64 k] w fun e w' => e = .returned (.bool (kindOk k)) ∧ w' = w := by
  by_cases h1 : 1 ≤ k
  · by_cases h2 : k ≤ 3
    · rw [show kindOk k = true by simp [kindOk, h1, h2]]
      go_enter Tryz.func102, Tryz.ntmps102
      go_wp2
      go_ret
      exact ⟨rfl, rfl⟩
    · rw [show kindOk k = false by simp [kindOk, h2]]
      go_enter Tryz.func102, Tryz.ntmps102
      go_wp2
      go_ret
      exact ⟨rfl, rfl⟩
  · rw [show kindOk k = false by simp [kindOk, h1]]
    go_enter Tryz.func102, Tryz.ntmps102
    go_wp2
    go_ret
    exact ⟨rfl, rfl⟩

theorem kindOk_addr (k t : Int) : addrOk ⟨k, t⟩ = (kindOk k && decide (0 ≤ t) && decide (t < 6)) := rfl

set_option maxHeartbeats 400000 in
theorem iAddrOk_any (w : World) (k t : Int) :
    Calls Tryz.prog 99 #[AddrD.val ⟨k, t⟩] w fun e w' => e = .returned (.bool (addrOk ⟨k, t⟩)) ∧ Below w.heap.size w w' := by
  have b1 := fun o => (Below.refl w.heap.size w).alloc (Nat.le_refl _) o
  rw [kindOk_addr]
  unfold AddrD.val
  cases hk : kindOk k
  · go_enter Tryz.func99, Tryz.ntmps99
    go_wp2_with fail
    refine (placeOk_any _ _).mono ?_
    rw [hk]
    rintro e w1 ⟨rfl, rfl⟩
    go_wp2
    go_ret
    exact ⟨rfl, b1 _⟩
  · by_cases h3 : 0 ≤ t
    · by_cases h4 : t < 6
      · rw [show (true && decide (0 ≤ t) && decide (t < 6)) = true by simp [h3, h4]]
        go_enter Tryz.func99, Tryz.ntmps99
        go_wp2_with fail
        refine (placeOk_any _ _).mono ?_
        rw [hk]
        rintro e w1 ⟨rfl, rfl⟩
        go_wp2
        go_ret
        exact ⟨rfl, b1 _⟩
      · rw [show (true && decide (0 ≤ t) && decide (t < 6)) = false by simp [h4]]
        go_enter Tryz.func99, Tryz.ntmps99
        go_wp2_with fail
        refine (placeOk_any _ _).mono ?_
        rw [hk]
        rintro e w1 ⟨rfl, rfl⟩
        go_wp2
        go_ret
        exact ⟨ret_bool (decide_eq_false (by omega)), b1 _⟩
    · rw [show (true && decide (0 ≤ t) && decide (t < 6)) = false by simp [h3]]
      go_enter Tryz.func99, Tryz.ntmps99
      go_wp2_with fail
      refine (placeOk_any _ _).mono ?_
      rw [hk]
      rintro e w1 ⟨rfl, rfl⟩
      go_wp2
      go_ret
      exact ⟨rfl, b1 _⟩

theorem takes_any (w : World) (k : Int) :
    Calls Tryz.prog 100 #[.int .i64 k] w fun e w' => e = .returned (.bool (kindOk k && (k != 1))) ∧ w' = w := by
  cases hk : kindOk k
  · go_enter Tryz.func100, Tryz.ntmps100
    go_wp2_with fail
    refine (placeOk_any _ _).mono ?_
    rw [hk]
    rintro e w1 ⟨rfl, rfl⟩
    go_wp2
    go_ret
    exact ⟨rfl, rfl⟩
  · go_enter Tryz.func100, Tryz.ntmps100
    go_wp2_with fail
    refine (placeOk_any _ _).mono ?_
    rw [hk]
    rintro e w1 ⟨rfl, rfl⟩
    go_wp2
    go_ret
    exact ⟨rfl, rfl⟩

theorem row_any (w : World) (k : Int) (B : Nat) (h1 : 1 ≤ k) (h2 : k ≤ 3) :
    Calls Tryz.prog 124 #[.int .i64 k, .pointer (some ⟨B, 0, none⟩)] w fun e w' => e = .returned (.pointer (some ⟨B, 6 * (k.toNat - 1), none⟩)) ∧ w' = w := by
  obtain rfl | rfl | rfl : k = 1 ∨ k = 2 ∨ k = 3 := by omega
  · go_enter Tryz.func124, Tryz.ntmps124
    go_wp2
    go_ret
    exact ⟨rfl, rfl⟩
  · go_enter Tryz.func124, Tryz.ntmps124
    go_wp2
    go_ret
    exact ⟨rfl, rfl⟩
  · go_enter Tryz.func124, Tryz.ntmps124
    go_wp2
    go_ret
    exact ⟨rfl, rfl⟩
end Go.Proofs.YtkeockippmmneaaGreat
