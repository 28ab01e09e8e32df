/-
  What each function of chapter 1 (package impl) and each of its models (package spec) answers, as a contract: called with any numbers, it returns its number, and the world stays as it was.
-/
import Derived.Test.YtkeockippmmneaaGreatKit
namespace Go.Proofs.YtkeockippmmneaaGreat
open Go.ChangeShapes Go.WideShapes Go.ChangeAt Go.RowKit

/-- A number, cut. -/
def cutZ (n : Int) : Int := if n < -1000000 then -1000000 else if 1000000 < n then 1000000 else n

theorem cutZ_bd (n : Int) : -1000000 ≤ cutZ n ∧ cutZ n ≤ 1000000 := by unfold cutZ; split <;> (try split) <;> omega
theorem cutZ_lo {n : Int} (h : n < -1000000) : cutZ n = -1000000 := by unfold cutZ; rw [if_pos h]
theorem cutZ_hi {n : Int} (h : 1000000 < n) : cutZ n = 1000000 := by unfold cutZ; rw [if_neg (by omega), if_pos h]
theorem cutZ_in {n : Int} (h : -1000000 ≤ n) (h' : n ≤ 1000000) : cutZ n = n := by unfold cutZ; rw [if_neg (by omega), if_neg (by omega)]

theorem mul_bd {a b : Int} (ha : -1000000 ≤ a) (ha' : a ≤ 1000000) (hb : -1000000 ≤ b) (hb' : b ≤ 1000000) : -1000000000000 ≤ a * b ∧ a * b ≤ 1000000000000 := by
  have h1 : 0 ≤ (1000000 - a) * (1000000 - b) := Int.mul_nonneg (by omega) (by omega)
  have h2 : 0 ≤ (1000000 + a) * (1000000 + b) := Int.mul_nonneg (by omega) (by omega)
  have h3 : 0 ≤ (1000000 - a) * (1000000 + b) := Int.mul_nonneg (by omega) (by omega)
  have h4 : 0 ≤ (1000000 + a) * (1000000 - b) := Int.mul_nonneg (by omega) (by omega)
  simp only [Int.mul_sub, Int.sub_mul, Int.mul_add, Int.add_mul] at h1 h2 h3 h4
  omega

set_option maxHeartbeats 400000 in
theorem cutWide_any (n : Int) (w : World) :
    Calls Tryz.prog 117 #[.int .i64 n] w fun e w' => e = .returned (.int .i64 (cutZ n)) ∧ w' = w := by
  by_cases h1 : n < -1000000
  · go_enter Tryz.func117, Tryz.ntmps117
    go_wp2
    all_goals first
      | (exfalso; rename_i h; rw [if_pos h1] at h; omega)
      | (go_ret; exact ⟨ret_int (cutZ_lo h1).symm, rfl⟩)
  · by_cases h2 : 1000000 < n
    · go_enter Tryz.func117, Tryz.ntmps117
      go_wp2
      all_goals (go_ret; exact ⟨ret_int (cutZ_hi h2).symm, rfl⟩)
    · have h3 : -1000000 ≤ n := by omega
      have h4 : n ≤ 1000000 := by omega
      clear h1 h2
      go_enter Tryz.func117, Tryz.ntmps117
      go_wp2
      all_goals (go_ret; exact ⟨ret_int (cutZ_in h3 h4).symm, rfl⟩)

theorem numCut_any (n : Int) (w : World) :
    Calls Tryz.prog 116 #[.int .i64 n] w fun e w' => e = .returned (.int .i64 (cutZ n)) ∧ w' = w := by
  go_enter Tryz.func116, Tryz.ntmps116
  go_wp2_with (go_at_call 117; refine (cutWide_any _ _).mono ?_; rintro e w' ⟨rfl, rfl⟩)
  go_ret
  exact ⟨rfl, rfl⟩

theorem wideAdd_any (a b : Int) (w : World) (ha : -1000000 ≤ a) (ha' : a ≤ 1000000) (hb : -1000000 ≤ b) (hb' : b ≤ 1000000) :
    Calls Tryz.prog 137 #[.int .i64 1, .int .i64 a, .int .i64 b] w fun e w' => e = .returned (.int .i64 (a + b)) ∧ w' = w := by
  go_enter Tryz.func137, Tryz.ntmps137
  go_wp2
  go_ret
  exact ⟨rfl, rfl⟩

theorem wideSub_any (a b : Int) (w : World) (ha : -1000000 ≤ a) (ha' : a ≤ 1000000) (hb : -1000000 ≤ b) (hb' : b ≤ 1000000) :
    Calls Tryz.prog 137 #[.int .i64 2, .int .i64 a, .int .i64 b] w fun e w' => e = .returned (.int .i64 (a - b)) ∧ w' = w := by
  go_enter Tryz.func137, Tryz.ntmps137
  go_wp2
  go_ret
  exact ⟨rfl, rfl⟩

theorem wideMul_any (a b : Int) (w : World) (ha : -1000000 ≤ a) (ha' : a ≤ 1000000) (hb : -1000000 ≤ b) (hb' : b ≤ 1000000) :
    Calls Tryz.prog 137 #[.int .i64 3, .int .i64 a, .int .i64 b] w fun e w' => e = .returned (.int .i64 (a * b)) ∧ w' = w := by
  have h1 := (mul_bd ha ha' hb hb').1
  have h2 := (mul_bd ha ha' hb hb').2
  go_enter Tryz.func137, Tryz.ntmps137
  go_wp2
  go_ret
  exact ⟨rfl, rfl⟩

theorem cutAdd_any (a b : Int) (w : World) :
    Calls Tryz.prog 136 #[.int .i64 1, .int .i64 a, .int .i64 b] w fun e w' => e = .returned (.int .i64 (cutZ (cutZ a + cutZ b))) ∧ w' = w := by
  have ha := cutZ_bd a
  have hb := cutZ_bd b
  go_enter Tryz.func136, Tryz.ntmps136
  go_wp2_with (first
    | (go_at_call 116; refine (numCut_any _ _).mono ?_; rintro e w' ⟨rfl, rfl⟩)
    | (go_at_call 137; refine (wideAdd_any _ _ _ ha.1 ha.2 hb.1 hb.2).mono ?_; rintro e w' ⟨rfl, rfl⟩)
    | (go_at_call 117; refine (cutWide_any _ _).mono ?_; rintro e w' ⟨rfl, rfl⟩))
  go_ret
  exact ⟨rfl, rfl⟩

theorem numAdd_any (a b : Int) (w : World) :
    Calls Tryz.prog 131 #[.int .i64 a, .int .i64 b] w fun e w' => e = .returned (.int .i64 (cutZ (cutZ a + cutZ b))) ∧ w' = w := by
  go_enter Tryz.func131, Tryz.ntmps131
  go_wp2_with (go_at_call 136; refine (cutAdd_any _ _ _).mono ?_; rintro e w' ⟨rfl, rfl⟩)
  go_ret
  exact ⟨rfl, rfl⟩

theorem cutSub_any (a b : Int) (w : World) :
    Calls Tryz.prog 136 #[.int .i64 2, .int .i64 a, .int .i64 b] w fun e w' => e = .returned (.int .i64 (cutZ (cutZ a - cutZ b))) ∧ w' = w := by
  have ha := cutZ_bd a
  have hb := cutZ_bd b
  go_enter Tryz.func136, Tryz.ntmps136
  go_wp2_with (first
    | (go_at_call 116; refine (numCut_any _ _).mono ?_; rintro e w' ⟨rfl, rfl⟩)
    | (go_at_call 137; refine (wideSub_any _ _ _ ha.1 ha.2 hb.1 hb.2).mono ?_; rintro e w' ⟨rfl, rfl⟩)
    | (go_at_call 117; refine (cutWide_any _ _).mono ?_; rintro e w' ⟨rfl, rfl⟩))
  go_ret
  exact ⟨rfl, rfl⟩

theorem numSub_any (a b : Int) (w : World) :
    Calls Tryz.prog 132 #[.int .i64 a, .int .i64 b] w fun e w' => e = .returned (.int .i64 (cutZ (cutZ a - cutZ b))) ∧ w' = w := by
  go_enter Tryz.func132, Tryz.ntmps132
  go_wp2_with (go_at_call 136; refine (cutSub_any _ _ _).mono ?_; rintro e w' ⟨rfl, rfl⟩)
  go_ret
  exact ⟨rfl, rfl⟩

theorem cutMul_any (a b : Int) (w : World) :
    Calls Tryz.prog 136 #[.int .i64 3, .int .i64 a, .int .i64 b] w fun e w' => e = .returned (.int .i64 (cutZ (cutZ a * cutZ b))) ∧ w' = w := by
  have ha := cutZ_bd a
  have hb := cutZ_bd b
  go_enter Tryz.func136, Tryz.ntmps136
  go_wp2_with (first
    | (go_at_call 116; refine (numCut_any _ _).mono ?_; rintro e w' ⟨rfl, rfl⟩)
    | (go_at_call 137; refine (wideMul_any _ _ _ ha.1 ha.2 hb.1 hb.2).mono ?_; rintro e w' ⟨rfl, rfl⟩)
    | (go_at_call 117; refine (cutWide_any _ _).mono ?_; rintro e w' ⟨rfl, rfl⟩))
  go_ret
  exact ⟨rfl, rfl⟩

theorem numMul_any (a b : Int) (w : World) :
    Calls Tryz.prog 133 #[.int .i64 a, .int .i64 b] w fun e w' => e = .returned (.int .i64 (cutZ (cutZ a * cutZ b))) ∧ w' = w := by
  go_enter Tryz.func133, Tryz.ntmps133
  go_wp2_with (go_at_call 136; refine (cutMul_any _ _ _).mono ?_; rintro e w' ⟨rfl, rfl⟩)
  go_ret
  exact ⟨rfl, rfl⟩

theorem sCut_any (n : Int) (w : World) :
    Calls Tryz.prog 69 #[.int .i64 n] w fun e w' => e = .returned (.int .i64 (cutZ n)) ∧ w' = w := by
  by_cases h1 : n < -1000000
  · have h2 : n < 1000000 := by omega
    go_enter Tryz.func69, Tryz.ntmps69
    go_wp2
    go_ret
    exact ⟨ret_int (cutZ_lo h1).symm, rfl⟩
  · by_cases h2 : 1000000 < n
    · go_enter Tryz.func69, Tryz.ntmps69
      go_wp2
      go_ret
      exact ⟨ret_int (cutZ_hi h2).symm, rfl⟩
    · have h3 : -1000000 ≤ n := by omega
      have h4 : n ≤ 1000000 := by omega
      clear h1 h2
      go_enter Tryz.func69, Tryz.ntmps69
      go_wp2
      all_goals
        go_ret
        exact ⟨ret_int (by unfold cutZ; split <;> (try split) <;> omega), rfl⟩

theorem sAdd_any (a b : Int) (w : World) :
    Calls Tryz.prog 70 #[.int .i64 a, .int .i64 b] w fun e w' => e = .returned (.int .i64 (cutZ (cutZ a + cutZ b))) ∧ w' = w := by
  have ha := cutZ_bd a
  have hb := cutZ_bd b
  go_enter Tryz.func70, Tryz.ntmps70
  go_wp2_with (go_at_call 69; refine (sCut_any _ _).mono ?_; rintro e w' ⟨rfl, rfl⟩)
  go_ret
  exact ⟨rfl, rfl⟩

theorem sSub_any (a b : Int) (w : World) :
    Calls Tryz.prog 71 #[.int .i64 a, .int .i64 b] w fun e w' => e = .returned (.int .i64 (cutZ (cutZ a - cutZ b))) ∧ w' = w := by
  have ha := cutZ_bd a
  have hb := cutZ_bd b
  go_enter Tryz.func71, Tryz.ntmps71
  go_wp2_with (go_at_call 69; refine (sCut_any _ _).mono ?_; rintro e w' ⟨rfl, rfl⟩)
  go_ret
  exact ⟨rfl, rfl⟩

theorem sMul_any (a b : Int) (w : World) :
    Calls Tryz.prog 72 #[.int .i64 a, .int .i64 b] w fun e w' => e = .returned (.int .i64 (cutZ (cutZ a * cutZ b))) ∧ w' = w := by
  have ha := cutZ_bd a
  have hb := cutZ_bd b
  have h1 := (mul_bd ha.1 ha.2 hb.1 hb.2).1
  have h2 := (mul_bd ha.1 ha.2 hb.1 hb.2).2
  go_enter Tryz.func72, Tryz.ntmps72
  go_wp2_with (go_at_call 69; refine (sCut_any _ _).mono ?_; rintro e w' ⟨rfl, rfl⟩)
  go_ret
  exact ⟨rfl, rfl⟩

end Go.Proofs.YtkeockippmmneaaGreat
