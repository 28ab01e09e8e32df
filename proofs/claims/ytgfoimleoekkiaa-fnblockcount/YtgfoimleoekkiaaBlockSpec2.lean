/-
  What chapter 6's model (package spec) answers of a step: l6Delay, l6Hold, l6Count, l6Step, BlockStep. (Written by our generator gen_block.py.)
-/
import Derived.Test.YtgfoimleoekkiaaBlockSpec
namespace Go.Proofs.Ytgfoimleoekkiaa
open Go.ChangeShapes Go.WideShapes Go.ChangeAt Go.RowKit
set_option linter.unusedVariables false
set_option linter.unusedSimpArgs false


theorem min_any (w : World) (z : Int) :
    Calls Try.prog 37 #[.int .i64 1000, .int .i64 z] w fun e w' => e = .returned (.int .i64 (upto z)) ∧ w' = w := by
  unfold upto
  by_cases h : 1000 < z
  · rw [if_pos h]
    go_enter Try.func37, Try.ntmps37
    go_wp2
    go_ret
    exact ⟨rfl, rfl⟩
  · rw [if_neg h]
    go_enter Try.func37, Try.ntmps37
    go_wp2
    go_ret
    exact ⟨rfl, rfl⟩

set_option maxHeartbeats 4000000 in
theorem l6Delay_any (w : World) (n t dt : Int) (on was x y : Bool) (ht : 0 ≤ t) (ht' : t ≤ 1000) (hd : 0 ≤ dt) (hd' : dt ≤ 1000) :
    Calls Try.prog 34 #[BlockD.val ⟨1, n, on, was, t⟩, .bool x, .int .i64 dt] w fun e w' => e = .returned (BlockD.val ⟨1, n, stepOn ⟨1, n, on, was, t⟩ x y (stepT ⟨1, n, on, was, t⟩ x y dt), was, stepT ⟨1, n, on, was, t⟩ x y dt⟩) ∧ Below w.heap.size w w' := by
  unfold BlockD.val stepOn stepT
  simp only [reduceIte, show ¬ ((2 : Int) = 1) by decide, show ¬ ((3 : Int) = 1) by decide, show ¬ ((3 : Int) = 2) by decide]
  cases x
  · simp only [Bool.true_and, Bool.and_true, Bool.false_and, Bool.and_false, Bool.true_or, Bool.or_true, Bool.false_or, Bool.or_false, Bool.not_true, Bool.not_false, Bool.false_eq_true, reduceIte]
    go_enter Try.func34, Try.ntmps34
    go_wp2_with (go_at_call 37; refine (min_any _ _).mono ?_; rintro e w' ⟨rfl, rfl⟩)
    refine bodyPost_ret (v := .agg #[.int .i64 1, .int .i64 n, .bool false, .bool _, .int .i64 0]) ?_ rfl ⟨rfl, ?_⟩
    · simp [results, Try.results34, go_sem]
    · repeat first | exact Below.refl _ _ | apply below_al | apply below_dr | refine below_se ?_ (by simp <;> omega) _
  cases was
  · simp only [Bool.true_and, Bool.and_true, Bool.false_and, Bool.and_false, Bool.true_or, Bool.or_true, Bool.false_or, Bool.or_false, Bool.not_true, Bool.not_false, Bool.false_eq_true, reduceIte]
    go_enter Try.func34, Try.ntmps34
    go_wp2_with (go_at_call 37; refine (min_any _ _).mono ?_; rintro e w' ⟨rfl, rfl⟩)
    refine bodyPost_ret (v := .agg #[.int .i64 1, .int .i64 n, .bool (decide (n ≤ 0)), .bool _, .int .i64 0]) ?_ rfl ⟨rfl, ?_⟩
    · simp [results, Try.results34, go_sem]
    · repeat first | exact Below.refl _ _ | apply below_al | apply below_dr | refine below_se ?_ (by simp <;> omega) _
  simp only [Bool.true_and, Bool.and_true, Bool.false_and, Bool.and_false, Bool.true_or, Bool.or_true, Bool.false_or, Bool.or_false, Bool.not_true, Bool.not_false, Bool.false_eq_true, reduceIte]
  go_enter Try.func34, Try.ntmps34
  go_wp2_with (go_at_call 37; refine (min_any _ _).mono ?_; rintro e w' ⟨rfl, rfl⟩)
  refine bodyPost_ret (v := .agg #[.int .i64 1, .int .i64 n, .bool (decide (n ≤ upto (t + dt))), .bool _, .int .i64 (upto (t + dt))]) ?_ rfl ⟨rfl, ?_⟩
  · simp [results, Try.results34, go_sem]
  · repeat first | exact Below.refl _ _ | apply below_al | apply below_dr | refine below_se ?_ (by simp <;> omega) _

set_option maxHeartbeats 4000000 in
theorem l6Hold_any (w : World) (n t dt : Int) (on was x y : Bool) (ht : 0 ≤ t) (ht' : t ≤ 1000) (hd : 0 ≤ dt) (hd' : dt ≤ 1000) :
    Calls Try.prog 35 #[BlockD.val ⟨2, n, on, was, t⟩, .bool x, .int .i64 dt] w fun e w' => e = .returned (BlockD.val ⟨2, n, stepOn ⟨2, n, on, was, t⟩ x y (stepT ⟨2, n, on, was, t⟩ x y dt), was, stepT ⟨2, n, on, was, t⟩ x y dt⟩) ∧ Below w.heap.size w w' := by
  unfold BlockD.val stepOn stepT
  simp only [reduceIte, show ¬ ((2 : Int) = 1) by decide, show ¬ ((3 : Int) = 1) by decide, show ¬ ((3 : Int) = 2) by decide]
  cases x
  rotate_left 1
  · simp only [Bool.true_and, Bool.and_true, Bool.false_and, Bool.and_false, Bool.true_or, Bool.or_true, Bool.false_or, Bool.or_false, Bool.not_true, Bool.not_false, Bool.false_eq_true, reduceIte]
    go_enter Try.func35, Try.ntmps35
    go_wp2_with (go_at_call 37; refine (min_any _ _).mono ?_; rintro e w' ⟨rfl, rfl⟩)
    refine bodyPost_ret (v := .agg #[.int .i64 2, .int .i64 n, .bool true, .bool _, .int .i64 0]) ?_ rfl ⟨rfl, ?_⟩
    · simp [results, Try.results35, go_sem]
    · repeat first | exact Below.refl _ _ | apply below_al | apply below_dr | refine below_se ?_ (by simp <;> omega) _
  cases was
  rotate_left 1
  · cases on
    · simp only [Bool.true_and, Bool.and_true, Bool.false_and, Bool.and_false, Bool.true_or, Bool.or_true, Bool.false_or, Bool.or_false, Bool.not_true, Bool.not_false, Bool.false_eq_true, reduceIte]
      go_enter Try.func35, Try.ntmps35
      go_wp2_with (go_at_call 37; refine (min_any _ _).mono ?_; rintro e w' ⟨rfl, rfl⟩)
      refine bodyPost_ret (v := .agg #[.int .i64 2, .int .i64 n, .bool false, .bool _, .int .i64 0]) ?_ rfl ⟨rfl, ?_⟩
      · simp [results, Try.results35, go_sem]
      · repeat first | exact Below.refl _ _ | apply below_al | apply below_dr | refine below_se ?_ (by simp <;> omega) _
    simp only [Bool.true_and, Bool.and_true, Bool.false_and, Bool.and_false, Bool.true_or, Bool.or_true, Bool.false_or, Bool.or_false, Bool.not_true, Bool.not_false, Bool.false_eq_true, reduceIte]
    go_enter Try.func35, Try.ntmps35
    go_wp2_with (go_at_call 37; refine (min_any _ _).mono ?_; rintro e w' ⟨rfl, rfl⟩)
    refine bodyPost_ret (v := .agg #[.int .i64 2, .int .i64 n, .bool (decide (0 < n)), .bool _, .int .i64 0]) ?_ rfl ⟨rfl, ?_⟩
    · simp [results, Try.results35, go_sem]
    · repeat first | exact Below.refl _ _ | apply below_al | apply below_dr | refine below_se ?_ (by simp <;> omega) _
  cases on
  · simp only [Bool.true_and, Bool.and_true, Bool.false_and, Bool.and_false, Bool.true_or, Bool.or_true, Bool.false_or, Bool.or_false, Bool.not_true, Bool.not_false, Bool.false_eq_true, reduceIte]
    go_enter Try.func35, Try.ntmps35
    go_wp2_with (go_at_call 37; refine (min_any _ _).mono ?_; rintro e w' ⟨rfl, rfl⟩)
    refine bodyPost_ret (v := .agg #[.int .i64 2, .int .i64 n, .bool false, .bool _, .int .i64 (upto (t + dt))]) ?_ rfl ⟨rfl, ?_⟩
    · simp [results, Try.results35, go_sem]
    · repeat first | exact Below.refl _ _ | apply below_al | apply below_dr | refine below_se ?_ (by simp <;> omega) _
  simp only [Bool.true_and, Bool.and_true, Bool.false_and, Bool.and_false, Bool.true_or, Bool.or_true, Bool.false_or, Bool.or_false, Bool.not_true, Bool.not_false, Bool.false_eq_true, reduceIte]
  go_enter Try.func35, Try.ntmps35
  go_wp2_with (go_at_call 37; refine (min_any _ _).mono ?_; rintro e w' ⟨rfl, rfl⟩)
  refine bodyPost_ret (v := .agg #[.int .i64 2, .int .i64 n, .bool (decide (upto (t + dt) < n)), .bool _, .int .i64 (upto (t + dt))]) ?_ rfl ⟨rfl, ?_⟩
  · simp [results, Try.results35, go_sem]
  · repeat first | exact Below.refl _ _ | apply below_al | apply below_dr | refine below_se ?_ (by simp <;> omega) _

set_option maxHeartbeats 4000000 in
theorem l6Count_any (w : World) (n t dt : Int) (on was x y : Bool) (ht : 0 ≤ t) (ht' : t ≤ 1000) (hd : 0 ≤ dt) (hd' : dt ≤ 1000) :
    Calls Try.prog 36 #[BlockD.val ⟨3, n, on, was, t⟩, .bool x, .bool y] w fun e w' => e = .returned (BlockD.val ⟨3, n, stepOn ⟨3, n, on, was, t⟩ x y (stepT ⟨3, n, on, was, t⟩ x y dt), was, stepT ⟨3, n, on, was, t⟩ x y dt⟩) ∧ Below w.heap.size w w' := by
  unfold BlockD.val stepOn stepT
  simp only [reduceIte, show ¬ ((2 : Int) = 1) by decide, show ¬ ((3 : Int) = 1) by decide, show ¬ ((3 : Int) = 2) by decide]
  cases y
  rotate_left 1
  · simp only [Bool.true_and, Bool.and_true, Bool.false_and, Bool.and_false, Bool.true_or, Bool.or_true, Bool.false_or, Bool.or_false, Bool.not_true, Bool.not_false, Bool.false_eq_true, reduceIte]
    go_enter Try.func36, Try.ntmps36
    go_wp2_with (go_at_call 37; refine (min_any _ _).mono ?_; rintro e w' ⟨rfl, rfl⟩)
    refine bodyPost_ret (v := .agg #[.int .i64 3, .int .i64 n, .bool (decide (n ≤ 0)), .bool _, .int .i64 0]) ?_ rfl ⟨rfl, ?_⟩
    · simp [results, Try.results36, go_sem]
    · repeat first | exact Below.refl _ _ | apply below_al | apply below_dr | refine below_se ?_ (by simp <;> omega) _
  cases x
  · simp only [Bool.true_and, Bool.and_true, Bool.false_and, Bool.and_false, Bool.true_or, Bool.or_true, Bool.false_or, Bool.or_false, Bool.not_true, Bool.not_false, Bool.false_eq_true, reduceIte]
    go_enter Try.func36, Try.ntmps36
    go_wp2_with (go_at_call 37; refine (min_any _ _).mono ?_; rintro e w' ⟨rfl, rfl⟩)
    refine bodyPost_ret (v := .agg #[.int .i64 3, .int .i64 n, .bool (decide (n ≤ t)), .bool _, .int .i64 t]) ?_ rfl ⟨rfl, ?_⟩
    · simp [results, Try.results36, go_sem]
    · repeat first | exact Below.refl _ _ | apply below_al | apply below_dr | refine below_se ?_ (by simp <;> omega) _
  cases was
  rotate_left 1
  · simp only [Bool.true_and, Bool.and_true, Bool.false_and, Bool.and_false, Bool.true_or, Bool.or_true, Bool.false_or, Bool.or_false, Bool.not_true, Bool.not_false, Bool.false_eq_true, reduceIte]
    go_enter Try.func36, Try.ntmps36
    go_wp2_with (go_at_call 37; refine (min_any _ _).mono ?_; rintro e w' ⟨rfl, rfl⟩)
    refine bodyPost_ret (v := .agg #[.int .i64 3, .int .i64 n, .bool (decide (n ≤ t)), .bool _, .int .i64 t]) ?_ rfl ⟨rfl, ?_⟩
    · simp [results, Try.results36, go_sem]
    · repeat first | exact Below.refl _ _ | apply below_al | apply below_dr | refine below_se ?_ (by simp <;> omega) _
  simp only [Bool.true_and, Bool.and_true, Bool.false_and, Bool.and_false, Bool.true_or, Bool.or_true, Bool.false_or, Bool.or_false, Bool.not_true, Bool.not_false, Bool.false_eq_true, reduceIte]
  go_enter Try.func36, Try.ntmps36
  go_wp2_with (go_at_call 37; refine (min_any _ _).mono ?_; rintro e w' ⟨rfl, rfl⟩)
  refine bodyPost_ret (v := .agg #[.int .i64 3, .int .i64 n, .bool (decide (n ≤ upto (t + 1))), .bool _, .int .i64 (upto (t + 1))]) ?_ rfl ⟨rfl, ?_⟩
  · simp [results, Try.results36, go_sem]
  · repeat first | exact Below.refl _ _ | apply below_al | apply below_dr | refine below_se ?_ (by simp <;> omega) _

end Go.Proofs.Ytgfoimleoekkiaa
