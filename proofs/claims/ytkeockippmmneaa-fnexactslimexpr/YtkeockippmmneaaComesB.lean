/-
  What a part of two kids comes to.
-/
import Derived.Test.YtkeockippmmneaaBase
import Derived.Test.YtkeockippmmneaaTwoKit
namespace Go.Proofs.Ytkeockippmmneaa
open Go.ChangeShapes Go.WideShapes Go.ChangeAt Go.RowKit
set_option linter.unusedVariables false
set_option maxRecDepth 100000

theorem below_alloc2 (w : World) (x y : Obj) : Below w.heap.size w ((w.alloc x).alloc y) := ((Below.refl w.heap.size w).alloc (Nat.le_refl _) x).alloc (by simp) y

theorem twoZ_3 (x y : Int) : twoZ 3 x y = cutZ (cutZ x + cutZ y) := by simp [twoZ]
theorem twoZ_4 (x y : Int) : twoZ 4 x y = cutZ (cutZ x - cutZ y) := by simp [twoZ]
theorem twoZ_5 (x y : Int) : twoZ 5 x y = cutZ (cutZ x * cutZ y) := by simp [twoZ]
theorem twoZ_6 (x y : Int) : twoZ 6 x y = isZ (decide (x < y)) := by simp [twoZ]
theorem twoZ_7 (x y : Int) : twoZ 7 x y = isZ (x == y) := by simp [twoZ]
theorem twoZ_8 (x y : Int) : twoZ 8 x y = isZ ((x != 0) && (y != 0)) := by simp [twoZ]
theorem twoZ_9 (x y : Int) : twoZ 9 x y = isZ ((x != 0) || (y != 0)) := by simp [twoZ]

theorem numOn_any (w : World) (x : Int) : Calls Try.prog 124 #[.int .i64 x] w fun e w' => e = .returned (.bool (x != 0)) ∧ w' = w := by
  go_enter Try.func124, Try.ntmps124
  go_wp2
  go_ret
  exact ⟨rfl, rfl⟩

theorem numIs_any (w : World) (b : Bool) : Calls Try.prog 123 #[.bool b] w fun e w' => e = .returned (.int .i64 (isZ b)) ∧ w' = w := by
  cases b
  all_goals
    go_enter Try.func123, Try.ntmps123
    go_wp2
    go_ret
    exact ⟨rfl, rfl⟩

set_option maxHeartbeats 1000000 in
theorem comes_two3 (w : World) (j n a t : Int) (ad : Option Go.Addr) (len cap : Nat) (m0 m1 m2 : Value) (x y : Int) :
    Calls Try.prog 116 #[.int .i64 3, .agg #[.int .i64 j, .int .i64 n, .int .i64 a, .int .i64 t, .slice ad len cap], .agg #[m0, m1, m2], .int .i64 x, .int .i64 y] w fun e w' => e = .returned (.int .i64 (twoZ 3 x y)) ∧ Below w.heap.size w w' := by
  rw [twoZ_3]
  have b2 := below_alloc2 w
  go_enter Try.func116, Try.ntmps116
  go_wp2_with (go_at_call 120; refine (numAdd_any x y _).mono ?_; rintro e w1 ⟨rfl, rfl⟩)
  go_ret
  exact ⟨rfl, b2 _ _⟩

set_option maxHeartbeats 1000000 in
theorem comes_two4 (w : World) (j n a t : Int) (ad : Option Go.Addr) (len cap : Nat) (m0 m1 m2 : Value) (x y : Int) :
    Calls Try.prog 116 #[.int .i64 4, .agg #[.int .i64 j, .int .i64 n, .int .i64 a, .int .i64 t, .slice ad len cap], .agg #[m0, m1, m2], .int .i64 x, .int .i64 y] w fun e w' => e = .returned (.int .i64 (twoZ 4 x y)) ∧ Below w.heap.size w w' := by
  rw [twoZ_4]
  have b2 := below_alloc2 w
  go_enter Try.func116, Try.ntmps116
  go_wp2_with (go_at_call 121; refine (numSub_any x y _).mono ?_; rintro e w1 ⟨rfl, rfl⟩)
  go_ret
  exact ⟨rfl, b2 _ _⟩

set_option maxHeartbeats 1000000 in
theorem comes_two5 (w : World) (j n a t : Int) (ad : Option Go.Addr) (len cap : Nat) (m0 m1 m2 : Value) (x y : Int) :
    Calls Try.prog 116 #[.int .i64 5, .agg #[.int .i64 j, .int .i64 n, .int .i64 a, .int .i64 t, .slice ad len cap], .agg #[m0, m1, m2], .int .i64 x, .int .i64 y] w fun e w' => e = .returned (.int .i64 (twoZ 5 x y)) ∧ Below w.heap.size w w' := by
  rw [twoZ_5]
  have b2 := below_alloc2 w
  go_enter Try.func116, Try.ntmps116
  go_wp2_with (go_at_call 122; refine (numMul_any x y _).mono ?_; rintro e w1 ⟨rfl, rfl⟩)
  go_ret
  exact ⟨rfl, b2 _ _⟩

set_option maxHeartbeats 1000000 in
theorem comes_two6 (w : World) (j n a t : Int) (ad : Option Go.Addr) (len cap : Nat) (m0 m1 m2 : Value) (x y : Int) :
    Calls Try.prog 116 #[.int .i64 6, .agg #[.int .i64 j, .int .i64 n, .int .i64 a, .int .i64 t, .slice ad len cap], .agg #[m0, m1, m2], .int .i64 x, .int .i64 y] w fun e w' => e = .returned (.int .i64 (twoZ 6 x y)) ∧ Below w.heap.size w w' := by
  rw [twoZ_6]
  have b2 := below_alloc2 w
  go_enter Try.func116, Try.ntmps116
  go_wp2_with (go_at_call 123; refine (numIs_any _ _).mono ?_; rintro e w1 ⟨rfl, rfl⟩)
  go_ret
  exact ⟨rfl, b2 _ _⟩

set_option maxHeartbeats 1000000 in
theorem comes_two7 (w : World) (j n a t : Int) (ad : Option Go.Addr) (len cap : Nat) (m0 m1 m2 : Value) (x y : Int) :
    Calls Try.prog 116 #[.int .i64 7, .agg #[.int .i64 j, .int .i64 n, .int .i64 a, .int .i64 t, .slice ad len cap], .agg #[m0, m1, m2], .int .i64 x, .int .i64 y] w fun e w' => e = .returned (.int .i64 (twoZ 7 x y)) ∧ Below w.heap.size w w' := by
  rw [twoZ_7]
  have b2 := below_alloc2 w
  go_enter Try.func116, Try.ntmps116
  go_wp2_with (go_at_call 123; refine (numIs_any _ _).mono ?_; rintro e w1 ⟨rfl, rfl⟩)
  go_ret
  exact ⟨rfl, b2 _ _⟩

set_option maxHeartbeats 1000000 in
theorem comes_two8 (w : World) (j n a t : Int) (ad : Option Go.Addr) (len cap : Nat) (m0 m1 m2 : Value) (x y : Int) :
    Calls Try.prog 116 #[.int .i64 8, .agg #[.int .i64 j, .int .i64 n, .int .i64 a, .int .i64 t, .slice ad len cap], .agg #[m0, m1, m2], .int .i64 x, .int .i64 y] w fun e w' => e = .returned (.int .i64 (twoZ 8 x y)) ∧ Below w.heap.size w w' := by
  have b2 := below_alloc2 w
  have hx := fun W => numOn_any W x
  have hy := fun W => numOn_any W y
  rw [twoZ_8]
  generalize (x != 0) = p at *
  generalize (y != 0) = q at *
  cases p
  all_goals
    cases q
    all_goals
      go_enter Try.func116, Try.ntmps116
      go_wp2_with (first | (go_at_call 123; refine (numIs_any _ _).mono ?_; rintro e w1 ⟨rfl, rfl⟩) | (go_at_call 124; refine (hx _).mono ?_; clear hx; rintro e w1 ⟨rfl, rfl⟩) | (go_at_call 124; refine (hy _).mono ?_; rintro e w1 ⟨rfl, rfl⟩))
      go_ret
      exact ⟨rfl, b2 _ _⟩

set_option maxHeartbeats 1000000 in
theorem comes_two9 (w : World) (j n a t : Int) (ad : Option Go.Addr) (len cap : Nat) (m0 m1 m2 : Value) (x y : Int) :
    Calls Try.prog 116 #[.int .i64 9, .agg #[.int .i64 j, .int .i64 n, .int .i64 a, .int .i64 t, .slice ad len cap], .agg #[m0, m1, m2], .int .i64 x, .int .i64 y] w fun e w' => e = .returned (.int .i64 (twoZ 9 x y)) ∧ Below w.heap.size w w' := by
  have b2 := below_alloc2 w
  have hx := fun W => numOn_any W x
  have hy := fun W => numOn_any W y
  rw [twoZ_9]
  generalize (x != 0) = p at *
  generalize (y != 0) = q at *
  cases p
  all_goals
    cases q
    all_goals
      go_enter Try.func116, Try.ntmps116
      go_wp2_with (first | (go_at_call 123; refine (numIs_any _ _).mono ?_; rintro e w1 ⟨rfl, rfl⟩) | (go_at_call 124; refine (hx _).mono ?_; clear hx; rintro e w1 ⟨rfl, rfl⟩) | (go_at_call 124; refine (hy _).mono ?_; rintro e w1 ⟨rfl, rfl⟩))
      go_ret
      exact ⟨rfl, b2 _ _⟩

theorem comes_two (w : World) (j n a t : Int) (ad : Option Go.Addr) (len cap : Nat) (m0 m1 m2 : Value) (x y k : Int) (hk1 : 3 ≤ k) (hk2 : k ≤ 9) :
    Calls Try.prog 116 #[.int .i64 k, .agg #[.int .i64 j, .int .i64 n, .int .i64 a, .int .i64 t, .slice ad len cap], .agg #[m0, m1, m2], .int .i64 x, .int .i64 y] w fun e w' => e = .returned (.int .i64 (twoZ k x y)) ∧ Below w.heap.size w w' := by
  obtain rfl | rfl | rfl | rfl | rfl | rfl | rfl : k = 3 ∨ k = 4 ∨ k = 5 ∨ k = 6 ∨ k = 7 ∨ k = 8 ∨ k = 9 := by omega
  · exact comes_two3 w j n a t ad len cap m0 m1 m2 x y
  · exact comes_two4 w j n a t ad len cap m0 m1 m2 x y
  · exact comes_two5 w j n a t ad len cap m0 m1 m2 x y
  · exact comes_two6 w j n a t ad len cap m0 m1 m2 x y
  · exact comes_two7 w j n a t ad len cap m0 m1 m2 x y
  · exact comes_two8 w j n a t ad len cap m0 m1 m2 x y
  · exact comes_two9 w j n a t ad len cap m0 m1 m2 x y
end Go.Proofs.Ytkeockippmmneaa
