/-
  Kinds of what is reckoned, behind an interface: kindOf, kids, fits, partOk.
-/
import Derived.Test.YtaoiookfmgpmkaaGreatDoorExprSpec
import Derived.Test.YtaoiookfmgpmkaaGreatDoorImplA
namespace Go.Proofs.YtaoiookfmgpmkaaGreatDoor
open Go.ChangeShapes Go.WideShapes Go.ChangeAt Go.RowKit
set_option linter.unusedVariables false

/-- The kind of a number, as an interface's value. -/
def kindV (k : Int) : Value := if k = 1 then .iface 399 (.agg #[]) else if k = 2 then .iface 400 (.agg #[]) else if 3 ≤ k ∧ k ≤ 9 then .iface 342 (.int .i64 k) else if k = 10 then .iface 401 (.agg #[]) else .nilIface

set_option maxHeartbeats 1000000 in
theorem kindOf_any (w : World) (k : Int) :
    Calls Tryz.prog 299 #[.int .i64 k] w fun e w' => e = .returned (kindV k) ∧ w' = w := by
  unfold kindV
  by_cases h1 : k = 1
  · subst h1
    go_enter Tryz.func299, Tryz.ntmps299
    go_wp2
    go_ret
    exact ⟨rfl, rfl⟩
  by_cases h2 : k = 2
  · subst h2
    go_enter Tryz.func299, Tryz.ntmps299
    go_wp2
    go_ret
    exact ⟨rfl, rfl⟩
  have b1 : (k == 1) = false := by simp [h1]
  have b2 : (k == 2) = false := by simp [h2]
  rw [if_neg h1, if_neg h2]
  by_cases h3 : 3 ≤ k
  · by_cases h4 : k ≤ 9
    · rw [if_pos ⟨h3, h4⟩]
      clear h1 h2
      go_enter Tryz.func299, Tryz.ntmps299
      go_wp2
      go_ret
      exact ⟨rfl, rfl⟩
    · rw [if_neg (by omega)]
      by_cases h5 : k = 10
      · subst h5
        go_enter Tryz.func299, Tryz.ntmps299
        go_wp2
        go_ret
        exact ⟨rfl, rfl⟩
      · have b3 : (k == 10) = false := by simp [h5]
        rw [if_neg h5]
        clear h1 h2 h5
        go_enter Tryz.func299, Tryz.ntmps299
        go_wp2
        go_ret
        exact ⟨rfl, rfl⟩
  · rw [if_neg (by omega), if_neg (by omega)]
    have b3 : (k == 10) = false := by simp; omega
    clear h1 h2
    go_enter Tryz.func299, Tryz.ntmps299
    go_wp2
    go_ret
    exact ⟨rfl, rfl⟩

theorem m_kids_num : ∀ w : World, (method 547 399 (.agg #[]) "loop.example/stopgate/impl.kids").run Tryz.prog w = .ok (377, .agg #[]) w := fun _ => by kernel_rfl
theorem m_fits_num : ∀ w : World, (method 547 399 (.agg #[]) "loop.example/stopgate/impl.fits").run Tryz.prog w = .ok (376, .agg #[]) w := fun _ => by kernel_rfl
theorem m_comes_num : ∀ w : World, (method 547 399 (.agg #[]) "loop.example/stopgate/impl.comes").run Tryz.prog w = .ok (375, .agg #[]) w := fun _ => by kernel_rfl
theorem m_kids_addr : ∀ w : World, (method 547 400 (.agg #[]) "loop.example/stopgate/impl.kids").run Tryz.prog w = .ok (381, .agg #[]) w := fun _ => by kernel_rfl
theorem m_fits_addr : ∀ w : World, (method 547 400 (.agg #[]) "loop.example/stopgate/impl.fits").run Tryz.prog w = .ok (380, .agg #[]) w := fun _ => by kernel_rfl
theorem m_comes_addr : ∀ w : World, (method 547 400 (.agg #[]) "loop.example/stopgate/impl.comes").run Tryz.prog w = .ok (379, .agg #[]) w := fun _ => by kernel_rfl
theorem m_kids_two (k : Int) : ∀ w : World, (method 547 342 (.int .i64 k) "loop.example/stopgate/impl.kids").run Tryz.prog w = .ok (334, .int .i64 k) w := fun _ => by kernel_rfl
theorem m_fits_two (k : Int) : ∀ w : World, (method 547 342 (.int .i64 k) "loop.example/stopgate/impl.fits").run Tryz.prog w = .ok (333, .int .i64 k) w := fun _ => by kernel_rfl
theorem m_comes_two (k : Int) : ∀ w : World, (method 547 342 (.int .i64 k) "loop.example/stopgate/impl.comes").run Tryz.prog w = .ok (254, .int .i64 k) w := fun _ => by kernel_rfl
theorem m_kids_not : ∀ w : World, (method 547 401 (.agg #[]) "loop.example/stopgate/impl.kids").run Tryz.prog w = .ok (385, .agg #[]) w := fun _ => by kernel_rfl
theorem m_fits_not : ∀ w : World, (method 547 401 (.agg #[]) "loop.example/stopgate/impl.fits").run Tryz.prog w = .ok (384, .agg #[]) w := fun _ => by kernel_rfl
theorem m_comes_not : ∀ w : World, (method 547 401 (.agg #[]) "loop.example/stopgate/impl.comes").run Tryz.prog w = .ok (383, .agg #[]) w := fun _ => by kernel_rfl

theorem kids_num (w : World) : Calls Tryz.prog 377 #[.agg #[]] w fun e w' => e = .returned (.int .i64 0) ∧ Below w.heap.size w w' := by
  have b0 := Below.refl w.heap.size w
  have b1 := fun o => (Below.refl w.heap.size w).alloc (Nat.le_refl _) o
  go_enter Tryz.func377, Tryz.ntmps377
  go_wp2
  go_ret
  exact ⟨rfl, by first | exact b1 _ | exact b0⟩

theorem kids_addr (w : World) : Calls Tryz.prog 381 #[.agg #[]] w fun e w' => e = .returned (.int .i64 0) ∧ Below w.heap.size w w' := by
  have b0 := Below.refl w.heap.size w
  have b1 := fun o => (Below.refl w.heap.size w).alloc (Nat.le_refl _) o
  go_enter Tryz.func381, Tryz.ntmps381
  go_wp2
  go_ret
  exact ⟨rfl, by first | exact b1 _ | exact b0⟩

theorem kids_two (w : World) (k : Int) : Calls Tryz.prog 334 #[.int .i64 k] w fun e w' => e = .returned (.int .i64 2) ∧ Below w.heap.size w w' := by
  have b0 := Below.refl w.heap.size w
  have b1 := fun o => (Below.refl w.heap.size w).alloc (Nat.le_refl _) o
  go_enter Tryz.func334, Tryz.ntmps334
  go_wp2
  go_ret
  exact ⟨rfl, by first | exact b1 _ | exact b0⟩

theorem kids_not (w : World) : Calls Tryz.prog 385 #[.agg #[]] w fun e w' => e = .returned (.int .i64 1) ∧ Below w.heap.size w w' := by
  have b0 := Below.refl w.heap.size w
  have b1 := fun o => (Below.refl w.heap.size w).alloc (Nat.le_refl _) o
  go_enter Tryz.func385, Tryz.ntmps385
  go_wp2
  go_ret
  exact ⟨rfl, by first | exact b1 _ | exact b0⟩

/-- Neither a number nor a place of its own. -/
def noneB (n a t : Int) : Bool := (n == 0) && ((a == 0) && (t == 0))

set_option maxHeartbeats 1000000 in
theorem holdsNone_any (w : World) (k n a t : Int) (s : Value) (ad : Option Go.Addr) (len cap : Nat) (hs : s = .slice ad len cap) :
    Calls Tryz.prog 335 #[.agg #[.int .i64 k, .int .i64 n, .int .i64 a, .int .i64 t, s]] w fun e w' => e = .returned (.bool (noneB n a t)) ∧ Below w.heap.size w w' := by
  subst hs
  have b1 := fun o => (Below.refl w.heap.size w).alloc (Nat.le_refl _) o
  unfold noneB
  by_cases h1 : n = 0
  · subst h1
    by_cases h2 : a = 0
    · subst h2
      by_cases h3 : t = 0
      · subst h3
        go_enter Tryz.func335, Tryz.ntmps335
        go_wp2
        go_ret
        exact ⟨rfl, b1 _⟩
      · have e3 : (t == 0) = false := by simp [h3]
        go_enter Tryz.func335, Tryz.ntmps335
        go_wp2
        go_ret
        exact ⟨by rw [e3]; rfl, b1 _⟩
    · have e2 : (a == 0) = false := by simp [h2]
      go_enter Tryz.func335, Tryz.ntmps335
      go_wp2
      go_ret
      exact ⟨by rw [e2]; rfl, b1 _⟩
  · have e1 : (n == 0) = false := by simp [h1]
    go_enter Tryz.func335, Tryz.ntmps335
    go_wp2
    go_ret
    exact ⟨by rw [e1]; rfl, b1 _⟩
end Go.Proofs.YtaoiookfmgpmkaaGreatDoor
