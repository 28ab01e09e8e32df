/-
  Kinds of what is reckoned, behind an interface: kindOf, kids, fits, partOk.
-/
import Derived.Test.YtkeockippmmneaaExprSpec
import Derived.Test.YtkeockippmmneaaImplA
namespace Go.Proofs.Ytkeockippmmneaa
open Go.ChangeShapes Go.WideShapes Go.ChangeAt Go.RowKit
set_option linter.unusedVariables false

/-- The kind of a number, as an interface's value. -/
def kindV (k : Int) : Value := if k = 1 then .iface 95 (.agg #[]) else if k = 2 then .iface 96 (.agg #[]) else if 3 ≤ k ∧ k ≤ 9 then .iface 97 (.int .i64 k) else if k = 10 then .iface 98 (.agg #[]) else .nilIface

set_option maxHeartbeats 1000000 in
theorem kindOf_any (w : World) (k : Int) :
    Calls Try.prog 69 #[.int .i64 k] w fun e w' => e = .returned (kindV k) ∧ w' = w := by
  unfold kindV
  by_cases h1 : k = 1
  · subst h1
    go_enter Try.func69, Try.ntmps69
    go_wp2
    go_ret
    exact ⟨rfl, rfl⟩
  by_cases h2 : k = 2
  · subst h2
    go_enter Try.func69, Try.ntmps69
    go_wp2
    go_ret
    exact ⟨rfl, rfl⟩
  have b1 : (k == 1) = false := by simp [h1]
  have b2 : (k == 2) = false := by simp [h2]
  rw [if_neg h1, if_neg h2]
  by_cases h3 : 3 ≤ k
  · by_cases h4 : k ≤ 9
    · rw [if_pos ⟨h3, h4⟩]
      clear h1 h2
      go_enter Try.func69, Try.ntmps69
      go_wp2
      go_ret
      exact ⟨rfl, rfl⟩
    · rw [if_neg (by omega)]
      by_cases h5 : k = 10
      · subst h5
        go_enter Try.func69, Try.ntmps69
        go_wp2
        go_ret
        exact ⟨rfl, rfl⟩
      · have b3 : (k == 10) = false := by simp [h5]
        rw [if_neg h5]
        clear h1 h2 h5
        go_enter Try.func69, Try.ntmps69
        go_wp2
        go_ret
        exact ⟨rfl, rfl⟩
  · rw [if_neg (by omega), if_neg (by omega)]
    have b3 : (k == 10) = false := by simp; omega
    clear h1 h2
    go_enter Try.func69, Try.ntmps69
    go_wp2
    go_ret
    exact ⟨rfl, rfl⟩

theorem m_kids_num : ∀ w : World, (method 254 95 (.agg #[]) "loop.example/stopgate/impl.kids").run Try.prog w = .ok (101, .agg #[]) w := fun _ => by kernel_rfl
theorem m_fits_num : ∀ w : World, (method 254 95 (.agg #[]) "loop.example/stopgate/impl.fits").run Try.prog w = .ok (100, .agg #[]) w := fun _ => by kernel_rfl
theorem m_comes_num : ∀ w : World, (method 254 95 (.agg #[]) "loop.example/stopgate/impl.comes").run Try.prog w = .ok (99, .agg #[]) w := fun _ => by kernel_rfl
theorem m_kids_addr : ∀ w : World, (method 254 96 (.agg #[]) "loop.example/stopgate/impl.kids").run Try.prog w = .ok (107, .agg #[]) w := fun _ => by kernel_rfl
theorem m_fits_addr : ∀ w : World, (method 254 96 (.agg #[]) "loop.example/stopgate/impl.fits").run Try.prog w = .ok (106, .agg #[]) w := fun _ => by kernel_rfl
theorem m_comes_addr : ∀ w : World, (method 254 96 (.agg #[]) "loop.example/stopgate/impl.comes").run Try.prog w = .ok (105, .agg #[]) w := fun _ => by kernel_rfl
theorem m_kids_two (k : Int) : ∀ w : World, (method 254 97 (.int .i64 k) "loop.example/stopgate/impl.kids").run Try.prog w = .ok (118, .int .i64 k) w := fun _ => by kernel_rfl
theorem m_fits_two (k : Int) : ∀ w : World, (method 254 97 (.int .i64 k) "loop.example/stopgate/impl.fits").run Try.prog w = .ok (117, .int .i64 k) w := fun _ => by kernel_rfl
theorem m_comes_two (k : Int) : ∀ w : World, (method 254 97 (.int .i64 k) "loop.example/stopgate/impl.comes").run Try.prog w = .ok (116, .int .i64 k) w := fun _ => by kernel_rfl
theorem m_kids_not : ∀ w : World, (method 254 98 (.agg #[]) "loop.example/stopgate/impl.kids").run Try.prog w = .ok (130, .agg #[]) w := fun _ => by kernel_rfl
theorem m_fits_not : ∀ w : World, (method 254 98 (.agg #[]) "loop.example/stopgate/impl.fits").run Try.prog w = .ok (129, .agg #[]) w := fun _ => by kernel_rfl
theorem m_comes_not : ∀ w : World, (method 254 98 (.agg #[]) "loop.example/stopgate/impl.comes").run Try.prog w = .ok (128, .agg #[]) w := fun _ => by kernel_rfl

theorem kids_num (w : World) : Calls Try.prog 101 #[.agg #[]] w fun e w' => e = .returned (.int .i64 0) ∧ Below w.heap.size w w' := by
  have b0 := Below.refl w.heap.size w
  have b1 := fun o => (Below.refl w.heap.size w).alloc (Nat.le_refl _) o
  go_enter Try.func101, Try.ntmps101
  go_wp2
  go_ret
  exact ⟨rfl, by first | exact b1 _ | exact b0⟩

theorem kids_addr (w : World) : Calls Try.prog 107 #[.agg #[]] w fun e w' => e = .returned (.int .i64 0) ∧ Below w.heap.size w w' := by
  have b0 := Below.refl w.heap.size w
  have b1 := fun o => (Below.refl w.heap.size w).alloc (Nat.le_refl _) o
  go_enter Try.func107, Try.ntmps107
  go_wp2
  go_ret
  exact ⟨rfl, by first | exact b1 _ | exact b0⟩

theorem kids_two (w : World) (k : Int) : Calls Try.prog 118 #[.int .i64 k] w fun e w' => e = .returned (.int .i64 2) ∧ Below w.heap.size w w' := by
  have b0 := Below.refl w.heap.size w
  have b1 := fun o => (Below.refl w.heap.size w).alloc (Nat.le_refl _) o
  go_enter Try.func118, Try.ntmps118
  go_wp2
  go_ret
  exact ⟨rfl, by first | exact b1 _ | exact b0⟩

theorem kids_not (w : World) : Calls Try.prog 130 #[.agg #[]] w fun e w' => e = .returned (.int .i64 1) ∧ Below w.heap.size w w' := by
  have b0 := Below.refl w.heap.size w
  have b1 := fun o => (Below.refl w.heap.size w).alloc (Nat.le_refl _) o
  go_enter Try.func130, Try.ntmps130
  go_wp2
  go_ret
  exact ⟨rfl, by first | exact b1 _ | exact b0⟩

/-- Neither a number nor a place of its own. -/
def noneB (n a t : Int) : Bool := (n == 0) && ((a == 0) && (t == 0))

set_option maxHeartbeats 1000000 in
theorem holdsNone_any (w : World) (k n a t : Int) (s : Value) (ad : Option Go.Addr) (len cap : Nat) (hs : s = .slice ad len cap) :
    Calls Try.prog 125 #[.agg #[.int .i64 k, .int .i64 n, .int .i64 a, .int .i64 t, s]] w fun e w' => e = .returned (.bool (noneB n a t)) ∧ Below w.heap.size w w' := by
  subst hs
  have b1 := fun o => (Below.refl w.heap.size w).alloc (Nat.le_refl _) o
  unfold noneB
  by_cases h1 : n = 0
  · subst h1
    by_cases h2 : a = 0
    · subst h2
      by_cases h3 : t = 0
      · subst h3
        go_enter Try.func125, Try.ntmps125
        go_wp2
        go_ret
        exact ⟨rfl, b1 _⟩
      · have e3 : (t == 0) = false := by simp [h3]
        go_enter Try.func125, Try.ntmps125
        go_wp2
        go_ret
        exact ⟨by rw [e3]; rfl, b1 _⟩
    · have e2 : (a == 0) = false := by simp [h2]
      go_enter Try.func125, Try.ntmps125
      go_wp2
      go_ret
      exact ⟨by rw [e2]; rfl, b1 _⟩
  · have e1 : (n == 0) = false := by simp [h1]
    go_enter Try.func125, Try.ntmps125
    go_wp2
    go_ret
    exact ⟨by rw [e1]; rfl, b1 _⟩
end Go.Proofs.Ytkeockippmmneaa
