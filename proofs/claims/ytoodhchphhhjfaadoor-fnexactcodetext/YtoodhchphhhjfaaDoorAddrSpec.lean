/-
  What chapter 2's models (package spec) answer: a place read from its text.
-/
import Derived.Test.YtoodhchphhhjfaaDoorAddrKit
namespace Go.Proofs.YtoodhchphhhjfaaDoor
open Go.ChangeShapes Go.WideShapes Go.ChangeAt Go.RowKit
set_option linter.unusedVariables false

/-- The kind of a place's letter; 0 where it is none. -/
def letterKind (b : Int) : Int := if b = 105 then 1 else if b = 111 then 2 else if b = 118 then 3 else 0

/-- A place out of two bytes. -/
def addrOf (b0 b1 : Int) : AddrD × Bool := if 48 ≤ b1 ∧ b1 < 54 ∧ letterKind b0 ≠ 0 then (⟨letterKind b0, b1 - 48⟩, true) else (⟨0, 0⟩, false)

/-- A place read from its text. -/
def addrRead (s : ByteArray) : AddrD × Bool := if h : s.size = 2 then addrOf ((s[0]'(by omega)).toNat : Int) ((s[1]'(by omega)).toNat : Int) else (⟨0, 0⟩, false)

theorem addrOf_no {b0 b1 : Int} (h : b1 < 48 ∨ 54 ≤ b1) : addrOf b0 b1 = (⟨0, 0⟩, false) := by
  unfold addrOf; rw [if_neg (by omega)]
theorem addrOf_none {b0 b1 : Int} (h1 : b0 ≠ 105) (h2 : b0 ≠ 111) (h3 : b0 ≠ 118) : addrOf b0 b1 = (⟨0, 0⟩, false) := by
  unfold addrOf letterKind; rw [if_neg h1, if_neg h2, if_neg h3, if_neg (by omega)]
theorem addrOf_yes {b0 b1 k : Int} (h1 : 48 ≤ b1) (h2 : b1 < 54) (hk : letterKind b0 = k) (h0 : k ≠ 0) : addrOf b0 b1 = (⟨k, b1 - 48⟩, true) := by
  unfold addrOf; rw [hk, if_pos ⟨h1, h2, h0⟩]

set_option maxHeartbeats 1000000 in
theorem sAddrRead_any (w : World) (s : ByteArray) (hs : s.size ≤ maxLen) :
    Calls Tryd.prog 39 #[.string s] w fun e w' => e = .returned (.tuple #[(addrRead s).1.val, .bool (addrRead s).2]) ∧ Below w.heap.size w w' := by
  unfold maxLen at hs
  have b1 := fun o => (Below.refl w.heap.size w).alloc (Nat.le_refl _) o
  by_cases h2 : s.size = 2
  · have hi : ((s.size : Int) == 2) = true := by simp; omega
    have e : addrRead s = addrOf ((s[0]'(by omega)).toNat : Int) ((s[1]'(by omega)).toNat : Int) := by unfold addrRead; rw [dif_pos h2]
    obtain ⟨c0, h0, p0, q0⟩ : ∃ c : Int, ((s[0]'(by omega)).toNat : Int) = c ∧ 0 ≤ c ∧ c ≤ 255 := ⟨_, rfl, by omega, by have := (s[0]'(by omega)).toNat_lt; omega⟩
    obtain ⟨c1, h1, p1, q1⟩ : ∃ c : Int, ((s[1]'(by omega)).toNat : Int) = c ∧ 0 ≤ c ∧ c ≤ 255 := ⟨_, rfl, by omega, by have := (s[1]'(by omega)).toNat_lt; omega⟩
    rw [e, h0, h1]
    clear e
    have l0 : (0 : Int) < (s.size : Int) := by omega
    have l1 : (1 : Int) < (s.size : Int) := by omega
    by_cases r1 : c1 < 48
    · rw [addrOf_no (.inl r1)]
      unfold AddrD.val
      go_enter Tryd.func39, Tryd.ntmps39
      go_wp2
      exact bodyPost_ret (v := .tuple #[.agg #[.int .i64 0, .int .i64 0], .bool false]) (by simp [results, Tryd.results39, go_sem]) rfl ⟨rfl, b1 _⟩
    · by_cases r2 : 54 ≤ c1
      · rw [addrOf_no (.inr r2)]
        unfold AddrD.val
        go_enter Tryd.func39, Tryd.ntmps39
        go_wp2
        exact bodyPost_ret (v := .tuple #[.agg #[.int .i64 0, .int .i64 0], .bool false]) (by simp [results, Tryd.results39, go_sem]) rfl ⟨rfl, b1 _⟩
      · have r1' : 48 ≤ c1 := by omega
        have r2' : c1 < 54 := by omega
        clear r1 r2
        by_cases k1 : c0 = 105
        · subst k1
          rw [addrOf_yes r1' r2' (show letterKind 105 = 1 by decide) (by decide)]
          unfold AddrD.val
          go_enter Tryd.func39, Tryd.ntmps39
          go_wp2
          exact bodyPost_ret (v := .tuple #[.agg #[.int .i64 1, .int .i64 (c1 - 48)], .bool true]) (by simp [results, Tryd.results39, go_sem]) rfl ⟨rfl, b1 _⟩
        · have f1 : (c0 == 105) = false := by simpa using k1
          by_cases k2 : c0 = 111
          · subst k2
            rw [addrOf_yes r1' r2' (show letterKind 111 = 2 by decide) (by decide)]
            unfold AddrD.val
            go_enter Tryd.func39, Tryd.ntmps39
            go_wp2
            exact bodyPost_ret (v := .tuple #[.agg #[.int .i64 2, .int .i64 (c1 - 48)], .bool true]) (by simp [results, Tryd.results39, go_sem]) rfl ⟨rfl, b1 _⟩
          · have f2 : (c0 == 111) = false := by simpa using k2
            by_cases k3 : c0 = 118
            · subst k3
              rw [addrOf_yes r1' r2' (show letterKind 118 = 3 by decide) (by decide)]
              unfold AddrD.val
              go_enter Tryd.func39, Tryd.ntmps39
              go_wp2
              exact bodyPost_ret (v := .tuple #[.agg #[.int .i64 3, .int .i64 (c1 - 48)], .bool true]) (by simp [results, Tryd.results39, go_sem]) rfl ⟨rfl, b1 _⟩
            · have f3 : (c0 == 118) = false := by simpa using k3
              rw [addrOf_none k1 k2 k3]
              unfold AddrD.val
              clear k1 k2 k3
              go_enter Tryd.func39, Tryd.ntmps39
              go_wp2
              exact bodyPost_ret (v := .tuple #[.agg #[.int .i64 0, .int .i64 0], .bool false]) (by simp [results, Tryd.results39, go_sem]) rfl ⟨rfl, b1 _⟩
  · have hi : ((s.size : Int) == 2) = false := by simp; omega
    have e : addrRead s = (⟨0, 0⟩, false) := by unfold addrRead; rw [dif_neg h2]
    rw [e]
    unfold AddrD.val
    go_enter Tryd.func39, Tryd.ntmps39
    go_wp2
    exact bodyPost_ret (v := .tuple #[.agg #[.int .i64 0, .int .i64 0], .bool false]) (by simp [results, Tryd.results39, go_sem]) rfl ⟨rfl, b1 _⟩
end Go.Proofs.YtoodhchphhhjfaaDoor
