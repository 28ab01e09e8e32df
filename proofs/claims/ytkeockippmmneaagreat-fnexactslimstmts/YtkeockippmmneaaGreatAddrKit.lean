/-
  Places, and what the laws' helpers do with them: toAddr, eqAddr; the model's AddrOk.
-/
import Derived.Test.YtkeockippmmneaaGreatKit
namespace Go.Proofs.YtkeockippmmneaaGreat
open Go.ChangeShapes Go.WideShapes Go.ChangeAt Go.RowKit
set_option linter.unusedVariables false

theorem below_alloc3 (w : World) (x y z : Obj) : Below w.heap.size w (((w.alloc x).alloc y).alloc z) :=
  (((Below.refl _ _).alloc (Nat.le_refl _) _).alloc (by simp) _).alloc (by simp; omega) _

/-- A place. -/
structure AddrD where
  kind : Int
  at_ : Int
deriving DecidableEq

def AddrD.val (a : AddrD) : Value := .agg #[.int .i64 a.kind, .int .i64 a.at_]

theorem toAddr_any (w : World) (a : AddrD) :
    Calls Tryz.prog 29 #[a.val] w fun e w' => e = .returned a.val ∧ Below w.heap.size w w' := by
  unfold AddrD.val
  go_enter Tryz.func29, Tryz.ntmps29
  go_wp2
  exact bodyPost_ret (v := .agg #[.int .i64 a.kind, .int .i64 a.at_]) (by simp [results, Tryz.results29, go_sem]) rfl ⟨rfl, below_alloc3 w _ _ _⟩

theorem eqAddr_any (w : World) (a b : AddrD) :
    Calls Tryz.prog 35 #[a.val, b.val] w fun e w' => e = .returned (.bool (decide (a = b))) ∧ Below w.heap.size w w' := by
  obtain ⟨ak, aa⟩ := a
  obtain ⟨bk, ba⟩ := b
  unfold AddrD.val
  have b2 := fun o o' (m : Nat) => below_drewN (((Below.refl w.heap.size w).alloc (Nat.le_refl _) o).alloc (by simp) o') m
  by_cases h1 : ak = bk
  · by_cases h2 : aa = ba
    · subst h1 h2
      rw [decide_eq_true rfl]
      go_enter Tryz.func35, Tryz.ntmps35
      go_wp2
      go_ret
      exact ⟨rfl, b2 _ _ 0⟩
    · rw [decide_eq_false (by intro h; simp at h; exact h2 h.2)]
      have h2' : (aa == ba) = false := by simpa using h2
      subst h1
      clear h2
      go_enter Tryz.func35, Tryz.ntmps35
      go_wp2
      go_ret
      exact ⟨rfl, b2 _ _ 0⟩
  · rw [decide_eq_false (by intro h; simp at h; exact h1 h.1)]
    have h1' : (ak == bk) = false := by simpa using h1
    clear h1
    go_enter Tryz.func35, Tryz.ntmps35
    go_wp2
    go_ret
    exact ⟨rfl, b2 _ _ 0⟩

def addrOk (a : AddrD) : Bool := decide (1 ≤ a.kind) && decide (a.kind ≤ 3) && decide (0 ≤ a.at_) && decide (a.at_ < 6)

theorem addrOk_bd {a : AddrD} (h : addrOk a = true) : 1 ≤ a.kind ∧ a.kind ≤ 3 ∧ 0 ≤ a.at_ ∧ a.at_ < 6 := by
  simp [addrOk] at h; omega

theorem addrOk_val (k a : Int) (h1 : 1 ≤ k) (h2 : k ≤ 3) (h3 : 0 ≤ a) (h4 : a < 6) : addrOk ⟨k, a⟩ = true := by simp [addrOk, h1, h2, h3, h4]

set_option maxHeartbeats 400000 in
theorem sAddrOk_any (w : World) (a : AddrD) :
    Calls Tryz.prog 38 #[a.val] w fun e w' => e = .returned (.bool (addrOk a)) ∧ Below w.heap.size w w' := by
  obtain ⟨k, at_⟩ := a
  have b1 := fun o => (Below.refl w.heap.size w).alloc (Nat.le_refl _) o
  unfold AddrD.val
  by_cases h1 : 1 ≤ k
  · by_cases h2 : k ≤ 3
    · by_cases h3 : 0 ≤ at_
      · by_cases h4 : at_ < 6
        · rw [addrOk_val k at_ h1 h2 h3 h4]
          go_enter Tryz.func38, Tryz.ntmps38
          go_wp2
          go_ret
          exact ⟨rfl, b1 _⟩
        · rw [show addrOk ⟨k, at_⟩ = false by simp [addrOk, h4]]
          go_enter Tryz.func38, Tryz.ntmps38
          go_wp2
          go_ret
          exact ⟨rfl, b1 _⟩
      · rw [show addrOk ⟨k, at_⟩ = false by simp [addrOk, h3]]
        go_enter Tryz.func38, Tryz.ntmps38
        go_wp2
        go_ret
        exact ⟨rfl, b1 _⟩
    · rw [show addrOk ⟨k, at_⟩ = false by simp [addrOk, h2]]
      go_enter Tryz.func38, Tryz.ntmps38
      go_wp2
      go_ret
      exact ⟨rfl, b1 _⟩
  · rw [show addrOk ⟨k, at_⟩ = false by simp [addrOk, h1]]
    go_enter Tryz.func38, Tryz.ntmps38
    go_wp2
    go_ret
    exact ⟨rfl, b1 _⟩

end Go.Proofs.YtkeockippmmneaaGreat
