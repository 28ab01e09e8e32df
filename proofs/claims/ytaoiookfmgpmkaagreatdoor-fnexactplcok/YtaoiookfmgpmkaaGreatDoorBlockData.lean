/-
  Blocks as data: whether one is ok, a new one, one step of one.
-/
import Derived.Test.YtaoiookfmgpmkaaGreatDoorKit
namespace Go.Proofs.YtaoiookfmgpmkaaGreatDoor
open Go.ChangeShapes Go.WideShapes Go.ChangeAt Go.RowKit
set_option linter.unusedVariables false

/-- A block, as data. -/
structure BlockD where
  kind : Int
  n : Int
  on : Bool
  was : Bool
  t : Int
deriving DecidableEq

theorem BlockD.ext' {a b : BlockD} (h1 : a.kind = b.kind) (h2 : a.n = b.n) (h3 : a.on = b.on) (h4 : a.was = b.was) (h5 : a.t = b.t) : a = b := by
  cases a; cases b; simp_all

/-- Its value. -/
def BlockD.val (b : BlockD) : Value := .agg #[.int .i64 b.kind, .int .i64 b.n, .bool b.on, .bool b.was, .int .i64 b.t]

/-- Nothing. -/
def noB : BlockD := ⟨0, 0, false, false, 0⟩

/-- How much N and T of a kind may be; less than 0, if there is no such kind. -/
def mostB (k : Int) : Int := if k = 1 ∨ k = 2 ∨ k = 3 then 1000 else if k = 4 ∨ k = 5 then 0 else -1

/-- A kind has such a number. -/
def numB (k n : Int) : Bool := decide (0 ≤ n) && decide (n ≤ mostB k)

/-- A block is one. -/
def blockOk (b : BlockD) : Bool := numB b.kind b.n && numB b.kind b.t

def blockNew (k n : Int) : BlockD := if numB k n then ⟨k, n, false, false, 0⟩ else noB

/-- So much, or 1000. -/
def upto (z : Int) : Int := if 1000 < z then 1000 else z

/-- T behind a step. -/
def stepT (b : BlockD) (x y : Bool) (dt : Int) : Int :=
  if b.kind = 1 then (if x && b.was then upto (b.t + dt) else 0)
  else if b.kind = 2 then (if x || b.was then 0 else upto (b.t + dt))
  else if b.kind = 3 then (if y then 0 else if x && !b.was then upto (b.t + 1) else b.t)
  else 0

/-- Whether it is on then, of T as it is then. -/
def stepOn (b : BlockD) (x y : Bool) (t : Int) : Bool :=
  if b.kind = 1 then x && decide (b.n ≤ t)
  else if b.kind = 2 then x || (b.on && decide (t < b.n))
  else if b.kind = 3 then decide (b.n ≤ t)
  else if b.kind = 4 then x && !b.was
  else !y && (x || b.on)

/-- A step of a block that is ok. -/
def stepB (b : BlockD) (x y : Bool) (dt : Int) : BlockD := ⟨b.kind, b.n, stepOn b x y (stepT b x y dt), x, stepT b x y dt⟩

def blockStep (b : BlockD) (x y : Bool) (dt : Int) : BlockD := if blockOk b && decide (0 ≤ dt) && decide (dt ≤ 1000) then stepB b x y dt else noB

theorem mostB_cases (k : Int) : ((k = 1 ∨ k = 2 ∨ k = 3) ∧ mostB k = 1000) ∨ ((k = 4 ∨ k = 5) ∧ mostB k = 0) ∨ ((k < 1 ∨ 5 < k) ∧ mostB k = -1) := by
  unfold mostB
  by_cases h : k = 1 ∨ k = 2 ∨ k = 3
  · exact .inl ⟨h, if_pos h⟩
  · rw [if_neg h]
    by_cases h' : k = 4 ∨ k = 5
    · exact .inr (.inl ⟨h', if_pos h'⟩)
    · exact .inr (.inr ⟨by omega, if_neg h'⟩)

theorem blockOk_iff (b : BlockD) : blockOk b = true ↔ (0 ≤ b.n ∧ b.n ≤ mostB b.kind) ∧ (0 ≤ b.t ∧ b.t ≤ mostB b.kind) := by
  unfold blockOk numB; simp

/-- What is ok of a kind. -/
theorem blockOk_cases {b : BlockD} (h : blockOk b = true) : ((b.kind = 1 ∨ b.kind = 2 ∨ b.kind = 3) ∧ 0 ≤ b.n ∧ b.n ≤ 1000 ∧ 0 ≤ b.t ∧ b.t ≤ 1000) ∨ ((b.kind = 4 ∨ b.kind = 5) ∧ b.n = 0 ∧ b.t = 0) := by
  obtain ⟨⟨h1, h2⟩, h3, h4⟩ := (blockOk_iff b).1 h
  rcases mostB_cases b.kind with ⟨hk, hm⟩ | ⟨hk, hm⟩ | ⟨hk, hm⟩
  · exact .inl ⟨hk, by omega⟩
  · exact .inr ⟨hk, by omega⟩
  · omega

theorem upto_bd {z : Int} (h : 0 ≤ z) : 0 ≤ upto z ∧ upto z ≤ 1000 := by unfold upto; split <;> omega

theorem stepT_bd {b : BlockD} (h : blockOk b = true) (x y : Bool) {dt : Int} (hd : 0 ≤ dt) : 0 ≤ stepT b x y dt ∧ stepT b x y dt ≤ mostB b.kind := by
  have ho := (blockOk_iff b).1 h
  have h1 := @upto_bd (b.t + dt) (by omega)
  have h2 := @upto_bd (b.t + 1) (by omega)
  unfold stepT
  rcases mostB_cases b.kind with ⟨hk, hm⟩ | ⟨hk, hm⟩ | ⟨hk, hm⟩
  · rw [hm]
    split
    · split <;> omega
    · split
      · split <;> omega
      · split
        · split
          · omega
          · split <;> omega
        · omega
  · rw [if_neg (by omega), if_neg (by omega), if_neg (by omega)]; omega
  · omega

theorem stepB_ok {b : BlockD} (h : blockOk b = true) (x y : Bool) {dt : Int} (hd : 0 ≤ dt) : blockOk (stepB b x y dt) = true :=
  (blockOk_iff _).2 ⟨((blockOk_iff b).1 h).1, stepT_bd h x y hd⟩

theorem noB_bad : blockOk noB = false := by decide

theorem blockNew_ok {k n : Int} (h : numB k n = true) : blockOk (blockNew k n) = true := by
  unfold blockNew
  rw [if_pos h]
  unfold numB at h
  simp only [Bool.and_eq_true, decide_eq_true_eq] at h
  exact (blockOk_iff _).2 ⟨h, by show (0 : Int) ≤ 0; omega, by show (0 : Int) ≤ mostB k; omega⟩

end Go.Proofs.YtaoiookfmgpmkaaGreatDoor
