/-
  What chapter 4's models (package spec) answer: whether a list can be done, how many statements there are.
-/
import Derived.Test.YtaoiookfmgpmkaaPM5
import Derived.Test.YtaoiookfmgpmkaaExprSpec2
namespace Go.Proofs.Ytaoiookfmgpmkaa
open Go.ChangeShapes Go.WideShapes Go.ChangeAt Go.RowKit
set_option linter.unusedVariables false

/-- A statement's place and lists are there just if its kind has them. -/
def fitB (s : StmtD) : Bool :=
  if s.k = 1 then addrOk ⟨s.tk, s.ta⟩ && ((s.tk != 1) && (((s.th.length : Int) == 0) && ((s.el.length : Int) == 0)))
  else if s.k = 2 then (s.tk == 0) && (s.ta == 0) else if s.k = 3 then ((s.tk == 0) && (s.ta == 0)) && ((s.el.length : Int) == 0) else false

/-- A list can be done, not deeper than so. -/
def formT : Nat → List StmtD → Bool
  | 0, l => l.isEmpty
  | d + 1, l => l.all fun s => fitB s && exprOk s.e && formT d s.th && formT d s.el

/-- How many statements there are, up to so deep. -/
def manySt : Nat → List StmtD → Nat
  | 0, l => l.length
  | d + 1, l => l.length + (l.map fun s => manySt d s.th + manySt d s.el).sum

def stmtsOk (l : List StmtD) : Bool := decide (manySt 4 l ≤ 16) && formT 4 l

def stmtsMany (l : List StmtD) : Nat := if stmtsOk l then manySt 4 l else 0

theorem wrap_fit (n : Int) (h0 : -9223372036854775808 ≤ n) (h1 : n ≤ 9223372036854775807) : IntKind.i64.wrap n = n := by
  simp only [IntKind.wrap, IntKind.bits, IntKind.signed]
  simp
  omega

theorem formT_nil (d : Nat) : formT d [] = true := by cases d <;> rw [formT] <;> rfl

theorem all_take_stepT {f : StmtD → Bool} {ss : List StmtD} {j : Nat} {s : StmtD} (h : (ss.take j).all f = true) (hs : ss[j]? = some s) (hf : f s = true) : (ss.take (j + 1)).all f = true := by
  rw [List.take_add_one, hs]; simp [h, hf]

theorem all_false_atT {f : StmtD → Bool} {ss : List StmtD} {j : Nat} {s : StmtD} (hs : ss[j]? = some s) (hf : f s = false) : ss.all f = false := by
  rw [Bool.eq_false_iff]
  intro h
  rw [List.all_eq_true] at h
  have := h s (List.mem_of_getElem? hs)
  rw [hf] at this
  cases this

theorem sum_le_size (d : Nat) (hd : ∀ l, manySt d l ≤ sizeL l) : ∀ l : List StmtD, l.length + (l.map fun s => manySt d s.th + manySt d s.el).sum ≤ sizeL l
  | [] => by simp [sizeL]
  | s :: ss => by
    have ih := sum_le_size d hd ss
    have h1 := hd s.th
    have h2 := hd s.el
    rw [List.map_cons, List.sum_cons, List.length_cons, sizeL, sizeS_eq]
    omega

theorem manyT_le : ∀ (d : Nat) (l : List StmtD), manySt d l ≤ sizeL l
  | 0, l => by rw [manySt]; exact length_le_sizeL l
  | d + 1, l => by rw [manySt]; exact sum_le_size d (manyT_le d) l

/-- How many there are in the first j, with those within them. -/
def partT (d : Nat) (ss : List StmtD) (j : Nat) : Nat := ((ss.take j).map fun s => manySt d s.th + manySt d s.el).sum

theorem partT_succ {ss : List StmtD} {j : Nat} {s : StmtD} (d : Nat) (h : ss[j]? = some s) : partT d ss (j + 1) = partT d ss j + (manySt d s.th + manySt d s.el) := by
  unfold partT; rw [List.take_add_one, h]; simp

theorem partT_le (d : Nat) (ss : List StmtD) (j : Nat) : partT d ss j ≤ sizeL ss := by
  have h1 := sum_le_size d (manyT_le d) (ss.take j)
  have h2 := sizeL_take_le ss j
  unfold partT
  omega




end Go.Proofs.Ytaoiookfmgpmkaa
