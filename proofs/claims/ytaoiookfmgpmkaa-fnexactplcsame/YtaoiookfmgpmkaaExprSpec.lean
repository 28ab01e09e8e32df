/-
  What chapter 3's models (package spec) answer: whether something can be reckoned, how many parts it has.
-/
import Derived.Test.YtaoiookfmgpmkaaPM5
import Derived.Test.YtaoiookfmgpmkaaBase
import Derived.Test.YtaoiookfmgpmkaaPM2
import Derived.Laws.StructEq
namespace Go.Proofs.Ytaoiookfmgpmkaa
open Go.ChangeShapes Go.WideShapes Go.ChangeAt Go.RowKit
set_option linter.unusedVariables false

/-- How many kids a kind has; below 0 where it is none. -/
def kidsOf (k : Int) : Int := if k = 1 then 0 else if k = 2 then 0 else if k = 10 then 1 else if 3 ≤ k ∧ k ≤ 9 then 2 else -1

theorem kidsOf_bd (k : Int) : -1 ≤ kidsOf k ∧ kidsOf k ≤ 2 := by
  unfold kidsOf
  repeat' split
  all_goals omega

/-- The number is right; the place is. -/
def nOk (e : ExprD) : Bool := if e.k = 1 then cutZ e.n == e.n else e.n == 0
def aOk (e : ExprD) : Bool := if e.k = 2 then addrOk ⟨e.ak, e.at_⟩ else (e.ak == 0 && e.at_ == 0)

/-- It can be reckoned, and is not deeper than so. -/
def formE : Nat → ExprD → Bool
  | 0, _ => false
  | d + 1, e => (kidsOf e.k == (e.kids.length : Int)) && nOk e && aOk e && e.kids.all (formE d)

/-- How many parts there are, up to so deep. -/
def manyD : Nat → ExprD → Nat
  | 0, _ => 1
  | d + 1, e => 1 + (e.kids.map (manyD d)).sum

def exprOk (e : ExprD) : Bool := formE 6 e && decide (manyD 6 e ≤ 14)


end Go.Proofs.Ytaoiookfmgpmkaa
