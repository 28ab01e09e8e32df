/-
  What chapter 3's model ExprOf (package spec) answers at any argument.
-/
import Derived.Test.YtaoiookfmgpmkaaGreatDoorExprOf
namespace Go.Proofs.YtaoiookfmgpmkaaGreatDoor
open Go.ChangeShapes Go.WideShapes Go.ChangeAt Go.RowKit
set_option linter.unusedVariables false
set_option maxRecDepth 100000

/-- What something comes to, of a memory. -/
def exprOf (e : ExprD) (m : MemD) : Int := if exprOk e && memOk m then evalD 6 m e else 0

theorem exprOk_form {e : ExprD} (h : exprOk e = true) : formE 6 e = true := by
  unfold exprOk at h
  simp only [Bool.and_eq_true] at h
  exact h.1

end Go.Proofs.YtaoiookfmgpmkaaGreatDoor
