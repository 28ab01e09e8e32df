/-
  What chapter 3's model ExprOf (package spec) answers: what something comes to, of a memory.
-/
import Derived.Test.YtaoiookfmgpmkaaGreatDoorExprSpec2
import Derived.Test.YtaoiookfmgpmkaaGreatDoorMemSpec
import Derived.Test.YtaoiookfmgpmkaaGreatDoorLawKit
import Derived.Test.YtaoiookfmgpmkaaGreatDoorTwoKit
namespace Go.Proofs.YtaoiookfmgpmkaaGreatDoor
open Go.ChangeShapes Go.WideShapes Go.ChangeAt Go.RowKit
set_option linter.unusedVariables false

/-- The i-th kid. -/
def kidAt (e : ExprD) (i : Nat) : ExprD := (e.kids[i]?).getD (.mk 0 0 0 0 [])

/-- What something comes to, of a memory, not deeper than so. -/
def evalD : Nat → MemD → ExprD → Int
  | 0, _, _ => 0
  | d + 1, m, e => if e.k = 1 then e.n else if e.k = 2 then ((memList m e.ak)[e.at_.toNat]?).getD 0
      else if e.k = 10 then isZ (!(evalD d m (kidAt e 0) != 0)) else twoZ e.k (evalD d m (kidAt e 0)) (evalD d m (kidAt e 1))

theorem form_parts {d : Nat} {e : ExprD} (h : formE (d + 1) e = true) : kidsOf e.k = e.kids.length ∧ nOk e = true ∧ aOk e = true ∧ ∀ (i : Nat) (x : ExprD), e.kids[i]? = some x → formE d x = true := by
  rw [formE] at h
  simp only [Bool.and_eq_true, beq_iff_eq] at h
  obtain ⟨⟨⟨h1, h2⟩, h3⟩, h4⟩ := h
  exact ⟨h1, h2, h3, fun i x hx => List.all_eq_true.mp h4 x (List.mem_of_getElem? hx)⟩

end Go.Proofs.YtaoiookfmgpmkaaGreatDoor
