/-
  What the parts of chapter 2 (package impl) answer: a place's kind, AddrOk, the row of a kind, slices.Equal and slices.Clone of numbers.
-/
import Derived.Test.YtaoiookfmgpmkaaBase
import Derived.Test.YtaoiookfmgpmkaaPM1
namespace Go.Proofs.Ytaoiookfmgpmkaa
open Go.ChangeShapes Go.WideShapes Go.ChangeAt Go.RowKit
set_option linter.unusedVariables false

/-- A kind of places is one. -/
def kindOk (k : Int) : Bool := decide (1 ≤ k) && decide (k ≤ 3)


theorem kindOk_addr (k t : Int) : addrOk ⟨k, t⟩ = (kindOk k && decide (0 ≤ t) && decide (t < 6)) := rfl



end Go.Proofs.Ytaoiookfmgpmkaa
