/-
  What slices.Equal and slices.Clone answer, at numbers.
-/
import Derived.Test.YtdhmioelmcdflaaAppend
import Derived.Lib.SliceRun
namespace Go.Proofs.Ytdhmioelmcdflaa
open Go.ChangeShapes Go.WideShapes Go.ChangeAt Go.RowKit
set_option linter.unusedVariables false


end Go.Proofs.Ytdhmioelmcdflaa
