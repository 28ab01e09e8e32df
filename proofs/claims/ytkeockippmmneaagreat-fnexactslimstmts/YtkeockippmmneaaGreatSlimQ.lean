/-
  Chapter 10's program: SlimExpr.
-/
import Derived.Test.YtkeockippmmneaaGreatSlimP
namespace Go.Proofs.YtkeockippmmneaaGreat
open Go.ChangeShapes Go.WideShapes Go.ChangeAt Go.RowKit
set_option linter.unusedVariables false
set_option maxRecDepth 100000

theorem slimS : ∀ d, SlimS d
  | 0 => by intro w lo hi v e _ _ _ h; rw [formE] at h; cases h
  | d + 1 => slimS_step (slimS d)

end Go.Proofs.YtkeockippmmneaaGreat
