/-
  Variables of two cells of a law.
-/
import Derived.Test.YtokphdpaghkakaaDoorNetTo
import Derived.Test.YtokphdpaghkakaaDoorNetEq
namespace Go.Proofs.YtokphdpaghkakaaDoor
open Go.ChangeShapes Go.WideShapes Go.ChangeAt Go.RowKit
set_option linter.unusedVariables false

/-- A variable of two cells. -/
structure BxP (w : World) (B : Nat) (x y : Value) : Prop where
  c0 : w.cell? ⟨B, 0, none⟩ = some x
  c1 : w.cell? ⟨B, 1, none⟩ = some y

theorem BxP.below {w w' : World} {B n : Nat} {x y : Value} (h : BxP w B x y) (hb : Below n w w') (hB : B < n) : BxP w' B x y :=
  ⟨by rw [hb.cell (p := ⟨B, 0, none⟩) hB]; exact h.c0, by rw [hb.cell (p := ⟨B, 1, none⟩) hB]; exact h.c1⟩
theorem bxp_new (w : World) (x y : Value) (t : TypeId) : BxP (w.alloc (.cells #[x, y] t)) w.heap.size x y :=
  ⟨World.cell?_alloc_new _ _ _ _, World.cell?_alloc_new _ _ _ _⟩
end Go.Proofs.YtokphdpaghkakaaDoor
