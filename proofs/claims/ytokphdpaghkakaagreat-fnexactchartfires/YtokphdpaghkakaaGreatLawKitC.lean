/-
  Variables of three cells of a law; what the laws' helpers do with charts.
-/
import Derived.Test.YtokphdpaghkakaaGreatChartSz
import Derived.Test.YtokphdpaghkakaaGreatChartTo
import Derived.Test.YtokphdpaghkakaaGreatChartEq
namespace Go.Proofs.YtokphdpaghkakaaGreat
open Go.ChangeShapes Go.WideShapes Go.ChangeAt Go.RowKit
set_option linter.unusedVariables false

/-- A variable of three cells. -/
structure BxT (w : World) (B : Nat) (x y z : Value) : Prop where
  c0 : w.cell? ⟨B, 0, none⟩ = some x
  c1 : w.cell? ⟨B, 1, none⟩ = some y
  c2 : w.cell? ⟨B, 2, none⟩ = some z

theorem BxT.below {w w' : World} {B n : Nat} {x y z : Value} (h : BxT w B x y z) (hb : Below n w w') (hB : B < n) : BxT w' B x y z :=
  ⟨by rw [hb.cell (p := ⟨B, 0, none⟩) hB]; exact h.c0, by rw [hb.cell (p := ⟨B, 1, none⟩) hB]; exact h.c1, by rw [hb.cell (p := ⟨B, 2, none⟩) hB]; exact h.c2⟩
theorem bxt_new (w : World) (x y z : Value) (t : TypeId) : BxT (w.alloc (.cells #[x, y, z] t)) w.heap.size x y z :=
  ⟨World.cell?_alloc_new _ _ _ _, World.cell?_alloc_new _ _ _ _, World.cell?_alloc_new _ _ _ _⟩
end Go.Proofs.YtokphdpaghkakaaGreat
