/-
  What a law over charts with an owned answer carries over a call that writes.
-/
import Derived.Test.YtokphdpaghkakaaGreatLawKitC
import Derived.Test.YtokphdpaghkakaaGreatChartMark
import Derived.Test.YtokphdpaghkakaaGreatMarksKit
namespace Go.Proofs.YtokphdpaghkakaaGreat
open Go.ChangeShapes Go.WideShapes Go.ChangeAt Go.RowKit
set_option linter.unusedVariables false

/-- A variable of two cells. -/
structure BxQ (w : World) (B : Nat) (x y : Value) : Prop where
  c0 : w.cell? ⟨B, 0, none⟩ = some x
  c1 : w.cell? ⟨B, 1, none⟩ = some y
theorem BxQ.below {w w' : World} {B n : Nat} {x y : Value} (h : BxQ w B x y) (hb : Below n w w') (hB : B < n) : BxQ w' B x y :=
  ⟨by rw [hb.cell (p := ⟨B, 0, none⟩) hB]; exact h.c0, by rw [hb.cell (p := ⟨B, 1, none⟩) hB]; exact h.c1⟩
theorem bxq_new (w : World) (x y : Value) (t : TypeId) : BxQ (w.alloc (.cells #[x, y] t)) w.heap.size x y :=
  ⟨World.cell?_alloc_new _ _ _ _, World.cell?_alloc_new _ _ _ _⟩
theorem BxQ.out {w w' : World} {B lo hi : Nat} {x y : Value} (h : BxQ w B x y) (g : Out lo hi w w') (h1 : B < lo ∨ hi ≤ B) (hs : B < w.heap.size) : BxQ w' B x y :=
  ⟨by rw [World.cell?_of_block (w := w) (g.block B hs h1)]; exact h.c0, by rw [World.cell?_of_block (w := w) (g.block B hs h1)]; exact h.c1⟩
theorem BxT.out {w w' : World} {B lo hi : Nat} {x y z : Value} (h : BxT w B x y z) (g : Out lo hi w w') (h1 : B < lo ∨ hi ≤ B) (hs : B < w.heap.size) : BxT w' B x y z :=
  ⟨by rw [World.cell?_of_block (w := w) (g.block B hs h1)]; exact h.c0, by rw [World.cell?_of_block (w := w) (g.block B hs h1)]; exact h.c1, by rw [World.cell?_of_block (w := w) (g.block B hs h1)]; exact h.c2⟩
end Go.Proofs.YtokphdpaghkakaaGreat
