/-
  What a law with an owned answer carries over a call that writes: variables, numbers.
-/
import Derived.Test.YtokphdpaghkakaaDoorLawKitN
import Derived.Test.YtokphdpaghkakaaDoorNetMark
import Derived.Test.YtokphdpaghkakaaDoorNetOrd
namespace Go.Proofs.YtokphdpaghkakaaDoor
open Go.ChangeShapes Go.WideShapes Go.ChangeAt Go.RowKit
set_option linter.unusedVariables false

theorem BxP.out {w w' : World} {B lo hi : Nat} {x y : Value} (h : BxP w B x y) (g : Out lo hi w w') (h1 : B < lo ∨ hi ≤ B) (hs : B < w.heap.size) : BxP w' B x y :=
  ⟨by rw [World.cell?_of_block (w := w) (g.block B hs h1)]; exact h.c0, by rw [World.cell?_of_block (w := w) (g.block B hs h1)]; exact h.c1⟩
theorem OI.shape3 {w : World} {lo hi : Nat} {v : Value} {xs : List Int} (h : OI w lo hi v xs) : ∃ a cap, v = .slice a xs.length cap := by
  obtain ⟨a, cap, hv, _⟩ := h.si; exact ⟨a, cap, hv⟩
theorem netOrder_len (n : NetD) : (netOrder n).length ≤ 8 := by
  unfold netOrder
  split
  · rename_i h
    rw [List.length_map]
    have h1 := (orderW_ord n.ws).le
    have h2 := (netOk_wires h).1
    omega
  · exact Nat.zero_le _
end Go.Proofs.YtokphdpaghkakaaDoor
