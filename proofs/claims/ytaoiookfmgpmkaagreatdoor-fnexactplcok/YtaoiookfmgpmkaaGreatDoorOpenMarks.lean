/-
  An argument read as data, opened: marks (laws.Marks).
-/
import Derived.Test.YtaoiookfmgpmkaaGreatDoorOpenChart
import Derived.Test.YtaoiookfmgpmkaaGreatDoorOpenMem
import Derived.Test.YtaoiookfmgpmkaaGreatDoorMarksKit
namespace Go.Proofs.YtaoiookfmgpmkaaGreatDoor
open Go.ChangeShapes Go.WideShapes Go.ChangeAt Go.RowKit Go.Joins
set_option linter.unusedVariables false
set_option maxRecDepth 100000

theorem mk_of_trod {H : Type} {enc : TypeId × Value → H} {w : World} {r : Reach} {base b0 : Nat} {held : Bool} {v : Value} {d : DataW H} {p : List MemPlace}
    (hv : Value.okWide Tryz.prog w r b0 70 v) (h : DataW.Trod enc Tryz.prog w base (fun _ => true) held 70 v d p) : ∃ m, MkR w 0 w.heap.size v m := by
  obtain ⟨v0, v1, y0, y1, n, rfl, rfl, rfl, h0, h1⟩ := open_agg2 Tryz.underlying70 (by kernel_rfl) (by kernel_rfl) hv h
  have hel : ∀ (n : Nat) (cs : List Value) (y : DataW H × List MemPlace), DataW.trod enc Tryz.prog w base (fun _ => true) held n 4 cs = some y → ∃ p : Bool, cs = bool2.cells p := fun n cs y h => by
    obtain ⟨b, q, _⟩ := DataW.trod_bool Tryz.underlying4 h
    exact ⟨b, q⟩
  obtain ⟨x0, s0⟩ := gr_of_trodC (E := bool2) Tryz.underlying44 (by kernel_rfl) hel h0
  obtain ⟨x1, s1⟩ := gr_of_trodC (E := bool2) Tryz.underlying44 (by kernel_rfl) hel h1
  exact ⟨⟨x0, x1⟩, v0, v1, rfl, s0, s1⟩
end Go.Proofs.YtaoiookfmgpmkaaGreatDoor
