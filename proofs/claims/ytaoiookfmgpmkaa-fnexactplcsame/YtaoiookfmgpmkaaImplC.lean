/-
  A memory in three arrays (impl.cells), copied out into three new lists; a memory of zeros, of the program and of the model.
-/
import Derived.Test.YtaoiookfmgpmkaaImplB
import Derived.Test.YtaoiookfmgpmkaaMem3
namespace Go.Proofs.Ytaoiookfmgpmkaa
open Go.ChangeShapes Go.WideShapes Go.ChangeAt Go.RowKit
set_option linter.unusedVariables false
set_option maxRecDepth 100000

/-- The value of three arrays of six numbers. -/
def cv (f : Nat → Int) : Value := .agg #[.int .i64 (f 0), .int .i64 (f 1), .int .i64 (f 2), .int .i64 (f 3), .int .i64 (f 4), .int .i64 (f 5), .int .i64 (f 6), .int .i64 (f 7), .int .i64 (f 8), .int .i64 (f 9), .int .i64 (f 10), .int .i64 (f 11), .int .i64 (f 12), .int .i64 (f 13), .int .i64 (f 14), .int .i64 (f 15), .int .i64 (f 16), .int .i64 (f 17)]

def memOf (f : Nat → Int) : MemD := ⟨[f 0, f 1, f 2, f 3, f 4, f 5], [f 6, f 7, f 8, f 9, f 10, f 11], [f 12, f 13, f 14, f 15, f 16, f 17]⟩

theorem ci6 {u : World} {B off : Nat} {x0 x1 x2 x3 x4 x5 : Int} (h : ∀ j, j < 6 → u.cell? ⟨B, off + j, none⟩ = some (.int .i64 ([x0, x1, x2, x3, x4, x5].getD j 0))) : CI u B off [x0, x1, x2, x3, x4, x5] := by
  intro i x hx
  have hi : i < 6 := (List.getElem?_eq_some_iff.mp hx).1
  rw [h i hi]
  simp [List.getD, hx]

theorem six_ne (x0 x1 x2 x3 x4 x5 : Int) : [x0, x1, x2, x3, x4, x5] ≠ [] := by simp


/-- A memory of zeros. -/
def memZero : MemD := memOf fun _ => 0


theorem oi_made (u : World) (t : TypeId) : OI (u.alloc (.cells #[.int .i64 0, .int .i64 0, .int .i64 0, .int .i64 0, .int .i64 0, .int .i64 0] t)) u.heap.size (u.heap.size + 1) (.slice (some ⟨u.heap.size, 0, none⟩) 6 6) [0, 0, 0, 0, 0, 0] := by
  refine .inr ⟨u.heap.size, 0, 6, rfl, by simp, by unfold maxLen; omega, Nat.le_refl _, by omega, ci6 fun j hj => ?_, fun i => ?_⟩
  · rw [World.cell?_alloc_new]
    match j, hj with
    | 0, _ | 1, _ | 2, _ | 3, _ | 4, _ | 5, _ => rfl
  · exact World.frozen?_alloc_new _ _ _ _

theorem zeros6 : Array.map (fun x => (Value.int IntKind.i64 0).cells[x % (Value.int IntKind.i64 0).cells.size]!) (Array.range (6 * 1)) = #[.int .i64 0, .int .i64 0, .int .i64 0, .int .i64 0, .int .i64 0, .int .i64 0] := by
  first
    | kernel_rfl
    | (simp [Value.cells]; rfl)

end Go.Proofs.Ytaoiookfmgpmkaa
