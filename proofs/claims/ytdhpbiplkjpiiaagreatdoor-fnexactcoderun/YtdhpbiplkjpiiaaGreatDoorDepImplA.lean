/-
  How many numbers are held ahead of each place, by the program: tell.
-/
import Derived.Test.YtdhpbiplkjpiiaaGreatDoorQC4
import Derived.Test.YtdhpbiplkjpiiaaGreatDoorDag
import Derived.Deep.WholeRow
namespace Go.Proofs.YtdhpbiplkjpiiaaGreatDoor
open Go.ChangeShapes Go.WideShapes Go.ChangeAt Go.RowKit
set_option linter.unusedVariables false
set_option maxRecDepth 100000

/-- A variable of what is told: told and held of each place, the most. -/
structure DepV (w : World) (B : Nat) (D : Nat → Int) (m : Int) : Prop where
  told : ∀ j, j ≤ 400 → w.cell? ⟨B, j, none⟩ = some (.bool (decide (0 ≤ D j)))
  held : ∀ j, j ≤ 400 → ∃ x, w.cell? ⟨B, 401 + j, none⟩ = some (.int .i64 x) ∧ (0 ≤ D j → x = D j)
  most : w.cell? ⟨B, 802, none⟩ = some (.int .i64 m)
  f : ∀ o, w.frozen? ⟨B, o, none⟩ = false

theorem DepV.at_ {u u' : World} {B : Nat} {D : Nat → Int} {m : Int} (h : DepV u B D m) (hk : u'.heap[B]? = u.heap[B]?) : DepV u' B D m :=
  ⟨fun j hj => by rw [World.cell?_of_block (w := u) hk]; exact h.told j hj, fun j hj => by rw [World.cell?_of_block (w := u) hk]; exact h.held j hj, by rw [World.cell?_of_block (w := u) hk]; exact h.most,
    fun o => by rw [World.frozen?_of_block (w := u) hk]; exact h.f o⟩

/-- The zero value's cells. -/
def depZ : List Value := List.replicate 401 (.bool false) ++ List.replicate 402 (.int .i64 0)

theorem dep_zero : (Tryz.prog.info? 105).map (fun i => (i.zero, i.size)) = some (some (.agg depZ.toArray), 803) := by kernel_rfl

theorem dep_new (w : World) (t : TypeId) : DepV (w.alloc (.cells depZ.toArray t)) w.heap.size (fun _ => -1) 0 := by
  have hc : ∀ j x, depZ[j]? = some x → (w.alloc (.cells depZ.toArray t)).cell? ⟨w.heap.size, j, none⟩ = some x := fun j x hx => by
    rw [cell_of_row _ _ j depZ.toArray t (0, 0) (heap_alloc_last w _)]
    simpa using hx
  refine ⟨fun j hj => hc j _ ?_, fun j hj => ⟨0, hc _ _ ?_, fun h => by omega⟩, hc _ _ ?_, fun o => World.frozen?_alloc_new _ _ _ _⟩
  · unfold depZ
    rw [List.getElem?_append_left (by simp; omega), List.getElem?_replicate, if_pos (by omega)]
    rfl
  · unfold depZ
    rw [List.getElem?_append_right (by simp), List.getElem?_replicate, List.length_replicate, if_pos (by omega)]
  · unfold depZ
    rw [List.getElem?_append_right (by simp), List.getElem?_replicate, List.length_replicate, if_pos (by omega)]

section
variable {ops : Array Oper} {rest : List Oper} {o : Oper} {a : Act} {Q : Exit → Act → World → Prop} {K : Act → World → Prop} {w : World}

theorem wp_allocD (hop : o.op = Op.alloc 105)
    (hK : ∀ u1, Below w.heap.size w u1 → DepV u1 w.heap.size (fun _ => -1) 0 → u1.heap.size = w.heap.size + 1 → K (a.put o.dst (.pointer (some ⟨w.heap.size, 0, none⟩))) u1) : o.wp Tryz.prog a w K Q := by
  have h := hK (w.alloc (.cells depZ.toArray 105)) ((Below.refl _ _).alloc (Nat.le_refl _) _) (dep_new w 105) (by simp)
  have hz := (zero_of_info dep_zero).1
  generalize depZ.toArray = Z at *
  unfold Oper.wp
  simp only [execOp, hop]
  simp [Instr.alloc, hz, newVar, newRow, go_sem]
  exact h

theorem wpList_allocD (hg : o.guard = none) (hop : o.op = Op.alloc 105)
    (hK : Hid (∀ u1, Below w.heap.size w u1 → DepV u1 w.heap.size (fun _ => -1) 0 → u1.heap.size = w.heap.size + 1 → wpList Tryz.prog ops Q rest (a.put o.dst (.pointer (some ⟨w.heap.size, 0, none⟩))) u1)) : wpList Tryz.prog ops Q (o :: rest) a w :=
  wpList_plain hg fun K hK' => wp_allocD hop fun u1 h1 h2 h3 => hK' _ _ (hK.out u1 h1 h2 h3)
end
end Go.Proofs.YtdhpbiplkjpiiaaGreatDoor
