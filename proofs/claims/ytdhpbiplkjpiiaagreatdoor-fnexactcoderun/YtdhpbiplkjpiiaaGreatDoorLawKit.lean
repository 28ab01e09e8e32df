/-
  Variables of a law in memory, and what is stored there.
-/
import Derived.Test.YtdhpbiplkjpiiaaGreatDoorMemKit
import Derived.Test.YtdhpbiplkjpiiaaGreatDoorDag
namespace Go.Proofs.YtdhpbiplkjpiiaaGreatDoor
open Go.ChangeShapes Go.WideShapes Go.ChangeAt Go.RowKit
set_option linter.unusedVariables false

/-- Three cells of one block are written. -/
theorem wrote3 (u : World) (B : Nat) (x y z : Value) : Wrote (fun b _ => b = B) u (((u.setCell ⟨B, 0, none⟩ x).setCell ⟨B, 1, none⟩ y).setCell ⟨B, 2, none⟩ z) :=
  Wrote.setCell (P := fun b _ => b = B) (Wrote.setCell (P := fun b _ => b = B) (Wrote.setCell (P := fun b _ => b = B) (Wrote.refl _ _) rfl x) rfl y) rfl z

theorem cells3 {u : World} {B : Nat} (h : ∀ k, k < 3 → (u.cell? ⟨B, k, none⟩).isSome = true) (x y z : Value) :
    (((u.setCell ⟨B, 0, none⟩ x).setCell ⟨B, 1, none⟩ y).setCell ⟨B, 2, none⟩ z).cell? ⟨B, 0, none⟩ = some x ∧
    (((u.setCell ⟨B, 0, none⟩ x).setCell ⟨B, 1, none⟩ y).setCell ⟨B, 2, none⟩ z).cell? ⟨B, 1, none⟩ = some y ∧
    (((u.setCell ⟨B, 0, none⟩ x).setCell ⟨B, 1, none⟩ y).setCell ⟨B, 2, none⟩ z).cell? ⟨B, 2, none⟩ = some z := by
  obtain ⟨y0, s0⟩ := Option.isSome_iff_exists.mp (h 0 (by omega))
  obtain ⟨y1, s1⟩ := Option.isSome_iff_exists.mp (h 1 (by omega))
  obtain ⟨y2, s2⟩ := Option.isSome_iff_exists.mp (h 2 (by omega))
  refine ⟨?_, ?_, ?_⟩
  · rw [cell_set_other _ (Or.inr (by omega)), cell_set_other _ (Or.inr (by omega))]; exact World.cell?_setCell_same _ _ _ s0
  · rw [cell_set_other _ (Or.inr (by omega))]; exact World.cell?_setCell_same _ _ _ (by rw [cell_set_other _ (Or.inr (by omega))]; exact s1)
  · exact World.cell?_setCell_same _ _ _ (by rw [cell_set_other _ (Or.inr (by omega)), cell_set_other _ (Or.inr (by omega))]; exact s2)

/-- A variable of three cells. -/
structure Box3 (w : World) (B : Nat) (x y z : Value) : Prop where
  c0 : w.cell? ⟨B, 0, none⟩ = some x
  c1 : w.cell? ⟨B, 1, none⟩ = some y
  c2 : w.cell? ⟨B, 2, none⟩ = some z

theorem Box3.below {w w' : World} {B n : Nat} {x y z : Value} (h : Box3 w B x y z) (hb : Below n w w') (hB : B < n) : Box3 w' B x y z :=
  ⟨by rw [hb.cell (p := ⟨B, 0, none⟩) hB]; exact h.c0, by rw [hb.cell (p := ⟨B, 1, none⟩) hB]; exact h.c1, by rw [hb.cell (p := ⟨B, 2, none⟩) hB]; exact h.c2⟩

theorem box3_new (w : World) (x y z : Value) (t : TypeId) : Box3 (w.alloc (.cells #[x, y, z] t)) w.heap.size x y z :=
  ⟨World.cell?_alloc_new _ _ _ _, World.cell?_alloc_new _ _ _ _, World.cell?_alloc_new _ _ _ _⟩

/-- A variable of two cells. -/
structure Box2 (w : World) (B : Nat) (x y : Value) : Prop where
  c0 : w.cell? ⟨B, 0, none⟩ = some x
  c1 : w.cell? ⟨B, 1, none⟩ = some y

theorem Box2.below {w w' : World} {B n : Nat} {x y : Value} (h : Box2 w B x y) (hb : Below n w w') (hB : B < n) : Box2 w' B x y :=
  ⟨by rw [hb.cell (p := ⟨B, 0, none⟩) hB]; exact h.c0, by rw [hb.cell (p := ⟨B, 1, none⟩) hB]; exact h.c1⟩

theorem MO.keptR {d : MemD} : ∀ (u u' : World) (lo hi : Nat) (v : Value), (∀ k, lo ≤ k → k < hi → u'.heap[k]? = u.heap[k]?) → MO u lo hi v d → MO u' lo hi v d :=
  fun _ _ _ _ _ hk h => h.kept hk

/-- What is stored into a variable of three cells: the variable holds it, and all else stays. -/
theorem store3 {u : World} {B lo hi : Nat} {x y z : Value} {d : MemD} {w0 : World} (hg : Grow w0 u) (hB0 : w0.heap.size ≤ B) (hB : B < u.heap.size) (hz : Zero 3 u B) (ho : MO u lo hi (.agg #[x, y, z]) d) (hd : B < lo ∨ hi ≤ B) :
    ∃ u1, ((u.setCell ⟨B, 0, none⟩ x).setCell ⟨B, 1, none⟩ y).setCell ⟨B, 2, none⟩ z = u1 ∧ Grow w0 u1 ∧ Box3 u1 B x y z ∧ MO u1 lo hi (.agg #[x, y, z]) d ∧ u1.heap.size = u.heap.size := by
  have hw := wrote3 u B x y z
  have hc := cells3 (fun k hk => (hz k hk).1) x y z
  exact ⟨_, rfl, hg.trans (hw.below fun b o e => by omega), ⟨hc.1, hc.2.1, hc.2.2⟩, ho.kept fun k h1 h2 => hw.block k (fun o e => by omega), hw.size⟩

theorem Box3.out {w w' : World} {B lo hi : Nat} {x y z : Value} (h : Box3 w B x y z) (ho : Out lo hi w w') (h1 : B < w.heap.size) (h2 : B < lo ∨ hi ≤ B) : Box3 w' B x y z := by
  have hk := ho.block B h1 h2
  exact ⟨by rw [World.cell?_of_block (w := w) hk]; exact h.c0, by rw [World.cell?_of_block (w := w) hk]; exact h.c1, by rw [World.cell?_of_block (w := w) hk]; exact h.c2⟩

theorem Box2.out {w w' : World} {B lo hi : Nat} {x y : Value} (h : Box2 w B x y) (ho : Out lo hi w w') (h1 : B < w.heap.size) (h2 : B < lo ∨ hi ≤ B) : Box2 w' B x y := by
  have hk := ho.block B h1 h2
  exact ⟨by rw [World.cell?_of_block (w := w) hk]; exact h.c0, by rw [World.cell?_of_block (w := w) hk]; exact h.c1⟩

theorem zero3_new (u : World) (x y z : Value) (t : TypeId) : Zero 3 (u.alloc (.cells #[x, y, z] t)) u.heap.size := fun k hk => by
  rw [World.cell?_alloc_new, World.frozen?_alloc_new]
  match k, hk with
  | 0, _ => exact ⟨rfl, rfl⟩
  | 1, _ => exact ⟨rfl, rfl⟩
  | 2, _ => exact ⟨rfl, rfl⟩

end Go.Proofs.YtdhpbiplkjpiiaaGreatDoor
