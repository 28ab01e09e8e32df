/-
  Memory in three arrays of six numbers (impl.cells), as a variable of eighteen cells: read, stored.
-/
import Derived.Test.YtaoiookfmgpmkaaGreatDoorImplC
import Derived.Test.YtaoiookfmgpmkaaGreatDoorDag2
import Derived.Laws.Cover3
import Derived.Laws.StructEq
import Derived.ChangeKeysEq
namespace Go.Proofs.YtaoiookfmgpmkaaGreatDoor
open Go.ChangeShapes Go.WideShapes Go.ChangeAt Go.RowKit
set_option linter.unusedVariables false
set_option maxRecDepth 100000

/-- A variable of eighteen numbers. -/
def Box18 (u : World) (B : Nat) (g : Nat → Int) : Prop := ∀ j, j < 18 → u.cell? ⟨B, j, none⟩ = some (.int .i64 (g j))

theorem Box18.all {u : World} {B : Nat} {g : Nat → Int} (h : Box18 u B g) : u.cell? ⟨B, 0, none⟩ = some (.int .i64 (g 0)) ∧ u.cell? ⟨B, 1, none⟩ = some (.int .i64 (g 1)) ∧ u.cell? ⟨B, 2, none⟩ = some (.int .i64 (g 2)) ∧ u.cell? ⟨B, 3, none⟩ = some (.int .i64 (g 3)) ∧ u.cell? ⟨B, 4, none⟩ = some (.int .i64 (g 4)) ∧ u.cell? ⟨B, 5, none⟩ = some (.int .i64 (g 5)) ∧ u.cell? ⟨B, 6, none⟩ = some (.int .i64 (g 6)) ∧ u.cell? ⟨B, 7, none⟩ = some (.int .i64 (g 7)) ∧ u.cell? ⟨B, 8, none⟩ = some (.int .i64 (g 8)) ∧ u.cell? ⟨B, 9, none⟩ = some (.int .i64 (g 9)) ∧ u.cell? ⟨B, 10, none⟩ = some (.int .i64 (g 10)) ∧ u.cell? ⟨B, 11, none⟩ = some (.int .i64 (g 11)) ∧ u.cell? ⟨B, 12, none⟩ = some (.int .i64 (g 12)) ∧ u.cell? ⟨B, 13, none⟩ = some (.int .i64 (g 13)) ∧ u.cell? ⟨B, 14, none⟩ = some (.int .i64 (g 14)) ∧ u.cell? ⟨B, 15, none⟩ = some (.int .i64 (g 15)) ∧ u.cell? ⟨B, 16, none⟩ = some (.int .i64 (g 16)) ∧ u.cell? ⟨B, 17, none⟩ = some (.int .i64 (g 17)) :=
  ⟨h 0 (by omega), h 1 (by omega), h 2 (by omega), h 3 (by omega), h 4 (by omega), h 5 (by omega), h 6 (by omega), h 7 (by omega), h 8 (by omega), h 9 (by omega), h 10 (by omega), h 11 (by omega), h 12 (by omega), h 13 (by omega), h 14 (by omega), h 15 (by omega), h 16 (by omega), h 17 (by omega)⟩

theorem Zero.all18 {u : World} {B : Nat} (h : Zero 18 u B) : (∃ x : Nat → Value, u.cell? ⟨B, 0, none⟩ = some (x 0) ∧ u.cell? ⟨B, 1, none⟩ = some (x 1) ∧ u.cell? ⟨B, 2, none⟩ = some (x 2) ∧ u.cell? ⟨B, 3, none⟩ = some (x 3) ∧ u.cell? ⟨B, 4, none⟩ = some (x 4) ∧ u.cell? ⟨B, 5, none⟩ = some (x 5) ∧ u.cell? ⟨B, 6, none⟩ = some (x 6) ∧ u.cell? ⟨B, 7, none⟩ = some (x 7) ∧ u.cell? ⟨B, 8, none⟩ = some (x 8) ∧ u.cell? ⟨B, 9, none⟩ = some (x 9) ∧ u.cell? ⟨B, 10, none⟩ = some (x 10) ∧ u.cell? ⟨B, 11, none⟩ = some (x 11) ∧ u.cell? ⟨B, 12, none⟩ = some (x 12) ∧ u.cell? ⟨B, 13, none⟩ = some (x 13) ∧ u.cell? ⟨B, 14, none⟩ = some (x 14) ∧ u.cell? ⟨B, 15, none⟩ = some (x 15) ∧ u.cell? ⟨B, 16, none⟩ = some (x 16) ∧ u.cell? ⟨B, 17, none⟩ = some (x 17)) ∧ u.frozen? ⟨B, 0, none⟩ = false ∧ u.frozen? ⟨B, 1, none⟩ = false ∧ u.frozen? ⟨B, 2, none⟩ = false ∧ u.frozen? ⟨B, 3, none⟩ = false ∧ u.frozen? ⟨B, 4, none⟩ = false ∧ u.frozen? ⟨B, 5, none⟩ = false ∧ u.frozen? ⟨B, 6, none⟩ = false ∧ u.frozen? ⟨B, 7, none⟩ = false ∧ u.frozen? ⟨B, 8, none⟩ = false ∧ u.frozen? ⟨B, 9, none⟩ = false ∧ u.frozen? ⟨B, 10, none⟩ = false ∧ u.frozen? ⟨B, 11, none⟩ = false ∧ u.frozen? ⟨B, 12, none⟩ = false ∧ u.frozen? ⟨B, 13, none⟩ = false ∧ u.frozen? ⟨B, 14, none⟩ = false ∧ u.frozen? ⟨B, 15, none⟩ = false ∧ u.frozen? ⟨B, 16, none⟩ = false ∧ u.frozen? ⟨B, 17, none⟩ = false := by
  have hx : ∀ j, ∃ x, j < 18 → u.cell? ⟨B, j, none⟩ = some x := fun j => by
    by_cases hj : j < 18
    · obtain ⟨x, hx⟩ := Option.isSome_iff_exists.mp (h j hj).1
      exact ⟨x, fun _ => hx⟩
    · exact ⟨.bool false, fun h => absurd h hj⟩
  refine ⟨⟨fun j => Classical.choose (hx j), Classical.choose_spec (hx 0) (by omega), Classical.choose_spec (hx 1) (by omega), Classical.choose_spec (hx 2) (by omega), Classical.choose_spec (hx 3) (by omega), Classical.choose_spec (hx 4) (by omega), Classical.choose_spec (hx 5) (by omega), Classical.choose_spec (hx 6) (by omega), Classical.choose_spec (hx 7) (by omega), Classical.choose_spec (hx 8) (by omega), Classical.choose_spec (hx 9) (by omega), Classical.choose_spec (hx 10) (by omega), Classical.choose_spec (hx 11) (by omega), Classical.choose_spec (hx 12) (by omega), Classical.choose_spec (hx 13) (by omega), Classical.choose_spec (hx 14) (by omega), Classical.choose_spec (hx 15) (by omega), Classical.choose_spec (hx 16) (by omega), Classical.choose_spec (hx 17) (by omega)⟩, (h 0 (by omega)).2, (h 1 (by omega)).2, (h 2 (by omega)).2, (h 3 (by omega)).2, (h 4 (by omega)).2, (h 5 (by omega)).2, (h 6 (by omega)).2, (h 7 (by omega)).2, (h 8 (by omega)).2, (h 9 (by omega)).2, (h 10 (by omega)).2, (h 11 (by omega)).2, (h 12 (by omega)).2, (h 13 (by omega)).2, (h 14 (by omega)).2, (h 15 (by omega)).2, (h 16 (by omega)).2, (h 17 (by omega)).2⟩

theorem Box18.below {u u' : World} {B n : Nat} {g : Nat → Int} (h : Box18 u B g) (hb : Below n u u') (hB : B < n) : Box18 u' B g := fun j hj => by
  rw [hb.cell (p := ⟨B, j, none⟩) hB]; exact h j hj

theorem Box18.zero {u : World} {B : Nat} {g : Nat → Int} (h : Box18 u B g) (hf : ∀ j, j < 18 → u.frozen? ⟨B, j, none⟩ = false) : Zero 18 u B := fun j hj => ⟨by rw [h j hj]; rfl, hf j hj⟩

theorem box18_new (u : World) (f : Nat → Int) (t : TypeId) : Box18 (u.alloc (.cells #[.int .i64 (f 0), .int .i64 (f 1), .int .i64 (f 2), .int .i64 (f 3), .int .i64 (f 4), .int .i64 (f 5), .int .i64 (f 6), .int .i64 (f 7), .int .i64 (f 8), .int .i64 (f 9), .int .i64 (f 10), .int .i64 (f 11), .int .i64 (f 12), .int .i64 (f 13), .int .i64 (f 14), .int .i64 (f 15), .int .i64 (f 16), .int .i64 (f 17)] t)) u.heap.size f := fun j hj => by
  rw [World.cell?_alloc_new]
  rcases j with _ | _ | _ | _ | _ | _ | _ | _ | _ | _ | _ | _ | _ | _ | _ | _ | _ | _ | j
  · rfl
  · rfl
  · rfl
  · rfl
  · rfl
  · rfl
  · rfl
  · rfl
  · rfl
  · rfl
  · rfl
  · rfl
  · rfl
  · rfl
  · rfl
  · rfl
  · rfl
  · rfl
  · omega

theorem zero18_new (u : World) (f : Nat → Int) (t : TypeId) : Zero 18 (u.alloc (.cells #[.int .i64 (f 0), .int .i64 (f 1), .int .i64 (f 2), .int .i64 (f 3), .int .i64 (f 4), .int .i64 (f 5), .int .i64 (f 6), .int .i64 (f 7), .int .i64 (f 8), .int .i64 (f 9), .int .i64 (f 10), .int .i64 (f 11), .int .i64 (f 12), .int .i64 (f 13), .int .i64 (f 14), .int .i64 (f 15), .int .i64 (f 16), .int .i64 (f 17)] t)) u.heap.size :=
  (box18_new u f t).zero fun j hj => World.frozen?_alloc_new _ _ _ _

/-- Numbers stored one behind another. -/
def setAll (u : World) (B : Nat) (f : Nat → Int) : Nat → World
  | 0 => u
  | n + 1 => (setAll u B f n).setCell ⟨B, n, none⟩ (.int .i64 (f n))

theorem setAll_wrote (u : World) (B : Nat) (f : Nat → Int) : ∀ n, Wrote (fun b o => b = B) u (setAll u B f n)
  | 0 => Wrote.refl _ _
  | n + 1 => (setAll_wrote u B f n).setCell (P := fun b o => b = B) (b := B) (o := n) rfl _

theorem setAll_cell {u : World} {B : Nat} {f : Nat → Int} : ∀ n, (∀ j, j < n → (u.cell? ⟨B, j, none⟩).isSome = true) →
    (∀ j, j < n → (setAll u B f n).cell? ⟨B, j, none⟩ = some (.int .i64 (f j))) ∧ ∀ j, n ≤ j → (setAll u B f n).cell? ⟨B, j, none⟩ = u.cell? ⟨B, j, none⟩
  | 0, _ => ⟨fun j hj => by omega, fun _ _ => rfl⟩
  | n + 1, h => by
    obtain ⟨h1, h2⟩ := setAll_cell (f := f) n fun j hj => h j (by omega)
    refine ⟨fun j hj => ?_, fun j hj => ?_⟩
    · by_cases e : j = n
      · subst e
        obtain ⟨x, hx⟩ := Option.isSome_iff_exists.mp (h j (by omega))
        exact World.cell?_setCell_same _ _ _ (by rw [h2 j (Nat.le_refl _)]; exact hx)
      · show ((setAll u B f n).setCell ⟨B, n, none⟩ _).cell? ⟨B, j, none⟩ = _
        rw [cell_set_other _ (.inr e)]
        exact h1 j (by omega)
    · show ((setAll u B f n).setCell ⟨B, n, none⟩ _).cell? ⟨B, j, none⟩ = _
      rw [cell_set_other _ (.inr (by omega))]
      exact h2 j (by omega)

theorem store18 {u : World} {B : Nat} (f : Nat → Int) (hz : Zero 18 u B) :
    ∃ u1, (((((((((((((((((u.setCell ⟨B, 0, none⟩ (.int .i64 (f 0))).setCell ⟨B, 1, none⟩ (.int .i64 (f 1))).setCell ⟨B, 2, none⟩ (.int .i64 (f 2))).setCell ⟨B, 3, none⟩ (.int .i64 (f 3))).setCell ⟨B, 4, none⟩ (.int .i64 (f 4))).setCell ⟨B, 5, none⟩ (.int .i64 (f 5))).setCell ⟨B, 6, none⟩ (.int .i64 (f 6))).setCell ⟨B, 7, none⟩ (.int .i64 (f 7))).setCell ⟨B, 8, none⟩ (.int .i64 (f 8))).setCell ⟨B, 9, none⟩ (.int .i64 (f 9))).setCell ⟨B, 10, none⟩ (.int .i64 (f 10))).setCell ⟨B, 11, none⟩ (.int .i64 (f 11))).setCell ⟨B, 12, none⟩ (.int .i64 (f 12))).setCell ⟨B, 13, none⟩ (.int .i64 (f 13))).setCell ⟨B, 14, none⟩ (.int .i64 (f 14))).setCell ⟨B, 15, none⟩ (.int .i64 (f 15))).setCell ⟨B, 16, none⟩ (.int .i64 (f 16))).setCell ⟨B, 17, none⟩ (.int .i64 (f 17)) = u1 ∧ Wrote (fun b o => b = B) u u1 ∧ Box18 u1 B f :=
  ⟨setAll u B f 18, rfl, setAll_wrote u B f 18, (setAll_cell 18 fun j hj => (hz j hj).1).1⟩

/-- The numbers of a memory, one behind another. -/
def cellF (d : MemD) (j : Nat) : Int := ((d.i ++ d.o ++ d.v)[j]?).getD 0

theorem six_of {xs : List Int} (h : xs.length = 6) : ∃ x0 x1 x2 x3 x4 x5, xs = [x0, x1, x2, x3, x4, x5] := by
  match xs, h with
  | [x0, x1, x2, x3, x4, x5], _ => exact ⟨x0, x1, x2, x3, x4, x5, rfl⟩

theorem memOf_cellF {d : MemD} (h1 : d.i.length = 6) (h2 : d.o.length = 6) (h3 : d.v.length = 6) : memOf (cellF d) = d := by
  obtain ⟨i, o, v⟩ := d
  obtain ⟨a0, a1, a2, a3, a4, a5, rfl⟩ := six_of h1
  obtain ⟨b0, b1, b2, b3, b4, b5, rfl⟩ := six_of h2
  obtain ⟨c0, c1, c2, c3, c4, c5, rfl⟩ := six_of h3
  rfl

theorem cellF_i {d : MemD} (h1 : d.i.length = 6) (h2 : d.o.length = 6) (h3 : d.v.length = 6) : d.i = [cellF d 0, cellF d 1, cellF d 2, cellF d 3, cellF d 4, cellF d 5] ∧ d.o = [cellF d 6, cellF d 7, cellF d 8, cellF d 9, cellF d 10, cellF d 11] ∧ d.v = [cellF d 12, cellF d 13, cellF d 14, cellF d 15, cellF d 16, cellF d 17] := by
  have h := memOf_cellF h1 h2 h3
  exact ⟨congrArg MemD.i h.symm, congrArg MemD.o h.symm, congrArg MemD.v h.symm⟩

/-- What a slice of six numbers is. -/
theorem si_six {w : World} {lo hi : Nat} {v : Value} {x0 x1 x2 x3 x4 x5 : Int} (h : SI w lo hi v [x0, x1, x2, x3, x4, x5]) :
    ∃ b off cap, v = .slice (some ⟨b, off, none⟩) 6 cap ∧ b < hi ∧ w.cell? ⟨b, off, none⟩ = some (.int .i64 x0) ∧ w.cell? ⟨b, off + 1, none⟩ = some (.int .i64 x1) ∧ w.cell? ⟨b, off + 2, none⟩ = some (.int .i64 x2) ∧ w.cell? ⟨b, off + 3, none⟩ = some (.int .i64 x3) ∧ w.cell? ⟨b, off + 4, none⟩ = some (.int .i64 x4) ∧ w.cell? ⟨b, off + 5, none⟩ = some (.int .i64 x5) := by
  obtain ⟨a, cap, rfl, h1, h2, h3⟩ := h
  rcases h3 with h0 | ⟨b, off, rfl, _, hb, hc⟩
  · cases h0
  · exact ⟨b, off, cap, rfl, hb, hc 0 x0 rfl, hc 1 x1 rfl, hc 2 x2 rfl, hc 3 x3 rfl, hc 4 x4 rfl, hc 5 x5 rfl⟩

def fits (d : MemD) : Bool := decide (d.i.length = 6) && decide (d.o.length = 6) && decide (d.v.length = 6)

end Go.Proofs.YtaoiookfmgpmkaaGreatDoor
