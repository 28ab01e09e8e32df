/-
  Variables of fifteen cells of a law; a controller's value, written out.
-/
import Derived.Test.YtaoiookfmgpmkaaGreatDoorPlcTo
namespace Go.Proofs.YtaoiookfmgpmkaaGreatDoor
open Go.ChangeShapes Go.WideShapes Go.ChangeAt Go.RowKit
set_option linter.unusedVariables false

/-- A variable of fifteen cells. -/
structure BxF (w : World) (B : Nat) (x0 x1 x2 x3 x4 x5 x6 x7 x8 x9 x10 x11 x12 x13 x14 : Value) : Prop where
  c0 : w.cell? ⟨B, 0, none⟩ = some x0
  c1 : w.cell? ⟨B, 1, none⟩ = some x1
  c2 : w.cell? ⟨B, 2, none⟩ = some x2
  c3 : w.cell? ⟨B, 3, none⟩ = some x3
  c4 : w.cell? ⟨B, 4, none⟩ = some x4
  c5 : w.cell? ⟨B, 5, none⟩ = some x5
  c6 : w.cell? ⟨B, 6, none⟩ = some x6
  c7 : w.cell? ⟨B, 7, none⟩ = some x7
  c8 : w.cell? ⟨B, 8, none⟩ = some x8
  c9 : w.cell? ⟨B, 9, none⟩ = some x9
  c10 : w.cell? ⟨B, 10, none⟩ = some x10
  c11 : w.cell? ⟨B, 11, none⟩ = some x11
  c12 : w.cell? ⟨B, 12, none⟩ = some x12
  c13 : w.cell? ⟨B, 13, none⟩ = some x13
  c14 : w.cell? ⟨B, 14, none⟩ = some x14

theorem BxF.below {w w' : World} {B n : Nat} {x0 x1 x2 x3 x4 x5 x6 x7 x8 x9 x10 x11 x12 x13 x14 : Value} (h : BxF w B x0 x1 x2 x3 x4 x5 x6 x7 x8 x9 x10 x11 x12 x13 x14) (hb : Below n w w') (hB : B < n) : BxF w' B x0 x1 x2 x3 x4 x5 x6 x7 x8 x9 x10 x11 x12 x13 x14 :=
  ⟨by rw [hb.cell (p := ⟨B, 0, none⟩) hB]; exact h.c0,
   by rw [hb.cell (p := ⟨B, 1, none⟩) hB]; exact h.c1,
   by rw [hb.cell (p := ⟨B, 2, none⟩) hB]; exact h.c2,
   by rw [hb.cell (p := ⟨B, 3, none⟩) hB]; exact h.c3,
   by rw [hb.cell (p := ⟨B, 4, none⟩) hB]; exact h.c4,
   by rw [hb.cell (p := ⟨B, 5, none⟩) hB]; exact h.c5,
   by rw [hb.cell (p := ⟨B, 6, none⟩) hB]; exact h.c6,
   by rw [hb.cell (p := ⟨B, 7, none⟩) hB]; exact h.c7,
   by rw [hb.cell (p := ⟨B, 8, none⟩) hB]; exact h.c8,
   by rw [hb.cell (p := ⟨B, 9, none⟩) hB]; exact h.c9,
   by rw [hb.cell (p := ⟨B, 10, none⟩) hB]; exact h.c10,
   by rw [hb.cell (p := ⟨B, 11, none⟩) hB]; exact h.c11,
   by rw [hb.cell (p := ⟨B, 12, none⟩) hB]; exact h.c12,
   by rw [hb.cell (p := ⟨B, 13, none⟩) hB]; exact h.c13,
   by rw [hb.cell (p := ⟨B, 14, none⟩) hB]; exact h.c14⟩
theorem bxf_new (w : World) (x0 x1 x2 x3 x4 x5 x6 x7 x8 x9 x10 x11 x12 x13 x14 : Value) (t : TypeId) : BxF (w.alloc (.cells #[x0, x1, x2, x3, x4, x5, x6, x7, x8, x9, x10, x11, x12, x13, x14] t)) w.heap.size x0 x1 x2 x3 x4 x5 x6 x7 x8 x9 x10 x11 x12 x13 x14 :=
  ⟨World.cell?_alloc_new _ _ _ _, World.cell?_alloc_new _ _ _ _, World.cell?_alloc_new _ _ _ _, World.cell?_alloc_new _ _ _ _, World.cell?_alloc_new _ _ _ _, World.cell?_alloc_new _ _ _ _, World.cell?_alloc_new _ _ _ _, World.cell?_alloc_new _ _ _ _, World.cell?_alloc_new _ _ _ _, World.cell?_alloc_new _ _ _ _, World.cell?_alloc_new _ _ _ _, World.cell?_alloc_new _ _ _ _, World.cell?_alloc_new _ _ _ _, World.cell?_alloc_new _ _ _ _, World.cell?_alloc_new _ _ _ _⟩

theorem bxf_of {w : World} {B : Nat} {x0 x1 x2 x3 x4 x5 x6 x7 x8 x9 x10 x11 x12 x13 x14 : Value} (h : VarG w B [x0, x1, x2, x3, x4, x5, x6, x7, x8, x9, x10, x11, x12, x13, x14]) : BxF w B x0 x1 x2 x3 x4 x5 x6 x7 x8 x9 x10 x11 x12 x13 x14 :=
  ⟨h.c 0 _ rfl, h.c 1 _ rfl, h.c 2 _ rfl, h.c 3 _ rfl, h.c 4 _ rfl, h.c 5 _ rfl, h.c 6 _ rfl, h.c 7 _ rfl, h.c 8 _ rfl, h.c 9 _ rfl, h.c 10 _ rfl, h.c 11 _ rfl, h.c 12 _ rfl, h.c 13 _ rfl, h.c 14 _ rfl⟩
theorem pi_one {w : World} {lo hi : Nat} {vs : List Value} {p : PlcD} (x : PI w lo hi (.agg vs.toArray) p) : ∀ v ∈ vs, v.oneCell' = true := by
  obtain ⟨s, a, b, c, d, e, f, g, h, i, j, k, hv, H⟩ := x
  have hvs : vs = plcC p s a b c d e f g h i j k := by simpa using hv
  rw [hvs]
  exact plcC_one H

theorem PI.opq {w : World} {lo hi : Nat} {v : Value} {p : PlcD} (x : PI w lo hi v p) : ∃ cs : List Value, cs.length = 15 ∧ v = .agg cs.toArray := by
  obtain ⟨s, a, b, c, d, e, f, g, h, i, j, k, hv, _⟩ := x; exact ⟨_, rfl, hv⟩

theorem PI.lit {w : World} {lo hi : Nat} {v : Value} {p : PlcD} (x : PI w lo hi v p) : ∃ s a b c d e f g h i j k, v = .agg #[s, a, b, .int .i64 p.chart.steps, c, d, e, f, g, h, i, j, k, .bool p.fault, .int .i64 p.scans] := by
  obtain ⟨s, a, b, c, d, e, f, g, h, i, j, k, hv, _⟩ := x; exact ⟨s, a, b, c, d, e, f, g, h, i, j, k, hv⟩
end Go.Proofs.YtaoiookfmgpmkaaGreatDoor
