/-
  Variables of five cells in a law, and what is reckoned behind marks.
-/
import Derived.Test.YtkeockippmmneaaExprSz
import Derived.Test.YtkeockippmmneaaExprTo
import Derived.Test.YtkeockippmmneaaExprEq
import Derived.Test.YtkeockippmmneaaDag
namespace Go.Proofs.Ytkeockippmmneaa
open Go.ChangeShapes Go.WideShapes Go.ChangeAt Go.RowKit
set_option linter.unusedVariables false

/-- A variable of five cells. -/
structure Box5 (w : World) (B : Nat) (v0 v1 v2 v3 v4 : Value) : Prop where
  c0 : w.cell? ⟨B, 0, none⟩ = some v0
  c1 : w.cell? ⟨B, 1, none⟩ = some v1
  c2 : w.cell? ⟨B, 2, none⟩ = some v2
  c3 : w.cell? ⟨B, 3, none⟩ = some v3
  c4 : w.cell? ⟨B, 4, none⟩ = some v4

theorem Box5.below {w w' : World} {B n : Nat} {v0 v1 v2 v3 v4 : Value} (h : Box5 w B v0 v1 v2 v3 v4) (hb : Below n w w') (hB : B < n) : Box5 w' B v0 v1 v2 v3 v4 :=
  ⟨by rw [hb.cell (p := ⟨B, 0, none⟩) hB]; exact h.c0, by rw [hb.cell (p := ⟨B, 1, none⟩) hB]; exact h.c1, by rw [hb.cell (p := ⟨B, 2, none⟩) hB]; exact h.c2, by rw [hb.cell (p := ⟨B, 3, none⟩) hB]; exact h.c3, by rw [hb.cell (p := ⟨B, 4, none⟩) hB]; exact h.c4⟩

theorem box5_new (w : World) (v0 v1 v2 v3 v4 : Value) (t : TypeId) : Box5 (w.alloc (.cells #[v0, v1, v2, v3, v4] t)) w.heap.size v0 v1 v2 v3 v4 :=
  ⟨World.cell?_alloc_new _ _ _ _, World.cell?_alloc_new _ _ _ _, World.cell?_alloc_new _ _ _ _, World.cell?_alloc_new _ _ _ _, World.cell?_alloc_new _ _ _ _⟩

theorem EO.shape {w : World} {lo hi : Nat} {v : Value} {e : ExprD} (h : EO w lo hi v e) : ∃ ad cap, v = .agg #[.int .i64 e.k, .int .i64 e.n, .int .i64 e.ak, .int .i64 e.at_, .slice ad e.kids.length cap] := by
  obtain ⟨s, rfl, hk⟩ := h
  obtain ⟨ad, cap, rfl, _, _⟩ := hk.kr.shape
  exact ⟨ad, cap, rfl⟩

theorem ER.shape {w : World} {lo hi : Nat} {v : Value} {e : ExprD} (h : ER w lo hi v e) : ∃ ad cap, v = .agg #[.int .i64 e.k, .int .i64 e.n, .int .i64 e.ak, .int .i64 e.at_, .slice ad e.kids.length cap] := by
  obtain ⟨s, rfl, hk⟩ := h
  obtain ⟨ad, cap, rfl, _, _⟩ := hk.shape
  exact ⟨ad, cap, rfl⟩


theorem eq_of_iff {a b : Bool} {p : Prop} (h : a = true ↔ p) (k : b = true ↔ p) : a = b := Bool.eq_iff_iff.mpr (h.trans k.symm)
end Go.Proofs.Ytkeockippmmneaa
