/-
  Variables of five cells in a law, and what is reckoned behind marks.
-/
import Derived.Test.YtdhmioelmcdflaaExprSz
import Derived.Test.YtdhmioelmcdflaaExprTo
import Derived.Test.YtdhmioelmcdflaaExprEq
import Derived.Test.YtdhmioelmcdflaaLawKit
import Derived.Test.YtdhmioelmcdflaaDag
namespace Go.Proofs.Ytdhmioelmcdflaa
open Go.ChangeShapes Go.WideShapes Go.ChangeAt Go.RowKit
set_option linter.unusedVariables false

/-- A variable of five cells. -/
structure Box5 (w : World) (B : Nat) (v0 v1 v2 v3 v4 : Value) : Prop where
  c0 : w.cell? ⟨B, 0, none⟩ = some v0
  c1 : w.cell? ⟨B, 1, none⟩ = some v1
  c2 : w.cell? ⟨B, 2, none⟩ = some v2
  c3 : w.cell? ⟨B, 3, none⟩ = some v3
  c4 : w.cell? ⟨B, 4, none⟩ = some v4

theorem Box5.below {w w' : World} {B n : Nat} {v0 v1 v2 v3 v4 : Value} (h : Box5 w B v0 v1 v2 v3 v4) (hb : Below n w w') (hB : B < n) : Box5 w' B v0 v1 v2 v3 v4 :=
  ⟨by rw [hb.cell (p := ⟨B, 0, none⟩) hB]; exact h.c0, by rw [hb.cell (p := ⟨B, 1, none⟩) hB]; exact h.c1, by rw [hb.cell (p := ⟨B, 2, none⟩) hB]; exact h.c2, by rw [hb.cell (p := ⟨B, 3, none⟩) hB]; exact h.c3, by rw [hb.cell (p := ⟨B, 4, none⟩) hB]; exact h.c4⟩

theorem box5_new (w : World) (v0 v1 v2 v3 v4 : Value) (t : TypeId) : Box5 (w.alloc (.cells #[v0, v1, v2, v3, v4] t)) w.heap.size v0 v1 v2 v3 v4 :=
  ⟨World.cell?_alloc_new _ _ _ _, World.cell?_alloc_new _ _ _ _, World.cell?_alloc_new _ _ _ _, World.cell?_alloc_new _ _ _ _, World.cell?_alloc_new _ _ _ _⟩

theorem EO.shape {w : World} {lo hi : Nat} {v : Value} {e : ExprD} (h : EO w lo hi v e) : ∃ ad cap, v = .agg #[.int .i64 e.k, .int .i64 e.n, .int .i64 e.ak, .int .i64 e.at_, .slice ad e.kids.length cap] := by
  obtain ⟨s, rfl, hk⟩ := h
  obtain ⟨ad, cap, rfl, _, _⟩ := hk.kr.shape
  exact ⟨ad, cap, rfl⟩

theorem ER.shape {w : World} {lo hi : Nat} {v : Value} {e : ExprD} (h : ER w lo hi v e) : ∃ ad cap, v = .agg #[.int .i64 e.k, .int .i64 e.n, .int .i64 e.ak, .int .i64 e.at_, .slice ad e.kids.length cap] := by
  obtain ⟨s, rfl, hk⟩ := h
  obtain ⟨ad, cap, rfl, _, _⟩ := hk.shape
  exact ⟨ad, cap, rfl⟩

theorem MI.shape {w : World} {lo hi : Nat} {v : Value} {d : MemD} (h : MI w lo hi v d) : ∃ pa ca pb cb pc cc, v = .agg #[.slice pa d.i.length ca, .slice pb d.o.length cb, .slice pc d.v.length cc] := by
  obtain ⟨a, b, c, rfl, h1, h2, h3⟩ := h
  obtain ⟨pa, ca, rfl⟩ := h1.shape
  obtain ⟨pb, cb, rfl⟩ := h2.shape
  obtain ⟨pc, cc, rfl⟩ := h3.shape
  exact ⟨pa, ca, pb, cb, pc, cc, rfl⟩

theorem eq_of_iff {a b : Bool} {p : Prop} (h : a = true ↔ p) (k : b = true ↔ p) : a = b := Bool.eq_iff_iff.mpr (h.trans k.symm)
end Go.Proofs.Ytdhmioelmcdflaa
