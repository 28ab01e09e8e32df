/-
  Small lemmas of the laws over blocks: a byte of a row, what is ok. (Written by our generator gen_lawblock.py.)
-/
import Derived.Test.YtgfoimleoekkiaaDrawBlockC
import Derived.Test.YtgfoimleoekkiaaDrawNum
namespace Go.Proofs.Ytgfoimleoekkiaa
open Go.ChangeShapes Go.WideShapes Go.ChangeAt Go.RowKit
set_option linter.unusedVariables false
set_option linter.unusedSimpArgs false
set_option maxRecDepth 100000
/-- A byte of a row, behind new blocks. -/
theorem byte_at {w u : World} {x : Option Addr} {len i : Nat} (h : Bytes8 w w.heap.size x len) (hb : Below w.heap.size w u) (hi : i < len) : ∃ b off z, x = some ⟨b, off, none⟩ ∧ u.cell? ⟨b, off + i, none⟩ = some (.int .u8 z) ∧ 0 ≤ z ∧ z ≤ 255 := by
  rcases h with h0 | ⟨b, off, ha, hb', hc⟩
  · omega
  · obtain ⟨z, hz, h1, h2⟩ := hc i hi
    exact ⟨b, off, z, ha, by rw [hb.cell (p := ⟨b, off + i, none⟩) hb']; exact hz, h1, h2⟩

theorem kOk {k n t : Int} {on was : Bool} (hk : k = 1 ∨ k = 2 ∨ k = 3) (h0 : 0 ≤ n) (h1 : n ≤ 1000) (h2 : 0 ≤ t) (h3 : t ≤ 1000) : blockOk ⟨k, n, on, was, t⟩ = true := by
  unfold blockOk; simp only; rw [numB_kinds hk, numB_kinds hk]; simp [h0, h1, h2, h3]
theorem upto_in {z : Int} (h : z ≤ 1000) : upto z = z := by unfold upto; rw [if_neg (by omega)]
end Go.Proofs.Ytgfoimleoekkiaa
