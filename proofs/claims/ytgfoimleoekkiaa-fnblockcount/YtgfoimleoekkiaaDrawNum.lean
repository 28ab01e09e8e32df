/-
  What chapter 1's draws (package spec) answer over any bytes: some number, two numbers or a truth value; nothing that was there is written.
-/
import Derived.Test.YtgfoimleoekkiaaDraw
namespace Go.Proofs.Ytgfoimleoekkiaa
open Go.ChangeShapes Go.WideShapes Go.ChangeAt Go.RowKit
set_option linter.unusedVariables false

theorem bytes_of_row {w : World} {a : Option Addr} {len cap : Nat} {zs : List Int}
    (h : (a = none ∧ len = 0 ∧ cap = 0 ∧ zs = []) ∨
      ∃ x, a = some x ∧ len ≤ cap ∧ cap ≤ maxLen ∧ zs.length = cap ∧ (∀ i, i < zs.length → w.cell? (x.add i) = some (.int .u8 (zs.getD i 0))) ∧ ∀ n ∈ zs, (Lit.int .u8 n).wf = true) :
    Bytes8 w w.heap.size a len ∧ len ≤ cap ∧ cap ≤ maxLen := by
  rcases h with ⟨_, rfl, rfl, _⟩ | ⟨⟨b, off, spot⟩, rfl, hl, hm, hz, hc, hw⟩
  · exact ⟨.inl rfl, Nat.le_refl _, by unfold maxLen; omega⟩
  · refine ⟨?_, hl, hm⟩
    by_cases h0 : len = 0
    · exact .inl h0
    · have h1 := hc 0 (by omega)
      have hs : spot = none := by simpa [Addr.add] using World.cell?_spot h1
      subst hs
      have hb : b < w.heap.size := by simpa [Addr.add] using World.block_lt_of_cell? w _ h1
      refine .inr ⟨b, off, rfl, hb, fun i hi => ⟨zs.getD i 0, by rw [← hc i (by omega)]; congr 1; unfold Addr.add; split <;> simp_all, ?_⟩⟩
      have hi' : i < zs.length := by omega
      have hg : zs.getD i 0 = zs[i] := by simp [List.getD, hi']
      rw [hg]
      exact bounds_u8 (hw _ (List.getElem_mem hi'))

theorem Bytes8.kept {w w1 : World} {a : Option Addr} {len : Nat} (h : Bytes8 w w.heap.size a len) (hb : Below w.heap.size w w1) : Bytes8 w1 w1.heap.size a len := by
  have hs := hb.size
  rcases h with h0 | ⟨b, off, ha, hb', hc⟩
  · exact .inl h0
  · refine .inr ⟨b, off, ha, by omega, fun i hi => ?_⟩
    rw [hb.cell (p := ⟨b, off + i, none⟩) hb']
    exact hc i hi






end Go.Proofs.Ytgfoimleoekkiaa
