/-
  Arguments read as data, opened: a memory (laws.Mem).
-/
import Derived.Test.YtaoiookfmgpmkaaGreatDoorMemKit
import Derived.Lib.SmallJoins
namespace Go.Proofs.YtaoiookfmgpmkaaGreatDoor
open Go.ChangeShapes Go.WideShapes Go.ChangeAt Go.RowKit Go.Joins
set_option linter.unusedVariables false

theorem si_of_trod {H : Type} {enc : TypeId × Value → H} {w : World} {base : Nat} {held : Bool} {n : Nat} {v : Value} {y : DataW H × List MemPlace}
    (h : DataW.trod enc Tryz.prog w base (fun _ => true) held n 49 [v] = some y) : ∃ xs, SI w 0 w.heap.size v xs := by
  rcases open_ints Tryz.underlying49 Tryz.underlying3 (by kernel_rfl) h with ⟨hcs, _⟩ | ⟨x, l, c, zs, hcs, _, hl, hm, hz, _, hcell, hwz⟩
  · obtain rfl : v = .slice none 0 0 := by simpa using hcs
    exact ⟨[], none, 0, rfl, Nat.zero_le _, Nat.zero_le _, .inl rfl⟩
  · obtain rfl : v = .slice (some x) l c := by simpa using hcs
    have hz' : zs.length = c := by simpa using hz
    have hlen : (zs.take l).length = l := by rw [List.length_take]; omega
    refine ⟨zs.take l, some x, c, by rw [hlen], by omega, hm, ?_⟩
    by_cases h0 : l = 0
    · left; rw [h0]; rfl
    · right
      obtain ⟨b, off, spot⟩ := x
      have h1 := hcell 0 (by omega)
      have hs : spot = none := by simpa [Addr.add] using World.cell?_spot h1
      subst hs
      have hb : b < w.heap.size := by simpa [Addr.add] using World.block_lt_of_cell? w _ h1
      refine ⟨b, off, rfl, Nat.zero_le _, hb, fun i q hq => ?_⟩
      have hi : i < l := by have := (List.getElem?_eq_some_iff.mp hq).1; omega
      have hc := hcell i (by omega)
      have hg : zs.getD i 0 = q := by
        rw [List.getElem?_take_of_lt hi] at hq
        simp [List.getD, hq]
      rw [hg] at hc
      rw [← hc]; congr 1; unfold Addr.add; split <;> simp_all

set_option maxRecDepth 100000 in
theorem mi_of_trod {H : Type} {enc : TypeId × Value → H} {w : World} {r : Reach} {base b0 : Nat} {held : Bool} {v : Value} {d : DataW H} {p : List MemPlace}
    (hv : Value.okWide Tryz.prog w r b0 71 v) (h : DataW.Trod enc Tryz.prog w base (fun _ => true) held 71 v d p) : ∃ m, MI w 0 w.heap.size v m := by
  obtain ⟨v0, v1, v2, y0, y1, y2, n, rfl, rfl, rfl, h0, h1, h2⟩ := open_agg3 Tryz.underlying71 (by kernel_rfl) (by kernel_rfl) hv h
  obtain ⟨x0, s0⟩ := si_of_trod h0
  obtain ⟨x1, s1⟩ := si_of_trod h1
  obtain ⟨x2, s2⟩ := si_of_trod h2
  exact ⟨⟨x0, x1, x2⟩, v0, v1, v2, rfl, s0, s1, s2⟩

end Go.Proofs.YtaoiookfmgpmkaaGreatDoor
