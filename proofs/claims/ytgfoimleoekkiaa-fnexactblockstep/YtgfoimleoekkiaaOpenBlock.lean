/-
  An argument read as data, opened: a block (laws.Block).
-/
import Derived.Test.YtgfoimleoekkiaaBlockData
import Derived.Lib.SmallJoins
namespace Go.Proofs.Ytgfoimleoekkiaa
open Go.ChangeShapes Go.WideShapes Go.ChangeAt Go.RowKit Go.Joins
set_option linter.unusedVariables false

set_option maxRecDepth 100000 in
theorem block_of_trod {H : Type} {enc : TypeId × Value → H} {w : World} {r : Reach} {base b0 : Nat} {held : Bool} {v : Value} {d : DataW H} {p : List MemPlace}
    (hv : Value.okWide Try.prog w r b0 38 v) (h : DataW.Trod enc Try.prog w base (fun _ => true) held 38 v d p) : ∃ b : BlockD, v = b.val := by
  obtain ⟨cs, rfl, hsz⟩ := okWide_struct Try.underlying38 hv
  obtain ⟨fuel, hf⟩ := h
  have hc : Try.prog.cellsOf 38 = 5 := by kernel_rfl
  rw [hc] at hsz
  obtain ⟨c0, c1, c2, c3, c4, rfl⟩ : ∃ c0 c1 c2 c3 c4, cs = #[c0, c1, c2, c3, c4] := by
    match cs, hsz with
    | ⟨[c0, c1, c2, c3, c4]⟩, _ => exact ⟨c0, c1, c2, c3, c4, rfl⟩
  have hf' : DataW.trod enc Try.prog w base (fun _ => true) held fuel 38 [c0, c1, c2, c3, c4] = some (d, p) := hf
  obtain ⟨xs, n1, hn1, hx, hl, hxl, hf⟩ := DataW.trod_struct Try.underlying38 hf'
  have i3 : Try.prog.cellsOf 3 = 1 := by kernel_rfl
  have i4 : Try.prog.cellsOf 4 = 1 := by kernel_rfl
  have g : ∀ i, i < 5 → ∃ x, xs[i]? = some x := fun i hi => ⟨xs[i]'(by rw [hxl]; exact hi), List.getElem?_eq_getElem _⟩
  obtain ⟨x0, e0⟩ := g 0 (by omega)
  obtain ⟨x1, e1⟩ := g 1 (by omega)
  obtain ⟨x2, e2⟩ := g 2 (by omega)
  obtain ⟨x3, e3⟩ := g 3 (by omega)
  obtain ⟨x4, e4⟩ := g 4 (by omega)
  have t0 : DataW.trod enc Try.prog w base (fun _ => true) held n1 3 (List.take (Try.prog.cellsOf 3) (List.drop 0 [c0, c1, c2, c3, c4])) = xs[0]? := hf 0 _ rfl
  have t1 : DataW.trod enc Try.prog w base (fun _ => true) held n1 3 (List.take (Try.prog.cellsOf 3) (List.drop 1 [c0, c1, c2, c3, c4])) = xs[1]? := hf 1 _ rfl
  have t2 : DataW.trod enc Try.prog w base (fun _ => true) held n1 4 (List.take (Try.prog.cellsOf 4) (List.drop 2 [c0, c1, c2, c3, c4])) = xs[2]? := hf 2 _ rfl
  have t3 : DataW.trod enc Try.prog w base (fun _ => true) held n1 4 (List.take (Try.prog.cellsOf 4) (List.drop 3 [c0, c1, c2, c3, c4])) = xs[3]? := hf 3 _ rfl
  have t4 : DataW.trod enc Try.prog w base (fun _ => true) held n1 3 (List.take (Try.prog.cellsOf 3) (List.drop 4 [c0, c1, c2, c3, c4])) = xs[4]? := hf 4 _ rfl
  rw [i3, e0] at t0
  rw [i3, e1] at t1
  rw [i4, e2] at t2
  rw [i4, e3] at t3
  rw [i3, e4] at t4
  have t0 : DataW.trod enc Try.prog w base (fun _ => true) held n1 3 [c0] = some x0 := t0
  have t1 : DataW.trod enc Try.prog w base (fun _ => true) held n1 3 [c1] = some x1 := t1
  have t2 : DataW.trod enc Try.prog w base (fun _ => true) held n1 4 [c2] = some x2 := t2
  have t3 : DataW.trod enc Try.prog w base (fun _ => true) held n1 4 [c3] = some x3 := t3
  have t4 : DataW.trod enc Try.prog w base (fun _ => true) held n1 3 [c4] = some x4 := t4
  obtain ⟨k, q0, _, _⟩ := DataW.trod_int Try.underlying3 t0
  obtain ⟨n, q1, _, _⟩ := DataW.trod_int Try.underlying3 t1
  obtain ⟨on, q2, _⟩ := DataW.trod_bool Try.underlying4 t2
  obtain ⟨was, q3, _⟩ := DataW.trod_bool Try.underlying4 t3
  obtain ⟨t, q4, _, _⟩ := DataW.trod_int Try.underlying3 t4
  simp at q0 q1 q2 q3 q4
  subst q0 q1 q2 q3 q4
  exact ⟨⟨k, n, on, was, t⟩, rfl⟩
end Go.Proofs.Ytgfoimleoekkiaa
