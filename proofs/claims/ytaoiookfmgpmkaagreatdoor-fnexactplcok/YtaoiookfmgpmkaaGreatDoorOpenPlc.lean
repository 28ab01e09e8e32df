/-
  An argument read as data, opened: a controller (laws.Plc).
-/
import Derived.Test.YtaoiookfmgpmkaaGreatDoorPlcData
import Derived.Test.YtaoiookfmgpmkaaGreatDoorOpenStmt
import Derived.Test.YtaoiookfmgpmkaaGreatDoorOpenNet
import Derived.Test.YtaoiookfmgpmkaaGreatDoorOpenMarks
import Derived.Deep.Strs
namespace Go.Proofs.YtaoiookfmgpmkaaGreatDoor
open Go.ChangeShapes Go.WideShapes Go.ChangeAt Go.RowKit Go.Joins
set_option linter.unusedVariables false
set_option maxRecDepth 100000

theorem block_cellsP {H : Type} {enc : TypeId × Value → H} {w : World} {base : Nat} {held : Bool} (n : Nat) (cs : List Value) (y : DataW H × List MemPlace)
    (h : DataW.trod enc Tryz.prog w base (fun _ => true) held n 248 cs = some y) : ∃ s : BlockD, cs = blockC s := by
  obtain ⟨xs, n1, hn1, hx, hl, hxl, hf⟩ := DataW.trod_struct Tryz.underlying248 h
  have hc : Tryz.prog.cellsOf 248 = 5 := by kernel_rfl
  rw [hc] at hl
  have i3 : Tryz.prog.cellsOf 3 = 1 := by kernel_rfl
  have i4 : Tryz.prog.cellsOf 4 = 1 := by kernel_rfl
  match cs, hl with
  | [c0, c1, c2, c3, c4], _ =>
    have g : ∀ i, i < 5 → ∃ x, xs[i]? = some x := fun i hi => ⟨xs[i]'(by rw [hxl]; exact hi), List.getElem?_eq_getElem _⟩
    obtain ⟨x0, e0⟩ := g 0 (by omega)
    obtain ⟨x1, e1⟩ := g 1 (by omega)
    obtain ⟨x2, e2⟩ := g 2 (by omega)
    obtain ⟨x3, e3⟩ := g 3 (by omega)
    obtain ⟨x4, e4⟩ := g 4 (by omega)
    have t0 : DataW.trod enc Tryz.prog w base (fun _ => true) held n1 3 (List.take (Tryz.prog.cellsOf 3) (List.drop 0 [c0, c1, c2, c3, c4])) = xs[0]? := hf 0 _ rfl
    have t1 : DataW.trod enc Tryz.prog w base (fun _ => true) held n1 3 (List.take (Tryz.prog.cellsOf 3) (List.drop 1 [c0, c1, c2, c3, c4])) = xs[1]? := hf 1 _ rfl
    have t2 : DataW.trod enc Tryz.prog w base (fun _ => true) held n1 4 (List.take (Tryz.prog.cellsOf 4) (List.drop 2 [c0, c1, c2, c3, c4])) = xs[2]? := hf 2 _ rfl
    have t3 : DataW.trod enc Tryz.prog w base (fun _ => true) held n1 4 (List.take (Tryz.prog.cellsOf 4) (List.drop 3 [c0, c1, c2, c3, c4])) = xs[3]? := hf 3 _ rfl
    have t4 : DataW.trod enc Tryz.prog w base (fun _ => true) held n1 3 (List.take (Tryz.prog.cellsOf 3) (List.drop 4 [c0, c1, c2, c3, c4])) = xs[4]? := hf 4 _ rfl
    rw [i3, e0] at t0
    rw [i3, e1] at t1
    rw [i4, e2] at t2
    rw [i4, e3] at t3
    rw [i3, e4] at t4
    have t0 : DataW.trod enc Tryz.prog w base (fun _ => true) held n1 3 [c0] = some x0 := t0
    have t1 : DataW.trod enc Tryz.prog w base (fun _ => true) held n1 3 [c1] = some x1 := t1
    have t2 : DataW.trod enc Tryz.prog w base (fun _ => true) held n1 4 [c2] = some x2 := t2
    have t3 : DataW.trod enc Tryz.prog w base (fun _ => true) held n1 4 [c3] = some x3 := t3
    have t4 : DataW.trod enc Tryz.prog w base (fun _ => true) held n1 3 [c4] = some x4 := t4
    obtain ⟨z0, q0, _, _⟩ := DataW.trod_int Tryz.underlying3 t0
    obtain ⟨z1, q1, _, _⟩ := DataW.trod_int Tryz.underlying3 t1
    obtain ⟨z2, q2, _⟩ := DataW.trod_bool Tryz.underlying4 t2
    obtain ⟨z3, q3, _⟩ := DataW.trod_bool Tryz.underlying4 t3
    obtain ⟨z4, q4, _, _⟩ := DataW.trod_int Tryz.underlying3 t4
    simp at q0 q1 q2 q3 q4
    subst q0 q1 q2 q3 q4
    exact ⟨⟨_, _, _, _, _⟩, rfl⟩

theorem pl_of_trod {H : Type} {enc : TypeId × Value → H} {w : World} {r : Reach} {base b0 : Nat} {held : Bool} {v : Value} {d : DataW H} {p : List MemPlace}
    (hv : Value.okWide Tryz.prog w r b0 73 v) (h : DataW.Trod enc Tryz.prog w base (fun _ => true) held 73 v d p) : ∃ m, PI w 0 w.heap.size v m := by
  obtain ⟨cs, rfl, hsz⟩ := okWide_struct Tryz.underlying73 hv
  obtain ⟨fuel, hf⟩ := h
  have hc : Tryz.prog.cellsOf 73 = 15 := by kernel_rfl
  rw [hc] at hsz
  obtain ⟨c0, c1, c2, c3, c4, c5, c6, c7, c8, c9, c10, c11, c12, c13, c14, rfl⟩ : ∃ c0 c1 c2 c3 c4 c5 c6 c7 c8 c9 c10 c11 c12 c13 c14, cs = #[c0, c1, c2, c3, c4, c5, c6, c7, c8, c9, c10, c11, c12, c13, c14] := by
    match cs, hsz with
    | ⟨[c0, c1, c2, c3, c4, c5, c6, c7, c8, c9, c10, c11, c12, c13, c14]⟩, _ => exact ⟨c0, c1, c2, c3, c4, c5, c6, c7, c8, c9, c10, c11, c12, c13, c14, rfl⟩
  have hf' : DataW.trod enc Tryz.prog w base (fun _ => true) held fuel 73 [c0, c1, c2, c3, c4, c5, c6, c7, c8, c9, c10, c11, c12, c13, c14] = some (d, p) := hf
  obtain ⟨xs, n1, hn1, hx, hl, hxl, hf⟩ := DataW.trod_struct Tryz.underlying73 hf'
  clear hf'
  have i3 : Tryz.prog.cellsOf 3 = 1 := by kernel_rfl
  have i4 : Tryz.prog.cellsOf 4 = 1 := by kernel_rfl
  have i5 : Tryz.prog.cellsOf 22 = 1 := by kernel_rfl
  have i6 : Tryz.prog.cellsOf 26 = 2 := by kernel_rfl
  have i7 : Tryz.prog.cellsOf 30 = 3 := by kernel_rfl
  have i8 : Tryz.prog.cellsOf 69 = 2 := by kernel_rfl
  have i9 : Tryz.prog.cellsOf 70 = 2 := by kernel_rfl
  have i10 : Tryz.prog.cellsOf 71 = 3 := by kernel_rfl
  have g : ∀ i, i < 8 → ∃ x, xs[i]? = some x := fun i hi => ⟨xs[i]'(by rw [hxl]; exact hi), List.getElem?_eq_getElem _⟩
  obtain ⟨x0, e0⟩ := g 0 (by omega)
  obtain ⟨x1, e1⟩ := g 1 (by omega)
  obtain ⟨x2, e2⟩ := g 2 (by omega)
  obtain ⟨x3, e3⟩ := g 3 (by omega)
  obtain ⟨x4, e4⟩ := g 4 (by omega)
  obtain ⟨x5, e5⟩ := g 5 (by omega)
  obtain ⟨x6, e6⟩ := g 6 (by omega)
  obtain ⟨x7, e7⟩ := g 7 (by omega)
  have t0 : DataW.trod enc Tryz.prog w base (fun _ => true) held n1 22 (List.take (Tryz.prog.cellsOf 22) (List.drop 0 [c0, c1, c2, c3, c4, c5, c6, c7, c8, c9, c10, c11, c12, c13, c14])) = xs[0]? := hf 0 _ rfl
  have t1 : DataW.trod enc Tryz.prog w base (fun _ => true) held n1 26 (List.take (Tryz.prog.cellsOf 26) (List.drop 1 [c0, c1, c2, c3, c4, c5, c6, c7, c8, c9, c10, c11, c12, c13, c14])) = xs[1]? := hf 1 _ rfl
  have t2 : DataW.trod enc Tryz.prog w base (fun _ => true) held n1 30 (List.take (Tryz.prog.cellsOf 30) (List.drop 3 [c0, c1, c2, c3, c4, c5, c6, c7, c8, c9, c10, c11, c12, c13, c14])) = xs[2]? := hf 2 _ rfl
  have t3 : DataW.trod enc Tryz.prog w base (fun _ => true) held n1 69 (List.take (Tryz.prog.cellsOf 69) (List.drop 6 [c0, c1, c2, c3, c4, c5, c6, c7, c8, c9, c10, c11, c12, c13, c14])) = xs[3]? := hf 3 _ rfl
  have t4 : DataW.trod enc Tryz.prog w base (fun _ => true) held n1 70 (List.take (Tryz.prog.cellsOf 70) (List.drop 8 [c0, c1, c2, c3, c4, c5, c6, c7, c8, c9, c10, c11, c12, c13, c14])) = xs[4]? := hf 4 _ rfl
  have t5 : DataW.trod enc Tryz.prog w base (fun _ => true) held n1 71 (List.take (Tryz.prog.cellsOf 71) (List.drop 10 [c0, c1, c2, c3, c4, c5, c6, c7, c8, c9, c10, c11, c12, c13, c14])) = xs[5]? := hf 5 _ rfl
  have t6 : DataW.trod enc Tryz.prog w base (fun _ => true) held n1 4 (List.take (Tryz.prog.cellsOf 4) (List.drop 13 [c0, c1, c2, c3, c4, c5, c6, c7, c8, c9, c10, c11, c12, c13, c14])) = xs[6]? := hf 6 _ rfl
  have t7 : DataW.trod enc Tryz.prog w base (fun _ => true) held n1 3 (List.take (Tryz.prog.cellsOf 3) (List.drop 14 [c0, c1, c2, c3, c4, c5, c6, c7, c8, c9, c10, c11, c12, c13, c14])) = xs[7]? := hf 7 _ rfl
  clear hf
  rw [i5, e0] at t0
  rw [i6, e1] at t1
  rw [i7, e2] at t2
  rw [i8, e3] at t3
  rw [i9, e4] at t4
  rw [i10, e5] at t5
  rw [i4, e6] at t6
  rw [i3, e7] at t7
  have t0 : DataW.trod enc Tryz.prog w base (fun _ => true) held n1 22 [c0] = some x0 := t0
  have t1 : DataW.trod enc Tryz.prog w base (fun _ => true) held n1 26 [c1, c2] = some x1 := t1
  have t2 : DataW.trod enc Tryz.prog w base (fun _ => true) held n1 30 [c3, c4, c5] = some x2 := t2
  have t3 : DataW.trod enc Tryz.prog w base (fun _ => true) held n1 69 [c6, c7] = some x3 := t3
  have t4 : DataW.trod enc Tryz.prog w base (fun _ => true) held n1 70 [c8, c9] = some x4 := t4
  have t5 : DataW.trod enc Tryz.prog w base (fun _ => true) held n1 71 [c10, c11, c12] = some x5 := t5
  have t6 : DataW.trod enc Tryz.prog w base (fun _ => true) held n1 4 [c13] = some x6 := t6
  have t7 : DataW.trod enc Tryz.prog w base (fun _ => true) held n1 3 [c14] = some x7 := t7
  obtain ⟨z6, q6, _⟩ := DataW.trod_bool Tryz.underlying4 t6
  obtain ⟨z7, q7, _, _⟩ := DataW.trod_int Tryz.underlying3 t7
  simp at q6 q7
  subst q6 q7
  obtain ⟨d0, r0⟩ := sr_of_trod n1 t0
  have hel : ∀ (n : Nat) (cs : List Value) (y : DataW H × List MemPlace), DataW.trod enc Tryz.prog w base (fun _ => true) held n 4 cs = some y → ∃ p : Bool, cs = bool2.cells p := fun n cs y h => by
    obtain ⟨b, q, _⟩ := DataW.trod_bool Tryz.underlying4 h
    exact ⟨b, q⟩
  -- the net
  obtain ⟨ya, yb, m1, _, _, t1a, t1b⟩ := trod_struct2 Tryz.underlying26 t1
  have t1a : DataW.trod enc Tryz.prog w base (fun _ => true) held m1 23 [c1] = some ya := by simpa [show Tryz.prog.cellsOf 23 = 1 by kernel_rfl] using t1a
  have t1b : DataW.trod enc Tryz.prog w base (fun _ => true) held m1 24 [c2] = some yb := by simpa [show Tryz.prog.cellsOf 23 = 1 by kernel_rfl, show Tryz.prog.cellsOf 24 = 1 by kernel_rfl] using t1b
  obtain ⟨d1a, r1a⟩ := gr_of_trod (E := wireE) Tryz.underlying23 (by kernel_rfl) wire_cells t1a
  obtain ⟨d1b, r1b⟩ := gr_of_trod (E := driveE) Tryz.underlying24 (by kernel_rfl) drive_cells t1b
  -- the chart
  obtain ⟨y2a, y2b, y2c, m2, _, _, t2a, t2b, t2c⟩ := Go.Deep.trod_struct3 Tryz.underlying30 t2
  have t2a : DataW.trod enc Tryz.prog w base (fun _ => true) held m2 3 [c3] = some y2a := by simpa [i3] using t2a
  have t2b : DataW.trod enc Tryz.prog w base (fun _ => true) held m2 27 [c4] = some y2b := by simpa [i3, show Tryz.prog.cellsOf 27 = 1 by kernel_rfl] using t2b
  have t2c : DataW.trod enc Tryz.prog w base (fun _ => true) held m2 28 [c5] = some y2c := by simpa [i3, show Tryz.prog.cellsOf 27 = 1 by kernel_rfl, show Tryz.prog.cellsOf 28 = 1 by kernel_rfl] using t2c
  obtain ⟨z3, q3, _, _⟩ := DataW.trod_int Tryz.underlying3 t2a
  simp at q3
  subst q3
  obtain ⟨d2a, r2a⟩ := tr_of_trod t2b
  obtain ⟨d2b, r2b⟩ := gr_of_trodC (E := actE) Tryz.underlying28 (by kernel_rfl) act_cells t2c
  -- what the net keeps
  obtain ⟨y3a, y3b, m3, _, _, t3a, t3b⟩ := trod_struct2 Tryz.underlying69 t3
  have t3a : DataW.trod enc Tryz.prog w base (fun _ => true) held m3 67 [c6] = some y3a := by simpa [show Tryz.prog.cellsOf 67 = 1 by kernel_rfl] using t3a
  have t3b : DataW.trod enc Tryz.prog w base (fun _ => true) held m3 44 [c7] = some y3b := by simpa [show Tryz.prog.cellsOf 67 = 1 by kernel_rfl, show Tryz.prog.cellsOf 44 = 1 by kernel_rfl] using t3b
  obtain ⟨d3a, r3a⟩ := gr_of_trodC (E := blockE) Tryz.underlying67 (by kernel_rfl) block_cellsP t3a
  obtain ⟨d3b, r3b⟩ := gr_of_trodC (E := bool2) Tryz.underlying44 (by kernel_rfl) hel t3b
  -- the marks
  obtain ⟨y4a, y4b, m4, _, _, t4a, t4b⟩ := trod_struct2 Tryz.underlying70 t4
  have t4a : DataW.trod enc Tryz.prog w base (fun _ => true) held m4 44 [c8] = some y4a := by simpa [show Tryz.prog.cellsOf 44 = 1 by kernel_rfl] using t4a
  have t4b : DataW.trod enc Tryz.prog w base (fun _ => true) held m4 44 [c9] = some y4b := by simpa [show Tryz.prog.cellsOf 44 = 1 by kernel_rfl] using t4b
  obtain ⟨d4a, r4a⟩ := gr_of_trodC (E := bool2) Tryz.underlying44 (by kernel_rfl) hel t4a
  obtain ⟨d4b, r4b⟩ := gr_of_trodC (E := bool2) Tryz.underlying44 (by kernel_rfl) hel t4b
  -- the memory
  obtain ⟨y5a, y5b, y5c, m5, _, _, t5a, t5b, t5c⟩ := Go.Deep.trod_struct3 Tryz.underlying71 t5
  have t5a : DataW.trod enc Tryz.prog w base (fun _ => true) held m5 49 [c10] = some y5a := by simpa [show Tryz.prog.cellsOf 49 = 1 by kernel_rfl] using t5a
  have t5b : DataW.trod enc Tryz.prog w base (fun _ => true) held m5 49 [c11] = some y5b := by simpa [show Tryz.prog.cellsOf 49 = 1 by kernel_rfl] using t5b
  have t5c : DataW.trod enc Tryz.prog w base (fun _ => true) held m5 49 [c12] = some y5c := by simpa [show Tryz.prog.cellsOf 49 = 1 by kernel_rfl] using t5c
  obtain ⟨d5a, r5a⟩ := si_of_trodC t5a
  obtain ⟨d5b, r5b⟩ := si_of_trodC t5b
  obtain ⟨d5c, r5c⟩ := si_of_trodC t5c
  exact ⟨⟨d0, ⟨d1a, d1b⟩, ⟨z3, d2a, d2b⟩, ⟨d3a, d3b⟩, ⟨d4a, d4b⟩, ⟨d5a, d5b, d5c⟩, z6, z7⟩, c0, c1, c2, c4, c5, c6, c7, c8, c9, c10, c11, c12, rfl,
    ⟨r0, ⟨_, _, rfl, r1a, r1b⟩, ⟨_, _, rfl, r2a, r2b⟩, ⟨_, _, rfl, r3a, r3b⟩, ⟨_, _, rfl, r4a, r4b⟩, ⟨_, _, _, rfl, r5a, r5b, r5c⟩⟩⟩
end Go.Proofs.YtaoiookfmgpmkaaGreatDoor
