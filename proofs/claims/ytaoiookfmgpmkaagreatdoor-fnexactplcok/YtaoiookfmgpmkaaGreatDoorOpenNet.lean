/-
  Arguments read as data, opened: lists of elements of several cells in general; a net (laws.Net). (Written by our generator gen_opennet.py.)
-/
import Derived.Test.YtaoiookfmgpmkaaGreatDoorNetData
import Derived.Lib.SmallJoins
namespace Go.Proofs.YtaoiookfmgpmkaaGreatDoor
open Go.ChangeShapes Go.WideShapes Go.ChangeAt Go.RowKit Go.Joins
set_option linter.unusedVariables false
set_option maxRecDepth 100000

theorem gr_of_trod {α : Type} {E : Elem α} {T Te : TypeId} {H : Type} {enc : TypeId × Value → H} {w : World} {base : Nat} {held : Bool} {n : Nat} {v : Value} {y : DataW H × List MemPlace} (hT : Tryz.prog.underlying T = some (.slice Te)) (hc : Tryz.prog.cellsOf Te = E.k)
    (hel : ∀ (n : Nat) (cs : List Value) (y : DataW H × List MemPlace), DataW.trod enc Tryz.prog w base (fun _ => true) held n Te cs = some y → ∃ p : α, cs = E.cells p)
    (h : DataW.trod enc Tryz.prog w base (fun _ => true) held n T [v] = some y) : ∃ ps, GR E w 0 w.heap.size v ps := by
  rcases DataW.trod_slice hT h with ⟨hcs, _⟩ | ⟨a, len, cap, elems, rest, n1, hn1, hcs, _, hb, hl, hm, hlen, he, _, _⟩
  · obtain rfl : v = .slice none 0 0 := by simpa using hcs
    exact ⟨[], ⟨none, 0, rfl, Nat.le_refl _, Nat.zero_le _, .inl rfl⟩⟩
  · obtain rfl : v = .slice (some a) len cap := by simpa using hcs
    by_cases h0 : len = 0
    · subst h0; exact ⟨[], ⟨some a, cap, rfl, Nat.zero_le _, hm, .inl rfl⟩⟩
    rw [hc] at he
    have hpos := E.pos
    obtain ⟨b, off, spot⟩ := a
    have first : ∀ i, i < len → ∃ (p : α), ∀ (j : Nat) (x : Value), (E.cells p)[j]? = some x → w.cell? (((⟨b, off, spot⟩ : Go.Addr).add (i * E.k)).add j) = some x := by
      intro i hi
      have h1 := he i hi
      rw [List.getElem?_eq_getElem (by omega)] at h1
      obtain ⟨cs, hcs, ht⟩ := Option.bind_eq_some_iff.mp h1
      obtain ⟨p, rfl⟩ := hel _ _ _ ht
      refine ⟨p, fun j x hx => ?_⟩
      have hj : j < E.k := by have := (List.getElem?_eq_some_iff.mp hx).1; rwa [E.len] at this
      rw [(World.cells?_some hcs).2.2 j hj, hx]
    have zero : ∀ p : α, ∃ x, (E.cells p)[0]? = some x := fun p => ⟨(E.cells p)[0]'(by rw [E.len]; exact hpos), List.getElem?_eq_getElem _⟩
    have hsp : spot = none := by
      obtain ⟨p, hp⟩ := first 0 (by omega)
      obtain ⟨x, hx⟩ := zero p
      have := World.cell?_spot (hp 0 x hx)
      simpa [Go.Addr.add] using this
    subst hsp
    have ad : ∀ i j, ((⟨b, off, none⟩ : Go.Addr).add (i * E.k)).add j = ⟨b, off + i * E.k + j, none⟩ := fun i j => by
      rw [Addr.add_lit, Addr.add_lit]
    have part : ∀ i, i < len → ∃ (p : α), CV w b (off + i * E.k) (E.cells p) := by
      intro i hi
      obtain ⟨p, hp⟩ := first i hi
      exact ⟨p, fun j x hx => by have := hp j x hx; rwa [ad] at this⟩
    obtain ⟨ps, hpl, hp⟩ := list_ofG len part
    obtain ⟨e0, he0⟩ : ∃ e, ps[0]? = some e := ⟨ps[0]'(by omega), List.getElem?_eq_getElem _⟩
    obtain ⟨x, hx⟩ := zero e0
    have hb' : b < w.heap.size := World.block_lt_of_cell? w _ (hp 0 e0 he0 0 x hx)
    exact ⟨ps, ⟨_, cap, by rw [hpl], by omega, hm, .inr ⟨b, off, rfl, Nat.zero_le _, hb', fun i p hi => hp i p hi⟩⟩⟩

theorem addr_cells {H : Type} {enc : TypeId × Value → H} {w : World} {base : Nat} {held : Bool} (n : Nat) (cs : List Value) (y : DataW H × List MemPlace)
    (h : DataW.trod enc Tryz.prog w base (fun _ => true) held n 101 cs = some y) : ∃ a b : Int, cs = [.int .i64 a, .int .i64 b] := by
  obtain ⟨xs, n1, hn1, hx, hl, hxl, hf⟩ := DataW.trod_struct Tryz.underlying101 h
  have hc : Tryz.prog.cellsOf 101 = 2 := by kernel_rfl
  rw [hc] at hl
  match cs, hl with
  | [c0, c1], _ =>
    have g : ∀ i, i < 2 → ∃ x, xs[i]? = some x := fun i hi => ⟨xs[i]'(by rw [hxl]; exact hi), List.getElem?_eq_getElem _⟩
    obtain ⟨x0, e0⟩ := g 0 (by omega)
    have t0 : DataW.trod enc Tryz.prog w base (fun _ => true) held n1 3 (List.take (Tryz.prog.cellsOf 3) (List.drop 0 [c0, c1])) = xs[0]? := hf 0 _ rfl
    rw [show Tryz.prog.cellsOf 3 = 1 by kernel_rfl, e0] at t0
    have t0 : DataW.trod enc Tryz.prog w base (fun _ => true) held n1 3 [c0] = some x0 := t0
    obtain ⟨z0, q0, _, _⟩ := DataW.trod_int Tryz.underlying3 t0
    obtain ⟨x1, e1⟩ := g 1 (by omega)
    have t1 : DataW.trod enc Tryz.prog w base (fun _ => true) held n1 3 (List.take (Tryz.prog.cellsOf 3) (List.drop 1 [c0, c1])) = xs[1]? := hf 1 _ rfl
    rw [show Tryz.prog.cellsOf 3 = 1 by kernel_rfl, e1] at t1
    have t1 : DataW.trod enc Tryz.prog w base (fun _ => true) held n1 3 [c1] = some x1 := t1
    obtain ⟨z1, q1, _, _⟩ := DataW.trod_int Tryz.underlying3 t1
    simp at q0 q1
    subst q0 q1
    exact ⟨_, _, rfl⟩

theorem src_cells {H : Type} {enc : TypeId × Value → H} {w : World} {base : Nat} {held : Bool} (n : Nat) (cs : List Value) (y : DataW H × List MemPlace)
    (h : DataW.trod enc Tryz.prog w base (fun _ => true) held n 215 cs = some y) : ∃ s : SrcD, cs = srcC s := by
  obtain ⟨xs, n1, hn1, hx, hl, hxl, hf⟩ := DataW.trod_struct Tryz.underlying215 h
  have hc : Tryz.prog.cellsOf 215 = 5 := by kernel_rfl
  rw [hc] at hl
  match cs, hl with
  | [c0, c1, c2, c3, c4], _ =>
    have g : ∀ i, i < 4 → ∃ x, xs[i]? = some x := fun i hi => ⟨xs[i]'(by rw [hxl]; exact hi), List.getElem?_eq_getElem _⟩
    obtain ⟨x0, e0⟩ := g 0 (by omega)
    have t0 : DataW.trod enc Tryz.prog w base (fun _ => true) held n1 3 (List.take (Tryz.prog.cellsOf 3) (List.drop 0 [c0, c1, c2, c3, c4])) = xs[0]? := hf 0 _ rfl
    rw [show Tryz.prog.cellsOf 3 = 1 by kernel_rfl, e0] at t0
    have t0 : DataW.trod enc Tryz.prog w base (fun _ => true) held n1 3 [c0] = some x0 := t0
    obtain ⟨z0, q0, _, _⟩ := DataW.trod_int Tryz.underlying3 t0
    obtain ⟨x1, e1⟩ := g 1 (by omega)
    have t1 : DataW.trod enc Tryz.prog w base (fun _ => true) held n1 3 (List.take (Tryz.prog.cellsOf 3) (List.drop 1 [c0, c1, c2, c3, c4])) = xs[1]? := hf 1 _ rfl
    rw [show Tryz.prog.cellsOf 3 = 1 by kernel_rfl, e1] at t1
    have t1 : DataW.trod enc Tryz.prog w base (fun _ => true) held n1 3 [c1] = some x1 := t1
    obtain ⟨z1, q1, _, _⟩ := DataW.trod_int Tryz.underlying3 t1
    obtain ⟨x2, e2⟩ := g 2 (by omega)
    have t2 : DataW.trod enc Tryz.prog w base (fun _ => true) held n1 101 (List.take (Tryz.prog.cellsOf 101) (List.drop 2 [c0, c1, c2, c3, c4])) = xs[2]? := hf 2 _ rfl
    rw [show Tryz.prog.cellsOf 101 = 2 by kernel_rfl, e2] at t2
    have t2 : DataW.trod enc Tryz.prog w base (fun _ => true) held n1 101 [c2, c3] = some x2 := t2
    obtain ⟨z2, y2, q2⟩ := addr_cells n1 _ _ t2
    obtain ⟨x3, e3⟩ := g 3 (by omega)
    have t3 : DataW.trod enc Tryz.prog w base (fun _ => true) held n1 4 (List.take (Tryz.prog.cellsOf 4) (List.drop 4 [c0, c1, c2, c3, c4])) = xs[3]? := hf 3 _ rfl
    rw [show Tryz.prog.cellsOf 4 = 1 by kernel_rfl, e3] at t3
    have t3 : DataW.trod enc Tryz.prog w base (fun _ => true) held n1 4 [c4] = some x3 := t3
    obtain ⟨z3, q3, _⟩ := DataW.trod_bool Tryz.underlying4 t3
    simp at q0 q1 q2 q3
    obtain ⟨q2, q2'⟩ := q2
    subst q0 q1 q2 q2' q3
    exact ⟨⟨_, _, _, _, _⟩, rfl⟩

theorem wire_cells {H : Type} {enc : TypeId × Value → H} {w : World} {base : Nat} {held : Bool} (n : Nat) (cs : List Value) (y : DataW H × List MemPlace)
    (h : DataW.trod enc Tryz.prog w base (fun _ => true) held n 217 cs = some y) : ∃ s : WireD, cs = wireC s := by
  obtain ⟨xs, n1, hn1, hx, hl, hxl, hf⟩ := DataW.trod_struct Tryz.underlying217 h
  have hc : Tryz.prog.cellsOf 217 = 12 := by kernel_rfl
  rw [hc] at hl
  match cs, hl with
  | [c0, c1, c2, c3, c4, c5, c6, c7, c8, c9, c10, c11], _ =>
    have g : ∀ i, i < 4 → ∃ x, xs[i]? = some x := fun i hi => ⟨xs[i]'(by rw [hxl]; exact hi), List.getElem?_eq_getElem _⟩
    obtain ⟨x0, e0⟩ := g 0 (by omega)
    have t0 : DataW.trod enc Tryz.prog w base (fun _ => true) held n1 3 (List.take (Tryz.prog.cellsOf 3) (List.drop 0 [c0, c1, c2, c3, c4, c5, c6, c7, c8, c9, c10, c11])) = xs[0]? := hf 0 _ rfl
    rw [show Tryz.prog.cellsOf 3 = 1 by kernel_rfl, e0] at t0
    have t0 : DataW.trod enc Tryz.prog w base (fun _ => true) held n1 3 [c0] = some x0 := t0
    obtain ⟨z0, q0, _, _⟩ := DataW.trod_int Tryz.underlying3 t0
    obtain ⟨x1, e1⟩ := g 1 (by omega)
    have t1 : DataW.trod enc Tryz.prog w base (fun _ => true) held n1 3 (List.take (Tryz.prog.cellsOf 3) (List.drop 1 [c0, c1, c2, c3, c4, c5, c6, c7, c8, c9, c10, c11])) = xs[1]? := hf 1 _ rfl
    rw [show Tryz.prog.cellsOf 3 = 1 by kernel_rfl, e1] at t1
    have t1 : DataW.trod enc Tryz.prog w base (fun _ => true) held n1 3 [c1] = some x1 := t1
    obtain ⟨z1, q1, _, _⟩ := DataW.trod_int Tryz.underlying3 t1
    obtain ⟨x2, e2⟩ := g 2 (by omega)
    have t2 : DataW.trod enc Tryz.prog w base (fun _ => true) held n1 215 (List.take (Tryz.prog.cellsOf 215) (List.drop 2 [c0, c1, c2, c3, c4, c5, c6, c7, c8, c9, c10, c11])) = xs[2]? := hf 2 _ rfl
    rw [show Tryz.prog.cellsOf 215 = 5 by kernel_rfl, e2] at t2
    have t2 : DataW.trod enc Tryz.prog w base (fun _ => true) held n1 215 [c2, c3, c4, c5, c6] = some x2 := t2
    obtain ⟨z2, q2⟩ := src_cells n1 _ _ t2
    obtain ⟨x3, e3⟩ := g 3 (by omega)
    have t3 : DataW.trod enc Tryz.prog w base (fun _ => true) held n1 215 (List.take (Tryz.prog.cellsOf 215) (List.drop 7 [c0, c1, c2, c3, c4, c5, c6, c7, c8, c9, c10, c11])) = xs[3]? := hf 3 _ rfl
    rw [show Tryz.prog.cellsOf 215 = 5 by kernel_rfl, e3] at t3
    have t3 : DataW.trod enc Tryz.prog w base (fun _ => true) held n1 215 [c7, c8, c9, c10, c11] = some x3 := t3
    obtain ⟨z3, q3⟩ := src_cells n1 _ _ t3
    simp [srcC] at q0 q1 q2 q3
    obtain ⟨a0, a1, a2, a3, a4⟩ := q2
    obtain ⟨b0, b1, b2, b3, b4⟩ := q3
    subst q0 q1 a0 a1 a2 a3 a4 b0 b1 b2 b3 b4
    exact ⟨⟨_, _, z2, z3⟩, rfl⟩

theorem drive_cells {H : Type} {enc : TypeId × Value → H} {w : World} {base : Nat} {held : Bool} (n : Nat) (cs : List Value) (y : DataW H × List MemPlace)
    (h : DataW.trod enc Tryz.prog w base (fun _ => true) held n 220 cs = some y) : ∃ s : DriveD, cs = driveC s := by
  obtain ⟨xs, n1, hn1, hx, hl, hxl, hf⟩ := DataW.trod_struct Tryz.underlying220 h
  have hc : Tryz.prog.cellsOf 220 = 3 := by kernel_rfl
  rw [hc] at hl
  match cs, hl with
  | [c0, c1, c2], _ =>
    have g : ∀ i, i < 2 → ∃ x, xs[i]? = some x := fun i hi => ⟨xs[i]'(by rw [hxl]; exact hi), List.getElem?_eq_getElem _⟩
    obtain ⟨x0, e0⟩ := g 0 (by omega)
    have t0 : DataW.trod enc Tryz.prog w base (fun _ => true) held n1 101 (List.take (Tryz.prog.cellsOf 101) (List.drop 0 [c0, c1, c2])) = xs[0]? := hf 0 _ rfl
    rw [show Tryz.prog.cellsOf 101 = 2 by kernel_rfl, e0] at t0
    have t0 : DataW.trod enc Tryz.prog w base (fun _ => true) held n1 101 [c0, c1] = some x0 := t0
    obtain ⟨z0, y0, q0⟩ := addr_cells n1 _ _ t0
    obtain ⟨x1, e1⟩ := g 1 (by omega)
    have t1 : DataW.trod enc Tryz.prog w base (fun _ => true) held n1 3 (List.take (Tryz.prog.cellsOf 3) (List.drop 2 [c0, c1, c2])) = xs[1]? := hf 1 _ rfl
    rw [show Tryz.prog.cellsOf 3 = 1 by kernel_rfl, e1] at t1
    have t1 : DataW.trod enc Tryz.prog w base (fun _ => true) held n1 3 [c2] = some x1 := t1
    obtain ⟨z1, q1, _, _⟩ := DataW.trod_int Tryz.underlying3 t1
    simp at q0 q1
    obtain ⟨q0, q0'⟩ := q0
    subst q0 q0' q1
    exact ⟨⟨_, _, _⟩, rfl⟩

theorem ni_of_trod {H : Type} {enc : TypeId × Value → H} {w : World} {r : Reach} {base b0 : Nat} {held : Bool} {v : Value} {d : DataW H} {p : List MemPlace}
    (hv : Value.okWide Tryz.prog w r b0 26 v) (h : DataW.Trod enc Tryz.prog w base (fun _ => true) held 26 v d p) : ∃ m, NI w 0 w.heap.size v m := by
  obtain ⟨v0, v1, y0, y1, n, rfl, rfl, rfl, h0, h1⟩ := open_agg2 Tryz.underlying26 (by kernel_rfl) (by kernel_rfl) hv h
  obtain ⟨x0, s0⟩ := gr_of_trod (E := wireE) Tryz.underlying23 (by kernel_rfl) wire_cells h0
  obtain ⟨x1, s1⟩ := gr_of_trod (E := driveE) Tryz.underlying24 (by kernel_rfl) drive_cells h1
  exact ⟨⟨x0, x1⟩, v0, v1, rfl, s0, s1⟩
end Go.Proofs.YtaoiookfmgpmkaaGreatDoor
