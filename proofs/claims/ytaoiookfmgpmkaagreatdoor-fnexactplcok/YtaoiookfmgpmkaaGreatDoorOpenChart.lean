/-
  An argument read as data, opened: a chart (laws.Chart).
-/
import Derived.Test.YtaoiookfmgpmkaaGreatDoorChartData
import Derived.Test.YtaoiookfmgpmkaaGreatDoorOpenExpr
import Derived.Lib.SmallJoins
namespace Go.Proofs.YtaoiookfmgpmkaaGreatDoor
open Go.ChangeShapes Go.WideShapes Go.ChangeAt Go.RowKit Go.Joins
set_option linter.unusedVariables false
set_option maxRecDepth 100000

theorem gr_of_trodC {α : Type} {E : Elem α} {T Te : TypeId} {H : Type} {enc : TypeId × Value → H} {w : World} {base : Nat} {held : Bool} {n : Nat} {v : Value} {y : DataW H × List MemPlace} (hT : Tryz.prog.underlying T = some (.slice Te)) (hc : Tryz.prog.cellsOf Te = E.k)
    (hel : ∀ (n : Nat) (cs : List Value) (y : DataW H × List MemPlace), DataW.trod enc Tryz.prog w base (fun _ => true) held n Te cs = some y → ∃ p : α, cs = E.cells p)
    (h : DataW.trod enc Tryz.prog w base (fun _ => true) held n T [v] = some y) : ∃ ps, GR E w 0 w.heap.size v ps := by
  rcases DataW.trod_slice hT h with ⟨hcs, _⟩ | ⟨a, len, cap, elems, rest, n1, hn1, hcs, _, hb, hl, hm, hlen, he, _, _⟩
  · obtain rfl : v = .slice none 0 0 := by simpa using hcs
    exact ⟨[], ⟨none, 0, rfl, Nat.le_refl _, Nat.zero_le _, .inl rfl⟩⟩
  · obtain rfl : v = .slice (some a) len cap := by simpa using hcs
    by_cases h0 : len = 0
    · subst h0; exact ⟨[], ⟨some a, cap, rfl, Nat.zero_le _, hm, .inl rfl⟩⟩
    rw [hc] at he
    have hpos := E.pos
    obtain ⟨b, off, spot⟩ := a
    have first : ∀ i, i < len → ∃ (p : α), ∀ (j : Nat) (x : Value), (E.cells p)[j]? = some x → w.cell? (((⟨b, off, spot⟩ : Go.Addr).add (i * E.k)).add j) = some x := by
      intro i hi
      have h1 := he i hi
      rw [List.getElem?_eq_getElem (by omega)] at h1
      obtain ⟨cs, hcs, ht⟩ := Option.bind_eq_some_iff.mp h1
      obtain ⟨p, rfl⟩ := hel _ _ _ ht
      refine ⟨p, fun j x hx => ?_⟩
      have hj : j < E.k := by have := (List.getElem?_eq_some_iff.mp hx).1; rwa [E.len] at this
      rw [(World.cells?_some hcs).2.2 j hj, hx]
    have zero : ∀ p : α, ∃ x, (E.cells p)[0]? = some x := fun p => ⟨(E.cells p)[0]'(by rw [E.len]; exact hpos), List.getElem?_eq_getElem _⟩
    have hsp : spot = none := by
      obtain ⟨p, hp⟩ := first 0 (by omega)
      obtain ⟨x, hx⟩ := zero p
      have := World.cell?_spot (hp 0 x hx)
      simpa [Go.Addr.add] using this
    subst hsp
    have ad : ∀ i j, ((⟨b, off, none⟩ : Go.Addr).add (i * E.k)).add j = ⟨b, off + i * E.k + j, none⟩ := fun i j => by
      rw [Addr.add_lit, Addr.add_lit]
    have part : ∀ i, i < len → ∃ (p : α), CV w b (off + i * E.k) (E.cells p) := by
      intro i hi
      obtain ⟨p, hp⟩ := first i hi
      exact ⟨p, fun j x hx => by have := hp j x hx; rwa [ad] at this⟩
    obtain ⟨ps, hpl, hp⟩ := list_ofG len part
    obtain ⟨e0, he0⟩ : ∃ e, ps[0]? = some e := ⟨ps[0]'(by omega), List.getElem?_eq_getElem _⟩
    obtain ⟨x, hx⟩ := zero e0
    have hb' : b < w.heap.size := World.block_lt_of_cell? w _ (hp 0 e0 he0 0 x hx)
    exact ⟨ps, ⟨_, cap, by rw [hpl], by omega, hm, .inr ⟨b, off, rfl, Nat.zero_le _, hb', fun i p hi => hp i p hi⟩⟩⟩

theorem addr_cellsC {H : Type} {enc : TypeId × Value → H} {w : World} {base : Nat} {held : Bool} (n : Nat) (cs : List Value) (y : DataW H × List MemPlace)
    (h : DataW.trod enc Tryz.prog w base (fun _ => true) held n 101 cs = some y) : ∃ a b : Int, cs = [.int .i64 a, .int .i64 b] := by
  obtain ⟨xs, n1, hn1, hx, hl, hxl, hf⟩ := DataW.trod_struct Tryz.underlying101 h
  have hc : Tryz.prog.cellsOf 101 = 2 := by kernel_rfl
  rw [hc] at hl
  match cs, hl with
  | [c0, c1], _ =>
    have g : ∀ i, i < 2 → ∃ x, xs[i]? = some x := fun i hi => ⟨xs[i]'(by rw [hxl]; exact hi), List.getElem?_eq_getElem _⟩
    obtain ⟨x0, e0⟩ := g 0 (by omega)
    have t0 : DataW.trod enc Tryz.prog w base (fun _ => true) held n1 3 (List.take (Tryz.prog.cellsOf 3) (List.drop 0 [c0, c1])) = xs[0]? := hf 0 _ rfl
    rw [show Tryz.prog.cellsOf 3 = 1 by kernel_rfl, e0] at t0
    have t0 : DataW.trod enc Tryz.prog w base (fun _ => true) held n1 3 [c0] = some x0 := t0
    obtain ⟨z0, q0, _, _⟩ := DataW.trod_int Tryz.underlying3 t0
    obtain ⟨x1, e1⟩ := g 1 (by omega)
    have t1 : DataW.trod enc Tryz.prog w base (fun _ => true) held n1 3 (List.take (Tryz.prog.cellsOf 3) (List.drop 1 [c0, c1])) = xs[1]? := hf 1 _ rfl
    rw [show Tryz.prog.cellsOf 3 = 1 by kernel_rfl, e1] at t1
    have t1 : DataW.trod enc Tryz.prog w base (fun _ => true) held n1 3 [c1] = some x1 := t1
    obtain ⟨z1, q1, _, _⟩ := DataW.trod_int Tryz.underlying3 t1
    simp at q0 q1
    subst q0 q1
    exact ⟨_, _, rfl⟩

theorem si_of_trodC {H : Type} {enc : TypeId × Value → H} {w : World} {base : Nat} {held : Bool} {n : Nat} {v : Value} {y : DataW H × List MemPlace}
    (h : DataW.trod enc Tryz.prog w base (fun _ => true) held n 49 [v] = some y) : ∃ xs, SI w 0 w.heap.size v xs := by
  rcases open_ints Tryz.underlying49 Tryz.underlying3 (by kernel_rfl) h with ⟨hcs, _⟩ | ⟨x, l, c, zs, hcs, _, hl, hm, hz, _, hcell, hwz⟩
  · obtain rfl : v = .slice none 0 0 := by simpa using hcs
    exact ⟨[], none, 0, rfl, Nat.zero_le _, Nat.zero_le _, .inl rfl⟩
  · obtain rfl : v = .slice (some x) l c := by simpa using hcs
    have hz' : zs.length = c := by simpa using hz
    have hlen : (zs.take l).length = l := by rw [List.length_take]; omega
    refine ⟨zs.take l, some x, c, by rw [hlen], by omega, hm, ?_⟩
    by_cases h0 : l = 0
    · left; rw [h0]; rfl
    · right
      obtain ⟨b, off, spot⟩ := x
      have h1 := hcell 0 (by omega)
      have hs : spot = none := by simpa [Addr.add] using World.cell?_spot h1
      subst hs
      have hb : b < w.heap.size := by simpa [Addr.add] using World.block_lt_of_cell? w _ h1
      refine ⟨b, off, rfl, Nat.zero_le _, hb, fun i q hq => ?_⟩
      have hi : i < l := by have := (List.getElem?_eq_some_iff.mp hq).1; omega
      have hc := hcell i (by omega)
      have hg : zs.getD i 0 = q := by
        rw [List.getElem?_take_of_lt hi] at hq
        simp [List.getD, hq]
      rw [hg] at hc
      rw [← hc]; congr 1; unfold Addr.add; split <;> simp_all

theorem act_cells {H : Type} {enc : TypeId × Value → H} {w : World} {base : Nat} {held : Bool} (n : Nat) (cs : List Value) (y : DataW H × List MemPlace)
    (h : DataW.trod enc Tryz.prog w base (fun _ => true) held n 226 cs = some y) : ∃ s : ActD, cs = actC s := by
  obtain ⟨xs, n1, hn1, hx, hl, hxl, hf⟩ := DataW.trod_struct Tryz.underlying226 h
  have hc : Tryz.prog.cellsOf 226 = 4 := by kernel_rfl
  rw [hc] at hl
  match cs, hl with
  | [c0, c1, c2, c3], _ =>
    have g : ∀ i, i < 3 → ∃ x, xs[i]? = some x := fun i hi => ⟨xs[i]'(by rw [hxl]; exact hi), List.getElem?_eq_getElem _⟩
    obtain ⟨x0, e0⟩ := g 0 (by omega)
    have t0 : DataW.trod enc Tryz.prog w base (fun _ => true) held n1 3 (List.take (Tryz.prog.cellsOf 3) (List.drop 0 [c0, c1, c2, c3])) = xs[0]? := hf 0 _ rfl
    rw [show Tryz.prog.cellsOf 3 = 1 by kernel_rfl, e0] at t0
    have t0 : DataW.trod enc Tryz.prog w base (fun _ => true) held n1 3 [c0] = some x0 := t0
    obtain ⟨z0, q0, _, _⟩ := DataW.trod_int Tryz.underlying3 t0
    obtain ⟨x1, e1⟩ := g 1 (by omega)
    have t1 : DataW.trod enc Tryz.prog w base (fun _ => true) held n1 3 (List.take (Tryz.prog.cellsOf 3) (List.drop 1 [c0, c1, c2, c3])) = xs[1]? := hf 1 _ rfl
    rw [show Tryz.prog.cellsOf 3 = 1 by kernel_rfl, e1] at t1
    have t1 : DataW.trod enc Tryz.prog w base (fun _ => true) held n1 3 [c1] = some x1 := t1
    obtain ⟨z1, q1, _, _⟩ := DataW.trod_int Tryz.underlying3 t1
    obtain ⟨x2, e2⟩ := g 2 (by omega)
    have t2 : DataW.trod enc Tryz.prog w base (fun _ => true) held n1 101 (List.take (Tryz.prog.cellsOf 101) (List.drop 2 [c0, c1, c2, c3])) = xs[2]? := hf 2 _ rfl
    rw [show Tryz.prog.cellsOf 101 = 2 by kernel_rfl, e2] at t2
    have t2 : DataW.trod enc Tryz.prog w base (fun _ => true) held n1 101 [c2, c3] = some x2 := t2
    obtain ⟨z2, y2, q2⟩ := addr_cellsC n1 _ _ t2
    simp at q0 q1 q2
    obtain ⟨q2, q2'⟩ := q2
    subst q0 q1 q2 q2'
    exact ⟨⟨_, _, _, _⟩, rfl⟩

theorem trans_of_trod {H : Type} {enc : TypeId × Value → H} {w : World} {base : Nat} {held : Bool} (n : Nat) (cs : List Value) (y : DataW H × List MemPlace)
    (h : DataW.trod enc Tryz.prog w base (fun _ => true) held n 203 cs = some y) : ∃ (x' y' s' : Value) (t : TransD), cs = transC x' y' t.e s' ∧ WayR w 0 w.heap.size x' y' s' t := by
  obtain ⟨xs, n1, hn1, hx, hl, hxl, hf⟩ := DataW.trod_struct Tryz.underlying203 h
  have hc : Tryz.prog.cellsOf 203 = 7 := by kernel_rfl
  rw [hc] at hl
  match cs, hl with
  | [c0, c1, c2, c3, c4, c5, c6], _ =>
    have g : ∀ i, i < 3 → ∃ x, xs[i]? = some x := fun i hi => ⟨xs[i]'(by rw [hxl]; exact hi), List.getElem?_eq_getElem _⟩
    obtain ⟨x0, e0⟩ := g 0 (by omega)
    have t0 : DataW.trod enc Tryz.prog w base (fun _ => true) held n1 49 (List.take (Tryz.prog.cellsOf 49) (List.drop 0 [c0, c1, c2, c3, c4, c5, c6])) = xs[0]? := hf 0 _ rfl
    rw [show Tryz.prog.cellsOf 49 = 1 by kernel_rfl, e0] at t0
    have t0 : DataW.trod enc Tryz.prog w base (fun _ => true) held n1 49 [c0] = some x0 := t0
    obtain ⟨fr, q0⟩ := si_of_trodC t0
    obtain ⟨x1, e1⟩ := g 1 (by omega)
    have t1 : DataW.trod enc Tryz.prog w base (fun _ => true) held n1 49 (List.take (Tryz.prog.cellsOf 49) (List.drop 1 [c0, c1, c2, c3, c4, c5, c6])) = xs[1]? := hf 1 _ rfl
    rw [show Tryz.prog.cellsOf 49 = 1 by kernel_rfl, e1] at t1
    have t1 : DataW.trod enc Tryz.prog w base (fun _ => true) held n1 49 [c1] = some x1 := t1
    obtain ⟨to, q1⟩ := si_of_trodC t1
    obtain ⟨x2, e2⟩ := g 2 (by omega)
    have t2 : DataW.trod enc Tryz.prog w base (fun _ => true) held n1 104 (List.take (Tryz.prog.cellsOf 104) (List.drop 2 [c0, c1, c2, c3, c4, c5, c6])) = xs[2]? := hf 2 _ rfl
    rw [show Tryz.prog.cellsOf 104 = 5 by kernel_rfl, e2] at t2
    have t2 : DataW.trod enc Tryz.prog w base (fun _ => true) held n1 104 [c2, c3, c4, c5, c6] = some x2 := t2
    obtain ⟨k, m, a, t, s, n', z, hcs, _, hs⟩ := five_of_trod t2
    obtain ⟨es, hes⟩ := kr_of_trod n' hs
    simp only [List.cons.injEq, and_true] at hcs
    obtain ⟨r2, r3, r4, r5, r6⟩ := hcs
    subst r2 r3 r4 r5 r6
    exact ⟨c0, c1, c6, ⟨fr, to, .mk k m a t es⟩, rfl, q0, q1, hes⟩

theorem list_ofW {P : Nat → TransD → Value → Value → Value → Prop} : ∀ (len : Nat), (∀ i, i < len → ∃ s x y z, P i s x y z) → ∃ (ss : List TransD) (x y z : Nat → Value), ss.length = len ∧ ∀ i s, ss[i]? = some s → P i s (x i) (y i) (z i)
  | 0, _ => ⟨[], fun _ => .bool false, fun _ => .bool false, fun _ => .bool false, rfl, fun i e h => by simp at h⟩
  | len + 1, h => by
    obtain ⟨ss, xs, ys, zs, hl, hp⟩ := list_ofW len fun i hi => h i (by omega)
    obtain ⟨s, x, y, z, hes⟩ := h len (by omega)
    refine ⟨ss ++ [s], fun i => if i = len then x else xs i, fun i => if i = len then y else ys i, fun i => if i = len then z else zs i, by simp [hl], fun i e' he => ?_⟩
    by_cases hi : i = len
    · subst hi
      rw [List.getElem?_append_right (by omega), hl] at he
      simp at he
      subst he
      simp only [if_true]
      exact hes
    · have hil : i < len := by
        have := (List.getElem?_eq_some_iff.mp he).1
        simp [hl] at this
        omega
      rw [List.getElem?_append_left (by omega)] at he
      simp only [if_neg hi]
      exact hp i e' he

theorem tr_of_trod {H : Type} {enc : TypeId × Value → H} {w : World} {base : Nat} {held : Bool} {n : Nat} {v : Value} {y : DataW H × List MemPlace}
    (h : DataW.trod enc Tryz.prog w base (fun _ => true) held n 27 [v] = some y) : ∃ ts, TR w 0 w.heap.size v ts := by
  rcases DataW.trod_slice Tryz.underlying27 h with ⟨hcs, _⟩ | ⟨a, len, cap, elems, rest, n1, hn1, hcs, _, hb, hl, hm, hlen, he, _, _⟩
  · obtain rfl : v = .slice none 0 0 := by simpa using hcs
    exact ⟨[], ⟨none, 0, rfl, Nat.le_refl _, Nat.zero_le _, .inl rfl⟩⟩
  · obtain rfl : v = .slice (some a) len cap := by simpa using hcs
    by_cases h0 : len = 0
    · subst h0; exact ⟨[], ⟨some a, cap, rfl, Nat.zero_le _, hm, .inl rfl⟩⟩
    have hc : Tryz.prog.cellsOf 203 = 7 := by kernel_rfl
    rw [hc] at he
    obtain ⟨b, off, spot⟩ := a
    have first : ∀ i, i < len → ∃ (t : TransD) (x' y' s' : Value), (∀ (j : Nat) (x : Value), (transC x' y' t.e s')[j]? = some x → w.cell? (((⟨b, off, spot⟩ : Go.Addr).add (i * 7)).add j) = some x) ∧ WayR w 0 w.heap.size x' y' s' t := by
      intro i hi
      have h1 := he i hi
      rw [List.getElem?_eq_getElem (by omega)] at h1
      obtain ⟨cs, hcs, ht⟩ := Option.bind_eq_some_iff.mp h1
      obtain ⟨x', y', s', t, rfl, hw⟩ := trans_of_trod _ _ _ ht
      refine ⟨t, x', y', s', fun j x hx => ?_, hw⟩
      have hj : j < 7 := (List.getElem?_eq_some_iff.mp hx).1
      rw [(World.cells?_some hcs).2.2 j hj, hx]
    have hsp : spot = none := by
      obtain ⟨t, x', y', s', hp, _⟩ := first 0 (by omega)
      have := World.cell?_spot (hp 0 _ rfl)
      simpa [Go.Addr.add] using this
    subst hsp
    have ad : ∀ i j, ((⟨b, off, none⟩ : Go.Addr).add (i * 7)).add j = ⟨b, off + i * 7 + j, none⟩ := fun i j => by
      rw [Addr.add_lit, Addr.add_lit]
    have part : ∀ i, i < len → ∃ (t : TransD) (x' y' s' : Value), CV w b (off + i * 7) (transC x' y' t.e s') ∧ WayR w 0 w.heap.size x' y' s' t := by
      intro i hi
      obtain ⟨t, x', y', s', hp, hw⟩ := first i hi
      exact ⟨t, x', y', s', fun j x hx => by have := hp j x hx; rwa [ad] at this, hw⟩
    obtain ⟨ts, xx, yy, ss, hpl, hp⟩ := list_ofW len part
    obtain ⟨e0, he0⟩ : ∃ e, ts[0]? = some e := ⟨ts[0]'(by omega), List.getElem?_eq_getElem _⟩
    have hb' : b < w.heap.size := World.block_lt_of_cell? w _ ((hp 0 e0 he0).1 0 _ rfl)
    exact ⟨ts, ⟨_, cap, by rw [hpl], by omega, hm, .inr ⟨b, off, xx, yy, ss, rfl, Nat.zero_le _, hb', fun i t ht => hp i t ht⟩⟩⟩

theorem hi_of_trod {H : Type} {enc : TypeId × Value → H} {w : World} {r : Reach} {base b0 : Nat} {held : Bool} {v : Value} {d : DataW H} {p : List MemPlace}
    (hv : Value.okWide Tryz.prog w r b0 30 v) (h : DataW.Trod enc Tryz.prog w base (fun _ => true) held 30 v d p) : ∃ m, HIc w 0 w.heap.size v m := by
  obtain ⟨v0, v1, v2, y0, y1, y2, n, rfl, rfl, rfl, h0, h1, h2⟩ := open_agg3 Tryz.underlying30 (by kernel_rfl) (by kernel_rfl) hv h
  obtain ⟨z0, q0, _, _⟩ := DataW.trod_int Tryz.underlying3 h0
  obtain ⟨x1, s1⟩ := tr_of_trod h1
  obtain ⟨x2, s2⟩ := gr_of_trodC (E := actE) Tryz.underlying28 (by kernel_rfl) act_cells h2
  simp at q0
  subst q0
  exact ⟨⟨z0, x1, x2⟩, v1, v2, rfl, s1, s2⟩
end Go.Proofs.YtaoiookfmgpmkaaGreatDoor
