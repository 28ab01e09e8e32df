import Derived.Test.YtdhpbiplkjpiiaaGreatDoorMemKit
import Derived.Lib.SmallJoins
import Derived.Test.YtdhpbiplkjpiiaaGreatDoorInsData

/-
  Arguments read as data, opened: a memory (laws.Mem).
-/
namespace Go.Proofs.YtdhpbiplkjpiiaaGreatDoor
open Go.ChangeShapes Go.WideShapes Go.ChangeAt Go.RowKit Go.Joins
set_option linter.unusedVariables false

theorem si_of_trod {H : Type} {enc : TypeId × Value → H} {w : World} {base : Nat} {held : Bool} {n : Nat} {v : Value} {y : DataW H × List MemPlace}
    (h : DataW.trod enc Tryz.prog w base (fun _ => true) held n 22 [v] = some y) : ∃ xs, SI w 0 w.heap.size v xs := by
  rcases open_ints Tryz.underlying22 Tryz.underlying3 (by kernel_rfl) h with ⟨hcs, _⟩ | ⟨x, l, c, zs, hcs, _, hl, hm, hz, _, hcell, hwz⟩
  · obtain rfl : v = .slice none 0 0 := by simpa using hcs
    exact ⟨[], none, 0, rfl, Nat.zero_le _, Nat.zero_le _, .inl rfl⟩
  · obtain rfl : v = .slice (some x) l c := by simpa using hcs
    have hz' : zs.length = c := by simpa using hz
    have hlen : (zs.take l).length = l := by rw [List.length_take]; omega
    refine ⟨zs.take l, some x, c, by rw [hlen], by omega, hm, ?_⟩
    by_cases h0 : l = 0
    · left; rw [h0]; rfl
    · right
      obtain ⟨b, off, spot⟩ := x
      have h1 := hcell 0 (by omega)
      have hs : spot = none := by simpa [Addr.add] using World.cell?_spot h1
      subst hs
      have hb : b < w.heap.size := by simpa [Addr.add] using World.block_lt_of_cell? w _ h1
      refine ⟨b, off, rfl, Nat.zero_le _, hb, fun i q hq => ?_⟩
      have hi : i < l := by have := (List.getElem?_eq_some_iff.mp hq).1; omega
      have hc := hcell i (by omega)
      have hg : zs.getD i 0 = q := by
        rw [List.getElem?_take_of_lt hi] at hq
        simp [List.getD, hq]
      rw [hg] at hc
      rw [← hc]; congr 1; unfold Addr.add; split <;> simp_all

set_option maxRecDepth 100000 in
theorem mi_of_trod {H : Type} {enc : TypeId × Value → H} {w : World} {r : Reach} {base b0 : Nat} {held : Bool} {v : Value} {d : DataW H} {p : List MemPlace}
    (hv : Value.okWide Tryz.prog w r b0 24 v) (h : DataW.Trod enc Tryz.prog w base (fun _ => true) held 24 v d p) : ∃ m, MI w 0 w.heap.size v m := by
  obtain ⟨v0, v1, v2, y0, y1, y2, n, rfl, rfl, rfl, h0, h1, h2⟩ := open_agg3 Tryz.underlying24 (by kernel_rfl) (by kernel_rfl) hv h
  obtain ⟨x0, s0⟩ := si_of_trod h0
  obtain ⟨x1, s1⟩ := si_of_trod h1
  obtain ⟨x2, s2⟩ := si_of_trod h2
  exact ⟨⟨x0, x1, x2⟩, v0, v1, v2, rfl, s0, s1, s2⟩

end Go.Proofs.YtdhpbiplkjpiiaaGreatDoor

/-
  An argument read as data, opened: code ([]laws.Ins).
-/
namespace Go.Proofs.YtdhpbiplkjpiiaaGreatDoor
open Go.ChangeShapes Go.WideShapes Go.ChangeAt Go.RowKit Go.Joins
set_option linter.unusedVariables false

theorem list_ofI {P : Nat → InsD → Prop} : ∀ (len : Nat), (∀ i, i < len → ∃ e, P i e) → ∃ (es : List InsD), es.length = len ∧ ∀ i e, es[i]? = some e → P i e
  | 0, _ => ⟨[], rfl, fun i e h => by simp at h⟩
  | len + 1, h => by
    obtain ⟨es, hl, hp⟩ := list_ofI len fun i hi => h i (by omega)
    obtain ⟨e, hes⟩ := h len (by omega)
    refine ⟨es ++ [e], by simp [hl], fun i e' he => ?_⟩
    by_cases hi : i = len
    · subst hi
      rw [List.getElem?_append_right (by omega), hl] at he
      simp at he
      subst he
      exact hes
    · have hil : i < len := by
        have := (List.getElem?_eq_some_iff.mp he).1
        simp [hl] at this
        omega
      rw [List.getElem?_append_left (by omega)] at he
      exact hp i e' he

set_option maxRecDepth 100000 in
theorem four_of_trod {H : Type} {enc : TypeId × Value → H} {w : World} {base : Nat} {held : Bool} {n : Nat} {cs : List Value} {y : DataW H × List MemPlace}
    (h : DataW.trod enc Tryz.prog w base (fun _ => true) held n 51 cs = some y) :
    ∃ (k m a t : Int), cs = [.int .i64 k, .int .i64 m, .int .i64 a, .int .i64 t] ∧ (Lit.int .i64 m).wf = true := by
  obtain ⟨xs, n1, hn1, hx, hl, hxl, hf⟩ := DataW.trod_struct Tryz.underlying51 h
  have hc : Tryz.prog.cellsOf 51 = 4 := by kernel_rfl
  rw [hc] at hl
  match cs, hl with
  | [c0, c1, c2, c3], _ =>
    have i3 : Tryz.prog.cellsOf 3 = 1 := by kernel_rfl
    have i2 : Tryz.prog.cellsOf 49 = 2 := by kernel_rfl
    have g : ∀ i, i < 3 → ∃ x, xs[i]? = some x := fun i hi => ⟨xs[i]'(by rw [hxl]; exact hi), List.getElem?_eq_getElem _⟩
    obtain ⟨x0, e0⟩ := g 0 (by omega)
    obtain ⟨x1, e1⟩ := g 1 (by omega)
    obtain ⟨x2, e2⟩ := g 2 (by omega)
    have t0 : DataW.trod enc Tryz.prog w base (fun _ => true) held n1 3 (List.take (Tryz.prog.cellsOf 3) (List.drop 0 [c0, c1, c2, c3])) = xs[0]? := hf 0 _ rfl
    have t1 : DataW.trod enc Tryz.prog w base (fun _ => true) held n1 3 (List.take (Tryz.prog.cellsOf 3) (List.drop 1 [c0, c1, c2, c3])) = xs[1]? := hf 1 _ rfl
    have t2 : DataW.trod enc Tryz.prog w base (fun _ => true) held n1 49 (List.take (Tryz.prog.cellsOf 49) (List.drop 2 [c0, c1, c2, c3])) = xs[2]? := hf 2 _ rfl
    rw [i3, e0] at t0
    rw [i3, e1] at t1
    rw [i2, e2] at t2
    have t0 : DataW.trod enc Tryz.prog w base (fun _ => true) held n1 3 [c0] = some x0 := t0
    have t1 : DataW.trod enc Tryz.prog w base (fun _ => true) held n1 3 [c1] = some x1 := t1
    have t2 : DataW.trod enc Tryz.prog w base (fun _ => true) held n1 49 [c2, c3] = some x2 := t2
    obtain ⟨k, q0, _, _⟩ := DataW.trod_int Tryz.underlying3 t0
    obtain ⟨m, q1, _, wm⟩ := DataW.trod_int Tryz.underlying3 t1
    obtain ⟨ys, n2, hn2, _, _, hyl, hg⟩ := DataW.trod_struct Tryz.underlying49 t2
    have gy : ∀ i, i < 2 → ∃ x, ys[i]? = some x := fun i hi => ⟨ys[i]'(by rw [hyl]; exact hi), List.getElem?_eq_getElem _⟩
    obtain ⟨y0, d0⟩ := gy 0 (by omega)
    obtain ⟨y1, d1⟩ := gy 1 (by omega)
    have u0 : DataW.trod enc Tryz.prog w base (fun _ => true) held n2 3 (List.take (Tryz.prog.cellsOf 3) (List.drop 0 [c2, c3])) = ys[0]? := hg 0 _ rfl
    have u1 : DataW.trod enc Tryz.prog w base (fun _ => true) held n2 3 (List.take (Tryz.prog.cellsOf 3) (List.drop 1 [c2, c3])) = ys[1]? := hg 1 _ rfl
    rw [i3, d0] at u0
    rw [i3, d1] at u1
    have u0 : DataW.trod enc Tryz.prog w base (fun _ => true) held n2 3 [c2] = some y0 := u0
    have u1 : DataW.trod enc Tryz.prog w base (fun _ => true) held n2 3 [c3] = some y1 := u1
    obtain ⟨a, q2, _, _⟩ := DataW.trod_int Tryz.underlying3 u0
    obtain ⟨t, q3, _, _⟩ := DataW.trod_int Tryz.underlying3 u1
    simp at q0 q1 q2 q3
    subst q0 q1 q2 q3
    exact ⟨k, m, a, t, rfl, wm⟩

set_option maxRecDepth 100000 in
theorem nr_of_trod_wf {H : Type} {enc : TypeId × Value → H} {w : World} {base : Nat} {held : Bool} {n : Nat} {v : Value} {y : DataW H × List MemPlace}
    (h : DataW.trod enc Tryz.prog w base (fun _ => true) held n 25 [v] = some y) : ∃ ps, NR w 0 w.heap.size v ps ∧ ∀ p, p ∈ ps → (Lit.int .i64 p.n).wf = true := by
  rcases DataW.trod_slice Tryz.underlying25 h with ⟨hcs, _⟩ | ⟨a, len, cap, elems, rest, n1, hn1, hcs, _, hb, hl, hm, hel, he, _, _⟩
  · obtain rfl : v = .slice none 0 0 := by simpa using hcs
    exact ⟨[], ⟨none, 0, rfl, Nat.le_refl _, Nat.zero_le _, .inl rfl⟩, fun p hp => by simp at hp⟩
  · obtain rfl : v = .slice (some a) len cap := by simpa using hcs
    by_cases h0 : len = 0
    · subst h0; exact ⟨[], ⟨some a, cap, rfl, Nat.zero_le _, hm, .inl rfl⟩, fun p hp => by simp at hp⟩
    have hc : Tryz.prog.cellsOf 51 = 4 := by kernel_rfl
    rw [hc] at he
    obtain ⟨b, off, spot⟩ := a
    have hsp : spot = none := by
      have h1 := he 0 (by omega)
      rw [List.getElem?_eq_getElem (by omega)] at h1
      obtain ⟨cs, hcs, ht⟩ := Option.bind_eq_some_iff.mp h1
      obtain ⟨k, m, x, t, rfl, wm⟩ := four_of_trod ht
      have z0 := (World.cells?_some hcs).2.2 0 (by omega)
      have := World.cell?_spot (z0.trans rfl)
      simpa [Go.Addr.add] using this
    subst hsp
    have ad : ∀ i j, ((⟨b, off, none⟩ : Go.Addr).add (i * 4)).add j = ⟨b, off + i * 4 + j, none⟩ := fun i j => by
      rw [Addr.add_lit, Addr.add_lit]
    have part : ∀ i, i < len → ∃ (p : InsD), b < w.heap.size ∧ CellI w b (off + i * 4) p ∧ (Lit.int .i64 p.n).wf = true := by
      intro i hi
      have h1 := he i hi
      rw [List.getElem?_eq_getElem (by omega)] at h1
      obtain ⟨cs, hcs, ht⟩ := Option.bind_eq_some_iff.mp h1
      obtain ⟨k, m, x, t, rfl, wm⟩ := four_of_trod ht
      obtain ⟨_, _, hcell⟩ := World.cells?_some hcs
      have z0 := hcell 0 (by omega)
      rw [ad] at z0
      have hb' : b < w.heap.size := World.block_lt_of_cell? w _ (z0.trans rfl)
      refine ⟨⟨k, m, x, t⟩, hb', ⟨?_, ?_, ?_, ?_⟩, wm⟩
      · have := hcell 0 (by omega); rw [ad] at this; exact this
      · have := hcell 1 (by omega); rw [ad] at this; exact this
      · have := hcell 2 (by omega); rw [ad] at this; exact this
      · have := hcell 3 (by omega); rw [ad] at this; exact this
    obtain ⟨ps, hlen, hp⟩ := list_ofI len part
    have h00 : ∃ e, ps[0]? = some e := ⟨ps[0]'(by omega), List.getElem?_eq_getElem _⟩
    obtain ⟨e0, he0⟩ := h00
    have hb' := (hp 0 e0 he0).1
    refine ⟨ps, ⟨_, cap, by rw [hlen], by omega, hm, .inr ⟨b, off, rfl, Nat.zero_le _, hb', fun i p hi => (hp i p hi).2.1⟩⟩, fun p hm' => ?_⟩
    obtain ⟨i, hi⟩ := List.mem_iff_getElem?.mp hm'
    exact (hp i p hi).2.2

theorem nr_of_trod {H : Type} {enc : TypeId × Value → H} {w : World} {base : Nat} {held : Bool} {n : Nat} {v : Value} {y : DataW H × List MemPlace}
    (h : DataW.trod enc Tryz.prog w base (fun _ => true) held n 25 [v] = some y) : ∃ ps, NR w 0 w.heap.size v ps :=
  let ⟨ps, h1, _⟩ := nr_of_trod_wf h; ⟨ps, h1⟩
end Go.Proofs.YtdhpbiplkjpiiaaGreatDoor
