import Derived.Test.YtaoiookfmgpmkaaGreatDoorQM1
import Derived.Lib.SmallJoins
import Derived.Test.YtaoiookfmgpmkaaGreatDoorQM4
import Derived.Test.YtaoiookfmgpmkaaGreatDoorQM3
import Derived.Deep.Strs

/-
 An argument read as data, opened: what is reckoned (laws.Expr).
-/
namespace Go.Proofs.YtaoiookfmgpmkaaGreatDoor
open Go.ChangeShapes Go.WideShapes Go.ChangeAt Go.RowKit Go.Joins
set_option linter.unusedVariables false

theorem list_of {P : Nat → ExprD → Value → Prop} : ∀ (len : Nat), (∀ i, i < len → ∃ e s, P i e s) → ∃ (es : List ExprD) (ss : Nat → Value), es.length = len ∧ ∀ i e, es[i]? = some e → P i e (ss i)
 | 0, _ => ⟨[], fun _ => .bool false, rfl, fun i e h => by simp at h⟩
 | len + 1, h => by
  obtain ⟨es, ss, hl, hp⟩ := list_of len fun i hi => h i (by omega)
  obtain ⟨e, s, hes⟩ := h len (by omega)
  refine ⟨es ++ [e], fun i => if i = len then s else ss i, by simp [hl], fun i e' he => ?_⟩
  by_cases hi : i = len
  ·subst hi
   rw [List.getElem?_append_right (by omega), hl] at he
   simp at he
   subst he
   simp only [if_true]
   exact hes
  ·have hil : i < len := by
    have := (List.getElem?_eq_some_iff.mp he).1
    simp [hl] at this
    omega
   rw [List.getElem?_append_left (by omega)] at he
   simp only [if_neg hi]
   exact hp i e' he

set_option maxRecDepth 100000 in
theorem five_of_trod {H : Type} {enc : TypeId × Value → H} {w : World} {base : Nat} {held : Bool} {n : Nat} {cs : List Value} {y : DataW H × List MemPlace}
  (h : DataW.trod enc Tryz.prog w base (fun _ => true) held n 104 cs = some y) :
  ∃ (k m a t : Int) (s : Value) (n' : Nat) (z : DataW H × List MemPlace), cs = [.int .i64 k, .int .i64 m, .int .i64 a, .int .i64 t, s] ∧ n' < n ∧ DataW.trod enc Tryz.prog w base (fun _ => true) held n' 102 [s] = some z := by
 obtain ⟨xs, n1, hn1, hx, hl, hxl, hf⟩ := DataW.trod_struct Tryz.underlying104 h
 have hc : Tryz.prog.cellsOf 104 = 5 := by kernel_rfl
 rw [hc] at hl
 match cs, hl with
 | [c0, c1, c2, c3, c4], _ =>
  have i3 : Tryz.prog.cellsOf 3 = 1 := by kernel_rfl
  have i2 : Tryz.prog.cellsOf 101 = 2 := by kernel_rfl
  have is : Tryz.prog.cellsOf 102 = 1 := by kernel_rfl
  have g : ∀ i, i < 4 → ∃ x, xs[i]? = some x := fun i hi => ⟨xs[i]'(by rw [hxl]; exact hi), List.getElem?_eq_getElem _⟩
  obtain ⟨x0, e0⟩ := g 0 (by omega)
  obtain ⟨x1, e1⟩ := g 1 (by omega)
  obtain ⟨x2, e2⟩ := g 2 (by omega)
  obtain ⟨x3, e3⟩ := g 3 (by omega)
  have t0 : DataW.trod enc Tryz.prog w base (fun _ => true) held n1 3 (List.take (Tryz.prog.cellsOf 3) (List.drop 0 [c0, c1, c2, c3, c4])) = xs[0]? := hf 0 _ rfl
  have t1 : DataW.trod enc Tryz.prog w base (fun _ => true) held n1 3 (List.take (Tryz.prog.cellsOf 3) (List.drop 1 [c0, c1, c2, c3, c4])) = xs[1]? := hf 1 _ rfl
  have t2 : DataW.trod enc Tryz.prog w base (fun _ => true) held n1 101 (List.take (Tryz.prog.cellsOf 101) (List.drop 2 [c0, c1, c2, c3, c4])) = xs[2]? := hf 2 _ rfl
  have t3 : DataW.trod enc Tryz.prog w base (fun _ => true) held n1 102 (List.take (Tryz.prog.cellsOf 102) (List.drop 4 [c0, c1, c2, c3, c4])) = xs[3]? := hf 3 _ rfl
  rw [i3, e0] at t0
  rw [i3, e1] at t1
  rw [i2, e2] at t2
  rw [is, e3] at t3
  have t0 : DataW.trod enc Tryz.prog w base (fun _ => true) held n1 3 [c0] = some x0 := t0
  have t1 : DataW.trod enc Tryz.prog w base (fun _ => true) held n1 3 [c1] = some x1 := t1
  have t2 : DataW.trod enc Tryz.prog w base (fun _ => true) held n1 101 [c2, c3] = some x2 := t2
  have t3 : DataW.trod enc Tryz.prog w base (fun _ => true) held n1 102 [c4] = some x3 := t3
  obtain ⟨k, q0, _, _⟩ := DataW.trod_int Tryz.underlying3 t0
  obtain ⟨m, q1, _, _⟩ := DataW.trod_int Tryz.underlying3 t1
  obtain ⟨ys, n2, hn2, _, _, hyl, hg⟩ := DataW.trod_struct Tryz.underlying101 t2
  have gy : ∀ i, i < 2 → ∃ x, ys[i]? = some x := fun i hi => ⟨ys[i]'(by rw [hyl]; exact hi), List.getElem?_eq_getElem _⟩
  obtain ⟨y0, d0⟩ := gy 0 (by omega)
  obtain ⟨y1, d1⟩ := gy 1 (by omega)
  have u0 : DataW.trod enc Tryz.prog w base (fun _ => true) held n2 3 (List.take (Tryz.prog.cellsOf 3) (List.drop 0 [c2, c3])) = ys[0]? := hg 0 _ rfl
  have u1 : DataW.trod enc Tryz.prog w base (fun _ => true) held n2 3 (List.take (Tryz.prog.cellsOf 3) (List.drop 1 [c2, c3])) = ys[1]? := hg 1 _ rfl
  rw [i3, d0] at u0
  rw [i3, d1] at u1
  have u0 : DataW.trod enc Tryz.prog w base (fun _ => true) held n2 3 [c2] = some y0 := u0
  have u1 : DataW.trod enc Tryz.prog w base (fun _ => true) held n2 3 [c3] = some y1 := u1
  obtain ⟨a, q2, _, _⟩ := DataW.trod_int Tryz.underlying3 u0
  obtain ⟨t, q3, _, _⟩ := DataW.trod_int Tryz.underlying3 u1
  simp at q0 q1 q2 q3
  subst q0 q1 q2 q3
  exact ⟨k, m, a, t, c4, n1, x3, rfl, by omega, t3⟩

set_option maxRecDepth 100000 in
theorem kr_of_trod {H : Type} {enc : TypeId × Value → H} {w : World} {base : Nat} {held : Bool} (n : Nat) : ∀ {v : Value} {y : DataW H × List MemPlace},
  DataW.trod enc Tryz.prog w base (fun _ => true) held n 102 [v] = some y → ∃ es, KR w 0 w.heap.size v es := by
 induction n using Nat.strongRecOn with
 | ind n ih =>
  intro v y h
  rcases DataW.trod_slice Tryz.underlying102 h with ⟨hcs, _⟩ | ⟨a, len, cap, elems, rest, n1, hn1, hcs, _, hb, hl, hm, hel, he, _, _⟩
  ·obtain rfl : v = .slice none 0 0 := by simpa using hcs
   exact ⟨[], .nil none 0 (Nat.zero_le _)⟩
  ·obtain rfl : v = .slice (some a) len cap := by simpa using hcs
   by_cases h0 : len = 0
   ·subst h0; exact ⟨[], .nil (some a) cap hm⟩
   have hc : Tryz.prog.cellsOf 104 = 5 := by kernel_rfl
   rw [hc] at he
   obtain ⟨b, off, spot⟩ := a
   have hsp : spot = none := by
    have h1 := he 0 (by omega)
    rw [List.getElem?_eq_getElem (by omega)] at h1
    obtain ⟨cs, hcs, ht⟩ := Option.bind_eq_some_iff.mp h1
    obtain ⟨k, m, x, t, s, n', z, rfl, hn', hs⟩ := five_of_trod ht
    have z0 := (World.cells?_some hcs).2.2 0 (by omega)
    have := World.cell?_spot (z0.trans rfl)
    simpa [Go.Addr.add] using this
   subst hsp
   have ad : ∀ i j, ((⟨b, off, none⟩ : Go.Addr).add (i * 5)).add j = ⟨b, off + i * 5 + j, none⟩ := fun i j => by
    rw [Addr.add_lit, Addr.add_lit]
   have part : ∀ i, i < len → ∃ (e : ExprD) (s : Value), (b < w.heap.size ∧ Cell5 w b (off + i * 5) e s) ∧ KR w 0 w.heap.size s e.kids := by
    intro i hi
    have h1 := he i hi
    rw [List.getElem?_eq_getElem (by omega)] at h1
    obtain ⟨cs, hcs, ht⟩ := Option.bind_eq_some_iff.mp h1
    obtain ⟨k, m, x, t, s, n', z, rfl, hn', hs⟩ := five_of_trod ht
    obtain ⟨es, hes⟩ := ih n' (by omega) hs
    obtain ⟨_, _, hcell⟩ := World.cells?_some hcs
    have z0 := hcell 0 (by omega)
    rw [ad] at z0
    have hb' : b < w.heap.size := World.block_lt_of_cell? w _ (z0.trans rfl)
    refine ⟨.mk k m x t es, s, ⟨hb', ?_, ?_, ?_, ?_, ?_⟩, hes⟩
    ·have := hcell 0 (by omega); rw [ad] at this; exact this
    ·have := hcell 1 (by omega); rw [ad] at this; exact this
    ·have := hcell 2 (by omega); rw [ad] at this; exact this
    ·have := hcell 3 (by omega); rw [ad] at this; exact this
    ·have := hcell 4 (by omega); rw [ad] at this; exact this
   obtain ⟨es, ss, hlen, hp⟩ := list_of len part
   have h00 : ∃ e, es[0]? = some e := ⟨es[0]'(by omega), List.getElem?_eq_getElem _⟩
   obtain ⟨e0, he0⟩ := h00
   obtain ⟨⟨hb', _⟩, _⟩ := hp 0 e0 he0
   refine ⟨es, ?_⟩
   rw [← hlen]
   exact .cons b off cap es ss (by intro h; rw [h] at hlen; simp at hlen; omega) (by omega) hm (Nat.zero_le _) hb' (fun i e hie => (hp i e hie).1.2) fun i e hie => (hp i e hie).2

end Go.Proofs.YtaoiookfmgpmkaaGreatDoor

/-
 An argument read as data, opened: a list of statements ([]laws.Stmt).
-/
namespace Go.Proofs.YtaoiookfmgpmkaaGreatDoor
open Go.ChangeShapes Go.WideShapes Go.ChangeAt Go.RowKit Go.Joins
set_option linter.unusedVariables false

theorem list_ofT {P : Nat → StmtD → Value → Value → Value → Prop} : ∀ (len : Nat), (∀ i, i < len → ∃ s x y z, P i s x y z) → ∃ (ss : List StmtD) (x y z : Nat → Value), ss.length = len ∧ ∀ i s, ss[i]? = some s → P i s (x i) (y i) (z i)
 | 0, _ => ⟨[], fun _ => .bool false, fun _ => .bool false, fun _ => .bool false, rfl, fun i e h => by simp at h⟩
 | len + 1, h => by
  obtain ⟨ss, xs, ys, zs, hl, hp⟩ := list_ofT len fun i hi => h i (by omega)
  obtain ⟨s, x, y, z, hes⟩ := h len (by omega)
  refine ⟨ss ++ [s], fun i => if i = len then x else xs i, fun i => if i = len then y else ys i, fun i => if i = len then z else zs i, by simp [hl], fun i e' he => ?_⟩
  by_cases hi : i = len
  ·subst hi
   rw [List.getElem?_append_right (by omega), hl] at he
   simp at he
   subst he
   simp only [if_true]
   exact hes
  ·have hil : i < len := by
    have := (List.getElem?_eq_some_iff.mp he).1
    simp [hl] at this
    omega
   rw [List.getElem?_append_left (by omega)] at he
   simp only [if_neg hi]
   exact hp i e' he

set_option maxRecDepth 100000 in
theorem ten_of_trod {H : Type} {enc : TypeId × Value → H} {w : World} {base : Nat} {held : Bool} {n : Nat} {cs : List Value} {y : DataW H × List MemPlace}
  (h : DataW.trod enc Tryz.prog w base (fun _ => true) held n 106 cs = some y) :
  ∃ (k tk ta ek en ea et : Int) (s1 s2 s3 : Value) (n' : Nat) (z1 z2 z3 : DataW H × List MemPlace), cs = [.int .i64 k, .int .i64 tk, .int .i64 ta, .int .i64 ek, .int .i64 en, .int .i64 ea, .int .i64 et, s1, s2, s3] ∧ n' < n ∧
   (∃ m, DataW.trod enc Tryz.prog w base (fun _ => true) held m 102 [s1] = some z1) ∧ DataW.trod enc Tryz.prog w base (fun _ => true) held n' 22 [s2] = some z2 ∧ DataW.trod enc Tryz.prog w base (fun _ => true) held n' 22 [s3] = some z3 := by
 obtain ⟨xs, n1, hn1, hx, hl, hxl, hf⟩ := DataW.trod_struct Tryz.underlying106 h
 have hc : Tryz.prog.cellsOf 106 = 10 := by kernel_rfl
 rw [hc] at hl
 match cs, hl with
 | [c0, c1, c2, c3, c4, c5, c6, c7, c8, c9], _ =>
  have i3 : Tryz.prog.cellsOf 3 = 1 := by kernel_rfl
  have i2 : Tryz.prog.cellsOf 101 = 2 := by kernel_rfl
  have i5 : Tryz.prog.cellsOf 104 = 5 := by kernel_rfl
  have is : Tryz.prog.cellsOf 22 = 1 := by kernel_rfl
  have g : ∀ i, i < 5 → ∃ x, xs[i]? = some x := fun i hi => ⟨xs[i]'(by rw [hxl]; exact hi), List.getElem?_eq_getElem _⟩
  obtain ⟨x0, e0⟩ := g 0 (by omega)
  obtain ⟨x1, e1⟩ := g 1 (by omega)
  obtain ⟨x2, e2⟩ := g 2 (by omega)
  obtain ⟨x3, e3⟩ := g 3 (by omega)
  obtain ⟨x4, e4⟩ := g 4 (by omega)
  have t0 : DataW.trod enc Tryz.prog w base (fun _ => true) held n1 3 (List.take (Tryz.prog.cellsOf 3) (List.drop 0 [c0, c1, c2, c3, c4, c5, c6, c7, c8, c9])) = xs[0]? := hf 0 _ rfl
  have t1 : DataW.trod enc Tryz.prog w base (fun _ => true) held n1 101 (List.take (Tryz.prog.cellsOf 101) (List.drop 1 [c0, c1, c2, c3, c4, c5, c6, c7, c8, c9])) = xs[1]? := hf 1 _ rfl
  have t2 : DataW.trod enc Tryz.prog w base (fun _ => true) held n1 104 (List.take (Tryz.prog.cellsOf 104) (List.drop 3 [c0, c1, c2, c3, c4, c5, c6, c7, c8, c9])) = xs[2]? := hf 2 _ rfl
  have t3 : DataW.trod enc Tryz.prog w base (fun _ => true) held n1 22 (List.take (Tryz.prog.cellsOf 22) (List.drop 8 [c0, c1, c2, c3, c4, c5, c6, c7, c8, c9])) = xs[3]? := hf 3 _ rfl
  have t4 : DataW.trod enc Tryz.prog w base (fun _ => true) held n1 22 (List.take (Tryz.prog.cellsOf 22) (List.drop 9 [c0, c1, c2, c3, c4, c5, c6, c7, c8, c9])) = xs[4]? := hf 4 _ rfl
  rw [i3, e0] at t0
  rw [i2, e1] at t1
  rw [i5, e2] at t2
  rw [is, e3] at t3
  rw [is, e4] at t4
  have t0 : DataW.trod enc Tryz.prog w base (fun _ => true) held n1 3 [c0] = some x0 := t0
  have t1 : DataW.trod enc Tryz.prog w base (fun _ => true) held n1 101 [c1, c2] = some x1 := t1
  have t2 : DataW.trod enc Tryz.prog w base (fun _ => true) held n1 104 [c3, c4, c5, c6, c7] = some x2 := t2
  have t3 : DataW.trod enc Tryz.prog w base (fun _ => true) held n1 22 [c8] = some x3 := t3
  have t4 : DataW.trod enc Tryz.prog w base (fun _ => true) held n1 22 [c9] = some x4 := t4
  obtain ⟨k, q0, _, _⟩ := DataW.trod_int Tryz.underlying3 t0
  obtain ⟨ys, n2, hn2, _, _, hyl, hg⟩ := DataW.trod_struct Tryz.underlying101 t1
  have gy : ∀ i, i < 2 → ∃ x, ys[i]? = some x := fun i hi => ⟨ys[i]'(by rw [hyl]; exact hi), List.getElem?_eq_getElem _⟩
  obtain ⟨y0, d0⟩ := gy 0 (by omega)
  obtain ⟨y1, d1⟩ := gy 1 (by omega)
  have u0 : DataW.trod enc Tryz.prog w base (fun _ => true) held n2 3 (List.take (Tryz.prog.cellsOf 3) (List.drop 0 [c1, c2])) = ys[0]? := hg 0 _ rfl
  have u1 : DataW.trod enc Tryz.prog w base (fun _ => true) held n2 3 (List.take (Tryz.prog.cellsOf 3) (List.drop 1 [c1, c2])) = ys[1]? := hg 1 _ rfl
  rw [i3, d0] at u0
  rw [i3, d1] at u1
  have u0 : DataW.trod enc Tryz.prog w base (fun _ => true) held n2 3 [c1] = some y0 := u0
  have u1 : DataW.trod enc Tryz.prog w base (fun _ => true) held n2 3 [c2] = some y1 := u1
  obtain ⟨tk, q1, _, _⟩ := DataW.trod_int Tryz.underlying3 u0
  obtain ⟨ta, q2, _, _⟩ := DataW.trod_int Tryz.underlying3 u1
  obtain ⟨ek, en, ea, et, s, n3, z, q3, _, hs⟩ := five_of_trod t2
  simp at q0 q1 q2 q3
  obtain ⟨r3, r4, r5, r6, r7⟩ := q3
  subst q0 q1 q2 r3 r4 r5 r6 r7
  exact ⟨k, tk, ta, ek, en, ea, et, _, c8, c9, n1, z, x3, x4, rfl, by omega, ⟨n3, hs⟩, t3, t4⟩

set_option maxRecDepth 100000 in
theorem sr_of_trod {H : Type} {enc : TypeId × Value → H} {w : World} {base : Nat} {held : Bool} (n : Nat) : ∀ {v : Value} {y : DataW H × List MemPlace},
  DataW.trod enc Tryz.prog w base (fun _ => true) held n 22 [v] = some y → ∃ ss, SR w 0 w.heap.size v ss := by
 induction n using Nat.strongRecOn with
 | ind n ih =>
  intro v y h
  rcases DataW.trod_slice Tryz.underlying22 h with ⟨hcs, _⟩ | ⟨a, len, cap, elems, rest, n1, hn1, hcs, _, hb, hl, hm, hel, he, _, _⟩
  ·obtain rfl : v = .slice none 0 0 := by simpa using hcs
   exact ⟨[], .nil none 0 (Nat.zero_le _)⟩
  ·obtain rfl : v = .slice (some a) len cap := by simpa using hcs
   by_cases h0 : len = 0
   ·subst h0; exact ⟨[], .nil (some a) cap hm⟩
   have hc : Tryz.prog.cellsOf 106 = 10 := by kernel_rfl
   rw [hc] at he
   obtain ⟨b, off, spot⟩ := a
   have hsp : spot = none := by
    have h1 := he 0 (by omega)
    rw [List.getElem?_eq_getElem (by omega)] at h1
    obtain ⟨cs, hcs, ht⟩ := Option.bind_eq_some_iff.mp h1
    obtain ⟨k, tk, ta, ek, en, ea, et, s1, s2, s3, n', z1, z2, z3, rfl, hn', hs1, hs2, hs3⟩ := ten_of_trod ht
    have z0 := (World.cells?_some hcs).2.2 0 (by omega)
    have := World.cell?_spot (z0.trans rfl)
    simpa [Go.Addr.add] using this
   subst hsp
   have ad : ∀ i j, ((⟨b, off, none⟩ : Go.Addr).add (i * 10)).add j = ⟨b, off + i * 10 + j, none⟩ := fun i j => by
    rw [Addr.add_lit, Addr.add_lit]
   have part : ∀ i, i < len → ∃ (s : StmtD) (x y z : Value), (b < w.heap.size ∧ Cell10 w b (off + i * 10) s x y z) ∧ KR w 0 w.heap.size x s.e.kids ∧ SR w 0 w.heap.size y s.th ∧ SR w 0 w.heap.size z s.el := by
    intro i hi
    have h1 := he i hi
    rw [List.getElem?_eq_getElem (by omega)] at h1
    obtain ⟨cs, hcs, ht⟩ := Option.bind_eq_some_iff.mp h1
    obtain ⟨k, tk, ta, ek, en, ea, et, s1, s2, s3, n', z1, z2, z3, rfl, hn', ⟨m, hs1⟩, hs2, hs3⟩ := ten_of_trod ht
    obtain ⟨es, hes⟩ := kr_of_trod m hs1
    obtain ⟨th, hth⟩ := ih n' (by omega) hs2
    obtain ⟨el, hel'⟩ := ih n' (by omega) hs3
    obtain ⟨_, _, hcell⟩ := World.cells?_some hcs
    have z0 := hcell 0 (by omega)
    rw [ad] at z0
    have hb' : b < w.heap.size := World.block_lt_of_cell? w _ (z0.trans rfl)
    refine ⟨.mk k tk ta (.mk ek en ea et es) th el, s1, s2, s3, ⟨hb', ?_, ?_, ?_, ?_, ?_, ?_, ?_, ?_, ?_, ?_⟩, hes, hth, hel'⟩
    ·have := hcell 0 (by omega); rw [ad] at this; exact this
    ·have := hcell 1 (by omega); rw [ad] at this; exact this
    ·have := hcell 2 (by omega); rw [ad] at this; exact this
    ·have := hcell 3 (by omega); rw [ad] at this; exact this
    ·have := hcell 4 (by omega); rw [ad] at this; exact this
    ·have := hcell 5 (by omega); rw [ad] at this; exact this
    ·have := hcell 6 (by omega); rw [ad] at this; exact this
    ·have := hcell 7 (by omega); rw [ad] at this; exact this
    ·have := hcell 8 (by omega); rw [ad] at this; exact this
    ·have := hcell 9 (by omega); rw [ad] at this; exact this
   obtain ⟨ss, x, y, z, hlen, hp⟩ := list_ofT len part
   have h00 : ∃ e, ss[0]? = some e := ⟨ss[0]'(by omega), List.getElem?_eq_getElem _⟩
   obtain ⟨e0, he0⟩ := h00
   obtain ⟨⟨hb', _⟩, _⟩ := hp 0 e0 he0
   refine ⟨ss, ?_⟩
   rw [← hlen]
   exact .cons b off cap ss x y z (by intro h; rw [h] at hlen; simp at hlen; omega) (by omega) hm (Nat.zero_le _) hb' (fun i e hie => (hp i e hie).1.2) (fun i e hie => (hp i e hie).2.1) (fun i e hie => (hp i e hie).2.2.1) fun i e hie => (hp i e hie).2.2.2
end Go.Proofs.YtaoiookfmgpmkaaGreatDoor

/-
 Arguments read as data, opened: lists of elements of several cells in general; a net (laws.Net). (Written by our generator gen_opennet.py.)
-/
namespace Go.Proofs.YtaoiookfmgpmkaaGreatDoor
open Go.ChangeShapes Go.WideShapes Go.ChangeAt Go.RowKit Go.Joins
set_option linter.unusedVariables false
set_option maxRecDepth 100000

theorem gr_of_trod {α : Type} {E : Elem α} {T Te : TypeId} {H : Type} {enc : TypeId × Value → H} {w : World} {base : Nat} {held : Bool} {n : Nat} {v : Value} {y : DataW H × List MemPlace} (hT : Tryz.prog.underlying T = some (.slice Te)) (hc : Tryz.prog.cellsOf Te = E.k)
  (hel : ∀ (n : Nat) (cs : List Value) (y : DataW H × List MemPlace), DataW.trod enc Tryz.prog w base (fun _ => true) held n Te cs = some y → ∃ p : α, cs = E.cells p)
  (h : DataW.trod enc Tryz.prog w base (fun _ => true) held n T [v] = some y) : ∃ ps, GR E w 0 w.heap.size v ps := by
 rcases DataW.trod_slice hT h with ⟨hcs, _⟩ | ⟨a, len, cap, elems, rest, n1, hn1, hcs, _, hb, hl, hm, hlen, he, _, _⟩
 ·obtain rfl : v = .slice none 0 0 := by simpa using hcs
  exact ⟨[], ⟨none, 0, rfl, Nat.le_refl _, Nat.zero_le _, .inl rfl⟩⟩
 ·obtain rfl : v = .slice (some a) len cap := by simpa using hcs
  by_cases h0 : len = 0
  ·subst h0; exact ⟨[], ⟨some a, cap, rfl, Nat.zero_le _, hm, .inl rfl⟩⟩
  rw [hc] at he
  have hpos := E.pos
  obtain ⟨b, off, spot⟩ := a
  have first : ∀ i, i < len → ∃ (p : α), ∀ (j : Nat) (x : Value), (E.cells p)[j]? = some x → w.cell? (((⟨b, off, spot⟩ : Go.Addr).add (i * E.k)).add j) = some x := by
   intro i hi
   have h1 := he i hi
   rw [List.getElem?_eq_getElem (by omega)] at h1
   obtain ⟨cs, hcs, ht⟩ := Option.bind_eq_some_iff.mp h1
   obtain ⟨p, rfl⟩ := hel _ _ _ ht
   refine ⟨p, fun j x hx => ?_⟩
   have hj : j < E.k := by have := (List.getElem?_eq_some_iff.mp hx).1; rwa [E.len] at this
   rw [(World.cells?_some hcs).2.2 j hj, hx]
  have zero : ∀ p : α, ∃ x, (E.cells p)[0]? = some x := fun p => ⟨(E.cells p)[0]'(by rw [E.len]; exact hpos), List.getElem?_eq_getElem _⟩
  have hsp : spot = none := by
   obtain ⟨p, hp⟩ := first 0 (by omega)
   obtain ⟨x, hx⟩ := zero p
   have := World.cell?_spot (hp 0 x hx)
   simpa [Go.Addr.add] using this
  subst hsp
  have ad : ∀ i j, ((⟨b, off, none⟩ : Go.Addr).add (i * E.k)).add j = ⟨b, off + i * E.k + j, none⟩ := fun i j => by
   rw [Addr.add_lit, Addr.add_lit]
  have part : ∀ i, i < len → ∃ (p : α), CV w b (off + i * E.k) (E.cells p) := by
   intro i hi
   obtain ⟨p, hp⟩ := first i hi
   exact ⟨p, fun j x hx => by have := hp j x hx; rwa [ad] at this⟩
  obtain ⟨ps, hpl, hp⟩ := list_ofG len part
  obtain ⟨e0, he0⟩ : ∃ e, ps[0]? = some e := ⟨ps[0]'(by omega), List.getElem?_eq_getElem _⟩
  obtain ⟨x, hx⟩ := zero e0
  have hb' : b < w.heap.size := World.block_lt_of_cell? w _ (hp 0 e0 he0 0 x hx)
  exact ⟨ps, ⟨_, cap, by rw [hpl], by omega, hm, .inr ⟨b, off, rfl, Nat.zero_le _, hb', fun i p hi => hp i p hi⟩⟩⟩

theorem addr_cells {H : Type} {enc : TypeId × Value → H} {w : World} {base : Nat} {held : Bool} (n : Nat) (cs : List Value) (y : DataW H × List MemPlace)
  (h : DataW.trod enc Tryz.prog w base (fun _ => true) held n 101 cs = some y) : ∃ a b : Int, cs = [.int .i64 a, .int .i64 b] := by
 obtain ⟨xs, n1, hn1, hx, hl, hxl, hf⟩ := DataW.trod_struct Tryz.underlying101 h
 have hc : Tryz.prog.cellsOf 101 = 2 := by kernel_rfl
 rw [hc] at hl
 match cs, hl with
 | [c0, c1], _ =>
  have g : ∀ i, i < 2 → ∃ x, xs[i]? = some x := fun i hi => ⟨xs[i]'(by rw [hxl]; exact hi), List.getElem?_eq_getElem _⟩
  obtain ⟨x0, e0⟩ := g 0 (by omega)
  have t0 : DataW.trod enc Tryz.prog w base (fun _ => true) held n1 3 (List.take (Tryz.prog.cellsOf 3) (List.drop 0 [c0, c1])) = xs[0]? := hf 0 _ rfl
  rw [show Tryz.prog.cellsOf 3 = 1 by kernel_rfl, e0] at t0
  have t0 : DataW.trod enc Tryz.prog w base (fun _ => true) held n1 3 [c0] = some x0 := t0
  obtain ⟨z0, q0, _, _⟩ := DataW.trod_int Tryz.underlying3 t0
  obtain ⟨x1, e1⟩ := g 1 (by omega)
  have t1 : DataW.trod enc Tryz.prog w base (fun _ => true) held n1 3 (List.take (Tryz.prog.cellsOf 3) (List.drop 1 [c0, c1])) = xs[1]? := hf 1 _ rfl
  rw [show Tryz.prog.cellsOf 3 = 1 by kernel_rfl, e1] at t1
  have t1 : DataW.trod enc Tryz.prog w base (fun _ => true) held n1 3 [c1] = some x1 := t1
  obtain ⟨z1, q1, _, _⟩ := DataW.trod_int Tryz.underlying3 t1
  simp at q0 q1
  subst q0 q1
  exact ⟨_, _, rfl⟩

theorem src_cells {H : Type} {enc : TypeId × Value → H} {w : World} {base : Nat} {held : Bool} (n : Nat) (cs : List Value) (y : DataW H × List MemPlace)
  (h : DataW.trod enc Tryz.prog w base (fun _ => true) held n 215 cs = some y) : ∃ s : SrcD, cs = srcC s := by
 obtain ⟨xs, n1, hn1, hx, hl, hxl, hf⟩ := DataW.trod_struct Tryz.underlying215 h
 have hc : Tryz.prog.cellsOf 215 = 5 := by kernel_rfl
 rw [hc] at hl
 match cs, hl with
 | [c0, c1, c2, c3, c4], _ =>
  have g : ∀ i, i < 4 → ∃ x, xs[i]? = some x := fun i hi => ⟨xs[i]'(by rw [hxl]; exact hi), List.getElem?_eq_getElem _⟩
  obtain ⟨x0, e0⟩ := g 0 (by omega)
  have t0 : DataW.trod enc Tryz.prog w base (fun _ => true) held n1 3 (List.take (Tryz.prog.cellsOf 3) (List.drop 0 [c0, c1, c2, c3, c4])) = xs[0]? := hf 0 _ rfl
  rw [show Tryz.prog.cellsOf 3 = 1 by kernel_rfl, e0] at t0
  have t0 : DataW.trod enc Tryz.prog w base (fun _ => true) held n1 3 [c0] = some x0 := t0
  obtain ⟨z0, q0, _, _⟩ := DataW.trod_int Tryz.underlying3 t0
  obtain ⟨x1, e1⟩ := g 1 (by omega)
  have t1 : DataW.trod enc Tryz.prog w base (fun _ => true) held n1 3 (List.take (Tryz.prog.cellsOf 3) (List.drop 1 [c0, c1, c2, c3, c4])) = xs[1]? := hf 1 _ rfl
  rw [show Tryz.prog.cellsOf 3 = 1 by kernel_rfl, e1] at t1
  have t1 : DataW.trod enc Tryz.prog w base (fun _ => true) held n1 3 [c1] = some x1 := t1
  obtain ⟨z1, q1, _, _⟩ := DataW.trod_int Tryz.underlying3 t1
  obtain ⟨x2, e2⟩ := g 2 (by omega)
  have t2 : DataW.trod enc Tryz.prog w base (fun _ => true) held n1 101 (List.take (Tryz.prog.cellsOf 101) (List.drop 2 [c0, c1, c2, c3, c4])) = xs[2]? := hf 2 _ rfl
  rw [show Tryz.prog.cellsOf 101 = 2 by kernel_rfl, e2] at t2
  have t2 : DataW.trod enc Tryz.prog w base (fun _ => true) held n1 101 [c2, c3] = some x2 := t2
  obtain ⟨z2, y2, q2⟩ := addr_cells n1 _ _ t2
  obtain ⟨x3, e3⟩ := g 3 (by omega)
  have t3 : DataW.trod enc Tryz.prog w base (fun _ => true) held n1 4 (List.take (Tryz.prog.cellsOf 4) (List.drop 4 [c0, c1, c2, c3, c4])) = xs[3]? := hf 3 _ rfl
  rw [show Tryz.prog.cellsOf 4 = 1 by kernel_rfl, e3] at t3
  have t3 : DataW.trod enc Tryz.prog w base (fun _ => true) held n1 4 [c4] = some x3 := t3
  obtain ⟨z3, q3, _⟩ := DataW.trod_bool Tryz.underlying4 t3
  simp at q0 q1 q2 q3
  obtain ⟨q2, q2'⟩ := q2
  subst q0 q1 q2 q2' q3
  exact ⟨⟨_, _, _, _, _⟩, rfl⟩

theorem wire_cells {H : Type} {enc : TypeId × Value → H} {w : World} {base : Nat} {held : Bool} (n : Nat) (cs : List Value) (y : DataW H × List MemPlace)
  (h : DataW.trod enc Tryz.prog w base (fun _ => true) held n 217 cs = some y) : ∃ s : WireD, cs = wireC s := by
 obtain ⟨xs, n1, hn1, hx, hl, hxl, hf⟩ := DataW.trod_struct Tryz.underlying217 h
 have hc : Tryz.prog.cellsOf 217 = 12 := by kernel_rfl
 rw [hc] at hl
 match cs, hl with
 | [c0, c1, c2, c3, c4, c5, c6, c7, c8, c9, c10, c11], _ =>
  have g : ∀ i, i < 4 → ∃ x, xs[i]? = some x := fun i hi => ⟨xs[i]'(by rw [hxl]; exact hi), List.getElem?_eq_getElem _⟩
  obtain ⟨x0, e0⟩ := g 0 (by omega)
  have t0 : DataW.trod enc Tryz.prog w base (fun _ => true) held n1 3 (List.take (Tryz.prog.cellsOf 3) (List.drop 0 [c0, c1, c2, c3, c4, c5, c6, c7, c8, c9, c10, c11])) = xs[0]? := hf 0 _ rfl
  rw [show Tryz.prog.cellsOf 3 = 1 by kernel_rfl, e0] at t0
  have t0 : DataW.trod enc Tryz.prog w base (fun _ => true) held n1 3 [c0] = some x0 := t0
  obtain ⟨z0, q0, _, _⟩ := DataW.trod_int Tryz.underlying3 t0
  obtain ⟨x1, e1⟩ := g 1 (by omega)
  have t1 : DataW.trod enc Tryz.prog w base (fun _ => true) held n1 3 (List.take (Tryz.prog.cellsOf 3) (List.drop 1 [c0, c1, c2, c3, c4, c5, c6, c7, c8, c9, c10, c11])) = xs[1]? := hf 1 _ rfl
  rw [show Tryz.prog.cellsOf 3 = 1 by kernel_rfl, e1] at t1
  have t1 : DataW.trod enc Tryz.prog w base (fun _ => true) held n1 3 [c1] = some x1 := t1
  obtain ⟨z1, q1, _, _⟩ := DataW.trod_int Tryz.underlying3 t1
  obtain ⟨x2, e2⟩ := g 2 (by omega)
  have t2 : DataW.trod enc Tryz.prog w base (fun _ => true) held n1 215 (List.take (Tryz.prog.cellsOf 215) (List.drop 2 [c0, c1, c2, c3, c4, c5, c6, c7, c8, c9, c10, c11])) = xs[2]? := hf 2 _ rfl
  rw [show Tryz.prog.cellsOf 215 = 5 by kernel_rfl, e2] at t2
  have t2 : DataW.trod enc Tryz.prog w base (fun _ => true) held n1 215 [c2, c3, c4, c5, c6] = some x2 := t2
  obtain ⟨z2, q2⟩ := src_cells n1 _ _ t2
  obtain ⟨x3, e3⟩ := g 3 (by omega)
  have t3 : DataW.trod enc Tryz.prog w base (fun _ => true) held n1 215 (List.take (Tryz.prog.cellsOf 215) (List.drop 7 [c0, c1, c2, c3, c4, c5, c6, c7, c8, c9, c10, c11])) = xs[3]? := hf 3 _ rfl
  rw [show Tryz.prog.cellsOf 215 = 5 by kernel_rfl, e3] at t3
  have t3 : DataW.trod enc Tryz.prog w base (fun _ => true) held n1 215 [c7, c8, c9, c10, c11] = some x3 := t3
  obtain ⟨z3, q3⟩ := src_cells n1 _ _ t3
  simp [srcC] at q0 q1 q2 q3
  obtain ⟨a0, a1, a2, a3, a4⟩ := q2
  obtain ⟨b0, b1, b2, b3, b4⟩ := q3
  subst q0 q1 a0 a1 a2 a3 a4 b0 b1 b2 b3 b4
  exact ⟨⟨_, _, z2, z3⟩, rfl⟩

theorem drive_cells {H : Type} {enc : TypeId × Value → H} {w : World} {base : Nat} {held : Bool} (n : Nat) (cs : List Value) (y : DataW H × List MemPlace)
  (h : DataW.trod enc Tryz.prog w base (fun _ => true) held n 220 cs = some y) : ∃ s : DriveD, cs = driveC s := by
 obtain ⟨xs, n1, hn1, hx, hl, hxl, hf⟩ := DataW.trod_struct Tryz.underlying220 h
 have hc : Tryz.prog.cellsOf 220 = 3 := by kernel_rfl
 rw [hc] at hl
 match cs, hl with
 | [c0, c1, c2], _ =>
  have g : ∀ i, i < 2 → ∃ x, xs[i]? = some x := fun i hi => ⟨xs[i]'(by rw [hxl]; exact hi), List.getElem?_eq_getElem _⟩
  obtain ⟨x0, e0⟩ := g 0 (by omega)
  have t0 : DataW.trod enc Tryz.prog w base (fun _ => true) held n1 101 (List.take (Tryz.prog.cellsOf 101) (List.drop 0 [c0, c1, c2])) = xs[0]? := hf 0 _ rfl
  rw [show Tryz.prog.cellsOf 101 = 2 by kernel_rfl, e0] at t0
  have t0 : DataW.trod enc Tryz.prog w base (fun _ => true) held n1 101 [c0, c1] = some x0 := t0
  obtain ⟨z0, y0, q0⟩ := addr_cells n1 _ _ t0
  obtain ⟨x1, e1⟩ := g 1 (by omega)
  have t1 : DataW.trod enc Tryz.prog w base (fun _ => true) held n1 3 (List.take (Tryz.prog.cellsOf 3) (List.drop 2 [c0, c1, c2])) = xs[1]? := hf 1 _ rfl
  rw [show Tryz.prog.cellsOf 3 = 1 by kernel_rfl, e1] at t1
  have t1 : DataW.trod enc Tryz.prog w base (fun _ => true) held n1 3 [c2] = some x1 := t1
  obtain ⟨z1, q1, _, _⟩ := DataW.trod_int Tryz.underlying3 t1
  simp at q0 q1
  obtain ⟨q0, q0'⟩ := q0
  subst q0 q0' q1
  exact ⟨⟨_, _, _⟩, rfl⟩

end Go.Proofs.YtaoiookfmgpmkaaGreatDoor

/-
 An argument read as data, opened: a chart (laws.Chart).
-/
namespace Go.Proofs.YtaoiookfmgpmkaaGreatDoor
open Go.ChangeShapes Go.WideShapes Go.ChangeAt Go.RowKit Go.Joins
set_option linter.unusedVariables false
set_option maxRecDepth 100000

theorem gr_of_trodC {α : Type} {E : Elem α} {T Te : TypeId} {H : Type} {enc : TypeId × Value → H} {w : World} {base : Nat} {held : Bool} {n : Nat} {v : Value} {y : DataW H × List MemPlace} (hT : Tryz.prog.underlying T = some (.slice Te)) (hc : Tryz.prog.cellsOf Te = E.k)
  (hel : ∀ (n : Nat) (cs : List Value) (y : DataW H × List MemPlace), DataW.trod enc Tryz.prog w base (fun _ => true) held n Te cs = some y → ∃ p : α, cs = E.cells p)
  (h : DataW.trod enc Tryz.prog w base (fun _ => true) held n T [v] = some y) : ∃ ps, GR E w 0 w.heap.size v ps := by
 rcases DataW.trod_slice hT h with ⟨hcs, _⟩ | ⟨a, len, cap, elems, rest, n1, hn1, hcs, _, hb, hl, hm, hlen, he, _, _⟩
 ·obtain rfl : v = .slice none 0 0 := by simpa using hcs
  exact ⟨[], ⟨none, 0, rfl, Nat.le_refl _, Nat.zero_le _, .inl rfl⟩⟩
 ·obtain rfl : v = .slice (some a) len cap := by simpa using hcs
  by_cases h0 : len = 0
  ·subst h0; exact ⟨[], ⟨some a, cap, rfl, Nat.zero_le _, hm, .inl rfl⟩⟩
  rw [hc] at he
  have hpos := E.pos
  obtain ⟨b, off, spot⟩ := a
  have first : ∀ i, i < len → ∃ (p : α), ∀ (j : Nat) (x : Value), (E.cells p)[j]? = some x → w.cell? (((⟨b, off, spot⟩ : Go.Addr).add (i * E.k)).add j) = some x := by
   intro i hi
   have h1 := he i hi
   rw [List.getElem?_eq_getElem (by omega)] at h1
   obtain ⟨cs, hcs, ht⟩ := Option.bind_eq_some_iff.mp h1
   obtain ⟨p, rfl⟩ := hel _ _ _ ht
   refine ⟨p, fun j x hx => ?_⟩
   have hj : j < E.k := by have := (List.getElem?_eq_some_iff.mp hx).1; rwa [E.len] at this
   rw [(World.cells?_some hcs).2.2 j hj, hx]
  have zero : ∀ p : α, ∃ x, (E.cells p)[0]? = some x := fun p => ⟨(E.cells p)[0]'(by rw [E.len]; exact hpos), List.getElem?_eq_getElem _⟩
  have hsp : spot = none := by
   obtain ⟨p, hp⟩ := first 0 (by omega)
   obtain ⟨x, hx⟩ := zero p
   have := World.cell?_spot (hp 0 x hx)
   simpa [Go.Addr.add] using this
  subst hsp
  have ad : ∀ i j, ((⟨b, off, none⟩ : Go.Addr).add (i * E.k)).add j = ⟨b, off + i * E.k + j, none⟩ := fun i j => by
   rw [Addr.add_lit, Addr.add_lit]
  have part : ∀ i, i < len → ∃ (p : α), CV w b (off + i * E.k) (E.cells p) := by
   intro i hi
   obtain ⟨p, hp⟩ := first i hi
   exact ⟨p, fun j x hx => by have := hp j x hx; rwa [ad] at this⟩
  obtain ⟨ps, hpl, hp⟩ := list_ofG len part
  obtain ⟨e0, he0⟩ : ∃ e, ps[0]? = some e := ⟨ps[0]'(by omega), List.getElem?_eq_getElem _⟩
  obtain ⟨x, hx⟩ := zero e0
  have hb' : b < w.heap.size := World.block_lt_of_cell? w _ (hp 0 e0 he0 0 x hx)
  exact ⟨ps, ⟨_, cap, by rw [hpl], by omega, hm, .inr ⟨b, off, rfl, Nat.zero_le _, hb', fun i p hi => hp i p hi⟩⟩⟩

theorem addr_cellsC {H : Type} {enc : TypeId × Value → H} {w : World} {base : Nat} {held : Bool} (n : Nat) (cs : List Value) (y : DataW H × List MemPlace)
  (h : DataW.trod enc Tryz.prog w base (fun _ => true) held n 101 cs = some y) : ∃ a b : Int, cs = [.int .i64 a, .int .i64 b] := by
 obtain ⟨xs, n1, hn1, hx, hl, hxl, hf⟩ := DataW.trod_struct Tryz.underlying101 h
 have hc : Tryz.prog.cellsOf 101 = 2 := by kernel_rfl
 rw [hc] at hl
 match cs, hl with
 | [c0, c1], _ =>
  have g : ∀ i, i < 2 → ∃ x, xs[i]? = some x := fun i hi => ⟨xs[i]'(by rw [hxl]; exact hi), List.getElem?_eq_getElem _⟩
  obtain ⟨x0, e0⟩ := g 0 (by omega)
  have t0 : DataW.trod enc Tryz.prog w base (fun _ => true) held n1 3 (List.take (Tryz.prog.cellsOf 3) (List.drop 0 [c0, c1])) = xs[0]? := hf 0 _ rfl
  rw [show Tryz.prog.cellsOf 3 = 1 by kernel_rfl, e0] at t0
  have t0 : DataW.trod enc Tryz.prog w base (fun _ => true) held n1 3 [c0] = some x0 := t0
  obtain ⟨z0, q0, _, _⟩ := DataW.trod_int Tryz.underlying3 t0
  obtain ⟨x1, e1⟩ := g 1 (by omega)
  have t1 : DataW.trod enc Tryz.prog w base (fun _ => true) held n1 3 (List.take (Tryz.prog.cellsOf 3) (List.drop 1 [c0, c1])) = xs[1]? := hf 1 _ rfl
  rw [show Tryz.prog.cellsOf 3 = 1 by kernel_rfl, e1] at t1
  have t1 : DataW.trod enc Tryz.prog w base (fun _ => true) held n1 3 [c1] = some x1 := t1
  obtain ⟨z1, q1, _, _⟩ := DataW.trod_int Tryz.underlying3 t1
  simp at q0 q1
  subst q0 q1
  exact ⟨_, _, rfl⟩

theorem si_of_trodC {H : Type} {enc : TypeId × Value → H} {w : World} {base : Nat} {held : Bool} {n : Nat} {v : Value} {y : DataW H × List MemPlace}
  (h : DataW.trod enc Tryz.prog w base (fun _ => true) held n 49 [v] = some y) : ∃ xs, SI w 0 w.heap.size v xs := by
 rcases open_ints Tryz.underlying49 Tryz.underlying3 (by kernel_rfl) h with ⟨hcs, _⟩ | ⟨x, l, c, zs, hcs, _, hl, hm, hz, _, hcell, hwz⟩
 ·obtain rfl : v = .slice none 0 0 := by simpa using hcs
  exact ⟨[], none, 0, rfl, Nat.zero_le _, Nat.zero_le _, .inl rfl⟩
 ·obtain rfl : v = .slice (some x) l c := by simpa using hcs
  have hz' : zs.length = c := by simpa using hz
  have hlen : (zs.take l).length = l := by rw [List.length_take]; omega
  refine ⟨zs.take l, some x, c, by rw [hlen], by omega, hm, ?_⟩
  by_cases h0 : l = 0
  ·left; rw [h0]; rfl
  ·right
   obtain ⟨b, off, spot⟩ := x
   have h1 := hcell 0 (by omega)
   have hs : spot = none := by simpa [Addr.add] using World.cell?_spot h1
   subst hs
   have hb : b < w.heap.size := by simpa [Addr.add] using World.block_lt_of_cell? w _ h1
   refine ⟨b, off, rfl, Nat.zero_le _, hb, fun i q hq => ?_⟩
   have hi : i < l := by have := (List.getElem?_eq_some_iff.mp hq).1; omega
   have hc := hcell i (by omega)
   have hg : zs.getD i 0 = q := by
    rw [List.getElem?_take_of_lt hi] at hq
    simp [List.getD, hq]
   rw [hg] at hc
   rw [← hc]; congr 1; unfold Addr.add; split <;> simp_all

theorem act_cells {H : Type} {enc : TypeId × Value → H} {w : World} {base : Nat} {held : Bool} (n : Nat) (cs : List Value) (y : DataW H × List MemPlace)
  (h : DataW.trod enc Tryz.prog w base (fun _ => true) held n 226 cs = some y) : ∃ s : ActD, cs = actC s := by
 obtain ⟨xs, n1, hn1, hx, hl, hxl, hf⟩ := DataW.trod_struct Tryz.underlying226 h
 have hc : Tryz.prog.cellsOf 226 = 4 := by kernel_rfl
 rw [hc] at hl
 match cs, hl with
 | [c0, c1, c2, c3], _ =>
  have g : ∀ i, i < 3 → ∃ x, xs[i]? = some x := fun i hi => ⟨xs[i]'(by rw [hxl]; exact hi), List.getElem?_eq_getElem _⟩
  obtain ⟨x0, e0⟩ := g 0 (by omega)
  have t0 : DataW.trod enc Tryz.prog w base (fun _ => true) held n1 3 (List.take (Tryz.prog.cellsOf 3) (List.drop 0 [c0, c1, c2, c3])) = xs[0]? := hf 0 _ rfl
  rw [show Tryz.prog.cellsOf 3 = 1 by kernel_rfl, e0] at t0
  have t0 : DataW.trod enc Tryz.prog w base (fun _ => true) held n1 3 [c0] = some x0 := t0
  obtain ⟨z0, q0, _, _⟩ := DataW.trod_int Tryz.underlying3 t0
  obtain ⟨x1, e1⟩ := g 1 (by omega)
  have t1 : DataW.trod enc Tryz.prog w base (fun _ => true) held n1 3 (List.take (Tryz.prog.cellsOf 3) (List.drop 1 [c0, c1, c2, c3])) = xs[1]? := hf 1 _ rfl
  rw [show Tryz.prog.cellsOf 3 = 1 by kernel_rfl, e1] at t1
  have t1 : DataW.trod enc Tryz.prog w base (fun _ => true) held n1 3 [c1] = some x1 := t1
  obtain ⟨z1, q1, _, _⟩ := DataW.trod_int Tryz.underlying3 t1
  obtain ⟨x2, e2⟩ := g 2 (by omega)
  have t2 : DataW.trod enc Tryz.prog w base (fun _ => true) held n1 101 (List.take (Tryz.prog.cellsOf 101) (List.drop 2 [c0, c1, c2, c3])) = xs[2]? := hf 2 _ rfl
  rw [show Tryz.prog.cellsOf 101 = 2 by kernel_rfl, e2] at t2
  have t2 : DataW.trod enc Tryz.prog w base (fun _ => true) held n1 101 [c2, c3] = some x2 := t2
  obtain ⟨z2, y2, q2⟩ := addr_cellsC n1 _ _ t2
  simp at q0 q1 q2
  obtain ⟨q2, q2'⟩ := q2
  subst q0 q1 q2 q2'
  exact ⟨⟨_, _, _, _⟩, rfl⟩

theorem trans_of_trod {H : Type} {enc : TypeId × Value → H} {w : World} {base : Nat} {held : Bool} (n : Nat) (cs : List Value) (y : DataW H × List MemPlace)
  (h : DataW.trod enc Tryz.prog w base (fun _ => true) held n 203 cs = some y) : ∃ (x' y' s' : Value) (t : TransD), cs = transC x' y' t.e s' ∧ WayR w 0 w.heap.size x' y' s' t := by
 obtain ⟨xs, n1, hn1, hx, hl, hxl, hf⟩ := DataW.trod_struct Tryz.underlying203 h
 have hc : Tryz.prog.cellsOf 203 = 7 := by kernel_rfl
 rw [hc] at hl
 match cs, hl with
 | [c0, c1, c2, c3, c4, c5, c6], _ =>
  have g : ∀ i, i < 3 → ∃ x, xs[i]? = some x := fun i hi => ⟨xs[i]'(by rw [hxl]; exact hi), List.getElem?_eq_getElem _⟩
  obtain ⟨x0, e0⟩ := g 0 (by omega)
  have t0 : DataW.trod enc Tryz.prog w base (fun _ => true) held n1 49 (List.take (Tryz.prog.cellsOf 49) (List.drop 0 [c0, c1, c2, c3, c4, c5, c6])) = xs[0]? := hf 0 _ rfl
  rw [show Tryz.prog.cellsOf 49 = 1 by kernel_rfl, e0] at t0
  have t0 : DataW.trod enc Tryz.prog w base (fun _ => true) held n1 49 [c0] = some x0 := t0
  obtain ⟨fr, q0⟩ := si_of_trodC t0
  obtain ⟨x1, e1⟩ := g 1 (by omega)
  have t1 : DataW.trod enc Tryz.prog w base (fun _ => true) held n1 49 (List.take (Tryz.prog.cellsOf 49) (List.drop 1 [c0, c1, c2, c3, c4, c5, c6])) = xs[1]? := hf 1 _ rfl
  rw [show Tryz.prog.cellsOf 49 = 1 by kernel_rfl, e1] at t1
  have t1 : DataW.trod enc Tryz.prog w base (fun _ => true) held n1 49 [c1] = some x1 := t1
  obtain ⟨to, q1⟩ := si_of_trodC t1
  obtain ⟨x2, e2⟩ := g 2 (by omega)
  have t2 : DataW.trod enc Tryz.prog w base (fun _ => true) held n1 104 (List.take (Tryz.prog.cellsOf 104) (List.drop 2 [c0, c1, c2, c3, c4, c5, c6])) = xs[2]? := hf 2 _ rfl
  rw [show Tryz.prog.cellsOf 104 = 5 by kernel_rfl, e2] at t2
  have t2 : DataW.trod enc Tryz.prog w base (fun _ => true) held n1 104 [c2, c3, c4, c5, c6] = some x2 := t2
  obtain ⟨k, m, a, t, s, n', z, hcs, _, hs⟩ := five_of_trod t2
  obtain ⟨es, hes⟩ := kr_of_trod n' hs
  simp only [List.cons.injEq, and_true] at hcs
  obtain ⟨r2, r3, r4, r5, r6⟩ := hcs
  subst r2 r3 r4 r5 r6
  exact ⟨c0, c1, c6, ⟨fr, to, .mk k m a t es⟩, rfl, q0, q1, hes⟩

theorem list_ofW {P : Nat → TransD → Value → Value → Value → Prop} : ∀ (len : Nat), (∀ i, i < len → ∃ s x y z, P i s x y z) → ∃ (ss : List TransD) (x y z : Nat → Value), ss.length = len ∧ ∀ i s, ss[i]? = some s → P i s (x i) (y i) (z i)
 | 0, _ => ⟨[], fun _ => .bool false, fun _ => .bool false, fun _ => .bool false, rfl, fun i e h => by simp at h⟩
 | len + 1, h => by
  obtain ⟨ss, xs, ys, zs, hl, hp⟩ := list_ofW len fun i hi => h i (by omega)
  obtain ⟨s, x, y, z, hes⟩ := h len (by omega)
  refine ⟨ss ++ [s], fun i => if i = len then x else xs i, fun i => if i = len then y else ys i, fun i => if i = len then z else zs i, by simp [hl], fun i e' he => ?_⟩
  by_cases hi : i = len
  ·subst hi
   rw [List.getElem?_append_right (by omega), hl] at he
   simp at he
   subst he
   simp only [if_true]
   exact hes
  ·have hil : i < len := by
    have := (List.getElem?_eq_some_iff.mp he).1
    simp [hl] at this
    omega
   rw [List.getElem?_append_left (by omega)] at he
   simp only [if_neg hi]
   exact hp i e' he

theorem tr_of_trod {H : Type} {enc : TypeId × Value → H} {w : World} {base : Nat} {held : Bool} {n : Nat} {v : Value} {y : DataW H × List MemPlace}
  (h : DataW.trod enc Tryz.prog w base (fun _ => true) held n 27 [v] = some y) : ∃ ts, TR w 0 w.heap.size v ts := by
 rcases DataW.trod_slice Tryz.underlying27 h with ⟨hcs, _⟩ | ⟨a, len, cap, elems, rest, n1, hn1, hcs, _, hb, hl, hm, hlen, he, _, _⟩
 ·obtain rfl : v = .slice none 0 0 := by simpa using hcs
  exact ⟨[], ⟨none, 0, rfl, Nat.le_refl _, Nat.zero_le _, .inl rfl⟩⟩
 ·obtain rfl : v = .slice (some a) len cap := by simpa using hcs
  by_cases h0 : len = 0
  ·subst h0; exact ⟨[], ⟨some a, cap, rfl, Nat.zero_le _, hm, .inl rfl⟩⟩
  have hc : Tryz.prog.cellsOf 203 = 7 := by kernel_rfl
  rw [hc] at he
  obtain ⟨b, off, spot⟩ := a
  have first : ∀ i, i < len → ∃ (t : TransD) (x' y' s' : Value), (∀ (j : Nat) (x : Value), (transC x' y' t.e s')[j]? = some x → w.cell? (((⟨b, off, spot⟩ : Go.Addr).add (i * 7)).add j) = some x) ∧ WayR w 0 w.heap.size x' y' s' t := by
   intro i hi
   have h1 := he i hi
   rw [List.getElem?_eq_getElem (by omega)] at h1
   obtain ⟨cs, hcs, ht⟩ := Option.bind_eq_some_iff.mp h1
   obtain ⟨x', y', s', t, rfl, hw⟩ := trans_of_trod _ _ _ ht
   refine ⟨t, x', y', s', fun j x hx => ?_, hw⟩
   have hj : j < 7 := (List.getElem?_eq_some_iff.mp hx).1
   rw [(World.cells?_some hcs).2.2 j hj, hx]
  have hsp : spot = none := by
   obtain ⟨t, x', y', s', hp, _⟩ := first 0 (by omega)
   have := World.cell?_spot (hp 0 _ rfl)
   simpa [Go.Addr.add] using this
  subst hsp
  have ad : ∀ i j, ((⟨b, off, none⟩ : Go.Addr).add (i * 7)).add j = ⟨b, off + i * 7 + j, none⟩ := fun i j => by
   rw [Addr.add_lit, Addr.add_lit]
  have part : ∀ i, i < len → ∃ (t : TransD) (x' y' s' : Value), CV w b (off + i * 7) (transC x' y' t.e s') ∧ WayR w 0 w.heap.size x' y' s' t := by
   intro i hi
   obtain ⟨t, x', y', s', hp, hw⟩ := first i hi
   exact ⟨t, x', y', s', fun j x hx => by have := hp j x hx; rwa [ad] at this, hw⟩
  obtain ⟨ts, xx, yy, ss, hpl, hp⟩ := list_ofW len part
  obtain ⟨e0, he0⟩ : ∃ e, ts[0]? = some e := ⟨ts[0]'(by omega), List.getElem?_eq_getElem _⟩
  have hb' : b < w.heap.size := World.block_lt_of_cell? w _ ((hp 0 e0 he0).1 0 _ rfl)
  exact ⟨ts, ⟨_, cap, by rw [hpl], by omega, hm, .inr ⟨b, off, xx, yy, ss, rfl, Nat.zero_le _, hb', fun i t ht => hp i t ht⟩⟩⟩

end Go.Proofs.YtaoiookfmgpmkaaGreatDoor

/-
 An argument read as data, opened: a controller (laws.Plc).
-/
namespace Go.Proofs.YtaoiookfmgpmkaaGreatDoor
open Go.ChangeShapes Go.WideShapes Go.ChangeAt Go.RowKit Go.Joins
set_option linter.unusedVariables false
set_option maxRecDepth 100000

theorem block_cellsP {H : Type} {enc : TypeId × Value → H} {w : World} {base : Nat} {held : Bool} (n : Nat) (cs : List Value) (y : DataW H × List MemPlace)
  (h : DataW.trod enc Tryz.prog w base (fun _ => true) held n 248 cs = some y) : ∃ s : BlockD, cs = blockC s := by
 obtain ⟨xs, n1, hn1, hx, hl, hxl, hf⟩ := DataW.trod_struct Tryz.underlying248 h
 have hc : Tryz.prog.cellsOf 248 = 5 := by kernel_rfl
 rw [hc] at hl
 have i3 : Tryz.prog.cellsOf 3 = 1 := by kernel_rfl
 have i4 : Tryz.prog.cellsOf 4 = 1 := by kernel_rfl
 match cs, hl with
 | [c0, c1, c2, c3, c4], _ =>
  have g : ∀ i, i < 5 → ∃ x, xs[i]? = some x := fun i hi => ⟨xs[i]'(by rw [hxl]; exact hi), List.getElem?_eq_getElem _⟩
  obtain ⟨x0, e0⟩ := g 0 (by omega)
  obtain ⟨x1, e1⟩ := g 1 (by omega)
  obtain ⟨x2, e2⟩ := g 2 (by omega)
  obtain ⟨x3, e3⟩ := g 3 (by omega)
  obtain ⟨x4, e4⟩ := g 4 (by omega)
  have t0 : DataW.trod enc Tryz.prog w base (fun _ => true) held n1 3 (List.take (Tryz.prog.cellsOf 3) (List.drop 0 [c0, c1, c2, c3, c4])) = xs[0]? := hf 0 _ rfl
  have t1 : DataW.trod enc Tryz.prog w base (fun _ => true) held n1 3 (List.take (Tryz.prog.cellsOf 3) (List.drop 1 [c0, c1, c2, c3, c4])) = xs[1]? := hf 1 _ rfl
  have t2 : DataW.trod enc Tryz.prog w base (fun _ => true) held n1 4 (List.take (Tryz.prog.cellsOf 4) (List.drop 2 [c0, c1, c2, c3, c4])) = xs[2]? := hf 2 _ rfl
  have t3 : DataW.trod enc Tryz.prog w base (fun _ => true) held n1 4 (List.take (Tryz.prog.cellsOf 4) (List.drop 3 [c0, c1, c2, c3, c4])) = xs[3]? := hf 3 _ rfl
  have t4 : DataW.trod enc Tryz.prog w base (fun _ => true) held n1 3 (List.take (Tryz.prog.cellsOf 3) (List.drop 4 [c0, c1, c2, c3, c4])) = xs[4]? := hf 4 _ rfl
  rw [i3, e0] at t0
  rw [i3, e1] at t1
  rw [i4, e2] at t2
  rw [i4, e3] at t3
  rw [i3, e4] at t4
  have t0 : DataW.trod enc Tryz.prog w base (fun _ => true) held n1 3 [c0] = some x0 := t0
  have t1 : DataW.trod enc Tryz.prog w base (fun _ => true) held n1 3 [c1] = some x1 := t1
  have t2 : DataW.trod enc Tryz.prog w base (fun _ => true) held n1 4 [c2] = some x2 := t2
  have t3 : DataW.trod enc Tryz.prog w base (fun _ => true) held n1 4 [c3] = some x3 := t3
  have t4 : DataW.trod enc Tryz.prog w base (fun _ => true) held n1 3 [c4] = some x4 := t4
  obtain ⟨z0, q0, _, _⟩ := DataW.trod_int Tryz.underlying3 t0
  obtain ⟨z1, q1, _, _⟩ := DataW.trod_int Tryz.underlying3 t1
  obtain ⟨z2, q2, _⟩ := DataW.trod_bool Tryz.underlying4 t2
  obtain ⟨z3, q3, _⟩ := DataW.trod_bool Tryz.underlying4 t3
  obtain ⟨z4, q4, _, _⟩ := DataW.trod_int Tryz.underlying3 t4
  simp at q0 q1 q2 q3 q4
  subst q0 q1 q2 q3 q4
  exact ⟨⟨_, _, _, _, _⟩, rfl⟩

theorem pl_of_trod {H : Type} {enc : TypeId × Value → H} {w : World} {r : Reach} {base b0 : Nat} {held : Bool} {v : Value} {d : DataW H} {p : List MemPlace}
  (hv : Value.okWide Tryz.prog w r b0 73 v) (h : DataW.Trod enc Tryz.prog w base (fun _ => true) held 73 v d p) : ∃ m, PI w 0 w.heap.size v m := by
 obtain ⟨cs, rfl, hsz⟩ := okWide_struct Tryz.underlying73 hv
 obtain ⟨fuel, hf⟩ := h
 have hc : Tryz.prog.cellsOf 73 = 15 := by kernel_rfl
 rw [hc] at hsz
 obtain ⟨c0, c1, c2, c3, c4, c5, c6, c7, c8, c9, c10, c11, c12, c13, c14, rfl⟩ : ∃ c0 c1 c2 c3 c4 c5 c6 c7 c8 c9 c10 c11 c12 c13 c14, cs = #[c0, c1, c2, c3, c4, c5, c6, c7, c8, c9, c10, c11, c12, c13, c14] := by
  match cs, hsz with
  | ⟨[c0, c1, c2, c3, c4, c5, c6, c7, c8, c9, c10, c11, c12, c13, c14]⟩, _ => exact ⟨c0, c1, c2, c3, c4, c5, c6, c7, c8, c9, c10, c11, c12, c13, c14, rfl⟩
 have hf' : DataW.trod enc Tryz.prog w base (fun _ => true) held fuel 73 [c0, c1, c2, c3, c4, c5, c6, c7, c8, c9, c10, c11, c12, c13, c14] = some (d, p) := hf
 obtain ⟨xs, n1, hn1, hx, hl, hxl, hf⟩ := DataW.trod_struct Tryz.underlying73 hf'
 clear hf'
 have i3 : Tryz.prog.cellsOf 3 = 1 := by kernel_rfl
 have i4 : Tryz.prog.cellsOf 4 = 1 := by kernel_rfl
 have i5 : Tryz.prog.cellsOf 22 = 1 := by kernel_rfl
 have i6 : Tryz.prog.cellsOf 26 = 2 := by kernel_rfl
 have i7 : Tryz.prog.cellsOf 30 = 3 := by kernel_rfl
 have i8 : Tryz.prog.cellsOf 69 = 2 := by kernel_rfl
 have i9 : Tryz.prog.cellsOf 70 = 2 := by kernel_rfl
 have i10 : Tryz.prog.cellsOf 71 = 3 := by kernel_rfl
 have g : ∀ i, i < 8 → ∃ x, xs[i]? = some x := fun i hi => ⟨xs[i]'(by rw [hxl]; exact hi), List.getElem?_eq_getElem _⟩
 obtain ⟨x0, e0⟩ := g 0 (by omega)
 obtain ⟨x1, e1⟩ := g 1 (by omega)
 obtain ⟨x2, e2⟩ := g 2 (by omega)
 obtain ⟨x3, e3⟩ := g 3 (by omega)
 obtain ⟨x4, e4⟩ := g 4 (by omega)
 obtain ⟨x5, e5⟩ := g 5 (by omega)
 obtain ⟨x6, e6⟩ := g 6 (by omega)
 obtain ⟨x7, e7⟩ := g 7 (by omega)
 have t0 : DataW.trod enc Tryz.prog w base (fun _ => true) held n1 22 (List.take (Tryz.prog.cellsOf 22) (List.drop 0 [c0, c1, c2, c3, c4, c5, c6, c7, c8, c9, c10, c11, c12, c13, c14])) = xs[0]? := hf 0 _ rfl
 have t1 : DataW.trod enc Tryz.prog w base (fun _ => true) held n1 26 (List.take (Tryz.prog.cellsOf 26) (List.drop 1 [c0, c1, c2, c3, c4, c5, c6, c7, c8, c9, c10, c11, c12, c13, c14])) = xs[1]? := hf 1 _ rfl
 have t2 : DataW.trod enc Tryz.prog w base (fun _ => true) held n1 30 (List.take (Tryz.prog.cellsOf 30) (List.drop 3 [c0, c1, c2, c3, c4, c5, c6, c7, c8, c9, c10, c11, c12, c13, c14])) = xs[2]? := hf 2 _ rfl
 have t3 : DataW.trod enc Tryz.prog w base (fun _ => true) held n1 69 (List.take (Tryz.prog.cellsOf 69) (List.drop 6 [c0, c1, c2, c3, c4, c5, c6, c7, c8, c9, c10, c11, c12, c13, c14])) = xs[3]? := hf 3 _ rfl
 have t4 : DataW.trod enc Tryz.prog w base (fun _ => true) held n1 70 (List.take (Tryz.prog.cellsOf 70) (List.drop 8 [c0, c1, c2, c3, c4, c5, c6, c7, c8, c9, c10, c11, c12, c13, c14])) = xs[4]? := hf 4 _ rfl
 have t5 : DataW.trod enc Tryz.prog w base (fun _ => true) held n1 71 (List.take (Tryz.prog.cellsOf 71) (List.drop 10 [c0, c1, c2, c3, c4, c5, c6, c7, c8, c9, c10, c11, c12, c13, c14])) = xs[5]? := hf 5 _ rfl
 have t6 : DataW.trod enc Tryz.prog w base (fun _ => true) held n1 4 (List.take (Tryz.prog.cellsOf 4) (List.drop 13 [c0, c1, c2, c3, c4, c5, c6, c7, c8, c9, c10, c11, c12, c13, c14])) = xs[6]? := hf 6 _ rfl
 have t7 : DataW.trod enc Tryz.prog w base (fun _ => true) held n1 3 (List.take (Tryz.prog.cellsOf 3) (List.drop 14 [c0, c1, c2, c3, c4, c5, c6, c7, c8, c9, c10, c11, c12, c13, c14])) = xs[7]? := hf 7 _ rfl
 clear hf
 rw [i5, e0] at t0
 rw [i6, e1] at t1
 rw [i7, e2] at t2
 rw [i8, e3] at t3
 rw [i9, e4] at t4
 rw [i10, e5] at t5
 rw [i4, e6] at t6
 rw [i3, e7] at t7
 have t0 : DataW.trod enc Tryz.prog w base (fun _ => true) held n1 22 [c0] = some x0 := t0
 have t1 : DataW.trod enc Tryz.prog w base (fun _ => true) held n1 26 [c1, c2] = some x1 := t1
 have t2 : DataW.trod enc Tryz.prog w base (fun _ => true) held n1 30 [c3, c4, c5] = some x2 := t2
 have t3 : DataW.trod enc Tryz.prog w base (fun _ => true) held n1 69 [c6, c7] = some x3 := t3
 have t4 : DataW.trod enc Tryz.prog w base (fun _ => true) held n1 70 [c8, c9] = some x4 := t4
 have t5 : DataW.trod enc Tryz.prog w base (fun _ => true) held n1 71 [c10, c11, c12] = some x5 := t5
 have t6 : DataW.trod enc Tryz.prog w base (fun _ => true) held n1 4 [c13] = some x6 := t6
 have t7 : DataW.trod enc Tryz.prog w base (fun _ => true) held n1 3 [c14] = some x7 := t7
 obtain ⟨z6, q6, _⟩ := DataW.trod_bool Tryz.underlying4 t6
 obtain ⟨z7, q7, _, _⟩ := DataW.trod_int Tryz.underlying3 t7
 simp at q6 q7
 subst q6 q7
 obtain ⟨d0, r0⟩ := sr_of_trod n1 t0
 have hel : ∀ (n : Nat) (cs : List Value) (y : DataW H × List MemPlace), DataW.trod enc Tryz.prog w base (fun _ => true) held n 4 cs = some y → ∃ p : Bool, cs = bool2.cells p := fun n cs y h => by
  obtain ⟨b, q, _⟩ := DataW.trod_bool Tryz.underlying4 h
  exact ⟨b, q⟩
 -- the net
 obtain ⟨ya, yb, m1, _, _, t1a, t1b⟩ := trod_struct2 Tryz.underlying26 t1
 have t1a : DataW.trod enc Tryz.prog w base (fun _ => true) held m1 23 [c1] = some ya := by simpa [show Tryz.prog.cellsOf 23 = 1 by kernel_rfl] using t1a
 have t1b : DataW.trod enc Tryz.prog w base (fun _ => true) held m1 24 [c2] = some yb := by simpa [show Tryz.prog.cellsOf 23 = 1 by kernel_rfl, show Tryz.prog.cellsOf 24 = 1 by kernel_rfl] using t1b
 obtain ⟨d1a, r1a⟩ := gr_of_trod (E := wireE) Tryz.underlying23 (by kernel_rfl) wire_cells t1a
 obtain ⟨d1b, r1b⟩ := gr_of_trod (E := driveE) Tryz.underlying24 (by kernel_rfl) drive_cells t1b
 -- the chart
 obtain ⟨y2a, y2b, y2c, m2, _, _, t2a, t2b, t2c⟩ := Go.Deep.trod_struct3 Tryz.underlying30 t2
 have t2a : DataW.trod enc Tryz.prog w base (fun _ => true) held m2 3 [c3] = some y2a := by simpa [i3] using t2a
 have t2b : DataW.trod enc Tryz.prog w base (fun _ => true) held m2 27 [c4] = some y2b := by simpa [i3, show Tryz.prog.cellsOf 27 = 1 by kernel_rfl] using t2b
 have t2c : DataW.trod enc Tryz.prog w base (fun _ => true) held m2 28 [c5] = some y2c := by simpa [i3, show Tryz.prog.cellsOf 27 = 1 by kernel_rfl, show Tryz.prog.cellsOf 28 = 1 by kernel_rfl] using t2c
 obtain ⟨z3, q3, _, _⟩ := DataW.trod_int Tryz.underlying3 t2a
 simp at q3
 subst q3
 obtain ⟨d2a, r2a⟩ := tr_of_trod t2b
 obtain ⟨d2b, r2b⟩ := gr_of_trodC (E := actE) Tryz.underlying28 (by kernel_rfl) act_cells t2c
 -- what the net keeps
 obtain ⟨y3a, y3b, m3, _, _, t3a, t3b⟩ := trod_struct2 Tryz.underlying69 t3
 have t3a : DataW.trod enc Tryz.prog w base (fun _ => true) held m3 67 [c6] = some y3a := by simpa [show Tryz.prog.cellsOf 67 = 1 by kernel_rfl] using t3a
 have t3b : DataW.trod enc Tryz.prog w base (fun _ => true) held m3 44 [c7] = some y3b := by simpa [show Tryz.prog.cellsOf 67 = 1 by kernel_rfl, show Tryz.prog.cellsOf 44 = 1 by kernel_rfl] using t3b
 obtain ⟨d3a, r3a⟩ := gr_of_trodC (E := blockE) Tryz.underlying67 (by kernel_rfl) block_cellsP t3a
 obtain ⟨d3b, r3b⟩ := gr_of_trodC (E := bool2) Tryz.underlying44 (by kernel_rfl) hel t3b
 -- the marks
 obtain ⟨y4a, y4b, m4, _, _, t4a, t4b⟩ := trod_struct2 Tryz.underlying70 t4
 have t4a : DataW.trod enc Tryz.prog w base (fun _ => true) held m4 44 [c8] = some y4a := by simpa [show Tryz.prog.cellsOf 44 = 1 by kernel_rfl] using t4a
 have t4b : DataW.trod enc Tryz.prog w base (fun _ => true) held m4 44 [c9] = some y4b := by simpa [show Tryz.prog.cellsOf 44 = 1 by kernel_rfl] using t4b
 obtain ⟨d4a, r4a⟩ := gr_of_trodC (E := bool2) Tryz.underlying44 (by kernel_rfl) hel t4a
 obtain ⟨d4b, r4b⟩ := gr_of_trodC (E := bool2) Tryz.underlying44 (by kernel_rfl) hel t4b
 -- the memory
 obtain ⟨y5a, y5b, y5c, m5, _, _, t5a, t5b, t5c⟩ := Go.Deep.trod_struct3 Tryz.underlying71 t5
 have t5a : DataW.trod enc Tryz.prog w base (fun _ => true) held m5 49 [c10] = some y5a := by simpa [show Tryz.prog.cellsOf 49 = 1 by kernel_rfl] using t5a
 have t5b : DataW.trod enc Tryz.prog w base (fun _ => true) held m5 49 [c11] = some y5b := by simpa [show Tryz.prog.cellsOf 49 = 1 by kernel_rfl] using t5b
 have t5c : DataW.trod enc Tryz.prog w base (fun _ => true) held m5 49 [c12] = some y5c := by simpa [show Tryz.prog.cellsOf 49 = 1 by kernel_rfl] using t5c
 obtain ⟨d5a, r5a⟩ := si_of_trodC t5a
 obtain ⟨d5b, r5b⟩ := si_of_trodC t5b
 obtain ⟨d5c, r5c⟩ := si_of_trodC t5c
 exact ⟨⟨d0, ⟨d1a, d1b⟩, ⟨z3, d2a, d2b⟩, ⟨d3a, d3b⟩, ⟨d4a, d4b⟩, ⟨d5a, d5b, d5c⟩, z6, z7⟩, c0, c1, c2, c4, c5, c6, c7, c8, c9, c10, c11, c12, rfl,
  ⟨r0, ⟨_, _, rfl, r1a, r1b⟩, ⟨_, _, rfl, r2a, r2b⟩, ⟨_, _, rfl, r3a, r3b⟩, ⟨_, _, rfl, r4a, r4b⟩, ⟨_, _, _, rfl, r5a, r5b, r5c⟩⟩⟩
end Go.Proofs.YtaoiookfmgpmkaaGreatDoor
