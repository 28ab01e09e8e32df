import Derived.Test.YtkeockippmmneaaGreatExprData
import Derived.Lib.SmallJoins
import Derived.Test.YtkeockippmmneaaGreatStmtData

/-
  An argument read as data, opened: what is reckoned (laws.Expr).
-/
namespace Go.Proofs.YtkeockippmmneaaGreat
open Go.ChangeShapes Go.WideShapes Go.ChangeAt Go.RowKit Go.Joins
set_option linter.unusedVariables false

theorem list_of {P : Nat → ExprD → Value → Prop} : ∀ (len : Nat), (∀ i, i < len → ∃ e s, P i e s) → ∃ (es : List ExprD) (ss : Nat → Value), es.length = len ∧ ∀ i e, es[i]? = some e → P i e (ss i)
  | 0, _ => ⟨[], fun _ => .bool false, rfl, fun i e h => by simp at h⟩
  | len + 1, h => by
    obtain ⟨es, ss, hl, hp⟩ := list_of len fun i hi => h i (by omega)
    obtain ⟨e, s, hes⟩ := h len (by omega)
    refine ⟨es ++ [e], fun i => if i = len then s else ss i, by simp [hl], fun i e' he => ?_⟩
    by_cases hi : i = len
    · subst hi
      rw [List.getElem?_append_right (by omega), hl] at he
      simp at he
      subst he
      simp only [if_true]
      exact hes
    · have hil : i < len := by
        have := (List.getElem?_eq_some_iff.mp he).1
        simp [hl] at this
        omega
      rw [List.getElem?_append_left (by omega)] at he
      simp only [if_neg hi]
      exact hp i e' he

set_option maxRecDepth 100000 in
theorem five_of_trod {H : Type} {enc : TypeId × Value → H} {w : World} {base : Nat} {held : Bool} {n : Nat} {cs : List Value} {y : DataW H × List MemPlace}
    (h : DataW.trod enc Tryz.prog w base (fun _ => true) held n 35 cs = some y) :
    ∃ (k m a t : Int) (s : Value) (n' : Nat) (z : DataW H × List MemPlace), cs = [.int .i64 k, .int .i64 m, .int .i64 a, .int .i64 t, s] ∧ n' < n ∧ DataW.trod enc Tryz.prog w base (fun _ => true) held n' 33 [s] = some z := by
  obtain ⟨xs, n1, hn1, hx, hl, hxl, hf⟩ := DataW.trod_struct Tryz.underlying35 h
  have hc : Tryz.prog.cellsOf 35 = 5 := by kernel_rfl
  rw [hc] at hl
  match cs, hl with
  | [c0, c1, c2, c3, c4], _ =>
    have i3 : Tryz.prog.cellsOf 3 = 1 := by kernel_rfl
    have i2 : Tryz.prog.cellsOf 32 = 2 := by kernel_rfl
    have is : Tryz.prog.cellsOf 33 = 1 := by kernel_rfl
    have g : ∀ i, i < 4 → ∃ x, xs[i]? = some x := fun i hi => ⟨xs[i]'(by rw [hxl]; exact hi), List.getElem?_eq_getElem _⟩
    obtain ⟨x0, e0⟩ := g 0 (by omega)
    obtain ⟨x1, e1⟩ := g 1 (by omega)
    obtain ⟨x2, e2⟩ := g 2 (by omega)
    obtain ⟨x3, e3⟩ := g 3 (by omega)
    have t0 : DataW.trod enc Tryz.prog w base (fun _ => true) held n1 3 (List.take (Tryz.prog.cellsOf 3) (List.drop 0 [c0, c1, c2, c3, c4])) = xs[0]? := hf 0 _ rfl
    have t1 : DataW.trod enc Tryz.prog w base (fun _ => true) held n1 3 (List.take (Tryz.prog.cellsOf 3) (List.drop 1 [c0, c1, c2, c3, c4])) = xs[1]? := hf 1 _ rfl
    have t2 : DataW.trod enc Tryz.prog w base (fun _ => true) held n1 32 (List.take (Tryz.prog.cellsOf 32) (List.drop 2 [c0, c1, c2, c3, c4])) = xs[2]? := hf 2 _ rfl
    have t3 : DataW.trod enc Tryz.prog w base (fun _ => true) held n1 33 (List.take (Tryz.prog.cellsOf 33) (List.drop 4 [c0, c1, c2, c3, c4])) = xs[3]? := hf 3 _ rfl
    rw [i3, e0] at t0
    rw [i3, e1] at t1
    rw [i2, e2] at t2
    rw [is, e3] at t3
    have t0 : DataW.trod enc Tryz.prog w base (fun _ => true) held n1 3 [c0] = some x0 := t0
    have t1 : DataW.trod enc Tryz.prog w base (fun _ => true) held n1 3 [c1] = some x1 := t1
    have t2 : DataW.trod enc Tryz.prog w base (fun _ => true) held n1 32 [c2, c3] = some x2 := t2
    have t3 : DataW.trod enc Tryz.prog w base (fun _ => true) held n1 33 [c4] = some x3 := t3
    obtain ⟨k, q0, _, _⟩ := DataW.trod_int Tryz.underlying3 t0
    obtain ⟨m, q1, _, _⟩ := DataW.trod_int Tryz.underlying3 t1
    obtain ⟨ys, n2, hn2, _, _, hyl, hg⟩ := DataW.trod_struct Tryz.underlying32 t2
    have gy : ∀ i, i < 2 → ∃ x, ys[i]? = some x := fun i hi => ⟨ys[i]'(by rw [hyl]; exact hi), List.getElem?_eq_getElem _⟩
    obtain ⟨y0, d0⟩ := gy 0 (by omega)
    obtain ⟨y1, d1⟩ := gy 1 (by omega)
    have u0 : DataW.trod enc Tryz.prog w base (fun _ => true) held n2 3 (List.take (Tryz.prog.cellsOf 3) (List.drop 0 [c2, c3])) = ys[0]? := hg 0 _ rfl
    have u1 : DataW.trod enc Tryz.prog w base (fun _ => true) held n2 3 (List.take (Tryz.prog.cellsOf 3) (List.drop 1 [c2, c3])) = ys[1]? := hg 1 _ rfl
    rw [i3, d0] at u0
    rw [i3, d1] at u1
    have u0 : DataW.trod enc Tryz.prog w base (fun _ => true) held n2 3 [c2] = some y0 := u0
    have u1 : DataW.trod enc Tryz.prog w base (fun _ => true) held n2 3 [c3] = some y1 := u1
    obtain ⟨a, q2, _, _⟩ := DataW.trod_int Tryz.underlying3 u0
    obtain ⟨t, q3, _, _⟩ := DataW.trod_int Tryz.underlying3 u1
    simp at q0 q1 q2 q3
    subst q0 q1 q2 q3
    exact ⟨k, m, a, t, c4, n1, x3, rfl, by omega, t3⟩

set_option maxRecDepth 100000 in
theorem kr_of_trod {H : Type} {enc : TypeId × Value → H} {w : World} {base : Nat} {held : Bool} (n : Nat) : ∀ {v : Value} {y : DataW H × List MemPlace},
    DataW.trod enc Tryz.prog w base (fun _ => true) held n 33 [v] = some y → ∃ es, KR w 0 w.heap.size v es := by
  induction n using Nat.strongRecOn with
  | ind n ih =>
    intro v y h
    rcases DataW.trod_slice Tryz.underlying33 h with ⟨hcs, _⟩ | ⟨a, len, cap, elems, rest, n1, hn1, hcs, _, hb, hl, hm, hel, he, _, _⟩
    · obtain rfl : v = .slice none 0 0 := by simpa using hcs
      exact ⟨[], .nil none 0 (Nat.zero_le _)⟩
    · obtain rfl : v = .slice (some a) len cap := by simpa using hcs
      by_cases h0 : len = 0
      · subst h0; exact ⟨[], .nil (some a) cap hm⟩
      have hc : Tryz.prog.cellsOf 35 = 5 := by kernel_rfl
      rw [hc] at he
      obtain ⟨b, off, spot⟩ := a
      have hsp : spot = none := by
        have h1 := he 0 (by omega)
        rw [List.getElem?_eq_getElem (by omega)] at h1
        obtain ⟨cs, hcs, ht⟩ := Option.bind_eq_some_iff.mp h1
        obtain ⟨k, m, x, t, s, n', z, rfl, hn', hs⟩ := five_of_trod ht
        have z0 := (World.cells?_some hcs).2.2 0 (by omega)
        have := World.cell?_spot (z0.trans rfl)
        simpa [Go.Addr.add] using this
      subst hsp
      have ad : ∀ i j, ((⟨b, off, none⟩ : Go.Addr).add (i * 5)).add j = ⟨b, off + i * 5 + j, none⟩ := fun i j => by
        rw [Addr.add_lit, Addr.add_lit]
      have part : ∀ i, i < len → ∃ (e : ExprD) (s : Value), (b < w.heap.size ∧ Cell5 w b (off + i * 5) e s) ∧ KR w 0 w.heap.size s e.kids := by
        intro i hi
        have h1 := he i hi
        rw [List.getElem?_eq_getElem (by omega)] at h1
        obtain ⟨cs, hcs, ht⟩ := Option.bind_eq_some_iff.mp h1
        obtain ⟨k, m, x, t, s, n', z, rfl, hn', hs⟩ := five_of_trod ht
        obtain ⟨es, hes⟩ := ih n' (by omega) hs
        obtain ⟨_, _, hcell⟩ := World.cells?_some hcs
        have z0 := hcell 0 (by omega)
        rw [ad] at z0
        have hb' : b < w.heap.size := World.block_lt_of_cell? w _ (z0.trans rfl)
        refine ⟨.mk k m x t es, s, ⟨hb', ?_, ?_, ?_, ?_, ?_⟩, hes⟩
        · have := hcell 0 (by omega); rw [ad] at this; exact this
        · have := hcell 1 (by omega); rw [ad] at this; exact this
        · have := hcell 2 (by omega); rw [ad] at this; exact this
        · have := hcell 3 (by omega); rw [ad] at this; exact this
        · have := hcell 4 (by omega); rw [ad] at this; exact this
      obtain ⟨es, ss, hlen, hp⟩ := list_of len part
      have h00 : ∃ e, es[0]? = some e := ⟨es[0]'(by omega), List.getElem?_eq_getElem _⟩
      obtain ⟨e0, he0⟩ := h00
      obtain ⟨⟨hb', _⟩, _⟩ := hp 0 e0 he0
      refine ⟨es, ?_⟩
      rw [← hlen]
      exact .cons b off cap es ss (by intro h; rw [h] at hlen; simp at hlen; omega) (by omega) hm (Nat.zero_le _) hb' (fun i e hie => (hp i e hie).1.2) fun i e hie => (hp i e hie).2

set_option maxRecDepth 100000 in
theorem er_of_trod {H : Type} {enc : TypeId × Value → H} {w : World} {r : Reach} {base b0 : Nat} {held : Bool} {v : Value} {d : DataW H} {p : List MemPlace}
    (hv : Value.okWide Tryz.prog w r b0 35 v) (h : DataW.Trod enc Tryz.prog w base (fun _ => true) held 35 v d p) : ∃ e, ER w 0 w.heap.size v e := by
  obtain ⟨cs, rfl, hsz⟩ := okWide_struct Tryz.underlying35 hv
  obtain ⟨fuel, hf⟩ := h
  obtain ⟨k, m, a, t, s, n', z, hcs, _, hs⟩ := five_of_trod hf
  obtain ⟨es, hes⟩ := kr_of_trod n' hs
  refine ⟨.mk k m a t es, s, ?_, hes⟩
  have : cs.toList = [.int .i64 k, .int .i64 m, .int .i64 a, .int .i64 t, s] := by simpa [Value.cells] using hcs
  have e : cs = #[.int .i64 k, .int .i64 m, .int .i64 a, .int .i64 t, s] := by rw [← Array.toArray_toList (xs := cs), this]
  rw [e]
  rfl
end Go.Proofs.YtkeockippmmneaaGreat

/-
  An argument read as data, opened: a list of statements ([]laws.Stmt).
-/
namespace Go.Proofs.YtkeockippmmneaaGreat
open Go.ChangeShapes Go.WideShapes Go.ChangeAt Go.RowKit Go.Joins
set_option linter.unusedVariables false

theorem list_ofT {P : Nat → StmtD → Value → Value → Value → Prop} : ∀ (len : Nat), (∀ i, i < len → ∃ s x y z, P i s x y z) → ∃ (ss : List StmtD) (x y z : Nat → Value), ss.length = len ∧ ∀ i s, ss[i]? = some s → P i s (x i) (y i) (z i)
  | 0, _ => ⟨[], fun _ => .bool false, fun _ => .bool false, fun _ => .bool false, rfl, fun i e h => by simp at h⟩
  | len + 1, h => by
    obtain ⟨ss, xs, ys, zs, hl, hp⟩ := list_ofT len fun i hi => h i (by omega)
    obtain ⟨s, x, y, z, hes⟩ := h len (by omega)
    refine ⟨ss ++ [s], fun i => if i = len then x else xs i, fun i => if i = len then y else ys i, fun i => if i = len then z else zs i, by simp [hl], fun i e' he => ?_⟩
    by_cases hi : i = len
    · subst hi
      rw [List.getElem?_append_right (by omega), hl] at he
      simp at he
      subst he
      simp only [if_true]
      exact hes
    · have hil : i < len := by
        have := (List.getElem?_eq_some_iff.mp he).1
        simp [hl] at this
        omega
      rw [List.getElem?_append_left (by omega)] at he
      simp only [if_neg hi]
      exact hp i e' he

set_option maxRecDepth 100000 in
theorem ten_of_trod {H : Type} {enc : TypeId × Value → H} {w : World} {base : Nat} {held : Bool} {n : Nat} {cs : List Value} {y : DataW H × List MemPlace}
    (h : DataW.trod enc Tryz.prog w base (fun _ => true) held n 37 cs = some y) :
    ∃ (k tk ta ek en ea et : Int) (s1 s2 s3 : Value) (n' : Nat) (z1 z2 z3 : DataW H × List MemPlace), cs = [.int .i64 k, .int .i64 tk, .int .i64 ta, .int .i64 ek, .int .i64 en, .int .i64 ea, .int .i64 et, s1, s2, s3] ∧ n' < n ∧
      (∃ m, DataW.trod enc Tryz.prog w base (fun _ => true) held m 33 [s1] = some z1) ∧ DataW.trod enc Tryz.prog w base (fun _ => true) held n' 22 [s2] = some z2 ∧ DataW.trod enc Tryz.prog w base (fun _ => true) held n' 22 [s3] = some z3 := by
  obtain ⟨xs, n1, hn1, hx, hl, hxl, hf⟩ := DataW.trod_struct Tryz.underlying37 h
  have hc : Tryz.prog.cellsOf 37 = 10 := by kernel_rfl
  rw [hc] at hl
  match cs, hl with
  | [c0, c1, c2, c3, c4, c5, c6, c7, c8, c9], _ =>
    have i3 : Tryz.prog.cellsOf 3 = 1 := by kernel_rfl
    have i2 : Tryz.prog.cellsOf 32 = 2 := by kernel_rfl
    have i5 : Tryz.prog.cellsOf 35 = 5 := by kernel_rfl
    have is : Tryz.prog.cellsOf 22 = 1 := by kernel_rfl
    have g : ∀ i, i < 5 → ∃ x, xs[i]? = some x := fun i hi => ⟨xs[i]'(by rw [hxl]; exact hi), List.getElem?_eq_getElem _⟩
    obtain ⟨x0, e0⟩ := g 0 (by omega)
    obtain ⟨x1, e1⟩ := g 1 (by omega)
    obtain ⟨x2, e2⟩ := g 2 (by omega)
    obtain ⟨x3, e3⟩ := g 3 (by omega)
    obtain ⟨x4, e4⟩ := g 4 (by omega)
    have t0 : DataW.trod enc Tryz.prog w base (fun _ => true) held n1 3 (List.take (Tryz.prog.cellsOf 3) (List.drop 0 [c0, c1, c2, c3, c4, c5, c6, c7, c8, c9])) = xs[0]? := hf 0 _ rfl
    have t1 : DataW.trod enc Tryz.prog w base (fun _ => true) held n1 32 (List.take (Tryz.prog.cellsOf 32) (List.drop 1 [c0, c1, c2, c3, c4, c5, c6, c7, c8, c9])) = xs[1]? := hf 1 _ rfl
    have t2 : DataW.trod enc Tryz.prog w base (fun _ => true) held n1 35 (List.take (Tryz.prog.cellsOf 35) (List.drop 3 [c0, c1, c2, c3, c4, c5, c6, c7, c8, c9])) = xs[2]? := hf 2 _ rfl
    have t3 : DataW.trod enc Tryz.prog w base (fun _ => true) held n1 22 (List.take (Tryz.prog.cellsOf 22) (List.drop 8 [c0, c1, c2, c3, c4, c5, c6, c7, c8, c9])) = xs[3]? := hf 3 _ rfl
    have t4 : DataW.trod enc Tryz.prog w base (fun _ => true) held n1 22 (List.take (Tryz.prog.cellsOf 22) (List.drop 9 [c0, c1, c2, c3, c4, c5, c6, c7, c8, c9])) = xs[4]? := hf 4 _ rfl
    rw [i3, e0] at t0
    rw [i2, e1] at t1
    rw [i5, e2] at t2
    rw [is, e3] at t3
    rw [is, e4] at t4
    have t0 : DataW.trod enc Tryz.prog w base (fun _ => true) held n1 3 [c0] = some x0 := t0
    have t1 : DataW.trod enc Tryz.prog w base (fun _ => true) held n1 32 [c1, c2] = some x1 := t1
    have t2 : DataW.trod enc Tryz.prog w base (fun _ => true) held n1 35 [c3, c4, c5, c6, c7] = some x2 := t2
    have t3 : DataW.trod enc Tryz.prog w base (fun _ => true) held n1 22 [c8] = some x3 := t3
    have t4 : DataW.trod enc Tryz.prog w base (fun _ => true) held n1 22 [c9] = some x4 := t4
    obtain ⟨k, q0, _, _⟩ := DataW.trod_int Tryz.underlying3 t0
    obtain ⟨ys, n2, hn2, _, _, hyl, hg⟩ := DataW.trod_struct Tryz.underlying32 t1
    have gy : ∀ i, i < 2 → ∃ x, ys[i]? = some x := fun i hi => ⟨ys[i]'(by rw [hyl]; exact hi), List.getElem?_eq_getElem _⟩
    obtain ⟨y0, d0⟩ := gy 0 (by omega)
    obtain ⟨y1, d1⟩ := gy 1 (by omega)
    have u0 : DataW.trod enc Tryz.prog w base (fun _ => true) held n2 3 (List.take (Tryz.prog.cellsOf 3) (List.drop 0 [c1, c2])) = ys[0]? := hg 0 _ rfl
    have u1 : DataW.trod enc Tryz.prog w base (fun _ => true) held n2 3 (List.take (Tryz.prog.cellsOf 3) (List.drop 1 [c1, c2])) = ys[1]? := hg 1 _ rfl
    rw [i3, d0] at u0
    rw [i3, d1] at u1
    have u0 : DataW.trod enc Tryz.prog w base (fun _ => true) held n2 3 [c1] = some y0 := u0
    have u1 : DataW.trod enc Tryz.prog w base (fun _ => true) held n2 3 [c2] = some y1 := u1
    obtain ⟨tk, q1, _, _⟩ := DataW.trod_int Tryz.underlying3 u0
    obtain ⟨ta, q2, _, _⟩ := DataW.trod_int Tryz.underlying3 u1
    obtain ⟨ek, en, ea, et, s, n3, z, q3, _, hs⟩ := five_of_trod t2
    simp at q0 q1 q2 q3
    obtain ⟨r3, r4, r5, r6, r7⟩ := q3
    subst q0 q1 q2 r3 r4 r5 r6 r7
    exact ⟨k, tk, ta, ek, en, ea, et, _, c8, c9, n1, z, x3, x4, rfl, by omega, ⟨n3, hs⟩, t3, t4⟩

set_option maxRecDepth 100000 in
theorem sr_of_trod {H : Type} {enc : TypeId × Value → H} {w : World} {base : Nat} {held : Bool} (n : Nat) : ∀ {v : Value} {y : DataW H × List MemPlace},
    DataW.trod enc Tryz.prog w base (fun _ => true) held n 22 [v] = some y → ∃ ss, SR w 0 w.heap.size v ss := by
  induction n using Nat.strongRecOn with
  | ind n ih =>
    intro v y h
    rcases DataW.trod_slice Tryz.underlying22 h with ⟨hcs, _⟩ | ⟨a, len, cap, elems, rest, n1, hn1, hcs, _, hb, hl, hm, hel, he, _, _⟩
    · obtain rfl : v = .slice none 0 0 := by simpa using hcs
      exact ⟨[], .nil none 0 (Nat.zero_le _)⟩
    · obtain rfl : v = .slice (some a) len cap := by simpa using hcs
      by_cases h0 : len = 0
      · subst h0; exact ⟨[], .nil (some a) cap hm⟩
      have hc : Tryz.prog.cellsOf 37 = 10 := by kernel_rfl
      rw [hc] at he
      obtain ⟨b, off, spot⟩ := a
      have hsp : spot = none := by
        have h1 := he 0 (by omega)
        rw [List.getElem?_eq_getElem (by omega)] at h1
        obtain ⟨cs, hcs, ht⟩ := Option.bind_eq_some_iff.mp h1
        obtain ⟨k, tk, ta, ek, en, ea, et, s1, s2, s3, n', z1, z2, z3, rfl, hn', hs1, hs2, hs3⟩ := ten_of_trod ht
        have z0 := (World.cells?_some hcs).2.2 0 (by omega)
        have := World.cell?_spot (z0.trans rfl)
        simpa [Go.Addr.add] using this
      subst hsp
      have ad : ∀ i j, ((⟨b, off, none⟩ : Go.Addr).add (i * 10)).add j = ⟨b, off + i * 10 + j, none⟩ := fun i j => by
        rw [Addr.add_lit, Addr.add_lit]
      have part : ∀ i, i < len → ∃ (s : StmtD) (x y z : Value), (b < w.heap.size ∧ Cell10 w b (off + i * 10) s x y z) ∧ KR w 0 w.heap.size x s.e.kids ∧ SR w 0 w.heap.size y s.th ∧ SR w 0 w.heap.size z s.el := by
        intro i hi
        have h1 := he i hi
        rw [List.getElem?_eq_getElem (by omega)] at h1
        obtain ⟨cs, hcs, ht⟩ := Option.bind_eq_some_iff.mp h1
        obtain ⟨k, tk, ta, ek, en, ea, et, s1, s2, s3, n', z1, z2, z3, rfl, hn', ⟨m, hs1⟩, hs2, hs3⟩ := ten_of_trod ht
        obtain ⟨es, hes⟩ := kr_of_trod m hs1
        obtain ⟨th, hth⟩ := ih n' (by omega) hs2
        obtain ⟨el, hel'⟩ := ih n' (by omega) hs3
        obtain ⟨_, _, hcell⟩ := World.cells?_some hcs
        have z0 := hcell 0 (by omega)
        rw [ad] at z0
        have hb' : b < w.heap.size := World.block_lt_of_cell? w _ (z0.trans rfl)
        refine ⟨.mk k tk ta (.mk ek en ea et es) th el, s1, s2, s3, ⟨hb', ?_, ?_, ?_, ?_, ?_, ?_, ?_, ?_, ?_, ?_⟩, hes, hth, hel'⟩
        · have := hcell 0 (by omega); rw [ad] at this; exact this
        · have := hcell 1 (by omega); rw [ad] at this; exact this
        · have := hcell 2 (by omega); rw [ad] at this; exact this
        · have := hcell 3 (by omega); rw [ad] at this; exact this
        · have := hcell 4 (by omega); rw [ad] at this; exact this
        · have := hcell 5 (by omega); rw [ad] at this; exact this
        · have := hcell 6 (by omega); rw [ad] at this; exact this
        · have := hcell 7 (by omega); rw [ad] at this; exact this
        · have := hcell 8 (by omega); rw [ad] at this; exact this
        · have := hcell 9 (by omega); rw [ad] at this; exact this
      obtain ⟨ss, x, y, z, hlen, hp⟩ := list_ofT len part
      have h00 : ∃ e, ss[0]? = some e := ⟨ss[0]'(by omega), List.getElem?_eq_getElem _⟩
      obtain ⟨e0, he0⟩ := h00
      obtain ⟨⟨hb', _⟩, _⟩ := hp 0 e0 he0
      refine ⟨ss, ?_⟩
      rw [← hlen]
      exact .cons b off cap ss x y z (by intro h; rw [h] at hlen; simp at hlen; omega) (by omega) hm (Nat.zero_le _) hb' (fun i e hie => (hp i e hie).1.2) (fun i e hie => (hp i e hie).2.1) (fun i e hie => (hp i e hie).2.2.1) fun i e hie => (hp i e hie).2.2.2
end Go.Proofs.YtkeockippmmneaaGreat
