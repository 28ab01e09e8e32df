/-
  Draws from a reader: what is drawn lies in new blocks, and of the old blocks the reader's own alone is written.
-/
import Derived.Test.YtgfoimleoekkiaaDraw
import Derived.Test.YtgfoimleoekkiaaOutKit
namespace Go.Proofs.Ytgfoimleoekkiaa
open Go.ChangeShapes Go.WideShapes Go.ChangeAt Go.RowKit
set_option linter.unusedVariables false

/-- A reader at block B, at most at place q. -/
def RdQ (n0 B : Nat) (a : Option Addr) (len cap : Nat) (q : Int) (u : World) : Prop := ∃ p, p ≤ q ∧ Rd n0 u B a len cap p

/-- Of the old blocks B alone may have changed. -/
abbrev Aside (B : Nat) (u u' : World) : Prop := Out B (B + 1) u u'

theorem Aside.refl (B : Nat) (u : World) : Aside B u u := ⟨rfl, rfl, rfl, Nat.le_refl _, fun _ _ _ => rfl⟩
theorem aside_trans (B : Nat) (a b c : World) (h : Aside B a b) (k : Aside B b c) : Aside B a c := h.trans k
theorem aside_of {B : Nat} {u u' : World} (h : Below u.heap.size u u') : Aside B u u' := out_of_below h _ _
theorem aside_drew (B : Nat) (u : World) : Aside B u u.drew := aside_of (Below.drew (Below.refl _ _))
theorem aside_alloc (B : Nat) (u : World) (o : Obj) : Aside B u (u.alloc o) := aside_of ((Below.refl _ _).alloc (Nat.le_refl _) o)
theorem Out.at_ {B : Nat} {u u' : World} (h : Aside B u u') {k : Nat} (hk : k < u.heap.size) (hne : k ≠ B) : u'.heap[k]? = u.heap[k]? := h.block k hk (by omega)
theorem Out.cellAt {B : Nat} {u u' : World} (h : Aside B u u') {k o : Nat} (hk : k < u.heap.size) (hne : k ≠ B) : u'.cell? ⟨k, o, none⟩ = u.cell? ⟨k, o, none⟩ :=
  World.cell?_of_block (w := u) (h.at_ hk hne)
theorem Out.frozenAt {B : Nat} {u u' : World} (h : Aside B u u') {k o : Nat} (hk : k < u.heap.size) (hne : k ≠ B) : u'.frozen? ⟨k, o, none⟩ = u.frozen? ⟨k, o, none⟩ :=
  World.frozen?_of_block (w := u) (h.at_ hk hne)
theorem Out.old {B n : Nat} {u u' : World} (h : Aside B u u') (hn : n ≤ B) (hB : n ≤ u.heap.size) : Below n u u' := Out.below h hn hB

theorem Out.setNew {B : Nat} {w u : World} (h : Aside B w u) {b o : Nat} (hb : w.heap.size ≤ b) (v : Value) : Aside B w (u.setCell ⟨b, o, none⟩ v) :=
  ⟨h.os, h.tape, h.output, by rw [World.size_setCell]; exact h.size, fun k hk hne => by rw [Below.heap_setCell _ _ _ _ (show k ≠ b by omega)]; exact h.block k hk hne⟩

theorem RdQ.kept {n0 B : Nat} {a : Option Addr} {len cap : Nat} {q : Int} {u u' : World} (h : RdQ n0 B a len cap q u) (hb : Below u.heap.size u u') : RdQ n0 B a len cap q u' := by
  obtain ⟨p, hp, hr⟩ := h; exact ⟨p, hp, hr.kept hb⟩
theorem RdQ.mono {n0 B : Nat} {a : Option Addr} {len cap : Nat} {q q' : Int} {u : World} (h : RdQ n0 B a len cap q u) (hq : q ≤ q') : RdQ n0 B a len cap q' u := by
  obtain ⟨p, hp, hr⟩ := h; exact ⟨p, by omega, hr⟩
theorem RdQ.lo {n0 B : Nat} {a : Option Addr} {len cap : Nat} {q : Int} {u : World} (h : RdQ n0 B a len cap q u) : n0 ≤ B := by obtain ⟨p, _, hr⟩ := h; exact hr.lo
theorem RdQ.hi {n0 B : Nat} {a : Option Addr} {len cap : Nat} {q : Int} {u : World} (h : RdQ n0 B a len cap q u) : B < u.heap.size := by obtain ⟨p, _, hr⟩ := h; exact hr.hi
theorem RdQ.nn {n0 B : Nat} {a : Option Addr} {len cap : Nat} {q : Int} {u : World} (h : RdQ n0 B a len cap q u) : 0 ≤ q := by obtain ⟨p, hp, hr⟩ := h; have := hr.p0; omega

/-- A reader stays, where its own block stays and the bytes do. -/
theorem RdQ.block {n0 B : Nat} {a : Option Addr} {len cap : Nat} {q : Int} {u u' : World} (h : RdQ n0 B a len cap q u) (hs : u.heap.size ≤ u'.heap.size) (hk : ∀ k, k ≤ B → u'.heap[k]? = u.heap[k]?) : RdQ n0 B a len cap q u' := by
  obtain ⟨p, hp, lo, hi, c0, c1, f1, by8, sh, p0, p1⟩ := h
  refine ⟨p, hp, lo, by omega, by rw [World.cell?_of_block (w := u) (hk B (Nat.le_refl _))]; exact c0, by rw [World.cell?_of_block (w := u) (hk B (Nat.le_refl _))]; exact c1, by rw [World.frozen?_of_block (w := u) (hk B (Nat.le_refl _))]; exact f1, ?_, sh, p0, p1⟩
  rcases by8 with h0 | ⟨b, off, ha, hb', hc⟩
  · exact .inl h0
  · refine .inr ⟨b, off, ha, hb', fun i hi => ?_⟩
    rw [World.cell?_of_block (w := u) (hk b (by omega))]
    exact hc i hi

theorem RdQ.setCell {n0 B : Nat} {a : Option Addr} {len cap : Nat} {q : Int} {u : World} (h : RdQ n0 B a len cap q u) {b o : Nat} (hb : B < b) (v : Value) : RdQ n0 B a len cap q (u.setCell ⟨b, o, none⟩ v) :=
  h.block (by rw [World.size_setCell]; exact Nat.le_refl _) fun k hk => Below.heap_setCell _ _ _ _ (by show k ≠ b; omega)

theorem aside_pick {n0 : Nat} {w : World} {B : Nat} {a : Option Addr} {len cap : Nat} {p : Int} (v : Value) (m : Nat) : Aside B w ((w.setCell ⟨B, 1, none⟩ v).drewN m) := by
  have hb := below_drewN ((Below.refl B w).setCell (p := ⟨B, 1, none⟩) (Nat.le_refl _) v) m
  refine ⟨hb.os, hb.tape, hb.output, hb.size, fun k hk hne => ?_⟩
  show ((w.setCell ⟨B, 1, none⟩ v).drewN m).heap[k]? = _
  rw [show ((w.setCell ⟨B, 1, none⟩ v).drewN m).heap = (w.setCell ⟨B, 1, none⟩ v).heap by simp]
  exact Below.heap_setCell _ _ _ _ (by show k ≠ B; omega)

theorem pickQ (n0 : Nat) (w : World) (B : Nat) (a : Option Addr) (len cap : Nat) (q n : Int)
    (h : RdQ n0 B a len cap q w) (hn : 1 ≤ n) (hn' : n ≤ 1000000) (hq : q < 1000000) :
    Calls Try.prog 25 #[.pointer (some ⟨B, 0, none⟩), .int .i64 n] w fun e w' => ∃ r, e = .returned (.int .i64 r) ∧ 0 ≤ r ∧ r < n ∧ RdQ n0 B a len cap (q + 1) w' ∧ Aside B w w' := by
  obtain ⟨p, hp, hr⟩ := h
  exact (pick_any n0 w B a len cap p n hr hn hn').mono fun e w' ⟨r, m, he, h0, h1, hw⟩ => ⟨r, he, h0, h1, by rw [hw]; exact ⟨p + 1, by omega, hr.next (by omega) m⟩, by rw [hw]; exact aside_pick (n0 := n0) (a := a) (len := len) (cap := cap) (p := p) _ m⟩

theorem numQ (n0 : Nat) (w : World) (B : Nat) (a : Option Addr) (len cap : Nat) (q : Int) (g o L C : Nat)
    (h : RdQ n0 B a len cap q w) (hq : q < 1000000) (hL : 1 ≤ L) (hL' : L ≤ 1000000) (hg : g ≠ B)
    (hc : ∀ i, i < L → ∃ v, w.cell? ⟨g, o + i, none⟩ = some (.int .i64 v)) :
    Calls Try.prog 26 #[.pointer (some ⟨B, 0, none⟩), .slice (some ⟨g, o, none⟩) L C] w fun e w' => ∃ v i, e = .returned (.int .i64 v) ∧ i < L ∧ w.cell? ⟨g, o + i, none⟩ = some (.int .i64 v) ∧ RdQ n0 B a len cap (q + 1) w' ∧ Aside B w w' := by
  obtain ⟨p, hp, hr⟩ := h
  exact (num_any n0 w B a len cap p g o L C hr hL hL' hg hc).mono fun e w' ⟨v, m, i, hi, hv, he, hw⟩ => ⟨v, i, he, hi, hv, by rw [hw]; exact ⟨p + 1, by omega, hr.next (by omega) m⟩, by rw [hw]; exact aside_pick (n0 := n0) (a := a) (len := len) (cap := cap) (p := p) _ m⟩

set_option maxHeartbeats 400000 in
/-- A reader is opened over bytes: it lies in a new block, at its first place. -/
theorem open_low (n0 : Nat) (w : World) (a : Option Addr) (len cap : Nat) (hn0 : n0 ≤ w.heap.size) (hb : Bytes8 w n0 a len) (hlc : len ≤ cap) (hm : cap ≤ maxLen) :
    Calls Try.prog 23 #[.slice a len cap] w fun e w' => ∃ len', e = .returned (.pointer (some ⟨w.heap.size, 0, none⟩)) ∧ Rd n0 w' w.heap.size a len' cap 0 ∧ Below w.heap.size w w' := by
  unfold maxLen at hm
  have hsub : ∀ n, n ≤ len → n ≤ 2000 → Rd n0 (w.alloc (.cells #[.slice a n cap, .int .i64 0] 61)) w.heap.size a n cap 0 := by
    intro n hn hn'
    refine ⟨hn0, by simp, ?_, ?_, ?_, ?_, hn', by omega, by omega⟩
    · rw [World.cell?_alloc_new]; rfl
    · rw [World.cell?_alloc_new]; rfl
    · exact World.frozen?_alloc_new _ _ _ _
    · rcases hb with h0 | ⟨b, off, ha, hb', hc⟩
      · exact .inl (by omega)
      · refine .inr ⟨b, off, ha, hb', fun i hi => ?_⟩
        rw [World.cell?_alloc_lt _ _ _ (by show b < w.heap.size; omega)]
        exact hc i (by omega)
  by_cases h : 2000 < len
  · have H : Hid (Rd n0 (w.alloc (.cells #[.slice a 2000 cap, .int .i64 0] 61)) w.heap.size a 2000 cap 0) := hsub 2000 (by omega) (by omega)
    clear hsub
    go_enter Try.func23, Try.ntmps23
    go_wp2
    go_ret
    exact ⟨2000, rfl, H.out, (Below.refl _ _).alloc (Nat.le_refl _) _⟩
  · have H : Hid (Rd n0 (w.alloc (.cells #[.slice a len cap, .int .i64 0] 61)) w.heap.size a len cap 0) := hsub len (by omega) (by omega)
    clear hsub
    go_enter Try.func23, Try.ntmps23
    go_wp2
    go_ret
    exact ⟨len, rfl, H.out, (Below.refl _ _).alloc (Nat.le_refl _) _⟩

/-- Two cells of one block that may be written. -/
structure Pair (u : World) (B : Nat) (x y : Value) : Prop where
  c0 : u.cell? ⟨B, 0, none⟩ = some x
  c1 : u.cell? ⟨B, 1, none⟩ = some y
  f : ∀ o, u.frozen? ⟨B, o, none⟩ = false

theorem pair_new (u : World) (x y : Value) (t : TypeId) : Pair (u.alloc (.cells #[x, y] t)) u.heap.size x y :=
  ⟨World.cell?_alloc_new _ _ _ _, World.cell?_alloc_new _ _ _ _, fun o => World.frozen?_alloc_new _ _ _ _⟩
theorem Pair.aside {u u' : World} {B R : Nat} {x y : Value} (h : Pair u R x y) (ha : Aside B u u') (hR : R < u.heap.size) (hne : R ≠ B) : Pair u' R x y :=
  ⟨by rw [ha.cellAt hR hne]; exact h.c0, by rw [ha.cellAt hR hne]; exact h.c1, fun o => by rw [ha.frozenAt hR hne]; exact h.f o⟩

end Go.Proofs.Ytgfoimleoekkiaa
