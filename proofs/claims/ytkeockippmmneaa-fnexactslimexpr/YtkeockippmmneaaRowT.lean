/-
  Worlds in which but one row of all old blocks may have changed; variables of three cells.
-/
import Derived.Test.YtkeockippmmneaaKit
namespace Go.Proofs.Ytkeockippmmneaa
open Go.ChangeShapes Go.WideShapes Go.ChangeAt Go.RowKit
set_option linter.unusedVariables false

/-- The reader's block and the list's own row may have changed, of all old blocks. -/
structure RowR (B : Nat) (row : Option Nat) (u u' : World) : Prop where
  os : u'.os = u.os
  tape : u'.tape = u.tape
  output : u'.output = u.output
  size : u.heap.size ≤ u'.heap.size
  block : ∀ k, k < u.heap.size → k ≠ B → some k ≠ row → u'.heap[k]? = u.heap[k]?

theorem RowR.refl (B : Nat) (row : Option Nat) (u : World) : RowR B row u u := ⟨rfl, rfl, rfl, Nat.le_refl _, fun _ _ _ _ => rfl⟩
theorem RowR.trans {B : Nat} {row : Option Nat} {a b c : World} (h : RowR B row a b) (k : RowR B row b c) : RowR B row a c :=
  ⟨k.os.trans h.os, k.tape.trans h.tape, k.output.trans h.output, Nat.le_trans h.size k.size, fun i h1 h2 h3 => (k.block i (Nat.lt_of_lt_of_le h1 h.size) h2 h3).trans (h.block i h1 h2 h3)⟩
theorem RowR.of_below {B : Nat} {row : Option Nat} {u u' : World} (h : Below u.heap.size u u') : RowR B row u u' := ⟨h.os, h.tape, h.output, h.size, fun k hk _ _ => h.block k hk⟩
theorem RowR.of_grown {B : Nat} {row : Option Nat} {u u' : World} (h : u.grownBy u' row) (ho : u'.os = u.os) (ht : u'.tape = u.tape) (hp : u'.output = u.output) : RowR B row u u' := ⟨ho, ht, hp, h.size, fun k hk _ hne => h.block k hk hne⟩

/-- Of all old blocks the list's own row alone may have changed. -/
abbrev RowA (row : Option Nat) (u u' : World) : Prop := ∀ B, RowR B row u u'

theorem RowA.block {row : Option Nat} {u u' : World} (h : RowA row u u') (k : Nat) (h1 : k < u.heap.size) (h2 : some k ≠ row) : u'.heap[k]? = u.heap[k]? := (h (k + 1)).block k h1 (by omega) h2

/-- Three values in one block that may be written. -/
structure Three (u : World) (V : Nat) (x y z : Value) : Prop where
  c0 : u.cell? ⟨V, 0, none⟩ = some x
  c1 : u.cell? ⟨V, 1, none⟩ = some y
  c2 : u.cell? ⟨V, 2, none⟩ = some z
  f : ∀ o, u.frozen? ⟨V, o, none⟩ = false

theorem three_new (u : World) (x y z : Value) (t : TypeId) : Three (u.alloc (.cells #[x, y, z] t)) u.heap.size x y z :=
  ⟨World.cell?_alloc_new _ _ _ _, World.cell?_alloc_new _ _ _ _, World.cell?_alloc_new _ _ _ _, fun o => World.frozen?_alloc_new _ _ _ _⟩
theorem Three.at_ {u u' : World} {V : Nat} {x y z : Value} (h : Three u V x y z) (hk : u'.heap[V]? = u.heap[V]?) : Three u' V x y z :=
  ⟨by rw [World.cell?_of_block (w := u) hk]; exact h.c0, by rw [World.cell?_of_block (w := u) hk]; exact h.c1, by rw [World.cell?_of_block (w := u) hk]; exact h.c2, fun i => by rw [World.frozen?_of_block (w := u) hk]; exact h.f i⟩
theorem Three.set0 {u : World} {V : Nat} {x y z : Value} (h : Three u V x y z) (v : Value) : Three (u.setCell ⟨V, 0, none⟩ v) V v y z :=
  ⟨World.cell?_setCell_same' _ _ _ (by rw [h.c0]; rfl), by rw [cell_set_other u (.inr (by decide))]; exact h.c1, by rw [cell_set_other u (.inr (by decide))]; exact h.c2, fun o => by rw [World.frozen?_setCell]; exact h.f o⟩
theorem Three.set1 {u : World} {V : Nat} {x y z : Value} (h : Three u V x y z) (v : Value) : Three (u.setCell ⟨V, 1, none⟩ v) V x v z :=
  ⟨by rw [cell_set_other u (.inr (by decide))]; exact h.c0, World.cell?_setCell_same' _ _ _ (by rw [h.c1]; rfl), by rw [cell_set_other u (.inr (by decide))]; exact h.c2, fun o => by rw [World.frozen?_setCell]; exact h.f o⟩
theorem Three.set2 {u : World} {V : Nat} {x y z : Value} (h : Three u V x y z) (v : Value) : Three (u.setCell ⟨V, 2, none⟩ v) V x y v :=
  ⟨by rw [cell_set_other u (.inr (by decide))]; exact h.c0, by rw [cell_set_other u (.inr (by decide))]; exact h.c1, World.cell?_setCell_same' _ _ _ (by rw [h.c2]; rfl), fun o => by rw [World.frozen?_setCell]; exact h.f o⟩

theorem three_store {u : World} {R : Nat} {a b c : Value} (h : Three u R a b c) (x y z : Value) :
    ∃ u1, ((u.setCell ⟨R, 0, none⟩ x).setCell ⟨R, 1, none⟩ y).setCell ⟨R, 2, none⟩ z = u1 ∧ Three u1 R x y z ∧ (∀ k, k ≠ R → u1.heap[k]? = u.heap[k]?) ∧ u1.heap.size = u.heap.size ∧ Below R u u1 :=
  ⟨_, rfl, ((h.set0 _).set1 _).set2 _, fun k hk => by rw [Below.heap_setCell _ _ _ _ hk, Below.heap_setCell _ _ _ _ hk, Below.heap_setCell _ _ _ _ hk], by simp, (((Below.refl _ _).setCell (p := ⟨R, 0, none⟩) (Nat.le_refl _) _).setCell (p := ⟨R, 1, none⟩) (Nat.le_refl _) _).setCell (p := ⟨R, 2, none⟩) (Nat.le_refl _) _⟩
end Go.Proofs.Ytkeockippmmneaa
