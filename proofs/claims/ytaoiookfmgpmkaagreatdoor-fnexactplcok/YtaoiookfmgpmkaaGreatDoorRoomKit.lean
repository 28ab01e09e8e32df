/-
  A piece of a block that may be written (Room), and what calls that write leave of numbers outside of it.
-/
import Derived.Test.YtaoiookfmgpmkaaGreatDoorGenKit
import Derived.Test.YtaoiookfmgpmkaaGreatDoorAppend
import Derived.Test.YtaoiookfmgpmkaaGreatDoorHeldKit
namespace Go.Proofs.YtaoiookfmgpmkaaGreatDoor
open Go.ChangeShapes Go.WideShapes Go.ChangeAt Go.RowKit
set_option linter.unusedVariables false

/-- A row that grew is numbers of one's own. -/
theorem RowZ.oi {w : World} {base : Nat} {v : Value} {xs : List Int} (h : RowZ w base v xs) : OI w base w.heap.size v xs := oi_of_owns h

/-- A piece of a block that may be written, and what has been written was written into that block. -/
structure Room (w : World) (g off m : Nat) (wr : World) : Prop where
  out : Out g (g + 1) w wr
  lt : g < wr.heap.size
  some_ : ∀ x, off ≤ x → x < off + m → (wr.cell? ⟨g, x, none⟩).isSome = true
  frozen : ∀ x, wr.frozen? ⟨g, off + x, none⟩ = false

theorem Room.fz {w wr : World} {g off m : Nat} (h : Room w g off m wr) (x : Nat) (hx : off ≤ x) : wr.frozen? ⟨g, x, none⟩ = false := by
  have := h.frozen (x - off)
  rwa [Nat.add_sub_cancel' hx] at this

theorem Room.next {w wr u : World} {g off m x : Nat} {z : Value} (h : Room w g off m wr) (hL : LaidG wr u g x [z]) : Room w g off m u := by
  have hb := hL.below 0 wr (Nat.zero_le _) (Below.refl _ _)
  refine ⟨h.out.trans ⟨hb.os, hb.tape, hb.output, by rw [hL.size]; exact Nat.le_refl _, fun q hq hr => hL.block q (by omega)⟩, by rw [hL.size]; exact h.lt, fun y h1 h2 => ?_, fun y => by rw [hL.frozen]; exact h.frozen y⟩
  by_cases e : y = x
  · subst e
    have := hL.cv 0 z rfl
    rw [Nat.add_zero] at this
    rw [this]; rfl
  · rw [hL.cell _ _ (by simp only [List.length_cons, List.length_nil]; omega)]
    exact h.some_ y h1 h2

theorem room_of {α : Type} {E : Elem α} {w : World} {hi b off : Nat} {xs : List α} (hhi : hi ≤ w.heap.size) (h4 : b < hi)
    (h5 : ∀ (i : Nat) (x : α), xs[i]? = some x → CV w b (off + i * E.k) (E.cells x)) (h6 : ∀ o, w.frozen? ⟨b, off + o, none⟩ = false) (hl : ∀ x, (E.cells x).length = E.k) (hk : 0 < E.k) : Room w b off (xs.length * E.k) w := by
  refine ⟨⟨rfl, rfl, rfl, Nat.le_refl _, fun _ _ _ => rfl⟩, by omega, fun x h1 h2 => ?_, h6⟩
  have hq : (x - off) / E.k < xs.length := by
    rw [Nat.div_lt_iff_lt_mul hk]; omega
  have hm : (x - off) % E.k < E.k := Nat.mod_lt _ hk
  have hd := Nat.div_add_mod (x - off) E.k
  have hc := h5 _ _ (List.getElem?_eq_getElem hq) ((x - off) % E.k) _ (List.getElem?_eq_getElem (by rw [hl]; exact hm))
  have e : off + (x - off) / E.k * E.k + (x - off) % E.k = x := by rw [Nat.mul_comm] at hd; omega
  rw [e] at hc
  rw [hc]; rfl

theorem Out.widen {lo hi lo' hi' : Nat} {w u : World} (h : Out lo hi w u) (h1 : lo' ≤ lo) (h2 : hi ≤ hi') : Out lo' hi' w u :=
  ⟨h.os, h.tape, h.output, h.size, fun k hk ho => h.block k hk (by omega)⟩
theorem OI.out {w w' : World} {lo hi lo' hi' : Nat} {v : Value} {xs : List Int} (h : OI w lo hi v xs) (g : Out lo' hi' w w') (h1 : hi ≤ lo' ∨ hi' ≤ lo) (hs : hi ≤ w.heap.size) : OI w' lo hi v xs :=
  h.kept fun k q1 q2 => g.block k (by omega) (by omega)
theorem OI.footR {w : World} {lo hi : Nat} {v : Value} {xs : List Int} (h : OI w lo hi v xs) {b o : Nat} (f : Foot v xs.length b o) : lo ≤ b ∧ b < hi := by
  obtain ⟨g, off, l, cap, hv, hb, h1, h2⟩ := f
  rcases h with ⟨rfl, a, c, hv', _⟩ | ⟨g', off', cap', hv', _, _, h3, h4, _⟩
  · simp at h2; omega
  · rw [hv'] at hv
    simp only [Value.slice.injEq, Option.some.injEq, Addr.mk.injEq, and_true] at hv
    obtain ⟨⟨rfl, _⟩, _⟩ := hv
    omega

theorem OI.wroteOut {w w' : World} {lo hi : Nat} {v : Value} {xs : List Int} (h : OI w lo hi v xs) (g : Wrote (Foot v xs.length) w w') (hs : hi ≤ w.heap.size) : Out lo hi w w' :=
  ⟨g.os, g.tape, g.output, by rw [g.size]; exact Nat.le_refl _, fun k hk ho => g.block k fun o f => by have := h.footR f; omega⟩
end Go.Proofs.YtaoiookfmgpmkaaGreatDoor
