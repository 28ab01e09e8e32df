/-
  impl.cellsOf at any memory; impl.MemSame.
-/
import Derived.Test.YtdhpbiplkjpiiaaGreatDoorImplD
import Derived.Test.YtdhpbiplkjpiiaaGreatDoorImplA
import Derived.Test.YtdhpbiplkjpiiaaGreatDoorMemSpec
namespace Go.Proofs.YtdhpbiplkjpiiaaGreatDoor
open Go.ChangeShapes Go.WideShapes Go.ChangeAt Go.RowKit
set_option linter.unusedVariables false
set_option maxRecDepth 100000

theorem fits_len {d : MemD} (h : fits d = true) : d.i.length = 6 ∧ d.o.length = 6 ∧ d.v.length = 6 := by
  simp [fits] at h; omega

/-- What cellsOf copies. -/
def cellG (d : MemD) : Nat → Int := if fits d then cellF d else fun _ => 0

theorem Box18.wrote {u u' : World} {B B' : Nat} {g : Nat → Int} (h : Box18 u B g) (hw : Wrote (fun b o => b = B') u u') (hne : B ≠ B') : Box18 u' B g := fun j hj => by
  rw [hw.cell _ _ hne]; exact h j hj

theorem Box3.wrote {u u' : World} {B B' : Nat} {x y z : Value} (h : Box3 u B x y z) (hw : Wrote (fun b o => b = B') u u') (hne : B ≠ B') : Box3 u' B x y z :=
  ⟨by rw [hw.cell _ _ hne]; exact h.c0, by rw [hw.cell _ _ hne]; exact h.c1, by rw [hw.cell _ _ hne]; exact h.c2⟩

theorem Box2.wrote {u u' : World} {B B' : Nat} {x y : Value} (h : Box2 u B x y) (hw : Wrote (fun b o => b = B') u u') (hne : B ≠ B') : Box2 u' B x y :=
  ⟨by rw [hw.cell _ _ hne]; exact h.c0, by rw [hw.cell _ _ hne]; exact h.c1⟩

theorem cellsOf_any (w : World) (lo hi : Nat) (m : Value) (d : MemD) (h : MI w lo hi m d) (hhi : hi ≤ w.heap.size) :
    Calls Tryz.prog 38 #[m] w fun e w' => e = .returned (.tuple #[cv (cellG d), .bool (fits d)]) ∧ Below w.heap.size w w' := by
  unfold cellG
  cases hf : fits d with
  | false => exact cellsOf_no w lo hi m d h hf
  | true =>
    obtain ⟨h1, h2, h3⟩ := fits_len hf
    obtain ⟨e1, e2, e3⟩ := cellF_i h1 h2 h3
    obtain ⟨a, b, c, rfl, ha, hb, hc⟩ := h
    rw [e1] at ha
    rw [e2] at hb
    rw [e3] at hc
    obtain ⟨p1, o1, q1, rfl, k1, c0, c1, c2, c3, c4, c5⟩ := si_six ha
    obtain ⟨p2, o2, q2, rfl, k2, d0, d1, d2, d3, d4, d5⟩ := si_six hb
    obtain ⟨p3, o3, q3, rfl, k3, f0, f1, f2, f3, f4, f5⟩ := si_six hc
    exact cellsOf_six w (cellF d) p1 p2 p3 o1 o2 o3 q1 q2 q3 (by omega) (by omega) (by omega) c0 c1 c2 c3 c4 c5 d0 d1 d2 d3 d4 d5 f0 f1 f2 f3 f4 f5

theorem sameF_of {f g : Nat → Int} : sameF f g = true ↔ memOf f = memOf g := by
  unfold sameF
  constructor
  · intro h
    have hj : ∀ j, j < 18 → f j = g j := fun j hj => by
      have := List.all_eq_true.mp h j (List.mem_range.mpr hj)
      simpa using this
    unfold memOf
    rw [hj 0 (by omega), hj 1 (by omega), hj 2 (by omega), hj 3 (by omega), hj 4 (by omega), hj 5 (by omega), hj 6 (by omega), hj 7 (by omega), hj 8 (by omega), hj 9 (by omega), hj 10 (by omega), hj 11 (by omega), hj 12 (by omega), hj 13 (by omega), hj 14 (by omega), hj 15 (by omega), hj 16 (by omega), hj 17 (by omega)]
  · intro h
    unfold memOf at h
    simp only [MemD.mk.injEq, List.cons.injEq, and_true] at h
    obtain ⟨⟨h0, h1, h2, h3, h4, h5⟩, ⟨h6, h7, h8, h9, h10, h11⟩, h12, h13, h14, h15, h16, h17⟩ := h
    simp [List.range, List.range.loop, h0, h1, h2, h3, h4, h5, h6, h7, h8, h9, h10, h11, h12, h13, h14, h15, h16, h17]

theorem same_fits {d e : MemD} (hd : fits d = true) (he : fits e = true) : sameF (cellF d) (cellF e) = decide (d = e) := by
  obtain ⟨h1, h2, h3⟩ := fits_len hd
  obtain ⟨k1, k2, k3⟩ := fits_len he
  have hs := sameF_of (f := cellF d) (g := cellF e)
  rw [memOf_cellF h1 h2 h3, memOf_cellF k1 k2 k3] at hs
  cases hq : sameF (cellF d) (cellF e) with
  | true => exact (decide_eq_true (hs.mp hq)).symm
  | false => exact (decide_eq_false fun h => by rw [hs.mpr h] at hq; cases hq).symm

end Go.Proofs.YtdhpbiplkjpiiaaGreatDoor
