/-
  FnExactAddrText and FnExactAddrRead, walked at every argument.
-/
import Derived.Test.YtcanljckhjoooaaDoorAddrRead
namespace Go.Proofs.YtcanljckhjoooaaDoor
open Go.ChangeShapes Go.WideShapes Go.ChangeAt Go.RowKit
set_option linter.unusedVariables false

set_option maxHeartbeats 1000000 in
theorem exactAddrText_walk (w : World) (a : AddrD) :
    Calls Tryd.prog 3 #[a.val] w fun e w' => e = .returned (.bool true) ∧ Below w.heap.size w w' := by
  obtain ⟨k, t⟩ := a
  have hta := fun W => toAddr_any W ⟨k, t⟩
  have hsp := fun W => sAddrText_any W k t
  have him := fun W => iAddrText_any W k t
  have ea : AddrD.val ⟨k, t⟩ = .agg #[.int .i64 k, .int .i64 t] := rfl
  rw [ea] at *
  clear ea
  generalize addrText ⟨k, t⟩ = tx at *
  have hnq : (tx.toList == tx.toList) = true := by simp
  go_enter Tryd.func3, Tryd.ntmps3
  go_wp2_with fail
  obtain ⟨u0, hu0, G0, c0, c1, S0⟩ : ∃ u0, w.alloc (.cells #[.int .i64 k, .int .i64 t] 23) = u0 ∧ Below w.heap.size w u0 ∧ u0.cell? ⟨w.heap.size, 0, none⟩ = some (.int .i64 k) ∧ u0.cell? ⟨w.heap.size, 1, none⟩ = some (.int .i64 t) ∧ u0.heap.size = w.heap.size + 1 :=
    ⟨_, rfl, (Below.refl w.heap.size w).alloc (Nat.le_refl _) _, World.cell?_alloc_new _ _ _ _, World.cell?_alloc_new _ _ _ _, by simp⟩
  rw [hu0]
  clear hu0
  refine (hta _).mono ?_
  rintro e u1 ⟨rfl, g1⟩
  go_wp2_with fail
  refine (hsp _).mono ?_
  rintro e u2 ⟨rfl, g2⟩
  have g12 := below_two g1 g2
  have S2 := g12.size
  rw [← g12.cell (p := ⟨w.heap.size, 0, none⟩) (by show w.heap.size < u0.heap.size; omega)] at c0
  rw [← g12.cell (p := ⟨w.heap.size, 1, none⟩) (by show w.heap.size < u0.heap.size; omega)] at c1
  have G2 := G0.trans (g12.mono (by omega))
  clear g1 g2 g12 G0
  go_wp2_with fail
  refine (hta _).mono ?_
  rintro e u3 ⟨rfl, g3⟩
  go_wp2_with fail
  refine (him _).mono ?_
  rintro e u4 ⟨rfl, g4⟩
  have G4 := G2.trans ((below_two g3 g4).mono (by omega))
  clear g3 g4 G2 hta hsp him c0 c1
  go_wp2
  go_ret
  exact ⟨rfl, G4⟩

set_option maxHeartbeats 1000000 in
theorem exactAddrRead_walk (w : World) (s : ByteArray) (hs : s.size ≤ maxLen) :
    Calls Tryd.prog 4 #[.string s] w fun e w' => e = .returned (.bool true) ∧ Below w.heap.size w w' := by
  have hsp := fun W => sAddrRead_any W s hs
  have him := fun W => iAddrRead_any W s
  unfold maxLen at hs
  by_cases hb : (1048576 : Int) < s.size
  · go_enter Tryd.func4, Tryd.ntmps4
    go_wp2
    go_ret
    exact ⟨rfl, Below.refl _ _⟩
  · obtain ⟨⟨⟨k, t⟩, ok⟩, ha⟩ : ∃ a, addrRead s = a := ⟨_, rfl⟩
    rw [ha] at hsp him
    have heq := fun W => eqAddr_any W ⟨k, t⟩ ⟨k, t⟩
    have ea : AddrD.val ⟨k, t⟩ = .agg #[.int .i64 k, .int .i64 t] := rfl
    simp only [decide_true] at heq
    simp only at hsp him
    rw [ea] at hsp him heq
    clear ea ha
    go_enter Tryd.func4, Tryd.ntmps4
    go_wp2_with fail
    refine (hsp _).mono ?_
    rintro e u1 ⟨rfl, G1⟩
    have S1 := G1.size
    go_wp2_with fail
    obtain ⟨u2, hu2, G2, c0, c1, S2⟩ : ∃ u2, u1.alloc (.cells #[.int .i64 k, .int .i64 t] 25) = u2 ∧ Below w.heap.size w u2 ∧ u2.cell? ⟨u1.heap.size, 0, none⟩ = some (.int .i64 k) ∧ u2.cell? ⟨u1.heap.size, 1, none⟩ = some (.int .i64 t) ∧ u2.heap.size = u1.heap.size + 1 :=
      ⟨_, rfl, G1.alloc (by omega) _, World.cell?_alloc_new _ _ _ _, World.cell?_alloc_new _ _ _ _, by simp⟩
    rw [hu2]
    clear hu2 G1
    refine (him _).mono ?_
    rintro e u3 ⟨rfl, g3⟩
    have S3 := g3.size
    rw [← g3.cell (p := ⟨u1.heap.size, 0, none⟩) (by show u1.heap.size < u2.heap.size; omega)] at c0
    rw [← g3.cell (p := ⟨u1.heap.size, 1, none⟩) (by show u1.heap.size < u2.heap.size; omega)] at c1
    have G3 := G2.trans (g3.mono (by omega))
    have lt3 : u1.heap.size < u3.heap.size := by omega
    clear g3 G2 hsp him
    go_wp2_with fail
    have g4 := (Below.refl u3.heap.size u3).alloc (Nat.le_refl _) (.cells #[.int .i64 k, .int .i64 t] 25)
    refine (heq _).mono ?_
    rintro e u5 ⟨rfl, g5⟩
    have G5 := G3.trans ((below_two g4 g5).mono (by omega))
    clear g4 g5 G3 heq c0 c1
    cases ok with
    | true =>
      go_wp2
      go_ret
      exact ⟨rfl, G5⟩
    | false =>
      go_wp2
      go_ret
      exact ⟨rfl, G5⟩
end Go.Proofs.YtcanljckhjoooaaDoor
