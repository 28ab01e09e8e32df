/-
  The model's ChartNew. (Written by our generator gen_chartnews.py.)
-/
import Derived.Test.YtokphdpaghkakaaChartNewD
import Derived.Test.YtokphdpaghkakaaChartSpec
namespace Go.Proofs.Ytokphdpaghkakaa
open Go.ChangeShapes Go.WideShapes Go.ChangeAt Go.RowKit
set_option linter.unusedVariables false
set_option linter.unusedSimpArgs false
set_option maxRecDepth 100000

theorem zero_marks : (Try.prog.info? 38).map (fun i => (i.zero, i.size)) = some (some (.agg [zSl, zSl].toArray), 2) := by kernel_rfl

/-- Two lists that were made and a variable of them. -/
structure NewL (u2 u : World) (n b1 b2 d : Nat) : Prop where
  below : Below u2.heap.size u2 u
  l1 : GO bool2 u b1 (b1 + 1) (.slice (some ⟨b1, 0, none⟩) n n) (List.replicate n false)
  l2 : GO bool2 u b2 (b2 + 1) (.slice (some ⟨b2, 0, none⟩) 6 6) (List.replicate 6 false)
  dv : VarG u d [.slice (some ⟨b1, 0, none⟩) n n, .slice (some ⟨b2, 0, none⟩) 6 6]
  ne : b1 ≠ b2 ∧ b1 ≠ d ∧ b2 ≠ d
  in1 : u2.heap.size ≤ b1 ∧ b1 < u.heap.size
  in2 : u2.heap.size ≤ b2 ∧ b2 < u.heap.size
  in3 : u2.heap.size ≤ d ∧ d < u.heap.size

theorem new_abd (u2 : World) (n : Nat) (hn : n ≤ 1048576) : NewL u2 (((u2.alloc (.cells (madeCells #[Value.bool false] n) 4)).alloc (.cells (madeCells #[Value.bool false] 6) 4)).alloc (.cells #[.slice (some ⟨u2.heap.size, 0, none⟩) n n, .slice (some ⟨u2.heap.size + 1, 0, none⟩) 6 6] 38)).drew n (u2.heap.size) (u2.heap.size + 1) (u2.heap.size + 1 + 1) := by
  obtain ⟨w1, e1⟩ : ∃ x, (u2.alloc (.cells (madeCells #[Value.bool false] n) 4)) = x := ⟨_, rfl⟩
  have s1 : w1.heap.size = u2.heap.size + 1 := by rw [← e1]; simp
  have g1 : Below u2.heap.size u2 w1 := by rw [← e1]; exact (Below.refl _ _).alloc (Nat.le_refl _) _
  have Fa : GO bool2 w1 (u2.heap.size) (u2.heap.size + 1) (.slice (some ⟨u2.heap.size, 0, none⟩) n n) (List.replicate n false) := by
    have := made_go u2 n 4 (by omega)
    rw [← e1]; exact this
  obtain ⟨w2, e2⟩ : ∃ x, w1.alloc (.cells (madeCells #[Value.bool false] 6) 4) = x := ⟨_, rfl⟩
  have s2 : w2.heap.size = u2.heap.size + 1 + 1 := by rw [← e2, World.size_alloc]; omega
  have g2 : Below w1.heap.size w1 w2 := by rw [← e2]; exact (Below.refl _ _).alloc (Nat.le_refl _) _
  have Fb : GO bool2 w2 (u2.heap.size + 1) (u2.heap.size + 1 + 1) (.slice (some ⟨u2.heap.size + 1, 0, none⟩) 6 6) (List.replicate 6 false) := by
    have := made_go w1 6 4 (by omega)
    rw [s1] at this
    rw [← e2]; exact this
  replace Fa := Fa.under g2 (by omega)
  obtain ⟨w3, e3⟩ : ∃ x, w2.alloc (.cells #[.slice (some ⟨u2.heap.size, 0, none⟩) n n, .slice (some ⟨u2.heap.size + 1, 0, none⟩) 6 6] 38) = x := ⟨_, rfl⟩
  have s3 : w3.heap.size = u2.heap.size + 1 + 1 + 1 := by rw [← e3, World.size_alloc]; omega
  have g3 : Below w2.heap.size w2 w3 := by rw [← e3]; exact (Below.refl _ _).alloc (Nat.le_refl _) _
  have Fd : VarG w3 (u2.heap.size + 1 + 1) [.slice (some ⟨u2.heap.size, 0, none⟩) n n, .slice (some ⟨u2.heap.size + 1, 0, none⟩) 6 6] := by
    have := varG_new w2 [.slice (some ⟨u2.heap.size, 0, none⟩) n n, .slice (some ⟨u2.heap.size + 1, 0, none⟩) 6 6] 38
    rw [s2] at this
    rw [← e3]; exact this
  replace Fa := Fa.under g3 (by omega)
  replace Fb := Fb.under g3 (by omega)
  have G : Below u2.heap.size u2 w3 := (g1.trans (g2.mono (by omega))).trans (g3.mono (by omega))
  have gd : Below w3.heap.size w3 w3.drew := (Below.refl _ _).drew
  rw [e1, e2, e3]
  exact ⟨G.drew, Fa.under gd (by omega), Fb.under gd (by omega), Fd.below gd (by omega), by omega, ⟨by omega, by show _ < w3.heap.size; omega⟩, ⟨by omega, by show _ < w3.heap.size; omega⟩, ⟨by omega, by show _ < w3.heap.size; omega⟩⟩

theorem new_adb (u2 : World) (n : Nat) (hn : n ≤ 1048576) : NewL u2 (((u2.alloc (.cells (madeCells #[Value.bool false] n) 4)).alloc (.cells #[.slice (some ⟨u2.heap.size, 0, none⟩) n n, .slice (some ⟨u2.heap.size + 1 + 1, 0, none⟩) 6 6] 38)).alloc (.cells (madeCells #[Value.bool false] 6) 4)).drew n (u2.heap.size) (u2.heap.size + 1 + 1) (u2.heap.size + 1) := by
  obtain ⟨w1, e1⟩ : ∃ x, (u2.alloc (.cells (madeCells #[Value.bool false] n) 4)) = x := ⟨_, rfl⟩
  have s1 : w1.heap.size = u2.heap.size + 1 := by rw [← e1]; simp
  have g1 : Below u2.heap.size u2 w1 := by rw [← e1]; exact (Below.refl _ _).alloc (Nat.le_refl _) _
  have Fa : GO bool2 w1 (u2.heap.size) (u2.heap.size + 1) (.slice (some ⟨u2.heap.size, 0, none⟩) n n) (List.replicate n false) := by
    have := made_go u2 n 4 (by omega)
    rw [← e1]; exact this
  obtain ⟨w2, e2⟩ : ∃ x, w1.alloc (.cells #[.slice (some ⟨u2.heap.size, 0, none⟩) n n, .slice (some ⟨u2.heap.size + 1 + 1, 0, none⟩) 6 6] 38) = x := ⟨_, rfl⟩
  have s2 : w2.heap.size = u2.heap.size + 1 + 1 := by rw [← e2, World.size_alloc]; omega
  have g2 : Below w1.heap.size w1 w2 := by rw [← e2]; exact (Below.refl _ _).alloc (Nat.le_refl _) _
  have Fd : VarG w2 (u2.heap.size + 1) [.slice (some ⟨u2.heap.size, 0, none⟩) n n, .slice (some ⟨u2.heap.size + 1 + 1, 0, none⟩) 6 6] := by
    have := varG_new w1 [.slice (some ⟨u2.heap.size, 0, none⟩) n n, .slice (some ⟨u2.heap.size + 1 + 1, 0, none⟩) 6 6] 38
    rw [s1] at this
    rw [← e2]; exact this
  replace Fa := Fa.under g2 (by omega)
  obtain ⟨w3, e3⟩ : ∃ x, w2.alloc (.cells (madeCells #[Value.bool false] 6) 4) = x := ⟨_, rfl⟩
  have s3 : w3.heap.size = u2.heap.size + 1 + 1 + 1 := by rw [← e3, World.size_alloc]; omega
  have g3 : Below w2.heap.size w2 w3 := by rw [← e3]; exact (Below.refl _ _).alloc (Nat.le_refl _) _
  have Fb : GO bool2 w3 (u2.heap.size + 1 + 1) (u2.heap.size + 1 + 1 + 1) (.slice (some ⟨u2.heap.size + 1 + 1, 0, none⟩) 6 6) (List.replicate 6 false) := by
    have := made_go w2 6 4 (by omega)
    rw [s2] at this
    rw [← e3]; exact this
  replace Fa := Fa.under g3 (by omega)
  replace Fd := Fd.below g3 (by omega)
  have G : Below u2.heap.size u2 w3 := (g1.trans (g2.mono (by omega))).trans (g3.mono (by omega))
  have gd : Below w3.heap.size w3 w3.drew := (Below.refl _ _).drew
  rw [e1, e2, e3]
  exact ⟨G.drew, Fa.under gd (by omega), Fb.under gd (by omega), Fd.below gd (by omega), by omega, ⟨by omega, by show _ < w3.heap.size; omega⟩, ⟨by omega, by show _ < w3.heap.size; omega⟩, ⟨by omega, by show _ < w3.heap.size; omega⟩⟩

theorem new_bad (u2 : World) (n : Nat) (hn : n ≤ 1048576) : NewL u2 (((u2.alloc (.cells (madeCells #[Value.bool false] 6) 4)).alloc (.cells (madeCells #[Value.bool false] n) 4)).alloc (.cells #[.slice (some ⟨u2.heap.size + 1, 0, none⟩) n n, .slice (some ⟨u2.heap.size, 0, none⟩) 6 6] 38)).drew n (u2.heap.size + 1) (u2.heap.size) (u2.heap.size + 1 + 1) := by
  obtain ⟨w1, e1⟩ : ∃ x, (u2.alloc (.cells (madeCells #[Value.bool false] 6) 4)) = x := ⟨_, rfl⟩
  have s1 : w1.heap.size = u2.heap.size + 1 := by rw [← e1]; simp
  have g1 : Below u2.heap.size u2 w1 := by rw [← e1]; exact (Below.refl _ _).alloc (Nat.le_refl _) _
  have Fb : GO bool2 w1 (u2.heap.size) (u2.heap.size + 1) (.slice (some ⟨u2.heap.size, 0, none⟩) 6 6) (List.replicate 6 false) := by
    have := made_go u2 6 4 (by omega)
    rw [← e1]; exact this
  obtain ⟨w2, e2⟩ : ∃ x, w1.alloc (.cells (madeCells #[Value.bool false] n) 4) = x := ⟨_, rfl⟩
  have s2 : w2.heap.size = u2.heap.size + 1 + 1 := by rw [← e2, World.size_alloc]; omega
  have g2 : Below w1.heap.size w1 w2 := by rw [← e2]; exact (Below.refl _ _).alloc (Nat.le_refl _) _
  have Fa : GO bool2 w2 (u2.heap.size + 1) (u2.heap.size + 1 + 1) (.slice (some ⟨u2.heap.size + 1, 0, none⟩) n n) (List.replicate n false) := by
    have := made_go w1 n 4 (by omega)
    rw [s1] at this
    rw [← e2]; exact this
  replace Fb := Fb.under g2 (by omega)
  obtain ⟨w3, e3⟩ : ∃ x, w2.alloc (.cells #[.slice (some ⟨u2.heap.size + 1, 0, none⟩) n n, .slice (some ⟨u2.heap.size, 0, none⟩) 6 6] 38) = x := ⟨_, rfl⟩
  have s3 : w3.heap.size = u2.heap.size + 1 + 1 + 1 := by rw [← e3, World.size_alloc]; omega
  have g3 : Below w2.heap.size w2 w3 := by rw [← e3]; exact (Below.refl _ _).alloc (Nat.le_refl _) _
  have Fd : VarG w3 (u2.heap.size + 1 + 1) [.slice (some ⟨u2.heap.size + 1, 0, none⟩) n n, .slice (some ⟨u2.heap.size, 0, none⟩) 6 6] := by
    have := varG_new w2 [.slice (some ⟨u2.heap.size + 1, 0, none⟩) n n, .slice (some ⟨u2.heap.size, 0, none⟩) 6 6] 38
    rw [s2] at this
    rw [← e3]; exact this
  replace Fb := Fb.under g3 (by omega)
  replace Fa := Fa.under g3 (by omega)
  have G : Below u2.heap.size u2 w3 := (g1.trans (g2.mono (by omega))).trans (g3.mono (by omega))
  have gd : Below w3.heap.size w3 w3.drew := (Below.refl _ _).drew
  rw [e1, e2, e3]
  exact ⟨G.drew, Fa.under gd (by omega), Fb.under gd (by omega), Fd.below gd (by omega), by omega, ⟨by omega, by show _ < w3.heap.size; omega⟩, ⟨by omega, by show _ < w3.heap.size; omega⟩, ⟨by omega, by show _ < w3.heap.size; omega⟩⟩

theorem new_bda (u2 : World) (n : Nat) (hn : n ≤ 1048576) : NewL u2 (((u2.alloc (.cells (madeCells #[Value.bool false] 6) 4)).alloc (.cells #[.slice (some ⟨u2.heap.size + 1 + 1, 0, none⟩) n n, .slice (some ⟨u2.heap.size, 0, none⟩) 6 6] 38)).alloc (.cells (madeCells #[Value.bool false] n) 4)).drew n (u2.heap.size + 1 + 1) (u2.heap.size) (u2.heap.size + 1) := by
  obtain ⟨w1, e1⟩ : ∃ x, (u2.alloc (.cells (madeCells #[Value.bool false] 6) 4)) = x := ⟨_, rfl⟩
  have s1 : w1.heap.size = u2.heap.size + 1 := by rw [← e1]; simp
  have g1 : Below u2.heap.size u2 w1 := by rw [← e1]; exact (Below.refl _ _).alloc (Nat.le_refl _) _
  have Fb : GO bool2 w1 (u2.heap.size) (u2.heap.size + 1) (.slice (some ⟨u2.heap.size, 0, none⟩) 6 6) (List.replicate 6 false) := by
    have := made_go u2 6 4 (by omega)
    rw [← e1]; exact this
  obtain ⟨w2, e2⟩ : ∃ x, w1.alloc (.cells #[.slice (some ⟨u2.heap.size + 1 + 1, 0, none⟩) n n, .slice (some ⟨u2.heap.size, 0, none⟩) 6 6] 38) = x := ⟨_, rfl⟩
  have s2 : w2.heap.size = u2.heap.size + 1 + 1 := by rw [← e2, World.size_alloc]; omega
  have g2 : Below w1.heap.size w1 w2 := by rw [← e2]; exact (Below.refl _ _).alloc (Nat.le_refl _) _
  have Fd : VarG w2 (u2.heap.size + 1) [.slice (some ⟨u2.heap.size + 1 + 1, 0, none⟩) n n, .slice (some ⟨u2.heap.size, 0, none⟩) 6 6] := by
    have := varG_new w1 [.slice (some ⟨u2.heap.size + 1 + 1, 0, none⟩) n n, .slice (some ⟨u2.heap.size, 0, none⟩) 6 6] 38
    rw [s1] at this
    rw [← e2]; exact this
  replace Fb := Fb.under g2 (by omega)
  obtain ⟨w3, e3⟩ : ∃ x, w2.alloc (.cells (madeCells #[Value.bool false] n) 4) = x := ⟨_, rfl⟩
  have s3 : w3.heap.size = u2.heap.size + 1 + 1 + 1 := by rw [← e3, World.size_alloc]; omega
  have g3 : Below w2.heap.size w2 w3 := by rw [← e3]; exact (Below.refl _ _).alloc (Nat.le_refl _) _
  have Fa : GO bool2 w3 (u2.heap.size + 1 + 1) (u2.heap.size + 1 + 1 + 1) (.slice (some ⟨u2.heap.size + 1 + 1, 0, none⟩) n n) (List.replicate n false) := by
    have := made_go w2 n 4 (by omega)
    rw [s2] at this
    rw [← e3]; exact this
  replace Fb := Fb.under g3 (by omega)
  replace Fd := Fd.below g3 (by omega)
  have G : Below u2.heap.size u2 w3 := (g1.trans (g2.mono (by omega))).trans (g3.mono (by omega))
  have gd : Below w3.heap.size w3 w3.drew := (Below.refl _ _).drew
  rw [e1, e2, e3]
  exact ⟨G.drew, Fa.under gd (by omega), Fb.under gd (by omega), Fd.below gd (by omega), by omega, ⟨by omega, by show _ < w3.heap.size; omega⟩, ⟨by omega, by show _ < w3.heap.size; omega⟩, ⟨by omega, by show _ < w3.heap.size; omega⟩⟩

theorem new_dab (u2 : World) (n : Nat) (hn : n ≤ 1048576) : NewL u2 (((u2.alloc (.cells #[.slice (some ⟨u2.heap.size + 1, 0, none⟩) n n, .slice (some ⟨u2.heap.size + 1 + 1, 0, none⟩) 6 6] 38)).alloc (.cells (madeCells #[Value.bool false] n) 4)).alloc (.cells (madeCells #[Value.bool false] 6) 4)).drew n (u2.heap.size + 1) (u2.heap.size + 1 + 1) (u2.heap.size) := by
  obtain ⟨w1, e1⟩ : ∃ x, (u2.alloc (.cells #[.slice (some ⟨u2.heap.size + 1, 0, none⟩) n n, .slice (some ⟨u2.heap.size + 1 + 1, 0, none⟩) 6 6] 38)) = x := ⟨_, rfl⟩
  have s1 : w1.heap.size = u2.heap.size + 1 := by rw [← e1]; simp
  have g1 : Below u2.heap.size u2 w1 := by rw [← e1]; exact (Below.refl _ _).alloc (Nat.le_refl _) _
  have Fd : VarG w1 (u2.heap.size) [.slice (some ⟨u2.heap.size + 1, 0, none⟩) n n, .slice (some ⟨u2.heap.size + 1 + 1, 0, none⟩) 6 6] := by
    have := varG_new u2 [.slice (some ⟨u2.heap.size + 1, 0, none⟩) n n, .slice (some ⟨u2.heap.size + 1 + 1, 0, none⟩) 6 6] 38
    rw [← e1]; exact this
  obtain ⟨w2, e2⟩ : ∃ x, w1.alloc (.cells (madeCells #[Value.bool false] n) 4) = x := ⟨_, rfl⟩
  have s2 : w2.heap.size = u2.heap.size + 1 + 1 := by rw [← e2, World.size_alloc]; omega
  have g2 : Below w1.heap.size w1 w2 := by rw [← e2]; exact (Below.refl _ _).alloc (Nat.le_refl _) _
  have Fa : GO bool2 w2 (u2.heap.size + 1) (u2.heap.size + 1 + 1) (.slice (some ⟨u2.heap.size + 1, 0, none⟩) n n) (List.replicate n false) := by
    have := made_go w1 n 4 (by omega)
    rw [s1] at this
    rw [← e2]; exact this
  replace Fd := Fd.below g2 (by omega)
  obtain ⟨w3, e3⟩ : ∃ x, w2.alloc (.cells (madeCells #[Value.bool false] 6) 4) = x := ⟨_, rfl⟩
  have s3 : w3.heap.size = u2.heap.size + 1 + 1 + 1 := by rw [← e3, World.size_alloc]; omega
  have g3 : Below w2.heap.size w2 w3 := by rw [← e3]; exact (Below.refl _ _).alloc (Nat.le_refl _) _
  have Fb : GO bool2 w3 (u2.heap.size + 1 + 1) (u2.heap.size + 1 + 1 + 1) (.slice (some ⟨u2.heap.size + 1 + 1, 0, none⟩) 6 6) (List.replicate 6 false) := by
    have := made_go w2 6 4 (by omega)
    rw [s2] at this
    rw [← e3]; exact this
  replace Fd := Fd.below g3 (by omega)
  replace Fa := Fa.under g3 (by omega)
  have G : Below u2.heap.size u2 w3 := (g1.trans (g2.mono (by omega))).trans (g3.mono (by omega))
  have gd : Below w3.heap.size w3 w3.drew := (Below.refl _ _).drew
  rw [e1, e2, e3]
  exact ⟨G.drew, Fa.under gd (by omega), Fb.under gd (by omega), Fd.below gd (by omega), by omega, ⟨by omega, by show _ < w3.heap.size; omega⟩, ⟨by omega, by show _ < w3.heap.size; omega⟩, ⟨by omega, by show _ < w3.heap.size; omega⟩⟩

theorem new_dba (u2 : World) (n : Nat) (hn : n ≤ 1048576) : NewL u2 (((u2.alloc (.cells #[.slice (some ⟨u2.heap.size + 1 + 1, 0, none⟩) n n, .slice (some ⟨u2.heap.size + 1, 0, none⟩) 6 6] 38)).alloc (.cells (madeCells #[Value.bool false] 6) 4)).alloc (.cells (madeCells #[Value.bool false] n) 4)).drew n (u2.heap.size + 1 + 1) (u2.heap.size + 1) (u2.heap.size) := by
  obtain ⟨w1, e1⟩ : ∃ x, (u2.alloc (.cells #[.slice (some ⟨u2.heap.size + 1 + 1, 0, none⟩) n n, .slice (some ⟨u2.heap.size + 1, 0, none⟩) 6 6] 38)) = x := ⟨_, rfl⟩
  have s1 : w1.heap.size = u2.heap.size + 1 := by rw [← e1]; simp
  have g1 : Below u2.heap.size u2 w1 := by rw [← e1]; exact (Below.refl _ _).alloc (Nat.le_refl _) _
  have Fd : VarG w1 (u2.heap.size) [.slice (some ⟨u2.heap.size + 1 + 1, 0, none⟩) n n, .slice (some ⟨u2.heap.size + 1, 0, none⟩) 6 6] := by
    have := varG_new u2 [.slice (some ⟨u2.heap.size + 1 + 1, 0, none⟩) n n, .slice (some ⟨u2.heap.size + 1, 0, none⟩) 6 6] 38
    rw [← e1]; exact this
  obtain ⟨w2, e2⟩ : ∃ x, w1.alloc (.cells (madeCells #[Value.bool false] 6) 4) = x := ⟨_, rfl⟩
  have s2 : w2.heap.size = u2.heap.size + 1 + 1 := by rw [← e2, World.size_alloc]; omega
  have g2 : Below w1.heap.size w1 w2 := by rw [← e2]; exact (Below.refl _ _).alloc (Nat.le_refl _) _
  have Fb : GO bool2 w2 (u2.heap.size + 1) (u2.heap.size + 1 + 1) (.slice (some ⟨u2.heap.size + 1, 0, none⟩) 6 6) (List.replicate 6 false) := by
    have := made_go w1 6 4 (by omega)
    rw [s1] at this
    rw [← e2]; exact this
  replace Fd := Fd.below g2 (by omega)
  obtain ⟨w3, e3⟩ : ∃ x, w2.alloc (.cells (madeCells #[Value.bool false] n) 4) = x := ⟨_, rfl⟩
  have s3 : w3.heap.size = u2.heap.size + 1 + 1 + 1 := by rw [← e3, World.size_alloc]; omega
  have g3 : Below w2.heap.size w2 w3 := by rw [← e3]; exact (Below.refl _ _).alloc (Nat.le_refl _) _
  have Fa : GO bool2 w3 (u2.heap.size + 1 + 1) (u2.heap.size + 1 + 1 + 1) (.slice (some ⟨u2.heap.size + 1 + 1, 0, none⟩) n n) (List.replicate n false) := by
    have := made_go w2 n 4 (by omega)
    rw [s2] at this
    rw [← e3]; exact this
  replace Fd := Fd.below g3 (by omega)
  replace Fb := Fb.under g3 (by omega)
  have G : Below u2.heap.size u2 w3 := (g1.trans (g2.mono (by omega))).trans (g3.mono (by omega))
  have gd : Below w3.heap.size w3 w3.drew := (Below.refl _ _).drew
  rw [e1, e2, e3]
  exact ⟨G.drew, Fa.under gd (by omega), Fb.under gd (by omega), Fd.below gd (by omega), by omega, ⟨by omega, by show _ < w3.heap.size; omega⟩, ⟨by omega, by show _ < w3.heap.size; omega⟩, ⟨by omega, by show _ < w3.heap.size; omega⟩⟩

/-- A list of offs whose first is put on. -/
theorem go_first {w u : World} {b n : Nat} (h : GO bool2 w b (b + 1) (.slice (some ⟨b, 0, none⟩) n n) (List.replicate n false)) (hn : 1 ≤ n) (hL : LaidG w u b 0 [.bool true]) : GO bool2 u b (b + 1) (.slice (some ⟨b, 0, none⟩) n n) (onL n) := by
  rcases h with ⟨h0, _⟩ | ⟨g, off, cap, hv, h1, h2, h3, h4, h5, h6⟩
  · have := congrArg List.length h0; simp at this; omega
  · simp only [Value.slice.injEq, Option.some.injEq, Addr.mk.injEq, and_true] at hv
    obtain ⟨⟨rfl, rfl⟩, _, rfl⟩ := hv
    refine .inr ⟨b, 0, n, by rw [onL_length], by rw [onL_length]; exact Nat.le_refl _, h2, h3, h4, fun i x hx => ?_, fun o => by rw [hL.frozen]; exact h6 o⟩
    have hi : i < n := by have := (List.getElem?_eq_some_iff.mp hx).1; rwa [onL_length] at this
    rw [onL_at hi] at hx
    cases hx
    have h5' := h5 i false (by rw [List.getElem?_replicate, if_pos hi])
    rw [Nat.zero_add, show i * bool2.k = i from Nat.mul_one i] at h5' ⊢
    intro j v hv
    have hj : j = 0 := by have := (List.getElem?_eq_some_iff.mp hv).1; change j < 1 at this; omega
    subst hj
    by_cases e : i = 0
    · subst e
      have := hL.cv 0 (.bool true) rfl
      cases hv
      exact this
    · rw [hL.cell _ _ (by simp; omega)]
      have := h5' 0 (.bool false) rfl
      rw [this]
      cases hv
      simp [e]

theorem go_head {w : World} {b n : Nat} (h : GO bool2 w b (b + 1) (.slice (some ⟨b, 0, none⟩) n n) (List.replicate n false)) (hn : 1 ≤ n) : w.cell? ⟨b, 0, none⟩ = some (.bool false) ∧ w.frozen? ⟨b, 0, none⟩ = false := by
  rcases h with ⟨h0, _⟩ | ⟨g, off, cap, hv, h1, h2, h3, h4, h5, h6⟩
  · have := congrArg List.length h0; simp at this; omega
  · simp only [Value.slice.injEq, Option.some.injEq, Addr.mk.injEq, and_true] at hv
    obtain ⟨⟨rfl, rfl⟩, _, rfl⟩ := hv
    exact ⟨h5 0 false (by rw [List.getElem?_replicate, if_pos (by omega)]) 0 (.bool false) rfl, h6 0⟩
theorem two_one {x y : Value} (hx : x.oneCell' = true) (hy : y.oneCell' = true) : ∀ v ∈ [x, y], v.oneCell' = true := by
  intro v hv; simp only [List.mem_cons, List.not_mem_nil, or_false] at hv
  rcases hv with rfl | rfl
  · exact hx
  · exact hy

set_option maxHeartbeats 8000000 in
theorem l8New_any (w : World) (n : Nat) (x y : Value) (h1 : 1 ≤ n) (h6 : n ≤ 6) (hx : x.oneCell' = true) (hy : y.oneCell' = true) :
    Calls Try.prog 35 #[.agg [.int .i64 (n : Int), x, y].toArray] w fun e w' => ∃ v', e = .returned v' ∧ MkO w' w.heap.size w'.heap.size v' ⟨onL n, List.replicate 6 false⟩ ∧ Below w.heap.size w w' := by
  have hZ := (zero_of_info (P := Try.prog) zero_marks).1
  have hm1 := run_makeB n (by omega)
  have hm2 : ∀ w, (Instr.makeSlice 36 (.int .i64 6) (.int .i64 6)).run Try.prog w = .ok (.slice (some ⟨w.heap.size, 0, none⟩) 6 6) (w.alloc (.cells (madeCells #[Value.bool false] 6) 4)) := run_makeB 6 (by omega)
  go_enter Try.func35, Try.ntmps35
  go_wp2_with (refine wpList_boxG (vs := [.int .i64 (n : Int), x, y]) rfl _ rfl rfl ?_)
  intro u1 g1 p1 s1
  go_wp2_with (refine wpList_allocG hZ rfl rfl ?_)
  intro u2 g2 q2 s2
  have p2 := p1.below g2 (by omega)
  have G2 := g1.trans (g2.mono (by omega))
  have c0 : u2.cell? ⟨w.heap.size, 0, none⟩ = some (.int .i64 (n : Int)) := p2.c 0 _ rfl
  have HS : Hid (u2.heap.size = w.heap.size + 1 + 1) := by show _ = _; omega
  have HQ : Hid (VarG u2 (w.heap.size + 1) [zSl, zSl]) := by first | exact q2 | (rw [← s1]; exact q2)
  have HG : Hid (Below w.heap.size w u2) := G2
  have hlt : w.heap.size < u2.heap.size := by omega
  clear p1 p2 q2 hZ g1 g2 s1 s2 G2
  go_wp2_with fail
  go_region
  all_goals first
    | (obtain ⟨uz, huz, hN⟩ : ∃ uz, (((u2.alloc (.cells (madeCells #[Value.bool false] n) 4)).alloc (.cells (madeCells #[Value.bool false] 6) 4)).alloc (.cells #[.slice (some ⟨u2.heap.size, 0, none⟩) n n, .slice (some ⟨u2.heap.size + 1, 0, none⟩) 6 6] 38)).drew = uz ∧ NewL u2 uz n (u2.heap.size) (u2.heap.size + 1) (u2.heap.size + 1 + 1) := ⟨_, rfl, new_abd u2 n (by omega)⟩; rw [huz]; clear huz)
    | (obtain ⟨uz, huz, hN⟩ : ∃ uz, (((u2.alloc (.cells (madeCells #[Value.bool false] n) 4)).alloc (.cells #[.slice (some ⟨u2.heap.size, 0, none⟩) n n, .slice (some ⟨u2.heap.size + 1 + 1, 0, none⟩) 6 6] 38)).alloc (.cells (madeCells #[Value.bool false] 6) 4)).drew = uz ∧ NewL u2 uz n (u2.heap.size) (u2.heap.size + 1 + 1) (u2.heap.size + 1) := ⟨_, rfl, new_adb u2 n (by omega)⟩; rw [huz]; clear huz)
    | (obtain ⟨uz, huz, hN⟩ : ∃ uz, (((u2.alloc (.cells (madeCells #[Value.bool false] 6) 4)).alloc (.cells (madeCells #[Value.bool false] n) 4)).alloc (.cells #[.slice (some ⟨u2.heap.size + 1, 0, none⟩) n n, .slice (some ⟨u2.heap.size, 0, none⟩) 6 6] 38)).drew = uz ∧ NewL u2 uz n (u2.heap.size + 1) (u2.heap.size) (u2.heap.size + 1 + 1) := ⟨_, rfl, new_bad u2 n (by omega)⟩; rw [huz]; clear huz)
    | (obtain ⟨uz, huz, hN⟩ : ∃ uz, (((u2.alloc (.cells (madeCells #[Value.bool false] 6) 4)).alloc (.cells #[.slice (some ⟨u2.heap.size + 1 + 1, 0, none⟩) n n, .slice (some ⟨u2.heap.size, 0, none⟩) 6 6] 38)).alloc (.cells (madeCells #[Value.bool false] n) 4)).drew = uz ∧ NewL u2 uz n (u2.heap.size + 1 + 1) (u2.heap.size) (u2.heap.size + 1) := ⟨_, rfl, new_bda u2 n (by omega)⟩; rw [huz]; clear huz)
    | (obtain ⟨uz, huz, hN⟩ : ∃ uz, (((u2.alloc (.cells #[.slice (some ⟨u2.heap.size + 1, 0, none⟩) n n, .slice (some ⟨u2.heap.size + 1 + 1, 0, none⟩) 6 6] 38)).alloc (.cells (madeCells #[Value.bool false] n) 4)).alloc (.cells (madeCells #[Value.bool false] 6) 4)).drew = uz ∧ NewL u2 uz n (u2.heap.size + 1) (u2.heap.size + 1 + 1) (u2.heap.size) := ⟨_, rfl, new_dab u2 n (by omega)⟩; rw [huz]; clear huz)
    | (obtain ⟨uz, huz, hN⟩ : ∃ uz, (((u2.alloc (.cells #[.slice (some ⟨u2.heap.size + 1 + 1, 0, none⟩) n n, .slice (some ⟨u2.heap.size + 1, 0, none⟩) 6 6] 38)).alloc (.cells (madeCells #[Value.bool false] 6) 4)).alloc (.cells (madeCells #[Value.bool false] n) 4)).drew = uz ∧ NewL u2 uz n (u2.heap.size + 1 + 1) (u2.heap.size + 1) (u2.heap.size) := ⟨_, rfl, new_dba u2 n (by omega)⟩; rw [huz]; clear huz)
  all_goals
    have hs2 : w.heap.size + 1 < u2.heap.size := by have := HS.out; omega
    have hq := HQ.out.below hN.below (by omega)
    have hb := HG.out.trans (hN.below.mono (by omega))
    obtain ⟨hc0, hf0⟩ := go_head hN.l1 h1
    have d0 := hN.dv.c 0 _ rfl
    rw [Nat.zero_add] at d0

    obtain ⟨i1, i1'⟩ := hN.in1
    obtain ⟨i2, i2'⟩ := hN.in2
    obtain ⟨i3, i3'⟩ := hN.in3
    obtain ⟨e1, e2, e3⟩ := hN.ne
    clear hm1 hm2
    go_wp2_with (refine wpList_store1G Try.sizeOf4 (z := .bool true) _ _ rfl rfl rfl rfl rfl rfl (by rw [hc0]; rfl) hf0 ?_)
    intro u4 L4
    have s4 := L4.size
    have A4 := go_first hN.l1 h1 L4
    have B4 := hN.l2.kept (fun k q1 q2 => L4.block k (by omega))
    have D4 := L4.other hN.dv (by omega)
    have q4 := L4.other hq (by omega)
    have G4 := L4.below _ _ (by omega) hb
    clear L4 hc0 hf0 d0 hq hb hN
    have hr := q4.run 0 2 (show 0 + 2 ≤ 2 by decide)
    go_wp2_with (first
      | refine wpList_loadG Try.isAgg38 Try.sizeOf38 _ rfl rfl rfl rfl D4.c ?_
      | refine wpList_storeG Try.sizeOf38 _ _ rfl rfl rfl rfl rfl (two_one rfl rfl) hr.1 hr.2 ?_)
    intro u5 L5
    have s5 := L5.size
    have q5 := L5.var q4
    have A5 := A4.kept (fun k r1 r2 => L5.block k (by omega))
    have B5 := B4.kept (fun k r1 r2 => L5.block k (by omega))
    have G5 := L5.below _ _ (by omega) G4
    clear L5 D4 q4 hr A4 B4 G4
    go_wp2
    refine bodyPost_ret (v := .agg [Value.slice _ n n, Value.slice _ 6 6].toArray) ?_ rfl ⟨_, rfl, ⟨_, _, _, _, _, _, rfl, A5, B5, ⟨by omega, by omega⟩, ⟨by omega, by omega⟩, by omega⟩, G5⟩
    simp [results, Try.results35]
    exact run_loadVarG (P := Try.prog) Try.isAgg38 Try.sizeOf38 rfl q5.c

set_option maxHeartbeats 8000000 in
theorem sChartNew_any (w : World) (lo hi : Nat) (v : Value) (c : ChartD) (h : HIc w lo hi v c) (hhi : hi ≤ w.heap.size) (hm : c.many ≤ 1048576) :
    Calls Try.prog 13 #[v] w fun e w' => ∃ v', e = .returned v' ∧ MkO w' w.heap.size w'.heap.size v' (chartNew c) ∧ Below w.heap.size w w' := by
  obtain ⟨q, hq⟩ : ∃ q, chartNew c = q := ⟨_, rfl⟩
  rw [hq]
  have HQ : Hid (chartNew c = q) := hq
  clear hq
  have hZ := (zero_of_info (P := Try.prog) zero_marks).1
  obtain ⟨va, vb, rfl, hA, hB⟩ := h
  obtain ⟨ad, cap, rfl, _, _⟩ := hA.shape
  obtain ⟨ad', cap', rfl, _, _⟩ := hB.shape
  have HA : Hid (TR w lo hi (.slice ad c.ts.length cap) c.ts ∧ GR actE w lo hi (.slice ad' c.acts.length cap') c.acts) := ⟨hA, hB⟩
  clear hA hB
  go_enter Try.func13, Try.ntmps13
  go_wp2_with (refine wpList_boxG (vs := chartC c.steps (.slice ad c.ts.length cap) (.slice ad' c.acts.length cap')) rfl _ rfl rfl ?_)
  intro u1 g1 p1 s1
  go_wp2_with (refine wpList_allocG hZ rfl rfl ?_)
  intro u2 g2 q2 s2
  have p2 := p1.below g2 (by omega)
  have G2 := g1.trans (g2.mono (by omega))
  clear g1 g2 p1
  have hc := p2.c
  go_wp2_with (refine wpList_loadG Try.isAgg31 Try.sizeOf31 _ rfl rfl rfl rfl hc ?_)
  clear hc
  refine (sChartOk_any u2 lo hi _ c ⟨_, _, rfl, HA.out.1.under G2 hhi, HA.out.2.under G2 hhi⟩ (by omega) hm).mono ?_
  obtain ⟨r, hr⟩ : ∃ r, chartOk c = r := ⟨_, rfl⟩
  rw [hr]
  rintro e3 u3 ⟨rfl, g3⟩
  have s3 := g3.size
  have p3 := p2.below g3 (by omega)
  have q3 := q2.below g3 (by omega)
  have G3 := G2.trans (g3.mono (by omega))
  clear g3 p2 q2 G2
  cases r
  · have HN : Hid (q = ⟨[], []⟩) := by show q = _; rw [← HQ.out, chartNew_no hr]
    have hrr := q3.run 0 2 (show 0 + 2 ≤ 2 by decide)
    clear hr
    go_wp2_with (refine wpList_storeG Try.sizeOf38 (vs := [zSl, zSl]) _ _ rfl rfl rfl rfl rfl (two_one rfl rfl) hrr.1 hrr.2 ?_)
    intro u4 L4
    have s4 := L4.size
    have q4 := L4.var q3
    have G4 := L4.below _ _ (by omega) G3
    clear L4 q3 G3 hrr
    go_wp2
    refine bodyPost_ret (v := .agg [zSl, zSl].toArray) ?_ rfl ⟨_, rfl, by rw [HN.out]; exact mkO_nil _ _ _ (by have := G4.size; omega), G4⟩
    simp [results, Try.results13]
    exact run_loadVarG (P := Try.prog) Try.isAgg38 Try.sizeOf38 rfl q4.c
  · have hcy := chartNew_yes hr
    have hsm := chartOk_small hr
    clear hr
    obtain ⟨n, hn⟩ : ∃ n : Nat, c.steps = (n : Int) := ⟨c.steps.toNat, by omega⟩
    have HN : Hid (q = ⟨onL n, List.replicate 6 false⟩) := by show q = _; rw [← HQ.out, hcy, hn, Int.toNat_natCast]
    clear hcy
    rw [hn] at p3 hsm
    have hl := l8New_any u3 n (.slice ad c.ts.length cap) (.slice ad' c.acts.length cap') (by omega) (by omega) rfl rfl
    have hc := p3.c
    clear hsm hn
    go_wp2_with (refine wpList_loadG Try.isAgg31 Try.sizeOf31 _ rfl rfl rfl rfl hc ?_)
    clear hc
    refine hl.mono ?_
    clear hl
    rintro e4 u4 ⟨v4, rfl, O4, g4⟩
    obtain ⟨a4, c4, b4, e4, rfl⟩ := O4.shape
    have s4 := g4.size
    have q4 := q3.below g4 (by omega)
    have G4 := G3.trans (g4.mono (by omega))
    clear g4 q3 G3 p3
    have hrr := q4.run 0 2 (show 0 + 2 ≤ 2 by decide)
    go_wp2_with (refine wpList_storeG Try.sizeOf38 (vs := [.slice a4 _ c4, .slice b4 _ e4]) _ _ rfl rfl rfl rfl rfl (two_one rfl rfl) hrr.1 hrr.2 ?_)
    intro u5 L5
    have s5 := L5.size
    have q5 := L5.var q4
    have O5 := O4.kept_ (fun k r1 r2 => L5.block k (by omega))
    have G5 := L5.below _ _ (by omega) G4
    clear L5 q4 G4 hrr O4
    go_wp2
    refine bodyPost_ret (v := .agg [.slice a4 _ c4, .slice b4 _ e4].toArray) ?_ rfl ⟨_, rfl, by rw [HN.out]; exact O5.wide (by omega) (by omega), G5⟩
    simp [results, Try.results13]
    exact run_loadVarG (P := Try.prog) Try.isAgg38 Try.sizeOf38 rfl q5.c
end Go.Proofs.Ytokphdpaghkakaa
