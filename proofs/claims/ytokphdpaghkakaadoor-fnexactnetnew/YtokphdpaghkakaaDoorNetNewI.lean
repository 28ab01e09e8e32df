/-
  The program's NetNew. (Written by our generator gen_netnewi.py.)
-/
import Derived.Test.YtokphdpaghkakaaDoorNetNewD
import Derived.Test.YtokphdpaghkakaaDoorNetImplH
import Derived.Test.YtokphdpaghkakaaDoorBlockImplM
namespace Go.Proofs.YtokphdpaghkakaaDoor
open Go.ChangeShapes Go.WideShapes Go.ChangeAt Go.RowKit
set_option linter.unusedVariables false
set_option linter.unusedSimpArgs false
set_option maxRecDepth 100000

theorem zeroI_state : (Tryd.prog.info? 42).map (fun i => (i.zero, i.size)) = some (some (.agg [zSt, zSt].toArray), 2) := by kernel_rfl

/-- Two lists that were made and a variable of them. -/
structure NewN (u2 u : World) (n b1 b2 d : Nat) : Prop where
  below : Below u2.heap.size u2 u
  l1 : GO blockE u b1 (b1 + 1) (.slice (some ⟨b1, 0, none⟩) n n) (List.replicate n noB)
  l2 : GO bool2 u b2 (b2 + 1) (.slice (some ⟨b2, 0, none⟩) n n) (List.replicate n false)
  dv : VarG u d [.slice (some ⟨b1, 0, none⟩) n n, .slice (some ⟨b2, 0, none⟩) n n]
  ne : b1 ≠ b2 ∧ b1 ≠ d ∧ b2 ≠ d
  in1 : u2.heap.size ≤ b1 ∧ b1 < u.heap.size
  in2 : u2.heap.size ≤ b2 ∧ b2 < u.heap.size
  in3 : u2.heap.size ≤ d ∧ d < u.heap.size

theorem newN_abd (u2 : World) (n : Nat) (hn : n ≤ 1048576) : NewN u2 (((u2.alloc (.cells (madeCells #[.int .i64 0, .int .i64 0, .bool false, .bool false, .int .i64 0] (n * 5)) 73)).alloc (.cells (madeCells #[Value.bool false] n) 4)).alloc (.cells #[.slice (some ⟨u2.heap.size, 0, none⟩) n n, .slice (some ⟨u2.heap.size + 1, 0, none⟩) n n] 42)).drew n (u2.heap.size) (u2.heap.size + 1) (u2.heap.size + 1 + 1) := by
  obtain ⟨w1, e1⟩ : ∃ x, (u2.alloc (.cells (madeCells #[.int .i64 0, .int .i64 0, .bool false, .bool false, .int .i64 0] (n * 5)) 73)) = x := ⟨_, rfl⟩
  have s1 : w1.heap.size = u2.heap.size + 1 := by rw [← e1]; simp
  have g1 : Below u2.heap.size u2 w1 := by rw [← e1]; exact (Below.refl _ _).alloc (Nat.le_refl _) _
  have Fa : GO blockE w1 (u2.heap.size) (u2.heap.size + 1) (.slice (some ⟨u2.heap.size, 0, none⟩) n n) (List.replicate n noB) := by
    have := madeB_go u2 n 73 (by omega)
    rw [← e1]; exact this
  obtain ⟨w2, e2⟩ : ∃ x, w1.alloc (.cells (madeCells #[Value.bool false] n) 4) = x := ⟨_, rfl⟩
  have s2 : w2.heap.size = u2.heap.size + 1 + 1 := by rw [← e2, World.size_alloc]; omega
  have g2 : Below w1.heap.size w1 w2 := by rw [← e2]; exact (Below.refl _ _).alloc (Nat.le_refl _) _
  have Fb : GO bool2 w2 (u2.heap.size + 1) (u2.heap.size + 1 + 1) (.slice (some ⟨u2.heap.size + 1, 0, none⟩) n n) (List.replicate n false) := by
    have := made_go2 w1 n 4 (by omega)
    rw [s1] at this
    rw [← e2]; exact this
  replace Fa := Fa.under g2 (by omega)
  obtain ⟨w3, e3⟩ : ∃ x, w2.alloc (.cells #[.slice (some ⟨u2.heap.size, 0, none⟩) n n, .slice (some ⟨u2.heap.size + 1, 0, none⟩) n n] 42) = x := ⟨_, rfl⟩
  have s3 : w3.heap.size = u2.heap.size + 1 + 1 + 1 := by rw [← e3, World.size_alloc]; omega
  have g3 : Below w2.heap.size w2 w3 := by rw [← e3]; exact (Below.refl _ _).alloc (Nat.le_refl _) _
  have Fd : VarG w3 (u2.heap.size + 1 + 1) [.slice (some ⟨u2.heap.size, 0, none⟩) n n, .slice (some ⟨u2.heap.size + 1, 0, none⟩) n n] := by
    have := varG_new w2 [.slice (some ⟨u2.heap.size, 0, none⟩) n n, .slice (some ⟨u2.heap.size + 1, 0, none⟩) n n] 42
    rw [s2] at this
    rw [← e3]; exact this
  replace Fa := Fa.under g3 (by omega)
  replace Fb := Fb.under g3 (by omega)
  have G : Below u2.heap.size u2 w3 := (g1.trans (g2.mono (by omega))).trans (g3.mono (by omega))
  have gd : Below w3.heap.size w3 w3.drew := (Below.refl _ _).drew
  rw [e1, e2, e3]
  exact ⟨G.drew, Fa.under gd (by omega), Fb.under gd (by omega), Fd.below gd (by omega), by omega, ⟨by omega, by show _ < w3.heap.size; omega⟩, ⟨by omega, by show _ < w3.heap.size; omega⟩, ⟨by omega, by show _ < w3.heap.size; omega⟩⟩

theorem newN_adb (u2 : World) (n : Nat) (hn : n ≤ 1048576) : NewN u2 (((u2.alloc (.cells (madeCells #[.int .i64 0, .int .i64 0, .bool false, .bool false, .int .i64 0] (n * 5)) 73)).alloc (.cells #[.slice (some ⟨u2.heap.size, 0, none⟩) n n, .slice (some ⟨u2.heap.size + 1 + 1, 0, none⟩) n n] 42)).alloc (.cells (madeCells #[Value.bool false] n) 4)).drew n (u2.heap.size) (u2.heap.size + 1 + 1) (u2.heap.size + 1) := by
  obtain ⟨w1, e1⟩ : ∃ x, (u2.alloc (.cells (madeCells #[.int .i64 0, .int .i64 0, .bool false, .bool false, .int .i64 0] (n * 5)) 73)) = x := ⟨_, rfl⟩
  have s1 : w1.heap.size = u2.heap.size + 1 := by rw [← e1]; simp
  have g1 : Below u2.heap.size u2 w1 := by rw [← e1]; exact (Below.refl _ _).alloc (Nat.le_refl _) _
  have Fa : GO blockE w1 (u2.heap.size) (u2.heap.size + 1) (.slice (some ⟨u2.heap.size, 0, none⟩) n n) (List.replicate n noB) := by
    have := madeB_go u2 n 73 (by omega)
    rw [← e1]; exact this
  obtain ⟨w2, e2⟩ : ∃ x, w1.alloc (.cells #[.slice (some ⟨u2.heap.size, 0, none⟩) n n, .slice (some ⟨u2.heap.size + 1 + 1, 0, none⟩) n n] 42) = x := ⟨_, rfl⟩
  have s2 : w2.heap.size = u2.heap.size + 1 + 1 := by rw [← e2, World.size_alloc]; omega
  have g2 : Below w1.heap.size w1 w2 := by rw [← e2]; exact (Below.refl _ _).alloc (Nat.le_refl _) _
  have Fd : VarG w2 (u2.heap.size + 1) [.slice (some ⟨u2.heap.size, 0, none⟩) n n, .slice (some ⟨u2.heap.size + 1 + 1, 0, none⟩) n n] := by
    have := varG_new w1 [.slice (some ⟨u2.heap.size, 0, none⟩) n n, .slice (some ⟨u2.heap.size + 1 + 1, 0, none⟩) n n] 42
    rw [s1] at this
    rw [← e2]; exact this
  replace Fa := Fa.under g2 (by omega)
  obtain ⟨w3, e3⟩ : ∃ x, w2.alloc (.cells (madeCells #[Value.bool false] n) 4) = x := ⟨_, rfl⟩
  have s3 : w3.heap.size = u2.heap.size + 1 + 1 + 1 := by rw [← e3, World.size_alloc]; omega
  have g3 : Below w2.heap.size w2 w3 := by rw [← e3]; exact (Below.refl _ _).alloc (Nat.le_refl _) _
  have Fb : GO bool2 w3 (u2.heap.size + 1 + 1) (u2.heap.size + 1 + 1 + 1) (.slice (some ⟨u2.heap.size + 1 + 1, 0, none⟩) n n) (List.replicate n false) := by
    have := made_go2 w2 n 4 (by omega)
    rw [s2] at this
    rw [← e3]; exact this
  replace Fa := Fa.under g3 (by omega)
  replace Fd := Fd.below g3 (by omega)
  have G : Below u2.heap.size u2 w3 := (g1.trans (g2.mono (by omega))).trans (g3.mono (by omega))
  have gd : Below w3.heap.size w3 w3.drew := (Below.refl _ _).drew
  rw [e1, e2, e3]
  exact ⟨G.drew, Fa.under gd (by omega), Fb.under gd (by omega), Fd.below gd (by omega), by omega, ⟨by omega, by show _ < w3.heap.size; omega⟩, ⟨by omega, by show _ < w3.heap.size; omega⟩, ⟨by omega, by show _ < w3.heap.size; omega⟩⟩

theorem newN_bad (u2 : World) (n : Nat) (hn : n ≤ 1048576) : NewN u2 (((u2.alloc (.cells (madeCells #[Value.bool false] n) 4)).alloc (.cells (madeCells #[.int .i64 0, .int .i64 0, .bool false, .bool false, .int .i64 0] (n * 5)) 73)).alloc (.cells #[.slice (some ⟨u2.heap.size + 1, 0, none⟩) n n, .slice (some ⟨u2.heap.size, 0, none⟩) n n] 42)).drew n (u2.heap.size + 1) (u2.heap.size) (u2.heap.size + 1 + 1) := by
  obtain ⟨w1, e1⟩ : ∃ x, (u2.alloc (.cells (madeCells #[Value.bool false] n) 4)) = x := ⟨_, rfl⟩
  have s1 : w1.heap.size = u2.heap.size + 1 := by rw [← e1]; simp
  have g1 : Below u2.heap.size u2 w1 := by rw [← e1]; exact (Below.refl _ _).alloc (Nat.le_refl _) _
  have Fb : GO bool2 w1 (u2.heap.size) (u2.heap.size + 1) (.slice (some ⟨u2.heap.size, 0, none⟩) n n) (List.replicate n false) := by
    have := made_go2 u2 n 4 (by omega)
    rw [← e1]; exact this
  obtain ⟨w2, e2⟩ : ∃ x, w1.alloc (.cells (madeCells #[.int .i64 0, .int .i64 0, .bool false, .bool false, .int .i64 0] (n * 5)) 73) = x := ⟨_, rfl⟩
  have s2 : w2.heap.size = u2.heap.size + 1 + 1 := by rw [← e2, World.size_alloc]; omega
  have g2 : Below w1.heap.size w1 w2 := by rw [← e2]; exact (Below.refl _ _).alloc (Nat.le_refl _) _
  have Fa : GO blockE w2 (u2.heap.size + 1) (u2.heap.size + 1 + 1) (.slice (some ⟨u2.heap.size + 1, 0, none⟩) n n) (List.replicate n noB) := by
    have := madeB_go w1 n 73 (by omega)
    rw [s1] at this
    rw [← e2]; exact this
  replace Fb := Fb.under g2 (by omega)
  obtain ⟨w3, e3⟩ : ∃ x, w2.alloc (.cells #[.slice (some ⟨u2.heap.size + 1, 0, none⟩) n n, .slice (some ⟨u2.heap.size, 0, none⟩) n n] 42) = x := ⟨_, rfl⟩
  have s3 : w3.heap.size = u2.heap.size + 1 + 1 + 1 := by rw [← e3, World.size_alloc]; omega
  have g3 : Below w2.heap.size w2 w3 := by rw [← e3]; exact (Below.refl _ _).alloc (Nat.le_refl _) _
  have Fd : VarG w3 (u2.heap.size + 1 + 1) [.slice (some ⟨u2.heap.size + 1, 0, none⟩) n n, .slice (some ⟨u2.heap.size, 0, none⟩) n n] := by
    have := varG_new w2 [.slice (some ⟨u2.heap.size + 1, 0, none⟩) n n, .slice (some ⟨u2.heap.size, 0, none⟩) n n] 42
    rw [s2] at this
    rw [← e3]; exact this
  replace Fb := Fb.under g3 (by omega)
  replace Fa := Fa.under g3 (by omega)
  have G : Below u2.heap.size u2 w3 := (g1.trans (g2.mono (by omega))).trans (g3.mono (by omega))
  have gd : Below w3.heap.size w3 w3.drew := (Below.refl _ _).drew
  rw [e1, e2, e3]
  exact ⟨G.drew, Fa.under gd (by omega), Fb.under gd (by omega), Fd.below gd (by omega), by omega, ⟨by omega, by show _ < w3.heap.size; omega⟩, ⟨by omega, by show _ < w3.heap.size; omega⟩, ⟨by omega, by show _ < w3.heap.size; omega⟩⟩

theorem newN_bda (u2 : World) (n : Nat) (hn : n ≤ 1048576) : NewN u2 (((u2.alloc (.cells (madeCells #[Value.bool false] n) 4)).alloc (.cells #[.slice (some ⟨u2.heap.size + 1 + 1, 0, none⟩) n n, .slice (some ⟨u2.heap.size, 0, none⟩) n n] 42)).alloc (.cells (madeCells #[.int .i64 0, .int .i64 0, .bool false, .bool false, .int .i64 0] (n * 5)) 73)).drew n (u2.heap.size + 1 + 1) (u2.heap.size) (u2.heap.size + 1) := by
  obtain ⟨w1, e1⟩ : ∃ x, (u2.alloc (.cells (madeCells #[Value.bool false] n) 4)) = x := ⟨_, rfl⟩
  have s1 : w1.heap.size = u2.heap.size + 1 := by rw [← e1]; simp
  have g1 : Below u2.heap.size u2 w1 := by rw [← e1]; exact (Below.refl _ _).alloc (Nat.le_refl _) _
  have Fb : GO bool2 w1 (u2.heap.size) (u2.heap.size + 1) (.slice (some ⟨u2.heap.size, 0, none⟩) n n) (List.replicate n false) := by
    have := made_go2 u2 n 4 (by omega)
    rw [← e1]; exact this
  obtain ⟨w2, e2⟩ : ∃ x, w1.alloc (.cells #[.slice (some ⟨u2.heap.size + 1 + 1, 0, none⟩) n n, .slice (some ⟨u2.heap.size, 0, none⟩) n n] 42) = x := ⟨_, rfl⟩
  have s2 : w2.heap.size = u2.heap.size + 1 + 1 := by rw [← e2, World.size_alloc]; omega
  have g2 : Below w1.heap.size w1 w2 := by rw [← e2]; exact (Below.refl _ _).alloc (Nat.le_refl _) _
  have Fd : VarG w2 (u2.heap.size + 1) [.slice (some ⟨u2.heap.size + 1 + 1, 0, none⟩) n n, .slice (some ⟨u2.heap.size, 0, none⟩) n n] := by
    have := varG_new w1 [.slice (some ⟨u2.heap.size + 1 + 1, 0, none⟩) n n, .slice (some ⟨u2.heap.size, 0, none⟩) n n] 42
    rw [s1] at this
    rw [← e2]; exact this
  replace Fb := Fb.under g2 (by omega)
  obtain ⟨w3, e3⟩ : ∃ x, w2.alloc (.cells (madeCells #[.int .i64 0, .int .i64 0, .bool false, .bool false, .int .i64 0] (n * 5)) 73) = x := ⟨_, rfl⟩
  have s3 : w3.heap.size = u2.heap.size + 1 + 1 + 1 := by rw [← e3, World.size_alloc]; omega
  have g3 : Below w2.heap.size w2 w3 := by rw [← e3]; exact (Below.refl _ _).alloc (Nat.le_refl _) _
  have Fa : GO blockE w3 (u2.heap.size + 1 + 1) (u2.heap.size + 1 + 1 + 1) (.slice (some ⟨u2.heap.size + 1 + 1, 0, none⟩) n n) (List.replicate n noB) := by
    have := madeB_go w2 n 73 (by omega)
    rw [s2] at this
    rw [← e3]; exact this
  replace Fb := Fb.under g3 (by omega)
  replace Fd := Fd.below g3 (by omega)
  have G : Below u2.heap.size u2 w3 := (g1.trans (g2.mono (by omega))).trans (g3.mono (by omega))
  have gd : Below w3.heap.size w3 w3.drew := (Below.refl _ _).drew
  rw [e1, e2, e3]
  exact ⟨G.drew, Fa.under gd (by omega), Fb.under gd (by omega), Fd.below gd (by omega), by omega, ⟨by omega, by show _ < w3.heap.size; omega⟩, ⟨by omega, by show _ < w3.heap.size; omega⟩, ⟨by omega, by show _ < w3.heap.size; omega⟩⟩

theorem newN_dab (u2 : World) (n : Nat) (hn : n ≤ 1048576) : NewN u2 (((u2.alloc (.cells #[.slice (some ⟨u2.heap.size + 1, 0, none⟩) n n, .slice (some ⟨u2.heap.size + 1 + 1, 0, none⟩) n n] 42)).alloc (.cells (madeCells #[.int .i64 0, .int .i64 0, .bool false, .bool false, .int .i64 0] (n * 5)) 73)).alloc (.cells (madeCells #[Value.bool false] n) 4)).drew n (u2.heap.size + 1) (u2.heap.size + 1 + 1) (u2.heap.size) := by
  obtain ⟨w1, e1⟩ : ∃ x, (u2.alloc (.cells #[.slice (some ⟨u2.heap.size + 1, 0, none⟩) n n, .slice (some ⟨u2.heap.size + 1 + 1, 0, none⟩) n n] 42)) = x := ⟨_, rfl⟩
  have s1 : w1.heap.size = u2.heap.size + 1 := by rw [← e1]; simp
  have g1 : Below u2.heap.size u2 w1 := by rw [← e1]; exact (Below.refl _ _).alloc (Nat.le_refl _) _
  have Fd : VarG w1 (u2.heap.size) [.slice (some ⟨u2.heap.size + 1, 0, none⟩) n n, .slice (some ⟨u2.heap.size + 1 + 1, 0, none⟩) n n] := by
    have := varG_new u2 [.slice (some ⟨u2.heap.size + 1, 0, none⟩) n n, .slice (some ⟨u2.heap.size + 1 + 1, 0, none⟩) n n] 42
    rw [← e1]; exact this
  obtain ⟨w2, e2⟩ : ∃ x, w1.alloc (.cells (madeCells #[.int .i64 0, .int .i64 0, .bool false, .bool false, .int .i64 0] (n * 5)) 73) = x := ⟨_, rfl⟩
  have s2 : w2.heap.size = u2.heap.size + 1 + 1 := by rw [← e2, World.size_alloc]; omega
  have g2 : Below w1.heap.size w1 w2 := by rw [← e2]; exact (Below.refl _ _).alloc (Nat.le_refl _) _
  have Fa : GO blockE w2 (u2.heap.size + 1) (u2.heap.size + 1 + 1) (.slice (some ⟨u2.heap.size + 1, 0, none⟩) n n) (List.replicate n noB) := by
    have := madeB_go w1 n 73 (by omega)
    rw [s1] at this
    rw [← e2]; exact this
  replace Fd := Fd.below g2 (by omega)
  obtain ⟨w3, e3⟩ : ∃ x, w2.alloc (.cells (madeCells #[Value.bool false] n) 4) = x := ⟨_, rfl⟩
  have s3 : w3.heap.size = u2.heap.size + 1 + 1 + 1 := by rw [← e3, World.size_alloc]; omega
  have g3 : Below w2.heap.size w2 w3 := by rw [← e3]; exact (Below.refl _ _).alloc (Nat.le_refl _) _
  have Fb : GO bool2 w3 (u2.heap.size + 1 + 1) (u2.heap.size + 1 + 1 + 1) (.slice (some ⟨u2.heap.size + 1 + 1, 0, none⟩) n n) (List.replicate n false) := by
    have := made_go2 w2 n 4 (by omega)
    rw [s2] at this
    rw [← e3]; exact this
  replace Fd := Fd.below g3 (by omega)
  replace Fa := Fa.under g3 (by omega)
  have G : Below u2.heap.size u2 w3 := (g1.trans (g2.mono (by omega))).trans (g3.mono (by omega))
  have gd : Below w3.heap.size w3 w3.drew := (Below.refl _ _).drew
  rw [e1, e2, e3]
  exact ⟨G.drew, Fa.under gd (by omega), Fb.under gd (by omega), Fd.below gd (by omega), by omega, ⟨by omega, by show _ < w3.heap.size; omega⟩, ⟨by omega, by show _ < w3.heap.size; omega⟩, ⟨by omega, by show _ < w3.heap.size; omega⟩⟩

theorem newN_dba (u2 : World) (n : Nat) (hn : n ≤ 1048576) : NewN u2 (((u2.alloc (.cells #[.slice (some ⟨u2.heap.size + 1 + 1, 0, none⟩) n n, .slice (some ⟨u2.heap.size + 1, 0, none⟩) n n] 42)).alloc (.cells (madeCells #[Value.bool false] n) 4)).alloc (.cells (madeCells #[.int .i64 0, .int .i64 0, .bool false, .bool false, .int .i64 0] (n * 5)) 73)).drew n (u2.heap.size + 1 + 1) (u2.heap.size + 1) (u2.heap.size) := by
  obtain ⟨w1, e1⟩ : ∃ x, (u2.alloc (.cells #[.slice (some ⟨u2.heap.size + 1 + 1, 0, none⟩) n n, .slice (some ⟨u2.heap.size + 1, 0, none⟩) n n] 42)) = x := ⟨_, rfl⟩
  have s1 : w1.heap.size = u2.heap.size + 1 := by rw [← e1]; simp
  have g1 : Below u2.heap.size u2 w1 := by rw [← e1]; exact (Below.refl _ _).alloc (Nat.le_refl _) _
  have Fd : VarG w1 (u2.heap.size) [.slice (some ⟨u2.heap.size + 1 + 1, 0, none⟩) n n, .slice (some ⟨u2.heap.size + 1, 0, none⟩) n n] := by
    have := varG_new u2 [.slice (some ⟨u2.heap.size + 1 + 1, 0, none⟩) n n, .slice (some ⟨u2.heap.size + 1, 0, none⟩) n n] 42
    rw [← e1]; exact this
  obtain ⟨w2, e2⟩ : ∃ x, w1.alloc (.cells (madeCells #[Value.bool false] n) 4) = x := ⟨_, rfl⟩
  have s2 : w2.heap.size = u2.heap.size + 1 + 1 := by rw [← e2, World.size_alloc]; omega
  have g2 : Below w1.heap.size w1 w2 := by rw [← e2]; exact (Below.refl _ _).alloc (Nat.le_refl _) _
  have Fb : GO bool2 w2 (u2.heap.size + 1) (u2.heap.size + 1 + 1) (.slice (some ⟨u2.heap.size + 1, 0, none⟩) n n) (List.replicate n false) := by
    have := made_go2 w1 n 4 (by omega)
    rw [s1] at this
    rw [← e2]; exact this
  replace Fd := Fd.below g2 (by omega)
  obtain ⟨w3, e3⟩ : ∃ x, w2.alloc (.cells (madeCells #[.int .i64 0, .int .i64 0, .bool false, .bool false, .int .i64 0] (n * 5)) 73) = x := ⟨_, rfl⟩
  have s3 : w3.heap.size = u2.heap.size + 1 + 1 + 1 := by rw [← e3, World.size_alloc]; omega
  have g3 : Below w2.heap.size w2 w3 := by rw [← e3]; exact (Below.refl _ _).alloc (Nat.le_refl _) _
  have Fa : GO blockE w3 (u2.heap.size + 1 + 1) (u2.heap.size + 1 + 1 + 1) (.slice (some ⟨u2.heap.size + 1 + 1, 0, none⟩) n n) (List.replicate n noB) := by
    have := madeB_go w2 n 73 (by omega)
    rw [s2] at this
    rw [← e3]; exact this
  replace Fd := Fd.below g3 (by omega)
  replace Fb := Fb.under g3 (by omega)
  have G : Below u2.heap.size u2 w3 := (g1.trans (g2.mono (by omega))).trans (g3.mono (by omega))
  have gd : Below w3.heap.size w3 w3.drew := (Below.refl _ _).drew
  rw [e1, e2, e3]
  exact ⟨G.drew, Fa.under gd (by omega), Fb.under gd (by omega), Fd.below gd (by omega), by omega, ⟨by omega, by show _ < w3.heap.size; omega⟩, ⟨by omega, by show _ < w3.heap.size; omega⟩, ⟨by omega, by show _ < w3.heap.size; omega⟩⟩

/-- Blocks that are filled in up to j. -/
def fillN (ws : List WireD) (j : Nat) : List BlockD := (ws.take j).map newB ++ List.replicate (ws.length - j) noB
theorem fillN_length (ws : List WireD) {j : Nat} (h : j ≤ ws.length) : (fillN ws j).length = ws.length := by
  unfold fillN; rw [List.length_append, List.length_map, List.length_take, List.length_replicate]; omega
theorem fillN_zero (ws : List WireD) : fillN ws 0 = List.replicate ws.length noB := by simp [fillN]
theorem fillN_all (ws : List WireD) : fillN ws ws.length = ws.map newB := by simp [fillN]
theorem fillN_next {ws : List WireD} {j : Nat} {x : WireD} (h : ws[j]? = some x) : (fillN ws j).set j (newB x) = fillN ws (j + 1) := by
  have hj : j < ws.length := (List.getElem?_eq_some_iff.mp h).1
  have hl : ((ws.take j).map newB).length = j := by rw [List.length_map, List.length_take]; omega
  unfold fillN
  rw [List.set_append_right _ _ (by omega), hl, Nat.sub_self, show ws.length - j = (ws.length - (j + 1)) + 1 by omega, List.replicate_succ, List.set_cons_zero, List.take_add_one, h]
  simp

/-- What holds as j blocks have been laid in. -/
structure IN (w : World) (n : NetD) (vw vd : Value) (b1 b2 d : Nat) (j : Nat) (wr : World) : Prop where
  below : Below w.heap.size w wr
  nv : VarG wr w.heap.size [vw, vd]
  rv : VarG wr (w.heap.size + 1) [zSt, zSt]
  l1 : GO blockE wr b1 (b1 + 1) (.slice (some ⟨b1, 0, none⟩) n.ws.length n.ws.length) (fillN n.ws j)
  l2 : GO bool2 wr b2 (b2 + 1) (.slice (some ⟨b2, 0, none⟩) n.ws.length n.ws.length) (List.replicate n.ws.length false)
  sv : VarG wr d [.slice (some ⟨b1, 0, none⟩) n.ws.length n.ws.length, .slice (some ⟨b2, 0, none⟩) n.ws.length n.ws.length]
  ne : b1 ≠ b2 ∧ b1 ≠ d ∧ b2 ≠ d
  lo : w.heap.size + 2 ≤ b1 ∧ w.heap.size + 2 ≤ b2 ∧ w.heap.size + 2 ≤ d
  hi : b1 < wr.heap.size ∧ b2 < wr.heap.size ∧ d < wr.heap.size

theorem IN.next {w : World} {n : NetD} {vw vd : Value} {b1 b2 d j : Nat} {wr u u' : World} (h : IN w n vw vd b1 b2 d j wr) (hR : Below wr.heap.size wr u) {x : WireD} (hx : n.ws[j]? = some x) (hL : LaidG u u' b1 (j * 5) (blockC (newB x))) : IN w n vw vd b1 b2 d (j + 1) u' := by
  have hs := hR.size
  have hb := h.below.size
  obtain ⟨e1, e2, e3⟩ := h.ne
  obtain ⟨o1, o2, o3⟩ := h.lo
  obtain ⟨i1, i2, i3⟩ := h.hi
  have hj : j < n.ws.length := (List.getElem?_eq_some_iff.mp hx).1
  refine ⟨hL.below _ _ (by omega) (h.below.trans (hR.mono (by omega))), hL.other (h.nv.below hR (by omega)) (by omega), hL.other (h.rv.below hR (by omega)) (by omega), ?_, ?_, hL.other (h.sv.below hR (by omega)) (by omega), h.ne, h.lo, by rw [hL.size]; omega⟩
  · rw [← fillN_next hx]
    exact go_set (h.l1.under hR (by omega)) (fillN_length _ (by omega)) hj hL
  · exact (h.l2.under hR (by omega)).kept fun k q1 q2 => hL.block k (by omega)

theorem IN.grow {w : World} {n : NetD} {vw vd : Value} {b1 b2 d j : Nat} {wr u : World} (h : IN w n vw vd b1 b2 d j wr) (hR : Below wr.heap.size wr u) : IN w n vw vd b1 b2 d j u := by
  have hs := hR.size
  have hb := h.below.size
  obtain ⟨o1, o2, o3⟩ := h.lo
  obtain ⟨i1, i2, i3⟩ := h.hi
  exact ⟨h.below.trans (hR.mono (by omega)), h.nv.below hR (by omega), h.rv.below hR (by omega), h.l1.under hR (by omega), h.l2.under hR (by omega), h.sv.below hR (by omega), h.ne, h.lo, by omega⟩

theorem in_new {w u3 uz : World} {n : NetD} {vw vd : Value} {b1 b2 d : Nat} (hG : Below w.heap.size w u3) (hP : VarG u3 w.heap.size [vw, vd]) (hR : VarG u3 (w.heap.size + 1) [zSt, zSt]) (hz : w.heap.size + 2 ≤ u3.heap.size) (h : NewN u3 uz n.ws.length b1 b2 d) : IN w n vw vd b1 b2 d 0 uz := by
  obtain ⟨i1, i1'⟩ := h.in1
  obtain ⟨i2, i2'⟩ := h.in2
  obtain ⟨i3, i3'⟩ := h.in3
  exact ⟨hG.trans (h.below.mono (by omega)), hP.below h.below (by omega), hR.below h.below (by omega), by rw [fillN_zero]; exact h.l1, h.l2, h.dv, h.ne, ⟨by omega, by omega, by omega⟩, ⟨by omega, by omega, by omega⟩⟩

set_option maxHeartbeats 16000000 in
theorem iNetNew_any (w : World) (hF : FormsAt w) (v : Value) (lo hi : Nat) (c : NetD) (h : NI w lo hi v c) (hhi : hi ≤ w.heap.size) :
    Calls Tryd.prog 17 #[v] w fun e w' => ∃ v', e = .returned v' ∧ StO w' w.heap.size w'.heap.size v' (netNew c) ∧ Below w.heap.size w w' := by
  obtain ⟨q, hq⟩ : ∃ q, netNew c = q := ⟨_, rfl⟩
  rw [hq]
  have HQ : Hid (netNew c = q) := hq
  clear hq
  have hZ := (zero_of_info (P := Tryd.prog) zeroI_state).1
  obtain ⟨va, vb, rfl, hA, hB⟩ := h
  obtain ⟨ad, cap, rfl, k1, k1'⟩ := hA.shape
  obtain ⟨ad', cap', rfl, _, _⟩ := hB.shape
  have HN : Hid (NI w lo hi (.agg #[.slice ad c.ws.length cap, .slice ad' c.ds.length cap']) c) := ⟨_, _, rfl, hA, hB⟩
  have HA : Hid (GR wireE w lo hi (.slice ad c.ws.length cap) c.ws) := hA
  have HF : Hid (FormsAt w) := hF
  clear hA hB hF
  unfold maxLen at k1'
  go_enter Tryd.func17, Tryd.ntmps17
  go_wp2_with (refine wpList_boxG (vs := [.slice ad c.ws.length cap, .slice ad' c.ds.length cap']) rfl _ rfl rfl ?_)
  intro u1 g1 p1 s1
  go_wp2_with (refine wpList_allocG hZ rfl rfl ?_)
  intro u2 g2 q2 s2
  have p2 := p1.below g2 (by omega)
  have G2 := g1.trans (g2.mono (by omega))
  clear g1 g2 p1
  have hc := p2.c
  go_wp2_with (refine wpList_loadG Tryd.isAgg32 Tryd.sizeOf32 _ rfl rfl rfl rfl hc ?_)
  clear hc
  refine (iNetOk_any u2 (HF.out.grow G2) _ lo hi c (HN.out.under G2 hhi) (by omega)).mono ?_
  obtain ⟨r, hr⟩ : ∃ r, netOk c = r := ⟨_, rfl⟩
  rw [hr]
  rintro e3 u3 ⟨rfl, g3⟩
  have s3 := g3.size
  have p3 := p2.below g3 (by omega)
  have q3 := q2.below g3 (by omega)
  have G3 := G2.trans (g3.mono (by omega))
  clear g3 p2 q2 G2
  cases r
  · have HN : Hid (q = ⟨[], []⟩) := by show q = _; rw [← HQ.out, netNew_no hr]
    have hrr := q3.run 0 2 (show 0 + 2 ≤ 2 by decide)
    clear hr
    go_wp2_with (refine wpList_storeG Tryd.sizeOf42 (vs := [zSt, zSt]) _ _ rfl rfl rfl rfl rfl (pair_one rfl rfl) hrr.1 hrr.2 ?_)
    intro u4 L4
    have s4 := L4.size
    have q4 := L4.var q3
    have G4 := L4.below _ _ (by omega) G3
    clear L4 q3 G3 hrr
    go_wp2
    refine bodyPost_ret (v := .agg [zSt, zSt].toArray) ?_ rfl ⟨_, rfl, by rw [HN.out]; exact stO_nil _ _ _ (by have := G4.size; omega), G4⟩
    simp [results, Tryd.results17]
    exact run_loadVarG (P := Tryd.prog) Tryd.isAgg42 Tryd.sizeOf42 rfl q4.c
  · have hcy := netNew_yes hr
    have hsm := netOk_eight hr
    clear hr
    have HN : Hid (q = ⟨c.ws.map newB, List.replicate c.ws.length false⟩) := by show q = _; rw [← HQ.out, hcy]
    clear hcy
    have hm1 := run_makeBo c.ws.length (by omega)
    have hm2 := run_makeBl c.ws.length (by omega)
    have c0 : u3.cell? ⟨w.heap.size, 0, none⟩ = some (.slice ad c.ws.length cap) := p3.c 0 _ rfl
    have hlt : w.heap.size < u3.heap.size := by omega
    have HP : Hid (VarG u3 w.heap.size [.slice ad c.ws.length cap, .slice ad' c.ds.length cap']) := p3
    have HR3 : Hid (VarG u3 (w.heap.size + 1) [zSt, zSt]) := by first | exact q3 | (rw [← s1]; exact q3)
    have HG : Hid (Below w.heap.size w u3) := G3
    have hz2 : w.heap.size + 2 ≤ u3.heap.size := by omega
    clear p3 q3 G3 s1 s2 s3
    go_wp2_with fail
    go_region
    all_goals first
      | (obtain ⟨uz, huz, hNN⟩ : ∃ uz, (((u3.alloc (.cells (madeCells #[.int .i64 0, .int .i64 0, .bool false, .bool false, .int .i64 0] (c.ws.length * 5)) 73)).alloc (.cells (madeCells #[Value.bool false] c.ws.length) 4)).alloc (.cells #[.slice (some ⟨u3.heap.size, 0, none⟩) c.ws.length c.ws.length, .slice (some ⟨u3.heap.size + 1, 0, none⟩) c.ws.length c.ws.length] 42)).drew = uz ∧ NewN u3 uz c.ws.length (u3.heap.size) (u3.heap.size + 1) (u3.heap.size + 1 + 1) := ⟨_, rfl, newN_abd u3 c.ws.length (by omega)⟩; rw [huz]; clear huz; have hI := in_new HG.out HP.out HR3.out hz2 hNN; clear hNN; revert hI; generalize u3.heap.size + 1 + 1 = d; generalize u3.heap.size + 1 = b2; generalize u3.heap.size = b1; intro hI)
      | (obtain ⟨uz, huz, hNN⟩ : ∃ uz, (((u3.alloc (.cells (madeCells #[.int .i64 0, .int .i64 0, .bool false, .bool false, .int .i64 0] (c.ws.length * 5)) 73)).alloc (.cells #[.slice (some ⟨u3.heap.size, 0, none⟩) c.ws.length c.ws.length, .slice (some ⟨u3.heap.size + 1 + 1, 0, none⟩) c.ws.length c.ws.length] 42)).alloc (.cells (madeCells #[Value.bool false] c.ws.length) 4)).drew = uz ∧ NewN u3 uz c.ws.length (u3.heap.size) (u3.heap.size + 1 + 1) (u3.heap.size + 1) := ⟨_, rfl, newN_adb u3 c.ws.length (by omega)⟩; rw [huz]; clear huz; have hI := in_new HG.out HP.out HR3.out hz2 hNN; clear hNN; revert hI; generalize u3.heap.size + 1 + 1 = b2; generalize u3.heap.size + 1 = d; generalize u3.heap.size = b1; intro hI)
      | (obtain ⟨uz, huz, hNN⟩ : ∃ uz, (((u3.alloc (.cells (madeCells #[Value.bool false] c.ws.length) 4)).alloc (.cells (madeCells #[.int .i64 0, .int .i64 0, .bool false, .bool false, .int .i64 0] (c.ws.length * 5)) 73)).alloc (.cells #[.slice (some ⟨u3.heap.size + 1, 0, none⟩) c.ws.length c.ws.length, .slice (some ⟨u3.heap.size, 0, none⟩) c.ws.length c.ws.length] 42)).drew = uz ∧ NewN u3 uz c.ws.length (u3.heap.size + 1) (u3.heap.size) (u3.heap.size + 1 + 1) := ⟨_, rfl, newN_bad u3 c.ws.length (by omega)⟩; rw [huz]; clear huz; have hI := in_new HG.out HP.out HR3.out hz2 hNN; clear hNN; revert hI; generalize u3.heap.size + 1 + 1 = d; generalize u3.heap.size + 1 = b1; generalize u3.heap.size = b2; intro hI)
      | (obtain ⟨uz, huz, hNN⟩ : ∃ uz, (((u3.alloc (.cells (madeCells #[Value.bool false] c.ws.length) 4)).alloc (.cells #[.slice (some ⟨u3.heap.size + 1 + 1, 0, none⟩) c.ws.length c.ws.length, .slice (some ⟨u3.heap.size, 0, none⟩) c.ws.length c.ws.length] 42)).alloc (.cells (madeCells #[.int .i64 0, .int .i64 0, .bool false, .bool false, .int .i64 0] (c.ws.length * 5)) 73)).drew = uz ∧ NewN u3 uz c.ws.length (u3.heap.size + 1 + 1) (u3.heap.size) (u3.heap.size + 1) := ⟨_, rfl, newN_bda u3 c.ws.length (by omega)⟩; rw [huz]; clear huz; have hI := in_new HG.out HP.out HR3.out hz2 hNN; clear hNN; revert hI; generalize u3.heap.size + 1 + 1 = b1; generalize u3.heap.size + 1 = d; generalize u3.heap.size = b2; intro hI)
      | (obtain ⟨uz, huz, hNN⟩ : ∃ uz, (((u3.alloc (.cells #[.slice (some ⟨u3.heap.size + 1, 0, none⟩) c.ws.length c.ws.length, .slice (some ⟨u3.heap.size + 1 + 1, 0, none⟩) c.ws.length c.ws.length] 42)).alloc (.cells (madeCells #[.int .i64 0, .int .i64 0, .bool false, .bool false, .int .i64 0] (c.ws.length * 5)) 73)).alloc (.cells (madeCells #[Value.bool false] c.ws.length) 4)).drew = uz ∧ NewN u3 uz c.ws.length (u3.heap.size + 1) (u3.heap.size + 1 + 1) (u3.heap.size) := ⟨_, rfl, newN_dab u3 c.ws.length (by omega)⟩; rw [huz]; clear huz; have hI := in_new HG.out HP.out HR3.out hz2 hNN; clear hNN; revert hI; generalize u3.heap.size + 1 + 1 = b2; generalize u3.heap.size + 1 = b1; generalize u3.heap.size = d; intro hI)
      | (obtain ⟨uz, huz, hNN⟩ : ∃ uz, (((u3.alloc (.cells #[.slice (some ⟨u3.heap.size + 1 + 1, 0, none⟩) c.ws.length c.ws.length, .slice (some ⟨u3.heap.size + 1, 0, none⟩) c.ws.length c.ws.length] 42)).alloc (.cells (madeCells #[Value.bool false] c.ws.length) 4)).alloc (.cells (madeCells #[.int .i64 0, .int .i64 0, .bool false, .bool false, .int .i64 0] (c.ws.length * 5)) 73)).drew = uz ∧ NewN u3 uz c.ws.length (u3.heap.size + 1 + 1) (u3.heap.size + 1) (u3.heap.size) := ⟨_, rfl, newN_dba u3 c.ws.length (by omega)⟩; rw [huz]; clear huz; have hI := in_new HG.out HP.out HR3.out hz2 hNN; clear hNN; revert hI; generalize u3.heap.size + 1 + 1 = b1; generalize u3.heap.size + 1 = b2; generalize u3.heap.size = d; intro hI)
    all_goals
      clear hm1 hm2 c0 hlt HP HR3 HG hz2
      have c0 : uz.cell? ⟨w.heap.size, 0, none⟩ = some (.slice ad c.ws.length cap) := hI.nv.c 0 _ rfl
      have HI0 : Hid (IN w c (.slice ad c.ws.length cap) (.slice ad' c.ds.length cap') b1 b2 d 0 uz) := hI
      clear hI
      go_wp2_with fail
      clear c0
      have hZW := (zero_of_info (P := Tryd.prog) zero_wireB).1
      go_loopw [22] (fun i wr => ∃ j : Nat, j ≤ c.ws.length ∧ i = .int .i64 j ∧ IN w c (.slice ad c.ws.length cap) (.slice ad' c.ds.length cap') b1 b2 d j wr) (fun i _ => c.ws.length - (intOf i).toNat)
      case atStart => exact ⟨0, Nat.zero_le _, rfl, HI0.out⟩
      case round =>
        clear HI0
        obtain ⟨j, hj, rfl, hI⟩ := hrel
        by_cases hjl : j < c.ws.length
        · have hjl' : (j : Int) < (c.ws.length : Int) := by omega
          obtain ⟨x, hx⟩ : ∃ x, c.ws[j]? = some x := ⟨c.ws[j], List.getElem?_eq_getElem hjl⟩
          obtain ⟨b, off, capx, hv, hb1, hb2, h5⟩ := HA.out.at_ hx
          simp only [Value.slice.injEq, true_and] at hv
          obtain ⟨rfl, rfl⟩ := hv
          have h5 : CV wr b (off + j * 12) (wireC x) := h5.below hI.below (by omega)
          have HX : Hid (c.ws[j]? = some x) := hx
          have HI : Hid (IN w c (.slice (some ⟨b, off, none⟩) c.ws.length cap) (.slice ad' c.ds.length cap') b1 b2 d j wr) := hI
          clear hx hI
          go_wp2_with (first
            | refine wpList_loadG Tryd.isAgg55 Tryd.sizeOf55 _ rfl rfl rfl rfl h5 ?_
            | refine wpList_allocG hZW rfl rfl ?_)
          intro w1 g1 qv z1
          clear h5
          have hr12 := qv.run 0 12 (show 0 + 12 ≤ 12 by decide)
          go_wp2_with (refine wpList_storeG Tryd.sizeOf55 _ _ rfl rfl rfl rfl rfl (wireC_one x) hr12.1 hr12.2 ?_)
          intro w2 L
          have qx := L.var qv
          have z2 := L.size
          have G2 : Below wr.heap.size wr w2 := L.below _ _ (Nat.le_refl _) g1
          have HX2 : Hid (VarG w2 wr.heap.size (wireC x) ∧ wr.heap.size < w2.heap.size) := ⟨qx, by omega⟩
          obtain ⟨V, hV⟩ : ∃ V, wr.heap.size = V := ⟨_, rfl⟩
          have hI2 := HI.out.grow G2
          have HI2 : Hid (IN w c (.slice (some ⟨b, off, none⟩) c.ws.length cap) (.slice ad' c.ds.length cap') b1 b2 d j w2) := hI2
          rw [hV] at HX2
          rw [hV]
          clear L g1 qv z1 z2 hr12 qx G2 hI2 hV HI
          go_wp2_with fail
          refine wp_region_last (R := Grow) (Φ := fun i v u => match i with
              | 0 => v = .pointer (some ⟨d, 0, none⟩)
              | 1 => v = .slice (some ⟨b1, 0, none⟩) c.ws.length c.ws.length
              | 2 => v = .int .i64 j
              | 3 => v = .pointer (some ⟨V, 0, none⟩)
              | 4 => v = .int .i64 x.kind
              | 5 => v = .pointer (some ⟨V, 1, none⟩)
              | 6 => v = .int .i64 x.n
              | 7 => v = .agg (blockC (newB x)).toArray
              | 8 => v = .pointer (some ⟨b1, j * 5, none⟩)
              | _ => True)
            (J := fun L a u => True) 9 _ rfl rfl (by kernel_rfl) (by kernel_rfl) (by kernel_rfl) (by kernel_rfl) (Below.refl _ _) grow_trans ?_ trivial ?_ ?_
          · intro i v u u' hr
            match i with
            | 0 | 1 | 2 | 3 | 4 | 5 | 6 | 7 | 8 | _ + 9 => exact fun h => h
          · intro i o ho hin L ac u hf hR0 hLs hLi hp he hJ K' hK
            have hR : Grow w2 u := (Below.drew (Below.refl _ _)).trans hR0
            have hsz' : ac.tmps.size = 38 := hf.size
            have hus := hR.size
            rcases i with _ | _ | _ | _ | _ | _ | _ | _ | _ | i
            · obtain rfl := Option.some.inj ho
              have q3 : ac.tmps.getD 3 undef = .pointer (some ⟨d, 0, none⟩) := hf.at_ 3 (by kernel_rfl)
              clear hp he
              go_simp
              exact hK _ _ (Below.refl _ _) (getD_put_self ac 27 _ (by show _ < ac.tmps.size; omega)) trivial
            · obtain rfl := Option.some.inj ho
              have q27 : ac.tmps.getD 27 undef = .pointer (some ⟨d, 0, none⟩) := hp 0 _ rfl (he _ (Array.mem_of_getElem? (i := 0) rfl) (by kernel_rfl))
              clear hp he
              have c1 : u.cell? ⟨d, 0, none⟩ = some (.slice (some ⟨b1, 0, none⟩) c.ws.length c.ws.length) := by have := (HI2.out.sv.below hR HI2.out.hi.2.2).c 0 _ rfl; rwa [Nat.zero_add] at this
              go_simp
              exact hK _ _ (Below.refl _ _) (getD_put_self ac 28 _ (by show _ < ac.tmps.size; omega)) trivial
            · obtain rfl := Option.some.inj ho
              have q4 : ac.tmps.getD 4 undef = .int .i64 j := hf.at_ 4 (by kernel_rfl)
              clear hp he
              go_simp
              exact hK _ _ (Below.refl _ _) (getD_put_self ac 29 _ (by show _ < ac.tmps.size; omega)) trivial
            · obtain rfl := Option.some.inj ho
              have q5 : ac.tmps.getD 5 undef = .pointer (some ⟨V, 0, none⟩) := hf.at_ 5 (by kernel_rfl)
              clear hp he
              go_simp
              exact hK _ _ (Below.refl _ _) (getD_put_self ac 30 _ (by show _ < ac.tmps.size; omega)) trivial
            · obtain rfl := Option.some.inj ho
              have q30 : ac.tmps.getD 30 undef = .pointer (some ⟨V, 0, none⟩) := hp 3 _ rfl (he _ (Array.mem_of_getElem? (i := 0) rfl) (by kernel_rfl))
              clear hp he
              have c1 : u.cell? ⟨V, 0, none⟩ = some (.int .i64 x.kind) := by have := (HX2.out.1.below hR HX2.out.2).c 0 _ rfl; rwa [Nat.zero_add] at this
              go_simp
              exact hK _ _ (Below.refl _ _) (getD_put_self ac 31 _ (by show _ < ac.tmps.size; omega)) trivial
            · obtain rfl := Option.some.inj ho
              have q5 : ac.tmps.getD 5 undef = .pointer (some ⟨V, 0, none⟩) := hf.at_ 5 (by kernel_rfl)
              clear hp he
              go_simp
              exact hK _ _ (Below.refl _ _) (getD_put_self ac 32 _ (by show _ < ac.tmps.size; omega)) trivial
            · obtain rfl := Option.some.inj ho
              have q32 : ac.tmps.getD 32 undef = .pointer (some ⟨V, 1, none⟩) := hp 5 _ rfl (he _ (Array.mem_of_getElem? (i := 0) rfl) (by kernel_rfl))
              clear hp he
              have c1 : u.cell? ⟨V, 1, none⟩ = some (.int .i64 x.n) := by have := (HX2.out.1.below hR HX2.out.2).c 1 _ rfl; rwa [Nat.zero_add] at this
              go_simp
              exact hK _ _ (Below.refl _ _) (getD_put_self ac 33 _ (by show _ < ac.tmps.size; omega)) trivial
            · obtain rfl := Option.some.inj ho
              have q31 : ac.tmps.getD 31 undef = .int .i64 x.kind := hp 4 _ rfl (he _ (Array.mem_of_getElem? (i := 0) rfl) (by kernel_rfl))
              have q33 : ac.tmps.getD 33 undef = .int .i64 x.n := hp 6 _ rfl (he _ (Array.mem_of_getElem? (i := 1) rfl) (by kernel_rfl))
              clear hp he
              go_simp
              refine (iBlockNew_any u x.kind x.n).mono ?_
              rintro e1 u' ⟨rfl, hbu⟩
              exact hK _ _ hbu (getD_put_self ac 34 _ (by show _ < ac.tmps.size; omega)) trivial
            · obtain rfl := Option.some.inj ho
              have q28 : ac.tmps.getD 28 undef = .slice (some ⟨b1, 0, none⟩) c.ws.length c.ws.length := hp 1 _ rfl (he _ (Array.mem_of_getElem? (i := 0) rfl) (by kernel_rfl))
              have q29 : ac.tmps.getD 29 undef = .int .i64 j := hp 2 _ rfl (he _ (Array.mem_of_getElem? (i := 1) rfl) (by kernel_rfl))
              clear hp he
              go_simp
              exact hK _ _ (Below.refl _ _) (getD_put_self ac 35 _ (by show _ < ac.tmps.size; omega)) trivial
            · omega
          · intro L ac u hf hR0 hp hJ K' hK
            have hR : Grow w2 u := (Below.drew (Below.refl _ _)).trans hR0
            have hus := hR.size
            have q34 : ac.tmps.getD 34 undef = .agg (blockC (newB x)).toArray := (hp 7 _ (by decide) rfl).2
            have q35 : ac.tmps.getD 35 undef = .pointer (some ⟨b1, j * 5, none⟩) := (hp 8 _ (by decide) rfl).2
            have hIu := HI2.out.grow hR
            obtain ⟨r1, r2⟩ := go_room hIu.l1 (fillN_length _ (by omega)) hjl
            refine wantedG rfl (wp_storeG Tryd.sizeOf73 (vs := blockC (newB x)) _ _ rfl (B := b1) (x := j * 5) q35 q34 rfl (blockC_one _) r1 r2 ?_)
            intro u5 L5
            refine hK _ _ ?_
            have HN5 : Hid (IN w c (.slice (some ⟨b, off, none⟩) c.ws.length cap) (.slice ad' c.ds.length cap') b1 b2 d (j + 1) u5) := HI2.out.next hR HX.out L5
            clear hK L5 hIu r1 r2 hp hJ hR0 q34 q35 HI2 HX2
            obtain ⟨fq, ea, hfv⟩ := act_lit ac 38 hf.size
            have md : ac.defers = [] := hf.defers
            rw [md] at ea
            have m0 := hf.at_ 0 (by kernel_rfl)
            have m1 := hf.at_ 1 (by kernel_rfl)
            have m2 := hf.at_ 2 (by kernel_rfl)
            have m3 := hf.at_ 3 (by kernel_rfl)
            have m4 := hf.at_ 4 (by kernel_rfl)
            have m5 := hf.at_ 5 (by kernel_rfl)
            have m6 := hf.at_ 6 (by kernel_rfl)
            have m7 := hf.at_ 7 (by kernel_rfl)
            have m8 := hf.at_ 8 (by kernel_rfl)
            have m9 := hf.at_ 9 (by kernel_rfl)
            have m10 := hf.at_ 10 (by kernel_rfl)
            have m11 := hf.at_ 11 (by kernel_rfl)
            have m12 := hf.at_ 12 (by kernel_rfl)
            have m13 := hf.at_ 13 (by kernel_rfl)
            have m14 := hf.at_ 14 (by kernel_rfl)
            have m15 := hf.at_ 15 (by kernel_rfl)
            have m16 := hf.at_ 16 (by kernel_rfl)
            have m17 := hf.at_ 17 (by kernel_rfl)
            have m18 := hf.at_ 18 (by kernel_rfl)
            have m19 := hf.at_ 19 (by kernel_rfl)
            have m20 := hf.at_ 20 (by kernel_rfl)
            have m21 := hf.at_ 21 (by kernel_rfl)
            have m22 := hf.at_ 22 (by kernel_rfl)
            have m23 := hf.at_ 23 (by kernel_rfl)
            have m24 := hf.at_ 24 (by kernel_rfl)
            have m25 := hf.at_ 25 (by kernel_rfl)
            have m26 := hf.at_ 26 (by kernel_rfl)
            have m36 := hf.at_ 36 (by kernel_rfl)
            have m37 := hf.at_ 37 (by kernel_rfl)
            rw [← hfv] at m0 m1 m2 m3 m4 m5 m6 m7 m8 m9 m10 m11 m12 m13 m14 m15 m16 m17 m18 m19 m20 m21 m22 m23 m24 m25 m26 m36 m37
            simp only [Array.getD_eq_getD_getElem?, List.getElem?_toArray, List.getElem?_cons_succ, List.getElem?_cons_zero, Option.getD_some] at m0 m1 m2 m3 m4 m5 m6 m7 m8 m9 m10 m11 m12 m13 m14 m15 m16 m17 m18 m19 m20 m21 m22 m23 m24 m25 m26 m36 m37
            simp only [List.range, List.range.loop, List.map_cons, List.map_nil, m0, m1, m2, m3, m4, m5, m6, m7, m8, m9, m10, m11, m12, m13, m14, m15, m16, m17, m18, m19, m20, m21, m22, m23, m24, m25, m26, m36, m37] at ea
            subst ea
            clear m0 m1 m2 m3 m4 m5 m6 m7 m8 m9 m10 m11 m12 m13 m14 m15 m16 m17 m18 m19 m20 m21 m22 m23 m24 m25 m26 m36 m37 hfv md hf
            go_wp2
            go_roundw
            case rel => exact ⟨j + 1, by omega, by go_num, HN5.out⟩
            case measure => simp [intOf]; omega
        · have hjl' : ¬ (j : Int) < (c.ws.length : Int) := by omega
          obtain rfl : j = c.ws.length := by omega
          have hsv := hI.sv
          have hrr := hI.rv.run 0 2 (show 0 + 2 ≤ 2 by decide)
          have HI : Hid (IN w c (.slice ad c.ws.length cap) (.slice ad' c.ds.length cap') b1 b2 d c.ws.length wr) := hI
          clear hI
          go_wp2_with (first
            | refine wpList_loadG Tryd.isAgg42 Tryd.sizeOf42 _ rfl rfl rfl rfl hsv.c ?_
            | refine wpList_storeG Tryd.sizeOf42 (vs := [.slice (some ⟨b1, 0, none⟩) c.ws.length c.ws.length, .slice (some ⟨b2, 0, none⟩) c.ws.length c.ws.length]) _ _ rfl rfl rfl rfl rfl (pair_one rfl rfl) hrr.1 hrr.2 ?_)
          intro u5 L5
          have s5 := L5.size
          obtain ⟨o1, o2, o3⟩ := HI.out.lo
          obtain ⟨i1, i2, i3⟩ := HI.out.hi
          obtain ⟨n1, n2, n3⟩ := HI.out.ne
          have q5 := L5.var HI.out.rv
          have A5 := HI.out.l1.kept (fun k r1 r2 => L5.block k (by omega))
          have B5 := HI.out.l2.kept (fun k r1 r2 => L5.block k (by omega))
          have G5 := L5.below _ _ (by omega) HI.out.below
          rw [fillN_all] at A5
          have HO : Hid (StO u5 w.heap.size u5.heap.size (.agg #[.slice (some ⟨b1, 0, none⟩) c.ws.length c.ws.length, .slice (some ⟨b2, 0, none⟩) c.ws.length c.ws.length]) q) := by
            show StO _ _ _ _ q
            rw [HN.out]
            exact ⟨_, _, _, _, _, _, rfl, A5, B5, ⟨by omega, by omega⟩, ⟨by omega, by omega⟩, by omega⟩
          clear L5 hsv hrr A5 B5 s5 o1 o2 o3 i1 i2 i3 n1 n2 n3
          go_wp2
          refine bodyPost_ret (v := .agg [Value.slice (some ⟨b1, 0, none⟩) c.ws.length c.ws.length, .slice (some ⟨b2, 0, none⟩) c.ws.length c.ws.length].toArray) ?_ rfl ⟨_, rfl, HO.out, G5⟩
          simp [results, Tryd.results17]
          exact run_loadVarG (P := Tryd.prog) Tryd.isAgg42 Tryd.sizeOf42 rfl q5.c
end Go.Proofs.YtokphdpaghkakaaDoor
