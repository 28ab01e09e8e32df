/-
  FnExactBlockNew, FnExactBlockOk, FnExactBlockStep, walked at every argument.
-/
import Derived.Test.YtgfoimleoekkiaaBlockImplC
namespace Go.Proofs.Ytgfoimleoekkiaa
open Go.ChangeShapes Go.WideShapes Go.ChangeAt Go.RowKit
set_option linter.unusedVariables false
set_option maxRecDepth 100000

set_option maxHeartbeats 4000000 in
theorem exactBlockNew_walk (w : World) (k n : Int) :
    Calls Try.prog 9 #[.int .i64 k, .int .i64 n] w fun e w' => e = .returned (.bool true) ∧ Below w.heap.size w w' := by
  go_enter Try.func9, Try.ntmps9
  go_wp2_with fail
  refine (sBlockNew_any _ _ _).mono ?_
  rintro e1 u1 ⟨rfl, g1⟩
  obtain ⟨c, hc⟩ : ∃ c, blockNew k n = c := ⟨_, rfl⟩
  have hI := fun u => iBlockNew_any u k n
  rw [hc] at hI ⊢
  clear hc
  have s1 := g1.size
  go_wp2_with (refine wpList_allocB rfl rfl ?_)
  intro u2 g2 p2 s2
  go_wp2_with (refine wpList_storeB rfl _ _ rfl rfl rfl p2 ?_)
  intro u3 L3
  have z3 := L3.size
  have p3 := L3.cell
  have G3 := (g1.trans (g2.mono (by omega))).trans (L3.below.mono (by omega))
  clear g1 g2 p2 L3
  go_wp2_with fail
  refine (hI _).mono ?_
  clear hI
  rintro e4 u4 ⟨rfl, g4⟩
  have s4 := g4.size
  have p4 := p3.below g4 (by omega)
  have G4 := G3.trans (g4.mono (by omega))
  clear g4 G3 p3
  go_wp2_with (refine wpList_allocB rfl rfl ?_)
  intro u5 g5 q5 s5
  go_wp2_with (refine wpList_storeB rfl _ _ rfl rfl rfl q5 ?_)
  intro u6 L6
  have z6 := L6.size
  have q6 := L6.cell
  have p6 := L6.other (p4.below g5 (by omega)) (by omega)
  have G6 := (G4.trans (g5.mono (by omega))).trans (L6.below.mono (by omega))
  clear g5 G4 p4 q5 L6
  go_wp2_with (first | refine wpList_loadB rfl _ rfl rfl q6 ?_ | refine wpList_loadB rfl _ rfl rfl p6 ?_)
  refine (eqBlock_same _ _).mono ?_
  rintro e7 u7 ⟨rfl, g7⟩
  have G7 := G6.trans (g7.mono (by omega))
  clear g7 G6
  go_wp2
  go_ret
  exact ⟨rfl, G7⟩

set_option maxHeartbeats 4000000 in
theorem exactBlockOk_walk (w : World) (b : BlockD) :
    Calls Try.prog 10 #[b.val] w fun e w' => e = .returned (.bool true) ∧ Below w.heap.size w w' := by
  obtain ⟨u0, hu0, G0, C0, S0⟩ : ∃ u0, w.alloc (.cells #[.int .i64 b.kind, .int .i64 b.n, .bool b.on, .bool b.was, .int .i64 b.t] 38) = u0 ∧ Below w.heap.size w u0 ∧ CellB u0 w.heap.size b ∧ u0.heap.size = w.heap.size + 1 :=
    ⟨_, rfl, below_al (Below.refl _ _) _, cellB_new w b _, by simp⟩
  have HU : Hid (_ = u0) := hu0
  clear hu0
  unfold BlockD.val
  go_enter Try.func10, Try.ntmps10
  go_wp2_with fail
  rw [HU.out]
  clear HU
  refine (toBlock_any _ b).mono ?_
  rintro e1 u1 ⟨rfl, g1⟩
  have s1 := g1.size
  have C1 := C0.below g1 (by omega)
  have G1 := G0.trans (g1.mono (by omega))
  clear g1 G0 C0
  go_wp2_with fail
  refine (sBlockOk_any _ b).mono ?_
  rintro e2 u2 ⟨rfl, g2⟩
  have s2 := g2.size
  have C2 := C1.below g2 (by omega)
  have G2 := G1.trans (g2.mono (by omega))
  clear g2 G1 C1
  have hI := fun u => iBlockOk_any u b
  generalize blockOk b = ok at *
  obtain ⟨c0, c1, c2, c3, c4, _⟩ := C2
  go_wp2_with fail
  clear c0 c1 c2 c3 c4
  refine (toBlock_any _ b).mono ?_
  rintro e3 u3 ⟨rfl, g3⟩
  have s3 := g3.size
  have G3 := G2.trans (g3.mono (by omega))
  clear g3 G2
  go_wp2_with fail
  refine (hI _).mono ?_
  clear hI
  rintro e4 u4 ⟨rfl, g4⟩
  have G4 := G3.trans (g4.mono (by omega))
  clear g4 G3
  have e : (ok != ok) = false := by cases ok <;> rfl
  go_wp2
  go_ret
  exact ⟨rfl, G4⟩

set_option maxHeartbeats 4000000 in
theorem exactBlockStep_walk (w : World) (b : BlockD) (x y : Bool) (dt : Int) :
    Calls Try.prog 11 #[b.val, .bool x, .bool y, .int .i64 dt] w fun e w' => e = .returned (.bool true) ∧ Below w.heap.size w w' := by
  obtain ⟨u0, hu0, G0, C0, S0⟩ : ∃ u0, w.alloc (.cells #[.int .i64 b.kind, .int .i64 b.n, .bool b.on, .bool b.was, .int .i64 b.t] 38) = u0 ∧ Below w.heap.size w u0 ∧ CellB u0 w.heap.size b ∧ u0.heap.size = w.heap.size + 1 :=
    ⟨_, rfl, below_al (Below.refl _ _) _, cellB_new w b _, by simp⟩
  have HU : Hid (_ = u0) := hu0
  clear hu0
  have hI := fun u => iBlockStep_any u b x y dt
  have hS := fun u => sBlockStep_any u b x y dt
  obtain ⟨c, hc⟩ : ∃ c, blockStep b x y dt = c := ⟨_, rfl⟩
  rw [hc] at hI hS
  clear hc
  unfold BlockD.val
  go_enter Try.func11, Try.ntmps11
  go_wp2_with fail
  rw [HU.out]
  clear HU
  refine (toBlock_any _ b).mono ?_
  rintro e1 u1 ⟨rfl, g1⟩
  have s1 := g1.size
  have C1 := C0.below g1 (by omega)
  have G1 := G0.trans (g1.mono (by omega))
  clear g1 G0 C0
  go_wp2_with fail
  refine (hS _).mono ?_
  clear hS
  rintro e2 u2 ⟨rfl, g2⟩
  have s2 := g2.size
  have C2 := C1.below g2 (by omega)
  have G2 := G1.trans (g2.mono (by omega))
  clear g2 G1 C1
  go_wp2_with (refine wpList_allocB rfl rfl ?_)
  intro u3 g3 p3 s3
  go_wp2_with (refine wpList_storeB (b := c) rfl _ _ rfl rfl rfl p3 ?_)
  intro u4 L4
  have z4 := L4.size
  have p4 := L4.cell
  have C4 := L4.other (C2.below g3 (by omega)) (by omega)
  have G4 := (G2.trans (g3.mono (by omega))).trans (L4.below.mono (by omega))
  clear G2 g3 L4 p3 C2
  obtain ⟨c0, c1, c2, c3, c4, _⟩ := C4
  go_wp2_with fail
  clear c0 c1 c2 c3 c4
  refine (toBlock_any _ b).mono ?_
  rintro e5 u5 ⟨rfl, g5⟩
  have s5 := g5.size
  have p5 := p4.below g5 (by omega)
  have G5 := G4.trans (g5.mono (by omega))
  clear g5 G4 p4
  go_wp2_with fail
  refine (hI _).mono ?_
  clear hI
  rintro e6 u6 ⟨rfl, g6⟩
  have s6 := g6.size
  have p6 := p5.below g6 (by omega)
  have G6 := G5.trans (g6.mono (by omega))
  clear g6 G5 p5
  go_wp2_with (refine wpList_allocB rfl rfl ?_)
  intro u7 g7 q7 s7
  go_wp2_with (refine wpList_storeB (b := c) rfl _ _ rfl rfl rfl q7 ?_)
  intro u8 L8
  have z8 := L8.size
  have q8 := L8.cell
  have p8 := L8.other (p6.below g7 (by omega)) (by omega)
  have G8 := (G6.trans (g7.mono (by omega))).trans (L8.below.mono (by omega))
  clear g7 G6 p6 q7 L8
  go_wp2_with (first | refine wpList_loadB rfl _ rfl rfl q8 ?_ | refine wpList_loadB rfl _ rfl rfl p8 ?_)
  refine (eqBlock_same _ _).mono ?_
  rintro e9 u9 ⟨rfl, g9⟩
  have G9 := G8.trans (g9.mono (by omega))
  clear g9 G8
  have e : (c.on != c.on) = false := by cases c.on <;> rfl
  go_wp2
  go_ret
  exact ⟨rfl, G9⟩
end Go.Proofs.Ytgfoimleoekkiaa
