/-
  FnExactAddrOk, walked at every argument, given what the program's AddrOk answers. (Written by our generator lawgen.py.)
-/
import Derived.Test.YtcanljckhjoooaaMemSpec
import Derived.Test.YtcanljckhjoooaaLawKit
namespace Go.Proofs.Ytcanljckhjoooaa
open Go.ChangeShapes Go.WideShapes Go.ChangeAt Go.RowKit
set_option linter.unusedVariables false

set_option maxHeartbeats 8000000 in
theorem exactAddrOk_walk
    (impl : ∀ (w : World) (k0 t0 : Int),  Calls Try.prog 11 #[AddrD.val ⟨k0, t0⟩] w fun e w' => e = .returned (.bool (addrOk ⟨k0, t0⟩)) ∧ Below w.heap.size w w')
    (w : World) (k0 t0 : Int) :
    Calls Try.prog 3 #[AddrD.val ⟨k0, t0⟩] w fun e w' => e = .returned (.bool true) ∧ Below w.heap.size w w' := by
  unfold AddrD.val
  have hb0 := Below.refl w.heap.size w
  go_enter Try.func3, Try.ntmps3
  go_wp2_with fail
  obtain ⟨u1, hu1, G1, BX0_1, hs1⟩ : ∃ u1, w.alloc (.cells #[.int .i64 k0, .int .i64 t0] 23) = u1 ∧ Grow w u1 ∧ Box2 u1 (w.heap.size) (.int .i64 k0) (.int .i64 t0) ∧ u1.heap.size = w.heap.size + 1 :=
    ⟨_, rfl, (Below.refl _ _).alloc (Nat.le_refl _) _, ⟨World.cell?_alloc_new _ _ _ _, World.cell?_alloc_new _ _ _ _⟩, by simp⟩
  rw [hu1]
  clear hu1
  have hb_2 := below_two hb0 G1
  have hz_2 := G1.size
  clear hb0
  clear G1
  refine (toAddr_any _ ⟨k0, t0⟩).mono ?_
  rintro e u3 ⟨rfl, hg3⟩
  have B0_4 := BX0_1.below hg3 (by omega)
  have hb_4 := below_two hb_2 hg3
  have hz_4 := hg3.size
  clear BX0_1 hb_2
  clear hg3
  go_wp2_with fail
  refine (sAddrOk_any _ ⟨k0, t0⟩).mono ?_
  rintro e u5 ⟨rfl, hg5⟩
  have B0_6 := B0_4.below hg5 (by omega)
  have hb_6 := below_two hb_4 hg5
  have hz_6 := hg5.size
  clear B0_4 hb_4
  clear hg5
  have zz7 := B0_6.c0
  have zz8 := B0_6.c1
  go_wp2_with fail
  clear zz7 zz8
  refine (toAddr_any _ ⟨k0, t0⟩).mono ?_
  rintro e u9 ⟨rfl, hg9⟩
  have B0_10 := B0_6.below hg9 (by omega)
  have hb_10 := below_two hb_6 hg9
  have hz_10 := hg9.size
  clear B0_6 hb_6
  clear hg9
  go_wp2_with fail
  refine (impl _ k0 t0).mono ?_
  rintro e u11 ⟨rfl, hg11⟩
  have B0_12 := B0_10.below hg11 (by omega)
  have hb_12 := below_two hb_10 hg11
  have hz_12 := hg11.size
  clear B0_10 hb_10
  clear hg11
  clear B0_12
  go_wp2
  go_ret
  exact ⟨rfl, hb_12⟩
end Go.Proofs.Ytcanljckhjoooaa
