/-
  FnExactMemOpen, walked at every argument, given what the program's MemOpen answers. (Written by our generator lawgen.py.)
-/
import Derived.Test.YtcanljckhjoooaaImplC
import Derived.Test.YtcanljckhjoooaaLawKit
namespace Go.Proofs.Ytcanljckhjoooaa
open Go.ChangeShapes Go.WideShapes Go.ChangeAt Go.RowKit
set_option linter.unusedVariables false

set_option maxHeartbeats 8000000 in
theorem exactMemOpen_walk
    (impl : ∀ (w : World) ,  Calls Try.prog 13 #[] w fun e w' => ∃ m', e = .returned m' ∧ MO w' w.heap.size w'.heap.size m' (memZero) ∧ Below w.heap.size w w')
    (w : World)  :
    Calls Try.prog 4 #[] w fun e w' => e = .returned (.bool true) ∧ Below w.heap.size w w' := by
  have hb0 := Below.refl w.heap.size w
  go_enter Try.func4, Try.ntmps4
  go_wp2_with fail
  refine (sMemOpen_any _).mono ?_
  rintro e u1 ⟨mm, rfl, O1, hg1⟩
  obtain ⟨qa, qb, qc, rfl, k1, k2, k3⟩ := O1.mi
  obtain ⟨paT1, caT1, rfl⟩ := k1.shape
  obtain ⟨pbT1, cbT1, rfl⟩ := k2.shape
  obtain ⟨pcT1, ccT1, rfl⟩ := k3.shape
  clear k1 k2 k3
  have hb_2 := below_two hb0 hg1
  have hz_2 := hg1.size
  clear hb0
  clear hg1
  go_wp2_with fail
  obtain ⟨u3, hu3, G3, Y3, hs3⟩ : ∃ u3, u1.alloc (.cells #[.slice paT1 (memZero).i.length caT1, .slice pbT1 (memZero).o.length cbT1, .slice pcT1 (memZero).v.length ccT1] 30) = u3 ∧ Grow u1 u3 ∧ Box3 u3 u1.heap.size (.slice paT1 (memZero).i.length caT1) (.slice pbT1 (memZero).o.length cbT1) (.slice pcT1 (memZero).v.length ccT1) ∧ u3.heap.size = u1.heap.size + 1 :=
    ⟨_, rfl, (Below.refl _ _).alloc (Nat.le_refl _) _, box3_new u1 _ _ _ _, by simp⟩
  rw [hu3]
  clear hu3
  have O1_4 := O1.below G3 (by omega)
  have hb_4 := below_two hb_2 G3
  have hz_4 := G3.size
  clear O1 hb_2
  clear G3
  refine (impl _).mono ?_
  rintro e u5 ⟨mm, rfl, O5, hg5⟩
  obtain ⟨qa, qb, qc, rfl, k1, k2, k3⟩ := O5.mi
  obtain ⟨paT5, caT5, rfl⟩ := k1.shape
  obtain ⟨pbT5, cbT5, rfl⟩ := k2.shape
  obtain ⟨pcT5, ccT5, rfl⟩ := k3.shape
  clear k1 k2 k3
  have O1_6 := O1_4.below hg5 (by omega)
  have Y1_6 := Y3.below hg5 (by omega)
  have hb_6 := below_two hb_4 hg5
  have hz_6 := hg5.size
  clear O1_4 Y3 hb_4
  clear hg5
  have lt7 : u1.heap.size < u5.heap.size := by omega
  have zz8 := Y1_6.c0
  have zz9 := Y1_6.c1
  have zz10 := Y1_6.c2
  go_wp2_with fail
  clear lt7 zz8 zz9 zz10
  obtain ⟨u11, hu11, G11, Y11, hs11⟩ : ∃ u11, u5.alloc (.cells #[.slice paT5 (memZero).i.length caT5, .slice pbT5 (memZero).o.length cbT5, .slice pcT5 (memZero).v.length ccT5] 30) = u11 ∧ Grow u5 u11 ∧ Box3 u11 u5.heap.size (.slice paT5 (memZero).i.length caT5) (.slice pbT5 (memZero).o.length cbT5) (.slice pcT5 (memZero).v.length ccT5) ∧ u11.heap.size = u5.heap.size + 1 :=
    ⟨_, rfl, (Below.refl _ _).alloc (Nat.le_refl _) _, box3_new u5 _ _ _ _, by simp⟩
  rw [hu11]
  clear hu11
  have O1_12 := O1_6.below G11 (by omega)
  have Y1_12 := Y1_6.below G11 (by omega)
  have O5_12 := O5.below G11 (by omega)
  have hb_12 := below_two hb_6 G11
  have hz_12 := G11.size
  clear O1_6 Y1_6 O5 hb_6
  clear G11
  refine (eqMem_any _ _ _ _ _ _ _ (memZero) (memZero) O5_12.mi O1_12.mi (by omega) (by omega)).mono ?_
  rw [decide_eq_true rfl]
  rintro e u13 ⟨rfl, hg13⟩
  have O1_14 := O1_12.below hg13 (by omega)
  have Y1_14 := Y1_12.below hg13 (by omega)
  have O5_14 := O5_12.below hg13 (by omega)
  have Y2_14 := Y11.below hg13 (by omega)
  have hb_14 := below_two hb_12 hg13
  have hz_14 := hg13.size
  clear O1_12 Y1_12 O5_12 Y11 hb_12
  clear hg13
  have zz15 := Y2_14.c0
  have zz16 := Y2_14.c1
  have zz17 := Y2_14.c2
  go_wp2_with fail
  clear zz15 zz16 zz17
  have hm18 : (memZero).many ≤ 1048576 := Nat.le_trans (show memZero.many ≤ 18 by decide) (by omega)
  refine (markMem_any _ _ _ _ (memZero) 1 O5_14 (by omega) (by omega) (by omega) (by omega)).mono ?_
  rintro e u18 ⟨rfl, M18, ho18⟩
  clear O5_14
  have hp18 : ¬ (1 + ((memZero).many : Int) < 0) := by omega
  have O1_19 := O1_14.out ho18 (by omega) (by omega)
  have Y1_19 := Y1_14.out ho18 (by omega) (by omega)
  have Y2_19 := Y2_14.out ho18 (by omega) (by omega)
  have hb_19 := hb_14.trans (ho18.below (n := w.heap.size) (by omega) (by omega))
  have hz_19 := ho18.size
  clear O1_14 Y1_14 Y2_14 hb_14
  clear ho18
  have zz20 := Y2_19.c0
  have zz21 := Y2_19.c1
  have zz22 := Y2_19.c2
  go_wp2_with fail
  clear zz20 zz21 zz22
  refine (heldMem_any _ _ _ _ (memZero) 1 M18.mi (by omega) (by omega) (by omega) (by omega)).mono ?_
  rintro e u23 ⟨rfl, hg23⟩
  have O1_24 := O1_19.below hg23 (by omega)
  have Y1_24 := Y1_19.below hg23 (by omega)
  have Y2_24 := Y2_19.below hg23 (by omega)
  have O5_24 := M18.below hg23 (by omega)
  have hb_24 := below_two hb_19 hg23
  have hz_24 := hg23.size
  clear O1_19 Y1_19 Y2_19 M18 hb_19
  clear hg23
  go_wp2_with fail
  refine (impl _).mono ?_
  rintro e u25 ⟨mm, rfl, O25, hg25⟩
  obtain ⟨qa, qb, qc, rfl, k1, k2, k3⟩ := O25.mi
  obtain ⟨paT25, caT25, rfl⟩ := k1.shape
  obtain ⟨pbT25, cbT25, rfl⟩ := k2.shape
  obtain ⟨pcT25, ccT25, rfl⟩ := k3.shape
  clear k1 k2 k3
  have O1_26 := O1_24.below hg25 (by omega)
  have Y1_26 := Y1_24.below hg25 (by omega)
  have Y2_26 := Y2_24.below hg25 (by omega)
  have O5_26 := O5_24.below hg25 (by omega)
  have hb_26 := below_two hb_24 hg25
  have hz_26 := hg25.size
  clear O1_24 Y1_24 Y2_24 O5_24 hb_24
  clear hg25
  have lt27 : u1.heap.size < u25.heap.size := by omega
  have zz28 := Y1_26.c0
  have zz29 := Y1_26.c1
  have zz30 := Y1_26.c2
  go_wp2_with fail
  clear lt27 zz28 zz29 zz30
  obtain ⟨u31, hu31, G31, Y31, hs31⟩ : ∃ u31, u25.alloc (.cells #[.slice paT25 (memZero).i.length caT25, .slice pbT25 (memZero).o.length cbT25, .slice pcT25 (memZero).v.length ccT25] 30) = u31 ∧ Grow u25 u31 ∧ Box3 u31 u25.heap.size (.slice paT25 (memZero).i.length caT25) (.slice pbT25 (memZero).o.length cbT25) (.slice pcT25 (memZero).v.length ccT25) ∧ u31.heap.size = u25.heap.size + 1 :=
    ⟨_, rfl, (Below.refl _ _).alloc (Nat.le_refl _) _, box3_new u25 _ _ _ _, by simp⟩
  rw [hu31]
  clear hu31
  have O1_32 := O1_26.below G31 (by omega)
  have Y1_32 := Y1_26.below G31 (by omega)
  have Y2_32 := Y2_26.below G31 (by omega)
  have O5_32 := O5_26.below G31 (by omega)
  have O25_32 := O25.below G31 (by omega)
  have hb_32 := below_two hb_26 G31
  have hz_32 := G31.size
  clear O1_26 Y1_26 Y2_26 O5_26 O25 hb_26
  clear G31
  refine (eqMem_any _ _ _ _ _ _ _ (memZero) (memZero) O25_32.mi O1_32.mi (by omega) (by omega)).mono ?_
  rw [decide_eq_true rfl]
  rintro e u33 ⟨rfl, hg33⟩
  have O1_34 := O1_32.below hg33 (by omega)
  have Y1_34 := Y1_32.below hg33 (by omega)
  have Y2_34 := Y2_32.below hg33 (by omega)
  have O5_34 := O5_32.below hg33 (by omega)
  have O25_34 := O25_32.below hg33 (by omega)
  have Y5_34 := Y31.below hg33 (by omega)
  have hb_34 := below_two hb_32 hg33
  have hz_34 := hg33.size
  clear O1_32 Y1_32 Y2_32 O5_32 O25_32 Y31 hb_32
  clear hg33
  have zz35 := Y2_34.c0
  have zz36 := Y2_34.c1
  have zz37 := Y2_34.c2
  go_wp2_with fail
  clear zz35 zz36 zz37
  refine (heldMem_any _ _ _ _ (memZero) 1 O5_34.mi (by omega) (by omega) (by omega) (by omega)).mono ?_
  rintro e u38 ⟨rfl, hg38⟩
  have O1_39 := O1_34.below hg38 (by omega)
  have Y1_39 := Y1_34.below hg38 (by omega)
  have Y2_39 := Y2_34.below hg38 (by omega)
  have O5_39 := O5_34.below hg38 (by omega)
  have O25_39 := O25_34.below hg38 (by omega)
  have Y5_39 := Y5_34.below hg38 (by omega)
  have hb_39 := below_two hb_34 hg38
  have hz_39 := hg38.size
  clear O1_34 Y1_34 Y2_34 O5_34 O25_34 Y5_34 hb_34
  clear hg38
  clear O1_39 Y1_39 Y2_39 O5_39 O25_39 Y5_39
  go_wp2
  go_ret
  exact ⟨rfl, hb_39⟩
end Go.Proofs.Ytcanljckhjoooaa
