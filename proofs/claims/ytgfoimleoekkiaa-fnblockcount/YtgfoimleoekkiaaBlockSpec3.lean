/-
  What chapter 6's model (package spec) answers of a step: l6Step, BlockStep. (Written by our generator gen_block.py.)
-/
import Derived.Test.YtgfoimleoekkiaaBlockSpec2
import Derived.Test.YtgfoimleoekkiaaBlockKit
namespace Go.Proofs.Ytgfoimleoekkiaa
open Go.ChangeShapes Go.WideShapes Go.ChangeAt Go.RowKit
set_option linter.unusedVariables false
set_option linter.unusedSimpArgs false


set_option maxHeartbeats 4000000 in
theorem l6Step_any (w : World) (b : BlockD) (x y : Bool) (dt : Int) (hb : blockOk b = true) (hd : 0 ≤ dt) (hd' : dt ≤ 1000) :
    Calls Try.prog 29 #[b.val, .bool x, .bool y, .int .i64 dt] w fun e w' => e = .returned (stepB b x y dt).val ∧ Below w.heap.size w w' := by
  have hc := blockOk_cases hb
  clear hb
  obtain ⟨k, n, on, was, t⟩ := b
  simp only at hc
  unfold stepB
  simp only
  rcases hc with ⟨hk, h1, h2, h3, h4⟩ | ⟨hk, h1, h2⟩
  · rcases hk with rfl | rfl | rfl
    · have hC := fun u => l6Delay_any u n t dt on was x y h3 h4 hd hd'
      obtain ⟨T, hT⟩ : ∃ T, stepT ⟨1, n, on, was, t⟩ x y dt = T := ⟨_, rfl⟩
      rw [hT] at hC ⊢
      obtain ⟨O, hO⟩ : ∃ O, stepOn ⟨1, n, on, was, t⟩ x y T = O := ⟨_, rfl⟩
      rw [hO] at hC ⊢
      clear hT hO h1 h2 h3 h4 hd hd'
      go_enter Try.func29, Try.ntmps29
      go_wp2_with (refine wpList_boxB rfl _ rfl rfl ?_)
      intro u1 g1 p1 s1
      go_wp2_with (refine wpList_allocB rfl rfl ?_)
      intro u2 g2 q2 s2
      have p2 := p1.below g2 (by omega)
      clear p1
      have c0 := p2.c0
      simp only at c0
      go_wp2_with (refine wpList_loadB rfl _ rfl rfl p2 ?_)
      clear c0
      refine (hC _).mono ?_
      clear hC
      rintro e3 u3 ⟨rfl, g3⟩
      have s3 := g3.size
      have p3 := p2.below g3 (by omega)
      have q3 := q2.below g3 (by omega)
      clear p2 q2
      go_wp2_with (refine wpList_storeB rfl _ _ rfl rfl rfl p3 ?_)
      intro u4 L4
      have z4 := L4.size
      have q4 := L4.other q3 (by omega)
      have L5 := laid_was L4.cell x
      simp only at L5
      have q5 := L5.other q4 (by omega)
      have z5 := L5.size
      have HG : Hid (Below w.heap.size w (u4.setCell ⟨w.heap.size, 3, none⟩ (.bool x))) := (((g1.trans (g2.mono (by omega))).trans (g3.mono (by omega))).trans (L4.below.mono (by omega))).trans (L5.below.mono (by omega))
      have c3 := L4.cell.c3
      have f3 := L4.cell.f 3
      simp only at c3
      clear g1 g2 g3 q3 q4 p3
      go_wp2_with (first | refine wpList_loadB rfl _ rfl rfl L5.cell ?_ | refine wpList_storeB rfl _ _ rfl rfl rfl q5 ?_)
      intro u6 L6
      clear c3 f3
      go_wp2
      obtain ⟨r0, r1, r2, r3, r4, _⟩ := L6.cell
      refine bodyPost_ret (v := BlockD.val ⟨1, n, O, x, T⟩) ?_ rfl ⟨rfl, HG.out.trans (L6.below.mono (by omega))⟩
      simp [results, Try.results29, go_sem, r0, r1, r2, r3, r4, BlockD.val]
    · have hC := fun u => l6Hold_any u n t dt on was x y h3 h4 hd hd'
      obtain ⟨T, hT⟩ : ∃ T, stepT ⟨2, n, on, was, t⟩ x y dt = T := ⟨_, rfl⟩
      rw [hT] at hC ⊢
      obtain ⟨O, hO⟩ : ∃ O, stepOn ⟨2, n, on, was, t⟩ x y T = O := ⟨_, rfl⟩
      rw [hO] at hC ⊢
      clear hT hO h1 h2 h3 h4 hd hd'
      go_enter Try.func29, Try.ntmps29
      go_wp2_with (refine wpList_boxB rfl _ rfl rfl ?_)
      intro u1 g1 p1 s1
      go_wp2_with (refine wpList_allocB rfl rfl ?_)
      intro u2 g2 q2 s2
      have p2 := p1.below g2 (by omega)
      clear p1
      have c0 := p2.c0
      simp only at c0
      go_wp2_with (refine wpList_loadB rfl _ rfl rfl p2 ?_)
      clear c0
      refine (hC _).mono ?_
      clear hC
      rintro e3 u3 ⟨rfl, g3⟩
      have s3 := g3.size
      have p3 := p2.below g3 (by omega)
      have q3 := q2.below g3 (by omega)
      clear p2 q2
      go_wp2_with (refine wpList_storeB rfl _ _ rfl rfl rfl p3 ?_)
      intro u4 L4
      have z4 := L4.size
      have q4 := L4.other q3 (by omega)
      have L5 := laid_was L4.cell x
      simp only at L5
      have q5 := L5.other q4 (by omega)
      have z5 := L5.size
      have HG : Hid (Below w.heap.size w (u4.setCell ⟨w.heap.size, 3, none⟩ (.bool x))) := (((g1.trans (g2.mono (by omega))).trans (g3.mono (by omega))).trans (L4.below.mono (by omega))).trans (L5.below.mono (by omega))
      have c3 := L4.cell.c3
      have f3 := L4.cell.f 3
      simp only at c3
      clear g1 g2 g3 q3 q4 p3
      go_wp2_with (first | refine wpList_loadB rfl _ rfl rfl L5.cell ?_ | refine wpList_storeB rfl _ _ rfl rfl rfl q5 ?_)
      intro u6 L6
      clear c3 f3
      go_wp2
      obtain ⟨r0, r1, r2, r3, r4, _⟩ := L6.cell
      refine bodyPost_ret (v := BlockD.val ⟨2, n, O, x, T⟩) ?_ rfl ⟨rfl, HG.out.trans (L6.below.mono (by omega))⟩
      simp [results, Try.results29, go_sem, r0, r1, r2, r3, r4, BlockD.val]
    · have hC := fun u => l6Count_any u n t dt on was x y h3 h4 hd hd'
      obtain ⟨T, hT⟩ : ∃ T, stepT ⟨3, n, on, was, t⟩ x y dt = T := ⟨_, rfl⟩
      rw [hT] at hC ⊢
      obtain ⟨O, hO⟩ : ∃ O, stepOn ⟨3, n, on, was, t⟩ x y T = O := ⟨_, rfl⟩
      rw [hO] at hC ⊢
      clear hT hO h1 h2 h3 h4 hd hd'
      go_enter Try.func29, Try.ntmps29
      go_wp2_with (refine wpList_boxB rfl _ rfl rfl ?_)
      intro u1 g1 p1 s1
      go_wp2_with (refine wpList_allocB rfl rfl ?_)
      intro u2 g2 q2 s2
      have p2 := p1.below g2 (by omega)
      clear p1
      have c0 := p2.c0
      simp only at c0
      go_wp2_with (refine wpList_loadB rfl _ rfl rfl p2 ?_)
      clear c0
      refine (hC _).mono ?_
      clear hC
      rintro e3 u3 ⟨rfl, g3⟩
      have s3 := g3.size
      have p3 := p2.below g3 (by omega)
      have q3 := q2.below g3 (by omega)
      clear p2 q2
      go_wp2_with (refine wpList_storeB rfl _ _ rfl rfl rfl p3 ?_)
      intro u4 L4
      have z4 := L4.size
      have q4 := L4.other q3 (by omega)
      have L5 := laid_was L4.cell x
      simp only at L5
      have q5 := L5.other q4 (by omega)
      have z5 := L5.size
      have HG : Hid (Below w.heap.size w (u4.setCell ⟨w.heap.size, 3, none⟩ (.bool x))) := (((g1.trans (g2.mono (by omega))).trans (g3.mono (by omega))).trans (L4.below.mono (by omega))).trans (L5.below.mono (by omega))
      have c3 := L4.cell.c3
      have f3 := L4.cell.f 3
      simp only at c3
      clear g1 g2 g3 q3 q4 p3
      go_wp2_with (first | refine wpList_loadB rfl _ rfl rfl L5.cell ?_ | refine wpList_storeB rfl _ _ rfl rfl rfl q5 ?_)
      intro u6 L6
      clear c3 f3
      go_wp2
      obtain ⟨r0, r1, r2, r3, r4, _⟩ := L6.cell
      refine bodyPost_ret (v := BlockD.val ⟨3, n, O, x, T⟩) ?_ rfl ⟨rfl, HG.out.trans (L6.below.mono (by omega))⟩
      simp [results, Try.results29, go_sem, r0, r1, r2, r3, r4, BlockD.val]
  · subst h1 h2
    rcases hk with rfl | rfl
    · rw [show stepT ⟨4, 0, on, was, 0⟩ x y dt = 0 from rfl]
      obtain ⟨O, hO⟩ : ∃ O, stepOn ⟨4, 0, on, was, 0⟩ x y 0 = O := ⟨_, rfl⟩
      rw [hO]
      clear hd hd'
      unfold stepOn at hO
      simp only [reduceIte, show ¬ ((4 : Int) = 1) by decide, show ¬ ((4 : Int) = 2) by decide, show ¬ ((4 : Int) = 3) by decide, show ¬ ((5 : Int) = 1) by decide, show ¬ ((5 : Int) = 2) by decide, show ¬ ((5 : Int) = 3) by decide, show ¬ ((5 : Int) = 4) by decide] at hO
      have HO : Hid (_ = O) := hO
      clear hO
      go_enter Try.func29, Try.ntmps29
      go_wp2_with (refine wpList_boxB rfl _ rfl rfl ?_)
      intro u1 g1 p1 s1
      go_wp2_with (refine wpList_allocB rfl rfl ?_)
      intro u2 g2 q2 s2
      have p2 := p1.below g2 (by omega)
      clear p1
      have L3 := laid_on p2 O
      simp only at L3
      have L4 := laid_was L3.cell x
      simp only at L4
      have q4 := L4.other (L3.other q2 (by omega)) (by omega)
      have z3 := L3.size
      have z4 := L4.size
      have HG : Hid (Below w.heap.size w ((u2.setCell ⟨w.heap.size, 2, none⟩ (.bool O)).setCell ⟨w.heap.size, 3, none⟩ (.bool x))) := (((g1.trans (g2.mono (by omega)))).trans (L3.below.mono (by omega))).trans (L4.below.mono (by omega))
      obtain ⟨c0, c1, c2, c3, c4, cf⟩ := id p2
      try simp only at c0 c1 c2 c3 c4
      have cf0 := cf 0
      have cf1 := cf 1
      have cf2 := cf 2
      have cf3 := cf 3
      have cf4 := cf 4
      clear cf
      clear g1 g2 q2
      cases x <;> cases was
      all_goals
        obtain rfl := HO.out
        simp only [Bool.true_and, Bool.and_true, Bool.false_and, Bool.and_false, Bool.true_or, Bool.or_true, Bool.false_or, Bool.or_false, Bool.not_true, Bool.not_false] at L3 L4 HG q4 ⊢
        go_wp2_with (first | refine wpList_loadB rfl _ rfl rfl L4.cell ?_ | refine wpList_storeB rfl _ _ rfl rfl rfl q4 ?_)
        intro u6 L6
        go_wp2
        obtain ⟨r0, r1, r2, r3, r4, _⟩ := L6.cell
        refine bodyPost_ret (v := BlockD.val ⟨4, 0, _, _, 0⟩) ?_ rfl ⟨rfl, HG.out.trans (L6.below.mono (by omega))⟩
        simp [results, Try.results29, go_sem, r0, r1, r2, r3, r4, BlockD.val]
    · rw [show stepT ⟨5, 0, on, was, 0⟩ x y dt = 0 from rfl]
      obtain ⟨O, hO⟩ : ∃ O, stepOn ⟨5, 0, on, was, 0⟩ x y 0 = O := ⟨_, rfl⟩
      rw [hO]
      clear hd hd'
      unfold stepOn at hO
      simp only [reduceIte, show ¬ ((4 : Int) = 1) by decide, show ¬ ((4 : Int) = 2) by decide, show ¬ ((4 : Int) = 3) by decide, show ¬ ((5 : Int) = 1) by decide, show ¬ ((5 : Int) = 2) by decide, show ¬ ((5 : Int) = 3) by decide, show ¬ ((5 : Int) = 4) by decide] at hO
      have HO : Hid (_ = O) := hO
      clear hO
      go_enter Try.func29, Try.ntmps29
      go_wp2_with (refine wpList_boxB rfl _ rfl rfl ?_)
      intro u1 g1 p1 s1
      go_wp2_with (refine wpList_allocB rfl rfl ?_)
      intro u2 g2 q2 s2
      have p2 := p1.below g2 (by omega)
      clear p1
      have L3 := laid_on p2 O
      simp only at L3
      have L4 := laid_was L3.cell x
      simp only at L4
      have q4 := L4.other (L3.other q2 (by omega)) (by omega)
      have z3 := L3.size
      have z4 := L4.size
      have HG : Hid (Below w.heap.size w ((u2.setCell ⟨w.heap.size, 2, none⟩ (.bool O)).setCell ⟨w.heap.size, 3, none⟩ (.bool x))) := (((g1.trans (g2.mono (by omega)))).trans (L3.below.mono (by omega))).trans (L4.below.mono (by omega))
      obtain ⟨c0, c1, c2, c3, c4, cf⟩ := id p2
      try simp only at c0 c1 c2 c3 c4
      have cf0 := cf 0
      have cf1 := cf 1
      have cf2 := cf 2
      have cf3 := cf 3
      have cf4 := cf 4
      clear cf
      clear g1 g2 q2
      cases y <;> cases x <;> cases on
      all_goals
        obtain rfl := HO.out
        simp only [Bool.true_and, Bool.and_true, Bool.false_and, Bool.and_false, Bool.true_or, Bool.or_true, Bool.false_or, Bool.or_false, Bool.not_true, Bool.not_false] at L3 L4 HG q4 ⊢
        go_wp2_with (first | refine wpList_loadB rfl _ rfl rfl L4.cell ?_ | refine wpList_storeB rfl _ _ rfl rfl rfl q4 ?_)
        intro u6 L6
        go_wp2
        obtain ⟨r0, r1, r2, r3, r4, _⟩ := L6.cell
        refine bodyPost_ret (v := BlockD.val ⟨5, 0, _, _, 0⟩) ?_ rfl ⟨rfl, HG.out.trans (L6.below.mono (by omega))⟩
        simp [results, Try.results29, go_sem, r0, r1, r2, r3, r4, BlockD.val]
end Go.Proofs.Ytgfoimleoekkiaa
