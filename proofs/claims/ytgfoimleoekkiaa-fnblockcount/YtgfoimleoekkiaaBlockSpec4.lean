/-
  What chapter 6's model (package spec) answers: BlockStep. (Written by our generator gen_block.py.)
-/
import Derived.Test.YtgfoimleoekkiaaBlockSpec3
namespace Go.Proofs.Ytgfoimleoekkiaa
open Go.ChangeShapes Go.WideShapes Go.ChangeAt Go.RowKit
set_option linter.unusedVariables false
set_option linter.unusedSimpArgs false

open Go.RowKit

theorem blockStep_bad {b : BlockD} {x y : Bool} {dt : Int} (h : blockOk b = false ∨ dt < 0 ∨ 1000 < dt) : blockStep b x y dt = noB := by
  unfold blockStep
  rw [if_neg]
  rcases h with h | h | h
  · simp [h]
  · simp; omega
  · simp; omega
theorem blockStep_ok {b : BlockD} {x y : Bool} {dt : Int} (h : blockOk b = true) (hd : 0 ≤ dt) (hd' : dt ≤ 1000) : blockStep b x y dt = stepB b x y dt := by
  unfold blockStep
  rw [if_pos]
  simp [h, hd, hd']

set_option maxHeartbeats 8000000 in
theorem sBlockStep_any (w : World) (b : BlockD) (x y : Bool) (dt : Int) :
    Calls Try.prog 14 #[b.val, .bool x, .bool y, .int .i64 dt] w fun e w' => e = .returned (.tuple #[(blockStep b x y dt).val, .bool (blockStep b x y dt).on]) ∧ Below w.heap.size w w' := by
  have hOk := fun u => sBlockOk_any u b
  have bad : (blockOk b = false ∨ dt < 0 ∨ 1000 < dt) → Calls Try.prog 14 #[b.val, .bool x, .bool y, .int .i64 dt] w fun e w' => e = .returned (.tuple #[noB.val, .bool false]) ∧ Below w.heap.size w w' := by
    intro hb
    cases hbo : blockOk b with
    | false =>
      go_enter Try.func14, Try.ntmps14
      go_wp2_with (refine wpList_boxB rfl _ rfl rfl ?_)
      intro u1 g1 p1 s1
      go_wp2_with (refine wpList_allocB rfl rfl ?_)
      intro u2 g2 q2 s2
      have p2 := p1.below g2 (by omega)
      clear p1
      go_wp2_with (refine wpList_loadB rfl _ rfl rfl p2 ?_)
      refine (hOk _).mono ?_
      rw [hbo]
      clear hOk
      rintro e3 u3 ⟨rfl, g3⟩
      have s3 := g3.size
      have p3 := p2.below g3 (by omega)
      have q3 := q2.below g3 (by omega)
      clear p2 q2
      have G3 := (g1.trans (g2.mono (by omega))).trans (g3.mono (by omega))
      clear g1 g2 g3
      go_wp2_with (refine wpList_storeB (b := noB) rfl _ _ rfl rfl rfl q3 ?_)
      intro u6 L6
      go_wp2
      obtain ⟨r0, r1, r2, r3, r4, _⟩ := L6.cell
      refine bodyPost_ret (v := .tuple #[noB.val, .bool false]) ?_ rfl ⟨rfl, G3.trans (L6.below.mono (by omega))⟩
      simp [results, Try.results14, go_sem, r0, r1, r2, r3, r4, BlockD.val]
    | true =>
      rw [hbo] at hb
      have hb' : dt < 0 ∨ 1000 < dt := by simpa using hb
      clear hb
      rcases hb' with hb | hb
      · go_enter Try.func14, Try.ntmps14
        go_wp2_with (refine wpList_boxB rfl _ rfl rfl ?_)
        intro u1 g1 p1 s1
        go_wp2_with (refine wpList_allocB rfl rfl ?_)
        intro u2 g2 q2 s2
        have p2 := p1.below g2 (by omega)
        clear p1
        go_wp2_with (refine wpList_loadB rfl _ rfl rfl p2 ?_)
        refine (hOk _).mono ?_
        rw [hbo]
        clear hOk
        rintro e3 u3 ⟨rfl, g3⟩
        have s3 := g3.size
        have p3 := p2.below g3 (by omega)
        have q3 := q2.below g3 (by omega)
        clear p2 q2
        have G3 := (g1.trans (g2.mono (by omega))).trans (g3.mono (by omega))
        clear g1 g2 g3
        go_wp2_with (refine wpList_storeB (b := noB) rfl _ _ rfl rfl rfl q3 ?_)
        intro u6 L6
        go_wp2
        obtain ⟨r0, r1, r2, r3, r4, _⟩ := L6.cell
        refine bodyPost_ret (v := .tuple #[noB.val, .bool false]) ?_ rfl ⟨rfl, G3.trans (L6.below.mono (by omega))⟩
        simp [results, Try.results14, go_sem, r0, r1, r2, r3, r4, BlockD.val]
      · go_enter Try.func14, Try.ntmps14
        go_wp2_with (refine wpList_boxB rfl _ rfl rfl ?_)
        intro u1 g1 p1 s1
        go_wp2_with (refine wpList_allocB rfl rfl ?_)
        intro u2 g2 q2 s2
        have p2 := p1.below g2 (by omega)
        clear p1
        go_wp2_with (refine wpList_loadB rfl _ rfl rfl p2 ?_)
        refine (hOk _).mono ?_
        rw [hbo]
        clear hOk
        rintro e3 u3 ⟨rfl, g3⟩
        have s3 := g3.size
        have p3 := p2.below g3 (by omega)
        have q3 := q2.below g3 (by omega)
        clear p2 q2
        have G3 := (g1.trans (g2.mono (by omega))).trans (g3.mono (by omega))
        clear g1 g2 g3
        go_wp2_with (refine wpList_storeB (b := noB) rfl _ _ rfl rfl rfl q3 ?_)
        intro u6 L6
        go_wp2
        obtain ⟨r0, r1, r2, r3, r4, _⟩ := L6.cell
        refine bodyPost_ret (v := .tuple #[noB.val, .bool false]) ?_ rfl ⟨rfl, G3.trans (L6.below.mono (by omega))⟩
        simp [results, Try.results14, go_sem, r0, r1, r2, r3, r4, BlockD.val]
  by_cases hb : blockOk b = false ∨ dt < 0 ∨ 1000 < dt
  · rw [blockStep_bad hb]; exact bad hb
  clear bad
  have hbo : blockOk b = true := by cases h : blockOk b with | true => rfl | false => exact absurd (.inl h) hb
  have hd : 0 ≤ dt := by omega
  have hd' : dt ≤ 1000 := by omega
  clear hb
  rw [blockStep_ok hbo hd hd']
  have hC := fun u => l6Step_any u b x y dt hbo hd hd'
  obtain ⟨c, hc⟩ : ∃ c, stepB b x y dt = c := ⟨_, rfl⟩
  rw [hc] at hC ⊢
  clear hc
  go_enter Try.func14, Try.ntmps14
  go_wp2_with (refine wpList_boxB rfl _ rfl rfl ?_)
  intro u1 g1 p1 s1
  go_wp2_with (refine wpList_allocB rfl rfl ?_)
  intro u2 g2 q2 s2
  have p2 := p1.below g2 (by omega)
  clear p1
  go_wp2_with (refine wpList_loadB rfl _ rfl rfl p2 ?_)
  refine (hOk _).mono ?_
  rw [hbo]
  clear hOk
  rintro e3 u3 ⟨rfl, g3⟩
  have s3 := g3.size
  have p3 := p2.below g3 (by omega)
  have q3 := q2.below g3 (by omega)
  clear p2 q2
  have G3 := (g1.trans (g2.mono (by omega))).trans (g3.mono (by omega))
  clear g1 g2 g3
  go_wp2_with (refine wpList_loadB rfl _ rfl rfl p3 ?_)
  refine (hC _).mono ?_
  clear hC
  rintro e4 u4 ⟨rfl, g4⟩
  have s4 := g4.size
  have q4 := q3.below g4 (by omega)
  clear p3 q3
  go_wp2_with (refine wpList_allocB rfl rfl ?_)
  intro u5 g5 r5 s5
  go_wp2_with (refine wpList_storeB rfl _ _ rfl rfl rfl r5 ?_)
  intro u6 L6
  have z6 := L6.size
  have r6 := L6.cell
  have q6 := L6.other (q4.below g5 (by omega)) (by omega)
  have G6 := ((G3.trans (g4.mono (by omega))).trans (g5.mono (by omega))).trans (L6.below.mono (by omega))
  clear G3 g4 g5 q4 r5 L6 hd hd' hbo
  obtain ⟨B, hB⟩ : ∃ B, u4.heap.size = B := ⟨_, rfl⟩
  rw [hB] at r6 ⊢
  have hBn : B ≠ w.heap.size + 1 := by omega
  clear hB
  have L7 := laid_store q6 c
  have HL : Hid (Laid u6 _ (w.heap.size + 1) c) := L7
  have HG : Hid (Below w.heap.size w u6) := G6
  clear L7 G6
  obtain ⟨c0, c1, c2, c3, c4, cf⟩ := id r6
  try simp only at c0 c1 c2 c3 c4
  have cf0 := cf 0
  have cf1 := cf 1
  have cf2 := cf 2
  have cf3 := cf 3
  have cf4 := cf 4
  clear cf
  obtain ⟨d0, d1, d2, d3, d4, df⟩ := id q6
  try simp only at d0 d1 d2 d3 d4
  have df0 := df 0
  have df1 := df 1
  have df2 := df 2
  have df3 := df 3
  have df4 := df 4
  clear df
  simp only [noB] at d0 d1 d2 d3 d4
  clear r6 q6
  go_wp2
  go_region
  all_goals
    go_wp2
    obtain ⟨r0, r1, r2, r3, r4, _⟩ := HL.out.cell
    refine bodyPost_ret (v := .tuple #[c.val, .bool c.on]) ?_ rfl ⟨rfl, below_dr (HG.out.trans (HL.out.below.mono (by omega)))⟩
    simp [results, Try.results14, go_sem, r0, r1, r2, r3, r4, BlockD.val]
end Go.Proofs.Ytgfoimleoekkiaa
