/-
  What chapter 6 of the program answers: BlockStep. (Written by our generator gen_block.py.)
-/
import Derived.Test.YtgfoimleoekkiaaBlockImplB
import Derived.Test.YtgfoimleoekkiaaBlockSpec4
namespace Go.Proofs.Ytgfoimleoekkiaa
open Go.ChangeShapes Go.WideShapes Go.ChangeAt Go.RowKit
set_option linter.unusedVariables false
set_option linter.unusedSimpArgs false

set_option maxRecDepth 100000

section
variable {ops : Array Oper} {rest : List Oper} {o : Oper} {a : Act} {Q : Exit → Act → World → Prop} {K : Act → World → Prop} {w : World}
theorem wpList_storeT (hg : o.guard = none) (p v : Operand) (hop : o.op = Op.store 3 p v) {B : Nat} {b : BlockD} {x : Int} (hp : a.eval p = .pointer (some ⟨B, 4, none⟩)) (hv : a.eval v = .int .i64 x) (hz : CellB w B b)
    (hK : Hid (∀ u1, Laid w u1 B { b with t := x } → wpList Try.prog ops Q rest (a.put o.dst undef) u1)) : wpList Try.prog ops Q (o :: rest) a w :=
  wpList_plain hg fun K hK' => by
    have h := hK' _ _ (hK.out _ (laid_t hz x))
    have c := hz.c4
    have f := hz.f 4
    unfold Oper.wp
    simp only [execOp, hop, hp, hv, Instr.storeAt, Instr.sureAddr, Sem.run_bind, Sem.run_pure, Result.andThen_ok]
    simp [go_sem, c, f]
    exact h
theorem wpList_storeOn (hg : o.guard = none) (p v : Operand) (hop : o.op = Op.store 4 p v) {B : Nat} {b : BlockD} {x : Bool} (hp : a.eval p = .pointer (some ⟨B, 2, none⟩)) (hv : a.eval v = .bool x) (hz : CellB w B b)
    (hK : Hid (∀ u1, Laid w u1 B { b with on := x } → wpList Try.prog ops Q rest (a.put o.dst undef) u1)) : wpList Try.prog ops Q (o :: rest) a w :=
  wpList_plain hg fun K hK' => by
    have h := hK' _ _ (hK.out _ (laid_on hz x))
    have c := hz.c2
    have f := hz.f 2
    unfold Oper.wp
    simp only [execOp, hop, hp, hv, Instr.storeAt, Instr.sureAddr, Sem.run_bind, Sem.run_pure, Result.andThen_ok]
    simp [go_sem, c, f]
    exact h
theorem wpList_storeWas (hg : o.guard = none) (p v : Operand) (hop : o.op = Op.store 4 p v) {B : Nat} {b : BlockD} {x : Bool} (hp : a.eval p = .pointer (some ⟨B, 3, none⟩)) (hv : a.eval v = .bool x) (hz : CellB w B b)
    (hK : Hid (∀ u1, Laid w u1 B { b with was := x } → wpList Try.prog ops Q rest (a.put o.dst undef) u1)) : wpList Try.prog ops Q (o :: rest) a w :=
  wpList_plain hg fun K hK' => by
    have h := hK' _ _ (hK.out _ (laid_was hz x))
    have c := hz.c3
    have f := hz.f 3
    unfold Oper.wp
    simp only [execOp, hop, hp, hv, Instr.storeAt, Instr.sureAddr, Sem.run_bind, Sem.run_pure, Result.andThen_ok]
    simp [go_sem, c, f]
    exact h
end

/-- What comes to a block at a step, in memory. -/
structure In3 (w : World) (B : Nat) (x y : Bool) (dt : Int) : Prop where
  c0 : w.cell? ⟨B, 0, none⟩ = some (.bool x)
  c1 : w.cell? ⟨B, 1, none⟩ = some (.bool y)
  c2 : w.cell? ⟨B, 2, none⟩ = some (.int .i64 dt)
theorem In3.at_ {w w' : World} {B : Nat} {x y : Bool} {dt : Int} (h : In3 w B x y dt) (hk : w'.heap[B]? = w.heap[B]?) : In3 w' B x y dt :=
  ⟨by rw [World.cell?_of_block (w := w) hk]; exact h.c0, by rw [World.cell?_of_block (w := w) hk]; exact h.c1, by rw [World.cell?_of_block (w := w) hk]; exact h.c2⟩

theorem laid_from {w : World} {B C : Nat} {b b0 : BlockD} (_h : CellB w C b) (h : CellB w B b0) :
    Hid (Laid w (((((w.setCell ⟨B, 0, none⟩ (.int .i64 b.kind)).setCell ⟨B, 1, none⟩ (.int .i64 b.n)).setCell ⟨B, 2, none⟩ (.bool b.on)).setCell ⟨B, 3, none⟩ (.bool b.was)).setCell ⟨B, 4, none⟩ (.int .i64 b.t)) B b) := laid_store h b

theorem stepT_reach {b : BlockD} (h : blockOk b = true) (x y : Bool) (dt : Int) : stepT b x y dt = upto (reachB b x y dt) := by
  have hc := blockOk_cases h
  have z : upto 0 = 0 := by decide
  unfold stepT reachB
  by_cases h1 : b.kind = 1
  · rw [if_pos h1, if_pos h1]; split
    · rfl
    · rw [z]
  rw [if_neg h1, if_neg h1]
  by_cases h2 : b.kind = 2
  · rw [if_pos h2, if_pos h2]; split
    · rw [z]
    · rfl
  rw [if_neg h2, if_neg h2]
  by_cases h3 : b.kind = 3
  · rw [if_pos h3, if_pos h3]; split
    · rw [z]
    · split
      · rfl
      · unfold upto; rw [if_neg (by omega)]
  rw [if_neg h3, if_neg h3, z]

set_option maxHeartbeats 8000000 in
theorem iBlockStep_any (w : World) (b : BlockD) (x y : Bool) (dt : Int) :
    Calls Try.prog 13 #[b.val, .bool x, .bool y, .int .i64 dt] w fun e w' => e = .returned (.tuple #[(blockStep b x y dt).val, .bool (blockStep b x y dt).on]) ∧ Below w.heap.size w w' := by
  have hOk := fun u => iBlockOk_any u b
  have hTm := fun u => timeOk_any u dt
  have bad : (blockOk b = false ∨ dt < 0 ∨ 1000 < dt) → Calls Try.prog 13 #[b.val, .bool x, .bool y, .int .i64 dt] w fun e w' => e = .returned (.tuple #[noB.val, .bool false]) ∧ Below w.heap.size w w' := by
    intro hb
    cases hbo : blockOk b with
    | false =>
      go_enter Try.func13, Try.ntmps13
      go_wp2_with (refine wpList_boxB rfl _ rfl rfl ?_)
      intro u1 g1 p1 s1
      go_wp2_with (refine wpList_allocB rfl rfl ?_)
      intro u2 g2 q2 s2
      have p2 := p1.below g2 (by omega)
      clear p1
      go_wp2_with (refine wpList_loadB rfl _ rfl rfl p2 ?_)
      refine (hOk _).mono ?_
      rw [hbo]
      clear hOk
      rintro e3 u3 ⟨rfl, g3⟩
      have s3 := g3.size
      have p3 := p2.below g3 (by omega)
      have q3 := q2.below g3 (by omega)
      clear p2 q2
      have G3 := (g1.trans (g2.mono (by omega))).trans (g3.mono (by omega))
      clear g1 g2 g3
      go_wp2_with (refine wpList_storeB (b := noB) rfl _ _ rfl rfl rfl q3 ?_)
      intro u6 L6
      go_wp2
      obtain ⟨r0, r1, r2, r3, r4, _⟩ := L6.cell
      refine bodyPost_ret (v := .tuple #[noB.val, .bool false]) ?_ rfl ⟨rfl, G3.trans (L6.below.mono (by omega))⟩
      simp [results, Try.results13, go_sem, r0, r1, r2, r3, r4, BlockD.val]
    | true =>
      rw [hbo] at hb
      have htm : (decide (0 ≤ dt) && decide (dt ≤ 1000)) = false := by simp at hb ⊢; omega
      clear hb
      go_enter Try.func13, Try.ntmps13
      go_wp2_with (refine wpList_boxB rfl _ rfl rfl ?_)
      intro u1 g1 p1 s1
      go_wp2_with (refine wpList_allocB rfl rfl ?_)
      intro u2 g2 q2 s2
      have p2 := p1.below g2 (by omega)
      clear p1
      go_wp2_with (refine wpList_loadB rfl _ rfl rfl p2 ?_)
      refine (hOk _).mono ?_
      rw [hbo]
      clear hOk
      rintro e3 u3 ⟨rfl, g3⟩
      have s3 := g3.size
      have p3 := p2.below g3 (by omega)
      have q3 := q2.below g3 (by omega)
      clear p2 q2
      have G3 := (g1.trans (g2.mono (by omega))).trans (g3.mono (by omega))
      clear g1 g2 g3
      go_wp2_with fail
      refine (hTm _).mono ?_
      rw [htm]
      clear hTm
      rintro e3 u3 ⟨rfl, rfl⟩
      go_wp2_with (refine wpList_storeB (b := noB) rfl _ _ rfl rfl rfl q3 ?_)
      intro u6 L6
      go_wp2
      obtain ⟨r0, r1, r2, r3, r4, _⟩ := L6.cell
      refine bodyPost_ret (v := .tuple #[noB.val, .bool false]) ?_ rfl ⟨rfl, G3.trans (L6.below.mono (by omega))⟩
      simp [results, Try.results13, go_sem, r0, r1, r2, r3, r4, BlockD.val]
  by_cases hb : blockOk b = false ∨ dt < 0 ∨ 1000 < dt
  · rw [blockStep_bad hb]; exact bad hb
  clear bad
  have hbo : blockOk b = true := by cases h : blockOk b with | true => rfl | false => exact absurd (.inl h) hb
  have hd : 0 ≤ dt := by omega
  have hd' : dt ≤ 1000 := by omega
  have htm : (decide (0 ≤ dt) && decide (dt ≤ 1000)) = true := by simp; omega
  clear hb
  rw [blockStep_ok hbo hd hd']
  unfold stepB
  rw [stepT_reach hbo]
  have hc := blockOk_cases hbo
  have ht : 0 ≤ b.t ∧ b.t ≤ 1000 := by omega
  obtain ⟨ty, Fm, Fr, Fo, hKA⟩ := kindAt (show 1 ≤ b.kind by omega) (show b.kind ≤ 5 by omega)
  have hCr := fun u => hKA.cr u b.n b.t dt b.on b.was x y ht.1 ht.2 hd hd'
  have hCo := fun u t => hKA.co u b.n t dt b.on b.was x y
  have hv := hKA.val
  have hmr := hKA.mr
  have hmo := hKA.mo
  have her := hKA.er
  have heo := hKA.eo
  obtain ⟨k, n, on, was, t⟩ := b
  simp only at hCr hCo hv ⊢
  clear hc ht hKA hd hd'
  obtain ⟨rc, hrc⟩ : ∃ rc, reachB ⟨k, n, on, was, t⟩ x y dt = rc := ⟨_, rfl⟩
  rw [hrc] at hCr ⊢
  obtain ⟨T, hT⟩ : ∃ T, upto rc = T := ⟨_, rfl⟩
  rw [hT]
  have hCO := fun u => hCo u T
  have hson : stepOn ⟨k, n, on, was, t⟩ x y T = stepOn ⟨k, n, on, was, T⟩ x y T := rfl
  rw [hson]
  obtain ⟨O, hO⟩ : ∃ O, stepOn ⟨k, n, on, was, T⟩ x y T = O := ⟨_, rfl⟩
  rw [hO] at hCO ⊢
  clear hson hO hCo hrc
  have hcase : (1000 < rc ∧ T = 1000) ∨ (¬ 1000 < rc ∧ T = rc) := by
    rw [← hT]; unfold upto
    by_cases h : 1000 < rc
    · exact .inl ⟨h, if_pos h⟩
    · exact .inr ⟨h, if_neg h⟩
  clear hT
  go_enter Try.func13, Try.ntmps13
  go_wp2_with (refine wpList_boxB rfl _ rfl rfl ?_)
  intro u1 g1 p1 s1
  go_wp2_with (refine wpList_allocB rfl rfl ?_)
  intro u2 g2 q2 s2
  have p2 := p1.below g2 (by omega)
  clear p1
  go_wp2_with (refine wpList_loadB rfl _ rfl rfl p2 ?_)
  refine (hOk _).mono ?_
  rw [hbo]
  clear hOk
  rintro e3 u3 ⟨rfl, g3⟩
  have s3 := g3.size
  have p3 := p2.below g3 (by omega)
  have q3 := q2.below g3 (by omega)
  clear p2 q2
  have G3 := (g1.trans (g2.mono (by omega))).trans (g3.mono (by omega))
  clear g1 g2 g3
  go_wp2_with fail
  refine (hTm _).mono ?_
  rw [htm]
  clear hTm
  rintro e3 u3 ⟨rfl, rfl⟩
  have c0 := p3.c0
  simp only at c0
  go_wp2_with fail
  refine (kindOfB_any _ _).mono ?_
  rw [hv]
  clear hv c0
  rintro e4 u4 ⟨rfl, rfl⟩
  obtain ⟨u5, hu5, g5, I5, s5⟩ : ∃ u5, u4.alloc (.cells #[.bool x, .bool y, .int .i64 dt] 53) = u5 ∧ Below u4.heap.size u4 u5 ∧ In3 u5 u4.heap.size x y dt ∧ u5.heap.size = u4.heap.size + 1 :=
    ⟨_, rfl, below_al (Below.refl _ _) _, ⟨World.cell?_alloc_new _ _ _ _, World.cell?_alloc_new _ _ _ _, World.cell?_alloc_new _ _ _ _⟩, by simp⟩
  have p5 := p3.below g5 (by omega)
  have q5 := q3.below g5 (by omega)
  have G5 := G3.trans (g5.mono (by omega))
  have HU : Hid (_ = u5) := hu5
  clear hu5 p3 q3 g5 G3
  have p5b : CellB (u4.alloc (.cells #[.bool x, .bool y, .int .i64 dt] 53)) w.heap.size ⟨k, n, on, was, t⟩ := by rw [HU.out]; exact p5
  go_wp2_with (refine wpList_loadB rfl _ rfl rfl p5b ?_)
  rw [HU.out]
  clear HU p5b
  refine (hCr _).mono ?_
  clear hCr
  rintro e6 u6 ⟨rfl, g6⟩
  have s6 := g6.size
  have p6 := p5.below g6 (by omega)
  have q6 := q5.below g6 (by omega)
  have I6 := I5.at_ (g6.block _ (by omega))
  have G6 := G5.trans (g6.mono (by omega))
  clear p5 q5 I5 g6 G5
  obtain ⟨B, hB⟩ : ∃ B, u4.heap.size = B := ⟨_, rfl⟩
  rw [hB] at I6 s5 s3 ⊢
  clear hB
  rcases hcase with ⟨hc, rfl⟩ | ⟨hc, rfl⟩
  all_goals
    go_wp2_with (refine wpList_storeT rfl _ _ rfl rfl rfl p6 ?_)
    intro u7 L7
    try simp only at L7
    have z7 := L7.size
    have p7 := L7.cell
    have q7 := L7.other q6 (by omega)
    have I7 := I6.at_ (L7.block B (by omega))
    have G7 := G6.trans (L7.below.mono (by omega))
    clear L7 p6 q6 I6 G6
    obtain ⟨i0, i1, i2⟩ := id I7
    go_wp2_with (refine wpList_loadB rfl _ rfl rfl p7 ?_)
    clear i0 i1 i2
    refine (hCO _).mono ?_
    clear hCO
    rintro e8 u8 ⟨rfl, g8⟩
    have s8 := g8.size
    have p8 := p7.below g8 (by omega)
    have q8 := q7.below g8 (by omega)
    have G8 := G7.trans (g8.mono (by omega))
    clear p7 q7 I7 g8 G7
    go_wp2_with (refine wpList_storeOn rfl _ _ rfl rfl rfl p8 ?_)
    intro u9 L9
    try simp only at L9
    have z9 := L9.size
    have p9 := L9.cell
    have q9 := L9.other q8 (by omega)
    have G9 := G8.trans (L9.below.mono (by omega))
    clear L9 p8 q8 G8
    go_wp2_with (refine wpList_storeWas rfl _ _ rfl rfl rfl p9 ?_)
    intro u10 L10
    try simp only at L10
    have z10 := L10.size
    have p10 := L10.cell
    have q10 := L10.other q9 (by omega)
    have G10 := G9.trans (L10.below.mono (by omega))
    clear L10 p9 q9 G9
    skip
    skip
    have HL := laid_from p10 q10
    have HG : Hid (Below w.heap.size w u10) := G10
    try simp only at HL
    clear G10
    obtain ⟨c0, c1, c2, c3, c4, cf⟩ := id p10
    try simp only at c0 c1 c2 c3 c4
    have cf0 := cf 0
    have cf1 := cf 1
    have cf2 := cf 2
    have cf3 := cf 3
    have cf4 := cf 4
    clear cf
    obtain ⟨d0, d1, d2, d3, d4, df⟩ := id q10
    try simp only at d0 d1 d2 d3 d4
    have df0 := df 0
    have df1 := df 1
    have df2 := df 2
    have df3 := df 3
    have df4 := df 4
    clear df
    simp only [noB] at d0 d1 d2 d3 d4
    clear p10 q10
    go_wp2
    go_region
    all_goals
      go_wp2
      obtain ⟨r0, r1, r2, r3, r4, _⟩ := HL.out.cell
      refine bodyPost_ret (v := .tuple #[BlockD.val ⟨k, n, O, x, _⟩, .bool O]) ?_ rfl ⟨rfl, below_dr (HG.out.trans (HL.out.below.mono (by omega)))⟩
      simp [results, Try.results13, go_sem, r0, r1, r2, r3, r4, BlockD.val]
end Go.Proofs.Ytgfoimleoekkiaa
