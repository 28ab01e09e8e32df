/-
  FnBlockSplit, walked over any bytes. (Written by our generator gen_lawblock.py.)
-/
import Derived.Test.YtgfoimleoekkiaaDrawBlockC
namespace Go.Proofs.Ytgfoimleoekkiaa
open Go.ChangeShapes Go.WideShapes Go.ChangeAt Go.RowKit
set_option linter.unusedVariables false
set_option linter.unusedSimpArgs false
set_option maxRecDepth 100000

theorem upto_upto (a b : Int) (hb : 0 ≤ b) : upto (upto a + b) = upto (a + b) := by unfold upto; split <;> split <;> (try split) <;> omega
theorem upto_mono {a b : Int} (h : a ≤ b) : upto a ≤ upto b := by unfold upto; split <;> split <;> omega

/-- A step of a delay or a hold whose input stays may be parted in two. -/
theorem split_same (b : BlockD) (x : Bool) (dt k : Int) (hw : b.was = x) (hk : b.kind = 1 ∨ b.kind = 2) (ho : blockOk b = true) (h0 : 0 ≤ dt) (h1 : 0 ≤ k) (h2 : dt + k ≤ 1000) :
    blockStep (blockStep b x false dt) x false k = blockStep b x false (dt + k) := by
  rw [blockStep_ok ho h0 (by omega), blockStep_ok ho (show 0 ≤ dt + k by omega) h2, blockStep_ok (stepB_ok ho x false h0) h1 (by omega)]
  obtain ⟨kd, n, on, was, t⟩ := b
  simp only at hw hk
  subst hw
  have e := upto_upto (t + dt) k h1
  have m := upto_mono (show t + dt ≤ t + (dt + k) by omega)
  have e' : t + dt + k = t + (dt + k) := by omega
  rw [e'] at e
  rcases hk with rfl | rfl
  · unfold stepB stepOn stepT
    cases was <;> simp [e]
  · unfold stepB stepOn stepT
    cases was
    · simp [e]
      by_cases g : upto (t + (dt + k)) < n
      · have g' : upto (t + dt) < n := by omega
        simp [g, g']
      · simp [g]
    · simp

theorem step_kind {b : BlockD} {x y : Bool} {dt : Int} (h : (blockStep b x y dt).kind ≠ 0) : blockOk b = true ∧ 0 ≤ dt ∧ dt ≤ 1000 := by
  by_cases hb : blockOk b = false ∨ dt < 0 ∨ 1000 < dt
  · rw [blockStep_bad hb] at h; exact absurd rfl h
  · refine ⟨?_, by omega, by omega⟩
    cases hk : blockOk b with
    | true => rfl
    | false => exact absurd (.inl hk) hb
theorem blockOk_was {b : BlockD} (x : Bool) (h : blockOk b = true) : blockOk { b with was := x } = true := h

set_option maxHeartbeats 16000000 in
theorem fnBlockSplit_walk (w : World) (x0 : Option Addr) (len0 cap0 : Nat) (b0 : Bytes8 w w.heap.size x0 len0) (lc0 : len0 ≤ cap0) (lm0 : cap0 ≤ maxLen) (x1 : Option Addr) (len1 cap1 : Nat) (b1 : Bytes8 w w.heap.size x1 len1) (lc1 : len1 ≤ cap1) (lm1 : cap1 ≤ maxLen) :
    Calls Try.prog 8 #[.slice x0 len0 cap0, .slice x1 len1 cap1] w fun e w' => e = .returned (.bool true) ∧ Below w.heap.size w w' := by
  have lm0b := lm0
  unfold maxLen at lm0b
  have lm1b := lm1
  unfold maxLen at lm1b
  by_cases h0 : (1048576 : Int) < len0
  · go_enter Try.func8, Try.ntmps8
    go_wp2
    go_ret
    exact ⟨rfl, Below.refl _ _⟩
  by_cases h1 : (1048576 : Int) < len1
  · go_enter Try.func8, Try.ntmps8
    go_wp2
    go_ret
    exact ⟨rfl, Below.refl _ _⟩
  obtain ⟨K, hK, hK0, hK8⟩ : ∃ K : Int, (len1 : Int) % 9 = K ∧ 0 ≤ K ∧ K ≤ 8 := ⟨_, rfl, by omega, by omega⟩
  have hKt : (len1 : Int).tmod 9 = K := by rw [← hK]; exact Int.tmod_eq_emod_of_nonneg (by omega)
  go_enter Try.func8, Try.ntmps8
  go_wp2_with fail
  refine (drawBlockStep_any w x0 len0 cap0 b0 lc0 lm0).mono ?_
  rintro e1 u1 ⟨b, x, y, dt, rfl, hd0, hd1, g1⟩
  have s1 := g1.size
  have G1 := g1
  clear g1
  clear b0 b1
  go_wp2_with (first | fail | refine wpList_allocB rfl rfl ?_)
  intro u2 g2 B_2 s2
  have G2 := G1.trans (g2.mono (by omega))
  clear G1
  clear g2
  go_wp2_with (first | fail | refine wpList_storeB (b := b) rfl _ _ rfl rfl rfl B_2 ?_)
  intro u3 L3
  have s3 := L3.size
  have B_3 := L3.cell
  have G3 := G2.trans (L3.below.mono (by omega))
  clear G2
  clear L3 B_2
  have hI1 := fun u => iBlockStep_any u b x false dt
  have hS1 := fun u => sBlockStep_any u b x false dt
  obtain ⟨z, hz⟩ : ∃ z, blockStep b x false dt = z := ⟨_, rfl⟩
  rw [hz] at hI1 hS1
  have HZ : Hid (blockStep b x false dt = z) := hz
  clear hz
  go_wp2_with (first | refine wpList_loadB rfl _ rfl rfl B_3 ?_)
  refine (hI1 _).mono ?_
  rintro e4 u4 ⟨rfl, g4⟩
  have s4 := g4.size
  have B_4 := B_3.below g4 (by omega)
  clear B_3
  have G4 := G3.trans (g4.mono (by omega))
  clear G3
  clear g4
  clear hI1
  go_wp2_with (first | refine wpList_loadB rfl _ rfl rfl B_4 ?_ | refine wpList_allocB rfl rfl ?_)
  intro u5 g5 Z_5 s5
  have B_5 := B_4.below g5 (by omega)
  clear B_4
  have G5 := G4.trans (g5.mono (by omega))
  clear G4
  clear g5
  go_wp2_with (first | refine wpList_loadB rfl _ rfl rfl B_5 ?_ | refine wpList_storeB (b := z) rfl _ _ rfl rfl rfl Z_5 ?_)
  intro u6 L6
  have s6 := L6.size
  have B_6 := L6.other B_5 (by omega)
  clear B_5
  have Z_6 := L6.cell
  have G6 := G5.trans (L6.below.mono (by omega))
  clear G5
  clear L6 Z_5
  go_wp2_with (first | refine wpList_loadB rfl _ rfl rfl B_6 ?_ | refine wpList_loadB rfl _ rfl rfl Z_6 ?_)
  refine (hS1 _).mono ?_
  rintro e7 u7 ⟨rfl, g7⟩
  have s7 := g7.size
  have B_7 := B_6.below g7 (by omega)
  clear B_6
  have Z_7 := Z_6.below g7 (by omega)
  clear Z_6
  have G7 := G6.trans (g7.mono (by omega))
  clear G6
  clear g7
  clear hS1
  go_wp2_with (first | refine wpList_loadB rfl _ rfl rfl B_7 ?_ | refine wpList_loadB rfl _ rfl rfl Z_7 ?_ | refine wpList_allocB rfl rfl ?_)
  intro u8 g8 X_8 s8
  have B_8 := B_7.below g8 (by omega)
  clear B_7
  have Z_8 := Z_7.below g8 (by omega)
  clear Z_7
  have G8 := G7.trans (g8.mono (by omega))
  clear G7
  clear g8
  go_wp2_with (first | refine wpList_loadB rfl _ rfl rfl B_8 ?_ | refine wpList_loadB rfl _ rfl rfl Z_8 ?_ | refine wpList_storeB (b := z) rfl _ _ rfl rfl rfl X_8 ?_)
  intro u9 L9
  have s9 := L9.size
  have B_9 := L9.other B_8 (by omega)
  clear B_8
  have Z_9 := L9.other Z_8 (by omega)
  clear Z_8
  have X_9 := L9.cell
  have G9 := G8.trans (L9.below.mono (by omega))
  clear G8
  clear L9 X_8
  have hne := fun u => neq_block z z u
  have heq := fun u => eql_block z z u
  rw [sameB_self] at hne heq
  simp only [Bool.not_true] at hne
  have hgd := fun op x y u => guard_block op x y z z u
  unfold BlockD.val at hne heq hgd
  have hon : (z.on != z.on) = false := by cases z.on <;> rfl
  have hon2 : (z.on == z.on) = true := by cases z.on <;> rfl
  have bc := B_9.c0
  obtain ⟨zc, zc1, zc2, zc3, zc4, _⟩ := id Z_9
  obtain ⟨xc0, xc1, xc2, xc3, xc4, _⟩ := id X_9
  by_cases z0 : z.kind = 0
  · rw [z0] at zc xc0 hne heq hgd
    go_wp2
    go_ret
    exact ⟨rfl, G9⟩
  have z0' : (z.kind == 0) = false := by simpa using z0
  by_cases k12 : b.kind = 1 ∨ b.kind = 2
  rotate_left 1
  · have k1 : (b.kind != 1) = true := by simp; omega
    have k2 : (b.kind != 2) = true := by simp; omega
    clear k12 z0
    go_wp2
    go_ret
    exact ⟨rfl, G9⟩
  have kk : ((b.kind != 1) = false ∧ True) ∨ ((b.kind != 1) = true ∧ (b.kind != 2) = false) := by simp; omega
  by_cases hsum : 1000 < dt + K
  · clear k12 z0
    rcases kk with ⟨k1, _⟩ | ⟨k1, k2⟩
    all_goals
      go_wp2
      go_ret
      exact ⟨rfl, G9⟩
  obtain ⟨hbo, hdt0, hdt1⟩ := step_kind (b := b) (x := x) (y := false) (dt := dt) (by rw [HZ.out]; exact z0)
  have hzs : z = stepB b x false dt := by rw [← HZ.out, blockStep_ok hbo hdt0 hdt1]
  have hzo : blockOk z = true := by rw [hzs]; exact stepB_ok hbo x false hdt0
  have hzw : Hid (z.was = x) := by show _ = _; rw [hzs]; rfl
  have hzk : z.kind = b.kind := by rw [hzs]; rfl
  have hI2 := fun u => iBlockStep_any u z x false K
  obtain ⟨v, hv⟩ : ∃ v, blockStep z x false K = v := ⟨_, rfl⟩
  rw [hv] at hI2
  have hvk : Hid (v.kind = b.kind) := by show _ = _; rw [← hv, blockStep_ok hzo hK0 (by omega)]; exact hzk
  have hI3 := fun u => iBlockStep_any u { b with was := x } x false dt
  obtain ⟨p, hp⟩ : ∃ p, blockStep { b with was := x } x false dt = p := ⟨_, rfl⟩
  rw [hp] at hI3
  have hI5 := fun u => iBlockStep_any u { b with was := x } x false (dt + K)
  obtain ⟨r, hr⟩ : ∃ r, blockStep { b with was := x } x false (dt + K) = r := ⟨_, rfl⟩
  rw [hr] at hI5
  have hI4 := fun u => iBlockStep_any u p x false K
  have hq : blockStep p x false K = r := by rw [← hp, ← hr]; exact split_same { b with was := x } x dt K rfl k12 (blockOk_was x hbo) hdt0 hK0 (by omega)
  rw [hq] at hI4
  clear hv hp hr hq hzs hzo hzk HZ k12 z0 hbo hdt0 hdt1
  rcases kk with ⟨k1, _⟩ | ⟨k1, k2⟩
  all_goals
    go_wp2_with fail
    refine (hI2 _).mono ?_
    rintro e10 u10 ⟨rfl, g10⟩
    have s10 := g10.size
    have B_10 := B_9.below g10 (by omega)
    clear B_9
    have Z_10 := Z_9.below g10 (by omega)
    clear Z_9
    have X_10 := X_9.below g10 (by omega)
    clear X_9
    have G10 := G9.trans (g10.mono (by omega))
    clear G9
    clear g10
    clear hI2 hne heq hgd zc zc1 zc2 zc3 zc4 xc0 xc1 xc2 xc3 xc4 bc
    go_wp2_with (first | refine wpList_loadB rfl _ rfl rfl B_10 ?_ | refine wpList_loadB rfl _ rfl rfl Z_10 ?_ | refine wpList_loadB rfl _ rfl rfl X_10 ?_ | refine wpList_allocB rfl rfl ?_)
    intro u11 g11 U_11 s11
    have B_11 := B_10.below g11 (by omega)
    clear B_10
    have Z_11 := Z_10.below g11 (by omega)
    clear Z_10
    have X_11 := X_10.below g11 (by omega)
    clear X_10
    have G11 := G10.trans (g11.mono (by omega))
    clear G10
    clear g11
    go_wp2_with (first | refine wpList_loadB rfl _ rfl rfl B_11 ?_ | refine wpList_loadB rfl _ rfl rfl Z_11 ?_ | refine wpList_loadB rfl _ rfl rfl X_11 ?_ | refine wpList_storeB (b := v) rfl _ _ rfl rfl rfl U_11 ?_)
    intro u12 L12
    have s12 := L12.size
    have B_12 := L12.other B_11 (by omega)
    clear B_11
    have Z_12 := L12.other Z_11 (by omega)
    clear Z_11
    have X_12 := L12.other X_11 (by omega)
    clear X_11
    have U_12 := L12.cell
    have G12 := G11.trans (L12.below.mono (by omega))
    clear G11
    clear L12 U_11
    go_wp2_with (first | refine wpList_loadB rfl _ rfl rfl Z_12 ?_ | refine wpList_loadB rfl _ rfl rfl X_12 ?_ | refine wpList_loadB rfl _ rfl rfl U_12 ?_ | refine wpList_storeWas rfl _ _ rfl rfl rfl B_12 ?_)
    intro u13 L13
    have s13 := L13.size
    have Z_13 := L13.other Z_12 (by omega)
    clear Z_12
    have X_13 := L13.other X_12 (by omega)
    clear X_12
    have U_13 := L13.other U_12 (by omega)
    clear U_12
    have B_13 := L13.cell
    have G13 := G12.trans (L13.below.mono (by omega))
    clear G12
    clear L13 B_12
    go_wp2_with (first | refine wpList_loadB rfl _ rfl rfl Z_13 ?_ | refine wpList_loadB rfl _ rfl rfl X_13 ?_ | refine wpList_loadB rfl _ rfl rfl U_13 ?_ | refine wpList_loadB rfl _ rfl rfl B_13 ?_)
    refine (hI3 _).mono ?_
    rintro e14 u14 ⟨rfl, g14⟩
    have s14 := g14.size
    have Z_14 := Z_13.below g14 (by omega)
    clear Z_13
    have X_14 := X_13.below g14 (by omega)
    clear X_13
    have U_14 := U_13.below g14 (by omega)
    clear U_13
    have B_14 := B_13.below g14 (by omega)
    clear B_13
    have G14 := G13.trans (g14.mono (by omega))
    clear G13
    clear g14
    clear hI3
    go_wp2_with (first | refine wpList_loadB rfl _ rfl rfl Z_14 ?_ | refine wpList_loadB rfl _ rfl rfl X_14 ?_ | refine wpList_loadB rfl _ rfl rfl U_14 ?_ | refine wpList_loadB rfl _ rfl rfl B_14 ?_ | refine wpList_allocB rfl rfl ?_)
    intro u15 g15 P_15 s15
    have Z_15 := Z_14.below g15 (by omega)
    clear Z_14
    have X_15 := X_14.below g15 (by omega)
    clear X_14
    have U_15 := U_14.below g15 (by omega)
    clear U_14
    have B_15 := B_14.below g15 (by omega)
    clear B_14
    have G15 := G14.trans (g15.mono (by omega))
    clear G14
    clear g15
    go_wp2_with (first | refine wpList_loadB rfl _ rfl rfl Z_15 ?_ | refine wpList_loadB rfl _ rfl rfl X_15 ?_ | refine wpList_loadB rfl _ rfl rfl U_15 ?_ | refine wpList_loadB rfl _ rfl rfl B_15 ?_ | refine wpList_storeB (b := p) rfl _ _ rfl rfl rfl P_15 ?_)
    intro u16 L16
    have s16 := L16.size
    have Z_16 := L16.other Z_15 (by omega)
    clear Z_15
    have X_16 := L16.other X_15 (by omega)
    clear X_15
    have U_16 := L16.other U_15 (by omega)
    clear U_15
    have B_16 := L16.other B_15 (by omega)
    clear B_15
    have P_16 := L16.cell
    have G16 := G15.trans (L16.below.mono (by omega))
    clear G15
    clear L16 P_15
    go_wp2_with (first | refine wpList_loadB rfl _ rfl rfl Z_16 ?_ | refine wpList_loadB rfl _ rfl rfl X_16 ?_ | refine wpList_loadB rfl _ rfl rfl U_16 ?_ | refine wpList_loadB rfl _ rfl rfl B_16 ?_ | refine wpList_loadB rfl _ rfl rfl P_16 ?_)
    refine (hI4 _).mono ?_
    rintro e17 u17 ⟨rfl, g17⟩
    have s17 := g17.size
    have Z_17 := Z_16.below g17 (by omega)
    clear Z_16
    have X_17 := X_16.below g17 (by omega)
    clear X_16
    have U_17 := U_16.below g17 (by omega)
    clear U_16
    have B_17 := B_16.below g17 (by omega)
    clear B_16
    have P_17 := P_16.below g17 (by omega)
    clear P_16
    have G17 := G16.trans (g17.mono (by omega))
    clear G16
    clear g17
    clear hI4
    go_wp2_with (first | refine wpList_loadB rfl _ rfl rfl Z_17 ?_ | refine wpList_loadB rfl _ rfl rfl X_17 ?_ | refine wpList_loadB rfl _ rfl rfl U_17 ?_ | refine wpList_loadB rfl _ rfl rfl B_17 ?_ | refine wpList_loadB rfl _ rfl rfl P_17 ?_ | refine wpList_allocB rfl rfl ?_)
    intro u18 g18 Q_18 s18
    have Z_18 := Z_17.below g18 (by omega)
    clear Z_17
    have X_18 := X_17.below g18 (by omega)
    clear X_17
    have U_18 := U_17.below g18 (by omega)
    clear U_17
    have B_18 := B_17.below g18 (by omega)
    clear B_17
    have P_18 := P_17.below g18 (by omega)
    clear P_17
    have G18 := G17.trans (g18.mono (by omega))
    clear G17
    clear g18
    go_wp2_with (first | refine wpList_loadB rfl _ rfl rfl Z_18 ?_ | refine wpList_loadB rfl _ rfl rfl X_18 ?_ | refine wpList_loadB rfl _ rfl rfl U_18 ?_ | refine wpList_loadB rfl _ rfl rfl B_18 ?_ | refine wpList_loadB rfl _ rfl rfl P_18 ?_ | refine wpList_storeB (b := r) rfl _ _ rfl rfl rfl Q_18 ?_)
    intro u19 L19
    have s19 := L19.size
    have Z_19 := L19.other Z_18 (by omega)
    clear Z_18
    have X_19 := L19.other X_18 (by omega)
    clear X_18
    have U_19 := L19.other U_18 (by omega)
    clear U_18
    have B_19 := L19.other B_18 (by omega)
    clear B_18
    have P_19 := L19.other P_18 (by omega)
    clear P_18
    have Q_19 := L19.cell
    have G19 := G18.trans (L19.below.mono (by omega))
    clear G18
    clear L19 Q_18
    go_wp2_with (first | refine wpList_loadB rfl _ rfl rfl Z_19 ?_ | refine wpList_loadB rfl _ rfl rfl X_19 ?_ | refine wpList_loadB rfl _ rfl rfl U_19 ?_ | refine wpList_loadB rfl _ rfl rfl B_19 ?_ | refine wpList_loadB rfl _ rfl rfl P_19 ?_ | refine wpList_loadB rfl _ rfl rfl Q_19 ?_)
    refine (hI5 _).mono ?_
    rintro e20 u20 ⟨rfl, g20⟩
    have s20 := g20.size
    have Z_20 := Z_19.below g20 (by omega)
    clear Z_19
    have X_20 := X_19.below g20 (by omega)
    clear X_19
    have U_20 := U_19.below g20 (by omega)
    clear U_19
    have B_20 := B_19.below g20 (by omega)
    clear B_19
    have P_20 := P_19.below g20 (by omega)
    clear P_19
    have Q_20 := Q_19.below g20 (by omega)
    clear Q_19
    have G20 := G19.trans (g20.mono (by omega))
    clear G19
    clear g20
    clear hI5
    go_wp2_with (first | refine wpList_loadB rfl _ rfl rfl Z_20 ?_ | refine wpList_loadB rfl _ rfl rfl X_20 ?_ | refine wpList_loadB rfl _ rfl rfl U_20 ?_ | refine wpList_loadB rfl _ rfl rfl B_20 ?_ | refine wpList_loadB rfl _ rfl rfl P_20 ?_ | refine wpList_loadB rfl _ rfl rfl Q_20 ?_ | refine wpList_allocB rfl rfl ?_)
    intro u21 g21 R_21 s21
    have Z_21 := Z_20.below g21 (by omega)
    clear Z_20
    have X_21 := X_20.below g21 (by omega)
    clear X_20
    have U_21 := U_20.below g21 (by omega)
    clear U_20
    have B_21 := B_20.below g21 (by omega)
    clear B_20
    have P_21 := P_20.below g21 (by omega)
    clear P_20
    have Q_21 := Q_20.below g21 (by omega)
    clear Q_20
    have G21 := G20.trans (g21.mono (by omega))
    clear G20
    clear g21
    go_wp2_with (first | refine wpList_loadB rfl _ rfl rfl Z_21 ?_ | refine wpList_loadB rfl _ rfl rfl X_21 ?_ | refine wpList_loadB rfl _ rfl rfl U_21 ?_ | refine wpList_loadB rfl _ rfl rfl B_21 ?_ | refine wpList_loadB rfl _ rfl rfl P_21 ?_ | refine wpList_loadB rfl _ rfl rfl Q_21 ?_ | refine wpList_storeB (b := r) rfl _ _ rfl rfl rfl R_21 ?_)
    intro u22 L22
    have s22 := L22.size
    have Z_22 := L22.other Z_21 (by omega)
    clear Z_21
    have X_22 := L22.other X_21 (by omega)
    clear X_21
    have U_22 := L22.other U_21 (by omega)
    clear U_21
    have B_22 := L22.other B_21 (by omega)
    clear B_21
    have P_22 := L22.other P_21 (by omega)
    clear P_21
    have Q_22 := L22.other Q_21 (by omega)
    clear Q_21
    have R_22 := L22.cell
    have G22 := G21.trans (L22.below.mono (by omega))
    clear G21
    clear L22 R_21
    have heq := fun u => eql_block r r u
    rw [sameB_self] at heq
    have hgd := fun op x y u => guard_block op x y r r u
    unfold BlockD.val at heq hgd
    obtain ⟨qa0, qa1, qa2, qa3, qa4, _⟩ := id Q_22
    obtain ⟨ra0, ra1, ra2, ra3, ra4, _⟩ := id R_22
    have zc3 := Z_22.c3
    rw [hzw.out] at zc3
    have vc := U_22.c0
    rw [hvk.out] at vc
    have bc := B_22.c0
    try simp only at bc
    have hxx : (x == x) = true := by cases x <;> rfl
    have hbk : (b.kind == b.kind) = true := by simp
    go_wp2
    go_ret
    exact ⟨rfl, G22⟩
end Go.Proofs.Ytgfoimleoekkiaa
