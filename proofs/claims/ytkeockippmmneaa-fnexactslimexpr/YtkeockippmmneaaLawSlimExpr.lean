/-
  FnExactSlimExpr, walked at every argument, given what the program's SlimExpr answers. (Written by our generator gen_lawslimx.py.)
-/
import Derived.Test.YtkeockippmmneaaSlimU
import Derived.Test.YtkeockippmmneaaExprMark
import Derived.Test.YtkeockippmmneaaExprEq
import Derived.Test.YtkeockippmmneaaExprSz
namespace Go.Proofs.Ytkeockippmmneaa
open Go.ChangeShapes Go.WideShapes Go.ChangeAt Go.RowKit
set_option linter.unusedVariables false
set_option maxRecDepth 100000

theorem slimExpr_many (e : ExprD) : manyL (slimExpr e).kids ≤ 1048576 := by
  unfold slimExpr
  split
  · rename_i hok
    unfold exprOk at hok
    rw [Bool.and_eq_true] at hok
    have h1 := form_many 6 _ (slim_form 6 e hok.1)
    rw [manyE_eq] at h1
    omega
  · show manyL [] ≤ _; rw [manyL]; omega

set_option maxHeartbeats 16000000 in
theorem exactSlimExpr_walk
    (impl : ∀ (w : World) (lo hi : Nat) (v : Value) (e : ExprD), ER w lo hi v e → hi ≤ w.heap.size → manyL e.kids ≤ 1048576 → Calls Try.prog 9 #[v] w fun en w' => ∃ v', en = .returned v' ∧ EO w' w.heap.size w'.heap.size v' (slimExpr e) ∧ Below w.heap.size w w')
    (w : World) (v0 : Value) (d0 : ExprD) (r0 : ER w 0 w.heap.size v0 d0) :
    Calls Try.prog 3 #[v0] w fun e w' => e = .returned (.bool true) ∧ Below w.heap.size w w' := by
  obtain ⟨a0, c0, rfl⟩ := r0.shape
  have R0 : Hid (ER w 0 w.heap.size (.agg #[.int .i64 d0.k, .int .i64 d0.n, .int .i64 d0.ak, .int .i64 d0.at_, .slice a0 d0.kids.length c0]) d0) := r0
  clear r0
  obtain ⟨X, hX⟩ : ∃ X, slimExpr d0 = X := ⟨_, rfl⟩
  have hXm : manyL X.kids ≤ 1048576 := by rw [← hX]; exact slimExpr_many d0
  have HX : Hid (slimExpr d0 = X) := hX
  clear hX
  obtain ⟨u0, hu0, G, P, s0⟩ : ∃ u0, w.alloc (.cells #[.int .i64 d0.k, .int .i64 d0.n, .int .i64 d0.ak, .int .i64 d0.at_, .slice a0 d0.kids.length c0] 26) = u0 ∧ Below w.heap.size w u0 ∧ Five u0 w.heap.size (.int .i64 d0.k) (.int .i64 d0.n) (.int .i64 d0.ak) (.int .i64 d0.at_) (.slice a0 d0.kids.length c0) ∧ u0.heap.size = w.heap.size + 1 :=
    ⟨_, rfl, (Below.refl _ _).alloc (Nat.le_refl _) _, five_new _ _ _ _ _ _ _, by simp⟩
  obtain ⟨z0, z1, z2, z3, z4, _⟩ := id P
  go_enter Try.func3, Try.ntmps3
  go_wp2_with fail
  clear hu0 z0 z1 z2 z3 z4
  refine (szExpr_any _ _ _ _ d0 1048576 (R0.out.below G (Nat.le_refl _)) (by omega) (by omega) (by omega)).mono ?_
  by_cases big0 : (1048576 : Int) < (manyL d0.kids : Int)
  · rw [if_pos big0]
    rintro e1 q1 ⟨rfl, g1⟩
    have hbq := G.trans (g1.mono (by omega))
    clear P
    go_wp2
    go_ret
    exact ⟨rfl, hbq⟩
  rw [if_neg big0]
  rintro e1 u1 ⟨rfl, g1⟩
  have np0 : ¬ ((1048576 - (manyL d0.kids : Int) : Int) < 0) := by omega
  have nb0 : manyL d0.kids ≤ 1048576 := by omega
  have s1 := g1.size
  replace G := G.trans (g1.mono (by omega))
  replace P := P.under g1 (by omega)
  clear g1
  obtain ⟨z0, z1, z2, z3, z4, _⟩ := id P
  go_wp2_with fail
  clear z0 z1 z2 z3 z4
  refine (toExpr_any _ _ _ _ d0 (R0.out.below G (Nat.le_refl _)) (by omega) nb0).mono ?_
  rintro e2 u2 ⟨m2, rfl, A2, g2⟩
  obtain ⟨a2, c2, rfl⟩ := A2.form5U
  have s2 := g2.size
  replace G := G.trans (g2.mono (by omega))
  replace P := P.under g2 (by omega)
  clear g2
  have hsp := sSlimExpr_any u2 _ _ _ d0 A2.er (by omega) nb0
  rw [HX.out] at hsp
  go_wp2_with fail
  refine hsp.mono ?_
  clear hsp A2
  rintro e3 u3 ⟨v3, rfl, W, g3⟩
  obtain ⟨a3, c3, rfl⟩ := W.form5U
  have s3 := g3.size
  replace G := G.trans (g3.mono (by omega))
  replace P := P.under g3 (by omega)
  clear g3
  obtain ⟨u4, hu4, g4, BW, s4⟩ : ∃ u4, u3.alloc (.cells #[.int .i64 X.k, .int .i64 X.n, .int .i64 X.ak, .int .i64 X.at_, .slice a3 X.kids.length c3] 31) = u4 ∧ Below u3.heap.size u3 u4 ∧ Five u4 u3.heap.size (.int .i64 X.k) (.int .i64 X.n) (.int .i64 X.ak) (.int .i64 X.at_) (.slice a3 X.kids.length c3) ∧ u4.heap.size = u3.heap.size + 1 :=
    ⟨_, rfl, (Below.refl _ _).alloc (Nat.le_refl _) _, five_new _ _ _ _ _ _ _, by simp⟩
  replace G := G.trans (g4.mono (by omega))
  replace P := P.under g4 (by omega)
  replace W := W.below g4 (by omega)
  clear g4
  obtain ⟨z0, z1, z2, z3, z4, _⟩ := id P
  go_wp2_with fail
  try rw [hu4]
  clear hu4
  clear z0 z1 z2 z3 z4
  refine (toExpr_any _ _ _ _ d0 (R0.out.below G (Nat.le_refl _)) (by omega) nb0).mono ?_
  rintro e5 u5 ⟨m5, rfl, A, g5⟩
  obtain ⟨a5, c5, rfl⟩ := A.form5U
  have s5 := g5.size
  replace G := G.trans (g5.mono (by omega))
  replace P := P.under g5 (by omega)
  replace W := W.below g5 (by omega)
  replace BW := BW.under g5 (by omega)
  clear g5
  obtain ⟨u6, hu6, g6, BA, s6⟩ : ∃ u6, u5.alloc (.cells #[.int .i64 d0.k, .int .i64 d0.n, .int .i64 d0.ak, .int .i64 d0.at_, .slice a5 d0.kids.length c5] 31) = u6 ∧ Below u5.heap.size u5 u6 ∧ Five u6 u5.heap.size (.int .i64 d0.k) (.int .i64 d0.n) (.int .i64 d0.ak) (.int .i64 d0.at_) (.slice a5 d0.kids.length c5) ∧ u6.heap.size = u5.heap.size + 1 :=
    ⟨_, rfl, (Below.refl _ _).alloc (Nat.le_refl _) _, five_new _ _ _ _ _ _ _, by simp⟩
  replace G := G.trans (g6.mono (by omega))
  replace P := P.under g6 (by omega)
  replace W := W.below g6 (by omega)
  replace BW := BW.under g6 (by omega)
  replace A := A.below g6 (by omega)
  clear g6
  have him := impl u6 _ _ _ d0 A.er (by omega) nb0
  rw [HX.out] at him
  obtain ⟨z0, z1, z2, z3, z4, _⟩ := id BA
  go_wp2_with fail
  try rw [hu6]
  clear hu6
  clear z0 z1 z2 z3 z4
  refine him.mono ?_
  clear him
  rintro e7 u7 ⟨v7, rfl, Y, g7⟩
  obtain ⟨a7, c7, rfl⟩ := Y.form5U
  have s7 := g7.size
  replace G := G.trans (g7.mono (by omega))
  replace P := P.under g7 (by omega)
  replace W := W.below g7 (by omega)
  replace BW := BW.under g7 (by omega)
  replace A := A.below g7 (by omega)
  replace BA := BA.under g7 (by omega)
  clear g7
  obtain ⟨u8, hu8, g8, BY, s8⟩ : ∃ u8, u7.alloc (.cells #[.int .i64 X.k, .int .i64 X.n, .int .i64 X.ak, .int .i64 X.at_, .slice a7 X.kids.length c7] 31) = u8 ∧ Below u7.heap.size u7 u8 ∧ Five u8 u7.heap.size (.int .i64 X.k) (.int .i64 X.n) (.int .i64 X.ak) (.int .i64 X.at_) (.slice a7 X.kids.length c7) ∧ u8.heap.size = u7.heap.size + 1 :=
    ⟨_, rfl, (Below.refl _ _).alloc (Nat.le_refl _) _, five_new _ _ _ _ _ _ _, by simp⟩
  replace G := G.trans (g8.mono (by omega))
  replace P := P.under g8 (by omega)
  replace W := W.below g8 (by omega)
  replace BW := BW.under g8 (by omega)
  replace A := A.below g8 (by omega)
  replace BA := BA.under g8 (by omega)
  replace Y := Y.below g8 (by omega)
  clear g8
  obtain ⟨z0, z1, z2, z3, z4, _⟩ := id BY
  obtain ⟨y0, y1, y2, y3, y4, _⟩ := id BW
  go_wp2_with fail
  try rw [hu8]
  clear hu8
  clear z0 z1 z2 z3 z4 y0 y1 y2 y3 y4
  refine (eqExpr_any _ _ _ _ _ _ _ X X Y.er W.er (by omega) (by omega)).mono ?_
  rintro e9 u9 ⟨rr, rfl, hrr, g9⟩
  obtain rfl : rr = true := hrr.mpr rfl
  clear hrr
  have s9 := g9.size
  replace G := G.trans (g9.mono (by omega))
  replace P := P.under g9 (by omega)
  replace W := W.below g9 (by omega)
  replace BW := BW.under g9 (by omega)
  replace A := A.below g9 (by omega)
  replace BA := BA.under g9 (by omega)
  replace Y := Y.below g9 (by omega)
  replace BY := BY.under g9 (by omega)
  clear g9
  go_wp2_with fail
  refine wp_region_dag (R := Grow) (Φ := fun i v u => match i with
      | 0 => v = .agg #[.int .i64 d0.k, .int .i64 d0.n, .int .i64 d0.ak, .int .i64 d0.at_, .slice a5 d0.kids.length c5]
      | 1 => v = .agg #[.int .i64 d0.k, .int .i64 d0.n, .int .i64 d0.ak, .int .i64 d0.at_, .slice a0 d0.kids.length c0]
      | 2 => ∃ lo' hi', hi' ≤ u.heap.size ∧ EO u lo' hi' v d0
      | 3 => v = .bool true
      | 4 => v = .bool false
      | _ => True) (by kernel_rfl) (by kernel_rfl) (by kernel_rfl) (Below.refl _ _) grow_trans ?_ ?_ ?_
  · intro i v u u' hr
    match i with
    | 0 | 1 | 3 | 4 | _ + 5 => exact fun h => h
    | 2 => exact fun ⟨lo', hi', h1, h2⟩ => ⟨lo', hi', Nat.le_trans h1 hr.size, h2.below hr h1⟩
  · intro i o ho a u hf hR0 he K' hK
    have hR : Grow u9 u := (Below.drew (Below.refl _ _)).trans hR0
    have hsz' : a.tmps.size = 69 := hf.size
    have hus := hR.size
    have hRw : Below w.heap.size w u := G.trans (hR.mono (by omega))
    rcases i with _ | _ | _ | _ | _ | i
    · obtain rfl := Option.some.inj ho
      have q5 : a.tmps.getD 5 undef = .pointer (some ⟨u5.heap.size, 0, none⟩) := hf.at_ 5 (by kernel_rfl)
      clear he
      obtain ⟨z0, z1, z2, z3, z4, _⟩ := BA.under hR (by omega)
      go_simp
      exact hK _ _ (Below.refl _ _) (getD_put_self a 27 _ (by show _ < a.tmps.size; omega))
    · obtain rfl := Option.some.inj ho
      have q1 : a.tmps.getD 1 undef = .pointer (some ⟨w.heap.size, 0, none⟩) := hf.at_ 1 (by kernel_rfl)
      clear he
      obtain ⟨z0, z1, z2, z3, z4, _⟩ := P.under hR (by omega)
      go_simp
      exact hK _ _ (Below.refl _ _) (getD_put_self a 28 _ (by show _ < a.tmps.size; omega))
    · obtain rfl := Option.some.inj ho
      have q28 : a.tmps.getD 28 undef = .agg #[.int .i64 d0.k, .int .i64 d0.n, .int .i64 d0.ak, .int .i64 d0.at_, .slice a0 d0.kids.length c0] := he _ (Array.mem_of_getElem? (i := 0) rfl) (by kernel_rfl) _ rfl
      clear he
      go_simp
      refine (toExpr_any _ _ _ _ d0 (R0.out.below hRw (Nat.le_refl _)) (by omega) nb0).mono ?_
      rintro e1 u' ⟨m', rfl, HO, hbu⟩
      exact hK _ _ hbu ⟨_, _, Nat.le_refl _, by show EO _ _ _ ((a.put (some 29) m').tmps.getD 29 undef) d0; rw [getD_put_self a 29 _ (by show _ < a.tmps.size; omega)]; exact HO⟩
    · obtain rfl := Option.some.inj ho
      have q27 : a.tmps.getD 27 undef = .agg #[.int .i64 d0.k, .int .i64 d0.n, .int .i64 d0.ak, .int .i64 d0.at_, .slice a5 d0.kids.length c5] := he _ (Array.mem_of_getElem? (i := 0) rfl) (by kernel_rfl) _ rfl
      obtain ⟨lo29, hi29, hh29, HO29⟩ := he _ (Array.mem_of_getElem? (i := 1) rfl) (by kernel_rfl) _ rfl
      have HO29 : EO u lo29 hi29 (a.tmps.getD 29 undef) d0 := HO29
      obtain ⟨mm29, em29⟩ : ∃ mm, a.tmps.getD 29 undef = mm := ⟨_, rfl⟩
      rw [em29] at HO29
      clear he
      go_simp
      refine (eqExpr_any _ _ _ _ _ _ _ d0 d0 (A.below hR (by omega)).er HO29.er (by omega) hh29).mono ?_
      rintro e1 u' ⟨rr, rfl, hrr, hbu⟩
      obtain rfl : rr = true := hrr.mpr rfl; exact hK _ _ hbu (getD_put_self a 30 _ (by show _ < a.tmps.size; omega))
    · obtain rfl := Option.some.inj ho
      have q30 : a.tmps.getD 30 undef = .bool true := he _ (Array.mem_of_getElem? (i := 0) rfl) (by kernel_rfl) _ rfl
      clear he
      go_simp
      exact hK _ _ (Below.refl _ _) (getD_put_self a 31 _ (by show _ < a.tmps.size; omega))
    · exact absurd ho (by simp)
  · intro a u10 hf hR0 hp
    have g10 : Below u9.heap.size u9 u10 := (Below.drew (Below.refl _ _)).trans hR0
    obtain ⟨o29, m29⟩ : ∃ z, a.tmps.getD 29 undef = z := ⟨_, rfl⟩
    have m27 : a.tmps.getD 27 undef = _ := hp 0 _ rfl
    have m28 : a.tmps.getD 28 undef = _ := hp 1 _ rfl
    have m30 : a.tmps.getD 30 undef = _ := hp 3 _ rfl
    have m31 : a.tmps.getD 31 undef = .bool false := hp 4 _ rfl
    obtain ⟨fq, ea, hfv⟩ := act_lit a 69 hf.size
    have md : a.defers = [] := hf.defers
    rw [md] at ea
    have m0 := hf.at_ 0 (by kernel_rfl)
    have m1 := hf.at_ 1 (by kernel_rfl)
    have m2 := hf.at_ 2 (by kernel_rfl)
    have m3 := hf.at_ 3 (by kernel_rfl)
    have m4 := hf.at_ 4 (by kernel_rfl)
    have m5 := hf.at_ 5 (by kernel_rfl)
    have m6 := hf.at_ 6 (by kernel_rfl)
    have m7 := hf.at_ 7 (by kernel_rfl)
    have m8 := hf.at_ 8 (by kernel_rfl)
    have m9 := hf.at_ 9 (by kernel_rfl)
    have m10 := hf.at_ 10 (by kernel_rfl)
    have m11 := hf.at_ 11 (by kernel_rfl)
    have m12 := hf.at_ 12 (by kernel_rfl)
    have m13 := hf.at_ 13 (by kernel_rfl)
    have m14 := hf.at_ 14 (by kernel_rfl)
    have m15 := hf.at_ 15 (by kernel_rfl)
    have m16 := hf.at_ 16 (by kernel_rfl)
    have m17 := hf.at_ 17 (by kernel_rfl)
    have m18 := hf.at_ 18 (by kernel_rfl)
    have m19 := hf.at_ 19 (by kernel_rfl)
    have m20 := hf.at_ 20 (by kernel_rfl)
    have m21 := hf.at_ 21 (by kernel_rfl)
    have m22 := hf.at_ 22 (by kernel_rfl)
    have m23 := hf.at_ 23 (by kernel_rfl)
    have m24 := hf.at_ 24 (by kernel_rfl)
    have m25 := hf.at_ 25 (by kernel_rfl)
    have m26 := hf.at_ 26 (by kernel_rfl)
    have m32 := hf.at_ 32 (by kernel_rfl)
    have m33 := hf.at_ 33 (by kernel_rfl)
    have m34 := hf.at_ 34 (by kernel_rfl)
    have m35 := hf.at_ 35 (by kernel_rfl)
    have m36 := hf.at_ 36 (by kernel_rfl)
    have m37 := hf.at_ 37 (by kernel_rfl)
    have m38 := hf.at_ 38 (by kernel_rfl)
    have m39 := hf.at_ 39 (by kernel_rfl)
    have m40 := hf.at_ 40 (by kernel_rfl)
    have m41 := hf.at_ 41 (by kernel_rfl)
    have m42 := hf.at_ 42 (by kernel_rfl)
    have m43 := hf.at_ 43 (by kernel_rfl)
    have m44 := hf.at_ 44 (by kernel_rfl)
    have m45 := hf.at_ 45 (by kernel_rfl)
    have m46 := hf.at_ 46 (by kernel_rfl)
    have m47 := hf.at_ 47 (by kernel_rfl)
    have m48 := hf.at_ 48 (by kernel_rfl)
    have m49 := hf.at_ 49 (by kernel_rfl)
    have m50 := hf.at_ 50 (by kernel_rfl)
    have m51 := hf.at_ 51 (by kernel_rfl)
    have m52 := hf.at_ 52 (by kernel_rfl)
    have m53 := hf.at_ 53 (by kernel_rfl)
    have m54 := hf.at_ 54 (by kernel_rfl)
    have m55 := hf.at_ 55 (by kernel_rfl)
    have m56 := hf.at_ 56 (by kernel_rfl)
    have m57 := hf.at_ 57 (by kernel_rfl)
    have m58 := hf.at_ 58 (by kernel_rfl)
    have m59 := hf.at_ 59 (by kernel_rfl)
    have m60 := hf.at_ 60 (by kernel_rfl)
    have m61 := hf.at_ 61 (by kernel_rfl)
    have m62 := hf.at_ 62 (by kernel_rfl)
    have m63 := hf.at_ 63 (by kernel_rfl)
    have m64 := hf.at_ 64 (by kernel_rfl)
    have m65 := hf.at_ 65 (by kernel_rfl)
    have m66 := hf.at_ 66 (by kernel_rfl)
    have m67 := hf.at_ 67 (by kernel_rfl)
    have m68 := hf.at_ 68 (by kernel_rfl)
    rw [← hfv] at m0 m1 m2 m3 m4 m5 m6 m7 m8 m9 m10 m11 m12 m13 m14 m15 m16 m17 m18 m19 m20 m21 m22 m23 m24 m25 m26 m32 m33 m34 m35 m36 m37 m38 m39 m40 m41 m42 m43 m44 m45 m46 m47 m48 m49 m50 m51 m52 m53 m54 m55 m56 m57 m58 m59 m60 m61 m62 m63 m64 m65 m66 m67 m68 m27 m28 m29 m30 m31
    simp only [Array.getD_eq_getD_getElem?, List.getElem?_toArray, List.getElem?_cons_succ, List.getElem?_cons_zero, Option.getD_some] at m0 m1 m2 m3 m4 m5 m6 m7 m8 m9 m10 m11 m12 m13 m14 m15 m16 m17 m18 m19 m20 m21 m22 m23 m24 m25 m26 m32 m33 m34 m35 m36 m37 m38 m39 m40 m41 m42 m43 m44 m45 m46 m47 m48 m49 m50 m51 m52 m53 m54 m55 m56 m57 m58 m59 m60 m61 m62 m63 m64 m65 m66 m67 m68
    simp only [List.range, List.range.loop, List.map_cons, List.map_nil, m0, m1, m2, m3, m4, m5, m6, m7, m8, m9, m10, m11, m12, m13, m14, m15, m16, m17, m18, m19, m20, m21, m22, m23, m24, m25, m26, m32, m33, m34, m35, m36, m37, m38, m39, m40, m41, m42, m43, m44, m45, m46, m47, m48, m49, m50, m51, m52, m53, m54, m55, m56, m57, m58, m59, m60, m61, m62, m63, m64, m65, m66, m67, m68, m27, m28, m29, m30, m31] at ea
    subst ea
    clear m0 m1 m2 m3 m4 m5 m6 m7 m8 m9 m10 m11 m12 m13 m14 m15 m16 m17 m18 m19 m20 m21 m22 m23 m24 m25 m26 m32 m33 m34 m35 m36 m37 m38 m39 m40 m41 m42 m43 m44 m45 m46 m47 m48 m49 m50 m51 m52 m53 m54 m55 m56 m57 m58 m59 m60 m61 m62 m63 m64 m65 m66 m67 m68 m27 m28 m29 m30 m31 hfv md hf
    clear hR0 hp
    have s10 := g10.size
    replace G := G.trans (g10.mono (by omega))
    replace P := P.under g10 (by omega)
    replace W := W.below g10 (by omega)
    replace BW := BW.under g10 (by omega)
    replace A := A.below g10 (by omega)
    replace BA := BA.under g10 (by omega)
    replace Y := Y.below g10 (by omega)
    replace BY := BY.under g10 (by omega)
    clear g10
    obtain ⟨z0, z1, z2, z3, z4, _⟩ := id BA
    go_wp2_with fail
    clear z0 z1 z2 z3 z4
    refine (markExpr_any _ _ _ _ d0 1 A (by omega) (by omega) (by omega)).mono ?_
    rintro e11 u11 ⟨rfl, _, h11⟩
    have s11 := h11.size
    have nk : ¬ ((1 : Int) + 4 * (manyL d0.kids : Int) < 0) := by omega
    replace G := G.trans (h11.below (by omega) (by omega))
    replace P := P.atU (h11.block _ (by omega) (by omega))
    replace W := W.kept fun q q1 q2 => h11.block q (by omega) (by omega)
    replace BW := BW.atU (h11.block _ (by omega) (by omega))
    replace BA := BA.atU (h11.block _ (by omega) (by omega))
    replace Y := Y.kept fun q q1 q2 => h11.block q (by omega) (by omega)
    replace BY := BY.atU (h11.block _ (by omega) (by omega))
    clear h11
    clear A
    generalize (1 : Int) + 4 * (manyL d0.kids : Int) = K1 at *
    obtain ⟨z0, z1, z2, z3, z4, _⟩ := id BY
    obtain ⟨y0, y1, y2, y3, y4, _⟩ := id BW
    go_wp2_with fail
    clear z0 z1 z2 z3 z4 y0 y1 y2 y3 y4
    refine (eqExpr_any _ _ _ _ _ _ _ X X Y.er W.er (by omega) (by omega)).mono ?_
    rintro e12 u12 ⟨rr, rfl, hrr, g12⟩
    obtain rfl : rr = true := hrr.mpr rfl
    clear hrr
    have s12 := g12.size
    replace G := G.trans (g12.mono (by omega))
    replace P := P.under g12 (by omega)
    replace W := W.below g12 (by omega)
    replace BW := BW.under g12 (by omega)
    replace BA := BA.under g12 (by omega)
    replace Y := Y.below g12 (by omega)
    replace BY := BY.under g12 (by omega)
    clear g12
    obtain ⟨z0, z1, z2, z3, z4, _⟩ := id BY
    go_wp2_with fail
    clear z0 z1 z2 z3 z4
    refine (markExpr_any _ _ _ _ X 1 Y (by omega) (by omega) (by omega)).mono ?_
    rintro e13 u13 ⟨rfl, YM, h13⟩
    have s13 := h13.size
    replace G := G.trans (h13.below (by omega) (by omega))
    replace P := P.atU (h13.block _ (by omega) (by omega))
    replace W := W.kept fun q q1 q2 => h13.block q (by omega) (by omega)
    replace BW := BW.atU (h13.block _ (by omega) (by omega))
    replace BA := BA.atU (h13.block _ (by omega) (by omega))
    replace BY := BY.atU (h13.block _ (by omega) (by omega))
    clear h13
    clear Y
    have nd : ¬ ((1 : Int) + 4 * (manyL X.kids : Int) < 0) := by omega
    obtain ⟨K2, hK2⟩ : ∃ K2, (1 : Int) + 4 * (manyL X.kids : Int) = K2 := ⟨_, rfl⟩
    rw [hK2] at nd ⊢
    have HK2 : Hid ((1 : Int) + 4 * (manyL X.kids : Int) = K2) := hK2
    clear hK2
    obtain ⟨z0, z1, z2, z3, z4, _⟩ := id BY
    have hhd := heldExpr_any u13 _ _ _ _ X.kids 1 YM.er rfl (by omega) (by omega) (by omega)
    rw [HK2.out] at hhd
    go_wp2_with fail
    clear z0 z1 z2 z3 z4
    refine hhd.mono ?_
    clear hhd
    rintro e14 u14 ⟨rfl, g14⟩
    have s14 := g14.size
    replace G := G.trans (g14.mono (by omega))
    replace P := P.under g14 (by omega)
    replace W := W.below g14 (by omega)
    replace BW := BW.under g14 (by omega)
    replace BA := BA.under g14 (by omega)
    replace BY := BY.under g14 (by omega)
    replace YM := YM.below g14 (by omega)
    clear g14
    obtain ⟨z0, z1, z2, z3, z4, _⟩ := id P
    go_wp2_with fail
    clear z0 z1 z2 z3 z4
    refine (toExpr_any _ _ _ _ d0 (R0.out.below G (Nat.le_refl _)) (by omega) nb0).mono ?_
    rintro e15 u15 ⟨m15, rfl, A15, g15⟩
    obtain ⟨a15, c15, rfl⟩ := A15.form5U
    have s15 := g15.size
    replace G := G.trans (g15.mono (by omega))
    replace P := P.under g15 (by omega)
    replace W := W.below g15 (by omega)
    replace BW := BW.under g15 (by omega)
    replace BA := BA.under g15 (by omega)
    replace BY := BY.under g15 (by omega)
    replace YM := YM.below g15 (by omega)
    clear g15
    have him := impl u15 _ _ _ d0 A15.er (by omega) nb0
    rw [HX.out] at him
    go_wp2_with fail
    refine him.mono ?_
    clear him A15
    rintro e16 u16 ⟨v16, rfl, Z, g16⟩
    obtain ⟨a16, c16, rfl⟩ := Z.form5U
    have s16 := g16.size
    replace G := G.trans (g16.mono (by omega))
    replace P := P.under g16 (by omega)
    replace W := W.below g16 (by omega)
    replace BW := BW.under g16 (by omega)
    replace BA := BA.under g16 (by omega)
    replace BY := BY.under g16 (by omega)
    replace YM := YM.below g16 (by omega)
    clear g16
    obtain ⟨u17, hu17, g17, BZ, s17⟩ : ∃ u17, u16.alloc (.cells #[.int .i64 X.k, .int .i64 X.n, .int .i64 X.ak, .int .i64 X.at_, .slice a16 X.kids.length c16] 31) = u17 ∧ Below u16.heap.size u16 u17 ∧ Five u17 u16.heap.size (.int .i64 X.k) (.int .i64 X.n) (.int .i64 X.ak) (.int .i64 X.at_) (.slice a16 X.kids.length c16) ∧ u17.heap.size = u16.heap.size + 1 :=
      ⟨_, rfl, (Below.refl _ _).alloc (Nat.le_refl _) _, five_new _ _ _ _ _ _ _, by simp⟩
    replace G := G.trans (g17.mono (by omega))
    replace P := P.under g17 (by omega)
    replace W := W.below g17 (by omega)
    replace BW := BW.under g17 (by omega)
    replace BA := BA.under g17 (by omega)
    replace BY := BY.under g17 (by omega)
    replace YM := YM.below g17 (by omega)
    replace Z := Z.below g17 (by omega)
    clear g17
    obtain ⟨z0, z1, z2, z3, z4, _⟩ := id BZ
    obtain ⟨y0, y1, y2, y3, y4, _⟩ := id BW
    go_wp2_with fail
    try rw [hu17]
    clear hu17
    clear z0 z1 z2 z3 z4 y0 y1 y2 y3 y4
    refine (eqExpr_any _ _ _ _ _ _ _ X X Z.er W.er (by omega) (by omega)).mono ?_
    rintro e18 u18 ⟨rr, rfl, hrr, g18⟩
    obtain rfl : rr = true := hrr.mpr rfl
    clear hrr
    have s18 := g18.size
    replace G := G.trans (g18.mono (by omega))
    replace P := P.under g18 (by omega)
    replace W := W.below g18 (by omega)
    replace BW := BW.under g18 (by omega)
    replace BA := BA.under g18 (by omega)
    replace BY := BY.under g18 (by omega)
    replace YM := YM.below g18 (by omega)
    replace Z := Z.below g18 (by omega)
    replace BZ := BZ.under g18 (by omega)
    clear g18
    clear Z BZ
    obtain ⟨z0, z1, z2, z3, z4, _⟩ := id BY
    have hhd := heldExpr_any u18 _ _ _ _ X.kids 1 YM.er rfl (by omega) (by omega) (by omega)
    rw [HK2.out] at hhd
    go_wp2_with fail
    clear z0 z1 z2 z3 z4
    refine hhd.mono ?_
    clear hhd
    rintro e19 u19 ⟨rfl, g19⟩
    have s19 := g19.size
    replace G := G.trans (g19.mono (by omega))
    replace P := P.under g19 (by omega)
    replace W := W.below g19 (by omega)
    replace BW := BW.under g19 (by omega)
    replace BA := BA.under g19 (by omega)
    replace BY := BY.under g19 (by omega)
    replace YM := YM.below g19 (by omega)
    clear g19
    clear P W BW BA BY YM
    go_wp2
    go_ret
    exact ⟨rfl, G⟩
end Go.Proofs.Ytkeockippmmneaa
