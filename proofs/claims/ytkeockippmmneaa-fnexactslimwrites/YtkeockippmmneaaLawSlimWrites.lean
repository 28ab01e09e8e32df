/-
  FnExactSlimWrites, walked at every argument. (Written by our generator gen_lawslim.py.)
-/
import Derived.Test.YtkeockippmmneaaSlimWI
import Derived.Test.YtkeockippmmneaaAddrKit
import Derived.Test.YtkeockippmmneaaStmtSz
import Derived.Test.YtkeockippmmneaaStmtEq
namespace Go.Proofs.Ytkeockippmmneaa
open Go.ChangeShapes Go.WideShapes Go.ChangeAt Go.RowKit
set_option linter.unusedVariables false
set_option maxRecDepth 100000

set_option maxHeartbeats 8000000 in
theorem exactSlimWrites_walk (w : World) (v0 : Value) (d0 : List StmtD) (k t : Int) (r0 : SR w 0 w.heap.size v0 d0) :
    Calls Try.prog 5 #[v0, .agg #[.int .i64 k, .int .i64 t]] w fun e w' => e = .returned (.bool true) ∧ Below w.heap.size w w' := by
  obtain ⟨ad, cap, rfl, _, _⟩ := r0.shape
  have R0 : Hid (SR w 0 w.heap.size (.slice ad d0.length cap) d0) := r0
  clear r0
  obtain ⟨r, hr⟩ : ∃ r, slimWrites d0 k t = r := ⟨_, rfl⟩
  have hsp := fun W lo hi v h hh hm => sSlimWrites_any W lo hi v d0 k t h hh hm
  have him := fun W lo hi v h hh hm => iSlimWrites_any W lo hi v d0 k t h hh hm
  rw [hr] at hsp him
  clear hr
  obtain ⟨u0, hu0, hb, B0, S0⟩ : ∃ u0, w.alloc (.cells #[.int .i64 k, .int .i64 t] 23) = u0 ∧ Below w.heap.size w u0 ∧ Pr2 u0 w.heap.size (.int .i64 k) (.int .i64 t) ∧ u0.heap.size = w.heap.size + 1 :=
    ⟨_, rfl, (Below.refl _ w).alloc (Nat.le_refl _) _, ⟨World.cell?_alloc_new _ _ _ _, World.cell?_alloc_new _ _ _ _⟩, by simp⟩
  go_enter Try.func5, Try.ntmps5
  go_wp2_with fail
  try rw [hu0]
  clear hu0
  refine (szStmtS_any _ _ _ _ d0 1048576 (R0.out.under hb (Nat.le_refl _)) (by omega) (by omega) (by omega)).mono ?_
  by_cases big0 : (1048576 : Int) < (sizeL d0 : Int)
  · rw [if_pos big0]
    rintro e1 q1 ⟨rfl, g1⟩
    have hbq := hb.trans (g1.mono (by omega))
    go_wp2
    go_ret
    exact ⟨rfl, hbq⟩
  rw [if_neg big0]
  rintro e1 u2 ⟨rfl, g1⟩
  have np0 : ¬ ((1048576 - (sizeL d0 : Int) : Int) < 0) := by omega
  have nb0 : sizeL d0 ≤ 1048576 := by omega
  replace B0 := B0.below g1 (by omega)
  replace hb := hb.trans (g1.mono (by omega))
  have S1 := g1.size
  clear g1
  go_wp2_with fail
  refine wp_region_dag (R := Grow) (Φ := fun i v u => match i with
      | 0 => v = .slice ad d0.length cap
      | 1 => ∃ lo' hi', hi' ≤ u.heap.size ∧ SO u lo' hi' v d0
      | 2 => v = .agg #[.int .i64 k, .int .i64 t]
      | 3 => v = .agg #[.int .i64 k, .int .i64 t]
      | 4 => v = .bool r
      | 5 => v = .bool r
      | _ => True) (by kernel_rfl) (by kernel_rfl) (by kernel_rfl) (Below.refl _ _) grow_trans ?_ ?_ ?_
  · intro i v u u' hr
    match i with
    | 0 | 2 | 3 | 4 | 5 | _ + 6 => exact fun h => h
    | 1 => exact fun ⟨lo', hi', h1, h2⟩ => ⟨lo', hi', Nat.le_trans h1 hr.size, h2.under hr h1⟩
  · intro i o ho a u hf hR0 he K' hK
    have hR : Grow u2 u := (Below.drew (Below.refl _ _)).trans hR0
    have hsz' : a.tmps.size = 33 := hf.size
    have hus := hR.size
    have hRw : Below w.heap.size w u := hb.trans (hR.mono (by omega))
    rcases i with _ | _ | _ | _ | _ | _ | i
    · obtain rfl := Option.some.inj ho
      have q0 : a.tmps.getD 0 undef = .slice ad d0.length cap := hf.at_ 0 (by kernel_rfl)
      clear he
      go_simp
      exact hK _ _ (Below.refl _ _) (getD_put_self a 14 _ (by show _ < a.tmps.size; omega))
    · obtain rfl := Option.some.inj ho
      have q14 : a.tmps.getD 14 undef = .slice ad d0.length cap := he _ (Array.mem_of_getElem? (i := 0) rfl) (by kernel_rfl) _ rfl
      clear he
      go_simp
      refine (toStmtS_any _ _ _ _ d0 (R0.out.under hRw (Nat.le_refl _)) (by omega) nb0).mono ?_
      rintro e1 u' ⟨m', rfl, HO, hbu⟩
      exact hK _ _ hbu ⟨_, _, Nat.le_refl _, by show SO _ _ _ ((a.put (some 15) m').tmps.getD 15 undef) d0; rw [getD_put_self a 15 _ (by show _ < a.tmps.size; omega)]; exact HO⟩
    · obtain rfl := Option.some.inj ho
      have q3 : a.tmps.getD 3 undef = .pointer (some ⟨w.heap.size, 0, none⟩) := hf.at_ 3 (by kernel_rfl)
      clear he
      obtain ⟨c0, c1⟩ := B0.below hR (by omega)
      go_simp
      exact hK _ _ (Below.refl _ _) (getD_put_self a 16 _ (by show _ < a.tmps.size; omega))
    · obtain rfl := Option.some.inj ho
      have q16 : a.tmps.getD 16 undef = .agg #[.int .i64 k, .int .i64 t] := he _ (Array.mem_of_getElem? (i := 0) rfl) (by kernel_rfl) _ rfl
      clear he
      go_simp
      refine (toAddr_any _ ⟨k, t⟩).mono ?_
      rintro e1 u' ⟨rfl, hbu⟩
      exact hK _ _ hbu (getD_put_self a 17 _ (by show _ < a.tmps.size; omega))
    · obtain rfl := Option.some.inj ho
      have q17 : a.tmps.getD 17 undef = .agg #[.int .i64 k, .int .i64 t] := he _ (Array.mem_of_getElem? (i := 1) rfl) (by kernel_rfl) _ rfl
      obtain ⟨lo15, hi15, hh15, HO15⟩ := he _ (Array.mem_of_getElem? (i := 0) rfl) (by kernel_rfl) _ rfl
      have HO15 : SO u lo15 hi15 (a.tmps.getD 15 undef) d0 := HO15
      obtain ⟨mm15, em15⟩ : ∃ mm, a.tmps.getD 15 undef = mm := ⟨_, rfl⟩
      rw [em15] at HO15
      clear he
      go_simp
      refine (hsp _ _ _ _ HO15.sr hh15 nb0).mono ?_
      rintro e1 u' ⟨rfl, hbu⟩
      exact hK _ _ hbu (getD_put_self a 18 _ (by show _ < a.tmps.size; omega))
    · obtain rfl := Option.some.inj ho
      have q18 : a.tmps.getD 18 undef = .bool r := he _ (Array.mem_of_getElem? (i := 0) rfl) (by kernel_rfl) _ rfl
      clear he
      go_simp
      exact hK _ _ (Below.refl _ _) (getD_put_self a 6 _ (by show _ < a.tmps.size; omega))
    · exact absurd ho (by simp)
  · intro a u1 hf hR0 hp
    have g1 : Below u2.heap.size u2 u1 := (Below.drew (Below.refl _ _)).trans hR0
    have m6 : a.tmps.getD 6 undef = .bool r := hp 5 _ rfl
    obtain ⟨o15, m15⟩ : ∃ o, a.tmps.getD 15 undef = o := ⟨_, rfl⟩
    have m14 : a.tmps.getD 14 undef = _ := hp 0 _ rfl
    have m16 : a.tmps.getD 16 undef = _ := hp 2 _ rfl
    have m17 : a.tmps.getD 17 undef = _ := hp 3 _ rfl
    have m18 : a.tmps.getD 18 undef = _ := hp 4 _ rfl
    obtain ⟨fq, ea, hfv⟩ := act_lit a 33 hf.size
    have md : a.defers = [] := hf.defers
    rw [md] at ea
    have m0 := hf.at_ 0 (by kernel_rfl)
    have m1 := hf.at_ 1 (by kernel_rfl)
    have m2 := hf.at_ 2 (by kernel_rfl)
    have m3 := hf.at_ 3 (by kernel_rfl)
    have m4 := hf.at_ 4 (by kernel_rfl)
    have m5 := hf.at_ 5 (by kernel_rfl)
    have m7 := hf.at_ 7 (by kernel_rfl)
    have m8 := hf.at_ 8 (by kernel_rfl)
    have m9 := hf.at_ 9 (by kernel_rfl)
    have m10 := hf.at_ 10 (by kernel_rfl)
    have m11 := hf.at_ 11 (by kernel_rfl)
    have m12 := hf.at_ 12 (by kernel_rfl)
    have m13 := hf.at_ 13 (by kernel_rfl)
    have m19 := hf.at_ 19 (by kernel_rfl)
    have m20 := hf.at_ 20 (by kernel_rfl)
    have m21 := hf.at_ 21 (by kernel_rfl)
    have m22 := hf.at_ 22 (by kernel_rfl)
    have m23 := hf.at_ 23 (by kernel_rfl)
    have m24 := hf.at_ 24 (by kernel_rfl)
    have m25 := hf.at_ 25 (by kernel_rfl)
    have m26 := hf.at_ 26 (by kernel_rfl)
    have m27 := hf.at_ 27 (by kernel_rfl)
    have m28 := hf.at_ 28 (by kernel_rfl)
    have m29 := hf.at_ 29 (by kernel_rfl)
    have m30 := hf.at_ 30 (by kernel_rfl)
    have m31 := hf.at_ 31 (by kernel_rfl)
    have m32 := hf.at_ 32 (by kernel_rfl)
    rw [← hfv] at m0 m1 m2 m3 m4 m5 m7 m8 m9 m10 m11 m12 m13 m19 m20 m21 m22 m23 m24 m25 m26 m27 m28 m29 m30 m31 m32 m14 m15 m16 m17 m18 m6
    simp only [Array.getD_eq_getD_getElem?, List.getElem?_toArray, List.getElem?_cons_succ, List.getElem?_cons_zero, Option.getD_some] at m0 m1 m2 m3 m4 m5 m7 m8 m9 m10 m11 m12 m13 m19 m20 m21 m22 m23 m24 m25 m26 m27 m28 m29 m30 m31 m32
    simp only [List.range, List.range.loop, List.map_cons, List.map_nil, m0, m1, m2, m3, m4, m5, m7, m8, m9, m10, m11, m12, m13, m19, m20, m21, m22, m23, m24, m25, m26, m27, m28, m29, m30, m31, m32, m14, m15, m16, m17, m18, m6] at ea
    subst ea
    clear m0 m1 m2 m3 m4 m5 m7 m8 m9 m10 m11 m12 m13 m19 m20 m21 m22 m23 m24 m25 m26 m27 m28 m29 m30 m31 m32 m14 m15 m16 m17 m18 m6 hfv md hf
    replace B0 := B0.below g1 (by omega)
    replace hb := hb.trans (g1.mono (by omega))
    have S2 := g1.size
    clear g1 hR0 hp
    go_wp2_with fail
    refine (toStmtS_any _ _ _ _ d0 (R0.out.under hb (Nat.le_refl _)) (by omega) nb0).mono ?_
    rintro e1 q ⟨m', rfl, O, g1⟩
    replace B0 := B0.below g1 (by omega)
    replace hb := hb.trans (g1.mono (by omega))
    have S3 := g1.size
    clear g1
    obtain ⟨c0, c1⟩ := id B0
    go_wp2_with fail
    clear c0 c1
    refine (toAddr_any _ ⟨k, t⟩).mono ?_
    rintro e1 q2 ⟨rfl, g1⟩
    replace B0 := B0.below g1 (by omega)
    replace O := O.under g1 (by omega)
    replace hb := hb.trans (g1.mono (by omega))
    have S4 := g1.size
    clear g1
    go_wp2_with fail
    refine (him _ _ _ _ O.sr (by omega) nb0).mono ?_
    rintro e1 q3 ⟨rfl, g1⟩
    replace O := O.under g1 (by omega)
    replace hb := hb.trans (g1.mono (by omega))
    have S5 := g1.size
    clear g1 B0
    go_wp2_with fail
    refine (toStmtS_any _ _ _ _ d0 (R0.out.under hb (Nat.le_refl _)) (by omega) nb0).mono ?_
    rintro e1 q4 ⟨m4, rfl, O4, g1⟩
    replace O := O.under g1 (by omega)
    replace hb := hb.trans (g1.mono (by omega))
    have S6 := g1.size
    clear g1
    go_wp2_with fail
    refine (eqStmtS_any _ _ _ _ _ _ _ d0 d0 O.sr O4.sr (by omega) (by omega)).mono ?_
    rintro e1 q5 ⟨rr, rfl, hrr, g1⟩
    obtain rfl : rr = true := hrr.mpr rfl
    replace hb := hb.trans (g1.mono (by omega))
    clear g1 O O4
    go_wp2
    go_ret
    exact ⟨rfl, hb⟩
end Go.Proofs.Ytkeockippmmneaa
