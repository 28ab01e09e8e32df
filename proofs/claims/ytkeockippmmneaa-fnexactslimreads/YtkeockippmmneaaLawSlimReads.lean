/-
  FnExactSlimReads, walked at every argument. (Written by our generator gen_lawslim.py.)
-/
import Derived.Test.YtkeockippmmneaaSlimI
import Derived.Test.YtkeockippmmneaaAddrKit
namespace Go.Proofs.Ytkeockippmmneaa
open Go.ChangeShapes Go.WideShapes Go.ChangeAt Go.RowKit
set_option linter.unusedVariables false
set_option maxRecDepth 100000

set_option maxHeartbeats 8000000 in
theorem exactSlimReads_walk (w : World) (v0 : Value) (d0 : ExprD) (k t : Int) (r0 : ER w 0 w.heap.size v0 d0) :
    Calls Try.prog 4 #[v0, .agg #[.int .i64 k, .int .i64 t]] w fun e w' => e = .returned (.bool true) ∧ Below w.heap.size w w' := by
  obtain ⟨pa, ca, rfl⟩ := r0.shape
  have R0 : Hid (ER w 0 w.heap.size (.agg #[.int .i64 d0.k, .int .i64 d0.n, .int .i64 d0.ak, .int .i64 d0.at_, .slice pa d0.kids.length ca]) d0) := r0
  clear r0
  obtain ⟨r, hr⟩ : ∃ r, slimReads d0 k t = r := ⟨_, rfl⟩
  have hsp := fun W lo hi v h hh hm => sSlimReads_any W lo hi v d0 k t h hh hm
  have him := fun W lo hi v h hh hm => iSlimReads_any W lo hi v d0 k t h hh hm
  rw [hr] at hsp him
  clear hr
  obtain ⟨u0, hu0, hb, P0, B0, S0⟩ := five_two_new w d0 (.slice pa d0.kids.length ca) k t 26 23
  obtain ⟨c0, c1, c2, c3, c4, _⟩ := id P0
  go_enter Try.func4, Try.ntmps4
  go_wp2_with fail
  clear hu0 c0 c1 c2 c3 c4
  refine (szExpr_any _ _ _ _ d0 (1048576) (R0.out.below hb (Nat.le_refl _)) (by omega) (by omega) (by omega)).mono ?_
  by_cases big0 : (1048576 : Int) < (manyL d0.kids : Int)
  · rw [if_pos big0]
    rintro e1 q1 ⟨rfl, g1⟩
    have hbq := hb.trans (g1.mono (by omega))
    go_wp2
    go_ret
    exact ⟨rfl, hbq⟩
  rw [if_neg big0]
  rintro e1 u2 ⟨rfl, g1⟩
  have np0 : ¬ ((1048576 - (manyL d0.kids : Int) : Int) < 0) := by omega
  have nb0 : manyL d0.kids ≤ 1048576 := by omega
  replace P0 := P0.under g1 (by omega)
  replace B0 := B0.below g1 (by omega)
  replace hb := hb.trans (g1.mono (by omega))
  have S1 := g1.size
  clear g1
  go_wp2_with fail
  refine wp_region_dag (R := Grow) (Φ := fun i v u => match i with
      | 0 => v = .agg #[.int .i64 d0.k, .int .i64 d0.n, .int .i64 d0.ak, .int .i64 d0.at_, .slice pa d0.kids.length ca]
      | 1 => ∃ lo' hi', hi' ≤ u.heap.size ∧ EO u lo' hi' v d0
      | 2 => v = .agg #[.int .i64 k, .int .i64 t]
      | 3 => v = .agg #[.int .i64 k, .int .i64 t]
      | 4 => v = .bool r
      | 5 => v = .bool r
      | _ => True) (by kernel_rfl) (by kernel_rfl) (by kernel_rfl) (Below.refl _ _) grow_trans ?_ ?_ ?_
  · intro i v u u' hr
    match i with
    | 0 | 2 | 3 | 4 | 5 | _ + 6 => exact fun h => h
    | 1 => exact fun ⟨lo', hi', h1, h2⟩ => ⟨lo', hi', Nat.le_trans h1 hr.size, h2.below hr h1⟩
  · intro i o ho a u hf hR0 he K' hK
    have hR : Grow u2 u := (Below.drew (Below.refl _ _)).trans hR0
    have hsz' : a.tmps.size = 33 := hf.size
    have hus := hR.size
    have hRw : Below w.heap.size w u := hb.trans (hR.mono (by omega))
    rcases i with _ | _ | _ | _ | _ | _ | i
    · obtain rfl := Option.some.inj ho
      have q2 : a.tmps.getD 2 undef = .pointer (some ⟨w.heap.size, 0, none⟩) := hf.at_ 2 (by kernel_rfl)
      clear he
      obtain ⟨c0, c1, c2, c3, c4, _⟩ := P0.under hR (by omega)
      go_simp
      exact hK _ _ (Below.refl _ _) (getD_put_self a 14 _ (by show _ < a.tmps.size; omega))
    · obtain rfl := Option.some.inj ho
      have q14 : a.tmps.getD 14 undef = .agg #[.int .i64 d0.k, .int .i64 d0.n, .int .i64 d0.ak, .int .i64 d0.at_, .slice pa d0.kids.length ca] := he _ (Array.mem_of_getElem? (i := 0) rfl) (by kernel_rfl) _ rfl
      clear he
      go_simp
      refine (toExpr_any _ _ _ _ d0 (R0.out.below hRw (Nat.le_refl _)) (by omega) nb0).mono ?_
      rintro e1 u' ⟨m', rfl, HO, hbu⟩
      exact hK _ _ hbu ⟨_, _, Nat.le_refl _, by show EO _ _ _ ((a.put (some 15) m').tmps.getD 15 undef) d0; rw [getD_put_self a 15 _ (by show _ < a.tmps.size; omega)]; exact HO⟩
    · obtain rfl := Option.some.inj ho
      have q3 : a.tmps.getD 3 undef = .pointer (some ⟨w.heap.size + 1, 0, none⟩) := hf.at_ 3 (by kernel_rfl)
      clear he
      obtain ⟨c0, c1⟩ := B0.below hR (by omega)
      go_simp
      exact hK _ _ (Below.refl _ _) (getD_put_self a 16 _ (by show _ < a.tmps.size; omega))
    · obtain rfl := Option.some.inj ho
      have q16 : a.tmps.getD 16 undef = .agg #[.int .i64 k, .int .i64 t] := he _ (Array.mem_of_getElem? (i := 0) rfl) (by kernel_rfl) _ rfl
      clear he
      go_simp
      refine (toAddr_any _ ⟨k, t⟩).mono ?_
      rintro e1 u' ⟨rfl, hbu⟩
      exact hK _ _ hbu (getD_put_self a 17 _ (by show _ < a.tmps.size; omega))
    · obtain rfl := Option.some.inj ho
      have q17 : a.tmps.getD 17 undef = .agg #[.int .i64 k, .int .i64 t] := he _ (Array.mem_of_getElem? (i := 1) rfl) (by kernel_rfl) _ rfl
      obtain ⟨lo15, hi15, hh15, HO15⟩ := he _ (Array.mem_of_getElem? (i := 0) rfl) (by kernel_rfl) _ rfl
      have HO15 : EO u lo15 hi15 (a.tmps.getD 15 undef) d0 := HO15
      obtain ⟨mm15, em15⟩ : ∃ mm, a.tmps.getD 15 undef = mm := ⟨_, rfl⟩
      rw [em15] at HO15
      clear he
      go_simp
      refine (hsp _ _ _ _ HO15.er hh15 nb0).mono ?_
      rintro e1 u' ⟨rfl, hbu⟩
      exact hK _ _ hbu (getD_put_self a 18 _ (by show _ < a.tmps.size; omega))
    · obtain rfl := Option.some.inj ho
      have q18 : a.tmps.getD 18 undef = .bool r := he _ (Array.mem_of_getElem? (i := 0) rfl) (by kernel_rfl) _ rfl
      clear he
      go_simp
      exact hK _ _ (Below.refl _ _) (getD_put_self a 6 _ (by show _ < a.tmps.size; omega))
    · exact absurd ho (by simp)
  · intro a u1 hf hR0 hp
    have g1 : Below u2.heap.size u2 u1 := (Below.drew (Below.refl _ _)).trans hR0
    have m6 : a.tmps.getD 6 undef = .bool r := hp 5 _ rfl
    obtain ⟨o15, m15⟩ : ∃ o, a.tmps.getD 15 undef = o := ⟨_, rfl⟩
    have m14 : a.tmps.getD 14 undef = _ := hp 0 _ rfl
    have m16 : a.tmps.getD 16 undef = _ := hp 2 _ rfl
    have m17 : a.tmps.getD 17 undef = _ := hp 3 _ rfl
    have m18 : a.tmps.getD 18 undef = _ := hp 4 _ rfl
    obtain ⟨fq, ea, hfv⟩ := act_lit a 33 hf.size
    have md : a.defers = [] := hf.defers
    rw [md] at ea
    have m0 := hf.at_ 0 (by kernel_rfl)
    have m1 := hf.at_ 1 (by kernel_rfl)
    have m2 := hf.at_ 2 (by kernel_rfl)
    have m3 := hf.at_ 3 (by kernel_rfl)
    have m4 := hf.at_ 4 (by kernel_rfl)
    have m5 := hf.at_ 5 (by kernel_rfl)
    have m7 := hf.at_ 7 (by kernel_rfl)
    have m8 := hf.at_ 8 (by kernel_rfl)
    have m9 := hf.at_ 9 (by kernel_rfl)
    have m10 := hf.at_ 10 (by kernel_rfl)
    have m11 := hf.at_ 11 (by kernel_rfl)
    have m12 := hf.at_ 12 (by kernel_rfl)
    have m13 := hf.at_ 13 (by kernel_rfl)
    have m19 := hf.at_ 19 (by kernel_rfl)
    have m20 := hf.at_ 20 (by kernel_rfl)
    have m21 := hf.at_ 21 (by kernel_rfl)
    have m22 := hf.at_ 22 (by kernel_rfl)
    have m23 := hf.at_ 23 (by kernel_rfl)
    have m24 := hf.at_ 24 (by kernel_rfl)
    have m25 := hf.at_ 25 (by kernel_rfl)
    have m26 := hf.at_ 26 (by kernel_rfl)
    have m27 := hf.at_ 27 (by kernel_rfl)
    have m28 := hf.at_ 28 (by kernel_rfl)
    have m29 := hf.at_ 29 (by kernel_rfl)
    have m30 := hf.at_ 30 (by kernel_rfl)
    have m31 := hf.at_ 31 (by kernel_rfl)
    have m32 := hf.at_ 32 (by kernel_rfl)
    rw [← hfv] at m0 m1 m2 m3 m4 m5 m7 m8 m9 m10 m11 m12 m13 m19 m20 m21 m22 m23 m24 m25 m26 m27 m28 m29 m30 m31 m32 m14 m15 m16 m17 m18 m6
    simp only [Array.getD_eq_getD_getElem?, List.getElem?_toArray, List.getElem?_cons_succ, List.getElem?_cons_zero, Option.getD_some] at m0 m1 m2 m3 m4 m5 m7 m8 m9 m10 m11 m12 m13 m19 m20 m21 m22 m23 m24 m25 m26 m27 m28 m29 m30 m31 m32
    simp only [List.range, List.range.loop, List.map_cons, List.map_nil, m0, m1, m2, m3, m4, m5, m7, m8, m9, m10, m11, m12, m13, m19, m20, m21, m22, m23, m24, m25, m26, m27, m28, m29, m30, m31, m32, m14, m15, m16, m17, m18, m6] at ea
    subst ea
    clear m0 m1 m2 m3 m4 m5 m7 m8 m9 m10 m11 m12 m13 m19 m20 m21 m22 m23 m24 m25 m26 m27 m28 m29 m30 m31 m32 m14 m15 m16 m17 m18 m6 hfv md hf
    replace P0 := P0.under g1 (by omega)
    replace B0 := B0.below g1 (by omega)
    replace hb := hb.trans (g1.mono (by omega))
    have S2 := g1.size
    clear g1 hR0 hp
    obtain ⟨c0, c1, c2, c3, c4, _⟩ := id P0
    go_wp2_with fail
    clear c0 c1 c2 c3 c4
    refine (toExpr_any _ _ _ _ d0 (R0.out.below hb (Nat.le_refl _)) (by omega) nb0).mono ?_
    rintro e1 q ⟨m', rfl, O, g1⟩
    obtain ⟨px, cx, rfl⟩ := O.shape
    replace P0 := P0.under g1 (by omega)
    replace B0 := B0.below g1 (by omega)
    replace hb := hb.trans (g1.mono (by omega))
    have S3 := g1.size
    clear g1
    obtain ⟨q2, hq2, g2, X, s2⟩ : ∃ u19, q.alloc (.cells #[.int .i64 d0.k, .int .i64 d0.n, .int .i64 d0.ak, .int .i64 d0.at_, .slice px d0.kids.length cx] 31) = u19 ∧ Below q.heap.size q u19 ∧ Five u19 q.heap.size (.int .i64 d0.k) (.int .i64 d0.n) (.int .i64 d0.ak) (.int .i64 d0.at_) (.slice px d0.kids.length cx) ∧ u19.heap.size = q.heap.size + 1 :=
      ⟨_, rfl, (Below.refl _ _).alloc (Nat.le_refl _) _, five_new _ _ _ _ _ _ _, by simp⟩
    go_wp2_with fail
    try rw [hq2]
    clear hq2
    replace P0 := P0.under g2 (by omega)
    replace B0 := B0.below g2 (by omega)
    replace O := O.below g2 (Nat.le_refl _)
    replace hb := hb.trans (g2.mono (by omega))
    clear g2
    refine wp_region_dag (R := Grow) (Φ := fun i v u => match i with
        | 0 => v = .agg #[.int .i64 d0.k, .int .i64 d0.n, .int .i64 d0.ak, .int .i64 d0.at_, .slice px d0.kids.length cx]
        | 1 => v = .agg #[.int .i64 k, .int .i64 t]
        | 2 => v = .agg #[.int .i64 k, .int .i64 t]
        | 3 => v = .bool r
        | 4 => v = .bool r
        | _ => True) (by kernel_rfl) (by kernel_rfl) (by kernel_rfl) (Below.refl _ _) grow_trans ?_ ?_ ?_
    · intro i v u u' hr
      match i with
      | 0 | 1 | 2 | 3 | 4 | _ + 5 => exact fun h => h
    · intro i o ho a u hf hR0 he K' hK
      have hR : Grow q2 u := (Below.drew (Below.refl _ _)).trans hR0
      have hsz' : a.tmps.size = 33 := hf.size
      have hus := hR.size
      have hRw : Below w.heap.size w u := hb.trans (hR.mono (by omega))
      rcases i with _ | _ | _ | _ | _ | i
      · obtain rfl := Option.some.inj ho
        have q7 : a.tmps.getD 7 undef = .pointer (some ⟨q.heap.size, 0, none⟩) := hf.at_ 7 (by kernel_rfl)
        clear he
        obtain ⟨c0, c1, c2, c3, c4, _⟩ := X.under hR (by omega)
        go_simp
        exact hK _ _ (Below.refl _ _) (getD_put_self a 21 _ (by show _ < a.tmps.size; omega))
      · obtain rfl := Option.some.inj ho
        have q3 : a.tmps.getD 3 undef = .pointer (some ⟨w.heap.size + 1, 0, none⟩) := hf.at_ 3 (by kernel_rfl)
        clear he
        obtain ⟨c0, c1⟩ := B0.below hR (by omega)
        go_simp
        exact hK _ _ (Below.refl _ _) (getD_put_self a 22 _ (by show _ < a.tmps.size; omega))
      · obtain rfl := Option.some.inj ho
        have q22 : a.tmps.getD 22 undef = .agg #[.int .i64 k, .int .i64 t] := he _ (Array.mem_of_getElem? (i := 0) rfl) (by kernel_rfl) _ rfl
        clear he
        go_simp
        refine (toAddr_any _ ⟨k, t⟩).mono ?_
        rintro e1 u' ⟨rfl, hbu⟩
        exact hK _ _ hbu (getD_put_self a 23 _ (by show _ < a.tmps.size; omega))
      · obtain rfl := Option.some.inj ho
        have q21 : a.tmps.getD 21 undef = .agg #[.int .i64 d0.k, .int .i64 d0.n, .int .i64 d0.ak, .int .i64 d0.at_, .slice px d0.kids.length cx] := he _ (Array.mem_of_getElem? (i := 0) rfl) (by kernel_rfl) _ rfl
        have q23 : a.tmps.getD 23 undef = .agg #[.int .i64 k, .int .i64 t] := he _ (Array.mem_of_getElem? (i := 1) rfl) (by kernel_rfl) _ rfl
        clear he
        go_simp
        refine (him _ _ _ _ (O.below hR (by omega)).er (by omega) nb0).mono ?_
        rintro e1 u' ⟨rfl, hbu⟩
        exact hK _ _ hbu (getD_put_self a 24 _ (by show _ < a.tmps.size; omega))
      · obtain rfl := Option.some.inj ho
        have q24 : a.tmps.getD 24 undef = .bool r := he _ (Array.mem_of_getElem? (i := 0) rfl) (by kernel_rfl) _ rfl
        clear he
        go_simp
        exact hK _ _ (Below.refl _ _) (getD_put_self a 8 _ (by show _ < a.tmps.size; omega))
      · exact absurd ho (by simp)
    · intro a u1 hf hR0 hp
      have g1 : Below q2.heap.size q2 u1 := (Below.drew (Below.refl _ _)).trans hR0
      have m21 : a.tmps.getD 21 undef = .agg #[.int .i64 d0.k, .int .i64 d0.n, .int .i64 d0.ak, .int .i64 d0.at_, .slice px d0.kids.length cx] := hp 0 _ rfl
      have m22 : a.tmps.getD 22 undef = .agg #[.int .i64 k, .int .i64 t] := hp 1 _ rfl
      have m23 : a.tmps.getD 23 undef = .agg #[.int .i64 k, .int .i64 t] := hp 2 _ rfl
      have m24 : a.tmps.getD 24 undef = .bool r := hp 3 _ rfl
      have m8 : a.tmps.getD 8 undef = .bool r := hp 4 _ rfl
      obtain ⟨fq, ea, hfv⟩ := act_lit a 33 hf.size
      have md : a.defers = [] := hf.defers
      rw [md] at ea
      have m0 := hf.at_ 0 (by kernel_rfl)
      have m1 := hf.at_ 1 (by kernel_rfl)
      have m2 := hf.at_ 2 (by kernel_rfl)
      have m3 := hf.at_ 3 (by kernel_rfl)
      have m4 := hf.at_ 4 (by kernel_rfl)
      have m5 := hf.at_ 5 (by kernel_rfl)
      have m6 := hf.at_ 6 (by kernel_rfl)
      have m7 := hf.at_ 7 (by kernel_rfl)
      have m9 := hf.at_ 9 (by kernel_rfl)
      have m10 := hf.at_ 10 (by kernel_rfl)
      have m11 := hf.at_ 11 (by kernel_rfl)
      have m12 := hf.at_ 12 (by kernel_rfl)
      have m13 := hf.at_ 13 (by kernel_rfl)
      have m14 := hf.at_ 14 (by kernel_rfl)
      have m15 := hf.at_ 15 (by kernel_rfl)
      have m16 := hf.at_ 16 (by kernel_rfl)
      have m17 := hf.at_ 17 (by kernel_rfl)
      have m18 := hf.at_ 18 (by kernel_rfl)
      have m19 := hf.at_ 19 (by kernel_rfl)
      have m20 := hf.at_ 20 (by kernel_rfl)
      have m25 := hf.at_ 25 (by kernel_rfl)
      have m26 := hf.at_ 26 (by kernel_rfl)
      have m27 := hf.at_ 27 (by kernel_rfl)
      have m28 := hf.at_ 28 (by kernel_rfl)
      have m29 := hf.at_ 29 (by kernel_rfl)
      have m30 := hf.at_ 30 (by kernel_rfl)
      have m31 := hf.at_ 31 (by kernel_rfl)
      have m32 := hf.at_ 32 (by kernel_rfl)
      rw [← hfv] at m0 m1 m2 m3 m4 m5 m6 m7 m9 m10 m11 m12 m13 m14 m15 m16 m17 m18 m19 m20 m25 m26 m27 m28 m29 m30 m31 m32 m21 m22 m23 m24 m8
      simp only [Array.getD_eq_getD_getElem?, List.getElem?_toArray, List.getElem?_cons_succ, List.getElem?_cons_zero, Option.getD_some] at m0 m1 m2 m3 m4 m5 m6 m7 m9 m10 m11 m12 m13 m14 m15 m16 m17 m18 m19 m20 m25 m26 m27 m28 m29 m30 m31 m32
      simp only [List.range, List.range.loop, List.map_cons, List.map_nil, m0, m1, m2, m3, m4, m5, m6, m7, m9, m10, m11, m12, m13, m14, m15, m16, m17, m18, m19, m20, m25, m26, m27, m28, m29, m30, m31, m32, m21, m22, m23, m24, m8] at ea
      subst ea
      clear m0 m1 m2 m3 m4 m5 m6 m7 m9 m10 m11 m12 m13 m14 m15 m16 m17 m18 m19 m20 m25 m26 m27 m28 m29 m30 m31 m32 m21 m22 m23 m24 m8 hfv md hf
      replace P0 := P0.under g1 (by omega)
      replace X := X.under g1 (by omega)
      replace O := O.below g1 (by omega)
      replace hb := hb.trans (g1.mono (by omega))
      have S4 := g1.size
      clear g1 hR0 hp
      go_wp2_with fail
      refine wp_region_dag (R := Grow) (Φ := fun i v u => match i with
          | 0 => v = .agg #[.int .i64 d0.k, .int .i64 d0.n, .int .i64 d0.ak, .int .i64 d0.at_, .slice px d0.kids.length cx]
          | 1 => v = .agg #[.int .i64 d0.k, .int .i64 d0.n, .int .i64 d0.ak, .int .i64 d0.at_, .slice pa d0.kids.length ca]
          | 2 => ∃ lo' hi', hi' ≤ u.heap.size ∧ EO u lo' hi' v d0
          | 3 => v = .bool true
          | 4 => v = .bool false
          | _ => True) (by kernel_rfl) (by kernel_rfl) (by kernel_rfl) (Below.refl _ _) grow_trans ?_ ?_ ?_
      · intro i v u u' hr
        match i with
        | 0 | 1 | 3 | 4 | _ + 5 => exact fun h => h
        | 2 => exact fun ⟨lo', hi', h1, h2⟩ => ⟨lo', hi', Nat.le_trans h1 hr.size, h2.below hr h1⟩
      · intro i o ho a u hf hR0 he K' hK
        have hR : Grow u1 u := (Below.drew (Below.refl _ _)).trans hR0
        have hsz' : a.tmps.size = 33 := hf.size
        have hus := hR.size
        have hRw : Below w.heap.size w u := hb.trans (hR.mono (by omega))
        rcases i with _ | _ | _ | _ | _ | i
        · obtain rfl := Option.some.inj ho
          have q7 : a.tmps.getD 7 undef = .pointer (some ⟨q.heap.size, 0, none⟩) := hf.at_ 7 (by kernel_rfl)
          clear he
          obtain ⟨c0, c1, c2, c3, c4, _⟩ := X.under hR (by omega)
          go_simp
          exact hK _ _ (Below.refl _ _) (getD_put_self a 28 _ (by show _ < a.tmps.size; omega))
        · obtain rfl := Option.some.inj ho
          have q2 : a.tmps.getD 2 undef = .pointer (some ⟨w.heap.size, 0, none⟩) := hf.at_ 2 (by kernel_rfl)
          clear he
          obtain ⟨c0, c1, c2, c3, c4, _⟩ := P0.under hR (by omega)
          go_simp
          exact hK _ _ (Below.refl _ _) (getD_put_self a 29 _ (by show _ < a.tmps.size; omega))
        · obtain rfl := Option.some.inj ho
          have q29 : a.tmps.getD 29 undef = .agg #[.int .i64 d0.k, .int .i64 d0.n, .int .i64 d0.ak, .int .i64 d0.at_, .slice pa d0.kids.length ca] := he _ (Array.mem_of_getElem? (i := 0) rfl) (by kernel_rfl) _ rfl
          clear he
          go_simp
          refine (toExpr_any _ _ _ _ d0 (R0.out.below hRw (Nat.le_refl _)) (by omega) nb0).mono ?_
          rintro e1 u' ⟨m', rfl, HO, hbu⟩
          exact hK _ _ hbu ⟨_, _, Nat.le_refl _, by show EO _ _ _ ((a.put (some 30) m').tmps.getD 30 undef) d0; rw [getD_put_self a 30 _ (by show _ < a.tmps.size; omega)]; exact HO⟩
        · obtain rfl := Option.some.inj ho
          have q28 : a.tmps.getD 28 undef = .agg #[.int .i64 d0.k, .int .i64 d0.n, .int .i64 d0.ak, .int .i64 d0.at_, .slice px d0.kids.length cx] := he _ (Array.mem_of_getElem? (i := 0) rfl) (by kernel_rfl) _ rfl
          obtain ⟨lo30, hi30, hh30, HO30⟩ := he _ (Array.mem_of_getElem? (i := 1) rfl) (by kernel_rfl) _ rfl
          have HO30 : EO u lo30 hi30 (a.tmps.getD 30 undef) d0 := HO30
          obtain ⟨mm30, em30⟩ : ∃ mm, a.tmps.getD 30 undef = mm := ⟨_, rfl⟩
          rw [em30] at HO30
          clear he
          go_simp
          refine (eqExpr_any _ _ _ _ _ _ _ d0 d0 (O.below hR (by omega)).er HO30.er (by omega) hh30).mono ?_
          rintro e1 u' ⟨rr, rfl, hrr, hbu⟩
          obtain rfl : rr = true := hrr.mpr rfl; exact hK _ _ hbu (getD_put_self a 31 _ (by show _ < a.tmps.size; omega))
        · obtain rfl := Option.some.inj ho
          have q31 : a.tmps.getD 31 undef = .bool true := he _ (Array.mem_of_getElem? (i := 0) rfl) (by kernel_rfl) _ rfl
          clear he
          go_simp
          exact hK _ _ (Below.refl _ _) (getD_put_self a 32 _ (by show _ < a.tmps.size; omega))
        · exact absurd ho (by simp)
      · intro a u9 hf hR0 hp
        have g9 : Below u1.heap.size u1 u9 := (Below.drew (Below.refl _ _)).trans hR0
        have m32 : a.tmps.getD 32 undef = .bool false := hp 4 _ rfl
        obtain ⟨o30, m30⟩ : ∃ o, a.tmps.getD 30 undef = o := ⟨_, rfl⟩
        have m28 : a.tmps.getD 28 undef = _ := hp 0 _ rfl
        have m29 : a.tmps.getD 29 undef = _ := hp 1 _ rfl
        have m31 : a.tmps.getD 31 undef = _ := hp 3 _ rfl
        obtain ⟨fq, ea, hfv⟩ := act_lit a 33 hf.size
        have md : a.defers = [] := hf.defers
        rw [md] at ea
        have m0 := hf.at_ 0 (by kernel_rfl)
        have m1 := hf.at_ 1 (by kernel_rfl)
        have m2 := hf.at_ 2 (by kernel_rfl)
        have m3 := hf.at_ 3 (by kernel_rfl)
        have m4 := hf.at_ 4 (by kernel_rfl)
        have m5 := hf.at_ 5 (by kernel_rfl)
        have m6 := hf.at_ 6 (by kernel_rfl)
        have m7 := hf.at_ 7 (by kernel_rfl)
        have m8 := hf.at_ 8 (by kernel_rfl)
        have m9 := hf.at_ 9 (by kernel_rfl)
        have m10 := hf.at_ 10 (by kernel_rfl)
        have m11 := hf.at_ 11 (by kernel_rfl)
        have m12 := hf.at_ 12 (by kernel_rfl)
        have m13 := hf.at_ 13 (by kernel_rfl)
        have m14 := hf.at_ 14 (by kernel_rfl)
        have m15 := hf.at_ 15 (by kernel_rfl)
        have m16 := hf.at_ 16 (by kernel_rfl)
        have m17 := hf.at_ 17 (by kernel_rfl)
        have m18 := hf.at_ 18 (by kernel_rfl)
        have m19 := hf.at_ 19 (by kernel_rfl)
        have m20 := hf.at_ 20 (by kernel_rfl)
        have m21 := hf.at_ 21 (by kernel_rfl)
        have m22 := hf.at_ 22 (by kernel_rfl)
        have m23 := hf.at_ 23 (by kernel_rfl)
        have m24 := hf.at_ 24 (by kernel_rfl)
        have m25 := hf.at_ 25 (by kernel_rfl)
        have m26 := hf.at_ 26 (by kernel_rfl)
        have m27 := hf.at_ 27 (by kernel_rfl)
        rw [← hfv] at m0 m1 m2 m3 m4 m5 m6 m7 m8 m9 m10 m11 m12 m13 m14 m15 m16 m17 m18 m19 m20 m21 m22 m23 m24 m25 m26 m27 m28 m29 m30 m31 m32
        simp only [Array.getD_eq_getD_getElem?, List.getElem?_toArray, List.getElem?_cons_succ, List.getElem?_cons_zero, Option.getD_some] at m0 m1 m2 m3 m4 m5 m6 m7 m8 m9 m10 m11 m12 m13 m14 m15 m16 m17 m18 m19 m20 m21 m22 m23 m24 m25 m26 m27
        simp only [List.range, List.range.loop, List.map_cons, List.map_nil, m0, m1, m2, m3, m4, m5, m6, m7, m8, m9, m10, m11, m12, m13, m14, m15, m16, m17, m18, m19, m20, m21, m22, m23, m24, m25, m26, m27, m28, m29, m30, m31, m32] at ea
        subst ea
        clear m0 m1 m2 m3 m4 m5 m6 m7 m8 m9 m10 m11 m12 m13 m14 m15 m16 m17 m18 m19 m20 m21 m22 m23 m24 m25 m26 m27 m28 m29 m30 m31 m32 hfv md hf
        have hbz := hb.trans (g9.mono (by omega))
        clear g9 hR0 hp P0 X O
        go_wp2
        go_ret
        exact ⟨rfl, hbz⟩
end Go.Proofs.Ytkeockippmmneaa
