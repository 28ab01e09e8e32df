/-
  FnExactExprOf, walked at every argument, given what the program's ExprOf answers. (Written by our generator exactgen.py.)
-/
import Derived.Test.YtdhmioelmcdflaaLawKit2
import Derived.Test.YtdhmioelmcdflaaExprOf2
namespace Go.Proofs.Ytdhmioelmcdflaa
open Go.ChangeShapes Go.WideShapes Go.ChangeAt Go.RowKit
set_option linter.unusedVariables false
set_option maxRecDepth 100000

set_option maxRecDepth 100000 in
set_option maxHeartbeats 8000000 in
theorem exactExprOf_walk
    (impl : ∀ (w : World) (m0 : Value) (lo0 hi0 : Nat) (d0 : ExprD) (m1 : Value) (lo1 hi1 : Nat) (d1 : MemD), ER w lo0 hi0 m0 d0 → hi0 ≤ w.heap.size → manyL d0.kids ≤ 1048576 → MI w lo1 hi1 m1 d1 → hi1 ≤ w.heap.size → d1.many ≤ 1048576 → Calls Try.prog 11 #[m0, m1] w fun e w' => e = .returned (.int .i64 (exprOf d0 d1)) ∧ Below w.heap.size w w')
    (w : World) (v0 : Value) (d0 : ExprD) (r0 : ER w 0 w.heap.size v0 d0) (v1 : Value) (d1 : MemD) (r1 : MI w 0 w.heap.size v1 d1) :
    Calls Try.prog 8 #[v0, v1] w fun e w' => e = .returned (.bool true) ∧ Below w.heap.size w w' := by
  obtain ⟨paA0, caA0, rfl⟩ := r0.shape
  have R0 : Hid (ER w 0 w.heap.size (.agg #[.int .i64 d0.k, .int .i64 d0.n, .int .i64 d0.ak, .int .i64 d0.at_, .slice paA0 d0.kids.length caA0]) d0) := r0
  clear r0
  obtain ⟨paA1, caA1, pbA1, cbA1, pcA1, ccA1, rfl⟩ := r1.shape
  have R1 : Hid (MI w 0 w.heap.size (.agg #[.slice paA1 d1.i.length caA1, .slice pbA1 d1.o.length cbA1, .slice pcA1 d1.v.length ccA1]) d1) := r1
  clear r1
  go_enter Try.func8, Try.ntmps8
  go_wp2_with fail
  obtain ⟨w0, ew0⟩ : ∃ w0, w.alloc (.cells #[.int .i64 d0.k, .int .i64 d0.n, .int .i64 d0.ak, .int .i64 d0.at_, .slice paA0 d0.kids.length caA0] 46) = w0 := ⟨_, rfl⟩
  have sw0 : w0.heap.size = w.heap.size + 1 := by rw [← ew0]; simp
  have gw0 : Below w.heap.size w w0 := by rw [← ew0]; exact (Below.refl _ _).alloc (Nat.le_refl _) _
  have P0 := box5_new w (.int .i64 d0.k) (.int .i64 d0.n) (.int .i64 d0.ak) (.int .i64 d0.at_) (.slice paA0 d0.kids.length caA0) 46
  rw [ew0] at P0 ⊢
  clear ew0
  obtain ⟨w1, ew1⟩ : ∃ w1, w0.alloc (.cells #[.slice paA1 d1.i.length caA1, .slice pbA1 d1.o.length cbA1, .slice pcA1 d1.v.length ccA1] 53) = w1 := ⟨_, rfl⟩
  have sw1 : w1.heap.size = w0.heap.size + 1 := by rw [← ew1]; simp
  have gw1 : Below w0.heap.size w0 w1 := by rw [← ew1]; exact (Below.refl _ _).alloc (Nat.le_refl _) _
  have P1 := box3_new w0 (.slice paA1 d1.i.length caA1) (.slice pbA1 d1.o.length cbA1) (.slice pcA1 d1.v.length ccA1) 53
  rw [ew1] at P1 ⊢
  clear ew1
  rw [sw0] at P1
  have P0 := P0.below gw1 (by omega)
  have hb := below_two gw0 gw1
  clear gw0 gw1
  refine (szExpr_any _ _ _ _ d0 (1048576) (R0.out.below hb (Nat.le_refl _)) (by omega) (by omega) (by omega)).mono ?_
  by_cases big0 : (1048576 : Int) < (manyL d0.kids : Int)
  · rw [if_pos big0]
    rintro e1 q1 ⟨rfl, g1⟩
    have hbq := hb.trans (g1.mono (by omega))
    clear g1 P0 P1
    go_wp2
    go_ret
    exact ⟨rfl, hbq⟩
  rw [if_neg big0]
  rintro e1 u1 ⟨rfl, g1⟩
  have P0_2 := P0.below g1 (by omega)
  have P1_2 := P1.below g1 (by omega)
  have hb_2 := hb.trans (g1.mono (by omega))
  have sz_2 := g1.size
  clear P0 P1 hb g1
  have np0 : ¬ ((1048576 - (manyL d0.kids : Int) : Int) < 0) := by omega
  obtain ⟨z3, z4, z5⟩ := id P1_2
  go_wp2_with fail
  clear z3 z4 z5
  refine (szMem_any _ _ _ _ d1 (1048576 - (manyL d0.kids : Int)) (R1.out.below hb_2 (Nat.le_refl _)) (by omega) (by omega) (by omega)).mono ?_
  by_cases big1 : (1048576 - (manyL d0.kids : Int) : Int) < (d1.many : Int)
  · rw [if_pos big1]
    rintro e1 q1 ⟨rfl, g1⟩
    have hbq := hb_2.trans (g1.mono (by omega))
    clear g1 P0_2 P1_2
    go_wp2
    go_ret
    exact ⟨rfl, hbq⟩
  rw [if_neg big1]
  rintro e1 u6 ⟨rfl, g6⟩
  have P0_7 := P0_2.below g6 (by omega)
  have P1_7 := P1_2.below g6 (by omega)
  have hb_7 := hb_2.trans (g6.mono (by omega))
  have sz_7 := g6.size
  clear P0_2 P1_2 hb_2 g6
  have np1 : ¬ ((1048576 - (manyL d0.kids : Int) - (d1.many : Int) : Int) < 0) := by omega
  have nb0 : manyL d0.kids ≤ 1048576 := by omega
  have nb1 : d1.many ≤ 1048576 := by omega
  go_wp2_with fail
  refine wp_region_dag (R := Grow) (Φ := fun i v u => match i with
      | 0 => v = .agg #[.int .i64 d0.k, .int .i64 d0.n, .int .i64 d0.ak, .int .i64 d0.at_, .slice paA0 d0.kids.length caA0]
      | 1 => ∃ lo' hi', hi' ≤ u.heap.size ∧ EO u lo' hi' v d0
      | 2 => v = .agg #[.slice paA1 d1.i.length caA1, .slice pbA1 d1.o.length cbA1, .slice pcA1 d1.v.length ccA1]
      | 3 => ∃ lo' hi', hi' ≤ u.heap.size ∧ MO u lo' hi' v d1
      | 4 => v = .int .i64 (exprOf d0 d1)
      | 5 => v = .int .i64 (exprOf d0 d1)
      | _ => True) (by kernel_rfl) (by kernel_rfl) (by kernel_rfl) (Below.refl _ _) grow_trans ?_ ?_ ?_
  · intro i v u u' hr
    match i with
    | 0 | 2 | 4 | 5 | _ + 6 => exact fun h => h
    | 1 => exact fun ⟨lo', hi', h1, h2⟩ => ⟨lo', hi', Nat.le_trans h1 hr.size, h2.below hr h1⟩
    | 3 => exact fun ⟨lo', hi', h1, h2⟩ => ⟨lo', hi', Nat.le_trans h1 hr.size, h2.below hr h1⟩
  · intro i o ho a u hf hR0 he K' hK
    have hR : Grow u6 u := (Below.drew (Below.refl _ _)).trans hR0
    have hRw : Below w.heap.size w u := hb_7.trans (hR.mono (by omega))
    have hsz' : a.tmps.size = 45 := hf.size
    have hus : u6.heap.size ≤ u.heap.size := hR.size
    rcases i with _ | _ | _ | _ | _ | _ | i
    · obtain rfl := Option.some.inj ho
      clear he
      have q1 : a.tmps.getD 2 undef = .pointer (some ⟨w.heap.size, 0, none⟩) := hf.at_ 2 (by kernel_rfl)
      obtain ⟨c0, c1, c2, c3, c4⟩ := P0_7.below hR (by omega)
      go_simp
      exact hK _ _ (Below.refl _ _) (getD_put_self a 20 _ (by show _ < a.tmps.size; omega))
    · obtain rfl := Option.some.inj ho
      have q1 : a.tmps.getD 20 undef = .agg #[.int .i64 d0.k, .int .i64 d0.n, .int .i64 d0.ak, .int .i64 d0.at_, .slice paA0 d0.kids.length caA0] := he _ (Array.mem_of_getElem? (i := 0) rfl) (by kernel_rfl) _ rfl
      clear he
      go_simp
      refine (toExpr_any _ _ _ _ d0 (R0.out.below hRw (Nat.le_refl _)) (by omega) nb0).mono ?_
      rintro e1 u' ⟨m', rfl, HO, hbu⟩
      exact hK _ _ hbu ⟨_, _, Nat.le_refl _, by show EO _ _ _ ((a.put (some 21) m').tmps.getD 21 undef) d0; rw [getD_put_self a 21 _ (by show _ < a.tmps.size; omega)]; exact HO⟩
    · obtain rfl := Option.some.inj ho
      clear he
      have q1 : a.tmps.getD 3 undef = .pointer (some ⟨w.heap.size + 1, 0, none⟩) := hf.at_ 3 (by kernel_rfl)
      obtain ⟨c0, c1, c2⟩ := P1_7.below hR (by omega)
      go_simp
      exact hK _ _ (Below.refl _ _) (getD_put_self a 22 _ (by show _ < a.tmps.size; omega))
    · obtain rfl := Option.some.inj ho
      have q1 : a.tmps.getD 22 undef = .agg #[.slice paA1 d1.i.length caA1, .slice pbA1 d1.o.length cbA1, .slice pcA1 d1.v.length ccA1] := he _ (Array.mem_of_getElem? (i := 0) rfl) (by kernel_rfl) _ rfl
      clear he
      go_simp
      refine (toMem_any _ _ _ _ d1 (R1.out.below hRw (Nat.le_refl _)) (by omega) nb1).mono ?_
      rintro e1 u' ⟨m', rfl, HO, hbu⟩
      exact hK _ _ hbu ⟨_, _, Nat.le_refl _, by show MO _ _ _ ((a.put (some 23) m').tmps.getD 23 undef) d1; rw [getD_put_self a 23 _ (by show _ < a.tmps.size; omega)]; exact HO⟩
    · obtain rfl := Option.some.inj ho
      obtain ⟨lo21, hi21, hh21, HO21⟩ := he _ (Array.mem_of_getElem? (i := 0) rfl) (by kernel_rfl) _ rfl
      have HO21 : EO u lo21 hi21 (a.tmps.getD 21 undef) d0 := HO21
      obtain ⟨mm21, em21⟩ : ∃ mm, a.tmps.getD 21 undef = mm := ⟨_, rfl⟩
      rw [em21] at HO21
      obtain ⟨lo23, hi23, hh23, HO23⟩ := he _ (Array.mem_of_getElem? (i := 1) rfl) (by kernel_rfl) _ rfl
      have HO23 : MO u lo23 hi23 (a.tmps.getD 23 undef) d1 := HO23
      obtain ⟨mm23, em23⟩ : ∃ mm, a.tmps.getD 23 undef = mm := ⟨_, rfl⟩
      rw [em23] at HO23
      clear he
      go_simp
      refine (sExprOf_any _ _ _ _ _ _ _ d0 d1 HO21.er HO23.mi hh21 hh23 nb0).mono ?_
      rintro e1 u' ⟨rfl, hbu⟩
      exact hK _ _ hbu (getD_put_self a 24 _ (by show _ < a.tmps.size; omega))
    · obtain rfl := Option.some.inj ho
      have q1 : a.tmps.getD 24 undef = .int .i64 (exprOf d0 d1) := he _ (Array.mem_of_getElem? (i := 0) rfl) (by kernel_rfl) _ rfl
      clear he
      go_simp
      exact hK _ _ (Below.refl _ _) (getD_put_self a 6 _ (by show _ < a.tmps.size; omega))
    · exact absurd ho (by simp)
  · intro a u8 hf hR0 hp
    have g8 : Grow u6 u8 := (Below.drew (Below.refl _ _)).trans hR0
    have md : a.defers = [] := hf.defers
    have m2 : a.tmps.getD 2 undef = .pointer (some ⟨w.heap.size, 0, none⟩) := hf.at_ 2 (by kernel_rfl)
    have m3 : a.tmps.getD 3 undef = .pointer (some ⟨w.heap.size + 1, 0, none⟩) := hf.at_ 3 (by kernel_rfl)
    have m6 : a.tmps.getD 6 undef = .int .i64 (exprOf d0 d1) := hp 5 _ rfl
    obtain ⟨f, ea, hfv⟩ := act_lit a 45 hf.size
    rw [← hfv] at m2 m3 m6
    rw [md] at ea
    simp only [List.range, List.range.loop, List.map_cons, List.map_nil, m2, m3, m6] at ea
    subst ea
    clear hfv hf md hp hR0
    have P0_9 := P0_7.below g8 (by omega)
    have P1_9 := P1_7.below g8 (by omega)
    have hb_9 := hb_7.trans (g8.mono (by omega))
    have sz_9 := g8.size
    clear P0_7 P1_7 hb_7 g8
    obtain ⟨z10, z11, z12, z13, z14⟩ := id P0_9
    go_wp2_with fail
    clear z10 z11 z12 z13 z14
    refine (toExpr_any _ _ _ _ d0 (R0.out.below hb_9 (Nat.le_refl _)) (by omega) nb0).mono ?_
    rintro e1 u15 ⟨m', rfl, O15, g15⟩
    obtain ⟨paT15, caT15, rfl⟩ := O15.shape
    have P0_16 := P0_9.below g15 (by omega)
    have P1_16 := P1_9.below g15 (by omega)
    have hb_16 := hb_9.trans (g15.mono (by omega))
    have sz_16 := g15.size
    clear P0_9 P1_9 hb_9 g15
    have lt17 : w.heap.size + 1 < u15.heap.size := by omega
    obtain ⟨z18, z19, z20⟩ := id P1_16
    go_wp2_with fail
    clear lt17 z18 z19 z20
    obtain ⟨u21, hu21, g21, Y21, s21⟩ : ∃ u21, u15.alloc (.cells #[.int .i64 d0.k, .int .i64 d0.n, .int .i64 d0.ak, .int .i64 d0.at_, .slice paT15 d0.kids.length caT15] 27) = u21 ∧ Below u15.heap.size u15 u21 ∧ Box5 u21 u15.heap.size (.int .i64 d0.k) (.int .i64 d0.n) (.int .i64 d0.ak) (.int .i64 d0.at_) (.slice paT15 d0.kids.length caT15) ∧ u21.heap.size = u15.heap.size + 1 :=
      ⟨_, rfl, (Below.refl _ _).alloc (Nat.le_refl _) _, box5_new _ _ _ _ _ _ _, by simp⟩
    rw [hu21]
    clear hu21
    have P0_22 := P0_16.below g21 (by omega)
    have P1_22 := P1_16.below g21 (by omega)
    have O15_22 := O15.below g21 (by omega)
    have hb_22 := hb_16.trans (g21.mono (by omega))
    have sz_22 := g21.size
    clear P0_16 P1_16 O15 hb_16 g21
    refine (toMem_any _ _ _ _ d1 (R1.out.below hb_22 (Nat.le_refl _)) (by omega) nb1).mono ?_
    rintro e1 u23 ⟨m', rfl, O23, g23⟩
    obtain ⟨paT23, caT23, pbT23, cbT23, pcT23, ccT23, rfl⟩ := O23.mi.shape
    have P0_24 := P0_22.below g23 (by omega)
    have P1_24 := P1_22.below g23 (by omega)
    have O15_24 := O15_22.below g23 (by omega)
    have X0_24 := Y21.below g23 (by omega)
    have hb_24 := hb_22.trans (g23.mono (by omega))
    have sz_24 := g23.size
    clear P0_22 P1_22 O15_22 Y21 hb_22 g23
    have lt25 : u15.heap.size < u23.heap.size := by omega
    obtain ⟨z26, z27, z28, z29, z30⟩ := id X0_24
    go_wp2_with fail
    clear lt25 z26 z27 z28 z29 z30
    obtain ⟨u31, hu31, g31, Y31, s31⟩ : ∃ u31, u23.alloc (.cells #[.slice paT23 d1.i.length caT23, .slice pbT23 d1.o.length cbT23, .slice pcT23 d1.v.length ccT23] 30) = u31 ∧ Below u23.heap.size u23 u31 ∧ Box3 u31 u23.heap.size (.slice paT23 d1.i.length caT23) (.slice pbT23 d1.o.length cbT23) (.slice pcT23 d1.v.length ccT23) ∧ u31.heap.size = u23.heap.size + 1 :=
      ⟨_, rfl, (Below.refl _ _).alloc (Nat.le_refl _) _, box3_new _ _ _ _ _, by simp⟩
    rw [hu31]
    clear hu31
    have P0_32 := P0_24.below g31 (by omega)
    have P1_32 := P1_24.below g31 (by omega)
    have O15_32 := O15_24.below g31 (by omega)
    have X0_32 := X0_24.below g31 (by omega)
    have O23_32 := O23.below g31 (by omega)
    have hb_32 := hb_24.trans (g31.mono (by omega))
    have sz_32 := g31.size
    clear P0_24 P1_24 O15_24 X0_24 O23 hb_24 g31
    refine (impl _ _ _ _ d0 _ _ _ d1 O15_32.er (by omega) nb0 O23_32.mi (by omega) nb1).mono ?_
    rintro e1 u33 ⟨rfl, g33⟩
    have P0_34 := P0_32.below g33 (by omega)
    have P1_34 := P1_32.below g33 (by omega)
    have O15_34 := O15_32.below g33 (by omega)
    have X0_34 := X0_32.below g33 (by omega)
    have O23_34 := O23_32.below g33 (by omega)
    have X1_34 := Y31.below g33 (by omega)
    have hb_34 := hb_32.trans (g33.mono (by omega))
    have sz_34 := g33.size
    clear P0_32 P1_32 O15_32 X0_32 O23_32 Y31 hb_32 g33
    go_wp2_with fail
    refine wp_region_dag (R := Grow) (Φ := fun i v u => match i with
        | 0 => v = .agg #[.int .i64 d0.k, .int .i64 d0.n, .int .i64 d0.ak, .int .i64 d0.at_, .slice paT15 d0.kids.length caT15]
        | 1 => v = .agg #[.int .i64 d0.k, .int .i64 d0.n, .int .i64 d0.ak, .int .i64 d0.at_, .slice paA0 d0.kids.length caA0]
        | 2 => ∃ lo' hi', hi' ≤ u.heap.size ∧ EO u lo' hi' v d0
        | 3 => v = .bool true
        | 4 => v = .bool false
        | _ => True) (by kernel_rfl) (by kernel_rfl) (by kernel_rfl) (Below.refl _ _) grow_trans ?_ ?_ ?_
    · intro i v u u' hr
      match i with
      | 0 | 1 | 3 | 4 | _ + 5 => exact fun h => h
      | 2 => exact fun ⟨lo', hi', h1, h2⟩ => ⟨lo', hi', Nat.le_trans h1 hr.size, h2.below hr h1⟩
    · intro i o ho a u hf hR0 he K' hK
      have hR : Grow u33 u := (Below.drew (Below.refl _ _)).trans hR0
      have hRw : Below w.heap.size w u := hb_34.trans (hR.mono (by omega))
      have hsz' : a.tmps.size = 45 := hf.size
      have hus : u33.heap.size ≤ u.heap.size := hR.size
      rcases i with _ | _ | _ | _ | _ | i
      · obtain rfl := Option.some.inj ho
        clear he
        have q1 : a.tmps.getD 7 undef = .pointer (some ⟨u15.heap.size, 0, none⟩) := hf.at_ 7 (by kernel_rfl)
        obtain ⟨c0, c1, c2, c3, c4⟩ := X0_34.below hR (by omega)
        go_simp
        exact hK _ _ (Below.refl _ _) (getD_put_self a 35 _ (by show _ < a.tmps.size; omega))
      · obtain rfl := Option.some.inj ho
        clear he
        have q1 : a.tmps.getD 2 undef = .pointer (some ⟨w.heap.size, 0, none⟩) := hf.at_ 2 (by kernel_rfl)
        obtain ⟨c0, c1, c2, c3, c4⟩ := P0_34.below hR (by omega)
        go_simp
        exact hK _ _ (Below.refl _ _) (getD_put_self a 36 _ (by show _ < a.tmps.size; omega))
      · obtain rfl := Option.some.inj ho
        have q1 : a.tmps.getD 36 undef = .agg #[.int .i64 d0.k, .int .i64 d0.n, .int .i64 d0.ak, .int .i64 d0.at_, .slice paA0 d0.kids.length caA0] := he _ (Array.mem_of_getElem? (i := 0) rfl) (by kernel_rfl) _ rfl
        clear he
        go_simp
        refine (toExpr_any _ _ _ _ d0 (R0.out.below hRw (Nat.le_refl _)) (by omega) nb0).mono ?_
        rintro e1 u' ⟨m', rfl, HO, hbu⟩
        exact hK _ _ hbu ⟨_, _, Nat.le_refl _, by show EO _ _ _ ((a.put (some 37) m').tmps.getD 37 undef) d0; rw [getD_put_self a 37 _ (by show _ < a.tmps.size; omega)]; exact HO⟩
      · obtain rfl := Option.some.inj ho
        have q35 : a.tmps.getD 35 undef = .agg #[.int .i64 d0.k, .int .i64 d0.n, .int .i64 d0.ak, .int .i64 d0.at_, .slice paT15 d0.kids.length caT15] := he _ (Array.mem_of_getElem? (i := 0) rfl) (by kernel_rfl) _ rfl
        obtain ⟨lo37, hi37, hh37, HO37⟩ := he _ (Array.mem_of_getElem? (i := 1) rfl) (by kernel_rfl) _ rfl
        have HO37 : EO u lo37 hi37 (a.tmps.getD 37 undef) d0 := HO37
        obtain ⟨mm37, em37⟩ : ∃ mm, a.tmps.getD 37 undef = mm := ⟨_, rfl⟩
        rw [em37] at HO37
        clear he
        go_simp
        refine (eqExpr_any _ _ _ _ _ _ _ d0 d0 (O15_34.below hR (by omega)).er HO37.er (by omega) hh37).mono ?_
        rintro e1 u' ⟨rr, rfl, hrr, hbu⟩
        obtain rfl : rr = true := hrr.mpr rfl
        exact hK _ _ hbu (getD_put_self a 38 _ (by show _ < a.tmps.size; omega))
      · obtain rfl := Option.some.inj ho
        have q1 : a.tmps.getD 38 undef = .bool true := he _ (Array.mem_of_getElem? (i := 0) rfl) (by kernel_rfl) _ rfl
        clear he
        go_simp
        exact hK _ _ (Below.refl _ _) (getD_put_self a 39 _ (by show _ < a.tmps.size; omega))
      · exact absurd ho (by simp)
    · intro a u35 hf hR0 hp
      have g35 : Grow u33 u35 := (Below.drew (Below.refl _ _)).trans hR0
      have md : a.defers = [] := hf.defers
      have m3 : a.tmps.getD 3 undef = .pointer (some ⟨w.heap.size + 1, 0, none⟩) := hf.at_ 3 (by kernel_rfl)
      have m8 : a.tmps.getD 8 undef = .pointer (some ⟨u23.heap.size, 0, none⟩) := hf.at_ 8 (by kernel_rfl)
      have m39 : a.tmps.getD 39 undef = .bool false := hp 4 _ rfl
      obtain ⟨f, ea, hfv⟩ := act_lit a 45 hf.size
      rw [← hfv] at m3 m8 m39
      rw [md] at ea
      simp only [List.range, List.range.loop, List.map_cons, List.map_nil, m3, m8, m39] at ea
      subst ea
      clear hfv hf md hp hR0
      have P0_36 := P0_34.below g35 (by omega)
      have P1_36 := P1_34.below g35 (by omega)
      have O15_36 := O15_34.below g35 (by omega)
      have X0_36 := X0_34.below g35 (by omega)
      have O23_36 := O23_34.below g35 (by omega)
      have X1_36 := X1_34.below g35 (by omega)
      have hb_36 := hb_34.trans (g35.mono (by omega))
      have sz_36 := g35.size
      clear P0_34 P1_34 O15_34 X0_34 O23_34 X1_34 hb_34 g35
      go_wp2_with fail
      refine wp_region_dag (R := Grow) (Φ := fun i v u => match i with
          | 0 => v = .agg #[.slice paT23 d1.i.length caT23, .slice pbT23 d1.o.length cbT23, .slice pcT23 d1.v.length ccT23]
          | 1 => v = .agg #[.slice paA1 d1.i.length caA1, .slice pbA1 d1.o.length cbA1, .slice pcA1 d1.v.length ccA1]
          | 2 => ∃ lo' hi', hi' ≤ u.heap.size ∧ MO u lo' hi' v d1
          | 3 => v = .bool true
          | 4 => v = .bool false
          | _ => True) (by kernel_rfl) (by kernel_rfl) (by kernel_rfl) (Below.refl _ _) grow_trans ?_ ?_ ?_
      · intro i v u u' hr
        match i with
        | 0 | 1 | 3 | 4 | _ + 5 => exact fun h => h
        | 2 => exact fun ⟨lo', hi', h1, h2⟩ => ⟨lo', hi', Nat.le_trans h1 hr.size, h2.below hr h1⟩
      · intro i o ho a u hf hR0 he K' hK
        have hR : Grow u35 u := (Below.drew (Below.refl _ _)).trans hR0
        have hRw : Below w.heap.size w u := hb_36.trans (hR.mono (by omega))
        have hsz' : a.tmps.size = 45 := hf.size
        have hus : u35.heap.size ≤ u.heap.size := hR.size
        rcases i with _ | _ | _ | _ | _ | i
        · obtain rfl := Option.some.inj ho
          clear he
          have q1 : a.tmps.getD 8 undef = .pointer (some ⟨u23.heap.size, 0, none⟩) := hf.at_ 8 (by kernel_rfl)
          obtain ⟨c0, c1, c2⟩ := X1_36.below hR (by omega)
          go_simp
          exact hK _ _ (Below.refl _ _) (getD_put_self a 40 _ (by show _ < a.tmps.size; omega))
        · obtain rfl := Option.some.inj ho
          clear he
          have q1 : a.tmps.getD 3 undef = .pointer (some ⟨w.heap.size + 1, 0, none⟩) := hf.at_ 3 (by kernel_rfl)
          obtain ⟨c0, c1, c2⟩ := P1_36.below hR (by omega)
          go_simp
          exact hK _ _ (Below.refl _ _) (getD_put_self a 41 _ (by show _ < a.tmps.size; omega))
        · obtain rfl := Option.some.inj ho
          have q1 : a.tmps.getD 41 undef = .agg #[.slice paA1 d1.i.length caA1, .slice pbA1 d1.o.length cbA1, .slice pcA1 d1.v.length ccA1] := he _ (Array.mem_of_getElem? (i := 0) rfl) (by kernel_rfl) _ rfl
          clear he
          go_simp
          refine (toMem_any _ _ _ _ d1 (R1.out.below hRw (Nat.le_refl _)) (by omega) nb1).mono ?_
          rintro e1 u' ⟨m', rfl, HO, hbu⟩
          exact hK _ _ hbu ⟨_, _, Nat.le_refl _, by show MO _ _ _ ((a.put (some 42) m').tmps.getD 42 undef) d1; rw [getD_put_self a 42 _ (by show _ < a.tmps.size; omega)]; exact HO⟩
        · obtain rfl := Option.some.inj ho
          have q40 : a.tmps.getD 40 undef = .agg #[.slice paT23 d1.i.length caT23, .slice pbT23 d1.o.length cbT23, .slice pcT23 d1.v.length ccT23] := he _ (Array.mem_of_getElem? (i := 0) rfl) (by kernel_rfl) _ rfl
          obtain ⟨lo42, hi42, hh42, HO42⟩ := he _ (Array.mem_of_getElem? (i := 1) rfl) (by kernel_rfl) _ rfl
          have HO42 : MO u lo42 hi42 (a.tmps.getD 42 undef) d1 := HO42
          obtain ⟨mm42, em42⟩ : ∃ mm, a.tmps.getD 42 undef = mm := ⟨_, rfl⟩
          rw [em42] at HO42
          clear he
          go_simp
          refine (eqMem_any _ _ _ _ _ _ _ d1 d1 (O23_36.below hR (by omega)).mi HO42.mi (by omega) hh42).mono ?_
          rw [decide_eq_true rfl]
          rintro e1 u' ⟨rfl, hbu⟩
          exact hK _ _ hbu (getD_put_self a 43 _ (by show _ < a.tmps.size; omega))
        · obtain rfl := Option.some.inj ho
          have q1 : a.tmps.getD 43 undef = .bool true := he _ (Array.mem_of_getElem? (i := 0) rfl) (by kernel_rfl) _ rfl
          clear he
          go_simp
          exact hK _ _ (Below.refl _ _) (getD_put_self a 44 _ (by show _ < a.tmps.size; omega))
        · exact absurd ho (by simp)
      · intro a u37 hf hR0 hp
        have g37 : Grow u35 u37 := (Below.drew (Below.refl _ _)).trans hR0
        have md : a.defers = [] := hf.defers
        have m44 : a.tmps.getD 44 undef = .bool false := hp 4 _ rfl
        obtain ⟨f, ea, hfv⟩ := act_lit a 45 hf.size
        rw [← hfv] at m44
        rw [md] at ea
        simp only [List.range, List.range.loop, List.map_cons, List.map_nil, m44] at ea
        subst ea
        clear hfv hf md hp hR0
        have P0_38 := P0_36.below g37 (by omega)
        have P1_38 := P1_36.below g37 (by omega)
        have O15_38 := O15_36.below g37 (by omega)
        have X0_38 := X0_36.below g37 (by omega)
        have O23_38 := O23_36.below g37 (by omega)
        have X1_38 := X1_36.below g37 (by omega)
        have hb_38 := hb_36.trans (g37.mono (by omega))
        have sz_38 := g37.size
        clear P0_36 P1_36 O15_36 X0_36 O23_36 X1_36 hb_36 g37
        clear P0_38 P1_38 O15_38 X0_38 O23_38 X1_38
        go_wp2
        go_ret
        exact ⟨rfl, hb_38⟩
end Go.Proofs.Ytdhmioelmcdflaa
