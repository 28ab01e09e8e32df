/-
  FnExactExprAlike, walked at every argument, given what the program's ExprAlike answers. (Written by our generator exactgen.py.)
-/
import Derived.Test.YtdhmioelmcdflaaLawKit2
import Derived.Test.YtdhmioelmcdflaaExprAlike
namespace Go.Proofs.Ytdhmioelmcdflaa
open Go.ChangeShapes Go.WideShapes Go.ChangeAt Go.RowKit
set_option linter.unusedVariables false
set_option maxRecDepth 100000

set_option maxRecDepth 100000 in
set_option maxHeartbeats 8000000 in
theorem exactExprAlike_walk
    (impl : ∀ (w : World) (m0 : Value) (lo0 hi0 : Nat) (d0 : ExprD) (m1 : Value) (lo1 hi1 : Nat) (d1 : ExprD), EO w lo0 hi0 m0 d0 → hi0 ≤ w.heap.size → manyL d0.kids ≤ 1048576 → ER w lo1 hi1 m1 d1 → hi1 ≤ w.heap.size → manyL d1.kids ≤ 1048576 → Calls Try.prog 27 #[m0, m1] w fun e w' => ∃ r : Bool, e = .returned (.bool r) ∧ (r = true ↔ d0 = d1) ∧ Below w.heap.size w w')
    (w : World) (v0 : Value) (d0 : ExprD) (r0 : ER w 0 w.heap.size v0 d0) (v1 : Value) (d1 : ExprD) (r1 : ER w 0 w.heap.size v1 d1) :
    Calls Try.prog 6 #[v0, v1] w fun e w' => e = .returned (.bool true) ∧ Below w.heap.size w w' := by
  obtain ⟨paA0, caA0, rfl⟩ := r0.shape
  have R0 : Hid (ER w 0 w.heap.size (.agg #[.int .i64 d0.k, .int .i64 d0.n, .int .i64 d0.ak, .int .i64 d0.at_, .slice paA0 d0.kids.length caA0]) d0) := r0
  clear r0
  obtain ⟨paA1, caA1, rfl⟩ := r1.shape
  have R1 : Hid (ER w 0 w.heap.size (.agg #[.int .i64 d1.k, .int .i64 d1.n, .int .i64 d1.ak, .int .i64 d1.at_, .slice paA1 d1.kids.length caA1]) d1) := r1
  clear r1
  go_enter Try.func6, Try.ntmps6
  go_wp2_with fail
  obtain ⟨w0, ew0⟩ : ∃ w0, w.alloc (.cells #[.int .i64 d0.k, .int .i64 d0.n, .int .i64 d0.ak, .int .i64 d0.at_, .slice paA0 d0.kids.length caA0] 46) = w0 := ⟨_, rfl⟩
  have sw0 : w0.heap.size = w.heap.size + 1 := by rw [← ew0]; simp
  have gw0 : Below w.heap.size w w0 := by rw [← ew0]; exact (Below.refl _ _).alloc (Nat.le_refl _) _
  have P0 := box5_new w (.int .i64 d0.k) (.int .i64 d0.n) (.int .i64 d0.ak) (.int .i64 d0.at_) (.slice paA0 d0.kids.length caA0) 46
  rw [ew0] at P0 ⊢
  clear ew0
  obtain ⟨w1, ew1⟩ : ∃ w1, w0.alloc (.cells #[.int .i64 d1.k, .int .i64 d1.n, .int .i64 d1.ak, .int .i64 d1.at_, .slice paA1 d1.kids.length caA1] 46) = w1 := ⟨_, rfl⟩
  have sw1 : w1.heap.size = w0.heap.size + 1 := by rw [← ew1]; simp
  have gw1 : Below w0.heap.size w0 w1 := by rw [← ew1]; exact (Below.refl _ _).alloc (Nat.le_refl _) _
  have P1 := box5_new w0 (.int .i64 d1.k) (.int .i64 d1.n) (.int .i64 d1.ak) (.int .i64 d1.at_) (.slice paA1 d1.kids.length caA1) 46
  rw [ew1] at P1 ⊢
  clear ew1
  rw [sw0] at P1
  have P0 := P0.below gw1 (by omega)
  have hb := below_two gw0 gw1
  clear gw0 gw1
  refine (szExpr_any _ _ _ _ d0 (1048576) (R0.out.below hb (Nat.le_refl _)) (by omega) (by omega) (by omega)).mono ?_
  by_cases big0 : (1048576 : Int) < (manyL d0.kids : Int)
  · rw [if_pos big0]
    rintro e1 q1 ⟨rfl, g1⟩
    have hbq := hb.trans (g1.mono (by omega))
    clear g1 P0 P1
    go_wp2
    go_ret
    exact ⟨rfl, hbq⟩
  rw [if_neg big0]
  rintro e1 u1 ⟨rfl, g1⟩
  have P0_2 := P0.below g1 (by omega)
  have P1_2 := P1.below g1 (by omega)
  have hb_2 := hb.trans (g1.mono (by omega))
  have sz_2 := g1.size
  clear P0 P1 hb g1
  have np0 : ¬ ((1048576 - (manyL d0.kids : Int) : Int) < 0) := by omega
  obtain ⟨z3, z4, z5, z6, z7⟩ := id P1_2
  go_wp2_with fail
  clear z3 z4 z5 z6 z7
  refine (szExpr_any _ _ _ _ d1 (1048576 - (manyL d0.kids : Int)) (R1.out.below hb_2 (Nat.le_refl _)) (by omega) (by omega) (by omega)).mono ?_
  by_cases big1 : (1048576 - (manyL d0.kids : Int) : Int) < (manyL d1.kids : Int)
  · rw [if_pos big1]
    rintro e1 q1 ⟨rfl, g1⟩
    have hbq := hb_2.trans (g1.mono (by omega))
    clear g1 P0_2 P1_2
    go_wp2
    go_ret
    exact ⟨rfl, hbq⟩
  rw [if_neg big1]
  rintro e1 u8 ⟨rfl, g8⟩
  have P0_9 := P0_2.below g8 (by omega)
  have P1_9 := P1_2.below g8 (by omega)
  have hb_9 := hb_2.trans (g8.mono (by omega))
  have sz_9 := g8.size
  clear P0_2 P1_2 hb_2 g8
  have np1 : ¬ ((1048576 - (manyL d0.kids : Int) - (manyL d1.kids : Int) : Int) < 0) := by omega
  have nb0 : manyL d0.kids ≤ 1048576 := by omega
  have nb1 : manyL d1.kids ≤ 1048576 := by omega
  go_wp2_with fail
  refine wp_region_dag (R := Grow) (Φ := fun i v u => match i with
      | 0 => v = .agg #[.int .i64 d0.k, .int .i64 d0.n, .int .i64 d0.ak, .int .i64 d0.at_, .slice paA0 d0.kids.length caA0]
      | 1 => ∃ lo' hi', hi' ≤ u.heap.size ∧ EO u lo' hi' v d0
      | 2 => v = .agg #[.int .i64 d1.k, .int .i64 d1.n, .int .i64 d1.ak, .int .i64 d1.at_, .slice paA1 d1.kids.length caA1]
      | 3 => ∃ lo' hi', hi' ≤ u.heap.size ∧ EO u lo' hi' v d1
      | 4 => ∃ rr : Bool, v = .bool rr ∧ (rr = true ↔ d0 = d1)
      | 5 => ∃ rr : Bool, v = .bool rr ∧ (rr = true ↔ d0 = d1)
      | _ => True) (by kernel_rfl) (by kernel_rfl) (by kernel_rfl) (Below.refl _ _) grow_trans ?_ ?_ ?_
  · intro i v u u' hr
    match i with
    | 0 | 2 | 4 | 5 | _ + 6 => exact fun h => h
    | 1 => exact fun ⟨lo', hi', h1, h2⟩ => ⟨lo', hi', Nat.le_trans h1 hr.size, h2.below hr h1⟩
    | 3 => exact fun ⟨lo', hi', h1, h2⟩ => ⟨lo', hi', Nat.le_trans h1 hr.size, h2.below hr h1⟩
  · intro i o ho a u hf hR0 he K' hK
    have hR : Grow u8 u := (Below.drew (Below.refl _ _)).trans hR0
    have hRw : Below w.heap.size w u := hb_9.trans (hR.mono (by omega))
    have hsz' : a.tmps.size = 45 := hf.size
    have hus : u8.heap.size ≤ u.heap.size := hR.size
    rcases i with _ | _ | _ | _ | _ | _ | i
    · obtain rfl := Option.some.inj ho
      clear he
      have q1 : a.tmps.getD 2 undef = .pointer (some ⟨w.heap.size, 0, none⟩) := hf.at_ 2 (by kernel_rfl)
      obtain ⟨c0, c1, c2, c3, c4⟩ := P0_9.below hR (by omega)
      go_simp
      exact hK _ _ (Below.refl _ _) (getD_put_self a 20 _ (by show _ < a.tmps.size; omega))
    · obtain rfl := Option.some.inj ho
      have q1 : a.tmps.getD 20 undef = .agg #[.int .i64 d0.k, .int .i64 d0.n, .int .i64 d0.ak, .int .i64 d0.at_, .slice paA0 d0.kids.length caA0] := he _ (Array.mem_of_getElem? (i := 0) rfl) (by kernel_rfl) _ rfl
      clear he
      go_simp
      refine (toExpr_any _ _ _ _ d0 (R0.out.below hRw (Nat.le_refl _)) (by omega) nb0).mono ?_
      rintro e1 u' ⟨m', rfl, HO, hbu⟩
      exact hK _ _ hbu ⟨_, _, Nat.le_refl _, by show EO _ _ _ ((a.put (some 21) m').tmps.getD 21 undef) d0; rw [getD_put_self a 21 _ (by show _ < a.tmps.size; omega)]; exact HO⟩
    · obtain rfl := Option.some.inj ho
      clear he
      have q1 : a.tmps.getD 3 undef = .pointer (some ⟨w.heap.size + 1, 0, none⟩) := hf.at_ 3 (by kernel_rfl)
      obtain ⟨c0, c1, c2, c3, c4⟩ := P1_9.below hR (by omega)
      go_simp
      exact hK _ _ (Below.refl _ _) (getD_put_self a 22 _ (by show _ < a.tmps.size; omega))
    · obtain rfl := Option.some.inj ho
      have q1 : a.tmps.getD 22 undef = .agg #[.int .i64 d1.k, .int .i64 d1.n, .int .i64 d1.ak, .int .i64 d1.at_, .slice paA1 d1.kids.length caA1] := he _ (Array.mem_of_getElem? (i := 0) rfl) (by kernel_rfl) _ rfl
      clear he
      go_simp
      refine (toExpr_any _ _ _ _ d1 (R1.out.below hRw (Nat.le_refl _)) (by omega) nb1).mono ?_
      rintro e1 u' ⟨m', rfl, HO, hbu⟩
      exact hK _ _ hbu ⟨_, _, Nat.le_refl _, by show EO _ _ _ ((a.put (some 23) m').tmps.getD 23 undef) d1; rw [getD_put_self a 23 _ (by show _ < a.tmps.size; omega)]; exact HO⟩
    · obtain rfl := Option.some.inj ho
      obtain ⟨lo21, hi21, hh21, HO21⟩ := he _ (Array.mem_of_getElem? (i := 0) rfl) (by kernel_rfl) _ rfl
      have HO21 : EO u lo21 hi21 (a.tmps.getD 21 undef) d0 := HO21
      obtain ⟨mm21, em21⟩ : ∃ mm, a.tmps.getD 21 undef = mm := ⟨_, rfl⟩
      rw [em21] at HO21
      obtain ⟨lo23, hi23, hh23, HO23⟩ := he _ (Array.mem_of_getElem? (i := 1) rfl) (by kernel_rfl) _ rfl
      have HO23 : EO u lo23 hi23 (a.tmps.getD 23 undef) d1 := HO23
      obtain ⟨mm23, em23⟩ : ∃ mm, a.tmps.getD 23 undef = mm := ⟨_, rfl⟩
      rw [em23] at HO23
      clear he
      go_simp
      refine (sExprAlike_any _ _ _ _ _ _ _ d0 d1 HO21.er HO23.er hh21 hh23).mono ?_
      rintro e1 u' ⟨rr, rfl, hrr, hbu⟩
      exact hK _ _ hbu ⟨rr, (getD_put_self a 24 _ (by show _ < a.tmps.size; omega)), hrr⟩
    · obtain rfl := Option.some.inj ho
      obtain ⟨rr, q1, hrr⟩ := he _ (Array.mem_of_getElem? (i := 0) rfl) (by kernel_rfl) _ rfl
      have q1 : a.tmps.getD 24 undef = .bool rr := q1
      clear he
      go_simp
      exact hK _ _ (Below.refl _ _) ⟨rr, (getD_put_self a 6 _ (by show _ < a.tmps.size; omega)), hrr⟩
    · exact absurd ho (by simp)
  · intro a u10 hf hR0 hp
    have g10 : Grow u8 u10 := (Below.drew (Below.refl _ _)).trans hR0
    have md : a.defers = [] := hf.defers
    have m2 : a.tmps.getD 2 undef = .pointer (some ⟨w.heap.size, 0, none⟩) := hf.at_ 2 (by kernel_rfl)
    have m3 : a.tmps.getD 3 undef = .pointer (some ⟨w.heap.size + 1, 0, none⟩) := hf.at_ 3 (by kernel_rfl)
    obtain ⟨r1, m6, hr1⟩ := hp 5 _ rfl
    have m6 : a.tmps.getD 6 undef = .bool r1 := m6
    obtain ⟨f, ea, hfv⟩ := act_lit a 45 hf.size
    rw [← hfv] at m2 m3 m6
    rw [md] at ea
    simp only [List.range, List.range.loop, List.map_cons, List.map_nil, m2, m3, m6] at ea
    subst ea
    clear hfv hf md hp hR0
    have P0_11 := P0_9.below g10 (by omega)
    have P1_11 := P1_9.below g10 (by omega)
    have hb_11 := hb_9.trans (g10.mono (by omega))
    have sz_11 := g10.size
    clear P0_9 P1_9 hb_9 g10
    obtain ⟨z12, z13, z14, z15, z16⟩ := id P0_11
    go_wp2_with fail
    clear z12 z13 z14 z15 z16
    refine (toExpr_any _ _ _ _ d0 (R0.out.below hb_11 (Nat.le_refl _)) (by omega) nb0).mono ?_
    rintro e1 u17 ⟨m', rfl, O17, g17⟩
    obtain ⟨paT17, caT17, rfl⟩ := O17.shape
    have P0_18 := P0_11.below g17 (by omega)
    have P1_18 := P1_11.below g17 (by omega)
    have hb_18 := hb_11.trans (g17.mono (by omega))
    have sz_18 := g17.size
    clear P0_11 P1_11 hb_11 g17
    have lt19 : w.heap.size + 1 < u17.heap.size := by omega
    obtain ⟨z20, z21, z22, z23, z24⟩ := id P1_18
    go_wp2_with fail
    clear lt19 z20 z21 z22 z23 z24
    obtain ⟨u25, hu25, g25, Y25, s25⟩ : ∃ u25, u17.alloc (.cells #[.int .i64 d0.k, .int .i64 d0.n, .int .i64 d0.ak, .int .i64 d0.at_, .slice paT17 d0.kids.length caT17] 27) = u25 ∧ Below u17.heap.size u17 u25 ∧ Box5 u25 u17.heap.size (.int .i64 d0.k) (.int .i64 d0.n) (.int .i64 d0.ak) (.int .i64 d0.at_) (.slice paT17 d0.kids.length caT17) ∧ u25.heap.size = u17.heap.size + 1 :=
      ⟨_, rfl, (Below.refl _ _).alloc (Nat.le_refl _) _, box5_new _ _ _ _ _ _ _, by simp⟩
    rw [hu25]
    clear hu25
    have P0_26 := P0_18.below g25 (by omega)
    have P1_26 := P1_18.below g25 (by omega)
    have O17_26 := O17.below g25 (by omega)
    have hb_26 := hb_18.trans (g25.mono (by omega))
    have sz_26 := g25.size
    clear P0_18 P1_18 O17 hb_18 g25
    refine (toExpr_any _ _ _ _ d1 (R1.out.below hb_26 (Nat.le_refl _)) (by omega) nb1).mono ?_
    rintro e1 u27 ⟨m', rfl, O27, g27⟩
    obtain ⟨paT27, caT27, rfl⟩ := O27.shape
    have P0_28 := P0_26.below g27 (by omega)
    have P1_28 := P1_26.below g27 (by omega)
    have O17_28 := O17_26.below g27 (by omega)
    have X0_28 := Y25.below g27 (by omega)
    have hb_28 := hb_26.trans (g27.mono (by omega))
    have sz_28 := g27.size
    clear P0_26 P1_26 O17_26 Y25 hb_26 g27
    have lt29 : u17.heap.size < u27.heap.size := by omega
    obtain ⟨z30, z31, z32, z33, z34⟩ := id X0_28
    go_wp2_with fail
    clear lt29 z30 z31 z32 z33 z34
    obtain ⟨u35, hu35, g35, Y35, s35⟩ : ∃ u35, u27.alloc (.cells #[.int .i64 d1.k, .int .i64 d1.n, .int .i64 d1.ak, .int .i64 d1.at_, .slice paT27 d1.kids.length caT27] 27) = u35 ∧ Below u27.heap.size u27 u35 ∧ Box5 u35 u27.heap.size (.int .i64 d1.k) (.int .i64 d1.n) (.int .i64 d1.ak) (.int .i64 d1.at_) (.slice paT27 d1.kids.length caT27) ∧ u35.heap.size = u27.heap.size + 1 :=
      ⟨_, rfl, (Below.refl _ _).alloc (Nat.le_refl _) _, box5_new _ _ _ _ _ _ _, by simp⟩
    rw [hu35]
    clear hu35
    have P0_36 := P0_28.below g35 (by omega)
    have P1_36 := P1_28.below g35 (by omega)
    have O17_36 := O17_28.below g35 (by omega)
    have X0_36 := X0_28.below g35 (by omega)
    have O27_36 := O27.below g35 (by omega)
    have hb_36 := hb_28.trans (g35.mono (by omega))
    have sz_36 := g35.size
    clear P0_28 P1_28 O17_28 X0_28 O27 hb_28 g35
    refine (impl _ _ _ _ d0 _ _ _ d1 O17_36 (by omega) nb0 O27_36.er (by omega) nb1).mono ?_
    rintro e1 u37 ⟨r2, rfl, hr2, g37⟩
    obtain rfl : r2 = r1 := eq_of_iff hr2 hr1
    have P0_38 := P0_36.below g37 (by omega)
    have P1_38 := P1_36.below g37 (by omega)
    have O17_38 := O17_36.below g37 (by omega)
    have X0_38 := X0_36.below g37 (by omega)
    have O27_38 := O27_36.below g37 (by omega)
    have X1_38 := Y35.below g37 (by omega)
    have hb_38 := hb_36.trans (g37.mono (by omega))
    have sz_38 := g37.size
    clear P0_36 P1_36 O17_36 X0_36 O27_36 Y35 hb_36 g37
    go_wp2_with fail
    refine wp_region_dag (R := Grow) (Φ := fun i v u => match i with
        | 0 => v = .agg #[.int .i64 d0.k, .int .i64 d0.n, .int .i64 d0.ak, .int .i64 d0.at_, .slice paT17 d0.kids.length caT17]
        | 1 => v = .agg #[.int .i64 d0.k, .int .i64 d0.n, .int .i64 d0.ak, .int .i64 d0.at_, .slice paA0 d0.kids.length caA0]
        | 2 => ∃ lo' hi', hi' ≤ u.heap.size ∧ EO u lo' hi' v d0
        | 3 => v = .bool true
        | 4 => v = .bool false
        | _ => True) (by kernel_rfl) (by kernel_rfl) (by kernel_rfl) (Below.refl _ _) grow_trans ?_ ?_ ?_
    · intro i v u u' hr
      match i with
      | 0 | 1 | 3 | 4 | _ + 5 => exact fun h => h
      | 2 => exact fun ⟨lo', hi', h1, h2⟩ => ⟨lo', hi', Nat.le_trans h1 hr.size, h2.below hr h1⟩
    · intro i o ho a u hf hR0 he K' hK
      have hR : Grow u37 u := (Below.drew (Below.refl _ _)).trans hR0
      have hRw : Below w.heap.size w u := hb_38.trans (hR.mono (by omega))
      have hsz' : a.tmps.size = 45 := hf.size
      have hus : u37.heap.size ≤ u.heap.size := hR.size
      rcases i with _ | _ | _ | _ | _ | i
      · obtain rfl := Option.some.inj ho
        clear he
        have q1 : a.tmps.getD 7 undef = .pointer (some ⟨u17.heap.size, 0, none⟩) := hf.at_ 7 (by kernel_rfl)
        obtain ⟨c0, c1, c2, c3, c4⟩ := X0_38.below hR (by omega)
        go_simp
        exact hK _ _ (Below.refl _ _) (getD_put_self a 35 _ (by show _ < a.tmps.size; omega))
      · obtain rfl := Option.some.inj ho
        clear he
        have q1 : a.tmps.getD 2 undef = .pointer (some ⟨w.heap.size, 0, none⟩) := hf.at_ 2 (by kernel_rfl)
        obtain ⟨c0, c1, c2, c3, c4⟩ := P0_38.below hR (by omega)
        go_simp
        exact hK _ _ (Below.refl _ _) (getD_put_self a 36 _ (by show _ < a.tmps.size; omega))
      · obtain rfl := Option.some.inj ho
        have q1 : a.tmps.getD 36 undef = .agg #[.int .i64 d0.k, .int .i64 d0.n, .int .i64 d0.ak, .int .i64 d0.at_, .slice paA0 d0.kids.length caA0] := he _ (Array.mem_of_getElem? (i := 0) rfl) (by kernel_rfl) _ rfl
        clear he
        go_simp
        refine (toExpr_any _ _ _ _ d0 (R0.out.below hRw (Nat.le_refl _)) (by omega) nb0).mono ?_
        rintro e1 u' ⟨m', rfl, HO, hbu⟩
        exact hK _ _ hbu ⟨_, _, Nat.le_refl _, by show EO _ _ _ ((a.put (some 37) m').tmps.getD 37 undef) d0; rw [getD_put_self a 37 _ (by show _ < a.tmps.size; omega)]; exact HO⟩
      · obtain rfl := Option.some.inj ho
        have q35 : a.tmps.getD 35 undef = .agg #[.int .i64 d0.k, .int .i64 d0.n, .int .i64 d0.ak, .int .i64 d0.at_, .slice paT17 d0.kids.length caT17] := he _ (Array.mem_of_getElem? (i := 0) rfl) (by kernel_rfl) _ rfl
        obtain ⟨lo37, hi37, hh37, HO37⟩ := he _ (Array.mem_of_getElem? (i := 1) rfl) (by kernel_rfl) _ rfl
        have HO37 : EO u lo37 hi37 (a.tmps.getD 37 undef) d0 := HO37
        obtain ⟨mm37, em37⟩ : ∃ mm, a.tmps.getD 37 undef = mm := ⟨_, rfl⟩
        rw [em37] at HO37
        clear he
        go_simp
        refine (eqExpr_any _ _ _ _ _ _ _ d0 d0 (O17_38.below hR (by omega)).er HO37.er (by omega) hh37).mono ?_
        rintro e1 u' ⟨rr, rfl, hrr, hbu⟩
        obtain rfl : rr = true := hrr.mpr rfl
        exact hK _ _ hbu (getD_put_self a 38 _ (by show _ < a.tmps.size; omega))
      · obtain rfl := Option.some.inj ho
        have q1 : a.tmps.getD 38 undef = .bool true := he _ (Array.mem_of_getElem? (i := 0) rfl) (by kernel_rfl) _ rfl
        clear he
        go_simp
        exact hK _ _ (Below.refl _ _) (getD_put_self a 39 _ (by show _ < a.tmps.size; omega))
      · exact absurd ho (by simp)
    · intro a u39 hf hR0 hp
      have g39 : Grow u37 u39 := (Below.drew (Below.refl _ _)).trans hR0
      have md : a.defers = [] := hf.defers
      have m3 : a.tmps.getD 3 undef = .pointer (some ⟨w.heap.size + 1, 0, none⟩) := hf.at_ 3 (by kernel_rfl)
      have m8 : a.tmps.getD 8 undef = .pointer (some ⟨u27.heap.size, 0, none⟩) := hf.at_ 8 (by kernel_rfl)
      have m39 : a.tmps.getD 39 undef = .bool false := hp 4 _ rfl
      obtain ⟨f, ea, hfv⟩ := act_lit a 45 hf.size
      rw [← hfv] at m3 m8 m39
      rw [md] at ea
      simp only [List.range, List.range.loop, List.map_cons, List.map_nil, m3, m8, m39] at ea
      subst ea
      clear hfv hf md hp hR0
      have P0_40 := P0_38.below g39 (by omega)
      have P1_40 := P1_38.below g39 (by omega)
      have O17_40 := O17_38.below g39 (by omega)
      have X0_40 := X0_38.below g39 (by omega)
      have O27_40 := O27_38.below g39 (by omega)
      have X1_40 := X1_38.below g39 (by omega)
      have hb_40 := hb_38.trans (g39.mono (by omega))
      have sz_40 := g39.size
      clear P0_38 P1_38 O17_38 X0_38 O27_38 X1_38 hb_38 g39
      go_wp2_with fail
      refine wp_region_dag (R := Grow) (Φ := fun i v u => match i with
          | 0 => v = .agg #[.int .i64 d1.k, .int .i64 d1.n, .int .i64 d1.ak, .int .i64 d1.at_, .slice paT27 d1.kids.length caT27]
          | 1 => v = .agg #[.int .i64 d1.k, .int .i64 d1.n, .int .i64 d1.ak, .int .i64 d1.at_, .slice paA1 d1.kids.length caA1]
          | 2 => ∃ lo' hi', hi' ≤ u.heap.size ∧ EO u lo' hi' v d1
          | 3 => v = .bool true
          | 4 => v = .bool false
          | _ => True) (by kernel_rfl) (by kernel_rfl) (by kernel_rfl) (Below.refl _ _) grow_trans ?_ ?_ ?_
      · intro i v u u' hr
        match i with
        | 0 | 1 | 3 | 4 | _ + 5 => exact fun h => h
        | 2 => exact fun ⟨lo', hi', h1, h2⟩ => ⟨lo', hi', Nat.le_trans h1 hr.size, h2.below hr h1⟩
      · intro i o ho a u hf hR0 he K' hK
        have hR : Grow u39 u := (Below.drew (Below.refl _ _)).trans hR0
        have hRw : Below w.heap.size w u := hb_40.trans (hR.mono (by omega))
        have hsz' : a.tmps.size = 45 := hf.size
        have hus : u39.heap.size ≤ u.heap.size := hR.size
        rcases i with _ | _ | _ | _ | _ | i
        · obtain rfl := Option.some.inj ho
          clear he
          have q1 : a.tmps.getD 8 undef = .pointer (some ⟨u27.heap.size, 0, none⟩) := hf.at_ 8 (by kernel_rfl)
          obtain ⟨c0, c1, c2, c3, c4⟩ := X1_40.below hR (by omega)
          go_simp
          exact hK _ _ (Below.refl _ _) (getD_put_self a 40 _ (by show _ < a.tmps.size; omega))
        · obtain rfl := Option.some.inj ho
          clear he
          have q1 : a.tmps.getD 3 undef = .pointer (some ⟨w.heap.size + 1, 0, none⟩) := hf.at_ 3 (by kernel_rfl)
          obtain ⟨c0, c1, c2, c3, c4⟩ := P1_40.below hR (by omega)
          go_simp
          exact hK _ _ (Below.refl _ _) (getD_put_self a 41 _ (by show _ < a.tmps.size; omega))
        · obtain rfl := Option.some.inj ho
          have q1 : a.tmps.getD 41 undef = .agg #[.int .i64 d1.k, .int .i64 d1.n, .int .i64 d1.ak, .int .i64 d1.at_, .slice paA1 d1.kids.length caA1] := he _ (Array.mem_of_getElem? (i := 0) rfl) (by kernel_rfl) _ rfl
          clear he
          go_simp
          refine (toExpr_any _ _ _ _ d1 (R1.out.below hRw (Nat.le_refl _)) (by omega) nb1).mono ?_
          rintro e1 u' ⟨m', rfl, HO, hbu⟩
          exact hK _ _ hbu ⟨_, _, Nat.le_refl _, by show EO _ _ _ ((a.put (some 42) m').tmps.getD 42 undef) d1; rw [getD_put_self a 42 _ (by show _ < a.tmps.size; omega)]; exact HO⟩
        · obtain rfl := Option.some.inj ho
          have q40 : a.tmps.getD 40 undef = .agg #[.int .i64 d1.k, .int .i64 d1.n, .int .i64 d1.ak, .int .i64 d1.at_, .slice paT27 d1.kids.length caT27] := he _ (Array.mem_of_getElem? (i := 0) rfl) (by kernel_rfl) _ rfl
          obtain ⟨lo42, hi42, hh42, HO42⟩ := he _ (Array.mem_of_getElem? (i := 1) rfl) (by kernel_rfl) _ rfl
          have HO42 : EO u lo42 hi42 (a.tmps.getD 42 undef) d1 := HO42
          obtain ⟨mm42, em42⟩ : ∃ mm, a.tmps.getD 42 undef = mm := ⟨_, rfl⟩
          rw [em42] at HO42
          clear he
          go_simp
          refine (eqExpr_any _ _ _ _ _ _ _ d1 d1 (O27_40.below hR (by omega)).er HO42.er (by omega) hh42).mono ?_
          rintro e1 u' ⟨rr, rfl, hrr, hbu⟩
          obtain rfl : rr = true := hrr.mpr rfl
          exact hK _ _ hbu (getD_put_self a 43 _ (by show _ < a.tmps.size; omega))
        · obtain rfl := Option.some.inj ho
          have q1 : a.tmps.getD 43 undef = .bool true := he _ (Array.mem_of_getElem? (i := 0) rfl) (by kernel_rfl) _ rfl
          clear he
          go_simp
          exact hK _ _ (Below.refl _ _) (getD_put_self a 44 _ (by show _ < a.tmps.size; omega))
        · exact absurd ho (by simp)
      · intro a u41 hf hR0 hp
        have g41 : Grow u39 u41 := (Below.drew (Below.refl _ _)).trans hR0
        have md : a.defers = [] := hf.defers
        have m44 : a.tmps.getD 44 undef = .bool false := hp 4 _ rfl
        obtain ⟨f, ea, hfv⟩ := act_lit a 45 hf.size
        rw [← hfv] at m44
        rw [md] at ea
        simp only [List.range, List.range.loop, List.map_cons, List.map_nil, m44] at ea
        subst ea
        clear hfv hf md hp hR0
        have P0_42 := P0_40.below g41 (by omega)
        have P1_42 := P1_40.below g41 (by omega)
        have O17_42 := O17_40.below g41 (by omega)
        have X0_42 := X0_40.below g41 (by omega)
        have O27_42 := O27_40.below g41 (by omega)
        have X1_42 := X1_40.below g41 (by omega)
        have hb_42 := hb_40.trans (g41.mono (by omega))
        have sz_42 := g41.size
        clear P0_40 P1_40 O17_40 X0_40 O27_40 X1_40 hb_40 g41
        clear P0_42 P1_42 O17_42 X0_42 O27_42 X1_42
        go_wp2
        go_ret
        exact ⟨rfl, hb_42⟩
end Go.Proofs.Ytdhmioelmcdflaa
