/-
  FnExactChartSame, walked at every argument, given what the program's ChartSame answers. (Written by our generator exactgen.py.)
-/
import Derived.Test.YtokphdpaghkakaaLawKitC
import Derived.Test.YtokphdpaghkakaaChartSameS
namespace Go.Proofs.Ytokphdpaghkakaa
open Go.ChangeShapes Go.WideShapes Go.ChangeAt Go.RowKit
set_option linter.unusedVariables false

set_option maxRecDepth 100000 in
set_option maxHeartbeats 8000000 in
theorem exactChartSame_walk
    (impl : ∀ (w : World) (m0 : Value) (lo0 hi0 : Nat) (d0 : ChartD) (m1 : Value) (lo1 hi1 : Nat) (d1 : ChartD), HOc w lo0 hi0 m0 d0 → hi0 ≤ w.heap.size → d0.many ≤ 1048576 → HIc w lo1 hi1 m1 d1 → hi1 ≤ w.heap.size → d1.many ≤ 1048576 → Calls Try.prog 12 #[m0, m1] w fun e w' => ∃ r : Bool, e = .returned (.bool r) ∧ (r = true ↔ d0 = d1) ∧ Below w.heap.size w w')
    (w : World) (v0 : Value) (d0 : ChartD) (r0 : HIc w 0 w.heap.size v0 d0) (v1 : Value) (d1 : ChartD) (r1 : HIc w 0 w.heap.size v1 d1) :
    Calls Try.prog 4 #[v0, v1] w fun e w' => e = .returned (.bool true) ∧ Below w.heap.size w w' := by
  obtain ⟨paA0, caA0, pbA0, cbA0, rfl⟩ := r0.shape
  have R0 : Hid (HIc w 0 w.heap.size (.agg #[.int .i64 d0.steps, .slice paA0 d0.ts.length caA0, .slice pbA0 d0.acts.length cbA0]) d0) := r0
  clear r0
  obtain ⟨paA1, caA1, pbA1, cbA1, rfl⟩ := r1.shape
  have R1 : Hid (HIc w 0 w.heap.size (.agg #[.int .i64 d1.steps, .slice paA1 d1.ts.length caA1, .slice pbA1 d1.acts.length cbA1]) d1) := r1
  clear r1
  go_enter Try.func4, Try.ntmps4
  go_wp2_with fail
  obtain ⟨w0, ew0⟩ : ∃ w0, w.alloc (.cells #[.int .i64 d0.steps, .slice paA0 d0.ts.length caA0, .slice pbA0 d0.acts.length cbA0] 25) = w0 := ⟨_, rfl⟩
  have sw0 : w0.heap.size = w.heap.size + 1 := by rw [← ew0]; simp
  have gw0 : Below w.heap.size w w0 := by rw [← ew0]; exact (Below.refl _ _).alloc (Nat.le_refl _) _
  have P0 := bxt_new w (.int .i64 d0.steps) (.slice paA0 d0.ts.length caA0) (.slice pbA0 d0.acts.length cbA0) 25
  rw [ew0] at P0 ⊢
  clear ew0
  obtain ⟨w1, ew1⟩ : ∃ w1, w0.alloc (.cells #[.int .i64 d1.steps, .slice paA1 d1.ts.length caA1, .slice pbA1 d1.acts.length cbA1] 25) = w1 := ⟨_, rfl⟩
  have sw1 : w1.heap.size = w0.heap.size + 1 := by rw [← ew1]; simp
  have gw1 : Below w0.heap.size w0 w1 := by rw [← ew1]; exact (Below.refl _ _).alloc (Nat.le_refl _) _
  have P1 := bxt_new w0 (.int .i64 d1.steps) (.slice paA1 d1.ts.length caA1) (.slice pbA1 d1.acts.length cbA1) 25
  rw [ew1] at P1 ⊢
  clear ew1
  rw [sw0] at P1
  have P0 := P0.below gw1 (by omega)
  have hb := below_two gw0 gw1
  clear gw0 gw1
  refine (szChart_any _ _ _ _ d0 (1048576) (R0.out.below hb (Nat.le_refl _)) (by omega) (by omega) (by omega)).mono ?_
  by_cases big0 : (1048576 : Int) < (d0.many : Int)
  · rw [if_pos big0]
    rintro e1 q1 ⟨rfl, g1⟩
    have hbq := hb.trans (g1.mono (by omega))
    clear g1 P0 P1
    go_wp2
    go_ret
    exact ⟨rfl, hbq⟩
  rw [if_neg big0]
  rintro e1 u1 ⟨rfl, g1⟩
  have P0_2 := P0.below g1 (by omega)
  have P1_2 := P1.below g1 (by omega)
  have hb_2 := hb.trans (g1.mono (by omega))
  have sz_2 := g1.size
  clear P0 P1 hb g1
  have np0 : ¬ ((1048576 - (d0.many : Int) : Int) < 0) := by omega
  obtain ⟨z3, z4, z5⟩ := id P1_2
  go_wp2_with fail
  clear z3 z4 z5
  refine (szChart_any _ _ _ _ d1 (1048576 - (d0.many : Int)) (R1.out.below hb_2 (Nat.le_refl _)) (by omega) (by omega) (by omega)).mono ?_
  by_cases big1 : (1048576 - (d0.many : Int) : Int) < (d1.many : Int)
  · rw [if_pos big1]
    rintro e1 q1 ⟨rfl, g1⟩
    have hbq := hb_2.trans (g1.mono (by omega))
    clear g1 P0_2 P1_2
    go_wp2
    go_ret
    exact ⟨rfl, hbq⟩
  rw [if_neg big1]
  rintro e1 u6 ⟨rfl, g6⟩
  have P0_7 := P0_2.below g6 (by omega)
  have P1_7 := P1_2.below g6 (by omega)
  have hb_7 := hb_2.trans (g6.mono (by omega))
  have sz_7 := g6.size
  clear P0_2 P1_2 hb_2 g6
  have np1 : ¬ ((1048576 - (d0.many : Int) - (d1.many : Int) : Int) < 0) := by omega
  have nb0 : d0.many ≤ 1048576 := by omega
  have nb1 : d1.many ≤ 1048576 := by omega
  go_wp2_with fail
  refine wp_region_dag (R := Grow) (Φ := fun i v u => match i with
      | 0 => v = .agg #[.int .i64 d0.steps, .slice paA0 d0.ts.length caA0, .slice pbA0 d0.acts.length cbA0]
      | 1 => ∃ lo' hi', hi' ≤ u.heap.size ∧ HOc u lo' hi' v d0
      | 2 => v = .agg #[.int .i64 d1.steps, .slice paA1 d1.ts.length caA1, .slice pbA1 d1.acts.length cbA1]
      | 3 => ∃ lo' hi', hi' ≤ u.heap.size ∧ HOc u lo' hi' v d1
      | 4 => ∃ rr : Bool, v = .bool rr ∧ (rr = true ↔ d0 = d1)
      | 5 => ∃ rr : Bool, v = .bool rr ∧ (rr = true ↔ d0 = d1)
      | _ => True) (by kernel_rfl) (by kernel_rfl) (by kernel_rfl) (Below.refl _ _) grow_trans ?_ ?_ ?_
  · intro i v u u' hr
    match i with
    | 0 | 2 | 4 | 5 | _ + 6 => exact fun h => h
    | 1 => exact fun ⟨lo', hi', h1, h2⟩ => ⟨lo', hi', Nat.le_trans h1 hr.size, h2.below hr h1⟩
    | 3 => exact fun ⟨lo', hi', h1, h2⟩ => ⟨lo', hi', Nat.le_trans h1 hr.size, h2.below hr h1⟩
  · intro i o ho a u hf hR0 he K' hK
    have hR : Grow u6 u := (Below.drew (Below.refl _ _)).trans hR0
    have hRw : Below w.heap.size w u := hb_7.trans (hR.mono (by omega))
    have hsz' : a.tmps.size = 45 := hf.size
    have hus : u6.heap.size ≤ u.heap.size := hR.size
    rcases i with _ | _ | _ | _ | _ | _ | i
    · obtain rfl := Option.some.inj ho
      clear he
      have q1 : a.tmps.getD 2 undef = .pointer (some ⟨w.heap.size, 0, none⟩) := hf.at_ 2 (by kernel_rfl)
      obtain ⟨c0, c1, c2⟩ := P0_7.below hR (by omega)
      go_simp
      exact hK _ _ (Below.refl _ _) (getD_put_self a 20 _ (by show _ < a.tmps.size; omega))
    · obtain rfl := Option.some.inj ho
      have q1 : a.tmps.getD 20 undef = .agg #[.int .i64 d0.steps, .slice paA0 d0.ts.length caA0, .slice pbA0 d0.acts.length cbA0] := he _ (Array.mem_of_getElem? (i := 0) rfl) (by kernel_rfl) _ rfl
      clear he
      go_simp
      refine (toChart_any _ _ _ _ d0 (R0.out.below hRw (Nat.le_refl _)) (by omega) nb0).mono ?_
      rintro e1 u' ⟨m', rfl, HO, hbu⟩
      exact hK _ _ hbu ⟨_, _, Nat.le_refl _, by show HOc _ _ _ ((a.put (some 21) m').tmps.getD 21 undef) d0; rw [getD_put_self a 21 _ (by show _ < a.tmps.size; omega)]; exact HO⟩
    · obtain rfl := Option.some.inj ho
      clear he
      have q1 : a.tmps.getD 3 undef = .pointer (some ⟨w.heap.size + 1, 0, none⟩) := hf.at_ 3 (by kernel_rfl)
      obtain ⟨c0, c1, c2⟩ := P1_7.below hR (by omega)
      go_simp
      exact hK _ _ (Below.refl _ _) (getD_put_self a 22 _ (by show _ < a.tmps.size; omega))
    · obtain rfl := Option.some.inj ho
      have q1 : a.tmps.getD 22 undef = .agg #[.int .i64 d1.steps, .slice paA1 d1.ts.length caA1, .slice pbA1 d1.acts.length cbA1] := he _ (Array.mem_of_getElem? (i := 0) rfl) (by kernel_rfl) _ rfl
      clear he
      go_simp
      refine (toChart_any _ _ _ _ d1 (R1.out.below hRw (Nat.le_refl _)) (by omega) nb1).mono ?_
      rintro e1 u' ⟨m', rfl, HO, hbu⟩
      exact hK _ _ hbu ⟨_, _, Nat.le_refl _, by show HOc _ _ _ ((a.put (some 23) m').tmps.getD 23 undef) d1; rw [getD_put_self a 23 _ (by show _ < a.tmps.size; omega)]; exact HO⟩
    · obtain rfl := Option.some.inj ho
      obtain ⟨lo21, hi21, hh21, HO21⟩ := he _ (Array.mem_of_getElem? (i := 0) rfl) (by kernel_rfl) _ rfl
      have HO21 : HOc u lo21 hi21 (a.tmps.getD 21 undef) d0 := HO21
      obtain ⟨mm21, em21⟩ : ∃ mm, a.tmps.getD 21 undef = mm := ⟨_, rfl⟩
      rw [em21] at HO21
      obtain ⟨lo23, hi23, hh23, HO23⟩ := he _ (Array.mem_of_getElem? (i := 1) rfl) (by kernel_rfl) _ rfl
      have HO23 : HOc u lo23 hi23 (a.tmps.getD 23 undef) d1 := HO23
      obtain ⟨mm23, em23⟩ : ∃ mm, a.tmps.getD 23 undef = mm := ⟨_, rfl⟩
      rw [em23] at HO23
      clear he
      go_simp
      refine (sChartSame_any _ _ _ _ _ _ _ d0 d1 HO21.hi HO23.hi hh21 hh23).mono ?_
      rintro e1 u' ⟨rr, rfl, hrr, hbu⟩
      exact hK _ _ hbu ⟨rr, (getD_put_self a 24 _ (by show _ < a.tmps.size; omega)), hrr⟩
    · obtain rfl := Option.some.inj ho
      obtain ⟨rr, q1, hrr⟩ := he _ (Array.mem_of_getElem? (i := 0) rfl) (by kernel_rfl) _ rfl
      have q1 : a.tmps.getD 24 undef = .bool rr := q1
      clear he
      go_simp
      exact hK _ _ (Below.refl _ _) ⟨rr, (getD_put_self a 6 _ (by show _ < a.tmps.size; omega)), hrr⟩
    · exact absurd ho (by simp)
  · intro a u8 hf hR0 hp
    have g8 : Grow u6 u8 := (Below.drew (Below.refl _ _)).trans hR0
    have md : a.defers = [] := hf.defers
    have m2 : a.tmps.getD 2 undef = .pointer (some ⟨w.heap.size, 0, none⟩) := hf.at_ 2 (by kernel_rfl)
    have m3 : a.tmps.getD 3 undef = .pointer (some ⟨w.heap.size + 1, 0, none⟩) := hf.at_ 3 (by kernel_rfl)
    obtain ⟨r1, m6, hr1⟩ := hp 5 _ rfl
    have m6 : a.tmps.getD 6 undef = .bool r1 := m6
    obtain ⟨f, ea, hfv⟩ := act_lit a 45 hf.size
    rw [← hfv] at m2 m3 m6
    rw [md] at ea
    simp only [List.range, List.range.loop, List.map_cons, List.map_nil, m2, m3, m6] at ea
    subst ea
    clear hfv hf md hp hR0
    have P0_9 := P0_7.below g8 (by omega)
    have P1_9 := P1_7.below g8 (by omega)
    have hb_9 := hb_7.trans (g8.mono (by omega))
    have sz_9 := g8.size
    clear P0_7 P1_7 hb_7 g8
    obtain ⟨z10, z11, z12⟩ := id P0_9
    go_wp2_with fail
    clear z10 z11 z12
    refine (toChart_any _ _ _ _ d0 (R0.out.below hb_9 (Nat.le_refl _)) (by omega) nb0).mono ?_
    rintro e1 u13 ⟨m', rfl, O13, g13⟩
    obtain ⟨paT13, caT13, pbT13, cbT13, rfl⟩ := O13.hi.shape
    have P0_14 := P0_9.below g13 (by omega)
    have P1_14 := P1_9.below g13 (by omega)
    have hb_14 := hb_9.trans (g13.mono (by omega))
    have sz_14 := g13.size
    clear P0_9 P1_9 hb_9 g13
    have lt15 : w.heap.size + 1 < u13.heap.size := by omega
    obtain ⟨z16, z17, z18⟩ := id P1_14
    go_wp2_with fail
    clear lt15 z16 z17 z18
    obtain ⟨u19, hu19, g19, Y19, s19⟩ : ∃ u19, u13.alloc (.cells #[.int .i64 d0.steps, .slice paT13 d0.ts.length caT13, .slice pbT13 d0.acts.length cbT13] 31) = u19 ∧ Below u13.heap.size u13 u19 ∧ BxT u19 u13.heap.size (.int .i64 d0.steps) (.slice paT13 d0.ts.length caT13) (.slice pbT13 d0.acts.length cbT13) ∧ u19.heap.size = u13.heap.size + 1 :=
      ⟨_, rfl, (Below.refl _ _).alloc (Nat.le_refl _) _, bxt_new _ _ _ _ _, by simp⟩
    rw [hu19]
    clear hu19
    have P0_20 := P0_14.below g19 (by omega)
    have P1_20 := P1_14.below g19 (by omega)
    have O13_20 := O13.below g19 (by omega)
    have hb_20 := hb_14.trans (g19.mono (by omega))
    have sz_20 := g19.size
    clear P0_14 P1_14 O13 hb_14 g19
    refine (toChart_any _ _ _ _ d1 (R1.out.below hb_20 (Nat.le_refl _)) (by omega) nb1).mono ?_
    rintro e1 u21 ⟨m', rfl, O21, g21⟩
    obtain ⟨paT21, caT21, pbT21, cbT21, rfl⟩ := O21.hi.shape
    have P0_22 := P0_20.below g21 (by omega)
    have P1_22 := P1_20.below g21 (by omega)
    have O13_22 := O13_20.below g21 (by omega)
    have X0_22 := Y19.below g21 (by omega)
    have hb_22 := hb_20.trans (g21.mono (by omega))
    have sz_22 := g21.size
    clear P0_20 P1_20 O13_20 Y19 hb_20 g21
    have lt23 : u13.heap.size < u21.heap.size := by omega
    obtain ⟨z24, z25, z26⟩ := id X0_22
    go_wp2_with fail
    clear lt23 z24 z25 z26
    obtain ⟨u27, hu27, g27, Y27, s27⟩ : ∃ u27, u21.alloc (.cells #[.int .i64 d1.steps, .slice paT21 d1.ts.length caT21, .slice pbT21 d1.acts.length cbT21] 31) = u27 ∧ Below u21.heap.size u21 u27 ∧ BxT u27 u21.heap.size (.int .i64 d1.steps) (.slice paT21 d1.ts.length caT21) (.slice pbT21 d1.acts.length cbT21) ∧ u27.heap.size = u21.heap.size + 1 :=
      ⟨_, rfl, (Below.refl _ _).alloc (Nat.le_refl _) _, bxt_new _ _ _ _ _, by simp⟩
    rw [hu27]
    clear hu27
    have P0_28 := P0_22.below g27 (by omega)
    have P1_28 := P1_22.below g27 (by omega)
    have O13_28 := O13_22.below g27 (by omega)
    have X0_28 := X0_22.below g27 (by omega)
    have O21_28 := O21.below g27 (by omega)
    have hb_28 := hb_22.trans (g27.mono (by omega))
    have sz_28 := g27.size
    clear P0_22 P1_22 O13_22 X0_22 O21 hb_22 g27
    refine (impl _ _ _ _ d0 _ _ _ d1 O13_28 (by omega) nb0 O21_28.hi (by omega) nb1).mono ?_
    rintro e1 u29 ⟨r2, rfl, hr2, g29⟩
    obtain rfl : r2 = r1 := Bool.eq_iff_iff.mpr (hr2.trans hr1.symm)
    have P0_30 := P0_28.below g29 (by omega)
    have P1_30 := P1_28.below g29 (by omega)
    have O13_30 := O13_28.below g29 (by omega)
    have X0_30 := X0_28.below g29 (by omega)
    have O21_30 := O21_28.below g29 (by omega)
    have X1_30 := Y27.below g29 (by omega)
    have hb_30 := hb_28.trans (g29.mono (by omega))
    have sz_30 := g29.size
    clear P0_28 P1_28 O13_28 X0_28 O21_28 Y27 hb_28 g29
    go_wp2_with fail
    refine wp_region_dag (R := Grow) (Φ := fun i v u => match i with
        | 0 => v = .agg #[.int .i64 d0.steps, .slice paT13 d0.ts.length caT13, .slice pbT13 d0.acts.length cbT13]
        | 1 => v = .agg #[.int .i64 d0.steps, .slice paA0 d0.ts.length caA0, .slice pbA0 d0.acts.length cbA0]
        | 2 => ∃ lo' hi', hi' ≤ u.heap.size ∧ HOc u lo' hi' v d0
        | 3 => v = .bool true
        | 4 => v = .bool false
        | _ => True) (by kernel_rfl) (by kernel_rfl) (by kernel_rfl) (Below.refl _ _) grow_trans ?_ ?_ ?_
    · intro i v u u' hr
      match i with
      | 0 | 1 | 3 | 4 | _ + 5 => exact fun h => h
      | 2 => exact fun ⟨lo', hi', h1, h2⟩ => ⟨lo', hi', Nat.le_trans h1 hr.size, h2.below hr h1⟩
    · intro i o ho a u hf hR0 he K' hK
      have hR : Grow u29 u := (Below.drew (Below.refl _ _)).trans hR0
      have hRw : Below w.heap.size w u := hb_30.trans (hR.mono (by omega))
      have hsz' : a.tmps.size = 45 := hf.size
      have hus : u29.heap.size ≤ u.heap.size := hR.size
      rcases i with _ | _ | _ | _ | _ | i
      · obtain rfl := Option.some.inj ho
        clear he
        have q1 : a.tmps.getD 7 undef = .pointer (some ⟨u13.heap.size, 0, none⟩) := hf.at_ 7 (by kernel_rfl)
        obtain ⟨c0, c1, c2⟩ := X0_30.below hR (by omega)
        go_simp
        exact hK _ _ (Below.refl _ _) (getD_put_self a 35 _ (by show _ < a.tmps.size; omega))
      · obtain rfl := Option.some.inj ho
        clear he
        have q1 : a.tmps.getD 2 undef = .pointer (some ⟨w.heap.size, 0, none⟩) := hf.at_ 2 (by kernel_rfl)
        obtain ⟨c0, c1, c2⟩ := P0_30.below hR (by omega)
        go_simp
        exact hK _ _ (Below.refl _ _) (getD_put_self a 36 _ (by show _ < a.tmps.size; omega))
      · obtain rfl := Option.some.inj ho
        have q1 : a.tmps.getD 36 undef = .agg #[.int .i64 d0.steps, .slice paA0 d0.ts.length caA0, .slice pbA0 d0.acts.length cbA0] := he _ (Array.mem_of_getElem? (i := 0) rfl) (by kernel_rfl) _ rfl
        clear he
        go_simp
        refine (toChart_any _ _ _ _ d0 (R0.out.below hRw (Nat.le_refl _)) (by omega) nb0).mono ?_
        rintro e1 u' ⟨m', rfl, HO, hbu⟩
        exact hK _ _ hbu ⟨_, _, Nat.le_refl _, by show HOc _ _ _ ((a.put (some 37) m').tmps.getD 37 undef) d0; rw [getD_put_self a 37 _ (by show _ < a.tmps.size; omega)]; exact HO⟩
      · obtain rfl := Option.some.inj ho
        have q35 : a.tmps.getD 35 undef = .agg #[.int .i64 d0.steps, .slice paT13 d0.ts.length caT13, .slice pbT13 d0.acts.length cbT13] := he _ (Array.mem_of_getElem? (i := 0) rfl) (by kernel_rfl) _ rfl
        obtain ⟨lo37, hi37, hh37, HO37⟩ := he _ (Array.mem_of_getElem? (i := 1) rfl) (by kernel_rfl) _ rfl
        have HO37 : HOc u lo37 hi37 (a.tmps.getD 37 undef) d0 := HO37
        obtain ⟨mm37, em37⟩ : ∃ mm, a.tmps.getD 37 undef = mm := ⟨_, rfl⟩
        rw [em37] at HO37
        clear he
        go_simp
        refine (eqChart_same _ _ _ _ _ _ _ d0 (O13_30.below hR (by omega)).hi HO37.hi (by omega) hh37).mono ?_
        rintro e1 u' ⟨rfl, hbu⟩
        exact hK _ _ hbu (getD_put_self a 38 _ (by show _ < a.tmps.size; omega))
      · obtain rfl := Option.some.inj ho
        have q1 : a.tmps.getD 38 undef = .bool true := he _ (Array.mem_of_getElem? (i := 0) rfl) (by kernel_rfl) _ rfl
        clear he
        go_simp
        exact hK _ _ (Below.refl _ _) (getD_put_self a 39 _ (by show _ < a.tmps.size; omega))
      · exact absurd ho (by simp)
    · intro a u31 hf hR0 hp
      have g31 : Grow u29 u31 := (Below.drew (Below.refl _ _)).trans hR0
      have md : a.defers = [] := hf.defers
      have m3 : a.tmps.getD 3 undef = .pointer (some ⟨w.heap.size + 1, 0, none⟩) := hf.at_ 3 (by kernel_rfl)
      have m8 : a.tmps.getD 8 undef = .pointer (some ⟨u21.heap.size, 0, none⟩) := hf.at_ 8 (by kernel_rfl)
      have m39 : a.tmps.getD 39 undef = .bool false := hp 4 _ rfl
      obtain ⟨f, ea, hfv⟩ := act_lit a 45 hf.size
      rw [← hfv] at m3 m8 m39
      rw [md] at ea
      simp only [List.range, List.range.loop, List.map_cons, List.map_nil, m3, m8, m39] at ea
      subst ea
      clear hfv hf md hp hR0
      have P0_32 := P0_30.below g31 (by omega)
      have P1_32 := P1_30.below g31 (by omega)
      have O13_32 := O13_30.below g31 (by omega)
      have X0_32 := X0_30.below g31 (by omega)
      have O21_32 := O21_30.below g31 (by omega)
      have X1_32 := X1_30.below g31 (by omega)
      have hb_32 := hb_30.trans (g31.mono (by omega))
      have sz_32 := g31.size
      clear P0_30 P1_30 O13_30 X0_30 O21_30 X1_30 hb_30 g31
      go_wp2_with fail
      refine wp_region_dag (R := Grow) (Φ := fun i v u => match i with
          | 0 => v = .agg #[.int .i64 d1.steps, .slice paT21 d1.ts.length caT21, .slice pbT21 d1.acts.length cbT21]
          | 1 => v = .agg #[.int .i64 d1.steps, .slice paA1 d1.ts.length caA1, .slice pbA1 d1.acts.length cbA1]
          | 2 => ∃ lo' hi', hi' ≤ u.heap.size ∧ HOc u lo' hi' v d1
          | 3 => v = .bool true
          | 4 => v = .bool false
          | _ => True) (by kernel_rfl) (by kernel_rfl) (by kernel_rfl) (Below.refl _ _) grow_trans ?_ ?_ ?_
      · intro i v u u' hr
        match i with
        | 0 | 1 | 3 | 4 | _ + 5 => exact fun h => h
        | 2 => exact fun ⟨lo', hi', h1, h2⟩ => ⟨lo', hi', Nat.le_trans h1 hr.size, h2.below hr h1⟩
      · intro i o ho a u hf hR0 he K' hK
        have hR : Grow u31 u := (Below.drew (Below.refl _ _)).trans hR0
        have hRw : Below w.heap.size w u := hb_32.trans (hR.mono (by omega))
        have hsz' : a.tmps.size = 45 := hf.size
        have hus : u31.heap.size ≤ u.heap.size := hR.size
        rcases i with _ | _ | _ | _ | _ | i
        · obtain rfl := Option.some.inj ho
          clear he
          have q1 : a.tmps.getD 8 undef = .pointer (some ⟨u21.heap.size, 0, none⟩) := hf.at_ 8 (by kernel_rfl)
          obtain ⟨c0, c1, c2⟩ := X1_32.below hR (by omega)
          go_simp
          exact hK _ _ (Below.refl _ _) (getD_put_self a 40 _ (by show _ < a.tmps.size; omega))
        · obtain rfl := Option.some.inj ho
          clear he
          have q1 : a.tmps.getD 3 undef = .pointer (some ⟨w.heap.size + 1, 0, none⟩) := hf.at_ 3 (by kernel_rfl)
          obtain ⟨c0, c1, c2⟩ := P1_32.below hR (by omega)
          go_simp
          exact hK _ _ (Below.refl _ _) (getD_put_self a 41 _ (by show _ < a.tmps.size; omega))
        · obtain rfl := Option.some.inj ho
          have q1 : a.tmps.getD 41 undef = .agg #[.int .i64 d1.steps, .slice paA1 d1.ts.length caA1, .slice pbA1 d1.acts.length cbA1] := he _ (Array.mem_of_getElem? (i := 0) rfl) (by kernel_rfl) _ rfl
          clear he
          go_simp
          refine (toChart_any _ _ _ _ d1 (R1.out.below hRw (Nat.le_refl _)) (by omega) nb1).mono ?_
          rintro e1 u' ⟨m', rfl, HO, hbu⟩
          exact hK _ _ hbu ⟨_, _, Nat.le_refl _, by show HOc _ _ _ ((a.put (some 42) m').tmps.getD 42 undef) d1; rw [getD_put_self a 42 _ (by show _ < a.tmps.size; omega)]; exact HO⟩
        · obtain rfl := Option.some.inj ho
          have q40 : a.tmps.getD 40 undef = .agg #[.int .i64 d1.steps, .slice paT21 d1.ts.length caT21, .slice pbT21 d1.acts.length cbT21] := he _ (Array.mem_of_getElem? (i := 0) rfl) (by kernel_rfl) _ rfl
          obtain ⟨lo42, hi42, hh42, HO42⟩ := he _ (Array.mem_of_getElem? (i := 1) rfl) (by kernel_rfl) _ rfl
          have HO42 : HOc u lo42 hi42 (a.tmps.getD 42 undef) d1 := HO42
          obtain ⟨mm42, em42⟩ : ∃ mm, a.tmps.getD 42 undef = mm := ⟨_, rfl⟩
          rw [em42] at HO42
          clear he
          go_simp
          refine (eqChart_same _ _ _ _ _ _ _ d1 (O21_32.below hR (by omega)).hi HO42.hi (by omega) hh42).mono ?_
          rintro e1 u' ⟨rfl, hbu⟩
          exact hK _ _ hbu (getD_put_self a 43 _ (by show _ < a.tmps.size; omega))
        · obtain rfl := Option.some.inj ho
          have q1 : a.tmps.getD 43 undef = .bool true := he _ (Array.mem_of_getElem? (i := 0) rfl) (by kernel_rfl) _ rfl
          clear he
          go_simp
          exact hK _ _ (Below.refl _ _) (getD_put_self a 44 _ (by show _ < a.tmps.size; omega))
        · exact absurd ho (by simp)
      · intro a u33 hf hR0 hp
        have g33 : Grow u31 u33 := (Below.drew (Below.refl _ _)).trans hR0
        have md : a.defers = [] := hf.defers
        have m44 : a.tmps.getD 44 undef = .bool false := hp 4 _ rfl
        obtain ⟨f, ea, hfv⟩ := act_lit a 45 hf.size
        rw [← hfv] at m44
        rw [md] at ea
        simp only [List.range, List.range.loop, List.map_cons, List.map_nil, m44] at ea
        subst ea
        clear hfv hf md hp hR0
        have P0_34 := P0_32.below g33 (by omega)
        have P1_34 := P1_32.below g33 (by omega)
        have O13_34 := O13_32.below g33 (by omega)
        have X0_34 := X0_32.below g33 (by omega)
        have O21_34 := O21_32.below g33 (by omega)
        have X1_34 := X1_32.below g33 (by omega)
        have hb_34 := hb_32.trans (g33.mono (by omega))
        have sz_34 := g33.size
        clear P0_32 P1_32 O13_32 X0_32 O21_32 X1_32 hb_32 g33
        clear P0_34 P1_34 O13_34 X0_34 O21_34 X1_34
        go_wp2
        go_ret
        exact ⟨rfl, hb_34⟩
end Go.Proofs.Ytokphdpaghkakaa
