/-
  FnExactPlcSame, walked at every argument, given what the program's PlcSame answers. (Written by our generator exactgen.py.)
-/
import Derived.Test.YtaoiookfmgpmkaaPM9
import Derived.Test.YtaoiookfmgpmkaaPlcSameS
namespace Go.Proofs.Ytaoiookfmgpmkaa
open Go.ChangeShapes Go.WideShapes Go.ChangeAt Go.RowKit
set_option linter.unusedVariables false

set_option maxRecDepth 100000 in
set_option maxHeartbeats 8000000 in
theorem exactPlcSame_walk
    (impl : ∀ (w : World) (m0 : Value) (lo0 hi0 : Nat) (d0 : PlcD) (m1 : Value) (lo1 hi1 : Nat) (d1 : PlcD), PO w lo0 hi0 m0 d0 → hi0 ≤ w.heap.size → d0.many ≤ 1048576 → PI w lo1 hi1 m1 d1 → hi1 ≤ w.heap.size → d1.many ≤ 1048576 → Calls Try.prog 7 #[m0, m1] w fun e w' => ∃ r : Bool, e = .returned (.bool r) ∧ (r = true ↔ d0 = d1) ∧ Below w.heap.size w w')
    (w : World) (v0 : Value) (d0 : PlcD) (r0 : PI w 0 w.heap.size v0 d0) (v1 : Value) (d1 : PlcD) (r1 : PI w 0 w.heap.size v1 d1) :
    Calls Try.prog 3 #[v0, v1] w fun e w' => e = .returned (.bool true) ∧ Below w.heap.size w w' := by
  obtain ⟨csA0, hlA0, rfl⟩ := r0.opq
  have R0 : Hid (PI w 0 w.heap.size (.agg csA0.toArray) d0) := r0
  clear r0
  obtain ⟨csA1, hlA1, rfl⟩ := r1.opq
  have R1 : Hid (PI w 0 w.heap.size (.agg csA1.toArray) d1) := r1
  clear r1
  go_enter Try.func3, Try.ntmps3
  go_wp2_with (refine wpList_boxG (vs := csA0) rfl _ rfl rfl ?_)
  intro w0 gw0 P0 sw0
  go_wp2_with (refine wpList_boxG (vs := csA1) rfl _ rfl rfl ?_)
  intro w1 gw1 P1 sw1
  have P0 := P0.below gw1 (by omega)
  have hb := gw0.trans (gw1.mono (by omega))
  clear gw0 gw1
  go_wp2_with (first
    | refine wpList_loadG Try.isAgg41 Try.sizeOf41 (vs := csA0) _ rfl rfl rfl hlA0 P0.c ?_)
  refine (szPlc_any _ _ _ _ d0 (1048576) (R0.out.below hb (Nat.le_refl _)) (by omega) (by omega) (by omega)).mono ?_
  by_cases big0 : (1048576 : Int) < (d0.many : Int)
  · rw [if_pos big0]
    rintro e1 q1 ⟨rfl, g1⟩
    have hbq := hb.trans (g1.mono (by omega))
    clear g1 P0 P1
    go_wp2
    go_ret
    exact ⟨rfl, hbq⟩
  rw [if_neg big0]
  rintro e1 u1 ⟨rfl, g1⟩
  have P0_2 := P0.below g1 (by omega)
  have P1_2 := P1.below g1 (by omega)
  have hb_2 := hb.trans (g1.mono (by omega))
  have sz_2 := g1.size
  clear P0 P1 hb g1
  have np0 : ¬ ((1048576 - (d0.many : Int) : Int) < 0) := by omega
  go_wp2_with (first
    | refine wpList_loadG Try.isAgg41 Try.sizeOf41 (vs := csA1) _ rfl rfl rfl hlA1 P1_2.c ?_)
  refine (szPlc_any _ _ _ _ d1 (1048576 - (d0.many : Int)) (R1.out.below hb_2 (Nat.le_refl _)) (by omega) (by omega) (by omega)).mono ?_
  by_cases big1 : (1048576 - (d0.many : Int) : Int) < (d1.many : Int)
  · rw [if_pos big1]
    rintro e1 q1 ⟨rfl, g1⟩
    have hbq := hb_2.trans (g1.mono (by omega))
    clear g1 P0_2 P1_2
    go_wp2
    go_ret
    exact ⟨rfl, hbq⟩
  rw [if_neg big1]
  rintro e1 u3 ⟨rfl, g3⟩
  have P0_4 := P0_2.below g3 (by omega)
  have P1_4 := P1_2.below g3 (by omega)
  have hb_4 := hb_2.trans (g3.mono (by omega))
  have sz_4 := g3.size
  clear P0_2 P1_2 hb_2 g3
  have np1 : ¬ ((1048576 - (d0.many : Int) - (d1.many : Int) : Int) < 0) := by omega
  have nb0 : d0.many ≤ 1048576 := by omega
  have nb1 : d1.many ≤ 1048576 := by omega
  go_wp2_with fail
  refine wp_region_dag (R := Grow) (Φ := fun i v u => match i with
      | 0 => v = .agg csA0.toArray
      | 1 => ∃ lo' hi', hi' ≤ u.heap.size ∧ PO u lo' hi' v d0
      | 2 => v = .agg csA1.toArray
      | 3 => ∃ lo' hi', hi' ≤ u.heap.size ∧ PO u lo' hi' v d1
      | 4 => ∃ rr : Bool, v = .bool rr ∧ (rr = true ↔ d0 = d1)
      | 5 => ∃ rr : Bool, v = .bool rr ∧ (rr = true ↔ d0 = d1)
      | _ => True) (by kernel_rfl) (by kernel_rfl) (by kernel_rfl) (Below.refl _ _) grow_trans ?_ ?_ ?_
  · intro i v u u' hr
    match i with
    | 0 | 2 | 4 | 5 | _ + 6 => exact fun h => h
    | 1 => exact fun ⟨lo', hi', h1, h2⟩ => ⟨lo', hi', Nat.le_trans h1 hr.size, h2.below hr h1⟩
    | 3 => exact fun ⟨lo', hi', h1, h2⟩ => ⟨lo', hi', Nat.le_trans h1 hr.size, h2.below hr h1⟩
  · intro i o ho a u hf hR0 he K' hK
    have hR : Grow u3 u := (Below.drew (Below.refl _ _)).trans hR0
    have hRw : Below w.heap.size w u := hb_4.trans (hR.mono (by omega))
    have hsz' : a.tmps.size = 45 := hf.size
    have hus : u3.heap.size ≤ u.heap.size := hR.size
    rcases i with _ | _ | _ | _ | _ | _ | i
    · obtain rfl := Option.some.inj ho
      clear he
      have q1 : a.tmps.getD 2 undef = .pointer (some ⟨w.heap.size, 0, none⟩) := hf.at_ 2 (by kernel_rfl)
      refine wantedG rfl (wp_loadG Try.isAgg41 Try.sizeOf41 (vs := csA0) _ rfl q1 hlA0 ((P0_4.below hR (by omega)).c) ?_)
      exact hK _ _ (Below.refl _ _) (getD_put_self a 20 _ (by show _ < a.tmps.size; omega))
    · obtain rfl := Option.some.inj ho
      have q1 : a.tmps.getD 20 undef = .agg csA0.toArray := he _ (Array.mem_of_getElem? (i := 0) rfl) (by kernel_rfl) _ rfl
      clear he
      go_simp
      refine (toPlc_any _ _ _ _ d0 (R0.out.below hRw (Nat.le_refl _)) (by omega) nb0).mono ?_
      rintro e1 u' ⟨m', rfl, HO, hbu⟩
      exact hK _ _ hbu ⟨_, _, Nat.le_refl _, by show PO _ _ _ ((a.put (some 21) m').tmps.getD 21 undef) d0; rw [getD_put_self a 21 _ (by show _ < a.tmps.size; omega)]; exact HO⟩
    · obtain rfl := Option.some.inj ho
      clear he
      have q1 : a.tmps.getD 3 undef = .pointer (some ⟨w.heap.size + 1, 0, none⟩) := hf.at_ 3 (by kernel_rfl)
      refine wantedG rfl (wp_loadG Try.isAgg41 Try.sizeOf41 (vs := csA1) _ rfl q1 hlA1 ((P1_4.below hR (by omega)).c) ?_)
      exact hK _ _ (Below.refl _ _) (getD_put_self a 22 _ (by show _ < a.tmps.size; omega))
    · obtain rfl := Option.some.inj ho
      have q1 : a.tmps.getD 22 undef = .agg csA1.toArray := he _ (Array.mem_of_getElem? (i := 0) rfl) (by kernel_rfl) _ rfl
      clear he
      go_simp
      refine (toPlc_any _ _ _ _ d1 (R1.out.below hRw (Nat.le_refl _)) (by omega) nb1).mono ?_
      rintro e1 u' ⟨m', rfl, HO, hbu⟩
      exact hK _ _ hbu ⟨_, _, Nat.le_refl _, by show PO _ _ _ ((a.put (some 23) m').tmps.getD 23 undef) d1; rw [getD_put_self a 23 _ (by show _ < a.tmps.size; omega)]; exact HO⟩
    · obtain rfl := Option.some.inj ho
      obtain ⟨lo21, hi21, hh21, HO21⟩ := he _ (Array.mem_of_getElem? (i := 0) rfl) (by kernel_rfl) _ rfl
      have HO21 : PO u lo21 hi21 (a.tmps.getD 21 undef) d0 := HO21
      obtain ⟨mm21, em21⟩ : ∃ mm, a.tmps.getD 21 undef = mm := ⟨_, rfl⟩
      rw [em21] at HO21
      obtain ⟨lo23, hi23, hh23, HO23⟩ := he _ (Array.mem_of_getElem? (i := 1) rfl) (by kernel_rfl) _ rfl
      have HO23 : PO u lo23 hi23 (a.tmps.getD 23 undef) d1 := HO23
      obtain ⟨mm23, em23⟩ : ∃ mm, a.tmps.getD 23 undef = mm := ⟨_, rfl⟩
      rw [em23] at HO23
      clear he
      go_simp
      refine (sPlcSame_any _ _ _ _ _ _ _ d0 d1 HO21.r HO23.r hh21 hh23).mono ?_
      rintro e1 u' ⟨rr, rfl, hrr, hbu⟩
      exact hK _ _ hbu ⟨rr, (getD_put_self a 24 _ (by show _ < a.tmps.size; omega)), hrr⟩
    · obtain rfl := Option.some.inj ho
      obtain ⟨rr, q1, hrr⟩ := he _ (Array.mem_of_getElem? (i := 0) rfl) (by kernel_rfl) _ rfl
      have q1 : a.tmps.getD 24 undef = .bool rr := q1
      clear he
      go_simp
      exact hK _ _ (Below.refl _ _) ⟨rr, (getD_put_self a 6 _ (by show _ < a.tmps.size; omega)), hrr⟩
    · exact absurd ho (by simp)
  · intro a u5 hf hR0 hp
    have g5 : Grow u3 u5 := (Below.drew (Below.refl _ _)).trans hR0
    have md : a.defers = [] := hf.defers
    have m2 : a.tmps.getD 2 undef = .pointer (some ⟨w.heap.size, 0, none⟩) := hf.at_ 2 (by kernel_rfl)
    have m3 : a.tmps.getD 3 undef = .pointer (some ⟨w.heap.size + 1, 0, none⟩) := hf.at_ 3 (by kernel_rfl)
    obtain ⟨r1, m6, hr1⟩ := hp 5 _ rfl
    have m6 : a.tmps.getD 6 undef = .bool r1 := m6
    obtain ⟨f, ea, hfv⟩ := act_lit a 45 hf.size
    rw [← hfv] at m2 m3 m6
    rw [md] at ea
    simp only [List.range, List.range.loop, List.map_cons, List.map_nil, m2, m3, m6] at ea
    subst ea
    clear hfv hf md hp hR0
    have P0_6 := P0_4.below g5 (by omega)
    have P1_6 := P1_4.below g5 (by omega)
    have hb_6 := hb_4.trans (g5.mono (by omega))
    have sz_6 := g5.size
    clear P0_4 P1_4 hb_4 g5
    go_wp2_with (first
      | refine wpList_loadG Try.isAgg41 Try.sizeOf41 (vs := csA0) _ rfl rfl rfl hlA0 P0_6.c ?_)
    refine (toPlc_any _ _ _ _ d0 (R0.out.below hb_6 (Nat.le_refl _)) (by omega) nb0).mono ?_
    rintro e1 u7 ⟨m', rfl, O7, g7⟩
    obtain ⟨csT7, hlT7, rfl⟩ := O7.r.opq
    have P0_8 := P0_6.below g7 (by omega)
    have P1_8 := P1_6.below g7 (by omega)
    have hb_8 := hb_6.trans (g7.mono (by omega))
    have sz_8 := g7.size
    clear P0_6 P1_6 hb_6 g7
    have hone9 := pi_one (vs := csT7) O7.r
    go_wp2_with (refine wpList_allocG (zero_of_info (P := Try.prog) zero_plcT).1 rfl rfl ?_)
    intro a9 ga9 va9 sa9
    have hrun9 := va9.run 0 15 (show 0 + 15 ≤ 15 by decide)
    go_wp2_with (refine wpList_storeG Try.sizeOf59 (vs := csT7) _ _ rfl rfl rfl rfl hlT7 hone9 (fun y h1 h2 => hrun9.1 y h1 (by omega)) (fun y h1 h2 => hrun9.2 y h1 (by omega)) ?_)
    intro u9 L9
    have Y9 := L9.var va9
    have g9 : Below u7.heap.size u7 u9 := L9.below _ _ (Nat.le_refl _) ga9
    have sz9 : u9.heap.size = u7.heap.size + 1 := by rw [L9.size]; exact sa9
    clear hone9 hrun9 va9 ga9 sa9 L9
    have P0_10 := P0_8.below g9 (by omega)
    have P1_10 := P1_8.below g9 (by omega)
    have O7_10 := O7.below g9 (by omega)
    have hb_10 := hb_8.trans (g9.mono (by omega))
    have sz_10 := g9.size
    clear P0_8 P1_8 O7 hb_8 g9
    go_wp2_with (first
      | refine wpList_loadG Try.isAgg41 Try.sizeOf41 (vs := csA1) _ rfl rfl rfl hlA1 P1_10.c ?_)
    refine (toPlc_any _ _ _ _ d1 (R1.out.below hb_10 (Nat.le_refl _)) (by omega) nb1).mono ?_
    rintro e1 u11 ⟨m', rfl, O11, g11⟩
    obtain ⟨csT11, hlT11, rfl⟩ := O11.r.opq
    have P0_12 := P0_10.below g11 (by omega)
    have P1_12 := P1_10.below g11 (by omega)
    have O7_12 := O7_10.below g11 (by omega)
    have X0_12 := Y9.below g11 (by omega)
    have hb_12 := hb_10.trans (g11.mono (by omega))
    have sz_12 := g11.size
    clear P0_10 P1_10 O7_10 Y9 hb_10 g11
    have hone13 := pi_one (vs := csT11) O11.r
    go_wp2_with (refine wpList_allocG (zero_of_info (P := Try.prog) zero_plcT).1 rfl rfl ?_)
    intro a13 ga13 va13 sa13
    have hrun13 := va13.run 0 15 (show 0 + 15 ≤ 15 by decide)
    go_wp2_with (refine wpList_storeG Try.sizeOf59 (vs := csT11) _ _ rfl rfl rfl rfl hlT11 hone13 (fun y h1 h2 => hrun13.1 y h1 (by omega)) (fun y h1 h2 => hrun13.2 y h1 (by omega)) ?_)
    intro u13 L13
    have Y13 := L13.var va13
    have g13 : Below u11.heap.size u11 u13 := L13.below _ _ (Nat.le_refl _) ga13
    have sz13 : u13.heap.size = u11.heap.size + 1 := by rw [L13.size]; exact sa13
    clear hone13 hrun13 va13 ga13 sa13 L13
    have P0_14 := P0_12.below g13 (by omega)
    have P1_14 := P1_12.below g13 (by omega)
    have O7_14 := O7_12.below g13 (by omega)
    have X0_14 := X0_12.below g13 (by omega)
    have O11_14 := O11.below g13 (by omega)
    have hb_14 := hb_12.trans (g13.mono (by omega))
    have sz_14 := g13.size
    clear P0_12 P1_12 O7_12 X0_12 O11 hb_12 g13
    go_wp2_with (first
      | refine wpList_loadG Try.isAgg59 Try.sizeOf59 (vs := csT7) _ rfl rfl rfl hlT7 X0_14.c ?_
      | refine wpList_loadG Try.isAgg59 Try.sizeOf59 (vs := csT11) _ rfl rfl rfl hlT11 Y13.c ?_)
    refine (impl _ _ _ _ d0 _ _ _ d1 O7_14 (by omega) nb0 O11_14.r (by omega) nb1).mono ?_
    rintro e1 u15 ⟨r2, rfl, hr2, g15⟩
    obtain rfl : r2 = r1 := Bool.eq_iff_iff.mpr (hr2.trans hr1.symm)
    have P0_16 := P0_14.below g15 (by omega)
    have P1_16 := P1_14.below g15 (by omega)
    have O7_16 := O7_14.below g15 (by omega)
    have X0_16 := X0_14.below g15 (by omega)
    have O11_16 := O11_14.below g15 (by omega)
    have X1_16 := Y13.below g15 (by omega)
    have hb_16 := hb_14.trans (g15.mono (by omega))
    have sz_16 := g15.size
    clear P0_14 P1_14 O7_14 X0_14 O11_14 Y13 hb_14 g15
    go_wp2_with fail
    refine wp_region_dag (R := Grow) (Φ := fun i v u => match i with
        | 0 => v = .agg csT7.toArray
        | 1 => v = .agg csA0.toArray
        | 2 => ∃ lo' hi', hi' ≤ u.heap.size ∧ PO u lo' hi' v d0
        | 3 => v = .bool true
        | 4 => v = .bool false
        | _ => True) (by kernel_rfl) (by kernel_rfl) (by kernel_rfl) (Below.refl _ _) grow_trans ?_ ?_ ?_
    · intro i v u u' hr
      match i with
      | 0 | 1 | 3 | 4 | _ + 5 => exact fun h => h
      | 2 => exact fun ⟨lo', hi', h1, h2⟩ => ⟨lo', hi', Nat.le_trans h1 hr.size, h2.below hr h1⟩
    · intro i o ho a u hf hR0 he K' hK
      have hR : Grow u15 u := (Below.drew (Below.refl _ _)).trans hR0
      have hRw : Below w.heap.size w u := hb_16.trans (hR.mono (by omega))
      have hsz' : a.tmps.size = 45 := hf.size
      have hus : u15.heap.size ≤ u.heap.size := hR.size
      rcases i with _ | _ | _ | _ | _ | i
      · obtain rfl := Option.some.inj ho
        clear he
        have q1 : a.tmps.getD 7 undef = .pointer (some ⟨u7.heap.size, 0, none⟩) := hf.at_ 7 (by kernel_rfl)
        refine wantedG rfl (wp_loadG Try.isAgg59 Try.sizeOf59 (vs := csT7) _ rfl q1 hlT7 ((X0_16.below hR (by omega)).c) ?_)
        exact hK _ _ (Below.refl _ _) (getD_put_self a 35 _ (by show _ < a.tmps.size; omega))
      · obtain rfl := Option.some.inj ho
        clear he
        have q1 : a.tmps.getD 2 undef = .pointer (some ⟨w.heap.size, 0, none⟩) := hf.at_ 2 (by kernel_rfl)
        refine wantedG rfl (wp_loadG Try.isAgg41 Try.sizeOf41 (vs := csA0) _ rfl q1 hlA0 ((P0_16.below hR (by omega)).c) ?_)
        exact hK _ _ (Below.refl _ _) (getD_put_self a 36 _ (by show _ < a.tmps.size; omega))
      · obtain rfl := Option.some.inj ho
        have q1 : a.tmps.getD 36 undef = .agg csA0.toArray := he _ (Array.mem_of_getElem? (i := 0) rfl) (by kernel_rfl) _ rfl
        clear he
        go_simp
        refine (toPlc_any _ _ _ _ d0 (R0.out.below hRw (Nat.le_refl _)) (by omega) nb0).mono ?_
        rintro e1 u' ⟨m', rfl, HO, hbu⟩
        exact hK _ _ hbu ⟨_, _, Nat.le_refl _, by show PO _ _ _ ((a.put (some 37) m').tmps.getD 37 undef) d0; rw [getD_put_self a 37 _ (by show _ < a.tmps.size; omega)]; exact HO⟩
      · obtain rfl := Option.some.inj ho
        have q35 : a.tmps.getD 35 undef = .agg csT7.toArray := he _ (Array.mem_of_getElem? (i := 0) rfl) (by kernel_rfl) _ rfl
        obtain ⟨lo37, hi37, hh37, HO37⟩ := he _ (Array.mem_of_getElem? (i := 1) rfl) (by kernel_rfl) _ rfl
        have HO37 : PO u lo37 hi37 (a.tmps.getD 37 undef) d0 := HO37
        obtain ⟨mm37, em37⟩ : ∃ mm, a.tmps.getD 37 undef = mm := ⟨_, rfl⟩
        rw [em37] at HO37
        clear he
        go_simp
        refine (eqPlc_same _ _ _ _ _ _ _ d0 (O7_16.below hR (by omega)).r HO37.r (by omega) hh37).mono ?_
        rintro e1 u' ⟨rfl, hbu⟩
        exact hK _ _ hbu (getD_put_self a 38 _ (by show _ < a.tmps.size; omega))
      · obtain rfl := Option.some.inj ho
        have q1 : a.tmps.getD 38 undef = .bool true := he _ (Array.mem_of_getElem? (i := 0) rfl) (by kernel_rfl) _ rfl
        clear he
        go_simp
        exact hK _ _ (Below.refl _ _) (getD_put_self a 39 _ (by show _ < a.tmps.size; omega))
      · exact absurd ho (by simp)
    · intro a u17 hf hR0 hp
      have g17 : Grow u15 u17 := (Below.drew (Below.refl _ _)).trans hR0
      have md : a.defers = [] := hf.defers
      have m3 : a.tmps.getD 3 undef = .pointer (some ⟨w.heap.size + 1, 0, none⟩) := hf.at_ 3 (by kernel_rfl)
      have m8 : a.tmps.getD 8 undef = .pointer (some ⟨u11.heap.size, 0, none⟩) := hf.at_ 8 (by kernel_rfl)
      have m39 : a.tmps.getD 39 undef = .bool false := hp 4 _ rfl
      obtain ⟨f, ea, hfv⟩ := act_lit a 45 hf.size
      rw [← hfv] at m3 m8 m39
      rw [md] at ea
      simp only [List.range, List.range.loop, List.map_cons, List.map_nil, m3, m8, m39] at ea
      subst ea
      clear hfv hf md hp hR0
      have P0_18 := P0_16.below g17 (by omega)
      have P1_18 := P1_16.below g17 (by omega)
      have O7_18 := O7_16.below g17 (by omega)
      have X0_18 := X0_16.below g17 (by omega)
      have O11_18 := O11_16.below g17 (by omega)
      have X1_18 := X1_16.below g17 (by omega)
      have hb_18 := hb_16.trans (g17.mono (by omega))
      have sz_18 := g17.size
      clear P0_16 P1_16 O7_16 X0_16 O11_16 X1_16 hb_16 g17
      go_wp2_with fail
      refine wp_region_dag (R := Grow) (Φ := fun i v u => match i with
          | 0 => v = .agg csT11.toArray
          | 1 => v = .agg csA1.toArray
          | 2 => ∃ lo' hi', hi' ≤ u.heap.size ∧ PO u lo' hi' v d1
          | 3 => v = .bool true
          | 4 => v = .bool false
          | _ => True) (by kernel_rfl) (by kernel_rfl) (by kernel_rfl) (Below.refl _ _) grow_trans ?_ ?_ ?_
      · intro i v u u' hr
        match i with
        | 0 | 1 | 3 | 4 | _ + 5 => exact fun h => h
        | 2 => exact fun ⟨lo', hi', h1, h2⟩ => ⟨lo', hi', Nat.le_trans h1 hr.size, h2.below hr h1⟩
      · intro i o ho a u hf hR0 he K' hK
        have hR : Grow u17 u := (Below.drew (Below.refl _ _)).trans hR0
        have hRw : Below w.heap.size w u := hb_18.trans (hR.mono (by omega))
        have hsz' : a.tmps.size = 45 := hf.size
        have hus : u17.heap.size ≤ u.heap.size := hR.size
        rcases i with _ | _ | _ | _ | _ | i
        · obtain rfl := Option.some.inj ho
          clear he
          have q1 : a.tmps.getD 8 undef = .pointer (some ⟨u11.heap.size, 0, none⟩) := hf.at_ 8 (by kernel_rfl)
          refine wantedG rfl (wp_loadG Try.isAgg59 Try.sizeOf59 (vs := csT11) _ rfl q1 hlT11 ((X1_18.below hR (by omega)).c) ?_)
          exact hK _ _ (Below.refl _ _) (getD_put_self a 40 _ (by show _ < a.tmps.size; omega))
        · obtain rfl := Option.some.inj ho
          clear he
          have q1 : a.tmps.getD 3 undef = .pointer (some ⟨w.heap.size + 1, 0, none⟩) := hf.at_ 3 (by kernel_rfl)
          refine wantedG rfl (wp_loadG Try.isAgg41 Try.sizeOf41 (vs := csA1) _ rfl q1 hlA1 ((P1_18.below hR (by omega)).c) ?_)
          exact hK _ _ (Below.refl _ _) (getD_put_self a 41 _ (by show _ < a.tmps.size; omega))
        · obtain rfl := Option.some.inj ho
          have q1 : a.tmps.getD 41 undef = .agg csA1.toArray := he _ (Array.mem_of_getElem? (i := 0) rfl) (by kernel_rfl) _ rfl
          clear he
          go_simp
          refine (toPlc_any _ _ _ _ d1 (R1.out.below hRw (Nat.le_refl _)) (by omega) nb1).mono ?_
          rintro e1 u' ⟨m', rfl, HO, hbu⟩
          exact hK _ _ hbu ⟨_, _, Nat.le_refl _, by show PO _ _ _ ((a.put (some 42) m').tmps.getD 42 undef) d1; rw [getD_put_self a 42 _ (by show _ < a.tmps.size; omega)]; exact HO⟩
        · obtain rfl := Option.some.inj ho
          have q40 : a.tmps.getD 40 undef = .agg csT11.toArray := he _ (Array.mem_of_getElem? (i := 0) rfl) (by kernel_rfl) _ rfl
          obtain ⟨lo42, hi42, hh42, HO42⟩ := he _ (Array.mem_of_getElem? (i := 1) rfl) (by kernel_rfl) _ rfl
          have HO42 : PO u lo42 hi42 (a.tmps.getD 42 undef) d1 := HO42
          obtain ⟨mm42, em42⟩ : ∃ mm, a.tmps.getD 42 undef = mm := ⟨_, rfl⟩
          rw [em42] at HO42
          clear he
          go_simp
          refine (eqPlc_same _ _ _ _ _ _ _ d1 (O11_18.below hR (by omega)).r HO42.r (by omega) hh42).mono ?_
          rintro e1 u' ⟨rfl, hbu⟩
          exact hK _ _ hbu (getD_put_self a 43 _ (by show _ < a.tmps.size; omega))
        · obtain rfl := Option.some.inj ho
          have q1 : a.tmps.getD 43 undef = .bool true := he _ (Array.mem_of_getElem? (i := 0) rfl) (by kernel_rfl) _ rfl
          clear he
          go_simp
          exact hK _ _ (Below.refl _ _) (getD_put_self a 44 _ (by show _ < a.tmps.size; omega))
        · exact absurd ho (by simp)
      · intro a u19 hf hR0 hp
        have g19 : Grow u17 u19 := (Below.drew (Below.refl _ _)).trans hR0
        have md : a.defers = [] := hf.defers
        have m44 : a.tmps.getD 44 undef = .bool false := hp 4 _ rfl
        obtain ⟨f, ea, hfv⟩ := act_lit a 45 hf.size
        rw [← hfv] at m44
        rw [md] at ea
        simp only [List.range, List.range.loop, List.map_cons, List.map_nil, m44] at ea
        subst ea
        clear hfv hf md hp hR0
        have P0_20 := P0_18.below g19 (by omega)
        have P1_20 := P1_18.below g19 (by omega)
        have O7_20 := O7_18.below g19 (by omega)
        have X0_20 := X0_18.below g19 (by omega)
        have O11_20 := O11_18.below g19 (by omega)
        have X1_20 := X1_18.below g19 (by omega)
        have hb_20 := hb_18.trans (g19.mono (by omega))
        have sz_20 := g19.size
        clear P0_18 P1_18 O7_18 X0_18 O11_18 X1_18 hb_18 g19
        clear P0_20 P1_20 O7_20 X0_20 O11_20 X1_20
        go_wp2
        go_ret
        exact ⟨rfl, hb_20⟩
end Go.Proofs.Ytaoiookfmgpmkaa
