/-
  FnExactNetSame, walked at every argument, given what the program's NetSame answers. (Written by our generator exactgen.py.)
-/
import Derived.Test.YtgidhnjkcebabaaLawKitN
import Derived.Test.YtgidhnjkcebabaaNetSame
namespace Go.Proofs.Ytgidhnjkcebabaa
open Go.ChangeShapes Go.WideShapes Go.ChangeAt Go.RowKit
set_option linter.unusedVariables false

set_option maxRecDepth 100000 in
set_option maxHeartbeats 8000000 in
theorem exactNetSame_walk
    (impl : ∀ (w : World) (m0 : Value) (lo0 hi0 : Nat) (d0 : NetD) (m1 : Value) (lo1 hi1 : Nat) (d1 : NetD), NI w lo0 hi0 m0 d0 → hi0 ≤ w.heap.size → d0.many ≤ 1048576 → NI w lo1 hi1 m1 d1 → hi1 ≤ w.heap.size → d1.many ≤ 1048576 → Calls Try.prog 7 #[m0, m1] w fun e w' => e = .returned (.bool (decide (d0 = d1))) ∧ Below w.heap.size w w')
    (w : World) (v0 : Value) (d0 : NetD) (r0 : NI w 0 w.heap.size v0 d0) (v1 : Value) (d1 : NetD) (r1 : NI w 0 w.heap.size v1 d1) :
    Calls Try.prog 3 #[v0, v1] w fun e w' => e = .returned (.bool true) ∧ Below w.heap.size w w' := by
  obtain ⟨paA0, caA0, pbA0, cbA0, rfl⟩ := r0.shape
  have R0 : Hid (NI w 0 w.heap.size (.agg #[.slice paA0 d0.ws.length caA0, .slice pbA0 d0.ds.length cbA0]) d0) := r0
  clear r0
  obtain ⟨paA1, caA1, pbA1, cbA1, rfl⟩ := r1.shape
  have R1 : Hid (NI w 0 w.heap.size (.agg #[.slice paA1 d1.ws.length caA1, .slice pbA1 d1.ds.length cbA1]) d1) := r1
  clear r1
  go_enter Try.func3, Try.ntmps3
  go_wp2_with fail
  obtain ⟨w0, ew0⟩ : ∃ w0, w.alloc (.cells #[.slice paA0 d0.ws.length caA0, .slice pbA0 d0.ds.length cbA0] 25) = w0 := ⟨_, rfl⟩
  have sw0 : w0.heap.size = w.heap.size + 1 := by rw [← ew0]; simp
  have gw0 : Below w.heap.size w w0 := by rw [← ew0]; exact (Below.refl _ _).alloc (Nat.le_refl _) _
  have P0 := bxp_new w (.slice paA0 d0.ws.length caA0) (.slice pbA0 d0.ds.length cbA0) 25
  rw [ew0] at P0 ⊢
  clear ew0
  obtain ⟨w1, ew1⟩ : ∃ w1, w0.alloc (.cells #[.slice paA1 d1.ws.length caA1, .slice pbA1 d1.ds.length cbA1] 25) = w1 := ⟨_, rfl⟩
  have sw1 : w1.heap.size = w0.heap.size + 1 := by rw [← ew1]; simp
  have gw1 : Below w0.heap.size w0 w1 := by rw [← ew1]; exact (Below.refl _ _).alloc (Nat.le_refl _) _
  have P1 := bxp_new w0 (.slice paA1 d1.ws.length caA1) (.slice pbA1 d1.ds.length cbA1) 25
  rw [ew1] at P1 ⊢
  clear ew1
  rw [sw0] at P1
  have P0 := P0.below gw1 (by omega)
  have hb := below_two gw0 gw1
  clear gw0 gw1
  refine (szNet_any _ _ _ _ d0 (1048576) (R0.out.below hb (Nat.le_refl _)) (by omega) (by omega) (by omega)).mono ?_
  by_cases big0 : (1048576 : Int) < (d0.many : Int)
  · rw [if_pos big0]
    rintro e1 q1 ⟨rfl, g1⟩
    have hbq := hb.trans (g1.mono (by omega))
    clear g1 P0 P1
    go_wp2
    go_ret
    exact ⟨rfl, hbq⟩
  rw [if_neg big0]
  rintro e1 u1 ⟨rfl, g1⟩
  have P0_2 := P0.below g1 (by omega)
  have P1_2 := P1.below g1 (by omega)
  have hb_2 := hb.trans (g1.mono (by omega))
  have sz_2 := g1.size
  clear P0 P1 hb g1
  have np0 : ¬ ((1048576 - (d0.many : Int) : Int) < 0) := by omega
  obtain ⟨z3, z4⟩ := id P1_2
  go_wp2_with fail
  clear z3 z4
  refine (szNet_any _ _ _ _ d1 (1048576 - (d0.many : Int)) (R1.out.below hb_2 (Nat.le_refl _)) (by omega) (by omega) (by omega)).mono ?_
  by_cases big1 : (1048576 - (d0.many : Int) : Int) < (d1.many : Int)
  · rw [if_pos big1]
    rintro e1 q1 ⟨rfl, g1⟩
    have hbq := hb_2.trans (g1.mono (by omega))
    clear g1 P0_2 P1_2
    go_wp2
    go_ret
    exact ⟨rfl, hbq⟩
  rw [if_neg big1]
  rintro e1 u5 ⟨rfl, g5⟩
  have P0_6 := P0_2.below g5 (by omega)
  have P1_6 := P1_2.below g5 (by omega)
  have hb_6 := hb_2.trans (g5.mono (by omega))
  have sz_6 := g5.size
  clear P0_2 P1_2 hb_2 g5
  have np1 : ¬ ((1048576 - (d0.many : Int) - (d1.many : Int) : Int) < 0) := by omega
  have nb0 : d0.many ≤ 1048576 := by omega
  have nb1 : d1.many ≤ 1048576 := by omega
  go_wp2_with fail
  refine wp_region_dag (R := Grow) (Φ := fun i v u => match i with
      | 0 => v = .agg #[.slice paA0 d0.ws.length caA0, .slice pbA0 d0.ds.length cbA0]
      | 1 => ∃ lo' hi', hi' ≤ u.heap.size ∧ NOw u lo' hi' v d0
      | 2 => v = .agg #[.slice paA1 d1.ws.length caA1, .slice pbA1 d1.ds.length cbA1]
      | 3 => ∃ lo' hi', hi' ≤ u.heap.size ∧ NOw u lo' hi' v d1
      | 4 => v = .bool (decide (d0 = d1))
      | 5 => v = .bool (decide (d0 = d1))
      | _ => True) (by kernel_rfl) (by kernel_rfl) (by kernel_rfl) (Below.refl _ _) grow_trans ?_ ?_ ?_
  · intro i v u u' hr
    match i with
    | 0 | 2 | 4 | 5 | _ + 6 => exact fun h => h
    | 1 => exact fun ⟨lo', hi', h1, h2⟩ => ⟨lo', hi', Nat.le_trans h1 hr.size, h2.below hr h1⟩
    | 3 => exact fun ⟨lo', hi', h1, h2⟩ => ⟨lo', hi', Nat.le_trans h1 hr.size, h2.below hr h1⟩
  · intro i o ho a u hf hR0 he K' hK
    have hR : Grow u5 u := (Below.drew (Below.refl _ _)).trans hR0
    have hRw : Below w.heap.size w u := hb_6.trans (hR.mono (by omega))
    have hsz' : a.tmps.size = 45 := hf.size
    have hus : u5.heap.size ≤ u.heap.size := hR.size
    rcases i with _ | _ | _ | _ | _ | _ | i
    · obtain rfl := Option.some.inj ho
      clear he
      have q1 : a.tmps.getD 2 undef = .pointer (some ⟨w.heap.size, 0, none⟩) := hf.at_ 2 (by kernel_rfl)
      obtain ⟨c0, c1⟩ := P0_6.below hR (by omega)
      go_simp
      exact hK _ _ (Below.refl _ _) (getD_put_self a 20 _ (by show _ < a.tmps.size; omega))
    · obtain rfl := Option.some.inj ho
      have q1 : a.tmps.getD 20 undef = .agg #[.slice paA0 d0.ws.length caA0, .slice pbA0 d0.ds.length cbA0] := he _ (Array.mem_of_getElem? (i := 0) rfl) (by kernel_rfl) _ rfl
      clear he
      go_simp
      refine (toNet_any _ _ _ _ d0 (R0.out.below hRw (Nat.le_refl _)) (by omega) nb0).mono ?_
      rintro e1 u' ⟨m', rfl, HO, hbu⟩
      exact hK _ _ hbu ⟨_, _, Nat.le_refl _, by show NOw _ _ _ ((a.put (some 21) m').tmps.getD 21 undef) d0; rw [getD_put_self a 21 _ (by show _ < a.tmps.size; omega)]; exact HO⟩
    · obtain rfl := Option.some.inj ho
      clear he
      have q1 : a.tmps.getD 3 undef = .pointer (some ⟨w.heap.size + 1, 0, none⟩) := hf.at_ 3 (by kernel_rfl)
      obtain ⟨c0, c1⟩ := P1_6.below hR (by omega)
      go_simp
      exact hK _ _ (Below.refl _ _) (getD_put_self a 22 _ (by show _ < a.tmps.size; omega))
    · obtain rfl := Option.some.inj ho
      have q1 : a.tmps.getD 22 undef = .agg #[.slice paA1 d1.ws.length caA1, .slice pbA1 d1.ds.length cbA1] := he _ (Array.mem_of_getElem? (i := 0) rfl) (by kernel_rfl) _ rfl
      clear he
      go_simp
      refine (toNet_any _ _ _ _ d1 (R1.out.below hRw (Nat.le_refl _)) (by omega) nb1).mono ?_
      rintro e1 u' ⟨m', rfl, HO, hbu⟩
      exact hK _ _ hbu ⟨_, _, Nat.le_refl _, by show NOw _ _ _ ((a.put (some 23) m').tmps.getD 23 undef) d1; rw [getD_put_self a 23 _ (by show _ < a.tmps.size; omega)]; exact HO⟩
    · obtain rfl := Option.some.inj ho
      obtain ⟨lo21, hi21, hh21, HO21⟩ := he _ (Array.mem_of_getElem? (i := 0) rfl) (by kernel_rfl) _ rfl
      have HO21 : NOw u lo21 hi21 (a.tmps.getD 21 undef) d0 := HO21
      obtain ⟨mm21, em21⟩ : ∃ mm, a.tmps.getD 21 undef = mm := ⟨_, rfl⟩
      rw [em21] at HO21
      obtain ⟨lo23, hi23, hh23, HO23⟩ := he _ (Array.mem_of_getElem? (i := 1) rfl) (by kernel_rfl) _ rfl
      have HO23 : NOw u lo23 hi23 (a.tmps.getD 23 undef) d1 := HO23
      obtain ⟨mm23, em23⟩ : ∃ mm, a.tmps.getD 23 undef = mm := ⟨_, rfl⟩
      rw [em23] at HO23
      clear he
      go_simp
      refine (sNetSame_any _ _ _ _ _ _ _ d0 d1 HO21.ni HO23.ni hh21 hh23).mono ?_
      rintro e1 u' ⟨rfl, hbu⟩
      exact hK _ _ hbu (getD_put_self a 24 _ (by show _ < a.tmps.size; omega))
    · obtain rfl := Option.some.inj ho
      have q1 : a.tmps.getD 24 undef = .bool (decide (d0 = d1)) := he _ (Array.mem_of_getElem? (i := 0) rfl) (by kernel_rfl) _ rfl
      clear he
      go_simp
      exact hK _ _ (Below.refl _ _) (getD_put_self a 6 _ (by show _ < a.tmps.size; omega))
    · exact absurd ho (by simp)
  · intro a u7 hf hR0 hp
    have g7 : Grow u5 u7 := (Below.drew (Below.refl _ _)).trans hR0
    have md : a.defers = [] := hf.defers
    have m2 : a.tmps.getD 2 undef = .pointer (some ⟨w.heap.size, 0, none⟩) := hf.at_ 2 (by kernel_rfl)
    have m3 : a.tmps.getD 3 undef = .pointer (some ⟨w.heap.size + 1, 0, none⟩) := hf.at_ 3 (by kernel_rfl)
    have m6 : a.tmps.getD 6 undef = .bool (decide (d0 = d1)) := hp 5 _ rfl
    obtain ⟨f, ea, hfv⟩ := act_lit a 45 hf.size
    rw [← hfv] at m2 m3 m6
    rw [md] at ea
    simp only [List.range, List.range.loop, List.map_cons, List.map_nil, m2, m3, m6] at ea
    subst ea
    clear hfv hf md hp hR0
    have P0_8 := P0_6.below g7 (by omega)
    have P1_8 := P1_6.below g7 (by omega)
    have hb_8 := hb_6.trans (g7.mono (by omega))
    have sz_8 := g7.size
    clear P0_6 P1_6 hb_6 g7
    obtain ⟨z9, z10⟩ := id P0_8
    go_wp2_with fail
    clear z9 z10
    refine (toNet_any _ _ _ _ d0 (R0.out.below hb_8 (Nat.le_refl _)) (by omega) nb0).mono ?_
    rintro e1 u11 ⟨m', rfl, O11, g11⟩
    obtain ⟨paT11, caT11, pbT11, cbT11, rfl⟩ := O11.ni.shape
    have P0_12 := P0_8.below g11 (by omega)
    have P1_12 := P1_8.below g11 (by omega)
    have hb_12 := hb_8.trans (g11.mono (by omega))
    have sz_12 := g11.size
    clear P0_8 P1_8 hb_8 g11
    have lt13 : w.heap.size + 1 < u11.heap.size := by omega
    obtain ⟨z14, z15⟩ := id P1_12
    go_wp2_with fail
    clear lt13 z14 z15
    obtain ⟨u16, hu16, g16, Y16, s16⟩ : ∃ u16, u11.alloc (.cells #[.slice paT11 d0.ws.length caT11, .slice pbT11 d0.ds.length cbT11] 31) = u16 ∧ Below u11.heap.size u11 u16 ∧ BxP u16 u11.heap.size (.slice paT11 d0.ws.length caT11) (.slice pbT11 d0.ds.length cbT11) ∧ u16.heap.size = u11.heap.size + 1 :=
      ⟨_, rfl, (Below.refl _ _).alloc (Nat.le_refl _) _, bxp_new _ _ _ _, by simp⟩
    rw [hu16]
    clear hu16
    have P0_17 := P0_12.below g16 (by omega)
    have P1_17 := P1_12.below g16 (by omega)
    have O11_17 := O11.below g16 (by omega)
    have hb_17 := hb_12.trans (g16.mono (by omega))
    have sz_17 := g16.size
    clear P0_12 P1_12 O11 hb_12 g16
    refine (toNet_any _ _ _ _ d1 (R1.out.below hb_17 (Nat.le_refl _)) (by omega) nb1).mono ?_
    rintro e1 u18 ⟨m', rfl, O18, g18⟩
    obtain ⟨paT18, caT18, pbT18, cbT18, rfl⟩ := O18.ni.shape
    have P0_19 := P0_17.below g18 (by omega)
    have P1_19 := P1_17.below g18 (by omega)
    have O11_19 := O11_17.below g18 (by omega)
    have X0_19 := Y16.below g18 (by omega)
    have hb_19 := hb_17.trans (g18.mono (by omega))
    have sz_19 := g18.size
    clear P0_17 P1_17 O11_17 Y16 hb_17 g18
    have lt20 : u11.heap.size < u18.heap.size := by omega
    obtain ⟨z21, z22⟩ := id X0_19
    go_wp2_with fail
    clear lt20 z21 z22
    obtain ⟨u23, hu23, g23, Y23, s23⟩ : ∃ u23, u18.alloc (.cells #[.slice paT18 d1.ws.length caT18, .slice pbT18 d1.ds.length cbT18] 31) = u23 ∧ Below u18.heap.size u18 u23 ∧ BxP u23 u18.heap.size (.slice paT18 d1.ws.length caT18) (.slice pbT18 d1.ds.length cbT18) ∧ u23.heap.size = u18.heap.size + 1 :=
      ⟨_, rfl, (Below.refl _ _).alloc (Nat.le_refl _) _, bxp_new _ _ _ _, by simp⟩
    rw [hu23]
    clear hu23
    have P0_24 := P0_19.below g23 (by omega)
    have P1_24 := P1_19.below g23 (by omega)
    have O11_24 := O11_19.below g23 (by omega)
    have X0_24 := X0_19.below g23 (by omega)
    have O18_24 := O18.below g23 (by omega)
    have hb_24 := hb_19.trans (g23.mono (by omega))
    have sz_24 := g23.size
    clear P0_19 P1_19 O11_19 X0_19 O18 hb_19 g23
    refine (impl _ _ _ _ d0 _ _ _ d1 O11_24.ni (by omega) nb0 O18_24.ni (by omega) nb1).mono ?_
    rintro e1 u25 ⟨rfl, g25⟩
    have P0_26 := P0_24.below g25 (by omega)
    have P1_26 := P1_24.below g25 (by omega)
    have O11_26 := O11_24.below g25 (by omega)
    have X0_26 := X0_24.below g25 (by omega)
    have O18_26 := O18_24.below g25 (by omega)
    have X1_26 := Y23.below g25 (by omega)
    have hb_26 := hb_24.trans (g25.mono (by omega))
    have sz_26 := g25.size
    clear P0_24 P1_24 O11_24 X0_24 O18_24 Y23 hb_24 g25
    go_wp2_with fail
    refine wp_region_dag (R := Grow) (Φ := fun i v u => match i with
        | 0 => v = .agg #[.slice paT11 d0.ws.length caT11, .slice pbT11 d0.ds.length cbT11]
        | 1 => v = .agg #[.slice paA0 d0.ws.length caA0, .slice pbA0 d0.ds.length cbA0]
        | 2 => ∃ lo' hi', hi' ≤ u.heap.size ∧ NOw u lo' hi' v d0
        | 3 => v = .bool true
        | 4 => v = .bool false
        | _ => True) (by kernel_rfl) (by kernel_rfl) (by kernel_rfl) (Below.refl _ _) grow_trans ?_ ?_ ?_
    · intro i v u u' hr
      match i with
      | 0 | 1 | 3 | 4 | _ + 5 => exact fun h => h
      | 2 => exact fun ⟨lo', hi', h1, h2⟩ => ⟨lo', hi', Nat.le_trans h1 hr.size, h2.below hr h1⟩
    · intro i o ho a u hf hR0 he K' hK
      have hR : Grow u25 u := (Below.drew (Below.refl _ _)).trans hR0
      have hRw : Below w.heap.size w u := hb_26.trans (hR.mono (by omega))
      have hsz' : a.tmps.size = 45 := hf.size
      have hus : u25.heap.size ≤ u.heap.size := hR.size
      rcases i with _ | _ | _ | _ | _ | i
      · obtain rfl := Option.some.inj ho
        clear he
        have q1 : a.tmps.getD 7 undef = .pointer (some ⟨u11.heap.size, 0, none⟩) := hf.at_ 7 (by kernel_rfl)
        obtain ⟨c0, c1⟩ := X0_26.below hR (by omega)
        go_simp
        exact hK _ _ (Below.refl _ _) (getD_put_self a 35 _ (by show _ < a.tmps.size; omega))
      · obtain rfl := Option.some.inj ho
        clear he
        have q1 : a.tmps.getD 2 undef = .pointer (some ⟨w.heap.size, 0, none⟩) := hf.at_ 2 (by kernel_rfl)
        obtain ⟨c0, c1⟩ := P0_26.below hR (by omega)
        go_simp
        exact hK _ _ (Below.refl _ _) (getD_put_self a 36 _ (by show _ < a.tmps.size; omega))
      · obtain rfl := Option.some.inj ho
        have q1 : a.tmps.getD 36 undef = .agg #[.slice paA0 d0.ws.length caA0, .slice pbA0 d0.ds.length cbA0] := he _ (Array.mem_of_getElem? (i := 0) rfl) (by kernel_rfl) _ rfl
        clear he
        go_simp
        refine (toNet_any _ _ _ _ d0 (R0.out.below hRw (Nat.le_refl _)) (by omega) nb0).mono ?_
        rintro e1 u' ⟨m', rfl, HO, hbu⟩
        exact hK _ _ hbu ⟨_, _, Nat.le_refl _, by show NOw _ _ _ ((a.put (some 37) m').tmps.getD 37 undef) d0; rw [getD_put_self a 37 _ (by show _ < a.tmps.size; omega)]; exact HO⟩
      · obtain rfl := Option.some.inj ho
        have q35 : a.tmps.getD 35 undef = .agg #[.slice paT11 d0.ws.length caT11, .slice pbT11 d0.ds.length cbT11] := he _ (Array.mem_of_getElem? (i := 0) rfl) (by kernel_rfl) _ rfl
        obtain ⟨lo37, hi37, hh37, HO37⟩ := he _ (Array.mem_of_getElem? (i := 1) rfl) (by kernel_rfl) _ rfl
        have HO37 : NOw u lo37 hi37 (a.tmps.getD 37 undef) d0 := HO37
        obtain ⟨mm37, em37⟩ : ∃ mm, a.tmps.getD 37 undef = mm := ⟨_, rfl⟩
        rw [em37] at HO37
        clear he
        go_simp
        refine (eqNet_same _ _ _ _ _ _ _ d0 (O11_26.below hR (by omega)).ni HO37.ni (by omega) hh37).mono ?_
        rintro e1 u' ⟨rfl, hbu⟩
        exact hK _ _ hbu (getD_put_self a 38 _ (by show _ < a.tmps.size; omega))
      · obtain rfl := Option.some.inj ho
        have q1 : a.tmps.getD 38 undef = .bool true := he _ (Array.mem_of_getElem? (i := 0) rfl) (by kernel_rfl) _ rfl
        clear he
        go_simp
        exact hK _ _ (Below.refl _ _) (getD_put_self a 39 _ (by show _ < a.tmps.size; omega))
      · exact absurd ho (by simp)
    · intro a u27 hf hR0 hp
      have g27 : Grow u25 u27 := (Below.drew (Below.refl _ _)).trans hR0
      have md : a.defers = [] := hf.defers
      have m3 : a.tmps.getD 3 undef = .pointer (some ⟨w.heap.size + 1, 0, none⟩) := hf.at_ 3 (by kernel_rfl)
      have m8 : a.tmps.getD 8 undef = .pointer (some ⟨u18.heap.size, 0, none⟩) := hf.at_ 8 (by kernel_rfl)
      have m39 : a.tmps.getD 39 undef = .bool false := hp 4 _ rfl
      obtain ⟨f, ea, hfv⟩ := act_lit a 45 hf.size
      rw [← hfv] at m3 m8 m39
      rw [md] at ea
      simp only [List.range, List.range.loop, List.map_cons, List.map_nil, m3, m8, m39] at ea
      subst ea
      clear hfv hf md hp hR0
      have P0_28 := P0_26.below g27 (by omega)
      have P1_28 := P1_26.below g27 (by omega)
      have O11_28 := O11_26.below g27 (by omega)
      have X0_28 := X0_26.below g27 (by omega)
      have O18_28 := O18_26.below g27 (by omega)
      have X1_28 := X1_26.below g27 (by omega)
      have hb_28 := hb_26.trans (g27.mono (by omega))
      have sz_28 := g27.size
      clear P0_26 P1_26 O11_26 X0_26 O18_26 X1_26 hb_26 g27
      go_wp2_with fail
      refine wp_region_dag (R := Grow) (Φ := fun i v u => match i with
          | 0 => v = .agg #[.slice paT18 d1.ws.length caT18, .slice pbT18 d1.ds.length cbT18]
          | 1 => v = .agg #[.slice paA1 d1.ws.length caA1, .slice pbA1 d1.ds.length cbA1]
          | 2 => ∃ lo' hi', hi' ≤ u.heap.size ∧ NOw u lo' hi' v d1
          | 3 => v = .bool true
          | 4 => v = .bool false
          | _ => True) (by kernel_rfl) (by kernel_rfl) (by kernel_rfl) (Below.refl _ _) grow_trans ?_ ?_ ?_
      · intro i v u u' hr
        match i with
        | 0 | 1 | 3 | 4 | _ + 5 => exact fun h => h
        | 2 => exact fun ⟨lo', hi', h1, h2⟩ => ⟨lo', hi', Nat.le_trans h1 hr.size, h2.below hr h1⟩
      · intro i o ho a u hf hR0 he K' hK
        have hR : Grow u27 u := (Below.drew (Below.refl _ _)).trans hR0
        have hRw : Below w.heap.size w u := hb_28.trans (hR.mono (by omega))
        have hsz' : a.tmps.size = 45 := hf.size
        have hus : u27.heap.size ≤ u.heap.size := hR.size
        rcases i with _ | _ | _ | _ | _ | i
        · obtain rfl := Option.some.inj ho
          clear he
          have q1 : a.tmps.getD 8 undef = .pointer (some ⟨u18.heap.size, 0, none⟩) := hf.at_ 8 (by kernel_rfl)
          obtain ⟨c0, c1⟩ := X1_28.below hR (by omega)
          go_simp
          exact hK _ _ (Below.refl _ _) (getD_put_self a 40 _ (by show _ < a.tmps.size; omega))
        · obtain rfl := Option.some.inj ho
          clear he
          have q1 : a.tmps.getD 3 undef = .pointer (some ⟨w.heap.size + 1, 0, none⟩) := hf.at_ 3 (by kernel_rfl)
          obtain ⟨c0, c1⟩ := P1_28.below hR (by omega)
          go_simp
          exact hK _ _ (Below.refl _ _) (getD_put_self a 41 _ (by show _ < a.tmps.size; omega))
        · obtain rfl := Option.some.inj ho
          have q1 : a.tmps.getD 41 undef = .agg #[.slice paA1 d1.ws.length caA1, .slice pbA1 d1.ds.length cbA1] := he _ (Array.mem_of_getElem? (i := 0) rfl) (by kernel_rfl) _ rfl
          clear he
          go_simp
          refine (toNet_any _ _ _ _ d1 (R1.out.below hRw (Nat.le_refl _)) (by omega) nb1).mono ?_
          rintro e1 u' ⟨m', rfl, HO, hbu⟩
          exact hK _ _ hbu ⟨_, _, Nat.le_refl _, by show NOw _ _ _ ((a.put (some 42) m').tmps.getD 42 undef) d1; rw [getD_put_self a 42 _ (by show _ < a.tmps.size; omega)]; exact HO⟩
        · obtain rfl := Option.some.inj ho
          have q40 : a.tmps.getD 40 undef = .agg #[.slice paT18 d1.ws.length caT18, .slice pbT18 d1.ds.length cbT18] := he _ (Array.mem_of_getElem? (i := 0) rfl) (by kernel_rfl) _ rfl
          obtain ⟨lo42, hi42, hh42, HO42⟩ := he _ (Array.mem_of_getElem? (i := 1) rfl) (by kernel_rfl) _ rfl
          have HO42 : NOw u lo42 hi42 (a.tmps.getD 42 undef) d1 := HO42
          obtain ⟨mm42, em42⟩ : ∃ mm, a.tmps.getD 42 undef = mm := ⟨_, rfl⟩
          rw [em42] at HO42
          clear he
          go_simp
          refine (eqNet_same _ _ _ _ _ _ _ d1 (O18_28.below hR (by omega)).ni HO42.ni (by omega) hh42).mono ?_
          rintro e1 u' ⟨rfl, hbu⟩
          exact hK _ _ hbu (getD_put_self a 43 _ (by show _ < a.tmps.size; omega))
        · obtain rfl := Option.some.inj ho
          have q1 : a.tmps.getD 43 undef = .bool true := he _ (Array.mem_of_getElem? (i := 0) rfl) (by kernel_rfl) _ rfl
          clear he
          go_simp
          exact hK _ _ (Below.refl _ _) (getD_put_self a 44 _ (by show _ < a.tmps.size; omega))
        · exact absurd ho (by simp)
      · intro a u29 hf hR0 hp
        have g29 : Grow u27 u29 := (Below.drew (Below.refl _ _)).trans hR0
        have md : a.defers = [] := hf.defers
        have m44 : a.tmps.getD 44 undef = .bool false := hp 4 _ rfl
        obtain ⟨f, ea, hfv⟩ := act_lit a 45 hf.size
        rw [← hfv] at m44
        rw [md] at ea
        simp only [List.range, List.range.loop, List.map_cons, List.map_nil, m44] at ea
        subst ea
        clear hfv hf md hp hR0
        have P0_30 := P0_28.below g29 (by omega)
        have P1_30 := P1_28.below g29 (by omega)
        have O11_30 := O11_28.below g29 (by omega)
        have X0_30 := X0_28.below g29 (by omega)
        have O18_30 := O18_28.below g29 (by omega)
        have X1_30 := X1_28.below g29 (by omega)
        have hb_30 := hb_28.trans (g29.mono (by omega))
        have sz_30 := g29.size
        clear P0_28 P1_28 O11_28 X0_28 O18_28 X1_28 hb_28 g29
        clear P0_30 P1_30 O11_30 X0_30 O18_30 X1_30
        go_wp2
        go_ret
        exact ⟨rfl, hb_30⟩
end Go.Proofs.Ytgidhnjkcebabaa
