/-
  FnExactChartOk, walked at every argument, given what the program's ChartOk answers. (Written by our generator exactgen.py.)
-/
import Derived.Test.YtokphdpaghkakaaLawKitC
import Derived.Test.YtokphdpaghkakaaChartSpec
namespace Go.Proofs.Ytokphdpaghkakaa
open Go.ChangeShapes Go.WideShapes Go.ChangeAt Go.RowKit
set_option linter.unusedVariables false

set_option maxRecDepth 100000 in
set_option maxHeartbeats 8000000 in
theorem exactChartOk_walk
    (impl : ∀ (w : World) (m0 : Value) (lo0 hi0 : Nat) (d0 : ChartD), HIc w lo0 hi0 m0 d0 → hi0 ≤ w.heap.size → d0.many ≤ 1048576 → Calls Try.prog 9 #[m0] w fun e w' => e = .returned (.bool (chartOk d0)) ∧ Below w.heap.size w w')
    (w : World) (v0 : Value) (d0 : ChartD) (r0 : HIc w 0 w.heap.size v0 d0) :
    Calls Try.prog 3 #[v0] w fun e w' => e = .returned (.bool true) ∧ Below w.heap.size w w' := by
  obtain ⟨paA0, caA0, pbA0, cbA0, rfl⟩ := r0.shape
  have R0 : Hid (HIc w 0 w.heap.size (.agg #[.int .i64 d0.steps, .slice paA0 d0.ts.length caA0, .slice pbA0 d0.acts.length cbA0]) d0) := r0
  clear r0
  go_enter Try.func3, Try.ntmps3
  go_wp2_with fail
  obtain ⟨w0, ew0⟩ : ∃ w0, w.alloc (.cells #[.int .i64 d0.steps, .slice paA0 d0.ts.length caA0, .slice pbA0 d0.acts.length cbA0] 25) = w0 := ⟨_, rfl⟩
  have sw0 : w0.heap.size = w.heap.size + 1 := by rw [← ew0]; simp
  have gw0 : Below w.heap.size w w0 := by rw [← ew0]; exact (Below.refl _ _).alloc (Nat.le_refl _) _
  have P0 := bxt_new w (.int .i64 d0.steps) (.slice paA0 d0.ts.length caA0) (.slice pbA0 d0.acts.length cbA0) 25
  rw [ew0] at P0 ⊢
  clear ew0
  have hb := gw0
  clear gw0
  refine (szChart_any _ _ _ _ d0 (1048576) (R0.out.below hb (Nat.le_refl _)) (by omega) (by omega) (by omega)).mono ?_
  by_cases big0 : (1048576 : Int) < (d0.many : Int)
  · rw [if_pos big0]
    rintro e1 q1 ⟨rfl, g1⟩
    have hbq := hb.trans (g1.mono (by omega))
    clear g1 P0
    go_wp2
    go_ret
    exact ⟨rfl, hbq⟩
  rw [if_neg big0]
  rintro e1 u1 ⟨rfl, g1⟩
  have P0_2 := P0.below g1 (by omega)
  have hb_2 := hb.trans (g1.mono (by omega))
  have sz_2 := g1.size
  clear P0 hb g1
  have np0 : ¬ ((1048576 - (d0.many : Int) : Int) < 0) := by omega
  have nb0 : d0.many ≤ 1048576 := by omega
  obtain ⟨z3, z4, z5⟩ := id P0_2
  go_wp2_with fail
  clear z3 z4 z5
  refine (toChart_any _ _ _ _ d0 (R0.out.below hb_2 (Nat.le_refl _)) (by omega) nb0).mono ?_
  rintro e1 u6 ⟨m', rfl, O6, g6⟩
  obtain ⟨paT6, caT6, pbT6, cbT6, rfl⟩ := O6.hi.shape
  have P0_7 := P0_2.below g6 (by omega)
  have hb_7 := hb_2.trans (g6.mono (by omega))
  have sz_7 := g6.size
  clear P0_2 hb_2 g6
  go_wp2_with fail
  refine (sChartOk_any _ _ _ _ d0 O6.hi (by omega) nb0).mono ?_
  rintro e1 u8 ⟨rfl, g8⟩
  have P0_9 := P0_7.below g8 (by omega)
  have O6_9 := O6.below g8 (by omega)
  have hb_9 := hb_7.trans (g8.mono (by omega))
  have sz_9 := g8.size
  clear P0_7 O6 hb_7 g8
  obtain ⟨z10, z11, z12⟩ := id P0_9
  go_wp2_with fail
  clear z10 z11 z12
  refine (toChart_any _ _ _ _ d0 (R0.out.below hb_9 (Nat.le_refl _)) (by omega) nb0).mono ?_
  rintro e1 u13 ⟨m', rfl, O13, g13⟩
  obtain ⟨paT13, caT13, pbT13, cbT13, rfl⟩ := O13.hi.shape
  have P0_14 := P0_9.below g13 (by omega)
  have O6_14 := O6_9.below g13 (by omega)
  have hb_14 := hb_9.trans (g13.mono (by omega))
  have sz_14 := g13.size
  clear P0_9 O6_9 hb_9 g13
  go_wp2_with fail
  obtain ⟨u15, hu15, g15, Y15, s15⟩ : ∃ u15, u13.alloc (.cells #[.int .i64 d0.steps, .slice paT13 d0.ts.length caT13, .slice pbT13 d0.acts.length cbT13] 31) = u15 ∧ Below u13.heap.size u13 u15 ∧ BxT u15 u13.heap.size (.int .i64 d0.steps) (.slice paT13 d0.ts.length caT13) (.slice pbT13 d0.acts.length cbT13) ∧ u15.heap.size = u13.heap.size + 1 :=
    ⟨_, rfl, (Below.refl _ _).alloc (Nat.le_refl _) _, bxt_new _ _ _ _ _, by simp⟩
  rw [hu15]
  clear hu15
  have P0_16 := P0_14.below g15 (by omega)
  have O6_16 := O6_14.below g15 (by omega)
  have O13_16 := O13.below g15 (by omega)
  have hb_16 := hb_14.trans (g15.mono (by omega))
  have sz_16 := g15.size
  clear P0_14 O6_14 O13 hb_14 g15
  refine (impl _ _ _ _ d0 O13_16.hi (by omega) nb0).mono ?_
  rintro e1 u17 ⟨rfl, g17⟩
  have P0_18 := P0_16.below g17 (by omega)
  have O6_18 := O6_16.below g17 (by omega)
  have O13_18 := O13_16.below g17 (by omega)
  have X0_18 := Y15.below g17 (by omega)
  have hb_18 := hb_16.trans (g17.mono (by omega))
  have sz_18 := g17.size
  clear P0_16 O6_16 O13_16 Y15 hb_16 g17
  go_wp2_with fail
  refine wp_region_dag (R := Grow) (Φ := fun i v u => match i with
      | 0 => v = .agg #[.int .i64 d0.steps, .slice paT13 d0.ts.length caT13, .slice pbT13 d0.acts.length cbT13]
      | 1 => v = .agg #[.int .i64 d0.steps, .slice paA0 d0.ts.length caA0, .slice pbA0 d0.acts.length cbA0]
      | 2 => ∃ lo' hi', hi' ≤ u.heap.size ∧ HOc u lo' hi' v d0
      | 3 => v = .bool true
      | 4 => v = .bool false
      | _ => True) (by kernel_rfl) (by kernel_rfl) (by kernel_rfl) (Below.refl _ _) grow_trans ?_ ?_ ?_
  · intro i v u u' hr
    match i with
    | 0 | 1 | 3 | 4 | _ + 5 => exact fun h => h
    | 2 => exact fun ⟨lo', hi', h1, h2⟩ => ⟨lo', hi', Nat.le_trans h1 hr.size, h2.below hr h1⟩
  · intro i o ho a u hf hR0 he K' hK
    have hR : Grow u17 u := (Below.drew (Below.refl _ _)).trans hR0
    have hRw : Below w.heap.size w u := hb_18.trans (hR.mono (by omega))
    have hsz' : a.tmps.size = 27 := hf.size
    have hus : u17.heap.size ≤ u.heap.size := hR.size
    rcases i with _ | _ | _ | _ | _ | i
    · obtain rfl := Option.some.inj ho
      clear he
      have q1 : a.tmps.getD 5 undef = .pointer (some ⟨u13.heap.size, 0, none⟩) := hf.at_ 5 (by kernel_rfl)
      obtain ⟨c0, c1, c2⟩ := X0_18.below hR (by omega)
      go_simp
      exact hK _ _ (Below.refl _ _) (getD_put_self a 22 _ (by show _ < a.tmps.size; omega))
    · obtain rfl := Option.some.inj ho
      clear he
      have q1 : a.tmps.getD 1 undef = .pointer (some ⟨w.heap.size, 0, none⟩) := hf.at_ 1 (by kernel_rfl)
      obtain ⟨c0, c1, c2⟩ := P0_18.below hR (by omega)
      go_simp
      exact hK _ _ (Below.refl _ _) (getD_put_self a 23 _ (by show _ < a.tmps.size; omega))
    · obtain rfl := Option.some.inj ho
      have q1 : a.tmps.getD 23 undef = .agg #[.int .i64 d0.steps, .slice paA0 d0.ts.length caA0, .slice pbA0 d0.acts.length cbA0] := he _ (Array.mem_of_getElem? (i := 0) rfl) (by kernel_rfl) _ rfl
      clear he
      go_simp
      refine (toChart_any _ _ _ _ d0 (R0.out.below hRw (Nat.le_refl _)) (by omega) nb0).mono ?_
      rintro e1 u' ⟨m', rfl, HO, hbu⟩
      exact hK _ _ hbu ⟨_, _, Nat.le_refl _, by show HOc _ _ _ ((a.put (some 24) m').tmps.getD 24 undef) d0; rw [getD_put_self a 24 _ (by show _ < a.tmps.size; omega)]; exact HO⟩
    · obtain rfl := Option.some.inj ho
      have q22 : a.tmps.getD 22 undef = .agg #[.int .i64 d0.steps, .slice paT13 d0.ts.length caT13, .slice pbT13 d0.acts.length cbT13] := he _ (Array.mem_of_getElem? (i := 0) rfl) (by kernel_rfl) _ rfl
      obtain ⟨lo24, hi24, hh24, HO24⟩ := he _ (Array.mem_of_getElem? (i := 1) rfl) (by kernel_rfl) _ rfl
      have HO24 : HOc u lo24 hi24 (a.tmps.getD 24 undef) d0 := HO24
      obtain ⟨mm24, em24⟩ : ∃ mm, a.tmps.getD 24 undef = mm := ⟨_, rfl⟩
      rw [em24] at HO24
      clear he
      go_simp
      refine (eqChart_same _ _ _ _ _ _ _ d0 (O13_18.below hR (by omega)).hi HO24.hi (by omega) hh24).mono ?_
      rintro e1 u' ⟨rfl, hbu⟩
      exact hK _ _ hbu (getD_put_self a 25 _ (by show _ < a.tmps.size; omega))
    · obtain rfl := Option.some.inj ho
      have q1 : a.tmps.getD 25 undef = .bool true := he _ (Array.mem_of_getElem? (i := 0) rfl) (by kernel_rfl) _ rfl
      clear he
      go_simp
      exact hK _ _ (Below.refl _ _) (getD_put_self a 26 _ (by show _ < a.tmps.size; omega))
    · exact absurd ho (by simp)
  · intro a u19 hf hR0 hp
    have g19 : Grow u17 u19 := (Below.drew (Below.refl _ _)).trans hR0
    have md : a.defers = [] := hf.defers
    have m26 : a.tmps.getD 26 undef = .bool false := hp 4 _ rfl
    obtain ⟨f, ea, hfv⟩ := act_lit a 27 hf.size
    rw [← hfv] at m26
    rw [md] at ea
    simp only [List.range, List.range.loop, List.map_cons, List.map_nil, m26] at ea
    subst ea
    clear hfv hf md hp hR0
    have P0_20 := P0_18.below g19 (by omega)
    have O6_20 := O6_18.below g19 (by omega)
    have O13_20 := O13_18.below g19 (by omega)
    have X0_20 := X0_18.below g19 (by omega)
    have hb_20 := hb_18.trans (g19.mono (by omega))
    have sz_20 := g19.size
    clear P0_18 O6_18 O13_18 X0_18 hb_18 g19
    clear P0_20 O6_20 O13_20 X0_20
    go_wp2
    go_ret
    exact ⟨rfl, hb_20⟩
end Go.Proofs.Ytokphdpaghkakaa
