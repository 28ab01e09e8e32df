/-
  FnExactChartNew, walked at every argument, given what the program's ChartNew answers. (Written by our generator exactown.py.)
-/
import Derived.Test.YtokphdpaghkakaaLawOwnC
import Derived.Test.YtokphdpaghkakaaChartNewS
namespace Go.Proofs.Ytokphdpaghkakaa
open Go.ChangeShapes Go.WideShapes Go.ChangeAt Go.RowKit
set_option linter.unusedVariables false

set_option maxRecDepth 100000 in
set_option maxHeartbeats 16000000 in
theorem exactChartNew_walk
    (impl : ∀ (w : World) (m0 : Value) (lo0 hi0 : Nat) (d0 : ChartD), HIc w lo0 hi0 m0 d0 → hi0 ≤ w.heap.size → d0.many ≤ 1048576 → Calls Try.prog 14 #[m0] w fun e w' => ∃ v', e = .returned v' ∧ MkO w' w.heap.size w'.heap.size v' (chartNew d0) ∧ Below w.heap.size w w')
    (w : World) (v0 : Value) (d0 : ChartD) (r0 : HIc w 0 w.heap.size v0 d0) :
    Calls Try.prog 5 #[v0] w fun e w' => e = .returned (.bool true) ∧ Below w.heap.size w w' := by
  obtain ⟨q, hq⟩ : ∃ q, chartNew d0 = q := ⟨_, rfl⟩
  have hqb : q.on.length ≤ 6 ∧ q.kept.length ≤ 6 := by rw [← hq]; exact chartNew_len d0
  have HQ : Hid (chartNew d0 = q) := hq
  clear hq
  obtain ⟨paA, caA, pbA, cbA, rfl⟩ := r0.shape
  have R0 : Hid (HIc w 0 w.heap.size (.agg #[.int .i64 d0.steps, .slice paA d0.ts.length caA, .slice pbA d0.acts.length cbA]) d0) := r0
  clear r0
  go_enter Try.func5, Try.ntmps5
  go_wp2_with fail
  obtain ⟨u0, eu0⟩ : ∃ u0, w.alloc (.cells #[.int .i64 d0.steps, .slice paA d0.ts.length caA, .slice pbA d0.acts.length cbA] 25) = u0 := ⟨_, rfl⟩
  have s0 : u0.heap.size = w.heap.size + 1 := by rw [← eu0]; simp
  have G : Below w.heap.size w u0 := by rw [← eu0]; exact (Below.refl _ _).alloc (Nat.le_refl _) _
  have P := bxt_new w (.int .i64 d0.steps) (.slice paA d0.ts.length caA) (.slice pbA d0.acts.length cbA) 25
  rw [eu0] at P ⊢
  clear eu0
  refine (szChart_any _ _ _ _ d0 (1048576) (R0.out.below G (Nat.le_refl _)) (by omega) (by omega) (by omega)).mono ?_
  by_cases big : (1048576 : Int) < (d0.many : Int)
  · rw [if_pos big]
    rintro e1 q1 ⟨rfl, g1⟩
    have hbq := G.trans (g1.mono (by omega))
    clear g1 P
    go_wp2
    go_ret
    exact ⟨rfl, hbq⟩
  rw [if_neg big]
  rintro e1 u1 ⟨rfl, g1⟩
  have np : ¬ ((1048576 - (d0.many : Int) : Int) < 0) := by omega
  have nb : d0.many ≤ 1048576 := by omega
  have s1 := g1.size
  replace G := G.trans (g1.mono (by omega))
  replace P := P.below g1 (by omega)
  clear g1
  obtain ⟨z2, z3, z4⟩ := id P
  go_wp2_with fail
  clear z2 z3 z4
  refine (toChart_any _ _ _ _ d0 (R0.out.below G (Nat.le_refl _)) (by omega) nb).mono ?_
  rintro e1 u5 ⟨m', rfl, O5, g5⟩
  obtain ⟨paT5, caT5, pbT5, cbT5, rfl⟩ := O5.hi.shape
  have s5 := g5.size
  replace G := G.trans (g5.mono (by omega))
  replace P := P.below g5 (by omega)
  clear g5
  have X := O5
  clear O5
  go_wp2_with fail
  have hcc := sChartNew_any _ _ _ _ d0 X.hi (by omega) nb
  rw [HQ.out] at hcc
  refine hcc.mono ?_
  clear hcc
  rintro e1 u6 ⟨m', rfl, O6, g6⟩
  obtain ⟨a6, c6, b6, e6, rfl⟩ := MkO.shape O6
  have s6 := g6.size
  replace G := G.trans (g6.mono (by omega))
  replace P := P.below g6 (by omega)
  clear g6
  have W := O6
  clear O6
  obtain ⟨z7, z8, z9⟩ := id P
  have lt10 : w.heap.size < u6.heap.size := by omega
  go_wp2_with fail
  clear z7 z8 z9 lt10
  obtain ⟨u11, hu11, g11, Y11, t11⟩ : ∃ u11, u6.alloc (.cells #[.slice a6 q.on.length c6, .slice b6 q.kept.length e6] 38) = u11 ∧ Below u6.heap.size u6 u11 ∧ BxQ u11 u6.heap.size (.slice a6 q.on.length c6) (.slice b6 q.kept.length e6) ∧ u11.heap.size = u6.heap.size + 1 :=
    ⟨_, rfl, (Below.refl _ _).alloc (Nat.le_refl _) _, bxq_new _ _ _ _, by simp⟩
  rw [hu11]
  clear hu11
  have s11 := g11.size
  replace G := G.trans (g11.mono (by omega))
  replace P := P.below g11 (by omega)
  replace W := W.below g11 (by omega)
  clear g11
  have W0 := Y11
  clear Y11
  refine (toChart_any _ _ _ _ d0 (R0.out.below G (Nat.le_refl _)) (by omega) nb).mono ?_
  rintro e1 u12 ⟨m', rfl, O12, g12⟩
  obtain ⟨paT12, caT12, pbT12, cbT12, rfl⟩ := O12.hi.shape
  have s12 := g12.size
  replace G := G.trans (g12.mono (by omega))
  replace P := P.below g12 (by omega)
  replace W := W.below g12 (by omega)
  replace W0 := W0.below g12 (by omega)
  clear g12
  have X := O12
  clear O12
  go_wp2_with fail
  obtain ⟨u13, hu13, g13, Y13, t13⟩ : ∃ u13, u12.alloc (.cells #[.int .i64 d0.steps, .slice paT12 d0.ts.length caT12, .slice pbT12 d0.acts.length cbT12] 31) = u13 ∧ Below u12.heap.size u12 u13 ∧ BxT u13 u12.heap.size (.int .i64 d0.steps) (.slice paT12 d0.ts.length caT12) (.slice pbT12 d0.acts.length cbT12) ∧ u13.heap.size = u12.heap.size + 1 :=
    ⟨_, rfl, (Below.refl _ _).alloc (Nat.le_refl _) _, bxt_new _ _ _ _ _, by simp⟩
  rw [hu13]
  clear hu13
  have s13 := g13.size
  replace G := G.trans (g13.mono (by omega))
  replace P := P.below g13 (by omega)
  replace W := W.below g13 (by omega)
  replace W0 := W0.below g13 (by omega)
  replace X := X.below g13 (by omega)
  clear g13
  have X0 := Y13
  clear Y13
  obtain ⟨z14, z15, z16⟩ := id X0
  have hcc := impl _ _ _ _ d0 X.hi (by omega) nb
  rw [HQ.out] at hcc
  refine hcc.mono ?_
  clear hcc
  rintro e1 u17 ⟨m', rfl, O17, g17⟩
  obtain ⟨a17, c17, b17, e17, rfl⟩ := MkO.shape O17
  have s17 := g17.size
  replace G := G.trans (g17.mono (by omega))
  replace P := P.below g17 (by omega)
  replace W := W.below g17 (by omega)
  replace W0 := W0.below g17 (by omega)
  replace X := X.below g17 (by omega)
  replace X0 := X0.below g17 (by omega)
  clear g17
  have Y := O17
  clear O17
  obtain ⟨z18, z19⟩ := id W0
  have lt20 : u6.heap.size < u17.heap.size := by omega
  go_wp2_with fail
  clear z18 z19 lt20
  obtain ⟨u21, hu21, g21, Y21, t21⟩ : ∃ u21, u17.alloc (.cells #[.slice a17 q.on.length c17, .slice b17 q.kept.length e17] 38) = u21 ∧ Below u17.heap.size u17 u21 ∧ BxQ u21 u17.heap.size (.slice a17 q.on.length c17) (.slice b17 q.kept.length e17) ∧ u21.heap.size = u17.heap.size + 1 :=
    ⟨_, rfl, (Below.refl _ _).alloc (Nat.le_refl _) _, bxq_new _ _ _ _, by simp⟩
  rw [hu21]
  clear hu21
  have s21 := g21.size
  replace G := G.trans (g21.mono (by omega))
  replace P := P.below g21 (by omega)
  replace W := W.below g21 (by omega)
  replace W0 := W0.below g21 (by omega)
  replace X := X.below g21 (by omega)
  replace X0 := X0.below g21 (by omega)
  replace Y := Y.below g21 (by omega)
  clear g21
  have Y0 := Y21
  clear Y21
  refine (eqMkO_same _ _ _ _ _ _ _ q Y.r W.r (by omega) (by omega)).mono ?_
  rintro e1 u22 ⟨rfl, g22⟩
  have s22 := g22.size
  replace G := G.trans (g22.mono (by omega))
  replace P := P.below g22 (by omega)
  replace W := W.below g22 (by omega)
  replace W0 := W0.below g22 (by omega)
  replace X := X.below g22 (by omega)
  replace X0 := X0.below g22 (by omega)
  replace Y := Y.below g22 (by omega)
  replace Y0 := Y0.below g22 (by omega)
  clear g22
  go_wp2_with fail
  refine wp_region_dag (R := Grow) (Φ := fun i v u => match i with
      | 0 => v = .agg #[.int .i64 d0.steps, .slice paT12 d0.ts.length caT12, .slice pbT12 d0.acts.length cbT12]
      | 1 => v = .agg #[.int .i64 d0.steps, .slice paA d0.ts.length caA, .slice pbA d0.acts.length cbA]
      | 2 => ∃ lo' hi', hi' ≤ u.heap.size ∧ HOc u lo' hi' v d0
      | 3 => v = .bool true
      | 4 => v = .bool false
      | _ => True) (by kernel_rfl) (by kernel_rfl) (by kernel_rfl) (Below.refl _ _) grow_trans ?_ ?_ ?_
  · intro i v u u' hr
    match i with
    | 0 | 1 | 3 | 4 | _ + 5 => exact fun h => h
    | 2 => exact fun ⟨lo', hi', h1, h2⟩ => ⟨lo', hi', Nat.le_trans h1 hr.size, h2.below hr h1⟩
  · intro i o ho a u hf hR0 he K' hK
    have hR : Grow u22 u := (Below.drew (Below.refl _ _)).trans hR0
    have hRw : Below w.heap.size w u := G.trans (hR.mono (by omega))
    have hsz' : a.tmps.size = 69 := hf.size
    have hus : u22.heap.size ≤ u.heap.size := hR.size
    rcases i with _ | _ | _ | _ | _ | i
    · obtain rfl := Option.some.inj ho
      clear he
      have q1 : a.tmps.getD 5 undef = .pointer (some ⟨u12.heap.size, 0, none⟩) := hf.at_ 5 (by kernel_rfl)
      obtain ⟨c0, c1, c2⟩ := X0.below hR (by omega)
      go_simp
      exact hK _ _ (Below.refl _ _) (getD_put_self a 27 _ (by show _ < a.tmps.size; omega))
    · obtain rfl := Option.some.inj ho
      clear he
      have q1 : a.tmps.getD 1 undef = .pointer (some ⟨w.heap.size, 0, none⟩) := hf.at_ 1 (by kernel_rfl)
      obtain ⟨c0, c1, c2⟩ := P.below hR (by omega)
      go_simp
      exact hK _ _ (Below.refl _ _) (getD_put_self a 28 _ (by show _ < a.tmps.size; omega))
    · obtain rfl := Option.some.inj ho
      have q1 : a.tmps.getD 28 undef = .agg #[.int .i64 d0.steps, .slice paA d0.ts.length caA, .slice pbA d0.acts.length cbA] := he _ (Array.mem_of_getElem? (i := 0) rfl) (by kernel_rfl) _ rfl
      clear he
      go_simp
      refine (toChart_any _ _ _ _ d0 (R0.out.below hRw (Nat.le_refl _)) (by omega) nb).mono ?_
      rintro e1 u' ⟨m', rfl, HOx, hbu⟩
      exact hK _ _ hbu ⟨_, _, Nat.le_refl _, by show HOc _ _ _ ((a.put (some 29) m').tmps.getD 29 undef) d0; rw [getD_put_self a 29 _ (by show _ < a.tmps.size; omega)]; exact HOx⟩
    · obtain rfl := Option.some.inj ho
      have q22 : a.tmps.getD 27 undef = .agg #[.int .i64 d0.steps, .slice paT12 d0.ts.length caT12, .slice pbT12 d0.acts.length cbT12] := he _ (Array.mem_of_getElem? (i := 0) rfl) (by kernel_rfl) _ rfl
      obtain ⟨lo24, hi24, hh24, HO24⟩ := he _ (Array.mem_of_getElem? (i := 1) rfl) (by kernel_rfl) _ rfl
      have HO24 : HOc u lo24 hi24 (a.tmps.getD 29 undef) d0 := HO24
      obtain ⟨mm24, em24⟩ : ∃ mm, a.tmps.getD 29 undef = mm := ⟨_, rfl⟩
      rw [em24] at HO24
      clear he
      go_simp
      refine (eqChart_same _ _ _ _ _ _ _ d0 (X.below hR (by omega)).hi HO24.hi (by omega) hh24).mono ?_
      rintro e1 u' ⟨rfl, hbu⟩
      exact hK _ _ hbu (getD_put_self a 30 _ (by show _ < a.tmps.size; omega))
    · obtain rfl := Option.some.inj ho
      have q1 : a.tmps.getD 30 undef = .bool true := he _ (Array.mem_of_getElem? (i := 0) rfl) (by kernel_rfl) _ rfl
      clear he
      go_simp
      exact hK _ _ (Below.refl _ _) (getD_put_self a 31 _ (by show _ < a.tmps.size; omega))
    · exact absurd ho (by simp)
  intro a u23 hf hR0 hp
  have g23 : Grow u22 u23 := (Below.drew (Below.refl _ _)).trans hR0
  have md : a.defers = [] := hf.defers
  have m31 : a.tmps.getD 31 undef = .bool false := hp 4 _ rfl
  have m1 : a.tmps.getD 1 undef = .pointer (some ⟨w.heap.size, 0, none⟩) := hf.at_ 1 (by kernel_rfl)
  have m5 : a.tmps.getD 5 undef = .pointer (some ⟨u12.heap.size, 0, none⟩) := hf.at_ 5 (by kernel_rfl)
  have m4 : a.tmps.getD 4 undef = .pointer (some ⟨u6.heap.size, 0, none⟩) := hf.at_ 4 (by kernel_rfl)
  have m6 : a.tmps.getD 6 undef = .pointer (some ⟨u17.heap.size, 0, none⟩) := hf.at_ 6 (by kernel_rfl)
  obtain ⟨f, ea, hfv⟩ := act_lit a 69 hf.size
  rw [← hfv] at m31 m1 m5 m4 m6
  rw [md] at ea
  simp only [List.range, List.range.loop, List.map_cons, List.map_nil, m31, m1, m5, m4, m6] at ea
  subst ea
  clear hfv hf md hp hR0
  have s23 := g23.size
  replace G := G.trans (g23.mono (by omega))
  replace P := P.below g23 (by omega)
  replace W := W.below g23 (by omega)
  replace W0 := W0.below g23 (by omega)
  replace X := X.below g23 (by omega)
  replace X0 := X0.below g23 (by omega)
  replace Y := Y.below g23 (by omega)
  replace Y0 := Y0.below g23 (by omega)
  clear g23
  obtain ⟨z24, z25, z26⟩ := id X0
  go_wp2_with fail
  clear z24 z25 z26
  refine (markChart_any _ _ _ _ d0 1 X (by omega) (by omega) (by omega) (by omega)).mono ?_
  rintro e1 u27 ⟨k27, rfl, hk27, hk27', o27⟩
  clear X X0
  have s27 := o27.size
  replace G := G.trans (o27.below (by omega) (by omega))
  replace P := P.out o27 (by omega) (by omega)
  replace W := W.out o27 (by omega) (by omega)
  replace W0 := W0.out o27 (by omega) (by omega)
  replace Y := Y.out o27 (by omega) (by omega)
  replace Y0 := Y0.out o27 (by omega) (by omega)
  clear o27
  have hneg : ¬ (k27 < 0) := by omega
  obtain ⟨z28, z29⟩ := id Y0
  obtain ⟨z30, z31⟩ := id W0
  go_wp2_with fail
  clear z28 z29 z30 z31
  refine (eqMkO_same _ _ _ _ _ _ _ q Y.r W.r (by omega) (by omega)).mono ?_
  rintro e1 u32 ⟨rfl, g32⟩
  have s32 := g32.size
  replace G := G.trans (g32.mono (by omega))
  replace P := P.below g32 (by omega)
  replace W := W.below g32 (by omega)
  replace W0 := W0.below g32 (by omega)
  replace Y := Y.below g32 (by omega)
  replace Y0 := Y0.below g32 (by omega)
  clear g32
  obtain ⟨z33, z34⟩ := id Y0
  go_wp2_with fail
  clear z33 z34
  refine (markMkO_any _ _ _ _ q 1 Y (by omega) (by omega) (by omega)).mono ?_
  rintro e1 u35 ⟨rfl, Y2, o35⟩
  clear Y
  have s35 := o35.size
  replace G := G.trans (o35.below (by omega) (by omega))
  replace P := P.out o35 (by omega) (by omega)
  replace W := W.out o35 (by omega) (by omega)
  replace W0 := W0.out o35 (by omega) (by omega)
  replace Y0 := Y0.out o35 (by omega) (by omega)
  clear o35
  have Y := Y2
  clear Y2
  have hm0 : ¬ ((1 : Int) + (MkOn q : Int) < 0) := by omega
  obtain ⟨M, hM⟩ : ∃ M, (1 : Int) + (MkOn q : Int) = M := ⟨_, rfl⟩
  have HM : Hid ((1 : Int) + (MkOn q : Int) = M) := hM
  rw [hM] at hm0 ⊢
  clear hM
  obtain ⟨z36, z37⟩ := id Y0
  go_wp2_with fail
  clear z36 z37
  have hh := heldMkO_any _ _ _ _ q 1 Y (by omega) (by omega) (by omega)
  rw [HM.out] at hh
  refine hh.mono ?_
  clear hh
  rintro e1 u38 ⟨rfl, g38⟩
  have s38 := g38.size
  replace G := G.trans (g38.mono (by omega))
  replace P := P.below g38 (by omega)
  replace W := W.below g38 (by omega)
  replace W0 := W0.below g38 (by omega)
  replace Y0 := Y0.below g38 (by omega)
  replace Y := Y.below g38 (by omega)
  clear g38
  obtain ⟨z39, z40, z41⟩ := id P
  go_wp2_with fail
  clear z39 z40 z41
  refine (toChart_any _ _ _ _ d0 (R0.out.below G (Nat.le_refl _)) (by omega) nb).mono ?_
  rintro e1 u42 ⟨m', rfl, O42, g42⟩
  obtain ⟨paT42, caT42, pbT42, cbT42, rfl⟩ := O42.hi.shape
  have s42 := g42.size
  replace G := G.trans (g42.mono (by omega))
  replace P := P.below g42 (by omega)
  replace W := W.below g42 (by omega)
  replace W0 := W0.below g42 (by omega)
  replace Y0 := Y0.below g42 (by omega)
  replace Y := Y.below g42 (by omega)
  clear g42
  have Z := O42
  clear O42
  go_wp2_with fail
  have hcc := impl _ _ _ _ d0 Z.hi (by omega) nb
  rw [HQ.out] at hcc
  refine hcc.mono ?_
  clear hcc
  rintro e1 u43 ⟨m', rfl, O43, g43⟩
  obtain ⟨a43, c43, b43, e43, rfl⟩ := MkO.shape O43
  have s43 := g43.size
  replace G := G.trans (g43.mono (by omega))
  replace P := P.below g43 (by omega)
  replace W := W.below g43 (by omega)
  replace W0 := W0.below g43 (by omega)
  replace Y0 := Y0.below g43 (by omega)
  replace Y := Y.below g43 (by omega)
  clear g43
  have V := O43
  clear O43
  obtain ⟨z44, z45⟩ := id W0
  have lt46 : u6.heap.size < u43.heap.size := by omega
  go_wp2_with fail
  clear z44 z45 lt46
  obtain ⟨u47, hu47, g47, Y47, t47⟩ : ∃ u47, u43.alloc (.cells #[.slice a43 q.on.length c43, .slice b43 q.kept.length e43] 38) = u47 ∧ Below u43.heap.size u43 u47 ∧ BxQ u47 u43.heap.size (.slice a43 q.on.length c43) (.slice b43 q.kept.length e43) ∧ u47.heap.size = u43.heap.size + 1 :=
    ⟨_, rfl, (Below.refl _ _).alloc (Nat.le_refl _) _, bxq_new _ _ _ _, by simp⟩
  rw [hu47]
  clear hu47
  have s47 := g47.size
  replace G := G.trans (g47.mono (by omega))
  replace P := P.below g47 (by omega)
  replace W := W.below g47 (by omega)
  replace W0 := W0.below g47 (by omega)
  replace Y0 := Y0.below g47 (by omega)
  replace Y := Y.below g47 (by omega)
  replace V := V.below g47 (by omega)
  clear g47
  have V0 := Y47
  clear Y47
  refine (eqMkO_same _ _ _ _ _ _ _ q V.r W.r (by omega) (by omega)).mono ?_
  rintro e1 u48 ⟨rfl, g48⟩
  have s48 := g48.size
  replace G := G.trans (g48.mono (by omega))
  replace P := P.below g48 (by omega)
  replace W := W.below g48 (by omega)
  replace W0 := W0.below g48 (by omega)
  replace Y0 := Y0.below g48 (by omega)
  replace Y := Y.below g48 (by omega)
  replace V := V.below g48 (by omega)
  replace V0 := V0.below g48 (by omega)
  clear g48
  obtain ⟨z49, z50⟩ := id Y0
  go_wp2_with fail
  clear z49 z50
  have hh := heldMkO_any _ _ _ _ q 1 Y (by omega) (by omega) (by omega)
  rw [HM.out] at hh
  refine hh.mono ?_
  clear hh
  rintro e1 u51 ⟨rfl, g51⟩
  have s51 := g51.size
  replace G := G.trans (g51.mono (by omega))
  replace P := P.below g51 (by omega)
  replace W := W.below g51 (by omega)
  replace W0 := W0.below g51 (by omega)
  replace Y0 := Y0.below g51 (by omega)
  replace Y := Y.below g51 (by omega)
  replace V := V.below g51 (by omega)
  replace V0 := V0.below g51 (by omega)
  clear g51
  go_wp2
  go_ret
  exact ⟨rfl, G⟩
end Go.Proofs.Ytokphdpaghkakaa
