/-
  FnExactNetNew, walked at every argument, given what the program's NetNew answers. (Written by our generator exactown.py.)
-/
import Derived.Test.YtokphdpaghkakaaDoorLawOwnN
import Derived.Test.YtokphdpaghkakaaDoorNetNewS
import Derived.Test.YtokphdpaghkakaaDoorNetNewI
import Derived.Test.YtokphdpaghkakaaDoorNetMark
import Derived.Test.YtokphdpaghkakaaDoorLaidForms
namespace Go.Proofs.YtokphdpaghkakaaDoor
open Go.ChangeShapes Go.WideShapes Go.ChangeAt Go.RowKit
set_option linter.unusedVariables false

set_option maxRecDepth 100000 in
set_option maxHeartbeats 16000000 in
theorem exactNetNew_walk
    (impl : ∀ (w : World) (_ : FormsAt w) (m0 : Value) (lo0 hi0 : Nat) (d0 : NetD), NI w lo0 hi0 m0 d0 → hi0 ≤ w.heap.size → d0.many ≤ 1048576 → Calls Tryd.prog 17 #[m0] w fun e w' => ∃ v', e = .returned v' ∧ StO w' w.heap.size w'.heap.size v' (netNew d0) ∧ Below w.heap.size w w')
    (w : World) (hTab : FormsAt w) (v0 : Value) (d0 : NetD) (r0 : NI w 0 w.heap.size v0 d0) :
    Calls Tryd.prog 4 #[v0] w fun e w' => e = .returned (.bool true) ∧ Below w.heap.size w w' := by
  obtain ⟨q, hq⟩ : ∃ q, netNew d0 = q := ⟨_, rfl⟩
  have hqb : q.bs.length ≤ 8 ∧ q.ls.length ≤ 8 := by rw [← hq]; exact netNew_len d0
  have HQ : Hid (netNew d0 = q) := hq
  clear hq
  obtain ⟨paA, caA, pbA, cbA, rfl⟩ := r0.shape
  have R0 : Hid (NI w 0 w.heap.size (.agg #[.slice paA d0.ws.length caA, .slice pbA d0.ds.length cbA]) d0) := r0
  clear r0
  go_enter Tryd.func4, Tryd.ntmps4
  go_wp2_with fail
  obtain ⟨u0, eu0⟩ : ∃ u0, w.alloc (.cells #[.slice paA d0.ws.length caA, .slice pbA d0.ds.length cbA] 25) = u0 := ⟨_, rfl⟩
  have s0 : u0.heap.size = w.heap.size + 1 := by rw [← eu0]; simp
  have G : Below w.heap.size w u0 := by rw [← eu0]; exact (Below.refl _ _).alloc (Nat.le_refl _) _
  have P := bxp_new w (.slice paA d0.ws.length caA) (.slice pbA d0.ds.length cbA) 25
  rw [eu0] at P ⊢
  clear eu0
  refine (szNet_any _ _ _ _ d0 (1048576) (R0.out.below G (Nat.le_refl _)) (by omega) (by omega) (by omega)).mono ?_
  by_cases big : (1048576 : Int) < (d0.many : Int)
  · rw [if_pos big]
    rintro e1 q1 ⟨rfl, g1⟩
    have hbq := G.trans (g1.mono (by omega))
    clear g1 P
    go_wp2
    go_ret
    exact ⟨rfl, hbq⟩
  rw [if_neg big]
  rintro e1 u1 ⟨rfl, g1⟩
  have np : ¬ ((1048576 - (d0.many : Int) : Int) < 0) := by omega
  have nb : d0.many ≤ 1048576 := by omega
  have s1 := g1.size
  replace G := G.trans (g1.mono (by omega))
  replace P := P.below g1 (by omega)
  clear g1
  obtain ⟨z2, z3⟩ := id P
  go_wp2_with fail
  clear z2 z3
  refine (toNet_any _ _ _ _ d0 (R0.out.below G (Nat.le_refl _)) (by omega) nb).mono ?_
  rintro e1 u4 ⟨m', rfl, O4, g4⟩
  obtain ⟨paT4, caT4, pbT4, cbT4, rfl⟩ := O4.ni.shape
  have s4 := g4.size
  replace G := G.trans (g4.mono (by omega))
  replace P := P.below g4 (by omega)
  clear g4
  have X := O4
  clear O4
  go_wp2_with fail
  have hcc := sNetNew_any _ _ _ _ d0 X.ni (by omega)
  rw [HQ.out] at hcc
  refine hcc.mono ?_
  clear hcc
  rintro e1 u5 ⟨m', rfl, O5, g5⟩
  obtain ⟨a5, c5, b5, e5, rfl⟩ := StO.shape O5
  have s5 := g5.size
  replace G := G.trans (g5.mono (by omega))
  replace P := P.below g5 (by omega)
  clear g5
  have W := O5
  clear O5
  obtain ⟨z6, z7⟩ := id P
  have lt8 : w.heap.size < u5.heap.size := by omega
  go_wp2_with fail
  clear z6 z7 lt8
  obtain ⟨u9, hu9, g9, Y9, t9⟩ : ∃ u9, u5.alloc (.cells #[.slice a5 q.bs.length c5, .slice b5 q.ls.length e5] 42) = u9 ∧ Below u5.heap.size u5 u9 ∧ BxP u9 u5.heap.size (.slice a5 q.bs.length c5) (.slice b5 q.ls.length e5) ∧ u9.heap.size = u5.heap.size + 1 :=
    ⟨_, rfl, (Below.refl _ _).alloc (Nat.le_refl _) _, bxp_new _ _ _ _, by simp⟩
  rw [hu9]
  clear hu9
  have s9 := g9.size
  replace G := G.trans (g9.mono (by omega))
  replace P := P.below g9 (by omega)
  replace W := W.below g9 (by omega)
  clear g9
  have W0 := Y9
  clear Y9
  refine (toNet_any _ _ _ _ d0 (R0.out.below G (Nat.le_refl _)) (by omega) nb).mono ?_
  rintro e1 u10 ⟨m', rfl, O10, g10⟩
  obtain ⟨paT10, caT10, pbT10, cbT10, rfl⟩ := O10.ni.shape
  have s10 := g10.size
  replace G := G.trans (g10.mono (by omega))
  replace P := P.below g10 (by omega)
  replace W := W.below g10 (by omega)
  replace W0 := W0.below g10 (by omega)
  clear g10
  have X := O10
  clear O10
  go_wp2_with fail
  obtain ⟨u11, hu11, g11, Y11, t11⟩ : ∃ u11, u10.alloc (.cells #[.slice paT10 d0.ws.length caT10, .slice pbT10 d0.ds.length cbT10] 32) = u11 ∧ Below u10.heap.size u10 u11 ∧ BxP u11 u10.heap.size (.slice paT10 d0.ws.length caT10) (.slice pbT10 d0.ds.length cbT10) ∧ u11.heap.size = u10.heap.size + 1 :=
    ⟨_, rfl, (Below.refl _ _).alloc (Nat.le_refl _) _, bxp_new _ _ _ _, by simp⟩
  rw [hu11]
  clear hu11
  have s11 := g11.size
  replace G := G.trans (g11.mono (by omega))
  replace P := P.below g11 (by omega)
  replace W := W.below g11 (by omega)
  replace W0 := W0.below g11 (by omega)
  replace X := X.below g11 (by omega)
  clear g11
  have X0 := Y11
  clear Y11
  obtain ⟨z12, z13⟩ := id X0
  have hcc := impl _ (hTab.grow G) _ _ _ d0 X.ni (by omega) nb
  rw [HQ.out] at hcc
  refine hcc.mono ?_
  clear hcc
  rintro e1 u14 ⟨m', rfl, O14, g14⟩
  obtain ⟨a14, c14, b14, e14, rfl⟩ := StO.shape O14
  have s14 := g14.size
  replace G := G.trans (g14.mono (by omega))
  replace P := P.below g14 (by omega)
  replace W := W.below g14 (by omega)
  replace W0 := W0.below g14 (by omega)
  replace X := X.below g14 (by omega)
  replace X0 := X0.below g14 (by omega)
  clear g14
  have Y := O14
  clear O14
  obtain ⟨z15, z16⟩ := id W0
  have lt17 : u5.heap.size < u14.heap.size := by omega
  go_wp2_with fail
  clear z15 z16 lt17
  obtain ⟨u18, hu18, g18, Y18, t18⟩ : ∃ u18, u14.alloc (.cells #[.slice a14 q.bs.length c14, .slice b14 q.ls.length e14] 42) = u18 ∧ Below u14.heap.size u14 u18 ∧ BxP u18 u14.heap.size (.slice a14 q.bs.length c14) (.slice b14 q.ls.length e14) ∧ u18.heap.size = u14.heap.size + 1 :=
    ⟨_, rfl, (Below.refl _ _).alloc (Nat.le_refl _) _, bxp_new _ _ _ _, by simp⟩
  rw [hu18]
  clear hu18
  have s18 := g18.size
  replace G := G.trans (g18.mono (by omega))
  replace P := P.below g18 (by omega)
  replace W := W.below g18 (by omega)
  replace W0 := W0.below g18 (by omega)
  replace X := X.below g18 (by omega)
  replace X0 := X0.below g18 (by omega)
  replace Y := Y.below g18 (by omega)
  clear g18
  have Y0 := Y18
  clear Y18
  refine (eqStO_same _ _ _ _ _ _ _ q Y.r W.r (by omega) (by omega)).mono ?_
  rintro e1 u19 ⟨rfl, g19⟩
  have s19 := g19.size
  replace G := G.trans (g19.mono (by omega))
  replace P := P.below g19 (by omega)
  replace W := W.below g19 (by omega)
  replace W0 := W0.below g19 (by omega)
  replace X := X.below g19 (by omega)
  replace X0 := X0.below g19 (by omega)
  replace Y := Y.below g19 (by omega)
  replace Y0 := Y0.below g19 (by omega)
  clear g19
  go_wp2_with fail
  refine wp_region_dag (R := Grow) (Φ := fun i v u => match i with
      | 0 => v = .agg #[.slice paT10 d0.ws.length caT10, .slice pbT10 d0.ds.length cbT10]
      | 1 => v = .agg #[.slice paA d0.ws.length caA, .slice pbA d0.ds.length cbA]
      | 2 => ∃ lo' hi', hi' ≤ u.heap.size ∧ NOw u lo' hi' v d0
      | 3 => v = .bool true
      | 4 => v = .bool false
      | _ => True) (by kernel_rfl) (by kernel_rfl) (by kernel_rfl) (Below.refl _ _) grow_trans ?_ ?_ ?_
  · intro i v u u' hr
    match i with
    | 0 | 1 | 3 | 4 | _ + 5 => exact fun h => h
    | 2 => exact fun ⟨lo', hi', h1, h2⟩ => ⟨lo', hi', Nat.le_trans h1 hr.size, h2.below hr h1⟩
  · intro i o ho a u hf hR0 he K' hK
    have hR : Grow u19 u := (Below.drew (Below.refl _ _)).trans hR0
    have hRw : Below w.heap.size w u := G.trans (hR.mono (by omega))
    have hsz' : a.tmps.size = 69 := hf.size
    have hus : u19.heap.size ≤ u.heap.size := hR.size
    rcases i with _ | _ | _ | _ | _ | i
    · obtain rfl := Option.some.inj ho
      clear he
      have q1 : a.tmps.getD 5 undef = .pointer (some ⟨u10.heap.size, 0, none⟩) := hf.at_ 5 (by kernel_rfl)
      obtain ⟨c0, c1⟩ := X0.below hR (by omega)
      go_simp
      exact hK _ _ (Below.refl _ _) (getD_put_self a 27 _ (by show _ < a.tmps.size; omega))
    · obtain rfl := Option.some.inj ho
      clear he
      have q1 : a.tmps.getD 1 undef = .pointer (some ⟨w.heap.size, 0, none⟩) := hf.at_ 1 (by kernel_rfl)
      obtain ⟨c0, c1⟩ := P.below hR (by omega)
      go_simp
      exact hK _ _ (Below.refl _ _) (getD_put_self a 28 _ (by show _ < a.tmps.size; omega))
    · obtain rfl := Option.some.inj ho
      have q1 : a.tmps.getD 28 undef = .agg #[.slice paA d0.ws.length caA, .slice pbA d0.ds.length cbA] := he _ (Array.mem_of_getElem? (i := 0) rfl) (by kernel_rfl) _ rfl
      clear he
      go_simp
      refine (toNet_any _ _ _ _ d0 (R0.out.below hRw (Nat.le_refl _)) (by omega) nb).mono ?_
      rintro e1 u' ⟨m', rfl, HOx, hbu⟩
      exact hK _ _ hbu ⟨_, _, Nat.le_refl _, by show NOw _ _ _ ((a.put (some 29) m').tmps.getD 29 undef) d0; rw [getD_put_self a 29 _ (by show _ < a.tmps.size; omega)]; exact HOx⟩
    · obtain rfl := Option.some.inj ho
      have q22 : a.tmps.getD 27 undef = .agg #[.slice paT10 d0.ws.length caT10, .slice pbT10 d0.ds.length cbT10] := he _ (Array.mem_of_getElem? (i := 0) rfl) (by kernel_rfl) _ rfl
      obtain ⟨lo24, hi24, hh24, HO24⟩ := he _ (Array.mem_of_getElem? (i := 1) rfl) (by kernel_rfl) _ rfl
      have HO24 : NOw u lo24 hi24 (a.tmps.getD 29 undef) d0 := HO24
      obtain ⟨mm24, em24⟩ : ∃ mm, a.tmps.getD 29 undef = mm := ⟨_, rfl⟩
      rw [em24] at HO24
      clear he
      go_simp
      refine (eqNet_same _ _ _ _ _ _ _ d0 (X.below hR (by omega)).ni HO24.ni (by omega) hh24).mono ?_
      rintro e1 u' ⟨rfl, hbu⟩
      exact hK _ _ hbu (getD_put_self a 30 _ (by show _ < a.tmps.size; omega))
    · obtain rfl := Option.some.inj ho
      have q1 : a.tmps.getD 30 undef = .bool true := he _ (Array.mem_of_getElem? (i := 0) rfl) (by kernel_rfl) _ rfl
      clear he
      go_simp
      exact hK _ _ (Below.refl _ _) (getD_put_self a 31 _ (by show _ < a.tmps.size; omega))
    · exact absurd ho (by simp)
  intro a u20 hf hR0 hp
  have g20 : Grow u19 u20 := (Below.drew (Below.refl _ _)).trans hR0
  have md : a.defers = [] := hf.defers
  have m31 : a.tmps.getD 31 undef = .bool false := hp 4 _ rfl
  have m1 : a.tmps.getD 1 undef = .pointer (some ⟨w.heap.size, 0, none⟩) := hf.at_ 1 (by kernel_rfl)
  have m5 : a.tmps.getD 5 undef = .pointer (some ⟨u10.heap.size, 0, none⟩) := hf.at_ 5 (by kernel_rfl)
  have m4 : a.tmps.getD 4 undef = .pointer (some ⟨u5.heap.size, 0, none⟩) := hf.at_ 4 (by kernel_rfl)
  have m6 : a.tmps.getD 6 undef = .pointer (some ⟨u14.heap.size, 0, none⟩) := hf.at_ 6 (by kernel_rfl)
  obtain ⟨f, ea, hfv⟩ := act_lit a 69 hf.size
  rw [← hfv] at m31 m1 m5 m4 m6
  rw [md] at ea
  simp only [List.range, List.range.loop, List.map_cons, List.map_nil, m31, m1, m5, m4, m6] at ea
  subst ea
  clear hfv hf md hp hR0
  have s20 := g20.size
  replace G := G.trans (g20.mono (by omega))
  replace P := P.below g20 (by omega)
  replace W := W.below g20 (by omega)
  replace W0 := W0.below g20 (by omega)
  replace X := X.below g20 (by omega)
  replace X0 := X0.below g20 (by omega)
  replace Y := Y.below g20 (by omega)
  replace Y0 := Y0.below g20 (by omega)
  clear g20
  obtain ⟨z21, z22⟩ := id X0
  go_wp2_with fail
  clear z21 z22
  refine (markNet_any _ _ _ _ d0 1 X (by omega) (by omega) (by omega) (by omega)).mono ?_
  rintro e1 u23 ⟨k23, rfl, hk23, hk23', o23⟩
  clear X X0
  have s23 := o23.size
  replace G := G.trans (o23.below (by omega) (by omega))
  replace P := P.out o23 (by omega) (by omega)
  replace W := W.out o23 (by omega) (by omega)
  replace W0 := W0.out o23 (by omega) (by omega)
  replace Y := Y.out o23 (by omega) (by omega)
  replace Y0 := Y0.out o23 (by omega) (by omega)
  clear o23
  have hneg : ¬ (k23 < 0) := by omega
  obtain ⟨z24, z25⟩ := id Y0
  obtain ⟨z26, z27⟩ := id W0
  go_wp2_with fail
  clear z24 z25 z26 z27
  refine (eqStO_same _ _ _ _ _ _ _ q Y.r W.r (by omega) (by omega)).mono ?_
  rintro e1 u28 ⟨rfl, g28⟩
  have s28 := g28.size
  replace G := G.trans (g28.mono (by omega))
  replace P := P.below g28 (by omega)
  replace W := W.below g28 (by omega)
  replace W0 := W0.below g28 (by omega)
  replace Y := Y.below g28 (by omega)
  replace Y0 := Y0.below g28 (by omega)
  clear g28
  obtain ⟨z29, z30⟩ := id Y0
  go_wp2_with fail
  clear z29 z30
  refine (markStO_any _ _ _ _ q 1 Y (by omega) (by omega) (by omega)).mono ?_
  rintro e1 u31 ⟨rfl, Y2, o31⟩
  clear Y
  have s31 := o31.size
  replace G := G.trans (o31.below (by omega) (by omega))
  replace P := P.out o31 (by omega) (by omega)
  replace W := W.out o31 (by omega) (by omega)
  replace W0 := W0.out o31 (by omega) (by omega)
  replace Y0 := Y0.out o31 (by omega) (by omega)
  clear o31
  have Y := Y2
  clear Y2
  have hm0 : ¬ ((1 : Int) + (StOn q : Int) < 0) := by omega
  obtain ⟨M, hM⟩ : ∃ M, (1 : Int) + (StOn q : Int) = M := ⟨_, rfl⟩
  have HM : Hid ((1 : Int) + (StOn q : Int) = M) := hM
  rw [hM] at hm0 ⊢
  clear hM
  obtain ⟨z32, z33⟩ := id Y0
  go_wp2_with fail
  clear z32 z33
  have hh := heldStO_any _ _ _ _ q 1 Y (by omega) (by omega) (by omega)
  rw [HM.out] at hh
  refine hh.mono ?_
  clear hh
  rintro e1 u34 ⟨rfl, g34⟩
  have s34 := g34.size
  replace G := G.trans (g34.mono (by omega))
  replace P := P.below g34 (by omega)
  replace W := W.below g34 (by omega)
  replace W0 := W0.below g34 (by omega)
  replace Y0 := Y0.below g34 (by omega)
  replace Y := Y.below g34 (by omega)
  clear g34
  obtain ⟨z35, z36⟩ := id P
  go_wp2_with fail
  clear z35 z36
  refine (toNet_any _ _ _ _ d0 (R0.out.below G (Nat.le_refl _)) (by omega) nb).mono ?_
  rintro e1 u37 ⟨m', rfl, O37, g37⟩
  obtain ⟨paT37, caT37, pbT37, cbT37, rfl⟩ := O37.ni.shape
  have s37 := g37.size
  replace G := G.trans (g37.mono (by omega))
  replace P := P.below g37 (by omega)
  replace W := W.below g37 (by omega)
  replace W0 := W0.below g37 (by omega)
  replace Y0 := Y0.below g37 (by omega)
  replace Y := Y.below g37 (by omega)
  clear g37
  have Z := O37
  clear O37
  go_wp2_with fail
  have hcc := impl _ (hTab.grow G) _ _ _ d0 Z.ni (by omega) nb
  rw [HQ.out] at hcc
  refine hcc.mono ?_
  clear hcc
  rintro e1 u38 ⟨m', rfl, O38, g38⟩
  obtain ⟨a38, c38, b38, e38, rfl⟩ := StO.shape O38
  have s38 := g38.size
  replace G := G.trans (g38.mono (by omega))
  replace P := P.below g38 (by omega)
  replace W := W.below g38 (by omega)
  replace W0 := W0.below g38 (by omega)
  replace Y0 := Y0.below g38 (by omega)
  replace Y := Y.below g38 (by omega)
  clear g38
  have V := O38
  clear O38
  obtain ⟨z39, z40⟩ := id W0
  have lt41 : u5.heap.size < u38.heap.size := by omega
  go_wp2_with fail
  clear z39 z40 lt41
  obtain ⟨u42, hu42, g42, Y42, t42⟩ : ∃ u42, u38.alloc (.cells #[.slice a38 q.bs.length c38, .slice b38 q.ls.length e38] 42) = u42 ∧ Below u38.heap.size u38 u42 ∧ BxP u42 u38.heap.size (.slice a38 q.bs.length c38) (.slice b38 q.ls.length e38) ∧ u42.heap.size = u38.heap.size + 1 :=
    ⟨_, rfl, (Below.refl _ _).alloc (Nat.le_refl _) _, bxp_new _ _ _ _, by simp⟩
  rw [hu42]
  clear hu42
  have s42 := g42.size
  replace G := G.trans (g42.mono (by omega))
  replace P := P.below g42 (by omega)
  replace W := W.below g42 (by omega)
  replace W0 := W0.below g42 (by omega)
  replace Y0 := Y0.below g42 (by omega)
  replace Y := Y.below g42 (by omega)
  replace V := V.below g42 (by omega)
  clear g42
  have V0 := Y42
  clear Y42
  refine (eqStO_same _ _ _ _ _ _ _ q V.r W.r (by omega) (by omega)).mono ?_
  rintro e1 u43 ⟨rfl, g43⟩
  have s43 := g43.size
  replace G := G.trans (g43.mono (by omega))
  replace P := P.below g43 (by omega)
  replace W := W.below g43 (by omega)
  replace W0 := W0.below g43 (by omega)
  replace Y0 := Y0.below g43 (by omega)
  replace Y := Y.below g43 (by omega)
  replace V := V.below g43 (by omega)
  replace V0 := V0.below g43 (by omega)
  clear g43
  obtain ⟨z44, z45⟩ := id Y0
  go_wp2_with fail
  clear z44 z45
  have hh := heldStO_any _ _ _ _ q 1 Y (by omega) (by omega) (by omega)
  rw [HM.out] at hh
  refine hh.mono ?_
  clear hh
  rintro e1 u46 ⟨rfl, g46⟩
  have s46 := g46.size
  replace G := G.trans (g46.mono (by omega))
  replace P := P.below g46 (by omega)
  replace W := W.below g46 (by omega)
  replace W0 := W0.below g46 (by omega)
  replace Y0 := Y0.below g46 (by omega)
  replace Y := Y.below g46 (by omega)
  replace V := V.below g46 (by omega)
  replace V0 := V0.below g46 (by omega)
  clear g46
  go_wp2
  go_ret
  exact ⟨rfl, G⟩
end Go.Proofs.YtokphdpaghkakaaDoor
