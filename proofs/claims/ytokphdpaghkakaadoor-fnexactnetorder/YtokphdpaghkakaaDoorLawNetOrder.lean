/-
  FnExactNetOrder, walked at every argument, given what the program's NetOrder answers. (Written by our generator exactown.py.)
-/
import Derived.Test.YtokphdpaghkakaaDoorLawOwnN
import Derived.Test.YtokphdpaghkakaaDoorNetOrd
import Derived.Test.YtokphdpaghkakaaDoorNetMark
import Derived.Test.YtokphdpaghkakaaDoorLaidForms
namespace Go.Proofs.YtokphdpaghkakaaDoor
open Go.ChangeShapes Go.WideShapes Go.ChangeAt Go.RowKit
set_option linter.unusedVariables false

set_option maxRecDepth 100000 in
set_option maxHeartbeats 16000000 in
theorem exactNetOrder_walk
    (impl : ∀ (w : World) (_ : FormsAt w) (m0 : Value) (lo0 hi0 : Nat) (d0 : NetD), NI w lo0 hi0 m0 d0 → hi0 ≤ w.heap.size → d0.many ≤ 1048576 → Calls Tryd.prog 10 #[m0] w fun e w' => ∃ v', e = .returned v' ∧ OI w' w.heap.size w'.heap.size v' (netOrder d0) ∧ Below w.heap.size w w')
    (w : World) (hTab : FormsAt w) (v0 : Value) (d0 : NetD) (r0 : NI w 0 w.heap.size v0 d0) :
    Calls Tryd.prog 3 #[v0] w fun e w' => e = .returned (.bool true) ∧ Below w.heap.size w w' := by
  obtain ⟨q, hq⟩ : ∃ q, netOrder d0 = q := ⟨_, rfl⟩
  have hqb : q.length ≤ 8 := by rw [← hq]; exact netOrder_len d0
  have HQ : Hid (netOrder d0 = q) := hq
  clear hq
  obtain ⟨paA, caA, pbA, cbA, rfl⟩ := r0.shape
  have R0 : Hid (NI w 0 w.heap.size (.agg #[.slice paA d0.ws.length caA, .slice pbA d0.ds.length cbA]) d0) := r0
  clear r0
  go_enter Tryd.func3, Tryd.ntmps3
  go_wp2_with fail
  obtain ⟨u0, eu0⟩ : ∃ u0, w.alloc (.cells #[.slice paA d0.ws.length caA, .slice pbA d0.ds.length cbA] 25) = u0 := ⟨_, rfl⟩
  have s0 : u0.heap.size = w.heap.size + 1 := by rw [← eu0]; simp
  have G : Below w.heap.size w u0 := by rw [← eu0]; exact (Below.refl _ _).alloc (Nat.le_refl _) _
  have P := bxp_new w (.slice paA d0.ws.length caA) (.slice pbA d0.ds.length cbA) 25
  rw [eu0] at P ⊢
  clear eu0
  refine (szNet_any _ _ _ _ d0 (1048576) (R0.out.below G (Nat.le_refl _)) (by omega) (by omega) (by omega)).mono ?_
  by_cases big : (1048576 : Int) < (d0.many : Int)
  · rw [if_pos big]
    rintro e1 q1 ⟨rfl, g1⟩
    have hbq := G.trans (g1.mono (by omega))
    clear g1 P
    go_wp2
    go_ret
    exact ⟨rfl, hbq⟩
  rw [if_neg big]
  rintro e1 u1 ⟨rfl, g1⟩
  have np : ¬ ((1048576 - (d0.many : Int) : Int) < 0) := by omega
  have nb : d0.many ≤ 1048576 := by omega
  have s1 := g1.size
  replace G := G.trans (g1.mono (by omega))
  replace P := P.below g1 (by omega)
  clear g1
  obtain ⟨z2, z3⟩ := id P
  go_wp2_with fail
  clear z2 z3
  refine (toNet_any _ _ _ _ d0 (R0.out.below G (Nat.le_refl _)) (by omega) nb).mono ?_
  rintro e1 u4 ⟨m', rfl, O4, g4⟩
  obtain ⟨paT4, caT4, pbT4, cbT4, rfl⟩ := O4.ni.shape
  have s4 := g4.size
  replace G := G.trans (g4.mono (by omega))
  replace P := P.below g4 (by omega)
  clear g4
  have X := O4
  clear O4
  go_wp2_with fail
  have hcc := sNetOrder_any _ _ _ _ d0 X.ni (by omega)
  rw [HQ.out] at hcc
  refine hcc.mono ?_
  clear hcc
  rintro e1 u5 ⟨m', rfl, O5, g5⟩
  replace O5 := O5.oi
  obtain ⟨a5, c5, rfl⟩ := OI.shape3 O5
  have s5 := g5.size
  replace G := G.trans (g5.mono (by omega))
  replace P := P.below g5 (by omega)
  clear g5
  have W := O5
  clear O5
  obtain ⟨z6, z7⟩ := id P
  go_wp2_with fail
  clear z6 z7
  refine (toNet_any _ _ _ _ d0 (R0.out.below G (Nat.le_refl _)) (by omega) nb).mono ?_
  rintro e1 u8 ⟨m', rfl, O8, g8⟩
  obtain ⟨paT8, caT8, pbT8, cbT8, rfl⟩ := O8.ni.shape
  have s8 := g8.size
  replace G := G.trans (g8.mono (by omega))
  replace P := P.below g8 (by omega)
  replace W := W.below g8 (by omega)
  clear g8
  have X := O8
  clear O8
  go_wp2_with fail
  obtain ⟨u9, hu9, g9, Y9, t9⟩ : ∃ u9, u8.alloc (.cells #[.slice paT8 d0.ws.length caT8, .slice pbT8 d0.ds.length cbT8] 32) = u9 ∧ Below u8.heap.size u8 u9 ∧ BxP u9 u8.heap.size (.slice paT8 d0.ws.length caT8) (.slice pbT8 d0.ds.length cbT8) ∧ u9.heap.size = u8.heap.size + 1 :=
    ⟨_, rfl, (Below.refl _ _).alloc (Nat.le_refl _) _, bxp_new _ _ _ _, by simp⟩
  rw [hu9]
  clear hu9
  have s9 := g9.size
  replace G := G.trans (g9.mono (by omega))
  replace P := P.below g9 (by omega)
  replace W := W.below g9 (by omega)
  replace X := X.below g9 (by omega)
  clear g9
  have X0 := Y9
  clear Y9
  obtain ⟨z10, z11⟩ := id X0
  have hcc := impl _ (hTab.grow G) _ _ _ d0 X.ni (by omega) nb
  rw [HQ.out] at hcc
  refine hcc.mono ?_
  clear hcc
  rintro e1 u12 ⟨m', rfl, O12, g12⟩
  obtain ⟨a12, c12, rfl⟩ := OI.shape3 O12
  have s12 := g12.size
  replace G := G.trans (g12.mono (by omega))
  replace P := P.below g12 (by omega)
  replace W := W.below g12 (by omega)
  replace X := X.below g12 (by omega)
  replace X0 := X0.below g12 (by omega)
  clear g12
  have Y := O12
  clear O12
  go_wp2_with fail
  refine (eqIntS_any _ _ _ _ _ _ _ q q Y.si W.si).mono ?_
  rw [decide_eq_true rfl]
  rintro e1 u13 ⟨m13, rfl, hm13⟩
  have g13 : Below u12.heap.size u12 u13 := by rw [hm13]; exact below_drewN (Below.refl _ _) m13
  clear hm13
  have s13 := g13.size
  replace G := G.trans (g13.mono (by omega))
  replace P := P.below g13 (by omega)
  replace W := W.below g13 (by omega)
  replace X := X.below g13 (by omega)
  replace X0 := X0.below g13 (by omega)
  replace Y := Y.below g13 (by omega)
  clear g13
  go_wp2_with fail
  refine wp_region_dag (R := Grow) (Φ := fun i v u => match i with
      | 0 => v = .agg #[.slice paT8 d0.ws.length caT8, .slice pbT8 d0.ds.length cbT8]
      | 1 => v = .agg #[.slice paA d0.ws.length caA, .slice pbA d0.ds.length cbA]
      | 2 => ∃ lo' hi', hi' ≤ u.heap.size ∧ NOw u lo' hi' v d0
      | 3 => v = .bool true
      | 4 => v = .bool false
      | _ => True) (by kernel_rfl) (by kernel_rfl) (by kernel_rfl) (Below.refl _ _) grow_trans ?_ ?_ ?_
  · intro i v u u' hr
    match i with
    | 0 | 1 | 3 | 4 | _ + 5 => exact fun h => h
    | 2 => exact fun ⟨lo', hi', h1, h2⟩ => ⟨lo', hi', Nat.le_trans h1 hr.size, h2.below hr h1⟩
  · intro i o ho a u hf hR0 he K' hK
    have hR : Grow u13 u := (Below.drew (Below.refl _ _)).trans hR0
    have hRw : Below w.heap.size w u := G.trans (hR.mono (by omega))
    have hsz' : a.tmps.size = 69 := hf.size
    have hus : u13.heap.size ≤ u.heap.size := hR.size
    rcases i with _ | _ | _ | _ | _ | i
    · obtain rfl := Option.some.inj ho
      clear he
      have q1 : a.tmps.getD 5 undef = .pointer (some ⟨u8.heap.size, 0, none⟩) := hf.at_ 5 (by kernel_rfl)
      obtain ⟨c0, c1⟩ := X0.below hR (by omega)
      go_simp
      exact hK _ _ (Below.refl _ _) (getD_put_self a 27 _ (by show _ < a.tmps.size; omega))
    · obtain rfl := Option.some.inj ho
      clear he
      have q1 : a.tmps.getD 1 undef = .pointer (some ⟨w.heap.size, 0, none⟩) := hf.at_ 1 (by kernel_rfl)
      obtain ⟨c0, c1⟩ := P.below hR (by omega)
      go_simp
      exact hK _ _ (Below.refl _ _) (getD_put_self a 28 _ (by show _ < a.tmps.size; omega))
    · obtain rfl := Option.some.inj ho
      have q1 : a.tmps.getD 28 undef = .agg #[.slice paA d0.ws.length caA, .slice pbA d0.ds.length cbA] := he _ (Array.mem_of_getElem? (i := 0) rfl) (by kernel_rfl) _ rfl
      clear he
      go_simp
      refine (toNet_any _ _ _ _ d0 (R0.out.below hRw (Nat.le_refl _)) (by omega) nb).mono ?_
      rintro e1 u' ⟨m', rfl, HOx, hbu⟩
      exact hK _ _ hbu ⟨_, _, Nat.le_refl _, by show NOw _ _ _ ((a.put (some 29) m').tmps.getD 29 undef) d0; rw [getD_put_self a 29 _ (by show _ < a.tmps.size; omega)]; exact HOx⟩
    · obtain rfl := Option.some.inj ho
      have q22 : a.tmps.getD 27 undef = .agg #[.slice paT8 d0.ws.length caT8, .slice pbT8 d0.ds.length cbT8] := he _ (Array.mem_of_getElem? (i := 0) rfl) (by kernel_rfl) _ rfl
      obtain ⟨lo24, hi24, hh24, HO24⟩ := he _ (Array.mem_of_getElem? (i := 1) rfl) (by kernel_rfl) _ rfl
      have HO24 : NOw u lo24 hi24 (a.tmps.getD 29 undef) d0 := HO24
      obtain ⟨mm24, em24⟩ : ∃ mm, a.tmps.getD 29 undef = mm := ⟨_, rfl⟩
      rw [em24] at HO24
      clear he
      go_simp
      refine (eqNet_same _ _ _ _ _ _ _ d0 (X.below hR (by omega)).ni HO24.ni (by omega) hh24).mono ?_
      rintro e1 u' ⟨rfl, hbu⟩
      exact hK _ _ hbu (getD_put_self a 30 _ (by show _ < a.tmps.size; omega))
    · obtain rfl := Option.some.inj ho
      have q1 : a.tmps.getD 30 undef = .bool true := he _ (Array.mem_of_getElem? (i := 0) rfl) (by kernel_rfl) _ rfl
      clear he
      go_simp
      exact hK _ _ (Below.refl _ _) (getD_put_self a 31 _ (by show _ < a.tmps.size; omega))
    · exact absurd ho (by simp)
  intro a u14 hf hR0 hp
  have g14 : Grow u13 u14 := (Below.drew (Below.refl _ _)).trans hR0
  have md : a.defers = [] := hf.defers
  have m31 : a.tmps.getD 31 undef = .bool false := hp 4 _ rfl
  have m1 : a.tmps.getD 1 undef = .pointer (some ⟨w.heap.size, 0, none⟩) := hf.at_ 1 (by kernel_rfl)
  have m5 : a.tmps.getD 5 undef = .pointer (some ⟨u8.heap.size, 0, none⟩) := hf.at_ 5 (by kernel_rfl)
  have m4 : a.tmps.getD 4 undef = .slice a5 q.length c5 := hf.at_ 4 (by kernel_rfl)
  have m6 : a.tmps.getD 6 undef = .slice a12 q.length c12 := hf.at_ 6 (by kernel_rfl)
  obtain ⟨f, ea, hfv⟩ := act_lit a 69 hf.size
  rw [← hfv] at m31 m1 m5 m4 m6
  rw [md] at ea
  simp only [List.range, List.range.loop, List.map_cons, List.map_nil, m31, m1, m5, m4, m6] at ea
  subst ea
  clear hfv hf md hp hR0
  have s14 := g14.size
  replace G := G.trans (g14.mono (by omega))
  replace P := P.below g14 (by omega)
  replace W := W.below g14 (by omega)
  replace X := X.below g14 (by omega)
  replace X0 := X0.below g14 (by omega)
  replace Y := Y.below g14 (by omega)
  clear g14
  obtain ⟨z15, z16⟩ := id X0
  go_wp2_with fail
  clear z15 z16
  refine (markNet_any _ _ _ _ d0 1 X (by omega) (by omega) (by omega) (by omega)).mono ?_
  rintro e1 u17 ⟨k17, rfl, hk17, hk17', o17⟩
  clear X X0
  have s17 := o17.size
  replace G := G.trans (o17.below (by omega) (by omega))
  replace P := P.out o17 (by omega) (by omega)
  replace W := W.out o17 (by omega) (by omega)
  replace Y := Y.out o17 (by omega) (by omega)
  clear o17
  have hneg : ¬ (k17 < 0) := by omega
  go_wp2_with fail
  refine (eqIntS_any _ _ _ _ _ _ _ q q Y.si W.si).mono ?_
  rw [decide_eq_true rfl]
  rintro e1 u18 ⟨m18, rfl, hm18⟩
  have g18 : Below u17.heap.size u17 u18 := by rw [hm18]; exact below_drewN (Below.refl _ _) m18
  clear hm18
  have s18 := g18.size
  replace G := G.trans (g18.mono (by omega))
  replace P := P.below g18 (by omega)
  replace W := W.below g18 (by omega)
  replace Y := Y.below g18 (by omega)
  clear g18
  go_wp2_with fail
  refine (markIntS_any _ _ _ _ q 1 Y (by omega) (by omega) (by omega)).mono ?_
  rintro e1 u19 ⟨rfl, Y2, wr19⟩
  have o19 := Y.wroteOut wr19 (by omega)
  clear wr19
  clear Y
  have s19 := o19.size
  replace G := G.trans (o19.below (by omega) (by omega))
  replace P := P.out o19 (by omega) (by omega)
  replace W := W.out o19 (by omega) (by omega)
  clear o19
  have Y := Y2
  clear Y2
  have hm0 : ¬ ((1 : Int) + (q.length : Int) < 0) := by omega
  obtain ⟨M, hM⟩ : ∃ M, (1 : Int) + (q.length : Int) = M := ⟨_, rfl⟩
  have HM : Hid ((1 : Int) + (q.length : Int) = M) := hM
  rw [hM] at hm0 ⊢
  clear hM
  go_wp2_with fail
  have hh := heldIntS_any _ _ _ _ q.length 1 Y.si (by omega) (by omega) (by omega)
  rw [HM.out] at hh
  refine hh.mono ?_
  clear hh
  rintro e1 u20 ⟨rfl, rfl⟩
  obtain ⟨z21, z22⟩ := id P
  go_wp2_with fail
  clear z21 z22
  refine (toNet_any _ _ _ _ d0 (R0.out.below G (Nat.le_refl _)) (by omega) nb).mono ?_
  rintro e1 u23 ⟨m', rfl, O23, g23⟩
  obtain ⟨paT23, caT23, pbT23, cbT23, rfl⟩ := O23.ni.shape
  have s23 := g23.size
  replace G := G.trans (g23.mono (by omega))
  replace P := P.below g23 (by omega)
  replace W := W.below g23 (by omega)
  replace Y := Y.below g23 (by omega)
  clear g23
  have Z := O23
  clear O23
  go_wp2_with fail
  have hcc := impl _ (hTab.grow G) _ _ _ d0 Z.ni (by omega) nb
  rw [HQ.out] at hcc
  refine hcc.mono ?_
  clear hcc
  rintro e1 u24 ⟨m', rfl, O24, g24⟩
  obtain ⟨a24, c24, rfl⟩ := OI.shape3 O24
  have s24 := g24.size
  replace G := G.trans (g24.mono (by omega))
  replace P := P.below g24 (by omega)
  replace W := W.below g24 (by omega)
  replace Y := Y.below g24 (by omega)
  clear g24
  have V := O24
  clear O24
  go_wp2_with fail
  refine (eqIntS_any _ _ _ _ _ _ _ q q V.si W.si).mono ?_
  rw [decide_eq_true rfl]
  rintro e1 u25 ⟨m25, rfl, hm25⟩
  have g25 : Below u24.heap.size u24 u25 := by rw [hm25]; exact below_drewN (Below.refl _ _) m25
  clear hm25
  have s25 := g25.size
  replace G := G.trans (g25.mono (by omega))
  replace P := P.below g25 (by omega)
  replace W := W.below g25 (by omega)
  replace Y := Y.below g25 (by omega)
  replace V := V.below g25 (by omega)
  clear g25
  go_wp2_with fail
  have hh := heldIntS_any _ _ _ _ q.length 1 Y.si (by omega) (by omega) (by omega)
  rw [HM.out] at hh
  refine hh.mono ?_
  clear hh
  rintro e1 u26 ⟨rfl, rfl⟩
  go_wp2
  go_ret
  exact ⟨rfl, G⟩
end Go.Proofs.YtokphdpaghkakaaDoor
