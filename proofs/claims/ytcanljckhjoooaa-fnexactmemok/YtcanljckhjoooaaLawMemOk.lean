/-
  FnExactMemOk, walked at every argument, given what the program's MemOk answers. (Written by our generator lawgen.py.)
-/
import Derived.Test.YtcanljckhjoooaaMemSpec
import Derived.Test.YtcanljckhjoooaaLawKit
namespace Go.Proofs.Ytcanljckhjoooaa
open Go.ChangeShapes Go.WideShapes Go.ChangeAt Go.RowKit
set_option linter.unusedVariables false

set_option maxHeartbeats 8000000 in
theorem exactMemOk_walk
    (impl : ∀ (w : World) (m0 : Value) (lo0 hi0 : Nat) (d0 : MemD), MI w lo0 hi0 m0 d0 → hi0 ≤ w.heap.size → d0.many ≤ 1048576 → Calls Try.prog 20 #[m0] w fun e w' => e = .returned (.bool (memOk d0)) ∧ Below w.heap.size w w')
    (w : World) (v0 : Value) (d0 : MemD) (r0 : MI w 0 w.heap.size v0 d0) :
    Calls Try.prog 5 #[v0] w fun e w' => e = .returned (.bool true) ∧ Below w.heap.size w w' := by
  obtain ⟨x0, y0, z0, rfl⟩ := r0.agg
  have hb0 := Below.refl w.heap.size w
  by_cases big0 : (1048576 : Int) < d0.many
  · go_enter Try.func5, Try.ntmps5
    go_wp2_with fail
    obtain ⟨u1, hu1, G1, BX0_1, hs1⟩ : ∃ u1, w.alloc (.cells #[x0, y0, z0] 35) = u1 ∧ Grow w u1 ∧ Box3 u1 (w.heap.size) (x0) (y0) (z0) ∧ u1.heap.size = w.heap.size + 1 :=
      ⟨_, rfl, (Below.refl _ _).alloc (Nat.le_refl _) _, ⟨World.cell?_alloc_new _ _ _ _, World.cell?_alloc_new _ _ _ _, World.cell?_alloc_new _ _ _ _⟩, by simp⟩
    rw [hu1]
    clear hu1
    have D0_2 := r0.below G1 (by omega)
    have hb_2 := below_two hb0 G1
    have hz_2 := G1.size
    clear r0 hb0
    clear G1
    refine (szMem_any _ _ _ _ d0 (1048576) D0_2 (by omega) (by omega) (by omega)).mono ?_
    rw [if_pos (by omega)]
    rintro e u3 ⟨rfl, hg3⟩
    have D0_4 := D0_2.below hg3 (by omega)
    have B0_4 := BX0_1.below hg3 (by omega)
    have hb_4 := below_two hb_2 hg3
    have hz_4 := hg3.size
    clear D0_2 BX0_1 hb_2
    clear hg3
    clear D0_4 B0_4
    go_wp2
    go_ret
    exact ⟨rfl, hb_4⟩
  · go_enter Try.func5, Try.ntmps5
    go_wp2_with fail
    obtain ⟨u5, hu5, G5, BX0_5, hs5⟩ : ∃ u5, w.alloc (.cells #[x0, y0, z0] 35) = u5 ∧ Grow w u5 ∧ Box3 u5 (w.heap.size) (x0) (y0) (z0) ∧ u5.heap.size = w.heap.size + 1 :=
      ⟨_, rfl, (Below.refl _ _).alloc (Nat.le_refl _) _, ⟨World.cell?_alloc_new _ _ _ _, World.cell?_alloc_new _ _ _ _, World.cell?_alloc_new _ _ _ _⟩, by simp⟩
    rw [hu5]
    clear hu5
    have D0_6 := r0.below G5 (by omega)
    have hb_6 := below_two hb0 G5
    have hz_6 := G5.size
    clear r0 hb0
    clear G5
    refine (szMem_any _ _ _ _ d0 (1048576) D0_6 (by omega) (by omega) (by omega)).mono ?_
    rw [if_neg (by omega)]
    rintro e u7 ⟨rfl, hg7⟩
    have D0_8 := D0_6.below hg7 (by omega)
    have B0_8 := BX0_5.below hg7 (by omega)
    have hb_8 := below_two hb_6 hg7
    have hz_8 := hg7.size
    clear D0_6 BX0_5 hb_6
    clear hg7
    have hn0 : d0.many ≤ 1048576 := by omega
    have hleft : (0 : Int) ≤ 1048576 - (d0.many : Int) := by omega
    have zz9 := B0_8.c0
    have zz10 := B0_8.c1
    have zz11 := B0_8.c2
    go_wp2_with fail
    clear zz9 zz10 zz11
    refine (toMem_any _ _ _ _ d0 D0_8 (by omega) hn0).mono ?_
    rintro e u12 ⟨mm, rfl, O12, hg12⟩
    obtain ⟨qa, qb, qc, rfl, k1, k2, k3⟩ := O12.mi
    obtain ⟨paT12, caT12, rfl⟩ := k1.shape
    obtain ⟨pbT12, cbT12, rfl⟩ := k2.shape
    obtain ⟨pcT12, ccT12, rfl⟩ := k3.shape
    clear k1 k2 k3
    have D0_13 := D0_8.below hg12 (by omega)
    have B0_13 := B0_8.below hg12 (by omega)
    have hb_13 := below_two hb_8 hg12
    have hz_13 := hg12.size
    clear D0_8 B0_8 hb_8
    clear hg12
    go_wp2_with fail
    refine (sMemOk_any _ _ _ _ d0 O12.mi (by omega)).mono ?_
    rintro e u14 ⟨rfl, hg14⟩
    have D0_15 := D0_13.below hg14 (by omega)
    have B0_15 := B0_13.below hg14 (by omega)
    have O12_15 := O12.below hg14 (by omega)
    have hb_15 := below_two hb_13 hg14
    have hz_15 := hg14.size
    clear D0_13 B0_13 O12 hb_13
    clear hg14
    have zz16 := B0_15.c0
    have zz17 := B0_15.c1
    have zz18 := B0_15.c2
    go_wp2_with fail
    clear zz16 zz17 zz18
    refine (toMem_any _ _ _ _ d0 D0_15 (by omega) hn0).mono ?_
    rintro e u19 ⟨mm, rfl, O19, hg19⟩
    obtain ⟨qa, qb, qc, rfl, k1, k2, k3⟩ := O19.mi
    obtain ⟨paT19, caT19, rfl⟩ := k1.shape
    obtain ⟨pbT19, cbT19, rfl⟩ := k2.shape
    obtain ⟨pcT19, ccT19, rfl⟩ := k3.shape
    clear k1 k2 k3
    have D0_20 := D0_15.below hg19 (by omega)
    have B0_20 := B0_15.below hg19 (by omega)
    have O12_20 := O12_15.below hg19 (by omega)
    have hb_20 := below_two hb_15 hg19
    have hz_20 := hg19.size
    clear D0_15 B0_15 O12_15 hb_15
    clear hg19
    go_wp2_with fail
    obtain ⟨u21, hu21, G21, Y21, hs21⟩ : ∃ u21, u19.alloc (.cells #[.slice paT19 d0.i.length caT19, .slice pbT19 d0.o.length cbT19, .slice pcT19 d0.v.length ccT19] 30) = u21 ∧ Grow u19 u21 ∧ Box3 u21 u19.heap.size (.slice paT19 d0.i.length caT19) (.slice pbT19 d0.o.length cbT19) (.slice pcT19 d0.v.length ccT19) ∧ u21.heap.size = u19.heap.size + 1 :=
      ⟨_, rfl, (Below.refl _ _).alloc (Nat.le_refl _) _, box3_new u19 _ _ _ _, by simp⟩
    rw [hu21]
    clear hu21
    have D0_22 := D0_20.below G21 (by omega)
    have B0_22 := B0_20.below G21 (by omega)
    have O12_22 := O12_20.below G21 (by omega)
    have O19_22 := O19.below G21 (by omega)
    have hb_22 := below_two hb_20 G21
    have hz_22 := G21.size
    clear D0_20 B0_20 O12_20 O19 hb_20
    clear G21
    refine (impl _ _ _ _ d0 O19_22.mi (by omega) hn0).mono ?_
    rintro e u23 ⟨rfl, hg23⟩
    have D0_24 := D0_22.below hg23 (by omega)
    have B0_24 := B0_22.below hg23 (by omega)
    have O12_24 := O12_22.below hg23 (by omega)
    have O19_24 := O19_22.below hg23 (by omega)
    have Y5_24 := Y21.below hg23 (by omega)
    have hb_24 := below_two hb_22 hg23
    have hz_24 := hg23.size
    clear D0_22 B0_22 O12_22 O19_22 Y21 hb_22
    clear hg23
    go_wp2_with fail
    refine wp_region_dag (R := Grow)
      (Φ := fun i v u => match i with
        | 0 => v = .agg #[.slice paT19 d0.i.length caT19, .slice pbT19 d0.o.length cbT19, .slice pcT19 d0.v.length ccT19]
        | 1 => v = .agg #[x0, y0, z0]
        | 2 => ∃ lo' hi', hi' ≤ u.heap.size ∧ MO u lo' hi' v d0
        | 3 => v = .bool true
        | 4 => v = .bool false
        | _ => True) (by kernel_rfl) (by kernel_rfl) (by kernel_rfl) (Below.refl _ _) grow_trans ?_ ?_ ?_
    · intro i v u u' hr
      match i with
      | 0 | 1 | 3 | 4 | _ + 5 => exact fun h => h
      | 2 => exact fun ⟨lo', hi', h1, h2⟩ => ⟨lo', hi', Nat.le_trans h1 hr.size, h2.below hr h1⟩
    · intro i o ho a' u hf hR0 he K' hK
      have hR : Grow u23 u := (Below.drew (Below.refl _ _)).trans hR0
      have hsz' : a'.tmps.size = 27 := hf.size
      have hus : u23.heap.size ≤ u.heap.size := hR.size
      rcases i with _ | _ | _ | _ | _ | i
      · obtain rfl := Option.some.inj ho
        clear he
        have q1 : a'.tmps.getD 5 undef = .pointer (some ⟨u19.heap.size, 0, none⟩) := hf.at_ 5 (by kernel_rfl)
        obtain ⟨c0, c1, c2⟩ := Y5_24.below hR (by omega)
        go_simp
        exact hK _ _ (Below.refl _ _) (getD_put_self a' 22 _ (by show _ < a'.tmps.size; omega))
      · obtain rfl := Option.some.inj ho
        clear he
        have q1 : a'.tmps.getD 1 undef = .pointer (some ⟨w.heap.size, 0, none⟩) := hf.at_ 1 (by kernel_rfl)
        obtain ⟨c0, c1, c2⟩ := B0_24.below hR (by omega)
        go_simp
        exact hK _ _ (Below.refl _ _) (getD_put_self a' 23 _ (by show _ < a'.tmps.size; omega))
      · obtain rfl := Option.some.inj ho
        have q1 : a'.tmps.getD 23 undef = .agg #[x0, y0, z0] := he _ (Array.mem_of_getElem? (i := 0) rfl) (by kernel_rfl) _ rfl
        clear he
        go_simp
        refine (toMem_any _ _ _ _ d0 (D0_24.below hR (by omega)) (by omega) hn0).mono ?_
        rintro e u' ⟨m', rfl, HO, hbu⟩
        exact hK _ _ hbu ⟨_, _, Nat.le_refl _, by show MO _ _ _ ((a'.put (some 24) m').tmps.getD 24 undef) d0; rw [getD_put_self a' 24 _ (by show _ < a'.tmps.size; omega)]; exact HO⟩
      · obtain rfl := Option.some.inj ho
        have q22 : a'.tmps.getD 22 undef = .agg #[.slice paT19 d0.i.length caT19, .slice pbT19 d0.o.length cbT19, .slice pcT19 d0.v.length ccT19] := he _ (Array.mem_of_getElem? (i := 0) rfl) (by kernel_rfl) _ rfl
        obtain ⟨lo24, hi24, hh24, HO24⟩ := he _ (Array.mem_of_getElem? (i := 1) rfl) (by kernel_rfl) _ rfl
        have HO24 : MO u lo24 hi24 (a'.tmps.getD 24 undef) d0 := HO24
        obtain ⟨mm24, em24⟩ : ∃ mm, a'.tmps.getD 24 undef = mm := ⟨_, rfl⟩
        rw [em24] at HO24
        clear he
        go_simp
        refine (eqMem_any _ _ _ _ _ _ _ d0 d0 (O19_24.mi.below hR (by omega)) HO24.mi (by omega) hh24).mono ?_
        rw [decide_eq_true rfl]
        rintro e u' ⟨rfl, hbu⟩
        exact hK _ _ hbu (getD_put_self a' 25 _ (by show _ < a'.tmps.size; omega))
      · obtain rfl := Option.some.inj ho
        have q1 : a'.tmps.getD 25 undef = .bool true := he _ (Array.mem_of_getElem? (i := 0) rfl) (by kernel_rfl) _ rfl
        clear he
        go_simp
        exact hK _ _ (Below.refl _ _) (getD_put_self a' 26 _ (by show _ < a'.tmps.size; omega))
      · exact absurd ho (by simp)
    · intro a' u25 hf hR0 hp
      have hR25 : Grow u23 u25 := (Below.drew (Below.refl _ _)).trans hR0
      have md : a'.defers = [] := hf.defers
      have m26 : a'.tmps.getD 26 undef = .bool false := hp 4 _ rfl
      obtain ⟨f, ea, hfv⟩ := act_lit a' 27 hf.size
      rw [← hfv] at m26
      rw [md] at ea
      simp only [List.range, List.range.loop, List.map_cons, List.map_nil, m26] at ea
      subst ea
      clear hfv hf md hp hR0
      have D0_26 := D0_24.below hR25 (by omega)
      have B0_26 := B0_24.below hR25 (by omega)
      have O12_26 := O12_24.below hR25 (by omega)
      have O19_26 := O19_24.below hR25 (by omega)
      have Y5_26 := Y5_24.below hR25 (by omega)
      have hb_26 := below_two hb_24 hR25
      have hz_26 := hR25.size
      clear D0_24 B0_24 O12_24 O19_24 Y5_24 hb_24
      clear hR25
      clear D0_26 B0_26 O12_26 O19_26 Y5_26
      go_wp2
      go_ret
      exact ⟨rfl, hb_26⟩
end Go.Proofs.Ytcanljckhjoooaa
