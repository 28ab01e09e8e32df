/-
  FnExactMemSame, walked at every argument, given what the program's MemSame answers. (Written by our generator lawgen.py.)
-/
import Derived.Test.YtcanljckhjoooaaMemSpec
import Derived.Test.YtcanljckhjoooaaLawKit
namespace Go.Proofs.Ytcanljckhjoooaa
open Go.ChangeShapes Go.WideShapes Go.ChangeAt Go.RowKit
set_option linter.unusedVariables false

set_option maxHeartbeats 8000000 in
theorem exactMemSame_walk
    (impl : ∀ (w : World) (m0 : Value) (lo0 hi0 : Nat) (d0 : MemD) (m1 : Value) (lo1 hi1 : Nat) (d1 : MemD), MI w lo0 hi0 m0 d0 → hi0 ≤ w.heap.size → d0.many ≤ 1048576 → MI w lo1 hi1 m1 d1 → hi1 ≤ w.heap.size → d1.many ≤ 1048576 → Calls Try.prog 22 #[m0, m1] w fun e w' => e = .returned (.bool (decide (d0 = d1))) ∧ Below w.heap.size w w')
    (w : World) (v0 : Value) (d0 : MemD) (r0 : MI w 0 w.heap.size v0 d0) (v1 : Value) (d1 : MemD) (r1 : MI w 0 w.heap.size v1 d1) :
    Calls Try.prog 6 #[v0, v1] w fun e w' => e = .returned (.bool true) ∧ Below w.heap.size w w' := by
  obtain ⟨x0, y0, z0, rfl⟩ := r0.agg
  obtain ⟨x1, y1, z1, rfl⟩ := r1.agg
  have hb0 := Below.refl w.heap.size w
  by_cases big0 : (1048576 : Int) < d0.many
  · go_enter Try.func6, Try.ntmps6
    go_wp2_with fail
    obtain ⟨u1, hu1, G1, BX0_1, BX1_1, hs1⟩ : ∃ u1, (w.alloc (.cells #[x0, y0, z0] 35)).alloc (.cells #[x1, y1, z1] 35) = u1 ∧ Grow w u1 ∧ Box3 u1 (w.heap.size) (x0) (y0) (z0) ∧ Box3 u1 (w.heap.size + 1) (x1) (y1) (z1) ∧ u1.heap.size = w.heap.size + 2 :=
      ⟨_, rfl, ((Below.refl _ _).alloc (Nat.le_refl _) _).alloc (by simp) _, ⟨World.cell?_alloc2_first _ _ _ _, World.cell?_alloc2_first _ _ _ _, World.cell?_alloc2_first _ _ _ _⟩, ⟨World.cell?_alloc2_new _ _ _ _, World.cell?_alloc2_new _ _ _ _, World.cell?_alloc2_new _ _ _ _⟩, by simp⟩
    rw [hu1]
    clear hu1
    have D0_2 := r0.below G1 (by omega)
    have D1_2 := r1.below G1 (by omega)
    have hb_2 := below_two hb0 G1
    have hz_2 := G1.size
    clear r0 r1 hb0
    clear G1
    refine (szMem_any _ _ _ _ d0 (1048576) D0_2 (by omega) (by omega) (by omega)).mono ?_
    rw [if_pos (by omega)]
    rintro e u3 ⟨rfl, hg3⟩
    have D0_4 := D0_2.below hg3 (by omega)
    have D1_4 := D1_2.below hg3 (by omega)
    have B0_4 := BX0_1.below hg3 (by omega)
    have B1_4 := BX1_1.below hg3 (by omega)
    have hb_4 := below_two hb_2 hg3
    have hz_4 := hg3.size
    clear D0_2 D1_2 BX0_1 BX1_1 hb_2
    clear hg3
    clear D0_4 D1_4 B0_4 B1_4
    go_wp2
    go_ret
    exact ⟨rfl, hb_4⟩
  · by_cases big1 : (1048576 - (d0.many : Int) : Int) < d1.many
    · go_enter Try.func6, Try.ntmps6
      go_wp2_with fail
      obtain ⟨u5, hu5, G5, BX0_5, BX1_5, hs5⟩ : ∃ u5, (w.alloc (.cells #[x0, y0, z0] 35)).alloc (.cells #[x1, y1, z1] 35) = u5 ∧ Grow w u5 ∧ Box3 u5 (w.heap.size) (x0) (y0) (z0) ∧ Box3 u5 (w.heap.size + 1) (x1) (y1) (z1) ∧ u5.heap.size = w.heap.size + 2 :=
        ⟨_, rfl, ((Below.refl _ _).alloc (Nat.le_refl _) _).alloc (by simp) _, ⟨World.cell?_alloc2_first _ _ _ _, World.cell?_alloc2_first _ _ _ _, World.cell?_alloc2_first _ _ _ _⟩, ⟨World.cell?_alloc2_new _ _ _ _, World.cell?_alloc2_new _ _ _ _, World.cell?_alloc2_new _ _ _ _⟩, by simp⟩
      rw [hu5]
      clear hu5
      have D0_6 := r0.below G5 (by omega)
      have D1_6 := r1.below G5 (by omega)
      have hb_6 := below_two hb0 G5
      have hz_6 := G5.size
      clear r0 r1 hb0
      clear G5
      refine (szMem_any _ _ _ _ d0 (1048576) D0_6 (by omega) (by omega) (by omega)).mono ?_
      rw [if_neg (by omega)]
      rintro e u7 ⟨rfl, hg7⟩
      have D0_8 := D0_6.below hg7 (by omega)
      have D1_8 := D1_6.below hg7 (by omega)
      have B0_8 := BX0_5.below hg7 (by omega)
      have B1_8 := BX1_5.below hg7 (by omega)
      have hb_8 := below_two hb_6 hg7
      have hz_8 := hg7.size
      clear D0_6 D1_6 BX0_5 BX1_5 hb_6
      clear hg7
      have zz9 := B1_8.c0
      have zz10 := B1_8.c1
      have zz11 := B1_8.c2
      go_wp2_with fail
      clear zz9 zz10 zz11
      refine (szMem_any _ _ _ _ d1 (1048576 - (d0.many : Int)) D1_8 (by omega) (by omega) (by omega)).mono ?_
      rw [if_pos (by omega)]
      rintro e u12 ⟨rfl, hg12⟩
      have D0_13 := D0_8.below hg12 (by omega)
      have D1_13 := D1_8.below hg12 (by omega)
      have B0_13 := B0_8.below hg12 (by omega)
      have B1_13 := B1_8.below hg12 (by omega)
      have hb_13 := below_two hb_8 hg12
      have hz_13 := hg12.size
      clear D0_8 D1_8 B0_8 B1_8 hb_8
      clear hg12
      clear D0_13 D1_13 B0_13 B1_13
      go_wp2
      go_ret
      exact ⟨rfl, hb_13⟩
    · go_enter Try.func6, Try.ntmps6
      go_wp2_with fail
      obtain ⟨u14, hu14, G14, BX0_14, BX1_14, hs14⟩ : ∃ u14, (w.alloc (.cells #[x0, y0, z0] 35)).alloc (.cells #[x1, y1, z1] 35) = u14 ∧ Grow w u14 ∧ Box3 u14 (w.heap.size) (x0) (y0) (z0) ∧ Box3 u14 (w.heap.size + 1) (x1) (y1) (z1) ∧ u14.heap.size = w.heap.size + 2 :=
        ⟨_, rfl, ((Below.refl _ _).alloc (Nat.le_refl _) _).alloc (by simp) _, ⟨World.cell?_alloc2_first _ _ _ _, World.cell?_alloc2_first _ _ _ _, World.cell?_alloc2_first _ _ _ _⟩, ⟨World.cell?_alloc2_new _ _ _ _, World.cell?_alloc2_new _ _ _ _, World.cell?_alloc2_new _ _ _ _⟩, by simp⟩
      rw [hu14]
      clear hu14
      have D0_15 := r0.below G14 (by omega)
      have D1_15 := r1.below G14 (by omega)
      have hb_15 := below_two hb0 G14
      have hz_15 := G14.size
      clear r0 r1 hb0
      clear G14
      refine (szMem_any _ _ _ _ d0 (1048576) D0_15 (by omega) (by omega) (by omega)).mono ?_
      rw [if_neg (by omega)]
      rintro e u16 ⟨rfl, hg16⟩
      have D0_17 := D0_15.below hg16 (by omega)
      have D1_17 := D1_15.below hg16 (by omega)
      have B0_17 := BX0_14.below hg16 (by omega)
      have B1_17 := BX1_14.below hg16 (by omega)
      have hb_17 := below_two hb_15 hg16
      have hz_17 := hg16.size
      clear D0_15 D1_15 BX0_14 BX1_14 hb_15
      clear hg16
      have zz18 := B1_17.c0
      have zz19 := B1_17.c1
      have zz20 := B1_17.c2
      go_wp2_with fail
      clear zz18 zz19 zz20
      refine (szMem_any _ _ _ _ d1 (1048576 - (d0.many : Int)) D1_17 (by omega) (by omega) (by omega)).mono ?_
      rw [if_neg (by omega)]
      rintro e u21 ⟨rfl, hg21⟩
      have D0_22 := D0_17.below hg21 (by omega)
      have D1_22 := D1_17.below hg21 (by omega)
      have B0_22 := B0_17.below hg21 (by omega)
      have B1_22 := B1_17.below hg21 (by omega)
      have hb_22 := below_two hb_17 hg21
      have hz_22 := hg21.size
      clear D0_17 D1_17 B0_17 B1_17 hb_17
      clear hg21
      have hn0 : d0.many ≤ 1048576 := by omega
      have hn1 : d1.many ≤ 1048576 := by omega
      have hleft : (0 : Int) ≤ 1048576 - (d0.many : Int) - (d1.many : Int) := by omega
      go_wp2_with fail
      refine wp_region_dag (R := Grow)
        (Φ := fun i v u => match i with
          | 0 => v = .agg #[x0, y0, z0]
          | 1 => ∃ lo' hi', hi' ≤ u.heap.size ∧ MO u lo' hi' v d0
          | 2 => v = .agg #[x1, y1, z1]
          | 3 => ∃ lo' hi', hi' ≤ u.heap.size ∧ MO u lo' hi' v d1
          | 4 => v = .bool (decide (d0 = d1))
          | 5 => v = .bool (decide (d0 = d1))
          | _ => True) (by kernel_rfl) (by kernel_rfl) (by kernel_rfl) (Below.refl _ _) grow_trans ?_ ?_ ?_
      · intro i v u u' hr
        match i with
        | 0 | 2 | 4 | 5 | _ + 6 => exact fun h => h
        | 1 => exact fun ⟨lo', hi', h1, h2⟩ => ⟨lo', hi', Nat.le_trans h1 hr.size, h2.below hr h1⟩
        | 3 => exact fun ⟨lo', hi', h1, h2⟩ => ⟨lo', hi', Nat.le_trans h1 hr.size, h2.below hr h1⟩
      · intro i o ho a' u hf hR0 he K' hK
        have hR : Grow u21 u := (Below.drew (Below.refl _ _)).trans hR0
        have hsz' : a'.tmps.size = 45 := hf.size
        have hus : u21.heap.size ≤ u.heap.size := hR.size
        rcases i with _ | _ | _ | _ | _ | _ | i
        · obtain rfl := Option.some.inj ho
          clear he
          have q1 : a'.tmps.getD 2 undef = .pointer (some ⟨w.heap.size, 0, none⟩) := hf.at_ 2 (by kernel_rfl)
          obtain ⟨c0, c1, c2⟩ := B0_22.below hR (by omega)
          go_simp
          exact hK _ _ (Below.refl _ _) (getD_put_self a' 20 _ (by show _ < a'.tmps.size; omega))
        · obtain rfl := Option.some.inj ho
          have q1 : a'.tmps.getD 20 undef = .agg #[x0, y0, z0] := he _ (Array.mem_of_getElem? (i := 0) rfl) (by kernel_rfl) _ rfl
          clear he
          go_simp
          refine (toMem_any _ _ _ _ d0 (D0_22.below hR (by omega)) (by omega) hn0).mono ?_
          rintro e u' ⟨m', rfl, HO, hbu⟩
          exact hK _ _ hbu ⟨_, _, Nat.le_refl _, by show MO _ _ _ ((a'.put (some 21) m').tmps.getD 21 undef) d0; rw [getD_put_self a' 21 _ (by show _ < a'.tmps.size; omega)]; exact HO⟩
        · obtain rfl := Option.some.inj ho
          clear he
          have q1 : a'.tmps.getD 3 undef = .pointer (some ⟨w.heap.size + 1, 0, none⟩) := hf.at_ 3 (by kernel_rfl)
          obtain ⟨c0, c1, c2⟩ := B1_22.below hR (by omega)
          go_simp
          exact hK _ _ (Below.refl _ _) (getD_put_self a' 22 _ (by show _ < a'.tmps.size; omega))
        · obtain rfl := Option.some.inj ho
          have q1 : a'.tmps.getD 22 undef = .agg #[x1, y1, z1] := he _ (Array.mem_of_getElem? (i := 0) rfl) (by kernel_rfl) _ rfl
          clear he
          go_simp
          refine (toMem_any _ _ _ _ d1 (D1_22.below hR (by omega)) (by omega) hn1).mono ?_
          rintro e u' ⟨m', rfl, HO, hbu⟩
          exact hK _ _ hbu ⟨_, _, Nat.le_refl _, by show MO _ _ _ ((a'.put (some 23) m').tmps.getD 23 undef) d1; rw [getD_put_self a' 23 _ (by show _ < a'.tmps.size; omega)]; exact HO⟩
        · obtain rfl := Option.some.inj ho
          obtain ⟨lo21, hi21, hh21, HO21⟩ := he _ (Array.mem_of_getElem? (i := 0) rfl) (by kernel_rfl) _ rfl
          have HO21 : MO u lo21 hi21 (a'.tmps.getD 21 undef) d0 := HO21
          obtain ⟨mm21, em21⟩ : ∃ mm, a'.tmps.getD 21 undef = mm := ⟨_, rfl⟩
          rw [em21] at HO21
          obtain ⟨lo23, hi23, hh23, HO23⟩ := he _ (Array.mem_of_getElem? (i := 1) rfl) (by kernel_rfl) _ rfl
          have HO23 : MO u lo23 hi23 (a'.tmps.getD 23 undef) d1 := HO23
          obtain ⟨mm23, em23⟩ : ∃ mm, a'.tmps.getD 23 undef = mm := ⟨_, rfl⟩
          rw [em23] at HO23
          clear he
          go_simp
          refine (sMemSame_any _ lo21 hi21 lo23 hi23 mm21 mm23 d0 d1 HO21.mi HO23.mi hh21 hh23).mono ?_
          rintro e u' ⟨rfl, hbu⟩
          exact hK _ _ hbu (getD_put_self a' 24 _ (by show _ < a'.tmps.size; omega))
        · obtain rfl := Option.some.inj ho
          have q1 : a'.tmps.getD 24 undef = .bool (decide (d0 = d1)) := he _ (Array.mem_of_getElem? (i := 0) rfl) (by kernel_rfl) _ rfl
          clear he
          go_simp
          exact hK _ _ (Below.refl _ _) (getD_put_self a' 6 _ (by show _ < a'.tmps.size; omega))
        · exact absurd ho (by simp)
      · intro a' u23 hf hR0 hp
        have hR23 : Grow u21 u23 := (Below.drew (Below.refl _ _)).trans hR0
        have md : a'.defers = [] := hf.defers
        have m6 : a'.tmps.getD 6 undef = .bool (decide (d0 = d1)) := hp 5 _ rfl
        have m2 : a'.tmps.getD 2 undef = .pointer (some ⟨w.heap.size, 0, none⟩) := hf.at_ 2 (by kernel_rfl)
        have m3 : a'.tmps.getD 3 undef = .pointer (some ⟨w.heap.size + 1, 0, none⟩) := hf.at_ 3 (by kernel_rfl)
        obtain ⟨f, ea, hfv⟩ := act_lit a' 45 hf.size
        rw [← hfv] at m2 m3 m6
        rw [md] at ea
        simp only [List.range, List.range.loop, List.map_cons, List.map_nil, m2, m3, m6] at ea
        subst ea
        clear hfv hf md hp hR0
        have D0_24 := D0_22.below hR23 (by omega)
        have D1_24 := D1_22.below hR23 (by omega)
        have B0_24 := B0_22.below hR23 (by omega)
        have B1_24 := B1_22.below hR23 (by omega)
        have hb_24 := below_two hb_22 hR23
        have hz_24 := hR23.size
        clear D0_22 D1_22 B0_22 B1_22 hb_22
        clear hR23
        have zz25 := B0_24.c0
        have zz26 := B0_24.c1
        have zz27 := B0_24.c2
        go_wp2_with fail
        clear zz25 zz26 zz27
        refine (toMem_any _ _ _ _ d0 D0_24 (by omega) hn0).mono ?_
        rintro e u28 ⟨mm, rfl, O28, hg28⟩
        obtain ⟨qa, qb, qc, rfl, k1, k2, k3⟩ := O28.mi
        obtain ⟨paT28, caT28, rfl⟩ := k1.shape
        obtain ⟨pbT28, cbT28, rfl⟩ := k2.shape
        obtain ⟨pcT28, ccT28, rfl⟩ := k3.shape
        clear k1 k2 k3
        have D0_29 := D0_24.below hg28 (by omega)
        have D1_29 := D1_24.below hg28 (by omega)
        have B0_29 := B0_24.below hg28 (by omega)
        have B1_29 := B1_24.below hg28 (by omega)
        have hb_29 := below_two hb_24 hg28
        have hz_29 := hg28.size
        clear D0_24 D1_24 B0_24 B1_24 hb_24
        clear hg28
        have lt30 : w.heap.size + 1 < u28.heap.size := by omega
        have zz31 := B1_29.c0
        have zz32 := B1_29.c1
        have zz33 := B1_29.c2
        go_wp2_with fail
        clear lt30 zz31 zz32 zz33
        obtain ⟨u34, hu34, G34, Y34, hs34⟩ : ∃ u34, u28.alloc (.cells #[.slice paT28 d0.i.length caT28, .slice pbT28 d0.o.length cbT28, .slice pcT28 d0.v.length ccT28] 30) = u34 ∧ Grow u28 u34 ∧ Box3 u34 u28.heap.size (.slice paT28 d0.i.length caT28) (.slice pbT28 d0.o.length cbT28) (.slice pcT28 d0.v.length ccT28) ∧ u34.heap.size = u28.heap.size + 1 :=
          ⟨_, rfl, (Below.refl _ _).alloc (Nat.le_refl _) _, box3_new u28 _ _ _ _, by simp⟩
        rw [hu34]
        clear hu34
        have D0_35 := D0_29.below G34 (by omega)
        have D1_35 := D1_29.below G34 (by omega)
        have B0_35 := B0_29.below G34 (by omega)
        have B1_35 := B1_29.below G34 (by omega)
        have O28_35 := O28.below G34 (by omega)
        have hb_35 := below_two hb_29 G34
        have hz_35 := G34.size
        clear D0_29 D1_29 B0_29 B1_29 O28 hb_29
        clear G34
        refine (toMem_any _ _ _ _ d1 D1_35 (by omega) hn1).mono ?_
        rintro e u36 ⟨mm, rfl, O36, hg36⟩
        obtain ⟨qa, qb, qc, rfl, k1, k2, k3⟩ := O36.mi
        obtain ⟨paT36, caT36, rfl⟩ := k1.shape
        obtain ⟨pbT36, cbT36, rfl⟩ := k2.shape
        obtain ⟨pcT36, ccT36, rfl⟩ := k3.shape
        clear k1 k2 k3
        have D0_37 := D0_35.below hg36 (by omega)
        have D1_37 := D1_35.below hg36 (by omega)
        have B0_37 := B0_35.below hg36 (by omega)
        have B1_37 := B1_35.below hg36 (by omega)
        have O28_37 := O28_35.below hg36 (by omega)
        have Y7_37 := Y34.below hg36 (by omega)
        have hb_37 := below_two hb_35 hg36
        have hz_37 := hg36.size
        clear D0_35 D1_35 B0_35 B1_35 O28_35 Y34 hb_35
        clear hg36
        have lt38 : u28.heap.size < u36.heap.size := by omega
        have zz39 := Y7_37.c0
        have zz40 := Y7_37.c1
        have zz41 := Y7_37.c2
        go_wp2_with fail
        clear lt38 zz39 zz40 zz41
        obtain ⟨u42, hu42, G42, Y42, hs42⟩ : ∃ u42, u36.alloc (.cells #[.slice paT36 d1.i.length caT36, .slice pbT36 d1.o.length cbT36, .slice pcT36 d1.v.length ccT36] 30) = u42 ∧ Grow u36 u42 ∧ Box3 u42 u36.heap.size (.slice paT36 d1.i.length caT36) (.slice pbT36 d1.o.length cbT36) (.slice pcT36 d1.v.length ccT36) ∧ u42.heap.size = u36.heap.size + 1 :=
          ⟨_, rfl, (Below.refl _ _).alloc (Nat.le_refl _) _, box3_new u36 _ _ _ _, by simp⟩
        rw [hu42]
        clear hu42
        have D0_43 := D0_37.below G42 (by omega)
        have D1_43 := D1_37.below G42 (by omega)
        have B0_43 := B0_37.below G42 (by omega)
        have B1_43 := B1_37.below G42 (by omega)
        have O28_43 := O28_37.below G42 (by omega)
        have Y7_43 := Y7_37.below G42 (by omega)
        have O36_43 := O36.below G42 (by omega)
        have hb_43 := below_two hb_37 G42
        have hz_43 := G42.size
        clear D0_37 D1_37 B0_37 B1_37 O28_37 Y7_37 O36 hb_37
        clear G42
        refine (impl _ _ _ _ d0 _ _ _ d1 O28_43.mi (by omega) hn0 O36_43.mi (by omega) hn1).mono ?_
        rintro e u44 ⟨rfl, hg44⟩
        have D0_45 := D0_43.below hg44 (by omega)
        have D1_45 := D1_43.below hg44 (by omega)
        have B0_45 := B0_43.below hg44 (by omega)
        have B1_45 := B1_43.below hg44 (by omega)
        have O28_45 := O28_43.below hg44 (by omega)
        have Y7_45 := Y7_43.below hg44 (by omega)
        have O36_45 := O36_43.below hg44 (by omega)
        have Y8_45 := Y42.below hg44 (by omega)
        have hb_45 := below_two hb_43 hg44
        have hz_45 := hg44.size
        clear D0_43 D1_43 B0_43 B1_43 O28_43 Y7_43 O36_43 Y42 hb_43
        clear hg44
        go_wp2_with fail
        refine wp_region_dag (R := Grow)
          (Φ := fun i v u => match i with
            | 0 => v = .agg #[.slice paT28 d0.i.length caT28, .slice pbT28 d0.o.length cbT28, .slice pcT28 d0.v.length ccT28]
            | 1 => v = .agg #[x0, y0, z0]
            | 2 => ∃ lo' hi', hi' ≤ u.heap.size ∧ MO u lo' hi' v d0
            | 3 => v = .bool true
            | 4 => v = .bool false
            | _ => True) (by kernel_rfl) (by kernel_rfl) (by kernel_rfl) (Below.refl _ _) grow_trans ?_ ?_ ?_
        · intro i v u u' hr
          match i with
          | 0 | 1 | 3 | 4 | _ + 5 => exact fun h => h
          | 2 => exact fun ⟨lo', hi', h1, h2⟩ => ⟨lo', hi', Nat.le_trans h1 hr.size, h2.below hr h1⟩
        · intro i o ho a' u hf hR0 he K' hK
          have hR : Grow u44 u := (Below.drew (Below.refl _ _)).trans hR0
          have hsz' : a'.tmps.size = 45 := hf.size
          have hus : u44.heap.size ≤ u.heap.size := hR.size
          rcases i with _ | _ | _ | _ | _ | i
          · obtain rfl := Option.some.inj ho
            clear he
            have q1 : a'.tmps.getD 7 undef = .pointer (some ⟨u28.heap.size, 0, none⟩) := hf.at_ 7 (by kernel_rfl)
            obtain ⟨c0, c1, c2⟩ := Y7_45.below hR (by omega)
            go_simp
            exact hK _ _ (Below.refl _ _) (getD_put_self a' 35 _ (by show _ < a'.tmps.size; omega))
          · obtain rfl := Option.some.inj ho
            clear he
            have q1 : a'.tmps.getD 2 undef = .pointer (some ⟨w.heap.size, 0, none⟩) := hf.at_ 2 (by kernel_rfl)
            obtain ⟨c0, c1, c2⟩ := B0_45.below hR (by omega)
            go_simp
            exact hK _ _ (Below.refl _ _) (getD_put_self a' 36 _ (by show _ < a'.tmps.size; omega))
          · obtain rfl := Option.some.inj ho
            have q1 : a'.tmps.getD 36 undef = .agg #[x0, y0, z0] := he _ (Array.mem_of_getElem? (i := 0) rfl) (by kernel_rfl) _ rfl
            clear he
            go_simp
            refine (toMem_any _ _ _ _ d0 (D0_45.below hR (by omega)) (by omega) hn0).mono ?_
            rintro e u' ⟨m', rfl, HO, hbu⟩
            exact hK _ _ hbu ⟨_, _, Nat.le_refl _, by show MO _ _ _ ((a'.put (some 37) m').tmps.getD 37 undef) d0; rw [getD_put_self a' 37 _ (by show _ < a'.tmps.size; omega)]; exact HO⟩
          · obtain rfl := Option.some.inj ho
            have q35 : a'.tmps.getD 35 undef = .agg #[.slice paT28 d0.i.length caT28, .slice pbT28 d0.o.length cbT28, .slice pcT28 d0.v.length ccT28] := he _ (Array.mem_of_getElem? (i := 0) rfl) (by kernel_rfl) _ rfl
            obtain ⟨lo37, hi37, hh37, HO37⟩ := he _ (Array.mem_of_getElem? (i := 1) rfl) (by kernel_rfl) _ rfl
            have HO37 : MO u lo37 hi37 (a'.tmps.getD 37 undef) d0 := HO37
            obtain ⟨mm37, em37⟩ : ∃ mm, a'.tmps.getD 37 undef = mm := ⟨_, rfl⟩
            rw [em37] at HO37
            clear he
            go_simp
            refine (eqMem_any _ _ _ _ _ _ _ d0 d0 (O28_45.mi.below hR (by omega)) HO37.mi (by omega) hh37).mono ?_
            rw [decide_eq_true rfl]
            rintro e u' ⟨rfl, hbu⟩
            exact hK _ _ hbu (getD_put_self a' 38 _ (by show _ < a'.tmps.size; omega))
          · obtain rfl := Option.some.inj ho
            have q1 : a'.tmps.getD 38 undef = .bool true := he _ (Array.mem_of_getElem? (i := 0) rfl) (by kernel_rfl) _ rfl
            clear he
            go_simp
            exact hK _ _ (Below.refl _ _) (getD_put_self a' 39 _ (by show _ < a'.tmps.size; omega))
          · exact absurd ho (by simp)
        · intro a' u46 hf hR0 hp
          have hR46 : Grow u44 u46 := (Below.drew (Below.refl _ _)).trans hR0
          have md : a'.defers = [] := hf.defers
          have m39 : a'.tmps.getD 39 undef = .bool false := hp 4 _ rfl
          have m3 : a'.tmps.getD 3 undef = .pointer (some ⟨w.heap.size + 1, 0, none⟩) := hf.at_ 3 (by kernel_rfl)
          have m8 : a'.tmps.getD 8 undef = .pointer (some ⟨u36.heap.size, 0, none⟩) := hf.at_ 8 (by kernel_rfl)
          obtain ⟨f, ea, hfv⟩ := act_lit a' 45 hf.size
          rw [← hfv] at m3 m8 m39
          rw [md] at ea
          simp only [List.range, List.range.loop, List.map_cons, List.map_nil, m3, m8, m39] at ea
          subst ea
          clear hfv hf md hp hR0
          have D0_47 := D0_45.below hR46 (by omega)
          have D1_47 := D1_45.below hR46 (by omega)
          have B0_47 := B0_45.below hR46 (by omega)
          have B1_47 := B1_45.below hR46 (by omega)
          have O28_47 := O28_45.below hR46 (by omega)
          have Y7_47 := Y7_45.below hR46 (by omega)
          have O36_47 := O36_45.below hR46 (by omega)
          have Y8_47 := Y8_45.below hR46 (by omega)
          have hb_47 := below_two hb_45 hR46
          have hz_47 := hR46.size
          clear D0_45 D1_45 B0_45 B1_45 O28_45 Y7_45 O36_45 Y8_45 hb_45
          clear hR46
          go_wp2_with fail
          refine wp_region_dag (R := Grow)
            (Φ := fun i v u => match i with
              | 0 => v = .agg #[.slice paT36 d1.i.length caT36, .slice pbT36 d1.o.length cbT36, .slice pcT36 d1.v.length ccT36]
              | 1 => v = .agg #[x1, y1, z1]
              | 2 => ∃ lo' hi', hi' ≤ u.heap.size ∧ MO u lo' hi' v d1
              | 3 => v = .bool true
              | 4 => v = .bool false
              | _ => True) (by kernel_rfl) (by kernel_rfl) (by kernel_rfl) (Below.refl _ _) grow_trans ?_ ?_ ?_
          · intro i v u u' hr
            match i with
            | 0 | 1 | 3 | 4 | _ + 5 => exact fun h => h
            | 2 => exact fun ⟨lo', hi', h1, h2⟩ => ⟨lo', hi', Nat.le_trans h1 hr.size, h2.below hr h1⟩
          · intro i o ho a' u hf hR0 he K' hK
            have hR : Grow u46 u := (Below.drew (Below.refl _ _)).trans hR0
            have hsz' : a'.tmps.size = 45 := hf.size
            have hus : u46.heap.size ≤ u.heap.size := hR.size
            rcases i with _ | _ | _ | _ | _ | i
            · obtain rfl := Option.some.inj ho
              clear he
              have q1 : a'.tmps.getD 8 undef = .pointer (some ⟨u36.heap.size, 0, none⟩) := hf.at_ 8 (by kernel_rfl)
              obtain ⟨c0, c1, c2⟩ := Y8_47.below hR (by omega)
              go_simp
              exact hK _ _ (Below.refl _ _) (getD_put_self a' 40 _ (by show _ < a'.tmps.size; omega))
            · obtain rfl := Option.some.inj ho
              clear he
              have q1 : a'.tmps.getD 3 undef = .pointer (some ⟨w.heap.size + 1, 0, none⟩) := hf.at_ 3 (by kernel_rfl)
              obtain ⟨c0, c1, c2⟩ := B1_47.below hR (by omega)
              go_simp
              exact hK _ _ (Below.refl _ _) (getD_put_self a' 41 _ (by show _ < a'.tmps.size; omega))
            · obtain rfl := Option.some.inj ho
              have q1 : a'.tmps.getD 41 undef = .agg #[x1, y1, z1] := he _ (Array.mem_of_getElem? (i := 0) rfl) (by kernel_rfl) _ rfl
              clear he
              go_simp
              refine (toMem_any _ _ _ _ d1 (D1_47.below hR (by omega)) (by omega) hn1).mono ?_
              rintro e u' ⟨m', rfl, HO, hbu⟩
              exact hK _ _ hbu ⟨_, _, Nat.le_refl _, by show MO _ _ _ ((a'.put (some 42) m').tmps.getD 42 undef) d1; rw [getD_put_self a' 42 _ (by show _ < a'.tmps.size; omega)]; exact HO⟩
            · obtain rfl := Option.some.inj ho
              have q40 : a'.tmps.getD 40 undef = .agg #[.slice paT36 d1.i.length caT36, .slice pbT36 d1.o.length cbT36, .slice pcT36 d1.v.length ccT36] := he _ (Array.mem_of_getElem? (i := 0) rfl) (by kernel_rfl) _ rfl
              obtain ⟨lo42, hi42, hh42, HO42⟩ := he _ (Array.mem_of_getElem? (i := 1) rfl) (by kernel_rfl) _ rfl
              have HO42 : MO u lo42 hi42 (a'.tmps.getD 42 undef) d1 := HO42
              obtain ⟨mm42, em42⟩ : ∃ mm, a'.tmps.getD 42 undef = mm := ⟨_, rfl⟩
              rw [em42] at HO42
              clear he
              go_simp
              refine (eqMem_any _ _ _ _ _ _ _ d1 d1 (O36_47.mi.below hR (by omega)) HO42.mi (by omega) hh42).mono ?_
              rw [decide_eq_true rfl]
              rintro e u' ⟨rfl, hbu⟩
              exact hK _ _ hbu (getD_put_self a' 43 _ (by show _ < a'.tmps.size; omega))
            · obtain rfl := Option.some.inj ho
              have q1 : a'.tmps.getD 43 undef = .bool true := he _ (Array.mem_of_getElem? (i := 0) rfl) (by kernel_rfl) _ rfl
              clear he
              go_simp
              exact hK _ _ (Below.refl _ _) (getD_put_self a' 44 _ (by show _ < a'.tmps.size; omega))
            · exact absurd ho (by simp)
          · intro a' u48 hf hR0 hp
            have hR48 : Grow u46 u48 := (Below.drew (Below.refl _ _)).trans hR0
            have md : a'.defers = [] := hf.defers
            have m44 : a'.tmps.getD 44 undef = .bool false := hp 4 _ rfl
            obtain ⟨f, ea, hfv⟩ := act_lit a' 45 hf.size
            rw [← hfv] at m44
            rw [md] at ea
            simp only [List.range, List.range.loop, List.map_cons, List.map_nil, m44] at ea
            subst ea
            clear hfv hf md hp hR0
            have D0_49 := D0_47.below hR48 (by omega)
            have D1_49 := D1_47.below hR48 (by omega)
            have B0_49 := B0_47.below hR48 (by omega)
            have B1_49 := B1_47.below hR48 (by omega)
            have O28_49 := O28_47.below hR48 (by omega)
            have Y7_49 := Y7_47.below hR48 (by omega)
            have O36_49 := O36_47.below hR48 (by omega)
            have Y8_49 := Y8_47.below hR48 (by omega)
            have hb_49 := below_two hb_47 hR48
            have hz_49 := hR48.size
            clear D0_47 D1_47 B0_47 B1_47 O28_47 Y7_47 O36_47 Y8_47 hb_47
            clear hR48
            clear D0_49 D1_49 B0_49 B1_49 O28_49 Y7_49 O36_49 Y8_49
            go_wp2
            go_ret
            exact ⟨rfl, hb_49⟩
end Go.Proofs.Ytcanljckhjoooaa
