/-
  FnExactMemPut, walked at every argument, given what the program's MemPut answers. (Written by our generator lawgen.py.)
-/
import Derived.Test.YtcanljckhjoooaaMemPut
import Derived.Test.YtcanljckhjoooaaLawKit
namespace Go.Proofs.Ytcanljckhjoooaa
open Go.ChangeShapes Go.WideShapes Go.ChangeAt Go.RowKit
set_option linter.unusedVariables false

set_option maxHeartbeats 8000000 in
theorem exactMemPut_walk
    (impl : ∀ (w : World) (m0 : Value) (lo0 hi0 : Nat) (d0 : MemD) (k1 t1 : Int) (n2 : Int), MI w lo0 hi0 m0 d0 → hi0 ≤ w.heap.size → d0.many ≤ 1048576 → Calls Try.prog 26 #[m0, AddrD.val ⟨k1, t1⟩, .int .i64 n2] w fun e w' => ∃ m', e = .returned m' ∧ MO w' w.heap.size w'.heap.size m' (memPut d0 ⟨k1, t1⟩ n2) ∧ Below w.heap.size w w')
    (w : World) (v0 : Value) (d0 : MemD) (r0 : MI w 0 w.heap.size v0 d0) (k1 t1 : Int) (n2 : Int) :
    Calls Try.prog 8 #[v0, AddrD.val ⟨k1, t1⟩, .int .i64 n2] w fun e w' => e = .returned (.bool true) ∧ Below w.heap.size w w' := by
  obtain ⟨x0, y0, z0, rfl⟩ := r0.agg
  unfold AddrD.val
  have hb0 := Below.refl w.heap.size w
  by_cases big0 : (1048576 : Int) < d0.many
  · go_enter Try.func8, Try.ntmps8
    go_wp2_with fail
    obtain ⟨u1, hu1, G1, BX0_1, BX1_1, hs1⟩ : ∃ u1, (w.alloc (.cells #[x0, y0, z0] 35)).alloc (.cells #[.int .i64 k1, .int .i64 t1] 23) = u1 ∧ Grow w u1 ∧ Box3 u1 (w.heap.size) (x0) (y0) (z0) ∧ Box2 u1 (w.heap.size + 1) (.int .i64 k1) (.int .i64 t1) ∧ u1.heap.size = w.heap.size + 2 :=
      ⟨_, rfl, ((Below.refl _ _).alloc (Nat.le_refl _) _).alloc (by simp) _, ⟨World.cell?_alloc2_first _ _ _ _, World.cell?_alloc2_first _ _ _ _, World.cell?_alloc2_first _ _ _ _⟩, ⟨World.cell?_alloc2_new _ _ _ _, World.cell?_alloc2_new _ _ _ _⟩, by simp⟩
    rw [hu1]
    clear hu1
    have D0_2 := r0.below G1 (by omega)
    have hb_2 := below_two hb0 G1
    have hz_2 := G1.size
    clear r0 hb0
    clear G1
    refine (szMem_any _ _ _ _ d0 (1048576) D0_2 (by omega) (by omega) (by omega)).mono ?_
    rw [if_pos (by omega)]
    rintro e u3 ⟨rfl, hg3⟩
    have D0_4 := D0_2.below hg3 (by omega)
    have B0_4 := BX0_1.below hg3 (by omega)
    have B1_4 := BX1_1.below hg3 (by omega)
    have hb_4 := below_two hb_2 hg3
    have hz_4 := hg3.size
    clear D0_2 BX0_1 BX1_1 hb_2
    clear hg3
    clear D0_4 B0_4 B1_4
    go_wp2
    go_ret
    exact ⟨rfl, hb_4⟩
  · go_enter Try.func8, Try.ntmps8
    go_wp2_with fail
    obtain ⟨u5, hu5, G5, BX0_5, BX1_5, hs5⟩ : ∃ u5, (w.alloc (.cells #[x0, y0, z0] 35)).alloc (.cells #[.int .i64 k1, .int .i64 t1] 23) = u5 ∧ Grow w u5 ∧ Box3 u5 (w.heap.size) (x0) (y0) (z0) ∧ Box2 u5 (w.heap.size + 1) (.int .i64 k1) (.int .i64 t1) ∧ u5.heap.size = w.heap.size + 2 :=
      ⟨_, rfl, ((Below.refl _ _).alloc (Nat.le_refl _) _).alloc (by simp) _, ⟨World.cell?_alloc2_first _ _ _ _, World.cell?_alloc2_first _ _ _ _, World.cell?_alloc2_first _ _ _ _⟩, ⟨World.cell?_alloc2_new _ _ _ _, World.cell?_alloc2_new _ _ _ _⟩, by simp⟩
    rw [hu5]
    clear hu5
    have D0_6 := r0.below G5 (by omega)
    have hb_6 := below_two hb0 G5
    have hz_6 := G5.size
    clear r0 hb0
    clear G5
    refine (szMem_any _ _ _ _ d0 (1048576) D0_6 (by omega) (by omega) (by omega)).mono ?_
    rw [if_neg (by omega)]
    rintro e u7 ⟨rfl, hg7⟩
    have D0_8 := D0_6.below hg7 (by omega)
    have B0_8 := BX0_5.below hg7 (by omega)
    have B1_8 := BX1_5.below hg7 (by omega)
    have hb_8 := below_two hb_6 hg7
    have hz_8 := hg7.size
    clear D0_6 BX0_5 BX1_5 hb_6
    clear hg7
    have hn0 : d0.many ≤ 1048576 := by omega
    have hleft : (0 : Int) ≤ 1048576 - (d0.many : Int) := by omega
    go_wp2_with fail
    refine wp_region_var (Own := fun u lo hi v => MO u lo hi v (memPut d0 ⟨k1, t1⟩ n2))
      (Φ := fun i v u => match i with
        | 0 => v = .agg #[x0, y0, z0]
        | 1 => ∃ lo' hi', hi' ≤ u.heap.size ∧ MO u lo' hi' v d0
        | 2 => v = .agg #[.int .i64 k1, .int .i64 t1]
        | 3 => v = .agg #[.int .i64 k1, .int .i64 t1]
        | 4 => v = .int .i64 n2
        | _ => True) 7 6 5 _ _ _ 8 25 3 rfl rfl (by kernel_rfl) rfl rfl rfl rfl (by decide) (by decide) (by decide) (by decide) (by simp) (by simp) (by kernel_rfl) (by kernel_rfl) (by kernel_rfl) MO.keptR ?_ ?_ ?_ ?_ (fun _ _ => trivial) (fun _ _ => trivial) ?_
    · intro i v u u' hr
      match i with
      | 0 | 2 | 3 | 4 | 5 | 6 | _ + 7 => exact fun h => h
      | 1 => exact fun ⟨lo', hi', h1, h2⟩ => ⟨lo', hi', Nat.le_trans h1 hr.size, h2.below hr h1⟩
    · intro i o ho hin hA hC a' u hf hR he K' hK
      have hsz' : a'.tmps.size = 82 := hf.size
      have hus : u7.heap.size ≤ u.heap.size := hR.size
      rcases i with _ | _ | _ | _ | _ | _ | _ | i
      · obtain rfl := Option.some.inj ho
        clear he
        have q1 : a'.tmps.getD 3 undef = .pointer (some ⟨w.heap.size, 0, none⟩) := hf.at_ 3 (by kernel_rfl)
        obtain ⟨c0, c1, c2⟩ := B0_8.below hR (by omega)
        go_simp
        exact hK _ _ (Below.refl _ _) (getD_put_self a' 20 _ (by show _ < a'.tmps.size; omega))
      · obtain rfl := Option.some.inj ho
        have q1 : a'.tmps.getD 20 undef = .agg #[x0, y0, z0] := he _ (Array.mem_of_getElem? (i := 0) rfl) (by kernel_rfl) _ rfl
        clear he
        go_simp
        refine (toMem_any _ _ _ _ d0 (D0_8.below hR (by omega)) (by omega) hn0).mono ?_
        rintro e u' ⟨m', rfl, HO, hbu⟩
        exact hK _ _ hbu ⟨_, _, Nat.le_refl _, by show MO _ _ _ ((a'.put (some 21) m').tmps.getD 21 undef) d0; rw [getD_put_self a' 21 _ (by show _ < a'.tmps.size; omega)]; exact HO⟩
      · obtain rfl := Option.some.inj ho
        clear he
        have q1 : a'.tmps.getD 4 undef = .pointer (some ⟨w.heap.size + 1, 0, none⟩) := hf.at_ 4 (by kernel_rfl)
        obtain ⟨c0, c1⟩ := B1_8.below hR (by omega)
        go_simp
        exact hK _ _ (Below.refl _ _) (getD_put_self a' 22 _ (by show _ < a'.tmps.size; omega))
      · obtain rfl := Option.some.inj ho
        have q1 : a'.tmps.getD 22 undef = .agg #[.int .i64 k1, .int .i64 t1] := he _ (Array.mem_of_getElem? (i := 0) rfl) (by kernel_rfl) _ rfl
        clear he
        go_simp
        refine (toAddr_any _ ⟨k1, t1⟩).mono ?_
        rintro e u' ⟨rfl, hbu⟩
        exact hK _ _ hbu (getD_put_self a' 23 _ (by show _ < a'.tmps.size; omega))
      · obtain rfl := Option.some.inj ho
        clear he
        have q1 : a'.tmps.getD 2 undef = .int .i64 n2 := hf.at_ 2 (by kernel_rfl)
        go_simp
        exact hK _ _ (Below.refl _ _) (getD_put_self a' 24 _ (by show _ < a'.tmps.size; omega))
      · exact absurd rfl hC
      · exact absurd rfl hA
      · omega
    · intro a' u hf K' hK
      have hg := (Below.refl u.heap.size u).alloc (Nat.le_refl _) (.cells #[.slice none 0 0, .slice none 0 0, .slice none 0 0] 30)
      have hz := zero3_new u (.slice none 0 0) (.slice none 0 0) (.slice none 0 0) 30
      have hk := hK _ hg (by simp) hz
      clear hK hg hz
      go_simp
      exact hk
    · intro a' u hf hR he K' hK
      have hus : u7.heap.size ≤ u.heap.size := hR.size
      obtain ⟨lo21, hi21, hh21, HO21⟩ := he _ (Array.mem_of_getElem? (i := 0) rfl) (by kernel_rfl) _ rfl
      have HO21 : MO u lo21 hi21 (a'.tmps.getD 21 undef) d0 := HO21
      obtain ⟨mm21, em21⟩ : ∃ mm, a'.tmps.getD 21 undef = mm := ⟨_, rfl⟩
      rw [em21] at HO21
      have q23 : a'.tmps.getD 23 undef = .agg #[.int .i64 k1, .int .i64 t1] := he _ (Array.mem_of_getElem? (i := 1) rfl) (by kernel_rfl) _ rfl
      have q24 : a'.tmps.getD 24 undef = .int .i64 n2 := he _ (Array.mem_of_getElem? (i := 2) rfl) (by kernel_rfl) _ rfl
      clear he
      go_simp
      refine (sMemPut_any _ lo21 hi21 mm21 d0 ⟨k1, t1⟩ n2 HO21.mi hh21 hn0).mono ?_
      rintro e u' ⟨m', rfl, HP, hbu⟩
      exact hK _ _ hbu HP
    · intro a' u Q9 lo9 hi9 hf hR qp hq90 hq9 hz HO hl9 hh9 hd9 hp K' hK
      have hsz' : a'.tmps.size = 82 := hf.size
      have md : a'.defers = [] := hf.defers
      obtain ⟨mm, er⟩ : ∃ mm, a'.tmps.getD 25 undef = mm := ⟨_, rfl⟩
      rw [er] at HO
      obtain ⟨qa, qb, qc, rfl, k1, k2, k3⟩ := HO.mi
      obtain ⟨paV9, caV9, rfl⟩ := k1.shape
      obtain ⟨pbV9, cbV9, rfl⟩ := k2.shape
      obtain ⟨pcV9, ccV9, rfl⟩ := k3.shape
      clear k1 k2 k3
      obtain ⟨s0, e0⟩ := Option.isSome_iff_exists.mp (hz 0 (by omega)).1
      obtain ⟨s1, e1⟩ := Option.isSome_iff_exists.mp (hz 1 (by omega)).1
      obtain ⟨s2, e2⟩ := Option.isSome_iff_exists.mp (hz 2 (by omega)).1
      have g0 := (hz 0 (by omega)).2
      have g1 := (hz 1 (by omega)).2
      have g2 := (hz 2 (by omega)).2
      clear hp
      go_simp
      refine hK _ _ ?_
      obtain ⟨u9, hu9, G9, Y9, O9, hs9⟩ := store3 hR hq90 hq9 hz HO hd9
      rw [hu9]
      clear hu9
      have m2 : a'.tmps.getD 2 undef = .int .i64 n2 := hf.at_ 2 (by kernel_rfl)
      have m3 : a'.tmps.getD 3 undef = .pointer (some ⟨w.heap.size, 0, none⟩) := hf.at_ 3 (by kernel_rfl)
      have m4 : a'.tmps.getD 4 undef = .pointer (some ⟨w.heap.size + 1, 0, none⟩) := hf.at_ 4 (by kernel_rfl)
      have m8 := qp
      obtain ⟨f, ea, hfv⟩ := act_lit a' 82 hf.size
      rw [← hfv] at m2 m3 m4 m8
      rw [md] at ea
      simp only [List.range, List.range.loop, List.map_cons, List.map_nil, m2, m3, m4, m8] at ea
      subst ea
      clear hfv hf er g0 g1 g2 e0 e1 e2 hz hK HO md qp hR
      have hQ9 : Q9 < u9.heap.size := by omega
      have hH9 : hi9 ≤ u9.heap.size := by omega
      have D0_10 := D0_8.below G9 (by omega)
      have B0_10 := B0_8.below G9 (by omega)
      have B1_10 := B1_8.below G9 (by omega)
      have hb_10 := below_two hb_8 G9
      have hz_10 := G9.size
      clear D0_8 B0_8 B1_8 hb_8
      clear G9
      have zz11 := B0_10.c0
      have zz12 := B0_10.c1
      have zz13 := B0_10.c2
      go_wp2_with fail
      clear zz11 zz12 zz13
      refine (toMem_any _ _ _ _ d0 D0_10 (by omega) hn0).mono ?_
      rintro e u14 ⟨mm, rfl, O14, hg14⟩
      obtain ⟨qa, qb, qc, rfl, k1, k2, k3⟩ := O14.mi
      obtain ⟨paT14, caT14, rfl⟩ := k1.shape
      obtain ⟨pbT14, cbT14, rfl⟩ := k2.shape
      obtain ⟨pcT14, ccT14, rfl⟩ := k3.shape
      clear k1 k2 k3
      have D0_15 := D0_10.below hg14 (by omega)
      have B0_15 := B0_10.below hg14 (by omega)
      have B1_15 := B1_10.below hg14 (by omega)
      have Y8_15 := Y9.below hg14 (by omega)
      have O9_15 := O9.below hg14 (by omega)
      have hb_15 := below_two hb_10 hg14
      have hz_15 := hg14.size
      clear D0_10 B0_10 B1_10 Y9 O9 hb_10
      clear hg14
      go_wp2_with fail
      obtain ⟨u16, hu16, G16, Y16, hs16⟩ : ∃ u16, u14.alloc (.cells #[.slice paT14 d0.i.length caT14, .slice pbT14 d0.o.length cbT14, .slice pcT14 d0.v.length ccT14] 30) = u16 ∧ Grow u14 u16 ∧ Box3 u16 u14.heap.size (.slice paT14 d0.i.length caT14) (.slice pbT14 d0.o.length cbT14) (.slice pcT14 d0.v.length ccT14) ∧ u16.heap.size = u14.heap.size + 1 :=
        ⟨_, rfl, (Below.refl _ _).alloc (Nat.le_refl _) _, box3_new u14 _ _ _ _, by simp⟩
      rw [hu16]
      clear hu16
      have D0_17 := D0_15.below G16 (by omega)
      have B0_17 := B0_15.below G16 (by omega)
      have B1_17 := B1_15.below G16 (by omega)
      have Y8_17 := Y8_15.below G16 (by omega)
      have O9_17 := O9_15.below G16 (by omega)
      have O14_17 := O14.below G16 (by omega)
      have hb_17 := below_two hb_15 G16
      have hz_17 := G16.size
      clear D0_15 B0_15 B1_15 Y8_15 O9_15 O14 hb_15
      clear G16
      refine wp_region_var (Own := fun u lo hi v => MO u lo hi v (memPut d0 ⟨k1, t1⟩ n2))
        (Φ := fun i v u => match i with
          | 0 => v = .agg #[.slice paT14 d0.i.length caT14, .slice pbT14 d0.o.length cbT14, .slice pcT14 d0.v.length ccT14]
          | 1 => v = .agg #[.int .i64 k1, .int .i64 t1]
          | 2 => v = .agg #[.int .i64 k1, .int .i64 t1]
          | 3 => v = .int .i64 n2
          | _ => True) 6 5 4 _ _ _ 10 32 3 rfl rfl (by kernel_rfl) rfl rfl rfl rfl (by decide) (by decide) (by decide) (by decide) (by simp) (by simp) (by kernel_rfl) (by kernel_rfl) (by kernel_rfl) MO.keptR ?_ ?_ ?_ ?_ (fun _ _ => trivial) (fun _ _ => trivial) ?_
      · intro i v u u' hr
        match i with
        | 0 | 1 | 2 | 3 | 4 | 5 | _ + 6 => exact fun h => h
      · intro i o ho hin hA hC a' u hf hR he K' hK
        have hsz' : a'.tmps.size = 82 := hf.size
        have hus : u16.heap.size ≤ u.heap.size := hR.size
        rcases i with _ | _ | _ | _ | _ | _ | i
        · obtain rfl := Option.some.inj ho
          clear he
          have q1 : a'.tmps.getD 9 undef = .pointer (some ⟨u14.heap.size, 0, none⟩) := hf.at_ 9 (by kernel_rfl)
          obtain ⟨c0, c1, c2⟩ := Y16.below hR (by omega)
          go_simp
          exact hK _ _ (Below.refl _ _) (getD_put_self a' 28 _ (by show _ < a'.tmps.size; omega))
        · obtain rfl := Option.some.inj ho
          clear he
          have q1 : a'.tmps.getD 4 undef = .pointer (some ⟨w.heap.size + 1, 0, none⟩) := hf.at_ 4 (by kernel_rfl)
          obtain ⟨c0, c1⟩ := B1_17.below hR (by omega)
          go_simp
          exact hK _ _ (Below.refl _ _) (getD_put_self a' 29 _ (by show _ < a'.tmps.size; omega))
        · obtain rfl := Option.some.inj ho
          have q1 : a'.tmps.getD 29 undef = .agg #[.int .i64 k1, .int .i64 t1] := he _ (Array.mem_of_getElem? (i := 0) rfl) (by kernel_rfl) _ rfl
          clear he
          go_simp
          refine (toAddr_any _ ⟨k1, t1⟩).mono ?_
          rintro e u' ⟨rfl, hbu⟩
          exact hK _ _ hbu (getD_put_self a' 30 _ (by show _ < a'.tmps.size; omega))
        · obtain rfl := Option.some.inj ho
          clear he
          have q1 : a'.tmps.getD 2 undef = .int .i64 n2 := hf.at_ 2 (by kernel_rfl)
          go_simp
          exact hK _ _ (Below.refl _ _) (getD_put_self a' 31 _ (by show _ < a'.tmps.size; omega))
        · exact absurd rfl hC
        · exact absurd rfl hA
        · omega
      · intro a' u hf K' hK
        have hg := (Below.refl u.heap.size u).alloc (Nat.le_refl _) (.cells #[.slice none 0 0, .slice none 0 0, .slice none 0 0] 30)
        have hz := zero3_new u (.slice none 0 0) (.slice none 0 0) (.slice none 0 0) 30
        have hk := hK _ hg (by simp) hz
        clear hK hg hz
        go_simp
        exact hk
      · intro a' u hf hR he K' hK
        have hus : u16.heap.size ≤ u.heap.size := hR.size
        have q28 : a'.tmps.getD 28 undef = .agg #[.slice paT14 d0.i.length caT14, .slice pbT14 d0.o.length cbT14, .slice pcT14 d0.v.length ccT14] := he _ (Array.mem_of_getElem? (i := 0) rfl) (by kernel_rfl) _ rfl
        have q30 : a'.tmps.getD 30 undef = .agg #[.int .i64 k1, .int .i64 t1] := he _ (Array.mem_of_getElem? (i := 1) rfl) (by kernel_rfl) _ rfl
        have q31 : a'.tmps.getD 31 undef = .int .i64 n2 := he _ (Array.mem_of_getElem? (i := 2) rfl) (by kernel_rfl) _ rfl
        clear he
        go_simp
        refine (impl _ _ _ _ d0 k1 t1 n2 (O14_17.mi.below hR (by omega)) (by omega) hn0).mono ?_
        rintro e u' ⟨m', rfl, HP, hbu⟩
        exact hK _ _ hbu HP
      · intro a' u Q18 lo18 hi18 hf hR qp hq180 hq18 hz HO hl18 hh18 hd18 hp K' hK
        have hsz' : a'.tmps.size = 82 := hf.size
        have md : a'.defers = [] := hf.defers
        obtain ⟨mm, er⟩ : ∃ mm, a'.tmps.getD 32 undef = mm := ⟨_, rfl⟩
        rw [er] at HO
        obtain ⟨qa, qb, qc, rfl, k1, k2, k3⟩ := HO.mi
        obtain ⟨paV18, caV18, rfl⟩ := k1.shape
        obtain ⟨pbV18, cbV18, rfl⟩ := k2.shape
        obtain ⟨pcV18, ccV18, rfl⟩ := k3.shape
        clear k1 k2 k3
        obtain ⟨s0, e0⟩ := Option.isSome_iff_exists.mp (hz 0 (by omega)).1
        obtain ⟨s1, e1⟩ := Option.isSome_iff_exists.mp (hz 1 (by omega)).1
        obtain ⟨s2, e2⟩ := Option.isSome_iff_exists.mp (hz 2 (by omega)).1
        have g0 := (hz 0 (by omega)).2
        have g1 := (hz 1 (by omega)).2
        have g2 := (hz 2 (by omega)).2
        clear hp
        go_simp
        refine hK _ _ ?_
        obtain ⟨u18, hu18, G18, Y18, O18, hs18⟩ := store3 hR hq180 hq18 hz HO hd18
        rw [hu18]
        clear hu18
        have m2 : a'.tmps.getD 2 undef = .int .i64 n2 := hf.at_ 2 (by kernel_rfl)
        have m3 : a'.tmps.getD 3 undef = .pointer (some ⟨w.heap.size, 0, none⟩) := hf.at_ 3 (by kernel_rfl)
        have m4 : a'.tmps.getD 4 undef = .pointer (some ⟨w.heap.size + 1, 0, none⟩) := hf.at_ 4 (by kernel_rfl)
        have m8 : a'.tmps.getD 8 undef = .pointer (some ⟨Q9, 0, none⟩) := hf.at_ 8 (by kernel_rfl)
        have m9 : a'.tmps.getD 9 undef = .pointer (some ⟨u14.heap.size, 0, none⟩) := hf.at_ 9 (by kernel_rfl)
        have m10 := qp
        obtain ⟨f, ea, hfv⟩ := act_lit a' 82 hf.size
        rw [← hfv] at m2 m3 m4 m8 m9 m10
        rw [md] at ea
        simp only [List.range, List.range.loop, List.map_cons, List.map_nil, m2, m3, m4, m8, m9, m10] at ea
        subst ea
        clear hfv hf er g0 g1 g2 e0 e1 e2 hz hK HO md qp hR
        have hQ18 : Q18 < u18.heap.size := by omega
        have hH18 : hi18 ≤ u18.heap.size := by omega
        have D0_19 := D0_17.below G18 (by omega)
        have B0_19 := B0_17.below G18 (by omega)
        have B1_19 := B1_17.below G18 (by omega)
        have Y8_19 := Y8_17.below G18 (by omega)
        have O9_19 := O9_17.below G18 (by omega)
        have O14_19 := O14_17.below G18 (by omega)
        have Y9_19 := Y16.below G18 (by omega)
        have hb_19 := below_two hb_17 G18
        have hz_19 := G18.size
        clear D0_17 B0_17 B1_17 Y8_17 O9_17 O14_17 Y16 hb_17
        clear G18
        have zz20 := Y18.c0
        have zz21 := Y18.c1
        have zz22 := Y18.c2
        have zz23 := Y8_19.c0
        have zz24 := Y8_19.c1
        have zz25 := Y8_19.c2
        go_wp2_with fail
        clear zz20 zz21 zz22 zz23 zz24 zz25
        refine (eqMem_any _ _ _ _ _ _ _ (memPut d0 ⟨k1, t1⟩ n2) (memPut d0 ⟨k1, t1⟩ n2) O18.mi O9_19.mi (by omega) (by omega)).mono ?_
        rw [decide_eq_true rfl]
        rintro e u26 ⟨rfl, hg26⟩
        have D0_27 := D0_19.below hg26 (by omega)
        have B0_27 := B0_19.below hg26 (by omega)
        have B1_27 := B1_19.below hg26 (by omega)
        have Y8_27 := Y8_19.below hg26 (by omega)
        have O9_27 := O9_19.below hg26 (by omega)
        have O14_27 := O14_19.below hg26 (by omega)
        have Y9_27 := Y9_19.below hg26 (by omega)
        have Y10_27 := Y18.below hg26 (by omega)
        have O18_27 := O18.below hg26 (by omega)
        have hb_27 := below_two hb_19 hg26
        have hz_27 := hg26.size
        clear D0_19 B0_19 B1_19 Y8_19 O9_19 O14_19 Y9_19 Y18 O18 hb_19
        clear hg26
        go_wp2_with fail
        refine wp_region_dag (R := Grow)
          (Φ := fun i v u => match i with
            | 0 => v = .agg #[.slice paT14 d0.i.length caT14, .slice pbT14 d0.o.length cbT14, .slice pcT14 d0.v.length ccT14]
            | 1 => v = .agg #[x0, y0, z0]
            | 2 => ∃ lo' hi', hi' ≤ u.heap.size ∧ MO u lo' hi' v d0
            | 3 => v = .bool true
            | 4 => v = .bool false
            | _ => True) (by kernel_rfl) (by kernel_rfl) (by kernel_rfl) (Below.refl _ _) grow_trans ?_ ?_ ?_
        · intro i v u u' hr
          match i with
          | 0 | 1 | 3 | 4 | _ + 5 => exact fun h => h
          | 2 => exact fun ⟨lo', hi', h1, h2⟩ => ⟨lo', hi', Nat.le_trans h1 hr.size, h2.below hr h1⟩
        · intro i o ho a' u hf hR0 he K' hK
          have hR : Grow u26 u := (Below.drew (Below.refl _ _)).trans hR0
          have hsz' : a'.tmps.size = 82 := hf.size
          have hus : u26.heap.size ≤ u.heap.size := hR.size
          rcases i with _ | _ | _ | _ | _ | i
          · obtain rfl := Option.some.inj ho
            clear he
            have q1 : a'.tmps.getD 9 undef = .pointer (some ⟨u14.heap.size, 0, none⟩) := hf.at_ 9 (by kernel_rfl)
            obtain ⟨c0, c1, c2⟩ := Y9_27.below hR (by omega)
            go_simp
            exact hK _ _ (Below.refl _ _) (getD_put_self a' 37 _ (by show _ < a'.tmps.size; omega))
          · obtain rfl := Option.some.inj ho
            clear he
            have q1 : a'.tmps.getD 3 undef = .pointer (some ⟨w.heap.size, 0, none⟩) := hf.at_ 3 (by kernel_rfl)
            obtain ⟨c0, c1, c2⟩ := B0_27.below hR (by omega)
            go_simp
            exact hK _ _ (Below.refl _ _) (getD_put_self a' 38 _ (by show _ < a'.tmps.size; omega))
          · obtain rfl := Option.some.inj ho
            have q1 : a'.tmps.getD 38 undef = .agg #[x0, y0, z0] := he _ (Array.mem_of_getElem? (i := 0) rfl) (by kernel_rfl) _ rfl
            clear he
            go_simp
            refine (toMem_any _ _ _ _ d0 (D0_27.below hR (by omega)) (by omega) hn0).mono ?_
            rintro e u' ⟨m', rfl, HO, hbu⟩
            exact hK _ _ hbu ⟨_, _, Nat.le_refl _, by show MO _ _ _ ((a'.put (some 39) m').tmps.getD 39 undef) d0; rw [getD_put_self a' 39 _ (by show _ < a'.tmps.size; omega)]; exact HO⟩
          · obtain rfl := Option.some.inj ho
            have q37 : a'.tmps.getD 37 undef = .agg #[.slice paT14 d0.i.length caT14, .slice pbT14 d0.o.length cbT14, .slice pcT14 d0.v.length ccT14] := he _ (Array.mem_of_getElem? (i := 0) rfl) (by kernel_rfl) _ rfl
            obtain ⟨lo39, hi39, hh39, HO39⟩ := he _ (Array.mem_of_getElem? (i := 1) rfl) (by kernel_rfl) _ rfl
            have HO39 : MO u lo39 hi39 (a'.tmps.getD 39 undef) d0 := HO39
            obtain ⟨mm39, em39⟩ : ∃ mm, a'.tmps.getD 39 undef = mm := ⟨_, rfl⟩
            rw [em39] at HO39
            clear he
            go_simp
            refine (eqMem_any _ _ _ _ _ _ _ d0 d0 (O14_27.mi.below hR (by omega)) HO39.mi (by omega) hh39).mono ?_
            rw [decide_eq_true rfl]
            rintro e u' ⟨rfl, hbu⟩
            exact hK _ _ hbu (getD_put_self a' 40 _ (by show _ < a'.tmps.size; omega))
          · obtain rfl := Option.some.inj ho
            have q1 : a'.tmps.getD 40 undef = .bool true := he _ (Array.mem_of_getElem? (i := 0) rfl) (by kernel_rfl) _ rfl
            clear he
            go_simp
            exact hK _ _ (Below.refl _ _) (getD_put_self a' 41 _ (by show _ < a'.tmps.size; omega))
          · exact absurd ho (by simp)
        · intro a' u28 hf hR0 hp
          have hR28 : Grow u26 u28 := (Below.drew (Below.refl _ _)).trans hR0
          have md : a'.defers = [] := hf.defers
          have m41 : a'.tmps.getD 41 undef = .bool false := hp 4 _ rfl
          have m2 : a'.tmps.getD 2 undef = .int .i64 n2 := hf.at_ 2 (by kernel_rfl)
          have m3 : a'.tmps.getD 3 undef = .pointer (some ⟨w.heap.size, 0, none⟩) := hf.at_ 3 (by kernel_rfl)
          have m4 : a'.tmps.getD 4 undef = .pointer (some ⟨w.heap.size + 1, 0, none⟩) := hf.at_ 4 (by kernel_rfl)
          have m8 : a'.tmps.getD 8 undef = .pointer (some ⟨Q9, 0, none⟩) := hf.at_ 8 (by kernel_rfl)
          have m9 : a'.tmps.getD 9 undef = .pointer (some ⟨u14.heap.size, 0, none⟩) := hf.at_ 9 (by kernel_rfl)
          have m10 : a'.tmps.getD 10 undef = .pointer (some ⟨Q18, 0, none⟩) := hf.at_ 10 (by kernel_rfl)
          obtain ⟨f, ea, hfv⟩ := act_lit a' 82 hf.size
          rw [← hfv] at m2 m3 m4 m8 m9 m10 m41
          rw [md] at ea
          simp only [List.range, List.range.loop, List.map_cons, List.map_nil, m2, m3, m4, m8, m9, m10, m41] at ea
          subst ea
          clear hfv hf md hp hR0
          have D0_29 := D0_27.below hR28 (by omega)
          have B0_29 := B0_27.below hR28 (by omega)
          have B1_29 := B1_27.below hR28 (by omega)
          have Y8_29 := Y8_27.below hR28 (by omega)
          have O9_29 := O9_27.below hR28 (by omega)
          have O14_29 := O14_27.below hR28 (by omega)
          have Y9_29 := Y9_27.below hR28 (by omega)
          have Y10_29 := Y10_27.below hR28 (by omega)
          have O18_29 := O18_27.below hR28 (by omega)
          have hb_29 := below_two hb_27 hR28
          have hz_29 := hR28.size
          clear D0_27 B0_27 B1_27 Y8_27 O9_27 O14_27 Y9_27 Y10_27 O18_27 hb_27
          clear hR28
          have zz30 := Y9_29.c0
          have zz31 := Y9_29.c1
          have zz32 := Y9_29.c2
          go_wp2_with fail
          clear zz30 zz31 zz32
          have hm33 : d0.many ≤ 1048576 := by omega
          refine (markMem_any _ _ _ _ d0 1 O14_29 (by omega) (by omega) (by omega) (by omega)).mono ?_
          rintro e u33 ⟨rfl, M33, ho33⟩
          clear O14_29
          have hp33 : ¬ (1 + (d0.many : Int) < 0) := by omega
          have D0_34 := D0_29.out ho33 (by omega) (by omega)
          have B0_34 := B0_29.out ho33 (by omega) (by omega)
          have B1_34 := B1_29.out ho33 (by omega) (by omega)
          have Y8_34 := Y8_29.out ho33 (by omega) (by omega)
          have O9_34 := O9_29.out ho33 (by omega) (by omega)
          have Y9_34 := Y9_29.out ho33 (by omega) (by omega)
          have Y10_34 := Y10_29.out ho33 (by omega) (by omega)
          have O18_34 := O18_29.out ho33 (by omega) (by omega)
          have hb_34 := hb_29.trans (ho33.below (n := w.heap.size) (by omega) (by omega))
          have hz_34 := ho33.size
          clear D0_29 B0_29 B1_29 Y8_29 O9_29 Y9_29 Y10_29 O18_29 hb_29
          clear ho33
          have zz35 := Y10_34.c0
          have zz36 := Y10_34.c1
          have zz37 := Y10_34.c2
          have zz38 := Y8_34.c0
          have zz39 := Y8_34.c1
          have zz40 := Y8_34.c2
          go_wp2_with fail
          clear zz35 zz36 zz37 zz38 zz39 zz40
          refine (eqMem_any _ _ _ _ _ _ _ (memPut d0 ⟨k1, t1⟩ n2) (memPut d0 ⟨k1, t1⟩ n2) O18_34.mi O9_34.mi (by omega) (by omega)).mono ?_
          rw [decide_eq_true rfl]
          rintro e u41 ⟨rfl, hg41⟩
          have D0_42 := D0_34.below hg41 (by omega)
          have B0_42 := B0_34.below hg41 (by omega)
          have B1_42 := B1_34.below hg41 (by omega)
          have Y8_42 := Y8_34.below hg41 (by omega)
          have O9_42 := O9_34.below hg41 (by omega)
          have Y9_42 := Y9_34.below hg41 (by omega)
          have Y10_42 := Y10_34.below hg41 (by omega)
          have O18_42 := O18_34.below hg41 (by omega)
          have O14_42 := M33.below hg41 (by omega)
          have hb_42 := below_two hb_34 hg41
          have hz_42 := hg41.size
          clear D0_34 B0_34 B1_34 Y8_34 O9_34 Y9_34 Y10_34 O18_34 M33 hb_34
          clear hg41
          have zz43 := Y10_42.c0
          have zz44 := Y10_42.c1
          have zz45 := Y10_42.c2
          go_wp2_with fail
          clear zz43 zz44 zz45
          have hm46 : (memPut d0 ⟨k1, t1⟩ n2).many ≤ 1048576 := Nat.le_trans (memPut_many d0 ⟨k1, t1⟩ n2) (by omega)
          refine (markMem_any _ _ _ _ (memPut d0 ⟨k1, t1⟩ n2) 1 O18_42 (by omega) (by omega) (by omega) (by omega)).mono ?_
          rintro e u46 ⟨rfl, M46, ho46⟩
          clear O18_42
          have hp46 : ¬ (1 + ((memPut d0 ⟨k1, t1⟩ n2).many : Int) < 0) := by omega
          have D0_47 := D0_42.out ho46 (by omega) (by omega)
          have B0_47 := B0_42.out ho46 (by omega) (by omega)
          have B1_47 := B1_42.out ho46 (by omega) (by omega)
          have Y8_47 := Y8_42.out ho46 (by omega) (by omega)
          have O9_47 := O9_42.out ho46 (by omega) (by omega)
          have Y9_47 := Y9_42.out ho46 (by omega) (by omega)
          have Y10_47 := Y10_42.out ho46 (by omega) (by omega)
          have O14_47 := O14_42.out ho46 (by omega) (by omega)
          have hb_47 := hb_42.trans (ho46.below (n := w.heap.size) (by omega) (by omega))
          have hz_47 := ho46.size
          clear D0_42 B0_42 B1_42 Y8_42 O9_42 Y9_42 Y10_42 O14_42 hb_42
          clear ho46
          have zz48 := Y10_47.c0
          have zz49 := Y10_47.c1
          have zz50 := Y10_47.c2
          go_wp2_with fail
          clear zz48 zz49 zz50
          refine (heldMem_any _ _ _ _ (memPut d0 ⟨k1, t1⟩ n2) 1 M46.mi (by omega) (by omega) (by omega) (by omega)).mono ?_
          rintro e u51 ⟨rfl, hg51⟩
          have D0_52 := D0_47.below hg51 (by omega)
          have B0_52 := B0_47.below hg51 (by omega)
          have B1_52 := B1_47.below hg51 (by omega)
          have Y8_52 := Y8_47.below hg51 (by omega)
          have O9_52 := O9_47.below hg51 (by omega)
          have Y9_52 := Y9_47.below hg51 (by omega)
          have Y10_52 := Y10_47.below hg51 (by omega)
          have O14_52 := O14_47.below hg51 (by omega)
          have O18_52 := M46.below hg51 (by omega)
          have hb_52 := below_two hb_47 hg51
          have hz_52 := hg51.size
          clear D0_47 B0_47 B1_47 Y8_47 O9_47 Y9_47 Y10_47 O14_47 M46 hb_47
          clear hg51
          go_wp2_with fail
          refine wp_region_var (Own := fun u lo hi v => MO u lo hi v (memPut d0 ⟨k1, t1⟩ n2))
            (Φ := fun i v u => match i with
              | 0 => v = .agg #[x0, y0, z0]
              | 1 => ∃ lo' hi', hi' ≤ u.heap.size ∧ MO u lo' hi' v d0
              | 2 => v = .agg #[.int .i64 k1, .int .i64 t1]
              | 3 => v = .agg #[.int .i64 k1, .int .i64 t1]
              | 4 => v = .int .i64 n2
              | _ => True) 7 6 5 _ _ _ 14 69 3 rfl rfl (by kernel_rfl) rfl rfl rfl rfl (by decide) (by decide) (by decide) (by decide) (by simp) (by simp) (by kernel_rfl) (by kernel_rfl) (by kernel_rfl) MO.keptR ?_ ?_ ?_ ?_ (fun _ _ => trivial) (fun _ _ => trivial) ?_
          · intro i v u u' hr
            match i with
            | 0 | 2 | 3 | 4 | 5 | 6 | _ + 7 => exact fun h => h
            | 1 => exact fun ⟨lo', hi', h1, h2⟩ => ⟨lo', hi', Nat.le_trans h1 hr.size, h2.below hr h1⟩
          · intro i o ho hin hA hC a' u hf hR he K' hK
            have hsz' : a'.tmps.size = 82 := hf.size
            have hus : u51.heap.size ≤ u.heap.size := hR.size
            rcases i with _ | _ | _ | _ | _ | _ | _ | i
            · obtain rfl := Option.some.inj ho
              clear he
              have q1 : a'.tmps.getD 3 undef = .pointer (some ⟨w.heap.size, 0, none⟩) := hf.at_ 3 (by kernel_rfl)
              obtain ⟨c0, c1, c2⟩ := B0_52.below hR (by omega)
              go_simp
              exact hK _ _ (Below.refl _ _) (getD_put_self a' 64 _ (by show _ < a'.tmps.size; omega))
            · obtain rfl := Option.some.inj ho
              have q1 : a'.tmps.getD 64 undef = .agg #[x0, y0, z0] := he _ (Array.mem_of_getElem? (i := 0) rfl) (by kernel_rfl) _ rfl
              clear he
              go_simp
              refine (toMem_any _ _ _ _ d0 (D0_52.below hR (by omega)) (by omega) hn0).mono ?_
              rintro e u' ⟨m', rfl, HO, hbu⟩
              exact hK _ _ hbu ⟨_, _, Nat.le_refl _, by show MO _ _ _ ((a'.put (some 65) m').tmps.getD 65 undef) d0; rw [getD_put_self a' 65 _ (by show _ < a'.tmps.size; omega)]; exact HO⟩
            · obtain rfl := Option.some.inj ho
              clear he
              have q1 : a'.tmps.getD 4 undef = .pointer (some ⟨w.heap.size + 1, 0, none⟩) := hf.at_ 4 (by kernel_rfl)
              obtain ⟨c0, c1⟩ := B1_52.below hR (by omega)
              go_simp
              exact hK _ _ (Below.refl _ _) (getD_put_self a' 66 _ (by show _ < a'.tmps.size; omega))
            · obtain rfl := Option.some.inj ho
              have q1 : a'.tmps.getD 66 undef = .agg #[.int .i64 k1, .int .i64 t1] := he _ (Array.mem_of_getElem? (i := 0) rfl) (by kernel_rfl) _ rfl
              clear he
              go_simp
              refine (toAddr_any _ ⟨k1, t1⟩).mono ?_
              rintro e u' ⟨rfl, hbu⟩
              exact hK _ _ hbu (getD_put_self a' 67 _ (by show _ < a'.tmps.size; omega))
            · obtain rfl := Option.some.inj ho
              clear he
              have q1 : a'.tmps.getD 2 undef = .int .i64 n2 := hf.at_ 2 (by kernel_rfl)
              go_simp
              exact hK _ _ (Below.refl _ _) (getD_put_self a' 68 _ (by show _ < a'.tmps.size; omega))
            · exact absurd rfl hC
            · exact absurd rfl hA
            · omega
          · intro a' u hf K' hK
            have hg := (Below.refl u.heap.size u).alloc (Nat.le_refl _) (.cells #[.slice none 0 0, .slice none 0 0, .slice none 0 0] 30)
            have hz := zero3_new u (.slice none 0 0) (.slice none 0 0) (.slice none 0 0) 30
            have hk := hK _ hg (by simp) hz
            clear hK hg hz
            go_simp
            exact hk
          · intro a' u hf hR he K' hK
            have hus : u51.heap.size ≤ u.heap.size := hR.size
            obtain ⟨lo65, hi65, hh65, HO65⟩ := he _ (Array.mem_of_getElem? (i := 0) rfl) (by kernel_rfl) _ rfl
            have HO65 : MO u lo65 hi65 (a'.tmps.getD 65 undef) d0 := HO65
            obtain ⟨mm65, em65⟩ : ∃ mm, a'.tmps.getD 65 undef = mm := ⟨_, rfl⟩
            rw [em65] at HO65
            have q67 : a'.tmps.getD 67 undef = .agg #[.int .i64 k1, .int .i64 t1] := he _ (Array.mem_of_getElem? (i := 1) rfl) (by kernel_rfl) _ rfl
            have q68 : a'.tmps.getD 68 undef = .int .i64 n2 := he _ (Array.mem_of_getElem? (i := 2) rfl) (by kernel_rfl) _ rfl
            clear he
            go_simp
            refine (impl _ mm65 lo65 hi65 d0 k1 t1 n2 HO65.mi hh65 hn0).mono ?_
            rintro e u' ⟨m', rfl, HP, hbu⟩
            exact hK _ _ hbu HP
          · intro a' u Q53 lo53 hi53 hf hR qp hq530 hq53 hz HO hl53 hh53 hd53 hp K' hK
            have hsz' : a'.tmps.size = 82 := hf.size
            have md : a'.defers = [] := hf.defers
            obtain ⟨mm, er⟩ : ∃ mm, a'.tmps.getD 69 undef = mm := ⟨_, rfl⟩
            rw [er] at HO
            obtain ⟨qa, qb, qc, rfl, k1, k2, k3⟩ := HO.mi
            obtain ⟨paV53, caV53, rfl⟩ := k1.shape
            obtain ⟨pbV53, cbV53, rfl⟩ := k2.shape
            obtain ⟨pcV53, ccV53, rfl⟩ := k3.shape
            clear k1 k2 k3
            obtain ⟨s0, e0⟩ := Option.isSome_iff_exists.mp (hz 0 (by omega)).1
            obtain ⟨s1, e1⟩ := Option.isSome_iff_exists.mp (hz 1 (by omega)).1
            obtain ⟨s2, e2⟩ := Option.isSome_iff_exists.mp (hz 2 (by omega)).1
            have g0 := (hz 0 (by omega)).2
            have g1 := (hz 1 (by omega)).2
            have g2 := (hz 2 (by omega)).2
            clear hp
            go_simp
            refine hK _ _ ?_
            obtain ⟨u53, hu53, G53, Y53, O53, hs53⟩ := store3 hR hq530 hq53 hz HO hd53
            rw [hu53]
            clear hu53
            have m8 : a'.tmps.getD 8 undef = .pointer (some ⟨Q9, 0, none⟩) := hf.at_ 8 (by kernel_rfl)
            have m10 : a'.tmps.getD 10 undef = .pointer (some ⟨Q18, 0, none⟩) := hf.at_ 10 (by kernel_rfl)
            have m12 : a'.tmps.getD 12 undef = .int .i64 (1 + ((memPut d0 ⟨k1, t1⟩ n2).many : Int)) := hf.at_ 12 (by kernel_rfl)
            have m13 : a'.tmps.getD 13 undef = .int .i64 (1 + ((memPut d0 ⟨k1, t1⟩ n2).many : Int)) := hf.at_ 13 (by kernel_rfl)
            have m14 := qp
            obtain ⟨f, ea, hfv⟩ := act_lit a' 82 hf.size
            rw [← hfv] at m8 m10 m12 m13 m14
            rw [md] at ea
            simp only [List.range, List.range.loop, List.map_cons, List.map_nil, m8, m10, m12, m13, m14] at ea
            subst ea
            clear hfv hf er g0 g1 g2 e0 e1 e2 hz hK HO md qp hR
            have hQ53 : Q53 < u53.heap.size := by omega
            have hH53 : hi53 ≤ u53.heap.size := by omega
            have D0_54 := D0_52.below G53 (by omega)
            have B0_54 := B0_52.below G53 (by omega)
            have B1_54 := B1_52.below G53 (by omega)
            have Y8_54 := Y8_52.below G53 (by omega)
            have O9_54 := O9_52.below G53 (by omega)
            have Y9_54 := Y9_52.below G53 (by omega)
            have Y10_54 := Y10_52.below G53 (by omega)
            have O14_54 := O14_52.below G53 (by omega)
            have O18_54 := O18_52.below G53 (by omega)
            have hb_54 := below_two hb_52 G53
            have hz_54 := G53.size
            clear D0_52 B0_52 B1_52 Y8_52 O9_52 Y9_52 Y10_52 O14_52 O18_52 hb_52
            clear G53
            have zz55 := Y53.c0
            have zz56 := Y53.c1
            have zz57 := Y53.c2
            have zz58 := Y8_54.c0
            have zz59 := Y8_54.c1
            have zz60 := Y8_54.c2
            go_wp2_with fail
            clear zz55 zz56 zz57 zz58 zz59 zz60
            refine (eqMem_any _ _ _ _ _ _ _ (memPut d0 ⟨k1, t1⟩ n2) (memPut d0 ⟨k1, t1⟩ n2) O53.mi O9_54.mi (by omega) (by omega)).mono ?_
            rw [decide_eq_true rfl]
            rintro e u61 ⟨rfl, hg61⟩
            have D0_62 := D0_54.below hg61 (by omega)
            have B0_62 := B0_54.below hg61 (by omega)
            have B1_62 := B1_54.below hg61 (by omega)
            have Y8_62 := Y8_54.below hg61 (by omega)
            have O9_62 := O9_54.below hg61 (by omega)
            have Y9_62 := Y9_54.below hg61 (by omega)
            have Y10_62 := Y10_54.below hg61 (by omega)
            have O14_62 := O14_54.below hg61 (by omega)
            have O18_62 := O18_54.below hg61 (by omega)
            have Y14_62 := Y53.below hg61 (by omega)
            have O53_62 := O53.below hg61 (by omega)
            have hb_62 := below_two hb_54 hg61
            have hz_62 := hg61.size
            clear D0_54 B0_54 B1_54 Y8_54 O9_54 Y9_54 Y10_54 O14_54 O18_54 Y53 O53 hb_54
            clear hg61
            have zz63 := Y10_62.c0
            have zz64 := Y10_62.c1
            have zz65 := Y10_62.c2
            go_wp2_with fail
            clear zz63 zz64 zz65
            refine (heldMem_any _ _ _ _ (memPut d0 ⟨k1, t1⟩ n2) 1 O18_62.mi (by omega) (by omega) (by omega) (by omega)).mono ?_
            rintro e u66 ⟨rfl, hg66⟩
            have D0_67 := D0_62.below hg66 (by omega)
            have B0_67 := B0_62.below hg66 (by omega)
            have B1_67 := B1_62.below hg66 (by omega)
            have Y8_67 := Y8_62.below hg66 (by omega)
            have O9_67 := O9_62.below hg66 (by omega)
            have Y9_67 := Y9_62.below hg66 (by omega)
            have Y10_67 := Y10_62.below hg66 (by omega)
            have O14_67 := O14_62.below hg66 (by omega)
            have O18_67 := O18_62.below hg66 (by omega)
            have Y14_67 := Y14_62.below hg66 (by omega)
            have O53_67 := O53_62.below hg66 (by omega)
            have hb_67 := below_two hb_62 hg66
            have hz_67 := hg66.size
            clear D0_62 B0_62 B1_62 Y8_62 O9_62 Y9_62 Y10_62 O14_62 O18_62 Y14_62 O53_62 hb_62
            clear hg66
            clear D0_67 B0_67 B1_67 Y8_67 O9_67 Y9_67 Y10_67 O14_67 O18_67 Y14_67 O53_67
            go_wp2
            go_ret
            exact ⟨rfl, hb_67⟩
end Go.Proofs.Ytcanljckhjoooaa
