/-
  FnExactMemGet, walked at every argument, given what the program's MemGet answers. (Written by our generator lawgen.py.)
-/
import Derived.Test.YtcanljckhjoooaaMemSpec
import Derived.Test.YtcanljckhjoooaaLawKit
namespace Go.Proofs.Ytcanljckhjoooaa
open Go.ChangeShapes Go.WideShapes Go.ChangeAt Go.RowKit
set_option linter.unusedVariables false

set_option maxHeartbeats 8000000 in
theorem exactMemGet_walk
    (impl : ∀ (w : World) (m0 : Value) (lo0 hi0 : Nat) (d0 : MemD) (k1 t1 : Int), MI w lo0 hi0 m0 d0 → hi0 ≤ w.heap.size → d0.many ≤ 1048576 → Calls Try.prog 24 #[m0, AddrD.val ⟨k1, t1⟩] w fun e w' => e = .returned (.int .i64 (memGet d0 ⟨k1, t1⟩)) ∧ Below w.heap.size w w')
    (w : World) (v0 : Value) (d0 : MemD) (r0 : MI w 0 w.heap.size v0 d0) (k1 t1 : Int) :
    Calls Try.prog 7 #[v0, AddrD.val ⟨k1, t1⟩] w fun e w' => e = .returned (.bool true) ∧ Below w.heap.size w w' := by
  obtain ⟨x0, y0, z0, rfl⟩ := r0.agg
  unfold AddrD.val
  have hb0 := Below.refl w.heap.size w
  by_cases big0 : (1048576 : Int) < d0.many
  · go_enter Try.func7, Try.ntmps7
    go_wp2_with fail
    obtain ⟨u1, hu1, G1, BX0_1, BX1_1, hs1⟩ : ∃ u1, (w.alloc (.cells #[x0, y0, z0] 35)).alloc (.cells #[.int .i64 k1, .int .i64 t1] 23) = u1 ∧ Grow w u1 ∧ Box3 u1 (w.heap.size) (x0) (y0) (z0) ∧ Box2 u1 (w.heap.size + 1) (.int .i64 k1) (.int .i64 t1) ∧ u1.heap.size = w.heap.size + 2 :=
      ⟨_, rfl, ((Below.refl _ _).alloc (Nat.le_refl _) _).alloc (by simp) _, ⟨World.cell?_alloc2_first _ _ _ _, World.cell?_alloc2_first _ _ _ _, World.cell?_alloc2_first _ _ _ _⟩, ⟨World.cell?_alloc2_new _ _ _ _, World.cell?_alloc2_new _ _ _ _⟩, by simp⟩
    rw [hu1]
    clear hu1
    have D0_2 := r0.below G1 (by omega)
    have hb_2 := below_two hb0 G1
    have hz_2 := G1.size
    clear r0 hb0
    clear G1
    refine (szMem_any _ _ _ _ d0 (1048576) D0_2 (by omega) (by omega) (by omega)).mono ?_
    rw [if_pos (by omega)]
    rintro e u3 ⟨rfl, hg3⟩
    have D0_4 := D0_2.below hg3 (by omega)
    have B0_4 := BX0_1.below hg3 (by omega)
    have B1_4 := BX1_1.below hg3 (by omega)
    have hb_4 := below_two hb_2 hg3
    have hz_4 := hg3.size
    clear D0_2 BX0_1 BX1_1 hb_2
    clear hg3
    clear D0_4 B0_4 B1_4
    go_wp2
    go_ret
    exact ⟨rfl, hb_4⟩
  · go_enter Try.func7, Try.ntmps7
    go_wp2_with fail
    obtain ⟨u5, hu5, G5, BX0_5, BX1_5, hs5⟩ : ∃ u5, (w.alloc (.cells #[x0, y0, z0] 35)).alloc (.cells #[.int .i64 k1, .int .i64 t1] 23) = u5 ∧ Grow w u5 ∧ Box3 u5 (w.heap.size) (x0) (y0) (z0) ∧ Box2 u5 (w.heap.size + 1) (.int .i64 k1) (.int .i64 t1) ∧ u5.heap.size = w.heap.size + 2 :=
      ⟨_, rfl, ((Below.refl _ _).alloc (Nat.le_refl _) _).alloc (by simp) _, ⟨World.cell?_alloc2_first _ _ _ _, World.cell?_alloc2_first _ _ _ _, World.cell?_alloc2_first _ _ _ _⟩, ⟨World.cell?_alloc2_new _ _ _ _, World.cell?_alloc2_new _ _ _ _⟩, by simp⟩
    rw [hu5]
    clear hu5
    have D0_6 := r0.below G5 (by omega)
    have hb_6 := below_two hb0 G5
    have hz_6 := G5.size
    clear r0 hb0
    clear G5
    refine (szMem_any _ _ _ _ d0 (1048576) D0_6 (by omega) (by omega) (by omega)).mono ?_
    rw [if_neg (by omega)]
    rintro e u7 ⟨rfl, hg7⟩
    have D0_8 := D0_6.below hg7 (by omega)
    have B0_8 := BX0_5.below hg7 (by omega)
    have B1_8 := BX1_5.below hg7 (by omega)
    have hb_8 := below_two hb_6 hg7
    have hz_8 := hg7.size
    clear D0_6 BX0_5 BX1_5 hb_6
    clear hg7
    have hn0 : d0.many ≤ 1048576 := by omega
    have hleft : (0 : Int) ≤ 1048576 - (d0.many : Int) := by omega
    go_wp2_with fail
    refine wp_region_dag (R := Grow)
      (Φ := fun i v u => match i with
        | 0 => v = .agg #[x0, y0, z0]
        | 1 => ∃ lo' hi', hi' ≤ u.heap.size ∧ MO u lo' hi' v d0
        | 2 => v = .agg #[.int .i64 k1, .int .i64 t1]
        | 3 => v = .agg #[.int .i64 k1, .int .i64 t1]
        | 4 => v = .int .i64 (memGet d0 ⟨k1, t1⟩)
        | 5 => v = .int .i64 (memGet d0 ⟨k1, t1⟩)
        | _ => True) (by kernel_rfl) (by kernel_rfl) (by kernel_rfl) (Below.refl _ _) grow_trans ?_ ?_ ?_
    · intro i v u u' hr
      match i with
      | 0 | 2 | 3 | 4 | 5 | _ + 6 => exact fun h => h
      | 1 => exact fun ⟨lo', hi', h1, h2⟩ => ⟨lo', hi', Nat.le_trans h1 hr.size, h2.below hr h1⟩
    · intro i o ho a' u hf hR0 he K' hK
      have hR : Grow u7 u := (Below.drew (Below.refl _ _)).trans hR0
      have hsz' : a'.tmps.size = 33 := hf.size
      have hus : u7.heap.size ≤ u.heap.size := hR.size
      rcases i with _ | _ | _ | _ | _ | _ | i
      · obtain rfl := Option.some.inj ho
        clear he
        have q1 : a'.tmps.getD 2 undef = .pointer (some ⟨w.heap.size, 0, none⟩) := hf.at_ 2 (by kernel_rfl)
        obtain ⟨c0, c1, c2⟩ := B0_8.below hR (by omega)
        go_simp
        exact hK _ _ (Below.refl _ _) (getD_put_self a' 14 _ (by show _ < a'.tmps.size; omega))
      · obtain rfl := Option.some.inj ho
        have q1 : a'.tmps.getD 14 undef = .agg #[x0, y0, z0] := he _ (Array.mem_of_getElem? (i := 0) rfl) (by kernel_rfl) _ rfl
        clear he
        go_simp
        refine (toMem_any _ _ _ _ d0 (D0_8.below hR (by omega)) (by omega) hn0).mono ?_
        rintro e u' ⟨m', rfl, HO, hbu⟩
        exact hK _ _ hbu ⟨_, _, Nat.le_refl _, by show MO _ _ _ ((a'.put (some 15) m').tmps.getD 15 undef) d0; rw [getD_put_self a' 15 _ (by show _ < a'.tmps.size; omega)]; exact HO⟩
      · obtain rfl := Option.some.inj ho
        clear he
        have q1 : a'.tmps.getD 3 undef = .pointer (some ⟨w.heap.size + 1, 0, none⟩) := hf.at_ 3 (by kernel_rfl)
        obtain ⟨c0, c1⟩ := B1_8.below hR (by omega)
        go_simp
        exact hK _ _ (Below.refl _ _) (getD_put_self a' 16 _ (by show _ < a'.tmps.size; omega))
      · obtain rfl := Option.some.inj ho
        have q1 : a'.tmps.getD 16 undef = .agg #[.int .i64 k1, .int .i64 t1] := he _ (Array.mem_of_getElem? (i := 0) rfl) (by kernel_rfl) _ rfl
        clear he
        go_simp
        refine (toAddr_any _ ⟨k1, t1⟩).mono ?_
        rintro e u' ⟨rfl, hbu⟩
        exact hK _ _ hbu (getD_put_self a' 17 _ (by show _ < a'.tmps.size; omega))
      · obtain rfl := Option.some.inj ho
        obtain ⟨lo15, hi15, hh15, HO15⟩ := he _ (Array.mem_of_getElem? (i := 0) rfl) (by kernel_rfl) _ rfl
        have HO15 : MO u lo15 hi15 (a'.tmps.getD 15 undef) d0 := HO15
        obtain ⟨mm15, em15⟩ : ∃ mm, a'.tmps.getD 15 undef = mm := ⟨_, rfl⟩
        rw [em15] at HO15
        have q17 : a'.tmps.getD 17 undef = .agg #[.int .i64 k1, .int .i64 t1] := he _ (Array.mem_of_getElem? (i := 1) rfl) (by kernel_rfl) _ rfl
        clear he
        go_simp
        refine (sMemGet_any _ lo15 hi15 mm15 d0 ⟨k1, t1⟩ HO15.mi hh15).mono ?_
        rintro e u' ⟨rfl, hbu⟩
        exact hK _ _ hbu (getD_put_self a' 18 _ (by show _ < a'.tmps.size; omega))
      · obtain rfl := Option.some.inj ho
        have q1 : a'.tmps.getD 18 undef = .int .i64 (memGet d0 ⟨k1, t1⟩) := he _ (Array.mem_of_getElem? (i := 0) rfl) (by kernel_rfl) _ rfl
        clear he
        go_simp
        exact hK _ _ (Below.refl _ _) (getD_put_self a' 6 _ (by show _ < a'.tmps.size; omega))
      · exact absurd ho (by simp)
    · intro a' u9 hf hR0 hp
      have hR9 : Grow u7 u9 := (Below.drew (Below.refl _ _)).trans hR0
      have md : a'.defers = [] := hf.defers
      have m6 : a'.tmps.getD 6 undef = .int .i64 (memGet d0 ⟨k1, t1⟩) := hp 5 _ rfl
      have m2 : a'.tmps.getD 2 undef = .pointer (some ⟨w.heap.size, 0, none⟩) := hf.at_ 2 (by kernel_rfl)
      have m3 : a'.tmps.getD 3 undef = .pointer (some ⟨w.heap.size + 1, 0, none⟩) := hf.at_ 3 (by kernel_rfl)
      obtain ⟨f, ea, hfv⟩ := act_lit a' 33 hf.size
      rw [← hfv] at m2 m3 m6
      rw [md] at ea
      simp only [List.range, List.range.loop, List.map_cons, List.map_nil, m2, m3, m6] at ea
      subst ea
      clear hfv hf md hp hR0
      have D0_10 := D0_8.below hR9 (by omega)
      have B0_10 := B0_8.below hR9 (by omega)
      have B1_10 := B1_8.below hR9 (by omega)
      have hb_10 := below_two hb_8 hR9
      have hz_10 := hR9.size
      clear D0_8 B0_8 B1_8 hb_8
      clear hR9
      have zz11 := B0_10.c0
      have zz12 := B0_10.c1
      have zz13 := B0_10.c2
      go_wp2_with fail
      clear zz11 zz12 zz13
      refine (toMem_any _ _ _ _ d0 D0_10 (by omega) hn0).mono ?_
      rintro e u14 ⟨mm, rfl, O14, hg14⟩
      obtain ⟨qa, qb, qc, rfl, k1, k2, k3⟩ := O14.mi
      obtain ⟨paT14, caT14, rfl⟩ := k1.shape
      obtain ⟨pbT14, cbT14, rfl⟩ := k2.shape
      obtain ⟨pcT14, ccT14, rfl⟩ := k3.shape
      clear k1 k2 k3
      have D0_15 := D0_10.below hg14 (by omega)
      have B0_15 := B0_10.below hg14 (by omega)
      have B1_15 := B1_10.below hg14 (by omega)
      have hb_15 := below_two hb_10 hg14
      have hz_15 := hg14.size
      clear D0_10 B0_10 B1_10 hb_10
      clear hg14
      go_wp2_with fail
      obtain ⟨u16, hu16, G16, Y16, hs16⟩ : ∃ u16, u14.alloc (.cells #[.slice paT14 d0.i.length caT14, .slice pbT14 d0.o.length cbT14, .slice pcT14 d0.v.length ccT14] 30) = u16 ∧ Grow u14 u16 ∧ Box3 u16 u14.heap.size (.slice paT14 d0.i.length caT14) (.slice pbT14 d0.o.length cbT14) (.slice pcT14 d0.v.length ccT14) ∧ u16.heap.size = u14.heap.size + 1 :=
        ⟨_, rfl, (Below.refl _ _).alloc (Nat.le_refl _) _, box3_new u14 _ _ _ _, by simp⟩
      rw [hu16]
      clear hu16
      have D0_17 := D0_15.below G16 (by omega)
      have B0_17 := B0_15.below G16 (by omega)
      have B1_17 := B1_15.below G16 (by omega)
      have O14_17 := O14.below G16 (by omega)
      have hb_17 := below_two hb_15 G16
      have hz_17 := G16.size
      clear D0_15 B0_15 B1_15 O14 hb_15
      clear G16
      refine wp_region_dag (R := Grow)
        (Φ := fun i v u => match i with
          | 0 => v = .agg #[.slice paT14 d0.i.length caT14, .slice pbT14 d0.o.length cbT14, .slice pcT14 d0.v.length ccT14]
          | 1 => v = .agg #[.int .i64 k1, .int .i64 t1]
          | 2 => v = .agg #[.int .i64 k1, .int .i64 t1]
          | 3 => v = .int .i64 (memGet d0 ⟨k1, t1⟩)
          | 4 => v = .int .i64 (memGet d0 ⟨k1, t1⟩)
          | _ => True) (by kernel_rfl) (by kernel_rfl) (by kernel_rfl) (Below.refl _ _) grow_trans ?_ ?_ ?_
      · intro i v u u' hr
        match i with
        | 0 | 1 | 2 | 3 | 4 | _ + 5 => exact fun h => h
      · intro i o ho a' u hf hR0 he K' hK
        have hR : Grow u16 u := (Below.drew (Below.refl _ _)).trans hR0
        have hsz' : a'.tmps.size = 33 := hf.size
        have hus : u16.heap.size ≤ u.heap.size := hR.size
        rcases i with _ | _ | _ | _ | _ | i
        · obtain rfl := Option.some.inj ho
          clear he
          have q1 : a'.tmps.getD 7 undef = .pointer (some ⟨u14.heap.size, 0, none⟩) := hf.at_ 7 (by kernel_rfl)
          obtain ⟨c0, c1, c2⟩ := Y16.below hR (by omega)
          go_simp
          exact hK _ _ (Below.refl _ _) (getD_put_self a' 21 _ (by show _ < a'.tmps.size; omega))
        · obtain rfl := Option.some.inj ho
          clear he
          have q1 : a'.tmps.getD 3 undef = .pointer (some ⟨w.heap.size + 1, 0, none⟩) := hf.at_ 3 (by kernel_rfl)
          obtain ⟨c0, c1⟩ := B1_17.below hR (by omega)
          go_simp
          exact hK _ _ (Below.refl _ _) (getD_put_self a' 22 _ (by show _ < a'.tmps.size; omega))
        · obtain rfl := Option.some.inj ho
          have q1 : a'.tmps.getD 22 undef = .agg #[.int .i64 k1, .int .i64 t1] := he _ (Array.mem_of_getElem? (i := 0) rfl) (by kernel_rfl) _ rfl
          clear he
          go_simp
          refine (toAddr_any _ ⟨k1, t1⟩).mono ?_
          rintro e u' ⟨rfl, hbu⟩
          exact hK _ _ hbu (getD_put_self a' 23 _ (by show _ < a'.tmps.size; omega))
        · obtain rfl := Option.some.inj ho
          have q21 : a'.tmps.getD 21 undef = .agg #[.slice paT14 d0.i.length caT14, .slice pbT14 d0.o.length cbT14, .slice pcT14 d0.v.length ccT14] := he _ (Array.mem_of_getElem? (i := 0) rfl) (by kernel_rfl) _ rfl
          have q23 : a'.tmps.getD 23 undef = .agg #[.int .i64 k1, .int .i64 t1] := he _ (Array.mem_of_getElem? (i := 1) rfl) (by kernel_rfl) _ rfl
          clear he
          go_simp
          refine (impl _ _ _ _ d0 k1 t1 (O14_17.mi.below hR (by omega)) (by omega) hn0).mono ?_
          rintro e u' ⟨rfl, hbu⟩
          exact hK _ _ hbu (getD_put_self a' 24 _ (by show _ < a'.tmps.size; omega))
        · obtain rfl := Option.some.inj ho
          have q1 : a'.tmps.getD 24 undef = .int .i64 (memGet d0 ⟨k1, t1⟩) := he _ (Array.mem_of_getElem? (i := 0) rfl) (by kernel_rfl) _ rfl
          clear he
          go_simp
          exact hK _ _ (Below.refl _ _) (getD_put_self a' 8 _ (by show _ < a'.tmps.size; omega))
        · exact absurd ho (by simp)
      · intro a' u18 hf hR0 hp
        have hR18 : Grow u16 u18 := (Below.drew (Below.refl _ _)).trans hR0
        have md : a'.defers = [] := hf.defers
        have m8 : a'.tmps.getD 8 undef = .int .i64 (memGet d0 ⟨k1, t1⟩) := hp 4 _ rfl
        have m2 : a'.tmps.getD 2 undef = .pointer (some ⟨w.heap.size, 0, none⟩) := hf.at_ 2 (by kernel_rfl)
        have m6 : a'.tmps.getD 6 undef = .int .i64 (memGet d0 ⟨k1, t1⟩) := hf.at_ 6 (by kernel_rfl)
        have m7 : a'.tmps.getD 7 undef = .pointer (some ⟨u14.heap.size, 0, none⟩) := hf.at_ 7 (by kernel_rfl)
        obtain ⟨f, ea, hfv⟩ := act_lit a' 33 hf.size
        rw [← hfv] at m2 m6 m7 m8
        rw [md] at ea
        simp only [List.range, List.range.loop, List.map_cons, List.map_nil, m2, m6, m7, m8] at ea
        subst ea
        clear hfv hf md hp hR0
        have D0_19 := D0_17.below hR18 (by omega)
        have B0_19 := B0_17.below hR18 (by omega)
        have B1_19 := B1_17.below hR18 (by omega)
        have O14_19 := O14_17.below hR18 (by omega)
        have Y7_19 := Y16.below hR18 (by omega)
        have hb_19 := below_two hb_17 hR18
        have hz_19 := hR18.size
        clear D0_17 B0_17 B1_17 O14_17 Y16 hb_17
        clear hR18
        go_wp2_with fail
        refine wp_region_dag (R := Grow)
          (Φ := fun i v u => match i with
            | 0 => v = .agg #[.slice paT14 d0.i.length caT14, .slice pbT14 d0.o.length cbT14, .slice pcT14 d0.v.length ccT14]
            | 1 => v = .agg #[x0, y0, z0]
            | 2 => ∃ lo' hi', hi' ≤ u.heap.size ∧ MO u lo' hi' v d0
            | 3 => v = .bool true
            | 4 => v = .bool false
            | _ => True) (by kernel_rfl) (by kernel_rfl) (by kernel_rfl) (Below.refl _ _) grow_trans ?_ ?_ ?_
        · intro i v u u' hr
          match i with
          | 0 | 1 | 3 | 4 | _ + 5 => exact fun h => h
          | 2 => exact fun ⟨lo', hi', h1, h2⟩ => ⟨lo', hi', Nat.le_trans h1 hr.size, h2.below hr h1⟩
        · intro i o ho a' u hf hR0 he K' hK
          have hR : Grow u18 u := (Below.drew (Below.refl _ _)).trans hR0
          have hsz' : a'.tmps.size = 33 := hf.size
          have hus : u18.heap.size ≤ u.heap.size := hR.size
          rcases i with _ | _ | _ | _ | _ | i
          · obtain rfl := Option.some.inj ho
            clear he
            have q1 : a'.tmps.getD 7 undef = .pointer (some ⟨u14.heap.size, 0, none⟩) := hf.at_ 7 (by kernel_rfl)
            obtain ⟨c0, c1, c2⟩ := Y7_19.below hR (by omega)
            go_simp
            exact hK _ _ (Below.refl _ _) (getD_put_self a' 28 _ (by show _ < a'.tmps.size; omega))
          · obtain rfl := Option.some.inj ho
            clear he
            have q1 : a'.tmps.getD 2 undef = .pointer (some ⟨w.heap.size, 0, none⟩) := hf.at_ 2 (by kernel_rfl)
            obtain ⟨c0, c1, c2⟩ := B0_19.below hR (by omega)
            go_simp
            exact hK _ _ (Below.refl _ _) (getD_put_self a' 29 _ (by show _ < a'.tmps.size; omega))
          · obtain rfl := Option.some.inj ho
            have q1 : a'.tmps.getD 29 undef = .agg #[x0, y0, z0] := he _ (Array.mem_of_getElem? (i := 0) rfl) (by kernel_rfl) _ rfl
            clear he
            go_simp
            refine (toMem_any _ _ _ _ d0 (D0_19.below hR (by omega)) (by omega) hn0).mono ?_
            rintro e u' ⟨m', rfl, HO, hbu⟩
            exact hK _ _ hbu ⟨_, _, Nat.le_refl _, by show MO _ _ _ ((a'.put (some 30) m').tmps.getD 30 undef) d0; rw [getD_put_self a' 30 _ (by show _ < a'.tmps.size; omega)]; exact HO⟩
          · obtain rfl := Option.some.inj ho
            have q28 : a'.tmps.getD 28 undef = .agg #[.slice paT14 d0.i.length caT14, .slice pbT14 d0.o.length cbT14, .slice pcT14 d0.v.length ccT14] := he _ (Array.mem_of_getElem? (i := 0) rfl) (by kernel_rfl) _ rfl
            obtain ⟨lo30, hi30, hh30, HO30⟩ := he _ (Array.mem_of_getElem? (i := 1) rfl) (by kernel_rfl) _ rfl
            have HO30 : MO u lo30 hi30 (a'.tmps.getD 30 undef) d0 := HO30
            obtain ⟨mm30, em30⟩ : ∃ mm, a'.tmps.getD 30 undef = mm := ⟨_, rfl⟩
            rw [em30] at HO30
            clear he
            go_simp
            refine (eqMem_any _ _ _ _ _ _ _ d0 d0 (O14_19.mi.below hR (by omega)) HO30.mi (by omega) hh30).mono ?_
            rw [decide_eq_true rfl]
            rintro e u' ⟨rfl, hbu⟩
            exact hK _ _ hbu (getD_put_self a' 31 _ (by show _ < a'.tmps.size; omega))
          · obtain rfl := Option.some.inj ho
            have q1 : a'.tmps.getD 31 undef = .bool true := he _ (Array.mem_of_getElem? (i := 0) rfl) (by kernel_rfl) _ rfl
            clear he
            go_simp
            exact hK _ _ (Below.refl _ _) (getD_put_self a' 32 _ (by show _ < a'.tmps.size; omega))
          · exact absurd ho (by simp)
        · intro a' u20 hf hR0 hp
          have hR20 : Grow u18 u20 := (Below.drew (Below.refl _ _)).trans hR0
          have md : a'.defers = [] := hf.defers
          have m32 : a'.tmps.getD 32 undef = .bool false := hp 4 _ rfl
          obtain ⟨f, ea, hfv⟩ := act_lit a' 33 hf.size
          rw [← hfv] at m32
          rw [md] at ea
          simp only [List.range, List.range.loop, List.map_cons, List.map_nil, m32] at ea
          subst ea
          clear hfv hf md hp hR0
          have D0_21 := D0_19.below hR20 (by omega)
          have B0_21 := B0_19.below hR20 (by omega)
          have B1_21 := B1_19.below hR20 (by omega)
          have O14_21 := O14_19.below hR20 (by omega)
          have Y7_21 := Y7_19.below hR20 (by omega)
          have hb_21 := below_two hb_19 hR20
          have hz_21 := hR20.size
          clear D0_19 B0_19 B1_19 O14_19 Y7_19 hb_19
          clear hR20
          clear D0_21 B0_21 B1_21 O14_21 Y7_21
          go_wp2
          go_ret
          exact ⟨rfl, hb_21⟩
end Go.Proofs.Ytcanljckhjoooaa
