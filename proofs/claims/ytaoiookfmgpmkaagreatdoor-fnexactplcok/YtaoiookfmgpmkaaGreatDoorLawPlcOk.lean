/-
  FnExactPlcOk, walked at every argument, given what the program's PlcOk answers. (Written by our generator exactgen.py.)
-/
import Derived.Test.YtaoiookfmgpmkaaGreatDoorLawKitP
import Derived.Test.YtaoiookfmgpmkaaGreatDoorPlcOkS
import Derived.Test.YtaoiookfmgpmkaaGreatDoorNetImplD
namespace Go.Proofs.YtaoiookfmgpmkaaGreatDoor
open Go.ChangeShapes Go.WideShapes Go.ChangeAt Go.RowKit
set_option linter.unusedVariables false

set_option maxRecDepth 100000 in
set_option maxHeartbeats 8000000 in
theorem exactPlcOk_walk
    (impl : ∀ (w : World) (_ : FormsAt w) (m0 : Value) (lo0 hi0 : Nat) (d0 : PlcD), PI w lo0 hi0 m0 d0 → hi0 ≤ w.heap.size → d0.many ≤ 1048576 → Calls Tryz.prog 28 #[m0] w fun e w' => e = .returned (.bool (plcOk d0)) ∧ Below w.heap.size w w')
    (w : World) (hTab : FormsAt w) (v0 : Value) (d0 : PlcD) (r0 : PI w 0 w.heap.size v0 d0) :
    Calls Tryz.prog 4 #[v0] w fun e w' => e = .returned (.bool true) ∧ Below w.heap.size w w' := by
  obtain ⟨csA0, hlA0, rfl⟩ := r0.opq
  have R0 : Hid (PI w 0 w.heap.size (.agg csA0.toArray) d0) := r0
  clear r0
  go_enter Tryz.func4, Tryz.ntmps4
  go_wp2_with (refine wpList_boxG (vs := csA0) rfl _ rfl rfl ?_)
  intro w0 gw0 P0 sw0
  have hb := gw0
  clear gw0
  go_wp2_with (first
    | refine wpList_loadG Tryz.isAgg73 Tryz.sizeOf73 (vs := csA0) _ rfl rfl rfl hlA0 P0.c ?_)
  refine (szPlc_any _ _ _ _ d0 (1048576) (R0.out.below hb (Nat.le_refl _)) (by omega) (by omega) (by omega)).mono ?_
  by_cases big0 : (1048576 : Int) < (d0.many : Int)
  · rw [if_pos big0]
    rintro e1 q1 ⟨rfl, g1⟩
    have hbq := hb.trans (g1.mono (by omega))
    clear g1 P0
    go_wp2
    go_ret
    exact ⟨rfl, hbq⟩
  rw [if_neg big0]
  rintro e1 u1 ⟨rfl, g1⟩
  have P0_2 := P0.below g1 (by omega)
  have hb_2 := hb.trans (g1.mono (by omega))
  have sz_2 := g1.size
  clear P0 hb g1
  have np0 : ¬ ((1048576 - (d0.many : Int) : Int) < 0) := by omega
  have nb0 : d0.many ≤ 1048576 := by omega
  go_wp2_with (first
    | refine wpList_loadG Tryz.isAgg73 Tryz.sizeOf73 (vs := csA0) _ rfl rfl rfl hlA0 P0_2.c ?_)
  refine (toPlc_any _ _ _ _ d0 (R0.out.below hb_2 (Nat.le_refl _)) (by omega) nb0).mono ?_
  rintro e1 u3 ⟨m', rfl, O3, g3⟩
  obtain ⟨csT3, hlT3, rfl⟩ := O3.r.opq
  have P0_4 := P0_2.below g3 (by omega)
  have hb_4 := hb_2.trans (g3.mono (by omega))
  have sz_4 := g3.size
  clear P0_2 hb_2 g3
  go_wp2_with fail
  refine (sPlcOk_any _ _ _ _ d0 O3.r (by omega) nb0).mono ?_
  rintro e1 u5 ⟨rfl, g5⟩
  have P0_6 := P0_4.below g5 (by omega)
  have O3_6 := O3.below g5 (by omega)
  have hb_6 := hb_4.trans (g5.mono (by omega))
  have sz_6 := g5.size
  clear P0_4 O3 hb_4 g5
  go_wp2_with (first
    | refine wpList_loadG Tryz.isAgg73 Tryz.sizeOf73 (vs := csA0) _ rfl rfl rfl hlA0 P0_6.c ?_)
  refine (toPlc_any _ _ _ _ d0 (R0.out.below hb_6 (Nat.le_refl _)) (by omega) nb0).mono ?_
  rintro e1 u7 ⟨m', rfl, O7, g7⟩
  obtain ⟨csT7, hlT7, rfl⟩ := O7.r.opq
  have P0_8 := P0_6.below g7 (by omega)
  have O3_8 := O3_6.below g7 (by omega)
  have hb_8 := hb_6.trans (g7.mono (by omega))
  have sz_8 := g7.size
  clear P0_6 O3_6 hb_6 g7
  have hone9 := pi_one (vs := csT7) O7.r
  go_wp2_with (refine wpList_allocG (zero_of_info (P := Tryz.prog) zero_plcT).1 rfl rfl ?_)
  intro a9 ga9 va9 sa9
  have hrun9 := va9.run 0 15 (show 0 + 15 ≤ 15 by decide)
  go_wp2_with (refine wpList_storeG Tryz.sizeOf53 (vs := csT7) _ _ rfl rfl rfl rfl hlT7 hone9 (fun y h1 h2 => hrun9.1 y h1 (by omega)) (fun y h1 h2 => hrun9.2 y h1 (by omega)) ?_)
  intro u9 L9
  have Y9 := L9.var va9
  have g9 : Below u7.heap.size u7 u9 := L9.below _ _ (Nat.le_refl _) ga9
  have sz9 : u9.heap.size = u7.heap.size + 1 := by rw [L9.size]; exact sa9
  clear hone9 hrun9 va9 ga9 sa9 L9
  have P0_10 := P0_8.below g9 (by omega)
  have O3_10 := O3_8.below g9 (by omega)
  have O7_10 := O7.below g9 (by omega)
  have hb_10 := hb_8.trans (g9.mono (by omega))
  have sz_10 := g9.size
  clear P0_8 O3_8 O7 hb_8 g9
  go_wp2_with (first
    | refine wpList_loadG Tryz.isAgg53 Tryz.sizeOf53 (vs := csT7) _ rfl rfl rfl hlT7 Y9.c ?_)
  refine (impl _ (hTab.grow hb_10) _ _ _ d0 O7_10.r (by omega) nb0).mono ?_
  rintro e1 u11 ⟨rfl, g11⟩
  have P0_12 := P0_10.below g11 (by omega)
  have O3_12 := O3_10.below g11 (by omega)
  have O7_12 := O7_10.below g11 (by omega)
  have X0_12 := Y9.below g11 (by omega)
  have hb_12 := hb_10.trans (g11.mono (by omega))
  have sz_12 := g11.size
  clear P0_10 O3_10 O7_10 Y9 hb_10 g11
  go_wp2_with fail
  refine wp_region_dag (R := Grow) (Φ := fun i v u => match i with
      | 0 => v = .agg csT7.toArray
      | 1 => v = .agg csA0.toArray
      | 2 => ∃ lo' hi', hi' ≤ u.heap.size ∧ PO u lo' hi' v d0
      | 3 => v = .bool true
      | 4 => v = .bool false
      | _ => True) (by kernel_rfl) (by kernel_rfl) (by kernel_rfl) (Below.refl _ _) grow_trans ?_ ?_ ?_
  · intro i v u u' hr
    match i with
    | 0 | 1 | 3 | 4 | _ + 5 => exact fun h => h
    | 2 => exact fun ⟨lo', hi', h1, h2⟩ => ⟨lo', hi', Nat.le_trans h1 hr.size, h2.below hr h1⟩
  · intro i o ho a u hf hR0 he K' hK
    have hR : Grow u11 u := (Below.drew (Below.refl _ _)).trans hR0
    have hRw : Below w.heap.size w u := hb_12.trans (hR.mono (by omega))
    have hsz' : a.tmps.size = 27 := hf.size
    have hus : u11.heap.size ≤ u.heap.size := hR.size
    rcases i with _ | _ | _ | _ | _ | i
    · obtain rfl := Option.some.inj ho
      clear he
      have q1 : a.tmps.getD 5 undef = .pointer (some ⟨u7.heap.size, 0, none⟩) := hf.at_ 5 (by kernel_rfl)
      refine wantedG rfl (wp_loadG Tryz.isAgg53 Tryz.sizeOf53 (vs := csT7) _ rfl q1 hlT7 ((X0_12.below hR (by omega)).c) ?_)
      exact hK _ _ (Below.refl _ _) (getD_put_self a 22 _ (by show _ < a.tmps.size; omega))
    · obtain rfl := Option.some.inj ho
      clear he
      have q1 : a.tmps.getD 1 undef = .pointer (some ⟨w.heap.size, 0, none⟩) := hf.at_ 1 (by kernel_rfl)
      refine wantedG rfl (wp_loadG Tryz.isAgg73 Tryz.sizeOf73 (vs := csA0) _ rfl q1 hlA0 ((P0_12.below hR (by omega)).c) ?_)
      exact hK _ _ (Below.refl _ _) (getD_put_self a 23 _ (by show _ < a.tmps.size; omega))
    · obtain rfl := Option.some.inj ho
      have q1 : a.tmps.getD 23 undef = .agg csA0.toArray := he _ (Array.mem_of_getElem? (i := 0) rfl) (by kernel_rfl) _ rfl
      clear he
      go_simp
      refine (toPlc_any _ _ _ _ d0 (R0.out.below hRw (Nat.le_refl _)) (by omega) nb0).mono ?_
      rintro e1 u' ⟨m', rfl, HO, hbu⟩
      exact hK _ _ hbu ⟨_, _, Nat.le_refl _, by show PO _ _ _ ((a.put (some 24) m').tmps.getD 24 undef) d0; rw [getD_put_self a 24 _ (by show _ < a.tmps.size; omega)]; exact HO⟩
    · obtain rfl := Option.some.inj ho
      have q22 : a.tmps.getD 22 undef = .agg csT7.toArray := he _ (Array.mem_of_getElem? (i := 0) rfl) (by kernel_rfl) _ rfl
      obtain ⟨lo24, hi24, hh24, HO24⟩ := he _ (Array.mem_of_getElem? (i := 1) rfl) (by kernel_rfl) _ rfl
      have HO24 : PO u lo24 hi24 (a.tmps.getD 24 undef) d0 := HO24
      obtain ⟨mm24, em24⟩ : ∃ mm, a.tmps.getD 24 undef = mm := ⟨_, rfl⟩
      rw [em24] at HO24
      clear he
      go_simp
      refine (eqPlc_same _ _ _ _ _ _ _ d0 (O7_12.below hR (by omega)).r HO24.r (by omega) hh24).mono ?_
      rintro e1 u' ⟨rfl, hbu⟩
      exact hK _ _ hbu (getD_put_self a 25 _ (by show _ < a.tmps.size; omega))
    · obtain rfl := Option.some.inj ho
      have q1 : a.tmps.getD 25 undef = .bool true := he _ (Array.mem_of_getElem? (i := 0) rfl) (by kernel_rfl) _ rfl
      clear he
      go_simp
      exact hK _ _ (Below.refl _ _) (getD_put_self a 26 _ (by show _ < a.tmps.size; omega))
    · exact absurd ho (by simp)
  · intro a u13 hf hR0 hp
    have g13 : Grow u11 u13 := (Below.drew (Below.refl _ _)).trans hR0
    have md : a.defers = [] := hf.defers
    have m26 : a.tmps.getD 26 undef = .bool false := hp 4 _ rfl
    obtain ⟨f, ea, hfv⟩ := act_lit a 27 hf.size
    rw [← hfv] at m26
    rw [md] at ea
    simp only [List.range, List.range.loop, List.map_cons, List.map_nil, m26] at ea
    subst ea
    clear hfv hf md hp hR0
    have P0_14 := P0_12.below g13 (by omega)
    have O3_14 := O3_12.below g13 (by omega)
    have O7_14 := O7_12.below g13 (by omega)
    have X0_14 := X0_12.below g13 (by omega)
    have hb_14 := hb_12.trans (g13.mono (by omega))
    have sz_14 := g13.size
    clear P0_12 O3_12 O7_12 X0_12 hb_12 g13
    clear P0_14 O3_14 O7_14 X0_14
    go_wp2
    go_ret
    exact ⟨rfl, hb_14⟩
end Go.Proofs.YtaoiookfmgpmkaaGreatDoor
