/-
  FnExactNetOk, walked at every argument, given what the program's NetOk answers. (Written by our generator exactgen.py.)
-/
import Derived.Test.YtgidhnjkcebabaaDoorLawKitN
import Derived.Test.YtgidhnjkcebabaaDoorNetSpec
import Derived.Test.YtgidhnjkcebabaaDoorNetImplD
namespace Go.Proofs.YtgidhnjkcebabaaDoor
open Go.ChangeShapes Go.WideShapes Go.ChangeAt Go.RowKit
set_option linter.unusedVariables false

set_option maxRecDepth 100000 in
set_option maxHeartbeats 8000000 in
theorem exactNetOk_walk
    (impl : ∀ (w : World) (_ : FormsAt w) (m0 : Value) (lo0 hi0 : Nat) (d0 : NetD), NI w lo0 hi0 m0 d0 → hi0 ≤ w.heap.size → d0.many ≤ 1048576 → Calls Tryd.prog 19 #[m0] w fun e w' => e = .returned (.bool (netOk d0)) ∧ Below w.heap.size w w')
    (w : World) (hTab : FormsAt w) (v0 : Value) (d0 : NetD) (r0 : NI w 0 w.heap.size v0 d0) :
    Calls Tryd.prog 5 #[v0] w fun e w' => e = .returned (.bool true) ∧ Below w.heap.size w w' := by
  obtain ⟨paA0, caA0, pbA0, cbA0, rfl⟩ := r0.shape
  have R0 : Hid (NI w 0 w.heap.size (.agg #[.slice paA0 d0.ws.length caA0, .slice pbA0 d0.ds.length cbA0]) d0) := r0
  clear r0
  go_enter Tryd.func5, Tryd.ntmps5
  go_wp2_with fail
  obtain ⟨w0, ew0⟩ : ∃ w0, w.alloc (.cells #[.slice paA0 d0.ws.length caA0, .slice pbA0 d0.ds.length cbA0] 48) = w0 := ⟨_, rfl⟩
  have sw0 : w0.heap.size = w.heap.size + 1 := by rw [← ew0]; simp
  have gw0 : Below w.heap.size w w0 := by rw [← ew0]; exact (Below.refl _ _).alloc (Nat.le_refl _) _
  have P0 := bxp_new w (.slice paA0 d0.ws.length caA0) (.slice pbA0 d0.ds.length cbA0) 48
  rw [ew0] at P0 ⊢
  clear ew0
  have hb := gw0
  clear gw0
  refine (szNet_any _ _ _ _ d0 (1048576) (R0.out.below hb (Nat.le_refl _)) (by omega) (by omega) (by omega)).mono ?_
  by_cases big0 : (1048576 : Int) < (d0.many : Int)
  · rw [if_pos big0]
    rintro e1 q1 ⟨rfl, g1⟩
    have hbq := hb.trans (g1.mono (by omega))
    clear g1 P0
    go_wp2
    go_ret
    exact ⟨rfl, hbq⟩
  rw [if_neg big0]
  rintro e1 u1 ⟨rfl, g1⟩
  have P0_2 := P0.below g1 (by omega)
  have hb_2 := hb.trans (g1.mono (by omega))
  have sz_2 := g1.size
  clear P0 hb g1
  have np0 : ¬ ((1048576 - (d0.many : Int) : Int) < 0) := by omega
  have nb0 : d0.many ≤ 1048576 := by omega
  obtain ⟨z3, z4⟩ := id P0_2
  go_wp2_with fail
  clear z3 z4
  refine (toNet_any _ _ _ _ d0 (R0.out.below hb_2 (Nat.le_refl _)) (by omega) nb0).mono ?_
  rintro e1 u5 ⟨m', rfl, O5, g5⟩
  obtain ⟨paT5, caT5, pbT5, cbT5, rfl⟩ := O5.ni.shape
  have P0_6 := P0_2.below g5 (by omega)
  have hb_6 := hb_2.trans (g5.mono (by omega))
  have sz_6 := g5.size
  clear P0_2 hb_2 g5
  go_wp2_with fail
  refine (sNetOk_any _ _ _ _ d0 O5.ni (by omega)).mono ?_
  rintro e1 u7 ⟨rfl, g7⟩
  have P0_8 := P0_6.below g7 (by omega)
  have O5_8 := O5.below g7 (by omega)
  have hb_8 := hb_6.trans (g7.mono (by omega))
  have sz_8 := g7.size
  clear P0_6 O5 hb_6 g7
  obtain ⟨z9, z10⟩ := id P0_8
  go_wp2_with fail
  clear z9 z10
  refine (toNet_any _ _ _ _ d0 (R0.out.below hb_8 (Nat.le_refl _)) (by omega) nb0).mono ?_
  rintro e1 u11 ⟨m', rfl, O11, g11⟩
  obtain ⟨paT11, caT11, pbT11, cbT11, rfl⟩ := O11.ni.shape
  have P0_12 := P0_8.below g11 (by omega)
  have O5_12 := O5_8.below g11 (by omega)
  have hb_12 := hb_8.trans (g11.mono (by omega))
  have sz_12 := g11.size
  clear P0_8 O5_8 hb_8 g11
  go_wp2_with fail
  obtain ⟨u13, hu13, g13, Y13, s13⟩ : ∃ u13, u11.alloc (.cells #[.slice paT11 d0.ws.length caT11, .slice pbT11 d0.ds.length cbT11] 26) = u13 ∧ Below u11.heap.size u11 u13 ∧ BxP u13 u11.heap.size (.slice paT11 d0.ws.length caT11) (.slice pbT11 d0.ds.length cbT11) ∧ u13.heap.size = u11.heap.size + 1 :=
    ⟨_, rfl, (Below.refl _ _).alloc (Nat.le_refl _) _, bxp_new _ _ _ _, by simp⟩
  rw [hu13]
  clear hu13
  have P0_14 := P0_12.below g13 (by omega)
  have O5_14 := O5_12.below g13 (by omega)
  have O11_14 := O11.below g13 (by omega)
  have hb_14 := hb_12.trans (g13.mono (by omega))
  have sz_14 := g13.size
  clear P0_12 O5_12 O11 hb_12 g13
  refine (impl _ (hTab.grow hb_14) _ _ _ d0 O11_14.ni (by omega) nb0).mono ?_
  rintro e1 u15 ⟨rfl, g15⟩
  have P0_16 := P0_14.below g15 (by omega)
  have O5_16 := O5_14.below g15 (by omega)
  have O11_16 := O11_14.below g15 (by omega)
  have X0_16 := Y13.below g15 (by omega)
  have hb_16 := hb_14.trans (g15.mono (by omega))
  have sz_16 := g15.size
  clear P0_14 O5_14 O11_14 Y13 hb_14 g15
  go_wp2_with fail
  refine wp_region_dag (R := Grow) (Φ := fun i v u => match i with
      | 0 => v = .agg #[.slice paT11 d0.ws.length caT11, .slice pbT11 d0.ds.length cbT11]
      | 1 => v = .agg #[.slice paA0 d0.ws.length caA0, .slice pbA0 d0.ds.length cbA0]
      | 2 => ∃ lo' hi', hi' ≤ u.heap.size ∧ NOw u lo' hi' v d0
      | 3 => v = .bool true
      | 4 => v = .bool false
      | _ => True) (by kernel_rfl) (by kernel_rfl) (by kernel_rfl) (Below.refl _ _) grow_trans ?_ ?_ ?_
  · intro i v u u' hr
    match i with
    | 0 | 1 | 3 | 4 | _ + 5 => exact fun h => h
    | 2 => exact fun ⟨lo', hi', h1, h2⟩ => ⟨lo', hi', Nat.le_trans h1 hr.size, h2.below hr h1⟩
  · intro i o ho a u hf hR0 he K' hK
    have hR : Grow u15 u := (Below.drew (Below.refl _ _)).trans hR0
    have hRw : Below w.heap.size w u := hb_16.trans (hR.mono (by omega))
    have hsz' : a.tmps.size = 27 := hf.size
    have hus : u15.heap.size ≤ u.heap.size := hR.size
    rcases i with _ | _ | _ | _ | _ | i
    · obtain rfl := Option.some.inj ho
      clear he
      have q1 : a.tmps.getD 5 undef = .pointer (some ⟨u11.heap.size, 0, none⟩) := hf.at_ 5 (by kernel_rfl)
      obtain ⟨c0, c1⟩ := X0_16.below hR (by omega)
      go_simp
      exact hK _ _ (Below.refl _ _) (getD_put_self a 22 _ (by show _ < a.tmps.size; omega))
    · obtain rfl := Option.some.inj ho
      clear he
      have q1 : a.tmps.getD 1 undef = .pointer (some ⟨w.heap.size, 0, none⟩) := hf.at_ 1 (by kernel_rfl)
      obtain ⟨c0, c1⟩ := P0_16.below hR (by omega)
      go_simp
      exact hK _ _ (Below.refl _ _) (getD_put_self a 23 _ (by show _ < a.tmps.size; omega))
    · obtain rfl := Option.some.inj ho
      have q1 : a.tmps.getD 23 undef = .agg #[.slice paA0 d0.ws.length caA0, .slice pbA0 d0.ds.length cbA0] := he _ (Array.mem_of_getElem? (i := 0) rfl) (by kernel_rfl) _ rfl
      clear he
      go_simp
      refine (toNet_any _ _ _ _ d0 (R0.out.below hRw (Nat.le_refl _)) (by omega) nb0).mono ?_
      rintro e1 u' ⟨m', rfl, HO, hbu⟩
      exact hK _ _ hbu ⟨_, _, Nat.le_refl _, by show NOw _ _ _ ((a.put (some 24) m').tmps.getD 24 undef) d0; rw [getD_put_self a 24 _ (by show _ < a.tmps.size; omega)]; exact HO⟩
    · obtain rfl := Option.some.inj ho
      have q22 : a.tmps.getD 22 undef = .agg #[.slice paT11 d0.ws.length caT11, .slice pbT11 d0.ds.length cbT11] := he _ (Array.mem_of_getElem? (i := 0) rfl) (by kernel_rfl) _ rfl
      obtain ⟨lo24, hi24, hh24, HO24⟩ := he _ (Array.mem_of_getElem? (i := 1) rfl) (by kernel_rfl) _ rfl
      have HO24 : NOw u lo24 hi24 (a.tmps.getD 24 undef) d0 := HO24
      obtain ⟨mm24, em24⟩ : ∃ mm, a.tmps.getD 24 undef = mm := ⟨_, rfl⟩
      rw [em24] at HO24
      clear he
      go_simp
      refine (eqNet_same _ _ _ _ _ _ _ d0 (O11_16.below hR (by omega)).ni HO24.ni (by omega) hh24).mono ?_
      rintro e1 u' ⟨rfl, hbu⟩
      exact hK _ _ hbu (getD_put_self a 25 _ (by show _ < a.tmps.size; omega))
    · obtain rfl := Option.some.inj ho
      have q1 : a.tmps.getD 25 undef = .bool true := he _ (Array.mem_of_getElem? (i := 0) rfl) (by kernel_rfl) _ rfl
      clear he
      go_simp
      exact hK _ _ (Below.refl _ _) (getD_put_self a 26 _ (by show _ < a.tmps.size; omega))
    · exact absurd ho (by simp)
  · intro a u17 hf hR0 hp
    have g17 : Grow u15 u17 := (Below.drew (Below.refl _ _)).trans hR0
    have md : a.defers = [] := hf.defers
    have m26 : a.tmps.getD 26 undef = .bool false := hp 4 _ rfl
    obtain ⟨f, ea, hfv⟩ := act_lit a 27 hf.size
    rw [← hfv] at m26
    rw [md] at ea
    simp only [List.range, List.range.loop, List.map_cons, List.map_nil, m26] at ea
    subst ea
    clear hfv hf md hp hR0
    have P0_18 := P0_16.below g17 (by omega)
    have O5_18 := O5_16.below g17 (by omega)
    have O11_18 := O11_16.below g17 (by omega)
    have X0_18 := X0_16.below g17 (by omega)
    have hb_18 := hb_16.trans (g17.mono (by omega))
    have sz_18 := g17.size
    clear P0_16 O5_16 O11_16 X0_16 hb_16 g17
    clear P0_18 O5_18 O11_18 X0_18
    go_wp2
    go_ret
    exact ⟨rfl, hb_18⟩
end Go.Proofs.YtgidhnjkcebabaaDoor
