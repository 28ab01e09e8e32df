/-
  FnExactExprMany, walked at every argument, given what the program's ExprMany answers. (Written by our generator exactgen.py.)
-/
import Derived.Test.YtdhmioelmcdflaaLawKit2
import Derived.Test.YtdhmioelmcdflaaExprSpec2
namespace Go.Proofs.Ytdhmioelmcdflaa
open Go.ChangeShapes Go.WideShapes Go.ChangeAt Go.RowKit
set_option linter.unusedVariables false

set_option maxRecDepth 100000 in
set_option maxHeartbeats 8000000 in
theorem exactExprMany_walk
    (impl : ∀ (w : World) (m0 : Value) (lo0 hi0 : Nat) (d0 : ExprD), ER w lo0 hi0 m0 d0 → hi0 ≤ w.heap.size → manyL d0.kids ≤ 1048576 → Calls Try.prog 29 #[m0] w fun e w' => e = .returned (.int .i64 ((exprMany d0 : Int))) ∧ Below w.heap.size w w')
    (w : World) (v0 : Value) (d0 : ExprD) (r0 : ER w 0 w.heap.size v0 d0) :
    Calls Try.prog 7 #[v0] w fun e w' => e = .returned (.bool true) ∧ Below w.heap.size w w' := by
  obtain ⟨paA0, caA0, rfl⟩ := r0.shape
  have R0 : Hid (ER w 0 w.heap.size (.agg #[.int .i64 d0.k, .int .i64 d0.n, .int .i64 d0.ak, .int .i64 d0.at_, .slice paA0 d0.kids.length caA0]) d0) := r0
  clear r0
  go_enter Try.func7, Try.ntmps7
  go_wp2_with fail
  obtain ⟨w0, ew0⟩ : ∃ w0, w.alloc (.cells #[.int .i64 d0.k, .int .i64 d0.n, .int .i64 d0.ak, .int .i64 d0.at_, .slice paA0 d0.kids.length caA0] 46) = w0 := ⟨_, rfl⟩
  have sw0 : w0.heap.size = w.heap.size + 1 := by rw [← ew0]; simp
  have gw0 : Below w.heap.size w w0 := by rw [← ew0]; exact (Below.refl _ _).alloc (Nat.le_refl _) _
  have P0 := box5_new w (.int .i64 d0.k) (.int .i64 d0.n) (.int .i64 d0.ak) (.int .i64 d0.at_) (.slice paA0 d0.kids.length caA0) 46
  rw [ew0] at P0 ⊢
  clear ew0
  have hb := gw0
  clear gw0
  refine (szExpr_any _ _ _ _ d0 (1048576) (R0.out.below hb (Nat.le_refl _)) (by omega) (by omega) (by omega)).mono ?_
  by_cases big0 : (1048576 : Int) < (manyL d0.kids : Int)
  · rw [if_pos big0]
    rintro e1 q1 ⟨rfl, g1⟩
    have hbq := hb.trans (g1.mono (by omega))
    clear g1 P0
    go_wp2
    go_ret
    exact ⟨rfl, hbq⟩
  rw [if_neg big0]
  rintro e1 u1 ⟨rfl, g1⟩
  have P0_2 := P0.below g1 (by omega)
  have hb_2 := hb.trans (g1.mono (by omega))
  have sz_2 := g1.size
  clear P0 hb g1
  have np0 : ¬ ((1048576 - (manyL d0.kids : Int) : Int) < 0) := by omega
  have nb0 : manyL d0.kids ≤ 1048576 := by omega
  obtain ⟨z3, z4, z5, z6, z7⟩ := id P0_2
  go_wp2_with fail
  clear z3 z4 z5 z6 z7
  refine (toExpr_any _ _ _ _ d0 (R0.out.below hb_2 (Nat.le_refl _)) (by omega) nb0).mono ?_
  rintro e1 u8 ⟨m', rfl, O8, g8⟩
  obtain ⟨paT8, caT8, rfl⟩ := O8.shape
  have P0_9 := P0_2.below g8 (by omega)
  have hb_9 := hb_2.trans (g8.mono (by omega))
  have sz_9 := g8.size
  clear P0_2 hb_2 g8
  go_wp2_with fail
  refine (sExprMany_any _ _ _ _ d0 O8.er (by omega) nb0).mono ?_
  rintro e1 u10 ⟨rfl, g10⟩
  have P0_11 := P0_9.below g10 (by omega)
  have O8_11 := O8.below g10 (by omega)
  have hb_11 := hb_9.trans (g10.mono (by omega))
  have sz_11 := g10.size
  clear P0_9 O8 hb_9 g10
  obtain ⟨z12, z13, z14, z15, z16⟩ := id P0_11
  go_wp2_with fail
  clear z12 z13 z14 z15 z16
  refine (toExpr_any _ _ _ _ d0 (R0.out.below hb_11 (Nat.le_refl _)) (by omega) nb0).mono ?_
  rintro e1 u17 ⟨m', rfl, O17, g17⟩
  obtain ⟨paT17, caT17, rfl⟩ := O17.shape
  have P0_18 := P0_11.below g17 (by omega)
  have O8_18 := O8_11.below g17 (by omega)
  have hb_18 := hb_11.trans (g17.mono (by omega))
  have sz_18 := g17.size
  clear P0_11 O8_11 hb_11 g17
  go_wp2_with fail
  obtain ⟨u19, hu19, g19, Y19, s19⟩ : ∃ u19, u17.alloc (.cells #[.int .i64 d0.k, .int .i64 d0.n, .int .i64 d0.ak, .int .i64 d0.at_, .slice paT17 d0.kids.length caT17] 27) = u19 ∧ Below u17.heap.size u17 u19 ∧ Box5 u19 u17.heap.size (.int .i64 d0.k) (.int .i64 d0.n) (.int .i64 d0.ak) (.int .i64 d0.at_) (.slice paT17 d0.kids.length caT17) ∧ u19.heap.size = u17.heap.size + 1 :=
    ⟨_, rfl, (Below.refl _ _).alloc (Nat.le_refl _) _, box5_new _ _ _ _ _ _ _, by simp⟩
  rw [hu19]
  clear hu19
  have P0_20 := P0_18.below g19 (by omega)
  have O8_20 := O8_18.below g19 (by omega)
  have O17_20 := O17.below g19 (by omega)
  have hb_20 := hb_18.trans (g19.mono (by omega))
  have sz_20 := g19.size
  clear P0_18 O8_18 O17 hb_18 g19
  refine (impl _ _ _ _ d0 O17_20.er (by omega) nb0).mono ?_
  rintro e1 u21 ⟨rfl, g21⟩
  have P0_22 := P0_20.below g21 (by omega)
  have O8_22 := O8_20.below g21 (by omega)
  have O17_22 := O17_20.below g21 (by omega)
  have X0_22 := Y19.below g21 (by omega)
  have hb_22 := hb_20.trans (g21.mono (by omega))
  have sz_22 := g21.size
  clear P0_20 O8_20 O17_20 Y19 hb_20 g21
  go_wp2_with fail
  refine wp_region_dag (R := Grow) (Φ := fun i v u => match i with
      | 0 => v = .agg #[.int .i64 d0.k, .int .i64 d0.n, .int .i64 d0.ak, .int .i64 d0.at_, .slice paT17 d0.kids.length caT17]
      | 1 => v = .agg #[.int .i64 d0.k, .int .i64 d0.n, .int .i64 d0.ak, .int .i64 d0.at_, .slice paA0 d0.kids.length caA0]
      | 2 => ∃ lo' hi', hi' ≤ u.heap.size ∧ EO u lo' hi' v d0
      | 3 => v = .bool true
      | 4 => v = .bool false
      | _ => True) (by kernel_rfl) (by kernel_rfl) (by kernel_rfl) (Below.refl _ _) grow_trans ?_ ?_ ?_
  · intro i v u u' hr
    match i with
    | 0 | 1 | 3 | 4 | _ + 5 => exact fun h => h
    | 2 => exact fun ⟨lo', hi', h1, h2⟩ => ⟨lo', hi', Nat.le_trans h1 hr.size, h2.below hr h1⟩
  · intro i o ho a u hf hR0 he K' hK
    have hR : Grow u21 u := (Below.drew (Below.refl _ _)).trans hR0
    have hRw : Below w.heap.size w u := hb_22.trans (hR.mono (by omega))
    have hsz' : a.tmps.size = 27 := hf.size
    have hus : u21.heap.size ≤ u.heap.size := hR.size
    rcases i with _ | _ | _ | _ | _ | i
    · obtain rfl := Option.some.inj ho
      clear he
      have q1 : a.tmps.getD 5 undef = .pointer (some ⟨u17.heap.size, 0, none⟩) := hf.at_ 5 (by kernel_rfl)
      obtain ⟨c0, c1, c2, c3, c4⟩ := X0_22.below hR (by omega)
      go_simp
      exact hK _ _ (Below.refl _ _) (getD_put_self a 22 _ (by show _ < a.tmps.size; omega))
    · obtain rfl := Option.some.inj ho
      clear he
      have q1 : a.tmps.getD 1 undef = .pointer (some ⟨w.heap.size, 0, none⟩) := hf.at_ 1 (by kernel_rfl)
      obtain ⟨c0, c1, c2, c3, c4⟩ := P0_22.below hR (by omega)
      go_simp
      exact hK _ _ (Below.refl _ _) (getD_put_self a 23 _ (by show _ < a.tmps.size; omega))
    · obtain rfl := Option.some.inj ho
      have q1 : a.tmps.getD 23 undef = .agg #[.int .i64 d0.k, .int .i64 d0.n, .int .i64 d0.ak, .int .i64 d0.at_, .slice paA0 d0.kids.length caA0] := he _ (Array.mem_of_getElem? (i := 0) rfl) (by kernel_rfl) _ rfl
      clear he
      go_simp
      refine (toExpr_any _ _ _ _ d0 (R0.out.below hRw (Nat.le_refl _)) (by omega) nb0).mono ?_
      rintro e1 u' ⟨m', rfl, HO, hbu⟩
      exact hK _ _ hbu ⟨_, _, Nat.le_refl _, by show EO _ _ _ ((a.put (some 24) m').tmps.getD 24 undef) d0; rw [getD_put_self a 24 _ (by show _ < a.tmps.size; omega)]; exact HO⟩
    · obtain rfl := Option.some.inj ho
      have q22 : a.tmps.getD 22 undef = .agg #[.int .i64 d0.k, .int .i64 d0.n, .int .i64 d0.ak, .int .i64 d0.at_, .slice paT17 d0.kids.length caT17] := he _ (Array.mem_of_getElem? (i := 0) rfl) (by kernel_rfl) _ rfl
      obtain ⟨lo24, hi24, hh24, HO24⟩ := he _ (Array.mem_of_getElem? (i := 1) rfl) (by kernel_rfl) _ rfl
      have HO24 : EO u lo24 hi24 (a.tmps.getD 24 undef) d0 := HO24
      obtain ⟨mm24, em24⟩ : ∃ mm, a.tmps.getD 24 undef = mm := ⟨_, rfl⟩
      rw [em24] at HO24
      clear he
      go_simp
      refine (eqExpr_any _ _ _ _ _ _ _ d0 d0 (O17_22.below hR (by omega)).er HO24.er (by omega) hh24).mono ?_
      rintro e1 u' ⟨rr, rfl, hrr, hbu⟩
      obtain rfl : rr = true := hrr.mpr rfl
      exact hK _ _ hbu (getD_put_self a 25 _ (by show _ < a.tmps.size; omega))
    · obtain rfl := Option.some.inj ho
      have q1 : a.tmps.getD 25 undef = .bool true := he _ (Array.mem_of_getElem? (i := 0) rfl) (by kernel_rfl) _ rfl
      clear he
      go_simp
      exact hK _ _ (Below.refl _ _) (getD_put_self a 26 _ (by show _ < a.tmps.size; omega))
    · exact absurd ho (by simp)
  · intro a u23 hf hR0 hp
    have g23 : Grow u21 u23 := (Below.drew (Below.refl _ _)).trans hR0
    have md : a.defers = [] := hf.defers
    have m26 : a.tmps.getD 26 undef = .bool false := hp 4 _ rfl
    obtain ⟨f, ea, hfv⟩ := act_lit a 27 hf.size
    rw [← hfv] at m26
    rw [md] at ea
    simp only [List.range, List.range.loop, List.map_cons, List.map_nil, m26] at ea
    subst ea
    clear hfv hf md hp hR0
    have P0_24 := P0_22.below g23 (by omega)
    have O8_24 := O8_22.below g23 (by omega)
    have O17_24 := O17_22.below g23 (by omega)
    have X0_24 := X0_22.below g23 (by omega)
    have hb_24 := hb_22.trans (g23.mono (by omega))
    have sz_24 := g23.size
    clear P0_22 O8_22 O17_22 X0_22 hb_22 g23
    clear P0_24 O8_24 O17_24 X0_24
    go_wp2
    go_ret
    exact ⟨rfl, hb_24⟩
end Go.Proofs.Ytdhmioelmcdflaa
