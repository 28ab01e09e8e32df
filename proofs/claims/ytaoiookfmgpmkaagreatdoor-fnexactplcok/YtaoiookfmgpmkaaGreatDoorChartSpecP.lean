/-
 The model's l8Places. (Written by our generator gen_chartspecp.py.)
-/
import Derived.Test.YtaoiookfmgpmkaaGreatDoorQM10
import Derived.Test.YtaoiookfmgpmkaaGreatDoorQM13
namespace Go.Proofs.YtaoiookfmgpmkaaGreatDoor
open Go.ChangeShapes Go.WideShapes Go.ChangeAt Go.RowKit
set_option linter.unusedVariables false
set_option linter.unusedSimpArgs false
set_option maxRecDepth 100000

set_option maxHeartbeats 8000000 in
theorem sPlaces_any (w : World) (lo hi : Nat) (v : Value) (xs : List Int) (n : Int) (h : SI w lo hi v xs) (hhi : hi ≤ w.heap.size) :
  Calls Tryz.prog 209 #[v, .int .i64 n] w fun e w' => e = .returned (.bool (placesOk xs n)) ∧ Below w.heap.size w w' := by
 obtain ⟨R, hR⟩ : ∃ R, placesOk xs n = R := ⟨_, rfl⟩
 rw [hR]
 have HR : Hid (placesOk xs n = R) := hR
 clear hR
 obtain ⟨a, cap, rfl, h1, h2, h3⟩ := h
 unfold maxLen at h2
 go_enter Tryz.func209, Tryz.ntmps209
 go_wp2_with fail
 go_loopw [5] (fun i wr => ∃ j : Nat, j ≤ xs.length ∧ i = .int .i64 j ∧ Below w.heap.size w wr ∧ ∀ i, i < j → placeAt xs n i = true) (fun i _ => xs.length - (intOf i).toNat)
 case atStart => exact ⟨0, Nat.zero_le _, rfl, Below.refl _ _, fun i hi => by omega⟩
 case round =>
  obtain ⟨j, hj, rfl, hb, ht⟩ := hrel
  have HT : Hid (∀ i, i < j → placeAt xs n i = true) := ht
  clear ht
  by_cases hlt : j < xs.length
  ·obtain ⟨x, hx⟩ : ∃ x, xs[j]? = some x := ⟨xs[j], List.getElem?_eq_getElem hlt⟩
   rcases h3 with h0 | ⟨b, off, rfl, hl0, hh0, hc⟩
   ·rw [h0] at hlt; simp at hlt
   have hsz := hb.size
   have c1 : wr.cell? ⟨b, off + j, none⟩ = some (.int .i64 x) := by rw [hb.cell (p := ⟨b, off + j, none⟩) (by show b < _; omega)]; exact hc j x hx
   have HC1 : Hid (wr.cell? ⟨b, off + j, none⟩ = some (.int .i64 x)) := c1
   have HX : Hid (xs[j]? = some x) := hx
   have HC : Hid (CI w b off xs) := hc
   have HB : Hid (Below w.heap.size w wr) := hb
   clear hx hc hb c1
   by_cases q1 : x < 0
   ·have HF : Hid (R = false) := by show R = false; rw [← HR.out]; exact placesOk_no hlt (placeAt_low HX.out q1)
    go_wp2_with fail
    refine wp_region_dag (R := Grow) (Φ := fun i v u => match i with
      | 0 => v = .slice (some ⟨b, off, none⟩) xs.length cap
      | 1 => v = .int .i64 ((j : Nat) : Int)
      | 2 => v = .pointer (some ⟨b, off + j, none⟩)
      | 3 => v = .int .i64 x
      | 4 => v = .bool true
      | 5 => v = .bool true
      | 6 => v = undef
      | 7 => v = undef
      | 8 => v = undef
      | 9 => v = undef
      | 10 => v = undef
      | 11 => v = undef
      | 12 => v = .bool true
      | 13 => v = .bool true
      | 14 => v = undef
      | 15 => v = undef
      | 16 => v = undef
      | 17 => v = undef
      | 18 => v = undef
      | 19 => v = undef
      | 20 => v = undef
      | 21 => v = undef
      | 22 => v = undef
      | 23 => v = undef
      | 24 => v = undef
      | 25 => v = undef
      | 26 => v = undef
      | 27 => v = undef
      | 28 => v = .bool true
      | _ => True) (by kernel_rfl) (by kernel_rfl) (by kernel_rfl) (Below.refl _ _) grow_trans ?_ ?_ ?_
    ·intro i v u u' hr
     match i with
     | 0 | 1 | 2 | 3 | 4 | 5 | 6 | 7 | 8 | 9 | 10 | 11 | 12 | 13 | 14 | 15 | 16 | 17 | 18 | 19 | 20 | 21 | 22 | 23 | 24 | 25 | 26 | 27 | 28 | _ + 29 => exact fun h => h
    ·intro i o ho a u hf hR0 he K' hK
     have hR : Grow wr u := (Below.drew (Below.refl _ _)).trans hR0
     have hsz' : a.tmps.size = 44 := hf.size
     have hus := hR.size
     have q0 : a.tmps.getD 0 undef = .slice (some ⟨b, off, none⟩) xs.length cap := hf.at_ 0 (by kernel_rfl)
     have q1 : a.tmps.getD 1 undef = .int .i64 n := hf.at_ 1 (by kernel_rfl)
     have q5 : a.tmps.getD 5 undef = .int .i64 ((j : Nat) : Int) := hf.at_ 5 (by kernel_rfl)
     have c1 : u.cell? ⟨b, off + j, none⟩ = some (.int .i64 x) := by rw [hR.cell (p := ⟨b, off + j, none⟩) (by show b < _; omega)]; exact HC1.out
     rcases i with _ | _ | _ | _ | _ | _ | _ | _ | _ | _ | _ | _ | _ | _ | _ | _ | _ | _ | _ | _ | _ | _ | _ | _ | _ | _ | _ | _ | _ | i
     rotate_right
     ·exact absurd ho (by simp)
     all_goals
      obtain rfl := si ho
      try have e0 : a.tmps.getD _ undef = _ := he _ (am (i := 0) rfl) (by kernel_rfl) _ rfl
      try have e1 : a.tmps.getD _ undef = _ := he _ (am (i := 1) rfl) (by kernel_rfl) _ rfl
      try have e2 : a.tmps.getD _ undef = _ := he _ (am (i := 2) rfl) (by kernel_rfl) _ rfl
      clear he
      first
      | exact wanted_off rfl (yielded_g rfl rfl (by show _ < a.tmps.size; omega) (by assumption)) (hK undef u (Below.refl _ _) (getD_put_self a _ _ (by show _ < a.tmps.size; omega)))
      | exact wanted_un rfl (yielded_u rfl rfl (by show _ < a.tmps.size; omega) (by assumption)) (hK undef u (Below.refl _ _) (getD_put_self a _ _ (by show _ < a.tmps.size; omega)))
      | (refine wanted_on rfl (yielded_g rfl rfl (by show _ < a.tmps.size; omega) (by assumption)) ?_; go_simp; exact hK _ _ (Below.refl _ _) (getD_put_self a _ _ (by show _ < a.tmps.size; omega)))
      | (go_simp; exact hK _ _ (Below.refl _ _) (getD_put_self a _ _ (by show _ < a.tmps.size; omega)))
      | (go_simp; exact hK _ _ (Below.refl _ _) ((getD_put_self a _ _ (by show _ < a.tmps.size; omega)).trans (by first | rfl | (simp; done) | (simp; omega) | (congr 1; omega))))
      | (refine wanted_on rfl (yielded_g rfl rfl (by show _ < a.tmps.size; omega) (by assumption)) ?_; go_simp; exact hK _ _ (Below.refl _ _) ((getD_put_self a _ _ (by show _ < a.tmps.size; omega)).trans (by first | rfl | (simp; done) | (simp; omega) | (congr 1; omega))))
      | (refine wanted_on rfl (yielded_g rfl rfl (by show _ < a.tmps.size; omega) (by assumption)) ?_; go_simp; go_bits; exact hK _ _ (Below.refl _ _) ((getD_put_self a _ _ (by show _ < a.tmps.size; omega)).trans (by first | rfl | (simp; done) | (simp; omega) | (congr 1; omega))))
    ·intro a u hf hR0 hp
     have hR : Grow wr u := (Below.drew (Below.refl _ _)).trans hR0
     have hB := HB.out.trans (hR.mono HB.out.size)
     have m40 : a.tmps.getD 40 undef = .bool true := hp 28 _ rfl
     clear hp hR0 hR
     obtain ⟨fq, ea, hfv⟩ := act_lit a 44 hf.size
     have md : a.defers = [] := hf.defers
     rw [md] at ea
     have m0 := hf.at_ 0 (by kernel_rfl)
     have m1 := hf.at_ 1 (by kernel_rfl)
     have m2 := hf.at_ 2 (by kernel_rfl)
     have m3 := hf.at_ 3 (by kernel_rfl)
     have m4 := hf.at_ 4 (by kernel_rfl)
     have m5 := hf.at_ 5 (by kernel_rfl)
     have m6 := hf.at_ 6 (by kernel_rfl)
     have m7 := hf.at_ 7 (by kernel_rfl)
     have m8 := hf.at_ 8 (by kernel_rfl)
     have m9 := hf.at_ 9 (by kernel_rfl)
     have m10 := hf.at_ 10 (by kernel_rfl)
     have m11 := hf.at_ 11 (by kernel_rfl)
     have m41 := hf.at_ 41 (by kernel_rfl)
     have m42 := hf.at_ 42 (by kernel_rfl)
     have m43 := hf.at_ 43 (by kernel_rfl)
     rw [← hfv] at m0 m1 m2 m3 m4 m5 m6 m7 m8 m9 m10 m11 m41 m42 m43 m40
     simp only [Array.getD_eq_getD_getElem?, List.getElem?_toArray, List.getElem?_cons_succ, List.getElem?_cons_zero, Option.getD_some] at m0 m1 m2 m3 m4 m5 m6 m7 m8 m9 m10 m11 m41 m42 m43
     simp only [List.range, List.range.loop, List.map_cons, List.map_nil, m0, m1, m2, m3, m4, m5, m6, m7, m8, m9, m10, m11, m41, m42, m43, m40] at ea
     subst ea
     clear m0 m1 m2 m3 m4 m5 m6 m7 m8 m9 m10 m11 m41 m42 m43 m40 hfv md hf
     go_wp2
     go_ret
     exact ⟨ret_bool HF.out.symm, hB⟩
   by_cases q2 : n ≤ x
   ·have HF : Hid (R = false) := by show R = false; rw [← HR.out]; exact placesOk_no hlt (placeAt_high HX.out q2)
    go_wp2_with fail
    refine wp_region_dag (R := Grow) (Φ := fun i v u => match i with
      | 0 => v = .slice (some ⟨b, off, none⟩) xs.length cap
      | 1 => v = .int .i64 ((j : Nat) : Int)
      | 2 => v = .pointer (some ⟨b, off + j, none⟩)
      | 3 => v = .int .i64 x
      | 4 => v = .bool false
      | 5 => v = .bool false
      | 6 => v = .slice (some ⟨b, off, none⟩) xs.length cap
      | 7 => v = .int .i64 ((j : Nat) : Int)
      | 8 => v = .pointer (some ⟨b, off + j, none⟩)
      | 9 => v = .int .i64 x
      | 10 => v = .int .i64 n
      | 11 => v = .bool true
      | 12 => v = .bool true
      | 13 => v = .bool true
      | 14 => v = undef
      | 15 => v = undef
      | 16 => v = undef
      | 17 => v = undef
      | 18 => v = undef
      | 19 => v = undef
      | 20 => v = undef
      | 21 => v = undef
      | 22 => v = undef
      | 23 => v = undef
      | 24 => v = undef
      | 25 => v = undef
      | 26 => v = undef
      | 27 => v = undef
      | 28 => v = .bool true
      | _ => True) (by kernel_rfl) (by kernel_rfl) (by kernel_rfl) (Below.refl _ _) grow_trans ?_ ?_ ?_
    ·intro i v u u' hr
     match i with
     | 0 | 1 | 2 | 3 | 4 | 5 | 6 | 7 | 8 | 9 | 10 | 11 | 12 | 13 | 14 | 15 | 16 | 17 | 18 | 19 | 20 | 21 | 22 | 23 | 24 | 25 | 26 | 27 | 28 | _ + 29 => exact fun h => h
    ·intro i o ho a u hf hR0 he K' hK
     have hR : Grow wr u := (Below.drew (Below.refl _ _)).trans hR0
     have hsz' : a.tmps.size = 44 := hf.size
     have hus := hR.size
     have q0 : a.tmps.getD 0 undef = .slice (some ⟨b, off, none⟩) xs.length cap := hf.at_ 0 (by kernel_rfl)
     have q1 : a.tmps.getD 1 undef = .int .i64 n := hf.at_ 1 (by kernel_rfl)
     have q5 : a.tmps.getD 5 undef = .int .i64 ((j : Nat) : Int) := hf.at_ 5 (by kernel_rfl)
     have c1 : u.cell? ⟨b, off + j, none⟩ = some (.int .i64 x) := by rw [hR.cell (p := ⟨b, off + j, none⟩) (by show b < _; omega)]; exact HC1.out
     rcases i with _ | _ | _ | _ | _ | _ | _ | _ | _ | _ | _ | _ | _ | _ | _ | _ | _ | _ | _ | _ | _ | _ | _ | _ | _ | _ | _ | _ | _ | i
     rotate_right
     ·exact absurd ho (by simp)
     all_goals
      obtain rfl := si ho
      try have e0 : a.tmps.getD _ undef = _ := he _ (am (i := 0) rfl) (by kernel_rfl) _ rfl
      try have e1 : a.tmps.getD _ undef = _ := he _ (am (i := 1) rfl) (by kernel_rfl) _ rfl
      try have e2 : a.tmps.getD _ undef = _ := he _ (am (i := 2) rfl) (by kernel_rfl) _ rfl
      clear he
      first
      | exact wanted_off rfl (yielded_g rfl rfl (by show _ < a.tmps.size; omega) (by assumption)) (hK undef u (Below.refl _ _) (getD_put_self a _ _ (by show _ < a.tmps.size; omega)))
      | exact wanted_un rfl (yielded_u rfl rfl (by show _ < a.tmps.size; omega) (by assumption)) (hK undef u (Below.refl _ _) (getD_put_self a _ _ (by show _ < a.tmps.size; omega)))
      | (refine wanted_on rfl (yielded_g rfl rfl (by show _ < a.tmps.size; omega) (by assumption)) ?_; go_simp; exact hK _ _ (Below.refl _ _) (getD_put_self a _ _ (by show _ < a.tmps.size; omega)))
      | (go_simp; exact hK _ _ (Below.refl _ _) (getD_put_self a _ _ (by show _ < a.tmps.size; omega)))
      | (go_simp; exact hK _ _ (Below.refl _ _) ((getD_put_self a _ _ (by show _ < a.tmps.size; omega)).trans (by first | rfl | (simp; done) | (simp; omega) | (congr 1; omega))))
      | (refine wanted_on rfl (yielded_g rfl rfl (by show _ < a.tmps.size; omega) (by assumption)) ?_; go_simp; exact hK _ _ (Below.refl _ _) ((getD_put_self a _ _ (by show _ < a.tmps.size; omega)).trans (by first | rfl | (simp; done) | (simp; omega) | (congr 1; omega))))
      | (refine wanted_on rfl (yielded_g rfl rfl (by show _ < a.tmps.size; omega) (by assumption)) ?_; go_simp; go_bits; exact hK _ _ (Below.refl _ _) ((getD_put_self a _ _ (by show _ < a.tmps.size; omega)).trans (by first | rfl | (simp; done) | (simp; omega) | (congr 1; omega))))
    ·intro a u hf hR0 hp
     have hR : Grow wr u := (Below.drew (Below.refl _ _)).trans hR0
     have hB := HB.out.trans (hR.mono HB.out.size)
     have m40 : a.tmps.getD 40 undef = .bool true := hp 28 _ rfl
     clear hp hR0 hR
     obtain ⟨fq, ea, hfv⟩ := act_lit a 44 hf.size
     have md : a.defers = [] := hf.defers
     rw [md] at ea
     have m0 := hf.at_ 0 (by kernel_rfl)
     have m1 := hf.at_ 1 (by kernel_rfl)
     have m2 := hf.at_ 2 (by kernel_rfl)
     have m3 := hf.at_ 3 (by kernel_rfl)
     have m4 := hf.at_ 4 (by kernel_rfl)
     have m5 := hf.at_ 5 (by kernel_rfl)
     have m6 := hf.at_ 6 (by kernel_rfl)
     have m7 := hf.at_ 7 (by kernel_rfl)
     have m8 := hf.at_ 8 (by kernel_rfl)
     have m9 := hf.at_ 9 (by kernel_rfl)
     have m10 := hf.at_ 10 (by kernel_rfl)
     have m11 := hf.at_ 11 (by kernel_rfl)
     have m41 := hf.at_ 41 (by kernel_rfl)
     have m42 := hf.at_ 42 (by kernel_rfl)
     have m43 := hf.at_ 43 (by kernel_rfl)
     rw [← hfv] at m0 m1 m2 m3 m4 m5 m6 m7 m8 m9 m10 m11 m41 m42 m43 m40
     simp only [Array.getD_eq_getD_getElem?, List.getElem?_toArray, List.getElem?_cons_succ, List.getElem?_cons_zero, Option.getD_some] at m0 m1 m2 m3 m4 m5 m6 m7 m8 m9 m10 m11 m41 m42 m43
     simp only [List.range, List.range.loop, List.map_cons, List.map_nil, m0, m1, m2, m3, m4, m5, m6, m7, m8, m9, m10, m11, m41, m42, m43, m40] at ea
     subst ea
     clear m0 m1 m2 m3 m4 m5 m6 m7 m8 m9 m10 m11 m41 m42 m43 m40 hfv md hf
     go_wp2
     go_ret
     exact ⟨ret_bool HF.out.symm, hB⟩
   have q3 : 0 ≤ x := by omega
   have q4 : x < n := by omega
   cases j with
   | zero =>
    have HN : Hid (∀ i, i < 0 + 1 → placeAt xs n i = true) := by
     intro i hi
     obtain rfl : i = 0 := by omega
     exact placeAt_first HX.out q3 q4
    go_wp2_with fail
    refine wp_region_dag (R := Grow) (Φ := fun i v u => match i with
      | 0 => v = .slice (some ⟨b, off, none⟩) xs.length cap
      | 1 => v = .int .i64 ((0 : Nat) : Int)
      | 2 => v = .pointer (some ⟨b, off, none⟩)
      | 3 => v = .int .i64 x
      | 4 => v = .bool false
      | 5 => v = .bool false
      | 6 => v = .slice (some ⟨b, off, none⟩) xs.length cap
      | 7 => v = .int .i64 ((0 : Nat) : Int)
      | 8 => v = .pointer (some ⟨b, off, none⟩)
      | 9 => v = .int .i64 x
      | 10 => v = .int .i64 n
      | 11 => v = .bool false
      | 12 => v = .bool false
      | 13 => v = .bool false
      | 14 => v = .int .i64 ((0 : Nat) : Int)
      | 15 => v = .bool false
      | 16 => v = .bool false
      | 17 => v = undef
      | 18 => v = undef
      | 19 => v = undef
      | 20 => v = undef
      | 21 => v = undef
      | 22 => v = undef
      | 23 => v = undef
      | 24 => v = undef
      | 25 => v = undef
      | 26 => v = undef
      | 27 => v = .bool false
      | 28 => v = .bool false
      | _ => True) (by kernel_rfl) (by kernel_rfl) (by kernel_rfl) (Below.refl _ _) grow_trans ?_ ?_ ?_
    ·intro i v u u' hr
     match i with
     | 0 | 1 | 2 | 3 | 4 | 5 | 6 | 7 | 8 | 9 | 10 | 11 | 12 | 13 | 14 | 15 | 16 | 17 | 18 | 19 | 20 | 21 | 22 | 23 | 24 | 25 | 26 | 27 | 28 | _ + 29 => exact fun h => h
    ·intro i o ho a u hf hR0 he K' hK
     have hR : Grow wr u := (Below.drew (Below.refl _ _)).trans hR0
     have hsz' : a.tmps.size = 44 := hf.size
     have hus := hR.size
     have q0 : a.tmps.getD 0 undef = .slice (some ⟨b, off, none⟩) xs.length cap := hf.at_ 0 (by kernel_rfl)
     have q1 : a.tmps.getD 1 undef = .int .i64 n := hf.at_ 1 (by kernel_rfl)
     have q5 : a.tmps.getD 5 undef = .int .i64 ((0 : Nat) : Int) := hf.at_ 5 (by kernel_rfl)
     have c1 : u.cell? ⟨b, off, none⟩ = some (.int .i64 x) := by rw [hR.cell (p := ⟨b, off, none⟩) (by show b < _; omega)]; exact HC1.out
     rcases i with _ | _ | _ | _ | _ | _ | _ | _ | _ | _ | _ | _ | _ | _ | _ | _ | _ | _ | _ | _ | _ | _ | _ | _ | _ | _ | _ | _ | _ | i
     rotate_right
     ·exact absurd ho (by simp)
     all_goals
      obtain rfl := si ho
      try have e0 : a.tmps.getD _ undef = _ := he _ (am (i := 0) rfl) (by kernel_rfl) _ rfl
      try have e1 : a.tmps.getD _ undef = _ := he _ (am (i := 1) rfl) (by kernel_rfl) _ rfl
      try have e2 : a.tmps.getD _ undef = _ := he _ (am (i := 2) rfl) (by kernel_rfl) _ rfl
      clear he
      first
      | exact wanted_off rfl (yielded_g rfl rfl (by show _ < a.tmps.size; omega) (by assumption)) (hK undef u (Below.refl _ _) (getD_put_self a _ _ (by show _ < a.tmps.size; omega)))
      | exact wanted_un rfl (yielded_u rfl rfl (by show _ < a.tmps.size; omega) (by assumption)) (hK undef u (Below.refl _ _) (getD_put_self a _ _ (by show _ < a.tmps.size; omega)))
      | (refine wanted_on rfl (yielded_g rfl rfl (by show _ < a.tmps.size; omega) (by assumption)) ?_; go_simp; exact hK _ _ (Below.refl _ _) (getD_put_self a _ _ (by show _ < a.tmps.size; omega)))
      | (go_simp; exact hK _ _ (Below.refl _ _) (getD_put_self a _ _ (by show _ < a.tmps.size; omega)))
      | (go_simp; exact hK _ _ (Below.refl _ _) ((getD_put_self a _ _ (by show _ < a.tmps.size; omega)).trans (by first | rfl | (simp; done) | (simp; omega) | (congr 1; omega))))
      | (refine wanted_on rfl (yielded_g rfl rfl (by show _ < a.tmps.size; omega) (by assumption)) ?_; go_simp; exact hK _ _ (Below.refl _ _) ((getD_put_self a _ _ (by show _ < a.tmps.size; omega)).trans (by first | rfl | (simp; done) | (simp; omega) | (congr 1; omega))))
      | (refine wanted_on rfl (yielded_g rfl rfl (by show _ < a.tmps.size; omega) (by assumption)) ?_; go_simp; go_bits; exact hK _ _ (Below.refl _ _) ((getD_put_self a _ _ (by show _ < a.tmps.size; omega)).trans (by first | rfl | (simp; done) | (simp; omega) | (congr 1; omega))))
    ·intro a u hf hR0 hp
     have hR : Grow wr u := (Below.drew (Below.refl _ _)).trans hR0
     have hB := HB.out.trans (hR.mono HB.out.size)
     have m40 : a.tmps.getD 40 undef = .bool false := hp 28 _ rfl
     clear hp hR0 hR
     obtain ⟨fq, ea, hfv⟩ := act_lit a 44 hf.size
     have md : a.defers = [] := hf.defers
     rw [md] at ea
     have m0 := hf.at_ 0 (by kernel_rfl)
     have m1 := hf.at_ 1 (by kernel_rfl)
     have m2 := hf.at_ 2 (by kernel_rfl)
     have m3 := hf.at_ 3 (by kernel_rfl)
     have m4 := hf.at_ 4 (by kernel_rfl)
     have m5 := hf.at_ 5 (by kernel_rfl)
     have m6 := hf.at_ 6 (by kernel_rfl)
     have m7 := hf.at_ 7 (by kernel_rfl)
     have m8 := hf.at_ 8 (by kernel_rfl)
     have m9 := hf.at_ 9 (by kernel_rfl)
     have m10 := hf.at_ 10 (by kernel_rfl)
     have m11 := hf.at_ 11 (by kernel_rfl)
     have m41 := hf.at_ 41 (by kernel_rfl)
     have m42 := hf.at_ 42 (by kernel_rfl)
     have m43 := hf.at_ 43 (by kernel_rfl)
     rw [← hfv] at m0 m1 m2 m3 m4 m5 m6 m7 m8 m9 m10 m11 m41 m42 m43 m40
     simp only [Array.getD_eq_getD_getElem?, List.getElem?_toArray, List.getElem?_cons_succ, List.getElem?_cons_zero, Option.getD_some] at m0 m1 m2 m3 m4 m5 m6 m7 m8 m9 m10 m11 m41 m42 m43
     simp only [List.range, List.range.loop, List.map_cons, List.map_nil, m0, m1, m2, m3, m4, m5, m6, m7, m8, m9, m10, m11, m41, m42, m43, m40] at ea
     subst ea
     clear m0 m1 m2 m3 m4 m5 m6 m7 m8 m9 m10 m11 m41 m42 m43 m40 hfv md hf
     go_wp2
     go_roundw
     case rel => exact ⟨0 + 1, by omega, by go_num, hB, HN.out⟩
     case measure => simp [intOf]; omega
   | succ k =>
    obtain ⟨p, hp⟩ : ∃ p, xs[k]? = some p := ⟨xs[k], List.getElem?_eq_getElem (by omega)⟩
    have HC0 : Hid (wr.cell? ⟨b, off + k, none⟩ = some (.int .i64 p)) := by show wr.cell? _ = _; rw [HB.out.cell (p := ⟨b, off + k, none⟩) (by show b < _; omega)]; exact HC.out k p hp
    have HP : Hid (xs[k]? = some p) := hp
    clear hp
    by_cases q5 : p < x
    ·have HN : Hid (∀ i, i < k + 1 + 1 → placeAt xs n i = true) := by
      intro i hi
      by_cases e : i = k + 1
      ·rw [e, placeAt_next HX.out HP.out q3 q4]; simpa using q5
      ·exact HT.out i (by omega)
     go_wp2_with fail
     refine wp_region_dag (R := Grow) (Φ := fun i v u => match i with
       | 0 => v = .slice (some ⟨b, off, none⟩) xs.length cap
       | 1 => v = .int .i64 (((k + 1) : Nat) : Int)
       | 2 => v = .pointer (some ⟨b, off + (k + 1), none⟩)
       | 3 => v = .int .i64 x
       | 4 => v = .bool false
       | 5 => v = .bool false
       | 6 => v = .slice (some ⟨b, off, none⟩) xs.length cap
       | 7 => v = .int .i64 (((k + 1) : Nat) : Int)
       | 8 => v = .pointer (some ⟨b, off + (k + 1), none⟩)
       | 9 => v = .int .i64 x
       | 10 => v = .int .i64 n
       | 11 => v = .bool false
       | 12 => v = .bool false
       | 13 => v = .bool false
       | 14 => v = .int .i64 (((k + 1) : Nat) : Int)
       | 15 => v = .bool true
       | 16 => v = .bool true
       | 17 => v = .slice (some ⟨b, off, none⟩) xs.length cap
       | 18 => v = .int .i64 (((k + 1) : Nat) : Int)
       | 19 => v = .pointer (some ⟨b, off + (k + 1), none⟩)
       | 20 => v = .int .i64 x
       | 21 => v = .slice (some ⟨b, off, none⟩) xs.length cap
       | 22 => v = .int .i64 (((k + 1) : Nat) : Int)
       | 23 => v = .int .i64 ((k : Nat) : Int)
       | 24 => v = .pointer (some ⟨b, off + k, none⟩)
       | 25 => v = .int .i64 p
       | 26 => v = .bool false
       | 27 => v = .bool false
       | 28 => v = .bool false
       | _ => True) (by kernel_rfl) (by kernel_rfl) (by kernel_rfl) (Below.refl _ _) grow_trans ?_ ?_ ?_
     ·intro i v u u' hr
      match i with
      | 0 | 1 | 2 | 3 | 4 | 5 | 6 | 7 | 8 | 9 | 10 | 11 | 12 | 13 | 14 | 15 | 16 | 17 | 18 | 19 | 20 | 21 | 22 | 23 | 24 | 25 | 26 | 27 | 28 | _ + 29 => exact fun h => h
     ·intro i o ho a u hf hR0 he K' hK
      have hR : Grow wr u := (Below.drew (Below.refl _ _)).trans hR0
      have hsz' : a.tmps.size = 44 := hf.size
      have hus := hR.size
      have q0 : a.tmps.getD 0 undef = .slice (some ⟨b, off, none⟩) xs.length cap := hf.at_ 0 (by kernel_rfl)
      have q1 : a.tmps.getD 1 undef = .int .i64 n := hf.at_ 1 (by kernel_rfl)
      have q5 : a.tmps.getD 5 undef = .int .i64 (((k + 1) : Nat) : Int) := hf.at_ 5 (by kernel_rfl)
      have c1 : u.cell? ⟨b, off + (k + 1), none⟩ = some (.int .i64 x) := by rw [hR.cell (p := ⟨b, off + (k + 1), none⟩) (by show b < _; omega)]; exact HC1.out
      have c0 : u.cell? ⟨b, off + k, none⟩ = some (.int .i64 p) := by rw [hR.cell (p := ⟨b, off + k, none⟩) (by show b < _; omega)]; exact HC0.out
      have hkl : k < xs.length := by omega
      rcases i with _ | _ | _ | _ | _ | _ | _ | _ | _ | _ | _ | _ | _ | _ | _ | _ | _ | _ | _ | _ | _ | _ | _ | _ | _ | _ | _ | _ | _ | i
      rotate_right
      ·exact absurd ho (by simp)
      all_goals
       obtain rfl := si ho
       try have e0 : a.tmps.getD _ undef = _ := he _ (am (i := 0) rfl) (by kernel_rfl) _ rfl
       try have e1 : a.tmps.getD _ undef = _ := he _ (am (i := 1) rfl) (by kernel_rfl) _ rfl
       try have e2 : a.tmps.getD _ undef = _ := he _ (am (i := 2) rfl) (by kernel_rfl) _ rfl
       clear he
       first
       | exact wanted_off rfl (yielded_g rfl rfl (by show _ < a.tmps.size; omega) (by assumption)) (hK undef u (Below.refl _ _) (getD_put_self a _ _ (by show _ < a.tmps.size; omega)))
       | exact wanted_un rfl (yielded_u rfl rfl (by show _ < a.tmps.size; omega) (by assumption)) (hK undef u (Below.refl _ _) (getD_put_self a _ _ (by show _ < a.tmps.size; omega)))
       | (refine wanted_on rfl (yielded_g rfl rfl (by show _ < a.tmps.size; omega) (by assumption)) ?_; go_simp; exact hK _ _ (Below.refl _ _) (getD_put_self a _ _ (by show _ < a.tmps.size; omega)))
       | (go_simp; exact hK _ _ (Below.refl _ _) (getD_put_self a _ _ (by show _ < a.tmps.size; omega)))
       | (go_simp; exact hK _ _ (Below.refl _ _) ((getD_put_self a _ _ (by show _ < a.tmps.size; omega)).trans (by first | rfl | (simp; done) | (simp; omega) | (congr 1; omega))))
       | (refine wanted_on rfl (yielded_g rfl rfl (by show _ < a.tmps.size; omega) (by assumption)) ?_; go_simp; exact hK _ _ (Below.refl _ _) ((getD_put_self a _ _ (by show _ < a.tmps.size; omega)).trans (by first | rfl | (simp; done) | (simp; omega) | (congr 1; omega))))
       | (refine wanted_on rfl (yielded_g rfl rfl (by show _ < a.tmps.size; omega) (by assumption)) ?_; go_simp; go_bits; exact hK _ _ (Below.refl _ _) ((getD_put_self a _ _ (by show _ < a.tmps.size; omega)).trans (by first | rfl | (simp; done) | (simp; omega) | (congr 1; omega))))
     ·intro a u hf hR0 hp
      have hR : Grow wr u := (Below.drew (Below.refl _ _)).trans hR0
      have hB := HB.out.trans (hR.mono HB.out.size)
      have m40 : a.tmps.getD 40 undef = .bool false := hp 28 _ rfl
      clear hp hR0 hR
      obtain ⟨fq, ea, hfv⟩ := act_lit a 44 hf.size
      have md : a.defers = [] := hf.defers
      rw [md] at ea
      have m0 := hf.at_ 0 (by kernel_rfl)
      have m1 := hf.at_ 1 (by kernel_rfl)
      have m2 := hf.at_ 2 (by kernel_rfl)
      have m3 := hf.at_ 3 (by kernel_rfl)
      have m4 := hf.at_ 4 (by kernel_rfl)
      have m5 := hf.at_ 5 (by kernel_rfl)
      have m6 := hf.at_ 6 (by kernel_rfl)
      have m7 := hf.at_ 7 (by kernel_rfl)
      have m8 := hf.at_ 8 (by kernel_rfl)
      have m9 := hf.at_ 9 (by kernel_rfl)
      have m10 := hf.at_ 10 (by kernel_rfl)
      have m11 := hf.at_ 11 (by kernel_rfl)
      have m41 := hf.at_ 41 (by kernel_rfl)
      have m42 := hf.at_ 42 (by kernel_rfl)
      have m43 := hf.at_ 43 (by kernel_rfl)
      rw [← hfv] at m0 m1 m2 m3 m4 m5 m6 m7 m8 m9 m10 m11 m41 m42 m43 m40
      simp only [Array.getD_eq_getD_getElem?, List.getElem?_toArray, List.getElem?_cons_succ, List.getElem?_cons_zero, Option.getD_some] at m0 m1 m2 m3 m4 m5 m6 m7 m8 m9 m10 m11 m41 m42 m43
      simp only [List.range, List.range.loop, List.map_cons, List.map_nil, m0, m1, m2, m3, m4, m5, m6, m7, m8, m9, m10, m11, m41, m42, m43, m40] at ea
      subst ea
      clear m0 m1 m2 m3 m4 m5 m6 m7 m8 m9 m10 m11 m41 m42 m43 m40 hfv md hf
      go_wp2
      go_roundw
      case rel => exact ⟨(k + 1) + 1, by omega, by go_num, hB, HN.out⟩
      case measure => simp [intOf]; omega
    ·have HF : Hid (R = false) := by show R = false; rw [← HR.out]; exact placesOk_no hlt (by rw [placeAt_next HX.out HP.out q3 q4]; simpa using q5)
     go_wp2_with fail
     refine wp_region_dag (R := Grow) (Φ := fun i v u => match i with
       | 0 => v = .slice (some ⟨b, off, none⟩) xs.length cap
       | 1 => v = .int .i64 (((k + 1) : Nat) : Int)
       | 2 => v = .pointer (some ⟨b, off + (k + 1), none⟩)
       | 3 => v = .int .i64 x
       | 4 => v = .bool false
       | 5 => v = .bool false
       | 6 => v = .slice (some ⟨b, off, none⟩) xs.length cap
       | 7 => v = .int .i64 (((k + 1) : Nat) : Int)
       | 8 => v = .pointer (some ⟨b, off + (k + 1), none⟩)
       | 9 => v = .int .i64 x
       | 10 => v = .int .i64 n
       | 11 => v = .bool false
       | 12 => v = .bool false
       | 13 => v = .bool false
       | 14 => v = .int .i64 (((k + 1) : Nat) : Int)
       | 15 => v = .bool true
       | 16 => v = .bool true
       | 17 => v = .slice (some ⟨b, off, none⟩) xs.length cap
       | 18 => v = .int .i64 (((k + 1) : Nat) : Int)
       | 19 => v = .pointer (some ⟨b, off + (k + 1), none⟩)
       | 20 => v = .int .i64 x
       | 21 => v = .slice (some ⟨b, off, none⟩) xs.length cap
       | 22 => v = .int .i64 (((k + 1) : Nat) : Int)
       | 23 => v = .int .i64 ((k : Nat) : Int)
       | 24 => v = .pointer (some ⟨b, off + k, none⟩)
       | 25 => v = .int .i64 p
       | 26 => v = .bool true
       | 27 => v = .bool true
       | 28 => v = .bool true
       | _ => True) (by kernel_rfl) (by kernel_rfl) (by kernel_rfl) (Below.refl _ _) grow_trans ?_ ?_ ?_
     ·intro i v u u' hr
      match i with
      | 0 | 1 | 2 | 3 | 4 | 5 | 6 | 7 | 8 | 9 | 10 | 11 | 12 | 13 | 14 | 15 | 16 | 17 | 18 | 19 | 20 | 21 | 22 | 23 | 24 | 25 | 26 | 27 | 28 | _ + 29 => exact fun h => h
     ·intro i o ho a u hf hR0 he K' hK
      have hR : Grow wr u := (Below.drew (Below.refl _ _)).trans hR0
      have hsz' : a.tmps.size = 44 := hf.size
      have hus := hR.size
      have q0 : a.tmps.getD 0 undef = .slice (some ⟨b, off, none⟩) xs.length cap := hf.at_ 0 (by kernel_rfl)
      have q1 : a.tmps.getD 1 undef = .int .i64 n := hf.at_ 1 (by kernel_rfl)
      have q5 : a.tmps.getD 5 undef = .int .i64 (((k + 1) : Nat) : Int) := hf.at_ 5 (by kernel_rfl)
      have c1 : u.cell? ⟨b, off + (k + 1), none⟩ = some (.int .i64 x) := by rw [hR.cell (p := ⟨b, off + (k + 1), none⟩) (by show b < _; omega)]; exact HC1.out
      have c0 : u.cell? ⟨b, off + k, none⟩ = some (.int .i64 p) := by rw [hR.cell (p := ⟨b, off + k, none⟩) (by show b < _; omega)]; exact HC0.out
      have hkl : k < xs.length := by omega
      rcases i with _ | _ | _ | _ | _ | _ | _ | _ | _ | _ | _ | _ | _ | _ | _ | _ | _ | _ | _ | _ | _ | _ | _ | _ | _ | _ | _ | _ | _ | i
      rotate_right
      ·exact absurd ho (by simp)
      all_goals
       obtain rfl := si ho
       try have e0 : a.tmps.getD _ undef = _ := he _ (am (i := 0) rfl) (by kernel_rfl) _ rfl
       try have e1 : a.tmps.getD _ undef = _ := he _ (am (i := 1) rfl) (by kernel_rfl) _ rfl
       try have e2 : a.tmps.getD _ undef = _ := he _ (am (i := 2) rfl) (by kernel_rfl) _ rfl
       clear he
       first
       | exact wanted_off rfl (yielded_g rfl rfl (by show _ < a.tmps.size; omega) (by assumption)) (hK undef u (Below.refl _ _) (getD_put_self a _ _ (by show _ < a.tmps.size; omega)))
       | exact wanted_un rfl (yielded_u rfl rfl (by show _ < a.tmps.size; omega) (by assumption)) (hK undef u (Below.refl _ _) (getD_put_self a _ _ (by show _ < a.tmps.size; omega)))
       | (refine wanted_on rfl (yielded_g rfl rfl (by show _ < a.tmps.size; omega) (by assumption)) ?_; go_simp; exact hK _ _ (Below.refl _ _) (getD_put_self a _ _ (by show _ < a.tmps.size; omega)))
       | (go_simp; exact hK _ _ (Below.refl _ _) (getD_put_self a _ _ (by show _ < a.tmps.size; omega)))
       | (go_simp; exact hK _ _ (Below.refl _ _) ((getD_put_self a _ _ (by show _ < a.tmps.size; omega)).trans (by first | rfl | (simp; done) | (simp; omega) | (congr 1; omega))))
       | (refine wanted_on rfl (yielded_g rfl rfl (by show _ < a.tmps.size; omega) (by assumption)) ?_; go_simp; exact hK _ _ (Below.refl _ _) ((getD_put_self a _ _ (by show _ < a.tmps.size; omega)).trans (by first | rfl | (simp; done) | (simp; omega) | (congr 1; omega))))
       | (refine wanted_on rfl (yielded_g rfl rfl (by show _ < a.tmps.size; omega) (by assumption)) ?_; go_simp; go_bits; exact hK _ _ (Below.refl _ _) ((getD_put_self a _ _ (by show _ < a.tmps.size; omega)).trans (by first | rfl | (simp; done) | (simp; omega) | (congr 1; omega))))
     ·intro a u hf hR0 hp
      have hR : Grow wr u := (Below.drew (Below.refl _ _)).trans hR0
      have hB := HB.out.trans (hR.mono HB.out.size)
      have m40 : a.tmps.getD 40 undef = .bool true := hp 28 _ rfl
      clear hp hR0 hR
      obtain ⟨fq, ea, hfv⟩ := act_lit a 44 hf.size
      have md : a.defers = [] := hf.defers
      rw [md] at ea
      have m0 := hf.at_ 0 (by kernel_rfl)
      have m1 := hf.at_ 1 (by kernel_rfl)
      have m2 := hf.at_ 2 (by kernel_rfl)
      have m3 := hf.at_ 3 (by kernel_rfl)
      have m4 := hf.at_ 4 (by kernel_rfl)
      have m5 := hf.at_ 5 (by kernel_rfl)
      have m6 := hf.at_ 6 (by kernel_rfl)
      have m7 := hf.at_ 7 (by kernel_rfl)
      have m8 := hf.at_ 8 (by kernel_rfl)
      have m9 := hf.at_ 9 (by kernel_rfl)
      have m10 := hf.at_ 10 (by kernel_rfl)
      have m11 := hf.at_ 11 (by kernel_rfl)
      have m41 := hf.at_ 41 (by kernel_rfl)
      have m42 := hf.at_ 42 (by kernel_rfl)
      have m43 := hf.at_ 43 (by kernel_rfl)
      rw [← hfv] at m0 m1 m2 m3 m4 m5 m6 m7 m8 m9 m10 m11 m41 m42 m43 m40
      simp only [Array.getD_eq_getD_getElem?, List.getElem?_toArray, List.getElem?_cons_succ, List.getElem?_cons_zero, Option.getD_some] at m0 m1 m2 m3 m4 m5 m6 m7 m8 m9 m10 m11 m41 m42 m43
      simp only [List.range, List.range.loop, List.map_cons, List.map_nil, m0, m1, m2, m3, m4, m5, m6, m7, m8, m9, m10, m11, m41, m42, m43, m40] at ea
      subst ea
      clear m0 m1 m2 m3 m4 m5 m6 m7 m8 m9 m10 m11 m41 m42 m43 m40 hfv md hf
      go_wp2
      go_ret
      exact ⟨ret_bool HF.out.symm, hB⟩
  ·obtain rfl : j = xs.length := by omega
   have HF : Hid (decide (0 < xs.length) = R) := by show _ = R; rw [← HR.out, placesOk_yes HT.out]
   go_wp2
   go_ret
   exact ⟨ret_bool HF.out, hb⟩
end Go.Proofs.YtaoiookfmgpmkaaGreatDoor
