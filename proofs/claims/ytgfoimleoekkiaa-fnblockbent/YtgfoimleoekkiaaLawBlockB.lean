/-
  FnBlockBent, walked over any bytes. (Written by our generator gen_lawblock.py.)
-/
import Derived.Test.YtgfoimleoekkiaaDrawBlockC
import Derived.Test.YtgfoimleoekkiaaDrawNum
namespace Go.Proofs.Ytgfoimleoekkiaa
open Go.ChangeShapes Go.WideShapes Go.ChangeAt Go.RowKit
set_option linter.unusedVariables false
set_option linter.unusedSimpArgs false
set_option maxRecDepth 100000

theorem bent_t {b : BlockD} (h : blockOk b = true) : blockOk { b with t := 1001 } = false := by
  rcases blockOk_cases h with ⟨hk, _⟩ | ⟨hk, _⟩
  · unfold blockOk; simp only; rw [numB_kinds hk 1001]; simp
  · unfold blockOk; simp only; rw [numB_last hk 1001]; simp
theorem bent_n (b : BlockD) : blockOk { b with n := -1 } = false := by unfold blockOk numB; simp
theorem bent_kind (b : BlockD) : blockOk { b with kind := 6 } = false := by
  have h := numB_none (k := 6) (.inr (by decide)) b.n
  unfold blockOk; simp only; rw [h]; rfl
theorem new_kind {k n : Int} (h : (blockNew k n).kind ≠ 0) : numB k n = true ∧ blockNew k n = ⟨k, n, false, false, 0⟩ := by
  unfold blockNew at *
  cases hn : numB k n with
  | true => simp
  | false => rw [hn] at h; exact absurd rfl h

set_option maxHeartbeats 16000000 in
theorem fnBlockBent_walk (w : World) (x0 : Option Addr) (len0 cap0 : Nat) (b0 : Bytes8 w w.heap.size x0 len0) (lc0 : len0 ≤ cap0) (lm0 : cap0 ≤ maxLen) :
    Calls Try.prog 7 #[.slice x0 len0 cap0] w fun e w' => e = .returned (.bool true) ∧ Below w.heap.size w w' := by
  have lm0b := lm0
  unfold maxLen at lm0b
  by_cases h0 : (1048576 : Int) < len0
  · go_enter Try.func7, Try.ntmps7
    go_wp2
    go_ret
    exact ⟨rfl, Below.refl _ _⟩
  go_enter Try.func7, Try.ntmps7
  go_wp2_with fail
  refine (drawBlockOk_any w x0 len0 cap0 b0 lc0 lm0).mono ?_
  rintro e1 u1 ⟨b, rfl, g1⟩
  have s1 := g1.size
  have G1 := g1
  clear g1
  go_wp2_with (first | fail | refine wpList_allocB rfl rfl ?_)
  intro u2 g2 B_2 s2
  have G2 := G1.trans (g2.mono (by omega))
  clear G1
  clear g2
  go_wp2_with (first | fail | refine wpList_storeB (b := b) rfl _ _ rfl rfl rfl B_2 ?_)
  intro u3 L3
  have s3 := L3.size
  have B_3 := L3.cell
  have G3 := G2.trans (L3.below.mono (by omega))
  clear G2
  clear L3 B_2
  go_wp2_with (first | refine wpList_loadB rfl _ rfl rfl B_3 ?_)
  refine (drawBlockNew_any _ x0 len0 cap0 (b0.kept G3) lc0 lm0).mono ?_
  rintro e4 u4 ⟨k, n, rfl, hn0, hn1, g4⟩
  have s4 := g4.size
  have B_4 := B_3.below g4 (by omega)
  clear B_3
  have G4 := G3.trans (g4.mono (by omega))
  clear G3
  clear g4
  clear b0
  have hI1 := fun u => iBlockNew_any u k n
  have hS1 := fun u => sBlockNew_any u k n
  obtain ⟨z, hz⟩ : ∃ z, blockNew k n = z := ⟨_, rfl⟩
  rw [hz] at hI1 hS1
  have HZ : Hid (blockNew k n = z) := hz
  clear hz
  go_wp2_with (first | refine wpList_loadB rfl _ rfl rfl B_4 ?_)
  refine (hI1 _).mono ?_
  rintro e5 u5 ⟨rfl, g5⟩
  have s5 := g5.size
  have B_5 := B_4.below g5 (by omega)
  clear B_4
  have G5 := G4.trans (g5.mono (by omega))
  clear G4
  clear g5
  clear hI1
  go_wp2_with (first | refine wpList_loadB rfl _ rfl rfl B_5 ?_ | refine wpList_allocB rfl rfl ?_)
  intro u6 g6 Z_6 s6
  have B_6 := B_5.below g6 (by omega)
  clear B_5
  have G6 := G5.trans (g6.mono (by omega))
  clear G5
  clear g6
  go_wp2_with (first | refine wpList_loadB rfl _ rfl rfl B_6 ?_ | refine wpList_storeB (b := z) rfl _ _ rfl rfl rfl Z_6 ?_)
  intro u7 L7
  have s7 := L7.size
  have B_7 := L7.other B_6 (by omega)
  clear B_6
  have Z_7 := L7.cell
  have G7 := G6.trans (L7.below.mono (by omega))
  clear G6
  clear L7 Z_6
  obtain ⟨ok, hok⟩ : ∃ ok, blockOk b = ok := ⟨_, rfl⟩
  have hIo := fun u => iBlockOk_any u b
  have hSo := fun u => sBlockOk_any u b
  rw [hok] at hIo hSo
  obtain ⟨gf, hgf⟩ : ∃ gf, (ok != ok) = gf := ⟨_, rfl⟩
  obtain ⟨sf, hsf⟩ : ∃ sf, (!sameB z z) = sf := ⟨_, rfl⟩
  have hne := fun u => neq_block z z u
  rw [hsf] at hne
  have hgd := fun op x y u => guard_block op x y z z u
  have HF : Hid (gf = false ∧ sf = false) := ⟨by rw [← hgf]; cases ok <;> rfl, by rw [← hsf, sameB_self]; rfl⟩
  clear hsf
  go_wp2_with fail
  refine wp_region_dag (R := Grow) (Φ := fun i v u => match i with
      | 0 => v = b.val
      | 1 => v = .bool ok
      | 2 => v = b.val
      | 3 => v = .bool ok
      | 4 => v = .bool gf
      | 5 => v = .bool gf
      | 6 => v = cond gf undef (z.val)
      | 7 => v = cond gf undef (.int .i64 k)
      | 8 => v = cond gf undef (.int .i64 n)
      | 9 => v = cond gf undef (z.val)
      | 10 => v = cond gf undef (.bool sf)
      | 11 => v = .bool (gf || sf)
      | _ => True) (by kernel_rfl) (by kernel_rfl) (by kernel_rfl) (Below.refl _ _) grow_trans ?_ ?_ ?_
  · intro i v u u' hr
    match i with
    | 0 | 1 | 2 | 3 | 4 | 5 | 6 | 7 | 8 | 9 | 10 | 11 | _ + 12 => exact fun h => h
  · intro i o ho a u hf hR0 he K' hK
    have hR : Grow u7 u := (Below.drew (Below.refl _ _)).trans hR0
    have hsz' : a.tmps.size = 78 := hf.size
    have hus := hR.size
    rcases i with _ | _ | _ | _ | _ | _ | _ | _ | _ | _ | _ | _ | i
    · obtain rfl := Option.some.inj ho
      have q3 : a.tmps.getD 3 undef = .pointer (some ⟨u1.heap.size, 0, none⟩) := hf.at_ 3 (by kernel_rfl)
      have cu0 := B_7.below hR (by omega)
      clear he
      refine wanted_none rfl ?_
      refine wp_loadB (Operand.tmp 3) rfl q3 cu0 ?_
      exact hK _ _ (Below.refl _ _) (getD_put_self a 23 _ (by show _ < a.tmps.size; omega))
    · obtain rfl := Option.some.inj ho
      have q23 : a.tmps.getD 23 undef = b.val := he _ (Array.mem_of_getElem? (i := 0) rfl) (by kernel_rfl) _ rfl
      clear he
      go_simp
      refine (hIo _).mono ?_
      rintro e1 u' ⟨rfl, hbu⟩
      exact hK _ _ hbu (getD_put_self a 24 _ (by show _ < a.tmps.size; omega))
    · obtain rfl := Option.some.inj ho
      have q3 : a.tmps.getD 3 undef = .pointer (some ⟨u1.heap.size, 0, none⟩) := hf.at_ 3 (by kernel_rfl)
      have cu2 := B_7.below hR (by omega)
      clear he
      refine wanted_none rfl ?_
      refine wp_loadB (Operand.tmp 3) rfl q3 cu2 ?_
      exact hK _ _ (Below.refl _ _) (getD_put_self a 25 _ (by show _ < a.tmps.size; omega))
    · obtain rfl := Option.some.inj ho
      have q25 : a.tmps.getD 25 undef = b.val := he _ (Array.mem_of_getElem? (i := 0) rfl) (by kernel_rfl) _ rfl
      clear he
      go_simp
      refine (hSo _).mono ?_
      rintro e1 u' ⟨rfl, hbu⟩
      exact hK _ _ hbu (getD_put_self a 26 _ (by show _ < a.tmps.size; omega))
    · obtain rfl := Option.some.inj ho
      have q24 : a.tmps.getD 24 undef = .bool ok := he _ (Array.mem_of_getElem? (i := 0) rfl) (by kernel_rfl) _ rfl
      have q26 : a.tmps.getD 26 undef = .bool ok := he _ (Array.mem_of_getElem? (i := 1) rfl) (by kernel_rfl) _ rfl
      clear he
      go_simp
      exact hK _ _ (Below.refl _ _) ((getD_put_self a 27 _ (by show _ < a.tmps.size; omega)).trans (by rw [HF.out.1]))
    · obtain rfl := Option.some.inj ho
      have q27 : a.tmps.getD 27 undef = .bool gf := he _ (Array.mem_of_getElem? (i := 0) rfl) (by kernel_rfl) _ rfl
      clear he
      go_simp
      exact hK _ _ (Below.refl _ _) (getD_put_self a 28 _ (by show _ < a.tmps.size; omega))
    · obtain rfl := Option.some.inj ho
      have qg : a.tmps.getD 28 undef = .bool gf := he _ (Array.mem_of_getElem? (i := 0) rfl) (by kernel_rfl) _ rfl
      cases gf with
      | true =>
        refine wanted_off rfl (yielded_g (i := 5) rfl rfl (by show 28 < a.tmps.size; omega) qg) ?_
        exact hK undef u (Below.refl _ _) (getD_put_self a 29 _ (by show _ < a.tmps.size; omega))
      | false =>
        have q6 : a.tmps.getD 6 undef = .pointer (some ⟨u5.heap.size, 0, none⟩) := hf.at_ 6 (by kernel_rfl)
        have cu6 := Z_7.below hR (by omega)
        clear he
        refine wanted_on rfl (yielded_g (i := 5) rfl rfl (by show 28 < a.tmps.size; omega) qg) ?_
        refine wp_loadB (Operand.tmp 6) rfl q6 cu6 ?_
        exact hK _ _ (Below.refl _ _) (getD_put_self a 29 _ (by show _ < a.tmps.size; omega))
    · obtain rfl := Option.some.inj ho
      have qg : a.tmps.getD 28 undef = .bool gf := he _ (Array.mem_of_getElem? (i := 0) rfl) (by kernel_rfl) _ rfl
      cases gf with
      | true =>
        refine wanted_off rfl (yielded_g (i := 5) rfl rfl (by show 28 < a.tmps.size; omega) qg) ?_
        exact hK undef u (Below.refl _ _) (getD_put_self a 30 _ (by show _ < a.tmps.size; omega))
      | false =>
        have q4 : a.tmps.getD 4 undef = .int .i64 k := hf.at_ 4 (by kernel_rfl)
        clear he
        refine wanted_on rfl (yielded_g (i := 5) rfl rfl (by show 28 < a.tmps.size; omega) qg) ?_
        go_simp
        exact hK _ _ (Below.refl _ _) (getD_put_self a 30 _ (by show _ < a.tmps.size; omega))
    · obtain rfl := Option.some.inj ho
      have qg : a.tmps.getD 28 undef = .bool gf := he _ (Array.mem_of_getElem? (i := 0) rfl) (by kernel_rfl) _ rfl
      cases gf with
      | true =>
        refine wanted_off rfl (yielded_g (i := 5) rfl rfl (by show 28 < a.tmps.size; omega) qg) ?_
        exact hK undef u (Below.refl _ _) (getD_put_self a 31 _ (by show _ < a.tmps.size; omega))
      | false =>
        have q5 : a.tmps.getD 5 undef = .int .i64 n := hf.at_ 5 (by kernel_rfl)
        clear he
        refine wanted_on rfl (yielded_g (i := 5) rfl rfl (by show 28 < a.tmps.size; omega) qg) ?_
        go_simp
        exact hK _ _ (Below.refl _ _) (getD_put_self a 31 _ (by show _ < a.tmps.size; omega))
    · obtain rfl := Option.some.inj ho
      have qg : a.tmps.getD 28 undef = .bool gf := he _ (Array.mem_of_getElem? (i := 2) rfl) (by kernel_rfl) _ rfl
      cases gf with
      | true =>
        refine wanted_off rfl (yielded_g (i := 5) rfl rfl (by show 28 < a.tmps.size; omega) qg) ?_
        exact hK undef u (Below.refl _ _) (getD_put_self a 32 _ (by show _ < a.tmps.size; omega))
      | false =>
        have q30 : a.tmps.getD 30 undef = .int .i64 k := he _ (Array.mem_of_getElem? (i := 0) rfl) (by kernel_rfl) _ rfl
        have q31 : a.tmps.getD 31 undef = .int .i64 n := he _ (Array.mem_of_getElem? (i := 1) rfl) (by kernel_rfl) _ rfl
        clear he
        refine wanted_on rfl (yielded_g (i := 5) rfl rfl (by show 28 < a.tmps.size; omega) qg) ?_
        go_simp
        refine (hS1 _).mono ?_
        rintro e1 u' ⟨rfl, hbu⟩
        exact hK _ _ hbu (getD_put_self a 32 _ (by show _ < a.tmps.size; omega))
    · obtain rfl := Option.some.inj ho
      have qg : a.tmps.getD 28 undef = .bool gf := he _ (Array.mem_of_getElem? (i := 2) rfl) (by kernel_rfl) _ rfl
      cases gf with
      | true =>
        refine wanted_off rfl (yielded_g (i := 5) rfl rfl (by show 28 < a.tmps.size; omega) qg) ?_
        exact hK undef u (Below.refl _ _) (getD_put_self a 33 _ (by show _ < a.tmps.size; omega))
      | false =>
        have q29 : a.tmps.getD 29 undef = z.val := he _ (Array.mem_of_getElem? (i := 0) rfl) (by kernel_rfl) _ rfl
        have q32 : a.tmps.getD 32 undef = z.val := he _ (Array.mem_of_getElem? (i := 1) rfl) (by kernel_rfl) _ rfl
        clear he
        refine wanted_on rfl (yielded_g (i := 5) rfl rfl (by show 28 < a.tmps.size; omega) qg) ?_
        go_simp
        exact hK _ _ (Below.refl _ _) (getD_put_self a 33 _ (by show _ < a.tmps.size; omega))
    · obtain rfl := Option.some.inj ho
      cases gf with
      | true =>
        have q28 : a.tmps.getD 28 undef = .bool true := he _ (Array.mem_of_getElem? (i := 0) rfl) (by kernel_rfl) _ rfl
        clear he
        go_simp
        exact hK _ _ (Below.refl _ _) (getD_put_self a 34 _ (by show _ < a.tmps.size; omega))
      | false =>
        have q28 : a.tmps.getD 28 undef = .bool false := he _ (Array.mem_of_getElem? (i := 0) rfl) (by kernel_rfl) _ rfl
        have q33 : a.tmps.getD 33 undef = .bool sf := he _ (Array.mem_of_getElem? (i := 1) rfl) (by kernel_rfl) _ rfl
        clear he
        go_simp
        exact hK _ _ (Below.refl _ _) (getD_put_self a 34 _ (by show _ < a.tmps.size; omega))
    · exact absurd ho (by simp)
  · intro a u8 hf hR0 hp
    have g8 : Grow u7 u8 := (Below.drew (Below.refl _ _)).trans hR0
    have m34 : a.tmps.getD 34 undef = .bool (gf || sf) := hp 11 _ rfl
    rw [HF.out.1, HF.out.2] at m34
    simp only [Bool.or_self] at m34
    clear hp hR0 hIo hSo hS1 hne hgd hgf HF
    have s8 := g8.size
    have B_8 := B_7.below g8 (by omega)
    clear B_7
    have Z_8 := Z_7.below g8 (by omega)
    clear Z_7
    have G8 := G7.trans (g8.mono (by omega))
    clear G7
    clear g8
    obtain ⟨fq, ea, hfv⟩ := act_lit a 78 hf.size
    have md : a.defers = [] := hf.defers
    rw [md] at ea
    have m0 := hf.at_ 0 (by kernel_rfl)
    have m1 := hf.at_ 1 (by kernel_rfl)
    have m2 := hf.at_ 2 (by kernel_rfl)
    have m3 := hf.at_ 3 (by kernel_rfl)
    have m4 := hf.at_ 4 (by kernel_rfl)
    have m5 := hf.at_ 5 (by kernel_rfl)
    have m6 := hf.at_ 6 (by kernel_rfl)
    have m7 := hf.at_ 7 (by kernel_rfl)
    have m8 := hf.at_ 8 (by kernel_rfl)
    have m9 := hf.at_ 9 (by kernel_rfl)
    have m10 := hf.at_ 10 (by kernel_rfl)
    have m11 := hf.at_ 11 (by kernel_rfl)
    have m12 := hf.at_ 12 (by kernel_rfl)
    have m13 := hf.at_ 13 (by kernel_rfl)
    have m14 := hf.at_ 14 (by kernel_rfl)
    have m15 := hf.at_ 15 (by kernel_rfl)
    have m16 := hf.at_ 16 (by kernel_rfl)
    have m17 := hf.at_ 17 (by kernel_rfl)
    have m18 := hf.at_ 18 (by kernel_rfl)
    have m19 := hf.at_ 19 (by kernel_rfl)
    have m20 := hf.at_ 20 (by kernel_rfl)
    have m21 := hf.at_ 21 (by kernel_rfl)
    have m22 := hf.at_ 22 (by kernel_rfl)
    have m35 := hf.at_ 35 (by kernel_rfl)
    have m36 := hf.at_ 36 (by kernel_rfl)
    have m37 := hf.at_ 37 (by kernel_rfl)
    have m38 := hf.at_ 38 (by kernel_rfl)
    have m39 := hf.at_ 39 (by kernel_rfl)
    have m40 := hf.at_ 40 (by kernel_rfl)
    have m41 := hf.at_ 41 (by kernel_rfl)
    have m42 := hf.at_ 42 (by kernel_rfl)
    have m43 := hf.at_ 43 (by kernel_rfl)
    have m44 := hf.at_ 44 (by kernel_rfl)
    have m45 := hf.at_ 45 (by kernel_rfl)
    have m46 := hf.at_ 46 (by kernel_rfl)
    have m47 := hf.at_ 47 (by kernel_rfl)
    have m48 := hf.at_ 48 (by kernel_rfl)
    have m49 := hf.at_ 49 (by kernel_rfl)
    have m50 := hf.at_ 50 (by kernel_rfl)
    have m51 := hf.at_ 51 (by kernel_rfl)
    have m52 := hf.at_ 52 (by kernel_rfl)
    have m53 := hf.at_ 53 (by kernel_rfl)
    have m54 := hf.at_ 54 (by kernel_rfl)
    have m55 := hf.at_ 55 (by kernel_rfl)
    have m56 := hf.at_ 56 (by kernel_rfl)
    have m57 := hf.at_ 57 (by kernel_rfl)
    have m58 := hf.at_ 58 (by kernel_rfl)
    have m59 := hf.at_ 59 (by kernel_rfl)
    have m60 := hf.at_ 60 (by kernel_rfl)
    have m61 := hf.at_ 61 (by kernel_rfl)
    have m62 := hf.at_ 62 (by kernel_rfl)
    have m63 := hf.at_ 63 (by kernel_rfl)
    have m64 := hf.at_ 64 (by kernel_rfl)
    have m65 := hf.at_ 65 (by kernel_rfl)
    have m66 := hf.at_ 66 (by kernel_rfl)
    have m67 := hf.at_ 67 (by kernel_rfl)
    have m68 := hf.at_ 68 (by kernel_rfl)
    have m69 := hf.at_ 69 (by kernel_rfl)
    have m70 := hf.at_ 70 (by kernel_rfl)
    have m71 := hf.at_ 71 (by kernel_rfl)
    have m72 := hf.at_ 72 (by kernel_rfl)
    have m73 := hf.at_ 73 (by kernel_rfl)
    have m74 := hf.at_ 74 (by kernel_rfl)
    have m75 := hf.at_ 75 (by kernel_rfl)
    have m76 := hf.at_ 76 (by kernel_rfl)
    have m77 := hf.at_ 77 (by kernel_rfl)
    rw [← hfv] at m0 m1 m2 m3 m4 m5 m6 m7 m8 m9 m10 m11 m12 m13 m14 m15 m16 m17 m18 m19 m20 m21 m22 m35 m36 m37 m38 m39 m40 m41 m42 m43 m44 m45 m46 m47 m48 m49 m50 m51 m52 m53 m54 m55 m56 m57 m58 m59 m60 m61 m62 m63 m64 m65 m66 m67 m68 m69 m70 m71 m72 m73 m74 m75 m76 m77 m34
    simp only [Array.getD_eq_getD_getElem?, List.getElem?_toArray, List.getElem?_cons_succ, List.getElem?_cons_zero, Option.getD_some] at m0 m1 m2 m3 m4 m5 m6 m7 m8 m9 m10 m11 m12 m13 m14 m15 m16 m17 m18 m19 m20 m21 m22 m35 m36 m37 m38 m39 m40 m41 m42 m43 m44 m45 m46 m47 m48 m49 m50 m51 m52 m53 m54 m55 m56 m57 m58 m59 m60 m61 m62 m63 m64 m65 m66 m67 m68 m69 m70 m71 m72 m73 m74 m75 m76 m77
    simp only [List.range, List.range.loop, List.map_cons, List.map_nil, m0, m1, m2, m3, m4, m5, m6, m7, m8, m9, m10, m11, m12, m13, m14, m15, m16, m17, m18, m19, m20, m21, m22, m35, m36, m37, m38, m39, m40, m41, m42, m43, m44, m45, m46, m47, m48, m49, m50, m51, m52, m53, m54, m55, m56, m57, m58, m59, m60, m61, m62, m63, m64, m65, m66, m67, m68, m69, m70, m71, m72, m73, m74, m75, m76, m77, m34] at ea
    subst ea
    clear m0 m1 m2 m3 m4 m5 m6 m7 m8 m9 m10 m11 m12 m13 m14 m15 m16 m17 m18 m19 m20 m21 m22 m35 m36 m37 m38 m39 m40 m41 m42 m43 m44 m45 m46 m47 m48 m49 m50 m51 m52 m53 m54 m55 m56 m57 m58 m59 m60 m61 m62 m63 m64 m65 m66 m67 m68 m69 m70 m71 m72 m73 m74 m75 m76 m77 m34 hfv md hf
    obtain ⟨zc0, zc1, zc2, zc3, zc4, _⟩ := id Z_8
    try simp only at zc0 zc1 zc2 zc3 zc4
    obtain ⟨bc0, bc1, bc2, bc3, bc4, _⟩ := id B_8
    try simp only at bc0 bc1 bc2 bc3 bc4
    have hIz := fun u => iBlockOk_any u z
    have hI := fun u c => iBlockOk_any u c
    by_cases z0 : z.kind = 0
    · have z0' : (z.kind != 0) = false := by simp [z0]
      clear z0
      go_wp2_with fail
      refine (sBlockOk_any _ b).mono ?_
      rintro e9 u9 ⟨rfl, g9⟩
      have s9 := g9.size
      clear zc0 zc1 zc2 zc3 zc4 bc0 bc1 bc2 bc3 bc4
      have B_9 := B_8.below g9 (by omega)
      clear B_8
      have Z_9 := Z_8.below g9 (by omega)
      clear Z_8
      have G9 := G8.trans (g9.mono (by omega))
      clear G8
      clear g9
      rw [hok]
      cases ok with
      | false =>
        go_wp2
        go_ret
        exact ⟨rfl, G9⟩
      | true =>
        obtain ⟨bc0, bc1, bc2, bc3, bc4, _⟩ := id B_9
        go_wp2_with (first | refine wpList_loadB rfl _ rfl rfl B_9 ?_ | refine wpList_loadB rfl _ rfl rfl Z_9 ?_ | refine wpList_allocB rfl rfl ?_)
        intro u10 g10 C_10 s10
        have B_10 := B_9.below g10 (by omega)
        clear B_9
        have Z_10 := Z_9.below g10 (by omega)
        clear Z_9
        have G10 := G9.trans (g10.mono (by omega))
        clear G9
        clear g10
        go_wp2_with (first | refine wpList_loadB rfl _ rfl rfl B_10 ?_ | refine wpList_loadB rfl _ rfl rfl Z_10 ?_ | refine wpList_storeB (b := b) rfl _ _ rfl rfl rfl C_10 ?_)
        intro u11 L11
        have s11 := L11.size
        have B_11 := L11.other B_10 (by omega)
        clear B_10
        have Z_11 := L11.other Z_10 (by omega)
        clear Z_10
        have C_11 := L11.cell
        have G11 := G10.trans (L11.below.mono (by omega))
        clear G10
        clear L11 C_10
        go_wp2_with (first | refine wpList_loadB rfl _ rfl rfl B_11 ?_ | refine wpList_loadB rfl _ rfl rfl Z_11 ?_ | refine wpList_storeT rfl _ _ rfl rfl rfl C_11 ?_)
        intro u12 L12
        have s12 := L12.size
        have B_12 := L12.other B_11 (by omega)
        clear B_11
        have Z_12 := L12.other Z_11 (by omega)
        clear Z_11
        have C_12 := L12.cell
        have G12 := G11.trans (L12.below.mono (by omega))
        clear G11
        clear L12 C_11
        go_wp2_with (first | refine wpList_loadB rfl _ rfl rfl B_12 ?_ | refine wpList_loadB rfl _ rfl rfl Z_12 ?_ | refine wpList_loadB rfl _ rfl rfl C_12 ?_ | refine wpList_allocB rfl rfl ?_)
        intro u13 g13 D_13 s13
        have B_13 := B_12.below g13 (by omega)
        clear B_12
        have Z_13 := Z_12.below g13 (by omega)
        clear Z_12
        have C_13 := C_12.below g13 (by omega)
        clear C_12
        have G13 := G12.trans (g13.mono (by omega))
        clear G12
        clear g13
        go_wp2_with (first | refine wpList_loadB rfl _ rfl rfl B_13 ?_ | refine wpList_loadB rfl _ rfl rfl Z_13 ?_ | refine wpList_loadB rfl _ rfl rfl C_13 ?_ | refine wpList_storeB (b := b) rfl _ _ rfl rfl rfl D_13 ?_)
        intro u14 L14
        have s14 := L14.size
        have B_14 := L14.other B_13 (by omega)
        clear B_13
        have Z_14 := L14.other Z_13 (by omega)
        clear Z_13
        have C_14 := L14.other C_13 (by omega)
        clear C_13
        have D_14 := L14.cell
        have G14 := G13.trans (L14.below.mono (by omega))
        clear G13
        clear L14 D_13
        go_wp2_with (first | refine wpList_loadB rfl _ rfl rfl B_14 ?_ | refine wpList_loadB rfl _ rfl rfl Z_14 ?_ | refine wpList_loadB rfl _ rfl rfl C_14 ?_ | refine wpList_storeN rfl _ _ rfl rfl rfl D_14 ?_)
        intro u15 L15
        have s15 := L15.size
        have B_15 := L15.other B_14 (by omega)
        clear B_14
        have Z_15 := L15.other Z_14 (by omega)
        clear Z_14
        have C_15 := L15.other C_14 (by omega)
        clear C_14
        have D_15 := L15.cell
        have G15 := G14.trans (L15.below.mono (by omega))
        clear G14
        clear L15 D_14
        go_wp2_with (first | refine wpList_loadB rfl _ rfl rfl B_15 ?_ | refine wpList_loadB rfl _ rfl rfl Z_15 ?_ | refine wpList_loadB rfl _ rfl rfl C_15 ?_ | refine wpList_loadB rfl _ rfl rfl D_15 ?_ | refine wpList_allocB rfl rfl ?_)
        intro u16 g16 E_16 s16
        have B_16 := B_15.below g16 (by omega)
        clear B_15
        have Z_16 := Z_15.below g16 (by omega)
        clear Z_15
        have C_16 := C_15.below g16 (by omega)
        clear C_15
        have D_16 := D_15.below g16 (by omega)
        clear D_15
        have G16 := G15.trans (g16.mono (by omega))
        clear G15
        clear g16
        go_wp2_with (first | refine wpList_loadB rfl _ rfl rfl B_16 ?_ | refine wpList_loadB rfl _ rfl rfl Z_16 ?_ | refine wpList_loadB rfl _ rfl rfl C_16 ?_ | refine wpList_loadB rfl _ rfl rfl D_16 ?_ | refine wpList_storeB (b := b) rfl _ _ rfl rfl rfl E_16 ?_)
        intro u17 L17
        have s17 := L17.size
        have B_17 := L17.other B_16 (by omega)
        clear B_16
        have Z_17 := L17.other Z_16 (by omega)
        clear Z_16
        have C_17 := L17.other C_16 (by omega)
        clear C_16
        have D_17 := L17.other D_16 (by omega)
        clear D_16
        have E_17 := L17.cell
        have G17 := G16.trans (L17.below.mono (by omega))
        clear G16
        clear L17 E_16
        go_wp2_with (first | refine wpList_loadB rfl _ rfl rfl B_17 ?_ | refine wpList_loadB rfl _ rfl rfl Z_17 ?_ | refine wpList_loadB rfl _ rfl rfl C_17 ?_ | refine wpList_loadB rfl _ rfl rfl D_17 ?_ | refine wpList_storeK rfl _ _ rfl rfl rfl E_17 ?_)
        intro u18 L18
        have s18 := L18.size
        have B_18 := L18.other B_17 (by omega)
        clear B_17
        have Z_18 := L18.other Z_17 (by omega)
        clear Z_17
        have C_18 := L18.other C_17 (by omega)
        clear C_17
        have D_18 := L18.other D_17 (by omega)
        clear D_17
        have E_18 := L18.cell
        have G18 := G17.trans (L18.below.mono (by omega))
        clear G17
        clear L18 E_17
        obtain ⟨qc0, qc1, qc2, qc3, qc4, _⟩ := id C_18
        try simp only at qc0 qc1 qc2 qc3 qc4
        obtain ⟨qd0, qd1, qd2, qd3, qd4, _⟩ := id D_18
        try simp only at qd0 qd1 qd2 qd3 qd4
        obtain ⟨qe0, qe1, qe2, qe3, qe4, _⟩ := id E_18
        try simp only at qe0 qe1 qe2 qe3 qe4
        go_wp2_with fail
        refine (iBlockOk_any _ { b with t := 1001 }).mono ?_
        rw [bent_t hok]
        rintro e19 u19 ⟨rfl, g19⟩
        have s19 := g19.size
        clear qc0 qc1 qc2 qc3 qc4
        clear qd0 qd1 qd2 qd3 qd4
        clear qe0 qe1 qe2 qe3 qe4
        have B_19 := B_18.below g19 (by omega)
        clear B_18
        have Z_19 := Z_18.below g19 (by omega)
        clear Z_18
        have C_19 := C_18.below g19 (by omega)
        clear C_18
        have D_19 := D_18.below g19 (by omega)
        clear D_18
        have E_19 := E_18.below g19 (by omega)
        clear E_18
        have G19 := G18.trans (g19.mono (by omega))
        clear G18
        clear g19
        obtain ⟨qc0, qc1, qc2, qc3, qc4, _⟩ := id C_19
        try simp only at qc0 qc1 qc2 qc3 qc4
        obtain ⟨qd0, qd1, qd2, qd3, qd4, _⟩ := id D_19
        try simp only at qd0 qd1 qd2 qd3 qd4
        obtain ⟨qe0, qe1, qe2, qe3, qe4, _⟩ := id E_19
        try simp only at qe0 qe1 qe2 qe3 qe4
        go_wp2_with fail
        refine (iBlockOk_any _ { b with n := -1 }).mono ?_
        rw [bent_n b]
        rintro e20 u20 ⟨rfl, g20⟩
        have s20 := g20.size
        clear qc0 qc1 qc2 qc3 qc4
        clear qd0 qd1 qd2 qd3 qd4
        clear qe0 qe1 qe2 qe3 qe4
        have B_20 := B_19.below g20 (by omega)
        clear B_19
        have Z_20 := Z_19.below g20 (by omega)
        clear Z_19
        have C_20 := C_19.below g20 (by omega)
        clear C_19
        have D_20 := D_19.below g20 (by omega)
        clear D_19
        have E_20 := E_19.below g20 (by omega)
        clear E_19
        have G20 := G19.trans (g20.mono (by omega))
        clear G19
        clear g20
        obtain ⟨qc0, qc1, qc2, qc3, qc4, _⟩ := id C_20
        try simp only at qc0 qc1 qc2 qc3 qc4
        obtain ⟨qd0, qd1, qd2, qd3, qd4, _⟩ := id D_20
        try simp only at qd0 qd1 qd2 qd3 qd4
        obtain ⟨qe0, qe1, qe2, qe3, qe4, _⟩ := id E_20
        try simp only at qe0 qe1 qe2 qe3 qe4
        go_wp2_with fail
        refine (iBlockOk_any _ { b with kind := 6 }).mono ?_
        rw [bent_kind b]
        rintro e21 u21 ⟨rfl, g21⟩
        have s21 := g21.size
        clear qc0 qc1 qc2 qc3 qc4
        clear qd0 qd1 qd2 qd3 qd4
        clear qe0 qe1 qe2 qe3 qe4
        have B_21 := B_20.below g21 (by omega)
        clear B_20
        have Z_21 := Z_20.below g21 (by omega)
        clear Z_20
        have C_21 := C_20.below g21 (by omega)
        clear C_20
        have D_21 := D_20.below g21 (by omega)
        clear D_20
        have E_21 := E_20.below g21 (by omega)
        clear E_20
        have G21 := G20.trans (g21.mono (by omega))
        clear G20
        clear g21
        obtain ⟨qc0, qc1, qc2, qc3, qc4, _⟩ := id C_21
        try simp only at qc0 qc1 qc2 qc3 qc4
        obtain ⟨qd0, qd1, qd2, qd3, qd4, _⟩ := id D_21
        try simp only at qd0 qd1 qd2 qd3 qd4
        obtain ⟨qe0, qe1, qe2, qe3, qe4, _⟩ := id E_21
        try simp only at qe0 qe1 qe2 qe3 qe4
        go_wp2
        go_ret
        exact ⟨rfl, G21⟩
    have z0' : (z.kind != 0) = true := by simpa using z0
    obtain ⟨hzn, hzz⟩ := new_kind (k := k) (n := n) (by rw [HZ.out]; exact z0)
    have hzo := blockNew_ok hzn
    rw [HZ.out] at hzz hzo
    have e2 : z.on = false := by rw [hzz]
    have e3 : z.was = false := by rw [hzz]
    have e4 : z.t = 0 := by rw [hzz]
    rw [e2] at zc2
    rw [e3] at zc3
    rw [e4] at zc4
    have E234 : Hid (z.on = false ∧ z.was = false ∧ z.t = 0) := ⟨e2, e3, e4⟩
    clear e2 e3 e4 hzz hzn z0
    go_wp2_with fail
    refine Calls.mono (f := 15) (R := fun e w' => e = .returned (.bool true) ∧ Below u8.heap.size u8 w') ?_ ?_
    · have hh := iBlockOk_any u8 z
      rw [hzo] at hh
      unfold BlockD.val at hh
      rw [E234.out.1, E234.out.2.1, E234.out.2.2] at hh
      exact hh
    rintro e9 u9 ⟨rfl, g9⟩
    have s9 := g9.size
    clear zc0 zc1 zc2 zc3 zc4 bc0 bc1 bc2 bc3 bc4
    have B_9 := B_8.below g9 (by omega)
    clear B_8
    have Z_9 := Z_8.below g9 (by omega)
    clear Z_8
    have G9 := G8.trans (g9.mono (by omega))
    clear G8
    clear g9
    obtain ⟨zc0, zc1, zc2, zc3, zc4, _⟩ := id Z_9
    try simp only at zc0 zc1 zc2 zc3 zc4
    obtain ⟨bc0, bc1, bc2, bc3, bc4, _⟩ := id B_9
    try simp only at bc0 bc1 bc2 bc3 bc4
    rw [E234.out.1] at zc2
    rw [E234.out.2.1] at zc3
    rw [E234.out.2.2] at zc4
    go_wp2_with fail
    refine (sBlockOk_any _ b).mono ?_
    rintro e10 u10 ⟨rfl, g10⟩
    have s10 := g10.size
    clear zc0 zc1 zc2 zc3 zc4 bc0 bc1 bc2 bc3 bc4
    have B_10 := B_9.below g10 (by omega)
    clear B_9
    have Z_10 := Z_9.below g10 (by omega)
    clear Z_9
    have G10 := G9.trans (g10.mono (by omega))
    clear G9
    clear g10
    rw [hok]
    cases ok with
    | false =>
      go_wp2
      go_ret
      exact ⟨rfl, G10⟩
    | true =>
      obtain ⟨bc0, bc1, bc2, bc3, bc4, _⟩ := id B_10
      go_wp2_with (first | refine wpList_loadB rfl _ rfl rfl B_10 ?_ | refine wpList_loadB rfl _ rfl rfl Z_10 ?_ | refine wpList_allocB rfl rfl ?_)
      intro u11 g11 C_11 s11
      have B_11 := B_10.below g11 (by omega)
      clear B_10
      have Z_11 := Z_10.below g11 (by omega)
      clear Z_10
      have G11 := G10.trans (g11.mono (by omega))
      clear G10
      clear g11
      go_wp2_with (first | refine wpList_loadB rfl _ rfl rfl B_11 ?_ | refine wpList_loadB rfl _ rfl rfl Z_11 ?_ | refine wpList_storeB (b := b) rfl _ _ rfl rfl rfl C_11 ?_)
      intro u12 L12
      have s12 := L12.size
      have B_12 := L12.other B_11 (by omega)
      clear B_11
      have Z_12 := L12.other Z_11 (by omega)
      clear Z_11
      have C_12 := L12.cell
      have G12 := G11.trans (L12.below.mono (by omega))
      clear G11
      clear L12 C_11
      go_wp2_with (first | refine wpList_loadB rfl _ rfl rfl B_12 ?_ | refine wpList_loadB rfl _ rfl rfl Z_12 ?_ | refine wpList_storeT rfl _ _ rfl rfl rfl C_12 ?_)
      intro u13 L13
      have s13 := L13.size
      have B_13 := L13.other B_12 (by omega)
      clear B_12
      have Z_13 := L13.other Z_12 (by omega)
      clear Z_12
      have C_13 := L13.cell
      have G13 := G12.trans (L13.below.mono (by omega))
      clear G12
      clear L13 C_12
      go_wp2_with (first | refine wpList_loadB rfl _ rfl rfl B_13 ?_ | refine wpList_loadB rfl _ rfl rfl Z_13 ?_ | refine wpList_loadB rfl _ rfl rfl C_13 ?_ | refine wpList_allocB rfl rfl ?_)
      intro u14 g14 D_14 s14
      have B_14 := B_13.below g14 (by omega)
      clear B_13
      have Z_14 := Z_13.below g14 (by omega)
      clear Z_13
      have C_14 := C_13.below g14 (by omega)
      clear C_13
      have G14 := G13.trans (g14.mono (by omega))
      clear G13
      clear g14
      go_wp2_with (first | refine wpList_loadB rfl _ rfl rfl B_14 ?_ | refine wpList_loadB rfl _ rfl rfl Z_14 ?_ | refine wpList_loadB rfl _ rfl rfl C_14 ?_ | refine wpList_storeB (b := b) rfl _ _ rfl rfl rfl D_14 ?_)
      intro u15 L15
      have s15 := L15.size
      have B_15 := L15.other B_14 (by omega)
      clear B_14
      have Z_15 := L15.other Z_14 (by omega)
      clear Z_14
      have C_15 := L15.other C_14 (by omega)
      clear C_14
      have D_15 := L15.cell
      have G15 := G14.trans (L15.below.mono (by omega))
      clear G14
      clear L15 D_14
      go_wp2_with (first | refine wpList_loadB rfl _ rfl rfl B_15 ?_ | refine wpList_loadB rfl _ rfl rfl Z_15 ?_ | refine wpList_loadB rfl _ rfl rfl C_15 ?_ | refine wpList_storeN rfl _ _ rfl rfl rfl D_15 ?_)
      intro u16 L16
      have s16 := L16.size
      have B_16 := L16.other B_15 (by omega)
      clear B_15
      have Z_16 := L16.other Z_15 (by omega)
      clear Z_15
      have C_16 := L16.other C_15 (by omega)
      clear C_15
      have D_16 := L16.cell
      have G16 := G15.trans (L16.below.mono (by omega))
      clear G15
      clear L16 D_15
      go_wp2_with (first | refine wpList_loadB rfl _ rfl rfl B_16 ?_ | refine wpList_loadB rfl _ rfl rfl Z_16 ?_ | refine wpList_loadB rfl _ rfl rfl C_16 ?_ | refine wpList_loadB rfl _ rfl rfl D_16 ?_ | refine wpList_allocB rfl rfl ?_)
      intro u17 g17 E_17 s17
      have B_17 := B_16.below g17 (by omega)
      clear B_16
      have Z_17 := Z_16.below g17 (by omega)
      clear Z_16
      have C_17 := C_16.below g17 (by omega)
      clear C_16
      have D_17 := D_16.below g17 (by omega)
      clear D_16
      have G17 := G16.trans (g17.mono (by omega))
      clear G16
      clear g17
      go_wp2_with (first | refine wpList_loadB rfl _ rfl rfl B_17 ?_ | refine wpList_loadB rfl _ rfl rfl Z_17 ?_ | refine wpList_loadB rfl _ rfl rfl C_17 ?_ | refine wpList_loadB rfl _ rfl rfl D_17 ?_ | refine wpList_storeB (b := b) rfl _ _ rfl rfl rfl E_17 ?_)
      intro u18 L18
      have s18 := L18.size
      have B_18 := L18.other B_17 (by omega)
      clear B_17
      have Z_18 := L18.other Z_17 (by omega)
      clear Z_17
      have C_18 := L18.other C_17 (by omega)
      clear C_17
      have D_18 := L18.other D_17 (by omega)
      clear D_17
      have E_18 := L18.cell
      have G18 := G17.trans (L18.below.mono (by omega))
      clear G17
      clear L18 E_17
      go_wp2_with (first | refine wpList_loadB rfl _ rfl rfl B_18 ?_ | refine wpList_loadB rfl _ rfl rfl Z_18 ?_ | refine wpList_loadB rfl _ rfl rfl C_18 ?_ | refine wpList_loadB rfl _ rfl rfl D_18 ?_ | refine wpList_storeK rfl _ _ rfl rfl rfl E_18 ?_)
      intro u19 L19
      have s19 := L19.size
      have B_19 := L19.other B_18 (by omega)
      clear B_18
      have Z_19 := L19.other Z_18 (by omega)
      clear Z_18
      have C_19 := L19.other C_18 (by omega)
      clear C_18
      have D_19 := L19.other D_18 (by omega)
      clear D_18
      have E_19 := L19.cell
      have G19 := G18.trans (L19.below.mono (by omega))
      clear G18
      clear L19 E_18
      obtain ⟨qc0, qc1, qc2, qc3, qc4, _⟩ := id C_19
      try simp only at qc0 qc1 qc2 qc3 qc4
      obtain ⟨qd0, qd1, qd2, qd3, qd4, _⟩ := id D_19
      try simp only at qd0 qd1 qd2 qd3 qd4
      obtain ⟨qe0, qe1, qe2, qe3, qe4, _⟩ := id E_19
      try simp only at qe0 qe1 qe2 qe3 qe4
      go_wp2_with fail
      refine (iBlockOk_any _ { b with t := 1001 }).mono ?_
      rw [bent_t hok]
      rintro e20 u20 ⟨rfl, g20⟩
      have s20 := g20.size
      clear qc0 qc1 qc2 qc3 qc4
      clear qd0 qd1 qd2 qd3 qd4
      clear qe0 qe1 qe2 qe3 qe4
      have B_20 := B_19.below g20 (by omega)
      clear B_19
      have Z_20 := Z_19.below g20 (by omega)
      clear Z_19
      have C_20 := C_19.below g20 (by omega)
      clear C_19
      have D_20 := D_19.below g20 (by omega)
      clear D_19
      have E_20 := E_19.below g20 (by omega)
      clear E_19
      have G20 := G19.trans (g20.mono (by omega))
      clear G19
      clear g20
      obtain ⟨qc0, qc1, qc2, qc3, qc4, _⟩ := id C_20
      try simp only at qc0 qc1 qc2 qc3 qc4
      obtain ⟨qd0, qd1, qd2, qd3, qd4, _⟩ := id D_20
      try simp only at qd0 qd1 qd2 qd3 qd4
      obtain ⟨qe0, qe1, qe2, qe3, qe4, _⟩ := id E_20
      try simp only at qe0 qe1 qe2 qe3 qe4
      go_wp2_with fail
      refine (iBlockOk_any _ { b with n := -1 }).mono ?_
      rw [bent_n b]
      rintro e21 u21 ⟨rfl, g21⟩
      have s21 := g21.size
      clear qc0 qc1 qc2 qc3 qc4
      clear qd0 qd1 qd2 qd3 qd4
      clear qe0 qe1 qe2 qe3 qe4
      have B_21 := B_20.below g21 (by omega)
      clear B_20
      have Z_21 := Z_20.below g21 (by omega)
      clear Z_20
      have C_21 := C_20.below g21 (by omega)
      clear C_20
      have D_21 := D_20.below g21 (by omega)
      clear D_20
      have E_21 := E_20.below g21 (by omega)
      clear E_20
      have G21 := G20.trans (g21.mono (by omega))
      clear G20
      clear g21
      obtain ⟨qc0, qc1, qc2, qc3, qc4, _⟩ := id C_21
      try simp only at qc0 qc1 qc2 qc3 qc4
      obtain ⟨qd0, qd1, qd2, qd3, qd4, _⟩ := id D_21
      try simp only at qd0 qd1 qd2 qd3 qd4
      obtain ⟨qe0, qe1, qe2, qe3, qe4, _⟩ := id E_21
      try simp only at qe0 qe1 qe2 qe3 qe4
      go_wp2_with fail
      refine (iBlockOk_any _ { b with kind := 6 }).mono ?_
      rw [bent_kind b]
      rintro e22 u22 ⟨rfl, g22⟩
      have s22 := g22.size
      clear qc0 qc1 qc2 qc3 qc4
      clear qd0 qd1 qd2 qd3 qd4
      clear qe0 qe1 qe2 qe3 qe4
      have B_22 := B_21.below g22 (by omega)
      clear B_21
      have Z_22 := Z_21.below g22 (by omega)
      clear Z_21
      have C_22 := C_21.below g22 (by omega)
      clear C_21
      have D_22 := D_21.below g22 (by omega)
      clear D_21
      have E_22 := E_21.below g22 (by omega)
      clear E_21
      have G22 := G21.trans (g22.mono (by omega))
      clear G21
      clear g22
      obtain ⟨qc0, qc1, qc2, qc3, qc4, _⟩ := id C_22
      try simp only at qc0 qc1 qc2 qc3 qc4
      obtain ⟨qd0, qd1, qd2, qd3, qd4, _⟩ := id D_22
      try simp only at qd0 qd1 qd2 qd3 qd4
      obtain ⟨qe0, qe1, qe2, qe3, qe4, _⟩ := id E_22
      try simp only at qe0 qe1 qe2 qe3 qe4
      go_wp2
      go_ret
      exact ⟨rfl, G22⟩
end Go.Proofs.Ytgfoimleoekkiaa
