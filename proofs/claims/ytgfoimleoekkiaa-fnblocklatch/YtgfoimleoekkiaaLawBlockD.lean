/-
  FnBlockLatch, walked over any bytes. (Written by our generator gen_lawblock.py.)
-/
import Derived.Test.YtgfoimleoekkiaaLawBlockK
namespace Go.Proofs.Ytgfoimleoekkiaa
open Go.ChangeShapes Go.WideShapes Go.ChangeAt Go.RowKit
set_option linter.unusedVariables false
set_option linter.unusedSimpArgs false
set_option maxRecDepth 100000


theorem latch_step (set was x y : Bool) : blockStep ⟨5, 0, set, was, 0⟩ x y 1 = ⟨5, 0, !y && (x || set), x, 0⟩ := by
  cases set <;> cases was <;> cases x <;> cases y <;> kernel_rfl
theorem rise_step (r was x y : Bool) : blockStep ⟨4, 0, r, was, 0⟩ x y 1 = ⟨4, 0, x && !was, x, 0⟩ := by
  cases r <;> cases was <;> cases x <;> cases y <;> kernel_rfl

set_option maxHeartbeats 16000000 in
theorem fnBlockLatch_walk (w : World) (x0 : Option Addr) (len0 cap0 : Nat) (b0 : Bytes8 w w.heap.size x0 len0) (lc0 : len0 ≤ cap0) (lm0 : cap0 ≤ maxLen) (x1 : Option Addr) (len1 cap1 : Nat) (b1 : Bytes8 w w.heap.size x1 len1) (lc1 : len1 ≤ cap1) (lm1 : cap1 ≤ maxLen) :
    Calls Try.prog 6 #[.slice x0 len0 cap0, .slice x1 len1 cap1] w fun e w' => e = .returned (.bool true) ∧ Below w.heap.size w w' := by
  have lm0b := lm0
  unfold maxLen at lm0b
  have lm1b := lm1
  unfold maxLen at lm1b
  by_cases h0 : (1048576 : Int) < len0
  · go_enter Try.func6, Try.ntmps6
    go_wp2
    go_ret
    exact ⟨rfl, Below.refl _ _⟩
  by_cases h1 : (1048576 : Int) < len1
  · go_enter Try.func6, Try.ntmps6
    go_wp2
    go_ret
    exact ⟨rfl, Below.refl _ _⟩
  have hl0 : blockNew 5 0 = ⟨5, 0, false, false, 0⟩ := by kernel_rfl
  have he0 : blockNew 4 0 = ⟨4, 0, false, false, 0⟩ := by kernel_rfl
  have hIl := fun u => iBlockNew_any u 5 0
  have hIe := fun u => iBlockNew_any u 4 0
  rw [hl0] at hIl
  rw [he0] at hIe
  clear hl0 he0
  go_enter Try.func6, Try.ntmps6
  go_wp2_with fail
  refine (hIl _).mono ?_
  rintro e1 u1 ⟨rfl, g1⟩
  have s1 := g1.size
  have G1 := g1
  clear g1
  clear hIl
  go_wp2_with (first | fail | refine wpList_allocB rfl rfl ?_)
  intro u2 g2 L_2 s2
  have G2 := G1.trans (g2.mono (by omega))
  clear G1
  clear g2
  go_wp2_with (first | fail | refine wpList_storeB (b := ⟨5, 0, false, false, 0⟩) rfl _ _ rfl rfl rfl L_2 ?_)
  intro u3 L3
  have s3 := L3.size
  have L_3 := L3.cell
  have G3 := G2.trans (L3.below.mono (by omega))
  clear G2
  clear L3 L_2
  go_wp2_with (first | refine wpList_loadB rfl _ rfl rfl L_3 ?_)
  refine (hIe _).mono ?_
  rintro e4 u4 ⟨rfl, g4⟩
  have s4 := g4.size
  have L_4 := L_3.below g4 (by omega)
  clear L_3
  have G4 := G3.trans (g4.mono (by omega))
  clear G3
  clear g4
  clear hIe
  go_wp2_with (first | refine wpList_loadB rfl _ rfl rfl L_4 ?_ | refine wpList_allocB rfl rfl ?_)
  intro u5 g5 E_5 s5
  have L_5 := L_4.below g5 (by omega)
  clear L_4
  have G5 := G4.trans (g5.mono (by omega))
  clear G4
  clear g5
  go_wp2_with (first | refine wpList_loadB rfl _ rfl rfl L_5 ?_ | refine wpList_storeB (b := ⟨4, 0, false, false, 0⟩) rfl _ _ rfl rfl rfl E_5 ?_)
  intro u6 L6
  have s6 := L6.size
  have L_6 := L6.other L_5 (by omega)
  clear L_5
  have E_6 := L6.cell
  have G6 := G5.trans (L6.below.mono (by omega))
  clear G5
  clear L6 E_5
  go_wp2_with (first | refine wpList_loadB rfl _ rfl rfl L_6 ?_ | refine wpList_loadB rfl _ rfl rfl E_6 ?_)
  refine (drawBlockStep_any _ x0 len0 cap0 (b0.kept G6) lc0 lm0).mono ?_
  rintro e7 u7 ⟨b, x, y, dt, rfl, hd0, hd1, g7⟩
  have s7 := g7.size
  have L_7 := L_6.below g7 (by omega)
  clear L_6
  have E_7 := E_6.below g7 (by omega)
  clear E_6
  have G7 := G6.trans (g7.mono (by omega))
  clear G6
  clear g7
  clear b0
  go_wp2_with (first | refine wpList_loadB rfl _ rfl rfl L_7 ?_ | refine wpList_loadB rfl _ rfl rfl E_7 ?_ | refine wpList_allocB rfl rfl ?_)
  intro u8 g8 D_8 s8
  have L_8 := L_7.below g8 (by omega)
  clear L_7
  have E_8 := E_7.below g8 (by omega)
  clear E_7
  have G8 := G7.trans (g8.mono (by omega))
  clear G7
  clear g8
  go_wp2_with (first | refine wpList_loadB rfl _ rfl rfl L_8 ?_ | refine wpList_loadB rfl _ rfl rfl E_8 ?_ | refine wpList_storeB (b := b) rfl _ _ rfl rfl rfl D_8 ?_)
  intro u9 L9
  have s9 := L9.size
  have L_9 := L9.other L_8 (by omega)
  clear L_8
  have E_9 := L9.other E_8 (by omega)
  clear E_8
  have D_9 := L9.cell
  have G9 := G8.trans (L9.below.mono (by omega))
  clear G8
  clear L9 D_8
  obtain ⟨ok, hok⟩ : ∃ ok, blockOk b = ok := ⟨_, rfl⟩
  have hIo := fun u => iBlockOk_any u b
  have hSo := fun u => sBlockOk_any u b
  rw [hok] at hIo hSo
  have hIl := fun u => iBlockOk_any u ⟨5, 0, false, false, 0⟩
  rw [show blockOk ⟨5, 0, false, false, 0⟩ = true by kernel_rfl] at hIl
  obtain ⟨gf, hgf⟩ : ∃ gf, (ok != ok) = gf := ⟨_, rfl⟩
  have HF : Hid (gf = false) := by show _ = _; rw [← hgf]; cases ok <;> rfl
  clear hgf hok
  go_wp2_with fail
  refine wp_region_dag (R := Grow) (Φ := fun i v u => match i with
      | 0 => v = b.val
      | 1 => v = .bool ok
      | 2 => v = b.val
      | 3 => v = .bool ok
      | 4 => v = .bool gf
      | 5 => v = .bool gf
      | 6 => v = cond gf undef (BlockD.val ⟨5, 0, false, false, 0⟩)
      | 7 => v = cond gf undef (.bool true)
      | 8 => v = cond gf undef (.bool false)
      | 9 => v = .bool gf
      | _ => True) (by kernel_rfl) (by kernel_rfl) (by kernel_rfl) (Below.refl _ _) grow_trans ?_ ?_ ?_
  · intro i v u u' hr
    match i with
    | 0 | 1 | 2 | 3 | 4 | 5 | 6 | 7 | 8 | 9 | _ + 10 => exact fun h => h
  · intro i o ho a u hf hR0 he K' hK
    have hR : Grow u9 u := (Below.drew (Below.refl _ _)).trans hR0
    have hsz' : a.tmps.size = 116 := hf.size
    have hus := hR.size
    rcases i with _ | _ | _ | _ | _ | _ | _ | _ | _ | _ | i
    · obtain rfl := Option.some.inj ho
      have q7 : a.tmps.getD 7 undef = .pointer (some ⟨u7.heap.size, 0, none⟩) := hf.at_ 7 (by kernel_rfl)
      have cu0 := D_9.below hR (by omega)
      clear he
      refine wanted_none rfl ?_
      refine wp_loadB (Operand.tmp 7) rfl q7 cu0 ?_
      exact hK _ _ (Below.refl _ _) (getD_put_self a 37 _ (by show _ < a.tmps.size; omega))
    · obtain rfl := Option.some.inj ho
      have q37 : a.tmps.getD 37 undef = b.val := he _ (Array.mem_of_getElem? (i := 0) rfl) (by kernel_rfl) _ rfl
      clear he
      go_simp
      refine (hIo _).mono ?_
      rintro e1 u' ⟨rfl, hbu⟩
      exact hK _ _ hbu (getD_put_self a 38 _ (by show _ < a.tmps.size; omega))
    · obtain rfl := Option.some.inj ho
      have q7 : a.tmps.getD 7 undef = .pointer (some ⟨u7.heap.size, 0, none⟩) := hf.at_ 7 (by kernel_rfl)
      have cu2 := D_9.below hR (by omega)
      clear he
      refine wanted_none rfl ?_
      refine wp_loadB (Operand.tmp 7) rfl q7 cu2 ?_
      exact hK _ _ (Below.refl _ _) (getD_put_self a 39 _ (by show _ < a.tmps.size; omega))
    · obtain rfl := Option.some.inj ho
      have q39 : a.tmps.getD 39 undef = b.val := he _ (Array.mem_of_getElem? (i := 0) rfl) (by kernel_rfl) _ rfl
      clear he
      go_simp
      refine (hSo _).mono ?_
      rintro e1 u' ⟨rfl, hbu⟩
      exact hK _ _ hbu (getD_put_self a 40 _ (by show _ < a.tmps.size; omega))
    · obtain rfl := Option.some.inj ho
      have q38 : a.tmps.getD 38 undef = .bool ok := he _ (Array.mem_of_getElem? (i := 0) rfl) (by kernel_rfl) _ rfl
      have q40 : a.tmps.getD 40 undef = .bool ok := he _ (Array.mem_of_getElem? (i := 1) rfl) (by kernel_rfl) _ rfl
      clear he
      go_simp
      exact hK _ _ (Below.refl _ _) ((getD_put_self a 41 _ (by show _ < a.tmps.size; omega)).trans (by rw [HF.out]))
    · obtain rfl := Option.some.inj ho
      have q41 : a.tmps.getD 41 undef = .bool gf := he _ (Array.mem_of_getElem? (i := 0) rfl) (by kernel_rfl) _ rfl
      clear he
      go_simp
      exact hK _ _ (Below.refl _ _) (getD_put_self a 42 _ (by show _ < a.tmps.size; omega))
    · obtain rfl := Option.some.inj ho
      have qg : a.tmps.getD 42 undef = .bool gf := he _ (Array.mem_of_getElem? (i := 0) rfl) (by kernel_rfl) _ rfl
      cases gf with
      | true =>
        refine wanted_off rfl (yielded_g (i := 5) rfl rfl (by show 42 < a.tmps.size; omega) qg) ?_
        exact hK undef u (Below.refl _ _) (getD_put_self a 43 _ (by show _ < a.tmps.size; omega))
      | false =>
        have q5 : a.tmps.getD 5 undef = .pointer (some ⟨u1.heap.size, 0, none⟩) := hf.at_ 5 (by kernel_rfl)
        have cu6 := L_9.below hR (by omega)
        clear he
        refine wanted_on rfl (yielded_g (i := 5) rfl rfl (by show 42 < a.tmps.size; omega) qg) ?_
        refine wp_loadB (Operand.tmp 5) rfl q5 cu6 ?_
        exact hK _ _ (Below.refl _ _) (getD_put_self a 43 _ (by show _ < a.tmps.size; omega))
    · obtain rfl := Option.some.inj ho
      have qg : a.tmps.getD 42 undef = .bool gf := he _ (Array.mem_of_getElem? (i := 1) rfl) (by kernel_rfl) _ rfl
      cases gf with
      | true =>
        refine wanted_off rfl (yielded_g (i := 5) rfl rfl (by show 42 < a.tmps.size; omega) qg) ?_
        exact hK undef u (Below.refl _ _) (getD_put_self a 44 _ (by show _ < a.tmps.size; omega))
      | false =>
        have q43 : a.tmps.getD 43 undef = BlockD.val ⟨5, 0, false, false, 0⟩ := he _ (Array.mem_of_getElem? (i := 0) rfl) (by kernel_rfl) _ rfl
        clear he
        refine wanted_on rfl (yielded_g (i := 5) rfl rfl (by show 42 < a.tmps.size; omega) qg) ?_
        go_simp
        refine (hIl _).mono ?_
        rintro e1 u' ⟨rfl, hbu⟩
        exact hK _ _ hbu (getD_put_self a 44 _ (by show _ < a.tmps.size; omega))
    · obtain rfl := Option.some.inj ho
      have qg : a.tmps.getD 42 undef = .bool gf := he _ (Array.mem_of_getElem? (i := 1) rfl) (by kernel_rfl) _ rfl
      cases gf with
      | true =>
        refine wanted_off rfl (yielded_g (i := 5) rfl rfl (by show 42 < a.tmps.size; omega) qg) ?_
        exact hK undef u (Below.refl _ _) (getD_put_self a 45 _ (by show _ < a.tmps.size; omega))
      | false =>
        have q44 : a.tmps.getD 44 undef = .bool true := he _ (Array.mem_of_getElem? (i := 0) rfl) (by kernel_rfl) _ rfl
        clear he
        refine wanted_on rfl (yielded_g (i := 5) rfl rfl (by show 42 < a.tmps.size; omega) qg) ?_
        go_simp
        exact hK _ _ (Below.refl _ _) (getD_put_self a 45 _ (by show _ < a.tmps.size; omega))
    · obtain rfl := Option.some.inj ho
      cases gf with
      | true =>
        have q42 : a.tmps.getD 42 undef = .bool true := he _ (Array.mem_of_getElem? (i := 0) rfl) (by kernel_rfl) _ rfl
        clear he
        go_simp
        exact hK _ _ (Below.refl _ _) (getD_put_self a 46 _ (by show _ < a.tmps.size; omega))
      | false =>
        have q42 : a.tmps.getD 42 undef = .bool false := he _ (Array.mem_of_getElem? (i := 0) rfl) (by kernel_rfl) _ rfl
        have q45 : a.tmps.getD 45 undef = .bool false := he _ (Array.mem_of_getElem? (i := 1) rfl) (by kernel_rfl) _ rfl
        clear he
        go_simp
        exact hK _ _ (Below.refl _ _) (getD_put_self a 46 _ (by show _ < a.tmps.size; omega))
    · exact absurd ho (by simp)
  · intro a u10 hf hR0 hp
    have g10 : Grow u9 u10 := (Below.drew (Below.refl _ _)).trans hR0
    have m46 : a.tmps.getD 46 undef = .bool gf := hp 9 _ rfl
    rw [HF.out] at m46
    clear hp hR0 hIo hSo hIl HF
    have s10 := g10.size
    have L_10 := L_9.below g10 (by omega)
    clear L_9
    have E_10 := E_9.below g10 (by omega)
    clear E_9
    have D_10 := D_9.below g10 (by omega)
    clear D_9
    have G10 := G9.trans (g10.mono (by omega))
    clear G9
    clear g10
    obtain ⟨fq, ea, hfv⟩ := act_lit a 116 hf.size
    have md : a.defers = [] := hf.defers
    rw [md] at ea
    have m0 := hf.at_ 0 (by kernel_rfl)
    have m1 := hf.at_ 1 (by kernel_rfl)
    have m2 := hf.at_ 2 (by kernel_rfl)
    have m3 := hf.at_ 3 (by kernel_rfl)
    have m4 := hf.at_ 4 (by kernel_rfl)
    have m5 := hf.at_ 5 (by kernel_rfl)
    have m6 := hf.at_ 6 (by kernel_rfl)
    have m7 := hf.at_ 7 (by kernel_rfl)
    have m8 := hf.at_ 8 (by kernel_rfl)
    have m9 := hf.at_ 9 (by kernel_rfl)
    have m10 := hf.at_ 10 (by kernel_rfl)
    have m11 := hf.at_ 11 (by kernel_rfl)
    have m12 := hf.at_ 12 (by kernel_rfl)
    have m13 := hf.at_ 13 (by kernel_rfl)
    have m14 := hf.at_ 14 (by kernel_rfl)
    have m15 := hf.at_ 15 (by kernel_rfl)
    have m16 := hf.at_ 16 (by kernel_rfl)
    have m17 := hf.at_ 17 (by kernel_rfl)
    have m18 := hf.at_ 18 (by kernel_rfl)
    have m19 := hf.at_ 19 (by kernel_rfl)
    have m20 := hf.at_ 20 (by kernel_rfl)
    have m21 := hf.at_ 21 (by kernel_rfl)
    have m22 := hf.at_ 22 (by kernel_rfl)
    have m23 := hf.at_ 23 (by kernel_rfl)
    have m24 := hf.at_ 24 (by kernel_rfl)
    have m25 := hf.at_ 25 (by kernel_rfl)
    have m26 := hf.at_ 26 (by kernel_rfl)
    have m27 := hf.at_ 27 (by kernel_rfl)
    have m28 := hf.at_ 28 (by kernel_rfl)
    have m29 := hf.at_ 29 (by kernel_rfl)
    have m30 := hf.at_ 30 (by kernel_rfl)
    have m31 := hf.at_ 31 (by kernel_rfl)
    have m32 := hf.at_ 32 (by kernel_rfl)
    have m33 := hf.at_ 33 (by kernel_rfl)
    have m34 := hf.at_ 34 (by kernel_rfl)
    have m35 := hf.at_ 35 (by kernel_rfl)
    have m36 := hf.at_ 36 (by kernel_rfl)
    have m47 := hf.at_ 47 (by kernel_rfl)
    have m48 := hf.at_ 48 (by kernel_rfl)
    have m49 := hf.at_ 49 (by kernel_rfl)
    have m50 := hf.at_ 50 (by kernel_rfl)
    have m51 := hf.at_ 51 (by kernel_rfl)
    have m52 := hf.at_ 52 (by kernel_rfl)
    have m53 := hf.at_ 53 (by kernel_rfl)
    have m54 := hf.at_ 54 (by kernel_rfl)
    have m55 := hf.at_ 55 (by kernel_rfl)
    have m56 := hf.at_ 56 (by kernel_rfl)
    have m57 := hf.at_ 57 (by kernel_rfl)
    have m58 := hf.at_ 58 (by kernel_rfl)
    have m59 := hf.at_ 59 (by kernel_rfl)
    have m60 := hf.at_ 60 (by kernel_rfl)
    have m61 := hf.at_ 61 (by kernel_rfl)
    have m62 := hf.at_ 62 (by kernel_rfl)
    have m63 := hf.at_ 63 (by kernel_rfl)
    have m64 := hf.at_ 64 (by kernel_rfl)
    have m65 := hf.at_ 65 (by kernel_rfl)
    have m66 := hf.at_ 66 (by kernel_rfl)
    have m67 := hf.at_ 67 (by kernel_rfl)
    have m68 := hf.at_ 68 (by kernel_rfl)
    have m69 := hf.at_ 69 (by kernel_rfl)
    have m70 := hf.at_ 70 (by kernel_rfl)
    have m71 := hf.at_ 71 (by kernel_rfl)
    have m72 := hf.at_ 72 (by kernel_rfl)
    have m73 := hf.at_ 73 (by kernel_rfl)
    have m74 := hf.at_ 74 (by kernel_rfl)
    have m75 := hf.at_ 75 (by kernel_rfl)
    have m76 := hf.at_ 76 (by kernel_rfl)
    have m77 := hf.at_ 77 (by kernel_rfl)
    have m78 := hf.at_ 78 (by kernel_rfl)
    have m79 := hf.at_ 79 (by kernel_rfl)
    have m80 := hf.at_ 80 (by kernel_rfl)
    have m81 := hf.at_ 81 (by kernel_rfl)
    have m82 := hf.at_ 82 (by kernel_rfl)
    have m83 := hf.at_ 83 (by kernel_rfl)
    have m84 := hf.at_ 84 (by kernel_rfl)
    have m85 := hf.at_ 85 (by kernel_rfl)
    have m86 := hf.at_ 86 (by kernel_rfl)
    have m87 := hf.at_ 87 (by kernel_rfl)
    have m88 := hf.at_ 88 (by kernel_rfl)
    have m89 := hf.at_ 89 (by kernel_rfl)
    have m90 := hf.at_ 90 (by kernel_rfl)
    have m91 := hf.at_ 91 (by kernel_rfl)
    have m92 := hf.at_ 92 (by kernel_rfl)
    have m93 := hf.at_ 93 (by kernel_rfl)
    have m94 := hf.at_ 94 (by kernel_rfl)
    have m95 := hf.at_ 95 (by kernel_rfl)
    have m96 := hf.at_ 96 (by kernel_rfl)
    have m97 := hf.at_ 97 (by kernel_rfl)
    have m98 := hf.at_ 98 (by kernel_rfl)
    have m99 := hf.at_ 99 (by kernel_rfl)
    have m100 := hf.at_ 100 (by kernel_rfl)
    have m101 := hf.at_ 101 (by kernel_rfl)
    have m102 := hf.at_ 102 (by kernel_rfl)
    have m103 := hf.at_ 103 (by kernel_rfl)
    have m104 := hf.at_ 104 (by kernel_rfl)
    have m105 := hf.at_ 105 (by kernel_rfl)
    have m106 := hf.at_ 106 (by kernel_rfl)
    have m107 := hf.at_ 107 (by kernel_rfl)
    have m108 := hf.at_ 108 (by kernel_rfl)
    have m109 := hf.at_ 109 (by kernel_rfl)
    have m110 := hf.at_ 110 (by kernel_rfl)
    have m111 := hf.at_ 111 (by kernel_rfl)
    have m112 := hf.at_ 112 (by kernel_rfl)
    have m113 := hf.at_ 113 (by kernel_rfl)
    have m114 := hf.at_ 114 (by kernel_rfl)
    have m115 := hf.at_ 115 (by kernel_rfl)
    rw [← hfv] at m0 m1 m2 m3 m4 m5 m6 m7 m8 m9 m10 m11 m12 m13 m14 m15 m16 m17 m18 m19 m20 m21 m22 m23 m24 m25 m26 m27 m28 m29 m30 m31 m32 m33 m34 m35 m36 m47 m48 m49 m50 m51 m52 m53 m54 m55 m56 m57 m58 m59 m60 m61 m62 m63 m64 m65 m66 m67 m68 m69 m70 m71 m72 m73 m74 m75 m76 m77 m78 m79 m80 m81 m82 m83 m84 m85 m86 m87 m88 m89 m90 m91 m92 m93 m94 m95 m96 m97 m98 m99 m100 m101 m102 m103 m104 m105 m106 m107 m108 m109 m110 m111 m112 m113 m114 m115 m46
    simp only [Array.getD_eq_getD_getElem?, List.getElem?_toArray, List.getElem?_cons_succ, List.getElem?_cons_zero, Option.getD_some] at m0 m1 m2 m3 m4 m5 m6 m7 m8 m9 m10 m11 m12 m13 m14 m15 m16 m17 m18 m19 m20 m21 m22 m23 m24 m25 m26 m27 m28 m29 m30 m31 m32 m33 m34 m35 m36 m47 m48 m49 m50 m51 m52 m53 m54 m55 m56 m57 m58 m59 m60 m61 m62 m63 m64 m65 m66 m67 m68 m69 m70 m71 m72 m73 m74 m75 m76 m77 m78 m79 m80 m81 m82 m83 m84 m85 m86 m87 m88 m89 m90 m91 m92 m93 m94 m95 m96 m97 m98 m99 m100 m101 m102 m103 m104 m105 m106 m107 m108 m109 m110 m111 m112 m113 m114 m115
    simp only [List.range, List.range.loop, List.map_cons, List.map_nil, m0, m1, m2, m3, m4, m5, m6, m7, m8, m9, m10, m11, m12, m13, m14, m15, m16, m17, m18, m19, m20, m21, m22, m23, m24, m25, m26, m27, m28, m29, m30, m31, m32, m33, m34, m35, m36, m47, m48, m49, m50, m51, m52, m53, m54, m55, m56, m57, m58, m59, m60, m61, m62, m63, m64, m65, m66, m67, m68, m69, m70, m71, m72, m73, m74, m75, m76, m77, m78, m79, m80, m81, m82, m83, m84, m85, m86, m87, m88, m89, m90, m91, m92, m93, m94, m95, m96, m97, m98, m99, m100, m101, m102, m103, m104, m105, m106, m107, m108, m109, m110, m111, m112, m113, m114, m115, m46] at ea
    subst ea
    clear m0 m1 m2 m3 m4 m5 m6 m7 m8 m9 m10 m11 m12 m13 m14 m15 m16 m17 m18 m19 m20 m21 m22 m23 m24 m25 m26 m27 m28 m29 m30 m31 m32 m33 m34 m35 m36 m47 m48 m49 m50 m51 m52 m53 m54 m55 m56 m57 m58 m59 m60 m61 m62 m63 m64 m65 m66 m67 m68 m69 m70 m71 m72 m73 m74 m75 m76 m77 m78 m79 m80 m81 m82 m83 m84 m85 m86 m87 m88 m89 m90 m91 m92 m93 m94 m95 m96 m97 m98 m99 m100 m101 m102 m103 m104 m105 m106 m107 m108 m109 m110 m111 m112 m113 m114 m115 m46 hfv md hf
    obtain ⟨PL, hPL⟩ : ∃ P, u1.heap.size = P := ⟨_, rfl⟩
    obtain ⟨PE, hPE⟩ : ∃ P, u4.heap.size = P := ⟨_, rfl⟩
    rw [hPL] at L_10 ⊢
    rw [hPE] at E_10 ⊢
    have hLE : PL < PE := by omega
    have hEu : PE < u10.heap.size := by omega
    have hw0 : w.heap.size ≤ PL := by omega
    have HI : Hid (CellB u10 PL ⟨5, 0, false, false, 0⟩ ∧ CellB u10 PE ⟨4, 0, false, false, 0⟩ ∧ Below w.heap.size w u10 ∧ PE < u10.heap.size) := ⟨L_10, E_10, G10, hEu⟩
    clear L_10 E_10 G10 hPL hPE hEu s1 s2 s3 s4 s5 s6 s7 s8 s9 s10
    have HB : Hid (Bytes8 w w.heap.size x1 len1) := b1
    clear b1
    go_wp2_with fail
    go_loopw [11, 12, 13] (fun a s i wr => ∃ (j : Nat) (was set r : Bool), a = .bool was ∧ s = .bool set ∧ i = .int .i64 j ∧ j ≤ 20 ∧ Hid (CellB wr PL ⟨5, 0, set, was, 0⟩ ∧ CellB wr PE ⟨4, 0, r, was, 0⟩ ∧ Below w.heap.size w wr ∧ PE < wr.heap.size)) (fun _ _ i _ => 20 - (intOf i).toNat)
    case atStart => exact ⟨0, false, false, false, rfl, rfl, rfl, by omega, HI⟩
    case round =>
      clear HI
      obtain ⟨j, was, set, r, rfl, rfl, rfl, hj, HR⟩ := hrel
      by_cases hjl : j < len1
      rotate_left 1
      · have hjl' : ¬ (j : Int) < (len1 : Int) := by omega
        have HG := HR.out.2.2.1
        go_wp2
        go_ret
        exact ⟨rfl, HG⟩
      have hjl' : (j : Int) < (len1 : Int) := by omega
      by_cases hj2 : j < 20
      rotate_left 1
      · have hj2' : ¬ (j : Int) < 20 := by omega
        have HG := HR.out.2.2.1
        go_wp2
        go_ret
        exact ⟨rfl, HG⟩
      have hj2' : (j : Int) < 20 := by omega
      obtain ⟨bb, off, z, rfl, hcell, hz0, hz1⟩ := byte_at HB.out HR.out.2.2.1 hjl
      obtain ⟨p1, p2, G0, hPu⟩ := HR.out
      clear HR
      obtain ⟨x2, hx2⟩ : ∃ x2, (z.tmod 3 == 0) = x2 := ⟨_, rfl⟩
      have hx3 : (z % 3 == 0) = x2 := by rw [← hx2, Int.tmod_eq_emod_of_nonneg hz0]
      obtain ⟨y2, hy2⟩ : ∃ y2, (z.tmod 5 == 0) = y2 := ⟨_, rfl⟩
      have hy3 : (z % 5 == 0) = y2 := by rw [← hy2, Int.tmod_eq_emod_of_nonneg hz0]
      have hS := fun u => iBlockStep_any u ⟨5, 0, set, was, 0⟩ x2 y2 1
      have hR := fun u => iBlockStep_any u ⟨4, 0, r, was, 0⟩ x2 y2 1
      rw [latch_step] at hS
      rw [rise_step] at hR
      simp only at hS hR
      have hlt := hLE
      cases x2 <;> cases y2 <;> cases was
      all_goals
        simp only [Bool.true_and, Bool.and_true, Bool.false_and, Bool.and_false, Bool.true_or, Bool.or_true, Bool.false_or, Bool.or_false, Bool.not_true, Bool.not_false] at hS hR
        obtain ⟨kl0, kl1, kl2, kl3, kl4, _⟩ := id p1
        try simp only at kl0 kl1 kl2 kl3 kl4
        go_wp2_with fail
        clear kl0 kl1 kl2 kl3 kl4
        refine (hS _).mono ?_
        rintro e1 u1 ⟨rfl, g1⟩
        have s1 := g1.size
        have L_1 := p1.below g1 (by omega)
        clear p1
        have E_1 := p2.below g1 (by omega)
        clear p2
        have G1 := G0.trans (g1.mono (by omega))
        clear G0
        clear g1
        clear hS hcell
        skip
        go_wp2_with (refine wpList_allocB rfl rfl ?_)
        intro u2 g2 Z_2 s2
        have L_2 := L_1.below g2 (by omega)
        clear L_1
        have E_2 := E_1.below g2 (by omega)
        clear E_1
        have G2 := G1.trans (g2.mono (by omega))
        clear G1
        clear g2
        go_wp2_with (refine wpList_storeB (b := ⟨5, 0, _, _, 0⟩) rfl _ _ rfl rfl rfl Z_2 ?_)
        intro u3 L3
        have s3 := L3.size
        have L_3 := L3.other L_2 (by omega)
        clear L_2
        have E_3 := L3.other E_2 (by omega)
        clear E_2
        have Z_3 := L3.cell
        have G3 := G2.trans (L3.below.mono (by omega))
        clear G2
        clear L3 Z_2
        obtain ⟨ke0, ke1, ke2, ke3, ke4, _⟩ := id E_3
        try simp only at ke0 ke1 ke2 ke3 ke4
        go_wp2_with fail
        clear ke0 ke1 ke2 ke3 ke4
        refine (hR _).mono ?_
        rintro e4 u4 ⟨rfl, g4⟩
        have s4 := g4.size
        have L_4 := L_3.below g4 (by omega)
        clear L_3
        have E_4 := E_3.below g4 (by omega)
        clear E_3
        have Z_4 := Z_3.below g4 (by omega)
        clear Z_3
        have G4 := G3.trans (g4.mono (by omega))
        clear G3
        clear g4
        clear hR
        go_wp2_with (refine wpList_allocB rfl rfl ?_)
        intro u5 g5 Y_5 s5
        have L_5 := L_4.below g5 (by omega)
        clear L_4
        have E_5 := E_4.below g5 (by omega)
        clear E_4
        have Z_5 := Z_4.below g5 (by omega)
        clear Z_4
        have G5 := G4.trans (g5.mono (by omega))
        clear G4
        clear g5
        go_wp2_with (refine wpList_storeB (b := ⟨4, 0, _, _, 0⟩) rfl _ _ rfl rfl rfl Y_5 ?_)
        intro u6 L6
        have s6 := L6.size
        have L_6 := L6.other L_5 (by omega)
        clear L_5
        have E_6 := L6.other E_5 (by omega)
        clear E_5
        have Z_6 := L6.other Z_5 (by omega)
        clear Z_5
        have Y_6 := L6.cell
        have G6 := G5.trans (L6.below.mono (by omega))
        clear G5
        clear L6 Y_5
        obtain ⟨kz0, kz1, kz2, kz3, kz4, _⟩ := id Z_6
        try simp only at kz0 kz1 kz2 kz3 kz4
        obtain ⟨ky0, ky1, ky2, ky3, ky4, _⟩ := id Y_6
        try simp only at ky0 ky1 ky2 ky3 ky4
        go_wp2_with (refine wpList_storeB (b := ⟨5, 0, _, _, 0⟩) rfl _ _ rfl rfl rfl L_6 ?_)
        clear kz0 kz1 kz2 kz3 kz4
        clear ky0 ky1 ky2 ky3 ky4
        intro u7 L7
        have s7 := L7.size
        have E_7 := L7.other E_6 (by omega)
        clear E_6
        have Z_7 := L7.other Z_6 (by omega)
        clear Z_6
        have Y_7 := L7.other Y_6 (by omega)
        clear Y_6
        have L_7 := L7.cell
        have G7 := G6.trans (L7.below.mono (by omega))
        clear G6
        clear L7 L_6
        obtain ⟨ky0, ky1, ky2, ky3, ky4, _⟩ := id Y_7
        try simp only at ky0 ky1 ky2 ky3 ky4
        go_wp2_with (refine wpList_storeB (b := ⟨4, 0, _, _, 0⟩) rfl _ _ rfl rfl rfl E_7 ?_)
        clear ky0 ky1 ky2 ky3 ky4
        intro u8 L8
        have s8 := L8.size
        have Z_8 := L8.other Z_7 (by omega)
        clear Z_7
        have Y_8 := L8.other Y_7 (by omega)
        clear Y_7
        have L_8 := L8.other L_7 (by omega)
        clear L_7
        have E_8 := L8.cell
        have G8 := G7.trans (L8.below.mono (by omega))
        clear G7
        clear L8 E_7
        have HN : Hid (_ ∧ _ ∧ Below w.heap.size w u8 ∧ PE < u8.heap.size) := ⟨L_8, E_8, G8, by omega⟩
        clear Z_8 Y_8 L_8 E_8 G8
        go_wp2
        go_roundw
        case rel => exact ⟨j + 1, _, _, _, rfl, rfl, by go_num, by omega, HN⟩
        case measure => simp [intOf]; omega
end Go.Proofs.Ytgfoimleoekkiaa
