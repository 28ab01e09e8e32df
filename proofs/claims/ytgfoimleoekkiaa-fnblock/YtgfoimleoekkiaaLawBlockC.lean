/-
  FnBlock, walked over any bytes. (Written by our generator gen_lawblock.py.)
-/
import Derived.Test.YtgfoimleoekkiaaLawBlockA
import Derived.Test.YtgfoimleoekkiaaDrawNum
namespace Go.Proofs.Ytgfoimleoekkiaa
open Go.ChangeShapes Go.WideShapes Go.ChangeAt Go.RowKit
set_option linter.unusedVariables false
set_option linter.unusedSimpArgs false
set_option maxRecDepth 100000

set_option maxHeartbeats 16000000 in
theorem fnBlock_walk (w : World) (x0 : Option Addr) (len0 cap0 : Nat) (b0 : Bytes8 w w.heap.size x0 len0) (lc0 : len0 ≤ cap0) (lm0 : cap0 ≤ maxLen) :
    Calls Try.prog 3 #[.slice x0 len0 cap0] w fun e w' => e = .returned (.bool true) ∧ Below w.heap.size w w' := by
  have lm0b := lm0
  unfold maxLen at lm0b
  by_cases h0 : (1048576 : Int) < len0
  · go_enter Try.func3, Try.ntmps3
    go_wp2
    go_ret
    exact ⟨rfl, Below.refl _ _⟩
  go_enter Try.func3, Try.ntmps3
  go_wp2_with fail
  refine (drawBlockStep_any w x0 len0 cap0 b0 lc0 lm0).mono ?_
  rintro e1 u1 ⟨b, x, y, dt, rfl, hd0, hd1, g1⟩
  have s1 := g1.size
  have G1 := g1
  clear g1
  clear b0
  go_wp2_with (first | fail | refine wpList_allocB rfl rfl ?_)
  intro u2 g2 B_2 s2
  have G2 := G1.trans (g2.mono (by omega))
  clear G1
  clear g2
  go_wp2_with (first | fail | refine wpList_storeB (b := b) rfl _ _ rfl rfl rfl B_2 ?_)
  intro u3 L3
  have s3 := L3.size
  have B_3 := L3.cell
  have G3 := G2.trans (L3.below.mono (by omega))
  clear G2
  clear L3 B_2
  have hI1 := fun u => iBlockStep_any u b x y dt
  have hS1 := fun u => sBlockStep_any u b x y dt
  obtain ⟨z, hz⟩ : ∃ z, blockStep b x y dt = z := ⟨_, rfl⟩
  rw [hz] at hI1 hS1
  have HZ : Hid (blockStep b x y dt = z) := hz
  clear hz
  go_wp2_with (first | refine wpList_loadB rfl _ rfl rfl B_3 ?_)
  refine (hI1 _).mono ?_
  rintro e4 u4 ⟨rfl, g4⟩
  have s4 := g4.size
  have B_4 := B_3.below g4 (by omega)
  clear B_3
  have G4 := G3.trans (g4.mono (by omega))
  clear G3
  clear g4
  clear hI1
  go_wp2_with (first | refine wpList_loadB rfl _ rfl rfl B_4 ?_ | refine wpList_allocB rfl rfl ?_)
  intro u5 g5 Z_5 s5
  have B_5 := B_4.below g5 (by omega)
  clear B_4
  have G5 := G4.trans (g5.mono (by omega))
  clear G4
  clear g5
  go_wp2_with (first | refine wpList_loadB rfl _ rfl rfl B_5 ?_ | refine wpList_storeB (b := z) rfl _ _ rfl rfl rfl Z_5 ?_)
  intro u6 L6
  have s6 := L6.size
  have B_6 := L6.other B_5 (by omega)
  clear B_5
  have Z_6 := L6.cell
  have G6 := G5.trans (L6.below.mono (by omega))
  clear G5
  clear L6 Z_5
  go_wp2_with (first | refine wpList_loadB rfl _ rfl rfl B_6 ?_ | refine wpList_loadB rfl _ rfl rfl Z_6 ?_)
  refine (hS1 _).mono ?_
  rintro e7 u7 ⟨rfl, g7⟩
  have s7 := g7.size
  have B_7 := B_6.below g7 (by omega)
  clear B_6
  have Z_7 := Z_6.below g7 (by omega)
  clear Z_6
  have G7 := G6.trans (g7.mono (by omega))
  clear G6
  clear g7
  clear hS1
  go_wp2_with (first | refine wpList_loadB rfl _ rfl rfl B_7 ?_ | refine wpList_loadB rfl _ rfl rfl Z_7 ?_ | refine wpList_allocB rfl rfl ?_)
  intro u8 g8 X_8 s8
  have B_8 := B_7.below g8 (by omega)
  clear B_7
  have Z_8 := Z_7.below g8 (by omega)
  clear Z_7
  have G8 := G7.trans (g8.mono (by omega))
  clear G7
  clear g8
  go_wp2_with (first | refine wpList_loadB rfl _ rfl rfl B_8 ?_ | refine wpList_loadB rfl _ rfl rfl Z_8 ?_ | refine wpList_storeB (b := z) rfl _ _ rfl rfl rfl X_8 ?_)
  intro u9 L9
  have s9 := L9.size
  have B_9 := L9.other B_8 (by omega)
  clear B_8
  have Z_9 := L9.other Z_8 (by omega)
  clear Z_8
  have X_9 := L9.cell
  have G9 := G8.trans (L9.below.mono (by omega))
  clear G8
  clear L9 X_8
  obtain ⟨ok, hok⟩ : ∃ ok, blockOk b = ok := ⟨_, rfl⟩
  have hIo := fun u => iBlockOk_any u b
  have hSo := fun u => sBlockOk_any u b
  rw [hok] at hIo hSo
  obtain ⟨gf, hgf⟩ : ∃ gf, (ok != ok) = gf := ⟨_, rfl⟩
  obtain ⟨sf, hsf⟩ : ∃ sf, (!sameB z z) = sf := ⟨_, rfl⟩
  obtain ⟨tf, htf⟩ : ∃ tf, (z.on != z.on) = tf := ⟨_, rfl⟩
  obtain ⟨vf, hvf⟩ : ∃ vf, vf = (sf || tf) := ⟨_, rfl⟩
  have hne := fun u => neq_block z z u
  rw [hsf] at hne
  have hgd := fun op x y u => guard_block op x y z z u
  have htf0 : tf = false := by rw [← htf]; cases z.on <;> rfl
  have hsf0 : sf = false := by rw [← hsf, sameB_self]; rfl
  have HF : Hid (gf = false ∧ tf = false) := ⟨by rw [← hgf]; cases ok <;> rfl, htf0⟩
  have HV : Hid (vf = (sf || tf)) := hvf
  have HVF : Hid (vf = false) := by show _ = _; rw [hvf, hsf0, htf0]; rfl
  clear hsf hgf htf htf0 hsf0 hvf
  go_wp2_with fail
  refine wp_region_dag (R := Grow) (Φ := fun i v u => match i with
      | 0 => v = z.val
      | 1 => v = z.val
      | 2 => v = .bool sf
      | 3 => v = .bool sf
      | 4 => v = cond sf undef (.bool z.on)
      | 5 => v = cond sf undef (.bool z.on)
      | 6 => v = cond sf undef (.bool tf)
      | 7 => v = .bool vf
      | 8 => v = .bool vf
      | 9 => v = cond vf undef (b.val)
      | 10 => v = cond vf undef (.bool ok)
      | 11 => v = cond vf undef (b.val)
      | 12 => v = cond vf undef (.bool ok)
      | 13 => v = cond vf undef (.bool gf)
      | 14 => v = .bool (vf || gf)
      | _ => True) (by kernel_rfl) (by kernel_rfl) (by kernel_rfl) (Below.refl _ _) grow_trans ?_ ?_ ?_
  · intro i v u u' hr
    match i with
    | 0 | 1 | 2 | 3 | 4 | 5 | 6 | 7 | 8 | 9 | 10 | 11 | 12 | 13 | 14 | _ + 15 => exact fun h => h
  · intro i o ho a u hf hR0 he K' hK
    have hR : Grow u9 u := (Below.drew (Below.refl _ _)).trans hR0
    have hsz' : a.tmps.size = 231 := hf.size
    have hus := hR.size
    rcases i with _ | _ | _ | _ | _ | _ | _ | _ | _ | _ | _ | _ | _ | _ | _ | i
    · obtain rfl := Option.some.inj ho
      have q7 : a.tmps.getD 7 undef = .pointer (some ⟨u4.heap.size, 0, none⟩) := hf.at_ 7 (by kernel_rfl)
      have cu0 := Z_9.below hR (by omega)
      clear he
      refine wanted_none rfl ?_
      refine wp_loadB (Operand.tmp 7) rfl q7 cu0 ?_
      exact hK _ _ (Below.refl _ _) (getD_put_self a 38 _ (by show _ < a.tmps.size; omega))
    · obtain rfl := Option.some.inj ho
      have q9 : a.tmps.getD 9 undef = .pointer (some ⟨u7.heap.size, 0, none⟩) := hf.at_ 9 (by kernel_rfl)
      have cu1 := X_9.below hR (by omega)
      clear he
      refine wanted_none rfl ?_
      refine wp_loadB (Operand.tmp 9) rfl q9 cu1 ?_
      exact hK _ _ (Below.refl _ _) (getD_put_self a 39 _ (by show _ < a.tmps.size; omega))
    · obtain rfl := Option.some.inj ho
      have q38 : a.tmps.getD 38 undef = z.val := he _ (Array.mem_of_getElem? (i := 0) rfl) (by kernel_rfl) _ rfl
      have q39 : a.tmps.getD 39 undef = z.val := he _ (Array.mem_of_getElem? (i := 1) rfl) (by kernel_rfl) _ rfl
      clear he
      go_simp
      exact hK _ _ (Below.refl _ _) (getD_put_self a 40 _ (by show _ < a.tmps.size; omega))
    · obtain rfl := Option.some.inj ho
      have q40 : a.tmps.getD 40 undef = .bool sf := he _ (Array.mem_of_getElem? (i := 0) rfl) (by kernel_rfl) _ rfl
      clear he
      go_simp
      exact hK _ _ (Below.refl _ _) (getD_put_self a 41 _ (by show _ < a.tmps.size; omega))
    · obtain rfl := Option.some.inj ho
      have qg : a.tmps.getD 41 undef = .bool sf := he _ (Array.mem_of_getElem? (i := 0) rfl) (by kernel_rfl) _ rfl
      cases sf with
      | true =>
        refine wanted_off rfl (yielded_g (i := 3) rfl rfl (by show 41 < a.tmps.size; omega) qg) ?_
        exact hK undef u (Below.refl _ _) (getD_put_self a 42 _ (by show _ < a.tmps.size; omega))
      | false =>
        have q8 : a.tmps.getD 8 undef = .bool z.on := hf.at_ 8 (by kernel_rfl)
        clear he
        refine wanted_on rfl (yielded_g (i := 3) rfl rfl (by show 41 < a.tmps.size; omega) qg) ?_
        go_simp
        exact hK _ _ (Below.refl _ _) (getD_put_self a 42 _ (by show _ < a.tmps.size; omega))
    · obtain rfl := Option.some.inj ho
      have qg : a.tmps.getD 41 undef = .bool sf := he _ (Array.mem_of_getElem? (i := 0) rfl) (by kernel_rfl) _ rfl
      cases sf with
      | true =>
        refine wanted_off rfl (yielded_g (i := 3) rfl rfl (by show 41 < a.tmps.size; omega) qg) ?_
        exact hK undef u (Below.refl _ _) (getD_put_self a 43 _ (by show _ < a.tmps.size; omega))
      | false =>
        have q10 : a.tmps.getD 10 undef = .bool z.on := hf.at_ 10 (by kernel_rfl)
        clear he
        refine wanted_on rfl (yielded_g (i := 3) rfl rfl (by show 41 < a.tmps.size; omega) qg) ?_
        go_simp
        exact hK _ _ (Below.refl _ _) (getD_put_self a 43 _ (by show _ < a.tmps.size; omega))
    · obtain rfl := Option.some.inj ho
      have qg : a.tmps.getD 41 undef = .bool sf := he _ (Array.mem_of_getElem? (i := 2) rfl) (by kernel_rfl) _ rfl
      cases sf with
      | true =>
        refine wanted_off rfl (yielded_g (i := 3) rfl rfl (by show 41 < a.tmps.size; omega) qg) ?_
        exact hK undef u (Below.refl _ _) (getD_put_self a 44 _ (by show _ < a.tmps.size; omega))
      | false =>
        have q42 : a.tmps.getD 42 undef = .bool z.on := he _ (Array.mem_of_getElem? (i := 0) rfl) (by kernel_rfl) _ rfl
        have q43 : a.tmps.getD 43 undef = .bool z.on := he _ (Array.mem_of_getElem? (i := 1) rfl) (by kernel_rfl) _ rfl
        clear he
        refine wanted_on rfl (yielded_g (i := 3) rfl rfl (by show 41 < a.tmps.size; omega) qg) ?_
        go_simp
        exact hK _ _ (Below.refl _ _) ((getD_put_self a 44 _ (by show _ < a.tmps.size; omega)).trans (by rw [HF.out.2]; rfl))
    · obtain rfl := Option.some.inj ho
      cases sf with
      | true =>
        have q41 : a.tmps.getD 41 undef = .bool true := he _ (Array.mem_of_getElem? (i := 0) rfl) (by kernel_rfl) _ rfl
        clear he
        go_simp
        exact hK _ _ (Below.refl _ _) ((getD_put_self a 45 _ (by show _ < a.tmps.size; omega)).trans (by rw [HV.out]; rfl))
      | false =>
        have q41 : a.tmps.getD 41 undef = .bool false := he _ (Array.mem_of_getElem? (i := 0) rfl) (by kernel_rfl) _ rfl
        have q44 : a.tmps.getD 44 undef = .bool tf := he _ (Array.mem_of_getElem? (i := 1) rfl) (by kernel_rfl) _ rfl
        clear he
        go_simp
        exact hK _ _ (Below.refl _ _) ((getD_put_self a 45 _ (by show _ < a.tmps.size; omega)).trans (by rw [HV.out]; rfl))
    · obtain rfl := Option.some.inj ho
      have q45 : a.tmps.getD 45 undef = .bool vf := he _ (Array.mem_of_getElem? (i := 0) rfl) (by kernel_rfl) _ rfl
      clear he
      go_simp
      exact hK _ _ (Below.refl _ _) (getD_put_self a 46 _ (by show _ < a.tmps.size; omega))
    · obtain rfl := Option.some.inj ho
      have qg : a.tmps.getD 46 undef = .bool vf := he _ (Array.mem_of_getElem? (i := 0) rfl) (by kernel_rfl) _ rfl
      cases vf with
      | true =>
        refine wanted_off rfl (yielded_g (i := 8) rfl rfl (by show 46 < a.tmps.size; omega) qg) ?_
        exact hK undef u (Below.refl _ _) (getD_put_self a 47 _ (by show _ < a.tmps.size; omega))
      | false =>
        have q3 : a.tmps.getD 3 undef = .pointer (some ⟨u1.heap.size, 0, none⟩) := hf.at_ 3 (by kernel_rfl)
        have cu9 := B_9.below hR (by omega)
        clear he
        refine wanted_on rfl (yielded_g (i := 8) rfl rfl (by show 46 < a.tmps.size; omega) qg) ?_
        refine wp_loadB (Operand.tmp 3) rfl q3 cu9 ?_
        exact hK _ _ (Below.refl _ _) (getD_put_self a 47 _ (by show _ < a.tmps.size; omega))
    · obtain rfl := Option.some.inj ho
      have qg : a.tmps.getD 46 undef = .bool vf := he _ (Array.mem_of_getElem? (i := 1) rfl) (by kernel_rfl) _ rfl
      cases vf with
      | true =>
        refine wanted_off rfl (yielded_g (i := 8) rfl rfl (by show 46 < a.tmps.size; omega) qg) ?_
        exact hK undef u (Below.refl _ _) (getD_put_self a 48 _ (by show _ < a.tmps.size; omega))
      | false =>
        have q47 : a.tmps.getD 47 undef = b.val := he _ (Array.mem_of_getElem? (i := 0) rfl) (by kernel_rfl) _ rfl
        clear he
        refine wanted_on rfl (yielded_g (i := 8) rfl rfl (by show 46 < a.tmps.size; omega) qg) ?_
        go_simp
        refine (hIo _).mono ?_
        rintro e1 u' ⟨rfl, hbu⟩
        exact hK _ _ hbu (getD_put_self a 48 _ (by show _ < a.tmps.size; omega))
    · obtain rfl := Option.some.inj ho
      have qg : a.tmps.getD 46 undef = .bool vf := he _ (Array.mem_of_getElem? (i := 0) rfl) (by kernel_rfl) _ rfl
      cases vf with
      | true =>
        refine wanted_off rfl (yielded_g (i := 8) rfl rfl (by show 46 < a.tmps.size; omega) qg) ?_
        exact hK undef u (Below.refl _ _) (getD_put_self a 49 _ (by show _ < a.tmps.size; omega))
      | false =>
        have q3 : a.tmps.getD 3 undef = .pointer (some ⟨u1.heap.size, 0, none⟩) := hf.at_ 3 (by kernel_rfl)
        have cu11 := B_9.below hR (by omega)
        clear he
        refine wanted_on rfl (yielded_g (i := 8) rfl rfl (by show 46 < a.tmps.size; omega) qg) ?_
        refine wp_loadB (Operand.tmp 3) rfl q3 cu11 ?_
        exact hK _ _ (Below.refl _ _) (getD_put_self a 49 _ (by show _ < a.tmps.size; omega))
    · obtain rfl := Option.some.inj ho
      have qg : a.tmps.getD 46 undef = .bool vf := he _ (Array.mem_of_getElem? (i := 2) rfl) (by kernel_rfl) _ rfl
      cases vf with
      | true =>
        refine wanted_off rfl (yielded_g (i := 8) rfl rfl (by show 46 < a.tmps.size; omega) qg) ?_
        exact hK undef u (Below.refl _ _) (getD_put_self a 50 _ (by show _ < a.tmps.size; omega))
      | false =>
        have q49 : a.tmps.getD 49 undef = b.val := he _ (Array.mem_of_getElem? (i := 0) rfl) (by kernel_rfl) _ rfl
        clear he
        refine wanted_on rfl (yielded_g (i := 8) rfl rfl (by show 46 < a.tmps.size; omega) qg) ?_
        go_simp
        refine (hSo _).mono ?_
        rintro e1 u' ⟨rfl, hbu⟩
        exact hK _ _ hbu (getD_put_self a 50 _ (by show _ < a.tmps.size; omega))
    · obtain rfl := Option.some.inj ho
      have qg : a.tmps.getD 46 undef = .bool vf := he _ (Array.mem_of_getElem? (i := 2) rfl) (by kernel_rfl) _ rfl
      cases vf with
      | true =>
        refine wanted_off rfl (yielded_g (i := 8) rfl rfl (by show 46 < a.tmps.size; omega) qg) ?_
        exact hK undef u (Below.refl _ _) (getD_put_self a 51 _ (by show _ < a.tmps.size; omega))
      | false =>
        have q48 : a.tmps.getD 48 undef = .bool ok := he _ (Array.mem_of_getElem? (i := 0) rfl) (by kernel_rfl) _ rfl
        have q50 : a.tmps.getD 50 undef = .bool ok := he _ (Array.mem_of_getElem? (i := 1) rfl) (by kernel_rfl) _ rfl
        clear he
        refine wanted_on rfl (yielded_g (i := 8) rfl rfl (by show 46 < a.tmps.size; omega) qg) ?_
        go_simp
        exact hK _ _ (Below.refl _ _) ((getD_put_self a 51 _ (by show _ < a.tmps.size; omega)).trans (by rw [HF.out.1]; rfl))
    · obtain rfl := Option.some.inj ho
      cases vf with
      | true =>
        have q46 : a.tmps.getD 46 undef = .bool true := he _ (Array.mem_of_getElem? (i := 0) rfl) (by kernel_rfl) _ rfl
        clear he
        go_simp
        exact hK _ _ (Below.refl _ _) (getD_put_self a 52 _ (by show _ < a.tmps.size; omega))
      | false =>
        have q46 : a.tmps.getD 46 undef = .bool false := he _ (Array.mem_of_getElem? (i := 0) rfl) (by kernel_rfl) _ rfl
        have q51 : a.tmps.getD 51 undef = .bool gf := he _ (Array.mem_of_getElem? (i := 1) rfl) (by kernel_rfl) _ rfl
        clear he
        go_simp
        exact hK _ _ (Below.refl _ _) (getD_put_self a 52 _ (by show _ < a.tmps.size; omega))
    · exact absurd ho (by simp)
  · intro a u10 hf hR0 hp
    have g10 : Grow u9 u10 := (Below.drew (Below.refl _ _)).trans hR0
    have m52 : a.tmps.getD 52 undef = .bool (vf || gf) := hp 14 _ rfl
    rw [HVF.out, HF.out.1] at m52
    simp only [Bool.or_self] at m52
    clear hp hR0 hIo hne hgd HF HV HVF
    have s10 := g10.size
    have B_10 := B_9.below g10 (by omega)
    clear B_9
    have Z_10 := Z_9.below g10 (by omega)
    clear Z_9
    have X_10 := X_9.below g10 (by omega)
    clear X_9
    have G10 := G9.trans (g10.mono (by omega))
    clear G9
    clear g10
    obtain ⟨fq, ea, hfv⟩ := act_lit a 231 hf.size
    have md : a.defers = [] := hf.defers
    rw [md] at ea
    have m0 := hf.at_ 0 (by kernel_rfl)
    have m1 := hf.at_ 1 (by kernel_rfl)
    have m2 := hf.at_ 2 (by kernel_rfl)
    have m3 := hf.at_ 3 (by kernel_rfl)
    have m4 := hf.at_ 4 (by kernel_rfl)
    have m5 := hf.at_ 5 (by kernel_rfl)
    have m6 := hf.at_ 6 (by kernel_rfl)
    have m7 := hf.at_ 7 (by kernel_rfl)
    have m8 := hf.at_ 8 (by kernel_rfl)
    have m9 := hf.at_ 9 (by kernel_rfl)
    have m10 := hf.at_ 10 (by kernel_rfl)
    have m11 := hf.at_ 11 (by kernel_rfl)
    have m12 := hf.at_ 12 (by kernel_rfl)
    have m13 := hf.at_ 13 (by kernel_rfl)
    have m14 := hf.at_ 14 (by kernel_rfl)
    have m15 := hf.at_ 15 (by kernel_rfl)
    have m16 := hf.at_ 16 (by kernel_rfl)
    have m17 := hf.at_ 17 (by kernel_rfl)
    have m18 := hf.at_ 18 (by kernel_rfl)
    have m19 := hf.at_ 19 (by kernel_rfl)
    have m20 := hf.at_ 20 (by kernel_rfl)
    have m21 := hf.at_ 21 (by kernel_rfl)
    have m22 := hf.at_ 22 (by kernel_rfl)
    have m23 := hf.at_ 23 (by kernel_rfl)
    have m24 := hf.at_ 24 (by kernel_rfl)
    have m25 := hf.at_ 25 (by kernel_rfl)
    have m26 := hf.at_ 26 (by kernel_rfl)
    have m27 := hf.at_ 27 (by kernel_rfl)
    have m28 := hf.at_ 28 (by kernel_rfl)
    have m29 := hf.at_ 29 (by kernel_rfl)
    have m30 := hf.at_ 30 (by kernel_rfl)
    have m31 := hf.at_ 31 (by kernel_rfl)
    have m32 := hf.at_ 32 (by kernel_rfl)
    have m33 := hf.at_ 33 (by kernel_rfl)
    have m34 := hf.at_ 34 (by kernel_rfl)
    have m35 := hf.at_ 35 (by kernel_rfl)
    have m36 := hf.at_ 36 (by kernel_rfl)
    have m37 := hf.at_ 37 (by kernel_rfl)
    have m53 := hf.at_ 53 (by kernel_rfl)
    have m54 := hf.at_ 54 (by kernel_rfl)
    have m55 := hf.at_ 55 (by kernel_rfl)
    have m56 := hf.at_ 56 (by kernel_rfl)
    have m57 := hf.at_ 57 (by kernel_rfl)
    have m58 := hf.at_ 58 (by kernel_rfl)
    have m59 := hf.at_ 59 (by kernel_rfl)
    have m60 := hf.at_ 60 (by kernel_rfl)
    have m61 := hf.at_ 61 (by kernel_rfl)
    have m62 := hf.at_ 62 (by kernel_rfl)
    have m63 := hf.at_ 63 (by kernel_rfl)
    have m64 := hf.at_ 64 (by kernel_rfl)
    have m65 := hf.at_ 65 (by kernel_rfl)
    have m66 := hf.at_ 66 (by kernel_rfl)
    have m67 := hf.at_ 67 (by kernel_rfl)
    have m68 := hf.at_ 68 (by kernel_rfl)
    have m69 := hf.at_ 69 (by kernel_rfl)
    have m70 := hf.at_ 70 (by kernel_rfl)
    have m71 := hf.at_ 71 (by kernel_rfl)
    have m72 := hf.at_ 72 (by kernel_rfl)
    have m73 := hf.at_ 73 (by kernel_rfl)
    have m74 := hf.at_ 74 (by kernel_rfl)
    have m75 := hf.at_ 75 (by kernel_rfl)
    have m76 := hf.at_ 76 (by kernel_rfl)
    have m77 := hf.at_ 77 (by kernel_rfl)
    have m78 := hf.at_ 78 (by kernel_rfl)
    have m79 := hf.at_ 79 (by kernel_rfl)
    have m80 := hf.at_ 80 (by kernel_rfl)
    have m81 := hf.at_ 81 (by kernel_rfl)
    have m82 := hf.at_ 82 (by kernel_rfl)
    have m83 := hf.at_ 83 (by kernel_rfl)
    have m84 := hf.at_ 84 (by kernel_rfl)
    have m85 := hf.at_ 85 (by kernel_rfl)
    have m86 := hf.at_ 86 (by kernel_rfl)
    have m87 := hf.at_ 87 (by kernel_rfl)
    have m88 := hf.at_ 88 (by kernel_rfl)
    have m89 := hf.at_ 89 (by kernel_rfl)
    have m90 := hf.at_ 90 (by kernel_rfl)
    have m91 := hf.at_ 91 (by kernel_rfl)
    have m92 := hf.at_ 92 (by kernel_rfl)
    have m93 := hf.at_ 93 (by kernel_rfl)
    have m94 := hf.at_ 94 (by kernel_rfl)
    have m95 := hf.at_ 95 (by kernel_rfl)
    have m96 := hf.at_ 96 (by kernel_rfl)
    have m97 := hf.at_ 97 (by kernel_rfl)
    have m98 := hf.at_ 98 (by kernel_rfl)
    have m99 := hf.at_ 99 (by kernel_rfl)
    have m100 := hf.at_ 100 (by kernel_rfl)
    have m101 := hf.at_ 101 (by kernel_rfl)
    have m102 := hf.at_ 102 (by kernel_rfl)
    have m103 := hf.at_ 103 (by kernel_rfl)
    have m104 := hf.at_ 104 (by kernel_rfl)
    have m105 := hf.at_ 105 (by kernel_rfl)
    have m106 := hf.at_ 106 (by kernel_rfl)
    have m107 := hf.at_ 107 (by kernel_rfl)
    have m108 := hf.at_ 108 (by kernel_rfl)
    have m109 := hf.at_ 109 (by kernel_rfl)
    have m110 := hf.at_ 110 (by kernel_rfl)
    have m111 := hf.at_ 111 (by kernel_rfl)
    have m112 := hf.at_ 112 (by kernel_rfl)
    have m113 := hf.at_ 113 (by kernel_rfl)
    have m114 := hf.at_ 114 (by kernel_rfl)
    have m115 := hf.at_ 115 (by kernel_rfl)
    have m116 := hf.at_ 116 (by kernel_rfl)
    have m117 := hf.at_ 117 (by kernel_rfl)
    have m118 := hf.at_ 118 (by kernel_rfl)
    have m119 := hf.at_ 119 (by kernel_rfl)
    have m120 := hf.at_ 120 (by kernel_rfl)
    have m121 := hf.at_ 121 (by kernel_rfl)
    have m122 := hf.at_ 122 (by kernel_rfl)
    have m123 := hf.at_ 123 (by kernel_rfl)
    have m124 := hf.at_ 124 (by kernel_rfl)
    have m125 := hf.at_ 125 (by kernel_rfl)
    have m126 := hf.at_ 126 (by kernel_rfl)
    have m127 := hf.at_ 127 (by kernel_rfl)
    have m128 := hf.at_ 128 (by kernel_rfl)
    have m129 := hf.at_ 129 (by kernel_rfl)
    have m130 := hf.at_ 130 (by kernel_rfl)
    have m131 := hf.at_ 131 (by kernel_rfl)
    have m132 := hf.at_ 132 (by kernel_rfl)
    have m133 := hf.at_ 133 (by kernel_rfl)
    have m134 := hf.at_ 134 (by kernel_rfl)
    have m135 := hf.at_ 135 (by kernel_rfl)
    have m136 := hf.at_ 136 (by kernel_rfl)
    have m137 := hf.at_ 137 (by kernel_rfl)
    have m138 := hf.at_ 138 (by kernel_rfl)
    have m139 := hf.at_ 139 (by kernel_rfl)
    have m140 := hf.at_ 140 (by kernel_rfl)
    have m141 := hf.at_ 141 (by kernel_rfl)
    have m142 := hf.at_ 142 (by kernel_rfl)
    have m143 := hf.at_ 143 (by kernel_rfl)
    have m144 := hf.at_ 144 (by kernel_rfl)
    have m145 := hf.at_ 145 (by kernel_rfl)
    have m146 := hf.at_ 146 (by kernel_rfl)
    have m147 := hf.at_ 147 (by kernel_rfl)
    have m148 := hf.at_ 148 (by kernel_rfl)
    have m149 := hf.at_ 149 (by kernel_rfl)
    have m150 := hf.at_ 150 (by kernel_rfl)
    have m151 := hf.at_ 151 (by kernel_rfl)
    have m152 := hf.at_ 152 (by kernel_rfl)
    have m153 := hf.at_ 153 (by kernel_rfl)
    have m154 := hf.at_ 154 (by kernel_rfl)
    have m155 := hf.at_ 155 (by kernel_rfl)
    have m156 := hf.at_ 156 (by kernel_rfl)
    have m157 := hf.at_ 157 (by kernel_rfl)
    have m158 := hf.at_ 158 (by kernel_rfl)
    have m159 := hf.at_ 159 (by kernel_rfl)
    have m160 := hf.at_ 160 (by kernel_rfl)
    have m161 := hf.at_ 161 (by kernel_rfl)
    have m162 := hf.at_ 162 (by kernel_rfl)
    have m163 := hf.at_ 163 (by kernel_rfl)
    have m164 := hf.at_ 164 (by kernel_rfl)
    have m165 := hf.at_ 165 (by kernel_rfl)
    have m166 := hf.at_ 166 (by kernel_rfl)
    have m167 := hf.at_ 167 (by kernel_rfl)
    have m168 := hf.at_ 168 (by kernel_rfl)
    have m169 := hf.at_ 169 (by kernel_rfl)
    have m170 := hf.at_ 170 (by kernel_rfl)
    have m171 := hf.at_ 171 (by kernel_rfl)
    have m172 := hf.at_ 172 (by kernel_rfl)
    have m173 := hf.at_ 173 (by kernel_rfl)
    have m174 := hf.at_ 174 (by kernel_rfl)
    have m175 := hf.at_ 175 (by kernel_rfl)
    have m176 := hf.at_ 176 (by kernel_rfl)
    have m177 := hf.at_ 177 (by kernel_rfl)
    have m178 := hf.at_ 178 (by kernel_rfl)
    have m179 := hf.at_ 179 (by kernel_rfl)
    have m180 := hf.at_ 180 (by kernel_rfl)
    have m181 := hf.at_ 181 (by kernel_rfl)
    have m182 := hf.at_ 182 (by kernel_rfl)
    have m183 := hf.at_ 183 (by kernel_rfl)
    have m184 := hf.at_ 184 (by kernel_rfl)
    have m185 := hf.at_ 185 (by kernel_rfl)
    have m186 := hf.at_ 186 (by kernel_rfl)
    have m187 := hf.at_ 187 (by kernel_rfl)
    have m188 := hf.at_ 188 (by kernel_rfl)
    have m189 := hf.at_ 189 (by kernel_rfl)
    have m190 := hf.at_ 190 (by kernel_rfl)
    have m191 := hf.at_ 191 (by kernel_rfl)
    have m192 := hf.at_ 192 (by kernel_rfl)
    have m193 := hf.at_ 193 (by kernel_rfl)
    have m194 := hf.at_ 194 (by kernel_rfl)
    have m195 := hf.at_ 195 (by kernel_rfl)
    have m196 := hf.at_ 196 (by kernel_rfl)
    have m197 := hf.at_ 197 (by kernel_rfl)
    have m198 := hf.at_ 198 (by kernel_rfl)
    have m199 := hf.at_ 199 (by kernel_rfl)
    have m200 := hf.at_ 200 (by kernel_rfl)
    have m201 := hf.at_ 201 (by kernel_rfl)
    have m202 := hf.at_ 202 (by kernel_rfl)
    have m203 := hf.at_ 203 (by kernel_rfl)
    have m204 := hf.at_ 204 (by kernel_rfl)
    have m205 := hf.at_ 205 (by kernel_rfl)
    have m206 := hf.at_ 206 (by kernel_rfl)
    have m207 := hf.at_ 207 (by kernel_rfl)
    have m208 := hf.at_ 208 (by kernel_rfl)
    have m209 := hf.at_ 209 (by kernel_rfl)
    have m210 := hf.at_ 210 (by kernel_rfl)
    have m211 := hf.at_ 211 (by kernel_rfl)
    have m212 := hf.at_ 212 (by kernel_rfl)
    have m213 := hf.at_ 213 (by kernel_rfl)
    have m214 := hf.at_ 214 (by kernel_rfl)
    have m215 := hf.at_ 215 (by kernel_rfl)
    have m216 := hf.at_ 216 (by kernel_rfl)
    have m217 := hf.at_ 217 (by kernel_rfl)
    have m218 := hf.at_ 218 (by kernel_rfl)
    have m219 := hf.at_ 219 (by kernel_rfl)
    have m220 := hf.at_ 220 (by kernel_rfl)
    have m221 := hf.at_ 221 (by kernel_rfl)
    have m222 := hf.at_ 222 (by kernel_rfl)
    have m223 := hf.at_ 223 (by kernel_rfl)
    have m224 := hf.at_ 224 (by kernel_rfl)
    have m225 := hf.at_ 225 (by kernel_rfl)
    have m226 := hf.at_ 226 (by kernel_rfl)
    have m227 := hf.at_ 227 (by kernel_rfl)
    have m228 := hf.at_ 228 (by kernel_rfl)
    have m229 := hf.at_ 229 (by kernel_rfl)
    have m230 := hf.at_ 230 (by kernel_rfl)
    rw [← hfv] at m0 m1 m2 m3 m4 m5 m6 m7 m8 m9 m10 m11 m12 m13 m14 m15 m16 m17 m18 m19 m20 m21 m22 m23 m24 m25 m26 m27 m28 m29 m30 m31 m32 m33 m34 m35 m36 m37 m53 m54 m55 m56 m57 m58 m59 m60 m61 m62 m63 m64 m65 m66 m67 m68 m69 m70 m71 m72 m73 m74 m75 m76 m77 m78 m79 m80 m81 m82 m83 m84 m85 m86 m87 m88 m89 m90 m91 m92 m93 m94 m95 m96 m97 m98 m99 m100 m101 m102 m103 m104 m105 m106 m107 m108 m109 m110 m111 m112 m113 m114 m115 m116 m117 m118 m119 m120 m121 m122 m123 m124 m125 m126 m127 m128 m129 m130 m131 m132 m133 m134 m135 m136 m137 m138 m139 m140 m141 m142 m143 m144 m145 m146 m147 m148 m149 m150 m151 m152 m153 m154 m155 m156 m157 m158 m159 m160 m161 m162 m163 m164 m165 m166 m167 m168 m169 m170 m171 m172 m173 m174 m175 m176 m177 m178 m179 m180 m181 m182 m183 m184 m185 m186 m187 m188 m189 m190 m191 m192 m193 m194 m195 m196 m197 m198 m199 m200 m201 m202 m203 m204 m205 m206 m207 m208 m209 m210 m211 m212 m213 m214 m215 m216 m217 m218 m219 m220 m221 m222 m223 m224 m225 m226 m227 m228 m229 m230 m52
    simp only [Array.getD_eq_getD_getElem?, List.getElem?_toArray, List.getElem?_cons_succ, List.getElem?_cons_zero, Option.getD_some] at m0 m1 m2 m3 m4 m5 m6 m7 m8 m9 m10 m11 m12 m13 m14 m15 m16 m17 m18 m19 m20 m21 m22 m23 m24 m25 m26 m27 m28 m29 m30 m31 m32 m33 m34 m35 m36 m37 m53 m54 m55 m56 m57 m58 m59 m60 m61 m62 m63 m64 m65 m66 m67 m68 m69 m70 m71 m72 m73 m74 m75 m76 m77 m78 m79 m80 m81 m82 m83 m84 m85 m86 m87 m88 m89 m90 m91 m92 m93 m94 m95 m96 m97 m98 m99 m100 m101 m102 m103 m104 m105 m106 m107 m108 m109 m110 m111 m112 m113 m114 m115 m116 m117 m118 m119 m120 m121 m122 m123 m124 m125 m126 m127 m128 m129 m130 m131 m132 m133 m134 m135 m136 m137 m138 m139 m140 m141 m142 m143 m144 m145 m146 m147 m148 m149 m150 m151 m152 m153 m154 m155 m156 m157 m158 m159 m160 m161 m162 m163 m164 m165 m166 m167 m168 m169 m170 m171 m172 m173 m174 m175 m176 m177 m178 m179 m180 m181 m182 m183 m184 m185 m186 m187 m188 m189 m190 m191 m192 m193 m194 m195 m196 m197 m198 m199 m200 m201 m202 m203 m204 m205 m206 m207 m208 m209 m210 m211 m212 m213 m214 m215 m216 m217 m218 m219 m220 m221 m222 m223 m224 m225 m226 m227 m228 m229 m230
    simp only [List.range, List.range.loop, List.map_cons, List.map_nil, m0, m1, m2, m3, m4, m5, m6, m7, m8, m9, m10, m11, m12, m13, m14, m15, m16, m17, m18, m19, m20, m21, m22, m23, m24, m25, m26, m27, m28, m29, m30, m31, m32, m33, m34, m35, m36, m37, m53, m54, m55, m56, m57, m58, m59, m60, m61, m62, m63, m64, m65, m66, m67, m68, m69, m70, m71, m72, m73, m74, m75, m76, m77, m78, m79, m80, m81, m82, m83, m84, m85, m86, m87, m88, m89, m90, m91, m92, m93, m94, m95, m96, m97, m98, m99, m100, m101, m102, m103, m104, m105, m106, m107, m108, m109, m110, m111, m112, m113, m114, m115, m116, m117, m118, m119, m120, m121, m122, m123, m124, m125, m126, m127, m128, m129, m130, m131, m132, m133, m134, m135, m136, m137, m138, m139, m140, m141, m142, m143, m144, m145, m146, m147, m148, m149, m150, m151, m152, m153, m154, m155, m156, m157, m158, m159, m160, m161, m162, m163, m164, m165, m166, m167, m168, m169, m170, m171, m172, m173, m174, m175, m176, m177, m178, m179, m180, m181, m182, m183, m184, m185, m186, m187, m188, m189, m190, m191, m192, m193, m194, m195, m196, m197, m198, m199, m200, m201, m202, m203, m204, m205, m206, m207, m208, m209, m210, m211, m212, m213, m214, m215, m216, m217, m218, m219, m220, m221, m222, m223, m224, m225, m226, m227, m228, m229, m230, m52] at ea
    subst ea
    clear m0 m1 m2 m3 m4 m5 m6 m7 m8 m9 m10 m11 m12 m13 m14 m15 m16 m17 m18 m19 m20 m21 m22 m23 m24 m25 m26 m27 m28 m29 m30 m31 m32 m33 m34 m35 m36 m37 m53 m54 m55 m56 m57 m58 m59 m60 m61 m62 m63 m64 m65 m66 m67 m68 m69 m70 m71 m72 m73 m74 m75 m76 m77 m78 m79 m80 m81 m82 m83 m84 m85 m86 m87 m88 m89 m90 m91 m92 m93 m94 m95 m96 m97 m98 m99 m100 m101 m102 m103 m104 m105 m106 m107 m108 m109 m110 m111 m112 m113 m114 m115 m116 m117 m118 m119 m120 m121 m122 m123 m124 m125 m126 m127 m128 m129 m130 m131 m132 m133 m134 m135 m136 m137 m138 m139 m140 m141 m142 m143 m144 m145 m146 m147 m148 m149 m150 m151 m152 m153 m154 m155 m156 m157 m158 m159 m160 m161 m162 m163 m164 m165 m166 m167 m168 m169 m170 m171 m172 m173 m174 m175 m176 m177 m178 m179 m180 m181 m182 m183 m184 m185 m186 m187 m188 m189 m190 m191 m192 m193 m194 m195 m196 m197 m198 m199 m200 m201 m202 m203 m204 m205 m206 m207 m208 m209 m210 m211 m212 m213 m214 m215 m216 m217 m218 m219 m220 m221 m222 m223 m224 m225 m226 m227 m228 m229 m230 m52 hfv md hf
    obtain ⟨bc0, bc1, bc2, bc3, bc4, _⟩ := id B_10
    try simp only at bc0 bc1 bc2 bc3 bc4
    go_wp2_with fail
    refine (hSo _).mono ?_
    clear hSo bc0 bc1 bc2 bc3 bc4
    rintro e11 u11 ⟨rfl, g11⟩
    have s11 := g11.size
    have B_11 := B_10.below g11 (by omega)
    clear B_10
    have Z_11 := Z_10.below g11 (by omega)
    clear Z_10
    have G11 := G10.trans (g11.mono (by omega))
    clear G10
    clear g11
    by_cases hb : blockOk b = false ∨ dt < 0 ∨ 1000 < dt
    · obtain rfl : z = noB := by rw [← HZ.out, blockStep_bad hb]
      have heq := fun u => eql_block noB noB u
      rw [sameB_self] at heq
      have hgd := fun op x y u => guard_block op x y noB noB u
      simp only [BlockD.val, noB] at heq hgd
      obtain ⟨zc0, zc1, zc2, zc3, zc4, _⟩ := id Z_11
      simp only [noB] at zc0 zc1 zc2 zc3 zc4 ⊢
      rw [hok] at hb
      cases ok with
      | false =>
        clear hb
        go_wp2
        go_ret
        exact ⟨rfl, G11⟩
      | true =>
        rcases hb with hb | hb | hb
        · cases hb
        all_goals
          go_wp2
          go_ret
          exact ⟨rfl, G11⟩
    have hbo : blockOk b = true := by cases h : blockOk b with | true => rfl | false => exact absurd (.inl h) hb
    have hd2 : 0 ≤ dt := by omega
    have hd3 : dt ≤ 1000 := by omega
    obtain rfl : ok = true := by rw [← hok, hbo]
    clear hb hok
    have hzz : z = stepB b x y dt := by rw [← HZ.out, blockStep_ok hbo hd2 hd3]
    have hzo : blockOk z = true := by rw [hzz]; exact stepB_ok hbo x y hd2
    have hTb := stepT_bd hbo x y hd2
    have hcs := blockOk_cases hbo
    clear HZ
    obtain ⟨k, n, on, was, t⟩ := b
    unfold stepB at hzz
    simp only at hzz hTb hcs
    obtain ⟨T, hT⟩ : ∃ T, stepT ⟨k, n, on, was, t⟩ x y dt = T := ⟨_, rfl⟩
    rw [hT] at hzz hTb
    obtain ⟨O, hO⟩ : ∃ O, stepOn ⟨k, n, on, was, t⟩ x y T = O := ⟨_, rfl⟩
    rw [hO] at hzz
    subst hzz
    have HT : Hid (_ = T) := hT
    have HO : Hid (_ = O) := hO
    clear hT hO
    obtain ⟨bc0, bc1, bc2, bc3, bc4, _⟩ := id B_11
    try simp only at bc0 bc1 bc2 bc3 bc4
    obtain ⟨zc0, zc1, zc2, zc3, zc4, _⟩ := id Z_11
    try simp only at zc0 zc1 zc2 zc3 zc4
    try simp only
    have hk2 : (k == k) = true := by simp
    have hn2 : (n == n) = true := by simp
    have hO2 : (O == O) = true := by cases O <;> rfl
    have hx2 : (x == x) = true := by cases x <;> rfl
    go_wp2_with fail
    have hIz := iBlockOk_any u11 ⟨k, n, O, x, T⟩
    rw [hzo] at hIz
    refine hIz.mono ?_
    clear hIz bc0 bc1 bc2 bc3 bc4 zc0 zc1 zc2 zc3 zc4
    rintro e12 u12 ⟨rfl, g12⟩
    have s12 := g12.size
    have B_12 := B_11.below g12 (by omega)
    clear B_11
    have Z_12 := Z_11.below g12 (by omega)
    clear Z_11
    have G12 := G11.trans (g12.mono (by omega))
    clear G11
    clear g12
    obtain ⟨bc0, bc1, bc2, bc3, bc4, _⟩ := id B_12
    try simp only at bc0 bc1 bc2 bc3 bc4
    obtain ⟨zc0, zc1, zc2, zc3, zc4, _⟩ := id Z_12
    try simp only at zc0 zc1 zc2 zc3 zc4
    have HG : Hid (Below w.heap.size w u12) := G12
    clear G12 B_12 Z_12
    have hu3 : upto (t + 1) ≤ t + 1 := by unfold upto; split <;> omega
    rcases hcs with ⟨hk, h1, h2, h3, h4⟩ | ⟨hk, h1, h2⟩
    · rcases hk with rfl | rfl | rfl
      · have hT := HT.out
        have hO := HO.out
        clear HT HO
        unfold stepT at hT
        unfold stepOn at hO
        simp only [reduceIte, show ¬ ((2 : Int) = 1) by decide, show ¬ ((3 : Int) = 1) by decide, show ¬ ((3 : Int) = 2) by decide, show ¬ ((4 : Int) = 1) by decide, show ¬ ((4 : Int) = 2) by decide, show ¬ ((4 : Int) = 3) by decide, show ¬ ((5 : Int) = 1) by decide, show ¬ ((5 : Int) = 2) by decide, show ¬ ((5 : Int) = 3) by decide, show ¬ ((5 : Int) = 4) by decide] at hT hO
        cases x <;> cases was
        all_goals
          simp only [Bool.true_and, Bool.and_true, Bool.false_and, Bool.and_false, Bool.true_or, Bool.or_true, Bool.false_or, Bool.or_false, Bool.not_true, Bool.not_false, Bool.false_eq_true, reduceIte] at hT hO
          first | subst hT hO | (subst hT; subst hO)
          go_wp2
          all_goals
            go_ret
            exact ⟨by first | rfl | (simp; done) | (simp; omega), HG.out⟩
      · have hT := HT.out
        have hO := HO.out
        clear HT HO
        unfold stepT at hT
        unfold stepOn at hO
        simp only [reduceIte, show ¬ ((2 : Int) = 1) by decide, show ¬ ((3 : Int) = 1) by decide, show ¬ ((3 : Int) = 2) by decide, show ¬ ((4 : Int) = 1) by decide, show ¬ ((4 : Int) = 2) by decide, show ¬ ((4 : Int) = 3) by decide, show ¬ ((5 : Int) = 1) by decide, show ¬ ((5 : Int) = 2) by decide, show ¬ ((5 : Int) = 3) by decide, show ¬ ((5 : Int) = 4) by decide] at hT hO
        cases x <;> cases was <;> cases on
        all_goals
          simp only [Bool.true_and, Bool.and_true, Bool.false_and, Bool.and_false, Bool.true_or, Bool.or_true, Bool.false_or, Bool.or_false, Bool.not_true, Bool.not_false, Bool.false_eq_true, reduceIte] at hT hO
          first | subst hT hO | (subst hT; subst hO)
          go_wp2
          all_goals
            go_ret
            exact ⟨by first | rfl | (simp; done) | (simp; omega), HG.out⟩
      · have hT := HT.out
        have hO := HO.out
        clear HT HO
        unfold stepT at hT
        unfold stepOn at hO
        simp only [reduceIte, show ¬ ((2 : Int) = 1) by decide, show ¬ ((3 : Int) = 1) by decide, show ¬ ((3 : Int) = 2) by decide, show ¬ ((4 : Int) = 1) by decide, show ¬ ((4 : Int) = 2) by decide, show ¬ ((4 : Int) = 3) by decide, show ¬ ((5 : Int) = 1) by decide, show ¬ ((5 : Int) = 2) by decide, show ¬ ((5 : Int) = 3) by decide, show ¬ ((5 : Int) = 4) by decide] at hT hO
        cases y <;> cases x <;> cases was
        all_goals
          simp only [Bool.true_and, Bool.and_true, Bool.false_and, Bool.and_false, Bool.true_or, Bool.or_true, Bool.false_or, Bool.or_false, Bool.not_true, Bool.not_false, Bool.false_eq_true, reduceIte] at hT hO
          first | subst hT hO | (subst hT; subst hO)
          go_wp2
          all_goals
            go_ret
            exact ⟨by first | rfl | (simp; done) | (simp; omega), HG.out⟩
    · subst h1 h2
      rcases hk with rfl | rfl
      · have hT := HT.out
        have hO := HO.out
        clear HT HO
        unfold stepT at hT
        unfold stepOn at hO
        simp only [reduceIte, show ¬ ((2 : Int) = 1) by decide, show ¬ ((3 : Int) = 1) by decide, show ¬ ((3 : Int) = 2) by decide, show ¬ ((4 : Int) = 1) by decide, show ¬ ((4 : Int) = 2) by decide, show ¬ ((4 : Int) = 3) by decide, show ¬ ((5 : Int) = 1) by decide, show ¬ ((5 : Int) = 2) by decide, show ¬ ((5 : Int) = 3) by decide, show ¬ ((5 : Int) = 4) by decide] at hT hO
        cases x <;> cases was
        all_goals
          simp only [Bool.true_and, Bool.and_true, Bool.false_and, Bool.and_false, Bool.true_or, Bool.or_true, Bool.false_or, Bool.or_false, Bool.not_true, Bool.not_false, Bool.false_eq_true, reduceIte] at hT hO
          first | subst hT hO | (subst hT; subst hO)
          go_wp2
          all_goals
            go_ret
            exact ⟨by first | rfl | (simp; done) | (simp; omega), HG.out⟩
      · have hT := HT.out
        have hO := HO.out
        clear HT HO
        unfold stepT at hT
        unfold stepOn at hO
        simp only [reduceIte, show ¬ ((2 : Int) = 1) by decide, show ¬ ((3 : Int) = 1) by decide, show ¬ ((3 : Int) = 2) by decide, show ¬ ((4 : Int) = 1) by decide, show ¬ ((4 : Int) = 2) by decide, show ¬ ((4 : Int) = 3) by decide, show ¬ ((5 : Int) = 1) by decide, show ¬ ((5 : Int) = 2) by decide, show ¬ ((5 : Int) = 3) by decide, show ¬ ((5 : Int) = 4) by decide] at hT hO
        cases y <;> cases x <;> cases on
        all_goals
          simp only [Bool.true_and, Bool.and_true, Bool.false_and, Bool.and_false, Bool.true_or, Bool.or_true, Bool.false_or, Bool.or_false, Bool.not_true, Bool.not_false, Bool.false_eq_true, reduceIte] at hT hO
          first | subst hT hO | (subst hT; subst hO)
          go_wp2
          all_goals
            go_ret
            exact ⟨by first | rfl | (simp; done) | (simp; omega), HG.out⟩
end Go.Proofs.Ytgfoimleoekkiaa
