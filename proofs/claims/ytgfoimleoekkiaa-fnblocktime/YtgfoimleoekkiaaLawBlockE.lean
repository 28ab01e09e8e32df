/-
  FnBlockTime, walked over any bytes. (Written by our generator gen_lawblock.py.)
-/
import Derived.Test.YtgfoimleoekkiaaLawBlockK
namespace Go.Proofs.Ytgfoimleoekkiaa
open Go.ChangeShapes Go.WideShapes Go.ChangeAt Go.RowKit
set_option linter.unusedVariables false
set_option linter.unusedSimpArgs false
set_option maxRecDepth 100000

/-- The delay ahead of round j, when s has gone by. -/
def bT (n : Int) (j : Nat) (s : Int) : BlockD := if j = 0 then ⟨1, n, false, false, 0⟩ else ⟨1, n, decide (n ≤ s), true, s⟩
/-- The hold ahead of round j. -/
def hT (n : Int) (j : Nat) (s : Int) : BlockD := if j = 0 then ⟨2, n, true, true, 0⟩ else ⟨2, n, decide (s < n), false, s⟩


theorem bT_first (n d : Int) (h0 : 0 ≤ n) (h1 : n ≤ 1000) (h2 : 0 ≤ d) (h3 : d ≤ 3) : blockStep (bT n 0 0) true false d = ⟨1, n, decide (n ≤ 0), true, 0⟩ := by
  unfold bT; rw [if_pos rfl, blockStep_ok (kOk (by omega) h0 h1 (by omega) (by omega)) h2 (by omega)]
  unfold stepB stepOn stepT; simp
theorem bT_next (n s d : Int) (j : Nat) (hj : 0 < j) (h0 : 0 ≤ n) (h1 : n ≤ 1000) (h2 : 0 ≤ d) (h3 : d ≤ 3) (h4 : 0 ≤ s) (h5 : s ≤ 900) : blockStep (bT n j s) true false d = ⟨1, n, decide (n ≤ s + d), true, s + d⟩ := by
  unfold bT; rw [if_neg (by omega), blockStep_ok (kOk (by omega) h0 h1 h4 (by omega)) h2 (by omega)]
  unfold stepB stepOn stepT; simp [upto_in (show s + d ≤ 1000 by omega)]
theorem hT_first (n d : Int) (h0 : 0 ≤ n) (h1 : n ≤ 1000) (h2 : 0 ≤ d) (h3 : d ≤ 3) : blockStep (hT n 0 0) false false d = ⟨2, n, decide (0 < n), false, 0⟩ := by
  unfold hT; rw [if_pos rfl, blockStep_ok (kOk (by omega) h0 h1 (by omega) (by omega)) h2 (by omega)]
  unfold stepB stepOn stepT; simp
theorem hT_next (n s d : Int) (j : Nat) (hj : 0 < j) (h0 : 0 ≤ n) (h1 : n ≤ 1000) (h2 : 0 ≤ d) (h3 : d ≤ 3) (h4 : 0 ≤ s) (h5 : s ≤ 900) : blockStep (hT n j s) false false d = ⟨2, n, decide (s + d < n), false, s + d⟩ := by
  unfold hT; rw [if_neg (by omega), blockStep_ok (kOk (by omega) h0 h1 h4 (by omega)) h2 (by omega)]
  unfold stepB stepOn stepT; simp [upto_in (show s + d ≤ 1000 by omega)]
  omega
theorem bT_off (n s : Int) (j : Nat) (hj : j = 0 → s = 0) (h0 : 0 ≤ n) (h1 : n ≤ 1000) (h4 : 0 ≤ s) (h5 : s ≤ 900) : blockStep (bT n j s) false false 5 = ⟨1, n, false, false, 0⟩ := by
  have ok : blockOk (bT n j s) = true := by
    unfold bT; split
    · exact kOk (by omega) h0 h1 (by omega) (by omega)
    · exact kOk (by omega) h0 h1 h4 (by omega)
  rw [blockStep_ok ok (by omega) (by omega)]
  unfold stepB stepOn stepT bT
  split <;> simp
theorem hold_on (n : Int) (h0 : 0 ≤ n) (h1 : n ≤ 1000) : blockStep ⟨2, n, false, false, 0⟩ true false 1 = hT n 0 0 := by
  rw [blockStep_ok (kOk (by omega) h0 h1 (by omega) (by omega)) (by omega) (by omega)]
  unfold stepB stepOn stepT hT; simp

set_option maxHeartbeats 16000000 in
theorem fnBlockTime_walk (w : World) (x0 : Option Addr) (len0 cap0 : Nat) (b0 : Bytes8 w w.heap.size x0 len0) (lc0 : len0 ≤ cap0) (lm0 : cap0 ≤ maxLen) (x1 : Option Addr) (len1 cap1 : Nat) (b1 : Bytes8 w w.heap.size x1 len1) (lc1 : len1 ≤ cap1) (lm1 : cap1 ≤ maxLen) :
    Calls Try.prog 4 #[.slice x0 len0 cap0, .slice x1 len1 cap1] w fun e w' => e = .returned (.bool true) ∧ Below w.heap.size w w' := by
  have lm0b := lm0
  unfold maxLen at lm0b
  have lm1b := lm1
  unfold maxLen at lm1b
  by_cases h0 : (1048576 : Int) < len0
  · go_enter Try.func4, Try.ntmps4
    go_wp2
    go_ret
    exact ⟨rfl, Below.refl _ _⟩
  by_cases h1 : (1048576 : Int) < len1
  · go_enter Try.func4, Try.ntmps4
    go_wp2
    go_ret
    exact ⟨rfl, Below.refl _ _⟩
  go_enter Try.func4, Try.ntmps4
  go_wp2_with fail
  refine (drawBlockNew_any w x0 len0 cap0 b0 lc0 lm0).mono ?_
  rintro e1 u1 ⟨kd, n, rfl, hn0, hn1, g1⟩
  have s1 := g1.size
  have G1 := g1
  clear g1
  clear b0
  have hI1 := fun u => iBlockNew_any u 1 n
  have hS1 := fun u => sBlockNew_any u 1 n
  have hI2 := fun u => iBlockNew_any u 2 n
  have hS2 := fun u => sBlockNew_any u 2 n
  obtain ⟨p, hp0⟩ : ∃ p, blockNew 1 n = p := ⟨_, rfl⟩
  obtain ⟨q, hq0⟩ : ∃ q, blockNew 2 n = q := ⟨_, rfl⟩
  rw [hp0] at hI1 hS1
  rw [hq0] at hI2 hS2
  have HP : Hid (blockNew 1 n = p) := hp0
  have HQ : Hid (blockNew 2 n = q) := hq0
  clear hp0 hq0
  go_wp2_with fail
  refine (hI1 _).mono ?_
  rintro e2 u2 ⟨rfl, g2⟩
  have s2 := g2.size
  have G2 := G1.trans (g2.mono (by omega))
  clear G1
  clear g2
  clear hI1
  go_wp2_with (first | fail | refine wpList_allocB rfl rfl ?_)
  intro u3 g3 B_3 s3
  have G3 := G2.trans (g3.mono (by omega))
  clear G2
  clear g3
  go_wp2_with (first | fail | refine wpList_storeB (b := p) rfl _ _ rfl rfl rfl B_3 ?_)
  intro u4 L4
  have s4 := L4.size
  have B_4 := L4.cell
  have G4 := G3.trans (L4.below.mono (by omega))
  clear G3
  clear L4 B_3
  go_wp2_with (first | refine wpList_loadB rfl _ rfl rfl B_4 ?_)
  refine (hI2 _).mono ?_
  rintro e5 u5 ⟨rfl, g5⟩
  have s5 := g5.size
  have B_5 := B_4.below g5 (by omega)
  clear B_4
  have G5 := G4.trans (g5.mono (by omega))
  clear G4
  clear g5
  clear hI2
  go_wp2_with (first | refine wpList_loadB rfl _ rfl rfl B_5 ?_ | refine wpList_allocB rfl rfl ?_)
  intro u6 g6 H_6 s6
  have B_6 := B_5.below g6 (by omega)
  clear B_5
  have G6 := G5.trans (g6.mono (by omega))
  clear G5
  clear g6
  go_wp2_with (first | refine wpList_loadB rfl _ rfl rfl B_6 ?_ | refine wpList_storeB (b := q) rfl _ _ rfl rfl rfl H_6 ?_)
  intro u7 L7
  have s7 := L7.size
  have B_7 := L7.other B_6 (by omega)
  clear B_6
  have H_7 := L7.cell
  have G7 := G6.trans (L7.below.mono (by omega))
  clear G6
  clear L7 H_6
  obtain ⟨sf, hsf⟩ : ∃ sf, (!sameB p p) = sf := ⟨_, rfl⟩
  obtain ⟨tf, htf⟩ : ∃ tf, (!sameB q q) = tf := ⟨_, rfl⟩
  have hne1 := fun u => neq_block p p u
  rw [hsf] at hne1
  have hne2 := fun u => neq_block q q u
  rw [htf] at hne2
  have hgd1 := fun op x y u => guard_block op x y p p u
  have hgd2 := fun op x y u => guard_block op x y q q u
  have HF : Hid (sf = false ∧ tf = false) := ⟨by rw [← hsf, sameB_self]; rfl, by rw [← htf, sameB_self]; rfl⟩
  clear hsf htf
  go_wp2_with fail
  refine wp_region_dag (R := Grow) (Φ := fun i v u => match i with
      | 0 => v = p.val
      | 1 => v = .int .i64 n
      | 2 => v = p.val
      | 3 => v = .bool sf
      | 4 => v = .bool sf
      | 5 => v = cond sf undef (q.val)
      | 6 => v = cond sf undef (.int .i64 n)
      | 7 => v = cond sf undef (q.val)
      | 8 => v = cond sf undef (.bool tf)
      | 9 => v = .bool (sf || tf)
      | _ => True) (by kernel_rfl) (by kernel_rfl) (by kernel_rfl) (Below.refl _ _) grow_trans ?_ ?_ ?_
  · intro i v u u' hr
    match i with
    | 0 | 1 | 2 | 3 | 4 | 5 | 6 | 7 | 8 | 9 | _ + 10 => exact fun h => h
  · intro i o ho a u hf hR0 he K' hK
    have hR : Grow u7 u := (Below.drew (Below.refl _ _)).trans hR0
    have hsz' : a.tmps.size = 118 := hf.size
    have hus := hR.size
    rcases i with _ | _ | _ | _ | _ | _ | _ | _ | _ | _ | i
    · obtain rfl := Option.some.inj ho
      have q7 : a.tmps.getD 7 undef = .pointer (some ⟨u2.heap.size, 0, none⟩) := hf.at_ 7 (by kernel_rfl)
      have cu0 := B_7.below hR (by omega)
      clear he
      refine wanted_none rfl ?_
      refine wp_loadB (Operand.tmp 7) rfl q7 cu0 ?_
      exact hK _ _ (Below.refl _ _) (getD_put_self a 35 _ (by show _ < a.tmps.size; omega))
    · obtain rfl := Option.some.inj ho
      have q6 : a.tmps.getD 6 undef = .int .i64 n := hf.at_ 6 (by kernel_rfl)
      clear he
      go_simp
      exact hK _ _ (Below.refl _ _) (getD_put_self a 36 _ (by show _ < a.tmps.size; omega))
    · obtain rfl := Option.some.inj ho
      have q36 : a.tmps.getD 36 undef = .int .i64 n := he _ (Array.mem_of_getElem? (i := 0) rfl) (by kernel_rfl) _ rfl
      clear he
      go_simp
      refine (hS1 _).mono ?_
      rintro e1 u' ⟨rfl, hbu⟩
      exact hK _ _ hbu (getD_put_self a 37 _ (by show _ < a.tmps.size; omega))
    · obtain rfl := Option.some.inj ho
      have q35 : a.tmps.getD 35 undef = p.val := he _ (Array.mem_of_getElem? (i := 0) rfl) (by kernel_rfl) _ rfl
      have q37 : a.tmps.getD 37 undef = p.val := he _ (Array.mem_of_getElem? (i := 1) rfl) (by kernel_rfl) _ rfl
      clear he
      go_simp
      exact hK _ _ (Below.refl _ _) (getD_put_self a 38 _ (by show _ < a.tmps.size; omega))
    · obtain rfl := Option.some.inj ho
      have q38 : a.tmps.getD 38 undef = .bool sf := he _ (Array.mem_of_getElem? (i := 0) rfl) (by kernel_rfl) _ rfl
      clear he
      go_simp
      exact hK _ _ (Below.refl _ _) (getD_put_self a 39 _ (by show _ < a.tmps.size; omega))
    · obtain rfl := Option.some.inj ho
      have qg : a.tmps.getD 39 undef = .bool sf := he _ (Array.mem_of_getElem? (i := 0) rfl) (by kernel_rfl) _ rfl
      cases sf with
      | true =>
        refine wanted_off rfl (yielded_g (i := 4) rfl rfl (by show 39 < a.tmps.size; omega) qg) ?_
        exact hK undef u (Below.refl _ _) (getD_put_self a 40 _ (by show _ < a.tmps.size; omega))
      | false =>
        have q8 : a.tmps.getD 8 undef = .pointer (some ⟨u5.heap.size, 0, none⟩) := hf.at_ 8 (by kernel_rfl)
        have cu5 := H_7.below hR (by omega)
        clear he
        refine wanted_on rfl (yielded_g (i := 4) rfl rfl (by show 39 < a.tmps.size; omega) qg) ?_
        refine wp_loadB (Operand.tmp 8) rfl q8 cu5 ?_
        exact hK _ _ (Below.refl _ _) (getD_put_self a 40 _ (by show _ < a.tmps.size; omega))
    · obtain rfl := Option.some.inj ho
      have qg : a.tmps.getD 39 undef = .bool sf := he _ (Array.mem_of_getElem? (i := 0) rfl) (by kernel_rfl) _ rfl
      cases sf with
      | true =>
        refine wanted_off rfl (yielded_g (i := 4) rfl rfl (by show 39 < a.tmps.size; omega) qg) ?_
        exact hK undef u (Below.refl _ _) (getD_put_self a 41 _ (by show _ < a.tmps.size; omega))
      | false =>
        have q6 : a.tmps.getD 6 undef = .int .i64 n := hf.at_ 6 (by kernel_rfl)
        clear he
        refine wanted_on rfl (yielded_g (i := 4) rfl rfl (by show 39 < a.tmps.size; omega) qg) ?_
        go_simp
        exact hK _ _ (Below.refl _ _) (getD_put_self a 41 _ (by show _ < a.tmps.size; omega))
    · obtain rfl := Option.some.inj ho
      have qg : a.tmps.getD 39 undef = .bool sf := he _ (Array.mem_of_getElem? (i := 1) rfl) (by kernel_rfl) _ rfl
      cases sf with
      | true =>
        refine wanted_off rfl (yielded_g (i := 4) rfl rfl (by show 39 < a.tmps.size; omega) qg) ?_
        exact hK undef u (Below.refl _ _) (getD_put_self a 42 _ (by show _ < a.tmps.size; omega))
      | false =>
        have q41 : a.tmps.getD 41 undef = .int .i64 n := he _ (Array.mem_of_getElem? (i := 0) rfl) (by kernel_rfl) _ rfl
        clear he
        refine wanted_on rfl (yielded_g (i := 4) rfl rfl (by show 39 < a.tmps.size; omega) qg) ?_
        go_simp
        refine (hS2 _).mono ?_
        rintro e1 u' ⟨rfl, hbu⟩
        exact hK _ _ hbu (getD_put_self a 42 _ (by show _ < a.tmps.size; omega))
    · obtain rfl := Option.some.inj ho
      have qg : a.tmps.getD 39 undef = .bool sf := he _ (Array.mem_of_getElem? (i := 2) rfl) (by kernel_rfl) _ rfl
      cases sf with
      | true =>
        refine wanted_off rfl (yielded_g (i := 4) rfl rfl (by show 39 < a.tmps.size; omega) qg) ?_
        exact hK undef u (Below.refl _ _) (getD_put_self a 43 _ (by show _ < a.tmps.size; omega))
      | false =>
        have q40 : a.tmps.getD 40 undef = q.val := he _ (Array.mem_of_getElem? (i := 0) rfl) (by kernel_rfl) _ rfl
        have q42 : a.tmps.getD 42 undef = q.val := he _ (Array.mem_of_getElem? (i := 1) rfl) (by kernel_rfl) _ rfl
        clear he
        refine wanted_on rfl (yielded_g (i := 4) rfl rfl (by show 39 < a.tmps.size; omega) qg) ?_
        go_simp
        exact hK _ _ (Below.refl _ _) (getD_put_self a 43 _ (by show _ < a.tmps.size; omega))
    · obtain rfl := Option.some.inj ho
      cases sf with
      | true =>
        have q39 : a.tmps.getD 39 undef = .bool true := he _ (Array.mem_of_getElem? (i := 0) rfl) (by kernel_rfl) _ rfl
        clear he
        go_simp
        exact hK _ _ (Below.refl _ _) (getD_put_self a 44 _ (by show _ < a.tmps.size; omega))
      | false =>
        have q39 : a.tmps.getD 39 undef = .bool false := he _ (Array.mem_of_getElem? (i := 0) rfl) (by kernel_rfl) _ rfl
        have q43 : a.tmps.getD 43 undef = .bool tf := he _ (Array.mem_of_getElem? (i := 1) rfl) (by kernel_rfl) _ rfl
        clear he
        go_simp
        exact hK _ _ (Below.refl _ _) (getD_put_self a 44 _ (by show _ < a.tmps.size; omega))
    · exact absurd ho (by simp)
  · intro a u8 hf hR0 hp
    have g8 : Grow u7 u8 := (Below.drew (Below.refl _ _)).trans hR0
    have m44 : a.tmps.getD 44 undef = .bool (sf || tf) := hp 9 _ rfl
    rw [HF.out.1, HF.out.2] at m44
    simp only [Bool.or_self] at m44
    clear hp hR0 hS1 hS2 hne1 hne2 hgd1 hgd2 HF
    have s8 := g8.size
    have B_8 := B_7.below g8 (by omega)
    clear B_7
    have H_8 := H_7.below g8 (by omega)
    clear H_7
    have G8 := G7.trans (g8.mono (by omega))
    clear G7
    clear g8
    obtain ⟨fq, ea, hfv⟩ := act_lit a 118 hf.size
    have md : a.defers = [] := hf.defers
    rw [md] at ea
    have m0 := hf.at_ 0 (by kernel_rfl)
    have m1 := hf.at_ 1 (by kernel_rfl)
    have m2 := hf.at_ 2 (by kernel_rfl)
    have m3 := hf.at_ 3 (by kernel_rfl)
    have m4 := hf.at_ 4 (by kernel_rfl)
    have m5 := hf.at_ 5 (by kernel_rfl)
    have m6 := hf.at_ 6 (by kernel_rfl)
    have m7 := hf.at_ 7 (by kernel_rfl)
    have m8 := hf.at_ 8 (by kernel_rfl)
    have m9 := hf.at_ 9 (by kernel_rfl)
    have m10 := hf.at_ 10 (by kernel_rfl)
    have m11 := hf.at_ 11 (by kernel_rfl)
    have m12 := hf.at_ 12 (by kernel_rfl)
    have m13 := hf.at_ 13 (by kernel_rfl)
    have m14 := hf.at_ 14 (by kernel_rfl)
    have m15 := hf.at_ 15 (by kernel_rfl)
    have m16 := hf.at_ 16 (by kernel_rfl)
    have m17 := hf.at_ 17 (by kernel_rfl)
    have m18 := hf.at_ 18 (by kernel_rfl)
    have m19 := hf.at_ 19 (by kernel_rfl)
    have m20 := hf.at_ 20 (by kernel_rfl)
    have m21 := hf.at_ 21 (by kernel_rfl)
    have m22 := hf.at_ 22 (by kernel_rfl)
    have m23 := hf.at_ 23 (by kernel_rfl)
    have m24 := hf.at_ 24 (by kernel_rfl)
    have m25 := hf.at_ 25 (by kernel_rfl)
    have m26 := hf.at_ 26 (by kernel_rfl)
    have m27 := hf.at_ 27 (by kernel_rfl)
    have m28 := hf.at_ 28 (by kernel_rfl)
    have m29 := hf.at_ 29 (by kernel_rfl)
    have m30 := hf.at_ 30 (by kernel_rfl)
    have m31 := hf.at_ 31 (by kernel_rfl)
    have m32 := hf.at_ 32 (by kernel_rfl)
    have m33 := hf.at_ 33 (by kernel_rfl)
    have m34 := hf.at_ 34 (by kernel_rfl)
    have m45 := hf.at_ 45 (by kernel_rfl)
    have m46 := hf.at_ 46 (by kernel_rfl)
    have m47 := hf.at_ 47 (by kernel_rfl)
    have m48 := hf.at_ 48 (by kernel_rfl)
    have m49 := hf.at_ 49 (by kernel_rfl)
    have m50 := hf.at_ 50 (by kernel_rfl)
    have m51 := hf.at_ 51 (by kernel_rfl)
    have m52 := hf.at_ 52 (by kernel_rfl)
    have m53 := hf.at_ 53 (by kernel_rfl)
    have m54 := hf.at_ 54 (by kernel_rfl)
    have m55 := hf.at_ 55 (by kernel_rfl)
    have m56 := hf.at_ 56 (by kernel_rfl)
    have m57 := hf.at_ 57 (by kernel_rfl)
    have m58 := hf.at_ 58 (by kernel_rfl)
    have m59 := hf.at_ 59 (by kernel_rfl)
    have m60 := hf.at_ 60 (by kernel_rfl)
    have m61 := hf.at_ 61 (by kernel_rfl)
    have m62 := hf.at_ 62 (by kernel_rfl)
    have m63 := hf.at_ 63 (by kernel_rfl)
    have m64 := hf.at_ 64 (by kernel_rfl)
    have m65 := hf.at_ 65 (by kernel_rfl)
    have m66 := hf.at_ 66 (by kernel_rfl)
    have m67 := hf.at_ 67 (by kernel_rfl)
    have m68 := hf.at_ 68 (by kernel_rfl)
    have m69 := hf.at_ 69 (by kernel_rfl)
    have m70 := hf.at_ 70 (by kernel_rfl)
    have m71 := hf.at_ 71 (by kernel_rfl)
    have m72 := hf.at_ 72 (by kernel_rfl)
    have m73 := hf.at_ 73 (by kernel_rfl)
    have m74 := hf.at_ 74 (by kernel_rfl)
    have m75 := hf.at_ 75 (by kernel_rfl)
    have m76 := hf.at_ 76 (by kernel_rfl)
    have m77 := hf.at_ 77 (by kernel_rfl)
    have m78 := hf.at_ 78 (by kernel_rfl)
    have m79 := hf.at_ 79 (by kernel_rfl)
    have m80 := hf.at_ 80 (by kernel_rfl)
    have m81 := hf.at_ 81 (by kernel_rfl)
    have m82 := hf.at_ 82 (by kernel_rfl)
    have m83 := hf.at_ 83 (by kernel_rfl)
    have m84 := hf.at_ 84 (by kernel_rfl)
    have m85 := hf.at_ 85 (by kernel_rfl)
    have m86 := hf.at_ 86 (by kernel_rfl)
    have m87 := hf.at_ 87 (by kernel_rfl)
    have m88 := hf.at_ 88 (by kernel_rfl)
    have m89 := hf.at_ 89 (by kernel_rfl)
    have m90 := hf.at_ 90 (by kernel_rfl)
    have m91 := hf.at_ 91 (by kernel_rfl)
    have m92 := hf.at_ 92 (by kernel_rfl)
    have m93 := hf.at_ 93 (by kernel_rfl)
    have m94 := hf.at_ 94 (by kernel_rfl)
    have m95 := hf.at_ 95 (by kernel_rfl)
    have m96 := hf.at_ 96 (by kernel_rfl)
    have m97 := hf.at_ 97 (by kernel_rfl)
    have m98 := hf.at_ 98 (by kernel_rfl)
    have m99 := hf.at_ 99 (by kernel_rfl)
    have m100 := hf.at_ 100 (by kernel_rfl)
    have m101 := hf.at_ 101 (by kernel_rfl)
    have m102 := hf.at_ 102 (by kernel_rfl)
    have m103 := hf.at_ 103 (by kernel_rfl)
    have m104 := hf.at_ 104 (by kernel_rfl)
    have m105 := hf.at_ 105 (by kernel_rfl)
    have m106 := hf.at_ 106 (by kernel_rfl)
    have m107 := hf.at_ 107 (by kernel_rfl)
    have m108 := hf.at_ 108 (by kernel_rfl)
    have m109 := hf.at_ 109 (by kernel_rfl)
    have m110 := hf.at_ 110 (by kernel_rfl)
    have m111 := hf.at_ 111 (by kernel_rfl)
    have m112 := hf.at_ 112 (by kernel_rfl)
    have m113 := hf.at_ 113 (by kernel_rfl)
    have m114 := hf.at_ 114 (by kernel_rfl)
    have m115 := hf.at_ 115 (by kernel_rfl)
    have m116 := hf.at_ 116 (by kernel_rfl)
    have m117 := hf.at_ 117 (by kernel_rfl)
    rw [← hfv] at m0 m1 m2 m3 m4 m5 m6 m7 m8 m9 m10 m11 m12 m13 m14 m15 m16 m17 m18 m19 m20 m21 m22 m23 m24 m25 m26 m27 m28 m29 m30 m31 m32 m33 m34 m45 m46 m47 m48 m49 m50 m51 m52 m53 m54 m55 m56 m57 m58 m59 m60 m61 m62 m63 m64 m65 m66 m67 m68 m69 m70 m71 m72 m73 m74 m75 m76 m77 m78 m79 m80 m81 m82 m83 m84 m85 m86 m87 m88 m89 m90 m91 m92 m93 m94 m95 m96 m97 m98 m99 m100 m101 m102 m103 m104 m105 m106 m107 m108 m109 m110 m111 m112 m113 m114 m115 m116 m117 m44
    simp only [Array.getD_eq_getD_getElem?, List.getElem?_toArray, List.getElem?_cons_succ, List.getElem?_cons_zero, Option.getD_some] at m0 m1 m2 m3 m4 m5 m6 m7 m8 m9 m10 m11 m12 m13 m14 m15 m16 m17 m18 m19 m20 m21 m22 m23 m24 m25 m26 m27 m28 m29 m30 m31 m32 m33 m34 m45 m46 m47 m48 m49 m50 m51 m52 m53 m54 m55 m56 m57 m58 m59 m60 m61 m62 m63 m64 m65 m66 m67 m68 m69 m70 m71 m72 m73 m74 m75 m76 m77 m78 m79 m80 m81 m82 m83 m84 m85 m86 m87 m88 m89 m90 m91 m92 m93 m94 m95 m96 m97 m98 m99 m100 m101 m102 m103 m104 m105 m106 m107 m108 m109 m110 m111 m112 m113 m114 m115 m116 m117
    simp only [List.range, List.range.loop, List.map_cons, List.map_nil, m0, m1, m2, m3, m4, m5, m6, m7, m8, m9, m10, m11, m12, m13, m14, m15, m16, m17, m18, m19, m20, m21, m22, m23, m24, m25, m26, m27, m28, m29, m30, m31, m32, m33, m34, m45, m46, m47, m48, m49, m50, m51, m52, m53, m54, m55, m56, m57, m58, m59, m60, m61, m62, m63, m64, m65, m66, m67, m68, m69, m70, m71, m72, m73, m74, m75, m76, m77, m78, m79, m80, m81, m82, m83, m84, m85, m86, m87, m88, m89, m90, m91, m92, m93, m94, m95, m96, m97, m98, m99, m100, m101, m102, m103, m104, m105, m106, m107, m108, m109, m110, m111, m112, m113, m114, m115, m116, m117, m44] at ea
    subst ea
    clear m0 m1 m2 m3 m4 m5 m6 m7 m8 m9 m10 m11 m12 m13 m14 m15 m16 m17 m18 m19 m20 m21 m22 m23 m24 m25 m26 m27 m28 m29 m30 m31 m32 m33 m34 m45 m46 m47 m48 m49 m50 m51 m52 m53 m54 m55 m56 m57 m58 m59 m60 m61 m62 m63 m64 m65 m66 m67 m68 m69 m70 m71 m72 m73 m74 m75 m76 m77 m78 m79 m80 m81 m82 m83 m84 m85 m86 m87 m88 m89 m90 m91 m92 m93 m94 m95 m96 m97 m98 m99 m100 m101 m102 m103 m104 m105 m106 m107 m108 m109 m110 m111 m112 m113 m114 m115 m116 m117 m44 hfv md hf
    by_cases hb : n < 0 ∨ 1000 < n
    · obtain rfl : p = noB := by rw [← HP.out]; unfold blockNew; rw [if_neg]; rw [numB_kinds (by omega)]; simp; omega
      have heq := fun u => eql_block noB noB u
      rw [sameB_self] at heq
      have hgd := fun op x y u => guard_block op x y noB noB u
      simp only [BlockD.val, noB] at heq hgd
      obtain ⟨zc0, zc1, zc2, zc3, zc4, _⟩ := id B_8
      simp only [noB] at zc0 zc1 zc2 zc3 zc4
      rcases hb with hb | hb
      all_goals
        go_wp2
        go_ret
        exact ⟨rfl, G8⟩
    have h00 : 0 ≤ n := by omega
    have h01 : n ≤ 1000 := by omega
    clear hb
    obtain rfl : p = bT n 0 0 := by rw [← HP.out]; unfold blockNew; rw [if_pos (by rw [numB_kinds (by omega)]; simp; omega)]; rfl
    obtain rfl : q = ⟨2, n, false, false, 0⟩ := by rw [← HQ.out]; unfold blockNew; rw [if_pos (by rw [numB_kinds (by omega)]; simp; omega)]
    clear HP HQ
    have hI := fun u => iBlockStep_any u ⟨2, n, false, false, 0⟩ true false 1
    rw [hold_on n h00 h01] at hI
    obtain ⟨kh0, kh1, kh2, kh3, kh4, _⟩ := id H_8
    try simp only at kh0 kh1 kh2 kh3 kh4
    go_wp2_with fail
    clear kh0 kh1 kh2 kh3 kh4
    refine (hI _).mono ?_
    rintro e9 u9 ⟨rfl, g9⟩
    have s9 := g9.size
    have B_9 := B_8.below g9 (by omega)
    clear B_8
    have H_9 := H_8.below g9 (by omega)
    clear H_8
    have G9 := G8.trans (g9.mono (by omega))
    clear G8
    clear g9
    clear hI
    go_wp2_with (refine wpList_storeB (b := hT n 0 0) rfl _ _ rfl rfl rfl H_9 ?_)
    intro u10 L10
    have s10 := L10.size
    have B_10 := L10.other B_9 (by omega)
    clear B_9
    have H_10 := L10.cell
    have G10 := G9.trans (L10.below.mono (by omega))
    clear G9
    clear L10 H_9
    obtain ⟨PB, hPB⟩ : ∃ P, u2.heap.size = P := ⟨_, rfl⟩
    obtain ⟨PH, hPH⟩ : ∃ P, u5.heap.size = P := ⟨_, rfl⟩
    rw [hPB] at B_10 ⊢
    rw [hPH] at H_10 ⊢
    have hLE : PB < PH := by omega
    have hw0 : w.heap.size ≤ PB := by omega
    have HI : Hid (CellB u10 PB (bT n 0 0) ∧ CellB u10 PH (hT n 0 0) ∧ Below w.heap.size w u10 ∧ PH < u10.heap.size) := ⟨B_10, H_10, G10, by omega⟩
    clear B_10 H_10 G10 hPB hPH s1 s2 s3 s4 s5 s6 s7 s8 s9 s10
    have HB : Hid (Bytes8 w w.heap.size x1 len1) := b1
    clear b1
    go_wp2_with fail
    go_loopw [9, 10] (fun s i wr => ∃ (j : Nat) (z : Int), s = .int .i64 z ∧ i = .int .i64 j ∧ j ≤ 12 ∧ 0 ≤ z ∧ z ≤ 3 * j ∧ Hid (j = 0 → z = 0) ∧ Hid (CellB wr PB (bT n j z) ∧ CellB wr PH (hT n j z) ∧ Below w.heap.size w wr ∧ PH < wr.heap.size)) (fun _ i _ => 12 - (intOf i).toNat)
    case atStart => exact ⟨0, 0, rfl, rfl, by omega, by omega, by omega, fun _ => rfl, HI⟩
    case round =>
      clear HI
      obtain ⟨j, s, rfl, rfl, hj, hs0, hs1, HZ, HR⟩ := hrel
      by_cases hjl : j < len1
      rotate_left 1
      · have hjl' : ¬ (j : Int) < (len1 : Int) := by omega
        obtain ⟨p1, p2, G0, hPu⟩ := HR.out
        clear HR
        have hI := fun u => iBlockStep_any u (bT n j s) false false 5
        rw [bT_off n s j HZ.out h00 h01 hs0 (by omega)] at hI
        obtain ⟨kb0, kb1, kb2, kb3, kb4, _⟩ := id p1
        try simp only at kb0 kb1 kb2 kb3 kb4
        go_wp2_with fail
        clear kb0 kb1 kb2 kb3 kb4
        refine (hI _).mono ?_
        rintro e1 u1 ⟨rfl, g1⟩
        have s1 := g1.size
        have B_1 := p1.below g1 (by omega)
        clear p1
        have G1 := G0.trans (g1.mono (by omega))
        clear G0
        clear g1
        clear hI
        go_wp2_with (refine wpList_allocB rfl rfl ?_)
        intro u2 g2 Z_2 s2
        have B_2 := B_1.below g2 (by omega)
        clear B_1
        have G2 := G1.trans (g2.mono (by omega))
        clear G1
        clear g2
        go_wp2_with (refine wpList_storeB (b := ⟨1, n, false, false, 0⟩) rfl _ _ rfl rfl rfl Z_2 ?_)
        intro u3 L3
        have s3 := L3.size
        have B_3 := L3.other B_2 (by omega)
        clear B_2
        have Z_3 := L3.cell
        have G3 := G2.trans (L3.below.mono (by omega))
        clear G2
        clear L3 Z_2
        obtain ⟨kz0, kz1, kz2, kz3, kz4, _⟩ := id Z_3
        try simp only at kz0 kz1 kz2 kz3 kz4
        go_wp2
        go_ret
        exact ⟨rfl, G3⟩
      have hjl' : (j : Int) < (len1 : Int) := by omega
      by_cases hj2 : j < 12
      rotate_left 1
      · have hj2' : ¬ (j : Int) < 12 := by omega
        obtain ⟨p1, p2, G0, hPu⟩ := HR.out
        clear HR
        have hI := fun u => iBlockStep_any u (bT n j s) false false 5
        rw [bT_off n s j HZ.out h00 h01 hs0 (by omega)] at hI
        obtain ⟨kb0, kb1, kb2, kb3, kb4, _⟩ := id p1
        try simp only at kb0 kb1 kb2 kb3 kb4
        go_wp2_with fail
        clear kb0 kb1 kb2 kb3 kb4
        refine (hI _).mono ?_
        rintro e1 u1 ⟨rfl, g1⟩
        have s1 := g1.size
        have B_1 := p1.below g1 (by omega)
        clear p1
        have G1 := G0.trans (g1.mono (by omega))
        clear G0
        clear g1
        clear hI
        go_wp2_with (refine wpList_allocB rfl rfl ?_)
        intro u2 g2 Z_2 s2
        have B_2 := B_1.below g2 (by omega)
        clear B_1
        have G2 := G1.trans (g2.mono (by omega))
        clear G1
        clear g2
        go_wp2_with (refine wpList_storeB (b := ⟨1, n, false, false, 0⟩) rfl _ _ rfl rfl rfl Z_2 ?_)
        intro u3 L3
        have s3 := L3.size
        have B_3 := L3.other B_2 (by omega)
        clear B_2
        have Z_3 := L3.cell
        have G3 := G2.trans (L3.below.mono (by omega))
        clear G2
        clear L3 Z_2
        obtain ⟨kz0, kz1, kz2, kz3, kz4, _⟩ := id Z_3
        try simp only at kz0 kz1 kz2 kz3 kz4
        go_wp2
        go_ret
        exact ⟨rfl, G3⟩
      have hj2' : (j : Int) < 12 := by omega
      obtain ⟨bb, off, z, rfl, hcell, hz0, hz1⟩ := byte_at HB.out HR.out.2.2.1 hjl
      obtain ⟨p1, p2, G0, hPu⟩ := HR.out
      clear HR
      obtain ⟨d, hd, hd0, hd3⟩ : ∃ d : Int, z % 4 = d ∧ 0 ≤ d ∧ d ≤ 3 := ⟨_, rfl, by omega, by omega⟩
      have hd2 : z.tmod 4 = d := by rw [Int.tmod_eq_emod_of_nonneg hz0, hd]
      by_cases hj0 : 0 < j
      rotate_left 1
      · obtain rfl : j = 0 := by omega
        obtain rfl : s = 0 := HZ.out rfl
        rw [Nat.add_zero] at hcell
        have hS := fun u => iBlockStep_any u (bT n 0 0) true false d
        have hR := fun u => iBlockStep_any u (hT n 0 0) false false d
        rw [bT_first n d h00 h01 hd0 hd3] at hS
        rw [hT_first n d h00 h01 hd0 hd3] at hR
        simp only at hS hR
        obtain ⟨kb0, kb1, kb2, kb3, kb4, _⟩ := id p1
        try simp only at kb0 kb1 kb2 kb3 kb4
        go_wp2_with fail
        clear kb0 kb1 kb2 kb3 kb4
        refine (hS _).mono ?_
        rintro e1 u1 ⟨rfl, g1⟩
        have s1 := g1.size
        have B_1 := p1.below g1 (by omega)
        clear p1
        have H_1 := p2.below g1 (by omega)
        clear p2
        have G1 := G0.trans (g1.mono (by omega))
        clear G0
        clear g1
        clear hS hcell
        go_wp2_with (refine wpList_allocB rfl rfl ?_)
        intro u2 g2 Z_2 s2
        have B_2 := B_1.below g2 (by omega)
        clear B_1
        have H_2 := H_1.below g2 (by omega)
        clear H_1
        have G2 := G1.trans (g2.mono (by omega))
        clear G1
        clear g2
        go_wp2_with (refine wpList_storeB (b := ⟨1, n, decide (n ≤ 0), true, 0⟩) rfl _ _ rfl rfl rfl Z_2 ?_)
        intro u3 L3
        have s3 := L3.size
        have B_3 := L3.other B_2 (by omega)
        clear B_2
        have H_3 := L3.other H_2 (by omega)
        clear H_2
        have Z_3 := L3.cell
        have G3 := G2.trans (L3.below.mono (by omega))
        clear G2
        clear L3 Z_2
        obtain ⟨kh0, kh1, kh2, kh3, kh4, _⟩ := id H_3
        try simp only at kh0 kh1 kh2 kh3 kh4
        go_wp2_with fail
        clear kh0 kh1 kh2 kh3 kh4
        refine (hR _).mono ?_
        rintro e4 u4 ⟨rfl, g4⟩
        have s4 := g4.size
        have B_4 := B_3.below g4 (by omega)
        clear B_3
        have H_4 := H_3.below g4 (by omega)
        clear H_3
        have Z_4 := Z_3.below g4 (by omega)
        clear Z_3
        have G4 := G3.trans (g4.mono (by omega))
        clear G3
        clear g4
        clear hR
        go_wp2_with (refine wpList_allocB rfl rfl ?_)
        intro u5 g5 Y_5 s5
        have B_5 := B_4.below g5 (by omega)
        clear B_4
        have H_5 := H_4.below g5 (by omega)
        clear H_4
        have Z_5 := Z_4.below g5 (by omega)
        clear Z_4
        have G5 := G4.trans (g5.mono (by omega))
        clear G4
        clear g5
        go_wp2_with (refine wpList_storeB (b := ⟨2, n, decide (0 < n), false, 0⟩) rfl _ _ rfl rfl rfl Y_5 ?_)
        intro u6 L6
        have s6 := L6.size
        have B_6 := L6.other B_5 (by omega)
        clear B_5
        have H_6 := L6.other H_5 (by omega)
        clear H_5
        have Z_6 := L6.other Z_5 (by omega)
        clear Z_5
        have Y_6 := L6.cell
        have G6 := G5.trans (L6.below.mono (by omega))
        clear G5
        clear L6 Y_5
        obtain ⟨kz0, kz1, kz2, kz3, kz4, _⟩ := id Z_6
        try simp only at kz0 kz1 kz2 kz3 kz4
        have e1 : (decide (n ≤ 0) != decide (n ≤ 0)) = false := by simp
        have e2 : (decide (0 < n) != decide (0 < n)) = false := by simp
        go_wp2_with (refine wpList_storeB (b := ⟨1, n, decide (n ≤ 0), true, 0⟩) rfl _ _ rfl rfl rfl B_6 ?_)
        clear kz0 kz1 kz2 kz3 kz4
        intro u7 L7
        have s7 := L7.size
        have H_7 := L7.other H_6 (by omega)
        clear H_6
        have Z_7 := L7.other Z_6 (by omega)
        clear Z_6
        have Y_7 := L7.other Y_6 (by omega)
        clear Y_6
        have B_7 := L7.cell
        have G7 := G6.trans (L7.below.mono (by omega))
        clear G6
        clear L7 B_6 e1 e2
        obtain ⟨ky0, ky1, ky2, ky3, ky4, _⟩ := id Y_7
        try simp only at ky0 ky1 ky2 ky3 ky4
        go_wp2_with (refine wpList_storeB (b := ⟨2, n, decide (0 < n), false, 0⟩) rfl _ _ rfl rfl rfl H_7 ?_)
        clear ky0 ky1 ky2 ky3 ky4
        intro u8 L8
        have s8 := L8.size
        have Z_8 := L8.other Z_7 (by omega)
        clear Z_7
        have Y_8 := L8.other Y_7 (by omega)
        clear Y_7
        have B_8 := L8.other B_7 (by omega)
        clear B_7
        have H_8 := L8.cell
        have G8 := G7.trans (L8.below.mono (by omega))
        clear G7
        clear L8 H_7
        have HN : Hid (CellB u8 PB (bT n (0 + 1) 0) ∧ CellB u8 PH (hT n (0 + 1) 0) ∧ Below w.heap.size w u8 ∧ PH < u8.heap.size) := ⟨B_8, H_8, G8, by omega⟩
        clear Z_8 Y_8 B_8 H_8 G8
        go_wp2
        go_roundw
        case rel => exact ⟨0 + 1, 0, rfl, by go_num, by omega, by omega, by omega, fun h => absurd h (by omega), HN⟩
        case measure => simp [intOf] <;> omega
      · have hj0' : (0 : Int) < (j : Int) := by omega
        have hS := fun u => iBlockStep_any u (bT n j s) true false d
        have hR := fun u => iBlockStep_any u (hT n j s) false false d
        rw [bT_next n s d j hj0 h00 h01 hd0 hd3 hs0 (by omega)] at hS
        rw [hT_next n s d j hj0 h00 h01 hd0 hd3 hs0 (by omega)] at hR
        simp only at hS hR
        obtain ⟨kb0, kb1, kb2, kb3, kb4, _⟩ := id p1
        try simp only at kb0 kb1 kb2 kb3 kb4
        go_wp2_with fail
        clear kb0 kb1 kb2 kb3 kb4
        refine (hS _).mono ?_
        rintro e1 u1 ⟨rfl, g1⟩
        have s1 := g1.size
        have B_1 := p1.below g1 (by omega)
        clear p1
        have H_1 := p2.below g1 (by omega)
        clear p2
        have G1 := G0.trans (g1.mono (by omega))
        clear G0
        clear g1
        clear hS hcell
        go_wp2_with (refine wpList_allocB rfl rfl ?_)
        intro u2 g2 Z_2 s2
        have B_2 := B_1.below g2 (by omega)
        clear B_1
        have H_2 := H_1.below g2 (by omega)
        clear H_1
        have G2 := G1.trans (g2.mono (by omega))
        clear G1
        clear g2
        go_wp2_with (refine wpList_storeB (b := ⟨1, n, decide (n ≤ (s + d)), true, (s + d)⟩) rfl _ _ rfl rfl rfl Z_2 ?_)
        intro u3 L3
        have s3 := L3.size
        have B_3 := L3.other B_2 (by omega)
        clear B_2
        have H_3 := L3.other H_2 (by omega)
        clear H_2
        have Z_3 := L3.cell
        have G3 := G2.trans (L3.below.mono (by omega))
        clear G2
        clear L3 Z_2
        obtain ⟨kh0, kh1, kh2, kh3, kh4, _⟩ := id H_3
        try simp only at kh0 kh1 kh2 kh3 kh4
        go_wp2_with fail
        clear kh0 kh1 kh2 kh3 kh4
        refine (hR _).mono ?_
        rintro e4 u4 ⟨rfl, g4⟩
        have s4 := g4.size
        have B_4 := B_3.below g4 (by omega)
        clear B_3
        have H_4 := H_3.below g4 (by omega)
        clear H_3
        have Z_4 := Z_3.below g4 (by omega)
        clear Z_3
        have G4 := G3.trans (g4.mono (by omega))
        clear G3
        clear g4
        clear hR
        go_wp2_with (refine wpList_allocB rfl rfl ?_)
        intro u5 g5 Y_5 s5
        have B_5 := B_4.below g5 (by omega)
        clear B_4
        have H_5 := H_4.below g5 (by omega)
        clear H_4
        have Z_5 := Z_4.below g5 (by omega)
        clear Z_4
        have G5 := G4.trans (g5.mono (by omega))
        clear G4
        clear g5
        go_wp2_with (refine wpList_storeB (b := ⟨2, n, decide ((s + d) < n), false, (s + d)⟩) rfl _ _ rfl rfl rfl Y_5 ?_)
        intro u6 L6
        have s6 := L6.size
        have B_6 := L6.other B_5 (by omega)
        clear B_5
        have H_6 := L6.other H_5 (by omega)
        clear H_5
        have Z_6 := L6.other Z_5 (by omega)
        clear Z_5
        have Y_6 := L6.cell
        have G6 := G5.trans (L6.below.mono (by omega))
        clear G5
        clear L6 Y_5
        obtain ⟨kz0, kz1, kz2, kz3, kz4, _⟩ := id Z_6
        try simp only at kz0 kz1 kz2 kz3 kz4
        have e1 : (decide (n ≤ (s + d)) != decide (n ≤ (s + d))) = false := by simp
        have e2 : (decide ((s + d) < n) != decide ((s + d) < n)) = false := by simp
        go_wp2_with (refine wpList_storeB (b := ⟨1, n, decide (n ≤ (s + d)), true, (s + d)⟩) rfl _ _ rfl rfl rfl B_6 ?_)
        clear kz0 kz1 kz2 kz3 kz4
        intro u7 L7
        have s7 := L7.size
        have H_7 := L7.other H_6 (by omega)
        clear H_6
        have Z_7 := L7.other Z_6 (by omega)
        clear Z_6
        have Y_7 := L7.other Y_6 (by omega)
        clear Y_6
        have B_7 := L7.cell
        have G7 := G6.trans (L7.below.mono (by omega))
        clear G6
        clear L7 B_6 e1 e2
        obtain ⟨ky0, ky1, ky2, ky3, ky4, _⟩ := id Y_7
        try simp only at ky0 ky1 ky2 ky3 ky4
        go_wp2_with (refine wpList_storeB (b := ⟨2, n, decide ((s + d) < n), false, (s + d)⟩) rfl _ _ rfl rfl rfl H_7 ?_)
        clear ky0 ky1 ky2 ky3 ky4
        intro u8 L8
        have s8 := L8.size
        have Z_8 := L8.other Z_7 (by omega)
        clear Z_7
        have Y_8 := L8.other Y_7 (by omega)
        clear Y_7
        have B_8 := L8.other B_7 (by omega)
        clear B_7
        have H_8 := L8.cell
        have G8 := G7.trans (L8.below.mono (by omega))
        clear G7
        clear L8 H_7
        have HN : Hid (CellB u8 PB (bT n (j + 1) (s + d)) ∧ CellB u8 PH (hT n (j + 1) (s + d)) ∧ Below w.heap.size w u8 ∧ PH < u8.heap.size) := ⟨B_8, H_8, G8, by omega⟩
        clear Z_8 Y_8 B_8 H_8 G8
        go_wp2
        go_roundw
        case rel => exact ⟨j + 1, (s + d), rfl, by go_num, by omega, by omega, by omega, fun h => absurd h (by omega), HN⟩
        case measure => simp [intOf] <;> omega
end Go.Proofs.Ytgfoimleoekkiaa
