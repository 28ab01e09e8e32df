/-
  FnBlockCount, walked over any bytes. (Written by our generator gen_lawblock.py.)
-/
import Derived.Test.YtgfoimleoekkiaaLawBlockK
import Derived.Test.YtgfoimleoekkiaaDag2
namespace Go.Proofs.Ytgfoimleoekkiaa
open Go.ChangeShapes Go.WideShapes Go.ChangeAt Go.RowKit
set_option linter.unusedVariables false
set_option linter.unusedSimpArgs false
set_option maxRecDepth 100000

theorem count_step (n k d : Int) (on was x y : Bool) (h0 : 0 ≤ n) (h1 : n ≤ 1000) (h2 : 0 ≤ k) (h3 : k ≤ 900) (h4 : 0 ≤ d) (h5 : d ≤ 6) :
    blockStep ⟨3, n, on, was, k⟩ x y d = ⟨3, n, decide (n ≤ if y then 0 else if x && !was then k + 1 else k), x, if y then 0 else if x && !was then k + 1 else k⟩ := by
  rw [blockStep_ok (kOk (by omega) h0 h1 h2 (by omega)) h4 (by omega)]
  unfold stepB stepOn stepT
  simp [upto_in (show k + 1 ≤ 1000 by omega)]

theorem wrap_byte {z : Int} (h0 : 0 ≤ z) (h1 : z ≤ 255) : IntKind.i64.wrap z = z := by
  simp [IntKind.wrap, IntKind.bits, IntKind.signed]
  omega

/-- A variable that is made and stored while a region draws its order. -/
structure JV (n : Nat) (c : BlockD) (L : Array Bool) (a : Act) (u : World) : Prop where
  sz : L.size = 16
  made : L.getD 13 true = true → ∃ g, a.tmps.getD 13 undef = .pointer (some ⟨g, 0, none⟩) ∧ n ≤ g ∧ g < u.heap.size ∧ (L.getD 14 true = false → CellB u g noB) ∧ (L.getD 14 true = true → CellB u g c)
theorem JV.next {n : Nat} {c : BlockD} {L : Array Bool} {a : Act} {u u' : World} {i : Nat} {d : Tmp} {v : Value} (h : JV n c L a u) (hi : i ≠ 13) (hi' : i ≠ 14) (hd : d ≠ 13) (hb : Below u.heap.size u u') : JV n c (L.setIfInBounds i true) (a.put (some d) v) u' := by
  have e : (L.setIfInBounds i true).getD 14 true = L.getD 14 true := by simp [hi']
  have e' : (L.setIfInBounds i true).getD 13 true = L.getD 13 true := by simp [hi]
  refine ⟨by rw [Array.size_setIfInBounds]; exact h.sz, fun x => ?_⟩
  obtain ⟨g, h1, h2, h3, h4, h5⟩ := h.made (by rw [← e']; exact x)
  exact ⟨g, by rw [getD_put_ne a d 13 v hd]; exact h1, h2, Nat.lt_of_lt_of_le h3 hb.size, fun y => (h4 (by rw [← e]; exact y)).below hb h3, fun y => (h5 (by rw [← e]; exact y)).below hb h3⟩

set_option maxHeartbeats 16000000 in
theorem fnBlockCount_walk (w : World) (x0 : Option Addr) (len0 cap0 : Nat) (b0 : Bytes8 w w.heap.size x0 len0) (lc0 : len0 ≤ cap0) (lm0 : cap0 ≤ maxLen) (x1 : Option Addr) (len1 cap1 : Nat) (b1 : Bytes8 w w.heap.size x1 len1) (lc1 : len1 ≤ cap1) (lm1 : cap1 ≤ maxLen) :
    Calls Try.prog 5 #[.slice x0 len0 cap0, .slice x1 len1 cap1] w fun e w' => e = .returned (.bool true) ∧ Below w.heap.size w w' := by
  have lm0b := lm0
  unfold maxLen at lm0b
  have lm1b := lm1
  unfold maxLen at lm1b
  by_cases h0 : (1048576 : Int) < len0
  · go_enter Try.func5, Try.ntmps5
    go_wp2
    go_ret
    exact ⟨rfl, Below.refl _ _⟩
  by_cases h1 : (1048576 : Int) < len1
  · go_enter Try.func5, Try.ntmps5
    go_wp2
    go_ret
    exact ⟨rfl, Below.refl _ _⟩
  go_enter Try.func5, Try.ntmps5
  go_wp2_with fail
  refine (drawBlockNew_any w x0 len0 cap0 b0 lc0 lm0).mono ?_
  rintro e1 u1 ⟨kd, n, rfl, hn0, hn1, g1⟩
  have s1 := g1.size
  have G1 := g1
  clear g1
  clear b0
  have hI1 := fun u => iBlockNew_any u 3 n
  have hS1 := fun u => sBlockNew_any u 3 n
  obtain ⟨p, hp0⟩ : ∃ p, blockNew 3 n = p := ⟨_, rfl⟩
  rw [hp0] at hI1 hS1
  have HP : Hid (blockNew 3 n = p) := hp0
  clear hp0
  go_wp2_with fail
  refine (hI1 _).mono ?_
  rintro e2 u2 ⟨rfl, g2⟩
  have s2 := g2.size
  have G2 := G1.trans (g2.mono (by omega))
  clear G1
  clear g2
  clear hI1
  go_wp2_with (first | fail | refine wpList_allocB rfl rfl ?_)
  intro u3 g3 B_3 s3
  have G3 := G2.trans (g3.mono (by omega))
  clear G2
  clear g3
  go_wp2_with (first | fail | refine wpList_storeB (b := p) rfl _ _ rfl rfl rfl B_3 ?_)
  intro u4 L4
  have s4 := L4.size
  have B_4 := L4.cell
  have G4 := G3.trans (L4.below.mono (by omega))
  clear G3
  clear L4 B_3
  obtain ⟨sf, hsf⟩ : ∃ sf, (!sameB p p) = sf := ⟨_, rfl⟩
  obtain ⟨vf, hvf⟩ : ∃ vf, vf = (sf || decide (n < 0)) := ⟨_, rfl⟩
  have hne1 := fun u => neq_block p p u
  rw [hsf] at hne1
  have heq1 := fun u => eql_block p p u
  rw [sameB_self] at heq1
  have hgd1 := fun op x y u => guard_block op x y p p u
  have HV : Hid (vf = (sf || decide (n < 0))) := hvf
  have HF : Hid (sf = false) := by show _ = _; rw [← hsf, sameB_self]; rfl
  clear hsf hvf
  go_wp2_with fail
  refine wp_region_dag (R := Grow) (Φ := fun i v u => match i with
      | 0 => v = p.val
      | 1 => v = .int .i64 n
      | 2 => v = p.val
      | 3 => v = .bool sf
      | 4 => v = .bool sf
      | 5 => v = cond sf undef (.int .i64 n)
      | 6 => v = cond sf undef (.bool (decide (n < 0)))
      | 7 => v = .bool vf
      | 8 => v = .bool vf
      | 9 => v = cond vf undef (.int .i64 n)
      | 10 => v = cond vf undef (.bool (decide (1000 < n)))
      | 11 => v = .bool (vf || decide (1000 < n))
      | _ => True) (by kernel_rfl) (by kernel_rfl) (by kernel_rfl) (Below.refl _ _) grow_trans ?_ ?_ ?_
  · intro i v u u' hr
    match i with
    | 0 | 1 | 2 | 3 | 4 | 5 | 6 | 7 | 8 | 9 | 10 | 11 | _ + 12 => exact fun h => h
  · intro i o ho a u hf hR0 he K' hK
    have hR : Grow u4 u := (Below.drew (Below.refl _ _)).trans hR0
    have hsz' : a.tmps.size = 101 := hf.size
    have hus := hR.size
    rcases i with _ | _ | _ | _ | _ | _ | _ | _ | _ | _ | _ | _ | i
    · obtain rfl := Option.some.inj ho
      have q7 : a.tmps.getD 7 undef = .pointer (some ⟨u2.heap.size, 0, none⟩) := hf.at_ 7 (by kernel_rfl)
      have cu0 := B_4.below hR (by omega)
      clear he
      refine wanted_none rfl ?_
      refine wp_loadB (Operand.tmp 7) rfl q7 cu0 ?_
      exact hK _ _ (Below.refl _ _) (getD_put_self a 30 _ (by show _ < a.tmps.size; omega))
    · obtain rfl := Option.some.inj ho
      have q6 : a.tmps.getD 6 undef = .int .i64 n := hf.at_ 6 (by kernel_rfl)
      clear he
      go_simp
      exact hK _ _ (Below.refl _ _) (getD_put_self a 31 _ (by show _ < a.tmps.size; omega))
    · obtain rfl := Option.some.inj ho
      have q31 : a.tmps.getD 31 undef = .int .i64 n := he _ (Array.mem_of_getElem? (i := 0) rfl) (by kernel_rfl) _ rfl
      clear he
      go_simp
      refine (hS1 _).mono ?_
      rintro e1 u' ⟨rfl, hbu⟩
      exact hK _ _ hbu (getD_put_self a 32 _ (by show _ < a.tmps.size; omega))
    · obtain rfl := Option.some.inj ho
      have q30 : a.tmps.getD 30 undef = p.val := he _ (Array.mem_of_getElem? (i := 0) rfl) (by kernel_rfl) _ rfl
      have q32 : a.tmps.getD 32 undef = p.val := he _ (Array.mem_of_getElem? (i := 1) rfl) (by kernel_rfl) _ rfl
      clear he
      go_simp
      exact hK _ _ (Below.refl _ _) (getD_put_self a 33 _ (by show _ < a.tmps.size; omega))
    · obtain rfl := Option.some.inj ho
      have q33 : a.tmps.getD 33 undef = .bool sf := he _ (Array.mem_of_getElem? (i := 0) rfl) (by kernel_rfl) _ rfl
      clear he
      go_simp
      exact hK _ _ (Below.refl _ _) (getD_put_self a 34 _ (by show _ < a.tmps.size; omega))
    · obtain rfl := Option.some.inj ho
      have qg : a.tmps.getD 34 undef = .bool sf := he _ (Array.mem_of_getElem? (i := 0) rfl) (by kernel_rfl) _ rfl
      cases sf with
      | true =>
        refine wanted_off rfl (yielded_g (i := 4) rfl rfl (by show 34 < a.tmps.size; omega) qg) ?_
        exact hK undef u (Below.refl _ _) (getD_put_self a 35 _ (by show _ < a.tmps.size; omega))
      | false =>
        have q6 : a.tmps.getD 6 undef = .int .i64 n := hf.at_ 6 (by kernel_rfl)
        clear he
        refine wanted_on rfl (yielded_g (i := 4) rfl rfl (by show 34 < a.tmps.size; omega) qg) ?_
        go_simp
        exact hK _ _ (Below.refl _ _) (getD_put_self a 35 _ (by show _ < a.tmps.size; omega))
    · obtain rfl := Option.some.inj ho
      have qg : a.tmps.getD 34 undef = .bool sf := he _ (Array.mem_of_getElem? (i := 1) rfl) (by kernel_rfl) _ rfl
      cases sf with
      | true =>
        refine wanted_off rfl (yielded_g (i := 4) rfl rfl (by show 34 < a.tmps.size; omega) qg) ?_
        exact hK undef u (Below.refl _ _) (getD_put_self a 36 _ (by show _ < a.tmps.size; omega))
      | false =>
        have q35 : a.tmps.getD 35 undef = .int .i64 n := he _ (Array.mem_of_getElem? (i := 0) rfl) (by kernel_rfl) _ rfl
        clear he
        refine wanted_on rfl (yielded_g (i := 4) rfl rfl (by show 34 < a.tmps.size; omega) qg) ?_
        go_simp
        exact hK _ _ (Below.refl _ _) (getD_put_self a 36 _ (by show _ < a.tmps.size; omega))
    · obtain rfl := Option.some.inj ho
      cases sf with
      | true =>
        have q34 : a.tmps.getD 34 undef = .bool true := he _ (Array.mem_of_getElem? (i := 0) rfl) (by kernel_rfl) _ rfl
        clear he
        go_simp
        exact hK _ _ (Below.refl _ _) ((getD_put_self a 37 _ (by show _ < a.tmps.size; omega)).trans (by rw [HV.out]; rfl))
      | false =>
        have q34 : a.tmps.getD 34 undef = .bool false := he _ (Array.mem_of_getElem? (i := 0) rfl) (by kernel_rfl) _ rfl
        have q36 : a.tmps.getD 36 undef = .bool (decide (n < 0)) := he _ (Array.mem_of_getElem? (i := 1) rfl) (by kernel_rfl) _ rfl
        clear he
        go_simp
        exact hK _ _ (Below.refl _ _) ((getD_put_self a 37 _ (by show _ < a.tmps.size; omega)).trans (by rw [HV.out]; rfl))
    · obtain rfl := Option.some.inj ho
      have q37 : a.tmps.getD 37 undef = .bool vf := he _ (Array.mem_of_getElem? (i := 0) rfl) (by kernel_rfl) _ rfl
      clear he
      go_simp
      exact hK _ _ (Below.refl _ _) (getD_put_self a 38 _ (by show _ < a.tmps.size; omega))
    · obtain rfl := Option.some.inj ho
      have qg : a.tmps.getD 38 undef = .bool vf := he _ (Array.mem_of_getElem? (i := 0) rfl) (by kernel_rfl) _ rfl
      cases vf with
      | true =>
        refine wanted_off rfl (yielded_g (i := 8) rfl rfl (by show 38 < a.tmps.size; omega) qg) ?_
        exact hK undef u (Below.refl _ _) (getD_put_self a 39 _ (by show _ < a.tmps.size; omega))
      | false =>
        have q6 : a.tmps.getD 6 undef = .int .i64 n := hf.at_ 6 (by kernel_rfl)
        clear he
        refine wanted_on rfl (yielded_g (i := 8) rfl rfl (by show 38 < a.tmps.size; omega) qg) ?_
        go_simp
        exact hK _ _ (Below.refl _ _) (getD_put_self a 39 _ (by show _ < a.tmps.size; omega))
    · obtain rfl := Option.some.inj ho
      have qg : a.tmps.getD 38 undef = .bool vf := he _ (Array.mem_of_getElem? (i := 1) rfl) (by kernel_rfl) _ rfl
      cases vf with
      | true =>
        refine wanted_off rfl (yielded_g (i := 8) rfl rfl (by show 38 < a.tmps.size; omega) qg) ?_
        exact hK undef u (Below.refl _ _) (getD_put_self a 40 _ (by show _ < a.tmps.size; omega))
      | false =>
        have q39 : a.tmps.getD 39 undef = .int .i64 n := he _ (Array.mem_of_getElem? (i := 0) rfl) (by kernel_rfl) _ rfl
        clear he
        refine wanted_on rfl (yielded_g (i := 8) rfl rfl (by show 38 < a.tmps.size; omega) qg) ?_
        go_simp
        exact hK _ _ (Below.refl _ _) (getD_put_self a 40 _ (by show _ < a.tmps.size; omega))
    · obtain rfl := Option.some.inj ho
      cases vf with
      | true =>
        have q38 : a.tmps.getD 38 undef = .bool true := he _ (Array.mem_of_getElem? (i := 0) rfl) (by kernel_rfl) _ rfl
        clear he
        go_simp
        exact hK _ _ (Below.refl _ _) (getD_put_self a 41 _ (by show _ < a.tmps.size; omega))
      | false =>
        have q38 : a.tmps.getD 38 undef = .bool false := he _ (Array.mem_of_getElem? (i := 0) rfl) (by kernel_rfl) _ rfl
        have q40 : a.tmps.getD 40 undef = .bool (decide (1000 < n)) := he _ (Array.mem_of_getElem? (i := 1) rfl) (by kernel_rfl) _ rfl
        clear he
        go_simp
        exact hK _ _ (Below.refl _ _) (getD_put_self a 41 _ (by show _ < a.tmps.size; omega))
    · exact absurd ho (by simp)
  · intro a u5 hf hR0 hp
    have g5 : Grow u4 u5 := (Below.drew (Below.refl _ _)).trans hR0
    have m41 : a.tmps.getD 41 undef = .bool (vf || decide (1000 < n)) := hp 11 _ rfl
    have hvn : vf = decide (n < 0) := by rw [HV.out, HF.out]; rfl
    rw [hvn] at m41
    clear hp hR0 hne1 HF HV hvn
    have s5 := g5.size
    have B_5 := B_4.below g5 (by omega)
    clear B_4
    have G5 := G4.trans (g5.mono (by omega))
    clear G4
    clear g5
    by_cases hb : n < 0 ∨ 1000 < n
    · have m41 : a.tmps.getD 41 undef = .bool true := by rw [m41]; simp; omega
      obtain ⟨fq, ea, hfv⟩ := act_lit a 101 hf.size
      have md : a.defers = [] := hf.defers
      rw [md] at ea
      have m0 := hf.at_ 0 (by kernel_rfl)
      have m1 := hf.at_ 1 (by kernel_rfl)
      have m2 := hf.at_ 2 (by kernel_rfl)
      have m3 := hf.at_ 3 (by kernel_rfl)
      have m4 := hf.at_ 4 (by kernel_rfl)
      have m5 := hf.at_ 5 (by kernel_rfl)
      have m6 := hf.at_ 6 (by kernel_rfl)
      have m7 := hf.at_ 7 (by kernel_rfl)
      have m8 := hf.at_ 8 (by kernel_rfl)
      have m9 := hf.at_ 9 (by kernel_rfl)
      have m10 := hf.at_ 10 (by kernel_rfl)
      have m11 := hf.at_ 11 (by kernel_rfl)
      have m12 := hf.at_ 12 (by kernel_rfl)
      have m13 := hf.at_ 13 (by kernel_rfl)
      have m14 := hf.at_ 14 (by kernel_rfl)
      have m15 := hf.at_ 15 (by kernel_rfl)
      have m16 := hf.at_ 16 (by kernel_rfl)
      have m17 := hf.at_ 17 (by kernel_rfl)
      have m18 := hf.at_ 18 (by kernel_rfl)
      have m19 := hf.at_ 19 (by kernel_rfl)
      have m20 := hf.at_ 20 (by kernel_rfl)
      have m21 := hf.at_ 21 (by kernel_rfl)
      have m22 := hf.at_ 22 (by kernel_rfl)
      have m23 := hf.at_ 23 (by kernel_rfl)
      have m24 := hf.at_ 24 (by kernel_rfl)
      have m25 := hf.at_ 25 (by kernel_rfl)
      have m26 := hf.at_ 26 (by kernel_rfl)
      have m27 := hf.at_ 27 (by kernel_rfl)
      have m28 := hf.at_ 28 (by kernel_rfl)
      have m29 := hf.at_ 29 (by kernel_rfl)
      have m42 := hf.at_ 42 (by kernel_rfl)
      have m43 := hf.at_ 43 (by kernel_rfl)
      have m44 := hf.at_ 44 (by kernel_rfl)
      have m45 := hf.at_ 45 (by kernel_rfl)
      have m46 := hf.at_ 46 (by kernel_rfl)
      have m47 := hf.at_ 47 (by kernel_rfl)
      have m48 := hf.at_ 48 (by kernel_rfl)
      have m49 := hf.at_ 49 (by kernel_rfl)
      have m50 := hf.at_ 50 (by kernel_rfl)
      have m51 := hf.at_ 51 (by kernel_rfl)
      have m52 := hf.at_ 52 (by kernel_rfl)
      have m53 := hf.at_ 53 (by kernel_rfl)
      have m54 := hf.at_ 54 (by kernel_rfl)
      have m55 := hf.at_ 55 (by kernel_rfl)
      have m56 := hf.at_ 56 (by kernel_rfl)
      have m57 := hf.at_ 57 (by kernel_rfl)
      have m58 := hf.at_ 58 (by kernel_rfl)
      have m59 := hf.at_ 59 (by kernel_rfl)
      have m60 := hf.at_ 60 (by kernel_rfl)
      have m61 := hf.at_ 61 (by kernel_rfl)
      have m62 := hf.at_ 62 (by kernel_rfl)
      have m63 := hf.at_ 63 (by kernel_rfl)
      have m64 := hf.at_ 64 (by kernel_rfl)
      have m65 := hf.at_ 65 (by kernel_rfl)
      have m66 := hf.at_ 66 (by kernel_rfl)
      have m67 := hf.at_ 67 (by kernel_rfl)
      have m68 := hf.at_ 68 (by kernel_rfl)
      have m69 := hf.at_ 69 (by kernel_rfl)
      have m70 := hf.at_ 70 (by kernel_rfl)
      have m71 := hf.at_ 71 (by kernel_rfl)
      have m72 := hf.at_ 72 (by kernel_rfl)
      have m73 := hf.at_ 73 (by kernel_rfl)
      have m74 := hf.at_ 74 (by kernel_rfl)
      have m75 := hf.at_ 75 (by kernel_rfl)
      have m76 := hf.at_ 76 (by kernel_rfl)
      have m77 := hf.at_ 77 (by kernel_rfl)
      have m78 := hf.at_ 78 (by kernel_rfl)
      have m79 := hf.at_ 79 (by kernel_rfl)
      have m80 := hf.at_ 80 (by kernel_rfl)
      have m81 := hf.at_ 81 (by kernel_rfl)
      have m82 := hf.at_ 82 (by kernel_rfl)
      have m83 := hf.at_ 83 (by kernel_rfl)
      have m84 := hf.at_ 84 (by kernel_rfl)
      have m85 := hf.at_ 85 (by kernel_rfl)
      have m86 := hf.at_ 86 (by kernel_rfl)
      have m87 := hf.at_ 87 (by kernel_rfl)
      have m88 := hf.at_ 88 (by kernel_rfl)
      have m89 := hf.at_ 89 (by kernel_rfl)
      have m90 := hf.at_ 90 (by kernel_rfl)
      have m91 := hf.at_ 91 (by kernel_rfl)
      have m92 := hf.at_ 92 (by kernel_rfl)
      have m93 := hf.at_ 93 (by kernel_rfl)
      have m94 := hf.at_ 94 (by kernel_rfl)
      have m95 := hf.at_ 95 (by kernel_rfl)
      have m96 := hf.at_ 96 (by kernel_rfl)
      have m97 := hf.at_ 97 (by kernel_rfl)
      have m98 := hf.at_ 98 (by kernel_rfl)
      have m99 := hf.at_ 99 (by kernel_rfl)
      have m100 := hf.at_ 100 (by kernel_rfl)
      rw [← hfv] at m0 m1 m2 m3 m4 m5 m6 m7 m8 m9 m10 m11 m12 m13 m14 m15 m16 m17 m18 m19 m20 m21 m22 m23 m24 m25 m26 m27 m28 m29 m42 m43 m44 m45 m46 m47 m48 m49 m50 m51 m52 m53 m54 m55 m56 m57 m58 m59 m60 m61 m62 m63 m64 m65 m66 m67 m68 m69 m70 m71 m72 m73 m74 m75 m76 m77 m78 m79 m80 m81 m82 m83 m84 m85 m86 m87 m88 m89 m90 m91 m92 m93 m94 m95 m96 m97 m98 m99 m100 m41
      simp only [Array.getD_eq_getD_getElem?, List.getElem?_toArray, List.getElem?_cons_succ, List.getElem?_cons_zero, Option.getD_some] at m0 m1 m2 m3 m4 m5 m6 m7 m8 m9 m10 m11 m12 m13 m14 m15 m16 m17 m18 m19 m20 m21 m22 m23 m24 m25 m26 m27 m28 m29 m42 m43 m44 m45 m46 m47 m48 m49 m50 m51 m52 m53 m54 m55 m56 m57 m58 m59 m60 m61 m62 m63 m64 m65 m66 m67 m68 m69 m70 m71 m72 m73 m74 m75 m76 m77 m78 m79 m80 m81 m82 m83 m84 m85 m86 m87 m88 m89 m90 m91 m92 m93 m94 m95 m96 m97 m98 m99 m100
      simp only [List.range, List.range.loop, List.map_cons, List.map_nil, m0, m1, m2, m3, m4, m5, m6, m7, m8, m9, m10, m11, m12, m13, m14, m15, m16, m17, m18, m19, m20, m21, m22, m23, m24, m25, m26, m27, m28, m29, m42, m43, m44, m45, m46, m47, m48, m49, m50, m51, m52, m53, m54, m55, m56, m57, m58, m59, m60, m61, m62, m63, m64, m65, m66, m67, m68, m69, m70, m71, m72, m73, m74, m75, m76, m77, m78, m79, m80, m81, m82, m83, m84, m85, m86, m87, m88, m89, m90, m91, m92, m93, m94, m95, m96, m97, m98, m99, m100, m41] at ea
      subst ea
      clear m0 m1 m2 m3 m4 m5 m6 m7 m8 m9 m10 m11 m12 m13 m14 m15 m16 m17 m18 m19 m20 m21 m22 m23 m24 m25 m26 m27 m28 m29 m42 m43 m44 m45 m46 m47 m48 m49 m50 m51 m52 m53 m54 m55 m56 m57 m58 m59 m60 m61 m62 m63 m64 m65 m66 m67 m68 m69 m70 m71 m72 m73 m74 m75 m76 m77 m78 m79 m80 m81 m82 m83 m84 m85 m86 m87 m88 m89 m90 m91 m92 m93 m94 m95 m96 m97 m98 m99 m100 m41 hfv md hf
      go_wp2_with fail
      refine wp_region_dag (R := Grow) (Φ := fun i v u => match i with
          | 0 => v = p.val
          | 1 => v = .int .i64 n
          | 2 => v = p.val
          | 3 => v = .bool true
          | 4 => v = .bool true
          | _ => True) (by kernel_rfl) (by kernel_rfl) (by kernel_rfl) (Below.refl _ _) grow_trans ?_ ?_ ?_
      · intro i v u u' hr
        match i with
        | 0 | 1 | 2 | 3 | 4 | _ + 5 => exact fun h => h
      · intro i o ho a u hf hR0 he K' hK
        have hR : Grow u5 u := (Below.drew (Below.refl _ _)).trans hR0
        have hsz' : a.tmps.size = 101 := hf.size
        have hus := hR.size
        rcases i with _ | _ | _ | _ | _ | i
        · obtain rfl := Option.some.inj ho
          have q7 : a.tmps.getD 7 undef = .pointer (some ⟨u2.heap.size, 0, none⟩) := hf.at_ 7 (by kernel_rfl)
          have cu0 := B_5.below hR (by omega)
          clear he
          refine wanted_none rfl ?_
          refine wp_loadB (Operand.tmp 7) rfl q7 cu0 ?_
          exact hK _ _ (Below.refl _ _) (getD_put_self a 42 _ (by show _ < a.tmps.size; omega))
        · obtain rfl := Option.some.inj ho
          have q6 : a.tmps.getD 6 undef = .int .i64 n := hf.at_ 6 (by kernel_rfl)
          clear he
          go_simp
          exact hK _ _ (Below.refl _ _) (getD_put_self a 43 _ (by show _ < a.tmps.size; omega))
        · obtain rfl := Option.some.inj ho
          have q43 : a.tmps.getD 43 undef = .int .i64 n := he _ (Array.mem_of_getElem? (i := 0) rfl) (by kernel_rfl) _ rfl
          clear he
          go_simp
          refine (hS1 _).mono ?_
          rintro e1 u' ⟨rfl, hbu⟩
          exact hK _ _ hbu (getD_put_self a 44 _ (by show _ < a.tmps.size; omega))
        · obtain rfl := Option.some.inj ho
          have q42 : a.tmps.getD 42 undef = p.val := he _ (Array.mem_of_getElem? (i := 0) rfl) (by kernel_rfl) _ rfl
          have q44 : a.tmps.getD 44 undef = p.val := he _ (Array.mem_of_getElem? (i := 1) rfl) (by kernel_rfl) _ rfl
          clear he
          go_simp
          exact hK _ _ (Below.refl _ _) (getD_put_self a 45 _ (by show _ < a.tmps.size; omega))
        · obtain rfl := Option.some.inj ho
          have q45 : a.tmps.getD 45 undef = .bool true := he _ (Array.mem_of_getElem? (i := 0) rfl) (by kernel_rfl) _ rfl
          clear he
          go_simp
          exact hK _ _ (Below.refl _ _) (getD_put_self a 4 _ (by show _ < a.tmps.size; omega))
        · exact absurd ho (by simp)
      · intro a u6 hf hR0 hp
        have g6 : Grow u5 u6 := (Below.drew (Below.refl _ _)).trans hR0
        have m4 : a.tmps.getD 4 undef = .bool true := hp 4 _ rfl
        clear hp hR0
        have HG : Hid (Below w.heap.size w u6) := G5.trans (g6.mono (by omega))
        clear g6
        obtain ⟨fq, ea, hfv⟩ := act_lit a 101 hf.size
        have md : a.defers = [] := hf.defers
        rw [md] at ea
        have m0 := hf.at_ 0 (by kernel_rfl)
        have m1 := hf.at_ 1 (by kernel_rfl)
        have m2 := hf.at_ 2 (by kernel_rfl)
        have m3 := hf.at_ 3 (by kernel_rfl)
        have m5 := hf.at_ 5 (by kernel_rfl)
        have m6 := hf.at_ 6 (by kernel_rfl)
        have m7 := hf.at_ 7 (by kernel_rfl)
        have m8 := hf.at_ 8 (by kernel_rfl)
        have m9 := hf.at_ 9 (by kernel_rfl)
        have m10 := hf.at_ 10 (by kernel_rfl)
        have m11 := hf.at_ 11 (by kernel_rfl)
        have m12 := hf.at_ 12 (by kernel_rfl)
        have m13 := hf.at_ 13 (by kernel_rfl)
        have m14 := hf.at_ 14 (by kernel_rfl)
        have m15 := hf.at_ 15 (by kernel_rfl)
        have m16 := hf.at_ 16 (by kernel_rfl)
        have m17 := hf.at_ 17 (by kernel_rfl)
        have m18 := hf.at_ 18 (by kernel_rfl)
        have m19 := hf.at_ 19 (by kernel_rfl)
        have m20 := hf.at_ 20 (by kernel_rfl)
        have m21 := hf.at_ 21 (by kernel_rfl)
        have m22 := hf.at_ 22 (by kernel_rfl)
        have m23 := hf.at_ 23 (by kernel_rfl)
        have m24 := hf.at_ 24 (by kernel_rfl)
        have m25 := hf.at_ 25 (by kernel_rfl)
        have m26 := hf.at_ 26 (by kernel_rfl)
        have m27 := hf.at_ 27 (by kernel_rfl)
        have m28 := hf.at_ 28 (by kernel_rfl)
        have m29 := hf.at_ 29 (by kernel_rfl)
        have m30 := hf.at_ 30 (by kernel_rfl)
        have m31 := hf.at_ 31 (by kernel_rfl)
        have m32 := hf.at_ 32 (by kernel_rfl)
        have m33 := hf.at_ 33 (by kernel_rfl)
        have m34 := hf.at_ 34 (by kernel_rfl)
        have m35 := hf.at_ 35 (by kernel_rfl)
        have m36 := hf.at_ 36 (by kernel_rfl)
        have m37 := hf.at_ 37 (by kernel_rfl)
        have m38 := hf.at_ 38 (by kernel_rfl)
        have m39 := hf.at_ 39 (by kernel_rfl)
        have m40 := hf.at_ 40 (by kernel_rfl)
        have m41 := hf.at_ 41 (by kernel_rfl)
        have m46 := hf.at_ 46 (by kernel_rfl)
        have m47 := hf.at_ 47 (by kernel_rfl)
        have m48 := hf.at_ 48 (by kernel_rfl)
        have m49 := hf.at_ 49 (by kernel_rfl)
        have m50 := hf.at_ 50 (by kernel_rfl)
        have m51 := hf.at_ 51 (by kernel_rfl)
        have m52 := hf.at_ 52 (by kernel_rfl)
        have m53 := hf.at_ 53 (by kernel_rfl)
        have m54 := hf.at_ 54 (by kernel_rfl)
        have m55 := hf.at_ 55 (by kernel_rfl)
        have m56 := hf.at_ 56 (by kernel_rfl)
        have m57 := hf.at_ 57 (by kernel_rfl)
        have m58 := hf.at_ 58 (by kernel_rfl)
        have m59 := hf.at_ 59 (by kernel_rfl)
        have m60 := hf.at_ 60 (by kernel_rfl)
        have m61 := hf.at_ 61 (by kernel_rfl)
        have m62 := hf.at_ 62 (by kernel_rfl)
        have m63 := hf.at_ 63 (by kernel_rfl)
        have m64 := hf.at_ 64 (by kernel_rfl)
        have m65 := hf.at_ 65 (by kernel_rfl)
        have m66 := hf.at_ 66 (by kernel_rfl)
        have m67 := hf.at_ 67 (by kernel_rfl)
        have m68 := hf.at_ 68 (by kernel_rfl)
        have m69 := hf.at_ 69 (by kernel_rfl)
        have m70 := hf.at_ 70 (by kernel_rfl)
        have m71 := hf.at_ 71 (by kernel_rfl)
        have m72 := hf.at_ 72 (by kernel_rfl)
        have m73 := hf.at_ 73 (by kernel_rfl)
        have m74 := hf.at_ 74 (by kernel_rfl)
        have m75 := hf.at_ 75 (by kernel_rfl)
        have m76 := hf.at_ 76 (by kernel_rfl)
        have m77 := hf.at_ 77 (by kernel_rfl)
        have m78 := hf.at_ 78 (by kernel_rfl)
        have m79 := hf.at_ 79 (by kernel_rfl)
        have m80 := hf.at_ 80 (by kernel_rfl)
        have m81 := hf.at_ 81 (by kernel_rfl)
        have m82 := hf.at_ 82 (by kernel_rfl)
        have m83 := hf.at_ 83 (by kernel_rfl)
        have m84 := hf.at_ 84 (by kernel_rfl)
        have m85 := hf.at_ 85 (by kernel_rfl)
        have m86 := hf.at_ 86 (by kernel_rfl)
        have m87 := hf.at_ 87 (by kernel_rfl)
        have m88 := hf.at_ 88 (by kernel_rfl)
        have m89 := hf.at_ 89 (by kernel_rfl)
        have m90 := hf.at_ 90 (by kernel_rfl)
        have m91 := hf.at_ 91 (by kernel_rfl)
        have m92 := hf.at_ 92 (by kernel_rfl)
        have m93 := hf.at_ 93 (by kernel_rfl)
        have m94 := hf.at_ 94 (by kernel_rfl)
        have m95 := hf.at_ 95 (by kernel_rfl)
        have m96 := hf.at_ 96 (by kernel_rfl)
        have m97 := hf.at_ 97 (by kernel_rfl)
        have m98 := hf.at_ 98 (by kernel_rfl)
        have m99 := hf.at_ 99 (by kernel_rfl)
        have m100 := hf.at_ 100 (by kernel_rfl)
        rw [← hfv] at m0 m1 m2 m3 m5 m6 m7 m8 m9 m10 m11 m12 m13 m14 m15 m16 m17 m18 m19 m20 m21 m22 m23 m24 m25 m26 m27 m28 m29 m30 m31 m32 m33 m34 m35 m36 m37 m38 m39 m40 m41 m46 m47 m48 m49 m50 m51 m52 m53 m54 m55 m56 m57 m58 m59 m60 m61 m62 m63 m64 m65 m66 m67 m68 m69 m70 m71 m72 m73 m74 m75 m76 m77 m78 m79 m80 m81 m82 m83 m84 m85 m86 m87 m88 m89 m90 m91 m92 m93 m94 m95 m96 m97 m98 m99 m100 m4
        simp only [Array.getD_eq_getD_getElem?, List.getElem?_toArray, List.getElem?_cons_succ, List.getElem?_cons_zero, Option.getD_some] at m0 m1 m2 m3 m5 m6 m7 m8 m9 m10 m11 m12 m13 m14 m15 m16 m17 m18 m19 m20 m21 m22 m23 m24 m25 m26 m27 m28 m29 m30 m31 m32 m33 m34 m35 m36 m37 m38 m39 m40 m41 m46 m47 m48 m49 m50 m51 m52 m53 m54 m55 m56 m57 m58 m59 m60 m61 m62 m63 m64 m65 m66 m67 m68 m69 m70 m71 m72 m73 m74 m75 m76 m77 m78 m79 m80 m81 m82 m83 m84 m85 m86 m87 m88 m89 m90 m91 m92 m93 m94 m95 m96 m97 m98 m99 m100
        simp only [List.range, List.range.loop, List.map_cons, List.map_nil, m0, m1, m2, m3, m5, m6, m7, m8, m9, m10, m11, m12, m13, m14, m15, m16, m17, m18, m19, m20, m21, m22, m23, m24, m25, m26, m27, m28, m29, m30, m31, m32, m33, m34, m35, m36, m37, m38, m39, m40, m41, m46, m47, m48, m49, m50, m51, m52, m53, m54, m55, m56, m57, m58, m59, m60, m61, m62, m63, m64, m65, m66, m67, m68, m69, m70, m71, m72, m73, m74, m75, m76, m77, m78, m79, m80, m81, m82, m83, m84, m85, m86, m87, m88, m89, m90, m91, m92, m93, m94, m95, m96, m97, m98, m99, m100, m4] at ea
        subst ea
        clear m0 m1 m2 m3 m5 m6 m7 m8 m9 m10 m11 m12 m13 m14 m15 m16 m17 m18 m19 m20 m21 m22 m23 m24 m25 m26 m27 m28 m29 m30 m31 m32 m33 m34 m35 m36 m37 m38 m39 m40 m41 m46 m47 m48 m49 m50 m51 m52 m53 m54 m55 m56 m57 m58 m59 m60 m61 m62 m63 m64 m65 m66 m67 m68 m69 m70 m71 m72 m73 m74 m75 m76 m77 m78 m79 m80 m81 m82 m83 m84 m85 m86 m87 m88 m89 m90 m91 m92 m93 m94 m95 m96 m97 m98 m99 m100 m4 hfv md hf
        go_wp2
        go_ret
        exact ⟨rfl, HG.out⟩
    have m41 : a.tmps.getD 41 undef = .bool false := by rw [m41]; simp; omega
    obtain ⟨fq, ea, hfv⟩ := act_lit a 101 hf.size
    have md : a.defers = [] := hf.defers
    rw [md] at ea
    have m0 := hf.at_ 0 (by kernel_rfl)
    have m1 := hf.at_ 1 (by kernel_rfl)
    have m2 := hf.at_ 2 (by kernel_rfl)
    have m3 := hf.at_ 3 (by kernel_rfl)
    have m4 := hf.at_ 4 (by kernel_rfl)
    have m5 := hf.at_ 5 (by kernel_rfl)
    have m6 := hf.at_ 6 (by kernel_rfl)
    have m7 := hf.at_ 7 (by kernel_rfl)
    have m8 := hf.at_ 8 (by kernel_rfl)
    have m9 := hf.at_ 9 (by kernel_rfl)
    have m10 := hf.at_ 10 (by kernel_rfl)
    have m11 := hf.at_ 11 (by kernel_rfl)
    have m12 := hf.at_ 12 (by kernel_rfl)
    have m13 := hf.at_ 13 (by kernel_rfl)
    have m14 := hf.at_ 14 (by kernel_rfl)
    have m15 := hf.at_ 15 (by kernel_rfl)
    have m16 := hf.at_ 16 (by kernel_rfl)
    have m17 := hf.at_ 17 (by kernel_rfl)
    have m18 := hf.at_ 18 (by kernel_rfl)
    have m19 := hf.at_ 19 (by kernel_rfl)
    have m20 := hf.at_ 20 (by kernel_rfl)
    have m21 := hf.at_ 21 (by kernel_rfl)
    have m22 := hf.at_ 22 (by kernel_rfl)
    have m23 := hf.at_ 23 (by kernel_rfl)
    have m24 := hf.at_ 24 (by kernel_rfl)
    have m25 := hf.at_ 25 (by kernel_rfl)
    have m26 := hf.at_ 26 (by kernel_rfl)
    have m27 := hf.at_ 27 (by kernel_rfl)
    have m28 := hf.at_ 28 (by kernel_rfl)
    have m29 := hf.at_ 29 (by kernel_rfl)
    have m42 := hf.at_ 42 (by kernel_rfl)
    have m43 := hf.at_ 43 (by kernel_rfl)
    have m44 := hf.at_ 44 (by kernel_rfl)
    have m45 := hf.at_ 45 (by kernel_rfl)
    have m46 := hf.at_ 46 (by kernel_rfl)
    have m47 := hf.at_ 47 (by kernel_rfl)
    have m48 := hf.at_ 48 (by kernel_rfl)
    have m49 := hf.at_ 49 (by kernel_rfl)
    have m50 := hf.at_ 50 (by kernel_rfl)
    have m51 := hf.at_ 51 (by kernel_rfl)
    have m52 := hf.at_ 52 (by kernel_rfl)
    have m53 := hf.at_ 53 (by kernel_rfl)
    have m54 := hf.at_ 54 (by kernel_rfl)
    have m55 := hf.at_ 55 (by kernel_rfl)
    have m56 := hf.at_ 56 (by kernel_rfl)
    have m57 := hf.at_ 57 (by kernel_rfl)
    have m58 := hf.at_ 58 (by kernel_rfl)
    have m59 := hf.at_ 59 (by kernel_rfl)
    have m60 := hf.at_ 60 (by kernel_rfl)
    have m61 := hf.at_ 61 (by kernel_rfl)
    have m62 := hf.at_ 62 (by kernel_rfl)
    have m63 := hf.at_ 63 (by kernel_rfl)
    have m64 := hf.at_ 64 (by kernel_rfl)
    have m65 := hf.at_ 65 (by kernel_rfl)
    have m66 := hf.at_ 66 (by kernel_rfl)
    have m67 := hf.at_ 67 (by kernel_rfl)
    have m68 := hf.at_ 68 (by kernel_rfl)
    have m69 := hf.at_ 69 (by kernel_rfl)
    have m70 := hf.at_ 70 (by kernel_rfl)
    have m71 := hf.at_ 71 (by kernel_rfl)
    have m72 := hf.at_ 72 (by kernel_rfl)
    have m73 := hf.at_ 73 (by kernel_rfl)
    have m74 := hf.at_ 74 (by kernel_rfl)
    have m75 := hf.at_ 75 (by kernel_rfl)
    have m76 := hf.at_ 76 (by kernel_rfl)
    have m77 := hf.at_ 77 (by kernel_rfl)
    have m78 := hf.at_ 78 (by kernel_rfl)
    have m79 := hf.at_ 79 (by kernel_rfl)
    have m80 := hf.at_ 80 (by kernel_rfl)
    have m81 := hf.at_ 81 (by kernel_rfl)
    have m82 := hf.at_ 82 (by kernel_rfl)
    have m83 := hf.at_ 83 (by kernel_rfl)
    have m84 := hf.at_ 84 (by kernel_rfl)
    have m85 := hf.at_ 85 (by kernel_rfl)
    have m86 := hf.at_ 86 (by kernel_rfl)
    have m87 := hf.at_ 87 (by kernel_rfl)
    have m88 := hf.at_ 88 (by kernel_rfl)
    have m89 := hf.at_ 89 (by kernel_rfl)
    have m90 := hf.at_ 90 (by kernel_rfl)
    have m91 := hf.at_ 91 (by kernel_rfl)
    have m92 := hf.at_ 92 (by kernel_rfl)
    have m93 := hf.at_ 93 (by kernel_rfl)
    have m94 := hf.at_ 94 (by kernel_rfl)
    have m95 := hf.at_ 95 (by kernel_rfl)
    have m96 := hf.at_ 96 (by kernel_rfl)
    have m97 := hf.at_ 97 (by kernel_rfl)
    have m98 := hf.at_ 98 (by kernel_rfl)
    have m99 := hf.at_ 99 (by kernel_rfl)
    have m100 := hf.at_ 100 (by kernel_rfl)
    rw [← hfv] at m0 m1 m2 m3 m4 m5 m6 m7 m8 m9 m10 m11 m12 m13 m14 m15 m16 m17 m18 m19 m20 m21 m22 m23 m24 m25 m26 m27 m28 m29 m42 m43 m44 m45 m46 m47 m48 m49 m50 m51 m52 m53 m54 m55 m56 m57 m58 m59 m60 m61 m62 m63 m64 m65 m66 m67 m68 m69 m70 m71 m72 m73 m74 m75 m76 m77 m78 m79 m80 m81 m82 m83 m84 m85 m86 m87 m88 m89 m90 m91 m92 m93 m94 m95 m96 m97 m98 m99 m100 m41
    simp only [Array.getD_eq_getD_getElem?, List.getElem?_toArray, List.getElem?_cons_succ, List.getElem?_cons_zero, Option.getD_some] at m0 m1 m2 m3 m4 m5 m6 m7 m8 m9 m10 m11 m12 m13 m14 m15 m16 m17 m18 m19 m20 m21 m22 m23 m24 m25 m26 m27 m28 m29 m42 m43 m44 m45 m46 m47 m48 m49 m50 m51 m52 m53 m54 m55 m56 m57 m58 m59 m60 m61 m62 m63 m64 m65 m66 m67 m68 m69 m70 m71 m72 m73 m74 m75 m76 m77 m78 m79 m80 m81 m82 m83 m84 m85 m86 m87 m88 m89 m90 m91 m92 m93 m94 m95 m96 m97 m98 m99 m100
    simp only [List.range, List.range.loop, List.map_cons, List.map_nil, m0, m1, m2, m3, m4, m5, m6, m7, m8, m9, m10, m11, m12, m13, m14, m15, m16, m17, m18, m19, m20, m21, m22, m23, m24, m25, m26, m27, m28, m29, m42, m43, m44, m45, m46, m47, m48, m49, m50, m51, m52, m53, m54, m55, m56, m57, m58, m59, m60, m61, m62, m63, m64, m65, m66, m67, m68, m69, m70, m71, m72, m73, m74, m75, m76, m77, m78, m79, m80, m81, m82, m83, m84, m85, m86, m87, m88, m89, m90, m91, m92, m93, m94, m95, m96, m97, m98, m99, m100, m41] at ea
    subst ea
    clear m0 m1 m2 m3 m4 m5 m6 m7 m8 m9 m10 m11 m12 m13 m14 m15 m16 m17 m18 m19 m20 m21 m22 m23 m24 m25 m26 m27 m28 m29 m42 m43 m44 m45 m46 m47 m48 m49 m50 m51 m52 m53 m54 m55 m56 m57 m58 m59 m60 m61 m62 m63 m64 m65 m66 m67 m68 m69 m70 m71 m72 m73 m74 m75 m76 m77 m78 m79 m80 m81 m82 m83 m84 m85 m86 m87 m88 m89 m90 m91 m92 m93 m94 m95 m96 m97 m98 m99 m100 m41 hfv md hf
    clear hS1 heq1 hgd1
    have h00 : 0 ≤ n := by omega
    have h01 : n ≤ 1000 := by omega
    clear hb
    obtain rfl : p = ⟨3, n, false, false, 0⟩ := by rw [← HP.out]; unfold blockNew; rw [if_pos (by rw [numB_kinds (by omega)]; simp; omega)]
    clear HP
    obtain ⟨PB, hPB⟩ : ∃ P, u2.heap.size = P := ⟨_, rfl⟩
    rw [hPB] at B_5 ⊢
    have hw0 : w.heap.size ≤ PB := by omega
    have HI : Hid (CellB u5 PB ⟨3, n, false, false, 0⟩ ∧ Below w.heap.size w u5 ∧ PB < u5.heap.size) := ⟨B_5, G5, by omega⟩
    clear B_5 G5 hPB s1 s2 s3 s4 s5
    have HB : Hid (Bytes8 w w.heap.size x1 len1) := b1
    clear b1
    go_wp2_with fail
    go_loopw [8, 9, 10] (fun a s i wr => ∃ (j : Nat) (k : Int) (on was : Bool), a = .bool was ∧ s = .int .i64 k ∧ i = .int .i64 j ∧ j ≤ 20 ∧ 0 ≤ k ∧ k ≤ j ∧ Hid (CellB wr PB ⟨3, n, on, was, k⟩ ∧ Below w.heap.size w wr ∧ PB < wr.heap.size)) (fun _ _ i _ => 20 - (intOf i).toNat)
    case atStart => exact ⟨0, 0, false, false, rfl, rfl, rfl, by omega, by omega, by omega, HI⟩
    case round =>
      clear HI
      obtain ⟨j, k, on, was, rfl, rfl, rfl, hj, hk0, hk1, HR⟩ := hrel
      by_cases hjl : j < len1
      rotate_left 1
      · have hjl' : ¬ (j : Int) < (len1 : Int) := by omega
        have HG := HR.out.2.1
        go_wp2
        go_ret
        exact ⟨rfl, HG⟩
      have hjl' : (j : Int) < (len1 : Int) := by omega
      by_cases hj2 : j < 20
      rotate_left 1
      · have hj2' : ¬ (j : Int) < 20 := by omega
        have HG := HR.out.2.1
        go_wp2
        go_ret
        exact ⟨rfl, HG⟩
      have hj2' : (j : Int) < 20 := by omega
      obtain ⟨bb, off, z, rfl, hcell, hz0, hz1⟩ := byte_at HB.out HR.out.2.1 hjl
      have hbw : bb < wr.heap.size := World.block_lt_of_cell? wr _ hcell
      obtain ⟨p1, G0, hPu⟩ := HR.out
      clear HR
      obtain ⟨x2, hx2⟩ : ∃ x2, (z.tmod 2 == 1) = x2 := ⟨_, rfl⟩
      have hx3 : (z % 2 == 1) = x2 := by rw [← hx2, Int.tmod_eq_emod_of_nonneg hz0]
      obtain ⟨d, hd, hd0, hd3⟩ : ∃ d : Int, z % 7 = d ∧ 0 ≤ d ∧ d ≤ 6 := ⟨_, rfl, by omega, by omega⟩
      have hd2 : z.tmod 7 = d := by rw [Int.tmod_eq_emod_of_nonneg hz0, hd]
      have hSx := fun u x y => iBlockStep_any u ⟨3, n, on, was, k⟩ x y d
      have hcs := fun x y => count_step n k d on was x y h00 h01 hk0 (by omega) hd0 hd3
      by_cases hy : 240 < z
      · cases x2 <;> cases was
        · have hS := fun u => hSx u false true
          have hc := hcs false true
          simp only [Bool.true_and, Bool.and_true, Bool.false_and, Bool.and_false, Bool.not_true, Bool.not_false, Bool.false_eq_true, reduceIte] at hc
          rw [hc] at hS
          simp only at hS
          clear hc hcs hSx
          have hcz := hcell
          go_wp2_with fail
          refine wp_region_dagC (R := fun u u' => Below wr.heap.size u u' ∧ u.heap.size ≤ u'.heap.size) (Φ := fun i v u => match i with
              | 0 => v = BlockD.val ⟨3, n, on, false, k⟩
              | 1 => v = .bool false
              | 2 => v = .bool true
              | 3 => v = .slice (some ⟨bb, off, none⟩) len1 cap1
              | 4 => v = .int .i64 j
              | 5 => v = .pointer (some ⟨bb, off + j, none⟩)
              | 6 => v = .int .u8 z
              | 7 => v = .int .i64 z
              | 8 => v = .int .i64 d
              | 9 => v = .tuple #[BlockD.val (⟨3, n, decide (n ≤ 0), false, 0⟩ : BlockD), .bool (decide (n ≤ 0))]
              | 10 => v = .tuple #[BlockD.val (⟨3, n, decide (n ≤ 0), false, 0⟩ : BlockD), .bool (decide (n ≤ 0))]
              | 11 => v = BlockD.val (⟨3, n, decide (n ≤ 0), false, 0⟩ : BlockD)
              | 12 => v = .bool (decide (n ≤ 0))
              | 13 => True
              | 14 => True
              | 15 => v = .bool (decide (n ≤ 0))
              | _ => True)
            (J := fun L a u => JV wr.heap.size (⟨3, n, decide (n ≤ 0), false, 0⟩ : BlockD) L a u) (by kernel_rfl) (by kernel_rfl) (by kernel_rfl) ⟨Below.refl _ _, Nat.le_refl _⟩ (fun _ _ _ h k => ⟨h.1.trans k.1, Nat.le_trans h.2 k.2⟩) ?_ ⟨rfl, fun h => by simp at h⟩ ?_ ?_
          · intro i v u u' hr
            match i with
            | 0 | 1 | 2 | 3 | 4 | 5 | 6 | 7 | 8 | 9 | 10 | 11 | 12 | 13 | 14 | 15 | _ + 16 => exact fun h => h
          · intro i o ho L ac u hf hR0 hLs hLi hcl hp he hJ K' hK
            have hR : Below wr.heap.size wr u := (Below.drew (Below.refl _ _)).trans hR0.1
            have hsz' : ac.tmps.size = 101 := hf.size
            have hus := hR.size
            have hLz := hJ.sz
            rcases i with _ | _ | _ | _ | _ | _ | _ | _ | _ | _ | _ | _ | _ | _ | _ | _ | i
            · obtain rfl := Option.some.inj ho
              have q7 : ac.tmps.getD 7 undef = .pointer (some ⟨PB, 0, none⟩) := hf.at_ 7 (by kernel_rfl)
              have cu := p1.below hR (by omega)
              clear hp he
              refine wanted_none rfl ?_
              refine wp_loadB (Operand.tmp 7) rfl q7 cu ?_
              exact hK _ _ ⟨Below.refl _ _, Nat.le_refl _⟩ (getD_put_self ac 77 _ (by show _ < ac.tmps.size; omega)) (hJ.next (by decide) (by decide) (by decide) (Below.refl _ _))
            · obtain rfl := Option.some.inj ho
              have q11 : ac.tmps.getD 11 undef = .bool false := hf.at_ 11 (by kernel_rfl)
              clear hp he
              go_simp
              exact hK _ _ ⟨Below.refl _ _, Nat.le_refl _⟩ (getD_put_self ac 78 _ (by show _ < ac.tmps.size; omega)) (hJ.next (by decide) (by decide) (by decide) (Below.refl _ _))
            · obtain rfl := Option.some.inj ho
              have q12 : ac.tmps.getD 12 undef = .bool true := hf.at_ 12 (by kernel_rfl)
              clear hp he
              go_simp
              exact hK _ _ ⟨Below.refl _ _, Nat.le_refl _⟩ (getD_put_self ac 79 _ (by show _ < ac.tmps.size; omega)) (hJ.next (by decide) (by decide) (by decide) (Below.refl _ _))
            · obtain rfl := Option.some.inj ho
              have q1 : ac.tmps.getD 1 undef = .slice (some ⟨bb, off, none⟩) len1 cap1 := hf.at_ 1 (by kernel_rfl)
              clear hp he
              go_simp
              exact hK _ _ ⟨Below.refl _ _, Nat.le_refl _⟩ (getD_put_self ac 80 _ (by show _ < ac.tmps.size; omega)) (hJ.next (by decide) (by decide) (by decide) (Below.refl _ _))
            · obtain rfl := Option.some.inj ho
              have q10 : ac.tmps.getD 10 undef = .int .i64 j := hf.at_ 10 (by kernel_rfl)
              clear hp he
              go_simp
              exact hK _ _ ⟨Below.refl _ _, Nat.le_refl _⟩ (getD_put_self ac 81 _ (by show _ < ac.tmps.size; omega)) (hJ.next (by decide) (by decide) (by decide) (Below.refl _ _))
            · obtain rfl := Option.some.inj ho
              have q80 : ac.tmps.getD 80 undef = .slice (some ⟨bb, off, none⟩) len1 cap1 := hp 3 _ rfl (he _ (Array.mem_of_getElem? (i := 0) rfl) (by kernel_rfl))
              have q81 : ac.tmps.getD 81 undef = .int .i64 j := hp 4 _ rfl (he _ (Array.mem_of_getElem? (i := 1) rfl) (by kernel_rfl))
              clear hp he
              go_simp
              exact hK _ _ ⟨Below.refl _ _, Nat.le_refl _⟩ (getD_put_self ac 82 _ (by show _ < ac.tmps.size; omega)) (hJ.next (by decide) (by decide) (by decide) (Below.refl _ _))
            · obtain rfl := Option.some.inj ho
              have q82 : ac.tmps.getD 82 undef = .pointer (some ⟨bb, off + j, none⟩) := hp 5 _ rfl (he _ (Array.mem_of_getElem? (i := 0) rfl) (by kernel_rfl))
              have hcu : u.cell? ⟨bb, off + j, none⟩ = some (.int .u8 z) := by rw [hR.cell (p := ⟨bb, off + j, none⟩) hbw]; exact hcell
              clear hp he
              go_simp
              exact hK _ _ ⟨Below.refl _ _, Nat.le_refl _⟩ (getD_put_self ac 83 _ (by show _ < ac.tmps.size; omega)) (hJ.next (by decide) (by decide) (by decide) (Below.refl _ _))
            · obtain rfl := Option.some.inj ho
              have q83 : ac.tmps.getD 83 undef = .int .u8 z := hp 6 _ rfl (he _ (Array.mem_of_getElem? (i := 0) rfl) (by kernel_rfl))
              clear hp he
              have hwz := wrap_byte hz0 hz1
              go_simp
              exact hK _ _ ⟨Below.refl _ _, Nat.le_refl _⟩ (getD_put_self ac 84 _ (by show _ < ac.tmps.size; omega)) (hJ.next (by decide) (by decide) (by decide) (Below.refl _ _))
            · obtain rfl := Option.some.inj ho
              have q84 : ac.tmps.getD 84 undef = .int .i64 z := hp 7 _ rfl (he _ (Array.mem_of_getElem? (i := 0) rfl) (by kernel_rfl))
              clear hp he
              go_simp
              exact hK _ _ ⟨Below.refl _ _, Nat.le_refl _⟩ (getD_put_self ac 85 _ (by show _ < ac.tmps.size; omega)) (hJ.next (by decide) (by decide) (by decide) (Below.refl _ _))
            · obtain rfl := Option.some.inj ho
              have q77 : ac.tmps.getD 77 undef = BlockD.val ⟨3, n, on, false, k⟩ := hp 0 _ rfl (he _ (Array.mem_of_getElem? (i := 0) rfl) (by kernel_rfl))
              have q78 : ac.tmps.getD 78 undef = .bool false := hp 1 _ rfl (he _ (Array.mem_of_getElem? (i := 1) rfl) (by kernel_rfl))
              have q79 : ac.tmps.getD 79 undef = .bool true := hp 2 _ rfl (he _ (Array.mem_of_getElem? (i := 2) rfl) (by kernel_rfl))
              have q85 : ac.tmps.getD 85 undef = .int .i64 d := hp 8 _ rfl (he _ (Array.mem_of_getElem? (i := 3) rfl) (by kernel_rfl))
              clear hp he
              go_simp
              refine (hS _).mono ?_
              rintro e1 u' ⟨rfl, hbu⟩
              exact hK _ _ ⟨hbu.mono (by omega), hbu.size⟩ (getD_put_self ac 86 _ (by show _ < ac.tmps.size; omega)) (hJ.next (by decide) (by decide) (by decide) hbu)
            · obtain rfl := Option.some.inj ho
              have q86 : ac.tmps.getD 86 undef = .tuple #[BlockD.val (⟨3, n, decide (n ≤ 0), false, 0⟩ : BlockD), .bool (decide (n ≤ 0))] := hp 9 _ rfl (he _ (Array.mem_of_getElem? (i := 0) rfl) (by kernel_rfl))
              clear hp he
              go_simp
              exact hK _ _ ⟨Below.refl _ _, Nat.le_refl _⟩ (getD_put_self ac 76 _ (by show _ < ac.tmps.size; omega)) (hJ.next (by decide) (by decide) (by decide) (Below.refl _ _))
            · obtain rfl := Option.some.inj ho
              have q76 : ac.tmps.getD 76 undef = .tuple #[BlockD.val (⟨3, n, decide (n ≤ 0), false, 0⟩ : BlockD), .bool (decide (n ≤ 0))] := hp 10 _ rfl (he _ (Array.mem_of_getElem? (i := 0) rfl) (by kernel_rfl))
              clear hp he
              go_simp
              exact hK _ _ ⟨Below.refl _ _, Nat.le_refl _⟩ (getD_put_self ac 87 _ (by show _ < ac.tmps.size; omega)) (hJ.next (by decide) (by decide) (by decide) (Below.refl _ _))
            · obtain rfl := Option.some.inj ho
              have q76 : ac.tmps.getD 76 undef = .tuple #[BlockD.val (⟨3, n, decide (n ≤ 0), false, 0⟩ : BlockD), .bool (decide (n ≤ 0))] := hp 10 _ rfl (he _ (Array.mem_of_getElem? (i := 0) rfl) (by kernel_rfl))
              clear hp he
              go_simp
              exact hK _ _ ⟨Below.refl _ _, Nat.le_refl _⟩ (getD_put_self ac 88 _ (by show _ < ac.tmps.size; omega)) (hJ.next (by decide) (by decide) (by decide) (Below.refl _ _))
            · obtain rfl := Option.some.inj ho
              have h14 : L.getD 14 true = false := hcl.not (i := 14) (j := 13) (by kernel_rfl) hLi
              have e14 : (L.setIfInBounds 13 true).getD 14 true = L.getD 14 true := by simp
              clear hp he
              refine wanted_none rfl ?_
              refine wp_allocB rfl ?_
              intro u1 g1 c1 s1
              exact hK _ _ ⟨g1.mono (by omega), by omega⟩ trivial ⟨by rw [Array.size_setIfInBounds]; exact hLz, fun _ => ⟨u.heap.size, (getD_put_self ac 13 _ (by show _ < ac.tmps.size; omega)), by omega, by omega, fun _ => c1, fun h => absurd h (by rw [e14, h14]; decide)⟩⟩
            · obtain rfl := Option.some.inj ho
              obtain ⟨g, q13, hg1, hg2, hc0, _⟩ := hJ.made (he _ (Array.mem_of_getElem? (i := 0) rfl) (by kernel_rfl))
              have q87 : ac.tmps.getD 87 undef = BlockD.val (⟨3, n, decide (n ≤ 0), false, 0⟩ : BlockD) := hp 11 _ rfl (he _ (Array.mem_of_getElem? (i := 1) rfl) (by kernel_rfl))
              have cu := hc0 hLi
              have h13 := he _ (Array.mem_of_getElem? (i := 0) rfl) (by kernel_rfl)
              clear hp he
              refine wanted_none rfl ?_
              refine wp_storeB (Operand.tmp 13) (Operand.tmp 87) rfl q13 q87 cu ?_
              intro u1 L1
              have z1 := L1.size
              exact hK _ _ ⟨L1.below.mono (by omega), by omega⟩ trivial ⟨by rw [Array.size_setIfInBounds]; exact hLz, fun _ => ⟨g, q13, hg1, by omega, fun h => absurd h (by rw [getD_set_self' (by rw [hLz]; decide)]; decide), fun _ => L1.cell⟩⟩
            · obtain rfl := Option.some.inj ho
              have q88 : ac.tmps.getD 88 undef = .bool (decide (n ≤ 0)) := hp 12 _ rfl (he _ (Array.mem_of_getElem? (i := 0) rfl) (by kernel_rfl))
              clear hp he
              go_simp
              exact hK _ _ ⟨Below.refl _ _, Nat.le_refl _⟩ (getD_put_self ac 14 _ (by show _ < ac.tmps.size; omega)) (hJ.next (by decide) (by decide) (by decide) (Below.refl _ _))
            · exact absurd ho (by simp)
          · intro L ac u1 hf hR0 hp hJ
            have hR : Below wr.heap.size wr u1 := (Below.drew (Below.refl _ _)).trans hR0.1
            have m14 : ac.tmps.getD 14 undef = .bool (decide (n ≤ 0)) := (hp 15 _ rfl).2
            obtain ⟨g, m13, hg1, hg2, _, hc1⟩ := hJ.made (hp 13 _ rfl).1
            have m13 : ac.tmps.getD 13 undef = .pointer (some ⟨g, 0, none⟩) := m13
            have cg := hc1 (hp 14 _ rfl).1
            have pb := p1.below hR (by omega)
            have G1 := G0.trans (hR.mono (by have := G0.size; omega))
            clear hp hJ hR0 hR hc1 hS hcz hcell p1 G0
            obtain ⟨fq, ea, hfv⟩ := act_lit ac 101 hf.size
            have md : ac.defers = [] := hf.defers
            rw [md] at ea
            have m0 := hf.at_ 0 (by kernel_rfl)
            have m1 := hf.at_ 1 (by kernel_rfl)
            have m2 := hf.at_ 2 (by kernel_rfl)
            have m3 := hf.at_ 3 (by kernel_rfl)
            have m4 := hf.at_ 4 (by kernel_rfl)
            have m5 := hf.at_ 5 (by kernel_rfl)
            have m6 := hf.at_ 6 (by kernel_rfl)
            have m7 := hf.at_ 7 (by kernel_rfl)
            have m8 := hf.at_ 8 (by kernel_rfl)
            have m9 := hf.at_ 9 (by kernel_rfl)
            have m10 := hf.at_ 10 (by kernel_rfl)
            have m11 := hf.at_ 11 (by kernel_rfl)
            have m12 := hf.at_ 12 (by kernel_rfl)
            have m15 := hf.at_ 15 (by kernel_rfl)
            have m16 := hf.at_ 16 (by kernel_rfl)
            have m17 := hf.at_ 17 (by kernel_rfl)
            have m18 := hf.at_ 18 (by kernel_rfl)
            have m19 := hf.at_ 19 (by kernel_rfl)
            have m20 := hf.at_ 20 (by kernel_rfl)
            have m21 := hf.at_ 21 (by kernel_rfl)
            have m22 := hf.at_ 22 (by kernel_rfl)
            have m23 := hf.at_ 23 (by kernel_rfl)
            have m24 := hf.at_ 24 (by kernel_rfl)
            have m25 := hf.at_ 25 (by kernel_rfl)
            have m26 := hf.at_ 26 (by kernel_rfl)
            have m27 := hf.at_ 27 (by kernel_rfl)
            have m28 := hf.at_ 28 (by kernel_rfl)
            have m29 := hf.at_ 29 (by kernel_rfl)
            have m30 := hf.at_ 30 (by kernel_rfl)
            have m31 := hf.at_ 31 (by kernel_rfl)
            have m32 := hf.at_ 32 (by kernel_rfl)
            have m33 := hf.at_ 33 (by kernel_rfl)
            have m34 := hf.at_ 34 (by kernel_rfl)
            have m35 := hf.at_ 35 (by kernel_rfl)
            have m36 := hf.at_ 36 (by kernel_rfl)
            have m37 := hf.at_ 37 (by kernel_rfl)
            have m38 := hf.at_ 38 (by kernel_rfl)
            have m39 := hf.at_ 39 (by kernel_rfl)
            have m40 := hf.at_ 40 (by kernel_rfl)
            have m41 := hf.at_ 41 (by kernel_rfl)
            have m42 := hf.at_ 42 (by kernel_rfl)
            have m43 := hf.at_ 43 (by kernel_rfl)
            have m44 := hf.at_ 44 (by kernel_rfl)
            have m45 := hf.at_ 45 (by kernel_rfl)
            have m46 := hf.at_ 46 (by kernel_rfl)
            have m47 := hf.at_ 47 (by kernel_rfl)
            have m48 := hf.at_ 48 (by kernel_rfl)
            have m49 := hf.at_ 49 (by kernel_rfl)
            have m50 := hf.at_ 50 (by kernel_rfl)
            have m51 := hf.at_ 51 (by kernel_rfl)
            have m52 := hf.at_ 52 (by kernel_rfl)
            have m53 := hf.at_ 53 (by kernel_rfl)
            have m54 := hf.at_ 54 (by kernel_rfl)
            have m55 := hf.at_ 55 (by kernel_rfl)
            have m56 := hf.at_ 56 (by kernel_rfl)
            have m57 := hf.at_ 57 (by kernel_rfl)
            have m58 := hf.at_ 58 (by kernel_rfl)
            have m59 := hf.at_ 59 (by kernel_rfl)
            have m60 := hf.at_ 60 (by kernel_rfl)
            have m61 := hf.at_ 61 (by kernel_rfl)
            have m62 := hf.at_ 62 (by kernel_rfl)
            have m63 := hf.at_ 63 (by kernel_rfl)
            have m64 := hf.at_ 64 (by kernel_rfl)
            have m65 := hf.at_ 65 (by kernel_rfl)
            have m66 := hf.at_ 66 (by kernel_rfl)
            have m67 := hf.at_ 67 (by kernel_rfl)
            have m68 := hf.at_ 68 (by kernel_rfl)
            have m69 := hf.at_ 69 (by kernel_rfl)
            have m70 := hf.at_ 70 (by kernel_rfl)
            have m71 := hf.at_ 71 (by kernel_rfl)
            have m72 := hf.at_ 72 (by kernel_rfl)
            have m73 := hf.at_ 73 (by kernel_rfl)
            have m74 := hf.at_ 74 (by kernel_rfl)
            have m75 := hf.at_ 75 (by kernel_rfl)
            have m89 := hf.at_ 89 (by kernel_rfl)
            have m90 := hf.at_ 90 (by kernel_rfl)
            have m91 := hf.at_ 91 (by kernel_rfl)
            have m92 := hf.at_ 92 (by kernel_rfl)
            have m93 := hf.at_ 93 (by kernel_rfl)
            have m94 := hf.at_ 94 (by kernel_rfl)
            have m95 := hf.at_ 95 (by kernel_rfl)
            have m96 := hf.at_ 96 (by kernel_rfl)
            have m97 := hf.at_ 97 (by kernel_rfl)
            have m98 := hf.at_ 98 (by kernel_rfl)
            have m99 := hf.at_ 99 (by kernel_rfl)
            have m100 := hf.at_ 100 (by kernel_rfl)
            rw [← hfv] at m0 m1 m2 m3 m4 m5 m6 m7 m8 m9 m10 m11 m12 m15 m16 m17 m18 m19 m20 m21 m22 m23 m24 m25 m26 m27 m28 m29 m30 m31 m32 m33 m34 m35 m36 m37 m38 m39 m40 m41 m42 m43 m44 m45 m46 m47 m48 m49 m50 m51 m52 m53 m54 m55 m56 m57 m58 m59 m60 m61 m62 m63 m64 m65 m66 m67 m68 m69 m70 m71 m72 m73 m74 m75 m89 m90 m91 m92 m93 m94 m95 m96 m97 m98 m99 m100 m13 m14
            simp only [Array.getD_eq_getD_getElem?, List.getElem?_toArray, List.getElem?_cons_succ, List.getElem?_cons_zero, Option.getD_some] at m0 m1 m2 m3 m4 m5 m6 m7 m8 m9 m10 m11 m12 m15 m16 m17 m18 m19 m20 m21 m22 m23 m24 m25 m26 m27 m28 m29 m30 m31 m32 m33 m34 m35 m36 m37 m38 m39 m40 m41 m42 m43 m44 m45 m46 m47 m48 m49 m50 m51 m52 m53 m54 m55 m56 m57 m58 m59 m60 m61 m62 m63 m64 m65 m66 m67 m68 m69 m70 m71 m72 m73 m74 m75 m89 m90 m91 m92 m93 m94 m95 m96 m97 m98 m99 m100
            simp only [List.range, List.range.loop, List.map_cons, List.map_nil, m0, m1, m2, m3, m4, m5, m6, m7, m8, m9, m10, m11, m12, m15, m16, m17, m18, m19, m20, m21, m22, m23, m24, m25, m26, m27, m28, m29, m30, m31, m32, m33, m34, m35, m36, m37, m38, m39, m40, m41, m42, m43, m44, m45, m46, m47, m48, m49, m50, m51, m52, m53, m54, m55, m56, m57, m58, m59, m60, m61, m62, m63, m64, m65, m66, m67, m68, m69, m70, m71, m72, m73, m74, m75, m89, m90, m91, m92, m93, m94, m95, m96, m97, m98, m99, m100, m13, m14] at ea
            subst ea
            clear m0 m1 m2 m3 m4 m5 m6 m7 m8 m9 m10 m11 m12 m15 m16 m17 m18 m19 m20 m21 m22 m23 m24 m25 m26 m27 m28 m29 m30 m31 m32 m33 m34 m35 m36 m37 m38 m39 m40 m41 m42 m43 m44 m45 m46 m47 m48 m49 m50 m51 m52 m53 m54 m55 m56 m57 m58 m59 m60 m61 m62 m63 m64 m65 m66 m67 m68 m69 m70 m71 m72 m73 m74 m75 m89 m90 m91 m92 m93 m94 m95 m96 m97 m98 m99 m100 m13 m14 hfv md hf
            obtain ⟨kz0, kz1, kz2, kz3, kz4, _⟩ := id cg
            try simp only at kz0 kz1 kz2 kz3 kz4
            have e1 : (decide (n ≤ 0) != decide (n ≤ 0)) = false := by simp
            skip
            go_wp2_with (refine wpList_storeB (b := (⟨3, n, decide (n ≤ 0), false, 0⟩ : BlockD)) rfl _ _ rfl rfl rfl pb ?_)
            clear kz0 kz1 kz2 kz3 kz4
            intro u2 L2
            have s2 := L2.size
            have HN : Hid (CellB u2 PB (⟨3, n, decide (n ≤ 0), false, 0⟩ : BlockD) ∧ Below w.heap.size w u2 ∧ PB < u2.heap.size) := ⟨L2.cell, G1.trans (L2.below.mono (by omega)), by omega⟩
            clear L2 pb cg G1
            go_wp2
            go_roundw
            case rel => exact ⟨j + 1, 0, _, _, rfl, rfl, by go_num, by omega, by omega, by omega, HN⟩
            case measure => simp [intOf] <;> omega
        · have hS := fun u => hSx u false true
          have hc := hcs false true
          simp only [Bool.true_and, Bool.and_true, Bool.false_and, Bool.and_false, Bool.not_true, Bool.not_false, Bool.false_eq_true, reduceIte] at hc
          rw [hc] at hS
          simp only at hS
          clear hc hcs hSx
          have hcz := hcell
          go_wp2_with fail
          refine wp_region_dagC (R := fun u u' => Below wr.heap.size u u' ∧ u.heap.size ≤ u'.heap.size) (Φ := fun i v u => match i with
              | 0 => v = BlockD.val ⟨3, n, on, true, k⟩
              | 1 => v = .bool false
              | 2 => v = .bool true
              | 3 => v = .slice (some ⟨bb, off, none⟩) len1 cap1
              | 4 => v = .int .i64 j
              | 5 => v = .pointer (some ⟨bb, off + j, none⟩)
              | 6 => v = .int .u8 z
              | 7 => v = .int .i64 z
              | 8 => v = .int .i64 d
              | 9 => v = .tuple #[BlockD.val (⟨3, n, decide (n ≤ 0), false, 0⟩ : BlockD), .bool (decide (n ≤ 0))]
              | 10 => v = .tuple #[BlockD.val (⟨3, n, decide (n ≤ 0), false, 0⟩ : BlockD), .bool (decide (n ≤ 0))]
              | 11 => v = BlockD.val (⟨3, n, decide (n ≤ 0), false, 0⟩ : BlockD)
              | 12 => v = .bool (decide (n ≤ 0))
              | 13 => True
              | 14 => True
              | 15 => v = .bool (decide (n ≤ 0))
              | _ => True)
            (J := fun L a u => JV wr.heap.size (⟨3, n, decide (n ≤ 0), false, 0⟩ : BlockD) L a u) (by kernel_rfl) (by kernel_rfl) (by kernel_rfl) ⟨Below.refl _ _, Nat.le_refl _⟩ (fun _ _ _ h k => ⟨h.1.trans k.1, Nat.le_trans h.2 k.2⟩) ?_ ⟨rfl, fun h => by simp at h⟩ ?_ ?_
          · intro i v u u' hr
            match i with
            | 0 | 1 | 2 | 3 | 4 | 5 | 6 | 7 | 8 | 9 | 10 | 11 | 12 | 13 | 14 | 15 | _ + 16 => exact fun h => h
          · intro i o ho L ac u hf hR0 hLs hLi hcl hp he hJ K' hK
            have hR : Below wr.heap.size wr u := (Below.drew (Below.refl _ _)).trans hR0.1
            have hsz' : ac.tmps.size = 101 := hf.size
            have hus := hR.size
            have hLz := hJ.sz
            rcases i with _ | _ | _ | _ | _ | _ | _ | _ | _ | _ | _ | _ | _ | _ | _ | _ | i
            · obtain rfl := Option.some.inj ho
              have q7 : ac.tmps.getD 7 undef = .pointer (some ⟨PB, 0, none⟩) := hf.at_ 7 (by kernel_rfl)
              have cu := p1.below hR (by omega)
              clear hp he
              refine wanted_none rfl ?_
              refine wp_loadB (Operand.tmp 7) rfl q7 cu ?_
              exact hK _ _ ⟨Below.refl _ _, Nat.le_refl _⟩ (getD_put_self ac 77 _ (by show _ < ac.tmps.size; omega)) (hJ.next (by decide) (by decide) (by decide) (Below.refl _ _))
            · obtain rfl := Option.some.inj ho
              have q11 : ac.tmps.getD 11 undef = .bool false := hf.at_ 11 (by kernel_rfl)
              clear hp he
              go_simp
              exact hK _ _ ⟨Below.refl _ _, Nat.le_refl _⟩ (getD_put_self ac 78 _ (by show _ < ac.tmps.size; omega)) (hJ.next (by decide) (by decide) (by decide) (Below.refl _ _))
            · obtain rfl := Option.some.inj ho
              have q12 : ac.tmps.getD 12 undef = .bool true := hf.at_ 12 (by kernel_rfl)
              clear hp he
              go_simp
              exact hK _ _ ⟨Below.refl _ _, Nat.le_refl _⟩ (getD_put_self ac 79 _ (by show _ < ac.tmps.size; omega)) (hJ.next (by decide) (by decide) (by decide) (Below.refl _ _))
            · obtain rfl := Option.some.inj ho
              have q1 : ac.tmps.getD 1 undef = .slice (some ⟨bb, off, none⟩) len1 cap1 := hf.at_ 1 (by kernel_rfl)
              clear hp he
              go_simp
              exact hK _ _ ⟨Below.refl _ _, Nat.le_refl _⟩ (getD_put_self ac 80 _ (by show _ < ac.tmps.size; omega)) (hJ.next (by decide) (by decide) (by decide) (Below.refl _ _))
            · obtain rfl := Option.some.inj ho
              have q10 : ac.tmps.getD 10 undef = .int .i64 j := hf.at_ 10 (by kernel_rfl)
              clear hp he
              go_simp
              exact hK _ _ ⟨Below.refl _ _, Nat.le_refl _⟩ (getD_put_self ac 81 _ (by show _ < ac.tmps.size; omega)) (hJ.next (by decide) (by decide) (by decide) (Below.refl _ _))
            · obtain rfl := Option.some.inj ho
              have q80 : ac.tmps.getD 80 undef = .slice (some ⟨bb, off, none⟩) len1 cap1 := hp 3 _ rfl (he _ (Array.mem_of_getElem? (i := 0) rfl) (by kernel_rfl))
              have q81 : ac.tmps.getD 81 undef = .int .i64 j := hp 4 _ rfl (he _ (Array.mem_of_getElem? (i := 1) rfl) (by kernel_rfl))
              clear hp he
              go_simp
              exact hK _ _ ⟨Below.refl _ _, Nat.le_refl _⟩ (getD_put_self ac 82 _ (by show _ < ac.tmps.size; omega)) (hJ.next (by decide) (by decide) (by decide) (Below.refl _ _))
            · obtain rfl := Option.some.inj ho
              have q82 : ac.tmps.getD 82 undef = .pointer (some ⟨bb, off + j, none⟩) := hp 5 _ rfl (he _ (Array.mem_of_getElem? (i := 0) rfl) (by kernel_rfl))
              have hcu : u.cell? ⟨bb, off + j, none⟩ = some (.int .u8 z) := by rw [hR.cell (p := ⟨bb, off + j, none⟩) hbw]; exact hcell
              clear hp he
              go_simp
              exact hK _ _ ⟨Below.refl _ _, Nat.le_refl _⟩ (getD_put_self ac 83 _ (by show _ < ac.tmps.size; omega)) (hJ.next (by decide) (by decide) (by decide) (Below.refl _ _))
            · obtain rfl := Option.some.inj ho
              have q83 : ac.tmps.getD 83 undef = .int .u8 z := hp 6 _ rfl (he _ (Array.mem_of_getElem? (i := 0) rfl) (by kernel_rfl))
              clear hp he
              have hwz := wrap_byte hz0 hz1
              go_simp
              exact hK _ _ ⟨Below.refl _ _, Nat.le_refl _⟩ (getD_put_self ac 84 _ (by show _ < ac.tmps.size; omega)) (hJ.next (by decide) (by decide) (by decide) (Below.refl _ _))
            · obtain rfl := Option.some.inj ho
              have q84 : ac.tmps.getD 84 undef = .int .i64 z := hp 7 _ rfl (he _ (Array.mem_of_getElem? (i := 0) rfl) (by kernel_rfl))
              clear hp he
              go_simp
              exact hK _ _ ⟨Below.refl _ _, Nat.le_refl _⟩ (getD_put_self ac 85 _ (by show _ < ac.tmps.size; omega)) (hJ.next (by decide) (by decide) (by decide) (Below.refl _ _))
            · obtain rfl := Option.some.inj ho
              have q77 : ac.tmps.getD 77 undef = BlockD.val ⟨3, n, on, true, k⟩ := hp 0 _ rfl (he _ (Array.mem_of_getElem? (i := 0) rfl) (by kernel_rfl))
              have q78 : ac.tmps.getD 78 undef = .bool false := hp 1 _ rfl (he _ (Array.mem_of_getElem? (i := 1) rfl) (by kernel_rfl))
              have q79 : ac.tmps.getD 79 undef = .bool true := hp 2 _ rfl (he _ (Array.mem_of_getElem? (i := 2) rfl) (by kernel_rfl))
              have q85 : ac.tmps.getD 85 undef = .int .i64 d := hp 8 _ rfl (he _ (Array.mem_of_getElem? (i := 3) rfl) (by kernel_rfl))
              clear hp he
              go_simp
              refine (hS _).mono ?_
              rintro e1 u' ⟨rfl, hbu⟩
              exact hK _ _ ⟨hbu.mono (by omega), hbu.size⟩ (getD_put_self ac 86 _ (by show _ < ac.tmps.size; omega)) (hJ.next (by decide) (by decide) (by decide) hbu)
            · obtain rfl := Option.some.inj ho
              have q86 : ac.tmps.getD 86 undef = .tuple #[BlockD.val (⟨3, n, decide (n ≤ 0), false, 0⟩ : BlockD), .bool (decide (n ≤ 0))] := hp 9 _ rfl (he _ (Array.mem_of_getElem? (i := 0) rfl) (by kernel_rfl))
              clear hp he
              go_simp
              exact hK _ _ ⟨Below.refl _ _, Nat.le_refl _⟩ (getD_put_self ac 76 _ (by show _ < ac.tmps.size; omega)) (hJ.next (by decide) (by decide) (by decide) (Below.refl _ _))
            · obtain rfl := Option.some.inj ho
              have q76 : ac.tmps.getD 76 undef = .tuple #[BlockD.val (⟨3, n, decide (n ≤ 0), false, 0⟩ : BlockD), .bool (decide (n ≤ 0))] := hp 10 _ rfl (he _ (Array.mem_of_getElem? (i := 0) rfl) (by kernel_rfl))
              clear hp he
              go_simp
              exact hK _ _ ⟨Below.refl _ _, Nat.le_refl _⟩ (getD_put_self ac 87 _ (by show _ < ac.tmps.size; omega)) (hJ.next (by decide) (by decide) (by decide) (Below.refl _ _))
            · obtain rfl := Option.some.inj ho
              have q76 : ac.tmps.getD 76 undef = .tuple #[BlockD.val (⟨3, n, decide (n ≤ 0), false, 0⟩ : BlockD), .bool (decide (n ≤ 0))] := hp 10 _ rfl (he _ (Array.mem_of_getElem? (i := 0) rfl) (by kernel_rfl))
              clear hp he
              go_simp
              exact hK _ _ ⟨Below.refl _ _, Nat.le_refl _⟩ (getD_put_self ac 88 _ (by show _ < ac.tmps.size; omega)) (hJ.next (by decide) (by decide) (by decide) (Below.refl _ _))
            · obtain rfl := Option.some.inj ho
              have h14 : L.getD 14 true = false := hcl.not (i := 14) (j := 13) (by kernel_rfl) hLi
              have e14 : (L.setIfInBounds 13 true).getD 14 true = L.getD 14 true := by simp
              clear hp he
              refine wanted_none rfl ?_
              refine wp_allocB rfl ?_
              intro u1 g1 c1 s1
              exact hK _ _ ⟨g1.mono (by omega), by omega⟩ trivial ⟨by rw [Array.size_setIfInBounds]; exact hLz, fun _ => ⟨u.heap.size, (getD_put_self ac 13 _ (by show _ < ac.tmps.size; omega)), by omega, by omega, fun _ => c1, fun h => absurd h (by rw [e14, h14]; decide)⟩⟩
            · obtain rfl := Option.some.inj ho
              obtain ⟨g, q13, hg1, hg2, hc0, _⟩ := hJ.made (he _ (Array.mem_of_getElem? (i := 0) rfl) (by kernel_rfl))
              have q87 : ac.tmps.getD 87 undef = BlockD.val (⟨3, n, decide (n ≤ 0), false, 0⟩ : BlockD) := hp 11 _ rfl (he _ (Array.mem_of_getElem? (i := 1) rfl) (by kernel_rfl))
              have cu := hc0 hLi
              have h13 := he _ (Array.mem_of_getElem? (i := 0) rfl) (by kernel_rfl)
              clear hp he
              refine wanted_none rfl ?_
              refine wp_storeB (Operand.tmp 13) (Operand.tmp 87) rfl q13 q87 cu ?_
              intro u1 L1
              have z1 := L1.size
              exact hK _ _ ⟨L1.below.mono (by omega), by omega⟩ trivial ⟨by rw [Array.size_setIfInBounds]; exact hLz, fun _ => ⟨g, q13, hg1, by omega, fun h => absurd h (by rw [getD_set_self' (by rw [hLz]; decide)]; decide), fun _ => L1.cell⟩⟩
            · obtain rfl := Option.some.inj ho
              have q88 : ac.tmps.getD 88 undef = .bool (decide (n ≤ 0)) := hp 12 _ rfl (he _ (Array.mem_of_getElem? (i := 0) rfl) (by kernel_rfl))
              clear hp he
              go_simp
              exact hK _ _ ⟨Below.refl _ _, Nat.le_refl _⟩ (getD_put_self ac 14 _ (by show _ < ac.tmps.size; omega)) (hJ.next (by decide) (by decide) (by decide) (Below.refl _ _))
            · exact absurd ho (by simp)
          · intro L ac u1 hf hR0 hp hJ
            have hR : Below wr.heap.size wr u1 := (Below.drew (Below.refl _ _)).trans hR0.1
            have m14 : ac.tmps.getD 14 undef = .bool (decide (n ≤ 0)) := (hp 15 _ rfl).2
            obtain ⟨g, m13, hg1, hg2, _, hc1⟩ := hJ.made (hp 13 _ rfl).1
            have m13 : ac.tmps.getD 13 undef = .pointer (some ⟨g, 0, none⟩) := m13
            have cg := hc1 (hp 14 _ rfl).1
            have pb := p1.below hR (by omega)
            have G1 := G0.trans (hR.mono (by have := G0.size; omega))
            clear hp hJ hR0 hR hc1 hS hcz hcell p1 G0
            obtain ⟨fq, ea, hfv⟩ := act_lit ac 101 hf.size
            have md : ac.defers = [] := hf.defers
            rw [md] at ea
            have m0 := hf.at_ 0 (by kernel_rfl)
            have m1 := hf.at_ 1 (by kernel_rfl)
            have m2 := hf.at_ 2 (by kernel_rfl)
            have m3 := hf.at_ 3 (by kernel_rfl)
            have m4 := hf.at_ 4 (by kernel_rfl)
            have m5 := hf.at_ 5 (by kernel_rfl)
            have m6 := hf.at_ 6 (by kernel_rfl)
            have m7 := hf.at_ 7 (by kernel_rfl)
            have m8 := hf.at_ 8 (by kernel_rfl)
            have m9 := hf.at_ 9 (by kernel_rfl)
            have m10 := hf.at_ 10 (by kernel_rfl)
            have m11 := hf.at_ 11 (by kernel_rfl)
            have m12 := hf.at_ 12 (by kernel_rfl)
            have m15 := hf.at_ 15 (by kernel_rfl)
            have m16 := hf.at_ 16 (by kernel_rfl)
            have m17 := hf.at_ 17 (by kernel_rfl)
            have m18 := hf.at_ 18 (by kernel_rfl)
            have m19 := hf.at_ 19 (by kernel_rfl)
            have m20 := hf.at_ 20 (by kernel_rfl)
            have m21 := hf.at_ 21 (by kernel_rfl)
            have m22 := hf.at_ 22 (by kernel_rfl)
            have m23 := hf.at_ 23 (by kernel_rfl)
            have m24 := hf.at_ 24 (by kernel_rfl)
            have m25 := hf.at_ 25 (by kernel_rfl)
            have m26 := hf.at_ 26 (by kernel_rfl)
            have m27 := hf.at_ 27 (by kernel_rfl)
            have m28 := hf.at_ 28 (by kernel_rfl)
            have m29 := hf.at_ 29 (by kernel_rfl)
            have m30 := hf.at_ 30 (by kernel_rfl)
            have m31 := hf.at_ 31 (by kernel_rfl)
            have m32 := hf.at_ 32 (by kernel_rfl)
            have m33 := hf.at_ 33 (by kernel_rfl)
            have m34 := hf.at_ 34 (by kernel_rfl)
            have m35 := hf.at_ 35 (by kernel_rfl)
            have m36 := hf.at_ 36 (by kernel_rfl)
            have m37 := hf.at_ 37 (by kernel_rfl)
            have m38 := hf.at_ 38 (by kernel_rfl)
            have m39 := hf.at_ 39 (by kernel_rfl)
            have m40 := hf.at_ 40 (by kernel_rfl)
            have m41 := hf.at_ 41 (by kernel_rfl)
            have m42 := hf.at_ 42 (by kernel_rfl)
            have m43 := hf.at_ 43 (by kernel_rfl)
            have m44 := hf.at_ 44 (by kernel_rfl)
            have m45 := hf.at_ 45 (by kernel_rfl)
            have m46 := hf.at_ 46 (by kernel_rfl)
            have m47 := hf.at_ 47 (by kernel_rfl)
            have m48 := hf.at_ 48 (by kernel_rfl)
            have m49 := hf.at_ 49 (by kernel_rfl)
            have m50 := hf.at_ 50 (by kernel_rfl)
            have m51 := hf.at_ 51 (by kernel_rfl)
            have m52 := hf.at_ 52 (by kernel_rfl)
            have m53 := hf.at_ 53 (by kernel_rfl)
            have m54 := hf.at_ 54 (by kernel_rfl)
            have m55 := hf.at_ 55 (by kernel_rfl)
            have m56 := hf.at_ 56 (by kernel_rfl)
            have m57 := hf.at_ 57 (by kernel_rfl)
            have m58 := hf.at_ 58 (by kernel_rfl)
            have m59 := hf.at_ 59 (by kernel_rfl)
            have m60 := hf.at_ 60 (by kernel_rfl)
            have m61 := hf.at_ 61 (by kernel_rfl)
            have m62 := hf.at_ 62 (by kernel_rfl)
            have m63 := hf.at_ 63 (by kernel_rfl)
            have m64 := hf.at_ 64 (by kernel_rfl)
            have m65 := hf.at_ 65 (by kernel_rfl)
            have m66 := hf.at_ 66 (by kernel_rfl)
            have m67 := hf.at_ 67 (by kernel_rfl)
            have m68 := hf.at_ 68 (by kernel_rfl)
            have m69 := hf.at_ 69 (by kernel_rfl)
            have m70 := hf.at_ 70 (by kernel_rfl)
            have m71 := hf.at_ 71 (by kernel_rfl)
            have m72 := hf.at_ 72 (by kernel_rfl)
            have m73 := hf.at_ 73 (by kernel_rfl)
            have m74 := hf.at_ 74 (by kernel_rfl)
            have m75 := hf.at_ 75 (by kernel_rfl)
            have m89 := hf.at_ 89 (by kernel_rfl)
            have m90 := hf.at_ 90 (by kernel_rfl)
            have m91 := hf.at_ 91 (by kernel_rfl)
            have m92 := hf.at_ 92 (by kernel_rfl)
            have m93 := hf.at_ 93 (by kernel_rfl)
            have m94 := hf.at_ 94 (by kernel_rfl)
            have m95 := hf.at_ 95 (by kernel_rfl)
            have m96 := hf.at_ 96 (by kernel_rfl)
            have m97 := hf.at_ 97 (by kernel_rfl)
            have m98 := hf.at_ 98 (by kernel_rfl)
            have m99 := hf.at_ 99 (by kernel_rfl)
            have m100 := hf.at_ 100 (by kernel_rfl)
            rw [← hfv] at m0 m1 m2 m3 m4 m5 m6 m7 m8 m9 m10 m11 m12 m15 m16 m17 m18 m19 m20 m21 m22 m23 m24 m25 m26 m27 m28 m29 m30 m31 m32 m33 m34 m35 m36 m37 m38 m39 m40 m41 m42 m43 m44 m45 m46 m47 m48 m49 m50 m51 m52 m53 m54 m55 m56 m57 m58 m59 m60 m61 m62 m63 m64 m65 m66 m67 m68 m69 m70 m71 m72 m73 m74 m75 m89 m90 m91 m92 m93 m94 m95 m96 m97 m98 m99 m100 m13 m14
            simp only [Array.getD_eq_getD_getElem?, List.getElem?_toArray, List.getElem?_cons_succ, List.getElem?_cons_zero, Option.getD_some] at m0 m1 m2 m3 m4 m5 m6 m7 m8 m9 m10 m11 m12 m15 m16 m17 m18 m19 m20 m21 m22 m23 m24 m25 m26 m27 m28 m29 m30 m31 m32 m33 m34 m35 m36 m37 m38 m39 m40 m41 m42 m43 m44 m45 m46 m47 m48 m49 m50 m51 m52 m53 m54 m55 m56 m57 m58 m59 m60 m61 m62 m63 m64 m65 m66 m67 m68 m69 m70 m71 m72 m73 m74 m75 m89 m90 m91 m92 m93 m94 m95 m96 m97 m98 m99 m100
            simp only [List.range, List.range.loop, List.map_cons, List.map_nil, m0, m1, m2, m3, m4, m5, m6, m7, m8, m9, m10, m11, m12, m15, m16, m17, m18, m19, m20, m21, m22, m23, m24, m25, m26, m27, m28, m29, m30, m31, m32, m33, m34, m35, m36, m37, m38, m39, m40, m41, m42, m43, m44, m45, m46, m47, m48, m49, m50, m51, m52, m53, m54, m55, m56, m57, m58, m59, m60, m61, m62, m63, m64, m65, m66, m67, m68, m69, m70, m71, m72, m73, m74, m75, m89, m90, m91, m92, m93, m94, m95, m96, m97, m98, m99, m100, m13, m14] at ea
            subst ea
            clear m0 m1 m2 m3 m4 m5 m6 m7 m8 m9 m10 m11 m12 m15 m16 m17 m18 m19 m20 m21 m22 m23 m24 m25 m26 m27 m28 m29 m30 m31 m32 m33 m34 m35 m36 m37 m38 m39 m40 m41 m42 m43 m44 m45 m46 m47 m48 m49 m50 m51 m52 m53 m54 m55 m56 m57 m58 m59 m60 m61 m62 m63 m64 m65 m66 m67 m68 m69 m70 m71 m72 m73 m74 m75 m89 m90 m91 m92 m93 m94 m95 m96 m97 m98 m99 m100 m13 m14 hfv md hf
            obtain ⟨kz0, kz1, kz2, kz3, kz4, _⟩ := id cg
            try simp only at kz0 kz1 kz2 kz3 kz4
            have e1 : (decide (n ≤ 0) != decide (n ≤ 0)) = false := by simp
            skip
            go_wp2_with (refine wpList_storeB (b := (⟨3, n, decide (n ≤ 0), false, 0⟩ : BlockD)) rfl _ _ rfl rfl rfl pb ?_)
            clear kz0 kz1 kz2 kz3 kz4
            intro u2 L2
            have s2 := L2.size
            have HN : Hid (CellB u2 PB (⟨3, n, decide (n ≤ 0), false, 0⟩ : BlockD) ∧ Below w.heap.size w u2 ∧ PB < u2.heap.size) := ⟨L2.cell, G1.trans (L2.below.mono (by omega)), by omega⟩
            clear L2 pb cg G1
            go_wp2
            go_roundw
            case rel => exact ⟨j + 1, 0, _, _, rfl, rfl, by go_num, by omega, by omega, by omega, HN⟩
            case measure => simp [intOf] <;> omega
        · have hS := fun u => hSx u true true
          have hc := hcs true true
          simp only [Bool.true_and, Bool.and_true, Bool.false_and, Bool.and_false, Bool.not_true, Bool.not_false, Bool.false_eq_true, reduceIte] at hc
          rw [hc] at hS
          simp only at hS
          clear hc hcs hSx
          have hcz := hcell
          go_wp2_with fail
          refine wp_region_dagC (R := fun u u' => Below wr.heap.size u u' ∧ u.heap.size ≤ u'.heap.size) (Φ := fun i v u => match i with
              | 0 => v = BlockD.val ⟨3, n, on, false, k⟩
              | 1 => v = .bool true
              | 2 => v = .bool true
              | 3 => v = .slice (some ⟨bb, off, none⟩) len1 cap1
              | 4 => v = .int .i64 j
              | 5 => v = .pointer (some ⟨bb, off + j, none⟩)
              | 6 => v = .int .u8 z
              | 7 => v = .int .i64 z
              | 8 => v = .int .i64 d
              | 9 => v = .tuple #[BlockD.val (⟨3, n, decide (n ≤ 0), true, 0⟩ : BlockD), .bool (decide (n ≤ 0))]
              | 10 => v = .tuple #[BlockD.val (⟨3, n, decide (n ≤ 0), true, 0⟩ : BlockD), .bool (decide (n ≤ 0))]
              | 11 => v = BlockD.val (⟨3, n, decide (n ≤ 0), true, 0⟩ : BlockD)
              | 12 => v = .bool (decide (n ≤ 0))
              | 13 => True
              | 14 => True
              | 15 => v = .bool (decide (n ≤ 0))
              | _ => True)
            (J := fun L a u => JV wr.heap.size (⟨3, n, decide (n ≤ 0), true, 0⟩ : BlockD) L a u) (by kernel_rfl) (by kernel_rfl) (by kernel_rfl) ⟨Below.refl _ _, Nat.le_refl _⟩ (fun _ _ _ h k => ⟨h.1.trans k.1, Nat.le_trans h.2 k.2⟩) ?_ ⟨rfl, fun h => by simp at h⟩ ?_ ?_
          · intro i v u u' hr
            match i with
            | 0 | 1 | 2 | 3 | 4 | 5 | 6 | 7 | 8 | 9 | 10 | 11 | 12 | 13 | 14 | 15 | _ + 16 => exact fun h => h
          · intro i o ho L ac u hf hR0 hLs hLi hcl hp he hJ K' hK
            have hR : Below wr.heap.size wr u := (Below.drew (Below.refl _ _)).trans hR0.1
            have hsz' : ac.tmps.size = 101 := hf.size
            have hus := hR.size
            have hLz := hJ.sz
            rcases i with _ | _ | _ | _ | _ | _ | _ | _ | _ | _ | _ | _ | _ | _ | _ | _ | i
            · obtain rfl := Option.some.inj ho
              have q7 : ac.tmps.getD 7 undef = .pointer (some ⟨PB, 0, none⟩) := hf.at_ 7 (by kernel_rfl)
              have cu := p1.below hR (by omega)
              clear hp he
              refine wanted_none rfl ?_
              refine wp_loadB (Operand.tmp 7) rfl q7 cu ?_
              exact hK _ _ ⟨Below.refl _ _, Nat.le_refl _⟩ (getD_put_self ac 77 _ (by show _ < ac.tmps.size; omega)) (hJ.next (by decide) (by decide) (by decide) (Below.refl _ _))
            · obtain rfl := Option.some.inj ho
              have q11 : ac.tmps.getD 11 undef = .bool true := hf.at_ 11 (by kernel_rfl)
              clear hp he
              go_simp
              exact hK _ _ ⟨Below.refl _ _, Nat.le_refl _⟩ (getD_put_self ac 78 _ (by show _ < ac.tmps.size; omega)) (hJ.next (by decide) (by decide) (by decide) (Below.refl _ _))
            · obtain rfl := Option.some.inj ho
              have q12 : ac.tmps.getD 12 undef = .bool true := hf.at_ 12 (by kernel_rfl)
              clear hp he
              go_simp
              exact hK _ _ ⟨Below.refl _ _, Nat.le_refl _⟩ (getD_put_self ac 79 _ (by show _ < ac.tmps.size; omega)) (hJ.next (by decide) (by decide) (by decide) (Below.refl _ _))
            · obtain rfl := Option.some.inj ho
              have q1 : ac.tmps.getD 1 undef = .slice (some ⟨bb, off, none⟩) len1 cap1 := hf.at_ 1 (by kernel_rfl)
              clear hp he
              go_simp
              exact hK _ _ ⟨Below.refl _ _, Nat.le_refl _⟩ (getD_put_self ac 80 _ (by show _ < ac.tmps.size; omega)) (hJ.next (by decide) (by decide) (by decide) (Below.refl _ _))
            · obtain rfl := Option.some.inj ho
              have q10 : ac.tmps.getD 10 undef = .int .i64 j := hf.at_ 10 (by kernel_rfl)
              clear hp he
              go_simp
              exact hK _ _ ⟨Below.refl _ _, Nat.le_refl _⟩ (getD_put_self ac 81 _ (by show _ < ac.tmps.size; omega)) (hJ.next (by decide) (by decide) (by decide) (Below.refl _ _))
            · obtain rfl := Option.some.inj ho
              have q80 : ac.tmps.getD 80 undef = .slice (some ⟨bb, off, none⟩) len1 cap1 := hp 3 _ rfl (he _ (Array.mem_of_getElem? (i := 0) rfl) (by kernel_rfl))
              have q81 : ac.tmps.getD 81 undef = .int .i64 j := hp 4 _ rfl (he _ (Array.mem_of_getElem? (i := 1) rfl) (by kernel_rfl))
              clear hp he
              go_simp
              exact hK _ _ ⟨Below.refl _ _, Nat.le_refl _⟩ (getD_put_self ac 82 _ (by show _ < ac.tmps.size; omega)) (hJ.next (by decide) (by decide) (by decide) (Below.refl _ _))
            · obtain rfl := Option.some.inj ho
              have q82 : ac.tmps.getD 82 undef = .pointer (some ⟨bb, off + j, none⟩) := hp 5 _ rfl (he _ (Array.mem_of_getElem? (i := 0) rfl) (by kernel_rfl))
              have hcu : u.cell? ⟨bb, off + j, none⟩ = some (.int .u8 z) := by rw [hR.cell (p := ⟨bb, off + j, none⟩) hbw]; exact hcell
              clear hp he
              go_simp
              exact hK _ _ ⟨Below.refl _ _, Nat.le_refl _⟩ (getD_put_self ac 83 _ (by show _ < ac.tmps.size; omega)) (hJ.next (by decide) (by decide) (by decide) (Below.refl _ _))
            · obtain rfl := Option.some.inj ho
              have q83 : ac.tmps.getD 83 undef = .int .u8 z := hp 6 _ rfl (he _ (Array.mem_of_getElem? (i := 0) rfl) (by kernel_rfl))
              clear hp he
              have hwz := wrap_byte hz0 hz1
              go_simp
              exact hK _ _ ⟨Below.refl _ _, Nat.le_refl _⟩ (getD_put_self ac 84 _ (by show _ < ac.tmps.size; omega)) (hJ.next (by decide) (by decide) (by decide) (Below.refl _ _))
            · obtain rfl := Option.some.inj ho
              have q84 : ac.tmps.getD 84 undef = .int .i64 z := hp 7 _ rfl (he _ (Array.mem_of_getElem? (i := 0) rfl) (by kernel_rfl))
              clear hp he
              go_simp
              exact hK _ _ ⟨Below.refl _ _, Nat.le_refl _⟩ (getD_put_self ac 85 _ (by show _ < ac.tmps.size; omega)) (hJ.next (by decide) (by decide) (by decide) (Below.refl _ _))
            · obtain rfl := Option.some.inj ho
              have q77 : ac.tmps.getD 77 undef = BlockD.val ⟨3, n, on, false, k⟩ := hp 0 _ rfl (he _ (Array.mem_of_getElem? (i := 0) rfl) (by kernel_rfl))
              have q78 : ac.tmps.getD 78 undef = .bool true := hp 1 _ rfl (he _ (Array.mem_of_getElem? (i := 1) rfl) (by kernel_rfl))
              have q79 : ac.tmps.getD 79 undef = .bool true := hp 2 _ rfl (he _ (Array.mem_of_getElem? (i := 2) rfl) (by kernel_rfl))
              have q85 : ac.tmps.getD 85 undef = .int .i64 d := hp 8 _ rfl (he _ (Array.mem_of_getElem? (i := 3) rfl) (by kernel_rfl))
              clear hp he
              go_simp
              refine (hS _).mono ?_
              rintro e1 u' ⟨rfl, hbu⟩
              exact hK _ _ ⟨hbu.mono (by omega), hbu.size⟩ (getD_put_self ac 86 _ (by show _ < ac.tmps.size; omega)) (hJ.next (by decide) (by decide) (by decide) hbu)
            · obtain rfl := Option.some.inj ho
              have q86 : ac.tmps.getD 86 undef = .tuple #[BlockD.val (⟨3, n, decide (n ≤ 0), true, 0⟩ : BlockD), .bool (decide (n ≤ 0))] := hp 9 _ rfl (he _ (Array.mem_of_getElem? (i := 0) rfl) (by kernel_rfl))
              clear hp he
              go_simp
              exact hK _ _ ⟨Below.refl _ _, Nat.le_refl _⟩ (getD_put_self ac 76 _ (by show _ < ac.tmps.size; omega)) (hJ.next (by decide) (by decide) (by decide) (Below.refl _ _))
            · obtain rfl := Option.some.inj ho
              have q76 : ac.tmps.getD 76 undef = .tuple #[BlockD.val (⟨3, n, decide (n ≤ 0), true, 0⟩ : BlockD), .bool (decide (n ≤ 0))] := hp 10 _ rfl (he _ (Array.mem_of_getElem? (i := 0) rfl) (by kernel_rfl))
              clear hp he
              go_simp
              exact hK _ _ ⟨Below.refl _ _, Nat.le_refl _⟩ (getD_put_self ac 87 _ (by show _ < ac.tmps.size; omega)) (hJ.next (by decide) (by decide) (by decide) (Below.refl _ _))
            · obtain rfl := Option.some.inj ho
              have q76 : ac.tmps.getD 76 undef = .tuple #[BlockD.val (⟨3, n, decide (n ≤ 0), true, 0⟩ : BlockD), .bool (decide (n ≤ 0))] := hp 10 _ rfl (he _ (Array.mem_of_getElem? (i := 0) rfl) (by kernel_rfl))
              clear hp he
              go_simp
              exact hK _ _ ⟨Below.refl _ _, Nat.le_refl _⟩ (getD_put_self ac 88 _ (by show _ < ac.tmps.size; omega)) (hJ.next (by decide) (by decide) (by decide) (Below.refl _ _))
            · obtain rfl := Option.some.inj ho
              have h14 : L.getD 14 true = false := hcl.not (i := 14) (j := 13) (by kernel_rfl) hLi
              have e14 : (L.setIfInBounds 13 true).getD 14 true = L.getD 14 true := by simp
              clear hp he
              refine wanted_none rfl ?_
              refine wp_allocB rfl ?_
              intro u1 g1 c1 s1
              exact hK _ _ ⟨g1.mono (by omega), by omega⟩ trivial ⟨by rw [Array.size_setIfInBounds]; exact hLz, fun _ => ⟨u.heap.size, (getD_put_self ac 13 _ (by show _ < ac.tmps.size; omega)), by omega, by omega, fun _ => c1, fun h => absurd h (by rw [e14, h14]; decide)⟩⟩
            · obtain rfl := Option.some.inj ho
              obtain ⟨g, q13, hg1, hg2, hc0, _⟩ := hJ.made (he _ (Array.mem_of_getElem? (i := 0) rfl) (by kernel_rfl))
              have q87 : ac.tmps.getD 87 undef = BlockD.val (⟨3, n, decide (n ≤ 0), true, 0⟩ : BlockD) := hp 11 _ rfl (he _ (Array.mem_of_getElem? (i := 1) rfl) (by kernel_rfl))
              have cu := hc0 hLi
              have h13 := he _ (Array.mem_of_getElem? (i := 0) rfl) (by kernel_rfl)
              clear hp he
              refine wanted_none rfl ?_
              refine wp_storeB (Operand.tmp 13) (Operand.tmp 87) rfl q13 q87 cu ?_
              intro u1 L1
              have z1 := L1.size
              exact hK _ _ ⟨L1.below.mono (by omega), by omega⟩ trivial ⟨by rw [Array.size_setIfInBounds]; exact hLz, fun _ => ⟨g, q13, hg1, by omega, fun h => absurd h (by rw [getD_set_self' (by rw [hLz]; decide)]; decide), fun _ => L1.cell⟩⟩
            · obtain rfl := Option.some.inj ho
              have q88 : ac.tmps.getD 88 undef = .bool (decide (n ≤ 0)) := hp 12 _ rfl (he _ (Array.mem_of_getElem? (i := 0) rfl) (by kernel_rfl))
              clear hp he
              go_simp
              exact hK _ _ ⟨Below.refl _ _, Nat.le_refl _⟩ (getD_put_self ac 14 _ (by show _ < ac.tmps.size; omega)) (hJ.next (by decide) (by decide) (by decide) (Below.refl _ _))
            · exact absurd ho (by simp)
          · intro L ac u1 hf hR0 hp hJ
            have hR : Below wr.heap.size wr u1 := (Below.drew (Below.refl _ _)).trans hR0.1
            have m14 : ac.tmps.getD 14 undef = .bool (decide (n ≤ 0)) := (hp 15 _ rfl).2
            obtain ⟨g, m13, hg1, hg2, _, hc1⟩ := hJ.made (hp 13 _ rfl).1
            have m13 : ac.tmps.getD 13 undef = .pointer (some ⟨g, 0, none⟩) := m13
            have cg := hc1 (hp 14 _ rfl).1
            have pb := p1.below hR (by omega)
            have G1 := G0.trans (hR.mono (by have := G0.size; omega))
            clear hp hJ hR0 hR hc1 hS hcz hcell p1 G0
            obtain ⟨fq, ea, hfv⟩ := act_lit ac 101 hf.size
            have md : ac.defers = [] := hf.defers
            rw [md] at ea
            have m0 := hf.at_ 0 (by kernel_rfl)
            have m1 := hf.at_ 1 (by kernel_rfl)
            have m2 := hf.at_ 2 (by kernel_rfl)
            have m3 := hf.at_ 3 (by kernel_rfl)
            have m4 := hf.at_ 4 (by kernel_rfl)
            have m5 := hf.at_ 5 (by kernel_rfl)
            have m6 := hf.at_ 6 (by kernel_rfl)
            have m7 := hf.at_ 7 (by kernel_rfl)
            have m8 := hf.at_ 8 (by kernel_rfl)
            have m9 := hf.at_ 9 (by kernel_rfl)
            have m10 := hf.at_ 10 (by kernel_rfl)
            have m11 := hf.at_ 11 (by kernel_rfl)
            have m12 := hf.at_ 12 (by kernel_rfl)
            have m15 := hf.at_ 15 (by kernel_rfl)
            have m16 := hf.at_ 16 (by kernel_rfl)
            have m17 := hf.at_ 17 (by kernel_rfl)
            have m18 := hf.at_ 18 (by kernel_rfl)
            have m19 := hf.at_ 19 (by kernel_rfl)
            have m20 := hf.at_ 20 (by kernel_rfl)
            have m21 := hf.at_ 21 (by kernel_rfl)
            have m22 := hf.at_ 22 (by kernel_rfl)
            have m23 := hf.at_ 23 (by kernel_rfl)
            have m24 := hf.at_ 24 (by kernel_rfl)
            have m25 := hf.at_ 25 (by kernel_rfl)
            have m26 := hf.at_ 26 (by kernel_rfl)
            have m27 := hf.at_ 27 (by kernel_rfl)
            have m28 := hf.at_ 28 (by kernel_rfl)
            have m29 := hf.at_ 29 (by kernel_rfl)
            have m30 := hf.at_ 30 (by kernel_rfl)
            have m31 := hf.at_ 31 (by kernel_rfl)
            have m32 := hf.at_ 32 (by kernel_rfl)
            have m33 := hf.at_ 33 (by kernel_rfl)
            have m34 := hf.at_ 34 (by kernel_rfl)
            have m35 := hf.at_ 35 (by kernel_rfl)
            have m36 := hf.at_ 36 (by kernel_rfl)
            have m37 := hf.at_ 37 (by kernel_rfl)
            have m38 := hf.at_ 38 (by kernel_rfl)
            have m39 := hf.at_ 39 (by kernel_rfl)
            have m40 := hf.at_ 40 (by kernel_rfl)
            have m41 := hf.at_ 41 (by kernel_rfl)
            have m42 := hf.at_ 42 (by kernel_rfl)
            have m43 := hf.at_ 43 (by kernel_rfl)
            have m44 := hf.at_ 44 (by kernel_rfl)
            have m45 := hf.at_ 45 (by kernel_rfl)
            have m46 := hf.at_ 46 (by kernel_rfl)
            have m47 := hf.at_ 47 (by kernel_rfl)
            have m48 := hf.at_ 48 (by kernel_rfl)
            have m49 := hf.at_ 49 (by kernel_rfl)
            have m50 := hf.at_ 50 (by kernel_rfl)
            have m51 := hf.at_ 51 (by kernel_rfl)
            have m52 := hf.at_ 52 (by kernel_rfl)
            have m53 := hf.at_ 53 (by kernel_rfl)
            have m54 := hf.at_ 54 (by kernel_rfl)
            have m55 := hf.at_ 55 (by kernel_rfl)
            have m56 := hf.at_ 56 (by kernel_rfl)
            have m57 := hf.at_ 57 (by kernel_rfl)
            have m58 := hf.at_ 58 (by kernel_rfl)
            have m59 := hf.at_ 59 (by kernel_rfl)
            have m60 := hf.at_ 60 (by kernel_rfl)
            have m61 := hf.at_ 61 (by kernel_rfl)
            have m62 := hf.at_ 62 (by kernel_rfl)
            have m63 := hf.at_ 63 (by kernel_rfl)
            have m64 := hf.at_ 64 (by kernel_rfl)
            have m65 := hf.at_ 65 (by kernel_rfl)
            have m66 := hf.at_ 66 (by kernel_rfl)
            have m67 := hf.at_ 67 (by kernel_rfl)
            have m68 := hf.at_ 68 (by kernel_rfl)
            have m69 := hf.at_ 69 (by kernel_rfl)
            have m70 := hf.at_ 70 (by kernel_rfl)
            have m71 := hf.at_ 71 (by kernel_rfl)
            have m72 := hf.at_ 72 (by kernel_rfl)
            have m73 := hf.at_ 73 (by kernel_rfl)
            have m74 := hf.at_ 74 (by kernel_rfl)
            have m75 := hf.at_ 75 (by kernel_rfl)
            have m89 := hf.at_ 89 (by kernel_rfl)
            have m90 := hf.at_ 90 (by kernel_rfl)
            have m91 := hf.at_ 91 (by kernel_rfl)
            have m92 := hf.at_ 92 (by kernel_rfl)
            have m93 := hf.at_ 93 (by kernel_rfl)
            have m94 := hf.at_ 94 (by kernel_rfl)
            have m95 := hf.at_ 95 (by kernel_rfl)
            have m96 := hf.at_ 96 (by kernel_rfl)
            have m97 := hf.at_ 97 (by kernel_rfl)
            have m98 := hf.at_ 98 (by kernel_rfl)
            have m99 := hf.at_ 99 (by kernel_rfl)
            have m100 := hf.at_ 100 (by kernel_rfl)
            rw [← hfv] at m0 m1 m2 m3 m4 m5 m6 m7 m8 m9 m10 m11 m12 m15 m16 m17 m18 m19 m20 m21 m22 m23 m24 m25 m26 m27 m28 m29 m30 m31 m32 m33 m34 m35 m36 m37 m38 m39 m40 m41 m42 m43 m44 m45 m46 m47 m48 m49 m50 m51 m52 m53 m54 m55 m56 m57 m58 m59 m60 m61 m62 m63 m64 m65 m66 m67 m68 m69 m70 m71 m72 m73 m74 m75 m89 m90 m91 m92 m93 m94 m95 m96 m97 m98 m99 m100 m13 m14
            simp only [Array.getD_eq_getD_getElem?, List.getElem?_toArray, List.getElem?_cons_succ, List.getElem?_cons_zero, Option.getD_some] at m0 m1 m2 m3 m4 m5 m6 m7 m8 m9 m10 m11 m12 m15 m16 m17 m18 m19 m20 m21 m22 m23 m24 m25 m26 m27 m28 m29 m30 m31 m32 m33 m34 m35 m36 m37 m38 m39 m40 m41 m42 m43 m44 m45 m46 m47 m48 m49 m50 m51 m52 m53 m54 m55 m56 m57 m58 m59 m60 m61 m62 m63 m64 m65 m66 m67 m68 m69 m70 m71 m72 m73 m74 m75 m89 m90 m91 m92 m93 m94 m95 m96 m97 m98 m99 m100
            simp only [List.range, List.range.loop, List.map_cons, List.map_nil, m0, m1, m2, m3, m4, m5, m6, m7, m8, m9, m10, m11, m12, m15, m16, m17, m18, m19, m20, m21, m22, m23, m24, m25, m26, m27, m28, m29, m30, m31, m32, m33, m34, m35, m36, m37, m38, m39, m40, m41, m42, m43, m44, m45, m46, m47, m48, m49, m50, m51, m52, m53, m54, m55, m56, m57, m58, m59, m60, m61, m62, m63, m64, m65, m66, m67, m68, m69, m70, m71, m72, m73, m74, m75, m89, m90, m91, m92, m93, m94, m95, m96, m97, m98, m99, m100, m13, m14] at ea
            subst ea
            clear m0 m1 m2 m3 m4 m5 m6 m7 m8 m9 m10 m11 m12 m15 m16 m17 m18 m19 m20 m21 m22 m23 m24 m25 m26 m27 m28 m29 m30 m31 m32 m33 m34 m35 m36 m37 m38 m39 m40 m41 m42 m43 m44 m45 m46 m47 m48 m49 m50 m51 m52 m53 m54 m55 m56 m57 m58 m59 m60 m61 m62 m63 m64 m65 m66 m67 m68 m69 m70 m71 m72 m73 m74 m75 m89 m90 m91 m92 m93 m94 m95 m96 m97 m98 m99 m100 m13 m14 hfv md hf
            obtain ⟨kz0, kz1, kz2, kz3, kz4, _⟩ := id cg
            try simp only at kz0 kz1 kz2 kz3 kz4
            have e1 : (decide (n ≤ 0) != decide (n ≤ 0)) = false := by simp
            skip
            go_wp2_with (refine wpList_storeB (b := (⟨3, n, decide (n ≤ 0), true, 0⟩ : BlockD)) rfl _ _ rfl rfl rfl pb ?_)
            clear kz0 kz1 kz2 kz3 kz4
            intro u2 L2
            have s2 := L2.size
            have HN : Hid (CellB u2 PB (⟨3, n, decide (n ≤ 0), true, 0⟩ : BlockD) ∧ Below w.heap.size w u2 ∧ PB < u2.heap.size) := ⟨L2.cell, G1.trans (L2.below.mono (by omega)), by omega⟩
            clear L2 pb cg G1
            go_wp2
            go_roundw
            case rel => exact ⟨j + 1, 0, _, _, rfl, rfl, by go_num, by omega, by omega, by omega, HN⟩
            case measure => simp [intOf] <;> omega
        · have hS := fun u => hSx u true true
          have hc := hcs true true
          simp only [Bool.true_and, Bool.and_true, Bool.false_and, Bool.and_false, Bool.not_true, Bool.not_false, Bool.false_eq_true, reduceIte] at hc
          rw [hc] at hS
          simp only at hS
          clear hc hcs hSx
          have hcz := hcell
          go_wp2_with fail
          refine wp_region_dagC (R := fun u u' => Below wr.heap.size u u' ∧ u.heap.size ≤ u'.heap.size) (Φ := fun i v u => match i with
              | 0 => v = BlockD.val ⟨3, n, on, true, k⟩
              | 1 => v = .bool true
              | 2 => v = .bool true
              | 3 => v = .slice (some ⟨bb, off, none⟩) len1 cap1
              | 4 => v = .int .i64 j
              | 5 => v = .pointer (some ⟨bb, off + j, none⟩)
              | 6 => v = .int .u8 z
              | 7 => v = .int .i64 z
              | 8 => v = .int .i64 d
              | 9 => v = .tuple #[BlockD.val (⟨3, n, decide (n ≤ 0), true, 0⟩ : BlockD), .bool (decide (n ≤ 0))]
              | 10 => v = .tuple #[BlockD.val (⟨3, n, decide (n ≤ 0), true, 0⟩ : BlockD), .bool (decide (n ≤ 0))]
              | 11 => v = BlockD.val (⟨3, n, decide (n ≤ 0), true, 0⟩ : BlockD)
              | 12 => v = .bool (decide (n ≤ 0))
              | 13 => True
              | 14 => True
              | 15 => v = .bool (decide (n ≤ 0))
              | _ => True)
            (J := fun L a u => JV wr.heap.size (⟨3, n, decide (n ≤ 0), true, 0⟩ : BlockD) L a u) (by kernel_rfl) (by kernel_rfl) (by kernel_rfl) ⟨Below.refl _ _, Nat.le_refl _⟩ (fun _ _ _ h k => ⟨h.1.trans k.1, Nat.le_trans h.2 k.2⟩) ?_ ⟨rfl, fun h => by simp at h⟩ ?_ ?_
          · intro i v u u' hr
            match i with
            | 0 | 1 | 2 | 3 | 4 | 5 | 6 | 7 | 8 | 9 | 10 | 11 | 12 | 13 | 14 | 15 | _ + 16 => exact fun h => h
          · intro i o ho L ac u hf hR0 hLs hLi hcl hp he hJ K' hK
            have hR : Below wr.heap.size wr u := (Below.drew (Below.refl _ _)).trans hR0.1
            have hsz' : ac.tmps.size = 101 := hf.size
            have hus := hR.size
            have hLz := hJ.sz
            rcases i with _ | _ | _ | _ | _ | _ | _ | _ | _ | _ | _ | _ | _ | _ | _ | _ | i
            · obtain rfl := Option.some.inj ho
              have q7 : ac.tmps.getD 7 undef = .pointer (some ⟨PB, 0, none⟩) := hf.at_ 7 (by kernel_rfl)
              have cu := p1.below hR (by omega)
              clear hp he
              refine wanted_none rfl ?_
              refine wp_loadB (Operand.tmp 7) rfl q7 cu ?_
              exact hK _ _ ⟨Below.refl _ _, Nat.le_refl _⟩ (getD_put_self ac 77 _ (by show _ < ac.tmps.size; omega)) (hJ.next (by decide) (by decide) (by decide) (Below.refl _ _))
            · obtain rfl := Option.some.inj ho
              have q11 : ac.tmps.getD 11 undef = .bool true := hf.at_ 11 (by kernel_rfl)
              clear hp he
              go_simp
              exact hK _ _ ⟨Below.refl _ _, Nat.le_refl _⟩ (getD_put_self ac 78 _ (by show _ < ac.tmps.size; omega)) (hJ.next (by decide) (by decide) (by decide) (Below.refl _ _))
            · obtain rfl := Option.some.inj ho
              have q12 : ac.tmps.getD 12 undef = .bool true := hf.at_ 12 (by kernel_rfl)
              clear hp he
              go_simp
              exact hK _ _ ⟨Below.refl _ _, Nat.le_refl _⟩ (getD_put_self ac 79 _ (by show _ < ac.tmps.size; omega)) (hJ.next (by decide) (by decide) (by decide) (Below.refl _ _))
            · obtain rfl := Option.some.inj ho
              have q1 : ac.tmps.getD 1 undef = .slice (some ⟨bb, off, none⟩) len1 cap1 := hf.at_ 1 (by kernel_rfl)
              clear hp he
              go_simp
              exact hK _ _ ⟨Below.refl _ _, Nat.le_refl _⟩ (getD_put_self ac 80 _ (by show _ < ac.tmps.size; omega)) (hJ.next (by decide) (by decide) (by decide) (Below.refl _ _))
            · obtain rfl := Option.some.inj ho
              have q10 : ac.tmps.getD 10 undef = .int .i64 j := hf.at_ 10 (by kernel_rfl)
              clear hp he
              go_simp
              exact hK _ _ ⟨Below.refl _ _, Nat.le_refl _⟩ (getD_put_self ac 81 _ (by show _ < ac.tmps.size; omega)) (hJ.next (by decide) (by decide) (by decide) (Below.refl _ _))
            · obtain rfl := Option.some.inj ho
              have q80 : ac.tmps.getD 80 undef = .slice (some ⟨bb, off, none⟩) len1 cap1 := hp 3 _ rfl (he _ (Array.mem_of_getElem? (i := 0) rfl) (by kernel_rfl))
              have q81 : ac.tmps.getD 81 undef = .int .i64 j := hp 4 _ rfl (he _ (Array.mem_of_getElem? (i := 1) rfl) (by kernel_rfl))
              clear hp he
              go_simp
              exact hK _ _ ⟨Below.refl _ _, Nat.le_refl _⟩ (getD_put_self ac 82 _ (by show _ < ac.tmps.size; omega)) (hJ.next (by decide) (by decide) (by decide) (Below.refl _ _))
            · obtain rfl := Option.some.inj ho
              have q82 : ac.tmps.getD 82 undef = .pointer (some ⟨bb, off + j, none⟩) := hp 5 _ rfl (he _ (Array.mem_of_getElem? (i := 0) rfl) (by kernel_rfl))
              have hcu : u.cell? ⟨bb, off + j, none⟩ = some (.int .u8 z) := by rw [hR.cell (p := ⟨bb, off + j, none⟩) hbw]; exact hcell
              clear hp he
              go_simp
              exact hK _ _ ⟨Below.refl _ _, Nat.le_refl _⟩ (getD_put_self ac 83 _ (by show _ < ac.tmps.size; omega)) (hJ.next (by decide) (by decide) (by decide) (Below.refl _ _))
            · obtain rfl := Option.some.inj ho
              have q83 : ac.tmps.getD 83 undef = .int .u8 z := hp 6 _ rfl (he _ (Array.mem_of_getElem? (i := 0) rfl) (by kernel_rfl))
              clear hp he
              have hwz := wrap_byte hz0 hz1
              go_simp
              exact hK _ _ ⟨Below.refl _ _, Nat.le_refl _⟩ (getD_put_self ac 84 _ (by show _ < ac.tmps.size; omega)) (hJ.next (by decide) (by decide) (by decide) (Below.refl _ _))
            · obtain rfl := Option.some.inj ho
              have q84 : ac.tmps.getD 84 undef = .int .i64 z := hp 7 _ rfl (he _ (Array.mem_of_getElem? (i := 0) rfl) (by kernel_rfl))
              clear hp he
              go_simp
              exact hK _ _ ⟨Below.refl _ _, Nat.le_refl _⟩ (getD_put_self ac 85 _ (by show _ < ac.tmps.size; omega)) (hJ.next (by decide) (by decide) (by decide) (Below.refl _ _))
            · obtain rfl := Option.some.inj ho
              have q77 : ac.tmps.getD 77 undef = BlockD.val ⟨3, n, on, true, k⟩ := hp 0 _ rfl (he _ (Array.mem_of_getElem? (i := 0) rfl) (by kernel_rfl))
              have q78 : ac.tmps.getD 78 undef = .bool true := hp 1 _ rfl (he _ (Array.mem_of_getElem? (i := 1) rfl) (by kernel_rfl))
              have q79 : ac.tmps.getD 79 undef = .bool true := hp 2 _ rfl (he _ (Array.mem_of_getElem? (i := 2) rfl) (by kernel_rfl))
              have q85 : ac.tmps.getD 85 undef = .int .i64 d := hp 8 _ rfl (he _ (Array.mem_of_getElem? (i := 3) rfl) (by kernel_rfl))
              clear hp he
              go_simp
              refine (hS _).mono ?_
              rintro e1 u' ⟨rfl, hbu⟩
              exact hK _ _ ⟨hbu.mono (by omega), hbu.size⟩ (getD_put_self ac 86 _ (by show _ < ac.tmps.size; omega)) (hJ.next (by decide) (by decide) (by decide) hbu)
            · obtain rfl := Option.some.inj ho
              have q86 : ac.tmps.getD 86 undef = .tuple #[BlockD.val (⟨3, n, decide (n ≤ 0), true, 0⟩ : BlockD), .bool (decide (n ≤ 0))] := hp 9 _ rfl (he _ (Array.mem_of_getElem? (i := 0) rfl) (by kernel_rfl))
              clear hp he
              go_simp
              exact hK _ _ ⟨Below.refl _ _, Nat.le_refl _⟩ (getD_put_self ac 76 _ (by show _ < ac.tmps.size; omega)) (hJ.next (by decide) (by decide) (by decide) (Below.refl _ _))
            · obtain rfl := Option.some.inj ho
              have q76 : ac.tmps.getD 76 undef = .tuple #[BlockD.val (⟨3, n, decide (n ≤ 0), true, 0⟩ : BlockD), .bool (decide (n ≤ 0))] := hp 10 _ rfl (he _ (Array.mem_of_getElem? (i := 0) rfl) (by kernel_rfl))
              clear hp he
              go_simp
              exact hK _ _ ⟨Below.refl _ _, Nat.le_refl _⟩ (getD_put_self ac 87 _ (by show _ < ac.tmps.size; omega)) (hJ.next (by decide) (by decide) (by decide) (Below.refl _ _))
            · obtain rfl := Option.some.inj ho
              have q76 : ac.tmps.getD 76 undef = .tuple #[BlockD.val (⟨3, n, decide (n ≤ 0), true, 0⟩ : BlockD), .bool (decide (n ≤ 0))] := hp 10 _ rfl (he _ (Array.mem_of_getElem? (i := 0) rfl) (by kernel_rfl))
              clear hp he
              go_simp
              exact hK _ _ ⟨Below.refl _ _, Nat.le_refl _⟩ (getD_put_self ac 88 _ (by show _ < ac.tmps.size; omega)) (hJ.next (by decide) (by decide) (by decide) (Below.refl _ _))
            · obtain rfl := Option.some.inj ho
              have h14 : L.getD 14 true = false := hcl.not (i := 14) (j := 13) (by kernel_rfl) hLi
              have e14 : (L.setIfInBounds 13 true).getD 14 true = L.getD 14 true := by simp
              clear hp he
              refine wanted_none rfl ?_
              refine wp_allocB rfl ?_
              intro u1 g1 c1 s1
              exact hK _ _ ⟨g1.mono (by omega), by omega⟩ trivial ⟨by rw [Array.size_setIfInBounds]; exact hLz, fun _ => ⟨u.heap.size, (getD_put_self ac 13 _ (by show _ < ac.tmps.size; omega)), by omega, by omega, fun _ => c1, fun h => absurd h (by rw [e14, h14]; decide)⟩⟩
            · obtain rfl := Option.some.inj ho
              obtain ⟨g, q13, hg1, hg2, hc0, _⟩ := hJ.made (he _ (Array.mem_of_getElem? (i := 0) rfl) (by kernel_rfl))
              have q87 : ac.tmps.getD 87 undef = BlockD.val (⟨3, n, decide (n ≤ 0), true, 0⟩ : BlockD) := hp 11 _ rfl (he _ (Array.mem_of_getElem? (i := 1) rfl) (by kernel_rfl))
              have cu := hc0 hLi
              have h13 := he _ (Array.mem_of_getElem? (i := 0) rfl) (by kernel_rfl)
              clear hp he
              refine wanted_none rfl ?_
              refine wp_storeB (Operand.tmp 13) (Operand.tmp 87) rfl q13 q87 cu ?_
              intro u1 L1
              have z1 := L1.size
              exact hK _ _ ⟨L1.below.mono (by omega), by omega⟩ trivial ⟨by rw [Array.size_setIfInBounds]; exact hLz, fun _ => ⟨g, q13, hg1, by omega, fun h => absurd h (by rw [getD_set_self' (by rw [hLz]; decide)]; decide), fun _ => L1.cell⟩⟩
            · obtain rfl := Option.some.inj ho
              have q88 : ac.tmps.getD 88 undef = .bool (decide (n ≤ 0)) := hp 12 _ rfl (he _ (Array.mem_of_getElem? (i := 0) rfl) (by kernel_rfl))
              clear hp he
              go_simp
              exact hK _ _ ⟨Below.refl _ _, Nat.le_refl _⟩ (getD_put_self ac 14 _ (by show _ < ac.tmps.size; omega)) (hJ.next (by decide) (by decide) (by decide) (Below.refl _ _))
            · exact absurd ho (by simp)
          · intro L ac u1 hf hR0 hp hJ
            have hR : Below wr.heap.size wr u1 := (Below.drew (Below.refl _ _)).trans hR0.1
            have m14 : ac.tmps.getD 14 undef = .bool (decide (n ≤ 0)) := (hp 15 _ rfl).2
            obtain ⟨g, m13, hg1, hg2, _, hc1⟩ := hJ.made (hp 13 _ rfl).1
            have m13 : ac.tmps.getD 13 undef = .pointer (some ⟨g, 0, none⟩) := m13
            have cg := hc1 (hp 14 _ rfl).1
            have pb := p1.below hR (by omega)
            have G1 := G0.trans (hR.mono (by have := G0.size; omega))
            clear hp hJ hR0 hR hc1 hS hcz hcell p1 G0
            obtain ⟨fq, ea, hfv⟩ := act_lit ac 101 hf.size
            have md : ac.defers = [] := hf.defers
            rw [md] at ea
            have m0 := hf.at_ 0 (by kernel_rfl)
            have m1 := hf.at_ 1 (by kernel_rfl)
            have m2 := hf.at_ 2 (by kernel_rfl)
            have m3 := hf.at_ 3 (by kernel_rfl)
            have m4 := hf.at_ 4 (by kernel_rfl)
            have m5 := hf.at_ 5 (by kernel_rfl)
            have m6 := hf.at_ 6 (by kernel_rfl)
            have m7 := hf.at_ 7 (by kernel_rfl)
            have m8 := hf.at_ 8 (by kernel_rfl)
            have m9 := hf.at_ 9 (by kernel_rfl)
            have m10 := hf.at_ 10 (by kernel_rfl)
            have m11 := hf.at_ 11 (by kernel_rfl)
            have m12 := hf.at_ 12 (by kernel_rfl)
            have m15 := hf.at_ 15 (by kernel_rfl)
            have m16 := hf.at_ 16 (by kernel_rfl)
            have m17 := hf.at_ 17 (by kernel_rfl)
            have m18 := hf.at_ 18 (by kernel_rfl)
            have m19 := hf.at_ 19 (by kernel_rfl)
            have m20 := hf.at_ 20 (by kernel_rfl)
            have m21 := hf.at_ 21 (by kernel_rfl)
            have m22 := hf.at_ 22 (by kernel_rfl)
            have m23 := hf.at_ 23 (by kernel_rfl)
            have m24 := hf.at_ 24 (by kernel_rfl)
            have m25 := hf.at_ 25 (by kernel_rfl)
            have m26 := hf.at_ 26 (by kernel_rfl)
            have m27 := hf.at_ 27 (by kernel_rfl)
            have m28 := hf.at_ 28 (by kernel_rfl)
            have m29 := hf.at_ 29 (by kernel_rfl)
            have m30 := hf.at_ 30 (by kernel_rfl)
            have m31 := hf.at_ 31 (by kernel_rfl)
            have m32 := hf.at_ 32 (by kernel_rfl)
            have m33 := hf.at_ 33 (by kernel_rfl)
            have m34 := hf.at_ 34 (by kernel_rfl)
            have m35 := hf.at_ 35 (by kernel_rfl)
            have m36 := hf.at_ 36 (by kernel_rfl)
            have m37 := hf.at_ 37 (by kernel_rfl)
            have m38 := hf.at_ 38 (by kernel_rfl)
            have m39 := hf.at_ 39 (by kernel_rfl)
            have m40 := hf.at_ 40 (by kernel_rfl)
            have m41 := hf.at_ 41 (by kernel_rfl)
            have m42 := hf.at_ 42 (by kernel_rfl)
            have m43 := hf.at_ 43 (by kernel_rfl)
            have m44 := hf.at_ 44 (by kernel_rfl)
            have m45 := hf.at_ 45 (by kernel_rfl)
            have m46 := hf.at_ 46 (by kernel_rfl)
            have m47 := hf.at_ 47 (by kernel_rfl)
            have m48 := hf.at_ 48 (by kernel_rfl)
            have m49 := hf.at_ 49 (by kernel_rfl)
            have m50 := hf.at_ 50 (by kernel_rfl)
            have m51 := hf.at_ 51 (by kernel_rfl)
            have m52 := hf.at_ 52 (by kernel_rfl)
            have m53 := hf.at_ 53 (by kernel_rfl)
            have m54 := hf.at_ 54 (by kernel_rfl)
            have m55 := hf.at_ 55 (by kernel_rfl)
            have m56 := hf.at_ 56 (by kernel_rfl)
            have m57 := hf.at_ 57 (by kernel_rfl)
            have m58 := hf.at_ 58 (by kernel_rfl)
            have m59 := hf.at_ 59 (by kernel_rfl)
            have m60 := hf.at_ 60 (by kernel_rfl)
            have m61 := hf.at_ 61 (by kernel_rfl)
            have m62 := hf.at_ 62 (by kernel_rfl)
            have m63 := hf.at_ 63 (by kernel_rfl)
            have m64 := hf.at_ 64 (by kernel_rfl)
            have m65 := hf.at_ 65 (by kernel_rfl)
            have m66 := hf.at_ 66 (by kernel_rfl)
            have m67 := hf.at_ 67 (by kernel_rfl)
            have m68 := hf.at_ 68 (by kernel_rfl)
            have m69 := hf.at_ 69 (by kernel_rfl)
            have m70 := hf.at_ 70 (by kernel_rfl)
            have m71 := hf.at_ 71 (by kernel_rfl)
            have m72 := hf.at_ 72 (by kernel_rfl)
            have m73 := hf.at_ 73 (by kernel_rfl)
            have m74 := hf.at_ 74 (by kernel_rfl)
            have m75 := hf.at_ 75 (by kernel_rfl)
            have m89 := hf.at_ 89 (by kernel_rfl)
            have m90 := hf.at_ 90 (by kernel_rfl)
            have m91 := hf.at_ 91 (by kernel_rfl)
            have m92 := hf.at_ 92 (by kernel_rfl)
            have m93 := hf.at_ 93 (by kernel_rfl)
            have m94 := hf.at_ 94 (by kernel_rfl)
            have m95 := hf.at_ 95 (by kernel_rfl)
            have m96 := hf.at_ 96 (by kernel_rfl)
            have m97 := hf.at_ 97 (by kernel_rfl)
            have m98 := hf.at_ 98 (by kernel_rfl)
            have m99 := hf.at_ 99 (by kernel_rfl)
            have m100 := hf.at_ 100 (by kernel_rfl)
            rw [← hfv] at m0 m1 m2 m3 m4 m5 m6 m7 m8 m9 m10 m11 m12 m15 m16 m17 m18 m19 m20 m21 m22 m23 m24 m25 m26 m27 m28 m29 m30 m31 m32 m33 m34 m35 m36 m37 m38 m39 m40 m41 m42 m43 m44 m45 m46 m47 m48 m49 m50 m51 m52 m53 m54 m55 m56 m57 m58 m59 m60 m61 m62 m63 m64 m65 m66 m67 m68 m69 m70 m71 m72 m73 m74 m75 m89 m90 m91 m92 m93 m94 m95 m96 m97 m98 m99 m100 m13 m14
            simp only [Array.getD_eq_getD_getElem?, List.getElem?_toArray, List.getElem?_cons_succ, List.getElem?_cons_zero, Option.getD_some] at m0 m1 m2 m3 m4 m5 m6 m7 m8 m9 m10 m11 m12 m15 m16 m17 m18 m19 m20 m21 m22 m23 m24 m25 m26 m27 m28 m29 m30 m31 m32 m33 m34 m35 m36 m37 m38 m39 m40 m41 m42 m43 m44 m45 m46 m47 m48 m49 m50 m51 m52 m53 m54 m55 m56 m57 m58 m59 m60 m61 m62 m63 m64 m65 m66 m67 m68 m69 m70 m71 m72 m73 m74 m75 m89 m90 m91 m92 m93 m94 m95 m96 m97 m98 m99 m100
            simp only [List.range, List.range.loop, List.map_cons, List.map_nil, m0, m1, m2, m3, m4, m5, m6, m7, m8, m9, m10, m11, m12, m15, m16, m17, m18, m19, m20, m21, m22, m23, m24, m25, m26, m27, m28, m29, m30, m31, m32, m33, m34, m35, m36, m37, m38, m39, m40, m41, m42, m43, m44, m45, m46, m47, m48, m49, m50, m51, m52, m53, m54, m55, m56, m57, m58, m59, m60, m61, m62, m63, m64, m65, m66, m67, m68, m69, m70, m71, m72, m73, m74, m75, m89, m90, m91, m92, m93, m94, m95, m96, m97, m98, m99, m100, m13, m14] at ea
            subst ea
            clear m0 m1 m2 m3 m4 m5 m6 m7 m8 m9 m10 m11 m12 m15 m16 m17 m18 m19 m20 m21 m22 m23 m24 m25 m26 m27 m28 m29 m30 m31 m32 m33 m34 m35 m36 m37 m38 m39 m40 m41 m42 m43 m44 m45 m46 m47 m48 m49 m50 m51 m52 m53 m54 m55 m56 m57 m58 m59 m60 m61 m62 m63 m64 m65 m66 m67 m68 m69 m70 m71 m72 m73 m74 m75 m89 m90 m91 m92 m93 m94 m95 m96 m97 m98 m99 m100 m13 m14 hfv md hf
            obtain ⟨kz0, kz1, kz2, kz3, kz4, _⟩ := id cg
            try simp only at kz0 kz1 kz2 kz3 kz4
            have e1 : (decide (n ≤ 0) != decide (n ≤ 0)) = false := by simp
            skip
            go_wp2_with (refine wpList_storeB (b := (⟨3, n, decide (n ≤ 0), true, 0⟩ : BlockD)) rfl _ _ rfl rfl rfl pb ?_)
            clear kz0 kz1 kz2 kz3 kz4
            intro u2 L2
            have s2 := L2.size
            have HN : Hid (CellB u2 PB (⟨3, n, decide (n ≤ 0), true, 0⟩ : BlockD) ∧ Below w.heap.size w u2 ∧ PB < u2.heap.size) := ⟨L2.cell, G1.trans (L2.below.mono (by omega)), by omega⟩
            clear L2 pb cg G1
            go_wp2
            go_roundw
            case rel => exact ⟨j + 1, 0, _, _, rfl, rfl, by go_num, by omega, by omega, by omega, HN⟩
            case measure => simp [intOf] <;> omega
      have hy' : ¬ 240 < z := hy
      cases x2 <;> cases was
      · have hS := fun u => hSx u false false
        have hc := hcs false false
        simp only [Bool.true_and, Bool.and_true, Bool.false_and, Bool.and_false, Bool.not_true, Bool.not_false, Bool.false_eq_true, reduceIte] at hc
        rw [hc] at hS
        simp only at hS
        clear hc hcs hSx
        have hcz := hcell
        go_wp2_with fail
        refine wp_region_dagC (R := fun u u' => Below wr.heap.size u u' ∧ u.heap.size ≤ u'.heap.size) (Φ := fun i v u => match i with
            | 0 => v = BlockD.val ⟨3, n, on, false, k⟩
            | 1 => v = .bool false
            | 2 => v = .bool false
            | 3 => v = .slice (some ⟨bb, off, none⟩) len1 cap1
            | 4 => v = .int .i64 j
            | 5 => v = .pointer (some ⟨bb, off + j, none⟩)
            | 6 => v = .int .u8 z
            | 7 => v = .int .i64 z
            | 8 => v = .int .i64 d
            | 9 => v = .tuple #[BlockD.val (⟨3, n, decide (n ≤ k), false, k⟩ : BlockD), .bool (decide (n ≤ k))]
            | 10 => v = .tuple #[BlockD.val (⟨3, n, decide (n ≤ k), false, k⟩ : BlockD), .bool (decide (n ≤ k))]
            | 11 => v = BlockD.val (⟨3, n, decide (n ≤ k), false, k⟩ : BlockD)
            | 12 => v = .bool (decide (n ≤ k))
            | 13 => True
            | 14 => True
            | 15 => v = .bool (decide (n ≤ k))
            | _ => True)
          (J := fun L a u => JV wr.heap.size (⟨3, n, decide (n ≤ k), false, k⟩ : BlockD) L a u) (by kernel_rfl) (by kernel_rfl) (by kernel_rfl) ⟨Below.refl _ _, Nat.le_refl _⟩ (fun _ _ _ h k => ⟨h.1.trans k.1, Nat.le_trans h.2 k.2⟩) ?_ ⟨rfl, fun h => by simp at h⟩ ?_ ?_
        · intro i v u u' hr
          match i with
          | 0 | 1 | 2 | 3 | 4 | 5 | 6 | 7 | 8 | 9 | 10 | 11 | 12 | 13 | 14 | 15 | _ + 16 => exact fun h => h
        · intro i o ho L ac u hf hR0 hLs hLi hcl hp he hJ K' hK
          have hR : Below wr.heap.size wr u := (Below.drew (Below.refl _ _)).trans hR0.1
          have hsz' : ac.tmps.size = 101 := hf.size
          have hus := hR.size
          have hLz := hJ.sz
          rcases i with _ | _ | _ | _ | _ | _ | _ | _ | _ | _ | _ | _ | _ | _ | _ | _ | i
          · obtain rfl := Option.some.inj ho
            have q7 : ac.tmps.getD 7 undef = .pointer (some ⟨PB, 0, none⟩) := hf.at_ 7 (by kernel_rfl)
            have cu := p1.below hR (by omega)
            clear hp he
            refine wanted_none rfl ?_
            refine wp_loadB (Operand.tmp 7) rfl q7 cu ?_
            exact hK _ _ ⟨Below.refl _ _, Nat.le_refl _⟩ (getD_put_self ac 77 _ (by show _ < ac.tmps.size; omega)) (hJ.next (by decide) (by decide) (by decide) (Below.refl _ _))
          · obtain rfl := Option.some.inj ho
            have q11 : ac.tmps.getD 11 undef = .bool false := hf.at_ 11 (by kernel_rfl)
            clear hp he
            go_simp
            exact hK _ _ ⟨Below.refl _ _, Nat.le_refl _⟩ (getD_put_self ac 78 _ (by show _ < ac.tmps.size; omega)) (hJ.next (by decide) (by decide) (by decide) (Below.refl _ _))
          · obtain rfl := Option.some.inj ho
            have q12 : ac.tmps.getD 12 undef = .bool false := hf.at_ 12 (by kernel_rfl)
            clear hp he
            go_simp
            exact hK _ _ ⟨Below.refl _ _, Nat.le_refl _⟩ (getD_put_self ac 79 _ (by show _ < ac.tmps.size; omega)) (hJ.next (by decide) (by decide) (by decide) (Below.refl _ _))
          · obtain rfl := Option.some.inj ho
            have q1 : ac.tmps.getD 1 undef = .slice (some ⟨bb, off, none⟩) len1 cap1 := hf.at_ 1 (by kernel_rfl)
            clear hp he
            go_simp
            exact hK _ _ ⟨Below.refl _ _, Nat.le_refl _⟩ (getD_put_self ac 80 _ (by show _ < ac.tmps.size; omega)) (hJ.next (by decide) (by decide) (by decide) (Below.refl _ _))
          · obtain rfl := Option.some.inj ho
            have q10 : ac.tmps.getD 10 undef = .int .i64 j := hf.at_ 10 (by kernel_rfl)
            clear hp he
            go_simp
            exact hK _ _ ⟨Below.refl _ _, Nat.le_refl _⟩ (getD_put_self ac 81 _ (by show _ < ac.tmps.size; omega)) (hJ.next (by decide) (by decide) (by decide) (Below.refl _ _))
          · obtain rfl := Option.some.inj ho
            have q80 : ac.tmps.getD 80 undef = .slice (some ⟨bb, off, none⟩) len1 cap1 := hp 3 _ rfl (he _ (Array.mem_of_getElem? (i := 0) rfl) (by kernel_rfl))
            have q81 : ac.tmps.getD 81 undef = .int .i64 j := hp 4 _ rfl (he _ (Array.mem_of_getElem? (i := 1) rfl) (by kernel_rfl))
            clear hp he
            go_simp
            exact hK _ _ ⟨Below.refl _ _, Nat.le_refl _⟩ (getD_put_self ac 82 _ (by show _ < ac.tmps.size; omega)) (hJ.next (by decide) (by decide) (by decide) (Below.refl _ _))
          · obtain rfl := Option.some.inj ho
            have q82 : ac.tmps.getD 82 undef = .pointer (some ⟨bb, off + j, none⟩) := hp 5 _ rfl (he _ (Array.mem_of_getElem? (i := 0) rfl) (by kernel_rfl))
            have hcu : u.cell? ⟨bb, off + j, none⟩ = some (.int .u8 z) := by rw [hR.cell (p := ⟨bb, off + j, none⟩) hbw]; exact hcell
            clear hp he
            go_simp
            exact hK _ _ ⟨Below.refl _ _, Nat.le_refl _⟩ (getD_put_self ac 83 _ (by show _ < ac.tmps.size; omega)) (hJ.next (by decide) (by decide) (by decide) (Below.refl _ _))
          · obtain rfl := Option.some.inj ho
            have q83 : ac.tmps.getD 83 undef = .int .u8 z := hp 6 _ rfl (he _ (Array.mem_of_getElem? (i := 0) rfl) (by kernel_rfl))
            clear hp he
            have hwz := wrap_byte hz0 hz1
            go_simp
            exact hK _ _ ⟨Below.refl _ _, Nat.le_refl _⟩ (getD_put_self ac 84 _ (by show _ < ac.tmps.size; omega)) (hJ.next (by decide) (by decide) (by decide) (Below.refl _ _))
          · obtain rfl := Option.some.inj ho
            have q84 : ac.tmps.getD 84 undef = .int .i64 z := hp 7 _ rfl (he _ (Array.mem_of_getElem? (i := 0) rfl) (by kernel_rfl))
            clear hp he
            go_simp
            exact hK _ _ ⟨Below.refl _ _, Nat.le_refl _⟩ (getD_put_self ac 85 _ (by show _ < ac.tmps.size; omega)) (hJ.next (by decide) (by decide) (by decide) (Below.refl _ _))
          · obtain rfl := Option.some.inj ho
            have q77 : ac.tmps.getD 77 undef = BlockD.val ⟨3, n, on, false, k⟩ := hp 0 _ rfl (he _ (Array.mem_of_getElem? (i := 0) rfl) (by kernel_rfl))
            have q78 : ac.tmps.getD 78 undef = .bool false := hp 1 _ rfl (he _ (Array.mem_of_getElem? (i := 1) rfl) (by kernel_rfl))
            have q79 : ac.tmps.getD 79 undef = .bool false := hp 2 _ rfl (he _ (Array.mem_of_getElem? (i := 2) rfl) (by kernel_rfl))
            have q85 : ac.tmps.getD 85 undef = .int .i64 d := hp 8 _ rfl (he _ (Array.mem_of_getElem? (i := 3) rfl) (by kernel_rfl))
            clear hp he
            go_simp
            refine (hS _).mono ?_
            rintro e1 u' ⟨rfl, hbu⟩
            exact hK _ _ ⟨hbu.mono (by omega), hbu.size⟩ (getD_put_self ac 86 _ (by show _ < ac.tmps.size; omega)) (hJ.next (by decide) (by decide) (by decide) hbu)
          · obtain rfl := Option.some.inj ho
            have q86 : ac.tmps.getD 86 undef = .tuple #[BlockD.val (⟨3, n, decide (n ≤ k), false, k⟩ : BlockD), .bool (decide (n ≤ k))] := hp 9 _ rfl (he _ (Array.mem_of_getElem? (i := 0) rfl) (by kernel_rfl))
            clear hp he
            go_simp
            exact hK _ _ ⟨Below.refl _ _, Nat.le_refl _⟩ (getD_put_self ac 76 _ (by show _ < ac.tmps.size; omega)) (hJ.next (by decide) (by decide) (by decide) (Below.refl _ _))
          · obtain rfl := Option.some.inj ho
            have q76 : ac.tmps.getD 76 undef = .tuple #[BlockD.val (⟨3, n, decide (n ≤ k), false, k⟩ : BlockD), .bool (decide (n ≤ k))] := hp 10 _ rfl (he _ (Array.mem_of_getElem? (i := 0) rfl) (by kernel_rfl))
            clear hp he
            go_simp
            exact hK _ _ ⟨Below.refl _ _, Nat.le_refl _⟩ (getD_put_self ac 87 _ (by show _ < ac.tmps.size; omega)) (hJ.next (by decide) (by decide) (by decide) (Below.refl _ _))
          · obtain rfl := Option.some.inj ho
            have q76 : ac.tmps.getD 76 undef = .tuple #[BlockD.val (⟨3, n, decide (n ≤ k), false, k⟩ : BlockD), .bool (decide (n ≤ k))] := hp 10 _ rfl (he _ (Array.mem_of_getElem? (i := 0) rfl) (by kernel_rfl))
            clear hp he
            go_simp
            exact hK _ _ ⟨Below.refl _ _, Nat.le_refl _⟩ (getD_put_self ac 88 _ (by show _ < ac.tmps.size; omega)) (hJ.next (by decide) (by decide) (by decide) (Below.refl _ _))
          · obtain rfl := Option.some.inj ho
            have h14 : L.getD 14 true = false := hcl.not (i := 14) (j := 13) (by kernel_rfl) hLi
            have e14 : (L.setIfInBounds 13 true).getD 14 true = L.getD 14 true := by simp
            clear hp he
            refine wanted_none rfl ?_
            refine wp_allocB rfl ?_
            intro u1 g1 c1 s1
            exact hK _ _ ⟨g1.mono (by omega), by omega⟩ trivial ⟨by rw [Array.size_setIfInBounds]; exact hLz, fun _ => ⟨u.heap.size, (getD_put_self ac 13 _ (by show _ < ac.tmps.size; omega)), by omega, by omega, fun _ => c1, fun h => absurd h (by rw [e14, h14]; decide)⟩⟩
          · obtain rfl := Option.some.inj ho
            obtain ⟨g, q13, hg1, hg2, hc0, _⟩ := hJ.made (he _ (Array.mem_of_getElem? (i := 0) rfl) (by kernel_rfl))
            have q87 : ac.tmps.getD 87 undef = BlockD.val (⟨3, n, decide (n ≤ k), false, k⟩ : BlockD) := hp 11 _ rfl (he _ (Array.mem_of_getElem? (i := 1) rfl) (by kernel_rfl))
            have cu := hc0 hLi
            have h13 := he _ (Array.mem_of_getElem? (i := 0) rfl) (by kernel_rfl)
            clear hp he
            refine wanted_none rfl ?_
            refine wp_storeB (Operand.tmp 13) (Operand.tmp 87) rfl q13 q87 cu ?_
            intro u1 L1
            have z1 := L1.size
            exact hK _ _ ⟨L1.below.mono (by omega), by omega⟩ trivial ⟨by rw [Array.size_setIfInBounds]; exact hLz, fun _ => ⟨g, q13, hg1, by omega, fun h => absurd h (by rw [getD_set_self' (by rw [hLz]; decide)]; decide), fun _ => L1.cell⟩⟩
          · obtain rfl := Option.some.inj ho
            have q88 : ac.tmps.getD 88 undef = .bool (decide (n ≤ k)) := hp 12 _ rfl (he _ (Array.mem_of_getElem? (i := 0) rfl) (by kernel_rfl))
            clear hp he
            go_simp
            exact hK _ _ ⟨Below.refl _ _, Nat.le_refl _⟩ (getD_put_self ac 14 _ (by show _ < ac.tmps.size; omega)) (hJ.next (by decide) (by decide) (by decide) (Below.refl _ _))
          · exact absurd ho (by simp)
        · intro L ac u1 hf hR0 hp hJ
          have hR : Below wr.heap.size wr u1 := (Below.drew (Below.refl _ _)).trans hR0.1
          have m14 : ac.tmps.getD 14 undef = .bool (decide (n ≤ k)) := (hp 15 _ rfl).2
          obtain ⟨g, m13, hg1, hg2, _, hc1⟩ := hJ.made (hp 13 _ rfl).1
          have m13 : ac.tmps.getD 13 undef = .pointer (some ⟨g, 0, none⟩) := m13
          have cg := hc1 (hp 14 _ rfl).1
          have pb := p1.below hR (by omega)
          have G1 := G0.trans (hR.mono (by have := G0.size; omega))
          clear hp hJ hR0 hR hc1 hS hcz hcell p1 G0
          obtain ⟨fq, ea, hfv⟩ := act_lit ac 101 hf.size
          have md : ac.defers = [] := hf.defers
          rw [md] at ea
          have m0 := hf.at_ 0 (by kernel_rfl)
          have m1 := hf.at_ 1 (by kernel_rfl)
          have m2 := hf.at_ 2 (by kernel_rfl)
          have m3 := hf.at_ 3 (by kernel_rfl)
          have m4 := hf.at_ 4 (by kernel_rfl)
          have m5 := hf.at_ 5 (by kernel_rfl)
          have m6 := hf.at_ 6 (by kernel_rfl)
          have m7 := hf.at_ 7 (by kernel_rfl)
          have m8 := hf.at_ 8 (by kernel_rfl)
          have m9 := hf.at_ 9 (by kernel_rfl)
          have m10 := hf.at_ 10 (by kernel_rfl)
          have m11 := hf.at_ 11 (by kernel_rfl)
          have m12 := hf.at_ 12 (by kernel_rfl)
          have m15 := hf.at_ 15 (by kernel_rfl)
          have m16 := hf.at_ 16 (by kernel_rfl)
          have m17 := hf.at_ 17 (by kernel_rfl)
          have m18 := hf.at_ 18 (by kernel_rfl)
          have m19 := hf.at_ 19 (by kernel_rfl)
          have m20 := hf.at_ 20 (by kernel_rfl)
          have m21 := hf.at_ 21 (by kernel_rfl)
          have m22 := hf.at_ 22 (by kernel_rfl)
          have m23 := hf.at_ 23 (by kernel_rfl)
          have m24 := hf.at_ 24 (by kernel_rfl)
          have m25 := hf.at_ 25 (by kernel_rfl)
          have m26 := hf.at_ 26 (by kernel_rfl)
          have m27 := hf.at_ 27 (by kernel_rfl)
          have m28 := hf.at_ 28 (by kernel_rfl)
          have m29 := hf.at_ 29 (by kernel_rfl)
          have m30 := hf.at_ 30 (by kernel_rfl)
          have m31 := hf.at_ 31 (by kernel_rfl)
          have m32 := hf.at_ 32 (by kernel_rfl)
          have m33 := hf.at_ 33 (by kernel_rfl)
          have m34 := hf.at_ 34 (by kernel_rfl)
          have m35 := hf.at_ 35 (by kernel_rfl)
          have m36 := hf.at_ 36 (by kernel_rfl)
          have m37 := hf.at_ 37 (by kernel_rfl)
          have m38 := hf.at_ 38 (by kernel_rfl)
          have m39 := hf.at_ 39 (by kernel_rfl)
          have m40 := hf.at_ 40 (by kernel_rfl)
          have m41 := hf.at_ 41 (by kernel_rfl)
          have m42 := hf.at_ 42 (by kernel_rfl)
          have m43 := hf.at_ 43 (by kernel_rfl)
          have m44 := hf.at_ 44 (by kernel_rfl)
          have m45 := hf.at_ 45 (by kernel_rfl)
          have m46 := hf.at_ 46 (by kernel_rfl)
          have m47 := hf.at_ 47 (by kernel_rfl)
          have m48 := hf.at_ 48 (by kernel_rfl)
          have m49 := hf.at_ 49 (by kernel_rfl)
          have m50 := hf.at_ 50 (by kernel_rfl)
          have m51 := hf.at_ 51 (by kernel_rfl)
          have m52 := hf.at_ 52 (by kernel_rfl)
          have m53 := hf.at_ 53 (by kernel_rfl)
          have m54 := hf.at_ 54 (by kernel_rfl)
          have m55 := hf.at_ 55 (by kernel_rfl)
          have m56 := hf.at_ 56 (by kernel_rfl)
          have m57 := hf.at_ 57 (by kernel_rfl)
          have m58 := hf.at_ 58 (by kernel_rfl)
          have m59 := hf.at_ 59 (by kernel_rfl)
          have m60 := hf.at_ 60 (by kernel_rfl)
          have m61 := hf.at_ 61 (by kernel_rfl)
          have m62 := hf.at_ 62 (by kernel_rfl)
          have m63 := hf.at_ 63 (by kernel_rfl)
          have m64 := hf.at_ 64 (by kernel_rfl)
          have m65 := hf.at_ 65 (by kernel_rfl)
          have m66 := hf.at_ 66 (by kernel_rfl)
          have m67 := hf.at_ 67 (by kernel_rfl)
          have m68 := hf.at_ 68 (by kernel_rfl)
          have m69 := hf.at_ 69 (by kernel_rfl)
          have m70 := hf.at_ 70 (by kernel_rfl)
          have m71 := hf.at_ 71 (by kernel_rfl)
          have m72 := hf.at_ 72 (by kernel_rfl)
          have m73 := hf.at_ 73 (by kernel_rfl)
          have m74 := hf.at_ 74 (by kernel_rfl)
          have m75 := hf.at_ 75 (by kernel_rfl)
          have m89 := hf.at_ 89 (by kernel_rfl)
          have m90 := hf.at_ 90 (by kernel_rfl)
          have m91 := hf.at_ 91 (by kernel_rfl)
          have m92 := hf.at_ 92 (by kernel_rfl)
          have m93 := hf.at_ 93 (by kernel_rfl)
          have m94 := hf.at_ 94 (by kernel_rfl)
          have m95 := hf.at_ 95 (by kernel_rfl)
          have m96 := hf.at_ 96 (by kernel_rfl)
          have m97 := hf.at_ 97 (by kernel_rfl)
          have m98 := hf.at_ 98 (by kernel_rfl)
          have m99 := hf.at_ 99 (by kernel_rfl)
          have m100 := hf.at_ 100 (by kernel_rfl)
          rw [← hfv] at m0 m1 m2 m3 m4 m5 m6 m7 m8 m9 m10 m11 m12 m15 m16 m17 m18 m19 m20 m21 m22 m23 m24 m25 m26 m27 m28 m29 m30 m31 m32 m33 m34 m35 m36 m37 m38 m39 m40 m41 m42 m43 m44 m45 m46 m47 m48 m49 m50 m51 m52 m53 m54 m55 m56 m57 m58 m59 m60 m61 m62 m63 m64 m65 m66 m67 m68 m69 m70 m71 m72 m73 m74 m75 m89 m90 m91 m92 m93 m94 m95 m96 m97 m98 m99 m100 m13 m14
          simp only [Array.getD_eq_getD_getElem?, List.getElem?_toArray, List.getElem?_cons_succ, List.getElem?_cons_zero, Option.getD_some] at m0 m1 m2 m3 m4 m5 m6 m7 m8 m9 m10 m11 m12 m15 m16 m17 m18 m19 m20 m21 m22 m23 m24 m25 m26 m27 m28 m29 m30 m31 m32 m33 m34 m35 m36 m37 m38 m39 m40 m41 m42 m43 m44 m45 m46 m47 m48 m49 m50 m51 m52 m53 m54 m55 m56 m57 m58 m59 m60 m61 m62 m63 m64 m65 m66 m67 m68 m69 m70 m71 m72 m73 m74 m75 m89 m90 m91 m92 m93 m94 m95 m96 m97 m98 m99 m100
          simp only [List.range, List.range.loop, List.map_cons, List.map_nil, m0, m1, m2, m3, m4, m5, m6, m7, m8, m9, m10, m11, m12, m15, m16, m17, m18, m19, m20, m21, m22, m23, m24, m25, m26, m27, m28, m29, m30, m31, m32, m33, m34, m35, m36, m37, m38, m39, m40, m41, m42, m43, m44, m45, m46, m47, m48, m49, m50, m51, m52, m53, m54, m55, m56, m57, m58, m59, m60, m61, m62, m63, m64, m65, m66, m67, m68, m69, m70, m71, m72, m73, m74, m75, m89, m90, m91, m92, m93, m94, m95, m96, m97, m98, m99, m100, m13, m14] at ea
          subst ea
          clear m0 m1 m2 m3 m4 m5 m6 m7 m8 m9 m10 m11 m12 m15 m16 m17 m18 m19 m20 m21 m22 m23 m24 m25 m26 m27 m28 m29 m30 m31 m32 m33 m34 m35 m36 m37 m38 m39 m40 m41 m42 m43 m44 m45 m46 m47 m48 m49 m50 m51 m52 m53 m54 m55 m56 m57 m58 m59 m60 m61 m62 m63 m64 m65 m66 m67 m68 m69 m70 m71 m72 m73 m74 m75 m89 m90 m91 m92 m93 m94 m95 m96 m97 m98 m99 m100 m13 m14 hfv md hf
          obtain ⟨kz0, kz1, kz2, kz3, kz4, _⟩ := id cg
          try simp only at kz0 kz1 kz2 kz3 kz4
          have e1 : (decide (n ≤ k) != decide (n ≤ k)) = false := by simp
          have e2 : (k != k) = false := by simp
          go_wp2_with (refine wpList_storeB (b := (⟨3, n, decide (n ≤ k), false, k⟩ : BlockD)) rfl _ _ rfl rfl rfl pb ?_)
          clear kz0 kz1 kz2 kz3 kz4
          intro u2 L2
          have s2 := L2.size
          have HN : Hid (CellB u2 PB (⟨3, n, decide (n ≤ k), false, k⟩ : BlockD) ∧ Below w.heap.size w u2 ∧ PB < u2.heap.size) := ⟨L2.cell, G1.trans (L2.below.mono (by omega)), by omega⟩
          clear L2 pb cg G1
          go_wp2
          go_roundw
          case rel => exact ⟨j + 1, k, _, _, rfl, rfl, by go_num, by omega, by omega, by omega, HN⟩
          case measure => simp [intOf] <;> omega
      · have hS := fun u => hSx u false false
        have hc := hcs false false
        simp only [Bool.true_and, Bool.and_true, Bool.false_and, Bool.and_false, Bool.not_true, Bool.not_false, Bool.false_eq_true, reduceIte] at hc
        rw [hc] at hS
        simp only at hS
        clear hc hcs hSx
        have hcz := hcell
        go_wp2_with fail
        refine wp_region_dagC (R := fun u u' => Below wr.heap.size u u' ∧ u.heap.size ≤ u'.heap.size) (Φ := fun i v u => match i with
            | 0 => v = BlockD.val ⟨3, n, on, true, k⟩
            | 1 => v = .bool false
            | 2 => v = .bool false
            | 3 => v = .slice (some ⟨bb, off, none⟩) len1 cap1
            | 4 => v = .int .i64 j
            | 5 => v = .pointer (some ⟨bb, off + j, none⟩)
            | 6 => v = .int .u8 z
            | 7 => v = .int .i64 z
            | 8 => v = .int .i64 d
            | 9 => v = .tuple #[BlockD.val (⟨3, n, decide (n ≤ k), false, k⟩ : BlockD), .bool (decide (n ≤ k))]
            | 10 => v = .tuple #[BlockD.val (⟨3, n, decide (n ≤ k), false, k⟩ : BlockD), .bool (decide (n ≤ k))]
            | 11 => v = BlockD.val (⟨3, n, decide (n ≤ k), false, k⟩ : BlockD)
            | 12 => v = .bool (decide (n ≤ k))
            | 13 => True
            | 14 => True
            | 15 => v = .bool (decide (n ≤ k))
            | _ => True)
          (J := fun L a u => JV wr.heap.size (⟨3, n, decide (n ≤ k), false, k⟩ : BlockD) L a u) (by kernel_rfl) (by kernel_rfl) (by kernel_rfl) ⟨Below.refl _ _, Nat.le_refl _⟩ (fun _ _ _ h k => ⟨h.1.trans k.1, Nat.le_trans h.2 k.2⟩) ?_ ⟨rfl, fun h => by simp at h⟩ ?_ ?_
        · intro i v u u' hr
          match i with
          | 0 | 1 | 2 | 3 | 4 | 5 | 6 | 7 | 8 | 9 | 10 | 11 | 12 | 13 | 14 | 15 | _ + 16 => exact fun h => h
        · intro i o ho L ac u hf hR0 hLs hLi hcl hp he hJ K' hK
          have hR : Below wr.heap.size wr u := (Below.drew (Below.refl _ _)).trans hR0.1
          have hsz' : ac.tmps.size = 101 := hf.size
          have hus := hR.size
          have hLz := hJ.sz
          rcases i with _ | _ | _ | _ | _ | _ | _ | _ | _ | _ | _ | _ | _ | _ | _ | _ | i
          · obtain rfl := Option.some.inj ho
            have q7 : ac.tmps.getD 7 undef = .pointer (some ⟨PB, 0, none⟩) := hf.at_ 7 (by kernel_rfl)
            have cu := p1.below hR (by omega)
            clear hp he
            refine wanted_none rfl ?_
            refine wp_loadB (Operand.tmp 7) rfl q7 cu ?_
            exact hK _ _ ⟨Below.refl _ _, Nat.le_refl _⟩ (getD_put_self ac 77 _ (by show _ < ac.tmps.size; omega)) (hJ.next (by decide) (by decide) (by decide) (Below.refl _ _))
          · obtain rfl := Option.some.inj ho
            have q11 : ac.tmps.getD 11 undef = .bool false := hf.at_ 11 (by kernel_rfl)
            clear hp he
            go_simp
            exact hK _ _ ⟨Below.refl _ _, Nat.le_refl _⟩ (getD_put_self ac 78 _ (by show _ < ac.tmps.size; omega)) (hJ.next (by decide) (by decide) (by decide) (Below.refl _ _))
          · obtain rfl := Option.some.inj ho
            have q12 : ac.tmps.getD 12 undef = .bool false := hf.at_ 12 (by kernel_rfl)
            clear hp he
            go_simp
            exact hK _ _ ⟨Below.refl _ _, Nat.le_refl _⟩ (getD_put_self ac 79 _ (by show _ < ac.tmps.size; omega)) (hJ.next (by decide) (by decide) (by decide) (Below.refl _ _))
          · obtain rfl := Option.some.inj ho
            have q1 : ac.tmps.getD 1 undef = .slice (some ⟨bb, off, none⟩) len1 cap1 := hf.at_ 1 (by kernel_rfl)
            clear hp he
            go_simp
            exact hK _ _ ⟨Below.refl _ _, Nat.le_refl _⟩ (getD_put_self ac 80 _ (by show _ < ac.tmps.size; omega)) (hJ.next (by decide) (by decide) (by decide) (Below.refl _ _))
          · obtain rfl := Option.some.inj ho
            have q10 : ac.tmps.getD 10 undef = .int .i64 j := hf.at_ 10 (by kernel_rfl)
            clear hp he
            go_simp
            exact hK _ _ ⟨Below.refl _ _, Nat.le_refl _⟩ (getD_put_self ac 81 _ (by show _ < ac.tmps.size; omega)) (hJ.next (by decide) (by decide) (by decide) (Below.refl _ _))
          · obtain rfl := Option.some.inj ho
            have q80 : ac.tmps.getD 80 undef = .slice (some ⟨bb, off, none⟩) len1 cap1 := hp 3 _ rfl (he _ (Array.mem_of_getElem? (i := 0) rfl) (by kernel_rfl))
            have q81 : ac.tmps.getD 81 undef = .int .i64 j := hp 4 _ rfl (he _ (Array.mem_of_getElem? (i := 1) rfl) (by kernel_rfl))
            clear hp he
            go_simp
            exact hK _ _ ⟨Below.refl _ _, Nat.le_refl _⟩ (getD_put_self ac 82 _ (by show _ < ac.tmps.size; omega)) (hJ.next (by decide) (by decide) (by decide) (Below.refl _ _))
          · obtain rfl := Option.some.inj ho
            have q82 : ac.tmps.getD 82 undef = .pointer (some ⟨bb, off + j, none⟩) := hp 5 _ rfl (he _ (Array.mem_of_getElem? (i := 0) rfl) (by kernel_rfl))
            have hcu : u.cell? ⟨bb, off + j, none⟩ = some (.int .u8 z) := by rw [hR.cell (p := ⟨bb, off + j, none⟩) hbw]; exact hcell
            clear hp he
            go_simp
            exact hK _ _ ⟨Below.refl _ _, Nat.le_refl _⟩ (getD_put_self ac 83 _ (by show _ < ac.tmps.size; omega)) (hJ.next (by decide) (by decide) (by decide) (Below.refl _ _))
          · obtain rfl := Option.some.inj ho
            have q83 : ac.tmps.getD 83 undef = .int .u8 z := hp 6 _ rfl (he _ (Array.mem_of_getElem? (i := 0) rfl) (by kernel_rfl))
            clear hp he
            have hwz := wrap_byte hz0 hz1
            go_simp
            exact hK _ _ ⟨Below.refl _ _, Nat.le_refl _⟩ (getD_put_self ac 84 _ (by show _ < ac.tmps.size; omega)) (hJ.next (by decide) (by decide) (by decide) (Below.refl _ _))
          · obtain rfl := Option.some.inj ho
            have q84 : ac.tmps.getD 84 undef = .int .i64 z := hp 7 _ rfl (he _ (Array.mem_of_getElem? (i := 0) rfl) (by kernel_rfl))
            clear hp he
            go_simp
            exact hK _ _ ⟨Below.refl _ _, Nat.le_refl _⟩ (getD_put_self ac 85 _ (by show _ < ac.tmps.size; omega)) (hJ.next (by decide) (by decide) (by decide) (Below.refl _ _))
          · obtain rfl := Option.some.inj ho
            have q77 : ac.tmps.getD 77 undef = BlockD.val ⟨3, n, on, true, k⟩ := hp 0 _ rfl (he _ (Array.mem_of_getElem? (i := 0) rfl) (by kernel_rfl))
            have q78 : ac.tmps.getD 78 undef = .bool false := hp 1 _ rfl (he _ (Array.mem_of_getElem? (i := 1) rfl) (by kernel_rfl))
            have q79 : ac.tmps.getD 79 undef = .bool false := hp 2 _ rfl (he _ (Array.mem_of_getElem? (i := 2) rfl) (by kernel_rfl))
            have q85 : ac.tmps.getD 85 undef = .int .i64 d := hp 8 _ rfl (he _ (Array.mem_of_getElem? (i := 3) rfl) (by kernel_rfl))
            clear hp he
            go_simp
            refine (hS _).mono ?_
            rintro e1 u' ⟨rfl, hbu⟩
            exact hK _ _ ⟨hbu.mono (by omega), hbu.size⟩ (getD_put_self ac 86 _ (by show _ < ac.tmps.size; omega)) (hJ.next (by decide) (by decide) (by decide) hbu)
          · obtain rfl := Option.some.inj ho
            have q86 : ac.tmps.getD 86 undef = .tuple #[BlockD.val (⟨3, n, decide (n ≤ k), false, k⟩ : BlockD), .bool (decide (n ≤ k))] := hp 9 _ rfl (he _ (Array.mem_of_getElem? (i := 0) rfl) (by kernel_rfl))
            clear hp he
            go_simp
            exact hK _ _ ⟨Below.refl _ _, Nat.le_refl _⟩ (getD_put_self ac 76 _ (by show _ < ac.tmps.size; omega)) (hJ.next (by decide) (by decide) (by decide) (Below.refl _ _))
          · obtain rfl := Option.some.inj ho
            have q76 : ac.tmps.getD 76 undef = .tuple #[BlockD.val (⟨3, n, decide (n ≤ k), false, k⟩ : BlockD), .bool (decide (n ≤ k))] := hp 10 _ rfl (he _ (Array.mem_of_getElem? (i := 0) rfl) (by kernel_rfl))
            clear hp he
            go_simp
            exact hK _ _ ⟨Below.refl _ _, Nat.le_refl _⟩ (getD_put_self ac 87 _ (by show _ < ac.tmps.size; omega)) (hJ.next (by decide) (by decide) (by decide) (Below.refl _ _))
          · obtain rfl := Option.some.inj ho
            have q76 : ac.tmps.getD 76 undef = .tuple #[BlockD.val (⟨3, n, decide (n ≤ k), false, k⟩ : BlockD), .bool (decide (n ≤ k))] := hp 10 _ rfl (he _ (Array.mem_of_getElem? (i := 0) rfl) (by kernel_rfl))
            clear hp he
            go_simp
            exact hK _ _ ⟨Below.refl _ _, Nat.le_refl _⟩ (getD_put_self ac 88 _ (by show _ < ac.tmps.size; omega)) (hJ.next (by decide) (by decide) (by decide) (Below.refl _ _))
          · obtain rfl := Option.some.inj ho
            have h14 : L.getD 14 true = false := hcl.not (i := 14) (j := 13) (by kernel_rfl) hLi
            have e14 : (L.setIfInBounds 13 true).getD 14 true = L.getD 14 true := by simp
            clear hp he
            refine wanted_none rfl ?_
            refine wp_allocB rfl ?_
            intro u1 g1 c1 s1
            exact hK _ _ ⟨g1.mono (by omega), by omega⟩ trivial ⟨by rw [Array.size_setIfInBounds]; exact hLz, fun _ => ⟨u.heap.size, (getD_put_self ac 13 _ (by show _ < ac.tmps.size; omega)), by omega, by omega, fun _ => c1, fun h => absurd h (by rw [e14, h14]; decide)⟩⟩
          · obtain rfl := Option.some.inj ho
            obtain ⟨g, q13, hg1, hg2, hc0, _⟩ := hJ.made (he _ (Array.mem_of_getElem? (i := 0) rfl) (by kernel_rfl))
            have q87 : ac.tmps.getD 87 undef = BlockD.val (⟨3, n, decide (n ≤ k), false, k⟩ : BlockD) := hp 11 _ rfl (he _ (Array.mem_of_getElem? (i := 1) rfl) (by kernel_rfl))
            have cu := hc0 hLi
            have h13 := he _ (Array.mem_of_getElem? (i := 0) rfl) (by kernel_rfl)
            clear hp he
            refine wanted_none rfl ?_
            refine wp_storeB (Operand.tmp 13) (Operand.tmp 87) rfl q13 q87 cu ?_
            intro u1 L1
            have z1 := L1.size
            exact hK _ _ ⟨L1.below.mono (by omega), by omega⟩ trivial ⟨by rw [Array.size_setIfInBounds]; exact hLz, fun _ => ⟨g, q13, hg1, by omega, fun h => absurd h (by rw [getD_set_self' (by rw [hLz]; decide)]; decide), fun _ => L1.cell⟩⟩
          · obtain rfl := Option.some.inj ho
            have q88 : ac.tmps.getD 88 undef = .bool (decide (n ≤ k)) := hp 12 _ rfl (he _ (Array.mem_of_getElem? (i := 0) rfl) (by kernel_rfl))
            clear hp he
            go_simp
            exact hK _ _ ⟨Below.refl _ _, Nat.le_refl _⟩ (getD_put_self ac 14 _ (by show _ < ac.tmps.size; omega)) (hJ.next (by decide) (by decide) (by decide) (Below.refl _ _))
          · exact absurd ho (by simp)
        · intro L ac u1 hf hR0 hp hJ
          have hR : Below wr.heap.size wr u1 := (Below.drew (Below.refl _ _)).trans hR0.1
          have m14 : ac.tmps.getD 14 undef = .bool (decide (n ≤ k)) := (hp 15 _ rfl).2
          obtain ⟨g, m13, hg1, hg2, _, hc1⟩ := hJ.made (hp 13 _ rfl).1
          have m13 : ac.tmps.getD 13 undef = .pointer (some ⟨g, 0, none⟩) := m13
          have cg := hc1 (hp 14 _ rfl).1
          have pb := p1.below hR (by omega)
          have G1 := G0.trans (hR.mono (by have := G0.size; omega))
          clear hp hJ hR0 hR hc1 hS hcz hcell p1 G0
          obtain ⟨fq, ea, hfv⟩ := act_lit ac 101 hf.size
          have md : ac.defers = [] := hf.defers
          rw [md] at ea
          have m0 := hf.at_ 0 (by kernel_rfl)
          have m1 := hf.at_ 1 (by kernel_rfl)
          have m2 := hf.at_ 2 (by kernel_rfl)
          have m3 := hf.at_ 3 (by kernel_rfl)
          have m4 := hf.at_ 4 (by kernel_rfl)
          have m5 := hf.at_ 5 (by kernel_rfl)
          have m6 := hf.at_ 6 (by kernel_rfl)
          have m7 := hf.at_ 7 (by kernel_rfl)
          have m8 := hf.at_ 8 (by kernel_rfl)
          have m9 := hf.at_ 9 (by kernel_rfl)
          have m10 := hf.at_ 10 (by kernel_rfl)
          have m11 := hf.at_ 11 (by kernel_rfl)
          have m12 := hf.at_ 12 (by kernel_rfl)
          have m15 := hf.at_ 15 (by kernel_rfl)
          have m16 := hf.at_ 16 (by kernel_rfl)
          have m17 := hf.at_ 17 (by kernel_rfl)
          have m18 := hf.at_ 18 (by kernel_rfl)
          have m19 := hf.at_ 19 (by kernel_rfl)
          have m20 := hf.at_ 20 (by kernel_rfl)
          have m21 := hf.at_ 21 (by kernel_rfl)
          have m22 := hf.at_ 22 (by kernel_rfl)
          have m23 := hf.at_ 23 (by kernel_rfl)
          have m24 := hf.at_ 24 (by kernel_rfl)
          have m25 := hf.at_ 25 (by kernel_rfl)
          have m26 := hf.at_ 26 (by kernel_rfl)
          have m27 := hf.at_ 27 (by kernel_rfl)
          have m28 := hf.at_ 28 (by kernel_rfl)
          have m29 := hf.at_ 29 (by kernel_rfl)
          have m30 := hf.at_ 30 (by kernel_rfl)
          have m31 := hf.at_ 31 (by kernel_rfl)
          have m32 := hf.at_ 32 (by kernel_rfl)
          have m33 := hf.at_ 33 (by kernel_rfl)
          have m34 := hf.at_ 34 (by kernel_rfl)
          have m35 := hf.at_ 35 (by kernel_rfl)
          have m36 := hf.at_ 36 (by kernel_rfl)
          have m37 := hf.at_ 37 (by kernel_rfl)
          have m38 := hf.at_ 38 (by kernel_rfl)
          have m39 := hf.at_ 39 (by kernel_rfl)
          have m40 := hf.at_ 40 (by kernel_rfl)
          have m41 := hf.at_ 41 (by kernel_rfl)
          have m42 := hf.at_ 42 (by kernel_rfl)
          have m43 := hf.at_ 43 (by kernel_rfl)
          have m44 := hf.at_ 44 (by kernel_rfl)
          have m45 := hf.at_ 45 (by kernel_rfl)
          have m46 := hf.at_ 46 (by kernel_rfl)
          have m47 := hf.at_ 47 (by kernel_rfl)
          have m48 := hf.at_ 48 (by kernel_rfl)
          have m49 := hf.at_ 49 (by kernel_rfl)
          have m50 := hf.at_ 50 (by kernel_rfl)
          have m51 := hf.at_ 51 (by kernel_rfl)
          have m52 := hf.at_ 52 (by kernel_rfl)
          have m53 := hf.at_ 53 (by kernel_rfl)
          have m54 := hf.at_ 54 (by kernel_rfl)
          have m55 := hf.at_ 55 (by kernel_rfl)
          have m56 := hf.at_ 56 (by kernel_rfl)
          have m57 := hf.at_ 57 (by kernel_rfl)
          have m58 := hf.at_ 58 (by kernel_rfl)
          have m59 := hf.at_ 59 (by kernel_rfl)
          have m60 := hf.at_ 60 (by kernel_rfl)
          have m61 := hf.at_ 61 (by kernel_rfl)
          have m62 := hf.at_ 62 (by kernel_rfl)
          have m63 := hf.at_ 63 (by kernel_rfl)
          have m64 := hf.at_ 64 (by kernel_rfl)
          have m65 := hf.at_ 65 (by kernel_rfl)
          have m66 := hf.at_ 66 (by kernel_rfl)
          have m67 := hf.at_ 67 (by kernel_rfl)
          have m68 := hf.at_ 68 (by kernel_rfl)
          have m69 := hf.at_ 69 (by kernel_rfl)
          have m70 := hf.at_ 70 (by kernel_rfl)
          have m71 := hf.at_ 71 (by kernel_rfl)
          have m72 := hf.at_ 72 (by kernel_rfl)
          have m73 := hf.at_ 73 (by kernel_rfl)
          have m74 := hf.at_ 74 (by kernel_rfl)
          have m75 := hf.at_ 75 (by kernel_rfl)
          have m89 := hf.at_ 89 (by kernel_rfl)
          have m90 := hf.at_ 90 (by kernel_rfl)
          have m91 := hf.at_ 91 (by kernel_rfl)
          have m92 := hf.at_ 92 (by kernel_rfl)
          have m93 := hf.at_ 93 (by kernel_rfl)
          have m94 := hf.at_ 94 (by kernel_rfl)
          have m95 := hf.at_ 95 (by kernel_rfl)
          have m96 := hf.at_ 96 (by kernel_rfl)
          have m97 := hf.at_ 97 (by kernel_rfl)
          have m98 := hf.at_ 98 (by kernel_rfl)
          have m99 := hf.at_ 99 (by kernel_rfl)
          have m100 := hf.at_ 100 (by kernel_rfl)
          rw [← hfv] at m0 m1 m2 m3 m4 m5 m6 m7 m8 m9 m10 m11 m12 m15 m16 m17 m18 m19 m20 m21 m22 m23 m24 m25 m26 m27 m28 m29 m30 m31 m32 m33 m34 m35 m36 m37 m38 m39 m40 m41 m42 m43 m44 m45 m46 m47 m48 m49 m50 m51 m52 m53 m54 m55 m56 m57 m58 m59 m60 m61 m62 m63 m64 m65 m66 m67 m68 m69 m70 m71 m72 m73 m74 m75 m89 m90 m91 m92 m93 m94 m95 m96 m97 m98 m99 m100 m13 m14
          simp only [Array.getD_eq_getD_getElem?, List.getElem?_toArray, List.getElem?_cons_succ, List.getElem?_cons_zero, Option.getD_some] at m0 m1 m2 m3 m4 m5 m6 m7 m8 m9 m10 m11 m12 m15 m16 m17 m18 m19 m20 m21 m22 m23 m24 m25 m26 m27 m28 m29 m30 m31 m32 m33 m34 m35 m36 m37 m38 m39 m40 m41 m42 m43 m44 m45 m46 m47 m48 m49 m50 m51 m52 m53 m54 m55 m56 m57 m58 m59 m60 m61 m62 m63 m64 m65 m66 m67 m68 m69 m70 m71 m72 m73 m74 m75 m89 m90 m91 m92 m93 m94 m95 m96 m97 m98 m99 m100
          simp only [List.range, List.range.loop, List.map_cons, List.map_nil, m0, m1, m2, m3, m4, m5, m6, m7, m8, m9, m10, m11, m12, m15, m16, m17, m18, m19, m20, m21, m22, m23, m24, m25, m26, m27, m28, m29, m30, m31, m32, m33, m34, m35, m36, m37, m38, m39, m40, m41, m42, m43, m44, m45, m46, m47, m48, m49, m50, m51, m52, m53, m54, m55, m56, m57, m58, m59, m60, m61, m62, m63, m64, m65, m66, m67, m68, m69, m70, m71, m72, m73, m74, m75, m89, m90, m91, m92, m93, m94, m95, m96, m97, m98, m99, m100, m13, m14] at ea
          subst ea
          clear m0 m1 m2 m3 m4 m5 m6 m7 m8 m9 m10 m11 m12 m15 m16 m17 m18 m19 m20 m21 m22 m23 m24 m25 m26 m27 m28 m29 m30 m31 m32 m33 m34 m35 m36 m37 m38 m39 m40 m41 m42 m43 m44 m45 m46 m47 m48 m49 m50 m51 m52 m53 m54 m55 m56 m57 m58 m59 m60 m61 m62 m63 m64 m65 m66 m67 m68 m69 m70 m71 m72 m73 m74 m75 m89 m90 m91 m92 m93 m94 m95 m96 m97 m98 m99 m100 m13 m14 hfv md hf
          obtain ⟨kz0, kz1, kz2, kz3, kz4, _⟩ := id cg
          try simp only at kz0 kz1 kz2 kz3 kz4
          have e1 : (decide (n ≤ k) != decide (n ≤ k)) = false := by simp
          have e2 : (k != k) = false := by simp
          go_wp2_with (refine wpList_storeB (b := (⟨3, n, decide (n ≤ k), false, k⟩ : BlockD)) rfl _ _ rfl rfl rfl pb ?_)
          clear kz0 kz1 kz2 kz3 kz4
          intro u2 L2
          have s2 := L2.size
          have HN : Hid (CellB u2 PB (⟨3, n, decide (n ≤ k), false, k⟩ : BlockD) ∧ Below w.heap.size w u2 ∧ PB < u2.heap.size) := ⟨L2.cell, G1.trans (L2.below.mono (by omega)), by omega⟩
          clear L2 pb cg G1
          go_wp2
          go_roundw
          case rel => exact ⟨j + 1, k, _, _, rfl, rfl, by go_num, by omega, by omega, by omega, HN⟩
          case measure => simp [intOf] <;> omega
      · have hS := fun u => hSx u true false
        have hc := hcs true false
        simp only [Bool.true_and, Bool.and_true, Bool.false_and, Bool.and_false, Bool.not_true, Bool.not_false, Bool.false_eq_true, reduceIte] at hc
        rw [hc] at hS
        simp only at hS
        clear hc hcs hSx
        have hcz := hcell
        go_wp2_with fail
        refine wp_region_dagC (R := fun u u' => Below wr.heap.size u u' ∧ u.heap.size ≤ u'.heap.size) (Φ := fun i v u => match i with
            | 0 => v = BlockD.val ⟨3, n, on, false, k⟩
            | 1 => v = .bool true
            | 2 => v = .bool false
            | 3 => v = .slice (some ⟨bb, off, none⟩) len1 cap1
            | 4 => v = .int .i64 j
            | 5 => v = .pointer (some ⟨bb, off + j, none⟩)
            | 6 => v = .int .u8 z
            | 7 => v = .int .i64 z
            | 8 => v = .int .i64 d
            | 9 => v = .tuple #[BlockD.val (⟨3, n, decide (n ≤ (k + 1)), true, (k + 1)⟩ : BlockD), .bool (decide (n ≤ (k + 1)))]
            | 10 => v = .tuple #[BlockD.val (⟨3, n, decide (n ≤ (k + 1)), true, (k + 1)⟩ : BlockD), .bool (decide (n ≤ (k + 1)))]
            | 11 => v = BlockD.val (⟨3, n, decide (n ≤ (k + 1)), true, (k + 1)⟩ : BlockD)
            | 12 => v = .bool (decide (n ≤ (k + 1)))
            | 13 => True
            | 14 => True
            | 15 => v = .bool (decide (n ≤ (k + 1)))
            | _ => True)
          (J := fun L a u => JV wr.heap.size (⟨3, n, decide (n ≤ (k + 1)), true, (k + 1)⟩ : BlockD) L a u) (by kernel_rfl) (by kernel_rfl) (by kernel_rfl) ⟨Below.refl _ _, Nat.le_refl _⟩ (fun _ _ _ h k => ⟨h.1.trans k.1, Nat.le_trans h.2 k.2⟩) ?_ ⟨rfl, fun h => by simp at h⟩ ?_ ?_
        · intro i v u u' hr
          match i with
          | 0 | 1 | 2 | 3 | 4 | 5 | 6 | 7 | 8 | 9 | 10 | 11 | 12 | 13 | 14 | 15 | _ + 16 => exact fun h => h
        · intro i o ho L ac u hf hR0 hLs hLi hcl hp he hJ K' hK
          have hR : Below wr.heap.size wr u := (Below.drew (Below.refl _ _)).trans hR0.1
          have hsz' : ac.tmps.size = 101 := hf.size
          have hus := hR.size
          have hLz := hJ.sz
          rcases i with _ | _ | _ | _ | _ | _ | _ | _ | _ | _ | _ | _ | _ | _ | _ | _ | i
          · obtain rfl := Option.some.inj ho
            have q7 : ac.tmps.getD 7 undef = .pointer (some ⟨PB, 0, none⟩) := hf.at_ 7 (by kernel_rfl)
            have cu := p1.below hR (by omega)
            clear hp he
            refine wanted_none rfl ?_
            refine wp_loadB (Operand.tmp 7) rfl q7 cu ?_
            exact hK _ _ ⟨Below.refl _ _, Nat.le_refl _⟩ (getD_put_self ac 77 _ (by show _ < ac.tmps.size; omega)) (hJ.next (by decide) (by decide) (by decide) (Below.refl _ _))
          · obtain rfl := Option.some.inj ho
            have q11 : ac.tmps.getD 11 undef = .bool true := hf.at_ 11 (by kernel_rfl)
            clear hp he
            go_simp
            exact hK _ _ ⟨Below.refl _ _, Nat.le_refl _⟩ (getD_put_self ac 78 _ (by show _ < ac.tmps.size; omega)) (hJ.next (by decide) (by decide) (by decide) (Below.refl _ _))
          · obtain rfl := Option.some.inj ho
            have q12 : ac.tmps.getD 12 undef = .bool false := hf.at_ 12 (by kernel_rfl)
            clear hp he
            go_simp
            exact hK _ _ ⟨Below.refl _ _, Nat.le_refl _⟩ (getD_put_self ac 79 _ (by show _ < ac.tmps.size; omega)) (hJ.next (by decide) (by decide) (by decide) (Below.refl _ _))
          · obtain rfl := Option.some.inj ho
            have q1 : ac.tmps.getD 1 undef = .slice (some ⟨bb, off, none⟩) len1 cap1 := hf.at_ 1 (by kernel_rfl)
            clear hp he
            go_simp
            exact hK _ _ ⟨Below.refl _ _, Nat.le_refl _⟩ (getD_put_self ac 80 _ (by show _ < ac.tmps.size; omega)) (hJ.next (by decide) (by decide) (by decide) (Below.refl _ _))
          · obtain rfl := Option.some.inj ho
            have q10 : ac.tmps.getD 10 undef = .int .i64 j := hf.at_ 10 (by kernel_rfl)
            clear hp he
            go_simp
            exact hK _ _ ⟨Below.refl _ _, Nat.le_refl _⟩ (getD_put_self ac 81 _ (by show _ < ac.tmps.size; omega)) (hJ.next (by decide) (by decide) (by decide) (Below.refl _ _))
          · obtain rfl := Option.some.inj ho
            have q80 : ac.tmps.getD 80 undef = .slice (some ⟨bb, off, none⟩) len1 cap1 := hp 3 _ rfl (he _ (Array.mem_of_getElem? (i := 0) rfl) (by kernel_rfl))
            have q81 : ac.tmps.getD 81 undef = .int .i64 j := hp 4 _ rfl (he _ (Array.mem_of_getElem? (i := 1) rfl) (by kernel_rfl))
            clear hp he
            go_simp
            exact hK _ _ ⟨Below.refl _ _, Nat.le_refl _⟩ (getD_put_self ac 82 _ (by show _ < ac.tmps.size; omega)) (hJ.next (by decide) (by decide) (by decide) (Below.refl _ _))
          · obtain rfl := Option.some.inj ho
            have q82 : ac.tmps.getD 82 undef = .pointer (some ⟨bb, off + j, none⟩) := hp 5 _ rfl (he _ (Array.mem_of_getElem? (i := 0) rfl) (by kernel_rfl))
            have hcu : u.cell? ⟨bb, off + j, none⟩ = some (.int .u8 z) := by rw [hR.cell (p := ⟨bb, off + j, none⟩) hbw]; exact hcell
            clear hp he
            go_simp
            exact hK _ _ ⟨Below.refl _ _, Nat.le_refl _⟩ (getD_put_self ac 83 _ (by show _ < ac.tmps.size; omega)) (hJ.next (by decide) (by decide) (by decide) (Below.refl _ _))
          · obtain rfl := Option.some.inj ho
            have q83 : ac.tmps.getD 83 undef = .int .u8 z := hp 6 _ rfl (he _ (Array.mem_of_getElem? (i := 0) rfl) (by kernel_rfl))
            clear hp he
            have hwz := wrap_byte hz0 hz1
            go_simp
            exact hK _ _ ⟨Below.refl _ _, Nat.le_refl _⟩ (getD_put_self ac 84 _ (by show _ < ac.tmps.size; omega)) (hJ.next (by decide) (by decide) (by decide) (Below.refl _ _))
          · obtain rfl := Option.some.inj ho
            have q84 : ac.tmps.getD 84 undef = .int .i64 z := hp 7 _ rfl (he _ (Array.mem_of_getElem? (i := 0) rfl) (by kernel_rfl))
            clear hp he
            go_simp
            exact hK _ _ ⟨Below.refl _ _, Nat.le_refl _⟩ (getD_put_self ac 85 _ (by show _ < ac.tmps.size; omega)) (hJ.next (by decide) (by decide) (by decide) (Below.refl _ _))
          · obtain rfl := Option.some.inj ho
            have q77 : ac.tmps.getD 77 undef = BlockD.val ⟨3, n, on, false, k⟩ := hp 0 _ rfl (he _ (Array.mem_of_getElem? (i := 0) rfl) (by kernel_rfl))
            have q78 : ac.tmps.getD 78 undef = .bool true := hp 1 _ rfl (he _ (Array.mem_of_getElem? (i := 1) rfl) (by kernel_rfl))
            have q79 : ac.tmps.getD 79 undef = .bool false := hp 2 _ rfl (he _ (Array.mem_of_getElem? (i := 2) rfl) (by kernel_rfl))
            have q85 : ac.tmps.getD 85 undef = .int .i64 d := hp 8 _ rfl (he _ (Array.mem_of_getElem? (i := 3) rfl) (by kernel_rfl))
            clear hp he
            go_simp
            refine (hS _).mono ?_
            rintro e1 u' ⟨rfl, hbu⟩
            exact hK _ _ ⟨hbu.mono (by omega), hbu.size⟩ (getD_put_self ac 86 _ (by show _ < ac.tmps.size; omega)) (hJ.next (by decide) (by decide) (by decide) hbu)
          · obtain rfl := Option.some.inj ho
            have q86 : ac.tmps.getD 86 undef = .tuple #[BlockD.val (⟨3, n, decide (n ≤ (k + 1)), true, (k + 1)⟩ : BlockD), .bool (decide (n ≤ (k + 1)))] := hp 9 _ rfl (he _ (Array.mem_of_getElem? (i := 0) rfl) (by kernel_rfl))
            clear hp he
            go_simp
            exact hK _ _ ⟨Below.refl _ _, Nat.le_refl _⟩ (getD_put_self ac 76 _ (by show _ < ac.tmps.size; omega)) (hJ.next (by decide) (by decide) (by decide) (Below.refl _ _))
          · obtain rfl := Option.some.inj ho
            have q76 : ac.tmps.getD 76 undef = .tuple #[BlockD.val (⟨3, n, decide (n ≤ (k + 1)), true, (k + 1)⟩ : BlockD), .bool (decide (n ≤ (k + 1)))] := hp 10 _ rfl (he _ (Array.mem_of_getElem? (i := 0) rfl) (by kernel_rfl))
            clear hp he
            go_simp
            exact hK _ _ ⟨Below.refl _ _, Nat.le_refl _⟩ (getD_put_self ac 87 _ (by show _ < ac.tmps.size; omega)) (hJ.next (by decide) (by decide) (by decide) (Below.refl _ _))
          · obtain rfl := Option.some.inj ho
            have q76 : ac.tmps.getD 76 undef = .tuple #[BlockD.val (⟨3, n, decide (n ≤ (k + 1)), true, (k + 1)⟩ : BlockD), .bool (decide (n ≤ (k + 1)))] := hp 10 _ rfl (he _ (Array.mem_of_getElem? (i := 0) rfl) (by kernel_rfl))
            clear hp he
            go_simp
            exact hK _ _ ⟨Below.refl _ _, Nat.le_refl _⟩ (getD_put_self ac 88 _ (by show _ < ac.tmps.size; omega)) (hJ.next (by decide) (by decide) (by decide) (Below.refl _ _))
          · obtain rfl := Option.some.inj ho
            have h14 : L.getD 14 true = false := hcl.not (i := 14) (j := 13) (by kernel_rfl) hLi
            have e14 : (L.setIfInBounds 13 true).getD 14 true = L.getD 14 true := by simp
            clear hp he
            refine wanted_none rfl ?_
            refine wp_allocB rfl ?_
            intro u1 g1 c1 s1
            exact hK _ _ ⟨g1.mono (by omega), by omega⟩ trivial ⟨by rw [Array.size_setIfInBounds]; exact hLz, fun _ => ⟨u.heap.size, (getD_put_self ac 13 _ (by show _ < ac.tmps.size; omega)), by omega, by omega, fun _ => c1, fun h => absurd h (by rw [e14, h14]; decide)⟩⟩
          · obtain rfl := Option.some.inj ho
            obtain ⟨g, q13, hg1, hg2, hc0, _⟩ := hJ.made (he _ (Array.mem_of_getElem? (i := 0) rfl) (by kernel_rfl))
            have q87 : ac.tmps.getD 87 undef = BlockD.val (⟨3, n, decide (n ≤ (k + 1)), true, (k + 1)⟩ : BlockD) := hp 11 _ rfl (he _ (Array.mem_of_getElem? (i := 1) rfl) (by kernel_rfl))
            have cu := hc0 hLi
            have h13 := he _ (Array.mem_of_getElem? (i := 0) rfl) (by kernel_rfl)
            clear hp he
            refine wanted_none rfl ?_
            refine wp_storeB (Operand.tmp 13) (Operand.tmp 87) rfl q13 q87 cu ?_
            intro u1 L1
            have z1 := L1.size
            exact hK _ _ ⟨L1.below.mono (by omega), by omega⟩ trivial ⟨by rw [Array.size_setIfInBounds]; exact hLz, fun _ => ⟨g, q13, hg1, by omega, fun h => absurd h (by rw [getD_set_self' (by rw [hLz]; decide)]; decide), fun _ => L1.cell⟩⟩
          · obtain rfl := Option.some.inj ho
            have q88 : ac.tmps.getD 88 undef = .bool (decide (n ≤ (k + 1))) := hp 12 _ rfl (he _ (Array.mem_of_getElem? (i := 0) rfl) (by kernel_rfl))
            clear hp he
            go_simp
            exact hK _ _ ⟨Below.refl _ _, Nat.le_refl _⟩ (getD_put_self ac 14 _ (by show _ < ac.tmps.size; omega)) (hJ.next (by decide) (by decide) (by decide) (Below.refl _ _))
          · exact absurd ho (by simp)
        · intro L ac u1 hf hR0 hp hJ
          have hR : Below wr.heap.size wr u1 := (Below.drew (Below.refl _ _)).trans hR0.1
          have m14 : ac.tmps.getD 14 undef = .bool (decide (n ≤ (k + 1))) := (hp 15 _ rfl).2
          obtain ⟨g, m13, hg1, hg2, _, hc1⟩ := hJ.made (hp 13 _ rfl).1
          have m13 : ac.tmps.getD 13 undef = .pointer (some ⟨g, 0, none⟩) := m13
          have cg := hc1 (hp 14 _ rfl).1
          have pb := p1.below hR (by omega)
          have G1 := G0.trans (hR.mono (by have := G0.size; omega))
          clear hp hJ hR0 hR hc1 hS hcz hcell p1 G0
          obtain ⟨fq, ea, hfv⟩ := act_lit ac 101 hf.size
          have md : ac.defers = [] := hf.defers
          rw [md] at ea
          have m0 := hf.at_ 0 (by kernel_rfl)
          have m1 := hf.at_ 1 (by kernel_rfl)
          have m2 := hf.at_ 2 (by kernel_rfl)
          have m3 := hf.at_ 3 (by kernel_rfl)
          have m4 := hf.at_ 4 (by kernel_rfl)
          have m5 := hf.at_ 5 (by kernel_rfl)
          have m6 := hf.at_ 6 (by kernel_rfl)
          have m7 := hf.at_ 7 (by kernel_rfl)
          have m8 := hf.at_ 8 (by kernel_rfl)
          have m9 := hf.at_ 9 (by kernel_rfl)
          have m10 := hf.at_ 10 (by kernel_rfl)
          have m11 := hf.at_ 11 (by kernel_rfl)
          have m12 := hf.at_ 12 (by kernel_rfl)
          have m15 := hf.at_ 15 (by kernel_rfl)
          have m16 := hf.at_ 16 (by kernel_rfl)
          have m17 := hf.at_ 17 (by kernel_rfl)
          have m18 := hf.at_ 18 (by kernel_rfl)
          have m19 := hf.at_ 19 (by kernel_rfl)
          have m20 := hf.at_ 20 (by kernel_rfl)
          have m21 := hf.at_ 21 (by kernel_rfl)
          have m22 := hf.at_ 22 (by kernel_rfl)
          have m23 := hf.at_ 23 (by kernel_rfl)
          have m24 := hf.at_ 24 (by kernel_rfl)
          have m25 := hf.at_ 25 (by kernel_rfl)
          have m26 := hf.at_ 26 (by kernel_rfl)
          have m27 := hf.at_ 27 (by kernel_rfl)
          have m28 := hf.at_ 28 (by kernel_rfl)
          have m29 := hf.at_ 29 (by kernel_rfl)
          have m30 := hf.at_ 30 (by kernel_rfl)
          have m31 := hf.at_ 31 (by kernel_rfl)
          have m32 := hf.at_ 32 (by kernel_rfl)
          have m33 := hf.at_ 33 (by kernel_rfl)
          have m34 := hf.at_ 34 (by kernel_rfl)
          have m35 := hf.at_ 35 (by kernel_rfl)
          have m36 := hf.at_ 36 (by kernel_rfl)
          have m37 := hf.at_ 37 (by kernel_rfl)
          have m38 := hf.at_ 38 (by kernel_rfl)
          have m39 := hf.at_ 39 (by kernel_rfl)
          have m40 := hf.at_ 40 (by kernel_rfl)
          have m41 := hf.at_ 41 (by kernel_rfl)
          have m42 := hf.at_ 42 (by kernel_rfl)
          have m43 := hf.at_ 43 (by kernel_rfl)
          have m44 := hf.at_ 44 (by kernel_rfl)
          have m45 := hf.at_ 45 (by kernel_rfl)
          have m46 := hf.at_ 46 (by kernel_rfl)
          have m47 := hf.at_ 47 (by kernel_rfl)
          have m48 := hf.at_ 48 (by kernel_rfl)
          have m49 := hf.at_ 49 (by kernel_rfl)
          have m50 := hf.at_ 50 (by kernel_rfl)
          have m51 := hf.at_ 51 (by kernel_rfl)
          have m52 := hf.at_ 52 (by kernel_rfl)
          have m53 := hf.at_ 53 (by kernel_rfl)
          have m54 := hf.at_ 54 (by kernel_rfl)
          have m55 := hf.at_ 55 (by kernel_rfl)
          have m56 := hf.at_ 56 (by kernel_rfl)
          have m57 := hf.at_ 57 (by kernel_rfl)
          have m58 := hf.at_ 58 (by kernel_rfl)
          have m59 := hf.at_ 59 (by kernel_rfl)
          have m60 := hf.at_ 60 (by kernel_rfl)
          have m61 := hf.at_ 61 (by kernel_rfl)
          have m62 := hf.at_ 62 (by kernel_rfl)
          have m63 := hf.at_ 63 (by kernel_rfl)
          have m64 := hf.at_ 64 (by kernel_rfl)
          have m65 := hf.at_ 65 (by kernel_rfl)
          have m66 := hf.at_ 66 (by kernel_rfl)
          have m67 := hf.at_ 67 (by kernel_rfl)
          have m68 := hf.at_ 68 (by kernel_rfl)
          have m69 := hf.at_ 69 (by kernel_rfl)
          have m70 := hf.at_ 70 (by kernel_rfl)
          have m71 := hf.at_ 71 (by kernel_rfl)
          have m72 := hf.at_ 72 (by kernel_rfl)
          have m73 := hf.at_ 73 (by kernel_rfl)
          have m74 := hf.at_ 74 (by kernel_rfl)
          have m75 := hf.at_ 75 (by kernel_rfl)
          have m89 := hf.at_ 89 (by kernel_rfl)
          have m90 := hf.at_ 90 (by kernel_rfl)
          have m91 := hf.at_ 91 (by kernel_rfl)
          have m92 := hf.at_ 92 (by kernel_rfl)
          have m93 := hf.at_ 93 (by kernel_rfl)
          have m94 := hf.at_ 94 (by kernel_rfl)
          have m95 := hf.at_ 95 (by kernel_rfl)
          have m96 := hf.at_ 96 (by kernel_rfl)
          have m97 := hf.at_ 97 (by kernel_rfl)
          have m98 := hf.at_ 98 (by kernel_rfl)
          have m99 := hf.at_ 99 (by kernel_rfl)
          have m100 := hf.at_ 100 (by kernel_rfl)
          rw [← hfv] at m0 m1 m2 m3 m4 m5 m6 m7 m8 m9 m10 m11 m12 m15 m16 m17 m18 m19 m20 m21 m22 m23 m24 m25 m26 m27 m28 m29 m30 m31 m32 m33 m34 m35 m36 m37 m38 m39 m40 m41 m42 m43 m44 m45 m46 m47 m48 m49 m50 m51 m52 m53 m54 m55 m56 m57 m58 m59 m60 m61 m62 m63 m64 m65 m66 m67 m68 m69 m70 m71 m72 m73 m74 m75 m89 m90 m91 m92 m93 m94 m95 m96 m97 m98 m99 m100 m13 m14
          simp only [Array.getD_eq_getD_getElem?, List.getElem?_toArray, List.getElem?_cons_succ, List.getElem?_cons_zero, Option.getD_some] at m0 m1 m2 m3 m4 m5 m6 m7 m8 m9 m10 m11 m12 m15 m16 m17 m18 m19 m20 m21 m22 m23 m24 m25 m26 m27 m28 m29 m30 m31 m32 m33 m34 m35 m36 m37 m38 m39 m40 m41 m42 m43 m44 m45 m46 m47 m48 m49 m50 m51 m52 m53 m54 m55 m56 m57 m58 m59 m60 m61 m62 m63 m64 m65 m66 m67 m68 m69 m70 m71 m72 m73 m74 m75 m89 m90 m91 m92 m93 m94 m95 m96 m97 m98 m99 m100
          simp only [List.range, List.range.loop, List.map_cons, List.map_nil, m0, m1, m2, m3, m4, m5, m6, m7, m8, m9, m10, m11, m12, m15, m16, m17, m18, m19, m20, m21, m22, m23, m24, m25, m26, m27, m28, m29, m30, m31, m32, m33, m34, m35, m36, m37, m38, m39, m40, m41, m42, m43, m44, m45, m46, m47, m48, m49, m50, m51, m52, m53, m54, m55, m56, m57, m58, m59, m60, m61, m62, m63, m64, m65, m66, m67, m68, m69, m70, m71, m72, m73, m74, m75, m89, m90, m91, m92, m93, m94, m95, m96, m97, m98, m99, m100, m13, m14] at ea
          subst ea
          clear m0 m1 m2 m3 m4 m5 m6 m7 m8 m9 m10 m11 m12 m15 m16 m17 m18 m19 m20 m21 m22 m23 m24 m25 m26 m27 m28 m29 m30 m31 m32 m33 m34 m35 m36 m37 m38 m39 m40 m41 m42 m43 m44 m45 m46 m47 m48 m49 m50 m51 m52 m53 m54 m55 m56 m57 m58 m59 m60 m61 m62 m63 m64 m65 m66 m67 m68 m69 m70 m71 m72 m73 m74 m75 m89 m90 m91 m92 m93 m94 m95 m96 m97 m98 m99 m100 m13 m14 hfv md hf
          obtain ⟨kz0, kz1, kz2, kz3, kz4, _⟩ := id cg
          try simp only at kz0 kz1 kz2 kz3 kz4
          have e1 : (decide (n ≤ (k + 1)) != decide (n ≤ (k + 1))) = false := by simp
          have e2 : ((k + 1) != (k + 1)) = false := by simp
          go_wp2_with (refine wpList_storeB (b := (⟨3, n, decide (n ≤ (k + 1)), true, (k + 1)⟩ : BlockD)) rfl _ _ rfl rfl rfl pb ?_)
          clear kz0 kz1 kz2 kz3 kz4
          intro u2 L2
          have s2 := L2.size
          have HN : Hid (CellB u2 PB (⟨3, n, decide (n ≤ (k + 1)), true, (k + 1)⟩ : BlockD) ∧ Below w.heap.size w u2 ∧ PB < u2.heap.size) := ⟨L2.cell, G1.trans (L2.below.mono (by omega)), by omega⟩
          clear L2 pb cg G1
          go_wp2
          go_roundw
          case rel => exact ⟨j + 1, (k + 1), _, _, rfl, rfl, by go_num, by omega, by omega, by omega, HN⟩
          case measure => simp [intOf] <;> omega
      · have hS := fun u => hSx u true false
        have hc := hcs true false
        simp only [Bool.true_and, Bool.and_true, Bool.false_and, Bool.and_false, Bool.not_true, Bool.not_false, Bool.false_eq_true, reduceIte] at hc
        rw [hc] at hS
        simp only at hS
        clear hc hcs hSx
        have hcz := hcell
        go_wp2_with fail
        refine wp_region_dagC (R := fun u u' => Below wr.heap.size u u' ∧ u.heap.size ≤ u'.heap.size) (Φ := fun i v u => match i with
            | 0 => v = BlockD.val ⟨3, n, on, true, k⟩
            | 1 => v = .bool true
            | 2 => v = .bool false
            | 3 => v = .slice (some ⟨bb, off, none⟩) len1 cap1
            | 4 => v = .int .i64 j
            | 5 => v = .pointer (some ⟨bb, off + j, none⟩)
            | 6 => v = .int .u8 z
            | 7 => v = .int .i64 z
            | 8 => v = .int .i64 d
            | 9 => v = .tuple #[BlockD.val (⟨3, n, decide (n ≤ k), true, k⟩ : BlockD), .bool (decide (n ≤ k))]
            | 10 => v = .tuple #[BlockD.val (⟨3, n, decide (n ≤ k), true, k⟩ : BlockD), .bool (decide (n ≤ k))]
            | 11 => v = BlockD.val (⟨3, n, decide (n ≤ k), true, k⟩ : BlockD)
            | 12 => v = .bool (decide (n ≤ k))
            | 13 => True
            | 14 => True
            | 15 => v = .bool (decide (n ≤ k))
            | _ => True)
          (J := fun L a u => JV wr.heap.size (⟨3, n, decide (n ≤ k), true, k⟩ : BlockD) L a u) (by kernel_rfl) (by kernel_rfl) (by kernel_rfl) ⟨Below.refl _ _, Nat.le_refl _⟩ (fun _ _ _ h k => ⟨h.1.trans k.1, Nat.le_trans h.2 k.2⟩) ?_ ⟨rfl, fun h => by simp at h⟩ ?_ ?_
        · intro i v u u' hr
          match i with
          | 0 | 1 | 2 | 3 | 4 | 5 | 6 | 7 | 8 | 9 | 10 | 11 | 12 | 13 | 14 | 15 | _ + 16 => exact fun h => h
        · intro i o ho L ac u hf hR0 hLs hLi hcl hp he hJ K' hK
          have hR : Below wr.heap.size wr u := (Below.drew (Below.refl _ _)).trans hR0.1
          have hsz' : ac.tmps.size = 101 := hf.size
          have hus := hR.size
          have hLz := hJ.sz
          rcases i with _ | _ | _ | _ | _ | _ | _ | _ | _ | _ | _ | _ | _ | _ | _ | _ | i
          · obtain rfl := Option.some.inj ho
            have q7 : ac.tmps.getD 7 undef = .pointer (some ⟨PB, 0, none⟩) := hf.at_ 7 (by kernel_rfl)
            have cu := p1.below hR (by omega)
            clear hp he
            refine wanted_none rfl ?_
            refine wp_loadB (Operand.tmp 7) rfl q7 cu ?_
            exact hK _ _ ⟨Below.refl _ _, Nat.le_refl _⟩ (getD_put_self ac 77 _ (by show _ < ac.tmps.size; omega)) (hJ.next (by decide) (by decide) (by decide) (Below.refl _ _))
          · obtain rfl := Option.some.inj ho
            have q11 : ac.tmps.getD 11 undef = .bool true := hf.at_ 11 (by kernel_rfl)
            clear hp he
            go_simp
            exact hK _ _ ⟨Below.refl _ _, Nat.le_refl _⟩ (getD_put_self ac 78 _ (by show _ < ac.tmps.size; omega)) (hJ.next (by decide) (by decide) (by decide) (Below.refl _ _))
          · obtain rfl := Option.some.inj ho
            have q12 : ac.tmps.getD 12 undef = .bool false := hf.at_ 12 (by kernel_rfl)
            clear hp he
            go_simp
            exact hK _ _ ⟨Below.refl _ _, Nat.le_refl _⟩ (getD_put_self ac 79 _ (by show _ < ac.tmps.size; omega)) (hJ.next (by decide) (by decide) (by decide) (Below.refl _ _))
          · obtain rfl := Option.some.inj ho
            have q1 : ac.tmps.getD 1 undef = .slice (some ⟨bb, off, none⟩) len1 cap1 := hf.at_ 1 (by kernel_rfl)
            clear hp he
            go_simp
            exact hK _ _ ⟨Below.refl _ _, Nat.le_refl _⟩ (getD_put_self ac 80 _ (by show _ < ac.tmps.size; omega)) (hJ.next (by decide) (by decide) (by decide) (Below.refl _ _))
          · obtain rfl := Option.some.inj ho
            have q10 : ac.tmps.getD 10 undef = .int .i64 j := hf.at_ 10 (by kernel_rfl)
            clear hp he
            go_simp
            exact hK _ _ ⟨Below.refl _ _, Nat.le_refl _⟩ (getD_put_self ac 81 _ (by show _ < ac.tmps.size; omega)) (hJ.next (by decide) (by decide) (by decide) (Below.refl _ _))
          · obtain rfl := Option.some.inj ho
            have q80 : ac.tmps.getD 80 undef = .slice (some ⟨bb, off, none⟩) len1 cap1 := hp 3 _ rfl (he _ (Array.mem_of_getElem? (i := 0) rfl) (by kernel_rfl))
            have q81 : ac.tmps.getD 81 undef = .int .i64 j := hp 4 _ rfl (he _ (Array.mem_of_getElem? (i := 1) rfl) (by kernel_rfl))
            clear hp he
            go_simp
            exact hK _ _ ⟨Below.refl _ _, Nat.le_refl _⟩ (getD_put_self ac 82 _ (by show _ < ac.tmps.size; omega)) (hJ.next (by decide) (by decide) (by decide) (Below.refl _ _))
          · obtain rfl := Option.some.inj ho
            have q82 : ac.tmps.getD 82 undef = .pointer (some ⟨bb, off + j, none⟩) := hp 5 _ rfl (he _ (Array.mem_of_getElem? (i := 0) rfl) (by kernel_rfl))
            have hcu : u.cell? ⟨bb, off + j, none⟩ = some (.int .u8 z) := by rw [hR.cell (p := ⟨bb, off + j, none⟩) hbw]; exact hcell
            clear hp he
            go_simp
            exact hK _ _ ⟨Below.refl _ _, Nat.le_refl _⟩ (getD_put_self ac 83 _ (by show _ < ac.tmps.size; omega)) (hJ.next (by decide) (by decide) (by decide) (Below.refl _ _))
          · obtain rfl := Option.some.inj ho
            have q83 : ac.tmps.getD 83 undef = .int .u8 z := hp 6 _ rfl (he _ (Array.mem_of_getElem? (i := 0) rfl) (by kernel_rfl))
            clear hp he
            have hwz := wrap_byte hz0 hz1
            go_simp
            exact hK _ _ ⟨Below.refl _ _, Nat.le_refl _⟩ (getD_put_self ac 84 _ (by show _ < ac.tmps.size; omega)) (hJ.next (by decide) (by decide) (by decide) (Below.refl _ _))
          · obtain rfl := Option.some.inj ho
            have q84 : ac.tmps.getD 84 undef = .int .i64 z := hp 7 _ rfl (he _ (Array.mem_of_getElem? (i := 0) rfl) (by kernel_rfl))
            clear hp he
            go_simp
            exact hK _ _ ⟨Below.refl _ _, Nat.le_refl _⟩ (getD_put_self ac 85 _ (by show _ < ac.tmps.size; omega)) (hJ.next (by decide) (by decide) (by decide) (Below.refl _ _))
          · obtain rfl := Option.some.inj ho
            have q77 : ac.tmps.getD 77 undef = BlockD.val ⟨3, n, on, true, k⟩ := hp 0 _ rfl (he _ (Array.mem_of_getElem? (i := 0) rfl) (by kernel_rfl))
            have q78 : ac.tmps.getD 78 undef = .bool true := hp 1 _ rfl (he _ (Array.mem_of_getElem? (i := 1) rfl) (by kernel_rfl))
            have q79 : ac.tmps.getD 79 undef = .bool false := hp 2 _ rfl (he _ (Array.mem_of_getElem? (i := 2) rfl) (by kernel_rfl))
            have q85 : ac.tmps.getD 85 undef = .int .i64 d := hp 8 _ rfl (he _ (Array.mem_of_getElem? (i := 3) rfl) (by kernel_rfl))
            clear hp he
            go_simp
            refine (hS _).mono ?_
            rintro e1 u' ⟨rfl, hbu⟩
            exact hK _ _ ⟨hbu.mono (by omega), hbu.size⟩ (getD_put_self ac 86 _ (by show _ < ac.tmps.size; omega)) (hJ.next (by decide) (by decide) (by decide) hbu)
          · obtain rfl := Option.some.inj ho
            have q86 : ac.tmps.getD 86 undef = .tuple #[BlockD.val (⟨3, n, decide (n ≤ k), true, k⟩ : BlockD), .bool (decide (n ≤ k))] := hp 9 _ rfl (he _ (Array.mem_of_getElem? (i := 0) rfl) (by kernel_rfl))
            clear hp he
            go_simp
            exact hK _ _ ⟨Below.refl _ _, Nat.le_refl _⟩ (getD_put_self ac 76 _ (by show _ < ac.tmps.size; omega)) (hJ.next (by decide) (by decide) (by decide) (Below.refl _ _))
          · obtain rfl := Option.some.inj ho
            have q76 : ac.tmps.getD 76 undef = .tuple #[BlockD.val (⟨3, n, decide (n ≤ k), true, k⟩ : BlockD), .bool (decide (n ≤ k))] := hp 10 _ rfl (he _ (Array.mem_of_getElem? (i := 0) rfl) (by kernel_rfl))
            clear hp he
            go_simp
            exact hK _ _ ⟨Below.refl _ _, Nat.le_refl _⟩ (getD_put_self ac 87 _ (by show _ < ac.tmps.size; omega)) (hJ.next (by decide) (by decide) (by decide) (Below.refl _ _))
          · obtain rfl := Option.some.inj ho
            have q76 : ac.tmps.getD 76 undef = .tuple #[BlockD.val (⟨3, n, decide (n ≤ k), true, k⟩ : BlockD), .bool (decide (n ≤ k))] := hp 10 _ rfl (he _ (Array.mem_of_getElem? (i := 0) rfl) (by kernel_rfl))
            clear hp he
            go_simp
            exact hK _ _ ⟨Below.refl _ _, Nat.le_refl _⟩ (getD_put_self ac 88 _ (by show _ < ac.tmps.size; omega)) (hJ.next (by decide) (by decide) (by decide) (Below.refl _ _))
          · obtain rfl := Option.some.inj ho
            have h14 : L.getD 14 true = false := hcl.not (i := 14) (j := 13) (by kernel_rfl) hLi
            have e14 : (L.setIfInBounds 13 true).getD 14 true = L.getD 14 true := by simp
            clear hp he
            refine wanted_none rfl ?_
            refine wp_allocB rfl ?_
            intro u1 g1 c1 s1
            exact hK _ _ ⟨g1.mono (by omega), by omega⟩ trivial ⟨by rw [Array.size_setIfInBounds]; exact hLz, fun _ => ⟨u.heap.size, (getD_put_self ac 13 _ (by show _ < ac.tmps.size; omega)), by omega, by omega, fun _ => c1, fun h => absurd h (by rw [e14, h14]; decide)⟩⟩
          · obtain rfl := Option.some.inj ho
            obtain ⟨g, q13, hg1, hg2, hc0, _⟩ := hJ.made (he _ (Array.mem_of_getElem? (i := 0) rfl) (by kernel_rfl))
            have q87 : ac.tmps.getD 87 undef = BlockD.val (⟨3, n, decide (n ≤ k), true, k⟩ : BlockD) := hp 11 _ rfl (he _ (Array.mem_of_getElem? (i := 1) rfl) (by kernel_rfl))
            have cu := hc0 hLi
            have h13 := he _ (Array.mem_of_getElem? (i := 0) rfl) (by kernel_rfl)
            clear hp he
            refine wanted_none rfl ?_
            refine wp_storeB (Operand.tmp 13) (Operand.tmp 87) rfl q13 q87 cu ?_
            intro u1 L1
            have z1 := L1.size
            exact hK _ _ ⟨L1.below.mono (by omega), by omega⟩ trivial ⟨by rw [Array.size_setIfInBounds]; exact hLz, fun _ => ⟨g, q13, hg1, by omega, fun h => absurd h (by rw [getD_set_self' (by rw [hLz]; decide)]; decide), fun _ => L1.cell⟩⟩
          · obtain rfl := Option.some.inj ho
            have q88 : ac.tmps.getD 88 undef = .bool (decide (n ≤ k)) := hp 12 _ rfl (he _ (Array.mem_of_getElem? (i := 0) rfl) (by kernel_rfl))
            clear hp he
            go_simp
            exact hK _ _ ⟨Below.refl _ _, Nat.le_refl _⟩ (getD_put_self ac 14 _ (by show _ < ac.tmps.size; omega)) (hJ.next (by decide) (by decide) (by decide) (Below.refl _ _))
          · exact absurd ho (by simp)
        · intro L ac u1 hf hR0 hp hJ
          have hR : Below wr.heap.size wr u1 := (Below.drew (Below.refl _ _)).trans hR0.1
          have m14 : ac.tmps.getD 14 undef = .bool (decide (n ≤ k)) := (hp 15 _ rfl).2
          obtain ⟨g, m13, hg1, hg2, _, hc1⟩ := hJ.made (hp 13 _ rfl).1
          have m13 : ac.tmps.getD 13 undef = .pointer (some ⟨g, 0, none⟩) := m13
          have cg := hc1 (hp 14 _ rfl).1
          have pb := p1.below hR (by omega)
          have G1 := G0.trans (hR.mono (by have := G0.size; omega))
          clear hp hJ hR0 hR hc1 hS hcz hcell p1 G0
          obtain ⟨fq, ea, hfv⟩ := act_lit ac 101 hf.size
          have md : ac.defers = [] := hf.defers
          rw [md] at ea
          have m0 := hf.at_ 0 (by kernel_rfl)
          have m1 := hf.at_ 1 (by kernel_rfl)
          have m2 := hf.at_ 2 (by kernel_rfl)
          have m3 := hf.at_ 3 (by kernel_rfl)
          have m4 := hf.at_ 4 (by kernel_rfl)
          have m5 := hf.at_ 5 (by kernel_rfl)
          have m6 := hf.at_ 6 (by kernel_rfl)
          have m7 := hf.at_ 7 (by kernel_rfl)
          have m8 := hf.at_ 8 (by kernel_rfl)
          have m9 := hf.at_ 9 (by kernel_rfl)
          have m10 := hf.at_ 10 (by kernel_rfl)
          have m11 := hf.at_ 11 (by kernel_rfl)
          have m12 := hf.at_ 12 (by kernel_rfl)
          have m15 := hf.at_ 15 (by kernel_rfl)
          have m16 := hf.at_ 16 (by kernel_rfl)
          have m17 := hf.at_ 17 (by kernel_rfl)
          have m18 := hf.at_ 18 (by kernel_rfl)
          have m19 := hf.at_ 19 (by kernel_rfl)
          have m20 := hf.at_ 20 (by kernel_rfl)
          have m21 := hf.at_ 21 (by kernel_rfl)
          have m22 := hf.at_ 22 (by kernel_rfl)
          have m23 := hf.at_ 23 (by kernel_rfl)
          have m24 := hf.at_ 24 (by kernel_rfl)
          have m25 := hf.at_ 25 (by kernel_rfl)
          have m26 := hf.at_ 26 (by kernel_rfl)
          have m27 := hf.at_ 27 (by kernel_rfl)
          have m28 := hf.at_ 28 (by kernel_rfl)
          have m29 := hf.at_ 29 (by kernel_rfl)
          have m30 := hf.at_ 30 (by kernel_rfl)
          have m31 := hf.at_ 31 (by kernel_rfl)
          have m32 := hf.at_ 32 (by kernel_rfl)
          have m33 := hf.at_ 33 (by kernel_rfl)
          have m34 := hf.at_ 34 (by kernel_rfl)
          have m35 := hf.at_ 35 (by kernel_rfl)
          have m36 := hf.at_ 36 (by kernel_rfl)
          have m37 := hf.at_ 37 (by kernel_rfl)
          have m38 := hf.at_ 38 (by kernel_rfl)
          have m39 := hf.at_ 39 (by kernel_rfl)
          have m40 := hf.at_ 40 (by kernel_rfl)
          have m41 := hf.at_ 41 (by kernel_rfl)
          have m42 := hf.at_ 42 (by kernel_rfl)
          have m43 := hf.at_ 43 (by kernel_rfl)
          have m44 := hf.at_ 44 (by kernel_rfl)
          have m45 := hf.at_ 45 (by kernel_rfl)
          have m46 := hf.at_ 46 (by kernel_rfl)
          have m47 := hf.at_ 47 (by kernel_rfl)
          have m48 := hf.at_ 48 (by kernel_rfl)
          have m49 := hf.at_ 49 (by kernel_rfl)
          have m50 := hf.at_ 50 (by kernel_rfl)
          have m51 := hf.at_ 51 (by kernel_rfl)
          have m52 := hf.at_ 52 (by kernel_rfl)
          have m53 := hf.at_ 53 (by kernel_rfl)
          have m54 := hf.at_ 54 (by kernel_rfl)
          have m55 := hf.at_ 55 (by kernel_rfl)
          have m56 := hf.at_ 56 (by kernel_rfl)
          have m57 := hf.at_ 57 (by kernel_rfl)
          have m58 := hf.at_ 58 (by kernel_rfl)
          have m59 := hf.at_ 59 (by kernel_rfl)
          have m60 := hf.at_ 60 (by kernel_rfl)
          have m61 := hf.at_ 61 (by kernel_rfl)
          have m62 := hf.at_ 62 (by kernel_rfl)
          have m63 := hf.at_ 63 (by kernel_rfl)
          have m64 := hf.at_ 64 (by kernel_rfl)
          have m65 := hf.at_ 65 (by kernel_rfl)
          have m66 := hf.at_ 66 (by kernel_rfl)
          have m67 := hf.at_ 67 (by kernel_rfl)
          have m68 := hf.at_ 68 (by kernel_rfl)
          have m69 := hf.at_ 69 (by kernel_rfl)
          have m70 := hf.at_ 70 (by kernel_rfl)
          have m71 := hf.at_ 71 (by kernel_rfl)
          have m72 := hf.at_ 72 (by kernel_rfl)
          have m73 := hf.at_ 73 (by kernel_rfl)
          have m74 := hf.at_ 74 (by kernel_rfl)
          have m75 := hf.at_ 75 (by kernel_rfl)
          have m89 := hf.at_ 89 (by kernel_rfl)
          have m90 := hf.at_ 90 (by kernel_rfl)
          have m91 := hf.at_ 91 (by kernel_rfl)
          have m92 := hf.at_ 92 (by kernel_rfl)
          have m93 := hf.at_ 93 (by kernel_rfl)
          have m94 := hf.at_ 94 (by kernel_rfl)
          have m95 := hf.at_ 95 (by kernel_rfl)
          have m96 := hf.at_ 96 (by kernel_rfl)
          have m97 := hf.at_ 97 (by kernel_rfl)
          have m98 := hf.at_ 98 (by kernel_rfl)
          have m99 := hf.at_ 99 (by kernel_rfl)
          have m100 := hf.at_ 100 (by kernel_rfl)
          rw [← hfv] at m0 m1 m2 m3 m4 m5 m6 m7 m8 m9 m10 m11 m12 m15 m16 m17 m18 m19 m20 m21 m22 m23 m24 m25 m26 m27 m28 m29 m30 m31 m32 m33 m34 m35 m36 m37 m38 m39 m40 m41 m42 m43 m44 m45 m46 m47 m48 m49 m50 m51 m52 m53 m54 m55 m56 m57 m58 m59 m60 m61 m62 m63 m64 m65 m66 m67 m68 m69 m70 m71 m72 m73 m74 m75 m89 m90 m91 m92 m93 m94 m95 m96 m97 m98 m99 m100 m13 m14
          simp only [Array.getD_eq_getD_getElem?, List.getElem?_toArray, List.getElem?_cons_succ, List.getElem?_cons_zero, Option.getD_some] at m0 m1 m2 m3 m4 m5 m6 m7 m8 m9 m10 m11 m12 m15 m16 m17 m18 m19 m20 m21 m22 m23 m24 m25 m26 m27 m28 m29 m30 m31 m32 m33 m34 m35 m36 m37 m38 m39 m40 m41 m42 m43 m44 m45 m46 m47 m48 m49 m50 m51 m52 m53 m54 m55 m56 m57 m58 m59 m60 m61 m62 m63 m64 m65 m66 m67 m68 m69 m70 m71 m72 m73 m74 m75 m89 m90 m91 m92 m93 m94 m95 m96 m97 m98 m99 m100
          simp only [List.range, List.range.loop, List.map_cons, List.map_nil, m0, m1, m2, m3, m4, m5, m6, m7, m8, m9, m10, m11, m12, m15, m16, m17, m18, m19, m20, m21, m22, m23, m24, m25, m26, m27, m28, m29, m30, m31, m32, m33, m34, m35, m36, m37, m38, m39, m40, m41, m42, m43, m44, m45, m46, m47, m48, m49, m50, m51, m52, m53, m54, m55, m56, m57, m58, m59, m60, m61, m62, m63, m64, m65, m66, m67, m68, m69, m70, m71, m72, m73, m74, m75, m89, m90, m91, m92, m93, m94, m95, m96, m97, m98, m99, m100, m13, m14] at ea
          subst ea
          clear m0 m1 m2 m3 m4 m5 m6 m7 m8 m9 m10 m11 m12 m15 m16 m17 m18 m19 m20 m21 m22 m23 m24 m25 m26 m27 m28 m29 m30 m31 m32 m33 m34 m35 m36 m37 m38 m39 m40 m41 m42 m43 m44 m45 m46 m47 m48 m49 m50 m51 m52 m53 m54 m55 m56 m57 m58 m59 m60 m61 m62 m63 m64 m65 m66 m67 m68 m69 m70 m71 m72 m73 m74 m75 m89 m90 m91 m92 m93 m94 m95 m96 m97 m98 m99 m100 m13 m14 hfv md hf
          obtain ⟨kz0, kz1, kz2, kz3, kz4, _⟩ := id cg
          try simp only at kz0 kz1 kz2 kz3 kz4
          have e1 : (decide (n ≤ k) != decide (n ≤ k)) = false := by simp
          have e2 : (k != k) = false := by simp
          go_wp2_with (refine wpList_storeB (b := (⟨3, n, decide (n ≤ k), true, k⟩ : BlockD)) rfl _ _ rfl rfl rfl pb ?_)
          clear kz0 kz1 kz2 kz3 kz4
          intro u2 L2
          have s2 := L2.size
          have HN : Hid (CellB u2 PB (⟨3, n, decide (n ≤ k), true, k⟩ : BlockD) ∧ Below w.heap.size w u2 ∧ PB < u2.heap.size) := ⟨L2.cell, G1.trans (L2.below.mono (by omega)), by omega⟩
          clear L2 pb cg G1
          go_wp2
          go_roundw
          case rel => exact ⟨j + 1, k, _, _, rfl, rfl, by go_num, by omega, by omega, by omega, HN⟩
          case measure => simp [intOf] <;> omega
end Go.Proofs.Ytgfoimleoekkiaa
