/-
  Chapter 10's program: rule 4. (Written by our generator gen_slimr.py.)
-/
import Derived.Test.YtkeockippmmneaaGreatSlimR
import Derived.Test.YtkeockippmmneaaGreatGuard
namespace Go.Proofs.YtkeockippmmneaaGreat
open Go.ChangeShapes Go.WideShapes Go.ChangeAt Go.RowKit
set_option linter.unusedVariables false
set_option maxRecDepth 100000

set_option maxHeartbeats 8000000 in
theorem oneIsZero_rule : RuleC 53 4 := by
  intro d w lo hi v e hd ho hhi hfm
  obtain ⟨s, rfl, hko⟩ := ho
  have b2 := fun o o' => ((Below.refl w.heap.size w).alloc (Nat.le_refl _) o).alloc (by simp) o'
  obtain ⟨u0, hu0, G0, F0, Z0, S0⟩ := rule_start w e s 42
  by_cases h : e.k = 5
  · obtain ⟨x, y, hkids, hk0, hk1⟩ := slim_two hfm (by omega)
    obtain ⟨b, off, cap, sx, sy, lx, hx, ly, hy, rfl, hb1, hb2, h5, h5y, kx, ky, ix, iy⟩ := cells_two hko hkids
    obtain ⟨ax, cx, rfl, _, _⟩ := kx.kr.shape
    obtain ⟨ay, cy, rfl, _, _⟩ := ky.kr.shape
    have KX : Hid (KO w lx hx (.slice ax x.kids.length cx) x.kids ∧ lo ≤ lx ∧ hx ≤ hi) := ⟨kx, ix⟩
    have KY : Hid (KO w ly hy (.slice ay y.kids.length cy) y.kids ∧ lo ≤ ly ∧ hy ≤ hi) := ⟨ky, iy⟩
    have H5 : Hid (Cell5 w b off x (.slice ax x.kids.length cx) ∧ Cell5 w b (off + 5) y (.slice ay y.kids.length cy)) := ⟨h5, h5y⟩
    have hsz : ((0 : Int) < 2) := by decide
    have hsz1 : ((1 : Int) < 2) := by decide
    obtain ⟨e0, e1, e2, e3, e4, _⟩ := id F0
    have k5 : (e.k == 5) = true := by simp [h]
    have k8 : (e.k == 8) = false := by simp [h]
    have hrd : ruleD 4 e = if isTheB x 0 || isTheB y 0 then some (numE 0) else none := by
      simp only [ruleD]
      rw [hk0, hk1]
      simp [h]
    clear h hkids hk0 hk1 h5 h5y kx ky ix iy hko
    cases hz : isTheB x 0 with
    | true =>
      have HR : Hid (ruleD 4 e = if true then some (numE 0) else none) := by show _ = _; rw [hrd, hz]; rfl
      clear hrd
      go_enter Tryz.func53, Tryz.ntmps53
      go_wp2_with fail
      clear hu0 e0 e1 e2 e3 e4
      have ZZ : Hid (Five u0 (w.heap.size + 1) (.int .i64 0) (.int .i64 0) (.int .i64 0) (.int .i64 0) (.slice none 0 0)) := Z0
      refine wp_region_last2 (R := Out (w.heap.size + 1) (w.heap.size + 1 + 1)) (Φ := fun i v u => match i with
          | 0 => v = .agg #[.int .i64 1, .int .i64 0, .int .i64 0, .int .i64 0, .slice none 0 0]
          | 1 => v = .pointer (some ⟨w.heap.size, 4, none⟩)
          | 2 => v = .slice (some ⟨b, off, none⟩) 2 cap
          | 3 => v = .pointer (some ⟨b, off, none⟩)
          | 4 => v = .agg #[.int .i64 x.k, .int .i64 x.n, .int .i64 x.ak, .int .i64 x.at_, .slice ax x.kids.length cx]
          | 5 => v = .bool true
          | 6 => v = .bool true
          | 7 => v = undef
          | 8 => v = undef
          | 9 => v = undef
          | 10 => v = undef
          | 11 => v = undef
          | 12 => v = .bool true
          | _ => True)
        (J := fun L a u => ResJ 13 (w.heap.size + 1) (.int .i64 1) (.int .i64 0) (.int .i64 0) (.int .i64 0) (.slice none 0 0) L u) 14 _ rfl rfl (by kernel_rfl) (by kernel_rfl) (by kernel_rfl) (by kernel_rfl) (outB_refl _ _) (fun _ _ _ h k => h.trans k) ?_ ⟨by show _ < u0.heap.size; omega, ⟨_, _, _, _, _, ZZ.out.under (Below.drew (Below.refl u0.heap.size u0)) (by omega)⟩, fun h => by simp at h⟩ ?_ ?_
      · intro i v u u' hr
        match i with
        | 0 | 1 | 2 | 3 | 4 | 5 | 6 | 7 | 8 | 9 | 10 | 11 | 12 | 13 | _ + 14 => exact fun h => h
      · intro i o ho hin L a u hf hR0 hLs hLi hp he hJ K' hK
        have hR : Out (w.heap.size + 1) (w.heap.size + 1 + 1) u0 u := (out_of_below (Below.drew (Below.refl _ _)) _ _).trans hR0
        have hsz' : a.tmps.size = 23 := hf.size
        have hus := hR.size
        have hb : Below w.heap.size w u := G0.trans (hR.below (by omega) (by omega))
        rcases i with _ | _ | _ | _ | _ | _ | _ | _ | _ | _ | _ | _ | _ | _ | i
        · obtain rfl := Option.some.inj ho
          clear hp he
          go_simp
          refine (number_any _ 0).mono ?_
          rintro e1 u' ⟨rfl, hbu⟩
          exact hK _ _ (out_of_below hbu _ _) (getD_put_self a 9 _ (by show _ < a.tmps.size; omega)) (hJ.step (by decide) hbu)
        · obtain rfl := Option.some.inj ho
          have q1 : a.tmps.getD 1 undef = .pointer (some ⟨w.heap.size, 0, none⟩) := hf.at_ 1 (by kernel_rfl)
          clear hp he
          go_simp
          exact hK _ _ (out_of_below (Below.refl _ _) _ _) (getD_put_self a 10 _ (by show _ < a.tmps.size; omega)) (hJ.step (by decide) (Below.refl _ _))
        · obtain rfl := Option.some.inj ho
          have q10 : a.tmps.getD 10 undef = .pointer (some ⟨w.heap.size, 4, none⟩) := hp 1 _ rfl (he _ (Array.mem_of_getElem? (i := 0) rfl) (by kernel_rfl))
          clear hp he
          obtain ⟨e0, e1, e2, e3, e4, _⟩ := F0.aside' hR (by omega) (by omega)
          go_simp
          exact hK _ _ (out_of_below (Below.refl _ _) _ _) (getD_put_self a 11 _ (by show _ < a.tmps.size; omega)) (hJ.step (by decide) (Below.refl _ _))
        · obtain rfl := Option.some.inj ho
          have q11 : a.tmps.getD 11 undef = .slice (some ⟨b, off, none⟩) 2 cap := hp 2 _ rfl (he _ (Array.mem_of_getElem? (i := 0) rfl) (by kernel_rfl))
          clear hp he
          go_simp
          exact hK _ _ (out_of_below (Below.refl _ _) _ _) (getD_put_self a 12 _ (by show _ < a.tmps.size; omega)) (hJ.step (by decide) (Below.refl _ _))
        · obtain rfl := Option.some.inj ho
          have q12 : a.tmps.getD 12 undef = .pointer (some ⟨b, off, none⟩) := hp 3 _ rfl (he _ (Array.mem_of_getElem? (i := 0) rfl) (by kernel_rfl))
          clear hp he
          obtain ⟨c0, c1, c2, c3, c4⟩ := H5.out.1.kept (hb.block b (by omega))
          go_simp
          exact hK _ _ (out_of_below (Below.refl _ _) _ _) (getD_put_self a 13 _ (by show _ < a.tmps.size; omega)) (hJ.step (by decide) (Below.refl _ _))
        · obtain rfl := Option.some.inj ho
          have q13 : a.tmps.getD 13 undef = .agg #[.int .i64 x.k, .int .i64 x.n, .int .i64 x.ak, .int .i64 x.at_, .slice ax x.kids.length cx] := hp 4 _ rfl (he _ (Array.mem_of_getElem? (i := 0) rfl) (by kernel_rfl))
          clear hp he
          have hcl := isThe_any u x ax x.kids.length cx 0
          rw [hz] at hcl
          go_simp
          refine hcl.mono ?_
          rintro e1 u' ⟨rfl, hbu⟩
          exact hK _ _ (out_of_below hbu _ _) (getD_put_self a 14 _ (by show _ < a.tmps.size; omega)) (hJ.step (by decide) hbu)
        · obtain rfl := Option.some.inj ho
          have q14 : a.tmps.getD 14 undef = .bool true := hp 5 _ rfl (he _ (Array.mem_of_getElem? (i := 0) rfl) (by kernel_rfl))
          clear hp he
          go_simp
          exact hK _ _ (out_of_below (Below.refl _ _) _ _) (getD_put_self a 15 _ (by show _ < a.tmps.size; omega)) (hJ.step (by decide) (Below.refl _ _))
        · obtain rfl := Option.some.inj ho
          have q15 : a.tmps.getD 15 undef = .bool true := hp 6 _ rfl (he _ (Array.mem_of_getElem? (i := 0) rfl) (by kernel_rfl))
          refine wanted_off rfl (yielded_g (i := 6) rfl rfl (by show 15 < a.tmps.size; omega) q15) ?_
          exact hK undef u (outB_refl _ _) (getD_put_self a 16 _ (by show _ < a.tmps.size; omega)) (hJ.step (by decide) (Below.refl _ _))
        · obtain rfl := Option.some.inj ho
          have q15 : a.tmps.getD 15 undef = .bool true := hp 6 _ rfl (he _ (Array.mem_of_getElem? (i := 1) rfl) (by kernel_rfl))
          refine wanted_off rfl (yielded_g (i := 6) rfl rfl (by show 15 < a.tmps.size; omega) q15) ?_
          exact hK undef u (outB_refl _ _) (getD_put_self a 17 _ (by show _ < a.tmps.size; omega)) (hJ.step (by decide) (Below.refl _ _))
        · obtain rfl := Option.some.inj ho
          have q15 : a.tmps.getD 15 undef = .bool true := hp 6 _ rfl (he _ (Array.mem_of_getElem? (i := 1) rfl) (by kernel_rfl))
          refine wanted_off rfl (yielded_g (i := 6) rfl rfl (by show 15 < a.tmps.size; omega) q15) ?_
          exact hK undef u (outB_refl _ _) (getD_put_self a 18 _ (by show _ < a.tmps.size; omega)) (hJ.step (by decide) (Below.refl _ _))
        · obtain rfl := Option.some.inj ho
          have q15 : a.tmps.getD 15 undef = .bool true := hp 6 _ rfl (he _ (Array.mem_of_getElem? (i := 1) rfl) (by kernel_rfl))
          refine wanted_off rfl (yielded_g (i := 6) rfl rfl (by show 15 < a.tmps.size; omega) q15) ?_
          exact hK undef u (outB_refl _ _) (getD_put_self a 19 _ (by show _ < a.tmps.size; omega)) (hJ.step (by decide) (Below.refl _ _))
        · obtain rfl := Option.some.inj ho
          have q15 : a.tmps.getD 15 undef = .bool true := hp 6 _ rfl (he _ (Array.mem_of_getElem? (i := 1) rfl) (by kernel_rfl))
          refine wanted_off rfl (yielded_g (i := 6) rfl rfl (by show 15 < a.tmps.size; omega) q15) ?_
          exact hK undef u (outB_refl _ _) (getD_put_self a 20 _ (by show _ < a.tmps.size; omega)) (hJ.step (by decide) (Below.refl _ _))
        · obtain rfl := Option.some.inj ho
          have q15 : a.tmps.getD 15 undef = .bool true := hp 6 _ rfl (he _ (Array.mem_of_getElem? (i := 0) rfl) (by kernel_rfl))
          have q20 : a.tmps.getD 20 undef = undef := hp 11 _ rfl (he _ (Array.mem_of_getElem? (i := 1) rfl) (by kernel_rfl))
          clear hp he
          go_simp
          exact hK _ _ (out_of_below (Below.refl _ _) _ _) (getD_put_self a 21 _ (by show _ < a.tmps.size; omega)) (hJ.step (by decide) (Below.refl _ _))
        · obtain rfl := Option.some.inj ho
          have q2 : a.tmps.getD 2 undef = .pointer (some ⟨w.heap.size + 1, 0, none⟩) := hf.at_ 2 (by kernel_rfl)
          have q9 : a.tmps.getD 9 undef = .agg #[.int .i64 1, .int .i64 0, .int .i64 0, .int .i64 0, .slice none 0 0] := hp 0 _ rfl (he _ (Array.mem_of_getElem? (i := 0) rfl) (by kernel_rfl))
          clear hp he
          obtain ⟨y0, y1, y2, y3, y4, ZU⟩ := hJ.there
          obtain ⟨u5, hu5, F5, N5, S5, B5⟩ := fiveStore ZU (.int .i64 1) (.int .i64 0) (.int .i64 0) (.int .i64 0) (.slice none 0 0)
          have HU5 : Hid (_ = u5) := hu5
          have HN : Hid (Five u5 (w.heap.size + 1) (.int .i64 1) (.int .i64 0) (.int .i64 0) (.int .i64 0) (.slice none 0 0) ∧ Out (w.heap.size + 1) (w.heap.size + 1 + 1) u u5 ∧ w.heap.size + 1 < u5.heap.size) := ⟨F5, outB_store B5 N5 S5, by have := hJ.lt; omega⟩
          obtain ⟨z0, z1, z2, z3, z4, zf⟩ := id ZU
          have zf0 := zf 0
          have zf1 := zf 1
          have zf2 := zf 2
          have zf3 := zf 3
          have zf4 := zf 4
          clear hu5 F5 N5 zf
          clear B5
          go_simp
          rw [HU5.out]
          exact hK undef _ HN.out.2.1 trivial ⟨HN.out.2.2, ⟨_, _, _, _, _, HN.out.1⟩, fun _ => HN.out.1⟩
        · omega
      · intro L a u5 hf hR0 hp hJ K' hK
        have g1 : Out (w.heap.size + 1) (w.heap.size + 1 + 1) u0 u5 := (out_of_below (Below.drew (Below.refl _ _)) _ _).trans hR0
        have HB : Hid (Below w.heap.size w u5 ∧ Five u5 (w.heap.size + 1) (.int .i64 1) (.int .i64 0) (.int .i64 0) (.int .i64 0) (.slice none 0 0)) := ⟨G0.trans (g1.below (by omega) (by omega)), hJ.done (hp 13 _ (by omega) rfl).1⟩
        have m9 : a.tmps.getD 9 undef = .agg #[.int .i64 1, .int .i64 0, .int .i64 0, .int .i64 0, .slice none 0 0] := (hp 0 _ (by omega) rfl).2
        have m10 : a.tmps.getD 10 undef = .pointer (some ⟨w.heap.size, 4, none⟩) := (hp 1 _ (by omega) rfl).2
        have m11 : a.tmps.getD 11 undef = .slice (some ⟨b, off, none⟩) 2 cap := (hp 2 _ (by omega) rfl).2
        have m12 : a.tmps.getD 12 undef = .pointer (some ⟨b, off, none⟩) := (hp 3 _ (by omega) rfl).2
        have m13 : a.tmps.getD 13 undef = .agg #[.int .i64 x.k, .int .i64 x.n, .int .i64 x.ak, .int .i64 x.at_, .slice ax x.kids.length cx] := (hp 4 _ (by omega) rfl).2
        have m14 : a.tmps.getD 14 undef = .bool true := (hp 5 _ (by omega) rfl).2
        have m15 : a.tmps.getD 15 undef = .bool true := (hp 6 _ (by omega) rfl).2
        have m16 : a.tmps.getD 16 undef = undef := (hp 7 _ (by omega) rfl).2
        have m17 : a.tmps.getD 17 undef = undef := (hp 8 _ (by omega) rfl).2
        have m18 : a.tmps.getD 18 undef = undef := (hp 9 _ (by omega) rfl).2
        have m19 : a.tmps.getD 19 undef = undef := (hp 10 _ (by omega) rfl).2
        have m20 : a.tmps.getD 20 undef = undef := (hp 11 _ (by omega) rfl).2
        have m21 : a.tmps.getD 21 undef = .bool true := (hp 12 _ (by omega) rfl).2
        obtain ⟨o3, m3⟩ : ∃ z, a.tmps.getD 3 undef = z := ⟨_, rfl⟩
        obtain ⟨fq, ea, hfv⟩ := act_lit a 23 hf.size
        have md : a.defers = [] := hf.defers
        rw [md] at ea
        have m0 := hf.at_ 0 (by kernel_rfl)
        have m1 := hf.at_ 1 (by kernel_rfl)
        have m2 := hf.at_ 2 (by kernel_rfl)
        have m4 := hf.at_ 4 (by kernel_rfl)
        have m5 := hf.at_ 5 (by kernel_rfl)
        have m6 := hf.at_ 6 (by kernel_rfl)
        have m7 := hf.at_ 7 (by kernel_rfl)
        have m8 := hf.at_ 8 (by kernel_rfl)
        have m22 := hf.at_ 22 (by kernel_rfl)
        rw [← hfv] at m0 m1 m2 m4 m5 m6 m7 m8 m22 m9 m10 m11 m12 m13 m14 m15 m16 m17 m18 m19 m20 m21 m3
        simp only [Array.getD_eq_getD_getElem?, List.getElem?_toArray, List.getElem?_cons_succ, List.getElem?_cons_zero, Option.getD_some] at m0 m1 m2 m4 m5 m6 m7 m8 m22
        simp only [List.range, List.range.loop, List.map_cons, List.map_nil, m0, m1, m2, m4, m5, m6, m7, m8, m22, m9, m10, m11, m12, m13, m14, m15, m16, m17, m18, m19, m20, m21, m3] at ea
        subst ea
        clear m0 m1 m2 m4 m5 m6 m7 m8 m22 m9 m10 m11 m12 m13 m14 m15 m16 m17 m18 m19 m20 m21 m3 hfv md hf
        clear g1 hR0 hp hJ
        go_simp
        refine hK _ _ ?_
        clear hK
        show Exit.then _ _ .normal _ u5
        go_wp2
        obtain ⟨r0, r1, r2, r3, r4, _⟩ := HB.out.2
        exact bodyPost_ret (v := .tuple #[.agg #[.int .i64 1, .int .i64 0, .int .i64 0, .int .i64 0, .slice none 0 0], .bool true]) (by simp [results, Tryz.results53, go_sem, r0, r1, r2, r3, r4]) rfl (rule_done (x := numE 0) (b := true) rfl (eo_num _ _ _ _) HB.out.1 HR.out)
    | false =>
      have HR : Hid (ruleD 4 e = if (isTheB y 0) then some (numE 0) else none) := by show _ = _; rw [hrd, hz]; rw [Bool.false_or]
      clear hrd
      go_enter Tryz.func53, Tryz.ntmps53
      go_wp2_with fail
      clear hu0 e0 e1 e2 e3 e4
      have ZZ : Hid (Five u0 (w.heap.size + 1) (.int .i64 0) (.int .i64 0) (.int .i64 0) (.int .i64 0) (.slice none 0 0)) := Z0
      refine wp_region_last2 (R := Out (w.heap.size + 1) (w.heap.size + 1 + 1)) (Φ := fun i v u => match i with
          | 0 => v = .agg #[.int .i64 1, .int .i64 0, .int .i64 0, .int .i64 0, .slice none 0 0]
          | 1 => v = .pointer (some ⟨w.heap.size, 4, none⟩)
          | 2 => v = .slice (some ⟨b, off, none⟩) 2 cap
          | 3 => v = .pointer (some ⟨b, off, none⟩)
          | 4 => v = .agg #[.int .i64 x.k, .int .i64 x.n, .int .i64 x.ak, .int .i64 x.at_, .slice ax x.kids.length cx]
          | 5 => v = .bool false
          | 6 => v = .bool false
          | 7 => v = .pointer (some ⟨w.heap.size, 4, none⟩)
          | 8 => v = .slice (some ⟨b, off, none⟩) 2 cap
          | 9 => v = .pointer (some ⟨b, off + 5, none⟩)
          | 10 => v = .agg #[.int .i64 y.k, .int .i64 y.n, .int .i64 y.ak, .int .i64 y.at_, .slice ay y.kids.length cy]
          | 11 => v = .bool (isTheB y 0)
          | 12 => v = .bool (isTheB y 0)
          | _ => True)
        (J := fun L a u => ResJ 13 (w.heap.size + 1) (.int .i64 1) (.int .i64 0) (.int .i64 0) (.int .i64 0) (.slice none 0 0) L u) 14 _ rfl rfl (by kernel_rfl) (by kernel_rfl) (by kernel_rfl) (by kernel_rfl) (outB_refl _ _) (fun _ _ _ h k => h.trans k) ?_ ⟨by show _ < u0.heap.size; omega, ⟨_, _, _, _, _, ZZ.out.under (Below.drew (Below.refl u0.heap.size u0)) (by omega)⟩, fun h => by simp at h⟩ ?_ ?_
      · intro i v u u' hr
        match i with
        | 0 | 1 | 2 | 3 | 4 | 5 | 6 | 7 | 8 | 9 | 10 | 11 | 12 | 13 | _ + 14 => exact fun h => h
      · intro i o ho hin L a u hf hR0 hLs hLi hp he hJ K' hK
        have hR : Out (w.heap.size + 1) (w.heap.size + 1 + 1) u0 u := (out_of_below (Below.drew (Below.refl _ _)) _ _).trans hR0
        have hsz' : a.tmps.size = 23 := hf.size
        have hus := hR.size
        have hb : Below w.heap.size w u := G0.trans (hR.below (by omega) (by omega))
        rcases i with _ | _ | _ | _ | _ | _ | _ | _ | _ | _ | _ | _ | _ | _ | i
        · obtain rfl := Option.some.inj ho
          clear hp he
          go_simp
          refine (number_any _ 0).mono ?_
          rintro e1 u' ⟨rfl, hbu⟩
          exact hK _ _ (out_of_below hbu _ _) (getD_put_self a 9 _ (by show _ < a.tmps.size; omega)) (hJ.step (by decide) hbu)
        · obtain rfl := Option.some.inj ho
          have q1 : a.tmps.getD 1 undef = .pointer (some ⟨w.heap.size, 0, none⟩) := hf.at_ 1 (by kernel_rfl)
          clear hp he
          go_simp
          exact hK _ _ (out_of_below (Below.refl _ _) _ _) (getD_put_self a 10 _ (by show _ < a.tmps.size; omega)) (hJ.step (by decide) (Below.refl _ _))
        · obtain rfl := Option.some.inj ho
          have q10 : a.tmps.getD 10 undef = .pointer (some ⟨w.heap.size, 4, none⟩) := hp 1 _ rfl (he _ (Array.mem_of_getElem? (i := 0) rfl) (by kernel_rfl))
          clear hp he
          obtain ⟨e0, e1, e2, e3, e4, _⟩ := F0.aside' hR (by omega) (by omega)
          go_simp
          exact hK _ _ (out_of_below (Below.refl _ _) _ _) (getD_put_self a 11 _ (by show _ < a.tmps.size; omega)) (hJ.step (by decide) (Below.refl _ _))
        · obtain rfl := Option.some.inj ho
          have q11 : a.tmps.getD 11 undef = .slice (some ⟨b, off, none⟩) 2 cap := hp 2 _ rfl (he _ (Array.mem_of_getElem? (i := 0) rfl) (by kernel_rfl))
          clear hp he
          go_simp
          exact hK _ _ (out_of_below (Below.refl _ _) _ _) (getD_put_self a 12 _ (by show _ < a.tmps.size; omega)) (hJ.step (by decide) (Below.refl _ _))
        · obtain rfl := Option.some.inj ho
          have q12 : a.tmps.getD 12 undef = .pointer (some ⟨b, off, none⟩) := hp 3 _ rfl (he _ (Array.mem_of_getElem? (i := 0) rfl) (by kernel_rfl))
          clear hp he
          obtain ⟨c0, c1, c2, c3, c4⟩ := H5.out.1.kept (hb.block b (by omega))
          go_simp
          exact hK _ _ (out_of_below (Below.refl _ _) _ _) (getD_put_self a 13 _ (by show _ < a.tmps.size; omega)) (hJ.step (by decide) (Below.refl _ _))
        · obtain rfl := Option.some.inj ho
          have q13 : a.tmps.getD 13 undef = .agg #[.int .i64 x.k, .int .i64 x.n, .int .i64 x.ak, .int .i64 x.at_, .slice ax x.kids.length cx] := hp 4 _ rfl (he _ (Array.mem_of_getElem? (i := 0) rfl) (by kernel_rfl))
          clear hp he
          have hcl := isThe_any u x ax x.kids.length cx 0
          rw [hz] at hcl
          go_simp
          refine hcl.mono ?_
          rintro e1 u' ⟨rfl, hbu⟩
          exact hK _ _ (out_of_below hbu _ _) (getD_put_self a 14 _ (by show _ < a.tmps.size; omega)) (hJ.step (by decide) hbu)
        · obtain rfl := Option.some.inj ho
          have q14 : a.tmps.getD 14 undef = .bool false := hp 5 _ rfl (he _ (Array.mem_of_getElem? (i := 0) rfl) (by kernel_rfl))
          clear hp he
          go_simp
          exact hK _ _ (out_of_below (Below.refl _ _) _ _) (getD_put_self a 15 _ (by show _ < a.tmps.size; omega)) (hJ.step (by decide) (Below.refl _ _))
        · obtain rfl := Option.some.inj ho
          have q15 : a.tmps.getD 15 undef = .bool false := hp 6 _ rfl (he _ (Array.mem_of_getElem? (i := 0) rfl) (by kernel_rfl))
          have q1 : a.tmps.getD 1 undef = .pointer (some ⟨w.heap.size, 0, none⟩) := hf.at_ 1 (by kernel_rfl)
          clear hp he
          refine wanted_on rfl (yielded_g (i := 6) rfl rfl (by show 15 < a.tmps.size; omega) q15) ?_
          go_simp
          exact hK _ _ (out_of_below (Below.refl _ _) _ _) (getD_put_self a 16 _ (by show _ < a.tmps.size; omega)) (hJ.step (by decide) (Below.refl _ _))
        · obtain rfl := Option.some.inj ho
          have q15 : a.tmps.getD 15 undef = .bool false := hp 6 _ rfl (he _ (Array.mem_of_getElem? (i := 1) rfl) (by kernel_rfl))
          have q16 : a.tmps.getD 16 undef = .pointer (some ⟨w.heap.size, 4, none⟩) := hp 7 _ rfl (he _ (Array.mem_of_getElem? (i := 0) rfl) (by kernel_rfl))
          clear hp he
          obtain ⟨e0, e1, e2, e3, e4, _⟩ := F0.aside' hR (by omega) (by omega)
          refine wanted_on rfl (yielded_g (i := 6) rfl rfl (by show 15 < a.tmps.size; omega) q15) ?_
          go_simp
          exact hK _ _ (out_of_below (Below.refl _ _) _ _) (getD_put_self a 17 _ (by show _ < a.tmps.size; omega)) (hJ.step (by decide) (Below.refl _ _))
        · obtain rfl := Option.some.inj ho
          have q15 : a.tmps.getD 15 undef = .bool false := hp 6 _ rfl (he _ (Array.mem_of_getElem? (i := 1) rfl) (by kernel_rfl))
          have q17 : a.tmps.getD 17 undef = .slice (some ⟨b, off, none⟩) 2 cap := hp 8 _ rfl (he _ (Array.mem_of_getElem? (i := 0) rfl) (by kernel_rfl))
          clear hp he
          refine wanted_on rfl (yielded_g (i := 6) rfl rfl (by show 15 < a.tmps.size; omega) q15) ?_
          go_simp
          exact hK _ _ (out_of_below (Below.refl _ _) _ _) (getD_put_self a 18 _ (by show _ < a.tmps.size; omega)) (hJ.step (by decide) (Below.refl _ _))
        · obtain rfl := Option.some.inj ho
          have q15 : a.tmps.getD 15 undef = .bool false := hp 6 _ rfl (he _ (Array.mem_of_getElem? (i := 1) rfl) (by kernel_rfl))
          have q18 : a.tmps.getD 18 undef = .pointer (some ⟨b, off + 5, none⟩) := hp 9 _ rfl (he _ (Array.mem_of_getElem? (i := 0) rfl) (by kernel_rfl))
          clear hp he
          obtain ⟨c0, c1, c2, c3, c4⟩ := H5.out.2.kept (hb.block b (by omega))
          refine wanted_on rfl (yielded_g (i := 6) rfl rfl (by show 15 < a.tmps.size; omega) q15) ?_
          go_simp
          exact hK _ _ (out_of_below (Below.refl _ _) _ _) (getD_put_self a 19 _ (by show _ < a.tmps.size; omega)) (hJ.step (by decide) (Below.refl _ _))
        · obtain rfl := Option.some.inj ho
          have q15 : a.tmps.getD 15 undef = .bool false := hp 6 _ rfl (he _ (Array.mem_of_getElem? (i := 1) rfl) (by kernel_rfl))
          have q19 : a.tmps.getD 19 undef = .agg #[.int .i64 y.k, .int .i64 y.n, .int .i64 y.ak, .int .i64 y.at_, .slice ay y.kids.length cy] := hp 10 _ rfl (he _ (Array.mem_of_getElem? (i := 0) rfl) (by kernel_rfl))
          clear hp he
          refine wanted_on rfl (yielded_g (i := 6) rfl rfl (by show 15 < a.tmps.size; omega) q15) ?_
          go_simp
          refine (isThe_any _ y _ _ _ 0).mono ?_
          rintro e1 u' ⟨rfl, hbu⟩
          exact hK _ _ (out_of_below hbu _ _) (getD_put_self a 20 _ (by show _ < a.tmps.size; omega)) (hJ.step (by decide) hbu)
        · obtain rfl := Option.some.inj ho
          have q15 : a.tmps.getD 15 undef = .bool false := hp 6 _ rfl (he _ (Array.mem_of_getElem? (i := 0) rfl) (by kernel_rfl))
          have q20 : a.tmps.getD 20 undef = .bool (isTheB y 0) := hp 11 _ rfl (he _ (Array.mem_of_getElem? (i := 1) rfl) (by kernel_rfl))
          clear hp he
          go_simp
          exact hK _ _ (out_of_below (Below.refl _ _) _ _) (getD_put_self a 21 _ (by show _ < a.tmps.size; omega)) (hJ.step (by decide) (Below.refl _ _))
        · obtain rfl := Option.some.inj ho
          have q2 : a.tmps.getD 2 undef = .pointer (some ⟨w.heap.size + 1, 0, none⟩) := hf.at_ 2 (by kernel_rfl)
          have q9 : a.tmps.getD 9 undef = .agg #[.int .i64 1, .int .i64 0, .int .i64 0, .int .i64 0, .slice none 0 0] := hp 0 _ rfl (he _ (Array.mem_of_getElem? (i := 0) rfl) (by kernel_rfl))
          clear hp he
          obtain ⟨y0, y1, y2, y3, y4, ZU⟩ := hJ.there
          obtain ⟨u5, hu5, F5, N5, S5, B5⟩ := fiveStore ZU (.int .i64 1) (.int .i64 0) (.int .i64 0) (.int .i64 0) (.slice none 0 0)
          have HU5 : Hid (_ = u5) := hu5
          have HN : Hid (Five u5 (w.heap.size + 1) (.int .i64 1) (.int .i64 0) (.int .i64 0) (.int .i64 0) (.slice none 0 0) ∧ Out (w.heap.size + 1) (w.heap.size + 1 + 1) u u5 ∧ w.heap.size + 1 < u5.heap.size) := ⟨F5, outB_store B5 N5 S5, by have := hJ.lt; omega⟩
          obtain ⟨z0, z1, z2, z3, z4, zf⟩ := id ZU
          have zf0 := zf 0
          have zf1 := zf 1
          have zf2 := zf 2
          have zf3 := zf 3
          have zf4 := zf 4
          clear hu5 F5 N5 zf
          clear B5
          go_simp
          rw [HU5.out]
          exact hK undef _ HN.out.2.1 trivial ⟨HN.out.2.2, ⟨_, _, _, _, _, HN.out.1⟩, fun _ => HN.out.1⟩
        · omega
      · intro L a u5 hf hR0 hp hJ K' hK
        have g1 : Out (w.heap.size + 1) (w.heap.size + 1 + 1) u0 u5 := (out_of_below (Below.drew (Below.refl _ _)) _ _).trans hR0
        have HB : Hid (Below w.heap.size w u5 ∧ Five u5 (w.heap.size + 1) (.int .i64 1) (.int .i64 0) (.int .i64 0) (.int .i64 0) (.slice none 0 0)) := ⟨G0.trans (g1.below (by omega) (by omega)), hJ.done (hp 13 _ (by omega) rfl).1⟩
        have m9 : a.tmps.getD 9 undef = .agg #[.int .i64 1, .int .i64 0, .int .i64 0, .int .i64 0, .slice none 0 0] := (hp 0 _ (by omega) rfl).2
        have m10 : a.tmps.getD 10 undef = .pointer (some ⟨w.heap.size, 4, none⟩) := (hp 1 _ (by omega) rfl).2
        have m11 : a.tmps.getD 11 undef = .slice (some ⟨b, off, none⟩) 2 cap := (hp 2 _ (by omega) rfl).2
        have m12 : a.tmps.getD 12 undef = .pointer (some ⟨b, off, none⟩) := (hp 3 _ (by omega) rfl).2
        have m13 : a.tmps.getD 13 undef = .agg #[.int .i64 x.k, .int .i64 x.n, .int .i64 x.ak, .int .i64 x.at_, .slice ax x.kids.length cx] := (hp 4 _ (by omega) rfl).2
        have m14 : a.tmps.getD 14 undef = .bool false := (hp 5 _ (by omega) rfl).2
        have m15 : a.tmps.getD 15 undef = .bool false := (hp 6 _ (by omega) rfl).2
        have m16 : a.tmps.getD 16 undef = .pointer (some ⟨w.heap.size, 4, none⟩) := (hp 7 _ (by omega) rfl).2
        have m17 : a.tmps.getD 17 undef = .slice (some ⟨b, off, none⟩) 2 cap := (hp 8 _ (by omega) rfl).2
        have m18 : a.tmps.getD 18 undef = .pointer (some ⟨b, off + 5, none⟩) := (hp 9 _ (by omega) rfl).2
        have m19 : a.tmps.getD 19 undef = .agg #[.int .i64 y.k, .int .i64 y.n, .int .i64 y.ak, .int .i64 y.at_, .slice ay y.kids.length cy] := (hp 10 _ (by omega) rfl).2
        have m20 : a.tmps.getD 20 undef = .bool (isTheB y 0) := (hp 11 _ (by omega) rfl).2
        have m21 : a.tmps.getD 21 undef = .bool (isTheB y 0) := (hp 12 _ (by omega) rfl).2
        obtain ⟨o3, m3⟩ : ∃ z, a.tmps.getD 3 undef = z := ⟨_, rfl⟩
        obtain ⟨fq, ea, hfv⟩ := act_lit a 23 hf.size
        have md : a.defers = [] := hf.defers
        rw [md] at ea
        have m0 := hf.at_ 0 (by kernel_rfl)
        have m1 := hf.at_ 1 (by kernel_rfl)
        have m2 := hf.at_ 2 (by kernel_rfl)
        have m4 := hf.at_ 4 (by kernel_rfl)
        have m5 := hf.at_ 5 (by kernel_rfl)
        have m6 := hf.at_ 6 (by kernel_rfl)
        have m7 := hf.at_ 7 (by kernel_rfl)
        have m8 := hf.at_ 8 (by kernel_rfl)
        have m22 := hf.at_ 22 (by kernel_rfl)
        rw [← hfv] at m0 m1 m2 m4 m5 m6 m7 m8 m22 m9 m10 m11 m12 m13 m14 m15 m16 m17 m18 m19 m20 m21 m3
        simp only [Array.getD_eq_getD_getElem?, List.getElem?_toArray, List.getElem?_cons_succ, List.getElem?_cons_zero, Option.getD_some] at m0 m1 m2 m4 m5 m6 m7 m8 m22
        simp only [List.range, List.range.loop, List.map_cons, List.map_nil, m0, m1, m2, m4, m5, m6, m7, m8, m22, m9, m10, m11, m12, m13, m14, m15, m16, m17, m18, m19, m20, m21, m3] at ea
        subst ea
        clear m0 m1 m2 m4 m5 m6 m7 m8 m22 m9 m10 m11 m12 m13 m14 m15 m16 m17 m18 m19 m20 m21 m3 hfv md hf
        clear g1 hR0 hp hJ
        go_simp
        refine hK _ _ ?_
        clear hK
        show Exit.then _ _ .normal _ u5
        go_wp2
        obtain ⟨r0, r1, r2, r3, r4, _⟩ := HB.out.2
        exact bodyPost_ret (v := .tuple #[.agg #[.int .i64 1, .int .i64 0, .int .i64 0, .int .i64 0, .slice none 0 0], .bool (isTheB y 0)]) (by simp [results, Tryz.results53, go_sem, r0, r1, r2, r3, r4]) rfl (rule_done (x := numE 0) (b := (isTheB y 0)) rfl (eo_num _ _ _ _) HB.out.1 HR.out)
  by_cases h : e.k = 8
  · obtain ⟨x, y, hkids, hk0, hk1⟩ := slim_two hfm (by omega)
    obtain ⟨b, off, cap, sx, sy, lx, hx, ly, hy, rfl, hb1, hb2, h5, h5y, kx, ky, ix, iy⟩ := cells_two hko hkids
    obtain ⟨ax, cx, rfl, _, _⟩ := kx.kr.shape
    obtain ⟨ay, cy, rfl, _, _⟩ := ky.kr.shape
    have KX : Hid (KO w lx hx (.slice ax x.kids.length cx) x.kids ∧ lo ≤ lx ∧ hx ≤ hi) := ⟨kx, ix⟩
    have KY : Hid (KO w ly hy (.slice ay y.kids.length cy) y.kids ∧ lo ≤ ly ∧ hy ≤ hi) := ⟨ky, iy⟩
    have H5 : Hid (Cell5 w b off x (.slice ax x.kids.length cx) ∧ Cell5 w b (off + 5) y (.slice ay y.kids.length cy)) := ⟨h5, h5y⟩
    have hsz : ((0 : Int) < 2) := by decide
    have hsz1 : ((1 : Int) < 2) := by decide
    obtain ⟨e0, e1, e2, e3, e4, _⟩ := id F0
    have k5 : (e.k == 5) = false := by simp [h]
    have k8 : (e.k == 8) = true := by simp [h]
    have hrd : ruleD 4 e = if isTheB x 0 || isTheB y 0 then some (numE 0) else none := by
      simp only [ruleD]
      rw [hk0, hk1]
      simp [h]
    clear h hkids hk0 hk1 h5 h5y kx ky ix iy hko
    cases hz : isTheB x 0 with
    | true =>
      have HR : Hid (ruleD 4 e = if true then some (numE 0) else none) := by show _ = _; rw [hrd, hz]; rfl
      clear hrd
      go_enter Tryz.func53, Tryz.ntmps53
      go_wp2_with fail
      clear hu0 e0 e1 e2 e3 e4
      have ZZ : Hid (Five u0 (w.heap.size + 1) (.int .i64 0) (.int .i64 0) (.int .i64 0) (.int .i64 0) (.slice none 0 0)) := Z0
      refine wp_region_last2 (R := Out (w.heap.size + 1) (w.heap.size + 1 + 1)) (Φ := fun i v u => match i with
          | 0 => v = .agg #[.int .i64 1, .int .i64 0, .int .i64 0, .int .i64 0, .slice none 0 0]
          | 1 => v = .pointer (some ⟨w.heap.size, 4, none⟩)
          | 2 => v = .slice (some ⟨b, off, none⟩) 2 cap
          | 3 => v = .pointer (some ⟨b, off, none⟩)
          | 4 => v = .agg #[.int .i64 x.k, .int .i64 x.n, .int .i64 x.ak, .int .i64 x.at_, .slice ax x.kids.length cx]
          | 5 => v = .bool true
          | 6 => v = .bool true
          | 7 => v = undef
          | 8 => v = undef
          | 9 => v = undef
          | 10 => v = undef
          | 11 => v = undef
          | 12 => v = .bool true
          | _ => True)
        (J := fun L a u => ResJ 13 (w.heap.size + 1) (.int .i64 1) (.int .i64 0) (.int .i64 0) (.int .i64 0) (.slice none 0 0) L u) 14 _ rfl rfl (by kernel_rfl) (by kernel_rfl) (by kernel_rfl) (by kernel_rfl) (outB_refl _ _) (fun _ _ _ h k => h.trans k) ?_ ⟨by show _ < u0.heap.size; omega, ⟨_, _, _, _, _, ZZ.out.under (Below.drew (Below.refl u0.heap.size u0)) (by omega)⟩, fun h => by simp at h⟩ ?_ ?_
      · intro i v u u' hr
        match i with
        | 0 | 1 | 2 | 3 | 4 | 5 | 6 | 7 | 8 | 9 | 10 | 11 | 12 | 13 | _ + 14 => exact fun h => h
      · intro i o ho hin L a u hf hR0 hLs hLi hp he hJ K' hK
        have hR : Out (w.heap.size + 1) (w.heap.size + 1 + 1) u0 u := (out_of_below (Below.drew (Below.refl _ _)) _ _).trans hR0
        have hsz' : a.tmps.size = 23 := hf.size
        have hus := hR.size
        have hb : Below w.heap.size w u := G0.trans (hR.below (by omega) (by omega))
        rcases i with _ | _ | _ | _ | _ | _ | _ | _ | _ | _ | _ | _ | _ | _ | i
        · obtain rfl := Option.some.inj ho
          clear hp he
          go_simp
          refine (number_any _ 0).mono ?_
          rintro e1 u' ⟨rfl, hbu⟩
          exact hK _ _ (out_of_below hbu _ _) (getD_put_self a 9 _ (by show _ < a.tmps.size; omega)) (hJ.step (by decide) hbu)
        · obtain rfl := Option.some.inj ho
          have q1 : a.tmps.getD 1 undef = .pointer (some ⟨w.heap.size, 0, none⟩) := hf.at_ 1 (by kernel_rfl)
          clear hp he
          go_simp
          exact hK _ _ (out_of_below (Below.refl _ _) _ _) (getD_put_self a 10 _ (by show _ < a.tmps.size; omega)) (hJ.step (by decide) (Below.refl _ _))
        · obtain rfl := Option.some.inj ho
          have q10 : a.tmps.getD 10 undef = .pointer (some ⟨w.heap.size, 4, none⟩) := hp 1 _ rfl (he _ (Array.mem_of_getElem? (i := 0) rfl) (by kernel_rfl))
          clear hp he
          obtain ⟨e0, e1, e2, e3, e4, _⟩ := F0.aside' hR (by omega) (by omega)
          go_simp
          exact hK _ _ (out_of_below (Below.refl _ _) _ _) (getD_put_self a 11 _ (by show _ < a.tmps.size; omega)) (hJ.step (by decide) (Below.refl _ _))
        · obtain rfl := Option.some.inj ho
          have q11 : a.tmps.getD 11 undef = .slice (some ⟨b, off, none⟩) 2 cap := hp 2 _ rfl (he _ (Array.mem_of_getElem? (i := 0) rfl) (by kernel_rfl))
          clear hp he
          go_simp
          exact hK _ _ (out_of_below (Below.refl _ _) _ _) (getD_put_self a 12 _ (by show _ < a.tmps.size; omega)) (hJ.step (by decide) (Below.refl _ _))
        · obtain rfl := Option.some.inj ho
          have q12 : a.tmps.getD 12 undef = .pointer (some ⟨b, off, none⟩) := hp 3 _ rfl (he _ (Array.mem_of_getElem? (i := 0) rfl) (by kernel_rfl))
          clear hp he
          obtain ⟨c0, c1, c2, c3, c4⟩ := H5.out.1.kept (hb.block b (by omega))
          go_simp
          exact hK _ _ (out_of_below (Below.refl _ _) _ _) (getD_put_self a 13 _ (by show _ < a.tmps.size; omega)) (hJ.step (by decide) (Below.refl _ _))
        · obtain rfl := Option.some.inj ho
          have q13 : a.tmps.getD 13 undef = .agg #[.int .i64 x.k, .int .i64 x.n, .int .i64 x.ak, .int .i64 x.at_, .slice ax x.kids.length cx] := hp 4 _ rfl (he _ (Array.mem_of_getElem? (i := 0) rfl) (by kernel_rfl))
          clear hp he
          have hcl := isThe_any u x ax x.kids.length cx 0
          rw [hz] at hcl
          go_simp
          refine hcl.mono ?_
          rintro e1 u' ⟨rfl, hbu⟩
          exact hK _ _ (out_of_below hbu _ _) (getD_put_self a 14 _ (by show _ < a.tmps.size; omega)) (hJ.step (by decide) hbu)
        · obtain rfl := Option.some.inj ho
          have q14 : a.tmps.getD 14 undef = .bool true := hp 5 _ rfl (he _ (Array.mem_of_getElem? (i := 0) rfl) (by kernel_rfl))
          clear hp he
          go_simp
          exact hK _ _ (out_of_below (Below.refl _ _) _ _) (getD_put_self a 15 _ (by show _ < a.tmps.size; omega)) (hJ.step (by decide) (Below.refl _ _))
        · obtain rfl := Option.some.inj ho
          have q15 : a.tmps.getD 15 undef = .bool true := hp 6 _ rfl (he _ (Array.mem_of_getElem? (i := 0) rfl) (by kernel_rfl))
          refine wanted_off rfl (yielded_g (i := 6) rfl rfl (by show 15 < a.tmps.size; omega) q15) ?_
          exact hK undef u (outB_refl _ _) (getD_put_self a 16 _ (by show _ < a.tmps.size; omega)) (hJ.step (by decide) (Below.refl _ _))
        · obtain rfl := Option.some.inj ho
          have q15 : a.tmps.getD 15 undef = .bool true := hp 6 _ rfl (he _ (Array.mem_of_getElem? (i := 1) rfl) (by kernel_rfl))
          refine wanted_off rfl (yielded_g (i := 6) rfl rfl (by show 15 < a.tmps.size; omega) q15) ?_
          exact hK undef u (outB_refl _ _) (getD_put_self a 17 _ (by show _ < a.tmps.size; omega)) (hJ.step (by decide) (Below.refl _ _))
        · obtain rfl := Option.some.inj ho
          have q15 : a.tmps.getD 15 undef = .bool true := hp 6 _ rfl (he _ (Array.mem_of_getElem? (i := 1) rfl) (by kernel_rfl))
          refine wanted_off rfl (yielded_g (i := 6) rfl rfl (by show 15 < a.tmps.size; omega) q15) ?_
          exact hK undef u (outB_refl _ _) (getD_put_self a 18 _ (by show _ < a.tmps.size; omega)) (hJ.step (by decide) (Below.refl _ _))
        · obtain rfl := Option.some.inj ho
          have q15 : a.tmps.getD 15 undef = .bool true := hp 6 _ rfl (he _ (Array.mem_of_getElem? (i := 1) rfl) (by kernel_rfl))
          refine wanted_off rfl (yielded_g (i := 6) rfl rfl (by show 15 < a.tmps.size; omega) q15) ?_
          exact hK undef u (outB_refl _ _) (getD_put_self a 19 _ (by show _ < a.tmps.size; omega)) (hJ.step (by decide) (Below.refl _ _))
        · obtain rfl := Option.some.inj ho
          have q15 : a.tmps.getD 15 undef = .bool true := hp 6 _ rfl (he _ (Array.mem_of_getElem? (i := 1) rfl) (by kernel_rfl))
          refine wanted_off rfl (yielded_g (i := 6) rfl rfl (by show 15 < a.tmps.size; omega) q15) ?_
          exact hK undef u (outB_refl _ _) (getD_put_self a 20 _ (by show _ < a.tmps.size; omega)) (hJ.step (by decide) (Below.refl _ _))
        · obtain rfl := Option.some.inj ho
          have q15 : a.tmps.getD 15 undef = .bool true := hp 6 _ rfl (he _ (Array.mem_of_getElem? (i := 0) rfl) (by kernel_rfl))
          have q20 : a.tmps.getD 20 undef = undef := hp 11 _ rfl (he _ (Array.mem_of_getElem? (i := 1) rfl) (by kernel_rfl))
          clear hp he
          go_simp
          exact hK _ _ (out_of_below (Below.refl _ _) _ _) (getD_put_self a 21 _ (by show _ < a.tmps.size; omega)) (hJ.step (by decide) (Below.refl _ _))
        · obtain rfl := Option.some.inj ho
          have q2 : a.tmps.getD 2 undef = .pointer (some ⟨w.heap.size + 1, 0, none⟩) := hf.at_ 2 (by kernel_rfl)
          have q9 : a.tmps.getD 9 undef = .agg #[.int .i64 1, .int .i64 0, .int .i64 0, .int .i64 0, .slice none 0 0] := hp 0 _ rfl (he _ (Array.mem_of_getElem? (i := 0) rfl) (by kernel_rfl))
          clear hp he
          obtain ⟨y0, y1, y2, y3, y4, ZU⟩ := hJ.there
          obtain ⟨u5, hu5, F5, N5, S5, B5⟩ := fiveStore ZU (.int .i64 1) (.int .i64 0) (.int .i64 0) (.int .i64 0) (.slice none 0 0)
          have HU5 : Hid (_ = u5) := hu5
          have HN : Hid (Five u5 (w.heap.size + 1) (.int .i64 1) (.int .i64 0) (.int .i64 0) (.int .i64 0) (.slice none 0 0) ∧ Out (w.heap.size + 1) (w.heap.size + 1 + 1) u u5 ∧ w.heap.size + 1 < u5.heap.size) := ⟨F5, outB_store B5 N5 S5, by have := hJ.lt; omega⟩
          obtain ⟨z0, z1, z2, z3, z4, zf⟩ := id ZU
          have zf0 := zf 0
          have zf1 := zf 1
          have zf2 := zf 2
          have zf3 := zf 3
          have zf4 := zf 4
          clear hu5 F5 N5 zf
          clear B5
          go_simp
          rw [HU5.out]
          exact hK undef _ HN.out.2.1 trivial ⟨HN.out.2.2, ⟨_, _, _, _, _, HN.out.1⟩, fun _ => HN.out.1⟩
        · omega
      · intro L a u5 hf hR0 hp hJ K' hK
        have g1 : Out (w.heap.size + 1) (w.heap.size + 1 + 1) u0 u5 := (out_of_below (Below.drew (Below.refl _ _)) _ _).trans hR0
        have HB : Hid (Below w.heap.size w u5 ∧ Five u5 (w.heap.size + 1) (.int .i64 1) (.int .i64 0) (.int .i64 0) (.int .i64 0) (.slice none 0 0)) := ⟨G0.trans (g1.below (by omega) (by omega)), hJ.done (hp 13 _ (by omega) rfl).1⟩
        have m9 : a.tmps.getD 9 undef = .agg #[.int .i64 1, .int .i64 0, .int .i64 0, .int .i64 0, .slice none 0 0] := (hp 0 _ (by omega) rfl).2
        have m10 : a.tmps.getD 10 undef = .pointer (some ⟨w.heap.size, 4, none⟩) := (hp 1 _ (by omega) rfl).2
        have m11 : a.tmps.getD 11 undef = .slice (some ⟨b, off, none⟩) 2 cap := (hp 2 _ (by omega) rfl).2
        have m12 : a.tmps.getD 12 undef = .pointer (some ⟨b, off, none⟩) := (hp 3 _ (by omega) rfl).2
        have m13 : a.tmps.getD 13 undef = .agg #[.int .i64 x.k, .int .i64 x.n, .int .i64 x.ak, .int .i64 x.at_, .slice ax x.kids.length cx] := (hp 4 _ (by omega) rfl).2
        have m14 : a.tmps.getD 14 undef = .bool true := (hp 5 _ (by omega) rfl).2
        have m15 : a.tmps.getD 15 undef = .bool true := (hp 6 _ (by omega) rfl).2
        have m16 : a.tmps.getD 16 undef = undef := (hp 7 _ (by omega) rfl).2
        have m17 : a.tmps.getD 17 undef = undef := (hp 8 _ (by omega) rfl).2
        have m18 : a.tmps.getD 18 undef = undef := (hp 9 _ (by omega) rfl).2
        have m19 : a.tmps.getD 19 undef = undef := (hp 10 _ (by omega) rfl).2
        have m20 : a.tmps.getD 20 undef = undef := (hp 11 _ (by omega) rfl).2
        have m21 : a.tmps.getD 21 undef = .bool true := (hp 12 _ (by omega) rfl).2
        obtain ⟨o3, m3⟩ : ∃ z, a.tmps.getD 3 undef = z := ⟨_, rfl⟩
        obtain ⟨fq, ea, hfv⟩ := act_lit a 23 hf.size
        have md : a.defers = [] := hf.defers
        rw [md] at ea
        have m0 := hf.at_ 0 (by kernel_rfl)
        have m1 := hf.at_ 1 (by kernel_rfl)
        have m2 := hf.at_ 2 (by kernel_rfl)
        have m4 := hf.at_ 4 (by kernel_rfl)
        have m5 := hf.at_ 5 (by kernel_rfl)
        have m6 := hf.at_ 6 (by kernel_rfl)
        have m7 := hf.at_ 7 (by kernel_rfl)
        have m8 := hf.at_ 8 (by kernel_rfl)
        have m22 := hf.at_ 22 (by kernel_rfl)
        rw [← hfv] at m0 m1 m2 m4 m5 m6 m7 m8 m22 m9 m10 m11 m12 m13 m14 m15 m16 m17 m18 m19 m20 m21 m3
        simp only [Array.getD_eq_getD_getElem?, List.getElem?_toArray, List.getElem?_cons_succ, List.getElem?_cons_zero, Option.getD_some] at m0 m1 m2 m4 m5 m6 m7 m8 m22
        simp only [List.range, List.range.loop, List.map_cons, List.map_nil, m0, m1, m2, m4, m5, m6, m7, m8, m22, m9, m10, m11, m12, m13, m14, m15, m16, m17, m18, m19, m20, m21, m3] at ea
        subst ea
        clear m0 m1 m2 m4 m5 m6 m7 m8 m22 m9 m10 m11 m12 m13 m14 m15 m16 m17 m18 m19 m20 m21 m3 hfv md hf
        clear g1 hR0 hp hJ
        go_simp
        refine hK _ _ ?_
        clear hK
        show Exit.then _ _ .normal _ u5
        go_wp2
        obtain ⟨r0, r1, r2, r3, r4, _⟩ := HB.out.2
        exact bodyPost_ret (v := .tuple #[.agg #[.int .i64 1, .int .i64 0, .int .i64 0, .int .i64 0, .slice none 0 0], .bool true]) (by simp [results, Tryz.results53, go_sem, r0, r1, r2, r3, r4]) rfl (rule_done (x := numE 0) (b := true) rfl (eo_num _ _ _ _) HB.out.1 HR.out)
    | false =>
      have HR : Hid (ruleD 4 e = if (isTheB y 0) then some (numE 0) else none) := by show _ = _; rw [hrd, hz]; rw [Bool.false_or]
      clear hrd
      go_enter Tryz.func53, Tryz.ntmps53
      go_wp2_with fail
      clear hu0 e0 e1 e2 e3 e4
      have ZZ : Hid (Five u0 (w.heap.size + 1) (.int .i64 0) (.int .i64 0) (.int .i64 0) (.int .i64 0) (.slice none 0 0)) := Z0
      refine wp_region_last2 (R := Out (w.heap.size + 1) (w.heap.size + 1 + 1)) (Φ := fun i v u => match i with
          | 0 => v = .agg #[.int .i64 1, .int .i64 0, .int .i64 0, .int .i64 0, .slice none 0 0]
          | 1 => v = .pointer (some ⟨w.heap.size, 4, none⟩)
          | 2 => v = .slice (some ⟨b, off, none⟩) 2 cap
          | 3 => v = .pointer (some ⟨b, off, none⟩)
          | 4 => v = .agg #[.int .i64 x.k, .int .i64 x.n, .int .i64 x.ak, .int .i64 x.at_, .slice ax x.kids.length cx]
          | 5 => v = .bool false
          | 6 => v = .bool false
          | 7 => v = .pointer (some ⟨w.heap.size, 4, none⟩)
          | 8 => v = .slice (some ⟨b, off, none⟩) 2 cap
          | 9 => v = .pointer (some ⟨b, off + 5, none⟩)
          | 10 => v = .agg #[.int .i64 y.k, .int .i64 y.n, .int .i64 y.ak, .int .i64 y.at_, .slice ay y.kids.length cy]
          | 11 => v = .bool (isTheB y 0)
          | 12 => v = .bool (isTheB y 0)
          | _ => True)
        (J := fun L a u => ResJ 13 (w.heap.size + 1) (.int .i64 1) (.int .i64 0) (.int .i64 0) (.int .i64 0) (.slice none 0 0) L u) 14 _ rfl rfl (by kernel_rfl) (by kernel_rfl) (by kernel_rfl) (by kernel_rfl) (outB_refl _ _) (fun _ _ _ h k => h.trans k) ?_ ⟨by show _ < u0.heap.size; omega, ⟨_, _, _, _, _, ZZ.out.under (Below.drew (Below.refl u0.heap.size u0)) (by omega)⟩, fun h => by simp at h⟩ ?_ ?_
      · intro i v u u' hr
        match i with
        | 0 | 1 | 2 | 3 | 4 | 5 | 6 | 7 | 8 | 9 | 10 | 11 | 12 | 13 | _ + 14 => exact fun h => h
      · intro i o ho hin L a u hf hR0 hLs hLi hp he hJ K' hK
        have hR : Out (w.heap.size + 1) (w.heap.size + 1 + 1) u0 u := (out_of_below (Below.drew (Below.refl _ _)) _ _).trans hR0
        have hsz' : a.tmps.size = 23 := hf.size
        have hus := hR.size
        have hb : Below w.heap.size w u := G0.trans (hR.below (by omega) (by omega))
        rcases i with _ | _ | _ | _ | _ | _ | _ | _ | _ | _ | _ | _ | _ | _ | i
        · obtain rfl := Option.some.inj ho
          clear hp he
          go_simp
          refine (number_any _ 0).mono ?_
          rintro e1 u' ⟨rfl, hbu⟩
          exact hK _ _ (out_of_below hbu _ _) (getD_put_self a 9 _ (by show _ < a.tmps.size; omega)) (hJ.step (by decide) hbu)
        · obtain rfl := Option.some.inj ho
          have q1 : a.tmps.getD 1 undef = .pointer (some ⟨w.heap.size, 0, none⟩) := hf.at_ 1 (by kernel_rfl)
          clear hp he
          go_simp
          exact hK _ _ (out_of_below (Below.refl _ _) _ _) (getD_put_self a 10 _ (by show _ < a.tmps.size; omega)) (hJ.step (by decide) (Below.refl _ _))
        · obtain rfl := Option.some.inj ho
          have q10 : a.tmps.getD 10 undef = .pointer (some ⟨w.heap.size, 4, none⟩) := hp 1 _ rfl (he _ (Array.mem_of_getElem? (i := 0) rfl) (by kernel_rfl))
          clear hp he
          obtain ⟨e0, e1, e2, e3, e4, _⟩ := F0.aside' hR (by omega) (by omega)
          go_simp
          exact hK _ _ (out_of_below (Below.refl _ _) _ _) (getD_put_self a 11 _ (by show _ < a.tmps.size; omega)) (hJ.step (by decide) (Below.refl _ _))
        · obtain rfl := Option.some.inj ho
          have q11 : a.tmps.getD 11 undef = .slice (some ⟨b, off, none⟩) 2 cap := hp 2 _ rfl (he _ (Array.mem_of_getElem? (i := 0) rfl) (by kernel_rfl))
          clear hp he
          go_simp
          exact hK _ _ (out_of_below (Below.refl _ _) _ _) (getD_put_self a 12 _ (by show _ < a.tmps.size; omega)) (hJ.step (by decide) (Below.refl _ _))
        · obtain rfl := Option.some.inj ho
          have q12 : a.tmps.getD 12 undef = .pointer (some ⟨b, off, none⟩) := hp 3 _ rfl (he _ (Array.mem_of_getElem? (i := 0) rfl) (by kernel_rfl))
          clear hp he
          obtain ⟨c0, c1, c2, c3, c4⟩ := H5.out.1.kept (hb.block b (by omega))
          go_simp
          exact hK _ _ (out_of_below (Below.refl _ _) _ _) (getD_put_self a 13 _ (by show _ < a.tmps.size; omega)) (hJ.step (by decide) (Below.refl _ _))
        · obtain rfl := Option.some.inj ho
          have q13 : a.tmps.getD 13 undef = .agg #[.int .i64 x.k, .int .i64 x.n, .int .i64 x.ak, .int .i64 x.at_, .slice ax x.kids.length cx] := hp 4 _ rfl (he _ (Array.mem_of_getElem? (i := 0) rfl) (by kernel_rfl))
          clear hp he
          have hcl := isThe_any u x ax x.kids.length cx 0
          rw [hz] at hcl
          go_simp
          refine hcl.mono ?_
          rintro e1 u' ⟨rfl, hbu⟩
          exact hK _ _ (out_of_below hbu _ _) (getD_put_self a 14 _ (by show _ < a.tmps.size; omega)) (hJ.step (by decide) hbu)
        · obtain rfl := Option.some.inj ho
          have q14 : a.tmps.getD 14 undef = .bool false := hp 5 _ rfl (he _ (Array.mem_of_getElem? (i := 0) rfl) (by kernel_rfl))
          clear hp he
          go_simp
          exact hK _ _ (out_of_below (Below.refl _ _) _ _) (getD_put_self a 15 _ (by show _ < a.tmps.size; omega)) (hJ.step (by decide) (Below.refl _ _))
        · obtain rfl := Option.some.inj ho
          have q15 : a.tmps.getD 15 undef = .bool false := hp 6 _ rfl (he _ (Array.mem_of_getElem? (i := 0) rfl) (by kernel_rfl))
          have q1 : a.tmps.getD 1 undef = .pointer (some ⟨w.heap.size, 0, none⟩) := hf.at_ 1 (by kernel_rfl)
          clear hp he
          refine wanted_on rfl (yielded_g (i := 6) rfl rfl (by show 15 < a.tmps.size; omega) q15) ?_
          go_simp
          exact hK _ _ (out_of_below (Below.refl _ _) _ _) (getD_put_self a 16 _ (by show _ < a.tmps.size; omega)) (hJ.step (by decide) (Below.refl _ _))
        · obtain rfl := Option.some.inj ho
          have q15 : a.tmps.getD 15 undef = .bool false := hp 6 _ rfl (he _ (Array.mem_of_getElem? (i := 1) rfl) (by kernel_rfl))
          have q16 : a.tmps.getD 16 undef = .pointer (some ⟨w.heap.size, 4, none⟩) := hp 7 _ rfl (he _ (Array.mem_of_getElem? (i := 0) rfl) (by kernel_rfl))
          clear hp he
          obtain ⟨e0, e1, e2, e3, e4, _⟩ := F0.aside' hR (by omega) (by omega)
          refine wanted_on rfl (yielded_g (i := 6) rfl rfl (by show 15 < a.tmps.size; omega) q15) ?_
          go_simp
          exact hK _ _ (out_of_below (Below.refl _ _) _ _) (getD_put_self a 17 _ (by show _ < a.tmps.size; omega)) (hJ.step (by decide) (Below.refl _ _))
        · obtain rfl := Option.some.inj ho
          have q15 : a.tmps.getD 15 undef = .bool false := hp 6 _ rfl (he _ (Array.mem_of_getElem? (i := 1) rfl) (by kernel_rfl))
          have q17 : a.tmps.getD 17 undef = .slice (some ⟨b, off, none⟩) 2 cap := hp 8 _ rfl (he _ (Array.mem_of_getElem? (i := 0) rfl) (by kernel_rfl))
          clear hp he
          refine wanted_on rfl (yielded_g (i := 6) rfl rfl (by show 15 < a.tmps.size; omega) q15) ?_
          go_simp
          exact hK _ _ (out_of_below (Below.refl _ _) _ _) (getD_put_self a 18 _ (by show _ < a.tmps.size; omega)) (hJ.step (by decide) (Below.refl _ _))
        · obtain rfl := Option.some.inj ho
          have q15 : a.tmps.getD 15 undef = .bool false := hp 6 _ rfl (he _ (Array.mem_of_getElem? (i := 1) rfl) (by kernel_rfl))
          have q18 : a.tmps.getD 18 undef = .pointer (some ⟨b, off + 5, none⟩) := hp 9 _ rfl (he _ (Array.mem_of_getElem? (i := 0) rfl) (by kernel_rfl))
          clear hp he
          obtain ⟨c0, c1, c2, c3, c4⟩ := H5.out.2.kept (hb.block b (by omega))
          refine wanted_on rfl (yielded_g (i := 6) rfl rfl (by show 15 < a.tmps.size; omega) q15) ?_
          go_simp
          exact hK _ _ (out_of_below (Below.refl _ _) _ _) (getD_put_self a 19 _ (by show _ < a.tmps.size; omega)) (hJ.step (by decide) (Below.refl _ _))
        · obtain rfl := Option.some.inj ho
          have q15 : a.tmps.getD 15 undef = .bool false := hp 6 _ rfl (he _ (Array.mem_of_getElem? (i := 1) rfl) (by kernel_rfl))
          have q19 : a.tmps.getD 19 undef = .agg #[.int .i64 y.k, .int .i64 y.n, .int .i64 y.ak, .int .i64 y.at_, .slice ay y.kids.length cy] := hp 10 _ rfl (he _ (Array.mem_of_getElem? (i := 0) rfl) (by kernel_rfl))
          clear hp he
          refine wanted_on rfl (yielded_g (i := 6) rfl rfl (by show 15 < a.tmps.size; omega) q15) ?_
          go_simp
          refine (isThe_any _ y _ _ _ 0).mono ?_
          rintro e1 u' ⟨rfl, hbu⟩
          exact hK _ _ (out_of_below hbu _ _) (getD_put_self a 20 _ (by show _ < a.tmps.size; omega)) (hJ.step (by decide) hbu)
        · obtain rfl := Option.some.inj ho
          have q15 : a.tmps.getD 15 undef = .bool false := hp 6 _ rfl (he _ (Array.mem_of_getElem? (i := 0) rfl) (by kernel_rfl))
          have q20 : a.tmps.getD 20 undef = .bool (isTheB y 0) := hp 11 _ rfl (he _ (Array.mem_of_getElem? (i := 1) rfl) (by kernel_rfl))
          clear hp he
          go_simp
          exact hK _ _ (out_of_below (Below.refl _ _) _ _) (getD_put_self a 21 _ (by show _ < a.tmps.size; omega)) (hJ.step (by decide) (Below.refl _ _))
        · obtain rfl := Option.some.inj ho
          have q2 : a.tmps.getD 2 undef = .pointer (some ⟨w.heap.size + 1, 0, none⟩) := hf.at_ 2 (by kernel_rfl)
          have q9 : a.tmps.getD 9 undef = .agg #[.int .i64 1, .int .i64 0, .int .i64 0, .int .i64 0, .slice none 0 0] := hp 0 _ rfl (he _ (Array.mem_of_getElem? (i := 0) rfl) (by kernel_rfl))
          clear hp he
          obtain ⟨y0, y1, y2, y3, y4, ZU⟩ := hJ.there
          obtain ⟨u5, hu5, F5, N5, S5, B5⟩ := fiveStore ZU (.int .i64 1) (.int .i64 0) (.int .i64 0) (.int .i64 0) (.slice none 0 0)
          have HU5 : Hid (_ = u5) := hu5
          have HN : Hid (Five u5 (w.heap.size + 1) (.int .i64 1) (.int .i64 0) (.int .i64 0) (.int .i64 0) (.slice none 0 0) ∧ Out (w.heap.size + 1) (w.heap.size + 1 + 1) u u5 ∧ w.heap.size + 1 < u5.heap.size) := ⟨F5, outB_store B5 N5 S5, by have := hJ.lt; omega⟩
          obtain ⟨z0, z1, z2, z3, z4, zf⟩ := id ZU
          have zf0 := zf 0
          have zf1 := zf 1
          have zf2 := zf 2
          have zf3 := zf 3
          have zf4 := zf 4
          clear hu5 F5 N5 zf
          clear B5
          go_simp
          rw [HU5.out]
          exact hK undef _ HN.out.2.1 trivial ⟨HN.out.2.2, ⟨_, _, _, _, _, HN.out.1⟩, fun _ => HN.out.1⟩
        · omega
      · intro L a u5 hf hR0 hp hJ K' hK
        have g1 : Out (w.heap.size + 1) (w.heap.size + 1 + 1) u0 u5 := (out_of_below (Below.drew (Below.refl _ _)) _ _).trans hR0
        have HB : Hid (Below w.heap.size w u5 ∧ Five u5 (w.heap.size + 1) (.int .i64 1) (.int .i64 0) (.int .i64 0) (.int .i64 0) (.slice none 0 0)) := ⟨G0.trans (g1.below (by omega) (by omega)), hJ.done (hp 13 _ (by omega) rfl).1⟩
        have m9 : a.tmps.getD 9 undef = .agg #[.int .i64 1, .int .i64 0, .int .i64 0, .int .i64 0, .slice none 0 0] := (hp 0 _ (by omega) rfl).2
        have m10 : a.tmps.getD 10 undef = .pointer (some ⟨w.heap.size, 4, none⟩) := (hp 1 _ (by omega) rfl).2
        have m11 : a.tmps.getD 11 undef = .slice (some ⟨b, off, none⟩) 2 cap := (hp 2 _ (by omega) rfl).2
        have m12 : a.tmps.getD 12 undef = .pointer (some ⟨b, off, none⟩) := (hp 3 _ (by omega) rfl).2
        have m13 : a.tmps.getD 13 undef = .agg #[.int .i64 x.k, .int .i64 x.n, .int .i64 x.ak, .int .i64 x.at_, .slice ax x.kids.length cx] := (hp 4 _ (by omega) rfl).2
        have m14 : a.tmps.getD 14 undef = .bool false := (hp 5 _ (by omega) rfl).2
        have m15 : a.tmps.getD 15 undef = .bool false := (hp 6 _ (by omega) rfl).2
        have m16 : a.tmps.getD 16 undef = .pointer (some ⟨w.heap.size, 4, none⟩) := (hp 7 _ (by omega) rfl).2
        have m17 : a.tmps.getD 17 undef = .slice (some ⟨b, off, none⟩) 2 cap := (hp 8 _ (by omega) rfl).2
        have m18 : a.tmps.getD 18 undef = .pointer (some ⟨b, off + 5, none⟩) := (hp 9 _ (by omega) rfl).2
        have m19 : a.tmps.getD 19 undef = .agg #[.int .i64 y.k, .int .i64 y.n, .int .i64 y.ak, .int .i64 y.at_, .slice ay y.kids.length cy] := (hp 10 _ (by omega) rfl).2
        have m20 : a.tmps.getD 20 undef = .bool (isTheB y 0) := (hp 11 _ (by omega) rfl).2
        have m21 : a.tmps.getD 21 undef = .bool (isTheB y 0) := (hp 12 _ (by omega) rfl).2
        obtain ⟨o3, m3⟩ : ∃ z, a.tmps.getD 3 undef = z := ⟨_, rfl⟩
        obtain ⟨fq, ea, hfv⟩ := act_lit a 23 hf.size
        have md : a.defers = [] := hf.defers
        rw [md] at ea
        have m0 := hf.at_ 0 (by kernel_rfl)
        have m1 := hf.at_ 1 (by kernel_rfl)
        have m2 := hf.at_ 2 (by kernel_rfl)
        have m4 := hf.at_ 4 (by kernel_rfl)
        have m5 := hf.at_ 5 (by kernel_rfl)
        have m6 := hf.at_ 6 (by kernel_rfl)
        have m7 := hf.at_ 7 (by kernel_rfl)
        have m8 := hf.at_ 8 (by kernel_rfl)
        have m22 := hf.at_ 22 (by kernel_rfl)
        rw [← hfv] at m0 m1 m2 m4 m5 m6 m7 m8 m22 m9 m10 m11 m12 m13 m14 m15 m16 m17 m18 m19 m20 m21 m3
        simp only [Array.getD_eq_getD_getElem?, List.getElem?_toArray, List.getElem?_cons_succ, List.getElem?_cons_zero, Option.getD_some] at m0 m1 m2 m4 m5 m6 m7 m8 m22
        simp only [List.range, List.range.loop, List.map_cons, List.map_nil, m0, m1, m2, m4, m5, m6, m7, m8, m22, m9, m10, m11, m12, m13, m14, m15, m16, m17, m18, m19, m20, m21, m3] at ea
        subst ea
        clear m0 m1 m2 m4 m5 m6 m7 m8 m22 m9 m10 m11 m12 m13 m14 m15 m16 m17 m18 m19 m20 m21 m3 hfv md hf
        clear g1 hR0 hp hJ
        go_simp
        refine hK _ _ ?_
        clear hK
        show Exit.then _ _ .normal _ u5
        go_wp2
        obtain ⟨r0, r1, r2, r3, r4, _⟩ := HB.out.2
        exact bodyPost_ret (v := .tuple #[.agg #[.int .i64 1, .int .i64 0, .int .i64 0, .int .i64 0, .slice none 0 0], .bool (isTheB y 0)]) (by simp [results, Tryz.results53, go_sem, r0, r1, r2, r3, r4]) rfl (rule_done (x := numE 0) (b := (isTheB y 0)) rfl (eo_num _ _ _ _) HB.out.1 HR.out)
  have HR : Hid (ruleD 4 e = if false then some (.mk 0 0 0 0 []) else none) := by
    show _ = _
    simp only [ruleD]
    simp [*]
  have k5 : (e.k == 5) = false := by simp [*]
  have k8 : (e.k == 8) = false := by simp [*]
  obtain ⟨ad, cap, rfl, _, _⟩ := hko.kr.shape
  clear hu0 G0 F0 Z0 S0
  go_enter Tryz.func53, Tryz.ntmps53
  go_wp2
  exact bodyPost_ret (v := .tuple #[.agg #[.int .i64 0, .int .i64 0, .int .i64 0, .int .i64 0, .slice none 0 0], .bool false]) (by simp [results, Tryz.results53, go_sem]) rfl (rule_done (x := .mk 0 0 0 0 []) (b := false) rfl (eo_none _ _ _) (b2 _ _) HR.out)

end Go.Proofs.YtkeockippmmneaaGreat
