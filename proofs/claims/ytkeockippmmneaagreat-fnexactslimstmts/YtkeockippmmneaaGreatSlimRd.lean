/-
  Chapter 10's program: rule 5. (Written by our generator gen_slimr.py.)
-/
import Derived.Test.YtkeockippmmneaaGreatSlimR
import Derived.Test.YtkeockippmmneaaGreatAlikeC
namespace Go.Proofs.YtkeockippmmneaaGreat
open Go.ChangeShapes Go.WideShapes Go.ChangeAt Go.RowKit
set_option linter.unusedVariables false
set_option maxRecDepth 100000

theorem alike_bool (w : World) (lo hi lo' hi' : Nat) (va vb : Value) (a b : ExprD) (ha : EO w lo hi va a) (hb : ER w lo' hi' vb b) (hhi : hi ≤ w.heap.size) (hhi' : hi' ≤ w.heap.size) (hna : manyE a ≤ 1048577) (hnb : manyE b ≤ 1048577) :
    Calls Tryz.prog 67 #[va, vb] w fun e w' => e = .returned (.bool (sameE a b)) ∧ Below w.heap.size w w' :=
  (iExprAlike_any w lo hi lo' hi' 0 va vb a b ha hb hhi hhi' hna hnb).mono fun e w' h => by
    obtain ⟨r, he, hr, hb⟩ := h
    have : r = sameE a b := Bool.eq_iff_iff.mpr (hr.trans (sameE_iff a b).symm)
    subst this
    exact ⟨he, hb⟩

set_option maxHeartbeats 8000000 in
theorem twoAlike_rule : RuleC 54 5 := by
  intro d w lo hi v e hd ho hhi hfm
  obtain ⟨s, rfl, hko⟩ := ho
  have b2 := fun o o' => ((Below.refl w.heap.size w).alloc (Nat.le_refl _) o).alloc (by simp) o'
  obtain ⟨u0, hu0, G0, F0, Z0, S0⟩ := rule_start w e s 42
  by_cases h : e.k = 7
  · obtain ⟨x, y, hkids, hk0, hk1⟩ := slim_two hfm (by omega)
    obtain ⟨b, off, cap, sx, sy, lx, hx, ly, hy, rfl, hb1, hb2, h5, h5y, kx, ky, ix, iy⟩ := cells_two hko hkids
    obtain ⟨ax, cx, rfl, _, _⟩ := kx.kr.shape
    obtain ⟨ay, cy, rfl, _, _⟩ := ky.kr.shape
    have KX : Hid (KO w lx hx (.slice ax x.kids.length cx) x.kids ∧ lo ≤ lx ∧ hx ≤ hi) := ⟨kx, ix⟩
    have KY : Hid (KO w ly hy (.slice ay y.kids.length cy) y.kids ∧ lo ≤ ly ∧ hy ≤ hi) := ⟨ky, iy⟩
    have H5 : Hid (Cell5 w b off x (.slice ax x.kids.length cx) ∧ Cell5 w b (off + 5) y (.slice ay y.kids.length cy)) := ⟨h5, h5y⟩
    have hsz : ((0 : Int) < 2) := by decide
    have hsz1 : ((1 : Int) < 2) := by decide
    obtain ⟨e0, e1, e2, e3, e4, _⟩ := id F0
    have hm64 : ∀ z, z ∈ e.kids → manyE z ≤ 1048577 := fun z hz => by
      have h1 := form_many d z ((form_know hfm).2 z hz)
      have h2 : 2 ^ d ≤ 2 ^ 6 := Nat.pow_le_pow_right (by decide) hd
      omega
    have HM : Hid (manyE x ≤ 1048577 ∧ manyE y ≤ 1048577) := ⟨hm64 x (by rw [hkids]; simp), hm64 y (by rw [hkids]; simp)⟩
    have HR : Hid (ruleD 5 e = if sameE x y then some (numE 1) else none) := by
      show _ = _
      simp only [ruleD]
      rw [hk0, hk1]
      simp [h]
    have k7 : (e.k == 7) = true := by simp [h]
    have k6 : (e.k == 6) = false := by simp [h]
    have k4 : (e.k == 4) = false := by simp [h]
    clear h hkids hk0 hk1 h5 h5y kx ky ix iy hko hm64 hfm
    go_enter Tryz.func54, Tryz.ntmps54
    go_wp2_with fail
    clear hu0 e0 e1 e2 e3 e4
    have ZZ : Hid (Five u0 (w.heap.size + 1) (.int .i64 0) (.int .i64 0) (.int .i64 0) (.int .i64 0) (.slice none 0 0)) := Z0
    refine wp_region_last2 (R := Out (w.heap.size + 1) (w.heap.size + 1 + 1)) (Φ := fun i v u => match i with
        | 0 => v = .agg #[.int .i64 1, .int .i64 1, .int .i64 0, .int .i64 0, .slice none 0 0]
        | 1 => v = .pointer (some ⟨w.heap.size, 4, none⟩)
        | 2 => v = .slice (some ⟨b, off, none⟩) 2 cap
        | 3 => v = .pointer (some ⟨b, off, none⟩)
        | 4 => v = .agg #[.int .i64 x.k, .int .i64 x.n, .int .i64 x.ak, .int .i64 x.at_, .slice ax x.kids.length cx]
        | 5 => v = .pointer (some ⟨w.heap.size, 4, none⟩)
        | 6 => v = .slice (some ⟨b, off, none⟩) 2 cap
        | 7 => v = .pointer (some ⟨b, off + 5, none⟩)
        | 8 => v = .agg #[.int .i64 y.k, .int .i64 y.n, .int .i64 y.ak, .int .i64 y.at_, .slice ay y.kids.length cy]
        | 9 => v = .bool (sameE x y)
        | _ => True)
      (J := fun L a u => ResJ 10 (w.heap.size + 1) (.int .i64 1) (.int .i64 1) (.int .i64 0) (.int .i64 0) (.slice none 0 0) L u) 11 _ rfl rfl (by kernel_rfl) (by kernel_rfl) (by kernel_rfl) (by kernel_rfl) (outB_refl _ _) (fun _ _ _ h k => h.trans k) ?_ ⟨by show _ < u0.heap.size; omega, ⟨_, _, _, _, _, ZZ.out.under (Below.drew (Below.refl u0.heap.size u0)) (by omega)⟩, fun h => by simp at h⟩ ?_ ?_
    · intro i v u u' hr
      match i with
      | 0 | 1 | 2 | 3 | 4 | 5 | 6 | 7 | 8 | 9 | 10 | _ + 11 => exact fun h => h
    · intro i o ho hin L a u hf hR0 hLs hLi hp he hJ K' hK
      have hR : Out (w.heap.size + 1) (w.heap.size + 1 + 1) u0 u := (out_of_below (Below.drew (Below.refl _ _)) _ _).trans hR0
      have hsz' : a.tmps.size = 32 := hf.size
      have hus := hR.size
      have hb : Below w.heap.size w u := G0.trans (hR.below (by omega) (by omega))
      rcases i with _ | _ | _ | _ | _ | _ | _ | _ | _ | _ | _ | i
      · obtain rfl := Option.some.inj ho
        clear hp he
        go_simp
        refine (number_any _ 1).mono ?_
        rintro e1 u' ⟨rfl, hbu⟩
        exact hK _ _ (out_of_below hbu _ _) (getD_put_self a 8 _ (by show _ < a.tmps.size; omega)) (hJ.step (by decide) hbu)
      · obtain rfl := Option.some.inj ho
        have q1 : a.tmps.getD 1 undef = .pointer (some ⟨w.heap.size, 0, none⟩) := hf.at_ 1 (by kernel_rfl)
        clear hp he
        go_simp
        exact hK _ _ (out_of_below (Below.refl _ _) _ _) (getD_put_self a 9 _ (by show _ < a.tmps.size; omega)) (hJ.step (by decide) (Below.refl _ _))
      · obtain rfl := Option.some.inj ho
        have q9 : a.tmps.getD 9 undef = .pointer (some ⟨w.heap.size, 4, none⟩) := hp 1 _ rfl (he _ (Array.mem_of_getElem? (i := 0) rfl) (by kernel_rfl))
        clear hp he
        obtain ⟨e0, e1, e2, e3, e4, _⟩ := F0.aside' hR (by omega) (by omega)
        go_simp
        exact hK _ _ (out_of_below (Below.refl _ _) _ _) (getD_put_self a 10 _ (by show _ < a.tmps.size; omega)) (hJ.step (by decide) (Below.refl _ _))
      · obtain rfl := Option.some.inj ho
        have q10 : a.tmps.getD 10 undef = .slice (some ⟨b, off, none⟩) 2 cap := hp 2 _ rfl (he _ (Array.mem_of_getElem? (i := 0) rfl) (by kernel_rfl))
        clear hp he
        go_simp
        exact hK _ _ (out_of_below (Below.refl _ _) _ _) (getD_put_self a 11 _ (by show _ < a.tmps.size; omega)) (hJ.step (by decide) (Below.refl _ _))
      · obtain rfl := Option.some.inj ho
        have q11 : a.tmps.getD 11 undef = .pointer (some ⟨b, off, none⟩) := hp 3 _ rfl (he _ (Array.mem_of_getElem? (i := 0) rfl) (by kernel_rfl))
        clear hp he
        obtain ⟨c0, c1, c2, c3, c4⟩ := H5.out.1.kept (hb.block b (by omega))
        go_simp
        exact hK _ _ (out_of_below (Below.refl _ _) _ _) (getD_put_self a 12 _ (by show _ < a.tmps.size; omega)) (hJ.step (by decide) (Below.refl _ _))
      · obtain rfl := Option.some.inj ho
        have q1 : a.tmps.getD 1 undef = .pointer (some ⟨w.heap.size, 0, none⟩) := hf.at_ 1 (by kernel_rfl)
        clear hp he
        go_simp
        exact hK _ _ (out_of_below (Below.refl _ _) _ _) (getD_put_self a 13 _ (by show _ < a.tmps.size; omega)) (hJ.step (by decide) (Below.refl _ _))
      · obtain rfl := Option.some.inj ho
        have q13 : a.tmps.getD 13 undef = .pointer (some ⟨w.heap.size, 4, none⟩) := hp 5 _ rfl (he _ (Array.mem_of_getElem? (i := 0) rfl) (by kernel_rfl))
        clear hp he
        obtain ⟨e0, e1, e2, e3, e4, _⟩ := F0.aside' hR (by omega) (by omega)
        go_simp
        exact hK _ _ (out_of_below (Below.refl _ _) _ _) (getD_put_self a 14 _ (by show _ < a.tmps.size; omega)) (hJ.step (by decide) (Below.refl _ _))
      · obtain rfl := Option.some.inj ho
        have q14 : a.tmps.getD 14 undef = .slice (some ⟨b, off, none⟩) 2 cap := hp 6 _ rfl (he _ (Array.mem_of_getElem? (i := 0) rfl) (by kernel_rfl))
        clear hp he
        go_simp
        exact hK _ _ (out_of_below (Below.refl _ _) _ _) (getD_put_self a 15 _ (by show _ < a.tmps.size; omega)) (hJ.step (by decide) (Below.refl _ _))
      · obtain rfl := Option.some.inj ho
        have q15 : a.tmps.getD 15 undef = .pointer (some ⟨b, off + 5, none⟩) := hp 7 _ rfl (he _ (Array.mem_of_getElem? (i := 0) rfl) (by kernel_rfl))
        clear hp he
        obtain ⟨c0, c1, c2, c3, c4⟩ := H5.out.2.kept (hb.block b (by omega))
        go_simp
        exact hK _ _ (out_of_below (Below.refl _ _) _ _) (getD_put_self a 16 _ (by show _ < a.tmps.size; omega)) (hJ.step (by decide) (Below.refl _ _))
      · obtain rfl := Option.some.inj ho
        have q12 : a.tmps.getD 12 undef = .agg #[.int .i64 x.k, .int .i64 x.n, .int .i64 x.ak, .int .i64 x.at_, .slice ax x.kids.length cx] := hp 4 _ rfl (he _ (Array.mem_of_getElem? (i := 0) rfl) (by kernel_rfl))
        have q16 : a.tmps.getD 16 undef = .agg #[.int .i64 y.k, .int .i64 y.n, .int .i64 y.ak, .int .i64 y.at_, .slice ay y.kids.length cy] := hp 8 _ rfl (he _ (Array.mem_of_getElem? (i := 1) rfl) (by kernel_rfl))
        clear hp he
        go_simp
        refine (alike_bool u lx hx ly hy _ _ x y ⟨_, rfl, KX.out.1.under hb (by have := KX.out.2; omega)⟩ ⟨_, rfl, KY.out.1.kr.under hb (by have := KY.out.2; omega)⟩ (by have := KX.out.2; omega) (by have := KY.out.2; omega) HM.out.1 HM.out.2).mono ?_
        rintro e1 u' ⟨rfl, hbu⟩
        exact hK _ _ (out_of_below hbu _ _) (getD_put_self a 17 _ (by show _ < a.tmps.size; omega)) (hJ.step (by decide) hbu)
      · obtain rfl := Option.some.inj ho
        have q2 : a.tmps.getD 2 undef = .pointer (some ⟨w.heap.size + 1, 0, none⟩) := hf.at_ 2 (by kernel_rfl)
        have q8 : a.tmps.getD 8 undef = .agg #[.int .i64 1, .int .i64 1, .int .i64 0, .int .i64 0, .slice none 0 0] := hp 0 _ rfl (he _ (Array.mem_of_getElem? (i := 0) rfl) (by kernel_rfl))
        clear hp he
        obtain ⟨y0, y1, y2, y3, y4, ZU⟩ := hJ.there
        obtain ⟨u5, hu5, F5, N5, S5, B5⟩ := fiveStore ZU (.int .i64 1) (.int .i64 1) (.int .i64 0) (.int .i64 0) (.slice none 0 0)
        have HU5 : Hid (_ = u5) := hu5
        have HN : Hid (Five u5 (w.heap.size + 1) (.int .i64 1) (.int .i64 1) (.int .i64 0) (.int .i64 0) (.slice none 0 0) ∧ Out (w.heap.size + 1) (w.heap.size + 1 + 1) u u5 ∧ w.heap.size + 1 < u5.heap.size) := ⟨F5, outB_store B5 N5 S5, by have := hJ.lt; omega⟩
        obtain ⟨z0, z1, z2, z3, z4, zf⟩ := id ZU
        have zf0 := zf 0
        have zf1 := zf 1
        have zf2 := zf 2
        have zf3 := zf 3
        have zf4 := zf 4
        clear hu5 F5 N5 zf
        clear B5
        go_simp
        rw [HU5.out]
        exact hK undef _ HN.out.2.1 trivial ⟨HN.out.2.2, ⟨_, _, _, _, _, HN.out.1⟩, fun _ => HN.out.1⟩
      · omega
    · intro L a u5 hf hR0 hp hJ K' hK
      have g1 : Out (w.heap.size + 1) (w.heap.size + 1 + 1) u0 u5 := (out_of_below (Below.drew (Below.refl _ _)) _ _).trans hR0
      have HB : Hid (Below w.heap.size w u5 ∧ Five u5 (w.heap.size + 1) (.int .i64 1) (.int .i64 1) (.int .i64 0) (.int .i64 0) (.slice none 0 0)) := ⟨G0.trans (g1.below (by omega) (by omega)), hJ.done (hp 10 _ (by omega) rfl).1⟩
      have m8 : a.tmps.getD 8 undef = .agg #[.int .i64 1, .int .i64 1, .int .i64 0, .int .i64 0, .slice none 0 0] := (hp 0 _ (by omega) rfl).2
      have m9 : a.tmps.getD 9 undef = .pointer (some ⟨w.heap.size, 4, none⟩) := (hp 1 _ (by omega) rfl).2
      have m10 : a.tmps.getD 10 undef = .slice (some ⟨b, off, none⟩) 2 cap := (hp 2 _ (by omega) rfl).2
      have m11 : a.tmps.getD 11 undef = .pointer (some ⟨b, off, none⟩) := (hp 3 _ (by omega) rfl).2
      have m12 : a.tmps.getD 12 undef = .agg #[.int .i64 x.k, .int .i64 x.n, .int .i64 x.ak, .int .i64 x.at_, .slice ax x.kids.length cx] := (hp 4 _ (by omega) rfl).2
      have m13 : a.tmps.getD 13 undef = .pointer (some ⟨w.heap.size, 4, none⟩) := (hp 5 _ (by omega) rfl).2
      have m14 : a.tmps.getD 14 undef = .slice (some ⟨b, off, none⟩) 2 cap := (hp 6 _ (by omega) rfl).2
      have m15 : a.tmps.getD 15 undef = .pointer (some ⟨b, off + 5, none⟩) := (hp 7 _ (by omega) rfl).2
      have m16 : a.tmps.getD 16 undef = .agg #[.int .i64 y.k, .int .i64 y.n, .int .i64 y.ak, .int .i64 y.at_, .slice ay y.kids.length cy] := (hp 8 _ (by omega) rfl).2
      have m17 : a.tmps.getD 17 undef = .bool (sameE x y) := (hp 9 _ (by omega) rfl).2
      obtain ⟨o3, m3⟩ : ∃ z, a.tmps.getD 3 undef = z := ⟨_, rfl⟩
      obtain ⟨fq, ea, hfv⟩ := act_lit a 32 hf.size
      have md : a.defers = [] := hf.defers
      rw [md] at ea
      have m0 := hf.at_ 0 (by kernel_rfl)
      have m1 := hf.at_ 1 (by kernel_rfl)
      have m2 := hf.at_ 2 (by kernel_rfl)
      have m4 := hf.at_ 4 (by kernel_rfl)
      have m5 := hf.at_ 5 (by kernel_rfl)
      have m6 := hf.at_ 6 (by kernel_rfl)
      have m7 := hf.at_ 7 (by kernel_rfl)
      have m18 := hf.at_ 18 (by kernel_rfl)
      have m19 := hf.at_ 19 (by kernel_rfl)
      have m20 := hf.at_ 20 (by kernel_rfl)
      have m21 := hf.at_ 21 (by kernel_rfl)
      have m22 := hf.at_ 22 (by kernel_rfl)
      have m23 := hf.at_ 23 (by kernel_rfl)
      have m24 := hf.at_ 24 (by kernel_rfl)
      have m25 := hf.at_ 25 (by kernel_rfl)
      have m26 := hf.at_ 26 (by kernel_rfl)
      have m27 := hf.at_ 27 (by kernel_rfl)
      have m28 := hf.at_ 28 (by kernel_rfl)
      have m29 := hf.at_ 29 (by kernel_rfl)
      have m30 := hf.at_ 30 (by kernel_rfl)
      have m31 := hf.at_ 31 (by kernel_rfl)
      rw [← hfv] at m0 m1 m2 m4 m5 m6 m7 m18 m19 m20 m21 m22 m23 m24 m25 m26 m27 m28 m29 m30 m31 m8 m9 m10 m11 m12 m13 m14 m15 m16 m17 m3
      simp only [Array.getD_eq_getD_getElem?, List.getElem?_toArray, List.getElem?_cons_succ, List.getElem?_cons_zero, Option.getD_some] at m0 m1 m2 m4 m5 m6 m7 m18 m19 m20 m21 m22 m23 m24 m25 m26 m27 m28 m29 m30 m31
      simp only [List.range, List.range.loop, List.map_cons, List.map_nil, m0, m1, m2, m4, m5, m6, m7, m18, m19, m20, m21, m22, m23, m24, m25, m26, m27, m28, m29, m30, m31, m8, m9, m10, m11, m12, m13, m14, m15, m16, m17, m3] at ea
      subst ea
      clear m0 m1 m2 m4 m5 m6 m7 m18 m19 m20 m21 m22 m23 m24 m25 m26 m27 m28 m29 m30 m31 m8 m9 m10 m11 m12 m13 m14 m15 m16 m17 m3 hfv md hf
      clear g1 hR0 hp hJ
      go_simp
      refine hK _ _ ?_
      clear hK
      show Exit.then _ _ .normal _ u5
      go_wp2
      obtain ⟨r0, r1, r2, r3, r4, _⟩ := HB.out.2
      exact bodyPost_ret (v := .tuple #[.agg #[.int .i64 1, .int .i64 1, .int .i64 0, .int .i64 0, .slice none 0 0], .bool (sameE x y)]) (by simp [results, Tryz.results54, go_sem, r0, r1, r2, r3, r4]) rfl (rule_done (x := numE 1) (b := (sameE x y)) rfl (eo_num _ _ _ _) HB.out.1 HR.out)
  by_cases h : e.k = 6
  · obtain ⟨x, y, hkids, hk0, hk1⟩ := slim_two hfm (by omega)
    obtain ⟨b, off, cap, sx, sy, lx, hx, ly, hy, rfl, hb1, hb2, h5, h5y, kx, ky, ix, iy⟩ := cells_two hko hkids
    obtain ⟨ax, cx, rfl, _, _⟩ := kx.kr.shape
    obtain ⟨ay, cy, rfl, _, _⟩ := ky.kr.shape
    have KX : Hid (KO w lx hx (.slice ax x.kids.length cx) x.kids ∧ lo ≤ lx ∧ hx ≤ hi) := ⟨kx, ix⟩
    have KY : Hid (KO w ly hy (.slice ay y.kids.length cy) y.kids ∧ lo ≤ ly ∧ hy ≤ hi) := ⟨ky, iy⟩
    have H5 : Hid (Cell5 w b off x (.slice ax x.kids.length cx) ∧ Cell5 w b (off + 5) y (.slice ay y.kids.length cy)) := ⟨h5, h5y⟩
    have hsz : ((0 : Int) < 2) := by decide
    have hsz1 : ((1 : Int) < 2) := by decide
    obtain ⟨e0, e1, e2, e3, e4, _⟩ := id F0
    have hm64 : ∀ z, z ∈ e.kids → manyE z ≤ 1048577 := fun z hz => by
      have h1 := form_many d z ((form_know hfm).2 z hz)
      have h2 : 2 ^ d ≤ 2 ^ 6 := Nat.pow_le_pow_right (by decide) hd
      omega
    have HM : Hid (manyE x ≤ 1048577 ∧ manyE y ≤ 1048577) := ⟨hm64 x (by rw [hkids]; simp), hm64 y (by rw [hkids]; simp)⟩
    have HR : Hid (ruleD 5 e = if sameE x y then some (numE 0) else none) := by
      show _ = _
      simp only [ruleD]
      rw [hk0, hk1]
      simp [h]
    have k7 : (e.k == 7) = false := by simp [h]
    have k6 : (e.k == 6) = true := by simp [h]
    have k4 : (e.k == 4) = false := by simp [h]
    clear h hkids hk0 hk1 h5 h5y kx ky ix iy hko hm64 hfm
    go_enter Tryz.func54, Tryz.ntmps54
    go_wp2_with fail
    clear hu0 e0 e1 e2 e3 e4
    have ZZ : Hid (Five u0 (w.heap.size + 1) (.int .i64 0) (.int .i64 0) (.int .i64 0) (.int .i64 0) (.slice none 0 0)) := Z0
    refine wp_region_last2 (R := Out (w.heap.size + 1) (w.heap.size + 1 + 1)) (Φ := fun i v u => match i with
        | 0 => v = .agg #[.int .i64 1, .int .i64 0, .int .i64 0, .int .i64 0, .slice none 0 0]
        | 1 => v = .pointer (some ⟨w.heap.size, 4, none⟩)
        | 2 => v = .slice (some ⟨b, off, none⟩) 2 cap
        | 3 => v = .pointer (some ⟨b, off, none⟩)
        | 4 => v = .agg #[.int .i64 x.k, .int .i64 x.n, .int .i64 x.ak, .int .i64 x.at_, .slice ax x.kids.length cx]
        | 5 => v = .pointer (some ⟨w.heap.size, 4, none⟩)
        | 6 => v = .slice (some ⟨b, off, none⟩) 2 cap
        | 7 => v = .pointer (some ⟨b, off + 5, none⟩)
        | 8 => v = .agg #[.int .i64 y.k, .int .i64 y.n, .int .i64 y.ak, .int .i64 y.at_, .slice ay y.kids.length cy]
        | 9 => v = .bool (sameE x y)
        | _ => True)
      (J := fun L a u => ResJ 10 (w.heap.size + 1) (.int .i64 1) (.int .i64 0) (.int .i64 0) (.int .i64 0) (.slice none 0 0) L u) 11 _ rfl rfl (by kernel_rfl) (by kernel_rfl) (by kernel_rfl) (by kernel_rfl) (outB_refl _ _) (fun _ _ _ h k => h.trans k) ?_ ⟨by show _ < u0.heap.size; omega, ⟨_, _, _, _, _, ZZ.out.under (Below.drew (Below.refl u0.heap.size u0)) (by omega)⟩, fun h => by simp at h⟩ ?_ ?_
    · intro i v u u' hr
      match i with
      | 0 | 1 | 2 | 3 | 4 | 5 | 6 | 7 | 8 | 9 | 10 | _ + 11 => exact fun h => h
    · intro i o ho hin L a u hf hR0 hLs hLi hp he hJ K' hK
      have hR : Out (w.heap.size + 1) (w.heap.size + 1 + 1) u0 u := (out_of_below (Below.drew (Below.refl _ _)) _ _).trans hR0
      have hsz' : a.tmps.size = 32 := hf.size
      have hus := hR.size
      have hb : Below w.heap.size w u := G0.trans (hR.below (by omega) (by omega))
      rcases i with _ | _ | _ | _ | _ | _ | _ | _ | _ | _ | _ | i
      · obtain rfl := Option.some.inj ho
        clear hp he
        go_simp
        refine (number_any _ 0).mono ?_
        rintro e1 u' ⟨rfl, hbu⟩
        exact hK _ _ (out_of_below hbu _ _) (getD_put_self a 21 _ (by show _ < a.tmps.size; omega)) (hJ.step (by decide) hbu)
      · obtain rfl := Option.some.inj ho
        have q1 : a.tmps.getD 1 undef = .pointer (some ⟨w.heap.size, 0, none⟩) := hf.at_ 1 (by kernel_rfl)
        clear hp he
        go_simp
        exact hK _ _ (out_of_below (Below.refl _ _) _ _) (getD_put_self a 22 _ (by show _ < a.tmps.size; omega)) (hJ.step (by decide) (Below.refl _ _))
      · obtain rfl := Option.some.inj ho
        have q22 : a.tmps.getD 22 undef = .pointer (some ⟨w.heap.size, 4, none⟩) := hp 1 _ rfl (he _ (Array.mem_of_getElem? (i := 0) rfl) (by kernel_rfl))
        clear hp he
        obtain ⟨e0, e1, e2, e3, e4, _⟩ := F0.aside' hR (by omega) (by omega)
        go_simp
        exact hK _ _ (out_of_below (Below.refl _ _) _ _) (getD_put_self a 23 _ (by show _ < a.tmps.size; omega)) (hJ.step (by decide) (Below.refl _ _))
      · obtain rfl := Option.some.inj ho
        have q23 : a.tmps.getD 23 undef = .slice (some ⟨b, off, none⟩) 2 cap := hp 2 _ rfl (he _ (Array.mem_of_getElem? (i := 0) rfl) (by kernel_rfl))
        clear hp he
        go_simp
        exact hK _ _ (out_of_below (Below.refl _ _) _ _) (getD_put_self a 24 _ (by show _ < a.tmps.size; omega)) (hJ.step (by decide) (Below.refl _ _))
      · obtain rfl := Option.some.inj ho
        have q24 : a.tmps.getD 24 undef = .pointer (some ⟨b, off, none⟩) := hp 3 _ rfl (he _ (Array.mem_of_getElem? (i := 0) rfl) (by kernel_rfl))
        clear hp he
        obtain ⟨c0, c1, c2, c3, c4⟩ := H5.out.1.kept (hb.block b (by omega))
        go_simp
        exact hK _ _ (out_of_below (Below.refl _ _) _ _) (getD_put_self a 25 _ (by show _ < a.tmps.size; omega)) (hJ.step (by decide) (Below.refl _ _))
      · obtain rfl := Option.some.inj ho
        have q1 : a.tmps.getD 1 undef = .pointer (some ⟨w.heap.size, 0, none⟩) := hf.at_ 1 (by kernel_rfl)
        clear hp he
        go_simp
        exact hK _ _ (out_of_below (Below.refl _ _) _ _) (getD_put_self a 26 _ (by show _ < a.tmps.size; omega)) (hJ.step (by decide) (Below.refl _ _))
      · obtain rfl := Option.some.inj ho
        have q26 : a.tmps.getD 26 undef = .pointer (some ⟨w.heap.size, 4, none⟩) := hp 5 _ rfl (he _ (Array.mem_of_getElem? (i := 0) rfl) (by kernel_rfl))
        clear hp he
        obtain ⟨e0, e1, e2, e3, e4, _⟩ := F0.aside' hR (by omega) (by omega)
        go_simp
        exact hK _ _ (out_of_below (Below.refl _ _) _ _) (getD_put_self a 27 _ (by show _ < a.tmps.size; omega)) (hJ.step (by decide) (Below.refl _ _))
      · obtain rfl := Option.some.inj ho
        have q27 : a.tmps.getD 27 undef = .slice (some ⟨b, off, none⟩) 2 cap := hp 6 _ rfl (he _ (Array.mem_of_getElem? (i := 0) rfl) (by kernel_rfl))
        clear hp he
        go_simp
        exact hK _ _ (out_of_below (Below.refl _ _) _ _) (getD_put_self a 28 _ (by show _ < a.tmps.size; omega)) (hJ.step (by decide) (Below.refl _ _))
      · obtain rfl := Option.some.inj ho
        have q28 : a.tmps.getD 28 undef = .pointer (some ⟨b, off + 5, none⟩) := hp 7 _ rfl (he _ (Array.mem_of_getElem? (i := 0) rfl) (by kernel_rfl))
        clear hp he
        obtain ⟨c0, c1, c2, c3, c4⟩ := H5.out.2.kept (hb.block b (by omega))
        go_simp
        exact hK _ _ (out_of_below (Below.refl _ _) _ _) (getD_put_self a 29 _ (by show _ < a.tmps.size; omega)) (hJ.step (by decide) (Below.refl _ _))
      · obtain rfl := Option.some.inj ho
        have q25 : a.tmps.getD 25 undef = .agg #[.int .i64 x.k, .int .i64 x.n, .int .i64 x.ak, .int .i64 x.at_, .slice ax x.kids.length cx] := hp 4 _ rfl (he _ (Array.mem_of_getElem? (i := 0) rfl) (by kernel_rfl))
        have q29 : a.tmps.getD 29 undef = .agg #[.int .i64 y.k, .int .i64 y.n, .int .i64 y.ak, .int .i64 y.at_, .slice ay y.kids.length cy] := hp 8 _ rfl (he _ (Array.mem_of_getElem? (i := 1) rfl) (by kernel_rfl))
        clear hp he
        go_simp
        refine (alike_bool u lx hx ly hy _ _ x y ⟨_, rfl, KX.out.1.under hb (by have := KX.out.2; omega)⟩ ⟨_, rfl, KY.out.1.kr.under hb (by have := KY.out.2; omega)⟩ (by have := KX.out.2; omega) (by have := KY.out.2; omega) HM.out.1 HM.out.2).mono ?_
        rintro e1 u' ⟨rfl, hbu⟩
        exact hK _ _ (out_of_below hbu _ _) (getD_put_self a 30 _ (by show _ < a.tmps.size; omega)) (hJ.step (by decide) hbu)
      · obtain rfl := Option.some.inj ho
        have q2 : a.tmps.getD 2 undef = .pointer (some ⟨w.heap.size + 1, 0, none⟩) := hf.at_ 2 (by kernel_rfl)
        have q21 : a.tmps.getD 21 undef = .agg #[.int .i64 1, .int .i64 0, .int .i64 0, .int .i64 0, .slice none 0 0] := hp 0 _ rfl (he _ (Array.mem_of_getElem? (i := 0) rfl) (by kernel_rfl))
        clear hp he
        obtain ⟨y0, y1, y2, y3, y4, ZU⟩ := hJ.there
        obtain ⟨u5, hu5, F5, N5, S5, B5⟩ := fiveStore ZU (.int .i64 1) (.int .i64 0) (.int .i64 0) (.int .i64 0) (.slice none 0 0)
        have HU5 : Hid (_ = u5) := hu5
        have HN : Hid (Five u5 (w.heap.size + 1) (.int .i64 1) (.int .i64 0) (.int .i64 0) (.int .i64 0) (.slice none 0 0) ∧ Out (w.heap.size + 1) (w.heap.size + 1 + 1) u u5 ∧ w.heap.size + 1 < u5.heap.size) := ⟨F5, outB_store B5 N5 S5, by have := hJ.lt; omega⟩
        obtain ⟨z0, z1, z2, z3, z4, zf⟩ := id ZU
        have zf0 := zf 0
        have zf1 := zf 1
        have zf2 := zf 2
        have zf3 := zf 3
        have zf4 := zf 4
        clear hu5 F5 N5 zf
        clear B5
        go_simp
        rw [HU5.out]
        exact hK undef _ HN.out.2.1 trivial ⟨HN.out.2.2, ⟨_, _, _, _, _, HN.out.1⟩, fun _ => HN.out.1⟩
      · omega
    · intro L a u5 hf hR0 hp hJ K' hK
      have g1 : Out (w.heap.size + 1) (w.heap.size + 1 + 1) u0 u5 := (out_of_below (Below.drew (Below.refl _ _)) _ _).trans hR0
      have HB : Hid (Below w.heap.size w u5 ∧ Five u5 (w.heap.size + 1) (.int .i64 1) (.int .i64 0) (.int .i64 0) (.int .i64 0) (.slice none 0 0)) := ⟨G0.trans (g1.below (by omega) (by omega)), hJ.done (hp 10 _ (by omega) rfl).1⟩
      have m21 : a.tmps.getD 21 undef = .agg #[.int .i64 1, .int .i64 0, .int .i64 0, .int .i64 0, .slice none 0 0] := (hp 0 _ (by omega) rfl).2
      have m22 : a.tmps.getD 22 undef = .pointer (some ⟨w.heap.size, 4, none⟩) := (hp 1 _ (by omega) rfl).2
      have m23 : a.tmps.getD 23 undef = .slice (some ⟨b, off, none⟩) 2 cap := (hp 2 _ (by omega) rfl).2
      have m24 : a.tmps.getD 24 undef = .pointer (some ⟨b, off, none⟩) := (hp 3 _ (by omega) rfl).2
      have m25 : a.tmps.getD 25 undef = .agg #[.int .i64 x.k, .int .i64 x.n, .int .i64 x.ak, .int .i64 x.at_, .slice ax x.kids.length cx] := (hp 4 _ (by omega) rfl).2
      have m26 : a.tmps.getD 26 undef = .pointer (some ⟨w.heap.size, 4, none⟩) := (hp 5 _ (by omega) rfl).2
      have m27 : a.tmps.getD 27 undef = .slice (some ⟨b, off, none⟩) 2 cap := (hp 6 _ (by omega) rfl).2
      have m28 : a.tmps.getD 28 undef = .pointer (some ⟨b, off + 5, none⟩) := (hp 7 _ (by omega) rfl).2
      have m29 : a.tmps.getD 29 undef = .agg #[.int .i64 y.k, .int .i64 y.n, .int .i64 y.ak, .int .i64 y.at_, .slice ay y.kids.length cy] := (hp 8 _ (by omega) rfl).2
      have m30 : a.tmps.getD 30 undef = .bool (sameE x y) := (hp 9 _ (by omega) rfl).2
      obtain ⟨o3, m3⟩ : ∃ z, a.tmps.getD 3 undef = z := ⟨_, rfl⟩
      obtain ⟨fq, ea, hfv⟩ := act_lit a 32 hf.size
      have md : a.defers = [] := hf.defers
      rw [md] at ea
      have m0 := hf.at_ 0 (by kernel_rfl)
      have m1 := hf.at_ 1 (by kernel_rfl)
      have m2 := hf.at_ 2 (by kernel_rfl)
      have m4 := hf.at_ 4 (by kernel_rfl)
      have m5 := hf.at_ 5 (by kernel_rfl)
      have m6 := hf.at_ 6 (by kernel_rfl)
      have m7 := hf.at_ 7 (by kernel_rfl)
      have m8 := hf.at_ 8 (by kernel_rfl)
      have m9 := hf.at_ 9 (by kernel_rfl)
      have m10 := hf.at_ 10 (by kernel_rfl)
      have m11 := hf.at_ 11 (by kernel_rfl)
      have m12 := hf.at_ 12 (by kernel_rfl)
      have m13 := hf.at_ 13 (by kernel_rfl)
      have m14 := hf.at_ 14 (by kernel_rfl)
      have m15 := hf.at_ 15 (by kernel_rfl)
      have m16 := hf.at_ 16 (by kernel_rfl)
      have m17 := hf.at_ 17 (by kernel_rfl)
      have m18 := hf.at_ 18 (by kernel_rfl)
      have m19 := hf.at_ 19 (by kernel_rfl)
      have m20 := hf.at_ 20 (by kernel_rfl)
      have m31 := hf.at_ 31 (by kernel_rfl)
      rw [← hfv] at m0 m1 m2 m4 m5 m6 m7 m8 m9 m10 m11 m12 m13 m14 m15 m16 m17 m18 m19 m20 m31 m21 m22 m23 m24 m25 m26 m27 m28 m29 m30 m3
      simp only [Array.getD_eq_getD_getElem?, List.getElem?_toArray, List.getElem?_cons_succ, List.getElem?_cons_zero, Option.getD_some] at m0 m1 m2 m4 m5 m6 m7 m8 m9 m10 m11 m12 m13 m14 m15 m16 m17 m18 m19 m20 m31
      simp only [List.range, List.range.loop, List.map_cons, List.map_nil, m0, m1, m2, m4, m5, m6, m7, m8, m9, m10, m11, m12, m13, m14, m15, m16, m17, m18, m19, m20, m31, m21, m22, m23, m24, m25, m26, m27, m28, m29, m30, m3] at ea
      subst ea
      clear m0 m1 m2 m4 m5 m6 m7 m8 m9 m10 m11 m12 m13 m14 m15 m16 m17 m18 m19 m20 m31 m21 m22 m23 m24 m25 m26 m27 m28 m29 m30 m3 hfv md hf
      clear g1 hR0 hp hJ
      go_simp
      refine hK _ _ ?_
      clear hK
      show Exit.then _ _ .normal _ u5
      go_wp2
      obtain ⟨r0, r1, r2, r3, r4, _⟩ := HB.out.2
      exact bodyPost_ret (v := .tuple #[.agg #[.int .i64 1, .int .i64 0, .int .i64 0, .int .i64 0, .slice none 0 0], .bool (sameE x y)]) (by simp [results, Tryz.results54, go_sem, r0, r1, r2, r3, r4]) rfl (rule_done (x := numE 0) (b := (sameE x y)) rfl (eo_num _ _ _ _) HB.out.1 HR.out)
  by_cases h : e.k = 4
  · obtain ⟨x, y, hkids, hk0, hk1⟩ := slim_two hfm (by omega)
    obtain ⟨b, off, cap, sx, sy, lx, hx, ly, hy, rfl, hb1, hb2, h5, h5y, kx, ky, ix, iy⟩ := cells_two hko hkids
    obtain ⟨ax, cx, rfl, _, _⟩ := kx.kr.shape
    obtain ⟨ay, cy, rfl, _, _⟩ := ky.kr.shape
    have KX : Hid (KO w lx hx (.slice ax x.kids.length cx) x.kids ∧ lo ≤ lx ∧ hx ≤ hi) := ⟨kx, ix⟩
    have KY : Hid (KO w ly hy (.slice ay y.kids.length cy) y.kids ∧ lo ≤ ly ∧ hy ≤ hi) := ⟨ky, iy⟩
    have H5 : Hid (Cell5 w b off x (.slice ax x.kids.length cx) ∧ Cell5 w b (off + 5) y (.slice ay y.kids.length cy)) := ⟨h5, h5y⟩
    have hsz : ((0 : Int) < 2) := by decide
    have hsz1 : ((1 : Int) < 2) := by decide
    obtain ⟨e0, e1, e2, e3, e4, _⟩ := id F0
    have hm64 : ∀ z, z ∈ e.kids → manyE z ≤ 1048577 := fun z hz => by
      have h1 := form_many d z ((form_know hfm).2 z hz)
      have h2 : 2 ^ d ≤ 2 ^ 6 := Nat.pow_le_pow_right (by decide) hd
      omega
    have HM : Hid (manyE x ≤ 1048577 ∧ manyE y ≤ 1048577) := ⟨hm64 x (by rw [hkids]; simp), hm64 y (by rw [hkids]; simp)⟩
    have HR : Hid (ruleD 5 e = if sameE x y then some (numE 0) else none) := by
      show _ = _
      simp only [ruleD]
      rw [hk0, hk1]
      simp [h]
    have k7 : (e.k == 7) = false := by simp [h]
    have k6 : (e.k == 6) = false := by simp [h]
    have k4 : (e.k == 4) = true := by simp [h]
    clear h hkids hk0 hk1 h5 h5y kx ky ix iy hko hm64 hfm
    go_enter Tryz.func54, Tryz.ntmps54
    go_wp2_with fail
    clear hu0 e0 e1 e2 e3 e4
    have ZZ : Hid (Five u0 (w.heap.size + 1) (.int .i64 0) (.int .i64 0) (.int .i64 0) (.int .i64 0) (.slice none 0 0)) := Z0
    refine wp_region_last2 (R := Out (w.heap.size + 1) (w.heap.size + 1 + 1)) (Φ := fun i v u => match i with
        | 0 => v = .agg #[.int .i64 1, .int .i64 0, .int .i64 0, .int .i64 0, .slice none 0 0]
        | 1 => v = .pointer (some ⟨w.heap.size, 4, none⟩)
        | 2 => v = .slice (some ⟨b, off, none⟩) 2 cap
        | 3 => v = .pointer (some ⟨b, off, none⟩)
        | 4 => v = .agg #[.int .i64 x.k, .int .i64 x.n, .int .i64 x.ak, .int .i64 x.at_, .slice ax x.kids.length cx]
        | 5 => v = .pointer (some ⟨w.heap.size, 4, none⟩)
        | 6 => v = .slice (some ⟨b, off, none⟩) 2 cap
        | 7 => v = .pointer (some ⟨b, off + 5, none⟩)
        | 8 => v = .agg #[.int .i64 y.k, .int .i64 y.n, .int .i64 y.ak, .int .i64 y.at_, .slice ay y.kids.length cy]
        | 9 => v = .bool (sameE x y)
        | _ => True)
      (J := fun L a u => ResJ 10 (w.heap.size + 1) (.int .i64 1) (.int .i64 0) (.int .i64 0) (.int .i64 0) (.slice none 0 0) L u) 11 _ rfl rfl (by kernel_rfl) (by kernel_rfl) (by kernel_rfl) (by kernel_rfl) (outB_refl _ _) (fun _ _ _ h k => h.trans k) ?_ ⟨by show _ < u0.heap.size; omega, ⟨_, _, _, _, _, ZZ.out.under (Below.drew (Below.refl u0.heap.size u0)) (by omega)⟩, fun h => by simp at h⟩ ?_ ?_
    · intro i v u u' hr
      match i with
      | 0 | 1 | 2 | 3 | 4 | 5 | 6 | 7 | 8 | 9 | 10 | _ + 11 => exact fun h => h
    · intro i o ho hin L a u hf hR0 hLs hLi hp he hJ K' hK
      have hR : Out (w.heap.size + 1) (w.heap.size + 1 + 1) u0 u := (out_of_below (Below.drew (Below.refl _ _)) _ _).trans hR0
      have hsz' : a.tmps.size = 32 := hf.size
      have hus := hR.size
      have hb : Below w.heap.size w u := G0.trans (hR.below (by omega) (by omega))
      rcases i with _ | _ | _ | _ | _ | _ | _ | _ | _ | _ | _ | i
      · obtain rfl := Option.some.inj ho
        clear hp he
        go_simp
        refine (number_any _ 0).mono ?_
        rintro e1 u' ⟨rfl, hbu⟩
        exact hK _ _ (out_of_below hbu _ _) (getD_put_self a 21 _ (by show _ < a.tmps.size; omega)) (hJ.step (by decide) hbu)
      · obtain rfl := Option.some.inj ho
        have q1 : a.tmps.getD 1 undef = .pointer (some ⟨w.heap.size, 0, none⟩) := hf.at_ 1 (by kernel_rfl)
        clear hp he
        go_simp
        exact hK _ _ (out_of_below (Below.refl _ _) _ _) (getD_put_self a 22 _ (by show _ < a.tmps.size; omega)) (hJ.step (by decide) (Below.refl _ _))
      · obtain rfl := Option.some.inj ho
        have q22 : a.tmps.getD 22 undef = .pointer (some ⟨w.heap.size, 4, none⟩) := hp 1 _ rfl (he _ (Array.mem_of_getElem? (i := 0) rfl) (by kernel_rfl))
        clear hp he
        obtain ⟨e0, e1, e2, e3, e4, _⟩ := F0.aside' hR (by omega) (by omega)
        go_simp
        exact hK _ _ (out_of_below (Below.refl _ _) _ _) (getD_put_self a 23 _ (by show _ < a.tmps.size; omega)) (hJ.step (by decide) (Below.refl _ _))
      · obtain rfl := Option.some.inj ho
        have q23 : a.tmps.getD 23 undef = .slice (some ⟨b, off, none⟩) 2 cap := hp 2 _ rfl (he _ (Array.mem_of_getElem? (i := 0) rfl) (by kernel_rfl))
        clear hp he
        go_simp
        exact hK _ _ (out_of_below (Below.refl _ _) _ _) (getD_put_self a 24 _ (by show _ < a.tmps.size; omega)) (hJ.step (by decide) (Below.refl _ _))
      · obtain rfl := Option.some.inj ho
        have q24 : a.tmps.getD 24 undef = .pointer (some ⟨b, off, none⟩) := hp 3 _ rfl (he _ (Array.mem_of_getElem? (i := 0) rfl) (by kernel_rfl))
        clear hp he
        obtain ⟨c0, c1, c2, c3, c4⟩ := H5.out.1.kept (hb.block b (by omega))
        go_simp
        exact hK _ _ (out_of_below (Below.refl _ _) _ _) (getD_put_self a 25 _ (by show _ < a.tmps.size; omega)) (hJ.step (by decide) (Below.refl _ _))
      · obtain rfl := Option.some.inj ho
        have q1 : a.tmps.getD 1 undef = .pointer (some ⟨w.heap.size, 0, none⟩) := hf.at_ 1 (by kernel_rfl)
        clear hp he
        go_simp
        exact hK _ _ (out_of_below (Below.refl _ _) _ _) (getD_put_self a 26 _ (by show _ < a.tmps.size; omega)) (hJ.step (by decide) (Below.refl _ _))
      · obtain rfl := Option.some.inj ho
        have q26 : a.tmps.getD 26 undef = .pointer (some ⟨w.heap.size, 4, none⟩) := hp 5 _ rfl (he _ (Array.mem_of_getElem? (i := 0) rfl) (by kernel_rfl))
        clear hp he
        obtain ⟨e0, e1, e2, e3, e4, _⟩ := F0.aside' hR (by omega) (by omega)
        go_simp
        exact hK _ _ (out_of_below (Below.refl _ _) _ _) (getD_put_self a 27 _ (by show _ < a.tmps.size; omega)) (hJ.step (by decide) (Below.refl _ _))
      · obtain rfl := Option.some.inj ho
        have q27 : a.tmps.getD 27 undef = .slice (some ⟨b, off, none⟩) 2 cap := hp 6 _ rfl (he _ (Array.mem_of_getElem? (i := 0) rfl) (by kernel_rfl))
        clear hp he
        go_simp
        exact hK _ _ (out_of_below (Below.refl _ _) _ _) (getD_put_self a 28 _ (by show _ < a.tmps.size; omega)) (hJ.step (by decide) (Below.refl _ _))
      · obtain rfl := Option.some.inj ho
        have q28 : a.tmps.getD 28 undef = .pointer (some ⟨b, off + 5, none⟩) := hp 7 _ rfl (he _ (Array.mem_of_getElem? (i := 0) rfl) (by kernel_rfl))
        clear hp he
        obtain ⟨c0, c1, c2, c3, c4⟩ := H5.out.2.kept (hb.block b (by omega))
        go_simp
        exact hK _ _ (out_of_below (Below.refl _ _) _ _) (getD_put_self a 29 _ (by show _ < a.tmps.size; omega)) (hJ.step (by decide) (Below.refl _ _))
      · obtain rfl := Option.some.inj ho
        have q25 : a.tmps.getD 25 undef = .agg #[.int .i64 x.k, .int .i64 x.n, .int .i64 x.ak, .int .i64 x.at_, .slice ax x.kids.length cx] := hp 4 _ rfl (he _ (Array.mem_of_getElem? (i := 0) rfl) (by kernel_rfl))
        have q29 : a.tmps.getD 29 undef = .agg #[.int .i64 y.k, .int .i64 y.n, .int .i64 y.ak, .int .i64 y.at_, .slice ay y.kids.length cy] := hp 8 _ rfl (he _ (Array.mem_of_getElem? (i := 1) rfl) (by kernel_rfl))
        clear hp he
        go_simp
        refine (alike_bool u lx hx ly hy _ _ x y ⟨_, rfl, KX.out.1.under hb (by have := KX.out.2; omega)⟩ ⟨_, rfl, KY.out.1.kr.under hb (by have := KY.out.2; omega)⟩ (by have := KX.out.2; omega) (by have := KY.out.2; omega) HM.out.1 HM.out.2).mono ?_
        rintro e1 u' ⟨rfl, hbu⟩
        exact hK _ _ (out_of_below hbu _ _) (getD_put_self a 30 _ (by show _ < a.tmps.size; omega)) (hJ.step (by decide) hbu)
      · obtain rfl := Option.some.inj ho
        have q2 : a.tmps.getD 2 undef = .pointer (some ⟨w.heap.size + 1, 0, none⟩) := hf.at_ 2 (by kernel_rfl)
        have q21 : a.tmps.getD 21 undef = .agg #[.int .i64 1, .int .i64 0, .int .i64 0, .int .i64 0, .slice none 0 0] := hp 0 _ rfl (he _ (Array.mem_of_getElem? (i := 0) rfl) (by kernel_rfl))
        clear hp he
        obtain ⟨y0, y1, y2, y3, y4, ZU⟩ := hJ.there
        obtain ⟨u5, hu5, F5, N5, S5, B5⟩ := fiveStore ZU (.int .i64 1) (.int .i64 0) (.int .i64 0) (.int .i64 0) (.slice none 0 0)
        have HU5 : Hid (_ = u5) := hu5
        have HN : Hid (Five u5 (w.heap.size + 1) (.int .i64 1) (.int .i64 0) (.int .i64 0) (.int .i64 0) (.slice none 0 0) ∧ Out (w.heap.size + 1) (w.heap.size + 1 + 1) u u5 ∧ w.heap.size + 1 < u5.heap.size) := ⟨F5, outB_store B5 N5 S5, by have := hJ.lt; omega⟩
        obtain ⟨z0, z1, z2, z3, z4, zf⟩ := id ZU
        have zf0 := zf 0
        have zf1 := zf 1
        have zf2 := zf 2
        have zf3 := zf 3
        have zf4 := zf 4
        clear hu5 F5 N5 zf
        clear B5
        go_simp
        rw [HU5.out]
        exact hK undef _ HN.out.2.1 trivial ⟨HN.out.2.2, ⟨_, _, _, _, _, HN.out.1⟩, fun _ => HN.out.1⟩
      · omega
    · intro L a u5 hf hR0 hp hJ K' hK
      have g1 : Out (w.heap.size + 1) (w.heap.size + 1 + 1) u0 u5 := (out_of_below (Below.drew (Below.refl _ _)) _ _).trans hR0
      have HB : Hid (Below w.heap.size w u5 ∧ Five u5 (w.heap.size + 1) (.int .i64 1) (.int .i64 0) (.int .i64 0) (.int .i64 0) (.slice none 0 0)) := ⟨G0.trans (g1.below (by omega) (by omega)), hJ.done (hp 10 _ (by omega) rfl).1⟩
      have m21 : a.tmps.getD 21 undef = .agg #[.int .i64 1, .int .i64 0, .int .i64 0, .int .i64 0, .slice none 0 0] := (hp 0 _ (by omega) rfl).2
      have m22 : a.tmps.getD 22 undef = .pointer (some ⟨w.heap.size, 4, none⟩) := (hp 1 _ (by omega) rfl).2
      have m23 : a.tmps.getD 23 undef = .slice (some ⟨b, off, none⟩) 2 cap := (hp 2 _ (by omega) rfl).2
      have m24 : a.tmps.getD 24 undef = .pointer (some ⟨b, off, none⟩) := (hp 3 _ (by omega) rfl).2
      have m25 : a.tmps.getD 25 undef = .agg #[.int .i64 x.k, .int .i64 x.n, .int .i64 x.ak, .int .i64 x.at_, .slice ax x.kids.length cx] := (hp 4 _ (by omega) rfl).2
      have m26 : a.tmps.getD 26 undef = .pointer (some ⟨w.heap.size, 4, none⟩) := (hp 5 _ (by omega) rfl).2
      have m27 : a.tmps.getD 27 undef = .slice (some ⟨b, off, none⟩) 2 cap := (hp 6 _ (by omega) rfl).2
      have m28 : a.tmps.getD 28 undef = .pointer (some ⟨b, off + 5, none⟩) := (hp 7 _ (by omega) rfl).2
      have m29 : a.tmps.getD 29 undef = .agg #[.int .i64 y.k, .int .i64 y.n, .int .i64 y.ak, .int .i64 y.at_, .slice ay y.kids.length cy] := (hp 8 _ (by omega) rfl).2
      have m30 : a.tmps.getD 30 undef = .bool (sameE x y) := (hp 9 _ (by omega) rfl).2
      obtain ⟨o3, m3⟩ : ∃ z, a.tmps.getD 3 undef = z := ⟨_, rfl⟩
      obtain ⟨fq, ea, hfv⟩ := act_lit a 32 hf.size
      have md : a.defers = [] := hf.defers
      rw [md] at ea
      have m0 := hf.at_ 0 (by kernel_rfl)
      have m1 := hf.at_ 1 (by kernel_rfl)
      have m2 := hf.at_ 2 (by kernel_rfl)
      have m4 := hf.at_ 4 (by kernel_rfl)
      have m5 := hf.at_ 5 (by kernel_rfl)
      have m6 := hf.at_ 6 (by kernel_rfl)
      have m7 := hf.at_ 7 (by kernel_rfl)
      have m8 := hf.at_ 8 (by kernel_rfl)
      have m9 := hf.at_ 9 (by kernel_rfl)
      have m10 := hf.at_ 10 (by kernel_rfl)
      have m11 := hf.at_ 11 (by kernel_rfl)
      have m12 := hf.at_ 12 (by kernel_rfl)
      have m13 := hf.at_ 13 (by kernel_rfl)
      have m14 := hf.at_ 14 (by kernel_rfl)
      have m15 := hf.at_ 15 (by kernel_rfl)
      have m16 := hf.at_ 16 (by kernel_rfl)
      have m17 := hf.at_ 17 (by kernel_rfl)
      have m18 := hf.at_ 18 (by kernel_rfl)
      have m19 := hf.at_ 19 (by kernel_rfl)
      have m20 := hf.at_ 20 (by kernel_rfl)
      have m31 := hf.at_ 31 (by kernel_rfl)
      rw [← hfv] at m0 m1 m2 m4 m5 m6 m7 m8 m9 m10 m11 m12 m13 m14 m15 m16 m17 m18 m19 m20 m31 m21 m22 m23 m24 m25 m26 m27 m28 m29 m30 m3
      simp only [Array.getD_eq_getD_getElem?, List.getElem?_toArray, List.getElem?_cons_succ, List.getElem?_cons_zero, Option.getD_some] at m0 m1 m2 m4 m5 m6 m7 m8 m9 m10 m11 m12 m13 m14 m15 m16 m17 m18 m19 m20 m31
      simp only [List.range, List.range.loop, List.map_cons, List.map_nil, m0, m1, m2, m4, m5, m6, m7, m8, m9, m10, m11, m12, m13, m14, m15, m16, m17, m18, m19, m20, m31, m21, m22, m23, m24, m25, m26, m27, m28, m29, m30, m3] at ea
      subst ea
      clear m0 m1 m2 m4 m5 m6 m7 m8 m9 m10 m11 m12 m13 m14 m15 m16 m17 m18 m19 m20 m31 m21 m22 m23 m24 m25 m26 m27 m28 m29 m30 m3 hfv md hf
      clear g1 hR0 hp hJ
      go_simp
      refine hK _ _ ?_
      clear hK
      show Exit.then _ _ .normal _ u5
      go_wp2
      obtain ⟨r0, r1, r2, r3, r4, _⟩ := HB.out.2
      exact bodyPost_ret (v := .tuple #[.agg #[.int .i64 1, .int .i64 0, .int .i64 0, .int .i64 0, .slice none 0 0], .bool (sameE x y)]) (by simp [results, Tryz.results54, go_sem, r0, r1, r2, r3, r4]) rfl (rule_done (x := numE 0) (b := (sameE x y)) rfl (eo_num _ _ _ _) HB.out.1 HR.out)
  have HR : Hid (ruleD 5 e = if false then some (.mk 0 0 0 0 []) else none) := by
    show _ = _
    simp only [ruleD]
    simp [*]
  have k7 : (e.k == 7) = false := by simp [*]
  have k6 : (e.k == 6) = false := by simp [*]
  have k4 : (e.k == 4) = false := by simp [*]
  obtain ⟨ad, cap, rfl, _, _⟩ := hko.kr.shape
  clear hu0 G0 F0 Z0 S0
  go_enter Tryz.func54, Tryz.ntmps54
  go_wp2
  exact bodyPost_ret (v := .tuple #[.agg #[.int .i64 0, .int .i64 0, .int .i64 0, .int .i64 0, .slice none 0 0], .bool false]) (by simp [results, Tryz.results54, go_sem]) rfl (rule_done (x := .mk 0 0 0 0 []) (b := false) rfl (eo_none _ _ _) (b2 _ _) HR.out)

end Go.Proofs.YtkeockippmmneaaGreat
