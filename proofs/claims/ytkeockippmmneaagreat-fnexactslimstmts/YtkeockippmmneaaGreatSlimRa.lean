/-
  Chapter 10's program: rules 0 and 1. (Written by our generator gen_slimr.py.)
-/
import Derived.Test.YtkeockippmmneaaGreatSlimR
namespace Go.Proofs.YtkeockippmmneaaGreat
open Go.ChangeShapes Go.WideShapes Go.ChangeAt Go.RowKit
set_option linter.unusedVariables false
set_option maxRecDepth 100000

set_option maxHeartbeats 8000000 in
theorem notOfNumber_rule : RuleC 49 0 := by
  intro d w lo hi v e hd ho hhi hfm
  obtain ⟨s, rfl, hko⟩ := ho
  have b2 := fun o o' => ((Below.refl w.heap.size w).alloc (Nat.le_refl _) o).alloc (by simp) o'
  obtain ⟨u0, hu0, G0, F0, Z0, S0⟩ := rule_start w e s 42
  obtain ⟨q, hq⟩ : ∃ q, ruleD 0 e = q := ⟨_, rfl⟩
  have hrd : ruleD 0 e = if e.k = 10 ∧ (kidN e 0).k = 1 then some (numE (isZ (!((kidN e 0).n != 0)))) else none := rfl
  by_cases h10 : e.k = 10
  rotate_left
  · have HR : Hid (ruleD 0 e = if false then some (.mk 0 0 0 0 []) else none) := by show _ = _; rw [hrd, if_neg (fun h => h10 h.1)]; rfl
    have b1 : (e.k != 10) = true := by simp [h10]
    obtain ⟨ad, cap, rfl, _, _⟩ := hko.kr.shape
    clear hu0 G0 F0 Z0 S0 h10 hrd
    go_enter Tryz.func49, Tryz.ntmps49
    go_wp2
    exact bodyPost_ret (v := .tuple #[.agg #[.int .i64 0, .int .i64 0, .int .i64 0, .int .i64 0, .slice none 0 0], .bool false]) (by simp [results, Tryz.results49, go_sem]) rfl (rule_done (x := .mk 0 0 0 0 []) (b := false) rfl (eo_none _ _ _) (b2 _ _) HR.out)
  obtain ⟨x, hkids, hk0⟩ := slim_one hfm h10
  rw [hk0] at hrd
  obtain ⟨b, off, cap, sx, lx, hx, rfl, hb1, hb2, h5, kx, ix⟩ := cells_one hko hkids
  obtain ⟨ax, cx, rfl, _, _⟩ := kx.kr.shape
  have b1 : (e.k != 10) = false := by simp [h10]
  have HKO : Hid (KO w lo hi (.slice (some ⟨b, off, none⟩) 1 cap) e.kids) := hko
  have hfx := (form_know hfm).2 x (by rw [hkids]; simp)
  have hNP : NumP e := .inr (.inl ⟨h10, by rw [hkids]; rfl⟩)
  obtain ⟨e0, e1, e2, e3, e4, _⟩ := id F0
  have k5 : Cell5 u0 b off x (.slice ax x.kids.length cx) := h5.kept (G0.block b (by omega))
  obtain ⟨c0, c1, c2, c3, c4⟩ := id k5
  have hsz : ((0 : Int) < 1) := by decide
  have H10 : Hid (e.k = 10) := h10
  have HRD : Hid (ruleD 0 e = if e.k = 10 ∧ x.k = 1 then some (numE (isZ (!(x.n != 0)))) else none) := hrd
  clear h5 hko h10 hrd q hq
  go_enter Tryz.func49, Tryz.ntmps49
  go_wp2_with fail
  clear hu0 e0 e1 e2 e3 e4 c0 c1 c2 c3 c4
  refine (isNumber_any u0 x ax x.kids.length cx).mono ?_
  rintro e1 u1 ⟨rfl, g1⟩
  have G1 := G0.trans (g1.mono (by omega))
  have S1 := g1.size
  have F1 := F0.under g1 (by omega)
  have Z1 := Z0.under g1 (by omega)
  clear g1 F0 Z0 G0
  by_cases hx1 : x.k = 1
  · have b3 : (x.k == 1) = true := by simp [hx1]
    have HR : Hid (ruleD 0 e = if true then some (numE (numVal e)) else none) := by
      show _ = _
      have h10 := H10.out
      rw [HRD.out, if_pos ⟨h10, hx1⟩, if_pos rfl]
      unfold numVal
      rw [if_neg (by omega), if_pos h10, hk0]
    have hall : ∀ y, y ∈ e.kids → y.k = 1 ∧ y.kids.length = 0 := fun y hy => by rw [hkids, List.mem_singleton] at hy; subst hy; exact ⟨hx1, form_num_kids hfx hx1⟩
    have hlen : e.kids.length = 1 := by rw [hkids]; rfl
    have hrk := reckoned_any u1 lo hi _ e (HKO.out.kr.under G1 hhi) (by omega) hNP hall
    generalize numVal e = n at *
    obtain ⟨e0, e1, e2, e3, e4, _⟩ := id F1
    clear hx1 hall hNP hfx hkids hk0 hlen
    go_wp2_with fail
    clear e0 e1 e2 e3 e4
    refine hrk.mono ?_
    clear hrk
    rintro e5 u2 ⟨rfl, g2⟩
    have G2 := G1.trans (g2.mono (by omega))
    have Z2 := Z1.under g2 (by omega)
    obtain ⟨u5, hu5, F5, N5, S5, B5⟩ := fiveStore Z2 (.int .i64 1) (.int .i64 n) (.int .i64 0) (.int .i64 0) (.slice none 0 0)
    have HU5 : Hid (_ = u5) := hu5
    have HB : Hid (Below w.heap.size w u5 ∧ Five u5 (w.heap.size + 1) (.int .i64 1) (.int .i64 n) (.int .i64 0) (.int .i64 0) (.slice none 0 0)) := ⟨G2.trans (B5.mono (by omega)), F5⟩
    obtain ⟨z0, z1, z2, z3, z4, zf⟩ := id Z2
    have zf0 := zf 0
    have zf1 := zf 1
    have zf2 := zf 2
    have zf3 := zf 3
    have zf4 := zf 4
    clear hu5 F5 N5 zf
    clear F1 Z1 Z2 G1 G2 g2
    go_wp2
    rw [HU5.out]
    obtain ⟨r0, r1, r2, r3, r4, _⟩ := HB.out.2
    exact bodyPost_ret (v := .tuple #[.agg #[.int .i64 1, .int .i64 n, .int .i64 0, .int .i64 0, .slice none 0 0], .bool true]) (by simp [results, Tryz.results49, go_sem, r0, r1, r2, r3, r4]) rfl (rule_done (x := numE n) (b := true) rfl (eo_num _ _ _ _) HB.out.1 HR.out)
  · have b3 : (x.k == 1) = false := by simp [hx1]
    have HR : Hid (ruleD 0 e = if false then some (.mk 0 0 0 0 []) else none) := by show _ = _; rw [HRD.out, if_neg (fun h => hx1 h.2)]; rfl
    clear hx1
    obtain ⟨u5, hu5, F5, N5, S5, B5⟩ := fiveStore Z1 (.int .i64 0) (.int .i64 0) (.int .i64 0) (.int .i64 0) (.slice none 0 0)
    have HU5 : Hid (_ = u5) := hu5
    have HB : Hid (Below w.heap.size w u5 ∧ Five u5 (w.heap.size + 1) (.int .i64 0) (.int .i64 0) (.int .i64 0) (.int .i64 0) (.slice none 0 0)) := ⟨G1.trans (B5.mono (by omega)), F5⟩
    obtain ⟨z0, z1, z2, z3, z4, zf⟩ := id Z1
    have zf0 := zf 0
    have zf1 := zf 1
    have zf2 := zf 2
    have zf3 := zf 3
    have zf4 := zf 4
    clear hu5 F5 N5 zf
    clear F1 Z1 G1
    go_wp2
    rw [HU5.out]
    obtain ⟨r0, r1, r2, r3, r4, _⟩ := HB.out.2
    exact bodyPost_ret (v := .tuple #[.agg #[.int .i64 0, .int .i64 0, .int .i64 0, .int .i64 0, .slice none 0 0], .bool false]) (by simp [results, Tryz.results49, go_sem, r0, r1, r2, r3, r4]) rfl (rule_done (x := .mk 0 0 0 0 []) (b := false) rfl (eo_none _ _ _) HB.out.1 HR.out)

set_option maxHeartbeats 8000000 in
theorem twoNumbers_rule : RuleC 50 1 := by
  intro d w lo hi v e hd ho hhi hfm
  obtain ⟨s, rfl, hko⟩ := ho
  have b2 := fun o o' => ((Below.refl w.heap.size w).alloc (Nat.le_refl _) o).alloc (by simp) o'
  obtain ⟨u0, hu0, G0, F0, Z0, S0⟩ := rule_start w e s 42
  have hrd : ruleD 1 e = if (3 ≤ e.k ∧ e.k ≤ 9) ∧ (kidN e 0).k = 1 ∧ (kidN e 1).k = 1 then some (numE (twoZ e.k (kidN e 0).n (kidN e 1).n)) else none := rfl
  have hto := fun W => isTwoN_any W e.k
  by_cases h39 : 3 ≤ e.k ∧ e.k ≤ 9
  rotate_left
  · have HR : Hid (ruleD 1 e = if false then some (.mk 0 0 0 0 []) else none) := by show _ = _; rw [hrd, if_neg (fun h => h39 h.1)]; rfl
    have b1 : (decide (3 ≤ e.k) && decide (e.k ≤ 9)) = false := by simp only [Bool.and_eq_false_iff, decide_eq_false_iff_not]; omega
    rw [b1] at hto
    obtain ⟨ad, cap, rfl, _, _⟩ := hko.kr.shape
    clear hu0 G0 F0 Z0 S0 h39 hrd b1
    go_enter Tryz.func50, Tryz.ntmps50
    go_wp2_with (go_at_call 64; refine (hto _).mono ?_; rintro e1 w1 ⟨rfl, rfl⟩)
    exact bodyPost_ret (v := .tuple #[.agg #[.int .i64 0, .int .i64 0, .int .i64 0, .int .i64 0, .slice none 0 0], .bool false]) (by simp [results, Tryz.results50, go_sem]) rfl (rule_done (x := .mk 0 0 0 0 []) (b := false) rfl (eo_none _ _ _) (b2 _ _) HR.out)
  have b1 : (decide (3 ≤ e.k) && decide (e.k ≤ 9)) = true := by simp [h39]
  rw [b1] at hto
  clear b1
  obtain ⟨x, y, hkids, hk0, hk1⟩ := slim_two hfm h39
  rw [hk0, hk1] at hrd
  obtain ⟨b, off, cap, sx, sy, lx, hx, ly, hy, rfl, hb1, hb2, h5, h5y, kx, ky, ix, iy⟩ := cells_two hko hkids
  obtain ⟨ax, cx, rfl, _, _⟩ := kx.kr.shape
  obtain ⟨ay, cy, rfl, _, _⟩ := ky.kr.shape
  have HKO : Hid (KO w lo hi (.slice (some ⟨b, off, none⟩) 2 cap) e.kids) := hko
  have H5 : Hid (Cell5 w b off x (.slice ax x.kids.length cx) ∧ Cell5 w b (off + 5) y (.slice ay y.kids.length cy)) := ⟨h5, h5y⟩
  have hfx := (form_know hfm).2 x (by rw [hkids]; simp)
  have hfy := (form_know hfm).2 y (by rw [hkids]; simp)
  have hNP : NumP e := .inr (.inr ⟨h39, by rw [hkids]; rfl⟩)
  obtain ⟨e0, e1, e2, e3, e4, _⟩ := id F0
  obtain ⟨c0, c1, c2, c3, c4⟩ := H5.out.1.kept (G0.block b (by omega))
  have hsz : ((0 : Int) < 2) := by decide
  have hsz1 : ((1 : Int) < 2) := by decide
  have HRD : Hid (ruleD 1 e = if (3 ≤ e.k ∧ e.k ≤ 9) ∧ x.k = 1 ∧ y.k = 1 then some (numE (twoZ e.k x.n y.n)) else none) := hrd
  have HKD : Hid ((3 ≤ e.k ∧ e.k ≤ 9) ∧ e.kids = [x, y] ∧ kidN e 0 = x ∧ kidN e 1 = y) := ⟨h39, hkids, hk0, hk1⟩
  clear h5 h5y hko hrd hkids hk0 hk1 h39
  go_enter Tryz.func50, Tryz.ntmps50
  go_wp2_with (go_at_call 64; refine (hto _).mono ?_; clear hto; rintro e9 w9 ⟨rfl, h9⟩; rw [h9]; clear h9 w9)
  clear hu0 e0 e1 e2 e3 e4 c0 c1 c2 c3 c4
  refine (isNumber_any u0 x ax x.kids.length cx).mono ?_
  rintro e1 u1 ⟨rfl, g1⟩
  have G1 := G0.trans (g1.mono (by omega))
  have S1 := g1.size
  have F1 := F0.under g1 (by omega)
  have Z1 := Z0.under g1 (by omega)
  clear g1 F0 Z0 G0
  by_cases hx1 : x.k = 1
  rotate_left
  · have b3 : (x.k == 1) = false := by simp [hx1]
    have HR : Hid (ruleD 1 e = if false then some (.mk 0 0 0 0 []) else none) := by show _ = _; rw [HRD.out, if_neg (fun h => hx1 h.2.1)]; rfl
    clear hx1
    obtain ⟨u5, hu5, F5, N5, S5, B5⟩ := fiveStore Z1 (.int .i64 0) (.int .i64 0) (.int .i64 0) (.int .i64 0) (.slice none 0 0)
    have HU5 : Hid (_ = u5) := hu5
    have HB : Hid (Below w.heap.size w u5 ∧ Five u5 (w.heap.size + 1) (.int .i64 0) (.int .i64 0) (.int .i64 0) (.int .i64 0) (.slice none 0 0)) := ⟨G1.trans (B5.mono (by omega)), F5⟩
    obtain ⟨z0, z1, z2, z3, z4, zf⟩ := id Z1
    have zf0 := zf 0
    have zf1 := zf 1
    have zf2 := zf 2
    have zf3 := zf 3
    have zf4 := zf 4
    clear hu5 F5 N5 zf
    clear F1 Z1 G1
    go_wp2
    rw [HU5.out]
    obtain ⟨r0, r1, r2, r3, r4, _⟩ := HB.out.2
    exact bodyPost_ret (v := .tuple #[.agg #[.int .i64 0, .int .i64 0, .int .i64 0, .int .i64 0, .slice none 0 0], .bool false]) (by simp [results, Tryz.results50, go_sem, r0, r1, r2, r3, r4]) rfl (rule_done (x := .mk 0 0 0 0 []) (b := false) rfl (eo_none _ _ _) HB.out.1 HR.out)
  have b3 : (x.k == 1) = true := by simp [hx1]
  have HX1 : Hid (x.k = 1) := hx1
  clear hx1
  obtain ⟨e0, e1, e2, e3, e4, _⟩ := id F1
  obtain ⟨c0, c1, c2, c3, c4⟩ := H5.out.2.kept (G1.block b (by omega))
  go_wp2_with fail
  clear e0 e1 e2 e3 e4 c0 c1 c2 c3 c4
  refine (isNumber_any u1 y ay y.kids.length cy).mono ?_
  rintro e1 u2 ⟨rfl, g2⟩
  have G2 := G1.trans (g2.mono (by omega))
  have S2 := g2.size
  have F2 := F1.under g2 (by omega)
  have Z2 := Z1.under g2 (by omega)
  clear g2 F1 Z1 G1
  by_cases hy1 : y.k = 1
  rotate_left
  · have b4 : (y.k == 1) = false := by simp [hy1]
    have HR : Hid (ruleD 1 e = if false then some (.mk 0 0 0 0 []) else none) := by show _ = _; rw [HRD.out, if_neg (fun h => hy1 h.2.2)]; rfl
    clear hy1 b3
    obtain ⟨u5, hu5, F5, N5, S5, B5⟩ := fiveStore Z2 (.int .i64 0) (.int .i64 0) (.int .i64 0) (.int .i64 0) (.slice none 0 0)
    have HU5 : Hid (_ = u5) := hu5
    have HB : Hid (Below w.heap.size w u5 ∧ Five u5 (w.heap.size + 1) (.int .i64 0) (.int .i64 0) (.int .i64 0) (.int .i64 0) (.slice none 0 0)) := ⟨G2.trans (B5.mono (by omega)), F5⟩
    obtain ⟨z0, z1, z2, z3, z4, zf⟩ := id Z2
    have zf0 := zf 0
    have zf1 := zf 1
    have zf2 := zf 2
    have zf3 := zf 3
    have zf4 := zf 4
    clear hu5 F5 N5 zf
    clear F2 Z2 G2
    go_wp2
    rw [HU5.out]
    obtain ⟨r0, r1, r2, r3, r4, _⟩ := HB.out.2
    exact bodyPost_ret (v := .tuple #[.agg #[.int .i64 0, .int .i64 0, .int .i64 0, .int .i64 0, .slice none 0 0], .bool false]) (by simp [results, Tryz.results50, go_sem, r0, r1, r2, r3, r4]) rfl (rule_done (x := .mk 0 0 0 0 []) (b := false) rfl (eo_none _ _ _) HB.out.1 HR.out)
  have b4 : (y.k == 1) = true := by simp [hy1]
  have HR : Hid (ruleD 1 e = if true then some (numE (numVal e)) else none) := by
    show _ = _
    have h39 := HKD.out.1
    rw [HRD.out, if_pos ⟨h39, HX1.out, hy1⟩, if_pos rfl]
    unfold numVal
    rw [if_neg (by omega), if_neg (by omega), HKD.out.2.2.1, HKD.out.2.2.2]
  have hall : ∀ z, z ∈ e.kids → z.k = 1 ∧ z.kids.length = 0 := fun z hz => by
    rw [HKD.out.2.1] at hz
    simp only [List.mem_cons, List.not_mem_nil, or_false] at hz
    rcases hz with rfl | rfl
    · exact ⟨HX1.out, form_num_kids hfx HX1.out⟩
    · exact ⟨hy1, form_num_kids hfy hy1⟩
  have hrk := reckoned_any u2 lo hi _ e (HKO.out.kr.under G2 hhi) (by omega) hNP hall
  generalize numVal e = n at *
  obtain ⟨e0, e1, e2, e3, e4, _⟩ := id F2
  clear hy1 hall hNP hfx hfy b3
  go_wp2_with fail
  clear e0 e1 e2 e3 e4
  refine hrk.mono ?_
  clear hrk
  rintro e5 u3 ⟨rfl, g3⟩
  have G3 := G2.trans (g3.mono (by omega))
  have Z3 := Z2.under g3 (by omega)
  obtain ⟨u5, hu5, F5, N5, S5, B5⟩ := fiveStore Z3 (.int .i64 1) (.int .i64 n) (.int .i64 0) (.int .i64 0) (.slice none 0 0)
  have HU5 : Hid (_ = u5) := hu5
  have HB : Hid (Below w.heap.size w u5 ∧ Five u5 (w.heap.size + 1) (.int .i64 1) (.int .i64 n) (.int .i64 0) (.int .i64 0) (.slice none 0 0)) := ⟨G3.trans (B5.mono (by omega)), F5⟩
  obtain ⟨z0, z1, z2, z3, z4, zf⟩ := id Z3
  have zf0 := zf 0
  have zf1 := zf 1
  have zf2 := zf 2
  have zf3 := zf 3
  have zf4 := zf 4
  clear hu5 F5 N5 zf
  clear F2 Z2 Z3 G2 G3 g3
  go_wp2
  rw [HU5.out]
  obtain ⟨r0, r1, r2, r3, r4, _⟩ := HB.out.2
  exact bodyPost_ret (v := .tuple #[.agg #[.int .i64 1, .int .i64 n, .int .i64 0, .int .i64 0, .slice none 0 0], .bool true]) (by simp [results, Tryz.results50, go_sem, r0, r1, r2, r3, r4]) rfl (rule_done (x := numE n) (b := true) rfl (eo_num _ _ _ _) HB.out.1 HR.out)
end Go.Proofs.YtkeockippmmneaaGreat
