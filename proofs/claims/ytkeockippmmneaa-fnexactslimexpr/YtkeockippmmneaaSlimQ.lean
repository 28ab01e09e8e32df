/-
  Chapter 10's program: SlimExpr.
-/
import Derived.Test.YtkeockippmmneaaSlimP
namespace Go.Proofs.Ytkeockippmmneaa
open Go.ChangeShapes Go.WideShapes Go.ChangeAt Go.RowKit
set_option linter.unusedVariables false
set_option maxRecDepth 100000

theorem slimS : ∀ d, SlimS d
  | 0 => by intro w lo hi v e _ _ _ h; rw [formE] at h; cases h
  | d + 1 => slimS_step (slimS d)

set_option maxHeartbeats 4000000 in
theorem iSlimExpr_any (w : World) (lo hi : Nat) (v : Value) (e : ExprD) (h : ER w lo hi v e) (hhi : hi ≤ w.heap.size) (hm : manyL e.kids ≤ 1048576) :
    Calls Try.prog 9 #[v] w (SlimQ w (slimExpr e)) := by
  have HE : Hid (ER w lo hi v e) := h
  obtain ⟨s, rfl, hk⟩ := h
  obtain ⟨ad, cap, rfl, _, _⟩ := hk.shape
  clear hk
  have HR : Hid (slimExpr e = if exprOk e then slimD 6 e else .mk 0 0 0 0 []) := rfl
  obtain ⟨X, hX⟩ : ∃ X, slimExpr e = X := ⟨_, rfl⟩
  rw [hX] at HR ⊢
  clear hX
  obtain ⟨u0, hu0, G0, F0, Z0, S0⟩ := rule_start w e (.slice ad e.kids.length cap) 31
  obtain ⟨c0, c1, c2, c3, c4, _⟩ := id F0
  go_enter Try.func9, Try.ntmps9
  go_wp2_with fail
  clear hu0 c0 c1 c2 c3 c4
  refine (iExprOk_any _ lo hi _ e (HE.out.below G0 hhi) (by omega) hm).mono ?_
  rintro e1 u1 ⟨rfl, g1⟩
  have S1 := g1.size
  have G1 := G0.trans (g1.mono (by omega))
  have F1 := F0.under g1 (by omega)
  have Z1 := Z0.under g1 (by omega)
  clear g1 F0 Z0 G0
  cases hok : exprOk e with
  | false =>
    have HX : Hid (X = .mk 0 0 0 0 []) := by show X = _; rw [HR.out, hok]; rfl
    obtain ⟨u5, hu5, F5, N5, S5, B5⟩ := fiveStore Z1 (.int .i64 0) (.int .i64 0) (.int .i64 0) (.int .i64 0) (.slice none 0 0)
    have HU5 : Hid (_ = u5) := hu5
    have HB : Hid (Below w.heap.size w u5 ∧ Five u5 (w.heap.size + 1) (.int .i64 0) (.int .i64 0) (.int .i64 0) (.int .i64 0) (.slice none 0 0)) := ⟨G1.trans (B5.mono (by omega)), F5⟩
    obtain ⟨z0, z1, z2, z3, z4, zf⟩ := id Z1
    have zf0 := zf 0
    have zf1 := zf 1
    have zf2 := zf 2
    have zf3 := zf 3
    have zf4 := zf 4
    clear hu5 F5 N5 B5 zf F1 Z1 G1
    go_wp2
    rw [HU5.out]
    obtain ⟨r0, r1, r2, r3, r4, _⟩ := HB.out.2
    exact bodyPost_ret (v := .agg #[.int .i64 0, .int .i64 0, .int .i64 0, .int .i64 0, .slice none 0 0]) (by simp [results, Try.results9, go_sem, r0, r1, r2, r3, r4]) rfl ⟨_, rfl, by rw [HX.out]; exact eo_none _ _ _, HB.out.1⟩
  | true =>
    have HX : Hid (X = slimD 6 e) := by show X = _; rw [HR.out, hok]; rfl
    have hfm : formE 6 e = true := by unfold exprOk at hok; rw [Bool.and_eq_true] at hok; exact hok.1
    have hsl := slimS 6 u1 lo hi _ e (by omega) (HE.out.below G1 hhi) (by omega) hfm
    obtain ⟨e0, e1, e2, e3, e4, _⟩ := id F1
    clear hfm
    go_wp2_with fail
    clear e0 e1 e2 e3 e4
    refine hsl.mono ?_
    clear hsl
    rintro e2 u2 ⟨v', rfl, HO, g2⟩
    rw [← HX.out] at HO
    obtain ⟨ax, cx, rfl⟩ := HO.form5
    have S2 := g2.size
    have G2 := G1.trans (g2.mono (by omega))
    have Z2 := Z1.under g2 (by omega)
    obtain ⟨u5, hu5, F5, N5, S5, B5⟩ := fiveStore Z2 (.int .i64 X.k) (.int .i64 X.n) (.int .i64 X.ak) (.int .i64 X.at_) (.slice ax X.kids.length cx)
    have HU5 : Hid (_ = u5) := hu5
    have HB : Hid (Below w.heap.size w u5 ∧ Five u5 (w.heap.size + 1) (.int .i64 X.k) (.int .i64 X.n) (.int .i64 X.ak) (.int .i64 X.at_) (.slice ax X.kids.length cx) ∧ EO u5 w.heap.size u5.heap.size (.agg #[.int .i64 X.k, .int .i64 X.n, .int .i64 X.ak, .int .i64 X.at_, .slice ax X.kids.length cx]) X) :=
      ⟨G2.trans (B5.mono (by omega)), F5, (HO.kept fun k q1 q2 => N5 k (by omega)).wide (by omega) (by omega)⟩
    obtain ⟨z0, z1, z2, z3, z4, zf⟩ := id Z2
    have zf0 := zf 0
    have zf1 := zf 1
    have zf2 := zf 2
    have zf3 := zf 3
    have zf4 := zf 4
    clear hu5 F5 N5 B5 zf F1 Z1 Z2 G1 G2 g2 HO
    go_wp2
    rw [HU5.out]
    obtain ⟨r0, r1, r2, r3, r4, _⟩ := HB.out.2.1
    exact bodyPost_ret (v := .agg #[.int .i64 X.k, .int .i64 X.n, .int .i64 X.ak, .int .i64 X.at_, .slice ax X.kids.length cx]) (by simp [results, Try.results9, go_sem, r0, r1, r2, r3, r4]) rfl ⟨_, rfl, HB.out.2.2, HB.out.1⟩
end Go.Proofs.Ytkeockippmmneaa
