/-
  Two parts by a kind: wqTwo; what they come to, whichever is first.
-/
import Derived.Test.YtdhmioelmcdflaaDrawExprF
import Derived.Test.YtdhmioelmcdflaaExprAlg
import Derived.Test.YtdhmioelmcdflaaComesD
namespace Go.Proofs.Ytdhmioelmcdflaa
open Go.ChangeShapes Go.WideShapes Go.ChangeAt Go.RowKit
set_option linter.unusedVariables false
set_option maxRecDepth 100000

/-- Two parts by a kind. -/
def twoD (k : Int) (a b : ExprD) : ExprD := .mk k 0 0 0 [a, b]

theorem twoD_ok (k : Int) (a b : ExprD) : exprOk (twoD k a b) = exprOk (twoD k b a) := by
  have hp : partB (twoD k a b) = partB (twoD k b a) := rfl
  have hf : formE 6 (twoD k a b) = formE 6 (twoD k b a) := by
    rw [formE_succ, formE_succ, hp]
    congr 1
    show ([a, b].all (formE 5)) = ([b, a].all (formE 5))
    simp [Bool.and_comm]
  have hm : manyD 6 (twoD k a b) = manyD 6 (twoD k b a) := by
    rw [manyD, manyD]
    show _ = _
    simp [twoD, ExprD.kids]
    omega
  unfold exprOk
  rw [hf, hm]

theorem exprOf_two (k : Int) (h1 : 3 ≤ k) (h2 : k ≤ 9) (a b : ExprD) (m : MemD) : exprOf (twoD k a b) m = if exprOk (twoD k a b) && memOk m then twoZ k (evalD 5 m a) (evalD 5 m b) else 0 := by
  unfold exprOf
  split
  · rw [evalD_eq]
    have hk : (twoD k a b).k = k := rfl
    rw [hk, if_neg (by omega), if_neg (by omega), if_neg (by omega)]
    rfl
  · rfl

theorem twoZ_swap {k : Int} (h : k = 3 ∨ k = 5 ∨ k = 7 ∨ k = 8 ∨ k = 9) (x y : Int) : twoZ k x y = twoZ k y x := by
  rcases h with rfl | rfl | rfl | rfl | rfl
  · rw [twoZ_3, twoZ_3, Int.add_comm]
  · rw [twoZ_5, twoZ_5, Int.mul_comm]
  · rw [twoZ_7, twoZ_7, beq_flip]
  · rw [twoZ_8, twoZ_8, Bool.and_comm]
  · rw [twoZ_9, twoZ_9, Bool.or_comm]

theorem exprOf_swap {k : Int} (h : k = 3 ∨ k = 5 ∨ k = 7 ∨ k = 8 ∨ k = 9) (a b : ExprD) (m : MemD) : exprOf (twoD k b a) m = exprOf (twoD k a b) m := by
  rw [exprOf_two k (by omega) (by omega), exprOf_two k (by omega) (by omega), twoD_ok k b a, twoZ_swap h]

theorem cutZ_neg (n : Int) : cutZ (-n) = -cutZ n := by
  unfold cutZ
  repeat' split
  all_goals omega

theorem exprOf_sub (a b : ExprD) (m : MemD) : exprOf (twoD 4 a b) m = -exprOf (twoD 4 b a) m := by
  rw [exprOf_two 4 (by omega) (by omega), exprOf_two 4 (by omega) (by omega), twoD_ok 4 b a]
  split
  · rw [twoZ_4, twoZ_4, ← cutZ_neg]; congr 1; omega
  · rfl

theorem many_twoD (k : Int) (a b : ExprD) : manyL (twoD k a b).kids = manyE a + manyE b := by
  show manyL [a, b] = _
  rw [manyL, manyL, manyL]; omega

set_option maxHeartbeats 2000000 in
theorem wqTwo_any (w : World) (lo hi : Nat) (k : Int) (va vb : Value) (a b : ExprD) (ha : ER w lo hi va a) (hb : ER w lo hi vb b) (hhi : hi ≤ w.heap.size) (hlo : lo ≤ w.heap.size) :
    Calls Try.prog 21 #[.int .i64 k, va, vb] w fun e w' => ∃ g, e = .returned (.agg #[.int .i64 k, .int .i64 0, .int .i64 0, .int .i64 0, .slice (some ⟨g, 0, none⟩) 2 2]) ∧ KR w' lo w'.heap.size (.slice (some ⟨g, 0, none⟩) 2 2) [a, b] ∧ Below w.heap.size w w' := by
  obtain ⟨s, rfl, ka⟩ := ha
  obtain ⟨t, rfl, kb⟩ := hb
  obtain ⟨ads, cps, rfl, _, _⟩ := ka.shape
  obtain ⟨adt, cpt, rfl, _, _⟩ := kb.shape
  obtain ⟨u0, hu0, G0, P0, S0⟩ : ∃ u0, ((w.alloc (.cells #[.int .i64 a.k, .int .i64 a.n, .int .i64 a.ak, .int .i64 a.at_, .slice ads a.kids.length cps] 27)).alloc (.cells #[.int .i64 b.k, .int .i64 b.n, .int .i64 b.ak, .int .i64 b.at_, .slice adt b.kids.length cpt] 27)).alloc (.cells #[.int .i64 k, .int .i64 0, .int .i64 0, .int .i64 0, .slice (some ⟨w.heap.size + 1 + 1 + 1, 0, none⟩) 2 2] 27) = u0 ∧ Below w.heap.size w u0 ∧ Five u0 (w.heap.size + 1 + 1) (.int .i64 k) (.int .i64 0) (.int .i64 0) (.int .i64 0) (.slice (some ⟨w.heap.size + 1 + 1 + 1, 0, none⟩) 2 2) ∧ u0.heap.size = w.heap.size + 3 := by
    refine ⟨_, rfl, below_alloc3 w _ _ _, ?_, by simp⟩
    have h := five_new ((w.alloc (.cells #[.int .i64 a.k, .int .i64 a.n, .int .i64 a.ak, .int .i64 a.at_, .slice ads a.kids.length cps] 27)).alloc (.cells #[.int .i64 b.k, .int .i64 b.n, .int .i64 b.ak, .int .i64 b.at_, .slice adt b.kids.length cpt] 27)) (.int .i64 k) (.int .i64 0) (.int .i64 0) (.int .i64 0) (.slice (some ⟨w.heap.size + 1 + 1 + 1, 0, none⟩) 2 2) 27
    simpa using h
  obtain ⟨u1, hu1, g1, B1, S1⟩ : ∃ u1, u0.alloc (.cells #[.int .i64 a.k, .int .i64 a.n, .int .i64 a.ak, .int .i64 a.at_, .slice ads a.kids.length cps, .int .i64 b.k, .int .i64 b.n, .int .i64 b.ak, .int .i64 b.at_, .slice adt b.kids.length cpt] 27) = u1 ∧ Below u0.heap.size u0 u1 ∧ u1.heap[w.heap.size + 1 + 1 + 1]? = some (.cells #[.int .i64 a.k, .int .i64 a.n, .int .i64 a.ak, .int .i64 a.at_, .slice ads a.kids.length cps, .int .i64 b.k, .int .i64 b.n, .int .i64 b.ak, .int .i64 b.at_, .slice adt b.kids.length cpt] 27) ∧ u1.heap.size = w.heap.size + 4 := by
    refine ⟨_, rfl, (Below.refl _ _).alloc (Nat.le_refl _) _, ?_, by rw [World.size_alloc]; omega⟩
    have h := heap_alloc_new u0 (.cells #[.int .i64 a.k, .int .i64 a.n, .int .i64 a.ak, .int .i64 a.at_, .slice ads a.kids.length cps, .int .i64 b.k, .int .i64 b.n, .int .i64 b.ak, .int .i64 b.at_, .slice adt b.kids.length cpt] 27)
    rw [S0] at h
    exact h
  have HU0 : Hid (_ = u0) := hu0
  have HU1 : Hid (_ = u1) := hu1
  have P1 := P0.under g1 (by omega)
  have HG : Hid (Below w.heap.size w u1) := G0.trans (g1.mono (by omega))
  have HK : Hid (KR u1 lo u1.heap.size (.slice (some ⟨w.heap.size + 1 + 1 + 1, 0, none⟩) 2 2) [a, b]) := by
    have hS : ∀ (v : Value) (es : List ExprD), KR w lo hi v es → KRP u1 (fun j => lo ≤ j ∧ j < u1.heap.size) v es := fun v es h => (h.under HG.out hhi).krp fun j h1 h2 => ⟨h1, by omega⟩
    exact (krp_two (S := fun j => lo ≤ j ∧ j < u1.heap.size) B1 ⟨by omega, by omega⟩ (hS _ _ ka) (hS _ _ kb)).kr fun j hj => hj
  clear hu0 hu1 ka kb g1 B1 P0 G0
  go_enter Try.func21, Try.ntmps21
  go_wp2
  rw [HU0.out, HU1.out]
  obtain ⟨r0, r1, r2, r3, r4, _⟩ := P1
  exact bodyPost_ret (v := .agg #[.int .i64 k, .int .i64 0, .int .i64 0, .int .i64 0, .slice (some ⟨w.heap.size + 1 + 1 + 1, 0, none⟩) 2 2]) (by simp [results, Try.results21, go_sem, r0, r1, r2, r3, r4]) rfl ⟨_, rfl, HK.out, HG.out⟩
end Go.Proofs.Ytdhmioelmcdflaa
