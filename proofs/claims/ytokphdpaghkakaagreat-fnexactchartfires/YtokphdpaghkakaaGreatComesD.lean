/-
  ExprOf of the program.
-/
import Derived.Test.YtokphdpaghkakaaGreatComesC
namespace Go.Proofs.YtokphdpaghkakaaGreat
open Go.ChangeShapes Go.WideShapes Go.ChangeAt Go.RowKit
set_option linter.unusedVariables false
set_option maxRecDepth 100000

theorem ofP : ∀ d, OfP d
  | 0 => by intro w lo hi lo' hi' s m e md _ _ _ _ h; rw [formE] at h; cases h
  | d + 1 => ofP_step (ofP d)

set_option maxHeartbeats 2000000 in
theorem iExprOf_any (w : World) (lo hi lo' hi' : Nat) (v m : Value) (e : ExprD) (md : MemD) (h : ER w lo hi v e) (h' : MI w lo' hi' m md) (hhi : hi ≤ w.heap.size) (hhi' : hi' ≤ w.heap.size) (hm : manyL e.kids ≤ 1048576) :
    Calls Tryz.prog 32 #[v, m] w fun en w' => en = .returned (.int .i64 (exprOf e md)) ∧ Below w.heap.size w w' := by
  have HE := h
  have HM := h'
  obtain ⟨s, rfl, hk⟩ := h
  obtain ⟨ma, mb, mc, rfl, _, _, _⟩ := h'
  have HK : Hid (KR w lo hi s e.kids) := hk
  have HEE : Hid (ER w lo hi (.agg #[.int .i64 e.k, .int .i64 e.n, .int .i64 e.ak, .int .i64 e.at_, s]) e) := HE
  have HMM : Hid (MI w lo' hi' (.agg #[ma, mb, mc]) md) := HM
  obtain ⟨ad, cap, rfl, _, _⟩ := hk.shape
  clear HE HM hk
  have b2 := fun o o' => ((Below.refl w.heap.size w).alloc (Nat.le_refl _) o).alloc (by simp) o'
  have HR : Hid (exprOf e md = if exprOk e && memOk md then evalD 6 md e else 0) := rfl
  obtain ⟨r, hr⟩ : ∃ r, exprOf e md = r := ⟨_, rfl⟩
  rw [hr]
  rw [hr] at HR
  clear hr
  go_enter Tryz.func32, Tryz.ntmps32
  go_wp2_with fail
  obtain ⟨u0, hu0, G0, A0, M0, S0⟩ : ∃ u0, (w.alloc (.cells #[.int .i64 e.k, .int .i64 e.n, .int .i64 e.ak, .int .i64 e.at_, .slice ad e.kids.length cap] 65)).alloc (.cells #[ma, mb, mc] 43) = u0 ∧ Below w.heap.size w u0 ∧ Five u0 w.heap.size (.int .i64 e.k) (.int .i64 e.n) (.int .i64 e.ak) (.int .i64 e.at_) (.slice ad e.kids.length cap) ∧ Box3 u0 (w.heap.size + 1) ma mb mc ∧ u0.heap.size = w.heap.size + 2 := by
    obtain ⟨w1, e1⟩ : ∃ w1, w.alloc (.cells #[.int .i64 e.k, .int .i64 e.n, .int .i64 e.ak, .int .i64 e.at_, .slice ad e.kids.length cap] 65) = w1 := ⟨_, rfl⟩
    have n1 := five_new w (.int .i64 e.k) (.int .i64 e.n) (.int .i64 e.ak) (.int .i64 e.at_) (.slice ad e.kids.length cap) 65
    have s1 : w1.heap.size = w.heap.size + 1 := by rw [← e1]; simp
    have g1 : Below w.heap.size w w1 := by rw [← e1]; exact (Below.refl _ _).alloc (Nat.le_refl _) _
    rw [e1] at n1 ⊢
    have g2 : Below w1.heap.size w1 (w1.alloc (.cells #[ma, mb, mc] 43)) := (Below.refl _ _).alloc (Nat.le_refl _) _
    refine ⟨_, rfl, below_two g1 g2, n1.under g2 (by omega), ?_, by rw [World.size_alloc]; omega⟩
    have := box3_new w1 ma mb mc 43
    rwa [s1] at this
  rw [hu0]
  clear hu0
  refine (iExprOk_any _ lo hi _ e (HEE.out.below G0 hhi) (by omega) hm).mono ?_
  rintro e1 u1 ⟨rfl, g1⟩
  have S1 := g1.size
  have G1 := G0.trans (g1.mono (by omega))
  have A1 := A0.under g1 (by omega)
  have M1 := M0.below g1 (by omega)
  clear g1 A0 M0 G0
  cases ho : exprOk e with
  | false =>
    have H0 : Hid (r = 0) := by show r = 0; rw [HR.out, ho]; rfl
    clear A1 M1 HR
    go_wp2
    go_ret
    exact ⟨ret_int H0.out.symm, G1⟩
  | true =>
    obtain ⟨c0, c1, c2⟩ := id M1
    go_wp2_with fail
    refine (iMemOk_any _ _ lo' hi' md (HMM.out.below G1 hhi') (by omega)).mono ?_
    rintro e2 u2 ⟨rfl, g2⟩
    have S2 := g2.size
    have G2 := G1.trans (g2.mono (by omega))
    have A2 := A1.under g2 (by omega)
    have M2 := M1.below g2 (by omega)
    clear g2 A1 M1 G1 c0 c1 c2
    cases hmo : memOk md with
    | false =>
      have H0 : Hid (r = 0) := by show r = 0; rw [HR.out, ho, hmo]; rfl
      clear A2 M2 HR
      go_wp2
      go_ret
      exact ⟨ret_int H0.out.symm, G2⟩
    | true =>
      have H0 : Hid (evalD 6 md e = r) := by show _ = r; rw [HR.out, ho, hmo]; rfl
      obtain ⟨c0, c1, c2⟩ := id M2
      obtain ⟨d0, d1, d2, d3, d4, _⟩ := id A2
      have hof := ofP 6 u2 lo hi lo' hi' _ _ e md (HK.out.under G2 hhi) (HMM.out.below G2 hhi') (by omega) (by omega) (exprOk_form ho) hmo
      rw [H0.out] at hof
      clear HR
      go_wp2_with fail
      refine hof.mono ?_
      rintro e3 u3 ⟨rfl, g3⟩
      have G3 := G2.trans (g3.mono (by omega))
      clear g3 A2 M2 G2 c0 c1 c2 d0 d1 d2 d3 d4 hof
      go_wp2
      go_ret
      exact ⟨rfl, G3⟩

theorem iExprOf_impl : ∀ (w : World) (m0 : Value) (lo0 hi0 : Nat) (d0 : ExprD) (m1 : Value) (lo1 hi1 : Nat) (d1 : MemD), ER w lo0 hi0 m0 d0 → hi0 ≤ w.heap.size → manyL d0.kids ≤ 1048576 → MI w lo1 hi1 m1 d1 → hi1 ≤ w.heap.size → d1.many ≤ 1048576 → Calls Tryz.prog 32 #[m0, m1] w fun e w' => e = .returned (.int .i64 (exprOf d0 d1)) ∧ Below w.heap.size w w' :=
  fun w m0 lo0 hi0 d0 m1 lo1 hi1 d1 h0 hh0 hm0 h1 hh1 _ => iExprOf_any w lo0 hi0 lo1 hi1 m0 m1 d0 d1 h0 h1 hh0 hh1 hm0
end Go.Proofs.YtokphdpaghkakaaGreat
