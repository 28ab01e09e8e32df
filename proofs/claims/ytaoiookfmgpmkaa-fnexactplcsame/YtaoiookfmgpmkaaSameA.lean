/-
  Two statements held against each other, but for what is within them: sameBut of the program.
-/
import Derived.Test.YtaoiookfmgpmkaaStmtSame
import Derived.Test.YtaoiookfmgpmkaaAlikeC
namespace Go.Proofs.Ytaoiookfmgpmkaa
open Go.ChangeShapes Go.WideShapes Go.ChangeAt Go.RowKit
set_option linter.unusedVariables false
set_option maxRecDepth 100000

/-- The same but for what is within them. -/
def BareT (x y : StmtD) : Prop := x.k = y.k ∧ (x.tk = y.tk ∧ x.ta = y.ta) ∧ x.e = y.e

theorem bareT_eq {x y : StmtD} : x = y ↔ BareT x y ∧ x.th = y.th ∧ x.el = y.el := by
  rw [stmtD_eq]; unfold BareT; simp [and_assoc]

set_option maxHeartbeats 4000000 in
theorem sameBut_any (w : World) (lo hi lo' hi' : Nat) (x y : StmtD) (a1x a2x a3x a1y a2y a3y : Option Go.Addr) (c1x c2x c3x c1y c2y c3y : Nat) (hx : KO w lo hi (.slice a1x x.e.kids.length c1x) x.e.kids) (hy : KR w lo' hi' (.slice a1y y.e.kids.length c1y) y.e.kids) (hhi : hi ≤ w.heap.size) (hhi' : hi' ≤ w.heap.size) (hmx : manyL x.e.kids ≤ 1048576) (hmy : manyL y.e.kids ≤ 1048576) :
    Calls Try.prog 57 #[.agg #[.int .i64 x.k, .int .i64 x.tk, .int .i64 x.ta, .int .i64 x.e.k, .int .i64 x.e.n, .int .i64 x.e.ak, .int .i64 x.e.at_, .slice a1x x.e.kids.length c1x, .slice a2x x.th.length c2x, .slice a3x x.el.length c3x], .agg #[.int .i64 y.k, .int .i64 y.tk, .int .i64 y.ta, .int .i64 y.e.k, .int .i64 y.e.n, .int .i64 y.e.ak, .int .i64 y.e.at_, .slice a1y y.e.kids.length c1y, .slice a2y y.th.length c2y, .slice a3y y.el.length c3y]] w fun e w' => ∃ r : Bool, e = .returned (.bool r) ∧ (r = true ↔ BareT x y) ∧ Below w.heap.size w w' := by
  have HX : Hid (KO w lo hi (.slice a1x x.e.kids.length c1x) x.e.kids ∧ KR w lo' hi' (.slice a1y y.e.kids.length c1y) y.e.kids) := ⟨hx, hy⟩
  clear hx hy
  have hex := manyE_eq x.e
  have hey := manyE_eq y.e
  obtain ⟨u0, hu0, G0, A0, B0, S0⟩ : ∃ u0, (w.alloc (.cells #[.int .i64 x.k, .int .i64 x.tk, .int .i64 x.ta, .int .i64 x.e.k, .int .i64 x.e.n, .int .i64 x.e.ak, .int .i64 x.e.at_, .slice a1x x.e.kids.length c1x, .slice a2x x.th.length c2x, .slice a3x x.el.length c3x] 101)).alloc (.cells #[.int .i64 y.k, .int .i64 y.tk, .int .i64 y.ta, .int .i64 y.e.k, .int .i64 y.e.n, .int .i64 y.e.ak, .int .i64 y.e.at_, .slice a1y y.e.kids.length c1y, .slice a2y y.th.length c2y, .slice a3y y.el.length c3y] 101) = u0 ∧ Below w.heap.size w u0 ∧ TenW u0 w.heap.size (.int .i64 x.k) (.int .i64 x.tk) (.int .i64 x.ta) (.int .i64 x.e.k) (.int .i64 x.e.n) (.int .i64 x.e.ak) (.int .i64 x.e.at_) (.slice a1x x.e.kids.length c1x) (.slice a2x x.th.length c2x) (.slice a3x x.el.length c3x) ∧ TenW u0 (w.heap.size + 1) (.int .i64 y.k) (.int .i64 y.tk) (.int .i64 y.ta) (.int .i64 y.e.k) (.int .i64 y.e.n) (.int .i64 y.e.ak) (.int .i64 y.e.at_) (.slice a1y y.e.kids.length c1y) (.slice a2y y.th.length c2y) (.slice a3y y.el.length c3y) ∧ u0.heap.size = w.heap.size + 2 := by
    refine ⟨_, rfl, ((Below.refl w.heap.size w).alloc (Nat.le_refl _) _).alloc (by simp) _, (tenW_new w (.int .i64 x.k) (.int .i64 x.tk) (.int .i64 x.ta) (.int .i64 x.e.k) (.int .i64 x.e.n) (.int .i64 x.e.ak) (.int .i64 x.e.at_) (.slice a1x x.e.kids.length c1x) (.slice a2x x.th.length c2x) (.slice a3x x.el.length c3x) 101).under ((Below.refl _ _).alloc (Nat.le_refl _) _) (by simp), ?_, by simp⟩
    have h1 := tenW_new (w.alloc (.cells #[.int .i64 x.k, .int .i64 x.tk, .int .i64 x.ta, .int .i64 x.e.k, .int .i64 x.e.n, .int .i64 x.e.ak, .int .i64 x.e.at_, .slice a1x x.e.kids.length c1x, .slice a2x x.th.length c2x, .slice a3x x.el.length c3x] 101)) (.int .i64 y.k) (.int .i64 y.tk) (.int .i64 y.ta) (.int .i64 y.e.k) (.int .i64 y.e.n) (.int .i64 y.e.ak) (.int .i64 y.e.at_) (.slice a1y y.e.kids.length c1y) (.slice a2y y.th.length c2y) (.slice a3y y.el.length c3y) 101
    simp only [World.size_alloc] at h1
    exact h1
  have HU0 : Hid ((w.alloc (.cells #[.int .i64 x.k, .int .i64 x.tk, .int .i64 x.ta, .int .i64 x.e.k, .int .i64 x.e.n, .int .i64 x.e.ak, .int .i64 x.e.at_, .slice a1x x.e.kids.length c1x, .slice a2x x.th.length c2x, .slice a3x x.el.length c3x] 101)).alloc (.cells #[.int .i64 y.k, .int .i64 y.tk, .int .i64 y.ta, .int .i64 y.e.k, .int .i64 y.e.n, .int .i64 y.e.ak, .int .i64 y.e.at_, .slice a1y y.e.kids.length c1y, .slice a2y y.th.length c2y, .slice a3y y.el.length c3y] 101) = u0) := hu0
  clear hu0
  cases e1 : (x.k == y.k) with
  | false =>
    have HN : Hid (¬ BareT x y) := fun h => by have := h.1; simp [this] at e1
    clear A0 B0
    go_enter Try.func57, Try.ntmps57
    go_wp2
    rw [HU0.out]
    go_ret
    exact ⟨false, rfl, by simp [HN.out], G0⟩
  | true =>
    cases e2 : (x.tk == y.tk) with
    | false =>
      have HN : Hid (¬ BareT x y) := fun h => by have := h.2.1.1; simp [this] at e2
      clear A0 B0
      go_enter Try.func57, Try.ntmps57
      go_wp2
      rw [HU0.out]
      go_ret
      exact ⟨false, rfl, by simp [HN.out], G0⟩
    | true =>
      cases e3 : (x.ta == y.ta) with
      | false =>
        have HN : Hid (¬ BareT x y) := fun h => by have := h.2.1.2; simp [this] at e3
        clear A0 B0
        go_enter Try.func57, Try.ntmps57
        go_wp2
        rw [HU0.out]
        go_ret
        exact ⟨false, rfl, by simp [HN.out], G0⟩
      | true =>
        have HE : Hid (x.e = y.e ↔ BareT x y) := ⟨fun h => ⟨by simpa using e1, ⟨by simpa using e2, by simpa using e3⟩, h⟩, fun h => h.2.2⟩
        clear A0 B0
        go_enter Try.func57, Try.ntmps57
        go_wp2_with fail
        rw [HU0.out]
        refine (iExprAlike_any _ lo hi lo' hi' 0 _ _ x.e y.e ⟨_, rfl, HX.out.1.under G0 hhi⟩ ⟨_, rfl, HX.out.2.under G0 hhi'⟩ (by omega) (by omega) (by omega) (by omega)).mono ?_
        rintro en u1 ⟨r, rfl, hr, g1⟩
        have G1 := G0.trans (g1.mono (by omega))
        have HR : Hid (r = true ↔ BareT x y) := hr.trans HE.out
        clear g1 G0 hr
        go_wp2
        go_ret
        exact ⟨r, by simp, HR.out, G1⟩
end Go.Proofs.Ytaoiookfmgpmkaa
