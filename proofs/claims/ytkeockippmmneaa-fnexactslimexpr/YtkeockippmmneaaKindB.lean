/-
  Kinds of what is reckoned: fits; a part is right by itself.
-/
import Derived.Test.YtkeockippmmneaaKindA
import Derived.Test.YtkeockippmmneaaExprTo
import Derived.Deep.RegionWith
namespace Go.Proofs.Ytkeockippmmneaa
open Go.ChangeShapes Go.WideShapes Go.ChangeAt Go.RowKit
set_option linter.unusedVariables false

set_option maxHeartbeats 1000000 in
theorem fits_num (w : World) (k n a t : Int) (ad : Option Go.Addr) (len cap : Nat) :
    Calls Try.prog 100 #[.agg #[], .agg #[.int .i64 k, .int .i64 n, .int .i64 a, .int .i64 t, .slice ad len cap]] w fun e w' => e = .returned (.bool ((cutZ n == n) && ((a == 0) && (t == 0)))) ∧ Below w.heap.size w w' := by
  have b2 := fun o o' => ((Below.refl w.heap.size w).alloc (Nat.le_refl _) o).alloc (by simp) o'
  have hcut := fun W => numCut_any n W
  cases h1 : (cutZ n == n) with
  | true =>
    cases h2 : (a == 0) with
    | true =>
      cases h3 : (t == 0) with
      | true =>
        go_enter Try.func100, Try.ntmps100
        go_wp2_with fail
        go_quiet ((go_at_call 103; exact Calls.quiet_of_same (hcut _)))
        go_wp2
        go_ret
        exact ⟨rfl, below_drewN (b2 _ _) nq⟩
      | false =>
        go_enter Try.func100, Try.ntmps100
        go_wp2_with fail
        go_quiet ((go_at_call 103; exact Calls.quiet_of_same (hcut _)))
        go_wp2
        go_ret
        exact ⟨rfl, below_drewN (b2 _ _) nq⟩
    | false =>
      go_enter Try.func100, Try.ntmps100
      go_wp2_with fail
      go_quiet ((go_at_call 103; exact Calls.quiet_of_same (hcut _)))
      go_wp2
      go_ret
      exact ⟨rfl, below_drewN (b2 _ _) nq⟩
  | false =>
    go_enter Try.func100, Try.ntmps100
    go_wp2_with fail
    go_quiet ((go_at_call 103; exact Calls.quiet_of_same (hcut _)))
    go_wp2
    go_ret
    exact ⟨rfl, below_drewN (b2 _ _) nq⟩

set_option maxHeartbeats 1000000 in
theorem fits_addr (w : World) (k n a t : Int) (ad : Option Go.Addr) (len cap : Nat) :
    Calls Try.prog 106 #[.agg #[], .agg #[.int .i64 k, .int .i64 n, .int .i64 a, .int .i64 t, .slice ad len cap]] w fun e w' => e = .returned (.bool ((n == 0) && addrOk ⟨a, t⟩)) ∧ Below w.heap.size w w' := by
  have b2 := fun o o' => ((Below.refl w.heap.size w).alloc (Nat.le_refl _) o).alloc (by simp) o'
  have hao := fun W => iAddrOk_any W a t
  have ev : AddrD.val ⟨a, t⟩ = .agg #[.int .i64 a, .int .i64 t] := rfl
  rw [ev] at hao
  clear ev
  by_cases h1 : n = 0
  · have e1 : (n == 0) = true := by simp [h1]
    rw [e1, Bool.true_and]
    generalize addrOk ⟨a, t⟩ = r at *
    subst h1
    go_enter Try.func106, Try.ntmps106
    go_wp2_with fail
    refine (hao _).mono ?_
    rintro e w1 ⟨rfl, g1⟩
    go_wp2
    go_ret
    exact ⟨rfl, (b2 _ _).trans (g1.mono (by simp; omega))⟩
  · have e1 : (n == 0) = false := by simp [h1]
    rw [e1, Bool.false_and]
    clear hao
    go_enter Try.func106, Try.ntmps106
    go_wp2
    go_ret
    exact ⟨rfl, b2 _ _⟩

theorem fits_two (w : World) (j k n a t : Int) (ad : Option Go.Addr) (len cap : Nat) :
    Calls Try.prog 117 #[.int .i64 j, .agg #[.int .i64 k, .int .i64 n, .int .i64 a, .int .i64 t, .slice ad len cap]] w fun e w' => e = .returned (.bool (noneB n a t)) ∧ Below w.heap.size w w' := by
  have b1 := fun o => (Below.refl w.heap.size w).alloc (Nat.le_refl _) o
  have hn := fun W => holdsNone_any W k n a t _ ad len cap rfl
  generalize noneB n a t = r at *
  go_enter Try.func117, Try.ntmps117
  go_wp2_with fail
  refine (hn _).mono ?_
  rintro e w1 ⟨rfl, g1⟩
  go_wp2
  go_ret
  exact ⟨rfl, (b1 _).trans (g1.mono (by simp))⟩

theorem fits_not (w : World) (k n a t : Int) (ad : Option Go.Addr) (len cap : Nat) :
    Calls Try.prog 129 #[.agg #[], .agg #[.int .i64 k, .int .i64 n, .int .i64 a, .int .i64 t, .slice ad len cap]] w fun e w' => e = .returned (.bool (noneB n a t)) ∧ Below w.heap.size w w' := by
  have b2 := fun o o' => ((Below.refl w.heap.size w).alloc (Nat.le_refl _) o).alloc (by simp) o'
  have hn := fun W => holdsNone_any W k n a t _ ad len cap rfl
  generalize noneB n a t = r at *
  go_enter Try.func129, Try.ntmps129
  go_wp2_with fail
  refine (hn _).mono ?_
  rintro e w1 ⟨rfl, g1⟩
  go_wp2
  go_ret
  exact ⟨rfl, (b2 _ _).trans (g1.mono (by simp; omega))⟩

theorem below_drewU {u u1 : World} (g : Below u.drew.heap.size u.drew u1) : Below u.heap.size u u1 := (Below.drew (Below.refl _ _)).trans g
theorem Five.drewU {u u1 : World} {B : Nat} {v0 v1 v2 v3 v4 : Value} (h : Five u B v0 v1 v2 v3 v4) (g : Below u.drew.heap.size u.drew u1) (hB : B < u.heap.size) : Five u1 B v0 v1 v2 v3 v4 := h.under (below_drewU g) hB

set_option maxRecDepth 100000 in
set_option maxHeartbeats 4000000 in
/-- A part of a kind that there is. -/
theorem partOk_gen (w : World) (k n a t : Int) (ad : Option Go.Addr) (len cap : Nat) (T : TypeId) (v : Value) (fk ff : Nat) (nk : Int) (r : Bool) (hkv : kindV k = .iface T v)
    (hm1 : ∀ w : World, (method 254 T v "loop.example/stopgate/impl.kids").run Try.prog w = .ok (fk, v) w)
    (hm2 : ∀ w : World, (method 254 T v "loop.example/stopgate/impl.fits").run Try.prog w = .ok (ff, v) w)
    (he1 : ∀ (args : Array Value) (w : World), (callFunc fk args).run Try.prog w = .ok (.enter fk args) w)
    (he2 : ∀ (args : Array Value) (w : World), (callFunc ff args).run Try.prog w = .ok (.enter ff args) w)
    (hk : ∀ W : World, Calls Try.prog fk #[v] W fun e w' => e = .returned (.int .i64 nk) ∧ Below W.heap.size W w')
    (hf : ∀ W : World, Calls Try.prog ff #[v, .agg #[.int .i64 k, .int .i64 n, .int .i64 a, .int .i64 t, .slice ad len cap]] W fun e w' => e = .returned (.bool r) ∧ Below W.heap.size W w') :
    Calls Try.prog 48 #[.agg #[.int .i64 k, .int .i64 n, .int .i64 a, .int .i64 t, .slice ad len cap]] w fun e w' => e = .returned (.bool (((len : Int) == nk) && r)) ∧ Below w.heap.size w w' := by
  have hko := fun W => kindOf_any W k
  rw [hkv] at hko
  clear hkv
  go_enter Try.func48, Try.ntmps48
  go_wp2_with fail
  refine (hko _).mono ?_
  rintro e w1 ⟨rfl, rfl⟩
  clear hko
  go_wp2_with fail
  obtain ⟨u0, hu0, G0, F0, S0⟩ : ∃ u0, w.alloc (.cells #[.int .i64 k, .int .i64 n, .int .i64 a, .int .i64 t, .slice ad len cap] 31) = u0 ∧ Below w.heap.size w u0 ∧ Five u0 w.heap.size (.int .i64 k) (.int .i64 n) (.int .i64 a) (.int .i64 t) (.slice ad len cap) ∧ u0.heap.size = w.heap.size + 1 :=
    ⟨_, rfl, (Below.refl w.heap.size w).alloc (Nat.le_refl _) _, five_new w _ _ _ _ _ _, by simp⟩
  rw [hu0]
  clear hu0
  obtain ⟨c0, c1, c2, c3, c4, _⟩ := id F0
  have L0 : w.heap.size < u0.heap.size := by omega
  cases hq : ((len : Int) == nk) with
  | true =>
    go_region_with (first | (refine (hk _).mono ?_; clear hk; rintro e w1 ⟨rfl, g1⟩; obtain ⟨d0, d1, d2, d3, d4, _⟩ := F0.drewU g1 L0; have g1' := below_drewU g1) | (refine (hf _).mono ?_; rintro e w2 ⟨rfl, g2⟩))
    all_goals (go_simp; go_wp2; go_ret; exact ⟨by rw [hq]; simp, G0.trans ((below_two g1' g2).mono G0.size)⟩)
  | false =>
    clear hf
    first
      | go_region_with (refine (hk _).mono ?_; clear hk; rintro e w1 ⟨rfl, g1⟩; obtain ⟨d0, d1, d2, d3, d4, _⟩ := F0.drewU g1 L0; have g1' := below_drewU g1)
      | fail
    all_goals (go_simp; go_wp2; go_ret; exact ⟨by rw [hq]; simp, G0.trans (g1'.mono G0.size)⟩)
end Go.Proofs.Ytkeockippmmneaa
