/-
  What a part comes to, of each kind, once its kids have come to x and y.
-/
import Derived.Test.YtokphdpaghkakaaGreatKindB
import Derived.Test.YtokphdpaghkakaaGreatExprOf
import Derived.Test.YtokphdpaghkakaaGreatImplH
namespace Go.Proofs.YtokphdpaghkakaaGreat
open Go.ChangeShapes Go.WideShapes Go.ChangeAt Go.RowKit
set_option linter.unusedVariables false
set_option maxRecDepth 100000

theorem comes_num (w : World) (k n a t : Int) (ad : Option Go.Addr) (len cap : Nat) (m0 m1 m2 : Value) (x y : Int) :
    Calls Tryz.prog 171 #[.agg #[], .agg #[.int .i64 k, .int .i64 n, .int .i64 a, .int .i64 t, .slice ad len cap], .agg #[m0, m1, m2], .int .i64 x, .int .i64 y] w fun e w' => e = .returned (.int .i64 n) ∧ Below w.heap.size w w' := by
  have b3 := below_alloc3 w
  go_enter Tryz.func171, Tryz.ntmps171
  go_wp2
  go_ret
  exact ⟨rfl, b3 _ _ _⟩

set_option maxHeartbeats 1000000 in
theorem comes_addr (w : World) (k n a t : Int) (ad : Option Go.Addr) (len cap : Nat) (m : Value) (lo hi : Nat) (d : MemD) (h : MI w lo hi m d) (hhi : hi ≤ w.heap.size) (x y : Int) :
    Calls Tryz.prog 175 #[.agg #[], .agg #[.int .i64 k, .int .i64 n, .int .i64 a, .int .i64 t, .slice ad len cap], m, .int .i64 x, .int .i64 y] w fun e w' => e = .returned (.int .i64 (memGet d ⟨a, t⟩)) ∧ Below w.heap.size w w' := by
  have hG := fun W hW hh => iMemGet_any W m lo hi d a t hW hh
  have HM := h
  obtain ⟨m0, m1, m2, rfl, _, _, _⟩ := h
  have ev : AddrD.val ⟨a, t⟩ = .agg #[.int .i64 a, .int .i64 t] := rfl
  rw [ev] at hG
  clear ev
  go_enter Tryz.func175, Tryz.ntmps175
  go_wp2_with fail
  obtain ⟨u0, hu0, G0, S0⟩ : ∃ u0, ((w.alloc (.cells #[] 185)).alloc (.cells #[.int .i64 k, .int .i64 n, .int .i64 a, .int .i64 t, .slice ad len cap] 65)).alloc (.cells #[m0, m1, m2] 43) = u0 ∧ Below w.heap.size w u0 ∧ u0.heap.size = w.heap.size + 3 :=
    ⟨_, rfl, below_alloc3 w _ _ _, by simp⟩
  rw [hu0]
  clear hu0
  have hC := hG u0 (HM.below G0 hhi) (by omega)
  refine hC.mono ?_
  rintro e w1 ⟨rfl, g1⟩
  go_wp2
  go_ret
  exact ⟨rfl, G0.trans (g1.mono G0.size)⟩

set_option maxHeartbeats 1000000 in
theorem comes_not (w : World) (k n a t : Int) (ad : Option Go.Addr) (len cap : Nat) (m0 m1 m2 : Value) (x y : Int) :
    Calls Tryz.prog 190 #[.agg #[], .agg #[.int .i64 k, .int .i64 n, .int .i64 a, .int .i64 t, .slice ad len cap], .agg #[m0, m1, m2], .int .i64 x, .int .i64 y] w fun e w' => e = .returned (.int .i64 (isZ (!(x != 0)))) ∧ Below w.heap.size w w' := by
  have b3 := below_alloc3 w
  unfold isZ
  by_cases h : x = 0
  · subst h
    go_enter Tryz.func190, Tryz.ntmps190
    go_wp2
    go_ret
    exact ⟨rfl, b3 _ _ _⟩
  · have e1 : (x != 0) = true := by simp [h]
    rw [e1]
    go_enter Tryz.func190, Tryz.ntmps190
    go_wp2
    go_ret
    exact ⟨rfl, b3 _ _ _⟩

end Go.Proofs.YtokphdpaghkakaaGreat
