/-
  What chapter 3's models (package spec) answer: how many parts there are; ExprOk, ExprMany.
-/
import Derived.Test.YtaoiookfmgpmkaaExprSpec
namespace Go.Proofs.Ytaoiookfmgpmkaa
open Go.ChangeShapes Go.WideShapes Go.ChangeAt Go.RowKit
set_option linter.unusedVariables false

theorem manyD_le : ∀ (d : Nat) (e : ExprD), manyD d e ≤ manyE e ∧ ∀ es : List ExprD, (es.map (manyD d)).sum ≤ manyL es
  | 0, e => ⟨by rw [manyD, manyE_eq]; omega, fun es => by
      induction es with
      | nil => simp
      | cons x xs ih => rw [List.map_cons, List.sum_cons, manyL, manyD, manyE_eq]; omega⟩
  | d + 1, e => by
    have h1 : ∀ x : ExprD, manyD (d + 1) x ≤ manyE x := fun x => by
      have := (manyD_le d x).2 x.kids
      rw [manyD, manyE_eq]
      omega
    refine ⟨h1 e, fun es => ?_⟩
    induction es with
    | nil => simp
    | cons x xs ih => rw [List.map_cons, List.sum_cons, manyL]; have := h1 x; omega

theorem sum_take_succ {es : List ExprD} {j : Nat} {e : ExprD} (d : Nat) (h : es[j]? = some e) : ((es.take (j + 1)).map (manyD d)).sum = ((es.take j).map (manyD d)).sum + manyD d e := by
  rw [List.take_add_one, h]; simp




def exprMany (e : ExprD) : Nat := if exprOk e then manyD 6 e else 0

end Go.Proofs.Ytaoiookfmgpmkaa
