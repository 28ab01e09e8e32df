/-
  Two parts held against each other, but for what their kids are.
-/
import Derived.Test.YtkeockippmmneaaExprData
namespace Go.Proofs.Ytkeockippmmneaa
open Go.ChangeShapes Go.WideShapes Go.ChangeAt Go.RowKit
set_option linter.unusedVariables false
set_option maxRecDepth 100000

/-- The same but for what the kids are. -/
def bareB (a b : ExprD) : Bool := (a.k == b.k) && ((a.n == b.n) && (((a.ak == b.ak) && (a.at_ == b.at_)) && ((a.kids.length : Int) == (b.kids.length : Int))))

set_option maxHeartbeats 8000000 in
theorem sameBare_any (w : World) (a b : ExprD) (ad ad' : Option Go.Addr) (cap cap' : Nat) (h1 : a.kids.length ≤ 1048576) (h2 : b.kids.length ≤ 1048576) :
    Calls Try.prog 83 #[.agg #[.int .i64 a.k, .int .i64 a.n, .int .i64 a.ak, .int .i64 a.at_, .slice ad a.kids.length cap, .int .i64 b.k, .int .i64 b.n, .int .i64 b.ak, .int .i64 b.at_, .slice ad' b.kids.length cap']] w fun e w' => e = .returned (.bool (bareB a b)) ∧ Below w.heap.size w w' := by
  have b1 := fun o => (Below.refl w.heap.size w).alloc (Nat.le_refl _) o
  unfold bareB
  generalize hla : a.kids.length = la at *
  generalize hlb : b.kids.length = lb at *
  generalize hak : a.k = ak at *
  generalize hbk : b.k = bk at *
  generalize han : a.n = an at *
  generalize hbn : b.n = bn at *
  generalize haa : a.ak = aa at *
  generalize hba : b.ak = ba at *
  generalize hat : a.at_ = at_ at *
  generalize hbt : b.at_ = bt at *
  clear hla hlb hak hbk han hbn haa hba hat hbt
  cases e1 : (ak == bk) with
  | false =>
    go_enter Try.func83, Try.ntmps83
    go_wp2
    go_ret
    exact ⟨rfl, b1 _⟩
  | true =>
    cases e2 : (an == bn) with
    | false =>
      go_enter Try.func83, Try.ntmps83
      go_wp2
      go_ret
      exact ⟨rfl, b1 _⟩
    | true =>
      cases e3 : (aa == ba) with
      | false =>
        go_enter Try.func83, Try.ntmps83
        go_wp2
        go_ret
        exact ⟨rfl, b1 _⟩
      | true =>
        cases e4 : (at_ == bt) with
        | false =>
          go_enter Try.func83, Try.ntmps83
          go_wp2
          go_ret
          exact ⟨rfl, b1 _⟩
        | true =>
          cases e5 : ((la : Int) == (lb : Int)) with
          | false =>
            go_enter Try.func83, Try.ntmps83
            go_wp2
            go_ret
            exact ⟨rfl, b1 _⟩
          | true =>
            go_enter Try.func83, Try.ntmps83
            go_wp2
            go_ret
            exact ⟨rfl, b1 _⟩
end Go.Proofs.Ytkeockippmmneaa
