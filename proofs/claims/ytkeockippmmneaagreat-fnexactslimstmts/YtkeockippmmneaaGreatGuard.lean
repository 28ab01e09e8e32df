/-
  Guarded operations of a region: whether they are wanted.
-/
import Derived.Test.YtkeockippmmneaaGreatDag
namespace Go.Proofs.YtkeockippmmneaaGreat
open Go.ChangeShapes Go.WideShapes Go.ChangeAt Go.RowKit
set_option linter.unusedVariables false

theorem yielded_g {ops : Array Oper} {a : Act} {i : Nat} {oi : Oper} {d : Tmp} {b : Bool} (hoi : ops[i]? = some oi) (hd : oi.dst = some d) (hlt : d < a.tmps.size) (hv : a.tmps.getD d undef = .bool b) : yielded ops a.tmps i = some b := by
  have h : a.tmps[d]? = some (.bool b) := by
    rw [Array.getElem?_eq_getElem hlt]
    simp [hlt] at hv
    rw [hv]
  simp [yielded, hoi, hd, h]

theorem wanted_on {o : Oper} {ops : Array Oper} {a : Act} {i : Nat} {b : Bool} {p q : Prop} (hg : o.guard = some (i, b)) (hy : yielded ops a.tmps i = some b) (h : p) : if Region.wanted o (yielded ops a.tmps) = true then p else q := by
  rw [if_pos (by simp [Region.wanted, hg, hy])]; exact h

theorem wanted_off {o : Oper} {ops : Array Oper} {a : Act} {i : Nat} {b : Bool} {p q : Prop} (hg : o.guard = some (i, b)) (hy : yielded ops a.tmps i = some (!b)) (h : q) : if Region.wanted o (yielded ops a.tmps) = true then p else q := by
  rw [if_neg (by cases b <;> simp [Region.wanted, hg, hy])]; exact h

theorem yielded_u {ops : Array Oper} {a : Act} {i : Nat} {oi : Oper} {d : Tmp} (hoi : ops[i]? = some oi) (hd : oi.dst = some d) (hlt : d < a.tmps.size) (hv : a.tmps.getD d undef = undef) : yielded ops a.tmps i = none := by
  have h : a.tmps[d]? = some undef := by
    rw [Array.getElem?_eq_getElem hlt]
    simp [hlt] at hv
    rw [hv]
  simp [yielded, hoi, hd, h, undef]

theorem wanted_un {o : Oper} {ops : Array Oper} {a : Act} {i : Nat} {b : Bool} {p q : Prop} (hg : o.guard = some (i, b)) (hy : yielded ops a.tmps i = none) (h : q) : if Region.wanted o (yielded ops a.tmps) = true then p else q := by
  rw [if_neg (by simp [Region.wanted, hg, hy])]; exact h

end Go.Proofs.YtkeockippmmneaaGreat
