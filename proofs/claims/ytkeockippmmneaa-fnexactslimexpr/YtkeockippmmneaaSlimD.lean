/-
  Chapter 10: what is read, what may be set, as data; both sides' way through a tree comes to the same.
-/
import Derived.Test.YtkeockippmmneaaExprPre
namespace Go.Proofs.Ytkeockippmmneaa
open Go.RowKit
set_option linter.unusedVariables false

/-- A part is by itself what is at a place. -/
def readB (k t : Int) (e : ExprD) : Bool := (e.k == 2) && ((e.ak == k) && (e.at_ == t))

mutual
/-- The model's way: a part that is a place is asked, others' kids are. -/
def rdE (k t : Int) : ExprD → Bool
  | .mk j _ a i ks => if j = 2 then (a == k) && (i == t) else rdL k t ks
def rdL (k t : Int) : List ExprD → Bool
  | [] => false
  | e :: es => rdE k t e || rdL k t es
end

theorem rdE_eq (k t : Int) (e : ExprD) : rdE k t e = if e.k = 2 then (e.ak == k) && (e.at_ == t) else rdL k t e.kids := by cases e; rw [rdE]; rfl

theorem rdL_any (k t : Int) (es : List ExprD) : rdL k t es = es.any (rdE k t) := by
  induction es with
  | nil => rw [rdL]; rfl
  | cons e es ih => rw [rdL, ih]; rfl

theorem rdL_take_succ {k t : Int} {es : List ExprD} {i : Nat} {e : ExprD} (h : es[i]? = some e) : rdL k t (es.take (i + 1)) = (rdL k t (es.take i) || rdE k t e) := by
  rw [rdL_any, rdL_any, List.take_add_one, h, List.any_append]
  simp

theorem rdL_at {k t : Int} {es : List ExprD} {i : Nat} {e : ExprD} (h : es[i]? = some e) (hr : rdE k t e = true) : rdL k t es = true := by
  rw [rdL_any, List.any_eq_true]
  exact ⟨e, List.mem_of_getElem? h, hr⟩

def slimReads (e : ExprD) (k t : Int) : Bool := exprOk e && rdE k t e

theorem preL_any (p : ExprD × Int → Bool) (d : Int) (es : List ExprD) : (preL d es).any p = es.any fun e => (preE d e).any p := by
  induction es with
  | nil => rw [preL]; rfl
  | cons e es ih => rw [preL, List.any_append, ih]; rfl

theorem rd_pre (k t : Int) : ∀ (d : Nat) (c : Int) (e : ExprD), formE d e = true → rdE k t e = (preE c e).any fun x => readB k t x.1
  | 0, c, e, h => by rw [formE] at h; cases h
  | d + 1, c, e, h => by
    rw [formE_succ, Bool.and_eq_true, List.all_eq_true] at h
    rw [rdE_eq, preE_eq, List.any_cons, preL_any]
    by_cases h2 : e.k = 2
    · have hp := h.1
      unfold partB at hp
      have hk : kidsOf e.k = 0 := by rw [h2]; rfl
      rw [hk, Bool.and_eq_true, Bool.and_eq_true, beq_iff_eq] at hp
      have hn : e.kids = [] := List.eq_nil_of_length_eq_zero (by omega)
      rw [if_pos h2, hn]
      unfold readB
      simp [h2]
    · rw [if_neg h2, rdL_any]
      have hr : readB k t (e, c).1 = false := by unfold readB; simp [h2]
      rw [hr, Bool.false_or]
      have : ∀ es : List ExprD, (∀ x, x ∈ es → formE d x = true) → es.any (rdE k t) = es.any fun x => (preE (wrap64 (c + 1)) x).any fun x => readB k t x.1 := by
        intro es
        induction es with
        | nil => intro _; rfl
        | cons x xs ih => intro hx; rw [List.any_cons, List.any_cons, ih fun y hy => hx y (.tail _ hy), rd_pre k t d _ x (hx x (.head _))]
      exact this e.kids h.2

theorem slimReads_pre {e : ExprD} (h : exprOk e = true) (k t : Int) : slimReads e k t = (preE 0 e).any fun x => readB k t x.1 := by
  unfold slimReads
  rw [h, Bool.true_and]
  unfold exprOk at h
  rw [Bool.and_eq_true] at h
  exact rd_pre k t 6 0 e h.1
end Go.Proofs.Ytkeockippmmneaa
