/-
  Chapter 10: what statements may set, as data.
-/
import Derived.Test.YtkeockippmmneaaStmtPre
namespace Go.Proofs.Ytkeockippmmneaa
open Go.RowKit
set_option linter.unusedVariables false

/-- A statement by itself sets a place. -/
def setB (k t : Int) (s : StmtD) : Bool := (s.k == 1) && ((s.tk == k) && (s.ta == t))

mutual
def wrS (k t : Int) : StmtD → Bool
  | .mk j a i _ th el => ((j == 1) && ((a == k) && (i == t))) || (wrL k t th || wrL k t el)
def wrL (k t : Int) : List StmtD → Bool
  | [] => false
  | s :: ss => wrS k t s || wrL k t ss
end

theorem wrS_eq (k t : Int) (s : StmtD) : wrS k t s = (setB k t s || (wrL k t s.th || wrL k t s.el)) := by cases s; rw [wrS]; rfl

theorem wrL_any (k t : Int) (ss : List StmtD) : wrL k t ss = ss.any (wrS k t) := by
  induction ss with
  | nil => rw [wrL]; rfl
  | cons e es ih => rw [wrL, ih]; rfl

theorem wrL_take_succ {k t : Int} {ss : List StmtD} {i : Nat} {s : StmtD} (h : ss[i]? = some s) : wrL k t (ss.take (i + 1)) = (wrL k t (ss.take i) || wrS k t s) := by
  rw [wrL_any, wrL_any, List.take_add_one, h, List.any_append]
  simp

theorem wrL_at {k t : Int} {ss : List StmtD} {i : Nat} {s : StmtD} (h : ss[i]? = some s) (hr : wrS k t s = true) : wrL k t ss = true := by
  rw [wrL_any, List.any_eq_true]
  exact ⟨s, List.mem_of_getElem? h, hr⟩

def slimWrites (ss : List StmtD) (k t : Int) : Bool := stmtsOk ss && wrL k t ss

theorem wr_pre_aux (k t : Int) (n : Nat) : ∀ (ss : List StmtD) (d : Int), cntL ss ≤ n → wrL k t ss = (preT d ss).any fun x => setB k t x.1 := by
  induction n with
  | zero =>
    intro ss d h
    cases ss with
    | nil => rw [preT, wrL]; rfl
    | cons e es => rw [cntL, cntS_eq] at h; omega
  | succ n ih =>
    intro ss d h
    induction ss with
    | nil => rw [preT, wrL]; rfl
    | cons e es ih2 =>
      rw [cntL, cntS_eq] at h
      rw [preT, wrL, List.any_append, ih2 (by omega), preS_eq, List.any_cons, List.any_append, wrS_eq, ih e.th _ (by omega), ih e.el _ (by omega)]

theorem slimWrites_pre {ss : List StmtD} (h : stmtsOk ss = true) (k t : Int) : slimWrites ss k t = (preT 0 ss).any fun x => setB k t x.1 := by
  unfold slimWrites
  rw [h, Bool.true_and]
  exact wr_pre_aux k t (cntL ss) ss 0 (Nat.le_refl _)
end Go.Proofs.Ytkeockippmmneaa
