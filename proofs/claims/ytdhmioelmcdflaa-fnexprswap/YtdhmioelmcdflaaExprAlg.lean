/-
  What something comes to, as data: deeper makes no difference; within bounds; part by part.
-/
import Derived.Test.YtdhmioelmcdflaaExprOf2
import Derived.Test.YtdhmioelmcdflaaExprPre
namespace Go.Proofs.Ytdhmioelmcdflaa
open Go.RowKit
set_option linter.unusedVariables false

theorem evalD_eq (d : Nat) (m : MemD) (e : ExprD) : evalD (d + 1) m e = if e.k = 1 then e.n else if e.k = 2 then ((memList m e.ak)[e.at_.toNat]?).getD 0
      else if e.k = 10 then isZ (!(evalD d m (kidAt e 0) != 0)) else twoZ e.k (evalD d m (kidAt e 0)) (evalD d m (kidAt e 1)) := by rw [evalD]

theorem kidAt_some {e : ExprD} {i : Nat} {x : ExprD} (h : e.kids[i]? = some x) : kidAt e i = x := by unfold kidAt; rw [h]; rfl

/-- The kids that a kind asks for are there. -/
theorem form_kid {d : Nat} {e : ExprD} (h : formE (d + 1) e = true) (i : Nat) (hi : (i : Int) < kidsOf e.k) : ∃ x, e.kids[i]? = some x ∧ kidAt e i = x ∧ formE d x = true := by
  obtain ⟨f1, _, _, f4⟩ := form_parts h
  have hl : i < e.kids.length := by omega
  exact ⟨e.kids[i], List.getElem?_eq_getElem hl, kidAt_some (List.getElem?_eq_getElem hl), f4 i _ (List.getElem?_eq_getElem hl)⟩

theorem form_kind {d : Nat} {e : ExprD} (h : formE (d + 1) e = true) : 1 ≤ e.k ∧ e.k ≤ 10 := by
  obtain ⟨f1, _, _, _⟩ := form_parts h
  unfold kidsOf at f1
  split at f1
  · omega
  · split at f1
    · omega
    · split at f1
      · omega
      · first | omega | (split at f1 <;> omega)

theorem kidsOf_not {e : ExprD} (h : e.k = 10) : kidsOf e.k = 1 := by unfold kidsOf; rw [h]; decide
theorem kidsOf_two {e : ExprD} (h1 : 3 ≤ e.k) (h2 : e.k ≤ 9) : kidsOf e.k = 2 := by
  unfold kidsOf
  obtain h | h | h | h | h | h | h : e.k = 3 ∨ e.k = 4 ∨ e.k = 5 ∨ e.k = 6 ∨ e.k = 7 ∨ e.k = 8 ∨ e.k = 9 := by omega
  all_goals (rw [h]; decide)

theorem evalD_more (m : MemD) : ∀ (d : Nat) (e : ExprD), formE d e = true → evalD (d + 1) m e = evalD d m e
  | 0, e, h => by rw [formE] at h; cases h
  | d + 1, e, h => by
    have hk := form_kind h
    rw [evalD_eq (d + 1) m e, evalD_eq d m e]
    by_cases h1 : e.k = 1
    · rw [if_pos h1, if_pos h1]
    rw [if_neg h1, if_neg h1]
    by_cases h2 : e.k = 2
    · rw [if_pos h2, if_pos h2]
    rw [if_neg h2, if_neg h2]
    by_cases h3 : e.k = 10
    · rw [if_pos h3, if_pos h3]
      obtain ⟨x, _, hx, hf⟩ := form_kid h 0 (by rw [kidsOf_not h3]; omega)
      rw [hx, evalD_more m d x hf]
    · rw [if_neg h3, if_neg h3]
      have h2' := kidsOf_two (e := e) (by omega) (by omega)
      obtain ⟨x, _, hx, hf⟩ := form_kid h 0 (by omega)
      obtain ⟨y, _, hy, hg⟩ := form_kid h 1 (by omega)
      rw [hx, hy, evalD_more m d x hf, evalD_more m d y hg]

theorem formE_more : ∀ (d : Nat) (e : ExprD), formE d e = true → formE (d + 1) e = true
  | 0, e, h => by rw [formE] at h; cases h
  | d + 1, e, h => by
    rw [formE_succ] at h ⊢
    rw [Bool.and_eq_true, List.all_eq_true] at h ⊢
    exact ⟨h.1, fun x hx => formE_more d x (h.2 x hx)⟩

theorem isZ_bd (b : Bool) : -1000000 ≤ isZ b ∧ isZ b ≤ 1000000 := by cases b <;> decide
theorem twoZ_bd (k a b : Int) : -1000000 ≤ twoZ k a b ∧ twoZ k a b ≤ 1000000 := by
  unfold twoZ
  repeat' split
  all_goals first | exact cutZ_bd _ | exact isZ_bd _

theorem memOk_at {m : MemD} (h : memOk m = true) (k : Int) (i : Nat) : -1000000 ≤ ((memList m k)[i]?).getD 0 ∧ ((memList m k)[i]?).getD 0 ≤ 1000000 := by
  have hin : ∀ xs : List Int, listOk xs = true → -1000000 ≤ (xs[i]?).getD 0 ∧ (xs[i]?).getD 0 ≤ 1000000 := by
    intro xs hx
    cases hxi : xs[i]? with
    | none => exact ⟨by decide, by decide⟩
    | some x =>
      simp only [listOk, Bool.and_eq_true, List.all_eq_true] at hx
      have := hx.2 x (List.mem_of_getElem? hxi)
      have hc : cutZ x = x := by simpa using this
      show -1000000 ≤ x ∧ x ≤ 1000000
      rw [← hc]; exact cutZ_bd _
  unfold memOk at h
  rw [Bool.and_eq_true, Bool.and_eq_true] at h
  unfold memList
  split
  · exact hin _ h.1.1
  · split
    · exact hin _ h.1.2
    · exact hin _ h.2

theorem evalD_bd {m : MemD} (hm : memOk m = true) : ∀ (d : Nat) (e : ExprD), formE d e = true → -1000000 ≤ evalD d m e ∧ evalD d m e ≤ 1000000
  | 0, e, h => by rw [formE] at h; cases h
  | d + 1, e, h => by
    obtain ⟨f1, f2, f3, f4⟩ := form_parts h
    rw [evalD_eq]
    by_cases h1 : e.k = 1
    · rw [if_pos h1]
      unfold nOk at f2
      rw [if_pos h1] at f2
      have : cutZ e.n = e.n := by simpa using f2
      rw [← this]; exact cutZ_bd _
    rw [if_neg h1]
    by_cases h2 : e.k = 2
    · rw [if_pos h2]; exact memOk_at hm _ _
    rw [if_neg h2]
    split
    · exact isZ_bd _
    · exact twoZ_bd _ _ _

theorem exprOf_bd (e : ExprD) (m : MemD) : -1000000 ≤ exprOf e m ∧ exprOf e m ≤ 1000000 := by
  unfold exprOf
  split
  · rename_i h
    rw [Bool.and_eq_true] at h
    exact evalD_bd h.2 6 e (exprOk_form h.1)
  · decide

theorem exprOf_cut (e : ExprD) (m : MemD) : cutZ (exprOf e m) = exprOf e m := cutZ_in (exprOf_bd e m).1 (exprOf_bd e m).2

theorem exprOk_kid {e : ExprD} (h : exprOk e = true) {i : Nat} {x : ExprD} (hx : e.kids[i]? = some x) : exprOk x = true ∧ formE 5 x = true := by
  have hf := exprOk_form h
  obtain ⟨_, _, _, f4⟩ := form_parts hf
  have h5 := f4 i x hx
  have hm := ((exprOk_iff e).1 h).2
  have hle := kid_lt hx
  rw [manyE_eq] at hm
  refine ⟨?_, h5⟩
  unfold exprOk
  rw [Bool.and_eq_true, decide_eq_true_eq]
  have h6 := formE_more 5 x h5
  exact ⟨h6, by rw [manyD_form 6 x h6, manyE_eq]; omega⟩

theorem exprOf_ok {e : ExprD} {m : MemD} (h : exprOk e = true) (hm : memOk m = true) : exprOf e m = evalD 6 m e := by unfold exprOf; rw [h, hm]; rfl
theorem exprOf_not {e : ExprD} {m : MemD} (h : (exprOk e && memOk m) = false) : exprOf e m = 0 := by unfold exprOf; rw [h]; rfl

theorem exprOf_kid {e : ExprD} {m : MemD} (h : exprOk e = true) (hm : memOk m = true) {i : Nat} {x : ExprD} (hx : e.kids[i]? = some x) : exprOf x m = evalD 5 m x := by
  obtain ⟨h1, h2⟩ := exprOk_kid h hx
  rw [exprOf_ok h1 hm, evalD_more m 5 x h2]

/-- What something comes to, out of what its kids come to. -/
theorem exprOf_node {e : ExprD} {m : MemD} (h : exprOk e = true) (hm : memOk m = true) :
    (e.k = 1 → exprOf e m = e.n) ∧ (e.k = 2 → exprOf e m = memGet m ⟨e.ak, e.at_⟩) ∧ (e.k = 10 → exprOf e m = isZ (!(exprOf (kidAt e 0) m != 0))) ∧
    (3 ≤ e.k → e.k ≤ 9 → exprOf e m = twoZ e.k (exprOf (kidAt e 0) m) (exprOf (kidAt e 1) m)) := by
  have hf := exprOk_form h
  rw [exprOf_ok h hm, evalD_eq]
  refine ⟨fun h1 => by rw [if_pos h1], fun h2 => ?_, fun h3 => ?_, fun h4 h5 => ?_⟩
  · rw [if_neg (by omega), if_pos h2]
    obtain ⟨_, _, f3, _⟩ := form_parts hf
    have ha : addrOk ⟨e.ak, e.at_⟩ = true := by unfold aOk at f3; rwa [if_pos h2] at f3
    unfold memGet; rw [hm, ha]; rfl
  · rw [if_neg (by omega), if_neg (by omega), if_pos h3]
    obtain ⟨x, hx, hk, _⟩ := form_kid hf 0 (by rw [kidsOf_not h3]; omega)
    rw [hk, exprOf_kid h hm hx]
  · rw [if_neg (by omega), if_neg (by omega), if_neg (by omega)]
    have h2' := kidsOf_two (e := e) h4 h5
    obtain ⟨x, hx, hk, _⟩ := form_kid hf 0 (by omega)
    obtain ⟨y, hy, hl, _⟩ := form_kid hf 1 (by omega)
    rw [hk, hl, exprOf_kid h hm hx, exprOf_kid h hm hy]
end Go.Proofs.Ytdhmioelmcdflaa
