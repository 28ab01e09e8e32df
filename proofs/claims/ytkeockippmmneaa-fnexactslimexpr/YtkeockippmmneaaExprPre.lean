/-
  The parts of a tree, each ahead of its kids, with how many others are around it; when all of them are right.
-/
import Derived.Test.YtkeockippmmneaaExprSpec2
namespace Go.Proofs.Ytkeockippmmneaa
open Go.RowKit
set_option linter.unusedVariables false

mutual
/-- The parts, each ahead of its kids. -/
def preE (d : Int) : ExprD → List (ExprD × Int)
  | .mk k n a t ks => (.mk k n a t ks, d) :: preL (wrap64 (d + 1)) ks
def preL (d : Int) : List ExprD → List (ExprD × Int)
  | [] => []
  | e :: es => preE d e ++ preL d es
end

theorem preE_eq (d : Int) (e : ExprD) : preE d e = (e, d) :: preL (wrap64 (d + 1)) e.kids := by cases e; rw [preE]; rfl

theorem preL_append (d : Int) (xs ys : List ExprD) : preL d (xs ++ ys) = preL d xs ++ preL d ys := by
  induction xs with
  | nil => rw [List.nil_append, preL, List.nil_append]
  | cons x xs ih => rw [List.cons_append, preL, preL, ih, List.append_assoc]

theorem preL_take_succ {d : Int} {es : List ExprD} {i : Nat} {e : ExprD} (h : es[i]? = some e) : preL d (es.take (i + 1)) = preL d (es.take i) ++ preE d e := by
  rw [List.take_add_one, h, preL_append]
  show preL d (es.take i) ++ preL d [e] = _
  rw [preL, preL, List.append_nil]

theorem preL_take_prefix (d : Int) (es : List ExprD) (i : Nat) : preL d (es.take i) <+: preL d es := by
  have h := preL_append d (es.take i) (es.drop i)
  rw [List.take_append_drop] at h
  exact ⟨_, h.symm⟩

theorem preE_length_aux (n : Nat) : ∀ (es : List ExprD) (d : Int), manyL es ≤ n → (preL d es).length = manyL es := by
  induction n with
  | zero =>
    intro es d h
    cases es with
    | nil => rw [preL, manyL]; rfl
    | cons e es => rw [manyL, manyE_eq] at h; omega
  | succ n ih =>
    intro es d h
    induction es with
    | nil => rw [preL, manyL]; rfl
    | cons e es ih2 =>
      rw [manyL, manyE_eq] at h
      rw [preL, manyL, List.length_append, ih2 (by omega), preE_eq, List.length_cons, ih e.kids _ (by omega), manyE_eq]

theorem preL_length (d : Int) (es : List ExprD) : (preL d es).length = manyL es := preE_length_aux _ es d (Nat.le_refl _)
theorem preE_length (d : Int) (e : ExprD) : (preE d e).length = manyE e := by rw [preE_eq, List.length_cons, preL_length, manyE_eq]

theorem mem_preL {d : Int} {es : List ExprD} {x : ExprD × Int} : x ∈ preL d es ↔ ∃ e, e ∈ es ∧ x ∈ preE d e := by
  induction es with
  | nil => rw [preL]; simp
  | cons e es ih => rw [preL, List.mem_append, ih]; simp

/-- A part is right by itself. -/
def partB (e : ExprD) : Bool := (kidsOf e.k == (e.kids.length : Int)) && nOk e && aOk e

theorem formE_succ (d : Nat) (e : ExprD) : formE (d + 1) e = (partB e && e.kids.all (formE d)) := by rw [formE]; rfl

/-- A part is right where it stands. -/
def goodP (x : ExprD × Int) : Prop := x.2 < 6 ∧ partB x.1 = true

theorem good_form : ∀ (d c : Nat), c + d = 6 → ∀ e : ExprD, (∀ x, x ∈ preE (c : Int) e → goodP x) ↔ formE d e = true
  | 0, c, h, e => by
    constructor
    · intro hx
      have := (hx (e, (c : Int)) (by rw [preE_eq]; exact .head _)).1
      simp only at this
      omega
    · intro hx; rw [formE] at hx; cases hx
  | d + 1, c, h, e => by
    have hw : wrap64 ((c : Int) + 1) = ((c + 1 : Nat) : Int) := by unfold wrap64; omega
    have ih := good_form d (c + 1) (by omega)
    rw [preE_eq, hw, formE_succ, Bool.and_eq_true, List.all_eq_true]
    constructor
    · intro hx
      refine ⟨(hx _ (.head _)).2, fun k hk => (ih k).1 fun x hxk => hx x (.tail _ (mem_preL.2 ⟨k, hk, hxk⟩))⟩
    · rintro ⟨hp, hk⟩ x hx
      cases hx with
      | head => exact ⟨by show (c : Int) < 6; omega, hp⟩
      | tail _ hx =>
        obtain ⟨k, hk', hxk⟩ := mem_preL.1 hx
        exact (ih k).2 (hk k hk') x hxk

theorem manyD_form : ∀ (d : Nat) (e : ExprD), formE d e = true → manyD d e = manyE e
  | 0, e, h => by rw [formE] at h; cases h
  | d + 1, e, h => by
    rw [formE_succ, Bool.and_eq_true, List.all_eq_true] at h
    rw [manyD, manyE_eq]
    have hs : ∀ es : List ExprD, (∀ k, k ∈ es → formE d k = true) → (es.map (manyD d)).sum = manyL es := by
      intro es
      induction es with
      | nil => intro _; rw [manyL]; rfl
      | cons k ks ih =>
        intro hk
        rw [List.map_cons, List.sum_cons, manyL, ih fun k' h' => hk k' (.tail _ h'), manyD_form d k (hk k (.head _))]
    rw [hs e.kids h.2]
    omega

theorem exprOk_iff (e : ExprD) : exprOk e = true ↔ (∀ x, x ∈ preE 0 e → goodP x) ∧ manyE e ≤ 14 := by
  have h := good_form 6 0 rfl e
  unfold exprOk
  rw [Bool.and_eq_true, decide_eq_true_eq]
  constructor
  · rintro ⟨h1, h2⟩
    exact ⟨h.2 h1, by rw [← manyD_form 6 e h1]; exact h2⟩
  · rintro ⟨h1, h2⟩
    have h3 := h.1 h1
    exact ⟨h3, by rw [manyD_form 6 e h3]; exact h2⟩

theorem exprMany_eq (e : ExprD) : exprMany e = if exprOk e then manyE e else 0 := by
  unfold exprMany
  split
  · rename_i h
    unfold exprOk at h
    rw [Bool.and_eq_true] at h
    exact manyD_form 6 e h.1
  · rfl
end Go.Proofs.Ytkeockippmmneaa
