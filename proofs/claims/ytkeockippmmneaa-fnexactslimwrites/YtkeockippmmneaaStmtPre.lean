/-
  The statements of a list, each ahead of those within it, with how many others are around it; when all of them are right.
-/
import Derived.Test.YtkeockippmmneaaStmtSpec
namespace Go.Proofs.Ytkeockippmmneaa
open Go.RowKit
set_option linter.unusedVariables false

mutual
/-- How many statements there are, with those within others. -/
def cntS : StmtD → Nat
  | .mk _ _ _ _ th el => cntL th + cntL el + 1
def cntL : List StmtD → Nat
  | [] => 0
  | s :: ss => cntS s + cntL ss
end

theorem cntS_eq (s : StmtD) : cntS s = cntL s.th + cntL s.el + 1 := by cases s; rw [cntS]; rfl

mutual
/-- The statements, each ahead of those within it. -/
def preS (d : Int) : StmtD → List (StmtD × Int)
  | .mk k tk ta e th el => (.mk k tk ta e th el, d) :: (preT (wrap64 (d + 1)) th ++ preT (wrap64 (d + 1)) el)
def preT (d : Int) : List StmtD → List (StmtD × Int)
  | [] => []
  | s :: ss => preS d s ++ preT d ss
end

theorem preS_eq (d : Int) (s : StmtD) : preS d s = (s, d) :: (preT (wrap64 (d + 1)) s.th ++ preT (wrap64 (d + 1)) s.el) := by cases s; rw [preS]; rfl

theorem preT_append (d : Int) (xs ys : List StmtD) : preT d (xs ++ ys) = preT d xs ++ preT d ys := by
  induction xs with
  | nil => rw [List.nil_append, preT, List.nil_append]
  | cons x xs ih => rw [List.cons_append, preT, preT, ih, List.append_assoc]

theorem preT_take_succ {d : Int} {ss : List StmtD} {i : Nat} {s : StmtD} (h : ss[i]? = some s) : preT d (ss.take (i + 1)) = preT d (ss.take i) ++ preS d s := by
  rw [List.take_add_one, h, preT_append]
  show preT d (ss.take i) ++ preT d [s] = _
  rw [preT, preT, List.append_nil]

theorem preT_take_prefix (d : Int) (ss : List StmtD) (i : Nat) : preT d (ss.take i) <+: preT d ss := by
  have h := preT_append d (ss.take i) (ss.drop i)
  rw [List.take_append_drop] at h
  exact ⟨_, h.symm⟩

theorem cntL_append (xs ys : List StmtD) : cntL (xs ++ ys) = cntL xs + cntL ys := by
  induction xs with
  | nil => rw [List.nil_append, cntL]; omega
  | cons x xs ih => rw [List.cons_append, cntL, cntL, ih]; omega

theorem cntL_take_succ {ss : List StmtD} {i : Nat} {s : StmtD} (h : ss[i]? = some s) : cntL (ss.take (i + 1)) = cntL (ss.take i) + cntS s := by
  rw [List.take_add_one, h, cntL_append]
  show cntL (ss.take i) + cntL [s] = _
  rw [cntL, cntL]
  omega

theorem cntL_take_le (ss : List StmtD) (i : Nat) : cntL (ss.take i) ≤ cntL ss := by
  have h := cntL_append (ss.take i) (ss.drop i)
  rw [List.take_append_drop] at h
  omega

theorem preT_length_aux (n : Nat) : ∀ (ss : List StmtD) (d : Int), cntL ss ≤ n → (preT d ss).length = cntL ss := by
  induction n with
  | zero =>
    intro ss d h
    cases ss with
    | nil => rw [preT, cntL]; rfl
    | cons e es => rw [cntL, cntS_eq] at h; omega
  | succ n ih =>
    intro ss d h
    induction ss with
    | nil => rw [preT, cntL]; rfl
    | cons e es ih2 =>
      rw [cntL, cntS_eq] at h
      rw [preT, cntL, List.length_append, ih2 (by omega), preS_eq, List.length_cons, List.length_append, ih e.th _ (by omega), ih e.el _ (by omega), cntS_eq]

theorem preT_length (d : Int) (ss : List StmtD) : (preT d ss).length = cntL ss := preT_length_aux _ ss d (Nat.le_refl _)
theorem preS_length (d : Int) (s : StmtD) : (preS d s).length = cntS s := by rw [preS_eq, List.length_cons, List.length_append, preT_length, preT_length, cntS_eq]

theorem mem_preT {d : Int} {ss : List StmtD} {x : StmtD × Int} : x ∈ preT d ss ↔ ∃ s, s ∈ ss ∧ x ∈ preS d s := by
  induction ss with
  | nil => rw [preT]; simp
  | cons e es ih => rw [preT, List.mem_append, ih]; simp

/-- A statement is right by itself. -/
def stmtB (s : StmtD) : Bool := fitB s && exprOk s.e

/-- A statement is right where it stands. -/
def goodT (x : StmtD × Int) : Prop := x.2 < 4 ∧ stmtB x.1 = true

theorem good_formT : ∀ (d c : Nat), c + d = 4 → ∀ l : List StmtD, (∀ x, x ∈ preT (c : Int) l → goodT x) ↔ formT d l = true
  | 0, c, h, l => by
    rw [formT]
    cases l with
    | nil => simp [preT]
    | cons s ss =>
      constructor
      · intro hx
        have := (hx (s, (c : Int)) (by rw [preT, preS_eq]; simp)).1
        simp only at this
        omega
      · intro hx; cases hx
  | d + 1, c, h, l => by
    have hw : wrap64 ((c : Int) + 1) = ((c + 1 : Nat) : Int) := by unfold wrap64; omega
    have ih := good_formT d (c + 1) (by omega)
    rw [formT, List.all_eq_true]
    constructor
    · intro hx s hs
      have hp : ∀ x, x ∈ preS (c : Int) s → goodT x := fun x h => hx x (mem_preT.2 ⟨s, hs, h⟩)
      rw [preS_eq, hw] at hp
      have h1 := (hp _ (.head _)).2
      have h2 := (ih s.th).1 fun x h => hp x (.tail _ (List.mem_append_left _ h))
      have h3 := (ih s.el).1 fun x h => hp x (.tail _ (List.mem_append_right _ h))
      unfold stmtB at h1
      simp only at h1
      rw [h1, h2, h3]; rfl
    · intro hl x hx
      obtain ⟨s, hs, hxs⟩ := mem_preT.1 hx
      have hl' := hl s hs
      rw [Bool.and_eq_true, Bool.and_eq_true] at hl'
      rw [preS_eq, hw] at hxs
      cases hxs with
      | head => exact ⟨by show (c : Int) < 4; omega, hl'.1.1⟩
      | tail _ hx =>
        rcases List.mem_append.1 hx with hx | hx
        · exact (ih s.th).2 hl'.1.2 x hx
        · exact (ih s.el).2 hl'.2 x hx

theorem manyT_form : ∀ (d : Nat) (l : List StmtD), formT d l = true → manySt d l = cntL l
  | 0, l, h => by
    rw [formT] at h
    cases l with
    | nil => rw [manySt, cntL]; rfl
    | cons s ss => cases h
  | d + 1, l, h => by
    rw [formT, List.all_eq_true] at h
    rw [manySt]
    have hs : ∀ ss : List StmtD, (∀ s, s ∈ ss → s ∈ l) → ss.length + (ss.map fun s => manySt d s.th + manySt d s.el).sum = cntL ss := by
      intro ss
      induction ss with
      | nil => intro _; rw [cntL]; rfl
      | cons s ss ih =>
        intro hk
        have h1 := h s (hk s (.head _))
        rw [Bool.and_eq_true, Bool.and_eq_true] at h1
        have := ih fun k' h' => hk k' (.tail _ h')
        rw [List.map_cons, List.sum_cons, List.length_cons, cntL, cntS_eq, manyT_form d s.th h1.1.2, manyT_form d s.el h1.2]
        omega
    exact hs l fun _ h => h

theorem stmtsOk_iff (l : List StmtD) : stmtsOk l = true ↔ (∀ x, x ∈ preT 0 l → goodT x) ∧ cntL l ≤ 16 := by
  have h := good_formT 4 0 rfl l
  unfold stmtsOk
  rw [Bool.and_eq_true, decide_eq_true_eq]
  constructor
  · rintro ⟨h1, h2⟩
    exact ⟨h.2 h2, by rw [← manyT_form 4 l h2]; exact h1⟩
  · rintro ⟨h1, h2⟩
    have h3 := h.1 h1
    exact ⟨by rw [manyT_form 4 l h3]; exact h2, h3⟩

theorem stmtsMany_eq (l : List StmtD) : stmtsMany l = if stmtsOk l then cntL l else 0 := by
  unfold stmtsMany
  split
  · rename_i h
    unfold stmtsOk at h
    rw [Bool.and_eq_true] at h
    exact manyT_form 4 l h.2
  · rfl

theorem cnt_le_aux (n : Nat) : ∀ ss : List StmtD, sizeL ss ≤ n → cntL ss ≤ sizeL ss := by
  induction n with
  | zero =>
    intro ss h
    cases ss with
    | nil => rw [cntL]; omega
    | cons e es => rw [sizeL, sizeS_eq] at h; omega
  | succ n ih =>
    intro ss h
    induction ss with
    | nil => rw [cntL]; omega
    | cons e es ih2 =>
      rw [sizeL, sizeS_eq] at h
      have h1 := ih e.th (by omega)
      have h2 := ih e.el (by omega)
      have h3 := ih2 (by omega)
      rw [cntL, cntS_eq, sizeL, sizeS_eq]
      omega

theorem cnt_le (ss : List StmtD) : cntL ss ≤ sizeL ss := cnt_le_aux _ ss (Nat.le_refl _)
end Go.Proofs.Ytkeockippmmneaa
