/-
  Chapter 10: what is reckoned, made shorter, as data.
-/
import Derived.Test.YtkeockippmmneaaGreatQS3
import Derived.Test.YtkeockippmmneaaGreatTwoKit
namespace Go.Proofs.YtkeockippmmneaaGreat
open Go.RowKit
set_option linter.unusedVariables false

/-- The i-th kid. -/
def kidN (e : ExprD) (i : Nat) : ExprD := (e.kids[i]?).getD (.mk 0 0 0 0 [])

def numE (n : Int) : ExprD := .mk 1 n 0 0 []

mutual
/-- Two are one. -/
def sameE : ExprD → ExprD → Bool
  | .mk k n a t ks, .mk k' n' a' t' ks' => ((k == k') && (n == n') && (a == a') && (t == t')) && sameL ks ks'
def sameL : List ExprD → List ExprD → Bool
  | [], [] => true
  | x :: xs, y :: ys => sameE x y && sameL xs ys
  | [], _ :: _ => false
  | _ :: _, [] => false
end

theorem sameE_aux (n : Nat) : (∀ x y : ExprD, manyE x ≤ n → (sameE x y = true ↔ x = y)) ∧ (∀ xs ys : List ExprD, manyL xs ≤ n → (sameL xs ys = true ↔ xs = ys)) := by
  induction n with
  | zero =>
    refine ⟨fun x y h => by rw [manyE_eq] at h; omega, fun xs ys h => ?_⟩
    cases xs with
    | nil => cases ys with
      | nil => rw [sameL]; simp
      | cons y ys => rw [sameL]; simp
    | cons x xs => rw [manyL, manyE_eq] at h; omega
  | succ n ih =>
    have hE : ∀ x y : ExprD, manyE x ≤ n + 1 → (sameE x y = true ↔ x = y) := fun x y h => by
      cases x with | mk k m a t ks => cases y with | mk k' m' a' t' ks' =>
      rw [manyE] at h
      rw [sameE, Bool.and_eq_true, ih.2 ks ks' (by omega)]
      simp only [Bool.and_eq_true, beq_iff_eq, ExprD.mk.injEq]
      constructor
      · rintro ⟨⟨⟨⟨h1, h2⟩, h3⟩, h4⟩, h5⟩; exact ⟨h1, h2, h3, h4, h5⟩
      · rintro ⟨h1, h2, h3, h4, h5⟩; exact ⟨⟨⟨⟨h1, h2⟩, h3⟩, h4⟩, h5⟩
    refine ⟨hE, fun xs => ?_⟩
    induction xs with
    | nil => intro ys _; cases ys with
      | nil => rw [sameL]; simp
      | cons y ys => rw [sameL]; simp
    | cons x xs ih2 =>
      intro ys h
      rw [manyL] at h
      cases ys with
      | nil => rw [sameL]; simp
      | cons y ys => rw [sameL, Bool.and_eq_true, hE x y (by omega), ih2 ys (by omega)]; simp

theorem sameE_iff (x y : ExprD) : sameE x y = true ↔ x = y := (sameE_aux (manyE x)).1 x y (Nat.le_refl _)

/-- It is this number. -/
def isTheB (e : ExprD) (n : Int) : Bool := (e.k == 1) && (e.n == n)

/-- The i-th rule, of a part whose kids are shorter already. -/
def ruleD (i : Nat) (e : ExprD) : Option ExprD :=
  match i with
  | 0 => if e.k = 10 ∧ (kidN e 0).k = 1 then some (numE (isZ (!((kidN e 0).n != 0)))) else none
  | 1 => if (3 ≤ e.k ∧ e.k ≤ 9) ∧ (kidN e 0).k = 1 ∧ (kidN e 1).k = 1 then some (numE (twoZ e.k (kidN e 0).n (kidN e 1).n)) else none
  | 2 => if e.k = 3 ∨ e.k = 4 then (if isTheB (kidN e 1) 0 then some (kidN e 0) else none) else if e.k = 5 then (if isTheB (kidN e 1) 1 then some (kidN e 0) else none) else none
  | 3 => if e.k = 3 then (if isTheB (kidN e 0) 0 then some (kidN e 1) else none) else if e.k = 5 then (if isTheB (kidN e 0) 1 then some (kidN e 1) else none) else none
  | 4 => if e.k = 5 ∨ e.k = 8 then (if isTheB (kidN e 0) 0 || isTheB (kidN e 1) 0 then some (numE 0) else none) else none
  | 5 => if e.k = 7 then (if sameE (kidN e 0) (kidN e 1) then some (numE 1) else none) else if e.k = 6 ∨ e.k = 4 then (if sameE (kidN e 0) (kidN e 1) then some (numE 0) else none) else none
  | _ => none

/-- The first rule that applies. -/
def shortD (e : ExprD) : ExprD :=
  match ruleD 0 e with
  | some x => x
  | none => match ruleD 1 e with
    | some x => x
    | none => match ruleD 2 e with
      | some x => x
      | none => match ruleD 3 e with
        | some x => x
        | none => match ruleD 4 e with
          | some x => x
          | none => match ruleD 5 e with
            | some x => x
            | none => e

theorem shortD_at {e x : ExprD} {j : Nat} (h : ∀ i, i < j → ruleD i e = none) (hx : ruleD j e = some x) : shortD e = x := by
  have hj : j < 6 := by
    rcases Nat.lt_or_ge j 6 with h6 | h6
    · exact h6
    · exfalso
      have : ruleD j e = none := by
        match j, h6 with
        | j + 6, _ => rfl
      rw [this] at hx; cases hx
  unfold shortD
  obtain rfl | rfl | rfl | rfl | rfl | rfl : j = 0 ∨ j = 1 ∨ j = 2 ∨ j = 3 ∨ j = 4 ∨ j = 5 := by omega
  · rw [hx]
  · rw [h 0 (by omega), hx]
  · rw [h 0 (by omega), h 1 (by omega), hx]
  · rw [h 0 (by omega), h 1 (by omega), h 2 (by omega), hx]
  · rw [h 0 (by omega), h 1 (by omega), h 2 (by omega), h 3 (by omega), hx]
  · rw [h 0 (by omega), h 1 (by omega), h 2 (by omega), h 3 (by omega), h 4 (by omega), hx]

theorem shortD_none {e : ExprD} (h : ∀ i, i < 6 → ruleD i e = none) : shortD e = e := by
  unfold shortD
  rw [h 0 (by omega), h 1 (by omega), h 2 (by omega), h 3 (by omega), h 4 (by omega), h 5 (by omega)]

/-- A part with other kids. -/
def withK (e : ExprD) (ks : List ExprD) : ExprD := .mk e.k e.n e.ak e.at_ ks

/-- Made shorter, a part that is not deeper than so. -/
def slimD : Nat → ExprD → ExprD
  | 0, e => e
  | d + 1, e => shortD (withK e (e.kids.map (slimD d)))

theorem slimD_succ (d : Nat) (e : ExprD) : slimD (d + 1) e = shortD (withK e (e.kids.map (slimD d))) := by rw [slimD]

def slimExpr (e : ExprD) : ExprD := if exprOk e then slimD 6 e else .mk 0 0 0 0 []

theorem form_up : ∀ (d : Nat) (e : ExprD), formE d e = true → formE (d + 1) e = true
  | 0, e, h => by rw [formE] at h; cases h
  | d + 1, e, h => by
    rw [formE_succ, Bool.and_eq_true, List.all_eq_true] at h
    rw [formE_succ, Bool.and_eq_true, List.all_eq_true]
    exact ⟨h.1, fun x hx => form_up d x (h.2 x hx)⟩

theorem cutZ_cutZ (n : Int) : cutZ (cutZ n) = cutZ n := by
  unfold cutZ
  repeat' split
  all_goals omega

theorem cutZ_isZ (b : Bool) : cutZ (isZ b) = isZ b := by cases b <;> rfl

theorem cutZ_twoZ (k a b : Int) : cutZ (twoZ k a b) = twoZ k a b := by
  unfold twoZ
  repeat' split
  all_goals first | exact cutZ_cutZ _ | exact cutZ_isZ _

theorem form_num (d : Nat) {n : Int} (h : cutZ n = n) : formE (d + 1) (numE n) = true := by
  rw [formE_succ]
  unfold partB nOk aOk numE kidsOf
  simp [ExprD.k, ExprD.n, ExprD.ak, ExprD.at_, ExprD.kids, h]

theorem kidN_form {d : Nat} {e : ExprD} {i : Nat} (h : ∀ x, x ∈ e.kids → formE d x = true) (hi : i < e.kids.length) : formE d (kidN e i) = true := by
  unfold kidN
  rw [List.getElem?_eq_getElem hi]
  exact h _ (List.getElem_mem hi)

theorem rule_form {d i : Nat} {e x : ExprD} (h : formE (d + 1) e = true) (hx : ruleD i e = some x) : formE (d + 1) x = true := by
  rw [formE_succ, Bool.and_eq_true, List.all_eq_true] at h
  obtain ⟨hp, hk⟩ := h
  unfold partB at hp
  rw [Bool.and_eq_true, Bool.and_eq_true, beq_iff_eq] at hp
  have hl := hp.1.1
  have hkid : ∀ j, j < e.kids.length → formE (d + 1) (kidN e j) = true := fun j hj => form_up d _ (kidN_form hk hj)
  have h2 : 3 ≤ e.k ∧ e.k ≤ 9 → e.kids.length = 2 := fun h39 => by
    unfold kidsOf at hl
    rw [if_neg (by omega), if_neg (by omega), if_neg (by omega), if_pos h39] at hl
    omega
  match i, hx with
  | 0, hx =>
    simp only [ruleD] at hx
    split at hx
    · simp only [Option.some.injEq] at hx; subst hx; exact form_num d (cutZ_isZ _)
    · cases hx
  | 1, hx =>
    simp only [ruleD] at hx
    split at hx
    · simp only [Option.some.injEq] at hx; subst hx; exact form_num d (cutZ_twoZ _ _ _)
    · cases hx
  | 2, hx =>
    simp only [ruleD] at hx
    split at hx
    · split at hx
      · simp only [Option.some.injEq] at hx; subst hx; exact hkid 0 (by rw [h2 (by omega)]; omega)
      · cases hx
    · split at hx
      · split at hx
        · simp only [Option.some.injEq] at hx; subst hx; exact hkid 0 (by rw [h2 (by omega)]; omega)
        · cases hx
      · cases hx
  | 3, hx =>
    simp only [ruleD] at hx
    split at hx
    · split at hx
      · simp only [Option.some.injEq] at hx; subst hx; exact hkid 1 (by rw [h2 (by omega)]; omega)
      · cases hx
    · split at hx
      · split at hx
        · simp only [Option.some.injEq] at hx; subst hx; exact hkid 1 (by rw [h2 (by omega)]; omega)
        · cases hx
      · cases hx
  | 4, hx =>
    simp only [ruleD] at hx
    split at hx
    · split at hx
      · simp only [Option.some.injEq] at hx; subst hx; exact form_num d rfl
      · cases hx
    · cases hx
  | 5, hx =>
    simp only [ruleD] at hx
    split at hx
    · split at hx
      · simp only [Option.some.injEq] at hx; subst hx; exact form_num d rfl
      · cases hx
    · split at hx
      · split at hx
        · simp only [Option.some.injEq] at hx; subst hx; exact form_num d rfl
        · cases hx
      · cases hx
  | i + 6, hx => simp only [ruleD] at hx; cases hx

theorem short_form {d : Nat} {e : ExprD} (h : formE (d + 1) e = true) : formE (d + 1) (shortD e) = true := by
  unfold shortD
  repeat' split
  all_goals first | exact h | (rename_i hx; exact rule_form h hx)

theorem withK_form {d : Nat} {e : ExprD} (h : formE (d + 1) e = true) {ks : List ExprD} (hl : ks.length = e.kids.length) (hk : ∀ x, x ∈ ks → formE d x = true) : formE (d + 1) (withK e ks) = true := by
  rw [formE_succ, Bool.and_eq_true, List.all_eq_true] at h
  rw [formE_succ, Bool.and_eq_true, List.all_eq_true]
  refine ⟨?_, hk⟩
  have := h.1
  unfold partB nOk aOk at this ⊢
  show ((kidsOf e.k == (ks.length : Int)) && _ && _) = true
  rw [hl]
  exact this

theorem slim_form : ∀ (d : Nat) (e : ExprD), formE d e = true → formE d (slimD d e) = true
  | 0, e, h => by rw [formE] at h; cases h
  | d + 1, e, h => by
    rw [slimD_succ]
    have h' := h
    rw [formE_succ, Bool.and_eq_true, List.all_eq_true] at h'
    refine short_form (withK_form h (by rw [List.length_map]) fun x hx => ?_)
    obtain ⟨y, hy, rfl⟩ := List.mem_map.1 hx
    exact slim_form d y (h'.2 y hy)

/-- How many parts there may be. -/
theorem form_many : ∀ (d : Nat) (e : ExprD), formE d e = true → manyE e < 2 ^ d
  | 0, e, h => by rw [formE] at h; cases h
  | d + 1, e, h => by
    rw [formE_succ, Bool.and_eq_true, List.all_eq_true] at h
    have hp := h.1
    unfold partB at hp
    rw [Bool.and_eq_true, Bool.and_eq_true, beq_iff_eq] at hp
    have hl := hp.1.1
    have h2 := (kidsOf_bd e.k).2
    have hlen : e.kids.length ≤ 2 := by omega
    rw [manyE_eq]
    have hpow : (2 : Nat) ^ (d + 1) = 2 * 2 ^ d := by rw [Nat.pow_succ]; omega
    match hk : e.kids, hlen with
    | [], _ => rw [manyL]; have : 0 < 2 ^ d := Nat.two_pow_pos d; omega
    | [x], _ =>
      have := form_many d x (h.2 x (by rw [hk]; simp))
      rw [manyL, manyL]; omega
    | [x, y], _ =>
      have h1 := form_many d x (h.2 x (by rw [hk]; simp))
      have h3 := form_many d y (h.2 y (by rw [hk]; simp))
      rw [manyL, manyL, manyL]; omega
end Go.Proofs.YtkeockippmmneaaGreat
