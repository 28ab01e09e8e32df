/-
  The code of what is reckoned and of statements, as data.
-/
import Derived.Test.YtaoiookfmgpmkaaGreatDoorCodeData
import Derived.Test.YtaoiookfmgpmkaaGreatDoorStmtPre
namespace Go.Proofs.YtaoiookfmgpmkaaGreatDoor
open Go.RowKit
set_option linter.unusedVariables false

/-- The instruction that a part itself makes, behind those of its kids. -/
def lastE (e : ExprD) : InsD := if e.k = 1 then ⟨1, e.n, 0, 0⟩ else if e.k = 2 then ⟨2, 0, e.ak, e.at_⟩ else if e.k = 10 then ⟨5, 0, 0, 0⟩ else ⟨4, e.k, 0, 0⟩

mutual
def codeE : ExprD → List InsD
  | .mk k n ak at_ ks => codeK ks ++ [lastE (.mk k n ak at_ [])]
def codeK : List ExprD → List InsD
  | [] => []
  | e :: es => codeE e ++ codeK es
end

theorem codeE_eq (e : ExprD) : codeE e = codeK e.kids ++ [lastE e] := by cases e; rw [codeE]; rfl

theorem codeK_append (xs ys : List ExprD) : codeK (xs ++ ys) = codeK xs ++ codeK ys := by
  induction xs with
  | nil => rw [List.nil_append, codeK, List.nil_append]
  | cons x xs ih => rw [List.cons_append, codeK, codeK, ih, List.append_assoc]

theorem codeK_take_succ {es : List ExprD} {i : Nat} {e : ExprD} (h : es[i]? = some e) : codeK (es.take (i + 1)) = codeK (es.take i) ++ codeE e := by
  rw [List.take_add_one, h, codeK_append]
  show codeK (es.take i) ++ codeK [e] = _
  rw [codeK, codeK, List.append_nil]

theorem codeK_len_aux (n : Nat) : ∀ es : List ExprD, manyL es ≤ n → (codeK es).length = manyL es := by
  induction n with
  | zero =>
    intro es h
    cases es with
    | nil => rw [codeK, manyL]; rfl
    | cons e es => rw [manyL, manyE_eq] at h; omega
  | succ n ih =>
    intro es h
    induction es with
    | nil => rw [codeK, manyL]; rfl
    | cons e es ih2 =>
      rw [manyL, manyE_eq] at h
      rw [codeK, manyL, List.length_append, ih2 (by omega), codeE_eq, List.length_append, ih e.kids (by omega), manyE_eq]
      rfl

theorem codeK_len (es : List ExprD) : (codeK es).length = manyL es := codeK_len_aux _ es (Nat.le_refl _)
theorem codeE_len (e : ExprD) : (codeE e).length = manyE e := by rw [codeE_eq, List.length_append, codeK_len, manyE_eq]; rfl

mutual
/-- The code of a statement, its first instruction being at place i. -/
def codeS : StmtD → Nat → List InsD
  | .mk k tk ta e th el, i =>
    if k = 1 then codeE e ++ [⟨3, 0, tk, ta⟩]
    else if k = 3 then codeE e ++ (⟨6, ((i + (codeE e).length + 1 + (codeL th (i + (codeE e).length + 1)).length + 1 : Nat) : Int), 0, 0⟩ :: (codeL th (i + (codeE e).length + 1) ++ [⟨8, (i : Int), 0, 0⟩]))
    else codeE e ++ (⟨6, ((i + (codeE e).length + 1 + (codeL th (i + (codeE e).length + 1)).length + 1 : Nat) : Int), 0, 0⟩ :: (codeL th (i + (codeE e).length + 1) ++
      (⟨7, ((i + (codeE e).length + 1 + (codeL th (i + (codeE e).length + 1)).length + 1 + (codeL el (i + (codeE e).length + 1 + (codeL th (i + (codeE e).length + 1)).length + 1)).length : Nat) : Int), 0, 0⟩ :: codeL el (i + (codeE e).length + 1 + (codeL th (i + (codeE e).length + 1)).length + 1))))
/-- The code of statements. -/
def codeL : List StmtD → Nat → List InsD
  | [], _ => []
  | s :: ss, i => codeS s i ++ codeL ss (i + (codeS s i).length)
end

theorem codeL_nil (i : Nat) : codeL [] i = [] := by rw [codeL]
theorem codeL_cons (s : StmtD) (ss : List StmtD) (i : Nat) : codeL (s :: ss) i = codeS s i ++ codeL ss (i + (codeS s i).length) := by rw [codeL]

theorem codeS_set {s : StmtD} (h : s.k = 1) (i : Nat) : codeS s i = codeE s.e ++ [⟨3, 0, s.tk, s.ta⟩] := by
  cases s with
  | mk k tk ta e th el => have h : k = 1 := h; rw [codeS, if_pos h]; rfl

theorem codeS_while {s : StmtD} (h : s.k = 3) {i : Nat} {a b : List InsD} (ha : codeE s.e = a) (hb : codeL s.th (i + a.length + 1) = b) :
    codeS s i = a ++ (⟨6, ((i + a.length + 1 + b.length + 1 : Nat) : Int), 0, 0⟩ :: (b ++ [⟨8, (i : Int), 0, 0⟩])) := by
  subst ha; subst hb
  cases s with
  | mk k tk ta e th el => have h : k = 3 := h; rw [codeS, if_neg (by omega), if_pos h]; rfl

theorem codeS_if {s : StmtD} (h1 : s.k ≠ 1) (h3 : s.k ≠ 3) {i : Nat} {a b c : List InsD} (ha : codeE s.e = a) (hb : codeL s.th (i + a.length + 1) = b) (hc : codeL s.el (i + a.length + 1 + b.length + 1) = c) :
    codeS s i = a ++ (⟨6, ((i + a.length + 1 + b.length + 1 : Nat) : Int), 0, 0⟩ :: (b ++ (⟨7, ((i + a.length + 1 + b.length + 1 + c.length : Nat) : Int), 0, 0⟩ :: c))) := by
  subst ha; subst hb; subst hc
  cases s with
  | mk k tk ta e th el => have h1 : k ≠ 1 := h1; have h3 : k ≠ 3 := h3; rw [codeS, if_neg h1, if_neg h3]; rfl

theorem codeL_append (xs ys : List StmtD) : ∀ i, codeL (xs ++ ys) i = codeL xs i ++ codeL ys (i + (codeL xs i).length) := by
  induction xs with
  | nil => intro i; rw [List.nil_append, codeL_nil, List.nil_append]; rfl
  | cons x xs ih =>
    intro i
    rw [List.cons_append, codeL_cons, codeL_cons, ih, List.append_assoc, List.length_append, Nat.add_assoc]

theorem codeL_take_succ {ss : List StmtD} {j : Nat} {s : StmtD} (h : ss[j]? = some s) (i : Nat) : codeL (ss.take (j + 1)) i = codeL (ss.take j) i ++ codeS s (i + (codeL (ss.take j) i).length) := by
  rw [List.take_add_one, h, codeL_append]
  show codeL (ss.take j) i ++ codeL [s] _ = _
  rw [codeL_cons, codeL_nil, List.append_nil]

theorem codeL_take_len (ss : List StmtD) (j i : Nat) : (codeL (ss.take j) i).length ≤ (codeL ss i).length := by
  have h := codeL_append (ss.take j) (ss.drop j) i
  rw [List.take_append_drop] at h
  rw [h, List.length_append]
  omega

theorem codeL_len_aux (n : Nat) : ∀ (ss : List StmtD) (i : Nat), sizeL ss ≤ n → (codeL ss i).length ≤ 3 * sizeL ss := by
  induction n with
  | zero =>
    intro ss i h
    cases ss with
    | nil => rw [codeL_nil]; exact Nat.zero_le _
    | cons e es => rw [sizeL, sizeS_eq] at h; omega
  | succ n ih =>
    intro ss
    induction ss with
    | nil => intro i h; rw [codeL_nil]; exact Nat.zero_le _
    | cons s ss ih2 =>
      intro i h
      rw [sizeL, sizeS_eq] at h
      rw [codeL_cons, sizeL, List.length_append]
      have h2 := ih2 (i + (codeS s i).length) (by omega)
      have he : (codeE s.e).length = manyL s.e.kids + 1 := by rw [codeE_len, manyE_eq]
      have h1 : (codeS s i).length ≤ 3 * sizeS s := by
        rw [sizeS_eq]
        by_cases k1 : s.k = 1
        · rw [codeS_set k1, List.length_append, he]
          simp only [List.length_cons, List.length_nil]
          omega
        · have t1 := ih s.th (i + (codeE s.e).length + 1) (by omega)
          by_cases k3 : s.k = 3
          · rw [codeS_while k3 rfl rfl]
            simp only [List.length_append, List.length_cons, List.length_nil]
            omega
          · have t2 := ih s.el (i + (codeE s.e).length + 1 + (codeL s.th (i + (codeE s.e).length + 1)).length + 1) (by omega)
            rw [codeS_if k1 k3 rfl rfl rfl]
            simp only [List.length_append, List.length_cons]
            omega
      omega

theorem codeL_len (ss : List StmtD) (i : Nat) : (codeL ss i).length ≤ 3 * sizeL ss := codeL_len_aux _ ss i (Nat.le_refl _)

def codeOf (ss : List StmtD) : List InsD := if stmtsOk ss then codeL ss 0 else []

theorem codeOf_len (ss : List StmtD) : (codeOf ss).length ≤ 3 * sizeL ss := by
  unfold codeOf
  split
  · exact codeL_len ss 0
  · exact Nat.zero_le _
end Go.Proofs.YtaoiookfmgpmkaaGreatDoor
