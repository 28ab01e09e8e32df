import Derived.Test.YtaoiookfmgpmkaaGreatDoorStmtSpec
import Derived.Test.YtaoiookfmgpmkaaGreatDoorQM11
import Derived.Test.YtaoiookfmgpmkaaGreatDoorQM4
import Derived.Test.YtaoiookfmgpmkaaGreatDoorQM10

/-
 The statements of a list, each ahead of those within it, with how many others are around it; when all of them are right.
-/
namespace Go.Proofs.YtaoiookfmgpmkaaGreatDoor
open Go.RowKit
set_option linter.unusedVariables false

mutual
def cntS : StmtD → Nat
 | .mk _ _ _ _ th el => cntL th + cntL el + 1
def cntL : List StmtD → Nat
 | [] => 0
 | s :: ss => cntS s + cntL ss
end

theorem cntS_eq (s : StmtD) : cntS s = cntL s.th + cntL s.el + 1 := by cases s; rw [cntS]; rfl

mutual
def preS (d : Int) : StmtD → List (StmtD × Int)
 | .mk k tk ta e th el => (.mk k tk ta e th el, d) :: (preT (wrap64 (d + 1)) th ++ preT (wrap64 (d + 1)) el)
def preT (d : Int) : List StmtD → List (StmtD × Int)
 | [] => []
 | s :: ss => preS d s ++ preT d ss
end

theorem preS_eq (d : Int) (s : StmtD) : preS d s = (s, d) :: (preT (wrap64 (d + 1)) s.th ++ preT (wrap64 (d + 1)) s.el) := by cases s; rw [preS]; rfl

theorem preT_append (d : Int) (xs ys : List StmtD) : preT d (xs ++ ys) = preT d xs ++ preT d ys := by
 induction xs with
 | nil => rw [List.nil_append, preT, List.nil_append]
 | cons x xs ih => rw [List.cons_append, preT, preT, ih, List.append_assoc]

theorem preT_take_succ {d : Int} {ss : List StmtD} {i : Nat} {s : StmtD} (h : ss[i]? = some s) : preT d (ss.take (i + 1)) = preT d (ss.take i) ++ preS d s := by
 rw [List.take_add_one, h, preT_append]
 show preT d (ss.take i) ++ preT d [s] = _
 rw [preT, preT, List.append_nil]

theorem preT_take_prefix (d : Int) (ss : List StmtD) (i : Nat) : preT d (ss.take i) <+: preT d ss := by
 have h := preT_append d (ss.take i) (ss.drop i)
 rw [List.take_append_drop] at h
 exact ⟨_, h.symm⟩

theorem cntL_append (xs ys : List StmtD) : cntL (xs ++ ys) = cntL xs + cntL ys := by
 induction xs with
 | nil => rw [List.nil_append, cntL]; omega
 | cons x xs ih => rw [List.cons_append, cntL, cntL, ih]; omega

theorem cntL_take_succ {ss : List StmtD} {i : Nat} {s : StmtD} (h : ss[i]? = some s) : cntL (ss.take (i + 1)) = cntL (ss.take i) + cntS s := by
 rw [List.take_add_one, h, cntL_append]
 show cntL (ss.take i) + cntL [s] = _
 rw [cntL, cntL]
 omega

theorem cntL_take_le (ss : List StmtD) (i : Nat) : cntL (ss.take i) ≤ cntL ss := by
 have h := cntL_append (ss.take i) (ss.drop i)
 rw [List.take_append_drop] at h
 omega

theorem preT_length_aux (n : Nat) : ∀ (ss : List StmtD) (d : Int), cntL ss ≤ n → (preT d ss).length = cntL ss := by
 induction n with
 | zero =>
  intro ss d h
  cases ss with
  | nil => rw [preT, cntL]; rfl
  | cons e es => rw [cntL, cntS_eq] at h; omega
 | succ n ih =>
  intro ss d h
  induction ss with
  | nil => rw [preT, cntL]; rfl
  | cons e es ih2 =>
   rw [cntL, cntS_eq] at h
   rw [preT, cntL, List.length_append, ih2 (by omega), preS_eq, List.length_cons, List.length_append, ih e.th _ (by omega), ih e.el _ (by omega), cntS_eq]

theorem preT_length (d : Int) (ss : List StmtD) : (preT d ss).length = cntL ss := preT_length_aux _ ss d (Nat.le_refl _)

theorem mem_preT {d : Int} {ss : List StmtD} {x : StmtD × Int} : x ∈ preT d ss ↔ ∃ s, s ∈ ss ∧ x ∈ preS d s := by
 induction ss with
 | nil => rw [preT]; simp
 | cons e es ih => rw [preT, List.mem_append, ih]; simp

def stmtB (s : StmtD) : Bool := fitB s && exprOk s.e

def goodT (x : StmtD × Int) : Prop := x.2 < 4 ∧ stmtB x.1 = true

theorem good_formT : ∀ (d c : Nat), c + d = 4 → ∀ l : List StmtD, (∀ x, x ∈ preT (c : Int) l → goodT x) ↔ formT d l = true
 | 0, c, h, l => by
  rw [formT]
  cases l with
  | nil => simp [preT]
  | cons s ss =>
   constructor
   ·intro hx
    have := (hx (s, (c : Int)) (by rw [preT, preS_eq]; simp)).1
    simp only at this
    omega
   ·intro hx; cases hx
 | d + 1, c, h, l => by
  have hw : wrap64 ((c : Int) + 1) = ((c + 1 : Nat) : Int) := by unfold wrap64; omega
  have ih := good_formT d (c + 1) (by omega)
  rw [formT, List.all_eq_true]
  constructor
  ·intro hx s hs
   have hp : ∀ x, x ∈ preS (c : Int) s → goodT x := fun x h => hx x (mem_preT.2 ⟨s, hs, h⟩)
   rw [preS_eq, hw] at hp
   have h1 := (hp _ (.head _)).2
   have h2 := (ih s.th).1 fun x h => hp x (.tail _ (List.mem_append_left _ h))
   have h3 := (ih s.el).1 fun x h => hp x (.tail _ (List.mem_append_right _ h))
   unfold stmtB at h1
   simp only at h1
   rw [h1, h2, h3]; rfl
  ·intro hl x hx
   obtain ⟨s, hs, hxs⟩ := mem_preT.1 hx
   have hl' := hl s hs
   rw [Bool.and_eq_true, Bool.and_eq_true] at hl'
   rw [preS_eq, hw] at hxs
   cases hxs with
   | head => exact ⟨by show (c : Int) < 4; omega, hl'.1.1⟩
   | tail _ hx =>
    rcases List.mem_append.1 hx with hx | hx
    ·exact (ih s.th).2 hl'.1.2 x hx
    ·exact (ih s.el).2 hl'.2 x hx

theorem manyT_form : ∀ (d : Nat) (l : List StmtD), formT d l = true → manySt d l = cntL l
 | 0, l, h => by
  rw [formT] at h
  cases l with
  | nil => rw [manySt, cntL]; rfl
  | cons s ss => cases h
 | d + 1, l, h => by
  rw [formT, List.all_eq_true] at h
  rw [manySt]
  have hs : ∀ ss : List StmtD, (∀ s, s ∈ ss → s ∈ l) → ss.length + (ss.map fun s => manySt d s.th + manySt d s.el).sum = cntL ss := by
   intro ss
   induction ss with
   | nil => intro _; rw [cntL]; rfl
   | cons s ss ih =>
    intro hk
    have h1 := h s (hk s (.head _))
    rw [Bool.and_eq_true, Bool.and_eq_true] at h1
    have := ih fun k' h' => hk k' (.tail _ h')
    rw [List.map_cons, List.sum_cons, List.length_cons, cntL, cntS_eq, manyT_form d s.th h1.1.2, manyT_form d s.el h1.2]
    omega
  exact hs l fun _ h => h

theorem stmtsOk_iff (l : List StmtD) : stmtsOk l = true ↔ (∀ x, x ∈ preT 0 l → goodT x) ∧ cntL l ≤ 16 := by
 have h := good_formT 4 0 rfl l
 unfold stmtsOk
 rw [Bool.and_eq_true, decide_eq_true_eq]
 constructor
 ·rintro ⟨h1, h2⟩
  exact ⟨h.2 h2, by rw [← manyT_form 4 l h2]; exact h1⟩
 ·rintro ⟨h1, h2⟩
  have h3 := h.1 h1
  exact ⟨by rw [manyT_form 4 l h3]; exact h2, h3⟩

end Go.Proofs.YtaoiookfmgpmkaaGreatDoor

/-
 The code of what is reckoned and of statements, as data.
-/
namespace Go.Proofs.YtaoiookfmgpmkaaGreatDoor
open Go.RowKit
set_option linter.unusedVariables false

def lastE (e : ExprD) : InsD := if e.k = 1 then ⟨1, e.n, 0, 0⟩ else if e.k = 2 then ⟨2, 0, e.ak, e.at_⟩ else if e.k = 10 then ⟨5, 0, 0, 0⟩ else ⟨4, e.k, 0, 0⟩

mutual
def codeE : ExprD → List InsD
 | .mk k n ak at_ ks => codeK ks ++ [lastE (.mk k n ak at_ [])]
def codeK : List ExprD → List InsD
 | [] => []
 | e :: es => codeE e ++ codeK es
end

theorem codeE_eq (e : ExprD) : codeE e = codeK e.kids ++ [lastE e] := by cases e; rw [codeE]; rfl

theorem codeK_append (xs ys : List ExprD) : codeK (xs ++ ys) = codeK xs ++ codeK ys := by
 induction xs with
 | nil => rw [List.nil_append, codeK, List.nil_append]
 | cons x xs ih => rw [List.cons_append, codeK, codeK, ih, List.append_assoc]

theorem codeK_take_succ {es : List ExprD} {i : Nat} {e : ExprD} (h : es[i]? = some e) : codeK (es.take (i + 1)) = codeK (es.take i) ++ codeE e := by
 rw [List.take_add_one, h, codeK_append]
 show codeK (es.take i) ++ codeK [e] = _
 rw [codeK, codeK, List.append_nil]

theorem codeK_len_aux (n : Nat) : ∀ es : List ExprD, manyL es ≤ n → (codeK es).length = manyL es := by
 induction n with
 | zero =>
  intro es h
  cases es with
  | nil => rw [codeK, manyL]; rfl
  | cons e es => rw [manyL, manyE_eq] at h; omega
 | succ n ih =>
  intro es h
  induction es with
  | nil => rw [codeK, manyL]; rfl
  | cons e es ih2 =>
   rw [manyL, manyE_eq] at h
   rw [codeK, manyL, List.length_append, ih2 (by omega), codeE_eq, List.length_append, ih e.kids (by omega), manyE_eq]
   rfl

theorem codeK_len (es : List ExprD) : (codeK es).length = manyL es := codeK_len_aux _ es (Nat.le_refl _)
theorem codeE_len (e : ExprD) : (codeE e).length = manyE e := by rw [codeE_eq, List.length_append, codeK_len, manyE_eq]; rfl

mutual
def codeS : StmtD → Nat → List InsD
 | .mk k tk ta e th el, i =>
  if k = 1 then codeE e ++ [⟨3, 0, tk, ta⟩]
  else if k = 3 then codeE e ++ (⟨6, ((i + (codeE e).length + 1 + (codeL th (i + (codeE e).length + 1)).length + 1 : Nat) : Int), 0, 0⟩ :: (codeL th (i + (codeE e).length + 1) ++ [⟨8, (i : Int), 0, 0⟩]))
  else codeE e ++ (⟨6, ((i + (codeE e).length + 1 + (codeL th (i + (codeE e).length + 1)).length + 1 : Nat) : Int), 0, 0⟩ :: (codeL th (i + (codeE e).length + 1) ++
   (⟨7, ((i + (codeE e).length + 1 + (codeL th (i + (codeE e).length + 1)).length + 1 + (codeL el (i + (codeE e).length + 1 + (codeL th (i + (codeE e).length + 1)).length + 1)).length : Nat) : Int), 0, 0⟩ :: codeL el (i + (codeE e).length + 1 + (codeL th (i + (codeE e).length + 1)).length + 1))))
def codeL : List StmtD → Nat → List InsD
 | [], _ => []
 | s :: ss, i => codeS s i ++ codeL ss (i + (codeS s i).length)
end

theorem codeL_nil (i : Nat) : codeL [] i = [] := by rw [codeL]
theorem codeL_cons (s : StmtD) (ss : List StmtD) (i : Nat) : codeL (s :: ss) i = codeS s i ++ codeL ss (i + (codeS s i).length) := by rw [codeL]

theorem codeS_set {s : StmtD} (h : s.k = 1) (i : Nat) : codeS s i = codeE s.e ++ [⟨3, 0, s.tk, s.ta⟩] := by
 cases s with
 | mk k tk ta e th el => have h : k = 1 := h; rw [codeS, if_pos h]; rfl

theorem codeS_while {s : StmtD} (h : s.k = 3) {i : Nat} {a b : List InsD} (ha : codeE s.e = a) (hb : codeL s.th (i + a.length + 1) = b) :
  codeS s i = a ++ (⟨6, ((i + a.length + 1 + b.length + 1 : Nat) : Int), 0, 0⟩ :: (b ++ [⟨8, (i : Int), 0, 0⟩])) := by
 subst ha; subst hb
 cases s with
 | mk k tk ta e th el => have h : k = 3 := h; rw [codeS, if_neg (by omega), if_pos h]; rfl

theorem codeS_if {s : StmtD} (h1 : s.k ≠ 1) (h3 : s.k ≠ 3) {i : Nat} {a b c : List InsD} (ha : codeE s.e = a) (hb : codeL s.th (i + a.length + 1) = b) (hc : codeL s.el (i + a.length + 1 + b.length + 1) = c) :
  codeS s i = a ++ (⟨6, ((i + a.length + 1 + b.length + 1 : Nat) : Int), 0, 0⟩ :: (b ++ (⟨7, ((i + a.length + 1 + b.length + 1 + c.length : Nat) : Int), 0, 0⟩ :: c))) := by
 subst ha; subst hb; subst hc
 cases s with
 | mk k tk ta e th el => have h1 : k ≠ 1 := h1; have h3 : k ≠ 3 := h3; rw [codeS, if_neg h1, if_neg h3]; rfl

theorem codeL_append (xs ys : List StmtD) : ∀ i, codeL (xs ++ ys) i = codeL xs i ++ codeL ys (i + (codeL xs i).length) := by
 induction xs with
 | nil => intro i; rw [List.nil_append, codeL_nil, List.nil_append]; rfl
 | cons x xs ih =>
  intro i
  rw [List.cons_append, codeL_cons, codeL_cons, ih, List.append_assoc, List.length_append, Nat.add_assoc]

theorem codeL_take_succ {ss : List StmtD} {j : Nat} {s : StmtD} (h : ss[j]? = some s) (i : Nat) : codeL (ss.take (j + 1)) i = codeL (ss.take j) i ++ codeS s (i + (codeL (ss.take j) i).length) := by
 rw [List.take_add_one, h, codeL_append]
 show codeL (ss.take j) i ++ codeL [s] _ = _
 rw [codeL_cons, codeL_nil, List.append_nil]

theorem codeL_take_len (ss : List StmtD) (j i : Nat) : (codeL (ss.take j) i).length ≤ (codeL ss i).length := by
 have h := codeL_append (ss.take j) (ss.drop j) i
 rw [List.take_append_drop] at h
 rw [h, List.length_append]
 omega

theorem codeL_len_aux (n : Nat) : ∀ (ss : List StmtD) (i : Nat), sizeL ss ≤ n → (codeL ss i).length ≤ 3 * sizeL ss := by
 induction n with
 | zero =>
  intro ss i h
  cases ss with
  | nil => rw [codeL_nil]; exact Nat.zero_le _
  | cons e es => rw [sizeL, sizeS_eq] at h; omega
 | succ n ih =>
  intro ss
  induction ss with
  | nil => intro i h; rw [codeL_nil]; exact Nat.zero_le _
  | cons s ss ih2 =>
   intro i h
   rw [sizeL, sizeS_eq] at h
   rw [codeL_cons, sizeL, List.length_append]
   have h2 := ih2 (i + (codeS s i).length) (by omega)
   have he : (codeE s.e).length = manyL s.e.kids + 1 := by rw [codeE_len, manyE_eq]
   have h1 : (codeS s i).length ≤ 3 * sizeS s := by
    rw [sizeS_eq]
    by_cases k1 : s.k = 1
    ·rw [codeS_set k1, List.length_append, he]
     simp only [List.length_cons, List.length_nil]
     omega
    ·have t1 := ih s.th (i + (codeE s.e).length + 1) (by omega)
     by_cases k3 : s.k = 3
     ·rw [codeS_while k3 rfl rfl]
      simp only [List.length_append, List.length_cons, List.length_nil]
      omega
     ·have t2 := ih s.el (i + (codeE s.e).length + 1 + (codeL s.th (i + (codeE s.e).length + 1)).length + 1) (by omega)
      rw [codeS_if k1 k3 rfl rfl rfl]
      simp only [List.length_append, List.length_cons]
      omega
   omega

theorem codeL_len (ss : List StmtD) (i : Nat) : (codeL ss i).length ≤ 3 * sizeL ss := codeL_len_aux _ ss i (Nat.le_refl _)

def codeOf (ss : List StmtD) : List InsD := if stmtsOk ss then codeL ss 0 else []

end Go.Proofs.YtaoiookfmgpmkaaGreatDoor

/-
 What a net keeps, the marks of a chart, and a controller, as they are ok: as data alone.
-/
namespace Go.Proofs.YtaoiookfmgpmkaaGreatDoor
set_option linter.unusedVariables false

def fitWB (x : WireD) (b : BlockD) : Bool := if gateK x.kind then decide (b = noB) else blockOk b && (b.kind == x.kind && b.n == x.n)
def allFit (ws : List WireD) (bs : List BlockD) : Bool := (List.range ws.length).all fun i => match ws[i]?, bs[i]? with | some x, some b => fitWB x b | _, _ => true
def stateFit (n : NetD) (s : StateD) : Bool := decide (s.bs.length = n.ws.length) && (decide (s.ls.length = n.ws.length) && allFit n.ws s.bs)
def marksFit (c : ChartD) (m : MarksD) : Bool := decide ((m.on.length : Int) = c.steps) && decide (m.kept.length = 6)
def plcFits (ss : List StmtD) (n : NetD) (c : ChartD) : Bool := stmtsOk ss && (decide ((codeOf ss).length ≤ 400) && (netOk n && chartOk c))
def plcOk (p : PlcD) : Bool := plcFits p.prog p.net p.chart && (stateFit p.net p.st && (marksFit p.chart p.marks && (memOk p.mem && (decide (0 ≤ p.scans) && decide (p.scans ≤ 1000000)))))

theorem allFit_of {ws : List WireD} {bs : List BlockD} (h : ∀ (i : Nat) (x : WireD) (b : BlockD), ws[i]? = some x → bs[i]? = some b → fitWB x b = true) : allFit ws bs = true := by
 unfold allFit
 rw [List.all_eq_true]
 intro i _
 split
 ·next x b hx hb => exact h i x b hx hb
 ·rfl
theorem allFit_not {ws : List WireD} {bs : List BlockD} {i : Nat} {x : WireD} {b : BlockD} (hx : ws[i]? = some x) (hb : bs[i]? = some b) (h : fitWB x b = false) : allFit ws bs = false := by
 unfold allFit
 rw [List.all_eq_false]
 refine ⟨i, by simpa using (List.getElem?_eq_some_iff.mp hx).1, ?_⟩
 rw [hx, hb]
 simp [h]
def FitTo (ws : List WireD) (bs : List BlockD) (j : Nat) : Prop := ∀ (i : Nat) (x : WireD) (b : BlockD), i < j → ws[i]? = some x → bs[i]? = some b → fitWB x b = true
theorem fit_next {ws : List WireD} {bs : List BlockD} {j : Nat} {x : WireD} {b : BlockD} (h : FitTo ws bs j) (hx : ws[j]? = some x) (hb : bs[j]? = some b) (hf : fitWB x b = true) : FitTo ws bs (j + 1) := by
 intro i y c hi hy hc
 by_cases e : i = j
 ·subst e
  rw [hx] at hy
  rw [hb] at hc
  cases hy
  cases hc
  exact hf
 ·exact h i y c (by omega) hy hc
theorem stateFit_len {n : NetD} {s : StateD} (h : ¬ s.bs.length = n.ws.length) : stateFit n s = false := by unfold stateFit; rw [decide_eq_false h, Bool.false_and]
theorem stateFit_len2 {n : NetD} {s : StateD} (h : ¬ s.ls.length = n.ws.length) : stateFit n s = false := by unfold stateFit; rw [decide_eq_false h, Bool.false_and, Bool.and_false]
theorem stateFit_not {n : NetD} {s : StateD} (h : allFit n.ws s.bs = false) : stateFit n s = false := by unfold stateFit; rw [h, Bool.and_false, Bool.and_false]
theorem stateFit_yes {n : NetD} {s : StateD} (h1 : s.bs.length = n.ws.length) (h2 : s.ls.length = n.ws.length) (h : FitTo n.ws s.bs n.ws.length) : stateFit n s = true := by
 unfold stateFit
 rw [decide_eq_true h1, decide_eq_true h2, Bool.true_and, Bool.true_and]
 exact allFit_of fun i x b hx hb => h i x b (List.getElem?_eq_some_iff.mp hx).1 hx hb

theorem fitWB_first {x : WireD} {n : Nat} {b : BlockD} (h : wireOk x n = true) : fitWB x b = (b.kind == (blockNew x.kind x.n).kind && (b.n == (blockNew x.kind x.n).n && (decide (b = blockNew x.kind x.n) || blockOk b))) := by
 have hn : numW x = true := by unfold wireOk at h; simp only [Bool.and_eq_true] at h; exact h.1
 unfold numW at hn
 unfold fitWB
 by_cases hg : gateK x.kind = true
 ·rw [if_pos hg] at hn ⊢
  have hk : 11 ≤ x.kind ∧ x.kind ≤ 13 := by unfold gateK at hg; simpa using hg
  have hb : blockNew x.kind x.n = noB := by
   unfold blockNew
   rw [if_neg]
   unfold numB
   rcases mostB_cases x.kind with ⟨h1, _⟩ | ⟨h1, _⟩ | ⟨_, h2⟩
   ·omega
   ·omega
   ·rw [h2]; simp; omega
  rw [hb]
  by_cases e : b = noB
  ·subst e; decide
  ·rw [decide_eq_false e, Bool.false_or]
   by_cases h0 : b.kind = 0
   ·have : blockOk b = false := by
     unfold blockOk numB
     rw [h0, show mostB 0 = -1 from rfl]
     cases hh : decide (0 ≤ b.n) <;> simp_all <;> omega
    rw [this, Bool.and_false, Bool.and_false]
   ·have : (b.kind == noB.kind) = false := by simpa [noB] using h0
    rw [this, Bool.false_and]
 ·rw [if_neg hg] at hn ⊢
  have hb : blockNew x.kind x.n = ⟨x.kind, x.n, false, false, 0⟩ := by unfold blockNew; rw [if_pos hn]
  have ho := blockNew_ok hn
  rw [hb] at ho ⊢
  by_cases e : b = ⟨x.kind, x.n, false, false, 0⟩
  ·subst e
   rw [ho]
   simp
  ·rw [decide_eq_false e, Bool.false_or]
   cases blockOk b <;> cases (b.kind == x.kind) <;> cases (b.n == x.n) <;> rfl
end Go.Proofs.YtaoiookfmgpmkaaGreatDoor
