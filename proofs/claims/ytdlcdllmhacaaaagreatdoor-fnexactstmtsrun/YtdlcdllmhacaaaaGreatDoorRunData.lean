/-
  What a list of statements does, as data: the memory then, how it ends, the fuel that is left.
-/
import Derived.Test.YtdlcdllmhacaaaaGreatDoorStmtPre
import Derived.Test.YtdlcdllmhacaaaaGreatDoorExprOf2
import Derived.Test.YtdlcdllmhacaaaaGreatDoorMemPut
namespace Go.Proofs.YtdlcdllmhacaaaaGreatDoor
open Go.RowKit
set_option linter.unusedVariables false

/-- A loop: as long as c is so, body, and 1 of the fuel behind it; n: how often at most. -/
def whileD (c : MemD → Bool) (body : MemD → Nat → MemD × Int × Nat) : Nat → MemD → Nat → MemD × Int × Nat
  | 0, d, f => (d, 1, 0)
  | n + 1, d, f => if c d then (if (body d f).2.1 ≠ 0 then body d f else if (body d f).2.2 = 0 then ((body d f).1, 1, 0) else whileD c body n (body d f).1 ((body d f).2.2 - 1)) else (d, 0, f)

/-- What something comes to is on. -/
def onD (e : ExprD) (d : MemD) : Bool := evalD 6 d e != 0

mutual
/-- One statement done. -/
def runS : StmtD → MemD → Nat → MemD × Int × Nat
  | .mk k tk ta e th el, d, f =>
    if k = 1 then (memSet d ⟨tk, ta⟩ (evalD 6 d e), 0, f) else if k = 3 then whileD (onD e) (runL th) (f + 1) d f else if onD e d then runL th d f else runL el d f
/-- A list done. -/
def runL : List StmtD → MemD → Nat → MemD × Int × Nat
  | [], d, f => (d, 0, f)
  | s :: ss, d, f => if (runS s d f).2.1 ≠ 0 then runS s d f else runL ss (runS s d f).1 (runS s d f).2.2
end

theorem runS_eq (s : StmtD) (d : MemD) (f : Nat) : runS s d f = if s.k = 1 then (memSet d ⟨s.tk, s.ta⟩ (evalD 6 d s.e), 0, f) else if s.k = 3 then whileD (onD s.e) (runL s.th) (f + 1) d f else if onD s.e d then runL s.th d f else runL s.el d f := by
  cases s; rw [runS]; rfl

theorem runL_nil (d : MemD) (f : Nat) : runL [] d f = (d, 0, f) := by rw [runL]
theorem runL_cons (s : StmtD) (ss : List StmtD) (d : MemD) (f : Nat) : runL (s :: ss) d f = if (runS s d f).2.1 ≠ 0 then runS s d f else runL ss (runS s d f).1 (runS s d f).2.2 := by rw [runL]

/-- A list's run from the j-th on. -/
theorem runL_drop {ss : List StmtD} {j : Nat} {s : StmtD} (h : ss[j]? = some s) (d : MemD) (f : Nat) : runL (ss.drop j) d f = if (runS s d f).2.1 ≠ 0 then runS s d f else runL (ss.drop (j + 1)) (runS s d f).1 (runS s d f).2.2 := by
  have hj : j < ss.length := (List.getElem?_eq_some_iff.mp h).1
  rw [List.drop_eq_getElem_cons hj, runL_cons]
  have : ss[j] = s := by rw [List.getElem?_eq_getElem hj] at h; exact Option.some.inj h
  rw [this]

theorem runL_drop_all (ss : List StmtD) (d : MemD) (f : Nat) : runL (ss.drop ss.length) d f = (d, 0, f) := by rw [List.drop_length, runL_nil]

/-- What is right of an end: the memory is, the fuel has not grown, a code is 0 or 1, and with 1 no fuel is left. -/
structure EndOk (f : Nat) (r : MemD × Int × Nat) : Prop where
  mem : memOk r.1 = true
  fuel : r.2.2 ≤ f
  code : r.2.1 = 0 ∨ (r.2.1 = 1 ∧ r.2.2 = 0)

theorem whileD_ok {c : MemD → Bool} {body : MemD → Nat → MemD × Int × Nat} (hb : ∀ d f, memOk d = true → EndOk f (body d f)) : ∀ n d f, memOk d = true → EndOk f (whileD c body n d f)
  | 0, d, f, hd => ⟨hd, Nat.zero_le _, .inr ⟨rfl, rfl⟩⟩
  | n + 1, d, f, hd => by
    have h := hb d f hd
    rw [whileD]
    split
    · split
      · exact h
      · split
        · exact ⟨h.mem, Nat.zero_le _, .inr ⟨rfl, rfl⟩⟩
        · have := whileD_ok (c := c) hb n (body d f).1 ((body d f).2.2 - 1) h.mem
          exact ⟨this.mem, by have := this.fuel; have := h.fuel; omega, this.code⟩
    · exact ⟨hd, Nat.le_refl _, .inl rfl⟩

/-- How often at most does not matter, once it is more than the fuel. -/
theorem whileD_more {c : MemD → Bool} {body : MemD → Nat → MemD × Int × Nat} (hb : ∀ d f, memOk d = true → EndOk f (body d f)) : ∀ n m d f, memOk d = true → f < n → f < m → whileD c body n d f = whileD c body m d f
  | 0, _, _, _, _, h, _ => by omega
  | _ + 1, 0, _, _, _, _, h => by omega
  | n + 1, m + 1, d, f, hd, h1, h2 => by
    have h := hb d f hd
    rw [whileD, whileD]
    split
    · split
      · rfl
      · split
        · rfl
        · have := h.fuel
          exact whileD_more hb n m _ _ h.mem (by omega) (by omega)
    · rfl

/-- One round of a loop. -/
theorem whileD_step {c : MemD → Bool} {body : MemD → Nat → MemD × Int × Nat} (hb : ∀ d f, memOk d = true → EndOk f (body d f)) (d : MemD) (f : Nat) (hd : memOk d = true) :
    whileD c body (f + 1) d f = if c d then (if (body d f).2.1 ≠ 0 then body d f else if (body d f).2.2 = 0 then ((body d f).1, 1, 0) else whileD c body ((body d f).2.2 - 1 + 1) (body d f).1 ((body d f).2.2 - 1)) else (d, 0, f) := by
  rw [whileD]
  split
  · split
    · rfl
    · split
      · rfl
      · have h := hb d f hd
        have := h.fuel
        exact whileD_more hb _ _ _ _ h.mem (by omega) (by omega)
  · rfl

theorem listOk_set {xs : List Int} (h : listOk xs = true) (i : Nat) (n : Int) : listOk (xs.set i (cutZ n)) = true := by
  unfold listOk at *
  simp only [Bool.and_eq_true, decide_eq_true_eq, List.all_eq_true, List.length_set] at *
  refine ⟨h.1, fun x hx => ?_⟩
  rcases List.mem_or_eq_of_mem_set hx with h1 | h1
  · exact h.2 x h1
  · rw [h1, beq_iff_eq]
    unfold cutZ
    split <;> (try split) <;> (try split) <;> omega

theorem memOk_set {d : MemD} (h : memOk d = true) (a : AddrD) (n : Int) : memOk (memSet d a n) = true := by
  unfold memSet
  unfold memOk at *
  simp only [Bool.and_eq_true] at h
  repeat' split
  all_goals simp only [Bool.and_eq_true]
  all_goals first
    | exact h
    | exact ⟨⟨h.1.1, listOk_set h.1.2 _ _⟩, h.2⟩
    | exact ⟨h.1, listOk_set h.2 _ _⟩
    | exact ⟨⟨listOk_set h.1.1 _ _, h.1.2⟩, h.2⟩

mutual
theorem runS_ok : ∀ (s : StmtD) (d : MemD) (f : Nat), memOk d = true → EndOk f (runS s d f)
  | .mk k tk ta e th el, d, f, hd => by
    rw [runS]
    split
    · exact ⟨memOk_set hd _ _, Nat.le_refl _, .inl rfl⟩
    · split
      · exact whileD_ok (fun d f hd => runL_ok th d f hd) _ d f hd
      · split
        · exact runL_ok th d f hd
        · exact runL_ok el d f hd
theorem runL_ok : ∀ (ss : List StmtD) (d : MemD) (f : Nat), memOk d = true → EndOk f (runL ss d f)
  | [], d, f, hd => by rw [runL]; exact ⟨hd, Nat.le_refl _, .inl rfl⟩
  | s :: ss, d, f, hd => by
    have h := runS_ok s d f hd
    rw [runL]
    split
    · exact h
    · have h2 := runL_ok ss (runS s d f).1 (runS s d f).2.2 h.mem
      exact ⟨h2.mem, Nat.le_trans h2.fuel h.fuel, h2.code⟩
end

/-- StmtsRun: the memory, how it ended, the fuel that is left. -/
def stmtsRun (d : MemD) (ss : List StmtD) (f : Int) : MemD × Int × Int :=
  if memOk d && stmtsOk ss && decide (0 ≤ f) && decide (f ≤ 100) then ((runL ss d f.toNat).1, (runL ss d f.toNat).2.1, ((runL ss d f.toNat).2.2 : Int)) else (⟨[], [], []⟩, 2, 0)

/-- All that is within a list that can be done is right. -/
theorem formT_at {d : Nat} {ss : List StmtD} {j : Nat} {s : StmtD} (h : formT (d + 1) ss = true) (hs : ss[j]? = some s) : fitB s = true ∧ exprOk s.e = true ∧ formT d s.th = true ∧ formT d s.el = true := by
  rw [formT, List.all_eq_true] at h
  have := h s (List.mem_of_getElem? hs)
  simp only [Bool.and_eq_true] at this
  exact ⟨this.1.1.1, this.1.1.2, this.1.2, this.2⟩

theorem stmtsOk_form {ss : List StmtD} (h : stmtsOk ss = true) : formT 4 ss = true := by
  unfold stmtsOk at h
  rw [Bool.and_eq_true] at h
  exact h.2
end Go.Proofs.YtdlcdllmhacaaaaGreatDoor
