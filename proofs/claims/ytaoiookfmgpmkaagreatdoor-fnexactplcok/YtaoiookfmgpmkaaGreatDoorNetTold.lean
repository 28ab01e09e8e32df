/-
  Which wires have been told, as a list of yes and no; the order step by step.
-/
import Derived.Test.YtaoiookfmgpmkaaGreatDoorNetData
namespace Go.Proofs.YtaoiookfmgpmkaaGreatDoor
open Go.RowKit
set_option linter.unusedVariables false

/-- Of each wire whether it has been told. -/
def flagsW (n : Nat) (ord : List Nat) : List Bool := (List.range n).map fun i => ord.contains i

theorem flagsW_len (n : Nat) (ord : List Nat) : (flagsW n ord).length = n := by simp [flagsW]
theorem flagsW_at {n : Nat} {ord : List Nat} {i : Nat} (h : i < n) : (flagsW n ord)[i]? = some (ord.contains i) := by simp [flagsW, h]
theorem flagsW_nil (n : Nat) : flagsW n [] = List.replicate n false := by
  apply List.ext_getElem?
  intro i
  by_cases h : i < n
  · rw [flagsW_at h, List.getElem?_replicate, if_pos h]; rfl
  · rw [List.getElem?_eq_none (by rw [flagsW_len]; omega), List.getElem?_replicate, if_neg h]
theorem flagsW_next {n : Nat} {ord : List Nat} {k : Nat} (hk : k < n) : flagsW n (ord ++ [k]) = (flagsW n ord).set k true := by
  apply List.ext_getElem?
  intro i
  by_cases h : i < n
  · rw [flagsW_at h]
    by_cases e : k = i
    · subst e
      rw [List.getElem?_set_self (by rw [flagsW_len]; omega)]
      simp
    · rw [List.getElem?_set_ne e, flagsW_at h]
      simp
      omega
  · rw [List.getElem?_eq_none (by rw [flagsW_len]; omega), List.getElem?_eq_none (by rw [List.length_set, flagsW_len]; omega)]

/-- The input waits, as flags tell. -/
def waitsF (s : SrcD) (bs : List Bool) : Bool := s.kind == 2 && !((bs[s.at_.toNat]?).getD false)

theorem waitsF_eq {s : SrcD} {n : Nat} {ord : List Nat} (h : s.kind = 2 → 0 ≤ s.at_ ∧ s.at_ < n) : waitsF s (flagsW n ord) = waitsS s ord := by
  unfold waitsF waitsS
  by_cases k : s.kind = 2
  · have := h k
    rw [flagsW_at (by omega)]
    rfl
  · have e : (s.kind == 2) = false := by simpa using k
    rw [e, Bool.false_and, Bool.false_and]

/-- One more told, if one can be. -/
def oneW (ws : List WireD) (ord : List Nat) : List Nat := match pickW ws ord with | none => ord | some i => ord ++ [i]

theorem tellW_none {ws : List WireD} {ord : List Nat} (h : pickW ws ord = none) : ∀ k, tellW ws k ord = ord
  | 0 => rfl
  | k + 1 => by rw [tellW, h]

theorem tellW_succ (ws : List WireD) : ∀ (k : Nat) (ord : List Nat), tellW ws (k + 1) ord = oneW ws (tellW ws k ord)
  | 0, ord => by
    rw [tellW]
    unfold oneW
    rw [tellW]
    cases pickW ws ord <;> rfl
  | k + 1, ord => by
    rw [tellW]
    cases h : pickW ws ord with
    | none => rw [tellW_none h]; unfold oneW; rw [h]
    | some i =>
      show tellW ws (k + 1) (ord ++ [i]) = _
      rw [tellW_succ ws k (ord ++ [i])]
      have e : tellW ws (k + 1) ord = tellW ws k (ord ++ [i]) := by rw [tellW, h]
      rw [e]

/-- The first that can be told, of those ahead. -/
def firstW (ws : List WireD) (ord : List Nat) (i : Nat) : Option Nat := (List.range i).find? (canW ws ord)

theorem firstW_zero (ws : List WireD) (ord : List Nat) : firstW ws ord 0 = none := rfl
theorem firstW_all (ws : List WireD) (ord : List Nat) : firstW ws ord ws.length = pickW ws ord := rfl
theorem firstW_succ {ws : List WireD} {ord : List Nat} {i : Nat} (h : firstW ws ord i = none) : firstW ws ord (i + 1) = if canW ws ord i then some i else none := by
  unfold firstW at *
  rw [List.range_succ, List.find?_append, h]
  simp only [List.find?_cons, List.find?_nil, Option.none_or]
  cases canW ws ord i <;> rfl
theorem firstW_some {ws : List WireD} {ord : List Nat} {i k : Nat} (h : firstW ws ord i = some k) : ∀ m, i ≤ m → firstW ws ord m = some k := by
  intro m hm
  induction m with
  | zero => obtain rfl : i = 0 := by omega
            exact h
  | succ m ih =>
    by_cases e : i = m + 1
    · rw [← e]; exact h
    · unfold firstW at *
      rw [List.range_succ, List.find?_append, ih (by omega)]
      rfl
/-- What it is as a number. -/
def atW (o : Option Nat) : Int := match o with | some k => k | none => -1

theorem canW_at {ws : List WireD} {ord : List Nat} {i : Nat} {x : WireD} (hx : ws[i]? = some x) (hok : (x.a.kind = 2 → 0 ≤ x.a.at_ ∧ x.a.at_ < ws.length) ∧ (x.b.kind = 2 → 0 ≤ x.b.at_ ∧ x.b.at_ < ws.length)) : canW ws ord i = (!ord.contains i && !(waitsF x.a (flagsW ws.length ord) || waitsF x.b (flagsW ws.length ord))) := by
  unfold canW
  rw [hx, waitsF_eq hok.1, waitsF_eq hok.2]
  rfl
end Go.Proofs.YtaoiookfmgpmkaaGreatDoor
