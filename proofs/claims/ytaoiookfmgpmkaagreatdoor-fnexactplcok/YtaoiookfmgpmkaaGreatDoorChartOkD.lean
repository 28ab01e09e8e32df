/-
  Which charts are ok (pure).
-/
import Derived.Test.YtaoiookfmgpmkaaGreatDoorChartData
import Derived.Test.YtaoiookfmgpmkaaGreatDoorExprPre
namespace Go.Proofs.YtaoiookfmgpmkaaGreatDoor
open Go.ChangeShapes Go.WideShapes Go.ChangeAt Go.RowKit
set_option linter.unusedVariables false

/-- The place at i is a step, and above the one ahead of it. -/
def placeAt (xs : List Int) (n : Int) (i : Nat) : Bool := decide (0 ≤ xs.getD i 0) && (decide (xs.getD i 0 < n) && (decide (i = 0) || decide (xs.getD (i - 1) 0 < xs.getD i 0)))
def placesOk (xs : List Int) (n : Int) : Bool := (List.range xs.length).all (placeAt xs n) && decide (0 < xs.length)

theorem placesOk_no {xs : List Int} {n : Int} {j : Nat} (hj : j < xs.length) (h : placeAt xs n j = false) : placesOk xs n = false := by
  unfold placesOk
  have : (List.range xs.length).all (placeAt xs n) = false := by
    rw [List.all_eq_false]
    exact ⟨j, List.mem_range.mpr hj, by simp [h]⟩
  rw [this]; rfl
theorem placesOk_yes {xs : List Int} {n : Int} (h : ∀ i, i < xs.length → placeAt xs n i = true) : placesOk xs n = decide (0 < xs.length) := by
  unfold placesOk
  have : (List.range xs.length).all (placeAt xs n) = true := by
    rw [List.all_eq_true]
    exact fun i hi => h i (List.mem_range.mp hi)
  rw [this]; rfl
theorem placeAt_val {xs : List Int} {n x : Int} {i : Nat} (hx : xs[i]? = some x) : placeAt xs n i = (decide (0 ≤ x) && (decide (x < n) && (decide (i = 0) || decide (xs.getD (i - 1) 0 < x)))) := by
  unfold placeAt
  rw [List.getD_eq_getElem?_getD, hx]; rfl
theorem placeAt_low {xs : List Int} {n x : Int} {i : Nat} (hx : xs[i]? = some x) (h : x < 0) : placeAt xs n i = false := by
  rw [placeAt_val hx, decide_eq_false (by omega)]; rfl
theorem placeAt_high {xs : List Int} {n x : Int} {i : Nat} (hx : xs[i]? = some x) (h : n ≤ x) : placeAt xs n i = false := by
  rw [placeAt_val hx, decide_eq_false (p := x < n) (by omega)]; simp
theorem placeAt_first {xs : List Int} {n x : Int} (hx : xs[0]? = some x) (h : 0 ≤ x) (h' : x < n) : placeAt xs n 0 = true := by
  rw [placeAt_val hx]; simp [h, h']
theorem placeAt_next {xs : List Int} {n x p : Int} {i : Nat} (hx : xs[i + 1]? = some x) (hp : xs[i]? = some p) (h : 0 ≤ x) (h' : x < n) : placeAt xs n (i + 1) = decide (p < x) := by
  rw [placeAt_val hx, Nat.add_sub_cancel, List.getD_eq_getElem?_getD, hp]; simp [h, h']

/-- What placesOk says, on lists. -/
theorem placesOk_lt {xs : List Int} {n : Int} (h : placesOk xs n = true) : ∀ x ∈ xs, 0 ≤ x ∧ x < n := by
  intro x hx
  obtain ⟨i, hi⟩ := List.mem_iff_getElem?.mp hx
  unfold placesOk at h
  simp only [Bool.and_eq_true, List.all_eq_true] at h
  have := h.1 i (List.mem_range.mpr (List.getElem?_eq_some_iff.mp hi).1)
  rw [placeAt_val hi] at this
  simp only [Bool.and_eq_true, decide_eq_true_eq] at this
  exact ⟨this.1, this.2.1⟩

def wayOkB (n : Int) (t : TransD) : Bool := placesOk t.fr n && (placesOk t.to n && exprOk t.e)
def actOkB (n : Int) (a : ActD) : Bool := decide (1 ≤ a.kind) && (decide (a.kind ≤ 4) && (decide (0 ≤ a.step) && (decide (a.step < n) && (addrOk ⟨a.tk, a.ta⟩ && a.tk == 2))))
def chartHead (c : ChartD) : Bool := decide (1 ≤ c.steps) && (decide (c.steps ≤ 6) && (decide (c.ts.length ≤ 6) && decide (c.acts.length ≤ 6)))
def chartOk (c : ChartD) : Bool := chartHead c && (c.ts.all (wayOkB c.steps) && c.acts.all (actOkB c.steps))

theorem chartOk_head {c : ChartD} (h : chartHead c = false) : chartOk c = false := by unfold chartOk; rw [h]; rfl
theorem chartOk_way {c : ChartD} {i : Nat} {t : TransD} (ht : c.ts[i]? = some t) (h : wayOkB c.steps t = false) : chartOk c = false := by
  unfold chartOk
  have : c.ts.all (wayOkB c.steps) = false := by rw [List.all_eq_false]; exact ⟨t, List.mem_of_getElem? ht, by simp [h]⟩
  rw [this]; simp
theorem chartOk_act {c : ChartD} {i : Nat} {a : ActD} (ha : c.acts[i]? = some a) (h : actOkB c.steps a = false) : chartOk c = false := by
  unfold chartOk
  have : c.acts.all (actOkB c.steps) = false := by rw [List.all_eq_false]; exact ⟨a, List.mem_of_getElem? ha, by simp [h]⟩
  rw [this]; simp
theorem chartOk_yes {c : ChartD} (h : chartHead c = true) (ht : ∀ (i : Nat) (t : TransD), i < c.ts.length → c.ts[i]? = some t → wayOkB c.steps t = true) (ha : ∀ (i : Nat) (a : ActD), i < c.acts.length → c.acts[i]? = some a → actOkB c.steps a = true) : chartOk c = true := by
  unfold chartOk
  simp only [h, Bool.true_and, Bool.and_eq_true, List.all_eq_true]
  constructor
  · intro t hm
    obtain ⟨i, hi⟩ := List.mem_iff_getElem?.mp hm
    exact ht i t (List.getElem?_eq_some_iff.mp hi).1 hi
  · intro a hm
    obtain ⟨i, hi⟩ := List.mem_iff_getElem?.mp hm
    exact ha i a (List.getElem?_eq_some_iff.mp hi).1 hi
/-- What is ok as far as the places i. -/
def WaysTo (c : ChartD) (j : Nat) : Prop := ∀ (i : Nat) (t : TransD), i < j → c.ts[i]? = some t → wayOkB c.steps t = true
def ActsTo (c : ChartD) (j : Nat) : Prop := ∀ (i : Nat) (a : ActD), i < j → c.acts[i]? = some a → actOkB c.steps a = true
theorem WaysTo.next {c : ChartD} {j : Nat} {t : TransD} (h : WaysTo c j) (ht : c.ts[j]? = some t) (hk : wayOkB c.steps t = true) : WaysTo c (j + 1) := by
  intro i t' hi hi'
  by_cases e : i = j
  · subst e; rw [ht] at hi'; cases hi'; exact hk
  · exact h i t' (by omega) hi'
theorem ActsTo.next {c : ChartD} {j : Nat} {a : ActD} (h : ActsTo c j) (ht : c.acts[j]? = some a) (hk : actOkB c.steps a = true) : ActsTo c (j + 1) := by
  intro i t' hi hi'
  by_cases e : i = j
  · subst e; rw [ht] at hi'; cases hi'; exact hk
  · exact h i t' (by omega) hi'
theorem chartOk_ways {c : ChartD} (h : chartOk c = true) : ∀ t ∈ c.ts, wayOkB c.steps t = true := by
  unfold chartOk at h
  simp only [Bool.and_eq_true, List.all_eq_true] at h
  exact h.2.1
theorem chartOk_acts {c : ChartD} (h : chartOk c = true) : ∀ a ∈ c.acts, actOkB c.steps a = true := by
  unfold chartOk at h
  simp only [Bool.and_eq_true, List.all_eq_true] at h
  exact h.2.2
theorem chartOk_small {c : ChartD} (h : chartOk c = true) : 1 ≤ c.steps ∧ c.steps ≤ 6 ∧ c.ts.length ≤ 6 ∧ c.acts.length ≤ 6 := by
  unfold chartOk chartHead at h
  simp only [Bool.and_eq_true, decide_eq_true_eq] at h
  exact h.1
end Go.Proofs.YtaoiookfmgpmkaaGreatDoor
