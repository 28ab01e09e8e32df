/-
  The ways of a chart that lead on now (pure).
-/
import Derived.Test.YtaoiookfmgpmkaaGreatDoorMarksKit
import Derived.Test.YtaoiookfmgpmkaaGreatDoorChartOkD
import Derived.Test.YtaoiookfmgpmkaaGreatDoorExprOf2
namespace Go.Proofs.YtaoiookfmgpmkaaGreatDoor
open Go.ChangeShapes Go.WideShapes Go.ChangeAt Go.RowKit
set_option linter.unusedVariables false
set_option linter.unusedSimpArgs false

/-- All of these steps are on. -/
def allOn (free : List Bool) (fr : List Int) : Bool := fr.all fun x => (free[x.toNat]?).getD false
/-- These steps are left. -/
def leave (free : List Bool) (fr : List Int) : List Bool := fr.foldl (fun f x => f.set x.toNat false) free
theorem leave_length (free : List Bool) (fr : List Int) : (leave free fr).length = free.length := by
  induction fr generalizing free with
  | nil => rfl
  | cons x fr ih => show (leave (free.set x.toNat false) fr).length = _; rw [ih, List.length_set]
theorem leave_take {free : List Bool} {fr : List Int} {j : Nat} {x : Int} (h : fr[j]? = some x) : leave free (fr.take (j + 1)) = (leave free (fr.take j)).set x.toNat false := by
  unfold leave
  rw [List.take_add_one, h, List.foldl_append]
  rfl
theorem allOn_take {free : List Bool} {fr : List Int} {j : Nat} {x : Int} (h : fr[j]? = some x) (ha : allOn free (fr.take j) = true) : allOn free (fr.take (j + 1)) = (free[x.toNat]?).getD false := by
  unfold allOn at *
  rw [List.take_add_one, h, List.all_append, ha]
  simp
theorem allOn_no {free : List Bool} {fr : List Int} {j : Nat} {x : Int} (h : fr[j]? = some x) (ha : (free[x.toNat]?).getD false = false) : allOn free fr = false := by
  unfold allOn
  rw [List.all_eq_false]
  exact ⟨x, List.mem_of_getElem? h, by rw [ha]; simp⟩

/-- A way leads on. -/
def canGo (m : MemD) (free : List Bool) (t : TransD) : Bool := allOn free t.fr && (evalD 6 m t.e != 0)
/-- Of the first ways: which lead on, and which steps are not left then. -/
def firesTo (m : MemD) (ts : List TransD) (on : List Bool) : Nat → List Int × List Bool
  | 0 => ([], on)
  | j + 1 => match ts[j]? with
    | some t => if canGo m (firesTo m ts on j).2 t then ((firesTo m ts on j).1 ++ [(j : Int)], leave (firesTo m ts on j).2 t.fr) else firesTo m ts on j
    | none => firesTo m ts on j
theorem firesTo_yes {m : MemD} {ts : List TransD} {on : List Bool} {j : Nat} {t : TransD} (h : ts[j]? = some t) (hc : canGo m (firesTo m ts on j).2 t = true) : firesTo m ts on (j + 1) = ((firesTo m ts on j).1 ++ [(j : Int)], leave (firesTo m ts on j).2 t.fr) := by
  rw [firesTo, h]; simp only [hc, if_true]
theorem firesTo_no {m : MemD} {ts : List TransD} {on : List Bool} {j : Nat} {t : TransD} (h : ts[j]? = some t) (hc : canGo m (firesTo m ts on j).2 t = false) : firesTo m ts on (j + 1) = firesTo m ts on j := by
  rw [firesTo, h]; simp [hc]
theorem firesTo_len (m : MemD) (ts : List TransD) (on : List Bool) (j : Nat) : (firesTo m ts on j).1.length ≤ j ∧ (firesTo m ts on j).2.length = on.length := by
  induction j with
  | zero => exact ⟨Nat.le_refl _, rfl⟩
  | succ j ih =>
    rw [firesTo]
    split
    · rename_i t h
      split
      · exact ⟨by rw [List.length_append]; show _ + 1 ≤ _; omega, by rw [leave_length]; exact ih.2⟩
      · exact ⟨by omega, ih.2⟩
    · exact ⟨by omega, ih.2⟩

/-- Marks are ones of a chart. -/
def marksOk (c : ChartD) (k : MarksD) : Bool := decide ((k.on.length : Int) = c.steps) && decide (k.kept.length = 6)
def stepOk (c : ChartD) (k : MarksD) (m : MemD) : Bool := chartOk c && (marksOk c k && memOk m)
def chartFires (c : ChartD) (k : MarksD) (m : MemD) : List Int := if stepOk c k m then (firesTo m c.ts k.on c.ts.length).1 else []
theorem stepOk_parts {c : ChartD} {k : MarksD} {m : MemD} (h : stepOk c k m = true) : chartOk c = true ∧ (k.on.length : Int) = c.steps ∧ k.kept.length = 6 ∧ memOk m = true := by
  unfold stepOk marksOk at h
  simp only [Bool.and_eq_true, decide_eq_true_eq] at h
  exact ⟨h.1, h.2.1.1, h.2.1.2, h.2.2⟩
theorem chartFires_len (c : ChartD) (k : MarksD) (m : MemD) : (chartFires c k m).length ≤ 6 := by
  unfold chartFires
  split
  · rename_i h
    have h1 := chartOk_small (stepOk_parts h).1
    have h2 := (firesTo_len m c.ts k.on c.ts.length).1
    omega
  · exact Nat.zero_le _
end Go.Proofs.YtaoiookfmgpmkaaGreatDoor
