/-
  netOk, part by part.
-/
import Derived.Test.YtaoiookfmgpmkaaGreatDoorNetTold
namespace Go.Proofs.YtaoiookfmgpmkaaGreatDoor
open Go.RowKit
set_option linter.unusedVariables false

theorem netOk_big {n : NetD} (h : 8 < n.ws.length) : netOk n = false := by unfold netOk; rw [decide_eq_false (by omega), Bool.false_and]
theorem netOk_big2 {n : NetD} (h : 4 < n.ds.length) : netOk n = false := by unfold netOk; rw [decide_eq_false (show ¬ n.ds.length ≤ 4 by omega), Bool.false_and, Bool.and_false]
theorem netOk_wire {n : NetD} {i : Nat} {x : WireD} (hx : n.ws[i]? = some x) (h : wireOk x n.ws.length = false) : netOk n = false := by
  have : n.ws.all (fun w => wireOk w n.ws.length) = false := by
    cases e : n.ws.all (fun w => wireOk w n.ws.length) with
    | false => rfl
    | true =>
      have := List.all_eq_true.mp e x (List.mem_of_getElem? hx)
      rw [h] at this; cases this
  unfold netOk; rw [this, Bool.false_and, Bool.and_false, Bool.and_false]
theorem drivesOk_false {ds : List DriveD} {n i : Nat} {d : DriveD} (hd : ds[i]? = some d) (h : (driveOk d n && freshD (ds.take i) d) = false) : drivesOk ds n = false := by
  unfold drivesOk
  cases e : (List.range ds.length).all _ with
  | false => rfl
  | true =>
    have := List.all_eq_true.mp e i (List.mem_range.mpr (List.getElem?_eq_some_iff.mp hd).1)
    rw [hd] at this
    simp only at this
    rw [h] at this; cases this
theorem netOk_drives {n : NetD} (h : drivesOk n.ds n.ws.length = false) : netOk n = false := by unfold netOk; rw [h, Bool.false_and, Bool.and_false, Bool.and_false, Bool.and_false]
theorem netOk_drive {n : NetD} {i : Nat} {d : DriveD} (hd : n.ds[i]? = some d) (h : driveOk d n.ws.length = false) : netOk n = false := netOk_drives (drivesOk_false hd (by rw [h, Bool.false_and]))
theorem netOk_twice {n : NetD} {i k : Nat} {d e : DriveD} (hd : n.ds[i]? = some d) (he : n.ds[k]? = some e) (hk : k < i) (h : (e.tk == d.tk && e.ta == d.ta) = true) : netOk n = false := by
  refine netOk_drives (drivesOk_false hd ?_)
  have : freshD (n.ds.take i) d = false := by
    unfold freshD
    cases e' : (n.ds.take i).all _ with
    | false => rfl
    | true =>
      have hm : e ∈ n.ds.take i := List.mem_of_getElem? (i := k) (by rw [List.getElem?_take, if_pos hk]; exact he)
      have := List.all_eq_true.mp e' e hm
      simp only [h] at this; cases this
  rw [this, Bool.and_false]
theorem freshD_of {ds : List DriveD} {d : DriveD} {i : Nat} (h : ∀ (k : Nat) (e : DriveD), k < i → ds[k]? = some e → (e.tk == d.tk && e.ta == d.ta) = false) : freshD (ds.take i) d = true := by
  unfold freshD
  refine List.all_eq_true.mpr fun e he => ?_
  obtain ⟨k, hk⟩ := List.mem_iff_getElem?.mp he
  rw [List.getElem?_take] at hk
  split at hk
  · rename_i hlt
    rw [h k e hlt hk]; rfl
  · cases hk
theorem drivesOk_of {ds : List DriveD} {n : Nat} (h : ∀ (i : Nat) (d : DriveD), ds[i]? = some d → driveOk d n = true ∧ freshD (ds.take i) d = true) : drivesOk ds n = true := by
  unfold drivesOk
  refine List.all_eq_true.mpr fun i hi => ?_
  obtain ⟨d, hd⟩ : ∃ d, ds[i]? = some d := ⟨ds[i]'(by simpa using hi), List.getElem?_eq_getElem _⟩
  rw [hd]
  simp only
  rw [(h i d hd).1, (h i d hd).2]
  rfl
theorem netOk_end {n : NetD} (h1 : n.ws.length ≤ 8) (h2 : n.ds.length ≤ 4) (h3 : ∀ (i : Nat) (x : WireD), n.ws[i]? = some x → wireOk x n.ws.length = true) (h4 : drivesOk n.ds n.ws.length = true) : netOk n = ((orderW n.ws).length == n.ws.length) := by
  have h3' : n.ws.all (fun w => wireOk w n.ws.length) = true := List.all_eq_true.mpr fun x hx => by
    obtain ⟨i, hi⟩ := List.mem_iff_getElem?.mp hx
    exact h3 i x hi
  unfold netOk
  rw [decide_eq_true h1, decide_eq_true h2, h3', h4]
  simp only [Bool.true_and]
  rfl
/-- What holds of the first wires. -/
def WiresTo (ws : List WireD) (n j : Nat) : Prop := ∀ (i : Nat) (y : WireD), i < j → ws[i]? = some y → wireOk y n = true
theorem wires_next {ws : List WireD} {n j : Nat} {x : WireD} (h : WiresTo ws n j) (hx : ws[j]? = some x) (hok : wireOk x n = true) : WiresTo ws n (j + 1) := by
  intro i y hi hy
  by_cases e : i = j
  · subst e; rw [hx] at hy; cases hy; exact hok
  · exact h i y (by omega) hy
/-- What holds of the first drives. -/
def DrivesTo (ds : List DriveD) (n j : Nat) : Prop := ∀ (i : Nat) (d : DriveD), i < j → ds[i]? = some d → driveOk d n = true ∧ freshD (ds.take i) d = true
theorem drives_next {ds : List DriveD} {n j : Nat} {x : DriveD} (h : DrivesTo ds n j) (hx : ds[j]? = some x) (hok : driveOk x n = true) (hf : freshD (ds.take j) x = true) : DrivesTo ds n (j + 1) := by
  intro i y hi hy
  by_cases e : i = j
  · subst e; rw [hx] at hy; cases hy; exact ⟨hok, hf⟩
  · exact h i y (by omega) hy
def FreshTo (ds : List DriveD) (d : DriveD) (j : Nat) : Prop := ∀ (k : Nat) (e : DriveD), k < j → ds[k]? = some e → (e.tk == d.tk && e.ta == d.ta) = false
theorem fresh_next {ds : List DriveD} {d x : DriveD} {j : Nat} (h : FreshTo ds d j) (hx : ds[j]? = some x) (hc : (x.tk == d.tk && x.ta == d.ta) = false) : FreshTo ds d (j + 1) := by
  intro i y hi hy
  by_cases e : i = j
  · subst e; rw [hx] at hy; cases hy; exact hc
  · exact h i y (by omega) hy
end Go.Proofs.YtaoiookfmgpmkaaGreatDoor
