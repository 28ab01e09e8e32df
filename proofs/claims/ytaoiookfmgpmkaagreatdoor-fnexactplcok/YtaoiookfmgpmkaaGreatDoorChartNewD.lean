/-
  A chart's marks at its first step (pure); making a list of bools.
-/
import Derived.Test.YtaoiookfmgpmkaaGreatDoorMarksKit
import Derived.Test.YtaoiookfmgpmkaaGreatDoorChartOkD
import Derived.Deep.OwnRows
namespace Go.Proofs.YtaoiookfmgpmkaaGreatDoor
open Go.ChangeShapes Go.WideShapes Go.ChangeAt Go.RowKit
set_option linter.unusedVariables false

/-- Step 0 alone is on. -/
def onL (n : Nat) : List Bool := (List.range n).map fun i => decide (i = 0)
def chartNew (c : ChartD) : MarksD := if chartOk c then ⟨onL c.steps.toNat, List.replicate 6 false⟩ else ⟨[], []⟩

theorem onL_length (n : Nat) : (onL n).length = n := by simp [onL]
theorem onL_at {n i : Nat} (h : i < n) : (onL n)[i]? = some (decide (i = 0)) := by simp [onL, h]
theorem chartNew_len (c : ChartD) : (chartNew c).on.length ≤ 6 ∧ (chartNew c).kept.length ≤ 6 := by
  unfold chartNew
  split
  · rename_i h
    have := chartOk_small h
    refine ⟨?_, by simp⟩
    show (onL _).length ≤ 6
    rw [onL_length]; omega
  · exact ⟨Nat.zero_le _, Nat.zero_le _⟩
theorem chartNew_no {c : ChartD} (h : chartOk c = false) : chartNew c = ⟨[], []⟩ := by unfold chartNew; rw [h]; rfl
theorem chartNew_yes {c : ChartD} (h : chartOk c = true) : chartNew c = ⟨onL c.steps.toNat, List.replicate 6 false⟩ := by unfold chartNew; rw [h]; rfl
theorem mkO_nil (w : World) (lo hi : Nat) (h : lo ≤ hi) : MkO w lo hi (.agg #[.slice none 0 0, .slice none 0 0]) ⟨[], []⟩ :=
  ⟨_, _, lo, lo, lo, lo, rfl, .inl ⟨rfl, none, 0, rfl, Nat.zero_le _⟩, .inl ⟨rfl, none, 0, rfl, Nat.zero_le _⟩, ⟨Nat.le_refl _, h⟩, ⟨Nat.le_refl _, h⟩, .inl (Nat.le_refl _)⟩

theorem info_bool2 : (Tryz.prog.info? 4).map (fun i => (i.zero, i.size, i.bytes)) = some (some (.bool false), 1, 1) := by kernel_rfl
theorem run_makeB (n : Nat) (hn : n ≤ 1048576) (w : World) : (Instr.makeSlice 44 (.int .i64 (n : Int)) (.int .i64 (n : Int))).run Tryz.prog w = .ok (.slice (some ⟨w.heap.size, 0, none⟩) n n) (w.alloc (.cells (madeCells #[Value.bool false] n) 4)) :=
  run_make_row' 44 4 (.bool false) 1 Tryz.underlying44 info_bool2 rfl .i64 .i64 n (by omega) (by omega) w

/-- What a list of bools that was made holds. -/
theorem made_go (w : World) (n : Nat) (t : TypeId) (hn : n ≤ 1048576) : GO bool2 (w.alloc (.cells (madeCells #[Value.bool false] n) t)) w.heap.size (w.heap.size + 1) (.slice (some ⟨w.heap.size, 0, none⟩) n n) (List.replicate n false) := by
  refine .inr ⟨w.heap.size, 0, n, by rw [List.length_replicate], by rw [List.length_replicate]; exact Nat.le_refl _, by unfold maxLen; omega, Nat.le_refl _, Nat.lt_succ_self _, fun i x hx => ?_, fun o => World.frozen?_alloc_new _ _ _ _⟩
  rw [List.getElem?_replicate] at hx
  split at hx
  · rename_i hi
    cases hx
    intro j v hv
    have hj : j = 0 := by have := (List.getElem?_eq_some_iff.mp hv).1; change j < 1 at this; omega
    subst hj
    cases hv
    rw [Nat.zero_add, Nat.add_zero, show i * bool2.k = i from Nat.mul_one i, cell_of_row _ _ i (madeCells #[Value.bool false] n) t (0, 0) (heap_alloc_last w _)]
    have := congrArg (fun l => l[i]?) (toList_madeCells_one (.bool false) n)
    simp only [Array.getElem?_toList] at this
    rw [this, List.getElem?_replicate, if_pos hi]
  · cases hx
end Go.Proofs.YtaoiookfmgpmkaaGreatDoor
