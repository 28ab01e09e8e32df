/-
  States and marks held against each other, by the model (l7Same, l8Bools) and by the program (sameState, sameMarks). (Written by our generator gen_statesame.py.)
-/
import Derived.Test.YtaoiookfmgpmkaaGreatDoorStateKit
import Derived.Test.YtaoiookfmgpmkaaGreatDoorMarksKit
import Derived.Test.YtaoiookfmgpmkaaGreatDoorDag
import Derived.Laws.StructEq
namespace Go.Proofs.YtaoiookfmgpmkaaGreatDoor
open Go.ChangeShapes Go.WideShapes Go.ChangeAt Go.RowKit
set_option linter.unusedVariables false
set_option linter.unusedSimpArgs false
set_option maxRecDepth 100000

def boolC1 (x : Bool) : List Value := [.bool x]

theorem blockD_five {x y : BlockD} : decide (x = y) = (x.kind == y.kind && (x.n == y.n && (x.on == y.on && (x.was == y.was && x.t == y.t)))) := by
  cases x; cases y
  rw [Bool.eq_iff_iff]
  simp

set_option maxHeartbeats 4000000 in
theorem eq_blockK (k : Nat) (x y : BlockD) (w : World) : (Op.equalIn (k + 2) 165 (.agg (blockC x).toArray) (.agg (blockC y).toArray)).run Tryz.prog w = .ok (decide (x = y)) w := by
  rw [blockD_five]
  unfold blockC
  rw [run_equalIn_agg w (k + 1) 165 _ _ (by kernel_rfl) (by kernel_rfl)]
  simp only [Program.fieldsOf, Tryz.underlying165]
  have hi := fun x y : Int => run_equalIn_int (P := Tryz.prog) w k 3 .i64 .i64 x y Tryz.underlying3
  have hb := fun x y : Bool => run_equalIn_bool' (P := Tryz.prog) w k 4 x y Tryz.underlying4
  have a3 := Tryz.isAgg3
  have a4 := Tryz.isAgg4
  have z3 := Tryz.sizeOf3
  have z4 := Tryz.sizeOf4
  simp [Op.eqFields, part, a3, a4, z3, z4, hi, hb]
  cases h0 : (x.kind == y.kind) <;> cases h1 : (x.n == y.n) <;> cases h2 : (x.on == y.on) <;> cases h3 : (x.was == y.was) <;> cases h4 : (x.t == y.t) <;> simp_all

theorem neq_blockC (x y : BlockD) (w : World) : Sem.run Tryz.prog (binOp .neq 165 (.agg (blockC x).toArray) (.agg (blockC y).toArray)) w = .ok (.bool (!decide (x = y))) w := by
  have h := eq_blockK 9998 x y w
  rw [run_neq_struct, h]
  rfl
theorem guard_blockC (op : BinOp) (x y : Operand) (a b : BlockD) (w : World) : Sem.run Tryz.prog (eqGuard op 165 x y (.agg (blockC a).toArray) (.agg (blockC b).toArray)) w = .ok () w :=
  run_eqGuard_agg w op 165 x y _ _ (by kernel_rfl)





theorem stateD_two {n m : StateD} : decide (n = m) = (decide (n.bs = m.bs) && decide (n.ls = m.ls)) := by
  cases n; cases m
  rw [Bool.eq_iff_iff]
  simp


theorem marksD_two {n m : MarksD} : decide (n = m) = (decide (n.on = m.on) && decide (n.kept = m.kept)) := by
  cases n; cases m
  rw [Bool.eq_iff_iff]
  simp



end Go.Proofs.YtaoiookfmgpmkaaGreatDoor
