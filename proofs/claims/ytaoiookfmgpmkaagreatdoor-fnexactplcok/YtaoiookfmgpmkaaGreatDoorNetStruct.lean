/-
  Inputs, wires and drives held against each other whole.
-/
import Derived.Test.YtaoiookfmgpmkaaGreatDoorNetData
import Derived.Laws.StructEq
namespace Go.Proofs.YtaoiookfmgpmkaaGreatDoor
open Go.ChangeShapes Go.WideShapes Go.ChangeAt Go.RowKit
set_option linter.unusedVariables false
set_option linter.unusedSimpArgs false
set_option maxRecDepth 100000

set_option maxHeartbeats 4000000 in
theorem eq_addrK (k : Nat) (x y x' y' : Int) (w : World) : (Op.equalIn (k + 2) 118 (.agg #[.int .i64 x, .int .i64 y]) (.agg #[.int .i64 x', .int .i64 y'])).run Tryz.prog w = .ok (x == x' && y == y') w := by
  rw [run_equalIn_agg w (k + 1) 118 _ _ (by kernel_rfl) (by kernel_rfl)]
  simp only [Program.fieldsOf, Tryz.underlying118]
  have hi := fun x y : Int => run_equalIn_int (P := Tryz.prog) w k 3 .i64 .i64 x y Tryz.underlying3
  have a3 := Tryz.isAgg3
  have z3 := Tryz.sizeOf3
  simp [Op.eqFields, part, a3, z3, hi]
  cases h0 : (x == x') <;> cases h1 : (y == y') <;> simp_all

theorem eql_addrK (x y x' y' : Int) (w : World) : Sem.run Tryz.prog (binOp .eql 118 (.agg #[.int .i64 x, .int .i64 y]) (.agg #[.int .i64 x', .int .i64 y'])) w = .ok (.bool (x == x' && y == y')) w := by
  have h := eq_addrK 9998 x y x' y' w
  rw [run_eql_struct, h]
  rfl
theorem guard_addrK (op : BinOp) (p q : Operand) (x y x' y' : Int) (w : World) : Sem.run Tryz.prog (eqGuard op 118 p q (.agg #[.int .i64 x, .int .i64 y]) (.agg #[.int .i64 x', .int .i64 y'])) w = .ok () w :=
  run_eqGuard_agg w op 118 p q _ _ (by kernel_rfl)

theorem src_five {x y : SrcD} : decide (x = y) = (x.kind == y.kind && (x.at_ == y.at_ && ((x.ak == y.ak && x.aat == y.aat) && x.no == y.no))) := by
  cases x; cases y
  rw [Bool.eq_iff_iff]
  simp
  intro _ _
  exact ⟨fun ⟨h3, h4, h5⟩ => ⟨⟨h3, h4⟩, h5⟩, fun ⟨⟨h3, h4⟩, h5⟩ => ⟨h3, h4, h5⟩⟩

set_option maxHeartbeats 4000000 in
theorem eq_srcK (k : Nat) (x y : SrcD) (w : World) : (Op.equalIn (k + 3) 169 (.agg (srcC x).toArray) (.agg (srcC y).toArray)).run Tryz.prog w = .ok (decide (x = y)) w := by
  rw [src_five]
  unfold srcC
  rw [run_equalIn_agg w (k + 2) 169 _ _ (by kernel_rfl) (by kernel_rfl)]
  simp only [Program.fieldsOf, Tryz.underlying169]
  have hi := fun x y : Int => run_equalIn_int (P := Tryz.prog) w (k + 1) 3 .i64 .i64 x y Tryz.underlying3
  have hb := fun x y : Bool => run_equalIn_bool' (P := Tryz.prog) w (k + 1) 4 x y Tryz.underlying4
  have ha := fun x y x' y' => eq_addrK k x y x' y' w
  have a3 := Tryz.isAgg3
  have a4 := Tryz.isAgg4
  have a5 := Tryz.isAgg118
  have z3 := Tryz.sizeOf3
  have z4 := Tryz.sizeOf4
  have z5 := Tryz.sizeOf118
  simp [Op.eqFields, part, a3, a4, a5, z3, z4, z5, hi, hb, ha]
  cases h0 : (x.kind == y.kind) <;> cases h1 : (x.at_ == y.at_) <;> cases h2 : (x.ak == y.ak) <;> cases h3 : (x.aat == y.aat) <;> cases h4 : (x.no == y.no) <;> simp_all

theorem eql_src (x y : SrcD) (w : World) : Sem.run Tryz.prog (binOp .eql 169 (.agg (srcC x).toArray) (.agg (srcC y).toArray)) w = .ok (.bool (decide (x = y))) w := by
  have h := eq_srcK 9997 x y w
  rw [run_eql_struct, h]
  rfl
theorem neq_src (x y : SrcD) (w : World) : Sem.run Tryz.prog (binOp .neq 169 (.agg (srcC x).toArray) (.agg (srcC y).toArray)) w = .ok (.bool (!decide (x = y))) w := by
  have h := eq_srcK 9997 x y w
  rw [run_neq_struct, h]
  rfl
theorem guard_src (op : BinOp) (x y : Operand) (a b : SrcD) (w : World) : Sem.run Tryz.prog (eqGuard op 169 x y (.agg (srcC a).toArray) (.agg (srcC b).toArray)) w = .ok () w :=
  run_eqGuard_agg w op 169 x y _ _ (by kernel_rfl)

theorem wire_four {x y : WireD} : decide (x = y) = (x.kind == y.kind && (x.n == y.n && (decide (x.a = y.a) && decide (x.b = y.b)))) := by
  cases x; cases y
  rw [Bool.eq_iff_iff]
  simp

set_option maxHeartbeats 4000000 in
theorem eq_wireK (k : Nat) (x y : WireD) (w : World) : (Op.equalIn (k + 4) 171 (.agg (wireC x).toArray) (.agg (wireC y).toArray)).run Tryz.prog w = .ok (decide (x = y)) w := by
  rw [wire_four]
  unfold wireC
  rw [run_equalIn_agg w (k + 3) 171 _ _ (by kernel_rfl) (by kernel_rfl)]
  simp only [Program.fieldsOf, Tryz.underlying171]
  have hi := fun x y : Int => run_equalIn_int (P := Tryz.prog) w (k + 2) 3 .i64 .i64 x y Tryz.underlying3
  have hs := fun x y => eq_srcK k x y w
  have ha := hs x.a y.a
  have hb := hs x.b y.b
  clear hs
  unfold srcC at ha hb
  have a3 := Tryz.isAgg3
  have a5 := Tryz.isAgg169
  have z3 := Tryz.sizeOf3
  have z5 := Tryz.sizeOf169
  simp [Op.eqFields, part, a3, a5, z3, z5, hi, ha, hb]
  cases h0 : (x.kind == y.kind) <;> cases h1 : (x.n == y.n) <;> cases h2 : decide (x.a = y.a) <;> cases h3 : decide (x.b = y.b) <;> simp_all

theorem neq_wire (x y : WireD) (w : World) : Sem.run Tryz.prog (binOp .neq 171 (.agg (wireC x).toArray) (.agg (wireC y).toArray)) w = .ok (.bool (!decide (x = y))) w := by
  have h := eq_wireK 9996 x y w
  rw [run_neq_struct, h]
  rfl
theorem guard_wire (op : BinOp) (x y : Operand) (a b : WireD) (w : World) : Sem.run Tryz.prog (eqGuard op 171 x y (.agg (wireC a).toArray) (.agg (wireC b).toArray)) w = .ok () w :=
  run_eqGuard_agg w op 171 x y _ _ (by kernel_rfl)

theorem drive_two {x y : DriveD} : decide (x = y) = ((x.tk == y.tk && x.ta == y.ta) && x.wire == y.wire) := by
  cases x; cases y
  rw [Bool.eq_iff_iff]
  simp
  exact and_assoc.symm

set_option maxHeartbeats 4000000 in
theorem eq_driveK (k : Nat) (x y : DriveD) (w : World) : (Op.equalIn (k + 3) 173 (.agg (driveC x).toArray) (.agg (driveC y).toArray)).run Tryz.prog w = .ok (decide (x = y)) w := by
  rw [drive_two]
  unfold driveC
  rw [run_equalIn_agg w (k + 2) 173 _ _ (by kernel_rfl) (by kernel_rfl)]
  simp only [Program.fieldsOf, Tryz.underlying173]
  have hi := fun x y : Int => run_equalIn_int (P := Tryz.prog) w (k + 1) 3 .i64 .i64 x y Tryz.underlying3
  have ha := fun x y x' y' => eq_addrK k x y x' y' w
  have a3 := Tryz.isAgg3
  have a5 := Tryz.isAgg118
  have z3 := Tryz.sizeOf3
  have z5 := Tryz.sizeOf118
  simp [Op.eqFields, part, a3, a5, z3, z5, hi, ha]
  cases h0 : (x.tk == y.tk) <;> cases h1 : (x.ta == y.ta) <;> cases h2 : (x.wire == y.wire) <;> simp_all

theorem neq_drive (x y : DriveD) (w : World) : Sem.run Tryz.prog (binOp .neq 173 (.agg (driveC x).toArray) (.agg (driveC y).toArray)) w = .ok (.bool (!decide (x = y))) w := by
  have h := eq_driveK 9997 x y w
  rw [run_neq_struct, h]
  rfl
theorem guard_drive (op : BinOp) (x y : Operand) (a b : DriveD) (w : World) : Sem.run Tryz.prog (eqGuard op 173 x y (.agg (driveC a).toArray) (.agg (driveC b).toArray)) w = .ok () w :=
  run_eqGuard_agg w op 173 x y _ _ (by kernel_rfl)
end Go.Proofs.YtaoiookfmgpmkaaGreatDoor
