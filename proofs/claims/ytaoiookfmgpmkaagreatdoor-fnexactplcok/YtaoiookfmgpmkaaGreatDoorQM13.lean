import Derived.Test.YtaoiookfmgpmkaaGreatDoorQM3
import Derived.Test.YtaoiookfmgpmkaaGreatDoorQM2
import Derived.Laws.StructEq
import Derived.Test.YtaoiookfmgpmkaaGreatDoorQM1

/-
 States and marks held against each other, by the model (l7Same, l8Bools) and by the program (sameState, sameMarks). (Written by our generator gen_statesame.py.)
-/
namespace Go.Proofs.YtaoiookfmgpmkaaGreatDoor
open Go.ChangeShapes Go.WideShapes Go.ChangeAt Go.RowKit
set_option linter.unusedVariables false
set_option linter.unusedSimpArgs false
set_option maxRecDepth 100000

theorem blockD_five {x y : BlockD} : decide (x = y) = (x.kind == y.kind && (x.n == y.n && (x.on == y.on && (x.was == y.was && x.t == y.t)))) := by
 cases x; cases y
 rw [Bool.eq_iff_iff]
 simp

set_option maxHeartbeats 4000000 in
theorem eq_blockK (k : Nat) (x y : BlockD) (w : World) : (Op.equalIn (k + 2) 165 (.agg (blockC x).toArray) (.agg (blockC y).toArray)).run Tryz.prog w = .ok (decide (x = y)) w := by
 rw [blockD_five]
 unfold blockC
 rw [run_equalIn_agg w (k + 1) 165 _ _ (by kernel_rfl) (by kernel_rfl)]
 simp only [Program.fieldsOf, Tryz.underlying165]
 have hi := fun x y : Int => run_equalIn_int (P := Tryz.prog) w k 3 .i64 .i64 x y Tryz.underlying3
 have hb := fun x y : Bool => run_equalIn_bool' (P := Tryz.prog) w k 4 x y Tryz.underlying4
 have a3 := Tryz.isAgg3
 have a4 := Tryz.isAgg4
 have z3 := Tryz.sizeOf3
 have z4 := Tryz.sizeOf4
 simp [Op.eqFields, part, a3, a4, z3, z4, hi, hb]
 cases h0 : (x.kind == y.kind) <;> cases h1 : (x.n == y.n) <;> cases h2 : (x.on == y.on) <;> cases h3 : (x.was == y.was) <;> cases h4 : (x.t == y.t) <;> simp_all

theorem neq_blockC (x y : BlockD) (w : World) : Sem.run Tryz.prog (binOp .neq 165 (.agg (blockC x).toArray) (.agg (blockC y).toArray)) w = .ok (.bool (!decide (x = y))) w := by
 have h := eq_blockK 9998 x y w
 rw [run_neq_struct, h]
 rfl
theorem guard_blockC (op : BinOp) (x y : Operand) (a b : BlockD) (w : World) : Sem.run Tryz.prog (eqGuard op 165 x y (.agg (blockC a).toArray) (.agg (blockC b).toArray)) w = .ok () w :=
 run_eqGuard_agg w op 165 x y _ _ (by kernel_rfl)

end Go.Proofs.YtaoiookfmgpmkaaGreatDoor

/-
 Inputs, wires and drives held against each other whole.
-/
namespace Go.Proofs.YtaoiookfmgpmkaaGreatDoor
open Go.ChangeShapes Go.WideShapes Go.ChangeAt Go.RowKit
set_option linter.unusedVariables false
set_option linter.unusedSimpArgs false
set_option maxRecDepth 100000

set_option maxHeartbeats 4000000 in
theorem eq_addrK (k : Nat) (x y x' y' : Int) (w : World) : (Op.equalIn (k + 2) 118 (.agg #[.int .i64 x, .int .i64 y]) (.agg #[.int .i64 x', .int .i64 y'])).run Tryz.prog w = .ok (x == x' && y == y') w := by
 rw [run_equalIn_agg w (k + 1) 118 _ _ (by kernel_rfl) (by kernel_rfl)]
 simp only [Program.fieldsOf, Tryz.underlying118]
 have hi := fun x y : Int => run_equalIn_int (P := Tryz.prog) w k 3 .i64 .i64 x y Tryz.underlying3
 have a3 := Tryz.isAgg3
 have z3 := Tryz.sizeOf3
 simp [Op.eqFields, part, a3, z3, hi]
 cases h0 : (x == x') <;> cases h1 : (y == y') <;> simp_all

theorem eql_addrK (x y x' y' : Int) (w : World) : Sem.run Tryz.prog (binOp .eql 118 (.agg #[.int .i64 x, .int .i64 y]) (.agg #[.int .i64 x', .int .i64 y'])) w = .ok (.bool (x == x' && y == y')) w := by
 have h := eq_addrK 9998 x y x' y' w
 rw [run_eql_struct, h]
 rfl
theorem guard_addrK (op : BinOp) (p q : Operand) (x y x' y' : Int) (w : World) : Sem.run Tryz.prog (eqGuard op 118 p q (.agg #[.int .i64 x, .int .i64 y]) (.agg #[.int .i64 x', .int .i64 y'])) w = .ok () w :=
 run_eqGuard_agg w op 118 p q _ _ (by kernel_rfl)

theorem src_five {x y : SrcD} : decide (x = y) = (x.kind == y.kind && (x.at_ == y.at_ && ((x.ak == y.ak && x.aat == y.aat) && x.no == y.no))) := by
 cases x; cases y
 rw [Bool.eq_iff_iff]
 simp
 intro _ _
 exact ⟨fun ⟨h3, h4, h5⟩ => ⟨⟨h3, h4⟩, h5⟩, fun ⟨⟨h3, h4⟩, h5⟩ => ⟨h3, h4, h5⟩⟩

set_option maxHeartbeats 4000000 in
theorem eq_srcK (k : Nat) (x y : SrcD) (w : World) : (Op.equalIn (k + 3) 169 (.agg (srcC x).toArray) (.agg (srcC y).toArray)).run Tryz.prog w = .ok (decide (x = y)) w := by
 rw [src_five]
 unfold srcC
 rw [run_equalIn_agg w (k + 2) 169 _ _ (by kernel_rfl) (by kernel_rfl)]
 simp only [Program.fieldsOf, Tryz.underlying169]
 have hi := fun x y : Int => run_equalIn_int (P := Tryz.prog) w (k + 1) 3 .i64 .i64 x y Tryz.underlying3
 have hb := fun x y : Bool => run_equalIn_bool' (P := Tryz.prog) w (k + 1) 4 x y Tryz.underlying4
 have ha := fun x y x' y' => eq_addrK k x y x' y' w
 have a3 := Tryz.isAgg3
 have a4 := Tryz.isAgg4
 have a5 := Tryz.isAgg118
 have z3 := Tryz.sizeOf3
 have z4 := Tryz.sizeOf4
 have z5 := Tryz.sizeOf118
 simp [Op.eqFields, part, a3, a4, a5, z3, z4, z5, hi, hb, ha]
 cases h0 : (x.kind == y.kind) <;> cases h1 : (x.at_ == y.at_) <;> cases h2 : (x.ak == y.ak) <;> cases h3 : (x.aat == y.aat) <;> cases h4 : (x.no == y.no) <;> simp_all

theorem eql_src (x y : SrcD) (w : World) : Sem.run Tryz.prog (binOp .eql 169 (.agg (srcC x).toArray) (.agg (srcC y).toArray)) w = .ok (.bool (decide (x = y))) w := by
 have h := eq_srcK 9997 x y w
 rw [run_eql_struct, h]
 rfl
theorem guard_src (op : BinOp) (x y : Operand) (a b : SrcD) (w : World) : Sem.run Tryz.prog (eqGuard op 169 x y (.agg (srcC a).toArray) (.agg (srcC b).toArray)) w = .ok () w :=
 run_eqGuard_agg w op 169 x y _ _ (by kernel_rfl)

end Go.Proofs.YtaoiookfmgpmkaaGreatDoor

/-
 What chapter 7's model (package spec) answers of inputs and wires: l7Src, l7Gate, l7Two, l7Wire, l7Waits.
-/
namespace Go.Proofs.YtaoiookfmgpmkaaGreatDoor
open Go.ChangeShapes Go.WideShapes Go.ChangeAt Go.RowKit
set_option linter.unusedVariables false
set_option linter.unusedSimpArgs false
set_option maxRecDepth 100000

theorem l7Gate_any (w : World) (k : Int) : Calls Tryz.prog 169 #[.int .i64 k] w fun e w' => e = .returned (.bool (gateK k)) ∧ w' = w := by
 unfold gateK
 by_cases h1 : 11 ≤ k
 ·rw [decide_eq_true h1]
  go_enter Tryz.func169, Tryz.ntmps169
  go_wp2
  go_ret
  exact ⟨by simp, rfl⟩
 ·rw [decide_eq_false h1]
  go_enter Tryz.func169, Tryz.ntmps169
  go_wp2
  go_ret
  exact ⟨by simp, rfl⟩

theorem l7Two_any (w : World) (k : Int) : Calls Tryz.prog 179 #[.int .i64 k] w fun e w' => e = .returned (.bool (twoK k)) ∧ w' = w := by
 unfold twoK
 have hG := fun u => l7Gate_any u k
 generalize gateK k = g at *
 cases g
 ·cases h3 : (k == 3)
  ·cases h5 : (k == 5)
   all_goals
    go_enter Tryz.func179, Tryz.ntmps179
    go_wp2_with (go_at_call 169; refine (hG _).mono ?_; rintro e w' ⟨rfl, rfl⟩)
    go_ret
    exact ⟨rfl, rfl⟩
  ·go_enter Tryz.func179, Tryz.ntmps179
   go_wp2_with (go_at_call 169; refine (hG _).mono ?_; rintro e w' ⟨rfl, rfl⟩)
   go_ret
   exact ⟨rfl, rfl⟩
 ·go_enter Tryz.func179, Tryz.ntmps179
  go_wp2_with (go_at_call 169; refine (hG _).mono ?_; rintro e w' ⟨rfl, rfl⟩)
  go_ret
  exact ⟨rfl, rfl⟩

set_option maxHeartbeats 4000000 in
theorem l7Src_any (w : World) (s : SrcD) (n : Nat) (hn : n ≤ 16777216) : Calls Tryz.prog 227 #[.agg (srcC s).toArray, .int .i64 n] w fun e w' => e = .returned (.bool (srcOk s n)) ∧ Below w.heap.size w w' := by
 have hA := fun u => sAddrOk_any u ⟨s.ak, s.aat⟩
 have hE := fun p q u => guard_addrK .eql p q s.ak s.aat 0 0 u
 have hQ := fun u => eql_addrK s.ak s.aat 0 0 u
 unfold srcOk
 by_cases k1 : s.kind = 1
 ·rw [if_pos k1]
  clear hE hQ
  generalize addrOk ⟨s.ak, s.aat⟩ = ok at *
  cases ok
  ·rw [Bool.false_and]
   go_enter Tryz.func227, Tryz.ntmps227
   go_wp2_with (refine wpList_boxG (vs := srcC s) rfl _ rfl rfl ?_)
   intro u1 g1 p1 s1
   have c0 : u1.cell? ⟨w.heap.size, 0, none⟩ = some (.int .i64 1) := by rw [← k1]; exact p1.c 0 _ rfl
   have hc : CV u1 w.heap.size 2 [.int .i64 s.ak, .int .i64 s.aat] := p1.c.part 2 2
   go_wp2_with (refine wpList_loadG Tryz.isAgg118 Tryz.sizeOf118 _ rfl rfl rfl rfl hc ?_)
   clear c0 hc
   refine (hA _).mono ?_
   rintro e u2 ⟨rfl, g2⟩
   have G := g1.trans (g2.mono (by omega))
   clear g1 g2 p1 hA
   go_wp2
   go_ret
   exact ⟨rfl, G⟩
  ·rw [Bool.true_and]
   generalize hz : (s.at_ == 0) = z
   go_enter Tryz.func227, Tryz.ntmps227
   go_wp2_with (refine wpList_boxG (vs := srcC s) rfl _ rfl rfl ?_)
   intro u1 g1 p1 s1
   have c0 : u1.cell? ⟨w.heap.size, 0, none⟩ = some (.int .i64 1) := by rw [← k1]; exact p1.c 0 _ rfl
   have hc : CV u1 w.heap.size 2 [.int .i64 s.ak, .int .i64 s.aat] := p1.c.part 2 2
   go_wp2_with (refine wpList_loadG Tryz.isAgg118 Tryz.sizeOf118 _ rfl rfl rfl rfl hc ?_)
   clear c0 hc
   refine (hA _).mono ?_
   rintro e u2 ⟨rfl, g2⟩
   have G := g1.trans (g2.mono (by omega))
   have c1 : u2.cell? ⟨w.heap.size, 1, none⟩ = some (.int .i64 s.at_) := (p1.below g2 (by omega)).c 1 _ rfl
   clear g1 g2 p1 hA
   go_wp2
   go_ret
   exact ⟨rfl, G⟩
 rw [if_neg k1]
 clear hA
 have n1 : (s.kind == 1) = false := by simpa using k1
 have wire : ∀ k : Int, (k = 2 ∨ k = 3) → s.kind = k → Calls Tryz.prog 227 #[.agg (srcC s).toArray, .int .i64 n] w fun e w' => e = .returned (.bool (decide (0 ≤ s.at_) && (decide (s.at_ < (n : Int)) && (s.ak == 0 && s.aat == 0)))) ∧ Below w.heap.size w w' := by
  intro k hk hkk
  clear k1 n1
  generalize (s.ak == 0 && s.aat == 0) = z at *
  by_cases h1 : 0 ≤ s.at_
  ·rw [decide_eq_true h1, Bool.true_and]
   by_cases h2 : s.at_ < (n : Int)
   ·rw [decide_eq_true h2, Bool.true_and]
    rcases hk with rfl | rfl
    all_goals
     go_enter Tryz.func227, Tryz.ntmps227
     go_wp2_with (refine wpList_boxG (vs := srcC s) rfl _ rfl rfl ?_)
     intro u1 g1 p1 s1
     have c0 : u1.cell? ⟨w.heap.size, 0, none⟩ = _ := p1.c 0 _ rfl
     rw [hkk] at c0
     have c1 : u1.cell? ⟨w.heap.size, 1, none⟩ = some (.int .i64 s.at_) := p1.c 1 _ rfl
     have hc : CV u1 w.heap.size 2 [.int .i64 s.ak, .int .i64 s.aat] := p1.c.part 2 2
     clear hkk
     go_wp2_with (first
      | refine wpList_loadG Tryz.isAgg118 Tryz.sizeOf118 _ rfl rfl rfl rfl hc ?_
      | refine wpList_binG _ _ rfl rfl rfl rfl (hE _ _ _) (hQ _) ?_)
     go_ret
     exact ⟨rfl, g1⟩
   ·rw [decide_eq_false h2, Bool.false_and]
    rcases hk with rfl | rfl
    all_goals
     go_enter Tryz.func227, Tryz.ntmps227
     go_wp2_with (refine wpList_boxG (vs := srcC s) rfl _ rfl rfl ?_)
     intro u1 g1 p1 s1
     have c0 : u1.cell? ⟨w.heap.size, 0, none⟩ = _ := p1.c 0 _ rfl
     rw [hkk] at c0
     have c1 : u1.cell? ⟨w.heap.size, 1, none⟩ = some (.int .i64 s.at_) := p1.c 1 _ rfl
     clear hkk hE hQ
     go_wp2
     go_ret
     exact ⟨rfl, g1⟩
  ·rw [decide_eq_false h1, Bool.false_and]
   rcases hk with rfl | rfl
   all_goals
    go_enter Tryz.func227, Tryz.ntmps227
    go_wp2_with (refine wpList_boxG (vs := srcC s) rfl _ rfl rfl ?_)
    intro u1 g1 p1 s1
    have c0 : u1.cell? ⟨w.heap.size, 0, none⟩ = _ := p1.c 0 _ rfl
    rw [hkk] at c0
    have c1 : u1.cell? ⟨w.heap.size, 1, none⟩ = some (.int .i64 s.at_) := p1.c 1 _ rfl
    clear hkk hE hQ
    go_wp2
    go_ret
    exact ⟨rfl, g1⟩
 by_cases k2 : s.kind = 2
 ·rw [if_pos (.inl k2)]; exact wire 2 (.inl rfl) k2
 by_cases k3 : s.kind = 3
 ·rw [if_pos (.inr k3)]; exact wire 3 (.inr rfl) k3
 rw [if_neg (by omega)]
 clear wire hE hQ
 have n2 : (s.kind == 2) = false := by simpa using k2
 have n3 : (s.kind == 3) = false := by simpa using k3
 clear k1 k2 k3
 go_enter Tryz.func227, Tryz.ntmps227
 go_wp2_with (refine wpList_boxG (vs := srcC s) rfl _ rfl rfl ?_)
 intro u1 g1 p1 s1
 have c0 : u1.cell? ⟨w.heap.size, 0, none⟩ = some (.int .i64 s.kind) := p1.c 0 _ rfl
 go_wp2
 go_ret
 exact ⟨rfl, g1⟩

end Go.Proofs.YtaoiookfmgpmkaaGreatDoor

/-
 Guarded operations of a region: whether they are wanted.
-/
namespace Go.Proofs.YtaoiookfmgpmkaaGreatDoor
open Go.ChangeShapes Go.WideShapes Go.ChangeAt Go.RowKit
set_option linter.unusedVariables false

theorem yielded_g {ops : Array Oper} {a : Act} {i : Nat} {oi : Oper} {d : Tmp} {b : Bool} (hoi : ops[i]? = some oi) (hd : oi.dst = some d) (hlt : d < a.tmps.size) (hv : a.tmps.getD d undef = .bool b) : yielded ops a.tmps i = some b := by
 have h : a.tmps[d]? = some (.bool b) := by
  rw [Array.getElem?_eq_getElem hlt]
  simp [hlt] at hv
  rw [hv]
 simp [yielded, hoi, hd, h]

theorem wanted_on {o : Oper} {ops : Array Oper} {a : Act} {i : Nat} {b : Bool} {p q : Prop} (hg : o.guard = some (i, b)) (hy : yielded ops a.tmps i = some b) (h : p) : if Region.wanted o (yielded ops a.tmps) = true then p else q := by
 rw [if_pos (by simp [Region.wanted, hg, hy])]; exact h

theorem wanted_off {o : Oper} {ops : Array Oper} {a : Act} {i : Nat} {b : Bool} {p q : Prop} (hg : o.guard = some (i, b)) (hy : yielded ops a.tmps i = some (!b)) (h : q) : if Region.wanted o (yielded ops a.tmps) = true then p else q := by
 rw [if_neg (by cases b <;> simp [Region.wanted, hg, hy])]; exact h

theorem yielded_u {ops : Array Oper} {a : Act} {i : Nat} {oi : Oper} {d : Tmp} (hoi : ops[i]? = some oi) (hd : oi.dst = some d) (hlt : d < a.tmps.size) (hv : a.tmps.getD d undef = undef) : yielded ops a.tmps i = none := by
 have h : a.tmps[d]? = some undef := by
  rw [Array.getElem?_eq_getElem hlt]
  simp [hlt] at hv
  rw [hv]
 simp [yielded, hoi, hd, h, undef]

theorem wanted_un {o : Oper} {ops : Array Oper} {a : Act} {i : Nat} {b : Bool} {p q : Prop} (hg : o.guard = some (i, b)) (hy : yielded ops a.tmps i = none) (h : q) : if Region.wanted o (yielded ops a.tmps) = true then p else q := by
 rw [if_neg (by simp [Region.wanted, hg, hy])]; exact h

end Go.Proofs.YtaoiookfmgpmkaaGreatDoor
