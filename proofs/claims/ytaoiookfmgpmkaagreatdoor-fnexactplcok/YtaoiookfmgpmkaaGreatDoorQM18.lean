import Derived.Test.YtaoiookfmgpmkaaGreatDoorQM2
import Derived.Laws.ResultCell
import Derived.Laws.IdiomCopy
import Derived.Test.YtaoiookfmgpmkaaGreatDoorQM13

/-
 Steps of a walk over variables that hold a block: boxed, made, loaded, stored, one part stored.
-/
namespace Go.Proofs.YtaoiookfmgpmkaaGreatDoor
open Go.ChangeShapes Go.WideShapes Go.ChangeAt Go.RowKit
set_option linter.unusedVariables false
set_option maxRecDepth 100000

def bl (b : BlockD) : List Value := [.int .i64 b.kind, .int .i64 b.n, .bool b.on, .bool b.was, .int .i64 b.t]

theorem val_bl (b : BlockD) : b.val = .agg (bl b).toArray := rfl
theorem val_cells (b : BlockD) : b.val.cells = (bl b).toArray := rfl
theorem badd (B j : Nat) : (⟨B, 0, none⟩ : Go.Addr).add j = ⟨B, j, none⟩ := by unfold Go.Addr.add; split <;> simp_all

theorem CellB.at5 {w : World} {B : Nat} {b : BlockD} (h : CellB w B b) {j : Nat} (hj : j < 5) : w.cell? ⟨B, j, none⟩ = (bl b)[j]? := by
 match j, hj with
 | 0, _ => exact h.c0
 | 1, _ => exact h.c1
 | 2, _ => exact h.c2
 | 3, _ => exact h.c3
 | 4, _ => exact h.c4

theorem run_loadVarB {w : World} {B : Nat} {b : BlockD} (h : CellB w B b) : (loadVar 165 ⟨B, 0, none⟩).run Tryz.prog w = .ok b.val w := by
 have hl := run_loadCells_list (P := Tryz.prog) w ⟨B, 0, none⟩ (bl b) (fun j v hv => by
  have hj : j < 5 := (List.getElem?_eq_some_iff.mp hv).1
  rw [badd, h.at5 hj]
  exact hv)
 rw [show (bl b).length = 5 from rfl] at hl
 simp only [loadVar, Sem.run_bind, Tryz.isAgg165, Tryz.sizeOf165, Result.andThen_ok, if_true, hl, Sem.run_pure]
 rfl

structure Laid (w u : World) (B : Nat) (b : BlockD) : Prop where
 cell : CellB u B b
 size : u.heap.size = w.heap.size
 below : Below B w u
 block : ∀ k, k ≠ B → u.heap[k]? = w.heap[k]?

theorem Laid.other {w u : World} {B C : Nat} {b c : BlockD} (h : Laid w u B b) (hc : CellB w C c) (hne : C ≠ B) : CellB u C c := hc.at_ (h.block C hne)

theorem laid_store {w : World} {B : Nat} {b0 : BlockD} (h : CellB w B b0) (b : BlockD) :
  Laid w (((((w.setCell ⟨B, 0, none⟩ (.int .i64 b.kind)).setCell ⟨B, 1, none⟩ (.int .i64 b.n)).setCell ⟨B, 2, none⟩ (.bool b.on)).setCell ⟨B, 3, none⟩ (.bool b.was)).setCell ⟨B, 4, none⟩ (.int .i64 b.t)) B b := by
 refine ⟨cellB_store h b, by simp only [World.size_setCell], ?_, fun k hk => ?_⟩
 ·exact (((((Below.refl B w).setCell (p := ⟨B, 0, none⟩) (Nat.le_refl _) _).setCell (p := ⟨B, 1, none⟩) (Nat.le_refl _) _).setCell (p := ⟨B, 2, none⟩) (Nat.le_refl _) _).setCell (p := ⟨B, 3, none⟩) (Nat.le_refl _) _).setCell (p := ⟨B, 4, none⟩) (Nat.le_refl _) _
 ·rw [Below.heap_setCell _ _ _ _ hk, Below.heap_setCell _ _ _ _ hk, Below.heap_setCell _ _ _ _ hk, Below.heap_setCell _ _ _ _ hk, Below.heap_setCell _ _ _ _ hk]

theorem laid_one {w : World} {B : Nat} {b0 : BlockD} (h : CellB w B b0) {i : Nat} {v : Value} {b : BlockD} (hi : i < 5) (hb : ∀ j, j < 5 → (bl b)[j]? = if j = i then some v else (bl b0)[j]?) : Laid w (w.setCell ⟨B, i, none⟩ v) B b := by
 have hc : ∀ j, j < 5 → (w.setCell ⟨B, i, none⟩ v).cell? ⟨B, j, none⟩ = (bl b)[j]? := by
  intro j hj
  rw [hb j hj]
  by_cases e : j = i
  ·rw [if_pos e, e]
   exact World.cell?_setCell_same' _ _ _ (by rw [h.at5 hi]; match i, hi with | 0, _ | 1, _ | 2, _ | 3, _ | 4, _ => rfl)
  ·rw [if_neg e, cell_set_other _ (.inr e)]
   exact h.at5 hj
 refine ⟨⟨hc 0 (by omega), hc 1 (by omega), hc 2 (by omega), hc 3 (by omega), hc 4 (by omega), fun o => by rw [World.frozen?_setCell]; exact h.f o⟩, World.size_setCell _ _ _, (Below.refl B w).setCell (p := ⟨B, i, none⟩) (Nat.le_refl _) _, fun k hk => Below.heap_setCell _ _ _ _ hk⟩

theorem laid_t {w : World} {B : Nat} {b : BlockD} (h : CellB w B b) (x : Int) : Laid w (w.setCell ⟨B, 4, none⟩ (.int .i64 x)) B { b with t := x } :=
 laid_one h (by omega) fun j hj => by match j, hj with | 0, _ | 1, _ | 2, _ | 3, _ | 4, _ => rfl
theorem laid_n {w : World} {B : Nat} {b : BlockD} (h : CellB w B b) (x : Int) : Laid w (w.setCell ⟨B, 1, none⟩ (.int .i64 x)) B { b with n := x } :=
 laid_one h (by omega) fun j hj => by match j, hj with | 0, _ | 1, _ | 2, _ | 3, _ | 4, _ => rfl

theorem run_storeVarB {w : World} {B : Nat} {b0 : BlockD} (b : BlockD) (h : CellB w B b0) : (storeVar 165 ⟨B, 0, none⟩ b.val).run Tryz.prog w = .ok () (((((w.setCell ⟨B, 0, none⟩ (.int .i64 b.kind)).setCell ⟨B, 1, none⟩ (.int .i64 b.n)).setCell ⟨B, 2, none⟩ (.bool b.on)).setCell ⟨B, 3, none⟩ (.bool b.was)).setCell ⟨B, 4, none⟩ (.int .i64 b.t)) := by
 have hs := run_storeCells_cells (P := Tryz.prog) B 0 (bl b) 0 w (fun j hj => by
   have hj5 : j < 5 := hj
   rw [show 0 + 0 + j = j by omega, h.at5 hj5]
   match j, hj5 with | 0, _ | 1, _ | 2, _ | 3, _ | 4, _ => rfl) (fun j hj => by rw [show 0 + 0 + j = j by omega]; exact h.f j) (fun v hv => by
  simp only [bl, List.mem_cons, List.not_mem_nil, or_false] at hv
  rcases hv with rfl | rfl | rfl | rfl | rfl <;> rfl)
 have e1 : b.val.cells.size = 5 := rfl
 have e2 : b.val.cells.toList = bl b := rfl
 simp only [storeVar, Sem.run_bind, Tryz.sizeOf165, Result.andThen_ok, e1, e2]
 simp only [ne_eq, not_true_eq_false, if_false, hs]
 rfl

section
variable {ops : Array Oper} {rest : List Oper} {o : Oper} {a : Act} {Q : Exit → Act → World → Prop} {K : Act → World → Prop} {w : World}

theorem wp_loadB (p : Operand) (hop : o.op = Op.load 165 p) {B : Nat} {b : BlockD} (hp : a.eval p = .pointer (some ⟨B, 0, none⟩)) (hb : CellB w B b)
  (hK : K (a.put o.dst b.val) w) : o.wp Tryz.prog a w K Q := by
 unfold Oper.wp
 simp only [execOp, hop, hp, Instr.loadAt, Instr.sureAddr, Sem.run_bind, Sem.run_pure, Result.andThen_ok, run_loadVarB hb]
 exact hK

theorem wp_storeB (p v : Operand) (hop : o.op = Op.store 165 p v) {B : Nat} {b0 b : BlockD} (hp : a.eval p = .pointer (some ⟨B, 0, none⟩)) (hv : a.eval v = b.val) (hz : CellB w B b0)
  (hK : ∀ u1, Laid w u1 B b → K (a.put o.dst undef) u1) : o.wp Tryz.prog a w K Q := by
 unfold Oper.wp
 simp only [execOp, hop, hp, hv, Instr.storeAt, Instr.sureAddr, Sem.run_bind, Sem.run_pure, Result.andThen_ok, run_storeVarB b hz]
 exact hK _ (laid_store hz b)

theorem wp_boxB (x : Operand) (hop : o.op = Op.box 165 x) {b : BlockD} (hx : a.eval x = b.val)
  (hK : ∀ u1, Below w.heap.size w u1 → CellB u1 w.heap.size b → u1.heap.size = w.heap.size + 1 → K (a.put o.dst (.pointer (some ⟨w.heap.size, 0, none⟩))) u1) : o.wp Tryz.prog a w K Q := by
 have h := hK (w.alloc (.cells (bl b).toArray 165)) ((Below.refl _ _).alloc (Nat.le_refl _) _) (cellB_new w b 165) (by simp)
 unfold Oper.wp
 simp only [execOp, hop, hx, Instr.box, newVar, val_cells]
 simp [newRow, Result.andThen]
 exact h

theorem wp_allocB (hop : o.op = Op.alloc 165)
  (hK : ∀ u1, Below w.heap.size w u1 → CellB u1 w.heap.size noB → u1.heap.size = w.heap.size + 1 → K (a.put o.dst (.pointer (some ⟨w.heap.size, 0, none⟩))) u1) : o.wp Tryz.prog a w K Q := by
 have h := hK (w.alloc (.cells (bl noB).toArray 165)) ((Below.refl _ _).alloc (Nat.le_refl _) _) (cellB_new w noB 165) (by simp)
 unfold Oper.wp
 simp [execOp, hop, go_sem]
 exact h

theorem wpList_loadB (hg : o.guard = none) (p : Operand) (hop : o.op = Op.load 165 p) {B : Nat} {b : BlockD} (hp : a.eval p = .pointer (some ⟨B, 0, none⟩)) (hb : CellB w B b)
  (hK : wpList Tryz.prog ops Q rest (a.put o.dst b.val) w) : wpList Tryz.prog ops Q (o :: rest) a w :=
 wpList_plain hg fun K hK' => wp_loadB p hop hp hb (hK' _ _ hK)

theorem wpList_storeB (hg : o.guard = none) (p v : Operand) (hop : o.op = Op.store 165 p v) {B : Nat} {b0 b : BlockD} (hp : a.eval p = .pointer (some ⟨B, 0, none⟩)) (hv : a.eval v = b.val) (hz : CellB w B b0)
  (hK : Hid (∀ u1, Laid w u1 B b → wpList Tryz.prog ops Q rest (a.put o.dst undef) u1)) : wpList Tryz.prog ops Q (o :: rest) a w :=
 wpList_plain hg fun K hK' => wp_storeB p v hop hp hv hz fun u1 h1 => hK' _ _ (hK.out u1 h1)

theorem wpList_boxB (hg : o.guard = none) (x : Operand) (hop : o.op = Op.box 165 x) {b : BlockD} (hx : a.eval x = b.val)
  (hK : Hid (∀ u1, Below w.heap.size w u1 → CellB u1 w.heap.size b → u1.heap.size = w.heap.size + 1 → wpList Tryz.prog ops Q rest (a.put o.dst (.pointer (some ⟨w.heap.size, 0, none⟩))) u1)) : wpList Tryz.prog ops Q (o :: rest) a w :=
 wpList_plain hg fun K hK' => wp_boxB x hop hx fun u1 h1 h2 h3 => hK' _ _ (hK.out u1 h1 h2 h3)

theorem wpList_allocB (hg : o.guard = none) (hop : o.op = Op.alloc 165)
  (hK : Hid (∀ u1, Below w.heap.size w u1 → CellB u1 w.heap.size noB → u1.heap.size = w.heap.size + 1 → wpList Tryz.prog ops Q rest (a.put o.dst (.pointer (some ⟨w.heap.size, 0, none⟩))) u1)) : wpList Tryz.prog ops Q (o :: rest) a w :=
 wpList_plain hg fun K hK' => wp_allocB hop fun u1 h1 h2 h3 => hK' _ _ (hK.out u1 h1 h2 h3)
end

end Go.Proofs.YtaoiookfmgpmkaaGreatDoor

/-
 The program's kinds of blocks, behind an interface: the method most; BlockOk, BlockNew. (Parted from BlockImplA and BlockImplB, which gen_block.py wrote.)
-/
namespace Go.Proofs.YtaoiookfmgpmkaaGreatDoor
open Go.ChangeShapes Go.WideShapes Go.ChangeAt Go.RowKit
set_option linter.unusedVariables false
set_option linter.unusedSimpArgs false

set_option maxRecDepth 100000

def kindVB (k : Int) : Value := if k = 1 then .iface 362 (.agg #[]) else if k = 2 then .iface 363 (.agg #[]) else if k = 3 then .iface 364 (.agg #[]) else if k = 4 then .iface 367 (.agg #[]) else if k = 5 then .iface 368 (.agg #[]) else .nilIface

set_option maxHeartbeats 1000000 in
theorem kindOfB_any (w : World) (k : Int) :
  Calls Tryz.prog 225 #[.int .i64 k] w fun e w' => e = .returned (kindVB k) ∧ w' = w := by
 unfold kindVB
 by_cases h1 : k = 1
 ·subst h1
  go_enter Tryz.func225, Tryz.ntmps225
  go_wp2
  go_ret
  exact ⟨rfl, rfl⟩
 rw [if_neg h1]
 have b1 : (k == 1) = false := by simpa using h1
 clear h1
 by_cases h2 : k = 2
 ·subst h2
  go_enter Tryz.func225, Tryz.ntmps225
  go_wp2
  go_ret
  exact ⟨rfl, rfl⟩
 rw [if_neg h2]
 have b2 : (k == 2) = false := by simpa using h2
 clear h2
 by_cases h3 : k = 3
 ·subst h3
  go_enter Tryz.func225, Tryz.ntmps225
  go_wp2
  go_ret
  exact ⟨rfl, rfl⟩
 rw [if_neg h3]
 have b3 : (k == 3) = false := by simpa using h3
 clear h3
 by_cases h4 : k = 4
 ·subst h4
  go_enter Tryz.func225, Tryz.ntmps225
  go_wp2
  go_ret
  exact ⟨rfl, rfl⟩
 rw [if_neg h4]
 have b4 : (k == 4) = false := by simpa using h4
 clear h4
 by_cases h5 : k = 5
 ·subst h5
  go_enter Tryz.func225, Tryz.ntmps225
  go_wp2
  go_ret
  exact ⟨rfl, rfl⟩
 rw [if_neg h5]
 have b5 : (k == 5) = false := by simpa using h5
 clear h5
 go_enter Tryz.func225, Tryz.ntmps225
 go_wp2
 go_ret
 exact ⟨rfl, rfl⟩

theorem most_measured (w : World) : Calls Tryz.prog 336 #[.agg #[]] w fun e w' => e = .returned (.int .i64 1000) ∧ Below w.heap.size w w' := by
 go_enter Tryz.func336, Tryz.ntmps336
 go_wp2
 go_ret
 exact ⟨rfl, by repeat first | exact Below.refl _ _ | apply below_al | apply below_dr | refine below_se ?_ (by simp <;> omega) _⟩

theorem most_unmeasured (w : World) : Calls Tryz.prog 343 #[.agg #[]] w fun e w' => e = .returned (.int .i64 0) ∧ Below w.heap.size w w' := by
 go_enter Tryz.func343, Tryz.ntmps343
 go_wp2
 go_ret
 exact ⟨rfl, by repeat first | exact Below.refl _ _ | apply below_al | apply below_dr | refine below_se ?_ (by simp <;> omega) _⟩

structure KindM (k : Int) (T : TypeId) (Fm : FuncId) : Prop where
 val : kindVB k = .iface T (.agg #[])
 mm : ∀ w : World, (method 547 T (.agg #[]) "loop.example/stopgate/impl.most").run Tryz.prog w = .ok (Fm, .agg #[]) w
 em : ∀ (a : Array Value) (w : World), Sem.run Tryz.prog (callFunc Fm a) w = .ok (.enter Fm a) w
 cm : ∀ w : World, Calls Tryz.prog Fm #[.agg #[]] w fun e w' => e = .returned (.int .i64 (mostB k)) ∧ Below w.heap.size w w'

theorem kindM1 : KindM 1 362 336 := ⟨rfl, fun _ => by kernel_rfl, fun _ _ => by kernel_rfl, most_measured⟩
theorem kindM2 : KindM 2 363 336 := ⟨rfl, fun _ => by kernel_rfl, fun _ _ => by kernel_rfl, most_measured⟩
theorem kindM3 : KindM 3 364 336 := ⟨rfl, fun _ => by kernel_rfl, fun _ _ => by kernel_rfl, most_measured⟩
theorem kindM4 : KindM 4 367 343 := ⟨rfl, fun _ => by kernel_rfl, fun _ _ => by kernel_rfl, most_unmeasured⟩
theorem kindM5 : KindM 5 368 343 := ⟨rfl, fun _ => by kernel_rfl, fun _ _ => by kernel_rfl, most_unmeasured⟩
theorem kindM {k : Int} (h1 : 1 ≤ k) (h2 : k ≤ 5) : ∃ T Fm, KindM k T Fm := by
 obtain rfl | rfl | rfl | rfl | rfl : k = 1 ∨ k = 2 ∨ k = 3 ∨ k = 4 ∨ k = 5 := by omega
 ·exact ⟨_, _, kindM1⟩
 ·exact ⟨_, _, kindM2⟩
 ·exact ⟨_, _, kindM3⟩
 ·exact ⟨_, _, kindM4⟩
 ·exact ⟨_, _, kindM5⟩
theorem kindNone {k : Int} (h : k < 1 ∨ 5 < k) : kindVB k = .nilIface := by
 unfold kindVB
 rw [if_neg (by omega), if_neg (by omega), if_neg (by omega), if_neg (by omega), if_neg (by omega)]

def cutB (b : BlockD) (m : Int) : BlockD := { b with n := min (max b.n 0) m, t := min (max b.t 0) m }

theorem cutB_same (b : BlockD) (m : Int) (hm : 0 ≤ m) : (b.n = (cutB b m).n ∧ b.t = (cutB b m).t) ↔ ((0 ≤ b.n ∧ b.n ≤ m) ∧ (0 ≤ b.t ∧ b.t ≤ m)) := by
 unfold cutB
 simp only
 omega

theorem cut_three (n m : Int) (hm : 0 ≤ m) : (n < 0 ∧ min (max n 0) m = 0) ∨ ((0 ≤ n ∧ n ≤ m) ∧ min (max n 0) m = n) ∨ ((m < n ∧ 0 < n) ∧ min (max n 0) m = m) := by omega

set_option maxHeartbeats 8000000 in
theorem cutBl_any (w : World) (b : BlockD) (m : Int) (hm : 0 ≤ m) :
  Calls Tryz.prog 226 #[b.val, .int .i64 m] w fun e w' => e = .returned (cutB b m).val ∧ Below w.heap.size w w' := by
 obtain ⟨N, hN⟩ : ∃ N, min (max b.n 0) m = N := ⟨_, rfl⟩
 obtain ⟨T, hT⟩ : ∃ T, min (max b.t 0) m = T := ⟨_, rfl⟩
 have HV : (cutB b m).val = BlockD.val { b with n := N, t := T } := by rw [← hN, ← hT]; rfl
 rw [HV]
 clear HV
 have h3 := cut_three b.n m hm
 have h4 := cut_three b.t m hm
 rw [hN] at h3
 rw [hT] at h4
 clear hN hT
 go_enter Tryz.func226, Tryz.ntmps226
 go_wp2_with (refine wpList_boxB rfl _ rfl rfl ?_)
 intro u1 g1 p1 s1
 go_wp2_with (refine wpList_allocB rfl rfl ?_)
 intro u2 g2 q2 s2
 have p2 := p1.below g2 (by omega)
 have G2 := g1.trans (g2.mono (by omega))
 clear p1 g1 g2
 have L3 := laid_n p2 N
 have L4 := laid_t L3.cell T
 simp only at L4
 have q4 := L4.other (L3.other q2 (by omega)) (by omega)
 have z3 := L3.size
 have z4 := L4.size
 have HG : Hid (Below w.heap.size w ((u2.setCell ⟨w.heap.size, 1, none⟩ (.int .i64 N)).setCell ⟨w.heap.size, 4, none⟩ (.int .i64 T))) := (G2.trans (L3.below.mono (by omega))).trans (L4.below.mono (by omega))
 obtain ⟨c0, c1, c2, c3, c4, cf⟩ := id p2
 have cf1 := cf 1
 have cf4 := cf 4
 clear cf q2 G2 p2
 rcases h3 with ⟨h3, e3⟩ | ⟨⟨h3, h3'⟩, e3⟩ | ⟨⟨h3, h3'⟩, e3⟩ <;> rcases h4 with ⟨h4, e4⟩ | ⟨⟨h4, h4'⟩, e4⟩ | ⟨⟨h4, h4'⟩, e4⟩
 all_goals
  subst e3 e4
  go_wp2_with (first | refine wpList_loadB rfl _ rfl rfl L4.cell ?_ | refine wpList_storeB rfl _ _ rfl rfl rfl q4 ?_)
  intro u6 L6
  go_wp2
  obtain ⟨r0, r1, r2, r3, r4, _⟩ := L6.cell
  refine bodyPost_ret (v := BlockD.val { b with n := _, t := _ }) ?_ rfl ⟨rfl, HG.out.trans (L6.below.mono (by omega))⟩
  simp [results, Tryz.results226, go_sem, r0, r1, r2, r3, r4, BlockD.val]

def sameB (b c : BlockD) : Bool := (b.kind == c.kind) && ((b.n == c.n) && ((b.on == c.on) && ((b.was == c.was) && (b.t == c.t))))

theorem sameB_iff (b c : BlockD) : sameB b c = true ↔ b = c := by
 unfold sameB
 constructor
 ·intro h
  simp only [Bool.and_eq_true, beq_iff_eq] at h
  exact BlockD.ext' h.1 h.2.1 h.2.2.1 h.2.2.2.1 h.2.2.2.2
 ·rintro rfl; simp

set_option maxHeartbeats 4000000 in
theorem eq_block (b c : BlockD) (w : World) : (Op.equalIn 10000 165 b.val c.val).run Tryz.prog w = .ok (sameB b c) w := by
 unfold BlockD.val
 rw [show (10000 : Nat) = 9999 + 1 from rfl, run_equalIn_agg w 9999 165 _ _ (by kernel_rfl) (by kernel_rfl)]
 simp only [Program.fieldsOf, Tryz.underlying165]
 have hi := fun x y : Int => run_equalIn_int (P := Tryz.prog) w 9998 3 .i64 .i64 x y Tryz.underlying3
 have hb := fun x y : Bool => run_equalIn_bool' (P := Tryz.prog) w 9998 4 x y Tryz.underlying4
 have a3 := Tryz.isAgg3
 have a4 := Tryz.isAgg4
 have z3 := Tryz.sizeOf3
 have z4 := Tryz.sizeOf4
 unfold sameB
 simp [Op.eqFields, part, a3, a4, z3, z4, hi, hb]
 cases h0 : (b.kind == c.kind) <;> cases h1 : (b.n == c.n) <;> cases h2 : (b.on == c.on) <;> cases h3 : (b.was == c.was) <;> cases h4 : (b.t == c.t) <;> simp_all

theorem eql_block (b c : BlockD) (w : World) : Sem.run Tryz.prog (binOp .eql 165 b.val c.val) w = .ok (.bool (sameB b c)) w := by
 have h := eq_block b c w
 rw [val_bl, val_bl] at *
 rw [run_eql_struct, h]
 rfl
theorem guard_block (op : BinOp) (x y : Operand) (b c : BlockD) (w : World) : Sem.run Tryz.prog (eqGuard op 165 x y b.val c.val) w = .ok () w := by
 rw [val_bl, val_bl]
 exact run_eqGuard_agg w op 165 x y _ _ (by kernel_rfl)

def isKind (k : Int) : Bool := decide (1 ≤ k) && decide (k ≤ 5)
theorem kind_six (k : Int) : k = 1 ∨ k = 2 ∨ k = 3 ∨ k = 4 ∨ k = 5 ∨ (k < 1 ∨ 5 < k) := by omega
theorem isKind_true {k : Int} (h : isKind k = true) : 1 ≤ k ∧ k ≤ 5 := by unfold isKind at h; simpa using h
theorem isKind_false {k : Int} (h : isKind k = false) : k < 1 ∨ 5 < k := by unfold isKind at h; simp at h; omega

theorem neq_kind (k : Int) (u : World) : Sem.run Tryz.prog (binOp .neq 297 (kindVB k) .nilIface) u = .ok (.bool (isKind k)) u := by
 obtain rfl | rfl | rfl | rfl | rfl | h := kind_six k
 ·kernel_rfl
 ·kernel_rfl
 ·kernel_rfl
 ·kernel_rfl
 ·kernel_rfl
 ·rw [kindNone h, show isKind k = false by unfold isKind; simp; omega]; kernel_rfl

theorem cut_ok (b : BlockD) (h : isKind b.kind = true) : sameB b (cutB b (mostB b.kind)) = blockOk b := by
 have hk := isKind_true h
 have hm : 0 ≤ mostB b.kind := by rcases mostB_cases b.kind with ⟨_, h⟩ | ⟨_, h⟩ | ⟨h', h⟩ <;> omega
 have h1 := cutB_same b (mostB b.kind) hm
 have h2 := blockOk_iff b
 rw [Bool.eq_iff_iff, sameB_iff, h2, ← h1]
 constructor
 ·intro e; exact ⟨congrArg BlockD.n e, congrArg BlockD.t e⟩
 ·rintro ⟨e1, e2⟩; exact BlockD.ext' rfl e1 rfl rfl e2

theorem notKind_ok (b : BlockD) (h : isKind b.kind = false) : blockOk b = false := by
 have hk := isKind_false h
 unfold blockOk
 rw [numB_none hk]; rfl

theorem guard_kind (k : Int) (x : Operand) (u : World) : Sem.run Tryz.prog (eqGuard .neq 297 x (.const .nilIface) (kindVB k) .nilIface) u = .ok () u := by
 obtain rfl | rfl | rfl | rfl | rfl | h := kind_six k
 ·kernel_rfl
 ·kernel_rfl
 ·kernel_rfl
 ·kernel_rfl
 ·kernel_rfl
 ·rw [kindNone h]; cases x <;> kernel_rfl

set_option maxHeartbeats 8000000 in
theorem iBlockOk_any (w : World) (b : BlockD) :
  Calls Tryz.prog 172 #[b.val] w fun e w' => e = .returned (.bool (blockOk b)) ∧ Below w.heap.size w w' := by
 obtain ⟨g, hg⟩ : ∃ g, isKind b.kind = g := ⟨_, rfl⟩
 have hR : blockOk b = (g && sameB b (cutB b (mostB b.kind))) := by
  cases g with
  | true => rw [cut_ok b hg]; rfl
  | false => rw [notKind_ok b hg]; rfl
 rw [hR]
 clear hR
 have HG : Hid (isKind b.kind = g) := hg
 have HKK : Hid (g = true → ∃ T Fm, KindM b.kind T Fm) := fun e => kindM (isKind_true (hg.trans e)).1 (isKind_true (hg.trans e)).2
 have HMM : Hid (g = true → 0 ≤ mostB b.kind) := fun e => by
  have := isKind_true (hg.trans e)
  rcases mostB_cases b.kind with ⟨_, h⟩ | ⟨_, h⟩ | ⟨h', h⟩ <;> omega
 clear hg
 go_enter Tryz.func172, Tryz.ntmps172
 go_wp2_with (refine wpList_boxB rfl _ rfl rfl ?_)
 intro u1 g1 P1 s1
 have c0 := P1.c0
 go_wp2_with fail
 refine (kindOfB_any _ _).mono ?_
 rintro e2 u2 ⟨rfl, rfl⟩
 clear c0
 go_wp2_with fail
 refine wp_region_dag (R := Grow) (Φ := fun i v u => match i with
   | 0 => v = kindVB b.kind
   | 1 => v = .bool g
   | 2 => v = .bool g
   | 3 => v = cond g (b.val) undef
   | 4 => v = cond g (b.val) undef
   | 5 => v = cond g (kindVB b.kind) undef
   | 6 => v = cond g (.int .i64 (mostB b.kind)) undef
   | 7 => v = cond g ((cutB b (mostB b.kind)).val) undef
   | 8 => v = cond g (.bool (sameB b (cutB b (mostB b.kind)))) undef
   | 9 => v = .bool (g && sameB b (cutB b (mostB b.kind)))
   | 10 => v = .bool (g && sameB b (cutB b (mostB b.kind)))
   | _ => True) (by kernel_rfl) (by kernel_rfl) (by kernel_rfl) (Below.refl _ _) grow_trans ?_ ?_ ?_
 ·intro i v u u' hr
  match i with
  | 0 | 1 | 2 | 3 | 4 | 5 | 6 | 7 | 8 | 9 | 10 | _ + 11 => exact fun h => h
 ·intro i o ho a u hf hR0 he K' hK
  have hR : Grow u2 u := (Below.drew (Below.refl _ _)).trans hR0
  have hsz' : a.tmps.size = 17 := hf.size
  have hus := hR.size
  rcases i with _ | _ | _ | _ | _ | _ | _ | _ | _ | _ | _ | i
  ·obtain rfl := si ho
   have q3 : a.tmps.getD 3 undef = kindVB b.kind := hf.at_ 3 (by kernel_rfl)
   clear he
   go_simp
   exact hK _ _ (Below.refl _ _) (getD_put_self a 7 _ (by show _ < a.tmps.size; omega))
  ·obtain rfl := si ho
   have q7 : a.tmps.getD 7 undef = kindVB b.kind := he _ (am (i := 0) rfl) (by kernel_rfl) _ rfl
   clear he
   have hq := fun u => neq_kind b.kind u
   rw [HG.out] at hq
   have hgd := fun x u => guard_kind b.kind x u
   go_simp
   exact hK _ _ (Below.refl _ _) (getD_put_self a 8 _ (by show _ < a.tmps.size; omega))
  ·obtain rfl := si ho
   have q8 : a.tmps.getD 8 undef = .bool g := he _ (am (i := 0) rfl) (by kernel_rfl) _ rfl
   clear he
   go_simp
   exact hK _ _ (Below.refl _ _) (getD_put_self a 9 _ (by show _ < a.tmps.size; omega))
  ·obtain rfl := si ho
   have qg : a.tmps.getD 9 undef = .bool g := he _ (am (i := 0) rfl) (by kernel_rfl) _ rfl
   cases g with
   | false =>
    refine wanted_off rfl (yielded_g (i := 2) rfl rfl (by show 9 < a.tmps.size; omega) qg) ?_
    exact hK undef u (Below.refl _ _) (getD_put_self a 10 _ (by show _ < a.tmps.size; omega))
   | true =>
    have q1 : a.tmps.getD 1 undef = .pointer (some ⟨w.heap.size, 0, none⟩) := hf.at_ 1 (by kernel_rfl)
    have cu := P1.below hR (by omega)
    clear he
    refine wanted_on rfl (yielded_g (i := 2) rfl rfl (by show 9 < a.tmps.size; omega) qg) ?_
    refine wp_loadB (Operand.tmp 1) rfl q1 cu ?_
    exact hK _ _ (Below.refl _ _) (getD_put_self a 10 _ (by show _ < a.tmps.size; omega))
  ·obtain rfl := si ho
   have qg : a.tmps.getD 9 undef = .bool g := he _ (am (i := 0) rfl) (by kernel_rfl) _ rfl
   cases g with
   | false =>
    refine wanted_off rfl (yielded_g (i := 2) rfl rfl (by show 9 < a.tmps.size; omega) qg) ?_
    exact hK undef u (Below.refl _ _) (getD_put_self a 11 _ (by show _ < a.tmps.size; omega))
   | true =>
    have q1 : a.tmps.getD 1 undef = .pointer (some ⟨w.heap.size, 0, none⟩) := hf.at_ 1 (by kernel_rfl)
    have cu := P1.below hR (by omega)
    clear he
    refine wanted_on rfl (yielded_g (i := 2) rfl rfl (by show 9 < a.tmps.size; omega) qg) ?_
    refine wp_loadB (Operand.tmp 1) rfl q1 cu ?_
    exact hK _ _ (Below.refl _ _) (getD_put_self a 11 _ (by show _ < a.tmps.size; omega))
  ·obtain rfl := si ho
   have qg : a.tmps.getD 9 undef = .bool g := he _ (am (i := 0) rfl) (by kernel_rfl) _ rfl
   cases g with
   | false =>
    refine wanted_off rfl (yielded_g (i := 2) rfl rfl (by show 9 < a.tmps.size; omega) qg) ?_
    exact hK undef u (Below.refl _ _) (getD_put_self a 12 _ (by show _ < a.tmps.size; omega))
   | true =>
    have q3 : a.tmps.getD 3 undef = kindVB b.kind := hf.at_ 3 (by kernel_rfl)
    clear he
    refine wanted_on rfl (yielded_g (i := 2) rfl rfl (by show 9 < a.tmps.size; omega) qg) ?_
    go_simp
    exact hK _ _ (Below.refl _ _) (getD_put_self a 12 _ (by show _ < a.tmps.size; omega))
  ·obtain rfl := si ho
   have qg : a.tmps.getD 9 undef = .bool g := he _ (am (i := 1) rfl) (by kernel_rfl) _ rfl
   cases g with
   | false =>
    refine wanted_off rfl (yielded_g (i := 2) rfl rfl (by show 9 < a.tmps.size; omega) qg) ?_
    exact hK undef u (Below.refl _ _) (getD_put_self a 13 _ (by show _ < a.tmps.size; omega))
   | true =>
    have q12 : a.tmps.getD 12 undef = kindVB b.kind := he _ (am (i := 0) rfl) (by kernel_rfl) _ rfl
    obtain ⟨T, Fm, hKA⟩ := HKK.out rfl
    rw [hKA.val] at q12
    have hmm := hKA.mm
    have hem := hKA.em
    clear he
    refine wanted_on rfl (yielded_g (i := 2) rfl rfl (by show 9 < a.tmps.size; omega) qg) ?_
    go_simp
    refine (hKA.cm _).mono ?_
    rintro e1 u' ⟨rfl, hbu⟩
    exact hK _ _ hbu (getD_put_self a 13 _ (by show _ < a.tmps.size; omega))
  ·obtain rfl := si ho
   have qg : a.tmps.getD 9 undef = .bool g := he _ (am (i := 3) rfl) (by kernel_rfl) _ rfl
   cases g with
   | false =>
    refine wanted_off rfl (yielded_g (i := 2) rfl rfl (by show 9 < a.tmps.size; omega) qg) ?_
    exact hK undef u (Below.refl _ _) (getD_put_self a 14 _ (by show _ < a.tmps.size; omega))
   | true =>
    have q11 : a.tmps.getD 11 undef = b.val := he _ (am (i := 0) rfl) (by kernel_rfl) _ rfl
    have q13 : a.tmps.getD 13 undef = .int .i64 (mostB b.kind) := he _ (am (i := 1) rfl) (by kernel_rfl) _ rfl
    have hm0 := HMM.out rfl
    clear he
    refine wanted_on rfl (yielded_g (i := 2) rfl rfl (by show 9 < a.tmps.size; omega) qg) ?_
    go_simp
    refine (cutBl_any _ b _ hm0).mono ?_
    rintro e1 u' ⟨rfl, hbu⟩
    exact hK _ _ hbu (getD_put_self a 14 _ (by show _ < a.tmps.size; omega))
  ·obtain rfl := si ho
   have qg : a.tmps.getD 9 undef = .bool g := he _ (am (i := 2) rfl) (by kernel_rfl) _ rfl
   cases g with
   | false =>
    refine wanted_off rfl (yielded_g (i := 2) rfl rfl (by show 9 < a.tmps.size; omega) qg) ?_
    exact hK undef u (Below.refl _ _) (getD_put_self a 15 _ (by show _ < a.tmps.size; omega))
   | true =>
    have q10 : a.tmps.getD 10 undef = b.val := he _ (am (i := 0) rfl) (by kernel_rfl) _ rfl
    have q14 : a.tmps.getD 14 undef = (cutB b (mostB b.kind)).val := he _ (am (i := 1) rfl) (by kernel_rfl) _ rfl
    clear he
    have hq := fun u => eql_block b (cutB b (mostB b.kind)) u
    have hgd := fun x y u => guard_block .eql x y b (cutB b (mostB b.kind)) u
    refine wanted_on rfl (yielded_g (i := 2) rfl rfl (by show 9 < a.tmps.size; omega) qg) ?_
    go_simp
    exact hK _ _ (Below.refl _ _) (getD_put_self a 15 _ (by show _ < a.tmps.size; omega))
  ·obtain rfl := si ho
   cases g with
   | true =>
    have q9 : a.tmps.getD 9 undef = .bool true := he _ (am (i := 0) rfl) (by kernel_rfl) _ rfl
    have q15 : a.tmps.getD 15 undef = .bool (sameB b (cutB b (mostB b.kind))) := he _ (am (i := 1) rfl) (by kernel_rfl) _ rfl
    clear he
    go_simp
    exact hK _ _ (Below.refl _ _) (getD_put_self a 16 _ (by show _ < a.tmps.size; omega))
   | false =>
    have q9 : a.tmps.getD 9 undef = .bool false := he _ (am (i := 0) rfl) (by kernel_rfl) _ rfl
    clear he
    go_simp
    exact hK _ _ (Below.refl _ _) (getD_put_self a 16 _ (by show _ < a.tmps.size; omega))
  ·obtain rfl := si ho
   have q16 : a.tmps.getD 16 undef = .bool (g && sameB b (cutB b (mostB b.kind))) := he _ (am (i := 0) rfl) (by kernel_rfl) _ rfl
   clear he
   go_simp
   exact hK _ _ (Below.refl _ _) (getD_put_self a 2 _ (by show _ < a.tmps.size; omega))
  ·exact absurd ho (by simp)
 ·intro a u hf hR0 hp
  have hR : Grow u2 u := (Below.drew (Below.refl _ _)).trans hR0
  have m2 : a.tmps.getD 2 undef = .bool (g && sameB b (cutB b (mostB b.kind))) := hp 10 _ rfl
  have HB : Hid (Below w.heap.size w u) := g1.trans (hR.mono (by omega))
  obtain ⟨fq, ea, hfv⟩ := act_lit a 17 hf.size
  have md : a.defers = [] := hf.defers
  rw [md] at ea
  have m0 := hf.at_ 0 (by kernel_rfl)
  have m1 := hf.at_ 1 (by kernel_rfl)
  have m3 := hf.at_ 3 (by kernel_rfl)
  have m4 := hf.at_ 4 (by kernel_rfl)
  have m5 := hf.at_ 5 (by kernel_rfl)
  have m6 := hf.at_ 6 (by kernel_rfl)
  rw [← hfv] at m0 m1 m3 m4 m5 m6 m2
  simp only [Array.getD_eq_getD_getElem?, List.getElem?_toArray, List.getElem?_cons_succ, List.getElem?_cons_zero, Option.getD_some] at m0 m1 m3 m4 m5 m6
  simp only [List.range, List.range.loop, List.map_cons, List.map_nil, m0, m1, m3, m4, m5, m6, m2] at ea
  subst ea
  clear m0 m1 m3 m4 m5 m6 m2 hfv md hf
  go_wp2
  go_ret
  exact ⟨rfl, HB.out⟩

set_option maxHeartbeats 4000000 in
theorem iBlockNew_any (w : World) (k n : Int) :
  Calls Tryz.prog 155 #[.int .i64 k, .int .i64 n] w fun e w' => e = .returned (blockNew k n).val ∧ Below w.heap.size w w' := by
 have hnb : blockNew k n = if blockOk ⟨k, n, false, false, 0⟩ then ⟨k, n, false, false, 0⟩ else noB := by
  unfold blockNew
  have : blockOk ⟨k, n, false, false, 0⟩ = numB k n := by
   unfold blockOk
   simp only
   cases h : numB k n
   ·rfl
   ·unfold numB at h ⊢
    simp only [Bool.and_eq_true, decide_eq_true_eq] at h
    simp; omega
  rw [this]
 rw [hnb]
 clear hnb
 have hOk := fun u => iBlockOk_any u ⟨k, n, false, false, 0⟩
 cases hbo : blockOk ⟨k, n, false, false, 0⟩
 all_goals
  rw [hbo] at hOk
  simp only [Bool.false_eq_true, reduceIte]
  go_enter Tryz.func155, Tryz.ntmps155
  go_wp2_with (refine wpList_allocB rfl rfl ?_)
  intro u1 g1 q1 s1
  go_wp2_with (refine wpList_allocB rfl rfl ?_)
  intro u2 g2 p2 s2
  have q2 := q1.below g2 (by omega)
  go_wp2_with (refine wpList_storeB (b := ⟨k, n, false, false, 0⟩) rfl _ _ rfl rfl rfl p2 ?_)
  intro u3 L3
  have z3 := L3.size
  have q3 := L3.other q2 (by omega)
  have p3 := L3.cell
  have G3 := (g1.trans (g2.mono (by omega))).trans (L3.below.mono (by omega))
  clear g1 g2 q1 q2 p2 L3
  go_wp2_with (refine wpList_loadB rfl _ rfl rfl p3 ?_)
  refine (hOk _).mono ?_
  clear hOk
  rintro e4 u4 ⟨rfl, g4⟩
  have s4 := g4.size
  have q4 := q3.below g4 (by omega)
  have p4 := p3.below g4 (by omega)
  have G4 := G3.trans (g4.mono (by omega))
  clear q3 p3 g4 G3
  go_wp2_with (first | refine wpList_loadB rfl _ rfl rfl p4 ?_ | refine wpList_storeB (b := noB) rfl _ _ rfl rfl rfl q4 ?_ | refine wpList_storeB rfl _ _ rfl rfl rfl q4 ?_)
  intro u6 L6
  go_wp2
  obtain ⟨r0, r1, r2, r3, r4, _⟩ := L6.cell
  first
   | (refine bodyPost_ret (v := noB.val) ?_ rfl ⟨rfl, G4.trans (L6.below.mono (by omega))⟩; simp [results, Tryz.results155, go_sem, r0, r1, r2, r3, r4, BlockD.val]; done)
   | (refine bodyPost_ret (v := BlockD.val ⟨k, n, false, false, 0⟩) ?_ rfl ⟨rfl, G4.trans (L6.below.mono (by omega))⟩; simp [results, Tryz.results155, go_sem, r0, r1, r2, r3, r4, BlockD.val])

end Go.Proofs.YtaoiookfmgpmkaaGreatDoor
