/-
  Steps of a walk over variables that hold a block: boxed, made, loaded, stored, one part stored.
-/
import Derived.Test.YtaoiookfmgpmkaaGreatDoorBlockSpec
import Derived.Laws.ResultCell
import Derived.Laws.IdiomCopy
namespace Go.Proofs.YtaoiookfmgpmkaaGreatDoor
open Go.ChangeShapes Go.WideShapes Go.ChangeAt Go.RowKit
set_option linter.unusedVariables false
set_option maxRecDepth 100000

/-- The cells of a block. -/
def bl (b : BlockD) : List Value := [.int .i64 b.kind, .int .i64 b.n, .bool b.on, .bool b.was, .int .i64 b.t]

theorem val_bl (b : BlockD) : b.val = .agg (bl b).toArray := rfl
theorem val_cells (b : BlockD) : b.val.cells = (bl b).toArray := rfl
theorem badd (B j : Nat) : (⟨B, 0, none⟩ : Go.Addr).add j = ⟨B, j, none⟩ := by unfold Go.Addr.add; split <;> simp_all

theorem CellB.at5 {w : World} {B : Nat} {b : BlockD} (h : CellB w B b) {j : Nat} (hj : j < 5) : w.cell? ⟨B, j, none⟩ = (bl b)[j]? := by
  match j, hj with
  | 0, _ => exact h.c0
  | 1, _ => exact h.c1
  | 2, _ => exact h.c2
  | 3, _ => exact h.c3
  | 4, _ => exact h.c4

theorem run_loadVarB {w : World} {B : Nat} {b : BlockD} (h : CellB w B b) : (loadVar 165 ⟨B, 0, none⟩).run Tryz.prog w = .ok b.val w := by
  have hl := run_loadCells_list (P := Tryz.prog) w ⟨B, 0, none⟩ (bl b) (fun j v hv => by
    have hj : j < 5 := (List.getElem?_eq_some_iff.mp hv).1
    rw [badd, h.at5 hj]
    exact hv)
  rw [show (bl b).length = 5 from rfl] at hl
  simp only [loadVar, Sem.run_bind, Tryz.isAgg165, Tryz.sizeOf165, Result.andThen_ok, if_true, hl, Sem.run_pure]
  rfl

/-- What a store of a block leaves. -/
structure Laid (w u : World) (B : Nat) (b : BlockD) : Prop where
  cell : CellB u B b
  size : u.heap.size = w.heap.size
  below : Below B w u
  block : ∀ k, k ≠ B → u.heap[k]? = w.heap[k]?

theorem Laid.other {w u : World} {B C : Nat} {b c : BlockD} (h : Laid w u B b) (hc : CellB w C c) (hne : C ≠ B) : CellB u C c := hc.at_ (h.block C hne)

theorem laid_store {w : World} {B : Nat} {b0 : BlockD} (h : CellB w B b0) (b : BlockD) :
    Laid w (((((w.setCell ⟨B, 0, none⟩ (.int .i64 b.kind)).setCell ⟨B, 1, none⟩ (.int .i64 b.n)).setCell ⟨B, 2, none⟩ (.bool b.on)).setCell ⟨B, 3, none⟩ (.bool b.was)).setCell ⟨B, 4, none⟩ (.int .i64 b.t)) B b := by
  refine ⟨cellB_store h b, by simp only [World.size_setCell], ?_, fun k hk => ?_⟩
  · exact (((((Below.refl B w).setCell (p := ⟨B, 0, none⟩) (Nat.le_refl _) _).setCell (p := ⟨B, 1, none⟩) (Nat.le_refl _) _).setCell (p := ⟨B, 2, none⟩) (Nat.le_refl _) _).setCell (p := ⟨B, 3, none⟩) (Nat.le_refl _) _).setCell (p := ⟨B, 4, none⟩) (Nat.le_refl _) _
  · rw [Below.heap_setCell _ _ _ _ hk, Below.heap_setCell _ _ _ _ hk, Below.heap_setCell _ _ _ _ hk, Below.heap_setCell _ _ _ _ hk, Below.heap_setCell _ _ _ _ hk]

theorem laid_one {w : World} {B : Nat} {b0 : BlockD} (h : CellB w B b0) {i : Nat} {v : Value} {b : BlockD} (hi : i < 5) (hb : ∀ j, j < 5 → (bl b)[j]? = if j = i then some v else (bl b0)[j]?) : Laid w (w.setCell ⟨B, i, none⟩ v) B b := by
  have hc : ∀ j, j < 5 → (w.setCell ⟨B, i, none⟩ v).cell? ⟨B, j, none⟩ = (bl b)[j]? := by
    intro j hj
    rw [hb j hj]
    by_cases e : j = i
    · rw [if_pos e, e]
      exact World.cell?_setCell_same' _ _ _ (by rw [h.at5 hi]; match i, hi with | 0, _ | 1, _ | 2, _ | 3, _ | 4, _ => rfl)
    · rw [if_neg e, cell_set_other _ (.inr e)]
      exact h.at5 hj
  refine ⟨⟨hc 0 (by omega), hc 1 (by omega), hc 2 (by omega), hc 3 (by omega), hc 4 (by omega), fun o => by rw [World.frozen?_setCell]; exact h.f o⟩, World.size_setCell _ _ _, (Below.refl B w).setCell (p := ⟨B, i, none⟩) (Nat.le_refl _) _, fun k hk => Below.heap_setCell _ _ _ _ hk⟩

theorem laid_on {w : World} {B : Nat} {b : BlockD} (h : CellB w B b) (x : Bool) : Laid w (w.setCell ⟨B, 2, none⟩ (.bool x)) B { b with on := x } :=
  laid_one h (by omega) fun j hj => by match j, hj with | 0, _ | 1, _ | 2, _ | 3, _ | 4, _ => rfl
theorem laid_was {w : World} {B : Nat} {b : BlockD} (h : CellB w B b) (x : Bool) : Laid w (w.setCell ⟨B, 3, none⟩ (.bool x)) B { b with was := x } :=
  laid_one h (by omega) fun j hj => by match j, hj with | 0, _ | 1, _ | 2, _ | 3, _ | 4, _ => rfl
theorem laid_t {w : World} {B : Nat} {b : BlockD} (h : CellB w B b) (x : Int) : Laid w (w.setCell ⟨B, 4, none⟩ (.int .i64 x)) B { b with t := x } :=
  laid_one h (by omega) fun j hj => by match j, hj with | 0, _ | 1, _ | 2, _ | 3, _ | 4, _ => rfl
theorem laid_n {w : World} {B : Nat} {b : BlockD} (h : CellB w B b) (x : Int) : Laid w (w.setCell ⟨B, 1, none⟩ (.int .i64 x)) B { b with n := x } :=
  laid_one h (by omega) fun j hj => by match j, hj with | 0, _ | 1, _ | 2, _ | 3, _ | 4, _ => rfl
theorem laid_kind {w : World} {B : Nat} {b : BlockD} (h : CellB w B b) (x : Int) : Laid w (w.setCell ⟨B, 0, none⟩ (.int .i64 x)) B { b with kind := x } :=
  laid_one h (by omega) fun j hj => by match j, hj with | 0, _ | 1, _ | 2, _ | 3, _ | 4, _ => rfl

theorem run_storeVarB {w : World} {B : Nat} {b0 : BlockD} (b : BlockD) (h : CellB w B b0) : (storeVar 165 ⟨B, 0, none⟩ b.val).run Tryz.prog w = .ok () (((((w.setCell ⟨B, 0, none⟩ (.int .i64 b.kind)).setCell ⟨B, 1, none⟩ (.int .i64 b.n)).setCell ⟨B, 2, none⟩ (.bool b.on)).setCell ⟨B, 3, none⟩ (.bool b.was)).setCell ⟨B, 4, none⟩ (.int .i64 b.t)) := by
  have hs := run_storeCells_cells (P := Tryz.prog) B 0 (bl b) 0 w (fun j hj => by
      have hj5 : j < 5 := hj
      rw [show 0 + 0 + j = j by omega, h.at5 hj5]
      match j, hj5 with | 0, _ | 1, _ | 2, _ | 3, _ | 4, _ => rfl) (fun j hj => by rw [show 0 + 0 + j = j by omega]; exact h.f j) (fun v hv => by
    simp only [bl, List.mem_cons, List.not_mem_nil, or_false] at hv
    rcases hv with rfl | rfl | rfl | rfl | rfl <;> rfl)
  have e1 : b.val.cells.size = 5 := rfl
  have e2 : b.val.cells.toList = bl b := rfl
  simp only [storeVar, Sem.run_bind, Tryz.sizeOf165, Result.andThen_ok, e1, e2]
  simp only [ne_eq, not_true_eq_false, if_false, hs]
  rfl

section
variable {ops : Array Oper} {rest : List Oper} {o : Oper} {a : Act} {Q : Exit → Act → World → Prop} {K : Act → World → Prop} {w : World}

theorem wp_loadB (p : Operand) (hop : o.op = Op.load 165 p) {B : Nat} {b : BlockD} (hp : a.eval p = .pointer (some ⟨B, 0, none⟩)) (hb : CellB w B b)
    (hK : K (a.put o.dst b.val) w) : o.wp Tryz.prog a w K Q := by
  unfold Oper.wp
  simp only [execOp, hop, hp, Instr.loadAt, Instr.sureAddr, Sem.run_bind, Sem.run_pure, Result.andThen_ok, run_loadVarB hb]
  exact hK

theorem wp_storeB (p v : Operand) (hop : o.op = Op.store 165 p v) {B : Nat} {b0 b : BlockD} (hp : a.eval p = .pointer (some ⟨B, 0, none⟩)) (hv : a.eval v = b.val) (hz : CellB w B b0)
    (hK : ∀ u1, Laid w u1 B b → K (a.put o.dst undef) u1) : o.wp Tryz.prog a w K Q := by
  unfold Oper.wp
  simp only [execOp, hop, hp, hv, Instr.storeAt, Instr.sureAddr, Sem.run_bind, Sem.run_pure, Result.andThen_ok, run_storeVarB b hz]
  exact hK _ (laid_store hz b)

theorem wp_boxB (x : Operand) (hop : o.op = Op.box 165 x) {b : BlockD} (hx : a.eval x = b.val)
    (hK : ∀ u1, Below w.heap.size w u1 → CellB u1 w.heap.size b → u1.heap.size = w.heap.size + 1 → K (a.put o.dst (.pointer (some ⟨w.heap.size, 0, none⟩))) u1) : o.wp Tryz.prog a w K Q := by
  have h := hK (w.alloc (.cells (bl b).toArray 165)) ((Below.refl _ _).alloc (Nat.le_refl _) _) (cellB_new w b 165) (by simp)
  unfold Oper.wp
  simp only [execOp, hop, hx, Instr.box, newVar, val_cells]
  simp [newRow, Result.andThen]
  exact h

theorem wp_allocB (hop : o.op = Op.alloc 165)
    (hK : ∀ u1, Below w.heap.size w u1 → CellB u1 w.heap.size noB → u1.heap.size = w.heap.size + 1 → K (a.put o.dst (.pointer (some ⟨w.heap.size, 0, none⟩))) u1) : o.wp Tryz.prog a w K Q := by
  have h := hK (w.alloc (.cells (bl noB).toArray 165)) ((Below.refl _ _).alloc (Nat.le_refl _) _) (cellB_new w noB 165) (by simp)
  unfold Oper.wp
  simp [execOp, hop, go_sem]
  exact h

theorem wpList_loadB (hg : o.guard = none) (p : Operand) (hop : o.op = Op.load 165 p) {B : Nat} {b : BlockD} (hp : a.eval p = .pointer (some ⟨B, 0, none⟩)) (hb : CellB w B b)
    (hK : wpList Tryz.prog ops Q rest (a.put o.dst b.val) w) : wpList Tryz.prog ops Q (o :: rest) a w :=
  wpList_plain hg fun K hK' => wp_loadB p hop hp hb (hK' _ _ hK)

theorem wpList_storeB (hg : o.guard = none) (p v : Operand) (hop : o.op = Op.store 165 p v) {B : Nat} {b0 b : BlockD} (hp : a.eval p = .pointer (some ⟨B, 0, none⟩)) (hv : a.eval v = b.val) (hz : CellB w B b0)
    (hK : Hid (∀ u1, Laid w u1 B b → wpList Tryz.prog ops Q rest (a.put o.dst undef) u1)) : wpList Tryz.prog ops Q (o :: rest) a w :=
  wpList_plain hg fun K hK' => wp_storeB p v hop hp hv hz fun u1 h1 => hK' _ _ (hK.out u1 h1)

theorem wpList_boxB (hg : o.guard = none) (x : Operand) (hop : o.op = Op.box 165 x) {b : BlockD} (hx : a.eval x = b.val)
    (hK : Hid (∀ u1, Below w.heap.size w u1 → CellB u1 w.heap.size b → u1.heap.size = w.heap.size + 1 → wpList Tryz.prog ops Q rest (a.put o.dst (.pointer (some ⟨w.heap.size, 0, none⟩))) u1)) : wpList Tryz.prog ops Q (o :: rest) a w :=
  wpList_plain hg fun K hK' => wp_boxB x hop hx fun u1 h1 h2 h3 => hK' _ _ (hK.out u1 h1 h2 h3)

theorem wpList_allocB (hg : o.guard = none) (hop : o.op = Op.alloc 165)
    (hK : Hid (∀ u1, Below w.heap.size w u1 → CellB u1 w.heap.size noB → u1.heap.size = w.heap.size + 1 → wpList Tryz.prog ops Q rest (a.put o.dst (.pointer (some ⟨w.heap.size, 0, none⟩))) u1)) : wpList Tryz.prog ops Q (o :: rest) a w :=
  wpList_plain hg fun K hK' => wp_allocB hop fun u1 h1 h2 h3 => hK' _ _ (hK.out u1 h1 h2 h3)
end

/-- The zero value built, or one of a kind and a number. -/
theorem build_noB : ∀ w : World, (Instr.build 165 #[]).run Tryz.prog w = .ok noB.val w := fun _ => by kernel_rfl
end Go.Proofs.YtaoiookfmgpmkaaGreatDoor
