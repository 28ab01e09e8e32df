import Derived.Test.YtaoiookfmgpmkaaGreatDoorQM4
import Derived.Test.YtaoiookfmgpmkaaGreatDoorQM16
import Derived.Test.YtaoiookfmgpmkaaGreatDoorQM1
import Derived.Test.YtaoiookfmgpmkaaGreatDoorQM2
import Derived.Deep.RegionLawGrows
import Derived.Deep.Upon
import Derived.Lib.SliceRun
import Derived.Test.YtaoiookfmgpmkaaGreatDoorQM14
import Derived.Laws.Cover3
import Derived.Laws.StructEq
import Derived.ChangeKeysEq
import Derived.Laws.ResultCell
import Derived.Laws.IdiomCopy

/-
 A region that draws its order and makes a memory: three lists, each by a call that makes new memory, built into a struct and stored at its end.
-/
namespace Go.Proofs.YtaoiookfmgpmkaaGreatDoor
open Go.ChangeShapes Go.WideShapes Go.ChangeAt Go.RowKit
set_option linter.unusedVariables false

theorem OI.grow {u u' : World} {lo : Nat} {v : Value} {xs : List Int} (h : OI u lo u.heap.size v xs) (hg : Grow u u') : OI u' lo u'.heap.size v xs :=
 (h.below hg (Nat.le_refl _)).wide (Nat.le_refl _) hg.size

theorem MO.grow {u u' : World} {lo : Nat} {v : Value} {d : MemD} (h : MO u lo u.heap.size v d) (hg : Grow u u') : MO u' lo u'.heap.size v d := by
 obtain ⟨a, b, c, hm, h1, h2, h3, h4⟩ := h
 exact ⟨a, b, c, hm, h1.grow hg, h2.grow hg, h3.grow hg, h4⟩

structure Mem3J (d : MemD) (n0 i1 i2 i3 iB : Nat) (r1 r2 r3 rB : Tmp) (L : Array Bool) (a : Act) (u : World) : Prop where
 o1 : L.getD i1 true = true → OI u n0 u.heap.size (a.tmps.getD r1 undef) d.i
 o2 : L.getD i2 true = true → OI u n0 u.heap.size (a.tmps.getD r2 undef) d.o
 o3 : L.getD i3 true = true → OI u n0 u.heap.size (a.tmps.getD r3 undef) d.v
 p12 : L.getD i1 true = true → L.getD i2 true = true → Apart (a.tmps.getD r1 undef) d.i.length (a.tmps.getD r2 undef) d.o.length
 p13 : L.getD i1 true = true → L.getD i3 true = true → Apart (a.tmps.getD r1 undef) d.i.length (a.tmps.getD r3 undef) d.v.length
 p23 : L.getD i2 true = true → L.getD i3 true = true → Apart (a.tmps.getD r2 undef) d.o.length (a.tmps.getD r3 undef) d.v.length
 b : L.getD iB true = true → MO u n0 u.heap.size (a.tmps.getD rB undef) d

section
variable {P : Program} {ops : Array Oper} {Q : Exit → Act → World → Prop} {a0 : Act} {w0 : World} {Φ : Nat → Value → World → Prop}

end
end Go.Proofs.YtaoiookfmgpmkaaGreatDoor

/-
 A memory in three arrays (impl.cells), copied out into three new lists; a memory of zeros, of the program and of the model.
-/
namespace Go.Proofs.YtaoiookfmgpmkaaGreatDoor
open Go.ChangeShapes Go.WideShapes Go.ChangeAt Go.RowKit
set_option linter.unusedVariables false
set_option maxRecDepth 100000

def cv (f : Nat → Int) : Value := .agg #[.int .i64 (f 0), .int .i64 (f 1), .int .i64 (f 2), .int .i64 (f 3), .int .i64 (f 4), .int .i64 (f 5), .int .i64 (f 6), .int .i64 (f 7), .int .i64 (f 8), .int .i64 (f 9), .int .i64 (f 10), .int .i64 (f 11), .int .i64 (f 12), .int .i64 (f 13), .int .i64 (f 14), .int .i64 (f 15), .int .i64 (f 16), .int .i64 (f 17)]

def memOf (f : Nat → Int) : MemD := ⟨[f 0, f 1, f 2, f 3, f 4, f 5], [f 6, f 7, f 8, f 9, f 10, f 11], [f 12, f 13, f 14, f 15, f 16, f 17]⟩

end Go.Proofs.YtaoiookfmgpmkaaGreatDoor

/-
 Memory in three arrays of six numbers (impl.cells), as a variable of eighteen cells: read, stored.
-/
namespace Go.Proofs.YtaoiookfmgpmkaaGreatDoor
open Go.ChangeShapes Go.WideShapes Go.ChangeAt Go.RowKit
set_option linter.unusedVariables false
set_option maxRecDepth 100000

def Box18 (u : World) (B : Nat) (g : Nat → Int) : Prop := ∀ j, j < 18 → u.cell? ⟨B, j, none⟩ = some (.int .i64 (g j))

theorem Box18.all {u : World} {B : Nat} {g : Nat → Int} (h : Box18 u B g) : u.cell? ⟨B, 0, none⟩ = some (.int .i64 (g 0)) ∧ u.cell? ⟨B, 1, none⟩ = some (.int .i64 (g 1)) ∧ u.cell? ⟨B, 2, none⟩ = some (.int .i64 (g 2)) ∧ u.cell? ⟨B, 3, none⟩ = some (.int .i64 (g 3)) ∧ u.cell? ⟨B, 4, none⟩ = some (.int .i64 (g 4)) ∧ u.cell? ⟨B, 5, none⟩ = some (.int .i64 (g 5)) ∧ u.cell? ⟨B, 6, none⟩ = some (.int .i64 (g 6)) ∧ u.cell? ⟨B, 7, none⟩ = some (.int .i64 (g 7)) ∧ u.cell? ⟨B, 8, none⟩ = some (.int .i64 (g 8)) ∧ u.cell? ⟨B, 9, none⟩ = some (.int .i64 (g 9)) ∧ u.cell? ⟨B, 10, none⟩ = some (.int .i64 (g 10)) ∧ u.cell? ⟨B, 11, none⟩ = some (.int .i64 (g 11)) ∧ u.cell? ⟨B, 12, none⟩ = some (.int .i64 (g 12)) ∧ u.cell? ⟨B, 13, none⟩ = some (.int .i64 (g 13)) ∧ u.cell? ⟨B, 14, none⟩ = some (.int .i64 (g 14)) ∧ u.cell? ⟨B, 15, none⟩ = some (.int .i64 (g 15)) ∧ u.cell? ⟨B, 16, none⟩ = some (.int .i64 (g 16)) ∧ u.cell? ⟨B, 17, none⟩ = some (.int .i64 (g 17)) :=
 ⟨h 0 (by omega), h 1 (by omega), h 2 (by omega), h 3 (by omega), h 4 (by omega), h 5 (by omega), h 6 (by omega), h 7 (by omega), h 8 (by omega), h 9 (by omega), h 10 (by omega), h 11 (by omega), h 12 (by omega), h 13 (by omega), h 14 (by omega), h 15 (by omega), h 16 (by omega), h 17 (by omega)⟩

theorem Box18.below {u u' : World} {B n : Nat} {g : Nat → Int} (h : Box18 u B g) (hb : Below n u u') (hB : B < n) : Box18 u' B g := fun j hj => by
 rw [hb.cell (p := ⟨B, j, none⟩) hB]; exact h j hj

theorem Box18.zero {u : World} {B : Nat} {g : Nat → Int} (h : Box18 u B g) (hf : ∀ j, j < 18 → u.frozen? ⟨B, j, none⟩ = false) : Zero 18 u B := fun j hj => ⟨by rw [h j hj]; rfl, hf j hj⟩

theorem box18_new (u : World) (f : Nat → Int) (t : TypeId) : Box18 (u.alloc (.cells #[.int .i64 (f 0), .int .i64 (f 1), .int .i64 (f 2), .int .i64 (f 3), .int .i64 (f 4), .int .i64 (f 5), .int .i64 (f 6), .int .i64 (f 7), .int .i64 (f 8), .int .i64 (f 9), .int .i64 (f 10), .int .i64 (f 11), .int .i64 (f 12), .int .i64 (f 13), .int .i64 (f 14), .int .i64 (f 15), .int .i64 (f 16), .int .i64 (f 17)] t)) u.heap.size f := fun j hj => by
 rw [World.cell?_alloc_new]
 rcases j with _ | _ | _ | _ | _ | _ | _ | _ | _ | _ | _ | _ | _ | _ | _ | _ | _ | _ | j
 ·rfl
 ·rfl
 ·rfl
 ·rfl
 ·rfl
 ·rfl
 ·rfl
 ·rfl
 ·rfl
 ·rfl
 ·rfl
 ·rfl
 ·rfl
 ·rfl
 ·rfl
 ·rfl
 ·rfl
 ·rfl
 ·omega

theorem zero18_new (u : World) (f : Nat → Int) (t : TypeId) : Zero 18 (u.alloc (.cells #[.int .i64 (f 0), .int .i64 (f 1), .int .i64 (f 2), .int .i64 (f 3), .int .i64 (f 4), .int .i64 (f 5), .int .i64 (f 6), .int .i64 (f 7), .int .i64 (f 8), .int .i64 (f 9), .int .i64 (f 10), .int .i64 (f 11), .int .i64 (f 12), .int .i64 (f 13), .int .i64 (f 14), .int .i64 (f 15), .int .i64 (f 16), .int .i64 (f 17)] t)) u.heap.size :=
 (box18_new u f t).zero fun j hj => World.frozen?_alloc_new _ _ _ _

def setAll (u : World) (B : Nat) (f : Nat → Int) : Nat → World
 | 0 => u
 | n + 1 => (setAll u B f n).setCell ⟨B, n, none⟩ (.int .i64 (f n))

theorem setAll_wrote (u : World) (B : Nat) (f : Nat → Int) : ∀ n, Wrote (fun b o => b = B) u (setAll u B f n)
 | 0 => Wrote.refl _ _
 | n + 1 => (setAll_wrote u B f n).setCell (P := fun b o => b = B) (b := B) (o := n) rfl _

theorem setAll_cell {u : World} {B : Nat} {f : Nat → Int} : ∀ n, (∀ j, j < n → (u.cell? ⟨B, j, none⟩).isSome = true) →
  (∀ j, j < n → (setAll u B f n).cell? ⟨B, j, none⟩ = some (.int .i64 (f j))) ∧ ∀ j, n ≤ j → (setAll u B f n).cell? ⟨B, j, none⟩ = u.cell? ⟨B, j, none⟩
 | 0, _ => ⟨fun j hj => by omega, fun _ _ => rfl⟩
 | n + 1, h => by
  obtain ⟨h1, h2⟩ := setAll_cell (f := f) n fun j hj => h j (by omega)
  refine ⟨fun j hj => ?_, fun j hj => ?_⟩
  ·by_cases e : j = n
   ·subst e
    obtain ⟨x, hx⟩ := Option.isSome_iff_exists.mp (h j (by omega))
    exact World.cell?_setCell_same _ _ _ (by rw [h2 j (Nat.le_refl _)]; exact hx)
   ·show ((setAll u B f n).setCell ⟨B, n, none⟩ _).cell? ⟨B, j, none⟩ = _
    rw [cell_set_other _ (.inr e)]
    exact h1 j (by omega)
  ·show ((setAll u B f n).setCell ⟨B, n, none⟩ _).cell? ⟨B, j, none⟩ = _
   rw [cell_set_other _ (.inr (by omega))]
   exact h2 j (by omega)

def cellF (d : MemD) (j : Nat) : Int := ((d.i ++ d.o ++ d.v)[j]?).getD 0

theorem six_of {xs : List Int} (h : xs.length = 6) : ∃ x0 x1 x2 x3 x4 x5, xs = [x0, x1, x2, x3, x4, x5] := by
 match xs, h with
 | [x0, x1, x2, x3, x4, x5], _ => exact ⟨x0, x1, x2, x3, x4, x5, rfl⟩

theorem memOf_cellF {d : MemD} (h1 : d.i.length = 6) (h2 : d.o.length = 6) (h3 : d.v.length = 6) : memOf (cellF d) = d := by
 obtain ⟨i, o, v⟩ := d
 obtain ⟨a0, a1, a2, a3, a4, a5, rfl⟩ := six_of h1
 obtain ⟨b0, b1, b2, b3, b4, b5, rfl⟩ := six_of h2
 obtain ⟨c0, c1, c2, c3, c4, c5, rfl⟩ := six_of h3
 rfl

theorem cellF_i {d : MemD} (h1 : d.i.length = 6) (h2 : d.o.length = 6) (h3 : d.v.length = 6) : d.i = [cellF d 0, cellF d 1, cellF d 2, cellF d 3, cellF d 4, cellF d 5] ∧ d.o = [cellF d 6, cellF d 7, cellF d 8, cellF d 9, cellF d 10, cellF d 11] ∧ d.v = [cellF d 12, cellF d 13, cellF d 14, cellF d 15, cellF d 16, cellF d 17] := by
 have h := memOf_cellF h1 h2 h3
 exact ⟨congrArg MemD.i h.symm, congrArg MemD.o h.symm, congrArg MemD.v h.symm⟩

theorem si_six {w : World} {lo hi : Nat} {v : Value} {x0 x1 x2 x3 x4 x5 : Int} (h : SI w lo hi v [x0, x1, x2, x3, x4, x5]) :
  ∃ b off cap, v = .slice (some ⟨b, off, none⟩) 6 cap ∧ b < hi ∧ w.cell? ⟨b, off, none⟩ = some (.int .i64 x0) ∧ w.cell? ⟨b, off + 1, none⟩ = some (.int .i64 x1) ∧ w.cell? ⟨b, off + 2, none⟩ = some (.int .i64 x2) ∧ w.cell? ⟨b, off + 3, none⟩ = some (.int .i64 x3) ∧ w.cell? ⟨b, off + 4, none⟩ = some (.int .i64 x4) ∧ w.cell? ⟨b, off + 5, none⟩ = some (.int .i64 x5) := by
 obtain ⟨a, cap, rfl, h1, h2, h3⟩ := h
 rcases h3 with h0 | ⟨b, off, rfl, _, hb, hc⟩
 ·cases h0
 ·exact ⟨b, off, cap, rfl, hb, hc 0 x0 rfl, hc 1 x1 rfl, hc 2 x2 rfl, hc 3 x3 rfl, hc 4 x4 rfl, hc 5 x5 rfl⟩

def fits (d : MemD) : Bool := decide (d.i.length = 6) && decide (d.o.length = 6) && decide (d.v.length = 6)

end Go.Proofs.YtaoiookfmgpmkaaGreatDoor

/-
 Steps of a walk over variables of eighteen numbers (impl.cells): boxed, made, loaded, stored, compared.
-/
namespace Go.Proofs.YtaoiookfmgpmkaaGreatDoor
open Go.ChangeShapes Go.WideShapes Go.ChangeAt Go.RowKit
set_option linter.unusedVariables false
set_option maxRecDepth 100000

def cl (f : Nat → Int) : List Value := (List.range 18).map fun j => .int .i64 (f j)

theorem cv_cl (f : Nat → Int) : cv f = .agg (cl f).toArray := rfl
theorem cv_cells (f : Nat → Int) : (cv f).cells = (cl f).toArray := rfl
theorem cl_length (f : Nat → Int) : (cl f).length = 18 := rfl
theorem cl_at {f : Nat → Int} {j : Nat} (h : j < 18) : (cl f)[j]? = some (.int .i64 (f j)) := by simp [cl, h]

theorem addr_add (B j : Nat) : (⟨B, 0, none⟩ : Go.Addr).add j = ⟨B, j, none⟩ := by unfold Go.Addr.add; split <;> simp_all

theorem run_loadVar18 {w : World} {B : Nat} {g : Nat → Int} (h : Box18 w B g) : (loadVar 157 ⟨B, 0, none⟩).run Tryz.prog w = .ok (cv g) w := by
 have hl := run_loadCells_list (P := Tryz.prog) w ⟨B, 0, none⟩ (cl g) (fun j v hv => by
  have hj : j < 18 := by have := (List.getElem?_eq_some_iff.mp hv).1; rwa [cl_length] at this
  rw [cl_at hj] at hv
  rw [addr_add, h j hj]
  exact hv)
 rw [cl_length] at hl
 simp only [loadVar, Sem.run_bind, Tryz.isAgg157, Tryz.sizeOf157, Result.andThen_ok, if_true, hl, Sem.run_pure]
 rfl

theorem run_storeVar18 {w : World} {B : Nat} (f : Nat → Int) (h : Zero 18 w B) : (storeVar 157 ⟨B, 0, none⟩ (cv f)).run Tryz.prog w = .ok () (setAll w B f 18) := by
 have hs := run_storeCells_cells (P := Tryz.prog) B 0 (cl f) 0 w (fun j hj => by rw [cl_length] at hj; simpa using (h j hj).1) (fun j hj => by rw [cl_length] at hj; simpa using (h j hj).2) (fun v hv => by
  obtain ⟨j, _, rfl⟩ := List.mem_map.mp hv; rfl)
 have e1 : (cv f).cells.size = 18 := rfl
 have e2 : (cv f).cells.toList = cl f := rfl
 simp only [storeVar, Sem.run_bind, Tryz.sizeOf157, Result.andThen_ok, e1, e2]
 simp only [ne_eq, not_true_eq_false, if_false, hs]
 rfl

section
variable {ops : Array Oper} {rest : List Oper} {o : Oper} {a : Act} {Q : Exit → Act → World → Prop} {K : Act → World → Prop} {w : World}

theorem wp_load18 (p : Operand) (hop : o.op = Op.load 157 p) {B : Nat} {g : Nat → Int} (hp : a.eval p = .pointer (some ⟨B, 0, none⟩)) (hb : Box18 w B g)
  (hK : K (a.put o.dst (cv g)) w) : o.wp Tryz.prog a w K Q := by
 unfold Oper.wp
 simp only [execOp, hop, hp, Instr.loadAt, Instr.sureAddr, Sem.run_bind, Sem.run_pure, Result.andThen_ok, run_loadVar18 hb]
 exact hK

theorem wp_store18 (p v : Operand) (hop : o.op = Op.store 157 p v) {B : Nat} {f : Nat → Int} (hp : a.eval p = .pointer (some ⟨B, 0, none⟩)) (hv : a.eval v = cv f) (hz : Zero 18 w B)
  (hK : ∀ u1, Wrote (fun b o => b = B) w u1 → Box18 u1 B f → Zero 18 u1 B → K (a.put o.dst undef) u1) : o.wp Tryz.prog a w K Q := by
 unfold Oper.wp
 simp only [execOp, hop, hp, hv, Instr.storeAt, Instr.sureAddr, Sem.run_bind, Sem.run_pure, Result.andThen_ok, run_storeVar18 f hz]
 have hW := setAll_wrote w B f 18
 have hX := (setAll_cell (u := w) (B := B) (f := f) 18 fun j hj => (hz j hj).1).1
 exact hK _ hW hX (Box18.zero hX fun j hj => by rw [hW.frozen]; exact (hz j hj).2)

theorem wp_box18 (x : Operand) (hop : o.op = Op.box 157 x) {f : Nat → Int} (hx : a.eval x = cv f)
  (hK : ∀ u1, Grow w u1 → Box18 u1 w.heap.size f → Zero 18 u1 w.heap.size → u1.heap.size = w.heap.size + 1 → K (a.put o.dst (.pointer (some ⟨w.heap.size, 0, none⟩))) u1) : o.wp Tryz.prog a w K Q := by
 have h := hK (w.alloc (.cells (cl f).toArray 157)) ((Below.refl _ _).alloc (Nat.le_refl _) _) (box18_new w f 157) (zero18_new w f 157) (by simp)
 unfold Oper.wp
 simp only [execOp, hop, hx, Instr.box, newVar, cv_cells]
 simp [newRow, Result.andThen]
 exact h

theorem wp_alloc18 (hop : o.op = Op.alloc 157)
  (hK : ∀ u1, Grow w u1 → Zero 18 u1 w.heap.size → u1.heap.size = w.heap.size + 1 → K (a.put o.dst (.pointer (some ⟨w.heap.size, 0, none⟩))) u1) : o.wp Tryz.prog a w K Q := by
 have h := hK (w.alloc (.cells (cl fun _ => 0).toArray 157)) ((Below.refl _ _).alloc (Nat.le_refl _) _) (zero18_new w (fun _ => 0) 157) (by simp)
 unfold Oper.wp
 simp [execOp, hop, go_sem]
 exact h

theorem wpList_load18 (hg : o.guard = none) (p : Operand) (hop : o.op = Op.load 157 p) {B : Nat} {g : Nat → Int} (hp : a.eval p = .pointer (some ⟨B, 0, none⟩)) (hb : Box18 w B g)
  (hK : wpList Tryz.prog ops Q rest (a.put o.dst (cv g)) w) : wpList Tryz.prog ops Q (o :: rest) a w :=
 wpList_plain hg fun K hK' => wp_load18 p hop hp hb (hK' _ _ hK)

theorem wpList_store18 (hg : o.guard = none) (p v : Operand) (hop : o.op = Op.store 157 p v) {B : Nat} {f : Nat → Int} (hp : a.eval p = .pointer (some ⟨B, 0, none⟩)) (hv : a.eval v = cv f) (hz : Zero 18 w B)
  (hK : Hid (∀ u1, Wrote (fun b o => b = B) w u1 → Box18 u1 B f → Zero 18 u1 B → wpList Tryz.prog ops Q rest (a.put o.dst undef) u1)) : wpList Tryz.prog ops Q (o :: rest) a w :=
 wpList_plain hg fun K hK' => wp_store18 p v hop hp hv hz fun u1 h1 h2 h3 => hK' _ _ (hK.out u1 h1 h2 h3)

theorem wpList_box18 (hg : o.guard = none) (x : Operand) (hop : o.op = Op.box 157 x) {f : Nat → Int} (hx : a.eval x = cv f)
  (hK : Hid (∀ u1, Grow w u1 → Box18 u1 w.heap.size f → Zero 18 u1 w.heap.size → u1.heap.size = w.heap.size + 1 → wpList Tryz.prog ops Q rest (a.put o.dst (.pointer (some ⟨w.heap.size, 0, none⟩))) u1)) : wpList Tryz.prog ops Q (o :: rest) a w :=
 wpList_plain hg fun K hK' => wp_box18 x hop hx fun u1 h1 h2 h3 h4 => hK' _ _ (hK.out u1 h1 h2 h3 h4)

theorem wpList_alloc18 (hg : o.guard = none) (hop : o.op = Op.alloc 157)
  (hK : Hid (∀ u1, Grow w u1 → Zero 18 u1 w.heap.size → u1.heap.size = w.heap.size + 1 → wpList Tryz.prog ops Q rest (a.put o.dst (.pointer (some ⟨w.heap.size, 0, none⟩))) u1)) : wpList Tryz.prog ops Q (o :: rest) a w :=
 wpList_plain hg fun K hK' => wp_alloc18 hop fun u1 h1 h2 h3 => hK' _ _ (hK.out u1 h1 h2 h3)
end

def sameF (f g : Nat → Int) : Bool := (List.range 18).all fun j => f j == g j

theorem eq_int (d : Nat) (x y : Int) (w : World) : (Op.equalIn (d + 1) 3 (.int .i64 x) (.int .i64 y)).run Tryz.prog w = .ok (x == y) w := run_equalIn_int w d 3 .i64 .i64 x y Tryz.underlying3

set_option maxHeartbeats 4000000 in
theorem eq_six (d : Nat) (x0 x1 x2 x3 x4 x5 y0 y1 y2 y3 y4 y5 : Int) (w : World) :
  (Op.equalIn (d + 2) 155 (.agg #[.int .i64 x0, .int .i64 x1, .int .i64 x2, .int .i64 x3, .int .i64 x4, .int .i64 x5]) (.agg #[.int .i64 y0, .int .i64 y1, .int .i64 y2, .int .i64 y3, .int .i64 y4, .int .i64 y5])).run Tryz.prog w = .ok ((x0 == y0) && (x1 == y1) && (x2 == y2) && (x3 == y3) && (x4 == y4) && (x5 == y5)) w := by
 obtain ⟨i0, hi0, hz0, hz1, hz2⟩ := info_parts info_int
 have hc : Tryz.prog.cellsOf 3 = 1 := by kernel_rfl
 rw [run_equalIn_array w (d + 1) _ _ Tryz.underlying155 hi0, hc]
 have h := eq_int d
 have a3 := Tryz.isAgg3
 simp only [List.range, List.range.loop, Op.eqItems, part, Sem.run_bind, a3, Result.andThen_ok]
 simp [h]
 cases h0 : (x0 == y0) <;> cases h1 : (x1 == y1) <;> cases h2 : (x2 == y2) <;> cases h3 : (x3 == y3) <;> cases h4 : (x4 == y4) <;> cases h5 : (x5 == y5) <;> simp_all

set_option maxHeartbeats 4000000 in
theorem eq_cells (f g : Nat → Int) (w : World) : (Op.equalIn 10000 157 (cv f) (cv g)).run Tryz.prog w = .ok (sameF f g) w := by
 unfold cv
 rw [show (10000 : Nat) = 9999 + 1 from rfl, run_equalIn_agg w 9999 157 _ _ (by kernel_rfl) (by kernel_rfl)]
 simp only [Program.fieldsOf, Tryz.underlying157]
 have h := eq_six 9997
 have a46 := Tryz.isAgg155
 have z46 := Tryz.sizeOf155
 simp [Op.eqFields, part, a46, z46, h]
 have hs : sameF f g = decide (f 0 = g 0 ∧ f 1 = g 1 ∧ f 2 = g 2 ∧ f 3 = g 3 ∧ f 4 = g 4 ∧ f 5 = g 5 ∧ f 6 = g 6 ∧ f 7 = g 7 ∧ f 8 = g 8 ∧ f 9 = g 9 ∧ f 10 = g 10 ∧ f 11 = g 11 ∧ f 12 = g 12 ∧ f 13 = g 13 ∧ f 14 = g 14 ∧ f 15 = g 15 ∧ f 16 = g 16 ∧ f 17 = g 17) := by
  simp [sameF, List.range, List.range.loop, Bool.decide_and]
  rfl
 rw [hs]
 split
 ·rename_i hn
  congr 1
  symm
  refine decide_eq_false ?_
  rintro ⟨h0, h1, h2, h3, h4, h5, h6, h7, h8, h9, h10, h11, h12, h13, h14, h15, h16, h17⟩
  exact hn h0 h1 h2 h3 h4 h5
 ·rename_i k1
  split
  ·rename_i hn
   congr 1
   symm
   refine decide_eq_false ?_
   rintro ⟨h0, h1, h2, h3, h4, h5, h6, h7, h8, h9, h10, h11, h12, h13, h14, h15, h16, h17⟩
   exact hn h6 h7 h8 h9 h10 h11
  ·rename_i k2
   split
   ·rename_i hn
    congr 1
    symm
    refine decide_eq_false ?_
    rintro ⟨h0, h1, h2, h3, h4, h5, h6, h7, h8, h9, h10, h11, h12, h13, h14, h15, h16, h17⟩
    exact hn h12 h13 h14 h15 h16 h17
   ·rename_i k3
    congr 1
    symm
    refine decide_eq_true ?_
    simp only [Classical.not_imp, Classical.not_not] at k1 k2 k3
    obtain ⟨a0, a1, a2, a3, a4, a5⟩ := k1
    obtain ⟨b0, b1, b2, b3, b4, b5⟩ := k2
    obtain ⟨c0, c1, c2, c3, c4, c5⟩ := k3
    exact ⟨a0, a1, a2, a3, a4, a5, b0, b1, b2, b3, b4, b5, c0, c1, c2, c3, c4, c5⟩

theorem neq_cells (f g : Nat → Int) (w : World) : Sem.run Tryz.prog (binOp .neq 157 (cv f) (cv g)) w = .ok (.bool (!sameF f g)) w := by
 have h := eq_cells f g w
 rw [cv_cl, cv_cl] at *
 rw [run_neq_struct, h]
 rfl

theorem guard_cells (op : BinOp) (x y : Operand) (f g : Nat → Int) (w : World) : Sem.run Tryz.prog (eqGuard op 157 x y (cv f) (cv g)) w = .ok () w := by
 rw [cv_cl, cv_cl]
 exact run_eqGuard_agg w op 157 x y _ _ (by kernel_rfl)
end Go.Proofs.YtaoiookfmgpmkaaGreatDoor
