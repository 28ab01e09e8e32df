/-
  Steps of a walk inside a fence (a range over a function) that load, make and store an element of several cells; contracts of functions inside one.
-/
import Derived.Test.YtokphdpaghkakaaGreatM1
import Derived.RangeFuncBox
import Derived.RangeFuncLeaves
import Derived.Shelf.Abstract
import Derived.WalkKit
import Derived.OwnWalkIn
import Derived.TacticsInMore
import Derived.LoopNIn
import Derived.LoopIn
namespace Go.Proofs.YtokphdpaghkakaaGreat
open Go.ChangeShapes Go.WideShapes Go.ChangeAt Go.RowKit Go.Shelf
set_option linter.unusedVariables false
set_option linter.unusedSimpArgs false

section
variable {F : Fence} {n : Nat} {P : Program} {ops : Array Oper} {rest : List Oper} {o : Oper} {a : Act} {Q : Exit → Act → World → Prop} {w : World}

theorem wpListIn_loadG {T k : Nat} (hA : ∀ w, (isAgg T).run P w = .ok true w) (hS : ∀ w, (Go.sizeOf T).run P w = .ok k w) (p : Operand) (hop : o.op = Op.load T p) (hg : o.guard = none) {B x : Nat} {vs : List Value} (hp : a.eval p = .pointer (some ⟨B, x, none⟩)) (hn : vs.length = k) (hb : CV w B x vs)
    (hK : wpListIn F n P ops Q rest (a.put o.dst (.agg vs.toArray)) w) : wpListIn F n P ops Q (o :: rest) a w := by
  refine wpListIn_plain hg fun K hK' => ?_
  unfold Oper.wpIn
  refine ⟨?_, ?_⟩
  · simp [Oper.about, hop]
  · rw [Oper.semAt_plain F _ _ (by rw [hop]; intro c hc'; cases hc')]
    simp only [execOp, hop, hp, Instr.loadAt, Instr.sureAddr, Sem.run_bind, Sem.run_pure, Result.andThen_ok, run_loadVarG hA hS hn hb]
    exact hK' _ _ hK

theorem wpListIn_storeG {T k : Nat} (hS : ∀ w, (Go.sizeOf T).run P w = .ok k w) (p v : Operand) (hop : o.op = Op.store T p v) (hg : o.guard = none) {B x : Nat} {vs : List Value} (hp : a.eval p = .pointer (some ⟨B, x, none⟩)) (hv : a.eval v = .agg vs.toArray) (hn : vs.length = k) (h1 : ∀ v ∈ vs, v.oneCell' = true)
    (hs : ∀ y, x ≤ y → y < x + vs.length → (w.cell? ⟨B, y, none⟩).isSome = true) (hf : ∀ y, x ≤ y → y < x + vs.length → w.frozen? ⟨B, y, none⟩ = false)
    (hK : ∀ u1, LaidG w u1 B x vs → wpListIn F n P ops Q rest (a.put o.dst undef) u1) : wpListIn F n P ops Q (o :: rest) a w := by
  refine wpListIn_plain hg fun K hK' => ?_
  unfold Oper.wpIn
  refine ⟨?_, ?_⟩
  · simp [Oper.about, hop]
  · rw [Oper.semAt_plain F _ _ (by rw [hop]; intro c hc'; cases hc')]
    simp only [execOp, hop, hp, hv, Instr.storeAt, Instr.sureAddr, Sem.run_bind, Sem.run_pure, Result.andThen_ok, run_storeVarG hS hn h1 hs hf]
    exact hK' _ _ (hK _ (laidG vs hs))

theorem wpListIn_allocG {T : Nat} {zs : List Value} (hZ : ∀ w, (zeroValue T).run P w = .ok (.agg zs.toArray) w) (hop : o.op = Op.alloc T) (hg : o.guard = none)
    (hK : ∀ u1, Below w.heap.size w u1 → VarG u1 w.heap.size zs → u1.heap.size = w.heap.size + 1 → wpListIn F n P ops Q rest (a.put o.dst (.pointer (some ⟨w.heap.size, 0, none⟩))) u1) : wpListIn F n P ops Q (o :: rest) a w := by
  have h := hK (w.alloc (.cells zs.toArray T)) ((Below.refl _ _).alloc (Nat.le_refl _) _) (varG_new w zs T) (by simp)
  have e : (Value.agg zs.toArray).cells = zs.toArray := rfl
  refine wpListIn_plain hg fun K hK' => ?_
  unfold Oper.wpIn
  refine ⟨?_, ?_⟩
  · simp [Oper.about, hop]
  · rw [Oper.semAt_plain F _ _ (by rw [hop]; intro c hc'; cases hc')]
    simp only [execOp, hop]
    simp [Instr.alloc, hZ, newVar, newRow, go_sem, e]
    exact hK' _ _ h
end

theorem grown_of_below {w w' : World} (h : Below w.heap.size w w') : w.grownBy w' none := ⟨h.os, h.tape, h.output, h.size, fun k hk _ => h.block k hk⟩
end Go.Proofs.YtokphdpaghkakaaGreat
