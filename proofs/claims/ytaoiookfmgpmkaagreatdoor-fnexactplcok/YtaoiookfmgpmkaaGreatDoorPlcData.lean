/-
  Controllers, as data and in memory: PI, one that can be read; PO, one that is owned. (Written by our generator gen_plc.py.)
-/
import Derived.Test.YtaoiookfmgpmkaaGreatDoorStmtData
import Derived.Test.YtaoiookfmgpmkaaGreatDoorNetData
import Derived.Test.YtaoiookfmgpmkaaGreatDoorChartData
import Derived.Test.YtaoiookfmgpmkaaGreatDoorStateTo
import Derived.Test.YtaoiookfmgpmkaaGreatDoorMemKit
namespace Go.Proofs.YtaoiookfmgpmkaaGreatDoor
open Go.ChangeShapes Go.WideShapes Go.ChangeAt Go.RowKit
set_option linter.unusedVariables false
set_option linter.unusedSimpArgs false
set_option maxRecDepth 100000

/-- A controller, as data. -/
structure PlcD where
  prog : List StmtD
  net : NetD
  chart : ChartD
  st : StateD
  marks : MarksD
  mem : MemD
  fault : Bool
  scans : Int

/-- How much it holds. -/
def PlcD.many (p : PlcD) : Nat := sizeL p.prog + p.net.many + p.chart.many + p.st.many + p.marks.many + p.mem.many

/-- Its fifteen cells. -/
def plcC (p : PlcD) (s a b c d e f g h i j k : Value) : List Value := [s, a, b, .int .i64 p.chart.steps, c, d, e, f, g, h, i, j, k, .bool p.fault, .int .i64 p.scans]

/-- What its cells lead to can be read. -/
structure PlcR (w : World) (lo hi : Nat) (p : PlcD) (s a b c d e f g h i j k : Value) : Prop where
  prog : SR w lo hi (s) p.prog
  net : NI w lo hi (.agg #[a, b]) p.net
  chart : HIc w lo hi (.agg #[.int .i64 p.chart.steps, c, d]) p.chart
  st : StR w lo hi (.agg #[e, f]) p.st
  marks : MkR w lo hi (.agg #[g, h]) p.marks
  mem : MI w lo hi (.agg #[i, j, k]) p.mem

def PI (w : World) (lo hi : Nat) (v : Value) (p : PlcD) : Prop := ∃ s a b c d e f g h i j k, v = .agg (plcC p s a b c d e f g h i j k).toArray ∧ PlcR w lo hi p s a b c d e f g h i j k

/-- What its cells lead to is owned, each part in a run of blocks of its own. -/
structure PlcO (w : World) (lo hi : Nat) (l u : Nat → Nat) (p : PlcD) (s a b c d e f g h i j k : Value) : Prop where
  prog : SO w (l 0) (u 0) (s) p.prog
  net : NOw w (l 1) (u 1) (.agg #[a, b]) p.net
  chart : HOc w (l 2) (u 2) (.agg #[.int .i64 p.chart.steps, c, d]) p.chart
  st : StO w (l 3) (u 3) (.agg #[e, f]) p.st
  marks : MkO w (l 4) (u 4) (.agg #[g, h]) p.marks
  mem : MO w (l 5) (u 5) (.agg #[i, j, k]) p.mem
  rng : ∀ i, i < 6 → lo ≤ l i ∧ u i ≤ hi
  apart : ∀ i, i < 6 → ∀ j, j < 6 → i ≠ j → u i ≤ l j ∨ u j ≤ l i

def PO (w : World) (lo hi : Nat) (v : Value) (p : PlcD) : Prop := ∃ l u s a b c d e f g h i j k, v = .agg (plcC p s a b c d e f g h i j k).toArray ∧ PlcO w lo hi l u p s a b c d e f g h i j k

theorem six {P : Nat → Prop} (h0 : P 0) (h1 : P 1) (h2 : P 2) (h3 : P 3) (h4 : P 4) (h5 : P 5) : ∀ i, i < 6 → P i := by
  intro i hi
  match i, hi with
  | 0, _ => exact h0
  | 1, _ => exact h1
  | 2, _ => exact h2
  | 3, _ => exact h3
  | 4, _ => exact h4
  | 5, _ => exact h5
  | n + 6, h => exact absurd h (by omega)

theorem MI.wideP {w : World} {lo hi lo' hi' : Nat} {m : Value} {d : MemD} (h : MI w lo hi m d) (h1 : lo' ≤ lo) (h2 : hi ≤ hi') : MI w lo' hi' m d := by
  obtain ⟨a, b, c, hv, p, q, r⟩ := h; exact ⟨a, b, c, hv, p.wide h1 h2, q.wide h1 h2, r.wide h1 h2⟩
theorem StR.wideP {w : World} {lo hi lo' hi' : Nat} {m : Value} {d : StateD} (h : StR w lo hi m d) (h1 : lo' ≤ lo) (h2 : hi ≤ hi') : StR w lo' hi' m d := by
  obtain ⟨a, b, hv, p, q⟩ := h; exact ⟨a, b, hv, p.wide h1 h2, q.wide h1 h2⟩
theorem MkR.wideP {w : World} {lo hi lo' hi' : Nat} {m : Value} {d : MarksD} (h : MkR w lo hi m d) (h1 : lo' ≤ lo) (h2 : hi ≤ hi') : MkR w lo' hi' m d := by
  obtain ⟨a, b, hv, p, q⟩ := h; exact ⟨a, b, hv, p.wide h1 h2, q.wide h1 h2⟩
theorem HIc.wideP {w : World} {lo hi lo' hi' : Nat} {m : Value} {d : ChartD} (h : HIc w lo hi m d) (h1 : lo' ≤ lo) (h2 : hi ≤ hi') : HIc w lo' hi' m d := by
  obtain ⟨a, b, hv, p, q⟩ := h; exact ⟨a, b, hv, p.wide h1 h2, q.wide h1 h2⟩

theorem PlcR.under {w w' : World} {lo hi n : Nat} {p : PlcD} {s a b c d e f g h i j k : Value} (x : PlcR w lo hi p s a b c d e f g h i j k) (hb : Below n w w') (hn : hi ≤ n) : PlcR w' lo hi p s a b c d e f g h i j k :=
  ⟨x.prog.under hb hn, x.net.under hb hn, x.chart.under hb hn, x.st.under hb hn, x.marks.under hb hn, x.mem.below hb hn⟩
theorem PI.under {w w' : World} {lo hi n : Nat} {v : Value} {p : PlcD} (x : PI w lo hi v p) (hb : Below n w w') (hn : hi ≤ n) : PI w' lo hi v p := by
  obtain ⟨s, a, b, c, d, e, f, g, h, i, j, k, hv, H⟩ := x; exact ⟨s, a, b, c, d, e, f, g, h, i, j, k, hv, H.under hb hn⟩
theorem PI.below {w w' : World} {lo hi n : Nat} {v : Value} {p : PlcD} (x : PI w lo hi v p) (hb : Below n w w') (hn : hi ≤ n) : PI w' lo hi v p := x.under hb hn
theorem PlcO.kept {w w' : World} {lo hi : Nat} {l u : Nat → Nat} {p : PlcD} {s a b c d e f g h i j k : Value} (x : PlcO w lo hi l u p s a b c d e f g h i j k) (hk : ∀ y, lo ≤ y → y < hi → w'.heap[y]? = w.heap[y]?) : PlcO w' lo hi l u p s a b c d e f g h i j k := by
  have r0 := x.rng 0 (by omega); have r1 := x.rng 1 (by omega); have r2 := x.rng 2 (by omega); have r3 := x.rng 3 (by omega); have r4 := x.rng 4 (by omega); have r5 := x.rng 5 (by omega)
  exact ⟨x.prog.kept fun y q1 q2 => hk y (by omega) (by omega), x.net.kept fun y q1 q2 => hk y (by omega) (by omega), x.chart.kept fun y q1 q2 => hk y (by omega) (by omega), x.st.kept_ fun y q1 q2 => hk y (by omega) (by omega), x.marks.kept_ fun y q1 q2 => hk y (by omega) (by omega), x.mem.kept fun y q1 q2 => hk y (by omega) (by omega), x.rng, x.apart⟩
theorem PO.kept {w w' : World} {lo hi : Nat} {v : Value} {p : PlcD} (x : PO w lo hi v p) (hk : ∀ y, lo ≤ y → y < hi → w'.heap[y]? = w.heap[y]?) : PO w' lo hi v p := by
  obtain ⟨l, u, s, a, b, c, d, e, f, g, h, i, j, k, hv, H⟩ := x; exact ⟨l, u, s, a, b, c, d, e, f, g, h, i, j, k, hv, H.kept hk⟩
theorem PO.below {w w' : World} {lo hi n : Nat} {v : Value} {p : PlcD} (x : PO w lo hi v p) (hb : Below n w w') (hn : hi ≤ n) : PO w' lo hi v p := x.kept fun y _ hy => hb.block y (by omega)
theorem PlcO.wide {w : World} {lo hi lo' hi' : Nat} {l u : Nat → Nat} {p : PlcD} {s a b c d e f g h i j k : Value} (x : PlcO w lo hi l u p s a b c d e f g h i j k) (h1 : lo' ≤ lo) (h2 : hi ≤ hi') : PlcO w lo' hi' l u p s a b c d e f g h i j k :=
  ⟨x.prog, x.net, x.chart, x.st, x.marks, x.mem, fun i hi => by have := x.rng i hi; omega, x.apart⟩
theorem PO.wide {w : World} {lo hi lo' hi' : Nat} {v : Value} {p : PlcD} (x : PO w lo hi v p) (h1 : lo' ≤ lo) (h2 : hi ≤ hi') : PO w lo' hi' v p := by
  obtain ⟨l, u, s, a, b, c, d, e, f, g, h, i, j, k, hv, H⟩ := x; exact ⟨l, u, s, a, b, c, d, e, f, g, h, i, j, k, hv, H.wide h1 h2⟩
theorem PlcO.r {w : World} {lo hi : Nat} {l u : Nat → Nat} {p : PlcD} {s a b c d e f g h i j k : Value} (x : PlcO w lo hi l u p s a b c d e f g h i j k) : PlcR w lo hi p s a b c d e f g h i j k := by
  have r0 := x.rng 0 (by omega); have r1 := x.rng 1 (by omega); have r2 := x.rng 2 (by omega); have r3 := x.rng 3 (by omega); have r4 := x.rng 4 (by omega); have r5 := x.rng 5 (by omega)
  exact ⟨x.prog.sr.wide r0.1 r0.2, x.net.ni.wide r1.1 r1.2, x.chart.hi.wideP r2.1 r2.2, x.st.r.wideP r3.1 r3.2, x.marks.r.wideP r4.1 r4.2, x.mem.mi.wideP r5.1 r5.2⟩
theorem PO.r {w : World} {lo hi : Nat} {v : Value} {p : PlcD} (x : PO w lo hi v p) : PI w lo hi v p := by
  obtain ⟨l, u, s, a, b, c, d, e, f, g, h, i, j, k, hv, H⟩ := x; exact ⟨s, a, b, c, d, e, f, g, h, i, j, k, hv, H.r⟩
theorem PI.shape {w : World} {lo hi : Nat} {v : Value} {p : PlcD} (x : PI w lo hi v p) : ∃ s a b c d e f g h i j k, v = .agg (plcC p s a b c d e f g h i j k).toArray := by
  obtain ⟨s, a, b, c, d, e, f, g, h, i, j, k, hv, _⟩ := x; exact ⟨s, a, b, c, d, e, f, g, h, i, j, k, hv⟩
end Go.Proofs.YtaoiookfmgpmkaaGreatDoor
