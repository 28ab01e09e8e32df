/-
  What a net keeps, the marks of a chart, and a controller, as they are ok: as data alone.
-/
import Derived.Test.YtaoiookfmgpmkaaGreatDoorPlcData
import Derived.Test.YtaoiookfmgpmkaaGreatDoorChartOkD
import Derived.Test.YtaoiookfmgpmkaaGreatDoorMemSpec
import Derived.Test.YtaoiookfmgpmkaaGreatDoorCodeOfData
namespace Go.Proofs.YtaoiookfmgpmkaaGreatDoor
set_option linter.unusedVariables false

/-- A wire's block is one that it may keep. -/
def fitWB (x : WireD) (b : BlockD) : Bool := if gateK x.kind then decide (b = noB) else blockOk b && (b.kind == x.kind && b.n == x.n)
def allFit (ws : List WireD) (bs : List BlockD) : Bool := (List.range ws.length).all fun i => match ws[i]?, bs[i]? with | some x, some b => fitWB x b | _, _ => true
def stateFit (n : NetD) (s : StateD) : Bool := decide (s.bs.length = n.ws.length) && (decide (s.ls.length = n.ws.length) && allFit n.ws s.bs)
def marksFit (c : ChartD) (m : MarksD) : Bool := decide ((m.on.length : Int) = c.steps) && decide (m.kept.length = 6)
def plcFits (ss : List StmtD) (n : NetD) (c : ChartD) : Bool := stmtsOk ss && (decide ((codeOf ss).length ≤ 400) && (netOk n && chartOk c))
def plcOk (p : PlcD) : Bool := plcFits p.prog p.net p.chart && (stateFit p.net p.st && (marksFit p.chart p.marks && (memOk p.mem && (decide (0 ≤ p.scans) && decide (p.scans ≤ 1000000)))))

theorem allFit_of {ws : List WireD} {bs : List BlockD} (h : ∀ (i : Nat) (x : WireD) (b : BlockD), ws[i]? = some x → bs[i]? = some b → fitWB x b = true) : allFit ws bs = true := by
  unfold allFit
  rw [List.all_eq_true]
  intro i _
  split
  · next x b hx hb => exact h i x b hx hb
  · rfl
theorem allFit_not {ws : List WireD} {bs : List BlockD} {i : Nat} {x : WireD} {b : BlockD} (hx : ws[i]? = some x) (hb : bs[i]? = some b) (h : fitWB x b = false) : allFit ws bs = false := by
  unfold allFit
  rw [List.all_eq_false]
  refine ⟨i, by simpa using (List.getElem?_eq_some_iff.mp hx).1, ?_⟩
  rw [hx, hb]
  simp [h]
/-- So far they fit. -/
def FitTo (ws : List WireD) (bs : List BlockD) (j : Nat) : Prop := ∀ (i : Nat) (x : WireD) (b : BlockD), i < j → ws[i]? = some x → bs[i]? = some b → fitWB x b = true
theorem fit_next {ws : List WireD} {bs : List BlockD} {j : Nat} {x : WireD} {b : BlockD} (h : FitTo ws bs j) (hx : ws[j]? = some x) (hb : bs[j]? = some b) (hf : fitWB x b = true) : FitTo ws bs (j + 1) := by
  intro i y c hi hy hc
  by_cases e : i = j
  · subst e
    rw [hx] at hy
    rw [hb] at hc
    cases hy
    cases hc
    exact hf
  · exact h i y c (by omega) hy hc
theorem stateFit_len {n : NetD} {s : StateD} (h : ¬ s.bs.length = n.ws.length) : stateFit n s = false := by unfold stateFit; rw [decide_eq_false h, Bool.false_and]
theorem stateFit_len2 {n : NetD} {s : StateD} (h : ¬ s.ls.length = n.ws.length) : stateFit n s = false := by unfold stateFit; rw [decide_eq_false h, Bool.false_and, Bool.and_false]
theorem stateFit_not {n : NetD} {s : StateD} (h : allFit n.ws s.bs = false) : stateFit n s = false := by unfold stateFit; rw [h, Bool.and_false, Bool.and_false]
theorem stateFit_yes {n : NetD} {s : StateD} (h1 : s.bs.length = n.ws.length) (h2 : s.ls.length = n.ws.length) (h : FitTo n.ws s.bs n.ws.length) : stateFit n s = true := by
  unfold stateFit
  rw [decide_eq_true h1, decide_eq_true h2, Bool.true_and, Bool.true_and]
  exact allFit_of fun i x b hx hb => h i x b (List.getElem?_eq_some_iff.mp hx).1 hx hb

/-- With a wire that is ok the block that it has at first tells the same. -/
theorem fitWB_first {x : WireD} {n : Nat} {b : BlockD} (h : wireOk x n = true) : fitWB x b = (b.kind == (blockNew x.kind x.n).kind && (b.n == (blockNew x.kind x.n).n && (decide (b = blockNew x.kind x.n) || blockOk b))) := by
  have hn : numW x = true := by unfold wireOk at h; simp only [Bool.and_eq_true] at h; exact h.1
  unfold numW at hn
  unfold fitWB
  by_cases hg : gateK x.kind = true
  · rw [if_pos hg] at hn ⊢
    have hk : 11 ≤ x.kind ∧ x.kind ≤ 13 := by unfold gateK at hg; simpa using hg
    have hb : blockNew x.kind x.n = noB := by
      unfold blockNew
      rw [if_neg]
      unfold numB
      rcases mostB_cases x.kind with ⟨h1, _⟩ | ⟨h1, _⟩ | ⟨_, h2⟩
      · omega
      · omega
      · rw [h2]; simp; omega
    rw [hb]
    by_cases e : b = noB
    · subst e; decide
    · rw [decide_eq_false e, Bool.false_or]
      by_cases h0 : b.kind = 0
      · have : blockOk b = false := by
          unfold blockOk numB
          rw [h0, show mostB 0 = -1 from rfl]
          cases hh : decide (0 ≤ b.n) <;> simp_all <;> omega
        rw [this, Bool.and_false, Bool.and_false]
      · have : (b.kind == noB.kind) = false := by simpa [noB] using h0
        rw [this, Bool.false_and]
  · rw [if_neg hg] at hn ⊢
    have hb : blockNew x.kind x.n = ⟨x.kind, x.n, false, false, 0⟩ := by unfold blockNew; rw [if_pos hn]
    have ho := blockNew_ok hn
    rw [hb] at ho ⊢
    by_cases e : b = ⟨x.kind, x.n, false, false, 0⟩
    · subst e
      rw [ho]
      simp
    · rw [decide_eq_false e, Bool.false_or]
      cases blockOk b <;> cases (b.kind == x.kind) <;> cases (b.n == x.n) <;> rfl
end Go.Proofs.YtaoiookfmgpmkaaGreatDoor
