/-
  How many inputs of a wire wait for one, and for all that have not been told: the program's counts, and that they tell the same order.
-/
import Derived.Test.YtaoiookfmgpmkaaGreatDoorNetTold
namespace Go.Proofs.YtaoiookfmgpmkaaGreatDoor
open Go.RowKit
set_option linter.unusedVariables false

/-- The input asks this wire. -/
def cntSrc (s : SrcD) (j : Nat) : Int := if s.kind = 2 ∧ s.at_ = (j : Int) then 1 else 0
def cntW (x : WireD) (j : Nat) : Int := cntSrc x.a j + cntSrc x.b j
/-- The input asks one of the first so many. -/
def partS (s : SrcD) (k : Nat) : Int := if s.kind = 2 ∧ 0 ≤ s.at_ ∧ s.at_ < (k : Int) then 1 else 0
def partW (x : WireD) (k : Nat) : Int := partS x.a k + partS x.b k
def leftS (s : SrcD) (ord : List Nat) : Int := if waitsS s ord then 1 else 0
def leftW (x : WireD) (ord : List Nat) : Int := leftS x.a ord + leftS x.b ord

theorem cntS_bd (s : SrcD) (j : Nat) : 0 ≤ cntSrc s j ∧ cntSrc s j ≤ 1 := by unfold cntSrc; split <;> omega
theorem partS_bd (s : SrcD) (j : Nat) : 0 ≤ partS s j ∧ partS s j ≤ 1 := by unfold partS; split <;> omega
theorem leftS_bd (s : SrcD) (ord : List Nat) : 0 ≤ leftS s ord ∧ leftS s ord ≤ 1 := by unfold leftS; split <;> omega
theorem cntW_bd (x : WireD) (j : Nat) : 0 ≤ cntW x j ∧ cntW x j ≤ 2 := by have := cntS_bd x.a j; have := cntS_bd x.b j; unfold cntW; omega
theorem partW_bd (x : WireD) (j : Nat) : 0 ≤ partW x j ∧ partW x j ≤ 2 := by have := partS_bd x.a j; have := partS_bd x.b j; unfold partW; omega
theorem leftW_bd (x : WireD) (ord : List Nat) : 0 ≤ leftW x ord ∧ leftW x ord ≤ 2 := by have := leftS_bd x.a ord; have := leftS_bd x.b ord; unfold leftW; omega

theorem partS_zero (s : SrcD) : partS s 0 = 0 := by unfold partS; rw [if_neg (by omega)]
theorem partS_succ (s : SrcD) (k : Nat) : partS s (k + 1) = partS s k + cntSrc s k := by
  unfold partS cntSrc
  by_cases h1 : s.kind = 2
  · by_cases h2 : 0 ≤ s.at_ ∧ s.at_ < (k : Int)
    · rw [if_pos ⟨h1, by omega⟩, if_pos ⟨h1, h2⟩, if_neg (by omega)]; rfl
    · by_cases h3 : s.at_ = (k : Int)
      · rw [if_pos ⟨h1, by omega⟩, if_neg (by omega), if_pos ⟨h1, h3⟩]; rfl
      · rw [if_neg (by omega), if_neg (by omega), if_neg (by omega)]; rfl
  · rw [if_neg (by omega), if_neg (by omega), if_neg (by omega)]; rfl
theorem partW_zero (x : WireD) : partW x 0 = 0 := by unfold partW; rw [partS_zero, partS_zero]; rfl
theorem partW_succ (x : WireD) (k : Nat) : partW x (k + 1) = partW x k + cntW x k := by unfold partW cntW; rw [partS_succ, partS_succ]; omega
theorem partS_all {s : SrcD} {n : Nat} (h : s.kind = 2 → 0 ≤ s.at_ ∧ s.at_ < n) : partS s n = leftS s [] := by
  unfold partS leftS waitsS
  by_cases h1 : s.kind = 2
  · have e : (s.kind == 2) = true := by simpa using h1
    rw [if_pos ⟨h1, h h1⟩, e, if_pos (by simp)]
  · have e : (s.kind == 2) = false := by simpa using h1
    rw [if_neg (by omega), e, if_neg (by simp)]
theorem partW_all {x : WireD} {n : Nat} (h : (x.a.kind = 2 → 0 ≤ x.a.at_ ∧ x.a.at_ < n) ∧ (x.b.kind = 2 → 0 ≤ x.b.at_ ∧ x.b.at_ < n)) : partW x n = leftW x [] := by
  unfold partW leftW; rw [partS_all h.1, partS_all h.2]

theorem leftS_next {s : SrcD} {n k : Nat} {ord : List Nat} (h : s.kind = 2 → 0 ≤ s.at_ ∧ s.at_ < n) (hk : k ∉ ord) : leftS s (ord ++ [k]) = leftS s ord - cntSrc s k := by
  unfold leftS cntSrc waitsS
  by_cases h1 : s.kind = 2
  · have e : (s.kind == 2) = true := by simpa using h1
    have h2 := h h1
    simp only [e, Bool.true_and]
    by_cases h3 : s.at_ = (k : Int)
    · have h4 : s.kind = 2 ∧ s.at_ = (k : Int) := ⟨h1, h3⟩
      have h5 : s.at_.toNat = k := by omega
      have c1 : ord.contains k = false := by simpa using hk
      have c2 : (ord ++ [k]).contains k = true := by simp
      rw [if_pos h4, h5, c1, c2]; rfl
    · have h4 : ¬ (s.kind = 2 ∧ s.at_ = (k : Int)) := fun h => h3 h.2
      have : s.at_.toNat ≠ k := by omega
      have c : (ord ++ [k]).contains s.at_.toNat = ord.contains s.at_.toNat := by simp; omega
      rw [if_neg h4, c]; omega
  · have e : (s.kind == 2) = false := by simpa using h1
    have h4 : ¬ (s.kind = 2 ∧ s.at_ = (k : Int)) := fun h => h1 h.1
    simp only [e, Bool.false_and]
    rw [if_neg h4]; rfl
theorem leftW_next {x : WireD} {n k : Nat} {ord : List Nat} (h : (x.a.kind = 2 → 0 ≤ x.a.at_ ∧ x.a.at_ < n) ∧ (x.b.kind = 2 → 0 ≤ x.b.at_ ∧ x.b.at_ < n)) (hk : k ∉ ord) : leftW x (ord ++ [k]) = leftW x ord - cntW x k := by
  unfold leftW cntW; rw [leftS_next h.1 hk, leftS_next h.2 hk]; omega
theorem leftW_zero (x : WireD) (ord : List Nat) : leftW x ord = 0 ↔ waitsW x ord = false := by
  unfold leftW leftS waitsW
  cases waitsS x.a ord <;> cases waitsS x.b ord <;> simp

/-- The count of a wire: how many inputs wait; below that once it has been told. -/
def waitZ (ws : List WireD) (ord : List Nat) (i : Nat) : Int := if ord.contains i then -1 else match ws[i]? with | some x => leftW x ord | none => 0

theorem waitZ_zero {ws : List WireD} {ord : List Nat} {i : Nat} {x : WireD} (hx : ws[i]? = some x) : waitZ ws ord i = 0 ↔ canW ws ord i = true := by
  unfold waitZ canW
  rw [hx]
  cases ord.contains i
  · simp [leftW_zero]
  · simp

/-- Of those that have been told no input waits. -/
def ToldW (ws : List WireD) (ord : List Nat) : Prop := ∀ (i : Nat) (x : WireD), i ∈ ord → ws[i]? = some x → waitsW x ord = false

theorem waitsS_more {s : SrcD} {ord : List Nat} {k : Nat} (h : waitsS s ord = false) : waitsS s (ord ++ [k]) = false := by
  unfold waitsS at *
  cases e : (s.kind == 2)
  · rfl
  · rw [e, Bool.true_and] at h
    have : ord.contains s.at_.toNat = true := by simpa using h
    have c : (ord ++ [k]).contains s.at_.toNat = true := by simp at this ⊢; exact .inl this
    rw [c]; rfl
theorem waitsW_more {x : WireD} {ord : List Nat} {k : Nat} (h : waitsW x ord = false) : waitsW x (ord ++ [k]) = false := by
  unfold waitsW at *
  simp only [Bool.or_eq_false_iff] at h ⊢
  exact ⟨waitsS_more h.1, waitsS_more h.2⟩
theorem ToldW.next {ws : List WireD} {ord : List Nat} {k : Nat} (h : ToldW ws ord) (hc : canW ws ord k = true) : ToldW ws (ord ++ [k]) := by
  intro i x hi hx
  refine waitsW_more ?_
  rcases List.mem_append.mp hi with hi | hi
  · exact h i x hi hx
  · simp at hi
    subst hi
    unfold canW at hc
    rw [hx] at hc
    simp only [Bool.and_eq_true, Bool.not_eq_true'] at hc
    exact hc.2

/-- One that is told and no longer waits does not ask the next. -/
theorem cntW_told {x : WireD} {ord : List Nat} {k : Nat} (h : waitsW x ord = false) (hk : k ∉ ord) : cntW x k = 0 := by
  have one : ∀ s : SrcD, waitsS s ord = false → cntSrc s k = 0 := by
    intro s hs
    unfold cntSrc
    by_cases h1 : s.kind = 2 ∧ s.at_ = (k : Int)
    · exfalso
      unfold waitsS at hs
      have e : (s.kind == 2) = true := by simpa using h1.1
      rw [e, Bool.true_and, h1.2, Int.toNat_natCast] at hs
      have : ord.contains k = true := by simpa using hs
      exact hk (by simpa using this)
    · rw [if_neg h1]
  unfold waitsW at h
  simp only [Bool.or_eq_false_iff] at h
  unfold cntW
  rw [one _ h.1, one _ h.2]; rfl

/-- What the program takes off each count as one is told. -/
theorem waitZ_next {ws : List WireD} {ord : List Nat} {k i : Nat} {x : WireD} (hT : ToldW ws ord) (hc : canW ws ord k = true) (hx : ws[i]? = some x) (hok : (x.a.kind = 2 → 0 ≤ x.a.at_ ∧ x.a.at_ < ws.length) ∧ (x.b.kind = 2 → 0 ≤ x.b.at_ ∧ x.b.at_ < ws.length)) :
    waitZ ws (ord ++ [k]) i = (if i = k then -1 else waitZ ws ord i) - cntW x k := by
  have hk := canW_not hc
  unfold waitZ
  by_cases e : i = k
  · subst e
    have c : (ord ++ [i]).contains i = true := by simp
    rw [if_pos rfl, c, if_pos rfl]
    unfold canW at hc
    rw [hx] at hc
    simp only [Bool.and_eq_true, Bool.not_eq_true'] at hc
    rw [cntW_told hc.2 hk]; rfl
  · rw [if_neg e, hx]
    have c : (ord ++ [k]).contains i = ord.contains i := by simp; omega
    rw [c]
    cases hm : ord.contains i
    · rw [if_neg (by simp), if_neg (by simp)]
      exact leftW_next hok hk
    · rw [if_pos rfl, if_pos rfl]
      have := hT i x (by simpa using hm) hx
      rw [cntW_told this hk]; rfl
end Go.Proofs.YtaoiookfmgpmkaaGreatDoor
