import Derived.Test.YtdhpbiplkjpiiaaGreatDoorInsData
import Derived.Test.YtdhpbiplkjpiiaaGreatDoorBase
import Derived.Test.YtdhpbiplkjpiiaaGreatDoorMemPut
import Derived.Test.YtdhpbiplkjpiiaaGreatDoorTwoKit

/-
  Code as data: whether it is right, and how many numbers are held ahead of each place.
-/
namespace Go.Proofs.YtdhpbiplkjpiiaaGreatDoor
open Go.RowKit
set_option linter.unusedVariables false

def noAddr (p : InsD) : Bool := (p.ak == 0) && (p.at_ == 0)

/-- An instruction at a place of code of so many is right by itself. -/
def fitI (p : InsD) (i n : Nat) : Bool :=
  if p.op = 1 then noAddr p && (cutZ p.n == p.n)
  else if p.op = 2 then addrOk ⟨p.ak, p.at_⟩ && (p.n == 0)
  else if p.op = 3 then addrOk ⟨p.ak, p.at_⟩ && ((p.ak != 1) && (p.n == 0))
  else if p.op = 4 then noAddr p && (decide (3 ≤ p.n) && decide (p.n ≤ 9))
  else if p.op = 5 then noAddr p && (p.n == 0)
  else if p.op = 6 ∨ p.op = 7 then noAddr p && (decide ((i : Int) < p.n) && decide (p.n ≤ (n : Int)))
  else if p.op = 8 then noAddr p && (decide (0 ≤ p.n) && decide (p.n < (i : Int)))
  else false

/-- It goes to another place; it goes on right behind itself. -/
def goesI (p : InsD) : Bool := (p.op == 6) || ((p.op == 7) || (p.op == 8))
def fallsI (p : InsD) : Bool := (p.op != 7) && (p.op != 8)

/-- By how much it turns how many are held; how many it needs. -/
def byI (p : InsD) : Int := if p.op = 1 ∨ p.op = 2 then 1 else if p.op = 3 ∨ p.op = 6 then -1 else if p.op = 4 then -1 else 0
def needI (p : InsD) : Int := if p.op = 3 ∨ p.op = 6 then 1 else if p.op = 4 then 2 else if p.op = 5 then 1 else 0

theorem byI_bd (p : InsD) : -1 ≤ byI p ∧ byI p ≤ 1 := by unfold byI; repeat' split
                                                         all_goals omega
theorem needI_bd (p : InsD) : 0 ≤ needI p ∧ needI p ≤ 2 := by unfold needI; repeat' split
                                                              all_goals omega
theorem by_need (p : InsD) : 0 ≤ needI p + byI p := by unfold needI byI; repeat' split
                                                       all_goals omega

def upd (D : Nat → Int) (j : Nat) (v : Int) : Nat → Int := fun k => if k = j then v else D k
theorem upd_self (D : Nat → Int) (j : Nat) (v : Int) : upd D j v j = v := by simp [upd]
theorem upd_ne {D : Nat → Int} {j k : Nat} (v : Int) (h : k ≠ j) : upd D j v k = D k := by simp [upd, h]
theorem upd_eq (D : Nat → Int) (j k : Nat) (v : Int) : upd D j v k = if k = j then v else D k := rfl

/-- Where an instruction at i goes first. -/
def toI (p : InsD) (i : Nat) : Nat := if goesI p then p.n.toNat else i + 1

/-- It can not be that so many are held ahead of place j, told behind place i. -/
def badT (D : Nat → Int) (i j : Nat) (n : Int) : Bool := (decide (j ≤ i) && (D j != n)) || (decide (i < j) && (decide (0 ≤ D j) && (D j != n)))

/-- The model's step: what is held ahead of each place, one instruction further. -/
def stepTC (D : Nat → Int) (i : Nat) (p : InsD) : Option (Nat → Int) :=
  if D i < needI p ∨ 12 < D i + byI p then none
  else if badT D i (toI p i) (D i + byI p) = true then none
  else if fallsI p = false then some (upd D (toI p i) (D i + byI p))
  else if 0 ≤ upd D (toI p i) (D i + byI p) (i + 1) ∧ upd D (toI p i) (D i + byI p) (i + 1) ≠ D i + byI p then none
  else some (upd (upd D (toI p i) (D i + byI p)) (i + 1) (D i + byI p))

def depthsT : Nat → (Nat → Int) → List InsD → Option (Nat → Int)
  | _, D, [] => some D
  | i, D, p :: ps => match stepTC D i p with | none => none | some D' => depthsT (i + 1) D' ps

def startT : Nat → Int := fun j => if j = 0 then 0 else -1

/-- All are right by themselves, from place i on. -/
def fitsT (n : Nat) : Nat → List InsD → Bool
  | _, [] => true
  | i, p :: ps => fitI p i n && fitsT n (i + 1) ps

def tableOf (ps : List InsD) : Option (Nat → Int) :=
  if ps.length ≤ 400 ∧ fitsT ps.length 0 ps = true then depthsT 0 startT ps else none

def codeOk (ps : List InsD) : Bool := match tableOf ps with | none => false | some D => D ps.length == 0

/-- The most of the places up to n. -/
def mostT (D : Nat → Int) : Nat → Int
  | 0 => max 0 (D 0)
  | n + 1 => max (mostT D n) (D (n + 1))

def codeDepth (ps : List InsD) : Int := match tableOf ps with | none => -1 | some D => if D ps.length = 0 then mostT D ps.length else -1

theorem codeOk_depth (ps : List InsD) : codeOk ps = decide (0 ≤ codeDepth ps) := by
  have hm : ∀ D n, 0 ≤ mostT D n := fun D n => by
    induction n with
    | zero => rw [mostT]; omega
    | succ n ih => rw [mostT]; omega
  unfold codeOk codeDepth
  cases tableOf ps with
  | none => rfl
  | some D =>
    simp only
    split
    · rename_i h; rw [h]; simp [hm]
    · rename_i h; simp [h]

/-- The program's step. -/
def tellP (s : (Nat → Int) × Int) (j : Nat) (h : Int) : Option ((Nat → Int) × Int) :=
  if 12 < h ∨ (0 ≤ s.1 j ∧ s.1 j ≠ h) then none else some (upd s.1 j h, max s.2 h)

def takesI (p : InsD) : Int := if p.op = 4 then 2 else if p.op = 3 ∨ p.op = 5 ∨ p.op = 6 then 1 else 0
def givesI (p : InsD) : Int := if p.op = 1 ∨ p.op = 2 ∨ p.op = 4 ∨ p.op = 5 then 1 else 0

def followP (s : (Nat → Int) × Int) (i : Nat) (p : InsD) : Option ((Nat → Int) × Int) :=
  if s.1 i < 0 ∨ s.1 i < takesI p then none
  else match (if fallsI p then tellP s (i + 1) (s.1 i - takesI p + givesI p) else some s) with
    | none => none
    | some s' => if goesI p then tellP s' p.n.toNat (s.1 i - takesI p + givesI p) else some s'

def depthsP (n : Nat) : Nat → (Nat → Int) × Int → List InsD → Option ((Nat → Int) × Int)
  | _, s, [] => some s
  | i, s, p :: ps => if fitI p i n then (match followP s i p with | none => none | some s' => depthsP n (i + 1) s' ps) else none

def depthP (ps : List InsD) : Int :=
  if 400 < ps.length then -1 else match depthsP ps.length 0 (startT, 0) ps with
    | none => -1
    | some s => if s.1 ps.length = 0 then s.2 else -1

theorem takes_eq (p : InsD) : takesI p = needI p := by
  unfold takesI needI
  repeat' split
  all_goals first | rfl | omega

theorem gives_eq (p : InsD) : givesI p = needI p + byI p := by
  unfold givesI needI byI
  repeat' split
  all_goals first | rfl | omega

theorem most_upd {D : Nat → Int} {j : Nat} {h : Int} (hj : ¬ (0 ≤ D j ∧ D j ≠ h)) (h0 : 0 ≤ h) : ∀ n, j ≤ n → mostT (upd D j h) n = max (mostT D n) h
  | 0, hn => by
    obtain rfl : j = 0 := by omega
    rw [mostT, mostT, upd_self]; omega
  | n + 1, hn => by
    rw [mostT, mostT]
    by_cases e : j = n + 1
    · subst e
      rw [upd_self]
      have : ∀ m, m ≤ n → mostT (upd D (n + 1) h) m = mostT D m := fun m => by
        induction m with
        | zero => intro _; rw [mostT, mostT, upd_ne _ (by omega)]
        | succ m ih => intro hm; rw [mostT, mostT, ih (by omega), upd_ne _ (by omega)]
      rw [this n (Nat.le_refl _)]
      omega
    · rw [most_upd hj h0 n (by omega), upd_ne _ (by omega)]; omega

/-- The two steps are one, where all places ahead are told. -/
theorem follow_step {D : Nat → Int} {n i : Nat} {p : InsD} (hf : fitI p i n = true) (hi : i < n) (hD : ∀ j, j < i → 0 ≤ D j) (h12 : ∀ j, D j ≤ 12) :
    followP (D, mostT D n) i p = (stepTC D i p).map fun D' => (D', mostT D' n) := by
  have hnb := by_need p
  have hn0 := (needI_bd p).1
  unfold followP stepTC
  simp only
  rw [takes_eq, gives_eq]
  have e1 : D i - needI p + (needI p + byI p) = D i + byI p := by omega
  rw [e1]
  by_cases q1 : D i < needI p
  · rw [if_pos (.inr q1), if_pos (.inl q1)]; rfl
  rw [if_neg (show ¬ (D i < 0 ∨ D i < needI p) by omega)]
  obtain ⟨c, hc⟩ : ∃ c, D i + byI p = c := ⟨_, rfl⟩
  rw [hc]
  have hc0 : 0 ≤ c := by omega
  have hto : goesI p = true → fallsI p = true → i < p.n.toNat ∧ p.n.toNat ≤ n := by
    intro h1 h2
    unfold fitI at hf
    unfold goesI at h1
    unfold fallsI at h2
    simp only [Bool.or_eq_true, beq_iff_eq, Bool.and_eq_true, bne_iff_ne] at h1 h2
    have h6 : p.op = 6 := by omega
    rw [if_neg (by omega), if_neg (by omega), if_neg (by omega), if_neg (by omega), if_neg (by omega), if_pos (.inl h6)] at hf
    simp only [Bool.and_eq_true, decide_eq_true_eq] at hf
    omega
  have hto2 : goesI p = true → p.n.toNat ≤ n := by
    intro h1
    unfold fitI at hf
    unfold goesI at h1
    simp only [Bool.or_eq_true, beq_iff_eq] at h1
    rw [if_neg (by omega), if_neg (by omega), if_neg (by omega), if_neg (by omega), if_neg (by omega)] at hf
    by_cases h8 : p.op = 8
    · rw [if_neg (by omega), if_pos h8] at hf
      simp only [Bool.and_eq_true, decide_eq_true_eq] at hf
      omega
    · rw [if_pos (by omega)] at hf
      simp only [Bool.and_eq_true, decide_eq_true_eq] at hf
      omega
  by_cases q2 : 12 < c
  · rw [if_pos (show D i < needI p ∨ 12 < c from .inr q2)]
    have hby : 0 < byI p := by have := h12 i; omega
    have hfl : fallsI p = true := by
      unfold byI at hby; unfold fallsI
      simp only [Bool.and_eq_true, bne_iff_ne]
      split at hby
      · omega
      · split at hby
        · omega
        · split at hby <;> omega
    rw [if_pos hfl, tellP, if_pos (.inl q2)]
    rfl
  rw [if_neg (show ¬ (D i < needI p ∨ 12 < c) by omega)]
  have bad : ∀ j, badT D i j c = true ↔ 0 ≤ D j ∧ D j ≠ c := fun j => by
    unfold badT
    simp only [Bool.or_eq_true, Bool.and_eq_true, decide_eq_true_eq, bne_iff_ne]
    constructor
    · rintro (⟨h1, h2⟩ | ⟨h1, h2, h3⟩)
      · by_cases e : j = i
        · subst e; exact ⟨by omega, h2⟩
        · exact ⟨hD j (by omega), h2⟩
      · exact ⟨h2, h3⟩
    · rintro ⟨h1, h2⟩
      by_cases e : j ≤ i
      · exact .inl ⟨e, h2⟩
      · exact .inr ⟨by omega, h1, h2⟩
  cases hg : goesI p with
  | false =>
    have hfl : fallsI p = true := by
      unfold goesI at hg; unfold fallsI
      simp only [Bool.or_eq_false_iff, beq_eq_false_iff_ne] at hg
      simp only [Bool.and_eq_true, bne_iff_ne]
      omega
    have ht : toI p i = i + 1 := by unfold toI; rw [hg]; rfl
    rw [ht, hfl, if_pos rfl, tellP]
    simp only
    by_cases q3 : 0 ≤ D (i + 1) ∧ D (i + 1) ≠ c
    · rw [if_pos (.inr q3), if_pos ((bad _).mpr q3)]; rfl
    · rw [if_neg (by omega), if_neg (fun h => q3 ((bad _).mp h)), if_neg (by decide), upd_self, if_neg (by omega)]
      have e2 : upd (upd D (i + 1) c) (i + 1) c = upd D (i + 1) c := by funext k; simp only [upd]; split <;> rfl
      simp only [e2, Bool.false_eq_true, if_false, Option.map_some]
      rw [most_upd q3 hc0 n (by omega)]
  | true =>
    have ht : toI p i = p.n.toNat := by unfold toI; rw [hg]; rfl
    obtain ⟨t, htt⟩ : ∃ t, p.n.toNat = t := ⟨_, rfl⟩
    rw [ht]
    have htn := hto2 hg
    rw [htt] at htn ⊢
    cases hfl : fallsI p with
    | false =>
      simp only [Bool.false_eq_true, if_false, if_true]
      rw [tellP]
      simp only
      by_cases q3 : 0 ≤ D t ∧ D t ≠ c
      · rw [if_pos (.inr q3), if_pos ((bad _).mpr q3)]; rfl
      · rw [if_neg (by omega), if_neg (fun h => q3 ((bad _).mp h))]
        simp only [Option.map_some]
        rw [most_upd q3 hc0 n htn]
    | true =>
      have ⟨hit, _⟩ := hto hg hfl
      rw [htt] at hit
      simp only [if_true]
      rw [tellP]
      simp only
      by_cases q3 : 0 ≤ D (i + 1) ∧ D (i + 1) ≠ c
      · rw [if_pos (.inr q3)]
        by_cases q4 : 0 ≤ D t ∧ D t ≠ c
        · rw [if_pos ((bad _).mpr q4)]; rfl
        · rw [if_neg (fun h => q4 ((bad _).mp h)), if_neg (by decide)]
          have hne : i + 1 ≠ t := by intro e; rw [e] at q3; exact q4 q3
          rw [upd_ne _ hne, if_pos q3]; rfl
      · rw [if_neg (by omega)]
        simp only
        rw [tellP]
        simp only
        by_cases q4 : 0 ≤ D t ∧ D t ≠ c
        · have hne : t ≠ i + 1 := by intro e; rw [e] at q4; exact q3 q4
          rw [upd_ne _ hne, if_pos (.inr q4), if_pos ((bad _).mpr q4)]; rfl
        · rw [if_neg (fun h => q4 ((bad _).mp h)), if_neg (show ¬ (true = false) by decide)]
          have k1 : ¬ (12 < c ∨ 0 ≤ upd D (i + 1) c t ∧ upd D (i + 1) c t ≠ c) := by
            rw [upd_eq]; split
            · omega
            · omega
          have k2 : ¬ (0 ≤ upd D t c (i + 1) ∧ upd D t c (i + 1) ≠ c) := by
            rw [upd_eq]; split
            · omega
            · omega
          rw [if_neg k1, if_neg k2]
          have e3 : upd (upd D (i + 1) c) t c = upd (upd D t c) (i + 1) c := by funext k; simp only [upd]; split <;> split <;> rfl
          simp only [Option.map_some]
          have k3 : ¬ (0 ≤ upd D t c (i + 1) ∧ upd D t c (i + 1) ≠ c) := k2
          rw [most_upd k3 hc0 n (by omega), most_upd q4 hc0 n htn, e3]

theorem stepT_keeps {D D' : Nat → Int} {i : Nat} {p : InsD} (h : stepTC D i p = some D') (hD : ∀ j, j < i → 0 ≤ D j) (h12 : ∀ j, D j ≤ 12) : (∀ j, j < i + 1 → 0 ≤ D' j) ∧ (∀ j, D' j ≤ 12) ∧ (∀ j, 0 ≤ D j → D' j = D j) ∧ needI p ≤ D i ∧ D i + byI p ≤ 12 ∧ (goesI p = true → D' p.n.toNat = D i + byI p) ∧ (fallsI p = true → D' (i + 1) = D i + byI p) := by
  have hnb := by_need p
  have hn0 := (needI_bd p).1
  unfold stepTC at h
  obtain ⟨c, hc⟩ : ∃ c, D i + byI p = c := ⟨_, rfl⟩
  rw [hc] at h ⊢
  split at h
  · cases h
  rename_i q1
  split at h
  · cases h
  rename_i q2
  have q2' : ∀ k, 0 ≤ D k → k = toI p i → D k = c := by
    intro k hk e
    by_cases e2 : D k = c
    · exact e2
    · exfalso
      apply q2
      unfold badT
      simp only [Bool.or_eq_true, Bool.and_eq_true, decide_eq_true_eq, bne_iff_ne]
      rw [← e]
      by_cases e3 : k ≤ i
      · exact .inl ⟨e3, e2⟩
      · exact .inr ⟨by omega, hk, e2⟩
  have base : (∀ j, j < i + 1 → 0 ≤ upd D (toI p i) c j) ∧ (∀ j, upd D (toI p i) c j ≤ 12) ∧ (∀ j, 0 ≤ D j → upd D (toI p i) c j = D j) := by
    refine ⟨fun j hj => ?_, fun j => ?_, fun j hj => ?_⟩
    · rw [upd_eq]; split
      · omega
      · by_cases e : j = i
        · subst e; omega
        · exact hD j (by omega)
    · rw [upd_eq]; split
      · omega
      · exact h12 j
    · rw [upd_eq]; split
      · rename_i e; exact (q2' j hj e).symm
      · rfl
  split at h
  · rename_i q3
    cases h
    refine ⟨base.1, base.2.1, base.2.2, by omega, by omega, fun hg => ?_, fun hf => ?_⟩
    · have : toI p i = p.n.toNat := by unfold toI; rw [hg]; rfl
      rw [← this, upd_self]
    · rw [q3] at hf; cases hf
  · split at h
    · cases h
    · rename_i q3 q4
      cases h
      refine ⟨fun j hj => ?_, fun j => ?_, fun j hj => ?_, by omega, by omega, fun hg => ?_, fun hf => ?_⟩
      · rw [upd_eq]; split
        · omega
        · exact base.1 j hj
      · rw [upd_eq]; split
        · omega
        · exact base.2.1 j
      · have := base.2.2 j hj
        rw [upd_eq]; split
        · rename_i e
          subst e
          rw [← this]
          omega
        · exact this
      · have : toI p i = p.n.toNat := by unfold toI; rw [hg]; rfl
        rw [← this, upd_eq]; split
        · rfl
        · rw [upd_self]
      · rw [upd_self]

theorem depthsP_eq (n : Nat) : ∀ (ps : List InsD) (i : Nat) (D : Nat → Int), i + ps.length = n → (∀ j, j < i → 0 ≤ D j) → (∀ j, D j ≤ 12) → fitsT n i ps = true →
    depthsP n i (D, mostT D n) ps = (depthsT i D ps).map fun D' => (D', mostT D' n)
  | [], i, D, _, _, _, _ => by rw [depthsP, depthsT]; rfl
  | p :: ps, i, D, hn, hD, h12, hf => by
    rw [fitsT, Bool.and_eq_true] at hf
    rw [List.length_cons] at hn
    rw [depthsP, depthsT, if_pos hf.1, follow_step hf.1 (by omega) hD h12]
    cases hs : stepTC D i p with
    | none => rfl
    | some D' =>
      have hk := stepT_keeps hs hD h12
      simp only [Option.map_some]
      exact depthsP_eq n ps (i + 1) D' (by omega) hk.1 hk.2.1 hf.2

theorem depthsP_unfit (n : Nat) : ∀ (ps : List InsD) (i : Nat) (s : (Nat → Int) × Int), fitsT n i ps = false → depthsP n i s ps = none
  | [], i, s, h => by rw [fitsT] at h; cases h
  | p :: ps, i, s, h => by
    rw [fitsT] at h
    rw [depthsP]
    split
    · rename_i hf
      rw [hf, Bool.true_and] at h
      split
      · rfl
      · exact depthsP_unfit n ps (i + 1) _ h
    · rfl

theorem start_most (n : Nat) : mostT startT n = 0 := by
  induction n with
  | zero => rfl
  | succ n ih => rw [mostT, ih]; simp [startT]; rfl

theorem start_le (j : Nat) : startT j ≤ 12 := by unfold startT; split <;> omega

theorem depthP_eq (ps : List InsD) : depthP ps = codeDepth ps := by
  unfold depthP codeDepth tableOf
  by_cases h : 400 < ps.length
  · rw [if_pos h, if_neg (by omega)]
  rw [if_neg h]
  cases hf : fitsT ps.length 0 ps with
  | false => rw [depthsP_unfit _ _ _ _ hf, if_neg (by simp)]
  | true =>
    have := depthsP_eq ps.length ps 0 startT (by omega) (fun j hj => by omega) start_le hf
    rw [start_most] at this
    rw [this, if_pos ⟨by omega, rfl⟩]
    cases depthsT 0 startT ps with
    | none => rfl
    | some D => rfl

/-- What a table says of code that is right. -/
structure Flow (ps : List InsD) (D : Nat → Int) : Prop where
  many : ps.length ≤ 400
  first : D 0 = 0
  last : D ps.length = 0
  fit : ∀ i p, ps[i]? = some p → fitI p i ps.length = true
  need : ∀ i p, ps[i]? = some p → needI p ≤ D i
  room : ∀ i p, ps[i]? = some p → D i + byI p ≤ 12
  goes : ∀ i p, ps[i]? = some p → goesI p = true → D p.n.toNat = D i + byI p
  falls : ∀ i p, ps[i]? = some p → fallsI p = true → D (i + 1) = D i + byI p
  most : ∀ j, D j ≤ 12

theorem fitsT_at (n : Nat) : ∀ (ps : List InsD) (i : Nat), fitsT n i ps = true → ∀ j p, ps[j]? = some p → fitI p (i + j) n = true
  | [], i, _, j, p, hp => by simp at hp
  | q :: qs, i, h, j, p, hp => by
    rw [fitsT, Bool.and_eq_true] at h
    cases j with
    | zero => simp at hp; subst hp; exact h.1
    | succ j =>
      have := fitsT_at n qs (i + 1) h.2 j p (by simpa using hp)
      rwa [show i + 1 + j = i + (j + 1) by omega] at this

theorem depthsT_flow : ∀ (ps : List InsD) (i : Nat) (D D' : Nat → Int), depthsT i D ps = some D' → (∀ j, j < i → 0 ≤ D j) → (∀ j, D j ≤ 12) →
    (∀ j, 0 ≤ D j → D' j = D j) ∧ (∀ j, D' j ≤ 12) ∧ ∀ k p, ps[k]? = some p → needI p ≤ D' (i + k) ∧ D' (i + k) + byI p ≤ 12 ∧ (goesI p = true → D' p.n.toNat = D' (i + k) + byI p) ∧ (fallsI p = true → D' (i + k + 1) = D' (i + k) + byI p)
  | [], i, D, D', h, _, h12 => by
    rw [depthsT] at h; cases h
    exact ⟨fun _ _ => rfl, h12, fun k p hp => by simp at hp⟩
  | q :: qs, i, D, D', h, hD, h12 => by
    rw [depthsT] at h
    cases hs : stepTC D i q with
    | none => rw [hs] at h; cases h
    | some D1 =>
      rw [hs] at h
      have hk := stepT_keeps hs hD h12
      have ih := depthsT_flow qs (i + 1) D1 D' h hk.1 hk.2.1
      obtain ⟨k1, k2, k3, k4, k5, k6, k7⟩ := hk
      have hDi : D' i = D i := by
        have h0 : 0 ≤ D i := by have := (needI_bd q).1; omega
        have h1 := k3 i h0
        rw [ih.1 i (by omega), h1]
      have hnn : 0 ≤ D i + byI q := by have := by_need q; omega
      refine ⟨fun j hj => ?_, ih.2.1, fun k p hp => ?_⟩
      · have := k3 j hj
        rw [ih.1 j (by omega), this]
      · cases k with
        | zero =>
          simp at hp; subst hp
          rw [Nat.add_zero, hDi]
          refine ⟨k4, k5, fun hg => ?_, fun hf => ?_⟩
          · have := k6 hg; rw [ih.1 _ (by omega), this]
          · have := k7 hf; rw [ih.1 _ (by omega), this]
        | succ k =>
          have := ih.2.2 k p (by simpa using hp)
          rwa [show i + 1 + k = i + (k + 1) by omega] at this

theorem codeOk_flow {ps : List InsD} (h : codeOk ps = true) : ∃ D, Flow ps D := by
  unfold codeOk at h
  cases ht : tableOf ps with
  | none => rw [ht] at h; cases h
  | some D =>
    rw [ht] at h
    simp only [beq_iff_eq] at h
    unfold tableOf at ht
    split at ht
    · rename_i hh
      obtain ⟨f1, f2, f3⟩ := depthsT_flow ps 0 startT D ht (fun j hj => by omega) start_le
      refine ⟨D, hh.1, ?_, h, fun i p hp => ?_, fun i p hp => ?_, fun i p hp => ?_, fun i p hp => ?_, fun i p hp => ?_, f2⟩
      · rw [f1 0 (by simp [startT])]; rfl
      · have := fitsT_at _ ps 0 hh.2 i p hp; rwa [Nat.zero_add] at this
      · have := (f3 i p hp).1; rwa [Nat.zero_add] at this
      · have := (f3 i p hp).2.1; rwa [Nat.zero_add] at this
      · have := (f3 i p hp).2.2.1; rwa [Nat.zero_add] at this
      · have := (f3 i p hp).2.2.2; rwa [Nat.zero_add] at this
    · cases ht
end Go.Proofs.YtdhpbiplkjpiiaaGreatDoor

/-
  What is right of an end: of statements that are done, of code that is run.
-/
namespace Go.Proofs.YtdhpbiplkjpiiaaGreatDoor
open Go.RowKit
set_option linter.unusedVariables false

/-- What is right of an end: the memory is, the fuel has not grown, a code is 0 or 1, and with 1 no fuel is left. -/
structure EndOk (f : Nat) (r : MemD × Int × Nat) : Prop where
  mem : memOk r.1 = true
  fuel : r.2.2 ≤ f
  code : r.2.1 = 0 ∨ (r.2.1 = 1 ∧ r.2.2 = 0)

theorem listOk_set {xs : List Int} (h : listOk xs = true) (i : Nat) (n : Int) : listOk (xs.set i (cutZ n)) = true := by
  unfold listOk at *
  simp only [Bool.and_eq_true, decide_eq_true_eq, List.all_eq_true, List.length_set] at *
  refine ⟨h.1, fun x hx => ?_⟩
  rcases List.mem_or_eq_of_mem_set hx with h1 | h1
  · exact h.2 x h1
  · rw [h1, beq_iff_eq]
    unfold cutZ
    split <;> (try split) <;> (try split) <;> omega

theorem memOk_set {d : MemD} (h : memOk d = true) (a : AddrD) (n : Int) : memOk (memSet d a n) = true := by
  unfold memSet
  unfold memOk at *
  simp only [Bool.and_eq_true] at h
  repeat' split
  all_goals simp only [Bool.and_eq_true]
  all_goals first
    | exact h
    | exact ⟨⟨h.1.1, listOk_set h.1.2 _ _⟩, h.2⟩
    | exact ⟨h.1, listOk_set h.2 _ _⟩
    | exact ⟨⟨listOk_set h.1.1 _ _, h.1.2⟩, h.2⟩

theorem MI.aggs {w : World} {lo hi : Nat} {m : Value} {d : MemD} (h : MI w lo hi m d) : ∃ pa la ca pb lb cb pc lc cc, m = .agg #[.slice pa la ca, .slice pb lb cb, .slice pc lc cc] := by
  obtain ⟨a, b, c, rfl, h1, h2, h3⟩ := h
  obtain ⟨pa, ca, rfl⟩ := h1.shape
  obtain ⟨pb, cb, rfl⟩ := h2.shape
  obtain ⟨pc, cc, rfl⟩ := h3.shape
  exact ⟨pa, _, ca, pb, _, cb, pc, _, cc, rfl⟩

theorem mo_none (w : World) (lo hi : Nat) : MO w lo hi (.agg #[.slice none 0 0, .slice none 0 0, .slice none 0 0]) ⟨[], [], []⟩ := by
  have h : OI w lo hi (.slice none 0 0) [] := .inl ⟨rfl, none, 0, rfl, Nat.zero_le _⟩
  refine ⟨_, _, _, rfl, h, h, h, ?_, ?_, ?_⟩ <;> (intro b o ⟨g, off, l, cap, hv, _⟩; cases hv)
end Go.Proofs.YtdhpbiplkjpiiaaGreatDoor

/-
  What code does, as data: the memory then, how it ends, the fuel that is left.
-/
namespace Go.Proofs.YtdhpbiplkjpiiaaGreatDoor
open Go.RowKit
set_option linter.unusedVariables false

/-- The number at a place of a memory that is ok. -/
def getD_ (d : MemD) (k t : Int) : Int := ((memList d k)[t.toNat]?).getD 0

/-- What turns while code is run: the place, the memory, the numbers that are held, the fuel. -/
structure RunC where
  pc : Nat
  d : MemD
  st : List Int
  f : Nat

def topI (st : List Int) : Int := (st[st.length - 1]?).getD 0
def sndI (st : List Int) : Int := (st[st.length - 2]?).getD 0

/-- What an instruction that goes on leaves of the numbers that are held. -/
def stackI (p : InsD) (d : MemD) (st : List Int) : List Int :=
  if p.op = 1 then st ++ [p.n] else if p.op = 2 then st ++ [getD_ d p.ak p.at_] else if p.op = 3 then st.take (st.length - 1)
  else if p.op = 4 then st.take (st.length - 2) ++ [twoZ p.n (sndI st) (topI st)]
  else if p.op = 5 then st.take (st.length - 1) ++ [isZ (!(topI st != 0))] else if p.op = 6 then st.take (st.length - 1) else st

def memI (p : InsD) (d : MemD) (st : List Int) : MemD := if p.op = 3 then memSet d ⟨p.ak, p.at_⟩ (topI st) else d

/-- It goes on at its N. -/
def jumpsI (p : InsD) (st : List Int) : Bool := (p.op == 7) || ((p.op == 8) || ((p.op == 6) && !(topI st != 0)))

/-- One instruction, of which there is fuel enough. -/
def nextC (p : InsD) (s : RunC) : RunC :=
  ⟨if jumpsI p s.st then p.n.toNat else s.pc + 1, memI p s.d s.st, stackI p s.d s.st, if p.op = 8 then s.f - 1 else s.f⟩

/-- Code run, k instructions at most. -/
def goC (ps : List InsD) : Nat → RunC → MemD × Int × Nat
  | 0, s => (s.d, 0, s.f)
  | k + 1, s => match ps[s.pc]? with
    | none => (s.d, 0, s.f)
    | some p => if p.op = 8 ∧ s.f = 0 then (s.d, 1, 0) else goC ps k (nextC p s)

/-- How many instructions may still come. -/
def measC (ps : List InsD) (s : RunC) : Nat := s.f * (ps.length + 1) + (ps.length - s.pc)

/-- All is as it must be at a place: as many are held as the table says. -/
structure SaneC (ps : List InsD) (D : Nat → Int) (s : RunC) : Prop where
  pc : s.pc ≤ ps.length
  mem : memOk s.d = true
  held : (s.st.length : Int) = D s.pc

theorem fit_jump {p : InsD} {i n : Nat} (h : fitI p i n = true) (hg : p.op = 6 ∨ p.op = 7) : i < p.n.toNat ∧ p.n.toNat ≤ n ∧ 0 ≤ p.n := by
  unfold fitI at h
  rw [if_neg (by omega), if_neg (by omega), if_neg (by omega), if_neg (by omega), if_neg (by omega), if_pos hg] at h
  simp only [Bool.and_eq_true, decide_eq_true_eq] at h
  omega

theorem fit_back {p : InsD} {i n : Nat} (h : fitI p i n = true) (hg : p.op = 8) : p.n.toNat < i ∧ 0 ≤ p.n := by
  unfold fitI at h
  rw [if_neg (by omega), if_neg (by omega), if_neg (by omega), if_neg (by omega), if_neg (by omega), if_neg (by omega), if_pos hg] at h
  simp only [Bool.and_eq_true, decide_eq_true_eq] at h
  omega

theorem fit_op {p : InsD} {i n : Nat} (h : fitI p i n = true) : 1 ≤ p.op ∧ p.op ≤ 8 := by
  unfold fitI at h
  split at h
  · omega
  split at h
  · omega
  split at h
  · omega
  split at h
  · omega
  split at h
  · omega
  split at h
  · omega
  split at h
  · omega
  · cases h

theorem stackI_len {p : InsD} {d : MemD} {st : List Int} (hn : needI p ≤ (st.length : Int)) : ((stackI p d st).length : Int) = (st.length : Int) + byI p := by
  unfold stackI needI byI at *
  by_cases h1 : p.op = 1
  · rw [if_pos h1, if_pos (.inl h1)]; simp
  by_cases h2 : p.op = 2
  · rw [if_neg h1, if_pos h2, if_pos (.inr h2)]; simp
  by_cases h3 : p.op = 3
  · rw [if_pos (.inl h3)] at hn
    rw [if_neg h1, if_neg h2, if_pos h3, if_neg (by omega), if_pos (.inl h3), List.length_take]; omega
  by_cases h4 : p.op = 4
  · rw [if_neg (by omega), if_pos h4] at hn
    rw [if_neg h1, if_neg h2, if_neg h3, if_pos h4, if_neg (by omega), if_neg (by omega), if_pos h4, List.length_append, List.length_take]
    simp only [List.length_cons, List.length_nil]; omega
  by_cases h5 : p.op = 5
  · rw [if_neg (by omega), if_neg h4, if_pos h5] at hn
    rw [if_neg h1, if_neg h2, if_neg h3, if_neg h4, if_pos h5, if_neg (by omega), if_neg (by omega), if_neg h4, List.length_append, List.length_take]
    simp only [List.length_cons, List.length_nil]; omega
  by_cases h6 : p.op = 6
  · rw [if_pos (.inr h6)] at hn
    rw [if_neg h1, if_neg h2, if_neg h3, if_neg h4, if_neg h5, if_pos h6, if_neg (by omega), if_pos (.inr h6), List.length_take]; omega
  · rw [if_neg h1, if_neg h2, if_neg h3, if_neg h4, if_neg h5, if_neg h6, if_neg (by omega), if_neg (by omega), if_neg h4]; omega

theorem SaneC.next {ps : List InsD} {D : Nat → Int} {s : RunC} {p : InsD} (h : SaneC ps D s) (hF : Flow ps D) (hp : ps[s.pc]? = some p) : SaneC ps D (nextC p s) := by
  have hlt : s.pc < ps.length := (List.getElem?_eq_some_iff.mp hp).1
  have hfit := hF.fit _ _ hp
  have hop := fit_op hfit
  have hnd := hF.need _ _ hp
  have hh := h.held
  have hs : ((stackI p s.d s.st).length : Int) = D s.pc + byI p := by rw [stackI_len (by rw [hh]; exact hnd), hh]
  have hm : memOk (memI p s.d s.st) = true := by
    unfold memI
    split
    · exact memOk_set h.mem _ _
    · exact h.mem
  cases hj : jumpsI p s.st with
  | true =>
    have hg : goesI p = true := by
      unfold jumpsI at hj; unfold goesI
      simp only [Bool.or_eq_true, Bool.and_eq_true, beq_iff_eq] at hj ⊢
      omega
    have hn : p.n.toNat ≤ ps.length := by
      by_cases h8 : p.op = 8
      · have := fit_back hfit h8; omega
      · have : p.op = 6 ∨ p.op = 7 := by
          unfold goesI at hg
          simp only [Bool.or_eq_true, beq_iff_eq] at hg
          omega
        exact (fit_jump hfit this).2.1
    refine ⟨?_, hm, ?_⟩
    · show (if jumpsI p s.st then p.n.toNat else s.pc + 1) ≤ _
      rw [hj]; exact hn
    · show ((stackI p s.d s.st).length : Int) = D (if jumpsI p s.st then p.n.toNat else s.pc + 1)
      rw [hj, hs]; exact (hF.goes _ _ hp hg).symm
  | false =>
    have hf : fallsI p = true := by
      unfold jumpsI at hj; unfold fallsI
      simp only [Bool.or_eq_false_iff, beq_eq_false_iff_ne] at hj
      simp only [Bool.and_eq_true, bne_iff_ne]
      exact ⟨hj.1, hj.2.1⟩
    refine ⟨?_, hm, ?_⟩
    · show (if jumpsI p s.st then p.n.toNat else s.pc + 1) ≤ _
      rw [hj]; exact hlt
    · show ((stackI p s.d s.st).length : Int) = D (if jumpsI p s.st then p.n.toNat else s.pc + 1)
      rw [hj, hs]; exact (hF.falls _ _ hp hf).symm

theorem measC_next {ps : List InsD} {D : Nat → Int} {s : RunC} {p : InsD} (hF : Flow ps D) (hp : ps[s.pc]? = some p) (hb : ¬ (p.op = 8 ∧ s.f = 0)) : measC ps (nextC p s) < measC ps s := by
  have hlt : s.pc < ps.length := (List.getElem?_eq_some_iff.mp hp).1
  have hfit := hF.fit _ _ hp
  unfold measC nextC
  simp only
  by_cases h8 : p.op = 8
  · rw [if_pos h8]
    obtain ⟨f, hf⟩ : ∃ f, s.f = f + 1 := ⟨s.f - 1, by omega⟩
    rw [hf, Nat.add_sub_cancel, Nat.succ_mul]
    have : ps.length - (if jumpsI p s.st then p.n.toNat else s.pc + 1) ≤ ps.length := Nat.sub_le _ _
    omega
  · rw [if_neg h8]
    have : s.pc < (if jumpsI p s.st then p.n.toNat else s.pc + 1) := by
      split
      · rename_i hj
        unfold jumpsI at hj
        simp only [Bool.or_eq_true, Bool.and_eq_true, beq_iff_eq] at hj
        exact (fit_jump hfit (by omega)).1
      · omega
    omega

/-- How many instructions at most does not matter, once it is more than may come. -/
theorem goC_more {ps : List InsD} {D : Nat → Int} (hF : Flow ps D) : ∀ (k m : Nat) (s : RunC), measC ps s < k → measC ps s < m → goC ps k s = goC ps m s
  | 0, _, _, h, _ => by omega
  | _ + 1, 0, _, _, h => by omega
  | k + 1, m + 1, s, h1, h2 => by
    rw [goC, goC]
    cases hp : ps[s.pc]? with
    | none => rfl
    | some p =>
      simp only
      split
      · rfl
      · rename_i hb
        have := measC_next hF hp hb
        exact goC_more hF k m _ (by omega) (by omega)

def runC (ps : List InsD) (s : RunC) : MemD × Int × Nat := goC ps (measC ps s + 1) s

theorem runC_end {ps : List InsD} {s : RunC} (h : ps.length ≤ s.pc) : runC ps s = (s.d, 0, s.f) := by
  unfold runC
  rw [goC, List.getElem?_eq_none h]

theorem runC_long {ps : List InsD} {s : RunC} {p : InsD} (hp : ps[s.pc]? = some p) (h8 : p.op = 8) (hf : s.f = 0) : runC ps s = (s.d, 1, 0) := by
  unfold runC
  rw [goC, hp]
  simp only
  rw [if_pos ⟨h8, hf⟩]

theorem runC_next {ps : List InsD} {D : Nat → Int} {s : RunC} {p : InsD} (hF : Flow ps D) (hp : ps[s.pc]? = some p) (hb : ¬ (p.op = 8 ∧ s.f = 0)) : runC ps s = runC ps (nextC p s) := by
  have := measC_next hF hp hb
  unfold runC
  rw [goC, hp]
  simp only
  rw [if_neg hb]
  exact goC_more hF _ _ _ (by omega) (by omega)

theorem goC_ok {ps : List InsD} {D : Nat → Int} (hF : Flow ps D) : ∀ (k : Nat) (s : RunC), SaneC ps D s → EndOk s.f (goC ps k s)
  | 0, s, h => ⟨h.mem, Nat.le_refl _, .inl rfl⟩
  | k + 1, s, h => by
    rw [goC]
    cases hp : ps[s.pc]? with
    | none => exact ⟨h.mem, Nat.le_refl _, .inl rfl⟩
    | some p =>
      simp only
      split
      · exact ⟨h.mem, Nat.zero_le _, .inr ⟨rfl, rfl⟩⟩
      · have ih := goC_ok hF k _ (h.next hF hp)
        refine ⟨ih.mem, Nat.le_trans ih.fuel ?_, ih.code⟩
        show (if p.op = 8 then s.f - 1 else s.f) ≤ s.f
        split <;> omega

theorem runC_ok {ps : List InsD} {D : Nat → Int} (hF : Flow ps D) {s : RunC} (h : SaneC ps D s) : EndOk s.f (runC ps s) := goC_ok hF _ s h

/-- CodeRun: the memory, how it ended, the fuel that is left. -/
def codeRun (d : MemD) (ps : List InsD) (f : Int) : MemD × Int × Int :=
  if memOk d && codeOk ps && decide (0 ≤ f) && decide (f ≤ 100) then ((runC ps ⟨0, d, [], f.toNat⟩).1, (runC ps ⟨0, d, [], f.toNat⟩).2.1, ((runC ps ⟨0, d, [], f.toNat⟩).2.2 : Int)) else (⟨[], [], []⟩, 2, 0)

theorem sane_start {ps : List InsD} {D : Nat → Int} (hF : Flow ps D) {d : MemD} (hd : memOk d = true) (f : Nat) : SaneC ps D ⟨0, d, [], f⟩ := ⟨Nat.zero_le _, hd, by rw [hF.first]; rfl⟩
end Go.Proofs.YtdhpbiplkjpiiaaGreatDoor
