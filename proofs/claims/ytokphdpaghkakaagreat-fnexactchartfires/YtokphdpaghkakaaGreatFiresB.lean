/-
  Steps that are not left yet, as bits.
-/
import Derived.Test.YtokphdpaghkakaaGreatFiresI
namespace Go.Proofs.YtokphdpaghkakaaGreat
open Go.ChangeShapes Go.WideShapes Go.ChangeAt Go.RowKit
set_option linter.unusedVariables false
set_option linter.unusedSimpArgs false
set_option maxRecDepth 100000

/-- Of the first those that are not among the others. -/
def lft (s f : Nat) : Nat := s &&& (63 ^^^ f)
theorem lft_lt {s : Nat} (f : Nat) (h : s < 64) : lft s f < 64 := Nat.lt_of_le_of_lt Nat.and_le_left h
theorem andNot_bits : ∀ s, s < 64 → ∀ f, f < 64 → bits .andNot .u8 ((s : Nat) : Int) ((f : Nat) : Int) = ((lft s f : Nat) : Int) := by decide +kernel
theorem lft_bit (s f a : Nat) (ha : a < 6) : (lft s f).testBit a = (s.testBit a && !(f.testBit a)) := by
  unfold lft
  have h63 : ∀ a, a < 6 → (63 : Nat).testBit a = true := by decide
  rw [Nat.testBit_and, Nat.testBit_xor, h63 a ha]
  simp
theorem bit_high {s a : Nat} (h : s < 64) (ha : ¬ a < 6) : s.testBit a = false := Nat.testBit_lt_two_pow (Nat.lt_of_lt_of_le h (Nat.pow_le_pow_right (n := 2) (by decide) (by omega : 6 ≤ a)))
theorem lft_zero {s f : Nat} (hs : s < 64) : (lft s f == 0) = true ↔ ∀ a, a < 6 → s.testBit a = true → f.testBit a = true := by
  rw [beq_iff_eq]
  constructor
  · intro h a ha hs'
    have := lft_bit s f a ha
    rw [h, Nat.zero_testBit, hs'] at this
    simpa using this
  · intro h
    apply Nat.eq_of_testBit_eq
    intro a
    rw [Nat.zero_testBit]
    by_cases ha : a < 6
    · rw [lft_bit s f a ha]
      cases hb : s.testBit a
      · rfl
      · rw [h a ha hb]; rfl
    · exact bit_high (lft_lt f hs) ha

theorem bitsN_bit (xs : List Int) (a : Nat) : (bitsN xs).testBit a = xs.any fun x => x.toNat == a := by
  have main : ∀ (xs : List Int) (m : Nat), (xs.foldl (fun m x => m ||| 2 ^ x.toNat) m).testBit a = (m.testBit a || xs.any fun x => x.toNat == a) := by
    intro xs
    induction xs with
    | nil => intro m; simp
    | cons x xs ih =>
      intro m
      rw [List.foldl_cons, ih, Nat.testBit_or, Nat.testBit_two_pow, List.any_cons, Bool.or_assoc]
      congr 2
  unfold bitsN
  rw [main, Nat.zero_testBit, Bool.false_or]

theorem leave_at (fr : List Int) (a : Nat) : ∀ free : List Bool, ((leave free fr)[a]?).getD false = ((free[a]?).getD false && !(fr.any fun x => x.toNat == a)) := by
  induction fr with
  | nil => intro free; simp [leave]
  | cons x fr ih =>
    intro free
    show ((leave (free.set x.toNat false) fr)[a]?).getD false = _
    rw [ih, List.any_cons]
    by_cases e : x.toNat = a
    · subst e
      have : ((free.set x.toNat false)[x.toNat]?).getD false = false := by
        rw [List.getElem?_set]
        simp only [if_true]
        split <;> rfl
      rw [this]; simp
    · have e' : (x.toNat == a) = false := by simpa using e
      rw [List.getElem?_set_ne e, e']
      simp

/-- The bits are those that are on. -/
structure SameB (s : Nat) (free : List Bool) : Prop where
  lt : s < 64
  len : free.length ≤ 6
  bit : ∀ a, a < 6 → s.testBit a = (free[a]?).getD false

theorem sameB_on (xs : List Bool) (h : xs.length ≤ 6) : SameB (onTo xs xs.length) xs := by
  refine ⟨Nat.lt_of_lt_of_le (onTo_lt xs _) (Nat.pow_le_pow_right (n := 2) (by decide) h), h, fun a ha => ?_⟩
  rw [onTo_bit]
  by_cases hl : a < xs.length
  · rw [decide_eq_true hl, Bool.true_and]
  · rw [decide_eq_false hl, List.getElem?_eq_none (by omega)]; rfl

theorem SameB.all {s : Nat} {free : List Bool} (h : SameB s free) (fr : List Int) (hx : ∀ x ∈ fr, 0 ≤ x ∧ x < 6) : (lft (bitsN fr) s == 0) = allOn free fr := by
  rw [Bool.eq_iff_iff, lft_zero (bitsN_lt fr hx)]
  unfold allOn
  rw [List.all_eq_true]
  constructor
  · intro H x hm
    have hr := hx x hm
    have := H x.toNat (by omega) (by rw [bitsN_bit, List.any_eq_true]; exact ⟨x, hm, by simp⟩)
    rwa [h.bit _ (by omega)] at this
  · intro H a ha hb
    rw [bitsN_bit, List.any_eq_true] at hb
    obtain ⟨x, hm, he⟩ := hb
    have he : x.toNat = a := by simpa using he
    rw [h.bit a ha, ← he]
    exact H x hm

theorem SameB.left {s : Nat} {free : List Bool} (h : SameB s free) (fr : List Int) : SameB (lft s (bitsN fr)) (leave free fr) :=
  ⟨lft_lt _ h.lt, by rw [leave_length]; exact h.len, fun a ha => by rw [lft_bit _ _ _ ha, h.bit a ha, bitsN_bit, leave_at]⟩

set_option maxHeartbeats 1000000 in
theorem holdsB_any (w : World) (s f : Nat) (hs : s < 64) (hf : f < 64) :
    Calls Tryz.prog 81 #[.int .u8 (s : Int), .int .u8 (f : Int)] w fun e w' => e = .returned (.bool (lft f s == 0)) ∧ w' = w := by
  have e1 := andNot_bits f hf s hs
  have e2 : (((lft f s : Nat) : Int) == 0) = (lft f s == 0) := by
    rw [Bool.eq_iff_iff, beq_iff_eq, beq_iff_eq]; omega
  rw [← e2]
  clear e2
  go_enter Tryz.func81, Tryz.ntmps81
  go_wp2
  go_ret
  exact ⟨rfl, rfl⟩
end Go.Proofs.YtokphdpaghkakaaGreat
