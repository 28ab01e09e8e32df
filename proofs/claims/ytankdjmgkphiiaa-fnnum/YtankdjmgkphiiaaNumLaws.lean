/-
  Chapter 1's laws walked over any bytes: each returns true, and nothing that was there is written. (A reader is drawn from the bytes; the numbers that it gives are any numbers.)
-/
import Derived.Test.YtankdjmgkphiiaaBase
import Derived.Test.YtankdjmgkphiiaaDrawNum
namespace Go.Proofs.Ytankdjmgkphiiaa
open Go.ChangeShapes Go.WideShapes Go.ChangeAt Go.RowKit
set_option linter.unusedVariables false

theorem numIs_any (b : Bool) (w : World) : Calls Try.prog 25 #[.bool b] w fun e w' => e = .returned (.int .i64 (if b = true then 1 else 0)) ∧ w' = w := by
  cases b
  · go_enter Try.func25, Try.ntmps25
    go_wp2
    go_ret
    exact ⟨rfl, rfl⟩
  · go_enter Try.func25, Try.ntmps25
    go_wp2
    go_ret
    exact ⟨rfl, rfl⟩

set_option maxHeartbeats 1000000 in
theorem fnNumOn_walk (w : World) (a : Option Addr) (len cap : Nat) (hb : Bytes8 w w.heap.size a len) (hlc : len ≤ cap) (hm : cap ≤ maxLen) :
    Calls Try.prog 4 #[.slice a len cap] w fun e w' => e = .returned (.bool true) ∧ Below w.heap.size w w' := by
  have hm' := hm
  unfold maxLen at hm'
  by_cases h : (1048576 : Int) < len
  · go_enter Try.func4, Try.ntmps4
    go_wp2
    go_ret
    exact ⟨rfl, Below.refl _ _⟩
  · go_enter Try.func4, Try.ntmps4
    go_wp2_with fail
    refine (drawIs_any w a len cap hb hlc hm).mono ?_
    rintro e w1 ⟨b, rfl, hb1⟩
    have hby := hb.kept hb1
    go_wp2_with fail
    refine (drawOn_any w1 a len cap hby hlc hm).mono ?_
    rintro e w2 ⟨n, rfl, hb2⟩
    have hbb := below_two hb1 hb2
    clear hb1 hb2 hby hb
    cases b <;> by_cases hn : n = 0
    · subst hn
      go_wp2
      go_ret
      exact ⟨rfl, hbb⟩
    · have hn' : (n == 0) = false := by simpa using hn
      clear hn
      go_wp2
      go_ret
      exact ⟨rfl, hbb⟩
    · subst hn
      go_wp2
      go_ret
      exact ⟨rfl, hbb⟩
    · have hn' : (n == 0) = false := by simpa using hn
      clear hn
      go_wp2
      go_ret
      exact ⟨rfl, hbb⟩

theorem cutZ_cut (n : Int) : cutZ (cutZ n) = cutZ n := cutZ_in (cutZ_bd n).1 (cutZ_bd n).2
theorem cutZ_neg (n : Int) : cutZ (-n) = -cutZ n := by unfold cutZ; repeat' split <;> omega
theorem cutZ_mono {a b : Int} (h : a ≤ b) : cutZ a ≤ cutZ b := by unfold cutZ; repeat' split <;> omega
theorem cutZ_zero : cutZ 0 = 0 := by decide
theorem cutZ_one : cutZ 1 = 1 := by decide
theorem cutZ_mone : cutZ (-1) = -1 := by decide
theorem cutZ_most : cutZ 1000000 = 1000000 := by decide
theorem sub_swap (a b : Int) : cutZ (cutZ b - cutZ a) = -cutZ (cutZ a - cutZ b) := by
  rw [← cutZ_neg]; congr 1; omega

set_option maxHeartbeats 2000000 in
theorem fnNumOrder_walk (w : World) (a : Option Addr) (len cap : Nat) (hb : Bytes8 w w.heap.size a len) (hlc : len ≤ cap) (hm : cap ≤ maxLen) :
    Calls Try.prog 5 #[.slice a len cap] w fun e w' => e = .returned (.bool true) ∧ Below w.heap.size w w' := by
  have hm' := hm
  unfold maxLen at hm'
  by_cases h : (1048576 : Int) < len
  · go_enter Try.func5, Try.ntmps5
    go_wp2
    go_ret
    exact ⟨rfl, Below.refl _ _⟩
  · go_enter Try.func5, Try.ntmps5
    go_wp2_with fail
    refine (drawSub_any w a len cap hb hlc hm).mono ?_
    rintro e w1 ⟨x, y, rfl, hb1⟩
    clear hb
    have z0 := cutZ_zero
    have z1 := cutZ_mone
    have hcc := cutZ_cut x
    have hn1 : cutZ (-cutZ x) = -cutZ x := by rw [cutZ_neg, cutZ_cut]
    have bx := cutZ_bd x
    have b2 := cutZ_bd (cutZ x - cutZ y)
    have hsw := sub_swap x y
    rcases Int.lt_trichotomy x y with hxy | hxy | hxy
    · have m1 := cutZ_mono (show x ≤ y by omega)
      have m2 : cutZ (cutZ x - cutZ y) ≤ 0 := by have := cutZ_mono (show cutZ x - cutZ y ≤ 0 by omega); omega
      go_wp2_with (first
    | (go_at_call 18; refine (numCut_any _ _).mono ?_; rintro e w' ⟨rfl, rfl⟩)
    | (go_at_call 15; refine (numAdd_any _ _ _).mono ?_; rintro e w' ⟨rfl, rfl⟩)
    | (go_at_call 16; refine (numSub_any _ _ _).mono ?_; rintro e w' ⟨rfl, rfl⟩)
    | (go_at_call 17; refine (numMul_any _ _ _).mono ?_; rintro e w' ⟨rfl, rfl⟩)
    | (go_at_call 22; refine (sCut_any _ _).mono ?_; rintro e w' ⟨rfl, rfl⟩)
    | (go_at_call 19; refine (sAdd_any _ _ _).mono ?_; rintro e w' ⟨rfl, rfl⟩)
    | (go_at_call 20; refine (sSub_any _ _ _).mono ?_; rintro e w' ⟨rfl, rfl⟩)
    | (go_at_call 21; refine (sMul_any _ _ _).mono ?_; rintro e w' ⟨rfl, rfl⟩))
      go_ret
      exact ⟨rfl, hb1⟩
    · subst hxy
      go_wp2_with (first
    | (go_at_call 18; refine (numCut_any _ _).mono ?_; rintro e w' ⟨rfl, rfl⟩)
    | (go_at_call 15; refine (numAdd_any _ _ _).mono ?_; rintro e w' ⟨rfl, rfl⟩)
    | (go_at_call 16; refine (numSub_any _ _ _).mono ?_; rintro e w' ⟨rfl, rfl⟩)
    | (go_at_call 17; refine (numMul_any _ _ _).mono ?_; rintro e w' ⟨rfl, rfl⟩)
    | (go_at_call 22; refine (sCut_any _ _).mono ?_; rintro e w' ⟨rfl, rfl⟩)
    | (go_at_call 19; refine (sAdd_any _ _ _).mono ?_; rintro e w' ⟨rfl, rfl⟩)
    | (go_at_call 20; refine (sSub_any _ _ _).mono ?_; rintro e w' ⟨rfl, rfl⟩)
    | (go_at_call 21; refine (sMul_any _ _ _).mono ?_; rintro e w' ⟨rfl, rfl⟩))
      go_ret
      exact ⟨rfl, hb1⟩
    · go_wp2_with (first
    | (go_at_call 18; refine (numCut_any _ _).mono ?_; rintro e w' ⟨rfl, rfl⟩)
    | (go_at_call 15; refine (numAdd_any _ _ _).mono ?_; rintro e w' ⟨rfl, rfl⟩)
    | (go_at_call 16; refine (numSub_any _ _ _).mono ?_; rintro e w' ⟨rfl, rfl⟩)
    | (go_at_call 17; refine (numMul_any _ _ _).mono ?_; rintro e w' ⟨rfl, rfl⟩)
    | (go_at_call 22; refine (sCut_any _ _).mono ?_; rintro e w' ⟨rfl, rfl⟩)
    | (go_at_call 19; refine (sAdd_any _ _ _).mono ?_; rintro e w' ⟨rfl, rfl⟩)
    | (go_at_call 20; refine (sSub_any _ _ _).mono ?_; rintro e w' ⟨rfl, rfl⟩)
    | (go_at_call 21; refine (sMul_any _ _ _).mono ?_; rintro e w' ⟨rfl, rfl⟩))
      go_ret
      exact ⟨rfl, hb1⟩

theorem small_bd (x : Int) : ∃ A, (cutZ x).tmod 700 = A ∧ -699 ≤ A ∧ A ≤ 699 := by
  refine ⟨_, rfl, ?_, ?_⟩
  · have := Int.lt_tmod_of_pos (cutZ x) (show (0 : Int) < 700 by omega); omega
  · have := Int.tmod_lt_of_pos (cutZ x) (show (0 : Int) < 700 by omega); omega

theorem small_mul {a b : Int} (ha : -699 ≤ a) (ha' : a ≤ 699) (hb : -699 ≤ b) (hb' : b ≤ 699) : -488601 ≤ a * b ∧ a * b ≤ 488601 := by
  have h1 : 0 ≤ (699 - a) * (699 - b) := Int.mul_nonneg (by omega) (by omega)
  have h2 : 0 ≤ (699 + a) * (699 + b) := Int.mul_nonneg (by omega) (by omega)
  have h3 : 0 ≤ (699 - a) * (699 + b) := Int.mul_nonneg (by omega) (by omega)
  have h4 : 0 ≤ (699 + a) * (699 - b) := Int.mul_nonneg (by omega) (by omega)
  simp only [Int.mul_sub, Int.sub_mul, Int.mul_add, Int.add_mul] at h1 h2 h3 h4
  omega

set_option maxHeartbeats 2000000 in
theorem fnNumSmall_walk (w : World) (a : Option Addr) (len cap : Nat) (hb : Bytes8 w w.heap.size a len) (hlc : len ≤ cap) (hm : cap ≤ maxLen) :
    Calls Try.prog 6 #[.slice a len cap] w fun e w' => e = .returned (.bool true) ∧ Below w.heap.size w w' := by
  have hm' := hm
  unfold maxLen at hm'
  by_cases h : (1048576 : Int) < len
  · go_enter Try.func6, Try.ntmps6
    go_wp2
    go_ret
    exact ⟨rfl, Below.refl _ _⟩
  · go_enter Try.func6, Try.ntmps6
    go_wp2_with fail
    refine (drawMul_any w a len cap hb hlc hm).mono ?_
    rintro e w1 ⟨x, y, rfl, hb1⟩
    clear hb
    obtain ⟨A, hA, A0, A1⟩ := small_bd x
    obtain ⟨B, hB, B0, B1⟩ := small_bd y
    have m1 := (small_mul A0 A1 B0 B1).1
    have m2 := (small_mul A0 A1 B0 B1).2
    have z3 : cutZ 3 = 3 := by decide
    have cA : cutZ A = A := cutZ_in (by omega) (by omega)
    have cB : cutZ B = B := cutZ_in (by omega) (by omega)
    have c1 : cutZ (A + B) = A + B := cutZ_in (by omega) (by omega)
    have c2 : cutZ (A - B) = A - B := cutZ_in (by omega) (by omega)
    have c3 : cutZ (A * B) = A * B := cutZ_in (by omega) (by omega)
    have c4 : cutZ (A * 3) = A * 3 := cutZ_in (by omega) (by omega)
    have c5 : cutZ (B * 3) = B * 3 := cutZ_in (by omega) (by omega)
    have c6 : cutZ ((A + B) * 3) = A * 3 + B * 3 := by rw [cutZ_in (by omega) (by omega)]; omega
    have c7 : cutZ (A * 3 + B * 3) = A * 3 + B * 3 := cutZ_in (by omega) (by omega)
    go_wp2_with (first
    | (go_at_call 18; refine (numCut_any _ _).mono ?_; rintro e w' ⟨rfl, rfl⟩)
    | (go_at_call 15; refine (numAdd_any _ _ _).mono ?_; rintro e w' ⟨rfl, rfl⟩)
    | (go_at_call 16; refine (numSub_any _ _ _).mono ?_; rintro e w' ⟨rfl, rfl⟩)
    | (go_at_call 17; refine (numMul_any _ _ _).mono ?_; rintro e w' ⟨rfl, rfl⟩)
    | (go_at_call 22; refine (sCut_any _ _).mono ?_; rintro e w' ⟨rfl, rfl⟩)
    | (go_at_call 19; refine (sAdd_any _ _ _).mono ?_; rintro e w' ⟨rfl, rfl⟩)
    | (go_at_call 20; refine (sSub_any _ _ _).mono ?_; rintro e w' ⟨rfl, rfl⟩)
    | (go_at_call 21; refine (sMul_any _ _ _).mono ?_; rintro e w' ⟨rfl, rfl⟩))
    go_ret
    exact ⟨rfl, hb1⟩

set_option maxHeartbeats 4000000 in
theorem fnNum_walk (w : World) (a : Option Addr) (len cap : Nat) (a' : Option Addr) (len' cap' : Nat)
    (hb : Bytes8 w w.heap.size a len) (hlc : len ≤ cap) (hm : cap ≤ maxLen) (hb' : Bytes8 w w.heap.size a' len') (hlc' : len' ≤ cap') (hm' : cap' ≤ maxLen) :
    Calls Try.prog 3 #[.slice a len cap, .slice a' len' cap'] w fun e w' => e = .returned (.bool true) ∧ Below w.heap.size w w' := by
  have hn := hm
  unfold maxLen at hn
  have hn' := hm'
  unfold maxLen at hn'
  by_cases h : (1048576 : Int) < len
  · go_enter Try.func3, Try.ntmps3
    go_wp2
    go_ret
    exact ⟨rfl, Below.refl _ _⟩
  · by_cases h' : (1048576 : Int) < len'
    · go_enter Try.func3, Try.ntmps3
      go_wp2
      go_ret
      exact ⟨rfl, Below.refl _ _⟩
    · go_enter Try.func3, Try.ntmps3
      go_wp2_with fail
      refine (drawAdd_any w a len cap hb hlc hm).mono ?_
      rintro e w1 ⟨x, y, rfl, hb1⟩
      have hby := hb'.kept hb1
      go_wp2_with fail
      refine (drawCut_any w1 a' len' cap' hby hlc' hm').mono ?_
      rintro e w2 ⟨n, rfl, hb2⟩
      have hbb := below_two hb1 hb2
      clear hb1 hb2 hby hb hb'
      have z0 := cutZ_zero
      have z1 := cutZ_one
      have zm := cutZ_most
      have hcc := cutZ_cut n
      have hcx := cutZ_cut x
      have b1 := cutZ_bd (cutZ x + cutZ y)
      have b2 := cutZ_bd (cutZ x - cutZ y)
      have b3 := cutZ_bd (cutZ x * cutZ y)
      have bn := cutZ_bd n
      have sw := sub_swap x y
      have sa : cutZ (cutZ y + cutZ x) = cutZ (cutZ x + cutZ y) := by rw [Int.add_comm]
      have sm : cutZ (cutZ y * cutZ x) = cutZ (cutZ x * cutZ y) := by rw [Int.mul_comm]
      have m1 : cutZ (cutZ x + cutZ n) ≤ cutZ (cutZ x + 1000000) := cutZ_mono (by omega)
      by_cases hny : n ≤ y
      · go_wp2_with (first
    | (go_at_call 18; refine (numCut_any _ _).mono ?_; rintro e w' ⟨rfl, rfl⟩)
    | (go_at_call 15; refine (numAdd_any _ _ _).mono ?_; rintro e w' ⟨rfl, rfl⟩)
    | (go_at_call 16; refine (numSub_any _ _ _).mono ?_; rintro e w' ⟨rfl, rfl⟩)
    | (go_at_call 17; refine (numMul_any _ _ _).mono ?_; rintro e w' ⟨rfl, rfl⟩)
    | (go_at_call 22; refine (sCut_any _ _).mono ?_; rintro e w' ⟨rfl, rfl⟩)
    | (go_at_call 19; refine (sAdd_any _ _ _).mono ?_; rintro e w' ⟨rfl, rfl⟩)
    | (go_at_call 20; refine (sSub_any _ _ _).mono ?_; rintro e w' ⟨rfl, rfl⟩)
    | (go_at_call 21; refine (sMul_any _ _ _).mono ?_; rintro e w' ⟨rfl, rfl⟩))
        go_ret
        exact ⟨rfl, hbb⟩
      · have m2 : cutZ (cutZ x + cutZ y) ≤ cutZ (cutZ x + cutZ n) := cutZ_mono (by have := cutZ_mono (show y ≤ n by omega); omega)
        go_wp2_with (first
    | (go_at_call 18; refine (numCut_any _ _).mono ?_; rintro e w' ⟨rfl, rfl⟩)
    | (go_at_call 15; refine (numAdd_any _ _ _).mono ?_; rintro e w' ⟨rfl, rfl⟩)
    | (go_at_call 16; refine (numSub_any _ _ _).mono ?_; rintro e w' ⟨rfl, rfl⟩)
    | (go_at_call 17; refine (numMul_any _ _ _).mono ?_; rintro e w' ⟨rfl, rfl⟩)
    | (go_at_call 22; refine (sCut_any _ _).mono ?_; rintro e w' ⟨rfl, rfl⟩)
    | (go_at_call 19; refine (sAdd_any _ _ _).mono ?_; rintro e w' ⟨rfl, rfl⟩)
    | (go_at_call 20; refine (sSub_any _ _ _).mono ?_; rintro e w' ⟨rfl, rfl⟩)
    | (go_at_call 21; refine (sMul_any _ _ _).mono ?_; rintro e w' ⟨rfl, rfl⟩))
        go_ret
        exact ⟨rfl, hbb⟩
end Go.Proofs.Ytankdjmgkphiiaa
