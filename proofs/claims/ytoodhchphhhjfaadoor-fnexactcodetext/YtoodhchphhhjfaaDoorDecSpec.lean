/-
  Numbers in decimals: what the model's l12Dec writes.
-/
import Derived.Test.YtoodhchphhhjfaaDoorAddrText
import Derived.Lib.ItoaMem
namespace Go.Proofs.YtoodhchphhhjfaaDoor
open Go.ChangeShapes Go.WideShapes Go.ChangeAt Go.RowKit
set_option linter.unusedVariables false

/-- A number in decimals. -/
def decB (n : Int) : ByteArray := ⟨(Lib.itoa n).toArray⟩

theorem dec_big {k : Nat} (h : ¬ k < 10) : Lib.decDigits k = Lib.decDigits (k / 10) ++ [UInt8.ofNat (48 + k % 10)] := by rw [Lib.decDigits, dif_neg h]

theorem bytes_app (x y : Array UInt8) : (⟨x⟩ ++ ⟨y⟩ : ByteArray) = ⟨x ++ y⟩ := by
  apply ByteArray.ext
  simp

theorem byte_add (k : Nat) : 48 + UInt8.ofNat k = UInt8.ofNat (48 + k) := by
  rw [UInt8.ofNat_add]; rfl

theorem dig_len (k : Nat) (m : Nat) (h : k < 10 ^ (m + 1)) : (Lib.decDigits k).length ≤ m + 1 := by
  induction m generalizing k with
  | zero => rw [Lib.decDigits_one (by omega)]; simp
  | succ m ih =>
    by_cases h9 : k < 10
    · rw [Lib.decDigits_one h9]; simp
    · rw [dec_big h9, List.length_append]
      have := ih (k / 10) (by rw [Nat.pow_succ] at h; omega)
      simp only [List.length_cons, List.length_nil]
      omega

set_option maxHeartbeats 2000000 in
theorem l12Dec_nat (w : World) (u : Nat) (hu : u ≤ 9223372036854775807) :
    Calls Tryd.prog 26 #[.int .i64 u] w fun e w' => e = .returned (.string ⟨(Lib.decDigits u).toArray⟩) ∧ Below w.heap.size w w' := by
  have hdl := dig_len u 18 (by omega)
  go_enter Tryd.func26, Tryd.ntmps26
  go_wp2_with fail
  go_loopw [0, 3] (fun n o wr => ∃ (k : Nat) (suf : List UInt8), n = .int .i64 k ∧ k ≤ u ∧ o = .string ⟨suf.toArray⟩ ∧ Lib.decDigits u = Lib.decDigits k ++ suf ∧ Below w.heap.size w wr) (fun n _ _ => (intOf n).toNat)
  case atStart => exact ⟨u, [], rfl, Nat.le_refl _, rfl, by simp, Below.refl _ _⟩
  case round =>
    obtain ⟨k, suf, rfl, hk, rfl, hd, hb⟩ := hrel
    have hl : suf.length ≤ 19 := by
      have := congrArg List.length hd
      rw [List.length_append] at this
      omega
    have HD : Hid (Lib.decDigits u = Lib.decDigits k ++ suf) := hd
    clear hd hdl
    have hc := conv_one wr
    by_cases h9 : k < 10
    · have ha := fun W => run_string_add_lists (P := Tryd.prog) W [UInt8.ofNat ((48 : Int) + k).toNat] suf (by simp) (by omega)
      have h9' : ¬ ((9 : Int) < k) := by omega
      have b1 := (Below.refl wr.heap.size wr).alloc (Nat.le_refl _) (.cells #[.int .u8 (48 + (k : Int))] 5)
      have G1 := hb.trans (b1.mono hb.size)
      clear b1
      go_wp2
      go_ret
      refine ⟨?_, G1⟩
      show Ending.returned (.string (⟨#[48 + UInt8.ofNat k]⟩ ++ ⟨suf.toArray⟩)) = _
      rw [HD.out, Lib.decDigits_one h9, bytes_app, byte_add]
      simp
    · have h9' : (9 : Int) < k := by omega
      have hm1 : (0 : Int) ≤ (k : Int) % 10 := by omega
      have hm2 : (k : Int) % 10 < 10 := by omega
      have b1 := (Below.refl wr.heap.size wr).alloc (Nat.le_refl _) (.cells #[.int .u8 (48 + (k : Int) % 10)] 5)
      have G1 := hb.trans (b1.mono hb.size)
      clear b1
      go_wp2
      refine ⟨⟨k / 10, UInt8.ofNat (48 + k % 10) :: suf, ?_, by omega, ?_, ?_, G1⟩, ?_⟩
      · rfl
      · rw [bytes_app, byte_add]; simp
      · rw [HD.out, dec_big h9]; simp
      · simp only [intOf]; omega

theorem itoa_neg {n : Int} (h : n < 0) : Lib.itoa n = 45 :: Lib.decDigits (-n).toNat := by
  unfold Lib.itoa
  rw [if_pos h]
  congr 2
  omega

theorem itoa_pos {n : Int} (h : ¬ n < 0) : Lib.itoa n = Lib.decDigits n.toNat := by
  unfold Lib.itoa
  rw [if_neg h]

theorem decB_size {n : Int} (h1 : -1000000 ≤ n) (h2 : n ≤ 1000000) : (decB n).size ≤ 8 := by
  show (Lib.itoa n).toArray.size ≤ 8
  rw [List.size_toArray]
  by_cases h : n < 0
  · rw [itoa_neg h, List.length_cons]
    have := dig_len (-n).toNat 6 (by omega)
    omega
  · rw [itoa_pos h]
    have := dig_len n.toNat 6 (by omega)
    omega

theorem itoa_min : Lib.itoa (-9223372036854775808) = [45, 57, 50, 50, 51, 51, 55, 50, 48, 51, 54, 56, 53, 52, 55, 55, 53, 56, 48, 56] := by
  rw [itoa_neg (by decide)]
  have h : (-(-9223372036854775808) : Int).toNat = 9223372036854775808 := rfl
  rw [h]
  simp [Lib.decDigits]

set_option maxHeartbeats 2000000 in
/-- Whatever the number. -/
theorem l12Dec_all (w : World) (n : Int) (h1 : -9223372036854775808 ≤ n) (h2 : n ≤ 9223372036854775807) :
    Calls Tryd.prog 26 #[.int .i64 n] w fun e w' => e = .returned (.string (decB n)) ∧ Below w.heap.size w w' := by
  by_cases hn : n < 0
  · by_cases hm : n = -9223372036854775808
    · subst hm
      go_enter Tryd.func26, Tryd.ntmps26
      go_wp2
      go_ret
      exact ⟨by unfold decB; rw [itoa_min]; rfl, Below.refl _ _⟩
    · have C := fun W => l12Dec_nat W (-n).toNat (by omega)
      have hx : (((-n).toNat : Nat) : Int) = -n := by omega
      rw [hx] at C
      have hm' : ¬ n < -9223372036854775807 := by omega
      go_enter Tryd.func26, Tryd.ntmps26
      go_wp2_with fail
      refine (C _).mono ?_
      rintro e w' ⟨rfl, hb⟩
      have hd := dig_len (-n).toNat 18 (by omega)
      have ha := fun W => run_string_add_lists (P := Tryd.prog) W [45] (Lib.decDigits (-n).toNat) (by simp) (by omega)
      go_wp2
      go_ret
      refine ⟨?_, hb⟩
      show Ending.returned (.string (⟨#[45]⟩ ++ ⟨(Lib.decDigits (-n).toNat).toArray⟩)) = _
      unfold decB
      rw [itoa_neg hn, bytes_app]
      simp
  · have C := l12Dec_nat w n.toNat (by omega)
    have hx : ((n.toNat : Nat) : Int) = n := by omega
    rw [hx] at C
    refine C.mono ?_
    rintro e w' ⟨rfl, hb⟩
    refine ⟨?_, hb⟩
    unfold decB
    rw [itoa_pos hn]

theorem l12Dec_any (w : World) (n : Int) (h1 : -1000000 ≤ n) (h2 : n ≤ 1000000) :
    Calls Tryd.prog 26 #[.int .i64 n] w fun e w' => e = .returned (.string (decB n)) ∧ Below w.heap.size w w' :=
  l12Dec_all w n (by omega) (by omega)
end Go.Proofs.YtoodhchphhhjfaaDoor
