/-
  What slices.Equal and slices.Clone answer, at numbers.
-/
import Derived.Test.YtaoiookfmgpmkaaPM2
import Derived.Lib.SliceRun
namespace Go.Proofs.Ytaoiookfmgpmkaa
open Go.ChangeShapes Go.WideShapes Go.ChangeAt Go.RowKit
set_option linter.unusedVariables false

set_option maxHeartbeats 400000 in
theorem iEqual_any (w : World) (lo hi lo' hi' : Nat) (va vb : Value) (xs ys : List Int) (ha : SI w lo hi va xs) (hb : SI w lo' hi' vb ys) :
    Calls Try.prog 66 #[va, vb] w fun e w' => ∃ m, e = .returned (.bool (decide (xs = ys))) ∧ w' = w.drewN m := by
  obtain ⟨a, cap, rfl, h1, h2, h3⟩ := ha
  obtain ⟨a', cap', rfl, h1', h2', h3'⟩ := hb
  unfold maxLen at h2 h2'
  by_cases hl : xs.length = ys.length
  · have hl2 : ((xs.length : Int) != (ys.length : Int)) = false := by simp; omega
    go_enter Try.func66, Try.ntmps66
    go_wp2
    go_loopw [13] (fun i wr => ∃ k m : Nat, k ≤ xs.length ∧ i = .int .i64 k ∧ wr = w.drewN m ∧ xs.take k = ys.take k) (fun i _ => xs.length - (intOf i).toNat)
    case atStart => exact ⟨0, 0, Nat.zero_le _, rfl, rfl, rfl⟩
    case round =>
      obtain ⟨k, m, hk, rfl, rfl, htk⟩ := hrel
      by_cases hlt : k < xs.length
      · obtain ⟨x, hx⟩ : ∃ x, xs[k]? = some x := ⟨xs[k], List.getElem?_eq_getElem hlt⟩
        obtain ⟨y, hy⟩ : ∃ y, ys[k]? = some y := ⟨ys[k]'(by omega), List.getElem?_eq_getElem (by omega)⟩
        rcases h3 with h0 | ⟨b, off, rfl, _, _, hc⟩
        · rw [h0] at hlt; simp at hlt
        rcases h3' with h0 | ⟨b', off', rfl, _, _, hc'⟩
        · rw [h0] at hl; simp at hl; rw [hl] at hlt; simp at hlt
        have c1 := hc k x hx
        have c2 := hc' k y hy
        have HX : Hid (xs[k]? = some x) := hx
        have HY : Hid (ys[k]? = some y) := hy
        have HT : Hid (xs.take k = ys.take k) := htk
        have hlt' : k < ys.length := by omega
        clear hx hy htk hc hc' hl
        by_cases hxy : x = y
        · have hxy' : (x == y) = true := by simpa using hxy
          have HE : Hid (x = y) := hxy
          clear hxy
          go_wp2_with fail
          go_quiet (fail)
          go_wp2
          go_roundw
          case rel => exact ⟨k + 1, m + nq, by omega, by go_num, by simp, eq_take_succ HT.out HX.out HY.out HE.out⟩
          case measure => simp [intOf]; omega
        · have hxy' : (x == y) = false := by simpa using hxy
          have HE : Hid (x ≠ y) := hxy
          clear hxy
          go_wp2_with fail
          go_quiet (fail)
          go_wp2
          go_ret
          exact ⟨m + nq, ret_bool (decide_eq_false (ne_at HX.out HY.out HE.out)).symm, by simp⟩
      · have HT : Hid (xs.take k = ys.take k) := htk
        clear htk
        go_wp2
        go_ret
        exact ⟨m, ret_bool (decide_eq_true (by have := HT.out; rwa [List.take_of_length_le (by omega), List.take_of_length_le (by omega)] at this)).symm, rfl⟩
  · have hl2 : ((xs.length : Int) != (ys.length : Int)) = true := by simp; omega
    go_enter Try.func66, Try.ntmps66
    go_wp2
    go_ret
    exact ⟨0, ret_bool (decide_eq_false (by intro h; exact hl (by rw [h]))).symm, rfl⟩

end Go.Proofs.Ytaoiookfmgpmkaa
