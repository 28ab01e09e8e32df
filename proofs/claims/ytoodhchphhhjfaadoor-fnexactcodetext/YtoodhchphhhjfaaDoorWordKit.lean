/-
  The words of what is reckoned from two (and not): the model's l3Words.
-/
import Derived.Test.YtoodhchphhhjfaaDoorDecSpec
namespace Go.Proofs.YtoodhchphhhjfaaDoor
open Go.ChangeShapes Go.WideShapes Go.ChangeAt Go.RowKit
set_option linter.unusedVariables false

/-- The word of a kind. -/
def wordL (k : Nat) : List UInt8 :=
  match k with
  | 3 => [97, 100, 100] | 4 => [115, 117, 98] | 5 => [109, 117, 108] | 6 => [108, 101, 115, 115] | 7 => [115, 97, 109, 101]
  | 8 => [97, 110, 100] | 9 => [111, 114] | 10 => [110, 111, 116] | _ => []

theorem l3Words_any (w : World) : Calls Tryd.prog 28 #[] w fun en w' => en = .returned (.slice (some ⟨w.heap.size, 0, none⟩) 11 11) ∧ Below w.heap.size w w' ∧ w.heap.size < w'.heap.size ∧ ∀ k : Nat, k < 11 → w'.cell? ⟨w.heap.size, k, none⟩ = some (.string ⟨(wordL k).toArray⟩) := by
  go_enter Tryd.func28, Tryd.ntmps28
  go_wp2
  go_ret
  refine ⟨rfl, (Below.refl w.heap.size w).alloc (Nat.le_refl _) _, by simp, fun k hk => ?_⟩
  rw [World.cell?_alloc_new]
  rcases k with _ | _ | _ | _ | _ | _ | _ | _ | _ | _ | _ | k
  all_goals first | rfl | omega

theorem addrText_size (a : AddrD) : (addrText a).size ≤ 2 := by
  unfold addrText
  split
  · rw [ByteArray.size_append, letterB_size, digitB_size]; omega
  · exact Nat.zero_le _

theorem wordL_len (n : Nat) : (wordL n).length ≤ 4 := by
  unfold wordL
  split <;> decide

end Go.Proofs.YtoodhchphhhjfaaDoor
