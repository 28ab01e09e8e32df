/-
  The model's l5Do (package spec): what an instruction does that only goes on or cuts what is held (skip, jump, back).
-/
import Derived.Test.YtdhpbiplkjpiiaaGreatDoorHeldKit
import Derived.Test.YtdhpbiplkjpiiaaGreatDoorRowT
import Derived.Test.YtdhpbiplkjpiiaaGreatDoorInsData
import Derived.Test.YtdhpbiplkjpiiaaGreatDoorMemKit
import Derived.RegionTactic
namespace Go.Proofs.YtdhpbiplkjpiiaaGreatDoor
open Go.ChangeShapes Go.WideShapes Go.ChangeAt Go.RowKit
set_option linter.unusedVariables false
set_option linter.unusedSimpArgs false
set_option maxRecDepth 100000

set_option maxHeartbeats 2000000 in
theorem l5Do_jump (w : World) (pa pb pc ad : Option Go.Addr) (la ca lb cb lc cc n cap : Nat) (p : InsD) (hop : p.op = 7 ∨ p.op = 8) :
    Calls Tryz.prog 36 #[.agg #[.slice pa la ca, .slice pb lb cb, .slice pc lc cc], .slice ad n cap, p.val] w fun e w' => e = .returned (.tuple #[.agg #[.slice pa la ca, .slice pb lb cb, .slice pc lc cc], .slice ad n cap]) ∧ Below w.heap.size w w' := by
  obtain ⟨op, pn, ak, at_⟩ := p
  simp only at hop
  unfold InsD.val
  simp only
  have b1 : (op == 1) = false := by simp; omega
  have b2 : (op == 2) = false := by simp; omega
  have b3 : (op == 3) = false := by simp; omega
  have b4 : (op == 4) = false := by simp; omega
  have b5 : (op == 5) = false := by simp; omega
  have b6 : (op == 6) = false := by simp; omega
  clear hop
  go_enter Tryz.func36, Tryz.ntmps36
  go_wp2
  refine bodyPost_ret (v := .tuple #[.agg #[.slice pa la ca, .slice pb lb cb, .slice pc lc cc], .slice ad n cap]) ?_ rfl ⟨rfl, ?_⟩
  · simp [results, Tryz.results36, go_sem]
  · repeat first | exact Below.refl _ _ | refine Below.alloc ?_ (by simp <;> omega) _ | refine Below.setCell ?_ (by simp <;> omega) _

set_option maxHeartbeats 4000000 in
theorem l5Do_skip (w : World) (pa pb pc : Option Go.Addr) (la ca lb cb lc cc n cap g : Nat) (p : InsD) (hop : p.op = 6) (hn : 1 ≤ n) (hc : n ≤ cap) (hm : cap ≤ maxLen) :
    Calls Tryz.prog 36 #[.agg #[.slice pa la ca, .slice pb lb cb, .slice pc lc cc], .slice (some ⟨g, 0, none⟩) n cap, p.val] w fun e w' => e = .returned (.tuple #[.agg #[.slice pa la ca, .slice pb lb cb, .slice pc lc cc], .slice (some ⟨g, 0, none⟩) (n - 1) cap]) ∧ Below w.heap.size w w' := by
  obtain ⟨op, pn, ak, at_⟩ := p
  simp only at hop
  subst hop
  unfold InsD.val
  simp only
  unfold maxLen at hm
  obtain ⟨k, rfl⟩ : ∃ k, n = k + 1 := ⟨n - 1, by omega⟩
  rw [Nat.add_sub_cancel]
  clear hn
  go_enter Tryz.func36, Tryz.ntmps36
  go_wp2
  go_region
  all_goals
    go_wp2
    refine bodyPost_ret (v := .tuple #[.agg #[.slice pa la ca, .slice pb lb cb, .slice pc lc cc], .slice (some ⟨g, 0, none⟩) k cap]) ?_ rfl ⟨rfl, ?_⟩
    · simp [results, Tryz.results36, go_sem]
    · repeat first | exact Below.refl _ _ | refine Below.drew ?_ | refine Below.alloc ?_ (by simp <;> omega) _ | refine Below.setCell ?_ (by simp <;> omega) _
end Go.Proofs.YtdhpbiplkjpiiaaGreatDoor
