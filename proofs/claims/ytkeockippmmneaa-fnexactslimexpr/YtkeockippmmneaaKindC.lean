/-
  A part is right by itself, whatever it is.
-/
import Derived.Test.YtkeockippmmneaaKindB
import Derived.Test.YtkeockippmmneaaExprPre
namespace Go.Proofs.Ytkeockippmmneaa
open Go.ChangeShapes Go.WideShapes Go.ChangeAt Go.RowKit
set_option linter.unusedVariables false

theorem calls_num_kids (args : Array Value) (w : World) : (callFunc 101 args).run Try.prog w = .ok (.enter 101 args) w := by kernel_rfl
theorem calls_num_fits (args : Array Value) (w : World) : (callFunc 100 args).run Try.prog w = .ok (.enter 100 args) w := by kernel_rfl
theorem calls_addr_kids (args : Array Value) (w : World) : (callFunc 107 args).run Try.prog w = .ok (.enter 107 args) w := by kernel_rfl
theorem calls_addr_fits (args : Array Value) (w : World) : (callFunc 106 args).run Try.prog w = .ok (.enter 106 args) w := by kernel_rfl
theorem calls_two_kids (args : Array Value) (w : World) : (callFunc 118 args).run Try.prog w = .ok (.enter 118 args) w := by kernel_rfl
theorem calls_two_fits (args : Array Value) (w : World) : (callFunc 117 args).run Try.prog w = .ok (.enter 117 args) w := by kernel_rfl
theorem calls_not_kids (args : Array Value) (w : World) : (callFunc 130 args).run Try.prog w = .ok (.enter 130 args) w := by kernel_rfl
theorem calls_not_fits (args : Array Value) (w : World) : (callFunc 129 args).run Try.prog w = .ok (.enter 129 args) w := by kernel_rfl

set_option maxRecDepth 100000 in
set_option maxHeartbeats 1000000 in
theorem partOk_nil (w : World) (k n a t : Int) (ad : Option Go.Addr) (len cap : Nat) (hkv : kindV k = .nilIface) :
    Calls Try.prog 48 #[.agg #[.int .i64 k, .int .i64 n, .int .i64 a, .int .i64 t, .slice ad len cap]] w fun e w' => e = .returned (.bool false) ∧ Below w.heap.size w w' := by
  have hko := fun W => kindOf_any W k
  rw [hkv] at hko
  have b1 := fun o => (Below.refl w.heap.size w).alloc (Nat.le_refl _) o
  clear hkv
  go_enter Try.func48, Try.ntmps48
  go_wp2_with fail
  refine (hko _).mono ?_
  rintro e w1 ⟨rfl, rfl⟩
  clear hko
  go_wp2_with fail
  go_quiet (fail)
  go_wp2
  go_ret
  exact ⟨rfl, below_drewN (b1 _) nq⟩

theorem beq_flip (x y : Int) : (x == y) = (y == x) := by rw [Bool.eq_iff_iff]; simp; exact eq_comm

theorem partOk_any (w : World) (e : ExprD) (ad : Option Go.Addr) (cap : Nat) :
    Calls Try.prog 48 #[.agg #[.int .i64 e.k, .int .i64 e.n, .int .i64 e.ak, .int .i64 e.at_, .slice ad e.kids.length cap]] w fun en w' => en = .returned (.bool (partB e)) ∧ Below w.heap.size w w' := by
  by_cases h1 : e.k = 1
  · have hp : partB e = (((e.kids.length : Int) == 0) && ((cutZ e.n == e.n) && ((e.ak == 0) && (e.at_ == 0)))) := by
      unfold partB nOk aOk kidsOf
      rw [if_pos h1, if_pos h1, if_neg (by omega), beq_flip, Bool.and_assoc]
    rw [hp]
    refine partOk_gen w e.k e.n e.ak e.at_ ad e.kids.length cap 95 (.agg #[]) 101 100 0 _ ?_ m_kids_num m_fits_num calls_num_kids calls_num_fits kids_num (fun W => fits_num W _ _ _ _ _ _ _)
    unfold kindV; rw [if_pos h1]
  by_cases h2 : e.k = 2
  · have hp : partB e = (((e.kids.length : Int) == 0) && ((e.n == 0) && addrOk ⟨e.ak, e.at_⟩)) := by
      unfold partB nOk aOk kidsOf
      rw [if_neg h1, if_pos h2, if_neg h1, if_pos h2, beq_flip, Bool.and_assoc]
    rw [hp]
    refine partOk_gen w e.k e.n e.ak e.at_ ad e.kids.length cap 96 (.agg #[]) 107 106 0 _ ?_ m_kids_addr m_fits_addr calls_addr_kids calls_addr_fits kids_addr (fun W => fits_addr W _ _ _ _ _ _ _)
    unfold kindV; rw [if_neg h1, if_pos h2]
  by_cases h3 : 3 ≤ e.k ∧ e.k ≤ 9
  · have hp : partB e = (((e.kids.length : Int) == 2) && noneB e.n e.ak e.at_) := by
      unfold partB nOk aOk kidsOf noneB
      rw [if_neg h1, if_neg h2, if_neg (by omega), if_pos h3, if_neg h1, if_neg h2, beq_flip, Bool.and_assoc]
    rw [hp]
    refine partOk_gen w e.k e.n e.ak e.at_ ad e.kids.length cap 97 (.int .i64 e.k) 118 117 2 _ ?_ (m_kids_two _) (m_fits_two _) calls_two_kids calls_two_fits (fun W => kids_two W _) (fun W => fits_two W _ _ _ _ _ _ _ _)
    unfold kindV; rw [if_neg h1, if_neg h2, if_pos h3]
  by_cases h4 : e.k = 10
  · have hp : partB e = (((e.kids.length : Int) == 1) && noneB e.n e.ak e.at_) := by
      unfold partB nOk aOk kidsOf noneB
      rw [if_neg h1, if_neg h2, if_pos h4, if_neg h1, if_neg h2, beq_flip, Bool.and_assoc]
    rw [hp]
    refine partOk_gen w e.k e.n e.ak e.at_ ad e.kids.length cap 98 (.agg #[]) 130 129 1 _ ?_ m_kids_not m_fits_not calls_not_kids calls_not_fits kids_not (fun W => fits_not W _ _ _ _ _ _ _)
    unfold kindV; rw [if_neg h1, if_neg h2, if_neg h3, if_pos h4]
  · have hp : partB e = false := by
      unfold partB kidsOf
      rw [if_neg h1, if_neg h2, if_neg h4, if_neg h3, show ((-1 : Int) == (e.kids.length : Int)) = false by simp, Bool.false_and, Bool.false_and]
    rw [hp]
    refine partOk_nil w _ _ _ _ _ _ _ ?_
    unfold kindV; rw [if_neg h1, if_neg h2, if_neg h3, if_neg h4]
end Go.Proofs.Ytkeockippmmneaa
