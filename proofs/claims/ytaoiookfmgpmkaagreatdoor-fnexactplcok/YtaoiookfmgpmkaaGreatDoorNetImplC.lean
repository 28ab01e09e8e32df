/-
  The program's inputs and wires: wireIn, fits, srcOk, wireFormOf. (Written by our generator gen_netimplc.py.)
-/
import Derived.Test.YtaoiookfmgpmkaaGreatDoorNetImplA
import Derived.Test.YtaoiookfmgpmkaaGreatDoorNetStruct
import Derived.Test.YtaoiookfmgpmkaaGreatDoorImplA
namespace Go.Proofs.YtaoiookfmgpmkaaGreatDoor
open Go.ChangeShapes Go.WideShapes Go.ChangeAt Go.RowKit
set_option linter.unusedVariables false
set_option linter.unusedSimpArgs false
set_option maxRecDepth 100000

theorem wireIn_any (w : World) (t : Int) (n : Nat) : Calls Tryz.prog 237 #[.int .i64 t, .int .i64 n] w fun e w' => e = .returned (.bool (decide (0 ≤ t) && decide (t < (n : Int)))) ∧ w' = w := by
  by_cases h1 : 0 ≤ t
  · rw [decide_eq_true h1, Bool.true_and]
    go_enter Tryz.func237, Tryz.ntmps237
    go_wp2
    go_ret
    exact ⟨rfl, rfl⟩
  · rw [decide_eq_false h1, Bool.false_and]
    go_enter Tryz.func237, Tryz.ntmps237
    go_wp2
    go_ret
    exact ⟨rfl, rfl⟩

set_option maxHeartbeats 1000000 in
theorem fits_addrN (w : World) (t ak aat : Int) (no : Bool) (n : Nat) : Calls Tryz.prog 347 #[.agg #[.int .i64 1, .int .i64 t, .int .i64 ak, .int .i64 aat, .bool no], .int .i64 n] w fun e w' => e = .returned (.bool (addrOk ⟨ak, aat⟩ && t == 0)) ∧ Below w.heap.size w w' := by
  have hA := fun u => iAddrOk_any u ak aat
  unfold AddrD.val at hA
  rw [Bool.and_comm]
  generalize addrOk ⟨ak, aat⟩ = ok at *
  cases hz : (t == 0)
  · rw [Bool.false_and]
    go_enter Tryz.func347, Tryz.ntmps347
    go_wp2
    go_ret
    exact ⟨rfl, below_aN (Below.refl _ _) _⟩
  · rw [Bool.true_and]
    go_enter Tryz.func347, Tryz.ntmps347
    go_wp2_with fail
    refine (hA _).mono ?_
    rintro e1 u1 ⟨rfl, g1⟩
    have G : Below w.heap.size w u1 := (below_aN (Below.refl _ _) _).trans (g1.mono (by simp <;> omega))
    clear g1 hA
    go_wp2
    go_ret
    exact ⟨rfl, G⟩

set_option maxHeartbeats 1000000 in
theorem fits_wire (w : World) (k t ak aat : Int) (no : Bool) (n : Nat) : Calls Tryz.prog 351 #[.agg #[.int .i64 k, .int .i64 t, .int .i64 ak, .int .i64 aat, .bool no], .int .i64 n] w fun e w' => e = .returned (.bool (decide (0 ≤ t) && (decide (t < (n : Int)) && (ak == 0 && aat == 0)))) ∧ Below w.heap.size w w' := by
  have hI := fun u => wireIn_any u t n
  have hE := fun p q u => guard_addrK .eql p q ak aat 0 0 u
  have hQ := fun u => eql_addrK ak aat 0 0 u
  rw [← Bool.and_assoc]
  generalize (decide (0 ≤ t) && decide (t < (n : Int))) = ok at *
  generalize (ak == 0 && aat == 0) = z at *
  cases ok
  · rw [Bool.false_and]
    clear hE hQ
    go_enter Tryz.func351, Tryz.ntmps351
    go_wp2_with (go_at_call 237; refine (hI _).mono ?_; rintro e w' ⟨rfl, rfl⟩)
    go_ret
    exact ⟨rfl, below_aN (Below.refl _ _) _⟩
  · rw [Bool.true_and]
    go_enter Tryz.func351, Tryz.ntmps351
    go_wp2_with (first
      | (go_at_call 237; refine (hI _).mono ?_; rintro e w' ⟨rfl, rfl⟩)
      | refine wpList_binG _ _ rfl rfl rfl rfl (hE _ _ _) (hQ _) ?_)
    go_ret
    exact ⟨rfl, below_aN (Below.refl _ _) _⟩

set_option maxHeartbeats 4000000 in
theorem iSrcOk_any (w : World) (s : SrcD) (n : Nat) : Calls Tryz.prog 234 #[.agg (srcC s).toArray, .int .i64 n] w fun e w' => e = .returned (.bool (srcOk s n)) ∧ Below w.heap.size w w' := by
  obtain ⟨k, t, ak, aat, no⟩ := s
  unfold srcOk
  simp only
  by_cases h1 : k = 1
  · subst h1
    rw [if_pos rfl]
    have hI := fun u => inputOf_any u ⟨1, t, ak, aat, no⟩
    have eI : inputV ⟨1, t, ak, aat, no⟩ = .iface 371 (.agg #[.int .i64 1, .int .i64 t, .int .i64 ak, .int .i64 aat, .bool no]) := rfl
    have mW : ∀ w : World, (method 547 371 (.agg #[.int .i64 1, .int .i64 t, .int .i64 ak, .int .i64 aat, .bool no]) "loop.example/stopgate/impl.fits").run Tryz.prog w = .ok (347, .agg #[.int .i64 1, .int .i64 t, .int .i64 ak, .int .i64 aat, .bool no]) w := fun _ => by kernel_rfl
    have hF := fun u => fits_addrN u t ak aat no n
    generalize (addrOk ⟨ak, aat⟩ && t == 0) = R at *
    rw [eI] at hI
    clear eI
    unfold srcC
    simp only
    go_enter Tryz.func234, Tryz.ntmps234
    go_wp2_with fail
    refine (hI _).mono ?_
    clear hI
    rintro e1 u1 ⟨rfl, g1⟩
    have G : Below w.heap.size w u1 := (below_aN (Below.refl _ _) _).trans (g1.mono (by simp <;> omega))
    clear g1
    go_wp2_with fail
    refine (hF _).mono ?_
    clear hF
    rintro e2 u2 ⟨rfl, g2⟩
    have G2 : Below w.heap.size w u2 := G.trans (g2.mono G.size)
    clear g2 G mW
    go_wp2
    go_ret
    exact ⟨rfl, G2⟩
  by_cases h2 : k = 2
  · subst h2
    rw [if_neg (by decide), if_pos (.inl rfl)]
    have hI := fun u => inputOf_any u ⟨2, t, ak, aat, no⟩
    have eI : inputV ⟨2, t, ak, aat, no⟩ = .iface 374 (.agg #[.int .i64 2, .int .i64 t, .int .i64 ak, .int .i64 aat, .bool no]) := rfl
    have mW : ∀ w : World, (method 547 374 (.agg #[.int .i64 2, .int .i64 t, .int .i64 ak, .int .i64 aat, .bool no]) "loop.example/stopgate/impl.fits").run Tryz.prog w = .ok (351, .agg #[.int .i64 2, .int .i64 t, .int .i64 ak, .int .i64 aat, .bool no]) w := fun _ => by kernel_rfl
    have hF := fun u => fits_wire u 2 t ak aat no n
    generalize (decide (0 ≤ t) && (decide (t < (n : Int)) && (ak == 0 && aat == 0))) = R at *
    rw [eI] at hI
    clear eI
    unfold srcC
    simp only
    go_enter Tryz.func234, Tryz.ntmps234
    go_wp2_with fail
    refine (hI _).mono ?_
    clear hI
    rintro e1 u1 ⟨rfl, g1⟩
    have G : Below w.heap.size w u1 := (below_aN (Below.refl _ _) _).trans (g1.mono (by simp <;> omega))
    clear g1
    go_wp2_with fail
    refine (hF _).mono ?_
    clear hF
    rintro e2 u2 ⟨rfl, g2⟩
    have G2 : Below w.heap.size w u2 := G.trans (g2.mono G.size)
    clear g2 G mW
    go_wp2
    go_ret
    exact ⟨rfl, G2⟩
  by_cases h3 : k = 3
  · subst h3
    rw [if_neg (by decide), if_pos (.inr rfl)]
    have hI := fun u => inputOf_any u ⟨3, t, ak, aat, no⟩
    have eI : inputV ⟨3, t, ak, aat, no⟩ = .iface 375 (.agg #[.int .i64 3, .int .i64 t, .int .i64 ak, .int .i64 aat, .bool no]) := rfl
    have mW : ∀ w : World, (method 547 375 (.agg #[.int .i64 3, .int .i64 t, .int .i64 ak, .int .i64 aat, .bool no]) "loop.example/stopgate/impl.fits").run Tryz.prog w = .ok (351, .agg #[.int .i64 3, .int .i64 t, .int .i64 ak, .int .i64 aat, .bool no]) w := fun _ => by kernel_rfl
    have hF := fun u => fits_wire u 3 t ak aat no n
    generalize (decide (0 ≤ t) && (decide (t < (n : Int)) && (ak == 0 && aat == 0))) = R at *
    rw [eI] at hI
    clear eI
    unfold srcC
    simp only
    go_enter Tryz.func234, Tryz.ntmps234
    go_wp2_with fail
    refine (hI _).mono ?_
    clear hI
    rintro e1 u1 ⟨rfl, g1⟩
    have G : Below w.heap.size w u1 := (below_aN (Below.refl _ _) _).trans (g1.mono (by simp <;> omega))
    clear g1
    go_wp2_with fail
    refine (hF _).mono ?_
    clear hF
    rintro e2 u2 ⟨rfl, g2⟩
    have G2 : Below w.heap.size w u2 := G.trans (g2.mono G.size)
    clear g2 G mW
    go_wp2
    go_ret
    exact ⟨rfl, G2⟩
  rw [if_neg h1, if_neg (by omega)]
  have hI := fun u => inputOf_any u ⟨k, t, ak, aat, no⟩
  have eI : inputV ⟨k, t, ak, aat, no⟩ = .nilIface := by unfold inputV; rw [if_neg h1, if_neg h2, if_neg h3]
  rw [eI] at hI
  clear eI
  clear h1 h2 h3
  unfold srcC
  simp only
  go_enter Tryz.func234, Tryz.ntmps234
  go_wp2_with fail
  refine (hI _).mono ?_
  clear hI
  rintro e1 u1 ⟨rfl, g1⟩
  have G : Below w.heap.size w u1 := (below_aN (Below.refl _ _) _).trans (g1.mono (by simp <;> omega))
  clear g1
  go_wp2
  go_ret
  exact ⟨rfl, G⟩
end Go.Proofs.YtaoiookfmgpmkaaGreatDoor
