/-
  What the model says of an instruction by itself: l5Turn, l5Jumps, l5Ins. (Written by our generator gen_depspec.py.)
-/
import Derived.Test.YtdhpbiplkjpiiaaGreatDoorQC4
import Derived.Test.YtdhpbiplkjpiiaaGreatDoorDag
import Derived.Laws.StructEq
namespace Go.Proofs.YtdhpbiplkjpiiaaGreatDoor
open Go.ChangeShapes Go.WideShapes Go.ChangeAt Go.RowKit
set_option linter.unusedVariables false
set_option maxRecDepth 100000

def byO (o : Int) : Int := if o = 1 ∨ o = 2 then 1 else if o = 3 ∨ o = 6 then -1 else if o = 4 then -1 else 0
def needO (o : Int) : Int := if o = 3 ∨ o = 6 then 1 else if o = 4 then 2 else if o = 5 then 1 else 0
theorem by_op (p : InsD) : byI p = byO p.op := rfl
theorem need_op (p : InsD) : needI p = needO p.op := rfl

set_option maxHeartbeats 1000000 in
theorem turn_any (w : World) (p : InsD) :
    Calls Tryz.prog 48 #[p.val] w fun e w' => e = .returned (.tuple #[.int .i64 (byI p), .int .i64 (needI p)]) ∧ Below w.heap.size w w' := by
  have b1 := fun x => (Below.refl w.heap.size w).alloc (Nat.le_refl _) x
  rw [by_op, need_op]
  unfold InsD.val
  generalize p.op = o
  by_cases h1 : o = 1
  · subst h1
    go_enter Tryz.func48, Tryz.ntmps48
    go_wp2
    go_ret2
    exact ⟨rfl, b1 _⟩
  by_cases h2 : o = 2
  · subst h2
    go_enter Tryz.func48, Tryz.ntmps48
    go_wp2
    go_ret2
    exact ⟨rfl, b1 _⟩
  by_cases h3 : o = 3
  · subst h3
    go_enter Tryz.func48, Tryz.ntmps48
    go_wp2
    go_ret2
    exact ⟨rfl, b1 _⟩
  by_cases h6 : o = 6
  · subst h6
    go_enter Tryz.func48, Tryz.ntmps48
    go_wp2
    go_ret2
    exact ⟨rfl, b1 _⟩
  by_cases h4 : o = 4
  · subst h4
    go_enter Tryz.func48, Tryz.ntmps48
    go_wp2
    go_ret2
    exact ⟨rfl, b1 _⟩
  by_cases h5 : o = 5
  · subst h5
    go_enter Tryz.func48, Tryz.ntmps48
    go_wp2
    go_ret2
    exact ⟨rfl, b1 _⟩
  have e1 : (o == 1) = false := by simp [h1]
  have e2 : (o == 2) = false := by simp [h2]
  have e3 : (o == 3) = false := by simp [h3]
  have e6 : (o == 6) = false := by simp [h6]
  have e4 : (o == 4) = false := by simp [h4]
  have e5 : (o == 5) = false := by simp [h5]
  rw [show byO o = 0 by simp [byO, h1, h2, h3, h6, h4], show needO o = 0 by simp [needO, h3, h6, h4, h5]]
  clear h1 h2 h3 h6 h4 h5
  go_enter Tryz.func48, Tryz.ntmps48
  go_wp2
  go_ret2
  exact ⟨rfl, b1 _⟩

set_option maxHeartbeats 1000000 in
theorem jumps_any (w : World) (p : InsD) :
    Calls Tryz.prog 49 #[p.val] w fun e w' => e = .returned (.bool (goesI p)) ∧ Below w.heap.size w w' := by
  have b1 := fun x => (Below.refl w.heap.size w).alloc (Nat.le_refl _) x
  unfold InsD.val goesI
  generalize p.op = o
  by_cases h6 : o = 6
  · subst h6
    go_enter Tryz.func49, Tryz.ntmps49
    go_wp2
    go_ret
    exact ⟨rfl, b1 _⟩
  by_cases h7 : o = 7
  · subst h7
    go_enter Tryz.func49, Tryz.ntmps49
    go_wp2
    go_ret
    exact ⟨rfl, b1 _⟩
  by_cases h8 : o = 8
  · subst h8
    go_enter Tryz.func49, Tryz.ntmps49
    go_wp2
    go_ret
    exact ⟨rfl, b1 _⟩
  have e6 : (o == 6) = false := by simp [h6]
  have e7 : (o == 7) = false := by simp [h7]
  have e8 : (o == 8) = false := by simp [h8]
  rw [e6, e7, e8]
  clear h6 h7 h8
  go_enter Tryz.func49, Tryz.ntmps49
  go_wp2
  go_ret
  exact ⟨rfl, b1 _⟩

set_option maxHeartbeats 4000000 in
theorem ins_any (w : World) (p : InsD) (i n : Nat) :
    Calls Tryz.prog 33 #[p.val, .int .i64 i, .int .i64 n] w fun e w' => e = .returned (.bool (fitI p i n)) ∧ Below w.heap.size w w' := by
  have b1 := fun x => (Below.refl w.heap.size w).alloc (Nat.le_refl _) x
  have hcut := fun W => sCut_any p.n W
  unfold InsD.val
  obtain ⟨u0, hu0, G0, C0, S0⟩ : ∃ u0, w.alloc (.cells #[.int .i64 p.op, .int .i64 p.n, .int .i64 p.ak, .int .i64 p.at_] 47) = u0 ∧ Below w.heap.size w u0 ∧ CellI u0 w.heap.size 0 p ∧ u0.heap.size = w.heap.size + 1 :=
    ⟨_, rfl, b1 _, (fourI_new _ _ _).c, by simp⟩
  have HU : Hid (_ = u0) := hu0
  clear hu0
  have hao := sAddrOk_any u0 ⟨p.ak, p.at_⟩
  have ev : AddrD.val ⟨p.ak, p.at_⟩ = .agg #[.int .i64 p.ak, .int .i64 p.at_] := rfl
  rw [ev] at hao
  clear ev
  have c0 := C0.c0
  have c1 : u0.cell? ⟨w.heap.size, 1, none⟩ = some (.int .i64 p.n) := C0.c1
  have c2 : u0.cell? ⟨w.heap.size, 2, none⟩ = some (.int .i64 p.ak) := C0.c2
  have c3 : u0.cell? ⟨w.heap.size, 3, none⟩ = some (.int .i64 p.at_) := C0.c3
  have HC : Hid (CellI u0 w.heap.size 0 p) := C0
  clear C0
  unfold fitI noAddr
  obtain ⟨o, ho⟩ : ∃ o, p.op = o := ⟨_, rfl⟩
  rw [ho] at c0 ⊢
  rw [ho] at HU
  have HO : Hid (p.op = o) := ho
  clear ho
  by_cases h2 : o = 2
  · subst h2
    rw [if_neg (show ¬ ((2 : Int) = 1) by decide), if_pos rfl]
    clear hcut
    obtain ⟨ok, hok⟩ : ∃ ok, addrOk ⟨p.ak, p.at_⟩ = ok := ⟨_, rfl⟩
    rw [hok] at hao ⊢
    clear hok
    cases hk0 : (p.ak == 0) with
    | false =>
      cases ok with
      | false =>
        go_enter Tryz.func33, Tryz.ntmps33
        go_wp2_with fail
        rw [HU.out]
        refine hao.mono ?_
        rintro e1 u1 ⟨rfl, g1⟩
        have G1 := G0.trans (g1.mono (by omega))
        have k1 : u1.cell? ⟨w.heap.size, 1, none⟩ = some (.int .i64 p.n) := (HC.out.below g1 (by omega)).c1
        have k2 : u1.cell? ⟨w.heap.size, 2, none⟩ = some (.int .i64 p.ak) := (HC.out.below g1 (by omega)).c2
        clear g1 hao c0 c1 c2 c3
        go_wp2
        go_ret
        exact ⟨ret_bool (by first | rfl | simp), G1⟩
      | true =>
        go_enter Tryz.func33, Tryz.ntmps33
        go_wp2_with fail
        rw [HU.out]
        refine hao.mono ?_
        rintro e1 u1 ⟨rfl, g1⟩
        have G1 := G0.trans (g1.mono (by omega))
        have k1 : u1.cell? ⟨w.heap.size, 1, none⟩ = some (.int .i64 p.n) := (HC.out.below g1 (by omega)).c1
        have k2 : u1.cell? ⟨w.heap.size, 2, none⟩ = some (.int .i64 p.ak) := (HC.out.below g1 (by omega)).c2
        clear g1 hao c0 c1 c2 c3
        go_wp2
        go_ret
        exact ⟨ret_bool (by first | rfl | simp), G1⟩
    | true =>
      cases ht0 : (p.at_ == 0) with
      | false =>
        cases ok with
        | false =>
          go_enter Tryz.func33, Tryz.ntmps33
          go_wp2_with fail
          rw [HU.out]
          refine hao.mono ?_
          rintro e1 u1 ⟨rfl, g1⟩
          have G1 := G0.trans (g1.mono (by omega))
          have k1 : u1.cell? ⟨w.heap.size, 1, none⟩ = some (.int .i64 p.n) := (HC.out.below g1 (by omega)).c1
          have k2 : u1.cell? ⟨w.heap.size, 2, none⟩ = some (.int .i64 p.ak) := (HC.out.below g1 (by omega)).c2
          clear g1 hao c0 c1 c2 c3
          go_wp2
          go_ret
          exact ⟨ret_bool (by first | rfl | simp), G1⟩
        | true =>
          go_enter Tryz.func33, Tryz.ntmps33
          go_wp2_with fail
          rw [HU.out]
          refine hao.mono ?_
          rintro e1 u1 ⟨rfl, g1⟩
          have G1 := G0.trans (g1.mono (by omega))
          have k1 : u1.cell? ⟨w.heap.size, 1, none⟩ = some (.int .i64 p.n) := (HC.out.below g1 (by omega)).c1
          have k2 : u1.cell? ⟨w.heap.size, 2, none⟩ = some (.int .i64 p.ak) := (HC.out.below g1 (by omega)).c2
          clear g1 hao c0 c1 c2 c3
          go_wp2
          go_ret
          exact ⟨ret_bool (by first | rfl | simp), G1⟩
      | true =>
        cases ok with
        | false =>
          go_enter Tryz.func33, Tryz.ntmps33
          go_wp2_with fail
          rw [HU.out]
          refine hao.mono ?_
          rintro e1 u1 ⟨rfl, g1⟩
          have G1 := G0.trans (g1.mono (by omega))
          have k1 : u1.cell? ⟨w.heap.size, 1, none⟩ = some (.int .i64 p.n) := (HC.out.below g1 (by omega)).c1
          have k2 : u1.cell? ⟨w.heap.size, 2, none⟩ = some (.int .i64 p.ak) := (HC.out.below g1 (by omega)).c2
          clear g1 hao c0 c1 c2 c3
          go_wp2
          go_ret
          exact ⟨ret_bool (by first | rfl | simp), G1⟩
        | true =>
          go_enter Tryz.func33, Tryz.ntmps33
          go_wp2_with fail
          rw [HU.out]
          refine hao.mono ?_
          rintro e1 u1 ⟨rfl, g1⟩
          have G1 := G0.trans (g1.mono (by omega))
          have k1 : u1.cell? ⟨w.heap.size, 1, none⟩ = some (.int .i64 p.n) := (HC.out.below g1 (by omega)).c1
          have k2 : u1.cell? ⟨w.heap.size, 2, none⟩ = some (.int .i64 p.ak) := (HC.out.below g1 (by omega)).c2
          clear g1 hao c0 c1 c2 c3
          go_wp2
          go_ret
          exact ⟨ret_bool (by first | rfl | simp), G1⟩
  by_cases h3 : o = 3
  · subst h3
    rw [if_neg (show ¬ ((3 : Int) = 1) by decide), if_neg (show ¬ ((3 : Int) = 2) by decide), if_pos rfl]
    clear hcut
    obtain ⟨ok, hok⟩ : ∃ ok, addrOk ⟨p.ak, p.at_⟩ = ok := ⟨_, rfl⟩
    rw [hok] at hao ⊢
    clear hok
    cases hk0 : (p.ak == 0) with
    | false =>
      cases ok with
      | false =>
        go_enter Tryz.func33, Tryz.ntmps33
        go_wp2_with fail
        rw [HU.out]
        refine hao.mono ?_
        rintro e1 u1 ⟨rfl, g1⟩
        have G1 := G0.trans (g1.mono (by omega))
        have k1 : u1.cell? ⟨w.heap.size, 1, none⟩ = some (.int .i64 p.n) := (HC.out.below g1 (by omega)).c1
        have k2 : u1.cell? ⟨w.heap.size, 2, none⟩ = some (.int .i64 p.ak) := (HC.out.below g1 (by omega)).c2
        clear g1 hao c0 c1 c2 c3
        go_wp2
        go_ret
        exact ⟨ret_bool (by first | rfl | simp), G1⟩
      | true =>
        cases hk1 : (p.ak != 1) with
        | false =>
          go_enter Tryz.func33, Tryz.ntmps33
          go_wp2_with fail
          rw [HU.out]
          refine hao.mono ?_
          rintro e1 u1 ⟨rfl, g1⟩
          have G1 := G0.trans (g1.mono (by omega))
          have k1 : u1.cell? ⟨w.heap.size, 1, none⟩ = some (.int .i64 p.n) := (HC.out.below g1 (by omega)).c1
          have k2 : u1.cell? ⟨w.heap.size, 2, none⟩ = some (.int .i64 p.ak) := (HC.out.below g1 (by omega)).c2
          clear g1 hao c0 c1 c2 c3
          go_wp2
          go_ret
          exact ⟨ret_bool (by first | rfl | simp), G1⟩
        | true =>
          go_enter Tryz.func33, Tryz.ntmps33
          go_wp2_with fail
          rw [HU.out]
          refine hao.mono ?_
          rintro e1 u1 ⟨rfl, g1⟩
          have G1 := G0.trans (g1.mono (by omega))
          have k1 : u1.cell? ⟨w.heap.size, 1, none⟩ = some (.int .i64 p.n) := (HC.out.below g1 (by omega)).c1
          have k2 : u1.cell? ⟨w.heap.size, 2, none⟩ = some (.int .i64 p.ak) := (HC.out.below g1 (by omega)).c2
          clear g1 hao c0 c1 c2 c3
          go_wp2
          go_ret
          exact ⟨ret_bool (by first | rfl | simp), G1⟩
    | true =>
      cases ht0 : (p.at_ == 0) with
      | false =>
        cases ok with
        | false =>
          go_enter Tryz.func33, Tryz.ntmps33
          go_wp2_with fail
          rw [HU.out]
          refine hao.mono ?_
          rintro e1 u1 ⟨rfl, g1⟩
          have G1 := G0.trans (g1.mono (by omega))
          have k1 : u1.cell? ⟨w.heap.size, 1, none⟩ = some (.int .i64 p.n) := (HC.out.below g1 (by omega)).c1
          have k2 : u1.cell? ⟨w.heap.size, 2, none⟩ = some (.int .i64 p.ak) := (HC.out.below g1 (by omega)).c2
          clear g1 hao c0 c1 c2 c3
          go_wp2
          go_ret
          exact ⟨ret_bool (by first | rfl | simp), G1⟩
        | true =>
          cases hk1 : (p.ak != 1) with
          | false =>
            go_enter Tryz.func33, Tryz.ntmps33
            go_wp2_with fail
            rw [HU.out]
            refine hao.mono ?_
            rintro e1 u1 ⟨rfl, g1⟩
            have G1 := G0.trans (g1.mono (by omega))
            have k1 : u1.cell? ⟨w.heap.size, 1, none⟩ = some (.int .i64 p.n) := (HC.out.below g1 (by omega)).c1
            have k2 : u1.cell? ⟨w.heap.size, 2, none⟩ = some (.int .i64 p.ak) := (HC.out.below g1 (by omega)).c2
            clear g1 hao c0 c1 c2 c3
            go_wp2
            go_ret
            exact ⟨ret_bool (by first | rfl | simp), G1⟩
          | true =>
            go_enter Tryz.func33, Tryz.ntmps33
            go_wp2_with fail
            rw [HU.out]
            refine hao.mono ?_
            rintro e1 u1 ⟨rfl, g1⟩
            have G1 := G0.trans (g1.mono (by omega))
            have k1 : u1.cell? ⟨w.heap.size, 1, none⟩ = some (.int .i64 p.n) := (HC.out.below g1 (by omega)).c1
            have k2 : u1.cell? ⟨w.heap.size, 2, none⟩ = some (.int .i64 p.ak) := (HC.out.below g1 (by omega)).c2
            clear g1 hao c0 c1 c2 c3
            go_wp2
            go_ret
            exact ⟨ret_bool (by first | rfl | simp), G1⟩
      | true =>
        cases ok with
        | false =>
          go_enter Tryz.func33, Tryz.ntmps33
          go_wp2_with fail
          rw [HU.out]
          refine hao.mono ?_
          rintro e1 u1 ⟨rfl, g1⟩
          have G1 := G0.trans (g1.mono (by omega))
          have k1 : u1.cell? ⟨w.heap.size, 1, none⟩ = some (.int .i64 p.n) := (HC.out.below g1 (by omega)).c1
          have k2 : u1.cell? ⟨w.heap.size, 2, none⟩ = some (.int .i64 p.ak) := (HC.out.below g1 (by omega)).c2
          clear g1 hao c0 c1 c2 c3
          go_wp2
          go_ret
          exact ⟨ret_bool (by first | rfl | simp), G1⟩
        | true =>
          cases hk1 : (p.ak != 1) with
          | false =>
            go_enter Tryz.func33, Tryz.ntmps33
            go_wp2_with fail
            rw [HU.out]
            refine hao.mono ?_
            rintro e1 u1 ⟨rfl, g1⟩
            have G1 := G0.trans (g1.mono (by omega))
            have k1 : u1.cell? ⟨w.heap.size, 1, none⟩ = some (.int .i64 p.n) := (HC.out.below g1 (by omega)).c1
            have k2 : u1.cell? ⟨w.heap.size, 2, none⟩ = some (.int .i64 p.ak) := (HC.out.below g1 (by omega)).c2
            clear g1 hao c0 c1 c2 c3
            go_wp2
            go_ret
            exact ⟨ret_bool (by first | rfl | simp), G1⟩
          | true =>
            go_enter Tryz.func33, Tryz.ntmps33
            go_wp2_with fail
            rw [HU.out]
            refine hao.mono ?_
            rintro e1 u1 ⟨rfl, g1⟩
            have G1 := G0.trans (g1.mono (by omega))
            have k1 : u1.cell? ⟨w.heap.size, 1, none⟩ = some (.int .i64 p.n) := (HC.out.below g1 (by omega)).c1
            have k2 : u1.cell? ⟨w.heap.size, 2, none⟩ = some (.int .i64 p.ak) := (HC.out.below g1 (by omega)).c2
            clear g1 hao c0 c1 c2 c3
            go_wp2
            go_ret
            exact ⟨ret_bool (by first | rfl | simp), G1⟩
  clear hao
  have n2 : (o == 2) = false := by simp [h2]
  have n3 : (o == 3) = false := by simp [h3]
  by_cases h1 : o = 1
  · subst h1
    rw [if_pos rfl]
    cases hk : (p.ak == 0) with
    | false =>
      clear hcut
      go_enter Tryz.func33, Tryz.ntmps33
      go_wp2_with fail
      rw [HU.out]
      go_quiet (fail)
      go_wp2
      go_ret
      exact ⟨ret_bool (by first | rfl | simp), below_drewN G0 _⟩
    | true =>
      cases ht : (p.at_ == 0) with
      | false =>
        clear hcut
        go_enter Tryz.func33, Tryz.ntmps33
        go_wp2_with fail
        rw [HU.out]
        go_quiet (fail)
        go_wp2
        go_ret
        exact ⟨ret_bool (by first | rfl | simp), below_drewN G0 _⟩
      | true =>
        go_enter Tryz.func33, Tryz.ntmps33
        go_wp2_with fail
        rw [HU.out]
        go_quiet ((go_at_call 46; exact Calls.quiet_of_same (hcut _)))
        go_wp2
        go_ret
        exact ⟨ret_bool (by first | rfl | simp), below_drewN G0 _⟩
  clear hcut
  have n1 : (o == 1) = false := by simp [h1]
  by_cases h4 : o = 4
  · subst h4
    rw [if_neg (show ¬ ((4 : Int) = 1) by decide), if_neg (show ¬ ((4 : Int) = 2) by decide), if_neg (show ¬ ((4 : Int) = 3) by decide), if_pos rfl]
    cases hk : (p.ak == 0) with
    | false =>
      go_enter Tryz.func33, Tryz.ntmps33
      go_wp2
      go_ret
      exact ⟨ret_bool (by first | rfl | simp), b1 _⟩
    | true =>
      cases ht : (p.at_ == 0) with
      | false =>
        go_enter Tryz.func33, Tryz.ntmps33
        go_wp2
        go_ret
        exact ⟨ret_bool (by first | rfl | simp), b1 _⟩
      | true =>
        by_cases q1 : 3 ≤ p.n
        · by_cases q2 : p.n ≤ 9
          · rw [decide_eq_true q1, decide_eq_true q2]
            go_enter Tryz.func33, Tryz.ntmps33
            go_wp2
            go_ret
            exact ⟨ret_bool (by first | rfl | simp), b1 _⟩
          · rw [decide_eq_true q1, decide_eq_false q2]
            go_enter Tryz.func33, Tryz.ntmps33
            go_wp2
            go_ret
            exact ⟨ret_bool (by first | rfl | simp), b1 _⟩
        · rw [decide_eq_false q1]
          go_enter Tryz.func33, Tryz.ntmps33
          go_wp2
          go_ret
          exact ⟨ret_bool (by first | rfl | simp), b1 _⟩
  have n4 : (o == 4) = false := by simp [h4]
  by_cases h5 : o = 5
  · subst h5
    rw [if_neg (show ¬ ((5 : Int) = 1) by decide), if_neg (show ¬ ((5 : Int) = 2) by decide), if_neg (show ¬ ((5 : Int) = 3) by decide), if_neg (show ¬ ((5 : Int) = 4) by decide), if_pos rfl]
    cases hk : (p.ak == 0) with
    | false =>
      go_enter Tryz.func33, Tryz.ntmps33
      go_wp2
      go_ret
      exact ⟨ret_bool (by first | rfl | simp), b1 _⟩
    | true =>
      cases ht : (p.at_ == 0) with
      | false =>
        go_enter Tryz.func33, Tryz.ntmps33
        go_wp2
        go_ret
        exact ⟨ret_bool (by first | rfl | simp), b1 _⟩
      | true =>
        go_enter Tryz.func33, Tryz.ntmps33
        go_wp2
        go_ret
        exact ⟨ret_bool (by first | rfl | simp), b1 _⟩
  have n5 : (o == 5) = false := by simp [h5]
  by_cases h6 : o = 6
  · subst h6
    rw [if_neg (show ¬ ((6 : Int) = 1) by decide), if_neg (show ¬ ((6 : Int) = 2) by decide), if_neg (show ¬ ((6 : Int) = 3) by decide), if_neg (show ¬ ((6 : Int) = 4) by decide), if_neg (show ¬ ((6 : Int) = 5) by decide), if_pos (show ((6 : Int) = 6 ∨ (6 : Int) = 7) by decide)]
    cases hk : (p.ak == 0) with
    | false =>
      go_enter Tryz.func33, Tryz.ntmps33
      go_wp2
      go_ret
      exact ⟨ret_bool (by first | rfl | simp), b1 _⟩
    | true =>
      cases ht : (p.at_ == 0) with
      | false =>
        go_enter Tryz.func33, Tryz.ntmps33
        go_wp2
        go_ret
        exact ⟨ret_bool (by first | rfl | simp), b1 _⟩
      | true =>
        by_cases q1 : (i : Int) < p.n
        · by_cases q2 : p.n ≤ (n : Int)
          · rw [decide_eq_true q1, decide_eq_true q2]
            go_enter Tryz.func33, Tryz.ntmps33
            go_wp2
            go_ret
            exact ⟨ret_bool (by first | rfl | simp), b1 _⟩
          · rw [decide_eq_true q1, decide_eq_false q2]
            go_enter Tryz.func33, Tryz.ntmps33
            go_wp2
            go_ret
            exact ⟨ret_bool (by first | rfl | simp), b1 _⟩
        · rw [decide_eq_false q1]
          go_enter Tryz.func33, Tryz.ntmps33
          go_wp2
          go_ret
          exact ⟨ret_bool (by first | rfl | simp), b1 _⟩
  have n6 : (o == 6) = false := by simp [h6]
  by_cases h7 : o = 7
  · subst h7
    rw [if_neg (show ¬ ((7 : Int) = 1) by decide), if_neg (show ¬ ((7 : Int) = 2) by decide), if_neg (show ¬ ((7 : Int) = 3) by decide), if_neg (show ¬ ((7 : Int) = 4) by decide), if_neg (show ¬ ((7 : Int) = 5) by decide), if_pos (show ((7 : Int) = 6 ∨ (7 : Int) = 7) by decide)]
    cases hk : (p.ak == 0) with
    | false =>
      go_enter Tryz.func33, Tryz.ntmps33
      go_wp2
      go_ret
      exact ⟨ret_bool (by first | rfl | simp), b1 _⟩
    | true =>
      cases ht : (p.at_ == 0) with
      | false =>
        go_enter Tryz.func33, Tryz.ntmps33
        go_wp2
        go_ret
        exact ⟨ret_bool (by first | rfl | simp), b1 _⟩
      | true =>
        by_cases q1 : (i : Int) < p.n
        · by_cases q2 : p.n ≤ (n : Int)
          · rw [decide_eq_true q1, decide_eq_true q2]
            go_enter Tryz.func33, Tryz.ntmps33
            go_wp2
            go_ret
            exact ⟨ret_bool (by first | rfl | simp), b1 _⟩
          · rw [decide_eq_true q1, decide_eq_false q2]
            go_enter Tryz.func33, Tryz.ntmps33
            go_wp2
            go_ret
            exact ⟨ret_bool (by first | rfl | simp), b1 _⟩
        · rw [decide_eq_false q1]
          go_enter Tryz.func33, Tryz.ntmps33
          go_wp2
          go_ret
          exact ⟨ret_bool (by first | rfl | simp), b1 _⟩
  have n7 : (o == 7) = false := by simp [h7]
  by_cases h8 : o = 8
  · subst h8
    rw [if_neg (show ¬ ((8 : Int) = 1) by decide), if_neg (show ¬ ((8 : Int) = 2) by decide), if_neg (show ¬ ((8 : Int) = 3) by decide), if_neg (show ¬ ((8 : Int) = 4) by decide), if_neg (show ¬ ((8 : Int) = 5) by decide), if_neg (show ¬ ((8 : Int) = 6 ∨ (8 : Int) = 7) by decide), if_pos rfl]
    cases hk : (p.ak == 0) with
    | false =>
      go_enter Tryz.func33, Tryz.ntmps33
      go_wp2
      go_ret
      exact ⟨ret_bool (by first | rfl | simp), b1 _⟩
    | true =>
      cases ht : (p.at_ == 0) with
      | false =>
        go_enter Tryz.func33, Tryz.ntmps33
        go_wp2
        go_ret
        exact ⟨ret_bool (by first | rfl | simp), b1 _⟩
      | true =>
        by_cases q1 : 0 ≤ p.n
        · by_cases q2 : p.n < (i : Int)
          · rw [decide_eq_true q1, decide_eq_true q2]
            go_enter Tryz.func33, Tryz.ntmps33
            go_wp2
            go_ret
            exact ⟨ret_bool (by first | rfl | simp), b1 _⟩
          · rw [decide_eq_true q1, decide_eq_false q2]
            go_enter Tryz.func33, Tryz.ntmps33
            go_wp2
            go_ret
            exact ⟨ret_bool (by first | rfl | simp), b1 _⟩
        · rw [decide_eq_false q1]
          go_enter Tryz.func33, Tryz.ntmps33
          go_wp2
          go_ret
          exact ⟨ret_bool (by first | rfl | simp), b1 _⟩
  have n8 : (o == 8) = false := by simp [h8]
  rw [if_neg h1, if_neg h2, if_neg h3, if_neg h4, if_neg h5, if_neg (by omega), if_neg h8]
  clear h1 h2 h3 h4 h5 h6 h7 h8
  cases hk : (p.ak == 0) with
  | false =>
    go_enter Tryz.func33, Tryz.ntmps33
    go_wp2
    go_ret
    exact ⟨ret_bool (by first | rfl | simp), b1 _⟩
  | true =>
    cases ht : (p.at_ == 0) with
    | false =>
      go_enter Tryz.func33, Tryz.ntmps33
      go_wp2
      go_ret
      exact ⟨ret_bool (by first | rfl | simp), b1 _⟩
    | true =>
      go_enter Tryz.func33, Tryz.ntmps33
      go_wp2
      go_ret
      exact ⟨ret_bool (by first | rfl | simp), b1 _⟩
end Go.Proofs.YtdhpbiplkjpiiaaGreatDoor
