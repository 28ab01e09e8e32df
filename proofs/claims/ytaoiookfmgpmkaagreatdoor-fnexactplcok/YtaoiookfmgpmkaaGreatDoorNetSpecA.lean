/-
  What chapter 7's model (package spec) answers of inputs and wires: l7Src, l7Gate, l7Two, l7Wire, l7Waits.
-/
import Derived.Test.YtaoiookfmgpmkaaGreatDoorNetStruct
import Derived.Test.YtaoiookfmgpmkaaGreatDoorBlockSpec
namespace Go.Proofs.YtaoiookfmgpmkaaGreatDoor
open Go.ChangeShapes Go.WideShapes Go.ChangeAt Go.RowKit
set_option linter.unusedVariables false
set_option linter.unusedSimpArgs false
set_option maxRecDepth 100000

theorem l7Gate_any (w : World) (k : Int) : Calls Tryz.prog 169 #[.int .i64 k] w fun e w' => e = .returned (.bool (gateK k)) ∧ w' = w := by
  unfold gateK
  by_cases h1 : 11 ≤ k
  · rw [decide_eq_true h1]
    go_enter Tryz.func169, Tryz.ntmps169
    go_wp2
    go_ret
    exact ⟨by simp, rfl⟩
  · rw [decide_eq_false h1]
    go_enter Tryz.func169, Tryz.ntmps169
    go_wp2
    go_ret
    exact ⟨by simp, rfl⟩

theorem l7Two_any (w : World) (k : Int) : Calls Tryz.prog 179 #[.int .i64 k] w fun e w' => e = .returned (.bool (twoK k)) ∧ w' = w := by
  unfold twoK
  have hG := fun u => l7Gate_any u k
  generalize gateK k = g at *
  cases g
  · cases h3 : (k == 3)
    · cases h5 : (k == 5)
      all_goals
        go_enter Tryz.func179, Tryz.ntmps179
        go_wp2_with (go_at_call 169; refine (hG _).mono ?_; rintro e w' ⟨rfl, rfl⟩)
        go_ret
        exact ⟨rfl, rfl⟩
    · go_enter Tryz.func179, Tryz.ntmps179
      go_wp2_with (go_at_call 169; refine (hG _).mono ?_; rintro e w' ⟨rfl, rfl⟩)
      go_ret
      exact ⟨rfl, rfl⟩
  · go_enter Tryz.func179, Tryz.ntmps179
    go_wp2_with (go_at_call 169; refine (hG _).mono ?_; rintro e w' ⟨rfl, rfl⟩)
    go_ret
    exact ⟨rfl, rfl⟩

set_option maxHeartbeats 4000000 in
theorem l7Src_any (w : World) (s : SrcD) (n : Nat) (hn : n ≤ 16777216) : Calls Tryz.prog 227 #[.agg (srcC s).toArray, .int .i64 n] w fun e w' => e = .returned (.bool (srcOk s n)) ∧ Below w.heap.size w w' := by
  have hA := fun u => sAddrOk_any u ⟨s.ak, s.aat⟩
  have hE := fun p q u => guard_addrK .eql p q s.ak s.aat 0 0 u
  have hQ := fun u => eql_addrK s.ak s.aat 0 0 u
  unfold srcOk
  by_cases k1 : s.kind = 1
  · rw [if_pos k1]
    clear hE hQ
    generalize addrOk ⟨s.ak, s.aat⟩ = ok at *
    cases ok
    · rw [Bool.false_and]
      go_enter Tryz.func227, Tryz.ntmps227
      go_wp2_with (refine wpList_boxG (vs := srcC s) rfl _ rfl rfl ?_)
      intro u1 g1 p1 s1
      have c0 : u1.cell? ⟨w.heap.size, 0, none⟩ = some (.int .i64 1) := by rw [← k1]; exact p1.c 0 _ rfl
      have hc : CV u1 w.heap.size 2 [.int .i64 s.ak, .int .i64 s.aat] := p1.c.part 2 2
      go_wp2_with (refine wpList_loadG Tryz.isAgg118 Tryz.sizeOf118 _ rfl rfl rfl rfl hc ?_)
      clear c0 hc
      refine (hA _).mono ?_
      rintro e u2 ⟨rfl, g2⟩
      have G := g1.trans (g2.mono (by omega))
      clear g1 g2 p1 hA
      go_wp2
      go_ret
      exact ⟨rfl, G⟩
    · rw [Bool.true_and]
      generalize hz : (s.at_ == 0) = z
      go_enter Tryz.func227, Tryz.ntmps227
      go_wp2_with (refine wpList_boxG (vs := srcC s) rfl _ rfl rfl ?_)
      intro u1 g1 p1 s1
      have c0 : u1.cell? ⟨w.heap.size, 0, none⟩ = some (.int .i64 1) := by rw [← k1]; exact p1.c 0 _ rfl
      have hc : CV u1 w.heap.size 2 [.int .i64 s.ak, .int .i64 s.aat] := p1.c.part 2 2
      go_wp2_with (refine wpList_loadG Tryz.isAgg118 Tryz.sizeOf118 _ rfl rfl rfl rfl hc ?_)
      clear c0 hc
      refine (hA _).mono ?_
      rintro e u2 ⟨rfl, g2⟩
      have G := g1.trans (g2.mono (by omega))
      have c1 : u2.cell? ⟨w.heap.size, 1, none⟩ = some (.int .i64 s.at_) := (p1.below g2 (by omega)).c 1 _ rfl
      clear g1 g2 p1 hA
      go_wp2
      go_ret
      exact ⟨rfl, G⟩
  rw [if_neg k1]
  clear hA
  have n1 : (s.kind == 1) = false := by simpa using k1
  have wire : ∀ k : Int, (k = 2 ∨ k = 3) → s.kind = k → Calls Tryz.prog 227 #[.agg (srcC s).toArray, .int .i64 n] w fun e w' => e = .returned (.bool (decide (0 ≤ s.at_) && (decide (s.at_ < (n : Int)) && (s.ak == 0 && s.aat == 0)))) ∧ Below w.heap.size w w' := by
    intro k hk hkk
    clear k1 n1
    generalize (s.ak == 0 && s.aat == 0) = z at *
    by_cases h1 : 0 ≤ s.at_
    · rw [decide_eq_true h1, Bool.true_and]
      by_cases h2 : s.at_ < (n : Int)
      · rw [decide_eq_true h2, Bool.true_and]
        rcases hk with rfl | rfl
        all_goals
          go_enter Tryz.func227, Tryz.ntmps227
          go_wp2_with (refine wpList_boxG (vs := srcC s) rfl _ rfl rfl ?_)
          intro u1 g1 p1 s1
          have c0 : u1.cell? ⟨w.heap.size, 0, none⟩ = _ := p1.c 0 _ rfl
          rw [hkk] at c0
          have c1 : u1.cell? ⟨w.heap.size, 1, none⟩ = some (.int .i64 s.at_) := p1.c 1 _ rfl
          have hc : CV u1 w.heap.size 2 [.int .i64 s.ak, .int .i64 s.aat] := p1.c.part 2 2
          clear hkk
          go_wp2_with (first
            | refine wpList_loadG Tryz.isAgg118 Tryz.sizeOf118 _ rfl rfl rfl rfl hc ?_
            | refine wpList_binG _ _ rfl rfl rfl rfl (hE _ _ _) (hQ _) ?_)
          go_ret
          exact ⟨rfl, g1⟩
      · rw [decide_eq_false h2, Bool.false_and]
        rcases hk with rfl | rfl
        all_goals
          go_enter Tryz.func227, Tryz.ntmps227
          go_wp2_with (refine wpList_boxG (vs := srcC s) rfl _ rfl rfl ?_)
          intro u1 g1 p1 s1
          have c0 : u1.cell? ⟨w.heap.size, 0, none⟩ = _ := p1.c 0 _ rfl
          rw [hkk] at c0
          have c1 : u1.cell? ⟨w.heap.size, 1, none⟩ = some (.int .i64 s.at_) := p1.c 1 _ rfl
          clear hkk hE hQ
          go_wp2
          go_ret
          exact ⟨rfl, g1⟩
    · rw [decide_eq_false h1, Bool.false_and]
      rcases hk with rfl | rfl
      all_goals
        go_enter Tryz.func227, Tryz.ntmps227
        go_wp2_with (refine wpList_boxG (vs := srcC s) rfl _ rfl rfl ?_)
        intro u1 g1 p1 s1
        have c0 : u1.cell? ⟨w.heap.size, 0, none⟩ = _ := p1.c 0 _ rfl
        rw [hkk] at c0
        have c1 : u1.cell? ⟨w.heap.size, 1, none⟩ = some (.int .i64 s.at_) := p1.c 1 _ rfl
        clear hkk hE hQ
        go_wp2
        go_ret
        exact ⟨rfl, g1⟩
  by_cases k2 : s.kind = 2
  · rw [if_pos (.inl k2)]; exact wire 2 (.inl rfl) k2
  by_cases k3 : s.kind = 3
  · rw [if_pos (.inr k3)]; exact wire 3 (.inr rfl) k3
  rw [if_neg (by omega)]
  clear wire hE hQ
  have n2 : (s.kind == 2) = false := by simpa using k2
  have n3 : (s.kind == 3) = false := by simpa using k3
  clear k1 k2 k3
  go_enter Tryz.func227, Tryz.ntmps227
  go_wp2_with (refine wpList_boxG (vs := srcC s) rfl _ rfl rfl ?_)
  intro u1 g1 p1 s1
  have c0 : u1.cell? ⟨w.heap.size, 0, none⟩ = some (.int .i64 s.kind) := p1.c 0 _ rfl
  go_wp2
  go_ret
  exact ⟨rfl, g1⟩

end Go.Proofs.YtaoiookfmgpmkaaGreatDoor
