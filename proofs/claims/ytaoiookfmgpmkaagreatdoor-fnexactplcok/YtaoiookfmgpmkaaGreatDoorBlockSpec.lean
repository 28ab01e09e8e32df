/-
  What chapter 6's model (package spec) answers: BlockNew, BlockOk; and the law's toBlock and eqBlock.
-/
import Derived.Test.YtaoiookfmgpmkaaGreatDoorBlockData
import Derived.Lib.SmallJoins
namespace Go.Proofs.YtaoiookfmgpmkaaGreatDoor
open Go.ChangeShapes Go.WideShapes Go.ChangeAt Go.RowKit
set_option linter.unusedVariables false

theorem below_al {w u : World} (h : Below w.heap.size w u) (o : Obj) : Below w.heap.size w (u.alloc o) := h.alloc h.size o
theorem below_se {w u : World} (h : Below w.heap.size w u) {b o : Nat} (hb : w.heap.size ≤ b) (v : Value) : Below w.heap.size w (u.setCell ⟨b, o, none⟩ v) := h.setCell (p := ⟨b, o, none⟩) hb v
theorem below_dr {w u : World} (h : Below w.heap.size w u) : Below w.heap.size w u.drew := h.drew

/-- The five cells of a block that may be written. -/
structure CellB (w : World) (B : Nat) (b : BlockD) : Prop where
  c0 : w.cell? ⟨B, 0, none⟩ = some (.int .i64 b.kind)
  c1 : w.cell? ⟨B, 1, none⟩ = some (.int .i64 b.n)
  c2 : w.cell? ⟨B, 2, none⟩ = some (.bool b.on)
  c3 : w.cell? ⟨B, 3, none⟩ = some (.bool b.was)
  c4 : w.cell? ⟨B, 4, none⟩ = some (.int .i64 b.t)
  f : ∀ o, w.frozen? ⟨B, o, none⟩ = false

theorem CellB.at_ {w w' : World} {B : Nat} {b : BlockD} (h : CellB w B b) (hk : w'.heap[B]? = w.heap[B]?) : CellB w' B b :=
  ⟨by rw [World.cell?_of_block (w := w) hk]; exact h.c0, by rw [World.cell?_of_block (w := w) hk]; exact h.c1, by rw [World.cell?_of_block (w := w) hk]; exact h.c2, by rw [World.cell?_of_block (w := w) hk]; exact h.c3, by rw [World.cell?_of_block (w := w) hk]; exact h.c4, fun o => by rw [World.frozen?_of_block (w := w) hk]; exact h.f o⟩
theorem CellB.below {w w' : World} {B n : Nat} {b : BlockD} (h : CellB w B b) (hb : Below n w w') (hB : B < n) : CellB w' B b := h.at_ (hb.block B hB)
theorem cellB_new (w : World) (b : BlockD) (t : TypeId) : CellB (w.alloc (.cells #[.int .i64 b.kind, .int .i64 b.n, .bool b.on, .bool b.was, .int .i64 b.t] t)) w.heap.size b :=
  ⟨World.cell?_alloc_new _ _ _ _, World.cell?_alloc_new _ _ _ _, World.cell?_alloc_new _ _ _ _, World.cell?_alloc_new _ _ _ _, World.cell?_alloc_new _ _ _ _, fun o => World.frozen?_alloc_new _ _ _ _⟩
theorem CellB.other {w : World} {B : Nat} {b : BlockD} (h : CellB w B b) {b' o : Nat} (hb : B ≠ b') (v : Value) : CellB (w.setCell ⟨b', o, none⟩ v) B b :=
  h.at_ (Below.heap_setCell _ _ _ _ hb)

/-- Five stores leave the block that they write. -/
theorem cellB_store {w : World} {B : Nat} {b0 : BlockD} (h : CellB w B b0) (b : BlockD) :
    CellB (((((w.setCell ⟨B, 0, none⟩ (.int .i64 b.kind)).setCell ⟨B, 1, none⟩ (.int .i64 b.n)).setCell ⟨B, 2, none⟩ (.bool b.on)).setCell ⟨B, 3, none⟩ (.bool b.was)).setCell ⟨B, 4, none⟩ (.int .i64 b.t)) B b := by
  obtain ⟨c0, c1, c2, c3, c4, f⟩ := h
  refine ⟨?_, ?_, ?_, ?_, ?_, fun o => by simp only [World.frozen?_setCell]; exact f o⟩
  · rw [cell_set_other _ (.inr (by decide)), cell_set_other _ (.inr (by decide)), cell_set_other _ (.inr (by decide)), cell_set_other _ (.inr (by decide))]
    exact World.cell?_setCell_same' _ _ _ (by rw [c0]; rfl)
  · rw [cell_set_other _ (.inr (by decide)), cell_set_other _ (.inr (by decide)), cell_set_other _ (.inr (by decide))]
    exact World.cell?_setCell_same' _ _ _ (by rw [cell_set_other _ (.inr (by decide)), c1]; rfl)
  · rw [cell_set_other _ (.inr (by decide)), cell_set_other _ (.inr (by decide))]
    exact World.cell?_setCell_same' _ _ _ (by rw [cell_set_other _ (.inr (by decide)), cell_set_other _ (.inr (by decide)), c2]; rfl)
  · rw [cell_set_other _ (.inr (by decide))]
    exact World.cell?_setCell_same' _ _ _ (by rw [cell_set_other _ (.inr (by decide)), cell_set_other _ (.inr (by decide)), cell_set_other _ (.inr (by decide)), c3]; rfl)
  · exact World.cell?_setCell_same' _ _ _ (by rw [cell_set_other _ (.inr (by decide)), cell_set_other _ (.inr (by decide)), cell_set_other _ (.inr (by decide)), cell_set_other _ (.inr (by decide)), c4]; rfl)

theorem numB_kinds {k : Int} (h : k = 1 ∨ k = 2 ∨ k = 3) (n : Int) : numB k n = (decide (0 ≤ n) && decide (n ≤ 1000)) := by unfold numB mostB; rw [if_pos h]
theorem numB_last {k : Int} (h : k = 4 ∨ k = 5) (n : Int) : numB k n = decide (n = 0) := by
  unfold numB mostB; rw [if_neg (by omega), if_pos h]
  by_cases h : n = 0
  · subst h; rfl
  · rw [decide_eq_false h]; simp; omega
theorem numB_none {k : Int} (h : k < 1 ∨ 5 < k) (n : Int) : numB k n = false := by
  unfold numB mostB; rw [if_neg (by omega), if_neg (by omega)]; simp; omega

set_option maxHeartbeats 1000000 in
theorem l6N_any (w : World) (k n : Int) :
    Calls Tryz.prog 211 #[.int .i64 k, .int .i64 n] w fun e w' => e = .returned (.bool (numB k n)) ∧ w' = w := by
  have big : ∀ k : Int, (k = 1 ∨ k = 2 ∨ k = 3) → Calls Tryz.prog 211 #[.int .i64 k, .int .i64 n] w fun e w' => e = .returned (.bool (decide (0 ≤ n) && decide (n ≤ 1000))) ∧ w' = w := by
    rintro k hk
    by_cases h1 : 0 ≤ n
    · by_cases h2 : n ≤ 1000
      · rw [decide_eq_true h1, decide_eq_true h2]
        rcases hk with rfl | rfl | rfl
        all_goals
          go_enter Tryz.func211, Tryz.ntmps211
          go_wp2
          go_ret
          exact ⟨rfl, rfl⟩
      · rw [decide_eq_true h1, decide_eq_false h2]
        rcases hk with rfl | rfl | rfl
        all_goals
          go_enter Tryz.func211, Tryz.ntmps211
          go_wp2
          go_ret
          exact ⟨by first | rfl | exact ret_bool (decide_eq_false (by omega)), rfl⟩
    · rw [decide_eq_false h1]
      rcases hk with rfl | rfl | rfl
      all_goals
        go_enter Tryz.func211, Tryz.ntmps211
        go_wp2
        go_ret
        exact ⟨rfl, rfl⟩
  rcases mostB_cases k with ⟨hk, _⟩ | ⟨hk, _⟩ | ⟨hk, _⟩
  · rw [numB_kinds hk]; exact big k hk
  · rw [numB_last hk]
    clear big
    rcases hk with rfl | rfl
    all_goals
      by_cases h : n = 0
      · subst h
        go_enter Tryz.func211, Tryz.ntmps211
        go_wp2
        go_ret
        exact ⟨rfl, rfl⟩
      · rw [decide_eq_false h]
        have h' : (n == 0) = false := by simpa using h
        clear h
        go_enter Tryz.func211, Tryz.ntmps211
        go_wp2
        go_ret
        exact ⟨rfl, rfl⟩
  · rw [numB_none hk]
    clear big
    have b1 : (k == 1) = false := by simp; omega
    have b2 : (k == 2) = false := by simp; omega
    have b3 : (k == 3) = false := by simp; omega
    have b4 : (k == 4) = false := by simp; omega
    have b5 : (k == 5) = false := by simp; omega
    clear hk
    go_enter Tryz.func211, Tryz.ntmps211
    go_wp2
    go_ret
    exact ⟨rfl, rfl⟩

set_option maxHeartbeats 1000000 in
theorem sBlockNew_any (w : World) (k n : Int) :
    Calls Tryz.prog 139 #[.int .i64 k, .int .i64 n] w fun e w' => e = .returned (blockNew k n).val ∧ Below w.heap.size w w' := by
  unfold blockNew
  have b1 := fun o => below_al (Below.refl w.heap.size w) o
  have hN := fun u => l6N_any u k n
  cases hn : numB k n
  · rw [hn] at hN
    simp only [Bool.false_eq_true, if_false]
    unfold BlockD.val noB
    go_enter Tryz.func139, Tryz.ntmps139
    go_wp2_with (go_at_call 211; refine (hN _).mono ?_; rintro e w' ⟨rfl, rfl⟩)
    refine bodyPost_ret (v := .agg #[.int .i64 0, .int .i64 0, .bool false, .bool false, .int .i64 0]) ?_ rfl ⟨rfl, ?_⟩
    · simp [results, Tryz.results139, go_sem]
    · repeat first | exact Below.refl _ _ | apply below_al | refine below_se ?_ (by simp <;> omega) _
  · rw [hn] at hN
    simp only [if_true]
    unfold BlockD.val
    go_enter Tryz.func139, Tryz.ntmps139
    go_wp2_with (go_at_call 211; refine (hN _).mono ?_; rintro e w' ⟨rfl, rfl⟩)
    refine bodyPost_ret (v := .agg #[.int .i64 k, .int .i64 n, .bool false, .bool false, .int .i64 0]) ?_ rfl ⟨rfl, ?_⟩
    · simp [results, Tryz.results139, go_sem]
    · repeat first | exact Below.refl _ _ | apply below_al | refine below_se ?_ (by simp <;> omega) _

theorem blockOk_alt (b : BlockD) : blockOk b = (numB b.kind b.n && (decide (0 ≤ b.t) && (decide (b.t ≤ 1000) && (decide (b.t = 0) || (b.kind == 1 || (b.kind == 2 || b.kind == 3)))))) := by
  unfold blockOk
  cases hn : numB b.kind b.n
  · rfl
  · rw [Bool.true_and, Bool.true_and]
    rcases mostB_cases b.kind with ⟨hk, _⟩ | ⟨hk, _⟩ | ⟨hk, _⟩
    · rw [numB_kinds hk]
      have e : (b.kind == 1 || (b.kind == 2 || b.kind == 3)) = true := by simp; omega
      rw [e, Bool.or_true, Bool.and_true]
    · rw [numB_last hk]
      have e : (b.kind == 1 || (b.kind == 2 || b.kind == 3)) = false := by simp; omega
      rw [e, Bool.or_false]
      by_cases h : b.t = 0
      · rw [h]; rfl
      · rw [decide_eq_false h]; simp
    · rw [numB_none hk] at hn; cases hn

set_option maxHeartbeats 2000000 in
theorem sBlockOk_any (w : World) (b : BlockD) :
    Calls Tryz.prog 170 #[b.val] w fun e w' => e = .returned (.bool (blockOk b)) ∧ Below w.heap.size w w' := by
  have b1 := fun o => below_al (Below.refl w.heap.size w) o
  rw [blockOk_alt]
  obtain ⟨k, n, on, was, t⟩ := b
  have hN := fun u => l6N_any u k n
  unfold BlockD.val
  simp only
  cases hn : numB k n
  · rw [hn] at hN
    go_enter Tryz.func170, Tryz.ntmps170
    go_wp2_with (go_at_call 211; refine (hN _).mono ?_; rintro e w' ⟨rfl, rfl⟩)
    go_ret
    exact ⟨rfl, b1 _⟩
  rw [hn] at hN
  by_cases h1 : t < 0
  · rw [decide_eq_false (show ¬ 0 ≤ t by omega)]
    go_enter Tryz.func170, Tryz.ntmps170
    go_wp2_with (go_at_call 211; refine (hN _).mono ?_; rintro e w' ⟨rfl, rfl⟩)
    go_ret
    exact ⟨rfl, b1 _⟩
  rw [decide_eq_true (show 0 ≤ t by omega)]
  by_cases h2 : 1000 < t
  · rw [decide_eq_false (show ¬ t ≤ 1000 by omega)]
    go_enter Tryz.func170, Tryz.ntmps170
    go_wp2_with (go_at_call 211; refine (hN _).mono ?_; rintro e w' ⟨rfl, rfl⟩)
    go_ret
    exact ⟨rfl, b1 _⟩
  rw [decide_eq_true (show t ≤ 1000 by omega)]
  by_cases h3 : t = 0
  · subst h3
    go_enter Tryz.func170, Tryz.ntmps170
    go_wp2_with (go_at_call 211; refine (hN _).mono ?_; rintro e w' ⟨rfl, rfl⟩)
    go_ret
    exact ⟨rfl, b1 _⟩
  rw [decide_eq_false h3]
  have h3' : (t == 0) = false := by simpa using h3
  clear h3
  cases e1 : (k == 1)
  · cases e2 : (k == 2)
    · cases e3 : (k == 3)
      all_goals
        go_enter Tryz.func170, Tryz.ntmps170
        go_wp2_with (go_at_call 211; refine (hN _).mono ?_; rintro e w' ⟨rfl, rfl⟩)
        go_ret
        exact ⟨rfl, b1 _⟩
    · go_enter Tryz.func170, Tryz.ntmps170
      go_wp2_with (go_at_call 211; refine (hN _).mono ?_; rintro e w' ⟨rfl, rfl⟩)
      go_ret
      exact ⟨rfl, b1 _⟩
  · go_enter Tryz.func170, Tryz.ntmps170
    go_wp2_with (go_at_call 211; refine (hN _).mono ?_; rintro e w' ⟨rfl, rfl⟩)
    go_ret
    exact ⟨rfl, b1 _⟩

set_option maxHeartbeats 1000000 in
theorem toBlock_any (w : World) (b : BlockD) :
    Calls Tryz.prog 182 #[b.val] w fun e w' => e = .returned b.val ∧ Below w.heap.size w w' := by
  obtain ⟨k, n, on, was, t⟩ := b
  unfold BlockD.val
  simp only
  go_enter Tryz.func182, Tryz.ntmps182
  go_wp2
  refine bodyPost_ret (v := .agg #[.int .i64 k, .int .i64 n, .bool on, .bool was, .int .i64 t]) ?_ rfl ⟨rfl, ?_⟩
  · simp [results, Tryz.results182, go_sem]
  · repeat first | exact Below.refl _ _ | apply below_al | refine below_se ?_ (by simp <;> omega) _

set_option maxHeartbeats 1000000 in
theorem eqBlock_same (w : World) (b : BlockD) :
    Calls Tryz.prog 196 #[b.val, b.val] w fun e w' => e = .returned (.bool true) ∧ Below w.heap.size w w' := by
  obtain ⟨k, n, on, was, t⟩ := b
  unfold BlockD.val
  simp only
  have e1 : (k != k) = false := by simp
  have e2 : (n != n) = false := by simp
  have e3 : (t != t) = false := by simp
  have e4 : (on != on) = false := by simp
  have e5 : (was != was) = false := by simp
  go_enter Tryz.func196, Tryz.ntmps196
  go_wp2
  go_ret
  exact ⟨rfl, by repeat first | exact Below.refl _ _ | apply below_al⟩
end Go.Proofs.YtaoiookfmgpmkaaGreatDoor
