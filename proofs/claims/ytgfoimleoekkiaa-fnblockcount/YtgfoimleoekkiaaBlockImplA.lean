/-
  The program's kinds of blocks, behind an interface: most, reach, on. (Written by our generator gen_block.py.)
-/
import Derived.Test.YtgfoimleoekkiaaBlockKit
namespace Go.Proofs.Ytgfoimleoekkiaa
open Go.ChangeShapes Go.WideShapes Go.ChangeAt Go.RowKit
set_option linter.unusedVariables false
set_option linter.unusedSimpArgs false

set_option maxRecDepth 100000

/-- The kind of a number, as an interface's value. -/
def kindVB (k : Int) : Value := if k = 1 then .iface 66 (.agg #[]) else if k = 2 then .iface 67 (.agg #[]) else if k = 3 then .iface 68 (.agg #[]) else if k = 4 then .iface 71 (.agg #[]) else if k = 5 then .iface 72 (.agg #[]) else .nilIface

/-- What comes to a block at a step. -/
def inV (x y : Bool) (dt : Int) : Value := .agg #[.bool x, .bool y, .int .i64 dt]

/-- T behind a step; it may be more than T may be. -/
def reachB (b : BlockD) (x y : Bool) (dt : Int) : Int :=
  if b.kind = 1 then (if x && b.was then b.t + dt else 0)
  else if b.kind = 2 then (if x || b.was then 0 else b.t + dt)
  else if b.kind = 3 then (if y then 0 else if x && !b.was then b.t + 1 else b.t)
  else 0

set_option maxHeartbeats 1000000 in
theorem kindOfB_any (w : World) (k : Int) :
    Calls Try.prog 28 #[.int .i64 k] w fun e w' => e = .returned (kindVB k) ∧ w' = w := by
  unfold kindVB
  by_cases h1 : k = 1
  · subst h1
    go_enter Try.func28, Try.ntmps28
    go_wp2
    go_ret
    exact ⟨rfl, rfl⟩
  rw [if_neg h1]
  have b1 : (k == 1) = false := by simpa using h1
  clear h1
  by_cases h2 : k = 2
  · subst h2
    go_enter Try.func28, Try.ntmps28
    go_wp2
    go_ret
    exact ⟨rfl, rfl⟩
  rw [if_neg h2]
  have b2 : (k == 2) = false := by simpa using h2
  clear h2
  by_cases h3 : k = 3
  · subst h3
    go_enter Try.func28, Try.ntmps28
    go_wp2
    go_ret
    exact ⟨rfl, rfl⟩
  rw [if_neg h3]
  have b3 : (k == 3) = false := by simpa using h3
  clear h3
  by_cases h4 : k = 4
  · subst h4
    go_enter Try.func28, Try.ntmps28
    go_wp2
    go_ret
    exact ⟨rfl, rfl⟩
  rw [if_neg h4]
  have b4 : (k == 4) = false := by simpa using h4
  clear h4
  by_cases h5 : k = 5
  · subst h5
    go_enter Try.func28, Try.ntmps28
    go_wp2
    go_ret
    exact ⟨rfl, rfl⟩
  rw [if_neg h5]
  have b5 : (k == 5) = false := by simpa using h5
  clear h5
  go_enter Try.func28, Try.ntmps28
  go_wp2
  go_ret
  exact ⟨rfl, rfl⟩

theorem most_measured (w : World) : Calls Try.prog 55 #[.agg #[]] w fun e w' => e = .returned (.int .i64 1000) ∧ Below w.heap.size w w' := by
  go_enter Try.func55, Try.ntmps55
  go_wp2
  go_ret
  exact ⟨rfl, by repeat first | exact Below.refl _ _ | apply below_al | apply below_dr | refine below_se ?_ (by simp <;> omega) _⟩

theorem most_unmeasured (w : World) : Calls Try.prog 62 #[.agg #[]] w fun e w' => e = .returned (.int .i64 0) ∧ Below w.heap.size w w' := by
  go_enter Try.func62, Try.ntmps62
  go_wp2
  go_ret
  exact ⟨rfl, by repeat first | exact Below.refl _ _ | apply below_al | apply below_dr | refine below_se ?_ (by simp <;> omega) _⟩

set_option maxHeartbeats 2000000 in
theorem reach1 (w : World) (n t dt : Int) (on was x y : Bool) (ht : 0 ≤ t) (ht' : t ≤ 1000) (hd : 0 ≤ dt) (hd' : dt ≤ 1000) :
    Calls Try.prog 57 #[.agg #[], BlockD.val ⟨1, n, on, was, t⟩, inV x y dt] w fun e w' => e = .returned (.int .i64 (reachB ⟨1, n, on, was, t⟩ x y dt)) ∧ Below w.heap.size w w' := by
  unfold BlockD.val inV reachB
  simp only [reduceIte, show ¬ ((2 : Int) = 1) by decide, show ¬ ((3 : Int) = 1) by decide, show ¬ ((3 : Int) = 2) by decide, show ¬ ((4 : Int) = 1) by decide, show ¬ ((4 : Int) = 2) by decide, show ¬ ((4 : Int) = 3) by decide, show ¬ ((5 : Int) = 1) by decide, show ¬ ((5 : Int) = 2) by decide, show ¬ ((5 : Int) = 3) by decide, show ¬ ((5 : Int) = 4) by decide]
  cases x <;> cases was
  all_goals
    simp only [Bool.true_and, Bool.and_true, Bool.false_and, Bool.and_false, Bool.true_or, Bool.or_true, Bool.false_or, Bool.or_false, Bool.not_true, Bool.not_false, Bool.false_eq_true, reduceIte]
    go_enter Try.func57, Try.ntmps57
    go_wp2
    go_ret
    exact ⟨rfl, by repeat first | exact Below.refl _ _ | apply below_al | apply below_dr | refine below_se ?_ (by simp <;> omega) _⟩

set_option maxHeartbeats 2000000 in
theorem reach2 (w : World) (n t dt : Int) (on was x y : Bool) (ht : 0 ≤ t) (ht' : t ≤ 1000) (hd : 0 ≤ dt) (hd' : dt ≤ 1000) :
    Calls Try.prog 59 #[.agg #[], BlockD.val ⟨2, n, on, was, t⟩, inV x y dt] w fun e w' => e = .returned (.int .i64 (reachB ⟨2, n, on, was, t⟩ x y dt)) ∧ Below w.heap.size w w' := by
  unfold BlockD.val inV reachB
  simp only [reduceIte, show ¬ ((2 : Int) = 1) by decide, show ¬ ((3 : Int) = 1) by decide, show ¬ ((3 : Int) = 2) by decide, show ¬ ((4 : Int) = 1) by decide, show ¬ ((4 : Int) = 2) by decide, show ¬ ((4 : Int) = 3) by decide, show ¬ ((5 : Int) = 1) by decide, show ¬ ((5 : Int) = 2) by decide, show ¬ ((5 : Int) = 3) by decide, show ¬ ((5 : Int) = 4) by decide]
  cases x <;> cases was
  all_goals
    simp only [Bool.true_and, Bool.and_true, Bool.false_and, Bool.and_false, Bool.true_or, Bool.or_true, Bool.false_or, Bool.or_false, Bool.not_true, Bool.not_false, Bool.false_eq_true, reduceIte]
    go_enter Try.func59, Try.ntmps59
    go_wp2
    go_ret
    exact ⟨rfl, by repeat first | exact Below.refl _ _ | apply below_al | apply below_dr | refine below_se ?_ (by simp <;> omega) _⟩

set_option maxHeartbeats 2000000 in
theorem reach3 (w : World) (n t dt : Int) (on was x y : Bool) (ht : 0 ≤ t) (ht' : t ≤ 1000) (hd : 0 ≤ dt) (hd' : dt ≤ 1000) :
    Calls Try.prog 61 #[.agg #[], BlockD.val ⟨3, n, on, was, t⟩, inV x y dt] w fun e w' => e = .returned (.int .i64 (reachB ⟨3, n, on, was, t⟩ x y dt)) ∧ Below w.heap.size w w' := by
  unfold BlockD.val inV reachB
  simp only [reduceIte, show ¬ ((2 : Int) = 1) by decide, show ¬ ((3 : Int) = 1) by decide, show ¬ ((3 : Int) = 2) by decide, show ¬ ((4 : Int) = 1) by decide, show ¬ ((4 : Int) = 2) by decide, show ¬ ((4 : Int) = 3) by decide, show ¬ ((5 : Int) = 1) by decide, show ¬ ((5 : Int) = 2) by decide, show ¬ ((5 : Int) = 3) by decide, show ¬ ((5 : Int) = 4) by decide]
  cases x <;> cases was <;> cases y
  all_goals
    simp only [Bool.true_and, Bool.and_true, Bool.false_and, Bool.and_false, Bool.true_or, Bool.or_true, Bool.false_or, Bool.or_false, Bool.not_true, Bool.not_false, Bool.false_eq_true, reduceIte]
    go_enter Try.func61, Try.ntmps61
    go_wp2
    go_ret
    exact ⟨rfl, by repeat first | exact Below.refl _ _ | apply below_al | apply below_dr | refine below_se ?_ (by simp <;> omega) _⟩

set_option maxHeartbeats 2000000 in
theorem reach4 (w : World) (b : BlockD) (x y : Bool) (dt : Int) :
    Calls Try.prog 63 #[.agg #[], b.val, inV x y dt] w fun e w' => e = .returned (.int .i64 0) ∧ Below w.heap.size w w' := by
  unfold BlockD.val inV
  go_enter Try.func63, Try.ntmps63
  go_wp2
  go_ret
  exact ⟨rfl, by repeat first | exact Below.refl _ _ | apply below_al | apply below_dr | refine below_se ?_ (by simp <;> omega) _⟩

set_option maxHeartbeats 2000000 in
theorem on1 (w : World) (n t dt : Int) (on was x y : Bool) :
    Calls Try.prog 56 #[.agg #[], BlockD.val ⟨1, n, on, was, t⟩, inV x y dt] w fun e w' => e = .returned (.bool (stepOn ⟨1, n, on, was, t⟩ x y t)) ∧ Below w.heap.size w w' := by
  unfold BlockD.val inV stepOn
  simp only [reduceIte, show ¬ ((2 : Int) = 1) by decide, show ¬ ((3 : Int) = 1) by decide, show ¬ ((3 : Int) = 2) by decide, show ¬ ((4 : Int) = 1) by decide, show ¬ ((4 : Int) = 2) by decide, show ¬ ((4 : Int) = 3) by decide, show ¬ ((5 : Int) = 1) by decide, show ¬ ((5 : Int) = 2) by decide, show ¬ ((5 : Int) = 3) by decide, show ¬ ((5 : Int) = 4) by decide]
  cases x
  all_goals
    try simp only [Bool.true_and, Bool.and_true, Bool.false_and, Bool.and_false, Bool.true_or, Bool.or_true, Bool.false_or, Bool.or_false, Bool.not_true, Bool.not_false, Bool.false_eq_true, reduceIte]
    go_enter Try.func56, Try.ntmps56
    go_wp2
    go_ret
    exact ⟨rfl, by repeat first | exact Below.refl _ _ | apply below_al | apply below_dr | refine below_se ?_ (by simp <;> omega) _⟩

set_option maxHeartbeats 2000000 in
theorem on2 (w : World) (n t dt : Int) (on was x y : Bool) :
    Calls Try.prog 58 #[.agg #[], BlockD.val ⟨2, n, on, was, t⟩, inV x y dt] w fun e w' => e = .returned (.bool (stepOn ⟨2, n, on, was, t⟩ x y t)) ∧ Below w.heap.size w w' := by
  unfold BlockD.val inV stepOn
  simp only [reduceIte, show ¬ ((2 : Int) = 1) by decide, show ¬ ((3 : Int) = 1) by decide, show ¬ ((3 : Int) = 2) by decide, show ¬ ((4 : Int) = 1) by decide, show ¬ ((4 : Int) = 2) by decide, show ¬ ((4 : Int) = 3) by decide, show ¬ ((5 : Int) = 1) by decide, show ¬ ((5 : Int) = 2) by decide, show ¬ ((5 : Int) = 3) by decide, show ¬ ((5 : Int) = 4) by decide]
  cases x <;> cases on
  all_goals
    try simp only [Bool.true_and, Bool.and_true, Bool.false_and, Bool.and_false, Bool.true_or, Bool.or_true, Bool.false_or, Bool.or_false, Bool.not_true, Bool.not_false, Bool.false_eq_true, reduceIte]
    go_enter Try.func58, Try.ntmps58
    go_wp2
    go_ret
    exact ⟨rfl, by repeat first | exact Below.refl _ _ | apply below_al | apply below_dr | refine below_se ?_ (by simp <;> omega) _⟩

set_option maxHeartbeats 2000000 in
theorem on3 (w : World) (n t dt : Int) (on was x y : Bool) :
    Calls Try.prog 60 #[.agg #[], BlockD.val ⟨3, n, on, was, t⟩, inV x y dt] w fun e w' => e = .returned (.bool (stepOn ⟨3, n, on, was, t⟩ x y t)) ∧ Below w.heap.size w w' := by
  unfold BlockD.val inV stepOn
  simp only [reduceIte, show ¬ ((2 : Int) = 1) by decide, show ¬ ((3 : Int) = 1) by decide, show ¬ ((3 : Int) = 2) by decide, show ¬ ((4 : Int) = 1) by decide, show ¬ ((4 : Int) = 2) by decide, show ¬ ((4 : Int) = 3) by decide, show ¬ ((5 : Int) = 1) by decide, show ¬ ((5 : Int) = 2) by decide, show ¬ ((5 : Int) = 3) by decide, show ¬ ((5 : Int) = 4) by decide]
  skip
  all_goals
    try simp only [Bool.true_and, Bool.and_true, Bool.false_and, Bool.and_false, Bool.true_or, Bool.or_true, Bool.false_or, Bool.or_false, Bool.not_true, Bool.not_false, Bool.false_eq_true, reduceIte]
    go_enter Try.func60, Try.ntmps60
    go_wp2
    go_ret
    exact ⟨rfl, by repeat first | exact Below.refl _ _ | apply below_al | apply below_dr | refine below_se ?_ (by simp <;> omega) _⟩

set_option maxHeartbeats 2000000 in
theorem on4 (w : World) (n t dt : Int) (on was x y : Bool) :
    Calls Try.prog 64 #[.agg #[], BlockD.val ⟨4, n, on, was, t⟩, inV x y dt] w fun e w' => e = .returned (.bool (stepOn ⟨4, n, on, was, t⟩ x y t)) ∧ Below w.heap.size w w' := by
  unfold BlockD.val inV stepOn
  simp only [reduceIte, show ¬ ((2 : Int) = 1) by decide, show ¬ ((3 : Int) = 1) by decide, show ¬ ((3 : Int) = 2) by decide, show ¬ ((4 : Int) = 1) by decide, show ¬ ((4 : Int) = 2) by decide, show ¬ ((4 : Int) = 3) by decide, show ¬ ((5 : Int) = 1) by decide, show ¬ ((5 : Int) = 2) by decide, show ¬ ((5 : Int) = 3) by decide, show ¬ ((5 : Int) = 4) by decide]
  cases x <;> cases was
  all_goals
    try simp only [Bool.true_and, Bool.and_true, Bool.false_and, Bool.and_false, Bool.true_or, Bool.or_true, Bool.false_or, Bool.or_false, Bool.not_true, Bool.not_false, Bool.false_eq_true, reduceIte]
    go_enter Try.func64, Try.ntmps64
    go_wp2
    go_ret
    exact ⟨rfl, by repeat first | exact Below.refl _ _ | apply below_al | apply below_dr | refine below_se ?_ (by simp <;> omega) _⟩

set_option maxHeartbeats 2000000 in
theorem on5 (w : World) (n t dt : Int) (on was x y : Bool) :
    Calls Try.prog 65 #[.agg #[], BlockD.val ⟨5, n, on, was, t⟩, inV x y dt] w fun e w' => e = .returned (.bool (stepOn ⟨5, n, on, was, t⟩ x y t)) ∧ Below w.heap.size w w' := by
  unfold BlockD.val inV stepOn
  simp only [reduceIte, show ¬ ((2 : Int) = 1) by decide, show ¬ ((3 : Int) = 1) by decide, show ¬ ((3 : Int) = 2) by decide, show ¬ ((4 : Int) = 1) by decide, show ¬ ((4 : Int) = 2) by decide, show ¬ ((4 : Int) = 3) by decide, show ¬ ((5 : Int) = 1) by decide, show ¬ ((5 : Int) = 2) by decide, show ¬ ((5 : Int) = 3) by decide, show ¬ ((5 : Int) = 4) by decide]
  cases y <;> cases x <;> cases on
  all_goals
    try simp only [Bool.true_and, Bool.and_true, Bool.false_and, Bool.and_false, Bool.true_or, Bool.or_true, Bool.false_or, Bool.or_false, Bool.not_true, Bool.not_false, Bool.false_eq_true, reduceIte]
    go_enter Try.func65, Try.ntmps65
    go_wp2
    go_ret
    exact ⟨rfl, by repeat first | exact Below.refl _ _ | apply below_al | apply below_dr | refine below_se ?_ (by simp <;> omega) _⟩

/-- What the methods of a kind are, and what they answer. -/
structure KindAt (k : Int) (T : TypeId) (Fm Fr Fo : FuncId) : Prop where
  val : kindVB k = .iface T (.agg #[])
  mm : ∀ w : World, (method 194 T (.agg #[]) "loop.example/stopgate/impl.most").run Try.prog w = .ok (Fm, .agg #[]) w
  mr : ∀ w : World, (method 194 T (.agg #[]) "loop.example/stopgate/impl.reach").run Try.prog w = .ok (Fr, .agg #[]) w
  mo : ∀ w : World, (method 194 T (.agg #[]) "loop.example/stopgate/impl.on").run Try.prog w = .ok (Fo, .agg #[]) w
  em : ∀ (a : Array Value) (w : World), Sem.run Try.prog (callFunc Fm a) w = .ok (.enter Fm a) w
  er : ∀ (a : Array Value) (w : World), Sem.run Try.prog (callFunc Fr a) w = .ok (.enter Fr a) w
  eo : ∀ (a : Array Value) (w : World), Sem.run Try.prog (callFunc Fo a) w = .ok (.enter Fo a) w
  cm : ∀ w : World, Calls Try.prog Fm #[.agg #[]] w fun e w' => e = .returned (.int .i64 (mostB k)) ∧ Below w.heap.size w w'
  cr : ∀ (w : World) (n t dt : Int) (on was x y : Bool), 0 ≤ t → t ≤ 1000 → 0 ≤ dt → dt ≤ 1000 → Calls Try.prog Fr #[.agg #[], BlockD.val ⟨k, n, on, was, t⟩, inV x y dt] w fun e w' => e = .returned (.int .i64 (reachB ⟨k, n, on, was, t⟩ x y dt)) ∧ Below w.heap.size w w'
  co : ∀ (w : World) (n t dt : Int) (on was x y : Bool), Calls Try.prog Fo #[.agg #[], BlockD.val ⟨k, n, on, was, t⟩, inV x y dt] w fun e w' => e = .returned (.bool (stepOn ⟨k, n, on, was, t⟩ x y t)) ∧ Below w.heap.size w w'

theorem kindAt1 : KindAt 1 66 55 57 56 :=
  ⟨rfl, fun _ => by kernel_rfl, fun _ => by kernel_rfl, fun _ => by kernel_rfl, fun _ _ => by kernel_rfl, fun _ _ => by kernel_rfl, fun _ _ => by kernel_rfl, most_measured, fun w n t dt on was x y h1 h2 h3 h4 => reach1 w n t dt on was x y h1 h2 h3 h4, fun w n t dt on was x y => on1 w n t dt on was x y⟩
theorem kindAt2 : KindAt 2 67 55 59 58 :=
  ⟨rfl, fun _ => by kernel_rfl, fun _ => by kernel_rfl, fun _ => by kernel_rfl, fun _ _ => by kernel_rfl, fun _ _ => by kernel_rfl, fun _ _ => by kernel_rfl, most_measured, fun w n t dt on was x y h1 h2 h3 h4 => reach2 w n t dt on was x y h1 h2 h3 h4, fun w n t dt on was x y => on2 w n t dt on was x y⟩
theorem kindAt3 : KindAt 3 68 55 61 60 :=
  ⟨rfl, fun _ => by kernel_rfl, fun _ => by kernel_rfl, fun _ => by kernel_rfl, fun _ _ => by kernel_rfl, fun _ _ => by kernel_rfl, fun _ _ => by kernel_rfl, most_measured, fun w n t dt on was x y h1 h2 h3 h4 => reach3 w n t dt on was x y h1 h2 h3 h4, fun w n t dt on was x y => on3 w n t dt on was x y⟩
theorem kindAt4 : KindAt 4 71 62 63 64 :=
  ⟨rfl, fun _ => by kernel_rfl, fun _ => by kernel_rfl, fun _ => by kernel_rfl, fun _ _ => by kernel_rfl, fun _ _ => by kernel_rfl, fun _ _ => by kernel_rfl, most_unmeasured, fun w n t dt on was x y _ _ _ _ => reach4 w _ x y dt, fun w n t dt on was x y => on4 w n t dt on was x y⟩
theorem kindAt5 : KindAt 5 72 62 63 65 :=
  ⟨rfl, fun _ => by kernel_rfl, fun _ => by kernel_rfl, fun _ => by kernel_rfl, fun _ _ => by kernel_rfl, fun _ _ => by kernel_rfl, fun _ _ => by kernel_rfl, most_unmeasured, fun w n t dt on was x y _ _ _ _ => reach4 w _ x y dt, fun w n t dt on was x y => on5 w n t dt on was x y⟩
theorem kindAt {k : Int} (h1 : 1 ≤ k) (h2 : k ≤ 5) : ∃ T Fm Fr Fo, KindAt k T Fm Fr Fo := by
  obtain rfl | rfl | rfl | rfl | rfl : k = 1 ∨ k = 2 ∨ k = 3 ∨ k = 4 ∨ k = 5 := by omega
  · exact ⟨_, _, _, _, kindAt1⟩
  · exact ⟨_, _, _, _, kindAt2⟩
  · exact ⟨_, _, _, _, kindAt3⟩
  · exact ⟨_, _, _, _, kindAt4⟩
  · exact ⟨_, _, _, _, kindAt5⟩
theorem kindNone {k : Int} (h : k < 1 ∨ 5 < k) : kindVB k = .nilIface := by
  unfold kindVB
  rw [if_neg (by omega), if_neg (by omega), if_neg (by omega), if_neg (by omega), if_neg (by omega)]

theorem timeOk_any (w : World) (dt : Int) : Calls Try.prog 27 #[.int .i64 dt] w fun e w' => e = .returned (.bool (decide (0 ≤ dt) && decide (dt ≤ 1000))) ∧ w' = w := by
  by_cases h1 : 0 ≤ dt
  · by_cases h2 : dt ≤ 1000
    · rw [decide_eq_true h1, decide_eq_true h2]
      go_enter Try.func27, Try.ntmps27
      go_wp2
      go_ret
      exact ⟨rfl, rfl⟩
    · rw [decide_eq_true h1, decide_eq_false h2]
      go_enter Try.func27, Try.ntmps27
      go_wp2
      go_ret
      exact ⟨by first | rfl | exact ret_bool (decide_eq_false (by omega)), rfl⟩
  · rw [decide_eq_false h1]
    go_enter Try.func27, Try.ntmps27
    go_wp2
    go_ret
    exact ⟨rfl, rfl⟩

/-- N and T cut to 0 to most. -/
def cutB (b : BlockD) (m : Int) : BlockD := { b with n := min (max b.n 0) m, t := min (max b.t 0) m }

theorem cutB_same (b : BlockD) (m : Int) (hm : 0 ≤ m) : (b.n = (cutB b m).n ∧ b.t = (cutB b m).t) ↔ ((0 ≤ b.n ∧ b.n ≤ m) ∧ (0 ≤ b.t ∧ b.t ≤ m)) := by
  unfold cutB
  simp only
  omega

theorem cut_three (n m : Int) (hm : 0 ≤ m) : (n < 0 ∧ min (max n 0) m = 0) ∨ ((0 ≤ n ∧ n ≤ m) ∧ min (max n 0) m = n) ∨ ((m < n ∧ 0 < n) ∧ min (max n 0) m = m) := by omega

set_option maxHeartbeats 8000000 in
theorem cut_any (w : World) (b : BlockD) (m : Int) (hm : 0 ≤ m) :
    Calls Try.prog 30 #[b.val, .int .i64 m] w fun e w' => e = .returned (cutB b m).val ∧ Below w.heap.size w w' := by
  obtain ⟨N, hN⟩ : ∃ N, min (max b.n 0) m = N := ⟨_, rfl⟩
  obtain ⟨T, hT⟩ : ∃ T, min (max b.t 0) m = T := ⟨_, rfl⟩
  have HV : (cutB b m).val = BlockD.val { b with n := N, t := T } := by rw [← hN, ← hT]; rfl
  rw [HV]
  clear HV
  have h3 := cut_three b.n m hm
  have h4 := cut_three b.t m hm
  rw [hN] at h3
  rw [hT] at h4
  clear hN hT
  go_enter Try.func30, Try.ntmps30
  go_wp2_with (refine wpList_boxB rfl _ rfl rfl ?_)
  intro u1 g1 p1 s1
  go_wp2_with (refine wpList_allocB rfl rfl ?_)
  intro u2 g2 q2 s2
  have p2 := p1.below g2 (by omega)
  have G2 := g1.trans (g2.mono (by omega))
  clear p1 g1 g2
  have L3 := laid_n p2 N
  have L4 := laid_t L3.cell T
  simp only at L4
  have q4 := L4.other (L3.other q2 (by omega)) (by omega)
  have z3 := L3.size
  have z4 := L4.size
  have HG : Hid (Below w.heap.size w ((u2.setCell ⟨w.heap.size, 1, none⟩ (.int .i64 N)).setCell ⟨w.heap.size, 4, none⟩ (.int .i64 T))) := (G2.trans (L3.below.mono (by omega))).trans (L4.below.mono (by omega))
  obtain ⟨c0, c1, c2, c3, c4, cf⟩ := id p2
  have cf1 := cf 1
  have cf4 := cf 4
  clear cf q2 G2 p2
  rcases h3 with ⟨h3, e3⟩ | ⟨⟨h3, h3'⟩, e3⟩ | ⟨⟨h3, h3'⟩, e3⟩ <;> rcases h4 with ⟨h4, e4⟩ | ⟨⟨h4, h4'⟩, e4⟩ | ⟨⟨h4, h4'⟩, e4⟩
  all_goals
    subst e3 e4
    go_wp2_with (first | refine wpList_loadB rfl _ rfl rfl L4.cell ?_ | refine wpList_storeB rfl _ _ rfl rfl rfl q4 ?_)
    intro u6 L6
    go_wp2
    obtain ⟨r0, r1, r2, r3, r4, _⟩ := L6.cell
    refine bodyPost_ret (v := BlockD.val { b with n := _, t := _ }) ?_ rfl ⟨rfl, HG.out.trans (L6.below.mono (by omega))⟩
    simp [results, Try.results30, go_sem, r0, r1, r2, r3, r4, BlockD.val]

end Go.Proofs.Ytgfoimleoekkiaa
