/-
  Kinds of instructions, by the program: ok, goes, falls, takes, gives, fits. (Written by our generator gen_opimpl.py.)
-/
import Derived.Test.YtdhpbiplkjpiiaaGreatDoorQC4
import Derived.Test.YtdhpbiplkjpiiaaGreatDoorImplA
namespace Go.Proofs.YtdhpbiplkjpiiaaGreatDoor
open Go.ChangeShapes Go.WideShapes Go.ChangeAt Go.RowKit
set_option linter.unusedVariables false

def fitN (o n i m : Int) : Bool := if o = 1 then cutZ n == n else if o = 4 then decide (3 ≤ n) && decide (n ≤ 9) else if o = 6 ∨ o = 7 then decide (i < n) && decide (n ≤ m) else if o = 8 then decide (0 ≤ n) && decide (n < i) else n == 0
def fitA (o : Int) (a : AddrD) : Bool := if o = 2 then addrOk a else if o = 3 then addrOk a && (a.kind != 1) else (a.kind == 0) && (a.at_ == 0)
def okO (o : Int) : Bool := decide (1 ≤ o) && decide (o ≤ 8)

theorem fitI_parts (p : InsD) (i n : Nat) : fitI p i n = (okO p.op && fitN p.op p.n i n && fitA p.op ⟨p.ak, p.at_⟩) := by
  unfold fitI okO fitN fitA noAddr
  by_cases h1 : p.op = 1
  · simp only [h1]; cases (p.ak == 0) <;> cases (p.at_ == 0) <;> cases (cutZ p.n == p.n) <;> rfl
  by_cases h2 : p.op = 2
  · simp only [h2]; cases addrOk ⟨p.ak, p.at_⟩ <;> cases (p.n == 0) <;> rfl
  by_cases h3 : p.op = 3
  · simp only [h3]; cases addrOk ⟨p.ak, p.at_⟩ <;> cases (p.n == 0) <;> cases (p.ak != 1) <;> rfl
  by_cases h4 : p.op = 4
  · simp only [h4]; cases (p.ak == 0) <;> cases (p.at_ == 0) <;> cases decide (3 ≤ p.n) <;> cases decide (p.n ≤ 9) <;> rfl
  by_cases h5 : p.op = 5
  · simp only [h5]; cases (p.ak == 0) <;> cases (p.at_ == 0) <;> cases (p.n == 0) <;> rfl
  by_cases h6 : p.op = 6
  · simp only [h6]; cases (p.ak == 0) <;> cases (p.at_ == 0) <;> cases decide ((i : Int) < p.n) <;> cases decide (p.n ≤ (n : Int)) <;> rfl
  by_cases h7 : p.op = 7
  · simp only [h7]; cases (p.ak == 0) <;> cases (p.at_ == 0) <;> cases decide ((i : Int) < p.n) <;> cases decide (p.n ≤ (n : Int)) <;> rfl
  by_cases h8 : p.op = 8
  · simp only [h8]; cases (p.ak == 0) <;> cases (p.at_ == 0) <;> cases decide (0 ≤ p.n) <;> cases decide (p.n < (i : Int)) <;> rfl
  rw [if_neg h1, if_neg h2, if_neg h3, if_neg h4, if_neg h5, if_neg (by omega), if_neg h8]
  have : (decide (1 ≤ p.op) && decide (p.op ≤ 8)) = false := by simp; omega
  rw [this]; rfl


set_option maxHeartbeats 400000 in
theorem opOk_any (w : World) (o : Int) :
    Calls Tryz.prog 80 #[.int .i64 o] w fun e w' => e = .returned (.bool (okO o)) ∧ w' = w := by
  unfold okO
  by_cases h1 : 1 ≤ o
  · by_cases h2 : o ≤ 8
    · rw [decide_eq_true h1, decide_eq_true h2]
      go_enter Tryz.func80, Tryz.ntmps80
      go_wp2
      go_ret
      exact ⟨rfl, rfl⟩
    · rw [decide_eq_true h1, decide_eq_false h2]
      go_enter Tryz.func80, Tryz.ntmps80
      go_wp2
      go_ret
      exact ⟨rfl, rfl⟩
  · rw [decide_eq_false h1]
    go_enter Tryz.func80, Tryz.ntmps80
    go_wp2
    go_ret
    exact ⟨rfl, rfl⟩

def goesO (o : Int) : Bool := (o == 6) || ((o == 7) || (o == 8))
def fallsO (o : Int) : Bool := (o != 7) && (o != 8)
def takesO (o : Int) : Int := if o = 4 then 2 else if o = 3 ∨ o = 5 ∨ o = 6 then 1 else 0
def givesO (o : Int) : Int := if o = 1 ∨ o = 2 ∨ o = 4 ∨ o = 5 then 1 else 0
theorem goes_op (p : InsD) : goesI p = goesO p.op := rfl
theorem falls_op (p : InsD) : fallsI p = fallsO p.op := rfl
theorem takes_op (p : InsD) : takesI p = takesO p.op := rfl
theorem gives_op (p : InsD) : givesI p = givesO p.op := rfl
def twoO (n : Int) : Bool := decide (3 ≤ n) && decide (n ≤ 9)

set_option maxHeartbeats 400000 in
theorem opGoes_any (w : World) (o : Int) :
    Calls Tryz.prog 86 #[.int .i64 o] w fun e w' => e = .returned (.bool (goesO o)) ∧ w' = w := by
  by_cases h6 : o = 6
  · subst h6
    go_enter Tryz.func86, Tryz.ntmps86
    go_wp2
    go_ret
    exact ⟨rfl, rfl⟩
  by_cases h7 : o = 7
  · subst h7
    go_enter Tryz.func86, Tryz.ntmps86
    go_wp2
    go_ret
    exact ⟨rfl, rfl⟩
  by_cases h8 : o = 8
  · subst h8
    go_enter Tryz.func86, Tryz.ntmps86
    go_wp2
    go_ret
    exact ⟨rfl, rfl⟩
  have e6 : (o == 6) = false := by simp [h6]
  have e7 : (o == 7) = false := by simp [h7]
  have e8 : (o == 8) = false := by simp [h8]
  rw [show goesO o = false by simp [goesO, h6, h7, h8]]
  clear h6 h7 h8
  go_enter Tryz.func86, Tryz.ntmps86
  go_wp2
  go_ret
  exact ⟨rfl, rfl⟩

set_option maxHeartbeats 400000 in
theorem opFalls_any (w : World) (o : Int) :
    Calls Tryz.prog 85 #[.int .i64 o] w fun e w' => e = .returned (.bool (fallsO o)) ∧ w' = w := by
  by_cases h7 : o = 7
  · subst h7
    go_enter Tryz.func85, Tryz.ntmps85
    go_wp2
    go_ret
    exact ⟨rfl, rfl⟩
  by_cases h8 : o = 8
  · subst h8
    go_enter Tryz.func85, Tryz.ntmps85
    go_wp2
    go_ret
    exact ⟨rfl, rfl⟩
  have e7 : (o != 7) = true := by simp [h7]
  have e8 : (o != 8) = true := by simp [h8]
  rw [show fallsO o = true by simp [fallsO, h7, h8]]
  clear h7 h8
  go_enter Tryz.func85, Tryz.ntmps85
  go_wp2
  go_ret
  exact ⟨rfl, rfl⟩

set_option maxHeartbeats 400000 in
theorem opTakes_any (w : World) (o : Int) :
    Calls Tryz.prog 83 #[.int .i64 o] w fun e w' => e = .returned (.int .i64 (takesO o)) ∧ w' = w := by
  by_cases h4 : o = 4
  · subst h4
    go_enter Tryz.func83, Tryz.ntmps83
    go_wp2
    go_ret
    exact ⟨rfl, rfl⟩
  by_cases h3 : o = 3
  · subst h3
    go_enter Tryz.func83, Tryz.ntmps83
    go_wp2
    go_ret
    exact ⟨rfl, rfl⟩
  by_cases h5 : o = 5
  · subst h5
    go_enter Tryz.func83, Tryz.ntmps83
    go_wp2
    go_ret
    exact ⟨rfl, rfl⟩
  by_cases h6 : o = 6
  · subst h6
    go_enter Tryz.func83, Tryz.ntmps83
    go_wp2
    go_ret
    exact ⟨rfl, rfl⟩
  have e4 : (o == 4) = false := by simp [h4]
  have e3 : (o == 3) = false := by simp [h3]
  have e5 : (o == 5) = false := by simp [h5]
  have e6 : (o == 6) = false := by simp [h6]
  rw [show takesO o = 0 by simp [takesO, h4, h3, h5, h6]]
  clear h4 h3 h5 h6
  go_enter Tryz.func83, Tryz.ntmps83
  go_wp2
  go_ret
  exact ⟨rfl, rfl⟩

set_option maxHeartbeats 400000 in
theorem opGives_any (w : World) (o : Int) :
    Calls Tryz.prog 84 #[.int .i64 o] w fun e w' => e = .returned (.int .i64 (givesO o)) ∧ w' = w := by
  by_cases h1 : o = 1
  · subst h1
    go_enter Tryz.func84, Tryz.ntmps84
    go_wp2
    go_ret
    exact ⟨rfl, rfl⟩
  by_cases h2 : o = 2
  · subst h2
    go_enter Tryz.func84, Tryz.ntmps84
    go_wp2
    go_ret
    exact ⟨rfl, rfl⟩
  by_cases h4 : o = 4
  · subst h4
    go_enter Tryz.func84, Tryz.ntmps84
    go_wp2
    go_ret
    exact ⟨rfl, rfl⟩
  by_cases h5 : o = 5
  · subst h5
    go_enter Tryz.func84, Tryz.ntmps84
    go_wp2
    go_ret
    exact ⟨rfl, rfl⟩
  have e1 : (o == 1) = false := by simp [h1]
  have e2 : (o == 2) = false := by simp [h2]
  have e4 : (o == 4) = false := by simp [h4]
  have e5 : (o == 5) = false := by simp [h5]
  rw [show givesO o = 0 by simp [givesO, h1, h2, h4, h5]]
  clear h1 h2 h4 h5
  go_enter Tryz.func84, Tryz.ntmps84
  go_wp2
  go_ret
  exact ⟨rfl, rfl⟩
set_option maxHeartbeats 400000 in
theorem isTwo_any (w : World) (n : Int) :
    Calls Tryz.prog 93 #[.int .i64 n] w fun e w' => e = .returned (.bool (twoO n)) ∧ w' = w := by
  unfold twoO
  by_cases h1 : 3 ≤ n
  · by_cases h2 : n ≤ 9
    · rw [decide_eq_true h1, decide_eq_true h2]
      go_enter Tryz.func93, Tryz.ntmps93
      go_wp2
      go_ret
      exact ⟨rfl, rfl⟩
    · rw [decide_eq_true h1, decide_eq_false h2]
      go_enter Tryz.func93, Tryz.ntmps93
      go_wp2
      go_ret
      exact ⟨rfl, rfl⟩
  · rw [decide_eq_false h1]
    go_enter Tryz.func93, Tryz.ntmps93
    go_wp2
    go_ret
    exact ⟨rfl, rfl⟩

theorem andB {a b : Prop} [Decidable a] [Decidable b] : (decide a && decide b) = decide (a ∧ b) := by by_cases h : a <;> by_cases k : b <;> simp [h, k]

set_option maxHeartbeats 1000000 in
theorem fitsNum_any (w : World) (o n i m : Int) :
    Calls Tryz.prog 81 #[.int .i64 o, .int .i64 n, .int .i64 i, .int .i64 m] w fun e w' => e = .returned (.bool (fitN o n i m)) ∧ w' = w := by
  by_cases h1 : o = 1
  · subst h1
    rw [show fitN 1 n i m = (cutZ n == n) from rfl]
    go_enter Tryz.func81, Tryz.ntmps81
    go_wp2_with fail
    refine (numCut_any n w).mono ?_
    rintro e u ⟨rfl, rfl⟩
    go_wp2
    go_ret
    exact ⟨rfl, rfl⟩
  by_cases h4 : o = 4
  · subst h4
    rw [show fitN 4 n i m = twoO n from rfl]
    go_enter Tryz.func81, Tryz.ntmps81
    go_wp2_with fail
    refine (isTwo_any w n).mono ?_
    rintro e u ⟨rfl, rfl⟩
    go_wp2
    go_ret
    exact ⟨rfl, rfl⟩
  have e1 : (o == 1) = false := by simp [h1]
  have e4 : (o == 4) = false := by simp [h4]
  by_cases h6 : o = 6
  · subst h6
    rw [show fitN 6 n i m = (decide (i < n) && decide (n ≤ m)) from rfl]
    clear h1 h4 e1 e4
    by_cases q1 : i < n
    · by_cases q2 : n ≤ m
      · rw [decide_eq_true q1, decide_eq_true q2]
        go_enter Tryz.func81, Tryz.ntmps81
        go_wp2
        go_ret
        exact ⟨rfl, rfl⟩
      · rw [decide_eq_true q1, decide_eq_false q2]
        go_enter Tryz.func81, Tryz.ntmps81
        go_wp2
        go_ret
        exact ⟨rfl, rfl⟩
    · rw [decide_eq_false q1]
      go_enter Tryz.func81, Tryz.ntmps81
      go_wp2
      go_ret
      exact ⟨rfl, rfl⟩
  by_cases h7 : o = 7
  · subst h7
    rw [show fitN 7 n i m = (decide (i < n) && decide (n ≤ m)) from rfl]
    clear h1 h4 e1 e4
    by_cases q1 : i < n
    · by_cases q2 : n ≤ m
      · rw [decide_eq_true q1, decide_eq_true q2]
        go_enter Tryz.func81, Tryz.ntmps81
        go_wp2
        go_ret
        exact ⟨rfl, rfl⟩
      · rw [decide_eq_true q1, decide_eq_false q2]
        go_enter Tryz.func81, Tryz.ntmps81
        go_wp2
        go_ret
        exact ⟨rfl, rfl⟩
    · rw [decide_eq_false q1]
      go_enter Tryz.func81, Tryz.ntmps81
      go_wp2
      go_ret
      exact ⟨rfl, rfl⟩
  by_cases h8 : o = 8
  · subst h8
    rw [show fitN 8 n i m = (decide (0 ≤ n) && decide (n < i)) from rfl]
    clear h1 h4 e1 e4 h6 h7
    by_cases q1 : 0 ≤ n
    · by_cases q2 : n < i
      · rw [decide_eq_true q1, decide_eq_true q2]
        go_enter Tryz.func81, Tryz.ntmps81
        go_wp2
        go_ret
        exact ⟨rfl, rfl⟩
      · rw [decide_eq_true q1, decide_eq_false q2]
        go_enter Tryz.func81, Tryz.ntmps81
        go_wp2
        go_ret
        exact ⟨rfl, rfl⟩
    · rw [decide_eq_false q1]
      go_enter Tryz.func81, Tryz.ntmps81
      go_wp2
      go_ret
      exact ⟨rfl, rfl⟩
  have e6 : (o == 6) = false := by simp [h6]
  have e7 : (o == 7) = false := by simp [h7]
  have e8 : (o == 8) = false := by simp [h8]
  rw [show fitN o n i m = (n == 0) by unfold fitN; rw [if_neg h1, if_neg h4, if_neg (by omega), if_neg h8]]
  clear h1 h4 h6 h7 h8
  go_enter Tryz.func81, Tryz.ntmps81
  go_wp2
  go_ret
  exact ⟨rfl, rfl⟩

set_option maxHeartbeats 400000 in
theorem pTakes_any (w : World) (k : Int) (hk : kindOk k = true) :
    Calls Tryz.prog 89 #[.int .i64 k] w fun e w' => e = .returned (.bool (k != 1)) ∧ w' = w := by
  have ho := placeOk_any w k
  rw [hk] at ho
  cases h : (k != 1) with
  | true =>
    go_enter Tryz.func89, Tryz.ntmps89
    go_wp2_with fail
    refine ho.mono ?_
    rintro e w1 ⟨rfl, rfl⟩
    clear ho
    go_wp2
    go_ret
    exact ⟨rfl, rfl⟩
  | false =>
    go_enter Tryz.func89, Tryz.ntmps89
    go_wp2_with fail
    refine ho.mono ?_
    rintro e w1 ⟨rfl, rfl⟩
    clear ho
    go_wp2
    go_ret
    exact ⟨rfl, rfl⟩

set_option maxHeartbeats 1000000 in
theorem fitsAddr_any (w : World) (o k t : Int) :
    Calls Tryz.prog 82 #[.int .i64 o, .agg #[.int .i64 k, .int .i64 t]] w fun e w' => e = .returned (.bool (fitA o ⟨k, t⟩)) ∧ Below w.heap.size w w' := by
  have b1 := fun x => (Below.refl w.heap.size w).alloc (Nat.le_refl _) x
  have hao := fun W => iAddrOk_any W k t
  have ev : AddrD.val ⟨k, t⟩ = .agg #[.int .i64 k, .int .i64 t] := rfl
  rw [ev] at hao
  clear ev
  obtain ⟨u0, hu0, G0, C0, C1, S0⟩ : ∃ u0, w.alloc (.cells #[.int .i64 k, .int .i64 t] 45) = u0 ∧ Below w.heap.size w u0 ∧ u0.cell? ⟨w.heap.size, 0, none⟩ = some (.int .i64 k) ∧ u0.cell? ⟨w.heap.size, 1, none⟩ = some (.int .i64 t) ∧ u0.heap.size = w.heap.size + 1 :=
    ⟨_, rfl, b1 _, World.cell?_alloc_new _ _ _ _, World.cell?_alloc_new _ _ _ _, by simp⟩
  have HU : Hid (_ = u0) := hu0
  clear hu0
  by_cases h2 : o = 2
  · subst h2
    rw [show fitA 2 ⟨k, t⟩ = addrOk ⟨k, t⟩ from rfl]
    go_enter Tryz.func82, Tryz.ntmps82
    go_wp2_with fail
    rw [HU.out]
    refine (hao _).mono ?_
    rintro e1 u1 ⟨rfl, g1⟩
    have G1 := G0.trans (g1.mono (by omega))
    clear g1 G0 hao C0 C1
    go_wp2
    go_ret
    exact ⟨rfl, G1⟩
  by_cases h3 : o = 3
  · subst h3
    rw [show fitA 3 ⟨k, t⟩ = (addrOk ⟨k, t⟩ && (k != 1)) from rfl]
    clear h2
    go_enter Tryz.func82, Tryz.ntmps82
    go_wp2_with fail
    rw [HU.out]
    refine (hao _).mono ?_
    rintro e1 u1 ⟨rfl, g1⟩
    have G1 := G0.trans (g1.mono (by omega))
    have c0 : u1.cell? ⟨w.heap.size, 0, none⟩ = some (.int .i64 k) := by rw [g1.cell (p := ⟨w.heap.size, 0, none⟩) (by show w.heap.size < u0.heap.size; omega)]; exact C0
    clear g1 G0 hao C0 C1
    cases ha : addrOk ⟨k, t⟩ with
    | false =>
      go_wp2
      go_ret
      exact ⟨ret_bool (by rw [ha]; rfl), G1⟩
    | true =>
      have HA : Hid (addrOk ⟨k, t⟩ = true) := ha
      have hko : kindOk k = true := by
        rw [kindOk_addr] at ha
        simp only [Bool.and_eq_true] at ha
        exact ha.1.1
      clear ha
      go_wp2_with fail
      refine (pTakes_any _ k hko).mono ?_
      rintro e2 u2 ⟨rfl, rfl⟩
      go_wp2
      go_ret
      exact ⟨ret_bool (by rw [HA.out]; rfl), G1⟩
  have e2 : (o == 2) = false := by simp [h2]
  have e3 : (o == 3) = false := by simp [h3]
  rw [show fitA o ⟨k, t⟩ = ((k == 0) && (t == 0)) by unfold fitA; rw [if_neg h2, if_neg h3]]
  clear h2 h3 hao HU C0 C1 G0 S0
  cases hk : (k == 0)
  · go_enter Tryz.func82, Tryz.ntmps82
    go_wp2
    go_ret
    exact ⟨rfl, b1 _⟩
  · cases ht : (t == 0)
    · go_enter Tryz.func82, Tryz.ntmps82
      go_wp2
      go_ret
      exact ⟨rfl, b1 _⟩
    · go_enter Tryz.func82, Tryz.ntmps82
      go_wp2
      go_ret
      exact ⟨rfl, b1 _⟩

set_option maxHeartbeats 1000000 in
theorem fits_any (w : World) (p : InsD) (i n : Nat) :
    Calls Tryz.prog 56 #[.int .i64 p.op, p.val, .int .i64 i, .int .i64 n] w fun e w' => e = .returned (.bool (fitI p i n)) ∧ Below w.heap.size w w' := by
  rw [fitI_parts]
  have b1 := fun x => (Below.refl w.heap.size w).alloc (Nat.le_refl _) x
  obtain ⟨u0, hu0, G0, C0, S0⟩ : ∃ u0, w.alloc (.cells #[.int .i64 p.op, .int .i64 p.n, .int .i64 p.ak, .int .i64 p.at_] 47) = u0 ∧ Below w.heap.size w u0 ∧ CellI u0 w.heap.size 0 p ∧ u0.heap.size = w.heap.size + 1 :=
    ⟨_, rfl, b1 _, (fourI_new _ _ _).c, by simp⟩
  have HU : Hid (_ = u0) := hu0
  clear hu0
  have ho := opOk_any u0 p.op
  have hn := fitsNum_any u0 p.op p.n i n
  have ha := fitsAddr_any u0 p.op p.ak p.at_
  obtain ⟨c0, c1, c2, c3⟩ := C0
  have c2' : u0.cell? ⟨w.heap.size, 2, none⟩ = some (.int .i64 p.ak) := c2
  have c3' : u0.cell? ⟨w.heap.size, 3, none⟩ = some (.int .i64 p.at_) := c3
  have c1' : u0.cell? ⟨w.heap.size, 1, none⟩ = some (.int .i64 p.n) := c1
  clear c0 c1 c2 c3
  unfold InsD.val
  generalize okO p.op = ro at *
  generalize fitN p.op p.n i n = rn at *
  generalize fitA p.op ⟨p.ak, p.at_⟩ = ra at *
  go_enter Tryz.func56, Tryz.ntmps56
  go_wp2_with fail
  rw [HU.out]
  refine ho.mono ?_
  rintro e1 u1 ⟨rfl, rfl⟩
  clear ho
  cases ro with
  | false =>
    clear hn ha
    go_wp2
    go_ret
    exact ⟨rfl, G0⟩
  | true =>
    go_wp2_with fail
    refine hn.mono ?_
    rintro e1 u1 ⟨rfl, rfl⟩
    clear hn
    cases rn with
    | false =>
      clear ha
      go_wp2
      go_ret
      exact ⟨rfl, G0⟩
    | true =>
      go_wp2_with fail
      refine ha.mono ?_
      rintro e1 u2 ⟨rfl, g2⟩
      clear ha
      have G2 := G0.trans (g2.mono (by omega))
      go_wp2
      go_ret
      exact ⟨ret_bool (by simp), G2⟩
end Go.Proofs.YtdhpbiplkjpiiaaGreatDoor
