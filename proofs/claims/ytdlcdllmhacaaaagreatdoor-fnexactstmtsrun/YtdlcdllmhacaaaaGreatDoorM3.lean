import Derived.Test.YtdlcdllmhacaaaaGreatDoorKindB
import Derived.Test.YtdlcdllmhacaaaaGreatDoorExprOf
import Derived.Test.YtdlcdllmhacaaaaGreatDoorImplH
import Derived.Test.YtdlcdllmhacaaaaGreatDoorDag
import Derived.Test.YtdlcdllmhacaaaaGreatDoorPartsB
import Derived.Test.YtdlcdllmhacaaaaGreatDoorExprOf2

/-
  What a part comes to, of each kind, once its kids have come to x and y.
-/
namespace Go.Proofs.YtdlcdllmhacaaaaGreatDoor
open Go.ChangeShapes Go.WideShapes Go.ChangeAt Go.RowKit
set_option linter.unusedVariables false
set_option maxRecDepth 100000

theorem comes_num (w : World) (k n a t : Int) (ad : Option Go.Addr) (len cap : Nat) (m0 m1 m2 : Value) (x y : Int) :
    Calls Tryz.prog 198 #[.agg #[], .agg #[.int .i64 k, .int .i64 n, .int .i64 a, .int .i64 t, .slice ad len cap], .agg #[m0, m1, m2], .int .i64 x, .int .i64 y] w fun e w' => e = .returned (.int .i64 n) ∧ Below w.heap.size w w' := by
  have b3 := below_alloc3 w
  go_enter Tryz.func198, Tryz.ntmps198
  go_wp2
  go_ret
  exact ⟨rfl, b3 _ _ _⟩

set_option maxHeartbeats 1000000 in
theorem comes_addr (w : World) (k n a t : Int) (ad : Option Go.Addr) (len cap : Nat) (m : Value) (lo hi : Nat) (d : MemD) (h : MI w lo hi m d) (hhi : hi ≤ w.heap.size) (x y : Int) :
    Calls Tryz.prog 202 #[.agg #[], .agg #[.int .i64 k, .int .i64 n, .int .i64 a, .int .i64 t, .slice ad len cap], m, .int .i64 x, .int .i64 y] w fun e w' => e = .returned (.int .i64 (memGet d ⟨a, t⟩)) ∧ Below w.heap.size w w' := by
  have hG := fun W hW hh => iMemGet_any W m lo hi d a t hW hh
  have HM := h
  obtain ⟨m0, m1, m2, rfl, _, _, _⟩ := h
  have ev : AddrD.val ⟨a, t⟩ = .agg #[.int .i64 a, .int .i64 t] := rfl
  rw [ev] at hG
  clear ev
  go_enter Tryz.func202, Tryz.ntmps202
  go_wp2_with fail
  obtain ⟨u0, hu0, G0, S0⟩ : ∃ u0, ((w.alloc (.cells #[] 179)).alloc (.cells #[.int .i64 k, .int .i64 n, .int .i64 a, .int .i64 t, .slice ad len cap] 58)).alloc (.cells #[m0, m1, m2] 28) = u0 ∧ Below w.heap.size w u0 ∧ u0.heap.size = w.heap.size + 3 :=
    ⟨_, rfl, below_alloc3 w _ _ _, by simp⟩
  rw [hu0]
  clear hu0
  have hC := hG u0 (HM.below G0 hhi) (by omega)
  refine hC.mono ?_
  rintro e w1 ⟨rfl, g1⟩
  go_wp2
  go_ret
  exact ⟨rfl, G0.trans (g1.mono G0.size)⟩

set_option maxHeartbeats 1000000 in
theorem comes_not (w : World) (k n a t : Int) (ad : Option Go.Addr) (len cap : Nat) (m0 m1 m2 : Value) (x y : Int) :
    Calls Tryz.prog 218 #[.agg #[], .agg #[.int .i64 k, .int .i64 n, .int .i64 a, .int .i64 t, .slice ad len cap], .agg #[m0, m1, m2], .int .i64 x, .int .i64 y] w fun e w' => e = .returned (.int .i64 (isZ (!(x != 0)))) ∧ Below w.heap.size w w' := by
  have b3 := below_alloc3 w
  unfold isZ
  by_cases h : x = 0
  · subst h
    go_enter Tryz.func218, Tryz.ntmps218
    go_wp2
    go_ret
    exact ⟨rfl, b3 _ _ _⟩
  · have e1 : (x != 0) = true := by simp [h]
    rw [e1]
    go_enter Tryz.func218, Tryz.ntmps218
    go_wp2
    go_ret
    exact ⟨rfl, b3 _ _ _⟩

end Go.Proofs.YtdlcdllmhacaaaaGreatDoor

/-
  What a part of two kids comes to.
-/
namespace Go.Proofs.YtdlcdllmhacaaaaGreatDoor
open Go.ChangeShapes Go.WideShapes Go.ChangeAt Go.RowKit
set_option linter.unusedVariables false
set_option maxRecDepth 100000

theorem below_alloc2 (w : World) (x y : Obj) : Below w.heap.size w ((w.alloc x).alloc y) := ((Below.refl w.heap.size w).alloc (Nat.le_refl _) x).alloc (by simp) y

theorem twoZ_3 (x y : Int) : twoZ 3 x y = cutZ (cutZ x + cutZ y) := by simp [twoZ]
theorem twoZ_4 (x y : Int) : twoZ 4 x y = cutZ (cutZ x - cutZ y) := by simp [twoZ]
theorem twoZ_5 (x y : Int) : twoZ 5 x y = cutZ (cutZ x * cutZ y) := by simp [twoZ]
theorem twoZ_6 (x y : Int) : twoZ 6 x y = isZ (decide (x < y)) := by simp [twoZ]
theorem twoZ_7 (x y : Int) : twoZ 7 x y = isZ (x == y) := by simp [twoZ]
theorem twoZ_8 (x y : Int) : twoZ 8 x y = isZ ((x != 0) && (y != 0)) := by simp [twoZ]
theorem twoZ_9 (x y : Int) : twoZ 9 x y = isZ ((x != 0) || (y != 0)) := by simp [twoZ]

theorem numOn_any (w : World) (x : Int) : Calls Tryz.prog 194 #[.int .i64 x] w fun e w' => e = .returned (.bool (x != 0)) ∧ w' = w := by
  go_enter Tryz.func194, Tryz.ntmps194
  go_wp2
  go_ret
  exact ⟨rfl, rfl⟩

theorem numIs_any (w : World) (b : Bool) : Calls Tryz.prog 214 #[.bool b] w fun e w' => e = .returned (.int .i64 (isZ b)) ∧ w' = w := by
  cases b
  all_goals
    go_enter Tryz.func214, Tryz.ntmps214
    go_wp2
    go_ret
    exact ⟨rfl, rfl⟩

set_option maxHeartbeats 1000000 in
theorem comes_two3 (w : World) (j n a t : Int) (ad : Option Go.Addr) (len cap : Nat) (m0 m1 m2 : Value) (x y : Int) :
    Calls Tryz.prog 207 #[.int .i64 3, .agg #[.int .i64 j, .int .i64 n, .int .i64 a, .int .i64 t, .slice ad len cap], .agg #[m0, m1, m2], .int .i64 x, .int .i64 y] w fun e w' => e = .returned (.int .i64 (twoZ 3 x y)) ∧ Below w.heap.size w w' := by
  rw [twoZ_3]
  have b2 := below_alloc2 w
  go_enter Tryz.func207, Tryz.ntmps207
  go_wp2_with (go_at_call 211; refine (numAdd_any x y _).mono ?_; rintro e w1 ⟨rfl, rfl⟩)
  go_ret
  exact ⟨rfl, b2 _ _⟩

set_option maxHeartbeats 1000000 in
theorem comes_two4 (w : World) (j n a t : Int) (ad : Option Go.Addr) (len cap : Nat) (m0 m1 m2 : Value) (x y : Int) :
    Calls Tryz.prog 207 #[.int .i64 4, .agg #[.int .i64 j, .int .i64 n, .int .i64 a, .int .i64 t, .slice ad len cap], .agg #[m0, m1, m2], .int .i64 x, .int .i64 y] w fun e w' => e = .returned (.int .i64 (twoZ 4 x y)) ∧ Below w.heap.size w w' := by
  rw [twoZ_4]
  have b2 := below_alloc2 w
  go_enter Tryz.func207, Tryz.ntmps207
  go_wp2_with (go_at_call 212; refine (numSub_any x y _).mono ?_; rintro e w1 ⟨rfl, rfl⟩)
  go_ret
  exact ⟨rfl, b2 _ _⟩

set_option maxHeartbeats 1000000 in
theorem comes_two5 (w : World) (j n a t : Int) (ad : Option Go.Addr) (len cap : Nat) (m0 m1 m2 : Value) (x y : Int) :
    Calls Tryz.prog 207 #[.int .i64 5, .agg #[.int .i64 j, .int .i64 n, .int .i64 a, .int .i64 t, .slice ad len cap], .agg #[m0, m1, m2], .int .i64 x, .int .i64 y] w fun e w' => e = .returned (.int .i64 (twoZ 5 x y)) ∧ Below w.heap.size w w' := by
  rw [twoZ_5]
  have b2 := below_alloc2 w
  go_enter Tryz.func207, Tryz.ntmps207
  go_wp2_with (go_at_call 213; refine (numMul_any x y _).mono ?_; rintro e w1 ⟨rfl, rfl⟩)
  go_ret
  exact ⟨rfl, b2 _ _⟩

set_option maxHeartbeats 1000000 in
theorem comes_two6 (w : World) (j n a t : Int) (ad : Option Go.Addr) (len cap : Nat) (m0 m1 m2 : Value) (x y : Int) :
    Calls Tryz.prog 207 #[.int .i64 6, .agg #[.int .i64 j, .int .i64 n, .int .i64 a, .int .i64 t, .slice ad len cap], .agg #[m0, m1, m2], .int .i64 x, .int .i64 y] w fun e w' => e = .returned (.int .i64 (twoZ 6 x y)) ∧ Below w.heap.size w w' := by
  rw [twoZ_6]
  have b2 := below_alloc2 w
  go_enter Tryz.func207, Tryz.ntmps207
  go_wp2_with (go_at_call 214; refine (numIs_any _ _).mono ?_; rintro e w1 ⟨rfl, rfl⟩)
  go_ret
  exact ⟨rfl, b2 _ _⟩

set_option maxHeartbeats 1000000 in
theorem comes_two7 (w : World) (j n a t : Int) (ad : Option Go.Addr) (len cap : Nat) (m0 m1 m2 : Value) (x y : Int) :
    Calls Tryz.prog 207 #[.int .i64 7, .agg #[.int .i64 j, .int .i64 n, .int .i64 a, .int .i64 t, .slice ad len cap], .agg #[m0, m1, m2], .int .i64 x, .int .i64 y] w fun e w' => e = .returned (.int .i64 (twoZ 7 x y)) ∧ Below w.heap.size w w' := by
  rw [twoZ_7]
  have b2 := below_alloc2 w
  go_enter Tryz.func207, Tryz.ntmps207
  go_wp2_with (go_at_call 214; refine (numIs_any _ _).mono ?_; rintro e w1 ⟨rfl, rfl⟩)
  go_ret
  exact ⟨rfl, b2 _ _⟩

set_option maxHeartbeats 1000000 in
theorem comes_two8 (w : World) (j n a t : Int) (ad : Option Go.Addr) (len cap : Nat) (m0 m1 m2 : Value) (x y : Int) :
    Calls Tryz.prog 207 #[.int .i64 8, .agg #[.int .i64 j, .int .i64 n, .int .i64 a, .int .i64 t, .slice ad len cap], .agg #[m0, m1, m2], .int .i64 x, .int .i64 y] w fun e w' => e = .returned (.int .i64 (twoZ 8 x y)) ∧ Below w.heap.size w w' := by
  have b2 := below_alloc2 w
  have hx := fun W => numOn_any W x
  have hy := fun W => numOn_any W y
  rw [twoZ_8]
  generalize (x != 0) = p at *
  generalize (y != 0) = q at *
  cases p
  all_goals
    cases q
    all_goals
      go_enter Tryz.func207, Tryz.ntmps207
      go_wp2_with (first | (go_at_call 214; refine (numIs_any _ _).mono ?_; rintro e w1 ⟨rfl, rfl⟩) | (go_at_call 194; refine (hx _).mono ?_; clear hx; rintro e w1 ⟨rfl, rfl⟩) | (go_at_call 194; refine (hy _).mono ?_; rintro e w1 ⟨rfl, rfl⟩))
      go_ret
      exact ⟨rfl, b2 _ _⟩

set_option maxHeartbeats 1000000 in
theorem comes_two9 (w : World) (j n a t : Int) (ad : Option Go.Addr) (len cap : Nat) (m0 m1 m2 : Value) (x y : Int) :
    Calls Tryz.prog 207 #[.int .i64 9, .agg #[.int .i64 j, .int .i64 n, .int .i64 a, .int .i64 t, .slice ad len cap], .agg #[m0, m1, m2], .int .i64 x, .int .i64 y] w fun e w' => e = .returned (.int .i64 (twoZ 9 x y)) ∧ Below w.heap.size w w' := by
  have b2 := below_alloc2 w
  have hx := fun W => numOn_any W x
  have hy := fun W => numOn_any W y
  rw [twoZ_9]
  generalize (x != 0) = p at *
  generalize (y != 0) = q at *
  cases p
  all_goals
    cases q
    all_goals
      go_enter Tryz.func207, Tryz.ntmps207
      go_wp2_with (first | (go_at_call 214; refine (numIs_any _ _).mono ?_; rintro e w1 ⟨rfl, rfl⟩) | (go_at_call 194; refine (hx _).mono ?_; clear hx; rintro e w1 ⟨rfl, rfl⟩) | (go_at_call 194; refine (hy _).mono ?_; rintro e w1 ⟨rfl, rfl⟩))
      go_ret
      exact ⟨rfl, b2 _ _⟩

theorem comes_two (w : World) (j n a t : Int) (ad : Option Go.Addr) (len cap : Nat) (m0 m1 m2 : Value) (x y k : Int) (hk1 : 3 ≤ k) (hk2 : k ≤ 9) :
    Calls Tryz.prog 207 #[.int .i64 k, .agg #[.int .i64 j, .int .i64 n, .int .i64 a, .int .i64 t, .slice ad len cap], .agg #[m0, m1, m2], .int .i64 x, .int .i64 y] w fun e w' => e = .returned (.int .i64 (twoZ k x y)) ∧ Below w.heap.size w w' := by
  obtain rfl | rfl | rfl | rfl | rfl | rfl | rfl : k = 3 ∨ k = 4 ∨ k = 5 ∨ k = 6 ∨ k = 7 ∨ k = 8 ∨ k = 9 := by omega
  · exact comes_two3 w j n a t ad len cap m0 m1 m2 x y
  · exact comes_two4 w j n a t ad len cap m0 m1 m2 x y
  · exact comes_two5 w j n a t ad len cap m0 m1 m2 x y
  · exact comes_two6 w j n a t ad len cap m0 m1 m2 x y
  · exact comes_two7 w j n a t ad len cap m0 m1 m2 x y
  · exact comes_two8 w j n a t ad len cap m0 m1 m2 x y
  · exact comes_two9 w j n a t ad len cap m0 m1 m2 x y
end Go.Proofs.YtdlcdllmhacaaaaGreatDoor

/-
  What a part comes to, with its kids: partComes; ExprOf of the program.
-/
namespace Go.Proofs.YtdlcdllmhacaaaaGreatDoor
open Go.ChangeShapes Go.WideShapes Go.ChangeAt Go.RowKit
set_option linter.unusedVariables false
set_option maxRecDepth 100000

theorem calls_num_comes (args : Array Value) (w : World) : (callFunc 198 args).run Tryz.prog w = .ok (.enter 198 args) w := by kernel_rfl
theorem calls_addr_comes (args : Array Value) (w : World) : (callFunc 202 args).run Tryz.prog w = .ok (.enter 202 args) w := by kernel_rfl
theorem calls_two_comes (args : Array Value) (w : World) : (callFunc 207 args).run Tryz.prog w = .ok (.enter 207 args) w := by kernel_rfl
theorem calls_not_comes (args : Array Value) (w : World) : (callFunc 218 args).run Tryz.prog w = .ok (.enter 218 args) w := by kernel_rfl

/-- What stands in 'of' behind j rounds. -/
def valK (d : Nat) (md : MemD) (e : ExprD) (j i : Nat) : Int := if i < j then evalD d md (kidAt e i) else 0

theorem evalD_succ (d : Nat) (md : MemD) (e : ExprD) : evalD (d + 1) md e = if e.k = 1 then e.n else if e.k = 2 then ((memList md e.ak)[e.at_.toNat]?).getD 0
      else if e.k = 10 then isZ (!(evalD d md (kidAt e 0) != 0)) else twoZ e.k (evalD d md (kidAt e 0)) (evalD d md (kidAt e 1)) := by rw [evalD]

theorem comes_kind {d : Nat} {md : MemD} {e : ExprD} (hfm : formE (d + 1) e = true) (hmo : memOk md = true) (ad : Option Go.Addr) (cap lo' hi' : Nat) (m : Value) (m0 m1 m2 : Value) (hm : m = .agg #[m0, m1, m2]) :
    ∃ T v fc, kindV e.k = .iface T v ∧ (∀ w : World, (method 365 T v "loop.example/stopgate/impl.comes").run Tryz.prog w = .ok (fc, v) w) ∧ (∀ (args : Array Value) (w : World), (callFunc fc args).run Tryz.prog w = .ok (.enter fc args) w) ∧
      ∀ W : World, MI W lo' hi' m md → hi' ≤ W.heap.size → Calls Tryz.prog fc #[v, .agg #[.int .i64 e.k, .int .i64 e.n, .int .i64 e.ak, .int .i64 e.at_, .slice ad e.kids.length cap], m, .int .i64 (valK d md e e.kids.length 0), .int .i64 (valK d md e e.kids.length 1)] W fun en w' => en = .returned (.int .i64 (evalD (d + 1) md e)) ∧ Below W.heap.size W w' := by
  subst hm
  obtain ⟨f1, f2, f3, f4⟩ := form_parts hfm
  rw [evalD_succ]
  by_cases h1 : e.k = 1
  · refine ⟨178, .agg #[], 198, by unfold kindV; rw [if_pos h1], m_comes_num, calls_num_comes, fun W _ _ => ?_⟩
    rw [if_pos h1]
    exact comes_num W _ _ _ _ _ _ _ _ _ _ _ _
  rw [if_neg h1]
  by_cases h2 : e.k = 2
  · refine ⟨179, .agg #[], 202, by unfold kindV; rw [if_neg h1, if_pos h2], m_comes_addr, calls_addr_comes, fun W hW hh => ?_⟩
    rw [if_pos h2]
    have ha : addrOk ⟨e.ak, e.at_⟩ = true := by unfold aOk at f3; rwa [if_pos h2] at f3
    have hg : memGet md ⟨e.ak, e.at_⟩ = ((memList md e.ak)[e.at_.toNat]?).getD 0 := by unfold memGet; rw [hmo, ha]; rfl
    have := comes_addr W e.k e.n e.ak e.at_ ad e.kids.length cap _ lo' hi' md hW hh (valK d md e e.kids.length 0) (valK d md e e.kids.length 1)
    rwa [hg] at this
  rw [if_neg h2]
  by_cases h4 : e.k = 10
  · refine ⟨181, .agg #[], 218, by unfold kindV; rw [if_neg h1, if_neg h2, if_neg (by omega), if_pos h4], m_comes_not, calls_not_comes, fun W _ _ => ?_⟩
    rw [if_pos h4]
    have hl : e.kids.length = 1 := by unfold kidsOf at f1; rw [if_neg h1, if_neg h2, if_pos h4] at f1; omega
    have hv : valK d md e e.kids.length 0 = evalD d md (kidAt e 0) := by unfold valK; rw [if_pos (by omega)]
    rw [hv]
    exact comes_not W _ _ _ _ _ _ _ _ _ _ _ _
  · rw [if_neg h4]
    have h3 : 3 ≤ e.k ∧ e.k ≤ 9 := by
      unfold kidsOf at f1
      rw [if_neg h1, if_neg h2, if_neg h4] at f1
      split at f1
      · assumption
      · omega
    have hl : e.kids.length = 2 := by unfold kidsOf at f1; rw [if_neg h1, if_neg h2, if_neg h4, if_pos h3] at f1; omega
    refine ⟨180, .int .i64 e.k, 207, by unfold kindV; rw [if_neg h1, if_neg h2, if_pos h3], m_comes_two _, calls_two_comes, fun W _ _ => ?_⟩
    have hv0 : valK d md e e.kids.length 0 = evalD d md (kidAt e 0) := by unfold valK; rw [if_pos (by omega)]
    have hv1 : valK d md e e.kids.length 1 = evalD d md (kidAt e 1) := by unfold valK; rw [if_pos (by omega)]
    rw [hv0, hv1]
    exact comes_two W _ _ _ _ _ _ _ _ _ _ _ _ _ h3.1 h3.2

/-- A variable of two cells that may be written. -/
structure Two (u : World) (B : Nat) (x y : Value) : Prop where
  c0 : u.cell? ⟨B, 0, none⟩ = some x
  c1 : u.cell? ⟨B, 1, none⟩ = some y
  f : ∀ o, u.frozen? ⟨B, o, none⟩ = false

theorem two_new (u : World) (x y : Value) (t : TypeId) : Two (u.alloc (.cells #[x, y] t)) u.heap.size x y :=
  ⟨World.cell?_alloc_new _ _ _ _, World.cell?_alloc_new _ _ _ _, fun o => World.frozen?_alloc_new _ _ _ _⟩
theorem Two.under {u u' : World} {B n : Nat} {x y : Value} (h : Two u B x y) (hb : Below n u u') (hB : B < n) : Two u' B x y :=
  ⟨by rw [hb.cell (p := ⟨B, 0, none⟩) hB]; exact h.c0, by rw [hb.cell (p := ⟨B, 1, none⟩) hB]; exact h.c1, fun o => by rw [hb.frozen (p := ⟨B, o, none⟩) hB]; exact h.f o⟩
theorem Two.set0 {u : World} {B : Nat} {x y : Value} (h : Two u B x y) (v : Value) : Two (u.setCell ⟨B, 0, none⟩ v) B v y :=
  ⟨World.cell?_setCell_same' _ _ _ (by rw [h.c0]; rfl), by rw [cell_set_other u (.inr (by decide))]; exact h.c1, fun o => by rw [World.frozen?_setCell]; exact h.f o⟩
theorem Two.set1 {u : World} {B : Nat} {x y : Value} (h : Two u B x y) (v : Value) : Two (u.setCell ⟨B, 1, none⟩ v) B x v :=
  ⟨by rw [cell_set_other u (.inr (by decide))]; exact h.c0, World.cell?_setCell_same' _ _ _ (by rw [h.c1]; rfl), fun o => by rw [World.frozen?_setCell]; exact h.f o⟩

theorem Two.next {d : Nat} {md : MemD} {e : ExprD} {u : World} {B j : Nat} {x : ExprD} (h : Two u B (.int .i64 (valK d md e j 0)) (.int .i64 (valK d md e j 1))) (hj : j < 2) (hx : e.kids[j]? = some x) :
    Two (u.setCell ⟨B, j, none⟩ (.int .i64 (evalD d md x))) B (.int .i64 (valK d md e (j + 1) 0)) (.int .i64 (valK d md e (j + 1) 1)) := by
  have hk : kidAt e j = x := by unfold kidAt; rw [hx]; rfl
  obtain rfl | rfl : j = 0 ∨ j = 1 := by omega
  · have e0 : valK d md e (0 + 1) 0 = evalD d md x := by unfold valK; rw [if_pos (by omega), hk]
    have e1 : valK d md e (0 + 1) 1 = valK d md e 0 1 := by unfold valK; rw [if_neg (by omega), if_neg (by omega)]
    rw [e0, e1]; exact h.set0 _
  · have e1 : valK d md e (1 + 1) 1 = evalD d md x := by unfold valK; rw [if_pos (by omega), hk]
    have e0 : valK d md e (1 + 1) 0 = valK d md e 1 0 := by unfold valK; rw [if_pos (by omega), if_pos (by omega)]
    rw [e0, e1]; exact h.set1 _

theorem Two.at_ {d : Nat} {md : MemD} {e : ExprD} {u : World} {B j : Nat} (h : Two u B (.int .i64 (valK d md e j 0)) (.int .i64 (valK d md e j 1))) (hj : j < 2) : u.cell? ⟨B, j, none⟩ = some (.int .i64 0) := by
  obtain rfl | rfl : j = 0 ∨ j = 1 := by omega
  · have := h.c0; unfold valK at this; rwa [if_neg (by omega)] at this
  · have := h.c1; unfold valK at this; rwa [if_neg (by omega)] at this

/-- partComes, of what is not deeper than d. -/
def OfP (d : Nat) : Prop := ∀ (w : World) (lo hi lo' hi' : Nat) (s m : Value) (e : ExprD) (md : MemD), KR w lo hi s e.kids → MI w lo' hi' m md → hi ≤ w.heap.size → hi' ≤ w.heap.size → formE d e = true → memOk md = true →
  Calls Tryz.prog 189 #[.agg #[.int .i64 e.k, .int .i64 e.n, .int .i64 e.ak, .int .i64 e.at_, s], m] w fun en w' => en = .returned (.int .i64 (evalD d md e)) ∧ Below w.heap.size w w'

set_option maxHeartbeats 4000000 in
theorem ofP_step {d : Nat} (H : OfP d) : OfP (d + 1) := by
  intro w lo hi lo' hi' s m e md h hmi hhi hhi' hfm hmo
  obtain ⟨f1, f2, f3, f4⟩ := form_parts hfm
  obtain ⟨ad, cap, rfl, hc1, hc2⟩ := h.shape
  have hmx : e.kids.length ≤ 9223372036854775807 := by unfold maxLen at hc2; omega
  have hl2 : e.kids.length ≤ 2 := by have := (kidsOf_bd e.k).2; omega
  have HMI := hmi
  obtain ⟨m0, m1, m2, rfl, _, _, _⟩ := hmi
  obtain ⟨T, v1, fc, hkv, hmeth, hcall, hcon⟩ := comes_kind hfm hmo ad cap lo' hi' _ m0 m1 m2 rfl
  have hko := fun W => kindOf_any W e.k
  rw [hkv] at hko
  generalize evalD (d + 1) md e = r at *
  have HK : Hid (KR w lo hi (.slice ad e.kids.length cap) e.kids) := h
  have HM : Hid (MI w lo' hi' (.agg #[m0, m1, m2]) md) := HMI
  clear h HMI hfm hkv f1 f2 f3 hc1 hc2
  obtain ⟨u0, hu0, G0, A0, M0, T0, S0⟩ : ∃ u0, ((w.alloc (.cells #[.int .i64 e.k, .int .i64 e.n, .int .i64 e.ak, .int .i64 e.at_, .slice ad e.kids.length cap] 58)).alloc (.cells #[m0, m1, m2] 28)).alloc (.cells #[.int .i64 0, .int .i64 0] 250) = u0 ∧ Below w.heap.size w u0 ∧ Five u0 w.heap.size (.int .i64 e.k) (.int .i64 e.n) (.int .i64 e.ak) (.int .i64 e.at_) (.slice ad e.kids.length cap) ∧ Box3 u0 (w.heap.size + 1) m0 m1 m2 ∧ Two u0 (w.heap.size + 2) (.int .i64 0) (.int .i64 0) ∧ u0.heap.size = w.heap.size + 3 := by
    refine ⟨_, rfl, below_alloc3 w _ _ _, ?_, ?_, ?_, by simp⟩
    · exact (five_new w _ _ _ _ _ _).under (below_alloc2 _ _ _) (by simp)
    · have h := box3_new (w.alloc (.cells #[.int .i64 e.k, .int .i64 e.n, .int .i64 e.ak, .int .i64 e.at_, .slice ad e.kids.length cap] 58)) m0 m1 m2 28
      have h2 := h.below ((Below.refl _ _).alloc (Nat.le_refl _) (.cells #[.int .i64 0, .int .i64 0] 250)) (by simp)
      simpa using h2
    · have h := two_new ((w.alloc (.cells #[.int .i64 e.k, .int .i64 e.n, .int .i64 e.ak, .int .i64 e.at_, .slice ad e.kids.length cap] 58)).alloc (.cells #[m0, m1, m2] 28)) (.int .i64 0) (.int .i64 0) 250
      simpa using h
  have HA : Hid (Below w.heap.size w u0 ∧ Five u0 w.heap.size (.int .i64 e.k) (.int .i64 e.n) (.int .i64 e.ak) (.int .i64 e.at_) (.slice ad e.kids.length cap) ∧ Box3 u0 (w.heap.size + 1) m0 m1 m2 ∧ Two u0 (w.heap.size + 2) (.int .i64 0) (.int .i64 0)) := ⟨G0, A0, M0, T0⟩
  have c4 := A0.c4
  clear A0 M0 T0 G0
  go_enter Tryz.func189, Tryz.ntmps189
  go_wp2_with fail
  clear c4
  go_loopw [11] (fun i wr => ∃ j : Nat, j ≤ e.kids.length ∧ i = .int .i64 j ∧ u0.heap.size ≤ wr.heap.size ∧ Hid (Below (w.heap.size + 2) u0 wr ∧ Two wr (w.heap.size + 2) (.int .i64 (valK d md e j 0)) (.int .i64 (valK d md e j 1))))
    (fun i _ => e.kids.length - (intOf i).toNat)
  case atStart => exact ⟨0, Nat.zero_le _, rfl, Nat.le_refl _, Below.refl _ _, by have := HA.out.2.2.2; unfold valK; rwa [if_neg (by omega), if_neg (by omega)]⟩
  case round =>
    obtain ⟨j, hj, rfl, hs, HR⟩ := hrel
    by_cases hlt : j < e.kids.length
    · obtain ⟨x, hx⟩ : ∃ x, e.kids[j]? = some x := ⟨e.kids[j], List.getElem?_eq_getElem hlt⟩
      obtain ⟨b, off, cap', s, hv, hb1, hb2, h5, hk⟩ := HK.out.at_ hx
      simp only [Value.slice.injEq, true_and] at hv
      obtain ⟨rfl, rfl⟩ := hv
      obtain ⟨hq1, hq2⟩ := HR.out
      have hb : Below w.heap.size w wr := HA.out.1.trans (hq1.mono (by omega))
      obtain ⟨c0, c1, c2, c3, c4⟩ := h5
      rw [← hb.cell (p := ⟨b, off + j * 5, none⟩) (by show b < _; omega)] at c0
      rw [← hb.cell (p := ⟨b, off + j * 5 + 1, none⟩) (by show b < _; omega)] at c1
      rw [← hb.cell (p := ⟨b, off + j * 5 + 2, none⟩) (by show b < _; omega)] at c2
      rw [← hb.cell (p := ⟨b, off + j * 5 + 3, none⟩) (by show b < _; omega)] at c3
      rw [← hb.cell (p := ⟨b, off + j * 5 + 4, none⟩) (by show b < _; omega)] at c4
      obtain ⟨ads, cps, rfl, _, _⟩ := hk.shape
      obtain ⟨u1, hu1, G1, S1, F1⟩ : ∃ u1, wr.alloc (.cells #[.int .i64 x.k, .int .i64 x.n, .int .i64 x.ak, .int .i64 x.at_, .slice ads x.kids.length cps] 58) = u1 ∧ Below wr.heap.size wr u1 ∧ u1.heap.size = wr.heap.size + 1 ∧ Five u1 wr.heap.size (.int .i64 x.k) (.int .i64 x.n) (.int .i64 x.ak) (.int .i64 x.at_) (.slice ads x.kids.length cps) :=
        ⟨_, rfl, (Below.refl _ _).alloc (Nat.le_refl _) _, by simp, five_new wr _ _ _ _ _ _⟩
      have hb' : Below w.heap.size w u1 := hb.trans (G1.mono (by omega))
      have hC := H u1 lo hi lo' hi' (.slice ads x.kids.length cps) _ x md (hk.under hb' hhi) (HM.out.below hb' hhi') (by omega) (by omega) (f4 _ _ hx) hmo
      obtain ⟨m0c, m1c, m2c⟩ := (HA.out.2.2.1.below hq1 (by omega)).below G1 (by omega)
      have HG1 : Hid (Below wr.heap.size wr u1) := G1
      have HX : Hid (e.kids[j]? = some x) := hx
      obtain ⟨d0, d1, d2, d3, d4, _⟩ := F1
      clear hq1 hq2 hb hb' hk hx G1 H
      go_wp2_with (go_at_call 189; refine hC.mono ?_; clear hC; rintro e2 W2 ⟨rfl, g2⟩; have hT2 := ((HR.out.2.under HG1.out (by omega)).under g2 (by omega)); have k1 := hT2.at_ (by omega); have k2 := hT2.f j; have hs2 := g2.size)
      go_roundw
      case rel =>
        refine ⟨j + 1, by omega, by go_num, by simp; omega, ?_, hT2.next (by omega) HX.out⟩
        exact (HR.out.1.trans ((HG1.out.trans (g2.mono (by omega))).mono (by omega))).setCell (p := ⟨w.heap.size + 2, j, none⟩) (Nat.le_refl _) _
      case measure => simp [intOf]; omega
    · obtain rfl : j = e.kids.length := by omega
      obtain ⟨hq1, hq2⟩ := HR.out
      have HB : Hid (Below w.heap.size w wr ∧ Five wr w.heap.size (.int .i64 e.k) (.int .i64 e.n) (.int .i64 e.ak) (.int .i64 e.at_) (.slice ad e.kids.length cap) ∧ Box3 wr (w.heap.size + 1) m0 m1 m2 ∧ Two wr (w.heap.size + 2) (.int .i64 (valK d md e e.kids.length 0)) (.int .i64 (valK d md e e.kids.length 1))) :=
        ⟨HA.out.1.trans (hq1.mono (by omega)), HA.out.2.1.under hq1 (by omega), HA.out.2.2.1.below hq1 (by omega), hq2⟩
      obtain ⟨c0, c1, c2, c3, c4, _⟩ := HB.out.2.1
      obtain ⟨m0c, m1c, m2c⟩ := HB.out.2.2.1
      obtain ⟨t0, t1, _⟩ := HB.out.2.2.2
      have hM : ∀ W, Below wr.heap.size wr W → MI W lo' hi' (.agg #[m0, m1, m2]) md := fun W hW => (HM.out.below HB.out.1 hhi').below hW (by omega)
      generalize valK d md e e.kids.length 0 = r0 at *
      generalize valK d md e e.kids.length 1 = r1 at *
      clear hq1 hq2 HR H HK
      go_wp2_with fail
      refine wp_region_dag (R := Grow) (Φ := fun i v u => match i with
          | 0 => v = .pointer (some ⟨w.heap.size, 0, none⟩)
          | 1 => v = .int .i64 e.k
          | 2 => v = .iface T v1
          | 3 => v = .agg #[.int .i64 e.k, .int .i64 e.n, .int .i64 e.ak, .int .i64 e.at_, .slice ad e.kids.length cap]
          | 4 => v = .agg #[m0, m1, m2]
          | 5 => v = .pointer (some ⟨w.heap.size + 2, 0, none⟩)
          | 6 => v = .int .i64 r0
          | 7 => v = .pointer (some ⟨w.heap.size + 2, 1, none⟩)
          | 8 => v = .int .i64 r1
          | 9 => v = .int .i64 r
          | 10 => v = .int .i64 r
          | _ => True) (by kernel_rfl) (by kernel_rfl) (by kernel_rfl) (Below.refl _ _) grow_trans ?_ ?_ ?_
      · intro i v u u' hr
        match i with
        | 0 | 1 | 2 | 3 | 4 | 5 | 6 | 7 | 8 | 9 | 10 | _ + 11 => exact fun h => h
      · intro i o ho a u hf hR0 he K' hK
        have hR : Grow wr u := (Below.drew (Below.refl _ _)).trans hR0
        have hsz' : a.tmps.size = 32 := hf.size
        have hus : wr.heap.size ≤ u.heap.size := hR.size
        rcases i with _ | _ | _ | _ | _ | _ | _ | _ | _ | _ | _ | i
        · obtain rfl := Option.some.inj ho
          have q2 : a.tmps.getD 2 undef = .pointer (some ⟨w.heap.size, 0, none⟩) := hf.at_ 2 (by kernel_rfl)
          clear he
          go_simp
          exact hK _ _ (Below.refl _ _) (getD_put_self a 22 _ (by show _ < a.tmps.size; omega))
        · obtain rfl := Option.some.inj ho
          have q22 : a.tmps.getD 22 undef = .pointer (some ⟨w.heap.size, 0, none⟩) := he _ (Array.mem_of_getElem? (i := 0) rfl) (by kernel_rfl) _ rfl
          clear he
          obtain ⟨c0, c1, c2, c3, c4, _⟩ := HB.out.2.1.under hR (by omega)
          go_simp
          exact hK _ _ (Below.refl _ _) (getD_put_self a 23 _ (by show _ < a.tmps.size; omega))
        · obtain rfl := Option.some.inj ho
          have q23 : a.tmps.getD 23 undef = .int .i64 e.k := he _ (Array.mem_of_getElem? (i := 0) rfl) (by kernel_rfl) _ rfl
          clear he
          go_simp
          refine (hko _).mono ?_
          rintro e1 u' ⟨rfl, rfl⟩
          exact hK _ _ (Below.refl _ _) (getD_put_self a 24 _ (by show _ < a.tmps.size; omega))
        · obtain rfl := Option.some.inj ho
          have q2 : a.tmps.getD 2 undef = .pointer (some ⟨w.heap.size, 0, none⟩) := hf.at_ 2 (by kernel_rfl)
          clear he
          obtain ⟨c0, c1, c2, c3, c4, _⟩ := HB.out.2.1.under hR (by omega)
          go_simp
          exact hK _ _ (Below.refl _ _) (getD_put_self a 25 _ (by show _ < a.tmps.size; omega))
        · obtain rfl := Option.some.inj ho
          have q3 : a.tmps.getD 3 undef = .pointer (some ⟨w.heap.size + 1, 0, none⟩) := hf.at_ 3 (by kernel_rfl)
          clear he
          obtain ⟨c0, c1, c2⟩ := HB.out.2.2.1.below hR (by omega)
          go_simp
          exact hK _ _ (Below.refl _ _) (getD_put_self a 26 _ (by show _ < a.tmps.size; omega))
        · obtain rfl := Option.some.inj ho
          have q5 : a.tmps.getD 5 undef = .pointer (some ⟨w.heap.size + 2, 0, none⟩) := hf.at_ 5 (by kernel_rfl)
          clear he
          go_simp
          exact hK _ _ (Below.refl _ _) (getD_put_self a 27 _ (by show _ < a.tmps.size; omega))
        · obtain rfl := Option.some.inj ho
          have q27 : a.tmps.getD 27 undef = .pointer (some ⟨w.heap.size + 2, 0, none⟩) := he _ (Array.mem_of_getElem? (i := 0) rfl) (by kernel_rfl) _ rfl
          clear he
          obtain ⟨c0, c1, _⟩ := HB.out.2.2.2.under hR (by omega)
          go_simp
          exact hK _ _ (Below.refl _ _) (getD_put_self a 28 _ (by show _ < a.tmps.size; omega))
        · obtain rfl := Option.some.inj ho
          have q5 : a.tmps.getD 5 undef = .pointer (some ⟨w.heap.size + 2, 0, none⟩) := hf.at_ 5 (by kernel_rfl)
          clear he
          go_simp
          exact hK _ _ (Below.refl _ _) (getD_put_self a 29 _ (by show _ < a.tmps.size; omega))
        · obtain rfl := Option.some.inj ho
          have q29 : a.tmps.getD 29 undef = .pointer (some ⟨w.heap.size + 2, 1, none⟩) := he _ (Array.mem_of_getElem? (i := 0) rfl) (by kernel_rfl) _ rfl
          clear he
          obtain ⟨c0, c1, _⟩ := HB.out.2.2.2.under hR (by omega)
          go_simp
          exact hK _ _ (Below.refl _ _) (getD_put_self a 30 _ (by show _ < a.tmps.size; omega))
        · obtain rfl := Option.some.inj ho
          have q24 : a.tmps.getD 24 undef = .iface T v1 := he _ (Array.mem_of_getElem? (i := 0) rfl) (by kernel_rfl) _ rfl
          have q25 : a.tmps.getD 25 undef = .agg #[.int .i64 e.k, .int .i64 e.n, .int .i64 e.ak, .int .i64 e.at_, .slice ad e.kids.length cap] := he _ (Array.mem_of_getElem? (i := 1) rfl) (by kernel_rfl) _ rfl
          have q26 : a.tmps.getD 26 undef = .agg #[m0, m1, m2] := he _ (Array.mem_of_getElem? (i := 2) rfl) (by kernel_rfl) _ rfl
          have q28 : a.tmps.getD 28 undef = .int .i64 r0 := he _ (Array.mem_of_getElem? (i := 3) rfl) (by kernel_rfl) _ rfl
          have q30 : a.tmps.getD 30 undef = .int .i64 r1 := he _ (Array.mem_of_getElem? (i := 4) rfl) (by kernel_rfl) _ rfl
          clear he
          go_simp
          refine (hcon _ (hM _ hR) (by omega)).mono ?_
          rintro e1 u' ⟨rfl, hbu⟩
          exact hK _ _ hbu (getD_put_self a 31 _ (by show _ < a.tmps.size; omega))
        · obtain rfl := Option.some.inj ho
          have q31 : a.tmps.getD 31 undef = .int .i64 r := he _ (Array.mem_of_getElem? (i := 0) rfl) (by kernel_rfl) _ rfl
          clear he
          go_simp
          exact hK _ _ (Below.refl _ _) (getD_put_self a 4 _ (by show _ < a.tmps.size; omega))
        · exact absurd ho (by simp)
      · intro a u hf hR0 hp
        have hR : Grow wr u := (Below.drew (Below.refl _ _)).trans hR0
        have md : a.defers = [] := hf.defers
        have m4 : a.tmps.getD 4 undef = .int .i64 r := hp 10 _ rfl
        obtain ⟨f, ea, hfv⟩ := act_lit a 32 hf.size
        rw [← hfv] at m4
        rw [md] at ea
        simp only [List.range, List.range.loop, List.map_cons, List.map_nil, m4] at ea
        subst ea
        clear hfv hf md hp hR0
        go_wp2
        go_ret
        exact ⟨rfl, HB.out.1.trans (hR.mono (by omega))⟩
end Go.Proofs.YtdlcdllmhacaaaaGreatDoor

/-
  ExprOf of the program.
-/
namespace Go.Proofs.YtdlcdllmhacaaaaGreatDoor
open Go.ChangeShapes Go.WideShapes Go.ChangeAt Go.RowKit
set_option linter.unusedVariables false
set_option maxRecDepth 100000

theorem ofP : ∀ d, OfP d
  | 0 => by intro w lo hi lo' hi' s m e md _ _ _ _ h; rw [formE] at h; cases h
  | d + 1 => ofP_step (ofP d)

set_option maxHeartbeats 2000000 in
theorem iExprOf_any (w : World) (lo hi lo' hi' : Nat) (v m : Value) (e : ExprD) (md : MemD) (h : ER w lo hi v e) (h' : MI w lo' hi' m md) (hhi : hi ≤ w.heap.size) (hhi' : hi' ≤ w.heap.size) (hm : manyL e.kids ≤ 1048576) :
    Calls Tryz.prog 185 #[v, m] w fun en w' => en = .returned (.int .i64 (exprOf e md)) ∧ Below w.heap.size w w' := by
  have HE := h
  have HM := h'
  obtain ⟨s, rfl, hk⟩ := h
  obtain ⟨ma, mb, mc, rfl, _, _, _⟩ := h'
  have HK : Hid (KR w lo hi s e.kids) := hk
  have HEE : Hid (ER w lo hi (.agg #[.int .i64 e.k, .int .i64 e.n, .int .i64 e.ak, .int .i64 e.at_, s]) e) := HE
  have HMM : Hid (MI w lo' hi' (.agg #[ma, mb, mc]) md) := HM
  obtain ⟨ad, cap, rfl, _, _⟩ := hk.shape
  clear HE HM hk
  have b2 := fun o o' => ((Below.refl w.heap.size w).alloc (Nat.le_refl _) o).alloc (by simp) o'
  have HR : Hid (exprOf e md = if exprOk e && memOk md then evalD 6 md e else 0) := rfl
  obtain ⟨r, hr⟩ : ∃ r, exprOf e md = r := ⟨_, rfl⟩
  rw [hr]
  rw [hr] at HR
  clear hr
  go_enter Tryz.func185, Tryz.ntmps185
  go_wp2_with fail
  obtain ⟨u0, hu0, G0, A0, M0, S0⟩ : ∃ u0, (w.alloc (.cells #[.int .i64 e.k, .int .i64 e.n, .int .i64 e.ak, .int .i64 e.at_, .slice ad e.kids.length cap] 58)).alloc (.cells #[ma, mb, mc] 28) = u0 ∧ Below w.heap.size w u0 ∧ Five u0 w.heap.size (.int .i64 e.k) (.int .i64 e.n) (.int .i64 e.ak) (.int .i64 e.at_) (.slice ad e.kids.length cap) ∧ Box3 u0 (w.heap.size + 1) ma mb mc ∧ u0.heap.size = w.heap.size + 2 := by
    obtain ⟨w1, e1⟩ : ∃ w1, w.alloc (.cells #[.int .i64 e.k, .int .i64 e.n, .int .i64 e.ak, .int .i64 e.at_, .slice ad e.kids.length cap] 58) = w1 := ⟨_, rfl⟩
    have n1 := five_new w (.int .i64 e.k) (.int .i64 e.n) (.int .i64 e.ak) (.int .i64 e.at_) (.slice ad e.kids.length cap) 58
    have s1 : w1.heap.size = w.heap.size + 1 := by rw [← e1]; simp
    have g1 : Below w.heap.size w w1 := by rw [← e1]; exact (Below.refl _ _).alloc (Nat.le_refl _) _
    rw [e1] at n1 ⊢
    have g2 : Below w1.heap.size w1 (w1.alloc (.cells #[ma, mb, mc] 28)) := (Below.refl _ _).alloc (Nat.le_refl _) _
    refine ⟨_, rfl, below_two g1 g2, n1.under g2 (by omega), ?_, by rw [World.size_alloc]; omega⟩
    have := box3_new w1 ma mb mc 28
    rwa [s1] at this
  rw [hu0]
  clear hu0
  refine (iExprOk_any _ lo hi _ e (HEE.out.below G0 hhi) (by omega) hm).mono ?_
  rintro e1 u1 ⟨rfl, g1⟩
  have S1 := g1.size
  have G1 := G0.trans (g1.mono (by omega))
  have A1 := A0.under g1 (by omega)
  have M1 := M0.below g1 (by omega)
  clear g1 A0 M0 G0
  cases ho : exprOk e with
  | false =>
    have H0 : Hid (r = 0) := by show r = 0; rw [HR.out, ho]; rfl
    clear A1 M1 HR
    go_wp2
    go_ret
    exact ⟨ret_int H0.out.symm, G1⟩
  | true =>
    obtain ⟨c0, c1, c2⟩ := id M1
    go_wp2_with fail
    refine (iMemOk_any _ _ lo' hi' md (HMM.out.below G1 hhi') (by omega)).mono ?_
    rintro e2 u2 ⟨rfl, g2⟩
    have S2 := g2.size
    have G2 := G1.trans (g2.mono (by omega))
    have A2 := A1.under g2 (by omega)
    have M2 := M1.below g2 (by omega)
    clear g2 A1 M1 G1 c0 c1 c2
    cases hmo : memOk md with
    | false =>
      have H0 : Hid (r = 0) := by show r = 0; rw [HR.out, ho, hmo]; rfl
      clear A2 M2 HR
      go_wp2
      go_ret
      exact ⟨ret_int H0.out.symm, G2⟩
    | true =>
      have H0 : Hid (evalD 6 md e = r) := by show _ = r; rw [HR.out, ho, hmo]; rfl
      obtain ⟨c0, c1, c2⟩ := id M2
      obtain ⟨d0, d1, d2, d3, d4, _⟩ := id A2
      have hof := ofP 6 u2 lo hi lo' hi' _ _ e md (HK.out.under G2 hhi) (HMM.out.below G2 hhi') (by omega) (by omega) (exprOk_form ho) hmo
      rw [H0.out] at hof
      clear HR
      go_wp2_with fail
      refine hof.mono ?_
      rintro e3 u3 ⟨rfl, g3⟩
      have G3 := G2.trans (g3.mono (by omega))
      clear g3 A2 M2 G2 c0 c1 c2 d0 d1 d2 d3 d4 hof
      go_wp2
      go_ret
      exact ⟨rfl, G3⟩

theorem iExprOf_impl : ∀ (w : World) (m0 : Value) (lo0 hi0 : Nat) (d0 : ExprD) (m1 : Value) (lo1 hi1 : Nat) (d1 : MemD), ER w lo0 hi0 m0 d0 → hi0 ≤ w.heap.size → manyL d0.kids ≤ 1048576 → MI w lo1 hi1 m1 d1 → hi1 ≤ w.heap.size → d1.many ≤ 1048576 → Calls Tryz.prog 185 #[m0, m1] w fun e w' => e = .returned (.int .i64 (exprOf d0 d1)) ∧ Below w.heap.size w w' :=
  fun w m0 lo0 hi0 d0 m1 lo1 hi1 d1 h0 hh0 hm0 h1 hh1 _ => iExprOf_any w lo0 hi0 lo1 hi1 m0 m1 d0 d1 h0 h1 hh0 hh1 hm0
end Go.Proofs.YtdlcdllmhacaaaaGreatDoor
