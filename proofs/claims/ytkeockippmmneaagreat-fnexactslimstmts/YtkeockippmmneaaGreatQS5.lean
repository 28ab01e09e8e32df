import Derived.Test.YtkeockippmmneaaGreatQS3
import Derived.Test.YtkeockippmmneaaGreatImplA
import Derived.Test.YtkeockippmmneaaGreatQS1
import Derived.Deep.RegionWith
import Derived.Test.YtkeockippmmneaaGreatBase
import Derived.Test.YtkeockippmmneaaGreatTwoKit

/-
  Kinds of what is reckoned, behind an interface: kindOf, kids, fits, partOk.
-/
namespace Go.Proofs.YtkeockippmmneaaGreat
open Go.ChangeShapes Go.WideShapes Go.ChangeAt Go.RowKit
set_option linter.unusedVariables false

/-- The kind of a number, as an interface's value. -/
def kindV (k : Int) : Value := if k = 1 then .iface 111 (.agg #[]) else if k = 2 then .iface 112 (.agg #[]) else if 3 ≤ k ∧ k ≤ 9 then .iface 113 (.int .i64 k) else if k = 10 then .iface 114 (.agg #[]) else .nilIface

set_option maxHeartbeats 1000000 in
theorem kindOf_any (w : World) (k : Int) :
    Calls Tryz.prog 75 #[.int .i64 k] w fun e w' => e = .returned (kindV k) ∧ w' = w := by
  unfold kindV
  by_cases h1 : k = 1
  · subst h1
    go_enter Tryz.func75, Tryz.ntmps75
    go_wp2
    go_ret
    exact ⟨rfl, rfl⟩
  by_cases h2 : k = 2
  · subst h2
    go_enter Tryz.func75, Tryz.ntmps75
    go_wp2
    go_ret
    exact ⟨rfl, rfl⟩
  have b1 : (k == 1) = false := by simp [h1]
  have b2 : (k == 2) = false := by simp [h2]
  rw [if_neg h1, if_neg h2]
  by_cases h3 : 3 ≤ k
  · by_cases h4 : k ≤ 9
    · rw [if_pos ⟨h3, h4⟩]
      clear h1 h2
      go_enter Tryz.func75, Tryz.ntmps75
      go_wp2
      go_ret
      exact ⟨rfl, rfl⟩
    · rw [if_neg (by omega)]
      by_cases h5 : k = 10
      · subst h5
        go_enter Tryz.func75, Tryz.ntmps75
        go_wp2
        go_ret
        exact ⟨rfl, rfl⟩
      · have b3 : (k == 10) = false := by simp [h5]
        rw [if_neg h5]
        clear h1 h2 h5
        go_enter Tryz.func75, Tryz.ntmps75
        go_wp2
        go_ret
        exact ⟨rfl, rfl⟩
  · rw [if_neg (by omega), if_neg (by omega)]
    have b3 : (k == 10) = false := by simp; omega
    clear h1 h2
    go_enter Tryz.func75, Tryz.ntmps75
    go_wp2
    go_ret
    exact ⟨rfl, rfl⟩

theorem m_kids_num : ∀ w : World, (method 256 111 (.agg #[]) "loop.example/stopgate/impl.kids").run Tryz.prog w = .ok (114, .agg #[]) w := fun _ => by kernel_rfl
theorem m_fits_num : ∀ w : World, (method 256 111 (.agg #[]) "loop.example/stopgate/impl.fits").run Tryz.prog w = .ok (113, .agg #[]) w := fun _ => by kernel_rfl
theorem m_comes_num : ∀ w : World, (method 256 111 (.agg #[]) "loop.example/stopgate/impl.comes").run Tryz.prog w = .ok (112, .agg #[]) w := fun _ => by kernel_rfl
theorem m_kids_addr : ∀ w : World, (method 256 112 (.agg #[]) "loop.example/stopgate/impl.kids").run Tryz.prog w = .ok (120, .agg #[]) w := fun _ => by kernel_rfl
theorem m_fits_addr : ∀ w : World, (method 256 112 (.agg #[]) "loop.example/stopgate/impl.fits").run Tryz.prog w = .ok (119, .agg #[]) w := fun _ => by kernel_rfl
theorem m_comes_addr : ∀ w : World, (method 256 112 (.agg #[]) "loop.example/stopgate/impl.comes").run Tryz.prog w = .ok (118, .agg #[]) w := fun _ => by kernel_rfl
theorem m_kids_two (k : Int) : ∀ w : World, (method 256 113 (.int .i64 k) "loop.example/stopgate/impl.kids").run Tryz.prog w = .ok (129, .int .i64 k) w := fun _ => by kernel_rfl
theorem m_fits_two (k : Int) : ∀ w : World, (method 256 113 (.int .i64 k) "loop.example/stopgate/impl.fits").run Tryz.prog w = .ok (128, .int .i64 k) w := fun _ => by kernel_rfl
theorem m_comes_two (k : Int) : ∀ w : World, (method 256 113 (.int .i64 k) "loop.example/stopgate/impl.comes").run Tryz.prog w = .ok (127, .int .i64 k) w := fun _ => by kernel_rfl
theorem m_kids_not : ∀ w : World, (method 256 114 (.agg #[]) "loop.example/stopgate/impl.kids").run Tryz.prog w = .ok (140, .agg #[]) w := fun _ => by kernel_rfl
theorem m_fits_not : ∀ w : World, (method 256 114 (.agg #[]) "loop.example/stopgate/impl.fits").run Tryz.prog w = .ok (139, .agg #[]) w := fun _ => by kernel_rfl
theorem m_comes_not : ∀ w : World, (method 256 114 (.agg #[]) "loop.example/stopgate/impl.comes").run Tryz.prog w = .ok (138, .agg #[]) w := fun _ => by kernel_rfl

theorem kids_num (w : World) : Calls Tryz.prog 114 #[.agg #[]] w fun e w' => e = .returned (.int .i64 0) ∧ Below w.heap.size w w' := by
  have b0 := Below.refl w.heap.size w
  have b1 := fun o => (Below.refl w.heap.size w).alloc (Nat.le_refl _) o
  go_enter Tryz.func114, Tryz.ntmps114
  go_wp2
  go_ret
  exact ⟨rfl, by first | exact b1 _ | exact b0⟩

theorem kids_addr (w : World) : Calls Tryz.prog 120 #[.agg #[]] w fun e w' => e = .returned (.int .i64 0) ∧ Below w.heap.size w w' := by
  have b0 := Below.refl w.heap.size w
  have b1 := fun o => (Below.refl w.heap.size w).alloc (Nat.le_refl _) o
  go_enter Tryz.func120, Tryz.ntmps120
  go_wp2
  go_ret
  exact ⟨rfl, by first | exact b1 _ | exact b0⟩

theorem kids_two (w : World) (k : Int) : Calls Tryz.prog 129 #[.int .i64 k] w fun e w' => e = .returned (.int .i64 2) ∧ Below w.heap.size w w' := by
  have b0 := Below.refl w.heap.size w
  have b1 := fun o => (Below.refl w.heap.size w).alloc (Nat.le_refl _) o
  go_enter Tryz.func129, Tryz.ntmps129
  go_wp2
  go_ret
  exact ⟨rfl, by first | exact b1 _ | exact b0⟩

theorem kids_not (w : World) : Calls Tryz.prog 140 #[.agg #[]] w fun e w' => e = .returned (.int .i64 1) ∧ Below w.heap.size w w' := by
  have b0 := Below.refl w.heap.size w
  have b1 := fun o => (Below.refl w.heap.size w).alloc (Nat.le_refl _) o
  go_enter Tryz.func140, Tryz.ntmps140
  go_wp2
  go_ret
  exact ⟨rfl, by first | exact b1 _ | exact b0⟩

/-- Neither a number nor a place of its own. -/
def noneB (n a t : Int) : Bool := (n == 0) && ((a == 0) && (t == 0))

set_option maxHeartbeats 1000000 in
theorem holdsNone_any (w : World) (k n a t : Int) (s : Value) (ad : Option Go.Addr) (len cap : Nat) (hs : s = .slice ad len cap) :
    Calls Tryz.prog 135 #[.agg #[.int .i64 k, .int .i64 n, .int .i64 a, .int .i64 t, s]] w fun e w' => e = .returned (.bool (noneB n a t)) ∧ Below w.heap.size w w' := by
  subst hs
  have b1 := fun o => (Below.refl w.heap.size w).alloc (Nat.le_refl _) o
  unfold noneB
  by_cases h1 : n = 0
  · subst h1
    by_cases h2 : a = 0
    · subst h2
      by_cases h3 : t = 0
      · subst h3
        go_enter Tryz.func135, Tryz.ntmps135
        go_wp2
        go_ret
        exact ⟨rfl, b1 _⟩
      · have e3 : (t == 0) = false := by simp [h3]
        go_enter Tryz.func135, Tryz.ntmps135
        go_wp2
        go_ret
        exact ⟨by rw [e3]; rfl, b1 _⟩
    · have e2 : (a == 0) = false := by simp [h2]
      go_enter Tryz.func135, Tryz.ntmps135
      go_wp2
      go_ret
      exact ⟨by rw [e2]; rfl, b1 _⟩
  · have e1 : (n == 0) = false := by simp [h1]
    go_enter Tryz.func135, Tryz.ntmps135
    go_wp2
    go_ret
    exact ⟨by rw [e1]; rfl, b1 _⟩
end Go.Proofs.YtkeockippmmneaaGreat

/-
  Kinds of what is reckoned: fits; a part is right by itself.
-/
namespace Go.Proofs.YtkeockippmmneaaGreat
open Go.ChangeShapes Go.WideShapes Go.ChangeAt Go.RowKit
set_option linter.unusedVariables false

set_option maxHeartbeats 1000000 in
theorem fits_num (w : World) (k n a t : Int) (ad : Option Go.Addr) (len cap : Nat) :
    Calls Tryz.prog 113 #[.agg #[], .agg #[.int .i64 k, .int .i64 n, .int .i64 a, .int .i64 t, .slice ad len cap]] w fun e w' => e = .returned (.bool ((cutZ n == n) && ((a == 0) && (t == 0)))) ∧ Below w.heap.size w w' := by
  have b2 := fun o o' => ((Below.refl w.heap.size w).alloc (Nat.le_refl _) o).alloc (by simp) o'
  have hcut := fun W => numCut_any n W
  cases h1 : (cutZ n == n) with
  | true =>
    cases h2 : (a == 0) with
    | true =>
      cases h3 : (t == 0) with
      | true =>
        go_enter Tryz.func113, Tryz.ntmps113
        go_wp2_with fail
        go_quiet ((go_at_call 116; exact Calls.quiet_of_same (hcut _)))
        go_wp2
        go_ret
        exact ⟨rfl, below_drewN (b2 _ _) nq⟩
      | false =>
        go_enter Tryz.func113, Tryz.ntmps113
        go_wp2_with fail
        go_quiet ((go_at_call 116; exact Calls.quiet_of_same (hcut _)))
        go_wp2
        go_ret
        exact ⟨rfl, below_drewN (b2 _ _) nq⟩
    | false =>
      go_enter Tryz.func113, Tryz.ntmps113
      go_wp2_with fail
      go_quiet ((go_at_call 116; exact Calls.quiet_of_same (hcut _)))
      go_wp2
      go_ret
      exact ⟨rfl, below_drewN (b2 _ _) nq⟩
  | false =>
    go_enter Tryz.func113, Tryz.ntmps113
    go_wp2_with fail
    go_quiet ((go_at_call 116; exact Calls.quiet_of_same (hcut _)))
    go_wp2
    go_ret
    exact ⟨rfl, below_drewN (b2 _ _) nq⟩

set_option maxHeartbeats 1000000 in
theorem fits_addr (w : World) (k n a t : Int) (ad : Option Go.Addr) (len cap : Nat) :
    Calls Tryz.prog 119 #[.agg #[], .agg #[.int .i64 k, .int .i64 n, .int .i64 a, .int .i64 t, .slice ad len cap]] w fun e w' => e = .returned (.bool ((n == 0) && addrOk ⟨a, t⟩)) ∧ Below w.heap.size w w' := by
  have b2 := fun o o' => ((Below.refl w.heap.size w).alloc (Nat.le_refl _) o).alloc (by simp) o'
  have hao := fun W => iAddrOk_any W a t
  have ev : AddrD.val ⟨a, t⟩ = .agg #[.int .i64 a, .int .i64 t] := rfl
  rw [ev] at hao
  clear ev
  by_cases h1 : n = 0
  · have e1 : (n == 0) = true := by simp [h1]
    rw [e1, Bool.true_and]
    generalize addrOk ⟨a, t⟩ = r at *
    subst h1
    go_enter Tryz.func119, Tryz.ntmps119
    go_wp2_with fail
    refine (hao _).mono ?_
    rintro e w1 ⟨rfl, g1⟩
    go_wp2
    go_ret
    exact ⟨rfl, (b2 _ _).trans (g1.mono (by simp; omega))⟩
  · have e1 : (n == 0) = false := by simp [h1]
    rw [e1, Bool.false_and]
    clear hao
    go_enter Tryz.func119, Tryz.ntmps119
    go_wp2
    go_ret
    exact ⟨rfl, b2 _ _⟩

theorem fits_two (w : World) (j k n a t : Int) (ad : Option Go.Addr) (len cap : Nat) :
    Calls Tryz.prog 128 #[.int .i64 j, .agg #[.int .i64 k, .int .i64 n, .int .i64 a, .int .i64 t, .slice ad len cap]] w fun e w' => e = .returned (.bool (noneB n a t)) ∧ Below w.heap.size w w' := by
  have b1 := fun o => (Below.refl w.heap.size w).alloc (Nat.le_refl _) o
  have hn := fun W => holdsNone_any W k n a t _ ad len cap rfl
  generalize noneB n a t = r at *
  go_enter Tryz.func128, Tryz.ntmps128
  go_wp2_with fail
  refine (hn _).mono ?_
  rintro e w1 ⟨rfl, g1⟩
  go_wp2
  go_ret
  exact ⟨rfl, (b1 _).trans (g1.mono (by simp))⟩

theorem fits_not (w : World) (k n a t : Int) (ad : Option Go.Addr) (len cap : Nat) :
    Calls Tryz.prog 139 #[.agg #[], .agg #[.int .i64 k, .int .i64 n, .int .i64 a, .int .i64 t, .slice ad len cap]] w fun e w' => e = .returned (.bool (noneB n a t)) ∧ Below w.heap.size w w' := by
  have b2 := fun o o' => ((Below.refl w.heap.size w).alloc (Nat.le_refl _) o).alloc (by simp) o'
  have hn := fun W => holdsNone_any W k n a t _ ad len cap rfl
  generalize noneB n a t = r at *
  go_enter Tryz.func139, Tryz.ntmps139
  go_wp2_with fail
  refine (hn _).mono ?_
  rintro e w1 ⟨rfl, g1⟩
  go_wp2
  go_ret
  exact ⟨rfl, (b2 _ _).trans (g1.mono (by simp; omega))⟩

theorem below_drewU {u u1 : World} (g : Below u.drew.heap.size u.drew u1) : Below u.heap.size u u1 := (Below.drew (Below.refl _ _)).trans g
theorem Five.drewU {u u1 : World} {B : Nat} {v0 v1 v2 v3 v4 : Value} (h : Five u B v0 v1 v2 v3 v4) (g : Below u.drew.heap.size u.drew u1) (hB : B < u.heap.size) : Five u1 B v0 v1 v2 v3 v4 := h.under (below_drewU g) hB

set_option maxRecDepth 100000 in
set_option maxHeartbeats 4000000 in
/-- A part of a kind that there is. -/
theorem partOk_gen (w : World) (k n a t : Int) (ad : Option Go.Addr) (len cap : Nat) (T : TypeId) (v : Value) (fk ff : Nat) (nk : Int) (r : Bool) (hkv : kindV k = .iface T v)
    (hm1 : ∀ w : World, (method 256 T v "loop.example/stopgate/impl.kids").run Tryz.prog w = .ok (fk, v) w)
    (hm2 : ∀ w : World, (method 256 T v "loop.example/stopgate/impl.fits").run Tryz.prog w = .ok (ff, v) w)
    (he1 : ∀ (args : Array Value) (w : World), (callFunc fk args).run Tryz.prog w = .ok (.enter fk args) w)
    (he2 : ∀ (args : Array Value) (w : World), (callFunc ff args).run Tryz.prog w = .ok (.enter ff args) w)
    (hk : ∀ W : World, Calls Tryz.prog fk #[v] W fun e w' => e = .returned (.int .i64 nk) ∧ Below W.heap.size W w')
    (hf : ∀ W : World, Calls Tryz.prog ff #[v, .agg #[.int .i64 k, .int .i64 n, .int .i64 a, .int .i64 t, .slice ad len cap]] W fun e w' => e = .returned (.bool r) ∧ Below W.heap.size W w') :
    Calls Tryz.prog 61 #[.agg #[.int .i64 k, .int .i64 n, .int .i64 a, .int .i64 t, .slice ad len cap]] w fun e w' => e = .returned (.bool (((len : Int) == nk) && r)) ∧ Below w.heap.size w w' := by
  have hko := fun W => kindOf_any W k
  rw [hkv] at hko
  clear hkv
  go_enter Tryz.func61, Tryz.ntmps61
  go_wp2_with fail
  refine (hko _).mono ?_
  rintro e w1 ⟨rfl, rfl⟩
  clear hko
  go_wp2_with fail
  obtain ⟨u0, hu0, G0, F0, S0⟩ : ∃ u0, w.alloc (.cells #[.int .i64 k, .int .i64 n, .int .i64 a, .int .i64 t, .slice ad len cap] 42) = u0 ∧ Below w.heap.size w u0 ∧ Five u0 w.heap.size (.int .i64 k) (.int .i64 n) (.int .i64 a) (.int .i64 t) (.slice ad len cap) ∧ u0.heap.size = w.heap.size + 1 :=
    ⟨_, rfl, (Below.refl w.heap.size w).alloc (Nat.le_refl _) _, five_new w _ _ _ _ _ _, by simp⟩
  rw [hu0]
  clear hu0
  obtain ⟨c0, c1, c2, c3, c4, _⟩ := id F0
  have L0 : w.heap.size < u0.heap.size := by omega
  cases hq : ((len : Int) == nk) with
  | true =>
    go_region_with (first | (refine (hk _).mono ?_; clear hk; rintro e w1 ⟨rfl, g1⟩; obtain ⟨d0, d1, d2, d3, d4, _⟩ := F0.drewU g1 L0; have g1' := below_drewU g1) | (refine (hf _).mono ?_; rintro e w2 ⟨rfl, g2⟩))
    all_goals (go_simp; go_wp2; go_ret; exact ⟨by rw [hq]; simp, G0.trans ((below_two g1' g2).mono G0.size)⟩)
  | false =>
    clear hf
    first
      | go_region_with (refine (hk _).mono ?_; clear hk; rintro e w1 ⟨rfl, g1⟩; obtain ⟨d0, d1, d2, d3, d4, _⟩ := F0.drewU g1 L0; have g1' := below_drewU g1)
      | fail
    all_goals (go_simp; go_wp2; go_ret; exact ⟨by rw [hq]; simp, G0.trans (g1'.mono G0.size)⟩)
end Go.Proofs.YtkeockippmmneaaGreat

/-
  What a part of two kids comes to.
-/
namespace Go.Proofs.YtkeockippmmneaaGreat
open Go.ChangeShapes Go.WideShapes Go.ChangeAt Go.RowKit
set_option linter.unusedVariables false
set_option maxRecDepth 100000

theorem below_alloc2 (w : World) (x y : Obj) : Below w.heap.size w ((w.alloc x).alloc y) := ((Below.refl w.heap.size w).alloc (Nat.le_refl _) x).alloc (by simp) y

theorem twoZ_3 (x y : Int) : twoZ 3 x y = cutZ (cutZ x + cutZ y) := by simp [twoZ]
theorem twoZ_4 (x y : Int) : twoZ 4 x y = cutZ (cutZ x - cutZ y) := by simp [twoZ]
theorem twoZ_5 (x y : Int) : twoZ 5 x y = cutZ (cutZ x * cutZ y) := by simp [twoZ]
theorem twoZ_6 (x y : Int) : twoZ 6 x y = isZ (decide (x < y)) := by simp [twoZ]
theorem twoZ_7 (x y : Int) : twoZ 7 x y = isZ (x == y) := by simp [twoZ]
theorem twoZ_8 (x y : Int) : twoZ 8 x y = isZ ((x != 0) && (y != 0)) := by simp [twoZ]
theorem twoZ_9 (x y : Int) : twoZ 9 x y = isZ ((x != 0) || (y != 0)) := by simp [twoZ]

theorem numOn_any (w : World) (x : Int) : Calls Tryz.prog 107 #[.int .i64 x] w fun e w' => e = .returned (.bool (x != 0)) ∧ w' = w := by
  go_enter Tryz.func107, Tryz.ntmps107
  go_wp2
  go_ret
  exact ⟨rfl, rfl⟩

theorem numIs_any (w : World) (b : Bool) : Calls Tryz.prog 134 #[.bool b] w fun e w' => e = .returned (.int .i64 (isZ b)) ∧ w' = w := by
  cases b
  all_goals
    go_enter Tryz.func134, Tryz.ntmps134
    go_wp2
    go_ret
    exact ⟨rfl, rfl⟩

set_option maxHeartbeats 1000000 in
theorem comes_two3 (w : World) (j n a t : Int) (ad : Option Go.Addr) (len cap : Nat) (m0 m1 m2 : Value) (x y : Int) :
    Calls Tryz.prog 127 #[.int .i64 3, .agg #[.int .i64 j, .int .i64 n, .int .i64 a, .int .i64 t, .slice ad len cap], .agg #[m0, m1, m2], .int .i64 x, .int .i64 y] w fun e w' => e = .returned (.int .i64 (twoZ 3 x y)) ∧ Below w.heap.size w w' := by
  rw [twoZ_3]
  have b2 := below_alloc2 w
  go_enter Tryz.func127, Tryz.ntmps127
  go_wp2_with (go_at_call 131; refine (numAdd_any x y _).mono ?_; rintro e w1 ⟨rfl, rfl⟩)
  go_ret
  exact ⟨rfl, b2 _ _⟩

set_option maxHeartbeats 1000000 in
theorem comes_two4 (w : World) (j n a t : Int) (ad : Option Go.Addr) (len cap : Nat) (m0 m1 m2 : Value) (x y : Int) :
    Calls Tryz.prog 127 #[.int .i64 4, .agg #[.int .i64 j, .int .i64 n, .int .i64 a, .int .i64 t, .slice ad len cap], .agg #[m0, m1, m2], .int .i64 x, .int .i64 y] w fun e w' => e = .returned (.int .i64 (twoZ 4 x y)) ∧ Below w.heap.size w w' := by
  rw [twoZ_4]
  have b2 := below_alloc2 w
  go_enter Tryz.func127, Tryz.ntmps127
  go_wp2_with (go_at_call 132; refine (numSub_any x y _).mono ?_; rintro e w1 ⟨rfl, rfl⟩)
  go_ret
  exact ⟨rfl, b2 _ _⟩

set_option maxHeartbeats 1000000 in
theorem comes_two5 (w : World) (j n a t : Int) (ad : Option Go.Addr) (len cap : Nat) (m0 m1 m2 : Value) (x y : Int) :
    Calls Tryz.prog 127 #[.int .i64 5, .agg #[.int .i64 j, .int .i64 n, .int .i64 a, .int .i64 t, .slice ad len cap], .agg #[m0, m1, m2], .int .i64 x, .int .i64 y] w fun e w' => e = .returned (.int .i64 (twoZ 5 x y)) ∧ Below w.heap.size w w' := by
  rw [twoZ_5]
  have b2 := below_alloc2 w
  go_enter Tryz.func127, Tryz.ntmps127
  go_wp2_with (go_at_call 133; refine (numMul_any x y _).mono ?_; rintro e w1 ⟨rfl, rfl⟩)
  go_ret
  exact ⟨rfl, b2 _ _⟩

set_option maxHeartbeats 1000000 in
theorem comes_two6 (w : World) (j n a t : Int) (ad : Option Go.Addr) (len cap : Nat) (m0 m1 m2 : Value) (x y : Int) :
    Calls Tryz.prog 127 #[.int .i64 6, .agg #[.int .i64 j, .int .i64 n, .int .i64 a, .int .i64 t, .slice ad len cap], .agg #[m0, m1, m2], .int .i64 x, .int .i64 y] w fun e w' => e = .returned (.int .i64 (twoZ 6 x y)) ∧ Below w.heap.size w w' := by
  rw [twoZ_6]
  have b2 := below_alloc2 w
  go_enter Tryz.func127, Tryz.ntmps127
  go_wp2_with (go_at_call 134; refine (numIs_any _ _).mono ?_; rintro e w1 ⟨rfl, rfl⟩)
  go_ret
  exact ⟨rfl, b2 _ _⟩

set_option maxHeartbeats 1000000 in
theorem comes_two7 (w : World) (j n a t : Int) (ad : Option Go.Addr) (len cap : Nat) (m0 m1 m2 : Value) (x y : Int) :
    Calls Tryz.prog 127 #[.int .i64 7, .agg #[.int .i64 j, .int .i64 n, .int .i64 a, .int .i64 t, .slice ad len cap], .agg #[m0, m1, m2], .int .i64 x, .int .i64 y] w fun e w' => e = .returned (.int .i64 (twoZ 7 x y)) ∧ Below w.heap.size w w' := by
  rw [twoZ_7]
  have b2 := below_alloc2 w
  go_enter Tryz.func127, Tryz.ntmps127
  go_wp2_with (go_at_call 134; refine (numIs_any _ _).mono ?_; rintro e w1 ⟨rfl, rfl⟩)
  go_ret
  exact ⟨rfl, b2 _ _⟩

set_option maxHeartbeats 1000000 in
theorem comes_two8 (w : World) (j n a t : Int) (ad : Option Go.Addr) (len cap : Nat) (m0 m1 m2 : Value) (x y : Int) :
    Calls Tryz.prog 127 #[.int .i64 8, .agg #[.int .i64 j, .int .i64 n, .int .i64 a, .int .i64 t, .slice ad len cap], .agg #[m0, m1, m2], .int .i64 x, .int .i64 y] w fun e w' => e = .returned (.int .i64 (twoZ 8 x y)) ∧ Below w.heap.size w w' := by
  have b2 := below_alloc2 w
  have hx := fun W => numOn_any W x
  have hy := fun W => numOn_any W y
  rw [twoZ_8]
  generalize (x != 0) = p at *
  generalize (y != 0) = q at *
  cases p
  all_goals
    cases q
    all_goals
      go_enter Tryz.func127, Tryz.ntmps127
      go_wp2_with (first | (go_at_call 134; refine (numIs_any _ _).mono ?_; rintro e w1 ⟨rfl, rfl⟩) | (go_at_call 107; refine (hx _).mono ?_; clear hx; rintro e w1 ⟨rfl, rfl⟩) | (go_at_call 107; refine (hy _).mono ?_; rintro e w1 ⟨rfl, rfl⟩))
      go_ret
      exact ⟨rfl, b2 _ _⟩

set_option maxHeartbeats 1000000 in
theorem comes_two9 (w : World) (j n a t : Int) (ad : Option Go.Addr) (len cap : Nat) (m0 m1 m2 : Value) (x y : Int) :
    Calls Tryz.prog 127 #[.int .i64 9, .agg #[.int .i64 j, .int .i64 n, .int .i64 a, .int .i64 t, .slice ad len cap], .agg #[m0, m1, m2], .int .i64 x, .int .i64 y] w fun e w' => e = .returned (.int .i64 (twoZ 9 x y)) ∧ Below w.heap.size w w' := by
  have b2 := below_alloc2 w
  have hx := fun W => numOn_any W x
  have hy := fun W => numOn_any W y
  rw [twoZ_9]
  generalize (x != 0) = p at *
  generalize (y != 0) = q at *
  cases p
  all_goals
    cases q
    all_goals
      go_enter Tryz.func127, Tryz.ntmps127
      go_wp2_with (first | (go_at_call 134; refine (numIs_any _ _).mono ?_; rintro e w1 ⟨rfl, rfl⟩) | (go_at_call 107; refine (hx _).mono ?_; clear hx; rintro e w1 ⟨rfl, rfl⟩) | (go_at_call 107; refine (hy _).mono ?_; rintro e w1 ⟨rfl, rfl⟩))
      go_ret
      exact ⟨rfl, b2 _ _⟩

theorem comes_two (w : World) (j n a t : Int) (ad : Option Go.Addr) (len cap : Nat) (m0 m1 m2 : Value) (x y k : Int) (hk1 : 3 ≤ k) (hk2 : k ≤ 9) :
    Calls Tryz.prog 127 #[.int .i64 k, .agg #[.int .i64 j, .int .i64 n, .int .i64 a, .int .i64 t, .slice ad len cap], .agg #[m0, m1, m2], .int .i64 x, .int .i64 y] w fun e w' => e = .returned (.int .i64 (twoZ k x y)) ∧ Below w.heap.size w w' := by
  obtain rfl | rfl | rfl | rfl | rfl | rfl | rfl : k = 3 ∨ k = 4 ∨ k = 5 ∨ k = 6 ∨ k = 7 ∨ k = 8 ∨ k = 9 := by omega
  · exact comes_two3 w j n a t ad len cap m0 m1 m2 x y
  · exact comes_two4 w j n a t ad len cap m0 m1 m2 x y
  · exact comes_two5 w j n a t ad len cap m0 m1 m2 x y
  · exact comes_two6 w j n a t ad len cap m0 m1 m2 x y
  · exact comes_two7 w j n a t ad len cap m0 m1 m2 x y
  · exact comes_two8 w j n a t ad len cap m0 m1 m2 x y
  · exact comes_two9 w j n a t ad len cap m0 m1 m2 x y
end Go.Proofs.YtkeockippmmneaaGreat
