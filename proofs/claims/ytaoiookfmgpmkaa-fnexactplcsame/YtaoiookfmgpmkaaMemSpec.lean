/-
  What chapter 2's models (package spec) answer: places and memories.
-/
import Derived.Test.YtaoiookfmgpmkaaBase
import Derived.Test.YtaoiookfmgpmkaaPM4
namespace Go.Proofs.Ytaoiookfmgpmkaa
open Go.ChangeShapes Go.WideShapes Go.ChangeAt Go.RowKit
set_option linter.unusedVariables false

/-- Numbers are right. -/
def listOk (xs : List Int) : Bool := decide (xs.length = 6) && xs.all fun x => cutZ x == x

def memOk (d : MemD) : Bool := listOk d.i && listOk d.o && listOk d.v

theorem all_take_succ {xs : List Int} {k : Nat} {x : Int} {f : Int → Bool} (h : (xs.take k).all f = true) (hx : xs[k]? = some x) (hf : f x = true) : (xs.take (k + 1)).all f = true := by
  rw [List.take_add_one, hx]; simp [h, hf]

theorem listOk_false {xs : List Int} {k : Nat} {x : Int} (hx : xs[k]? = some x) (hf : (cutZ x == x) = false) : listOk xs = false := by
  unfold listOk
  have : xs.all (fun x => cutZ x == x) = false := by
    rw [Bool.eq_false_iff]
    intro h
    have := List.all_eq_true.mp h x (List.mem_of_getElem? hx)
    rw [hf] at this; cases this
  rw [this, Bool.and_false]



set_option maxHeartbeats 400000 in
theorem l2Ints_any (w : World) (lo hi lo' hi' : Nat) (va vb : Value) (xs ys : List Int) (ha : SI w lo hi va xs) (hb : SI w lo' hi' vb ys) :
    Calls Try.prog 48 #[va, vb] w fun e w' => ∃ m, e = .returned (.bool (decide (xs = ys))) ∧ w' = w.drewN m := by
  obtain ⟨a, cap, rfl, h1, h2, h3⟩ := ha
  obtain ⟨a', cap', rfl, h1', h2', h3'⟩ := hb
  unfold maxLen at h2 h2'
  by_cases hl : xs.length = ys.length
  · have hl2 : ((xs.length : Int) != (ys.length : Int)) = false := by simp; omega
    go_enter Try.func48, Try.ntmps48
    go_wp2
    go_loopw [5] (fun i wr => ∃ k m : Nat, k ≤ xs.length ∧ i = .int .i64 k ∧ wr = w.drewN m ∧ xs.take k = ys.take k) (fun i _ => xs.length - (intOf i).toNat)
    case atStart => exact ⟨0, 0, Nat.zero_le _, rfl, rfl, rfl⟩
    case round =>
      obtain ⟨k, m, hk, rfl, rfl, htk⟩ := hrel
      by_cases hlt : k < xs.length
      · obtain ⟨x, hx⟩ : ∃ x, xs[k]? = some x := ⟨xs[k], List.getElem?_eq_getElem hlt⟩
        obtain ⟨y, hy⟩ : ∃ y, ys[k]? = some y := ⟨ys[k]'(by omega), List.getElem?_eq_getElem (by omega)⟩
        rcases h3 with h0 | ⟨b, off, rfl, _, _, hc⟩
        · rw [h0] at hlt; simp at hlt
        rcases h3' with h0 | ⟨b', off', rfl, _, _, hc'⟩
        · rw [h0] at hl; simp at hl; rw [hl] at hlt; simp at hlt
        have c1 := hc k x hx
        have c2 := hc' k y hy
        have HX : Hid (xs[k]? = some x) := hx
        have HY : Hid (ys[k]? = some y) := hy
        have HT : Hid (xs.take k = ys.take k) := htk
        have hlt' : k < ys.length := by omega
        clear hx hy htk hc hc' hl
        by_cases hxy : x = y
        · have hxy' : (x == y) = true := by simpa using hxy
          have HE : Hid (x = y) := hxy
          clear hxy
          go_wp2_with fail
          go_quiet (fail)
          go_wp2
          go_roundw
          case rel => exact ⟨k + 1, m + nq, by omega, by go_num, by simp, eq_take_succ HT.out HX.out HY.out HE.out⟩
          case measure => simp [intOf]; omega
        · have hxy' : (x == y) = false := by simpa using hxy
          have HE : Hid (x ≠ y) := hxy
          clear hxy
          go_wp2_with fail
          go_quiet (fail)
          go_wp2
          go_ret
          exact ⟨m + nq, ret_bool (decide_eq_false (ne_at HX.out HY.out HE.out)).symm, by simp⟩
      · have HT : Hid (xs.take k = ys.take k) := htk
        clear htk
        go_wp2
        go_ret
        exact ⟨m, ret_bool (decide_eq_true (by have := HT.out; rwa [List.take_of_length_le (by omega), List.take_of_length_le (by omega)] at this)).symm, rfl⟩
  · have hl2 : ((xs.length : Int) != (ys.length : Int)) = true := by simp; omega
    go_enter Try.func48, Try.ntmps48
    go_wp2
    go_ret
    exact ⟨0, ret_bool (decide_eq_false (by intro h; exact hl (by rw [h]))).symm, rfl⟩

set_option maxHeartbeats 400000 in
theorem sMemSame_any (w : World) (lo hi lo' hi' : Nat) (m m' : Value) (d e : MemD) (h : MI w lo hi m d) (h' : MI w lo' hi' m' e) (hhi : hi ≤ w.heap.size) (hhi' : hi' ≤ w.heap.size) :
    Calls Try.prog 20 #[m, m'] w fun en w' => en = .returned (.bool (decide (d = e))) ∧ Below w.heap.size w w' := by
  obtain ⟨a, b, c, rfl, ha, hb, hc⟩ := h
  obtain ⟨a', b', c', rfl, ha', hb', hc'⟩ := h'
  have b2 := fun o o' => ((Below.refl w.heap.size w).alloc (Nat.le_refl _) o).alloc (by simp) o'
  have bm := fun o o' (m : Nat) => below_drewN (b2 o o') m
  have sa := fun o o' m => ha.below (bm o o' m) hhi
  have sb := fun o o' m => hb.below (bm o o' m) hhi
  have sc := fun o o' m => hc.below (bm o o' m) hhi
  have ta := fun o o' m => ha'.below (bm o o' m) hhi'
  have tb := fun o o' m => hb'.below (bm o o' m) hhi'
  have tc := fun o o' m => hc'.below (bm o o' m) hhi'
  clear ha hb hc ha' hb' hc'
  by_cases h1 : d.i = e.i
  · by_cases h2 : d.o = e.o
    · by_cases h3 : d.v = e.v
      · have HE : Hid (decide (d = e) = true) := decide_eq_true (by rw [memD_eq]; exact ⟨h1, h2, h3⟩)
        go_enter Try.func20, Try.ntmps20
        go_wp2_with fail
        refine (l2Ints_any _ lo hi lo' hi' _ _ d.i e.i (sa _ _ 0) (ta _ _ 0)).mono ?_
        rw [decide_eq_true (by assumption)]
        rintro en w1 ⟨m0, rfl, rfl⟩
        go_wp2_with fail
        refine (l2Ints_any _ lo hi lo' hi' _ _ d.o e.o (sb _ _ _) (tb _ _ _)).mono ?_
        rw [decide_eq_true (by assumption)]
        rintro en w1 ⟨m1, rfl, rfl⟩
        go_wp2_with fail
        refine (l2Ints_any _ lo hi lo' hi' _ _ d.v e.v (sc _ _ _) (tc _ _ _)).mono ?_
        rw [decide_eq_true (by assumption)]
        rintro en w1 ⟨m2, rfl, rfl⟩
        go_wp2
        go_ret
        exact ⟨ret_bool HE.out.symm, bm _ _ _⟩
      · have HE : Hid (decide (d = e) = false) := decide_eq_false (by rw [memD_eq]; intro h; exact h3 h.2.2)
        go_enter Try.func20, Try.ntmps20
        go_wp2_with fail
        refine (l2Ints_any _ lo hi lo' hi' _ _ d.i e.i (sa _ _ 0) (ta _ _ 0)).mono ?_
        rw [decide_eq_true (by assumption)]
        rintro en w1 ⟨m0, rfl, rfl⟩
        go_wp2_with fail
        refine (l2Ints_any _ lo hi lo' hi' _ _ d.o e.o (sb _ _ _) (tb _ _ _)).mono ?_
        rw [decide_eq_true (by assumption)]
        rintro en w1 ⟨m1, rfl, rfl⟩
        go_wp2_with fail
        refine (l2Ints_any _ lo hi lo' hi' _ _ d.v e.v (sc _ _ _) (tc _ _ _)).mono ?_
        rw [decide_eq_false (by assumption)]
        rintro en w1 ⟨m2, rfl, rfl⟩
        go_wp2
        go_ret
        exact ⟨ret_bool HE.out.symm, bm _ _ _⟩
    · have HE : Hid (decide (d = e) = false) := decide_eq_false (by rw [memD_eq]; intro h; exact h2 h.2.1)
      go_enter Try.func20, Try.ntmps20
      go_wp2_with fail
      refine (l2Ints_any _ lo hi lo' hi' _ _ d.i e.i (sa _ _ 0) (ta _ _ 0)).mono ?_
      rw [decide_eq_true (by assumption)]
      rintro en w1 ⟨m0, rfl, rfl⟩
      go_wp2_with fail
      refine (l2Ints_any _ lo hi lo' hi' _ _ d.o e.o (sb _ _ _) (tb _ _ _)).mono ?_
      rw [decide_eq_false (by assumption)]
      rintro en w1 ⟨m1, rfl, rfl⟩
      go_wp2
      go_ret
      exact ⟨ret_bool HE.out.symm, bm _ _ _⟩
  · have HE : Hid (decide (d = e) = false) := decide_eq_false (by rw [memD_eq]; intro h; exact h1 h.1)
    go_enter Try.func20, Try.ntmps20
    go_wp2_with fail
    refine (l2Ints_any _ lo hi lo' hi' _ _ d.i e.i (sa _ _ 0) (ta _ _ 0)).mono ?_
    rw [decide_eq_false (by assumption)]
    rintro en w1 ⟨m0, rfl, rfl⟩
    go_wp2
    go_ret
    exact ⟨ret_bool HE.out.symm, bm _ _ _⟩

/-- The list of a kind. -/
def memList (d : MemD) (k : Int) : List Int := if k = 1 then d.i else if k = 2 then d.o else d.v

/-- The number at a place. -/
def memGet (d : MemD) (a : AddrD) : Int := if memOk d && addrOk a then ((memList d a.kind)[a.at_.toNat]?).getD 0 else 0

theorem memOk_len {d : MemD} (h : memOk d = true) (k : Int) : (memList d k).length = 6 := by
  simp [memOk, listOk] at h
  unfold memList
  split
  · omega
  · split <;> omega


/-- The value is a memory's: three values. -/
theorem MI.agg {w : World} {lo hi : Nat} {m : Value} {d : MemD} (h : MI w lo hi m d) : ∃ a b c, m = .agg #[a, b, c] := by
  obtain ⟨a, b, c, hm, _⟩ := h; exact ⟨a, b, c, hm⟩

end Go.Proofs.Ytaoiookfmgpmkaa
