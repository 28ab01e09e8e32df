/-
  What chapter 2's models (package spec) answer: places and memories.
-/
import Derived.Test.YtcanljckhjoooaaBase
import Derived.Test.YtcanljckhjoooaaMemKit
namespace Go.Proofs.Ytcanljckhjoooaa
open Go.ChangeShapes Go.WideShapes Go.ChangeAt Go.RowKit
set_option linter.unusedVariables false

/-- Numbers are right. -/
def listOk (xs : List Int) : Bool := decide (xs.length = 6) && xs.all fun x => cutZ x == x

def memOk (d : MemD) : Bool := listOk d.i && listOk d.o && listOk d.v

theorem all_take_succ {xs : List Int} {k : Nat} {x : Int} {f : Int → Bool} (h : (xs.take k).all f = true) (hx : xs[k]? = some x) (hf : f x = true) : (xs.take (k + 1)).all f = true := by
  rw [List.take_add_one, hx]; simp [h, hf]

theorem listOk_false {xs : List Int} {k : Nat} {x : Int} (hx : xs[k]? = some x) (hf : (cutZ x == x) = false) : listOk xs = false := by
  unfold listOk
  have : xs.all (fun x => cutZ x == x) = false := by
    rw [Bool.eq_false_iff]
    intro h
    have := List.all_eq_true.mp h x (List.mem_of_getElem? hx)
    rw [hf] at this; cases this
  rw [this, Bool.and_false]

set_option maxHeartbeats 400000 in
theorem l2List_any (w : World) (lo hi : Nat) (v : Value) (xs : List Int) (h : SI w lo hi v xs) :
    Calls Try.prog 33 #[v] w fun e w' => ∃ m, e = .returned (.bool (listOk xs)) ∧ w' = w.drewN m := by
  obtain ⟨a, cap, rfl, h1, h2, h3⟩ := h
  unfold maxLen at h2
  go_enter Try.func33, Try.ntmps33
  go_wp2
  go_loopw [3] (fun i wr => ∃ k m : Nat, k ≤ xs.length ∧ i = .int .i64 k ∧ wr = w.drewN m ∧ (xs.take k).all (fun x => cutZ x == x) = true) (fun i _ => xs.length - (intOf i).toNat)
  case atStart => exact ⟨0, 0, Nat.zero_le _, rfl, rfl, rfl⟩
  case round =>
    obtain ⟨k, m, hk, rfl, hwr, htk⟩ := hrel
    have HT : Hid ((xs.take k).all (fun x => cutZ x == x) = true) := htk
    have HW : Hid (wr = w.drewN m) := hwr
    clear htk hwr
    by_cases hlt : k < xs.length
    · obtain ⟨x, hx⟩ : ∃ x, xs[k]? = some x := ⟨xs[k], List.getElem?_eq_getElem hlt⟩
      rcases h3 with h0 | ⟨b, off, rfl, _, _, hc⟩
      · rw [h0] at hlt; simp at hlt
      have c1 : wr.cell? ⟨b, off + k, none⟩ = some (.int .i64 x) := by rw [HW.out]; exact hc k x hx
      have HX : Hid (xs[k]? = some x) := hx
      clear hx hc
      by_cases hxy : (cutZ x == x) = true
      · go_wp2_with fail
        go_quiet ((go_at_call 46; exact Calls.quiet_of_same (sCut_any _ _)))
        go_wp2
        go_roundw
        case rel => exact ⟨k + 1, m + nq, by omega, by go_num, by rw [HW.out]; simp, all_take_succ HT.out HX.out hxy⟩
        case measure => simp [intOf]; omega
      · have hxy' : (cutZ x == x) = false := by simpa using hxy
        clear hxy
        go_wp2_with fail
        go_quiet ((go_at_call 46; exact Calls.quiet_of_same (sCut_any _ _)))
        go_wp2
        go_ret
        exact ⟨m + nq, ret_bool (listOk_false HX.out hxy').symm, by rw [HW.out]; simp⟩
    · go_wp2
      go_ret
      refine ⟨m, ret_bool ?_, HW.out⟩
      have ht := HT.out
      rw [List.take_of_length_le (by omega)] at ht
      unfold listOk
      rw [ht, Bool.and_true]
      by_cases e : xs.length = 6
      · simp [e]
      · simp [e]; omega

set_option maxHeartbeats 400000 in
theorem sMemOk_any (w : World) (lo hi : Nat) (m : Value) (d : MemD) (h : MI w lo hi m d) (hhi : hi ≤ w.heap.size) :
    Calls Try.prog 18 #[m] w fun e w' => e = .returned (.bool (memOk d)) ∧ Below w.heap.size w w' := by
  obtain ⟨a, b, c, rfl, ha, hb, hc⟩ := h
  have bm := fun o (m : Nat) => below_drewN ((Below.refl w.heap.size w).alloc (Nat.le_refl _) o) m
  have sa := fun o m => ha.below (bm o m) hhi
  have sb := fun o m => hb.below (bm o m) hhi
  have sc := fun o m => hc.below (bm o m) hhi
  clear ha hb hc
  unfold memOk
  cases h1 : listOk d.i
  · go_enter Try.func18, Try.ntmps18
    go_wp2_with fail
    refine (l2List_any _ lo hi _ d.i (sa _ 0)).mono ?_
    rw [h1]
    rintro e w1 ⟨m1, rfl, rfl⟩
    go_wp2
    go_ret
    exact ⟨rfl, bm _ _⟩
  · cases h2 : listOk d.o
    · go_enter Try.func18, Try.ntmps18
      go_wp2_with fail
      refine (l2List_any _ lo hi _ d.i (sa _ 0)).mono ?_
      rw [h1]
      rintro e w1 ⟨m1, rfl, rfl⟩
      go_wp2_with fail
      refine (l2List_any _ lo hi _ d.o (sb _ _)).mono ?_
      rw [h2]
      rintro e w1 ⟨m2, rfl, rfl⟩
      go_wp2
      go_ret
      exact ⟨rfl, bm _ _⟩
    · go_enter Try.func18, Try.ntmps18
      go_wp2_with fail
      refine (l2List_any _ lo hi _ d.i (sa _ 0)).mono ?_
      rw [h1]
      rintro e w1 ⟨m1, rfl, rfl⟩
      go_wp2_with fail
      refine (l2List_any _ lo hi _ d.o (sb _ _)).mono ?_
      rw [h2]
      rintro e w1 ⟨m2, rfl, rfl⟩
      go_wp2_with fail
      refine (l2List_any _ lo hi _ d.v (sc _ _)).mono ?_
      rintro e w1 ⟨m3, rfl, rfl⟩
      go_wp2
      go_ret
      exact ⟨by simp, bm _ _⟩

set_option maxHeartbeats 400000 in
theorem l2Ints_any (w : World) (lo hi lo' hi' : Nat) (va vb : Value) (xs ys : List Int) (ha : SI w lo hi va xs) (hb : SI w lo' hi' vb ys) :
    Calls Try.prog 36 #[va, vb] w fun e w' => ∃ m, e = .returned (.bool (decide (xs = ys))) ∧ w' = w.drewN m := by
  obtain ⟨a, cap, rfl, h1, h2, h3⟩ := ha
  obtain ⟨a', cap', rfl, h1', h2', h3'⟩ := hb
  unfold maxLen at h2 h2'
  by_cases hl : xs.length = ys.length
  · have hl2 : ((xs.length : Int) != (ys.length : Int)) = false := by simp; omega
    go_enter Try.func36, Try.ntmps36
    go_wp2
    go_loopw [5] (fun i wr => ∃ k m : Nat, k ≤ xs.length ∧ i = .int .i64 k ∧ wr = w.drewN m ∧ xs.take k = ys.take k) (fun i _ => xs.length - (intOf i).toNat)
    case atStart => exact ⟨0, 0, Nat.zero_le _, rfl, rfl, rfl⟩
    case round =>
      obtain ⟨k, m, hk, rfl, rfl, htk⟩ := hrel
      by_cases hlt : k < xs.length
      · obtain ⟨x, hx⟩ : ∃ x, xs[k]? = some x := ⟨xs[k], List.getElem?_eq_getElem hlt⟩
        obtain ⟨y, hy⟩ : ∃ y, ys[k]? = some y := ⟨ys[k]'(by omega), List.getElem?_eq_getElem (by omega)⟩
        rcases h3 with h0 | ⟨b, off, rfl, _, _, hc⟩
        · rw [h0] at hlt; simp at hlt
        rcases h3' with h0 | ⟨b', off', rfl, _, _, hc'⟩
        · rw [h0] at hl; simp at hl; rw [hl] at hlt; simp at hlt
        have c1 := hc k x hx
        have c2 := hc' k y hy
        have HX : Hid (xs[k]? = some x) := hx
        have HY : Hid (ys[k]? = some y) := hy
        have HT : Hid (xs.take k = ys.take k) := htk
        have hlt' : k < ys.length := by omega
        clear hx hy htk hc hc' hl
        by_cases hxy : x = y
        · have hxy' : (x == y) = true := by simpa using hxy
          have HE : Hid (x = y) := hxy
          clear hxy
          go_wp2_with fail
          go_quiet (fail)
          go_wp2
          go_roundw
          case rel => exact ⟨k + 1, m + nq, by omega, by go_num, by simp, eq_take_succ HT.out HX.out HY.out HE.out⟩
          case measure => simp [intOf]; omega
        · have hxy' : (x == y) = false := by simpa using hxy
          have HE : Hid (x ≠ y) := hxy
          clear hxy
          go_wp2_with fail
          go_quiet (fail)
          go_wp2
          go_ret
          exact ⟨m + nq, ret_bool (decide_eq_false (ne_at HX.out HY.out HE.out)).symm, by simp⟩
      · have HT : Hid (xs.take k = ys.take k) := htk
        clear htk
        go_wp2
        go_ret
        exact ⟨m, ret_bool (decide_eq_true (by have := HT.out; rwa [List.take_of_length_le (by omega), List.take_of_length_le (by omega)] at this)).symm, rfl⟩
  · have hl2 : ((xs.length : Int) != (ys.length : Int)) = true := by simp; omega
    go_enter Try.func36, Try.ntmps36
    go_wp2
    go_ret
    exact ⟨0, ret_bool (decide_eq_false (by intro h; exact hl (by rw [h]))).symm, rfl⟩

set_option maxHeartbeats 400000 in
theorem sMemSame_any (w : World) (lo hi lo' hi' : Nat) (m m' : Value) (d e : MemD) (h : MI w lo hi m d) (h' : MI w lo' hi' m' e) (hhi : hi ≤ w.heap.size) (hhi' : hi' ≤ w.heap.size) :
    Calls Try.prog 21 #[m, m'] w fun en w' => en = .returned (.bool (decide (d = e))) ∧ Below w.heap.size w w' := by
  obtain ⟨a, b, c, rfl, ha, hb, hc⟩ := h
  obtain ⟨a', b', c', rfl, ha', hb', hc'⟩ := h'
  have b2 := fun o o' => ((Below.refl w.heap.size w).alloc (Nat.le_refl _) o).alloc (by simp) o'
  have bm := fun o o' (m : Nat) => below_drewN (b2 o o') m
  have sa := fun o o' m => ha.below (bm o o' m) hhi
  have sb := fun o o' m => hb.below (bm o o' m) hhi
  have sc := fun o o' m => hc.below (bm o o' m) hhi
  have ta := fun o o' m => ha'.below (bm o o' m) hhi'
  have tb := fun o o' m => hb'.below (bm o o' m) hhi'
  have tc := fun o o' m => hc'.below (bm o o' m) hhi'
  clear ha hb hc ha' hb' hc'
  by_cases h1 : d.i = e.i
  · by_cases h2 : d.o = e.o
    · by_cases h3 : d.v = e.v
      · have HE : Hid (decide (d = e) = true) := decide_eq_true (by rw [memD_eq]; exact ⟨h1, h2, h3⟩)
        go_enter Try.func21, Try.ntmps21
        go_wp2_with fail
        refine (l2Ints_any _ lo hi lo' hi' _ _ d.i e.i (sa _ _ 0) (ta _ _ 0)).mono ?_
        rw [decide_eq_true (by assumption)]
        rintro en w1 ⟨m0, rfl, rfl⟩
        go_wp2_with fail
        refine (l2Ints_any _ lo hi lo' hi' _ _ d.o e.o (sb _ _ _) (tb _ _ _)).mono ?_
        rw [decide_eq_true (by assumption)]
        rintro en w1 ⟨m1, rfl, rfl⟩
        go_wp2_with fail
        refine (l2Ints_any _ lo hi lo' hi' _ _ d.v e.v (sc _ _ _) (tc _ _ _)).mono ?_
        rw [decide_eq_true (by assumption)]
        rintro en w1 ⟨m2, rfl, rfl⟩
        go_wp2
        go_ret
        exact ⟨ret_bool HE.out.symm, bm _ _ _⟩
      · have HE : Hid (decide (d = e) = false) := decide_eq_false (by rw [memD_eq]; intro h; exact h3 h.2.2)
        go_enter Try.func21, Try.ntmps21
        go_wp2_with fail
        refine (l2Ints_any _ lo hi lo' hi' _ _ d.i e.i (sa _ _ 0) (ta _ _ 0)).mono ?_
        rw [decide_eq_true (by assumption)]
        rintro en w1 ⟨m0, rfl, rfl⟩
        go_wp2_with fail
        refine (l2Ints_any _ lo hi lo' hi' _ _ d.o e.o (sb _ _ _) (tb _ _ _)).mono ?_
        rw [decide_eq_true (by assumption)]
        rintro en w1 ⟨m1, rfl, rfl⟩
        go_wp2_with fail
        refine (l2Ints_any _ lo hi lo' hi' _ _ d.v e.v (sc _ _ _) (tc _ _ _)).mono ?_
        rw [decide_eq_false (by assumption)]
        rintro en w1 ⟨m2, rfl, rfl⟩
        go_wp2
        go_ret
        exact ⟨ret_bool HE.out.symm, bm _ _ _⟩
    · have HE : Hid (decide (d = e) = false) := decide_eq_false (by rw [memD_eq]; intro h; exact h2 h.2.1)
      go_enter Try.func21, Try.ntmps21
      go_wp2_with fail
      refine (l2Ints_any _ lo hi lo' hi' _ _ d.i e.i (sa _ _ 0) (ta _ _ 0)).mono ?_
      rw [decide_eq_true (by assumption)]
      rintro en w1 ⟨m0, rfl, rfl⟩
      go_wp2_with fail
      refine (l2Ints_any _ lo hi lo' hi' _ _ d.o e.o (sb _ _ _) (tb _ _ _)).mono ?_
      rw [decide_eq_false (by assumption)]
      rintro en w1 ⟨m1, rfl, rfl⟩
      go_wp2
      go_ret
      exact ⟨ret_bool HE.out.symm, bm _ _ _⟩
  · have HE : Hid (decide (d = e) = false) := decide_eq_false (by rw [memD_eq]; intro h; exact h1 h.1)
    go_enter Try.func21, Try.ntmps21
    go_wp2_with fail
    refine (l2Ints_any _ lo hi lo' hi' _ _ d.i e.i (sa _ _ 0) (ta _ _ 0)).mono ?_
    rw [decide_eq_false (by assumption)]
    rintro en w1 ⟨m0, rfl, rfl⟩
    go_wp2
    go_ret
    exact ⟨ret_bool HE.out.symm, bm _ _ _⟩

/-- The list of a kind. -/
def memList (d : MemD) (k : Int) : List Int := if k = 1 then d.i else if k = 2 then d.o else d.v

/-- The number at a place. -/
def memGet (d : MemD) (a : AddrD) : Int := if memOk d && addrOk a then ((memList d a.kind)[a.at_.toNat]?).getD 0 else 0

theorem memOk_len {d : MemD} (h : memOk d = true) (k : Int) : (memList d k).length = 6 := by
  simp [memOk, listOk] at h
  unfold memList
  split
  · omega
  · split <;> omega

set_option maxHeartbeats 400000 in
theorem l2Get_any (w : World) (lo hi : Nat) (m : Value) (d : MemD) (a : AddrD) (h : MI w lo hi m d) (hhi : hi ≤ w.heap.size) (hd : memOk d = true) (ha : addrOk a = true) :
    Calls Try.prog 39 #[m, a.val] w fun e w' => e = .returned (.int .i64 (((memList d a.kind)[a.at_.toNat]?).getD 0)) ∧ Below w.heap.size w w' := by
  obtain ⟨x, y, z, rfl, hx, hy, hz⟩ := h
  obtain ⟨k, at_⟩ := a
  obtain ⟨k1, k2, k3, k4⟩ := addrOk_bd ha
  simp only at k1 k2 k3 k4
  have b2 := fun o o' => ((Below.refl w.heap.size w).alloc (Nat.le_refl _) o).alloc (by simp) o'
  have hl := memOk_len hd k
  obtain ⟨n, rfl⟩ : ∃ n : Nat, at_ = (n : Int) := ⟨at_.toNat, by omega⟩
  obtain ⟨r, hr⟩ : ∃ r, (memList d k)[n]? = some r := ⟨(memList d k)[n]'(by omega), List.getElem?_eq_getElem (by omega)⟩
  have HR : Hid ((((memList d k)[(n : Int).toNat]?).getD 0) = r) := by show (((memList d k)[n]?).getD 0) = r; rw [hr]; rfl
  show Calls Try.prog 39 #[_, AddrD.val ⟨k, n⟩] w fun e w' => e = .returned (.int .i64 (((memList d k)[(n : Int).toNat]?).getD 0)) ∧ Below w.heap.size w w'
  rw [HR.out]
  unfold AddrD.val
  clear HR hd ha
  have pick : ∀ {v : Value} {xs : List Int}, SI w lo hi v xs → xs[n]? = some r → xs.length = 6 → ∃ b off cap, v = .slice (some ⟨b, off, none⟩) 6 cap ∧ 6 ≤ cap ∧ cap ≤ maxLen ∧ b < w.heap.size ∧ w.cell? ⟨b, off + n, none⟩ = some (.int .i64 r) := by
    intro v xs hs hn hlen
    obtain ⟨a, cap, rfl, h1, h2, h3⟩ := hs
    rcases h3 with rfl | ⟨b, off, rfl, _, hb, hc⟩
    · simp at hlen
    · exact ⟨b, off, cap, by rw [hlen], by omega, h2, by omega, hc n r hn⟩
  unfold memList at hr hl
  by_cases e1 : k = 1
  · subst e1
    rw [if_pos rfl] at hr hl
    obtain ⟨b, off, cap, rfl, h6, h7, hb, hc⟩ := pick hx hr hl
    clear pick hx hy hz hr
    unfold maxLen at h7
    have hbs : b < w.heap.size + 1 := by omega
    go_enter Try.func39, Try.ntmps39
    go_wp2
    go_ret
    exact ⟨rfl, b2 _ _⟩
  · by_cases e2 : k = 2
    · subst e2
      rw [if_neg (by omega), if_pos rfl] at hr hl
      obtain ⟨b, off, cap, rfl, h6, h7, hb, hc⟩ := pick hy hr hl
      clear pick hx hy hz hr e1
      unfold maxLen at h7
      have hbs : b < w.heap.size + 1 := by omega
      go_enter Try.func39, Try.ntmps39
      go_wp2
      go_ret
      exact ⟨rfl, b2 _ _⟩
    · obtain rfl : k = 3 := by omega
      rw [if_neg (by omega), if_neg (by omega)] at hr hl
      obtain ⟨b, off, cap, rfl, h6, h7, hb, hc⟩ := pick hz hr hl
      clear pick hx hy hz hr e1 e2
      unfold maxLen at h7
      have hbs : b < w.heap.size + 1 := by omega
      go_enter Try.func39, Try.ntmps39
      go_wp2
      go_ret
      exact ⟨rfl, b2 _ _⟩

/-- The value is a memory's: three values. -/
theorem MI.agg {w : World} {lo hi : Nat} {m : Value} {d : MemD} (h : MI w lo hi m d) : ∃ a b c, m = .agg #[a, b, c] := by
  obtain ⟨a, b, c, hm, _⟩ := h; exact ⟨a, b, c, hm⟩

set_option maxHeartbeats 1000000 in
theorem sMemGet_any (w : World) (lo hi : Nat) (m : Value) (d : MemD) (a : AddrD) (h : MI w lo hi m d) (hhi : hi ≤ w.heap.size) :
    Calls Try.prog 23 #[m, a.val] w fun e w' => e = .returned (.int .i64 (memGet d a)) ∧ Below w.heap.size w w' := by
  have b2 := fun o o' => ((Below.refl w.heap.size w).alloc (Nat.le_refl _) o).alloc (by simp) o'
  obtain ⟨x, y, z, rfl⟩ := h.agg
  obtain ⟨k, at_⟩ := a
  have HM := fun o o' => h.below (b2 o o') hhi
  clear h
  unfold memGet
  cases h1 : memOk d
  · rw [Bool.false_and, if_neg (by simp)]
    unfold AddrD.val
    go_enter Try.func23, Try.ntmps23
    go_wp2_with fail
    refine (sMemOk_any _ lo hi _ d (HM _ _) (by simp; omega)).mono ?_
    rw [h1]
    rintro e w1 ⟨rfl, hb1⟩
    have hb := below_two (b2 _ _) hb1
    clear HM hb1 b2
    go_wp2
    go_ret
    exact ⟨rfl, hb⟩
  · cases h2 : addrOk ⟨k, at_⟩
    · rw [Bool.and_false, if_neg (by simp)]
      unfold AddrD.val
      go_enter Try.func23, Try.ntmps23
      go_wp2_with fail
      refine (sMemOk_any _ lo hi _ d (HM _ _) (by simp; omega)).mono ?_
      rw [h1]
      rintro e w1 ⟨rfl, hb1⟩
      have hb := below_two (b2 _ _) hb1
      obtain ⟨hc1, hf1⟩ := bcell hb1
      simp only [World.size_alloc] at hc1 hf1
      clear HM hb1 b2
      go_wp2_with fail
      refine (sAddrOk_any _ ⟨k, at_⟩).mono ?_
      rw [h2]
      rintro e w2 ⟨rfl, hb2⟩
      have hb := below_two hb hb2
      clear hb2
      go_wp2
      go_ret
      exact ⟨rfl, hb⟩
    · rw [Bool.and_true, if_pos rfl]
      unfold AddrD.val
      go_enter Try.func23, Try.ntmps23
      go_wp2_with fail
      refine (sMemOk_any _ lo hi _ d (HM _ _) (by simp; omega)).mono ?_
      rw [h1]
      rintro e w1 ⟨rfl, hb1⟩
      have HM1 := (HM _ _).below hb1 (by simp; omega)
      have hb := below_two (b2 _ _) hb1
      obtain ⟨hc1, hf1⟩ := bcell hb1
      simp only [World.size_alloc] at hc1 hf1
      have hs1 := hb1.size
      simp only [World.size_alloc] at hs1
      clear HM hb1 b2
      go_wp2_with fail
      refine (sAddrOk_any _ ⟨k, at_⟩).mono ?_
      rw [h2]
      rintro e w2 ⟨rfl, hb2⟩
      have HM2 := HM1.below hb2 (by omega)
      have hb' := below_two hb hb2
      obtain ⟨hc2, hf2⟩ := bcell hb2
      have hs2 := hb2.size
      obtain ⟨p1, p2⟩ : w.heap.size < w1.heap.size ∧ w.heap.size + 1 < w1.heap.size := by omega
      clear hb2 HM1 hb
      go_wp2_with fail
      refine (l2Get_any _ lo hi _ d ⟨k, at_⟩ HM2 (by omega) h1 h2).mono ?_
      rintro e w3 ⟨rfl, hb3⟩
      have hb := below_two hb' hb3
      clear hb3 HM2 hb'
      go_wp2
      go_ret
      exact ⟨rfl, hb⟩
end Go.Proofs.Ytcanljckhjoooaa
