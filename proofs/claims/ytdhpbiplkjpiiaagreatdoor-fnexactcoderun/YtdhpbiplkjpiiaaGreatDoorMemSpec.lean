/-
  What chapter 2's models (package spec) answer: places and memories.
-/
import Derived.Test.YtdhpbiplkjpiiaaGreatDoorBase
import Derived.Test.YtdhpbiplkjpiiaaGreatDoorMemKit
namespace Go.Proofs.YtdhpbiplkjpiiaaGreatDoor
open Go.ChangeShapes Go.WideShapes Go.ChangeAt Go.RowKit
set_option linter.unusedVariables false

/-- Numbers are right. -/
def listOk (xs : List Int) : Bool := decide (xs.length = 6) && xs.all fun x => cutZ x == x

def memOk (d : MemD) : Bool := listOk d.i && listOk d.o && listOk d.v

theorem all_take_succ {xs : List Int} {k : Nat} {x : Int} {f : Int → Bool} (h : (xs.take k).all f = true) (hx : xs[k]? = some x) (hf : f x = true) : (xs.take (k + 1)).all f = true := by
  rw [List.take_add_one, hx]; simp [h, hf]

theorem listOk_false {xs : List Int} {k : Nat} {x : Int} (hx : xs[k]? = some x) (hf : (cutZ x == x) = false) : listOk xs = false := by
  unfold listOk
  have : xs.all (fun x => cutZ x == x) = false := by
    rw [Bool.eq_false_iff]
    intro h
    have := List.all_eq_true.mp h x (List.mem_of_getElem? hx)
    rw [hf] at this; cases this
  rw [this, Bool.and_false]

set_option maxHeartbeats 400000 in
theorem l2List_any (w : World) (lo hi : Nat) (v : Value) (xs : List Int) (h : SI w lo hi v xs) :
    Calls Tryz.prog 32 #[v] w fun e w' => ∃ m, e = .returned (.bool (listOk xs)) ∧ w' = w.drewN m := by
  obtain ⟨a, cap, rfl, h1, h2, h3⟩ := h
  unfold maxLen at h2
  go_enter Tryz.func32, Tryz.ntmps32
  go_wp2
  go_loopw [3] (fun i wr => ∃ k m : Nat, k ≤ xs.length ∧ i = .int .i64 k ∧ wr = w.drewN m ∧ (xs.take k).all (fun x => cutZ x == x) = true) (fun i _ => xs.length - (intOf i).toNat)
  case atStart => exact ⟨0, 0, Nat.zero_le _, rfl, rfl, rfl⟩
  case round =>
    obtain ⟨k, m, hk, rfl, hwr, htk⟩ := hrel
    have HT : Hid ((xs.take k).all (fun x => cutZ x == x) = true) := htk
    have HW : Hid (wr = w.drewN m) := hwr
    clear htk hwr
    by_cases hlt : k < xs.length
    · obtain ⟨x, hx⟩ : ∃ x, xs[k]? = some x := ⟨xs[k], List.getElem?_eq_getElem hlt⟩
      rcases h3 with h0 | ⟨b, off, rfl, _, _, hc⟩
      · rw [h0] at hlt; simp at hlt
      have c1 : wr.cell? ⟨b, off + k, none⟩ = some (.int .i64 x) := by rw [HW.out]; exact hc k x hx
      have HX : Hid (xs[k]? = some x) := hx
      clear hx hc
      by_cases hxy : (cutZ x == x) = true
      · go_wp2_with fail
        go_quiet ((go_at_call 46; exact Calls.quiet_of_same (sCut_any _ _)))
        go_wp2
        go_roundw
        case rel => exact ⟨k + 1, m + nq, by omega, by go_num, by rw [HW.out]; simp, all_take_succ HT.out HX.out hxy⟩
        case measure => simp [intOf]; omega
      · have hxy' : (cutZ x == x) = false := by simpa using hxy
        clear hxy
        go_wp2_with fail
        go_quiet ((go_at_call 46; exact Calls.quiet_of_same (sCut_any _ _)))
        go_wp2
        go_ret
        exact ⟨m + nq, ret_bool (listOk_false HX.out hxy').symm, by rw [HW.out]; simp⟩
    · go_wp2
      go_ret
      refine ⟨m, ret_bool ?_, HW.out⟩
      have ht := HT.out
      rw [List.take_of_length_le (by omega)] at ht
      unfold listOk
      rw [ht, Bool.and_true]
      by_cases e : xs.length = 6
      · simp [e]
      · simp [e]; omega

set_option maxHeartbeats 400000 in
theorem sMemOk_any (w : World) (lo hi : Nat) (m : Value) (d : MemD) (h : MI w lo hi m d) (hhi : hi ≤ w.heap.size) :
    Calls Tryz.prog 16 #[m] w fun e w' => e = .returned (.bool (memOk d)) ∧ Below w.heap.size w w' := by
  obtain ⟨a, b, c, rfl, ha, hb, hc⟩ := h
  have bm := fun o (m : Nat) => below_drewN ((Below.refl w.heap.size w).alloc (Nat.le_refl _) o) m
  have sa := fun o m => ha.below (bm o m) hhi
  have sb := fun o m => hb.below (bm o m) hhi
  have sc := fun o m => hc.below (bm o m) hhi
  clear ha hb hc
  unfold memOk
  cases h1 : listOk d.i
  · go_enter Tryz.func16, Tryz.ntmps16
    go_wp2_with fail
    refine (l2List_any _ lo hi _ d.i (sa _ 0)).mono ?_
    rw [h1]
    rintro e w1 ⟨m1, rfl, rfl⟩
    go_wp2
    go_ret
    exact ⟨rfl, bm _ _⟩
  · cases h2 : listOk d.o
    · go_enter Tryz.func16, Tryz.ntmps16
      go_wp2_with fail
      refine (l2List_any _ lo hi _ d.i (sa _ 0)).mono ?_
      rw [h1]
      rintro e w1 ⟨m1, rfl, rfl⟩
      go_wp2_with fail
      refine (l2List_any _ lo hi _ d.o (sb _ _)).mono ?_
      rw [h2]
      rintro e w1 ⟨m2, rfl, rfl⟩
      go_wp2
      go_ret
      exact ⟨rfl, bm _ _⟩
    · go_enter Tryz.func16, Tryz.ntmps16
      go_wp2_with fail
      refine (l2List_any _ lo hi _ d.i (sa _ 0)).mono ?_
      rw [h1]
      rintro e w1 ⟨m1, rfl, rfl⟩
      go_wp2_with fail
      refine (l2List_any _ lo hi _ d.o (sb _ _)).mono ?_
      rw [h2]
      rintro e w1 ⟨m2, rfl, rfl⟩
      go_wp2_with fail
      refine (l2List_any _ lo hi _ d.v (sc _ _)).mono ?_
      rintro e w1 ⟨m3, rfl, rfl⟩
      go_wp2
      go_ret
      exact ⟨by simp, bm _ _⟩



/-- The list of a kind. -/
def memList (d : MemD) (k : Int) : List Int := if k = 1 then d.i else if k = 2 then d.o else d.v

/-- The number at a place. -/
def memGet (d : MemD) (a : AddrD) : Int := if memOk d && addrOk a then ((memList d a.kind)[a.at_.toNat]?).getD 0 else 0

theorem memOk_len {d : MemD} (h : memOk d = true) (k : Int) : (memList d k).length = 6 := by
  simp [memOk, listOk] at h
  unfold memList
  split
  · omega
  · split <;> omega

set_option maxHeartbeats 400000 in
theorem l2Get_any (w : World) (lo hi : Nat) (m : Value) (d : MemD) (a : AddrD) (h : MI w lo hi m d) (hhi : hi ≤ w.heap.size) (hd : memOk d = true) (ha : addrOk a = true) :
    Calls Tryz.prog 50 #[m, a.val] w fun e w' => e = .returned (.int .i64 (((memList d a.kind)[a.at_.toNat]?).getD 0)) ∧ Below w.heap.size w w' := by
  obtain ⟨x, y, z, rfl, hx, hy, hz⟩ := h
  obtain ⟨k, at_⟩ := a
  obtain ⟨k1, k2, k3, k4⟩ := addrOk_bd ha
  simp only at k1 k2 k3 k4
  have b2 := fun o o' => ((Below.refl w.heap.size w).alloc (Nat.le_refl _) o).alloc (by simp) o'
  have hl := memOk_len hd k
  obtain ⟨n, rfl⟩ : ∃ n : Nat, at_ = (n : Int) := ⟨at_.toNat, by omega⟩
  obtain ⟨r, hr⟩ : ∃ r, (memList d k)[n]? = some r := ⟨(memList d k)[n]'(by omega), List.getElem?_eq_getElem (by omega)⟩
  have HR : Hid ((((memList d k)[(n : Int).toNat]?).getD 0) = r) := by show (((memList d k)[n]?).getD 0) = r; rw [hr]; rfl
  show Calls Tryz.prog 50 #[_, AddrD.val ⟨k, n⟩] w fun e w' => e = .returned (.int .i64 (((memList d k)[(n : Int).toNat]?).getD 0)) ∧ Below w.heap.size w w'
  rw [HR.out]
  unfold AddrD.val
  clear HR hd ha
  have pick : ∀ {v : Value} {xs : List Int}, SI w lo hi v xs → xs[n]? = some r → xs.length = 6 → ∃ b off cap, v = .slice (some ⟨b, off, none⟩) 6 cap ∧ 6 ≤ cap ∧ cap ≤ maxLen ∧ b < w.heap.size ∧ w.cell? ⟨b, off + n, none⟩ = some (.int .i64 r) := by
    intro v xs hs hn hlen
    obtain ⟨a, cap, rfl, h1, h2, h3⟩ := hs
    rcases h3 with rfl | ⟨b, off, rfl, _, hb, hc⟩
    · simp at hlen
    · exact ⟨b, off, cap, by rw [hlen], by omega, h2, by omega, hc n r hn⟩
  unfold memList at hr hl
  by_cases e1 : k = 1
  · subst e1
    rw [if_pos rfl] at hr hl
    obtain ⟨b, off, cap, rfl, h6, h7, hb, hc⟩ := pick hx hr hl
    clear pick hx hy hz hr
    unfold maxLen at h7
    have hbs : b < w.heap.size + 1 := by omega
    go_enter Tryz.func50, Tryz.ntmps50
    go_wp2
    go_ret
    exact ⟨rfl, b2 _ _⟩
  · by_cases e2 : k = 2
    · subst e2
      rw [if_neg (by omega), if_pos rfl] at hr hl
      obtain ⟨b, off, cap, rfl, h6, h7, hb, hc⟩ := pick hy hr hl
      clear pick hx hy hz hr e1
      unfold maxLen at h7
      have hbs : b < w.heap.size + 1 := by omega
      go_enter Tryz.func50, Tryz.ntmps50
      go_wp2
      go_ret
      exact ⟨rfl, b2 _ _⟩
    · obtain rfl : k = 3 := by omega
      rw [if_neg (by omega), if_neg (by omega)] at hr hl
      obtain ⟨b, off, cap, rfl, h6, h7, hb, hc⟩ := pick hz hr hl
      clear pick hx hy hz hr e1 e2
      unfold maxLen at h7
      have hbs : b < w.heap.size + 1 := by omega
      go_enter Tryz.func50, Tryz.ntmps50
      go_wp2
      go_ret
      exact ⟨rfl, b2 _ _⟩

/-- The value is a memory's: three values. -/
theorem MI.agg {w : World} {lo hi : Nat} {m : Value} {d : MemD} (h : MI w lo hi m d) : ∃ a b c, m = .agg #[a, b, c] := by
  obtain ⟨a, b, c, hm, _⟩ := h; exact ⟨a, b, c, hm⟩

end Go.Proofs.YtdhpbiplkjpiiaaGreatDoor
