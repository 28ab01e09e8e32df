/-
  markWireS, markDriveS, markNet: the laws' helpers that write into a net. (Written by our generator gen_netmark.py.)
-/
import Derived.Test.YtokphdpaghkakaaDoorNetTo
import Derived.Test.YtokphdpaghkakaaDoorRoomKit
namespace Go.Proofs.YtokphdpaghkakaaDoor
open Go.ChangeShapes Go.WideShapes Go.ChangeAt Go.RowKit
set_option linter.unusedVariables false
set_option linter.unusedSimpArgs false
set_option maxRecDepth 100000



set_option maxHeartbeats 8000000 in
theorem markDriveS_any (w : World) (lo hi : Nat) (v : Value) (ps : List DriveD) (k : Int) (h : GO driveE w lo hi v ps) (hhi : hi ≤ w.heap.size) (hx : ps.length ≤ 1048576) (hk : 0 ≤ k) (hk' : k ≤ 1000000000000) :
    Calls Tryd.prog 38 #[v, .int .i64 k] w fun e w' => e = .returned (.int .i64 (k + 3 * (ps.length : Int))) ∧ Out lo hi w w' := by
  rcases h with ⟨rfl, a, cap, rfl, hm⟩ | ⟨g, off, cap, rfl, h1, h2, h3, h4, h5, h6⟩
  · unfold maxLen at hm
    go_enter Tryd.func38, Tryd.ntmps38
    go_wp2
    go_loopw [1, 5] (fun q i wr => q = .int .i64 k ∧ i = .int .i64 0 ∧ wr = w) (fun _ _ _ => 0)
    case atStart => exact ⟨rfl, rfl, rfl⟩
    case round =>
      obtain ⟨rfl, rfl, rfl⟩ := hrel
      go_wp2
      go_ret
      exact ⟨by simp, ⟨rfl, rfl, rfl, Nat.le_refl _, fun _ _ _ => rfl⟩⟩
  · have hI : Room w g off (ps.length * 3) w := room_of (E := driveE) hhi h4 h5 h6 (fun _ => rfl) (by decide)
    unfold maxLen at h2
    clear h5 h6
    go_enter Tryd.func38, Tryd.ntmps38
    go_wp2
    go_loopw [1, 5] (fun q i wr => ∃ j : Nat, j ≤ ps.length ∧ q = .int .i64 (k + 3 * (j : Int)) ∧ i = .int .i64 j ∧ Room w g off (ps.length * 3) wr) (fun _ i _ => ps.length - (intOf i).toNat)
    case atStart => exact ⟨0, Nat.zero_le _, by simp, rfl, hI⟩
    case round =>
      clear hI
      obtain ⟨j, hj, rfl, rfl, hI⟩ := hrel
      by_cases hlt : j < ps.length
      · have hlt' : (j : Int) < (ps.length : Int) := by omega
        have hM : 0 ≤ k + 3 * (j : Int) ∧ k + 3 * (j : Int) ≤ 1000100000000 := by omega
        have HS : Hid (k + 3 * (j : Int) + 3 = k + 3 * ((j + 1 : Nat) : Int)) := by show _ = _; omega
        generalize k + 3 * (j : Int) = M at *
        go_wp2_with (refine wpList_store1G Tryd.sizeOf3 _ _ rfl rfl rfl rfl rfl rfl (hI.some_ _ (by omega) (by omega)) (hI.fz _ (by omega)) ?_)
        intro u0 L0
        have I0 := hI.next L0
        clear hI L0
        go_wp2_with (refine wpList_store1G Tryd.sizeOf3 _ _ rfl rfl rfl rfl rfl rfl (I0.some_ _ (by omega) (by omega)) (I0.fz _ (by omega)) ?_)
        intro u1 L1
        have I1 := I0.next L1
        clear I0 L1
        go_wp2_with (refine wpList_store1G Tryd.sizeOf3 _ _ rfl rfl rfl rfl rfl rfl (I1.some_ _ (by omega) (by omega)) (I1.fz _ (by omega)) ?_)
        intro u2 L2
        have I2 := I1.next L2
        clear I1 L2
        go_wp2
        go_roundw
        case rel => exact ⟨j + 1, by omega, by rw [← HS.out]; congr 1; omega, by go_num, I2⟩
        case measure => simp [intOf]; omega
      · obtain rfl : j = ps.length := by omega
        have HN : Out lo hi w wr := ⟨hI.out.os, hI.out.tape, hI.out.output, hI.out.size, fun q hq hr => hI.out.block q hq (by omega)⟩
        clear hI
        go_wp2
        go_ret
        exact ⟨rfl, HN⟩

set_option maxHeartbeats 8000000 in
theorem markWireS_any (w : World) (lo hi : Nat) (v : Value) (ps : List WireD) (k : Int) (h : GO wireE w lo hi v ps) (hhi : hi ≤ w.heap.size) (hx : ps.length ≤ 1048576) (hk : 0 ≤ k) (hk' : k ≤ 1000000000000) :
    Calls Tryd.prog 37 #[v, .int .i64 k] w fun e w' => e = .returned (.int .i64 (k + 12 * (ps.length : Int))) ∧ Out lo hi w w' := by
  rcases h with ⟨rfl, a, cap, rfl, hm⟩ | ⟨g, off, cap, rfl, h1, h2, h3, h4, h5, h6⟩
  · unfold maxLen at hm
    go_enter Tryd.func37, Tryd.ntmps37
    go_wp2
    go_loopw [1, 5] (fun q i wr => q = .int .i64 k ∧ i = .int .i64 0 ∧ wr = w) (fun _ _ _ => 0)
    case atStart => exact ⟨rfl, rfl, rfl⟩
    case round =>
      obtain ⟨rfl, rfl, rfl⟩ := hrel
      go_wp2
      go_ret
      exact ⟨by simp, ⟨rfl, rfl, rfl, Nat.le_refl _, fun _ _ _ => rfl⟩⟩
  · have hI : Room w g off (ps.length * 12) w := room_of (E := wireE) hhi h4 h5 h6 (fun _ => rfl) (by decide)
    unfold maxLen at h2
    clear h5 h6
    go_enter Tryd.func37, Tryd.ntmps37
    go_wp2
    go_loopw [1, 5] (fun q i wr => ∃ j : Nat, j ≤ ps.length ∧ q = .int .i64 (k + 12 * (j : Int)) ∧ i = .int .i64 j ∧ Room w g off (ps.length * 12) wr) (fun _ i _ => ps.length - (intOf i).toNat)
    case atStart => exact ⟨0, Nat.zero_le _, by simp, rfl, hI⟩
    case round =>
      clear hI
      obtain ⟨j, hj, rfl, rfl, hI⟩ := hrel
      by_cases hlt : j < ps.length
      · have hlt' : (j : Int) < (ps.length : Int) := by omega
        have hM : 0 ≤ k + 12 * (j : Int) ∧ k + 12 * (j : Int) ≤ 1000100000000 := by omega
        have HS : Hid (k + 12 * (j : Int) + 12 = k + 12 * ((j + 1 : Nat) : Int)) := by show _ = _; omega
        generalize k + 12 * (j : Int) = M at *
        go_wp2_with (refine wpList_store1G Tryd.sizeOf3 _ _ rfl rfl rfl rfl rfl rfl (hI.some_ _ (by omega) (by omega)) (hI.fz _ (by omega)) ?_)
        intro u0 L0
        have I0 := hI.next L0
        clear hI L0
        go_wp2_with (refine wpList_store1G Tryd.sizeOf3 _ _ rfl rfl rfl rfl rfl rfl (I0.some_ _ (by omega) (by omega)) (I0.fz _ (by omega)) ?_)
        intro u1 L1
        have I1 := I0.next L1
        clear I0 L1
        go_wp2_with (refine wpList_store1G Tryd.sizeOf3 _ _ rfl rfl rfl rfl rfl rfl (I1.some_ _ (by omega) (by omega)) (I1.fz _ (by omega)) ?_)
        intro u2 L2
        have I2 := I1.next L2
        clear I1 L2
        go_wp2_with (refine wpList_store1G Tryd.sizeOf3 _ _ rfl rfl rfl rfl rfl rfl (I2.some_ _ (by omega) (by omega)) (I2.fz _ (by omega)) ?_)
        intro u3 L3
        have I3 := I2.next L3
        clear I2 L3
        go_wp2_with (refine wpList_store1G Tryd.sizeOf3 _ _ rfl rfl rfl rfl rfl rfl (I3.some_ _ (by omega) (by omega)) (I3.fz _ (by omega)) ?_)
        intro u4 L4
        have I4 := I3.next L4
        clear I3 L4
        go_wp2_with (refine wpList_store1G Tryd.sizeOf3 _ _ rfl rfl rfl rfl rfl rfl (I4.some_ _ (by omega) (by omega)) (I4.fz _ (by omega)) ?_)
        intro u5 L5
        have I5 := I4.next L5
        clear I4 L5
        go_wp2_with (refine wpList_store1G Tryd.sizeOf4 _ _ rfl rfl rfl rfl rfl rfl (I5.some_ _ (by omega) (by omega)) (I5.fz _ (by omega)) ?_)
        intro u6 L6
        have I6 := I5.next L6
        clear I5 L6
        go_wp2_with (refine wpList_store1G Tryd.sizeOf3 _ _ rfl rfl rfl rfl rfl rfl (I6.some_ _ (by omega) (by omega)) (I6.fz _ (by omega)) ?_)
        intro u7 L7
        have I7 := I6.next L7
        clear I6 L7
        go_wp2_with (refine wpList_store1G Tryd.sizeOf3 _ _ rfl rfl rfl rfl rfl rfl (I7.some_ _ (by omega) (by omega)) (I7.fz _ (by omega)) ?_)
        intro u8 L8
        have I8 := I7.next L8
        clear I7 L8
        go_wp2_with (refine wpList_store1G Tryd.sizeOf3 _ _ rfl rfl rfl rfl rfl rfl (I8.some_ _ (by omega) (by omega)) (I8.fz _ (by omega)) ?_)
        intro u9 L9
        have I9 := I8.next L9
        clear I8 L9
        go_wp2_with (refine wpList_store1G Tryd.sizeOf3 _ _ rfl rfl rfl rfl rfl rfl (I9.some_ _ (by omega) (by omega)) (I9.fz _ (by omega)) ?_)
        intro u10 L10
        have I10 := I9.next L10
        clear I9 L10
        go_wp2_with (refine wpList_store1G Tryd.sizeOf4 _ _ rfl rfl rfl rfl rfl rfl (I10.some_ _ (by omega) (by omega)) (I10.fz _ (by omega)) ?_)
        intro u11 L11
        have I11 := I10.next L11
        clear I10 L11
        go_wp2
        go_roundw
        case rel => exact ⟨j + 1, by omega, by rw [← HS.out]; congr 1; omega, by go_num, I11⟩
        case measure => simp [intOf]; omega
      · obtain rfl : j = ps.length := by omega
        have HN : Out lo hi w wr := ⟨hI.out.os, hI.out.tape, hI.out.output, hI.out.size, fun q hq hr => hI.out.block q hq (by omega)⟩
        clear hI
        go_wp2
        go_ret
        exact ⟨rfl, HN⟩

set_option maxHeartbeats 4000000 in
theorem markNet_any (w : World) (lo hi : Nat) (v : Value) (n : NetD) (k : Int) (h : NOw w lo hi v n) (hhi : hi ≤ w.heap.size) (hx : n.many ≤ 1048576) (hk : 0 ≤ k) (hk' : k ≤ 1000000) :
    Calls Tryd.prog 13 #[v, .int .i64 k] w fun e w' => ∃ z, e = .returned (.int .i64 z) ∧ 0 ≤ z ∧ z ≤ 100000000 ∧ Out lo hi w w' := by
  obtain ⟨va, vb, mid, rfl, hA, hB, h1, h2⟩ := h
  unfold NetD.many at hx
  obtain ⟨ad, cap, rfl, _, _⟩ := hA.gr.shape
  obtain ⟨ad', cap', rfl, _, _⟩ := hB.gr.shape
  have HW : Hid (GO wireE w lo mid (.slice ad n.ws.length cap) n.ws ∧ GO driveE w mid hi (.slice ad' n.ds.length cap') n.ds) := ⟨hA, hB⟩
  clear hA hB
  go_enter Tryd.func13, Tryd.ntmps13
  go_wp2_with (refine wpList_boxG (vs := [.slice ad n.ws.length cap, .slice ad' n.ds.length cap']) rfl _ rfl rfl ?_)
  intro u1 g1 p1 s1
  have c0 : u1.cell? ⟨w.heap.size, 0, none⟩ = some (.slice ad n.ws.length cap) := p1.c 0 _ rfl
  go_wp2_with fail
  clear c0
  refine (markWireS_any u1 lo mid _ n.ws k (HW.out.1.under g1 (by omega)) (by omega) (by omega) hk (by omega)).mono ?_
  rintro e2 u2 ⟨rfl, o2⟩
  have s2 := o2.size
  have O2 : Out lo hi w u2 := (out_of_below g1 lo hi).trans (o2.widen (Nat.le_refl _) h2)
  have p2 : VarG u2 w.heap.size [.slice ad n.ws.length cap, .slice ad' n.ds.length cap'] := p1.at_ (o2.block w.heap.size (by omega) (by omega))
  have D2 : GO driveE u2 mid hi (.slice ad' n.ds.length cap') n.ds := (HW.out.2.under g1 (by omega)).kept fun q h3 h4 => o2.block q (by omega) (.inr h3)
  obtain ⟨k2, hk2⟩ : ∃ z, k + 12 * (n.ws.length : Int) = z := ⟨_, rfl⟩
  rw [hk2]
  have b2 : 0 ≤ k2 ∧ k2 ≤ 50000000 := by omega
  have c1 : u2.cell? ⟨w.heap.size, 1, none⟩ = some (.slice ad' n.ds.length cap') := p2.c 1 _ rfl
  clear o2 hk2 p1 p2 g1
  go_wp2_with fail
  clear c1
  refine (markDriveS_any u2 mid hi _ n.ds k2 D2 (by omega) (by omega) b2.1 (by omega)).mono ?_
  rintro e3 u3 ⟨rfl, o3⟩
  have O3 : Out lo hi w u3 := O2.trans (o3.widen h1 (Nat.le_refl _))
  have b3 : 0 ≤ k2 + 3 * (n.ds.length : Int) ∧ k2 + 3 * (n.ds.length : Int) ≤ 100000000 := by omega
  obtain ⟨k3, hk3⟩ : ∃ z, k2 + 3 * (n.ds.length : Int) = z := ⟨_, rfl⟩
  rw [hk3] at b3 ⊢
  clear o3 hk3 O2 D2
  go_wp2
  go_ret
  exact ⟨_, rfl, b3.1, b3.2, O3⟩


end Go.Proofs.YtokphdpaghkakaaDoor
