/-
  markWireS, markDriveS, markNet: the laws' helpers that write into a net. (Written by our generator gen_netmark.py.)
-/
import Derived.Test.YtokphdpaghkakaaDoorNetTo
import Derived.Test.YtokphdpaghkakaaDoorAppend
import Derived.Test.YtokphdpaghkakaaDoorHeldKit
namespace Go.Proofs.YtokphdpaghkakaaDoor
open Go.ChangeShapes Go.WideShapes Go.ChangeAt Go.RowKit
set_option linter.unusedVariables false
set_option linter.unusedSimpArgs false
set_option maxRecDepth 100000

/-- A row that grew is numbers of one's own. -/
theorem RowZ.oi {w : World} {base : Nat} {v : Value} {xs : List Int} (h : RowZ w base v xs) : OI w base w.heap.size v xs := oi_of_owns h

/-- A piece of a block that may be written, and what has been written was written into that block. -/
structure Room (w : World) (g off m : Nat) (wr : World) : Prop where
  out : Out g (g + 1) w wr
  lt : g < wr.heap.size
  some_ : ∀ x, off ≤ x → x < off + m → (wr.cell? ⟨g, x, none⟩).isSome = true
  frozen : ∀ x, wr.frozen? ⟨g, off + x, none⟩ = false

theorem Room.fz {w wr : World} {g off m : Nat} (h : Room w g off m wr) (x : Nat) (hx : off ≤ x) : wr.frozen? ⟨g, x, none⟩ = false := by
  have := h.frozen (x - off)
  rwa [Nat.add_sub_cancel' hx] at this

theorem Room.next {w wr u : World} {g off m x : Nat} {z : Value} (h : Room w g off m wr) (hL : LaidG wr u g x [z]) : Room w g off m u := by
  have hb := hL.below 0 wr (Nat.zero_le _) (Below.refl _ _)
  refine ⟨h.out.trans ⟨hb.os, hb.tape, hb.output, by rw [hL.size]; exact Nat.le_refl _, fun q hq hr => hL.block q (by omega)⟩, by rw [hL.size]; exact h.lt, fun y h1 h2 => ?_, fun y => by rw [hL.frozen]; exact h.frozen y⟩
  by_cases e : y = x
  · subst e
    have := hL.cv 0 z rfl
    rw [Nat.add_zero] at this
    rw [this]; rfl
  · rw [hL.cell _ _ (by simp only [List.length_cons, List.length_nil]; omega)]
    exact h.some_ y h1 h2

theorem room_of {α : Type} {E : Elem α} {w : World} {hi b off : Nat} {xs : List α} (hhi : hi ≤ w.heap.size) (h4 : b < hi)
    (h5 : ∀ (i : Nat) (x : α), xs[i]? = some x → CV w b (off + i * E.k) (E.cells x)) (h6 : ∀ o, w.frozen? ⟨b, off + o, none⟩ = false) (hl : ∀ x, (E.cells x).length = E.k) (hk : 0 < E.k) : Room w b off (xs.length * E.k) w := by
  refine ⟨⟨rfl, rfl, rfl, Nat.le_refl _, fun _ _ _ => rfl⟩, by omega, fun x h1 h2 => ?_, h6⟩
  have hq : (x - off) / E.k < xs.length := by
    rw [Nat.div_lt_iff_lt_mul hk]; omega
  have hm : (x - off) % E.k < E.k := Nat.mod_lt _ hk
  have hd := Nat.div_add_mod (x - off) E.k
  have hc := h5 _ _ (List.getElem?_eq_getElem hq) ((x - off) % E.k) _ (List.getElem?_eq_getElem (by rw [hl]; exact hm))
  have e : off + (x - off) / E.k * E.k + (x - off) % E.k = x := by rw [Nat.mul_comm] at hd; omega
  rw [e] at hc
  rw [hc]; rfl


set_option maxHeartbeats 8000000 in
theorem markDriveS_any (w : World) (lo hi : Nat) (v : Value) (ps : List DriveD) (k : Int) (h : GO driveE w lo hi v ps) (hhi : hi ≤ w.heap.size) (hx : ps.length ≤ 1048576) (hk : 0 ≤ k) (hk' : k ≤ 1000000000000) :
    Calls Tryd.prog 38 #[v, .int .i64 k] w fun e w' => e = .returned (.int .i64 (k + 3 * (ps.length : Int))) ∧ Out lo hi w w' := by
  rcases h with ⟨rfl, a, cap, rfl, hm⟩ | ⟨g, off, cap, rfl, h1, h2, h3, h4, h5, h6⟩
  · unfold maxLen at hm
    go_enter Tryd.func38, Tryd.ntmps38
    go_wp2
    go_loopw [1, 5] (fun q i wr => q = .int .i64 k ∧ i = .int .i64 0 ∧ wr = w) (fun _ _ _ => 0)
    case atStart => exact ⟨rfl, rfl, rfl⟩
    case round =>
      obtain ⟨rfl, rfl, rfl⟩ := hrel
      go_wp2
      go_ret
      exact ⟨by simp, ⟨rfl, rfl, rfl, Nat.le_refl _, fun _ _ _ => rfl⟩⟩
  · have hI : Room w g off (ps.length * 3) w := room_of (E := driveE) hhi h4 h5 h6 (fun _ => rfl) (by decide)
    unfold maxLen at h2
    clear h5 h6
    go_enter Tryd.func38, Tryd.ntmps38
    go_wp2
    go_loopw [1, 5] (fun q i wr => ∃ j : Nat, j ≤ ps.length ∧ q = .int .i64 (k + 3 * (j : Int)) ∧ i = .int .i64 j ∧ Room w g off (ps.length * 3) wr) (fun _ i _ => ps.length - (intOf i).toNat)
    case atStart => exact ⟨0, Nat.zero_le _, by simp, rfl, hI⟩
    case round =>
      clear hI
      obtain ⟨j, hj, rfl, rfl, hI⟩ := hrel
      by_cases hlt : j < ps.length
      · have hlt' : (j : Int) < (ps.length : Int) := by omega
        have hM : 0 ≤ k + 3 * (j : Int) ∧ k + 3 * (j : Int) ≤ 1000100000000 := by omega
        have HS : Hid (k + 3 * (j : Int) + 3 = k + 3 * ((j + 1 : Nat) : Int)) := by show _ = _; omega
        generalize k + 3 * (j : Int) = M at *
        go_wp2_with (refine wpList_store1G Tryd.sizeOf3 _ _ rfl rfl rfl rfl rfl rfl (hI.some_ _ (by omega) (by omega)) (hI.fz _ (by omega)) ?_)
        intro u0 L0
        have I0 := hI.next L0
        clear hI L0
        go_wp2_with (refine wpList_store1G Tryd.sizeOf3 _ _ rfl rfl rfl rfl rfl rfl (I0.some_ _ (by omega) (by omega)) (I0.fz _ (by omega)) ?_)
        intro u1 L1
        have I1 := I0.next L1
        clear I0 L1
        go_wp2_with (refine wpList_store1G Tryd.sizeOf3 _ _ rfl rfl rfl rfl rfl rfl (I1.some_ _ (by omega) (by omega)) (I1.fz _ (by omega)) ?_)
        intro u2 L2
        have I2 := I1.next L2
        clear I1 L2
        go_wp2
        go_roundw
        case rel => exact ⟨j + 1, by omega, by rw [← HS.out]; congr 1; omega, by go_num, I2⟩
        case measure => simp [intOf]; omega
      · obtain rfl : j = ps.length := by omega
        have HN : Out lo hi w wr := ⟨hI.out.os, hI.out.tape, hI.out.output, hI.out.size, fun q hq hr => hI.out.block q hq (by omega)⟩
        clear hI
        go_wp2
        go_ret
        exact ⟨rfl, HN⟩

set_option maxHeartbeats 8000000 in
theorem markWireS_any (w : World) (lo hi : Nat) (v : Value) (ps : List WireD) (k : Int) (h : GO wireE w lo hi v ps) (hhi : hi ≤ w.heap.size) (hx : ps.length ≤ 1048576) (hk : 0 ≤ k) (hk' : k ≤ 1000000000000) :
    Calls Tryd.prog 37 #[v, .int .i64 k] w fun e w' => e = .returned (.int .i64 (k + 12 * (ps.length : Int))) ∧ Out lo hi w w' := by
  rcases h with ⟨rfl, a, cap, rfl, hm⟩ | ⟨g, off, cap, rfl, h1, h2, h3, h4, h5, h6⟩
  · unfold maxLen at hm
    go_enter Tryd.func37, Tryd.ntmps37
    go_wp2
    go_loopw [1, 5] (fun q i wr => q = .int .i64 k ∧ i = .int .i64 0 ∧ wr = w) (fun _ _ _ => 0)
    case atStart => exact ⟨rfl, rfl, rfl⟩
    case round =>
      obtain ⟨rfl, rfl, rfl⟩ := hrel
      go_wp2
      go_ret
      exact ⟨by simp, ⟨rfl, rfl, rfl, Nat.le_refl _, fun _ _ _ => rfl⟩⟩
  · have hI : Room w g off (ps.length * 12) w := room_of (E := wireE) hhi h4 h5 h6 (fun _ => rfl) (by decide)
    unfold maxLen at h2
    clear h5 h6
    go_enter Tryd.func37, Tryd.ntmps37
    go_wp2
    go_loopw [1, 5] (fun q i wr => ∃ j : Nat, j ≤ ps.length ∧ q = .int .i64 (k + 12 * (j : Int)) ∧ i = .int .i64 j ∧ Room w g off (ps.length * 12) wr) (fun _ i _ => ps.length - (intOf i).toNat)
    case atStart => exact ⟨0, Nat.zero_le _, by simp, rfl, hI⟩
    case round =>
      clear hI
      obtain ⟨j, hj, rfl, rfl, hI⟩ := hrel
      by_cases hlt : j < ps.length
      · have hlt' : (j : Int) < (ps.length : Int) := by omega
        have hM : 0 ≤ k + 12 * (j : Int) ∧ k + 12 * (j : Int) ≤ 1000100000000 := by omega
        have HS : Hid (k + 12 * (j : Int) + 12 = k + 12 * ((j + 1 : Nat) : Int)) := by show _ = _; omega
        generalize k + 12 * (j : Int) = M at *
        go_wp2_with (refine wpList_store1G Tryd.sizeOf3 _ _ rfl rfl rfl rfl rfl rfl (hI.some_ _ (by omega) (by omega)) (hI.fz _ (by omega)) ?_)
        intro u0 L0
        have I0 := hI.next L0
        clear hI L0
        go_wp2_with (refine wpList_store1G Tryd.sizeOf3 _ _ rfl rfl rfl rfl rfl rfl (I0.some_ _ (by omega) (by omega)) (I0.fz _ (by omega)) ?_)
        intro u1 L1
        have I1 := I0.next L1
        clear I0 L1
        go_wp2_with (refine wpList_store1G Tryd.sizeOf3 _ _ rfl rfl rfl rfl rfl rfl (I1.some_ _ (by omega) (by omega)) (I1.fz _ (by omega)) ?_)
        intro u2 L2
        have I2 := I1.next L2
        clear I1 L2
        go_wp2_with (refine wpList_store1G Tryd.sizeOf3 _ _ rfl rfl rfl rfl rfl rfl (I2.some_ _ (by omega) (by omega)) (I2.fz _ (by omega)) ?_)
        intro u3 L3
        have I3 := I2.next L3
        clear I2 L3
        go_wp2_with (refine wpList_store1G Tryd.sizeOf3 _ _ rfl rfl rfl rfl rfl rfl (I3.some_ _ (by omega) (by omega)) (I3.fz _ (by omega)) ?_)
        intro u4 L4
        have I4 := I3.next L4
        clear I3 L4
        go_wp2_with (refine wpList_store1G Tryd.sizeOf3 _ _ rfl rfl rfl rfl rfl rfl (I4.some_ _ (by omega) (by omega)) (I4.fz _ (by omega)) ?_)
        intro u5 L5
        have I5 := I4.next L5
        clear I4 L5
        go_wp2_with (refine wpList_store1G Tryd.sizeOf4 _ _ rfl rfl rfl rfl rfl rfl (I5.some_ _ (by omega) (by omega)) (I5.fz _ (by omega)) ?_)
        intro u6 L6
        have I6 := I5.next L6
        clear I5 L6
        go_wp2_with (refine wpList_store1G Tryd.sizeOf3 _ _ rfl rfl rfl rfl rfl rfl (I6.some_ _ (by omega) (by omega)) (I6.fz _ (by omega)) ?_)
        intro u7 L7
        have I7 := I6.next L7
        clear I6 L7
        go_wp2_with (refine wpList_store1G Tryd.sizeOf3 _ _ rfl rfl rfl rfl rfl rfl (I7.some_ _ (by omega) (by omega)) (I7.fz _ (by omega)) ?_)
        intro u8 L8
        have I8 := I7.next L8
        clear I7 L8
        go_wp2_with (refine wpList_store1G Tryd.sizeOf3 _ _ rfl rfl rfl rfl rfl rfl (I8.some_ _ (by omega) (by omega)) (I8.fz _ (by omega)) ?_)
        intro u9 L9
        have I9 := I8.next L9
        clear I8 L9
        go_wp2_with (refine wpList_store1G Tryd.sizeOf3 _ _ rfl rfl rfl rfl rfl rfl (I9.some_ _ (by omega) (by omega)) (I9.fz _ (by omega)) ?_)
        intro u10 L10
        have I10 := I9.next L10
        clear I9 L10
        go_wp2_with (refine wpList_store1G Tryd.sizeOf4 _ _ rfl rfl rfl rfl rfl rfl (I10.some_ _ (by omega) (by omega)) (I10.fz _ (by omega)) ?_)
        intro u11 L11
        have I11 := I10.next L11
        clear I10 L11
        go_wp2
        go_roundw
        case rel => exact ⟨j + 1, by omega, by rw [← HS.out]; congr 1; omega, by go_num, I11⟩
        case measure => simp [intOf]; omega
      · obtain rfl : j = ps.length := by omega
        have HN : Out lo hi w wr := ⟨hI.out.os, hI.out.tape, hI.out.output, hI.out.size, fun q hq hr => hI.out.block q hq (by omega)⟩
        clear hI
        go_wp2
        go_ret
        exact ⟨rfl, HN⟩

theorem Out.widen {lo hi lo' hi' : Nat} {w u : World} (h : Out lo hi w u) (h1 : lo' ≤ lo) (h2 : hi ≤ hi') : Out lo' hi' w u :=
  ⟨h.os, h.tape, h.output, h.size, fun k hk ho => h.block k hk (by omega)⟩
theorem OI.out {w w' : World} {lo hi lo' hi' : Nat} {v : Value} {xs : List Int} (h : OI w lo hi v xs) (g : Out lo' hi' w w') (h1 : hi ≤ lo' ∨ hi' ≤ lo) (hs : hi ≤ w.heap.size) : OI w' lo hi v xs :=
  h.kept fun k q1 q2 => g.block k (by omega) (by omega)
theorem OI.foot {w : World} {lo hi : Nat} {v : Value} {xs : List Int} (h : OI w lo hi v xs) {b o : Nat} (f : Foot v xs.length b o) : lo ≤ b ∧ b < hi := by
  obtain ⟨g, off, l, cap, hv, hb, h1, h2⟩ := f
  rcases h with ⟨rfl, a, c, hv', _⟩ | ⟨g', off', cap', hv', _, _, h3, h4, _⟩
  · simp at h2; omega
  · rw [hv'] at hv
    simp only [Value.slice.injEq, Option.some.injEq, Addr.mk.injEq, and_true] at hv
    obtain ⟨⟨rfl, _⟩, _⟩ := hv
    omega

set_option maxHeartbeats 4000000 in
theorem markNet_any (w : World) (lo hi : Nat) (v : Value) (n : NetD) (k : Int) (h : NOw w lo hi v n) (hhi : hi ≤ w.heap.size) (hx : n.many ≤ 1048576) (hk : 0 ≤ k) (hk' : k ≤ 1000000) :
    Calls Tryd.prog 13 #[v, .int .i64 k] w fun e w' => ∃ z, e = .returned (.int .i64 z) ∧ 0 ≤ z ∧ z ≤ 100000000 ∧ Out lo hi w w' := by
  obtain ⟨va, vb, mid, rfl, hA, hB, h1, h2⟩ := h
  unfold NetD.many at hx
  obtain ⟨ad, cap, rfl, _, _⟩ := hA.gr.shape
  obtain ⟨ad', cap', rfl, _, _⟩ := hB.gr.shape
  have HW : Hid (GO wireE w lo mid (.slice ad n.ws.length cap) n.ws ∧ GO driveE w mid hi (.slice ad' n.ds.length cap') n.ds) := ⟨hA, hB⟩
  clear hA hB
  go_enter Tryd.func13, Tryd.ntmps13
  go_wp2_with (refine wpList_boxG (vs := [.slice ad n.ws.length cap, .slice ad' n.ds.length cap']) rfl _ rfl rfl ?_)
  intro u1 g1 p1 s1
  have c0 : u1.cell? ⟨w.heap.size, 0, none⟩ = some (.slice ad n.ws.length cap) := p1.c 0 _ rfl
  go_wp2_with fail
  clear c0
  refine (markWireS_any u1 lo mid _ n.ws k (HW.out.1.under g1 (by omega)) (by omega) (by omega) hk (by omega)).mono ?_
  rintro e2 u2 ⟨rfl, o2⟩
  have s2 := o2.size
  have O2 : Out lo hi w u2 := (out_of_below g1 lo hi).trans (o2.widen (Nat.le_refl _) h2)
  have p2 : VarG u2 w.heap.size [.slice ad n.ws.length cap, .slice ad' n.ds.length cap'] := p1.at_ (o2.block w.heap.size (by omega) (by omega))
  have D2 : GO driveE u2 mid hi (.slice ad' n.ds.length cap') n.ds := (HW.out.2.under g1 (by omega)).kept fun q h3 h4 => o2.block q (by omega) (.inr h3)
  obtain ⟨k2, hk2⟩ : ∃ z, k + 12 * (n.ws.length : Int) = z := ⟨_, rfl⟩
  rw [hk2]
  have b2 : 0 ≤ k2 ∧ k2 ≤ 50000000 := by omega
  have c1 : u2.cell? ⟨w.heap.size, 1, none⟩ = some (.slice ad' n.ds.length cap') := p2.c 1 _ rfl
  clear o2 hk2 p1 p2 g1
  go_wp2_with fail
  clear c1
  refine (markDriveS_any u2 mid hi _ n.ds k2 D2 (by omega) (by omega) b2.1 (by omega)).mono ?_
  rintro e3 u3 ⟨rfl, o3⟩
  have O3 : Out lo hi w u3 := O2.trans (o3.widen h1 (Nat.le_refl _))
  have b3 : 0 ≤ k2 + 3 * (n.ds.length : Int) ∧ k2 + 3 * (n.ds.length : Int) ≤ 100000000 := by omega
  obtain ⟨k3, hk3⟩ : ∃ z, k2 + 3 * (n.ds.length : Int) = z := ⟨_, rfl⟩
  rw [hk3] at b3 ⊢
  clear o3 hk3 O2 D2
  go_wp2
  go_ret
  exact ⟨_, rfl, b3.1, b3.2, O3⟩


end Go.Proofs.YtokphdpaghkakaaDoor
