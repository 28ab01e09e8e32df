/-
  Elements that are marked in place, one number a cell, and read back; lists of bools: eqBoolS, markBoolS, heldBoolS.
-/
import Derived.Test.YtaoiookfmgpmkaaGreatDoorRoomKit
import Derived.Test.YtaoiookfmgpmkaaGreatDoorDag
namespace Go.Proofs.YtaoiookfmgpmkaaGreatDoor
open Go.ChangeShapes Go.WideShapes Go.ChangeAt Go.RowKit
set_option linter.unusedVariables false
set_option linter.unusedSimpArgs false
set_option maxRecDepth 100000

/-- A bool's mark. -/
def mB (k : Int) : Bool := k % 3 == 0
def bool2 : Elem Bool := ⟨fun x => [.bool x], 1, by decide, fun _ => rfl, fun x v hv => by simp at hv; rw [hv]; rfl⟩

section
variable {α : Type} {E : Elem α}

/-- Marks of n elements from k on, element i's being f of its own number. -/
def marksG (E : Elem α) (f : Int → α) (k : Int) (n : Nat) : List α := (List.range n).map fun i => f (k + ((E.k * i : Nat) : Int))
theorem marksG_length (f : Int → α) (k : Int) (n : Nat) : (marksG E f k n).length = n := by simp [marksG]
theorem marksG_at {f : Int → α} {k : Int} {n i : Nat} (h : i < n) : (marksG E f k n)[i]? = some (f (k + ((E.k * i : Nat) : Int))) := by simp [marksG, h]

/-- What holds as j elements of a list have been marked in place. -/
structure MarkG (E : Elem α) (f : Int → α) (k : Int) (w : World) (g off n j : Nat) (wr : World) : Prop where
  room : Room w g off (n * E.k) wr
  done : ∀ i, i < j → CV wr g (off + i * E.k) (E.cells (f (k + ((E.k * i : Nat) : Int))))

theorem MarkG.store {f : Int → α} {k : Int} {w wr u : World} {g off n j x : Nat} {z : Value} (h : MarkG E f k w g off n j wr) (hL : LaidG wr u g x [z]) (hx : off + j * E.k ≤ x) : MarkG E f k w g off n j u := by
  refine ⟨h.room.next hL, fun i hi p v hp => ?_⟩
  have hlen : p < E.k := by have := (List.getElem?_eq_some_iff.mp hp).1; rwa [E.len] at this
  have hij : i * E.k + E.k ≤ j * E.k := by rw [← Nat.succ_mul]; exact Nat.mul_le_mul_right _ (by omega)
  rw [hL.cell _ _ (.inr (.inl (by omega)))]
  exact h.done i hi p v hp

theorem MarkG.next {f : Int → α} {k : Int} {w wr : World} {g off n j : Nat} (h : MarkG E f k w g off n j wr) (hc : CV wr g (off + j * E.k) (E.cells (f (k + ((E.k * j : Nat) : Int))))) : MarkG E f k w g off n (j + 1) wr :=
  ⟨h.room, fun i hi => by
    by_cases e : i = j
    · subst e; exact hc
    · exact h.done i (by omega)⟩

/-- A prefix of an element's cells. -/
theorem cv_nil (w : World) (b o : Nat) : CV w b o [] := fun j v hv => by simp at hv
theorem CV.snoc {w u : World} {b o x : Nat} {vs : List Value} {z : Value} (h : CV w b o vs) (hL : LaidG w u b x [z]) (hx : x = o + vs.length) : CV u b o (vs ++ [z]) := by
  intro j v hv
  by_cases hj : j < vs.length
  · rw [List.getElem?_append_left hj] at hv
    rw [hL.cell _ _ (.inr (.inl (by omega)))]
    exact h j v hv
  · have hlen := (List.getElem?_eq_some_iff.mp hv).1
    simp only [List.length_append, List.length_cons, List.length_nil] at hlen
    obtain rfl : j = vs.length := by omega
    rw [List.getElem?_append_right (Nat.le_refl _), Nat.sub_self] at hv
    simp at hv
    subst hv
    have := hL.cv 0 z rfl
    rwa [hx, Nat.add_zero] at this

theorem MarkG.go {f : Int → α} {k : Int} {w wr : World} {lo hi g off cap : Nat} {xs : List α} (h : MarkG E f k w g off xs.length xs.length wr) (h1 : xs.length ≤ cap) (h2 : cap ≤ maxLen) (h3 : lo ≤ g) (h4 : g < hi) :
    GO E wr lo hi (.slice (some ⟨g, off, none⟩) xs.length cap) (marksG E f k xs.length) :=
  .inr ⟨g, off, cap, by rw [marksG_length], by rw [marksG_length]; exact h1, h2, h3, h4, fun i x hx => by
      have hi' : i < xs.length := by have := (List.getElem?_eq_some_iff.mp hx).1; rwa [marksG_length] at this
      rw [marksG_at hi'] at hx
      cases hx
      exact h.done i hi', h.room.frozen⟩

theorem MarkG.out {f : Int → α} {k : Int} {w wr : World} {lo hi g off n j : Nat} (h : MarkG E f k w g off n j wr) (h3 : lo ≤ g) (h4 : g < hi) : Out lo hi w wr := h.room.out.widen h3 (by omega)

theorem GO.out {w w' : World} {lo hi lo' hi' : Nat} {v : Value} {xs : List α} (h : GO E w lo hi v xs) (g : Out lo' hi' w w') (h1 : hi ≤ lo' ∨ hi' ≤ lo) (hs : hi ≤ w.heap.size) : GO E w' lo hi v xs :=
  h.kept fun k q1 q2 => g.block k (by omega) (by omega)
theorem GO.shapeO {w : World} {lo hi : Nat} {v : Value} {xs : List α} (h : GO E w lo hi v xs) : ∃ a cap, v = .slice a xs.length cap := by
  obtain ⟨a, cap, hv, _⟩ := h.gr.shape; exact ⟨a, cap, hv⟩
end

set_option maxHeartbeats 2000000 in
theorem eqBoolS_same (w : World) (lo hi lo' hi' : Nat) (va vb : Value) (ps : List Bool) (ha : GR bool2 w lo hi va ps) (hb' : GR bool2 w lo' hi' vb ps) (hhi : hi ≤ w.heap.size) (hhi' : hi' ≤ w.heap.size) :
    Calls Tryz.prog 117 #[va, vb] w fun e w' => e = .returned (.bool true) ∧ Below w.heap.size w w' := by
  obtain ⟨ad, cap, rfl, h1, h2⟩ := ha.shape
  obtain ⟨ad', cap', rfl, h1', h2'⟩ := hb'.shape
  have HK : Hid (GR bool2 w lo hi (.slice ad ps.length cap) ps ∧ GR bool2 w lo' hi' (.slice ad' ps.length cap') ps) := ⟨ha, hb'⟩
  clear ha hb'
  unfold maxLen at h2 h2'
  have hl2 : ((ps.length : Int) != (ps.length : Int)) = false := by simp
  go_enter Tryz.func117, Tryz.ntmps117
  go_wp2_with fail
  go_loopw [5] (fun i wr => ∃ j : Nat, j ≤ ps.length ∧ i = .int .i64 j ∧ Below w.heap.size w wr) (fun i _ => ps.length - (intOf i).toNat)
  case atStart => exact ⟨0, Nat.zero_le _, rfl, Below.refl _ _⟩
  case round =>
    obtain ⟨j, hj, rfl, hb⟩ := hrel
    have hsz := hb.size
    by_cases hlt : j < ps.length
    · obtain ⟨x, hx⟩ : ∃ x, ps[j]? = some x := ⟨ps[j], List.getElem?_eq_getElem hlt⟩
      obtain ⟨b, off, capx, hv, hb1, hb2, h5⟩ := HK.out.1.at_ hx
      obtain ⟨b', off', capy, hv', hb1', hb2', h5'⟩ := HK.out.2.at_ hx
      simp only [Value.slice.injEq, true_and] at hv hv'
      obtain ⟨rfl, rfl⟩ := hv
      obtain ⟨rfl, rfl⟩ := hv'
      have c1 : wr.cell? ⟨b, off + j, none⟩ = some (.bool x) := by
        have := (h5.below hb (by omega)) 0 (.bool x) rfl
        rwa [Nat.add_zero, show j * bool2.k = j from Nat.mul_one j] at this
      have c2 : wr.cell? ⟨b', off' + j, none⟩ = some (.bool x) := by
        have := (h5'.below hb (by omega)) 0 (.bool x) rfl
        rwa [Nat.add_zero, show j * bool2.k = j from Nat.mul_one j] at this
      have hxx : (x != x) = false := by simp
      have HB : Hid (Below w.heap.size w wr) := hb
      clear hx h5 h5' hb
      go_wp2_with fail
      go_quiet (fail)
      go_wp2
      go_roundw
      case rel => exact ⟨j + 1, by omega, by go_num, below_drewN HB.out nq⟩
      case measure => simp [intOf]; omega
    · obtain rfl : j = ps.length := by omega
      go_wp2
      go_ret
      exact ⟨rfl, hb⟩

set_option maxHeartbeats 4000000 in
theorem markBoolS_any (w : World) (lo hi : Nat) (v : Value) (ps : List Bool) (k : Int) (h : GO bool2 w lo hi v ps) (hhi : hi ≤ w.heap.size) (hx : ps.length ≤ 1048576) (hk : 0 ≤ k) (hk' : k ≤ 1000000000000) :
    Calls Tryz.prog 120 #[v, .int .i64 k] w fun e w' => e = .returned (.int .i64 (k + (ps.length : Int))) ∧ GO bool2 w' lo hi v (marksG bool2 mB k ps.length) ∧ Out lo hi w w' := by
  rcases h with ⟨rfl, a, cap, rfl, hm⟩ | ⟨g, off, cap, rfl, h1, h2, h3, h4, h5, h6⟩
  · unfold maxLen at hm
    go_enter Tryz.func120, Tryz.ntmps120
    go_wp2
    go_loopw [1, 5] (fun q i wr => q = .int .i64 k ∧ i = .int .i64 0 ∧ wr = w) (fun _ _ _ => 0)
    case atStart => exact ⟨rfl, rfl, rfl⟩
    case round =>
      obtain ⟨rfl, rfl, rfl⟩ := hrel
      go_wp2
      go_ret
      exact ⟨by simp, .inl ⟨rfl, a, cap, rfl, by unfold maxLen; omega⟩, ⟨rfl, rfl, rfl, Nat.le_refl _, fun _ _ _ => rfl⟩⟩
  · have hI : MarkG bool2 mB k w g off ps.length 0 w := ⟨room_of (E := bool2) hhi h4 h5 h6 (fun _ => rfl) (by decide), fun i hi => by omega⟩
    have HC : Hid (cap ≤ maxLen) := h2
    unfold maxLen at h2
    clear h5 h6
    go_enter Tryz.func120, Tryz.ntmps120
    go_wp2
    go_loopw [1, 5] (fun q i wr => ∃ j : Nat, j ≤ ps.length ∧ q = .int .i64 (k + (j : Int)) ∧ i = .int .i64 j ∧ MarkG bool2 mB k w g off ps.length j wr) (fun _ i _ => ps.length - (intOf i).toNat)
    case atStart => exact ⟨0, Nat.zero_le _, by simp, rfl, hI⟩
    case round =>
      clear hI
      obtain ⟨j, hj, rfl, rfl, hI⟩ := hrel
      by_cases hlt : j < ps.length
      · have hlt' : (j : Int) < (ps.length : Int) := by omega
        have hM : 0 ≤ k + (j : Int) ∧ k + (j : Int) ≤ 1000100000000 := by omega
        have HS : Hid (k + (j : Int) + 1 = k + ((j + 1 : Nat) : Int)) := by show _ = _; omega
        have hsome : (wr.cell? ⟨g, off + j, none⟩).isSome = true := hI.room.some_ _ (by omega) (by show _ < off + ps.length * 1; omega)
        have hfz : wr.frozen? ⟨g, off + j, none⟩ = false := hI.room.fz _ (by omega)
        have HI : Hid (MarkG bool2 mB k w g off ps.length j wr) := hI
        have HKJ : Hid (k + (((1 * j : Nat)) : Int) = k + (j : Int)) := by show _ = _; omega
        clear hI
        obtain ⟨M, hM'⟩ : ∃ M, k + (j : Int) = M := ⟨_, rfl⟩
        have HMM : Hid (k + (j : Int) = M) := hM'
        rw [hM'] at hM HS HKJ ⊢
        clear hM'
        go_wp2_with (refine wpList_store1G Tryz.sizeOf4 (z := .bool (M % 3 == 0)) _ _ rfl rfl rfl rfl rfl rfl hsome hfz ?_)
        intro u L
        have I1 := HI.out.store L (by show off + j * 1 ≤ _; omega)
        have HN : Hid (MarkG bool2 mB k w g off ps.length (j + 1) u) := I1.next (by
          show CV u g (off + j * 1) [.bool (mB (k + ((1 * j : Nat) : Int)))]
          rw [HKJ.out, Nat.mul_one]
          exact L.cv)
        clear L I1 hsome hfz
        go_wp2
        go_roundw
        case rel => exact ⟨j + 1, by omega, by rw [← HS.out], by go_num, HN.out⟩
        case measure => simp [intOf]; omega
      · obtain rfl : j = ps.length := by omega
        have HN : Hid (GO bool2 wr lo hi (.slice (some ⟨g, off, none⟩) ps.length cap) (marksG bool2 mB k ps.length) ∧ Out lo hi w wr) := ⟨hI.go h1 HC.out h3 h4, hI.out h3 h4⟩
        clear hI
        go_wp2
        go_ret
        exact ⟨rfl, HN.out.1, HN.out.2⟩

set_option maxHeartbeats 4000000 in
theorem heldBoolS_any (w : World) (lo hi : Nat) (v : Value) (n : Nat) (k : Int) (h : GR bool2 w lo hi v (marksG bool2 mB k n)) (hhi : hi ≤ w.heap.size) (hx : n ≤ 1048576) (hk : 0 ≤ k) (hk' : k ≤ 1000000000000) :
    Calls Tryz.prog 123 #[v, .int .i64 k] w fun e w' => e = .returned (.int .i64 (k + (n : Int))) ∧ w' = w := by
  have hat := fun (i : Nat) (hi' : i < n) => h.at_ (marksG_at (E := bool2) (f := mB) (k := k) hi')
  obtain ⟨ad, cap, rfl, h1, h2⟩ := h.shape
  rw [marksG_length] at hat h1 ⊢
  unfold maxLen at h2
  have HAT : Hid (∀ (i : Nat), i < n → ∃ b off cap', (Value.slice ad n cap) = .slice (some ⟨b, off, none⟩) n cap' ∧ lo ≤ b ∧ b < hi ∧ CV w b (off + i * bool2.k) (bool2.cells (mB (k + ((bool2.k * i : Nat) : Int))))) := hat
  clear hat h
  go_enter Tryz.func123, Tryz.ntmps123
  go_wp2
  go_loopw [1, 5] (fun q i wr => ∃ j : Nat, j ≤ n ∧ q = .int .i64 (k + (j : Int)) ∧ i = .int .i64 j ∧ wr = w) (fun _ i _ => n - (intOf i).toNat)
  case atStart => exact ⟨0, Nat.zero_le _, by simp, rfl, rfl⟩
  case round =>
    obtain ⟨j, hj, rfl, rfl, rfl⟩ := hrel
    by_cases hlt : j < n
    · obtain ⟨b, off, cap', hv, hb1, hb2, hc⟩ := HAT.out j hlt
      simp only [Value.slice.injEq, true_and] at hv
      obtain ⟨rfl, rfl⟩ := hv
      have hlt' : (j : Int) < (n : Int) := by omega
      have hM : 0 ≤ k + (j : Int) ∧ k + (j : Int) ≤ 1000100000000 := by omega
      have HS : Hid (k + (j : Int) + 1 = k + ((j + 1 : Nat) : Int)) := by show _ = _; omega
      have c1 : wr.cell? ⟨b, off + j, none⟩ = some (.bool ((k + (j : Int)) % 3 == 0)) := by
        have := hc 0 _ rfl
        rw [Nat.add_zero, show j * bool2.k = j from Nat.mul_one j] at this
        rw [this]
        show some (Value.bool (mB (k + ((1 * j : Nat) : Int)))) = _
        rw [Nat.one_mul]; rfl
      clear hc
      obtain ⟨M, hM'⟩ : ∃ M, k + (j : Int) = M := ⟨_, rfl⟩
      rw [hM'] at hM HS c1 ⊢
      clear hM'
      have hq : ((M % 3 == 0) != (M % 3 == 0)) = false := by simp
      go_wp2
      go_roundw
      case rel => exact ⟨j + 1, by omega, by rw [← HS.out], by go_num, trivial⟩
      case measure => simp [intOf]; omega
    · obtain rfl : j = n := by omega
      go_wp2
      go_ret
      exact ⟨rfl, rfl⟩
end Go.Proofs.YtaoiookfmgpmkaaGreatDoor
