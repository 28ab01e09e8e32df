/-
  States of nets in memory: a list of blocks and a list of bools; eqState, markState, heldState. (Written by our generator gen_statekit.py.)
-/
import Derived.Test.YtaoiookfmgpmkaaGreatDoorBoolKit
import Derived.Test.YtaoiookfmgpmkaaGreatDoorNetData
import Derived.Test.YtaoiookfmgpmkaaGreatDoorBlockSpec
namespace Go.Proofs.YtaoiookfmgpmkaaGreatDoor
open Go.ChangeShapes Go.WideShapes Go.ChangeAt Go.RowKit
set_option linter.unusedVariables false
set_option linter.unusedSimpArgs false
set_option maxRecDepth 100000

/-- A block's marks. -/
def mBl (k : Int) : BlockD := ⟨k, k + 1, mB (k + 2), mB (k + 3), k + 4⟩

set_option maxHeartbeats 4000000 in
theorem eqBlockS_same (w : World) (lo hi lo' hi' : Nat) (va vb : Value) (ps : List BlockD) (ha : GR blockE w lo hi va ps) (hb' : GR blockE w lo' hi' vb ps) (hhi : hi ≤ w.heap.size) (hhi' : hi' ≤ w.heap.size) :
    Calls Tryz.prog 116 #[va, vb] w fun e w' => e = .returned (.bool true) ∧ Below w.heap.size w w' := by
  obtain ⟨ad, cap, rfl, h1, h2⟩ := ha.shape
  obtain ⟨ad', cap', rfl, h1', h2'⟩ := hb'.shape
  have HK : Hid (GR blockE w lo hi (.slice ad ps.length cap) ps ∧ GR blockE w lo' hi' (.slice ad' ps.length cap') ps) := ⟨ha, hb'⟩
  clear ha hb'
  unfold maxLen at h2 h2'
  have hl2 : ((ps.length : Int) != (ps.length : Int)) = false := by simp
  go_enter Tryz.func116, Tryz.ntmps116
  go_wp2_with fail
  go_loopw [5] (fun i wr => ∃ j : Nat, j ≤ ps.length ∧ i = .int .i64 j ∧ Below w.heap.size w wr) (fun i _ => ps.length - (intOf i).toNat)
  case atStart => exact ⟨0, Nat.zero_le _, rfl, Below.refl _ _⟩
  case round =>
    obtain ⟨j, hj, rfl, hb⟩ := hrel
    have hsz := hb.size
    by_cases hlt : j < ps.length
    · obtain ⟨x, hx⟩ : ∃ x, ps[j]? = some x := ⟨ps[j], List.getElem?_eq_getElem hlt⟩
      obtain ⟨b, off, capx, hv, hb1, hb2, h5⟩ := HK.out.1.at_ hx
      obtain ⟨b', off', capy, hv', hb1', hb2', h5'⟩ := HK.out.2.at_ hx
      simp only [Value.slice.injEq, true_and] at hv hv'
      obtain ⟨rfl, rfl⟩ := hv
      obtain ⟨rfl, rfl⟩ := hv'
      have h5 : CV w b (off + j * 5) (blockC x) := h5
      have h5' : CV w b' (off' + j * 5) (blockC x) := h5'
      clear hx
      go_wp2_with fail
      refine wp_region_dag (R := Grow) (Φ := fun i v u => match i with
          | 0 => v = .slice (some ⟨b, off, none⟩) ps.length cap
          | 1 => v = .int .i64 j
          | 2 => v = .pointer (some ⟨b, off + j * 5, none⟩)
          | 3 => v = .agg (blockC x).toArray
          | 4 => v = .slice (some ⟨b', off', none⟩) ps.length cap'
          | 5 => v = .int .i64 j
          | 6 => v = .pointer (some ⟨b', off' + j * 5, none⟩)
          | 7 => v = .agg (blockC x).toArray
          | 8 => v = .bool true
          | 9 => v = .bool false
          | _ => True) (by kernel_rfl) (by kernel_rfl) (by kernel_rfl) (Below.refl _ _) grow_trans ?_ ?_ ?_
      · intro i v u u' hr
        match i with
        | 0 | 1 | 2 | 3 | 4 | 5 | 6 | 7 | 8 | 9 | _ + 10 => exact fun h => h
      · intro i o ho a u hf hR0 he K' hK
        have hR : Grow wr u := (Below.drew (Below.refl _ _)).trans hR0
        have hsz' : a.tmps.size = 27 := hf.size
        have hus : wr.heap.size ≤ u.heap.size := hR.size
        rcases i with _ | _ | _ | _ | _ | _ | _ | _ | _ | _ | i
        · obtain rfl := Option.some.inj ho
          have q0 : a.tmps.getD 0 undef = .slice (some ⟨b, off, none⟩) ps.length cap := hf.at_ 0 (by kernel_rfl)
          clear he
          go_simp
          exact hK _ _ (Below.refl _ _) (getD_put_self a 17 _ (by show _ < a.tmps.size; omega))
        · obtain rfl := Option.some.inj ho
          have q5 : a.tmps.getD 5 undef = .int .i64 j := hf.at_ 5 (by kernel_rfl)
          clear he
          go_simp
          exact hK _ _ (Below.refl _ _) (getD_put_self a 18 _ (by show _ < a.tmps.size; omega))
        · obtain rfl := Option.some.inj ho
          have q17 : a.tmps.getD 17 undef = .slice (some ⟨b, off, none⟩) ps.length cap := he _ (Array.mem_of_getElem? (i := 0) rfl) (by kernel_rfl) _ rfl
          have q18 : a.tmps.getD 18 undef = .int .i64 j := he _ (Array.mem_of_getElem? (i := 1) rfl) (by kernel_rfl) _ rfl
          clear he
          go_simp
          exact hK _ _ (Below.refl _ _) (getD_put_self a 19 _ (by show _ < a.tmps.size; omega))
        · obtain rfl := Option.some.inj ho
          have q19 : a.tmps.getD 19 undef = .pointer (some ⟨b, off + j * 5, none⟩) := he _ (Array.mem_of_getElem? (i := 0) rfl) (by kernel_rfl) _ rfl
          clear he
          refine wantedG rfl (wp_loadG Tryz.isAgg165 Tryz.sizeOf165 (vs := blockC x) _ rfl q19 rfl (h5.kept ((hb.trans (hR.mono hsz)).block b (by omega))) ?_)
          exact hK _ _ (Below.refl _ _) (getD_put_self a 20 _ (by show _ < a.tmps.size; omega))
        · obtain rfl := Option.some.inj ho
          have q1 : a.tmps.getD 1 undef = .slice (some ⟨b', off', none⟩) ps.length cap' := hf.at_ 1 (by kernel_rfl)
          clear he
          go_simp
          exact hK _ _ (Below.refl _ _) (getD_put_self a 21 _ (by show _ < a.tmps.size; omega))
        · obtain rfl := Option.some.inj ho
          have q5 : a.tmps.getD 5 undef = .int .i64 j := hf.at_ 5 (by kernel_rfl)
          clear he
          go_simp
          exact hK _ _ (Below.refl _ _) (getD_put_self a 22 _ (by show _ < a.tmps.size; omega))
        · obtain rfl := Option.some.inj ho
          have q21 : a.tmps.getD 21 undef = .slice (some ⟨b', off', none⟩) ps.length cap' := he _ (Array.mem_of_getElem? (i := 0) rfl) (by kernel_rfl) _ rfl
          have q22 : a.tmps.getD 22 undef = .int .i64 j := he _ (Array.mem_of_getElem? (i := 1) rfl) (by kernel_rfl) _ rfl
          clear he
          go_simp
          exact hK _ _ (Below.refl _ _) (getD_put_self a 23 _ (by show _ < a.tmps.size; omega))
        · obtain rfl := Option.some.inj ho
          have q23 : a.tmps.getD 23 undef = .pointer (some ⟨b', off' + j * 5, none⟩) := he _ (Array.mem_of_getElem? (i := 0) rfl) (by kernel_rfl) _ rfl
          clear he
          refine wantedG rfl (wp_loadG Tryz.isAgg165 Tryz.sizeOf165 (vs := blockC x) _ rfl q23 rfl (h5'.kept ((hb.trans (hR.mono hsz)).block b' (by omega))) ?_)
          exact hK _ _ (Below.refl _ _) (getD_put_self a 24 _ (by show _ < a.tmps.size; omega))
        · obtain rfl := Option.some.inj ho
          have q20 : a.tmps.getD 20 undef = .agg (blockC x).toArray := he _ (Array.mem_of_getElem? (i := 0) rfl) (by kernel_rfl) _ rfl
          have q24 : a.tmps.getD 24 undef = .agg (blockC x).toArray := he _ (Array.mem_of_getElem? (i := 1) rfl) (by kernel_rfl) _ rfl
          clear he
          go_simp
          refine (eqBlock_same u x).mono ?_
          rintro e1 u' ⟨rfl, hbu⟩
          exact hK _ _ hbu (getD_put_self a 25 _ (by show _ < a.tmps.size; omega))
        · obtain rfl := Option.some.inj ho
          have q25 : a.tmps.getD 25 undef = .bool true := he _ (Array.mem_of_getElem? (i := 0) rfl) (by kernel_rfl) _ rfl
          clear he
          go_simp
          exact hK _ _ (Below.refl _ _) (getD_put_self a 26 _ (by show _ < a.tmps.size; omega))
        · exact absurd ho (by simp)
      · intro a u hf hR0 hp
        have hR : Grow wr u := (Below.drew (Below.refl _ _)).trans hR0
        have md : a.defers = [] := hf.defers
        have m0 : a.tmps.getD 0 undef = .slice (some ⟨b, off, none⟩) ps.length cap := hf.at_ 0 (by kernel_rfl)
        have m1 : a.tmps.getD 1 undef = .slice (some ⟨b', off', none⟩) ps.length cap' := hf.at_ 1 (by kernel_rfl)
        have m2 : a.tmps.getD 2 undef = undef := hf.at_ 2 (by kernel_rfl)
        have m3 : a.tmps.getD 3 undef = undef := hf.at_ 3 (by kernel_rfl)
        have m5 : a.tmps.getD 5 undef = .int .i64 j := hf.at_ 5 (by kernel_rfl)
        have m6 : a.tmps.getD 6 undef = .slice (some ⟨b, off, none⟩) ps.length cap := hf.at_ 6 (by kernel_rfl)
        have m7 : a.tmps.getD 7 undef = .int .i64 ps.length := hf.at_ 7 (by kernel_rfl)
        have m8 : a.tmps.getD 8 undef = .slice (some ⟨b', off', none⟩) ps.length cap' := hf.at_ 8 (by kernel_rfl)
        have m9 : a.tmps.getD 9 undef = .int .i64 ps.length := hf.at_ 9 (by kernel_rfl)
        have m10 : a.tmps.getD 10 undef = .bool false := hf.at_ 10 (by kernel_rfl)
        have m26 : a.tmps.getD 26 undef = .bool false := hp 9 _ rfl
        obtain ⟨f, ea, hfv⟩ := act_lit a 27 hf.size
        rw [← hfv] at m0 m1 m2 m3 m5 m6 m7 m8 m9 m10 m26
        rw [md] at ea
        simp only [List.range, List.range.loop, List.map_cons, List.map_nil, m0, m1, m2, m3, m5, m6, m7, m8, m9, m10, m26] at ea
        subst ea
        clear hfv hf md hp hR0
        clear h5 h5'
        go_wp2
        go_roundw
        case rel => exact ⟨j + 1, by omega, by go_num, hb.trans (hR.mono hsz)⟩
        case measure => simp [intOf]; omega
    · obtain rfl : j = ps.length := by omega
      go_wp2
      go_ret
      exact ⟨rfl, hb⟩

set_option maxHeartbeats 8000000 in
theorem markBlockS_any (w : World) (lo hi : Nat) (v : Value) (ps : List BlockD) (k : Int) (h : GO blockE w lo hi v ps) (hhi : hi ≤ w.heap.size) (hx : ps.length ≤ 1048576) (hk : 0 ≤ k) (hk' : k ≤ 1000000000000) :
    Calls Tryz.prog 119 #[v, .int .i64 k] w fun e w' => e = .returned (.int .i64 (k + 5 * (ps.length : Int))) ∧ GO blockE w' lo hi v (marksG blockE mBl k ps.length) ∧ Out lo hi w w' := by
  rcases h with ⟨rfl, a, cap, rfl, hm⟩ | ⟨g, off, cap, rfl, h1, h2, h3, h4, h5, h6⟩
  · unfold maxLen at hm
    go_enter Tryz.func119, Tryz.ntmps119
    go_wp2
    go_loopw [1, 5] (fun q i wr => q = .int .i64 k ∧ i = .int .i64 0 ∧ wr = w) (fun _ _ _ => 0)
    case atStart => exact ⟨rfl, rfl, rfl⟩
    case round =>
      obtain ⟨rfl, rfl, rfl⟩ := hrel
      go_wp2
      go_ret
      exact ⟨by simp, .inl ⟨rfl, a, cap, rfl, by unfold maxLen; omega⟩, ⟨rfl, rfl, rfl, Nat.le_refl _, fun _ _ _ => rfl⟩⟩
  · have hI : MarkG blockE mBl k w g off ps.length 0 w := ⟨room_of (E := blockE) hhi h4 h5 h6 (fun _ => rfl) (by decide), fun i hi => by omega⟩
    have HC : Hid (cap ≤ maxLen) := h2
    unfold maxLen at h2
    clear h5 h6
    go_enter Tryz.func119, Tryz.ntmps119
    go_wp2
    go_loopw [1, 5] (fun q i wr => ∃ j : Nat, j ≤ ps.length ∧ q = .int .i64 (k + 5 * (j : Int)) ∧ i = .int .i64 j ∧ MarkG blockE mBl k w g off ps.length j wr) (fun _ i _ => ps.length - (intOf i).toNat)
    case atStart => exact ⟨0, Nat.zero_le _, by simp, rfl, hI⟩
    case round =>
      clear hI
      obtain ⟨j, hj, rfl, rfl, hI⟩ := hrel
      by_cases hlt : j < ps.length
      · have hlt' : (j : Int) < (ps.length : Int) := by omega
        have hM : 0 ≤ k + 5 * (j : Int) ∧ k + 5 * (j : Int) ≤ 1000100000000 := by omega
        have HS : Hid (k + 5 * (j : Int) + 5 = k + 5 * ((j + 1 : Nat) : Int)) := by show _ = _; omega
        have HKJ : Hid (k + (((5 * j : Nat)) : Int) = k + 5 * (j : Int)) := by show _ = _; omega
        have HO : Hid (off + j * 5 + 5 ≤ off + ps.length * 5) := by show _ ≤ _; omega
        have C0 := cv_nil wr g (off + j * 5)
        obtain ⟨M, hM'⟩ : ∃ M, k + 5 * (j : Int) = M := ⟨_, rfl⟩
        have HMM : Hid (k + 5 * (j : Int) = M) := hM'
        rw [hM'] at hM HS HKJ ⊢
        clear hM'
        have hs0 : (wr.cell? ⟨g, off + j * 5, none⟩).isSome = true := hI.room.some_ _ (by omega) (by have := HO.out; show _ < off + ps.length * 5; omega)
        have hz0 : wr.frozen? ⟨g, off + j * 5, none⟩ = false := hI.room.fz _ (by omega)
        go_wp2_with (refine wpList_store1G Tryz.sizeOf3 _ _ rfl rfl rfl rfl rfl rfl hs0 hz0 ?_)
        intro wr1 L0
        have I0 := hI.store L0 (by show off + j * 5 ≤ _; omega)
        have C1 := C0.snoc L0 (by simp)
        clear L0 hI C0 hs0 hz0
        have hs1 : (wr1.cell? ⟨g, off + j * 5 + 1, none⟩).isSome = true := I0.room.some_ _ (by omega) (by have := HO.out; show _ < off + ps.length * 5; omega)
        have hz1 : wr1.frozen? ⟨g, off + j * 5 + 1, none⟩ = false := I0.room.fz _ (by omega)
        go_wp2_with (refine wpList_store1G Tryz.sizeOf3 _ _ rfl rfl rfl rfl rfl rfl hs1 hz1 ?_)
        intro wr2 L1
        have I1 := I0.store L1 (by show off + j * 5 ≤ _; omega)
        have C2 := C1.snoc L1 (by simp)
        clear L1 I0 C1 hs1 hz1
        have hs2 : (wr2.cell? ⟨g, off + j * 5 + 2, none⟩).isSome = true := I1.room.some_ _ (by omega) (by have := HO.out; show _ < off + ps.length * 5; omega)
        have hz2 : wr2.frozen? ⟨g, off + j * 5 + 2, none⟩ = false := I1.room.fz _ (by omega)
        go_wp2_with (refine wpList_store1G Tryz.sizeOf4 (z := .bool (((M + 1 + 1) : Int) % 3 == 0)) _ _ rfl rfl rfl rfl rfl rfl hs2 hz2 ?_)
        intro wr3 L2
        have I2 := I1.store L2 (by show off + j * 5 ≤ _; omega)
        have C3 := C2.snoc L2 (by simp)
        clear L2 I1 C2 hs2 hz2
        have hs3 : (wr3.cell? ⟨g, off + j * 5 + 3, none⟩).isSome = true := I2.room.some_ _ (by omega) (by have := HO.out; show _ < off + ps.length * 5; omega)
        have hz3 : wr3.frozen? ⟨g, off + j * 5 + 3, none⟩ = false := I2.room.fz _ (by omega)
        go_wp2_with (refine wpList_store1G Tryz.sizeOf4 (z := .bool (((M + 1 + 1 + 1) : Int) % 3 == 0)) _ _ rfl rfl rfl rfl rfl rfl hs3 hz3 ?_)
        intro wr4 L3
        have I3 := I2.store L3 (by show off + j * 5 ≤ _; omega)
        have C4 := C3.snoc L3 (by simp)
        clear L3 I2 C3 hs3 hz3
        have hs4 : (wr4.cell? ⟨g, off + j * 5 + 4, none⟩).isSome = true := I3.room.some_ _ (by omega) (by have := HO.out; show _ < off + ps.length * 5; omega)
        have hz4 : wr4.frozen? ⟨g, off + j * 5 + 4, none⟩ = false := I3.room.fz _ (by omega)
        go_wp2_with (refine wpList_store1G Tryz.sizeOf3 _ _ rfl rfl rfl rfl rfl rfl hs4 hz4 ?_)
        intro wr5 L4
        have I4 := I3.store L4 (by show off + j * 5 ≤ _; omega)
        have C5 := C4.snoc L4 (by simp)
        clear L4 I3 C4 hs4 hz4
        have HN : Hid (MarkG blockE mBl k w g off ps.length (j + 1) wr5) := I4.next (by
          show CV wr5 g (off + j * 5) (blockC (mBl (k + ((5 * j : Nat) : Int))))
          rw [HKJ.out]
          unfold blockC mBl mB
          have e2 : M + 1 + 1 = M + 2 := by omega
          have e3 : M + 2 + 1 = M + 3 := by omega
          have e4 : M + 3 + 1 = M + 4 := by omega
          simp only [e4, e3, e2] at C5
          exact C5)
        clear I4 C5
        go_wp2
        go_roundw
        case rel => exact ⟨j + 1, by omega, by rw [← HS.out]; congr 1; omega, by go_num, HN.out⟩
        case measure => simp [intOf]; omega
      · obtain rfl : j = ps.length := by omega
        have HN : Hid (GO blockE wr lo hi (.slice (some ⟨g, off, none⟩) ps.length cap) (marksG blockE mBl k ps.length) ∧ Out lo hi w wr) := ⟨hI.go h1 HC.out h3 h4, hI.out h3 h4⟩
        clear hI
        go_wp2
        go_ret
        exact ⟨rfl, HN.out.1, HN.out.2⟩

set_option maxHeartbeats 8000000 in
theorem heldBlockS_any (w : World) (lo hi : Nat) (v : Value) (n : Nat) (k : Int) (h : GR blockE w lo hi v (marksG blockE mBl k n)) (hhi : hi ≤ w.heap.size) (hx : n ≤ 1048576) (hk : 0 ≤ k) (hk' : k ≤ 1000000000000) :
    Calls Tryz.prog 122 #[v, .int .i64 k] w fun e w' => e = .returned (.int .i64 (k + 5 * (n : Int))) ∧ w' = w := by
  have hat := fun (i : Nat) (hi' : i < n) => h.at_ (marksG_at (E := blockE) (f := mBl) (k := k) hi')
  obtain ⟨ad, cap, rfl, h1, h2⟩ := h.shape
  rw [marksG_length] at hat h1 ⊢
  unfold maxLen at h2
  have HAT : Hid (∀ (i : Nat), i < n → ∃ b off cap', (Value.slice ad n cap) = .slice (some ⟨b, off, none⟩) n cap' ∧ lo ≤ b ∧ b < hi ∧ CV w b (off + i * blockE.k) (blockE.cells (mBl (k + ((blockE.k * i : Nat) : Int))))) := hat
  clear hat h
  go_enter Tryz.func122, Tryz.ntmps122
  go_wp2
  go_loopw [1, 5] (fun q i wr => ∃ j : Nat, j ≤ n ∧ q = .int .i64 (k + 5 * (j : Int)) ∧ i = .int .i64 j ∧ wr = w) (fun _ i _ => n - (intOf i).toNat)
  case atStart => exact ⟨0, Nat.zero_le _, by simp, rfl, rfl⟩
  case round =>
    obtain ⟨j, hj, rfl, rfl, rfl⟩ := hrel
    by_cases hlt : j < n
    · obtain ⟨b, off, cap', hv, hb1, hb2, hc⟩ := HAT.out j hlt
      simp only [Value.slice.injEq, true_and] at hv
      obtain ⟨rfl, rfl⟩ := hv
      have hlt' : (j : Int) < (n : Int) := by omega
      have hM : 0 ≤ k + 5 * (j : Int) ∧ k + 5 * (j : Int) ≤ 1000100000000 := by omega
      have HS : Hid (k + 5 * (j : Int) + 5 = k + 5 * ((j + 1 : Nat) : Int)) := by show _ = _; omega
      have hc : CV wr b (off + j * 5) (blockC (mBl (k + ((5 * j : Nat) : Int)))) := hc
      rw [show k + ((5 * j : Nat) : Int) = k + 5 * (j : Int) by omega] at hc
      obtain ⟨M, hM'⟩ : ∃ M, k + 5 * (j : Int) = M := ⟨_, rfl⟩
      rw [hM'] at hM HS hc ⊢
      clear hM'
      have c0 : wr.cell? ⟨b, off + j * 5, none⟩ = some (.int .i64 M) := hc 0 _ rfl
      have c1 : wr.cell? ⟨b, off + j * 5 + 1, none⟩ = some (.int .i64 (M + 1)) := hc 1 _ rfl
      have c2 : wr.cell? ⟨b, off + j * 5 + 2, none⟩ = some (.bool ((M + 1 + 1) % 3 == 0)) := by rw [show M + 1 + 1 = M + 2 by omega]; exact hc 2 _ rfl
      have c3 : wr.cell? ⟨b, off + j * 5 + 3, none⟩ = some (.bool ((M + 1 + 1 + 1) % 3 == 0)) := by rw [show M + 1 + 1 + 1 = M + 3 by omega]; exact hc 3 _ rfl
      have c4 : wr.cell? ⟨b, off + j * 5 + 4, none⟩ = some (.int .i64 (M + 1 + 1 + 1 + 1)) := by rw [show M + 1 + 1 + 1 + 1 = M + 4 by omega]; exact hc 4 _ rfl
      clear hc
      have q0 : (M != M) = false := by simp
      have q1 : (M + 1 != M + 1) = false := by simp
      have q2 : (((M + 1 + 1) % 3 == 0) != ((M + 1 + 1) % 3 == 0)) = false := by simp
      have q3 : (((M + 1 + 1 + 1) % 3 == 0) != ((M + 1 + 1 + 1) % 3 == 0)) = false := by simp
      have q4 : (M + 1 + 1 + 1 + 1 != M + 1 + 1 + 1 + 1) = false := by simp
      go_wp2
      go_roundw
      case rel => exact ⟨j + 1, by omega, by rw [← HS.out]; congr 1; omega, by go_num, trivial⟩
      case measure => simp [intOf]; omega
    · obtain rfl : j = n := by omega
      go_wp2
      go_ret
      exact ⟨rfl, rfl⟩

structure StateD where
  bs : List BlockD
  ls : List Bool
deriving DecidableEq

/-- Marks that can be read. -/
def StR (w : World) (lo hi : Nat) (v : Value) (m : StateD) : Prop := ∃ a b, v = .agg #[a, b] ∧ GR blockE w lo hi a m.bs ∧ GR bool2 w lo hi b m.ls
/-- Marks that are owned, the two lists apart. -/
def StO (w : World) (lo hi : Nat) (v : Value) (m : StateD) : Prop := ∃ a b l1 h1 l2 h2, v = .agg #[a, b] ∧ GO blockE w l1 h1 a m.bs ∧ GO bool2 w l2 h2 b m.ls ∧ (lo ≤ l1 ∧ h1 ≤ hi) ∧ (lo ≤ l2 ∧ h2 ≤ hi) ∧ (h1 ≤ l2 ∨ h2 ≤ l1)

theorem StO.r {w : World} {lo hi : Nat} {v : Value} {m : StateD} (h : StO w lo hi v m) : StR w lo hi v m := by
  obtain ⟨a, b, l1, h1, l2, h2, hv, ha, hb, q1, q2, _⟩ := h
  exact ⟨a, b, hv, ha.gr.wide q1.1 q1.2, hb.gr.wide q2.1 q2.2⟩
theorem StR.under {w w' : World} {lo hi n : Nat} {v : Value} {m : StateD} (h : StR w lo hi v m) (hb : Below n w w') (hn : hi ≤ n) : StR w' lo hi v m := by
  obtain ⟨a, b, hv, h1, h2⟩ := h; exact ⟨a, b, hv, h1.under hb hn, h2.under hb hn⟩
theorem StO.kept_ {w w' : World} {lo hi : Nat} {v : Value} {m : StateD} (h : StO w lo hi v m) (hk : ∀ k, lo ≤ k → k < hi → w'.heap[k]? = w.heap[k]?) : StO w' lo hi v m := by
  obtain ⟨a, b, l1, h1, l2, h2, hv, ha, hb, q1, q2, q3⟩ := h
  exact ⟨a, b, l1, h1, l2, h2, hv, ha.kept fun k r1 r2 => hk k (by omega) (by omega), hb.kept fun k r1 r2 => hk k (by omega) (by omega), q1, q2, q3⟩
theorem StO.below {w w' : World} {lo hi n : Nat} {v : Value} {m : StateD} (h : StO w lo hi v m) (hb : Below n w w') (hn : hi ≤ n) : StO w' lo hi v m := h.kept_ fun k _ hk => hb.block k (by omega)
theorem StO.out {w w' : World} {lo hi lo' hi' : Nat} {v : Value} {m : StateD} (h : StO w lo hi v m) (g : Out lo' hi' w w') (h1 : hi ≤ lo' ∨ hi' ≤ lo) (hs : hi ≤ w.heap.size) : StO w' lo hi v m := h.kept_ fun k q1 q2 => g.block k (by omega) (by omega)
theorem StO.wide {w : World} {lo hi lo' hi' : Nat} {v : Value} {m : StateD} (h : StO w lo hi v m) (hl : lo' ≤ lo) (hh : hi ≤ hi') : StO w lo' hi' v m := by
  obtain ⟨a, b, l1, h1, l2, h2, hv, ha, hb, q1, q2, q3⟩ := h
  exact ⟨a, b, l1, h1, l2, h2, hv, ha, hb, ⟨by omega, by omega⟩, ⟨by omega, by omega⟩, q3⟩
theorem StO.shape {w : World} {lo hi : Nat} {v : Value} {q : StateD} (h : StO w lo hi v q) : ∃ a c b e, v = .agg #[.slice a q.bs.length c, .slice b q.ls.length e] := by
  obtain ⟨a, b, l1, h1, l2, h2, rfl, ha, hb, _⟩ := h
  obtain ⟨x, c, rfl⟩ := ha.shapeO
  obtain ⟨y, e, rfl⟩ := hb.shapeO
  exact ⟨x, c, y, e, rfl⟩

def StOn (m : StateD) : Nat := 5 * m.bs.length + m.ls.length
def mkState (k : Int) (m : StateD) : StateD := ⟨marksG blockE mBl k m.bs.length, marksG bool2 mB (k + 5 * (m.bs.length : Int)) m.ls.length⟩

set_option maxHeartbeats 2000000 in
theorem eqStO_same (w : World) (lo hi lo' hi' : Nat) (va vb : Value) (m : StateD) (ha : StR w lo hi va m) (hb : StR w lo' hi' vb m) (hhi : hi ≤ w.heap.size) (hhi' : hi' ≤ w.heap.size) :
    Calls Tryz.prog 37 #[va, vb] w fun e w' => e = .returned (.bool true) ∧ Below w.heap.size w w' := by
  obtain ⟨xa, xb, rfl, hxa, hxb⟩ := ha
  obtain ⟨ya, yb, rfl, hya, hyb⟩ := hb
  obtain ⟨ad1, cap1, rfl, _, _⟩ := hxa.shape
  obtain ⟨ad2, cap2, rfl, _, _⟩ := hxb.shape
  obtain ⟨ad3, cap3, rfl, _, _⟩ := hya.shape
  obtain ⟨ad4, cap4, rfl, _, _⟩ := hyb.shape
  have HK : Hid ((GR blockE w lo hi (.slice ad1 m.bs.length cap1) m.bs ∧ GR bool2 w lo hi (.slice ad2 m.ls.length cap2) m.ls) ∧ (GR blockE w lo' hi' (.slice ad3 m.bs.length cap3) m.bs ∧ GR bool2 w lo' hi' (.slice ad4 m.ls.length cap4) m.ls)) := ⟨⟨hxa, hxb⟩, hya, hyb⟩
  clear hxa hxb hya hyb
  go_enter Tryz.func37, Tryz.ntmps37
  go_wp2_with (refine wpList_boxG (vs := [.slice ad1 m.bs.length cap1, .slice ad2 m.ls.length cap2]) rfl _ rfl rfl ?_)
  intro u1 g1 p1 s1
  go_wp2_with (refine wpList_boxG (vs := [.slice ad3 m.bs.length cap3, .slice ad4 m.ls.length cap4]) rfl _ rfl rfl ?_)
  intro u2 g2 q2 s2
  have p2 := p1.below g2 (by omega)
  have G2 := g1.trans (g2.mono (by omega))
  clear g1 g2 p1
  have c0 : u2.cell? ⟨w.heap.size, 0, none⟩ = some (.slice ad1 m.bs.length cap1) := p2.c 0 _ rfl
  have d0 : u2.cell? ⟨w.heap.size + 1, 0, none⟩ = some (.slice ad3 m.bs.length cap3) := q2.c 0 _ rfl
  go_wp2_with fail
  clear c0 d0
  refine (eqBlockS_same _ _ _ _ _ _ _ m.bs (HK.out.1.1.under G2 hhi) (HK.out.2.1.under G2 hhi') (by omega) (by omega)).mono ?_
  rintro e3 u3 ⟨rfl, g3⟩
  have z3 := g3.size
  have c1 : u3.cell? ⟨w.heap.size, 1, none⟩ = some (.slice ad2 m.ls.length cap2) := (p2.below g3 (by omega)).c 1 _ rfl
  have d1 : u3.cell? ⟨w.heap.size + 1, 1, none⟩ = some (.slice ad4 m.ls.length cap4) := (q2.below g3 (by omega)).c 1 _ rfl
  have G3 := G2.trans (g3.mono (by omega))
  clear g3 G2 p2 q2
  go_wp2_with fail
  clear c1 d1
  refine (eqBoolS_same _ _ _ _ _ _ _ m.ls (HK.out.1.2.under G3 hhi) (HK.out.2.2.under G3 hhi') (by omega) (by omega)).mono ?_
  rintro e4 u4 ⟨rfl, g4⟩
  have G4 := G3.trans (g4.mono (by omega))
  clear g4 G3
  go_wp2
  go_ret
  exact ⟨rfl, G4⟩

set_option maxHeartbeats 4000000 in
theorem markStO_any (w : World) (lo hi : Nat) (v : Value) (m : StateD) (k : Int) (h : StO w lo hi v m) (hhi : hi ≤ w.heap.size) (hx : m.bs.length ≤ 8 ∧ m.ls.length ≤ 8) (hk : 0 ≤ k ∧ k ≤ 1000000) :
    Calls Tryz.prog 39 #[v, .int .i64 k] w fun e w' => e = .returned (.int .i64 (k + (StOn m : Int))) ∧ StO w' lo hi v (mkState k m) ∧ Out lo hi w w' := by
  obtain ⟨va, vb, l1, h1, l2, h2, rfl, hA, hB, q1, q2, q3⟩ := h
  obtain ⟨ad, cap, rfl⟩ := hA.shapeO
  obtain ⟨ad', cap', rfl⟩ := hB.shapeO
  obtain ⟨x1, x2⟩ := hx
  obtain ⟨k1, k2⟩ := hk
  have HW : Hid (GO blockE w l1 h1 (.slice ad m.bs.length cap) m.bs ∧ GO bool2 w l2 h2 (.slice ad' m.ls.length cap') m.ls) := ⟨hA, hB⟩
  clear hA hB
  go_enter Tryz.func39, Tryz.ntmps39
  go_wp2_with (refine wpList_boxG (vs := [.slice ad m.bs.length cap, .slice ad' m.ls.length cap']) rfl _ rfl rfl ?_)
  intro u1 g1 p1 s1
  have c0 : u1.cell? ⟨w.heap.size, 0, none⟩ = some (.slice ad m.bs.length cap) := p1.c 0 _ rfl
  go_wp2_with fail
  clear c0
  refine (markBlockS_any u1 l1 h1 _ m.bs k (HW.out.1.under g1 (by omega)) (by omega) (by omega) k1 (by omega)).mono ?_
  rintro e2 u2 ⟨rfl, A2, o2⟩
  have s2 := o2.size
  have O2 : Out lo hi w u2 := (out_of_below g1 lo hi).trans (o2.widen (by omega) (by omega))
  have p2 : VarG u2 w.heap.size [.slice ad m.bs.length cap, .slice ad' m.ls.length cap'] := p1.at_ (o2.block w.heap.size (by omega) (by omega))
  have B2 : GO bool2 u2 l2 h2 (.slice ad' m.ls.length cap') m.ls := (HW.out.2.under g1 (by omega)).kept fun q r1 r2 => o2.block q (by omega) (by omega)
  obtain ⟨M, hM⟩ : ∃ z, k + 5 * (m.bs.length : Int) = z := ⟨_, rfl⟩
  have HM : Hid (k + 5 * (m.bs.length : Int) = M) := hM
  rw [hM]
  have b2 : 0 ≤ M ∧ M ≤ 50000000 := by omega
  have c1 : u2.cell? ⟨w.heap.size, 1, none⟩ = some (.slice ad' m.ls.length cap') := p2.c 1 _ rfl
  clear o2 hM p1 p2 g1
  go_wp2_with fail
  clear c1
  refine (markBoolS_any u2 l2 h2 _ m.ls M B2 (by omega) (by omega) b2.1 (by omega)).mono ?_
  rintro e3 u3 ⟨rfl, B3, o3⟩
  have A3 : GO blockE u3 l1 h1 (.slice ad m.bs.length cap) (marksG blockE mBl k m.bs.length) := A2.out o3 (by omega) (by omega)
  have O3 : Out lo hi w u3 := O2.trans (o3.widen (by omega) (by omega))
  have HF : Hid (StO u3 lo hi (.agg #[.slice ad m.bs.length cap, .slice ad' m.ls.length cap']) (mkState k m)) :=
    ⟨_, _, l1, h1, l2, h2, rfl, A3, by unfold mkState; rw [HM.out]; exact B3, q1, q2, q3⟩
  have HS : Hid (M + (m.ls.length : Int) = k + (StOn m : Int)) := by show _ = _; have := HM.out; unfold StOn; omega
  clear o3 O2 A2 A3 B3 B2
  go_wp2
  go_ret
  exact ⟨ret_int HS.out, HF.out, O3⟩

set_option maxHeartbeats 4000000 in
theorem heldStO_any (w : World) (lo hi : Nat) (v : Value) (m : StateD) (k : Int) (h : StO w lo hi v (mkState k m)) (hhi : hi ≤ w.heap.size) (hx : m.bs.length ≤ 8 ∧ m.ls.length ≤ 8) (hk : 0 ≤ k ∧ k ≤ 1000000) :
    Calls Tryz.prog 41 #[v, .int .i64 k] w fun e w' => e = .returned (.int .i64 (k + (StOn m : Int))) ∧ Below w.heap.size w w' := by
  obtain ⟨va, vb, rfl, hA, hB⟩ := h.r
  clear h
  have hA : GR blockE w lo hi va (marksG blockE mBl k m.bs.length) := hA
  have hB : GR bool2 w lo hi vb (marksG bool2 mB (k + 5 * (m.bs.length : Int)) m.ls.length) := hB
  obtain ⟨ad, cap, rfl, _, _⟩ := hA.shape
  obtain ⟨ad', cap', rfl, _, _⟩ := hB.shape
  rw [marksG_length] at hA hB ⊢
  rw [marksG_length]
  obtain ⟨x1, x2⟩ := hx
  obtain ⟨k1, k2⟩ := hk
  have HW : Hid (GR blockE w lo hi (.slice ad m.bs.length cap) (marksG blockE mBl k m.bs.length) ∧ GR bool2 w lo hi (.slice ad' m.ls.length cap') (marksG bool2 mB (k + 5 * (m.bs.length : Int)) m.ls.length)) := ⟨hA, hB⟩
  clear hA hB
  go_enter Tryz.func41, Tryz.ntmps41
  go_wp2_with (refine wpList_boxG (vs := [.slice ad m.bs.length cap, .slice ad' m.ls.length cap']) rfl _ rfl rfl ?_)
  intro u1 g1 p1 s1
  have c0 : u1.cell? ⟨w.heap.size, 0, none⟩ = some (.slice ad m.bs.length cap) := p1.c 0 _ rfl
  go_wp2_with fail
  clear c0
  refine (heldBlockS_any u1 lo hi _ m.bs.length k (HW.out.1.under g1 hhi) (by omega) (by omega) k1 (by omega)).mono ?_
  rintro e2 u2 ⟨rfl, rfl⟩
  have hB2 := HW.out.2.under g1 hhi
  obtain ⟨M, hM⟩ : ∃ z, k + 5 * (m.bs.length : Int) = z := ⟨_, rfl⟩
  have HM : Hid (k + 5 * (m.bs.length : Int) = M) := hM
  rw [hM] at hB2 ⊢
  have b2 : 0 ≤ M ∧ M ≤ 50000000 := by omega
  have n2 : ¬ (M < 0) := by omega
  have c1 : u2.cell? ⟨w.heap.size, 1, none⟩ = some (.slice ad' m.ls.length cap') := p1.c 1 _ rfl
  clear hM p1
  go_wp2_with fail
  clear c1
  refine (heldBoolS_any u2 lo hi _ m.ls.length M hB2 (by omega) (by omega) b2.1 (by omega)).mono ?_
  rintro e3 u3 ⟨rfl, rfl⟩
  have HS : Hid (M + (m.ls.length : Int) = k + (StOn m : Int)) := by show _ = _; have := HM.out; unfold StOn; omega
  obtain ⟨Q, hQ⟩ : ∃ z, M + (m.ls.length : Int) = z := ⟨_, rfl⟩
  have n3 : ¬ (Q < 0) := by omega
  rw [hQ] at HS ⊢
  clear hQ hB2
  go_wp2
  go_ret
  exact ⟨ret_int HS.out, g1⟩
end Go.Proofs.YtaoiookfmgpmkaaGreatDoor
