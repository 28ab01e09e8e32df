/-
  eqSrc, eqWire, eqDrive, eqWireS, eqDriveS, eqNet: the laws' helpers that compare nets, of two that read the same. (Written by our generator gen_neteq.py.)
-/
import Derived.Test.YtaoiookfmgpmkaaGreatDoorNetData
import Derived.Test.YtaoiookfmgpmkaaGreatDoorDag
namespace Go.Proofs.YtaoiookfmgpmkaaGreatDoor
open Go.ChangeShapes Go.WideShapes Go.ChangeAt Go.RowKit
set_option linter.unusedVariables false
set_option linter.unusedSimpArgs false
set_option maxRecDepth 100000

set_option maxHeartbeats 2000000 in
theorem eqSrc_same (w : World) (s : SrcD) :
    Calls Tryz.prog 223 #[.agg (srcC s).toArray, .agg (srcC s).toArray] w fun e w' => e = .returned (.bool true) ∧ Below w.heap.size w w' := by
  have e1 : (s.kind != s.kind) = false := by simp
  have e2 : (s.at_ != s.at_) = false := by simp
  have e3 : (s.no != s.no) = false := by simp
  go_enter Tryz.func223, Tryz.ntmps223
  go_wp2_with (refine wpList_boxG (vs := srcC s) rfl _ rfl rfl ?_)
  intro u1 g1 p1 s1
  go_wp2_with (refine wpList_boxG (vs := srcC s) rfl _ rfl rfl ?_)
  intro u2 g2 q2 s2
  have p2 := p1.below g2 (by omega)
  have G2 := g1.trans (g2.mono (by omega))
  clear g1 g2 p1
  have c0 : u2.cell? ⟨w.heap.size, 0, none⟩ = some (.int .i64 s.kind) := p2.c 0 _ rfl
  have c1 : u2.cell? ⟨w.heap.size, 1, none⟩ = some (.int .i64 s.at_) := p2.c 1 _ rfl
  have d0 : u2.cell? ⟨w.heap.size + 1, 0, none⟩ = some (.int .i64 s.kind) := q2.c 0 _ rfl
  have d1 : u2.cell? ⟨w.heap.size + 1, 1, none⟩ = some (.int .i64 s.at_) := q2.c 1 _ rfl
  have hc : CV u2 w.heap.size 2 [.int .i64 s.ak, .int .i64 s.aat] := p2.c.part 2 2
  have hd : CV u2 (w.heap.size + 1) 2 [.int .i64 s.ak, .int .i64 s.aat] := q2.c.part 2 2
  go_wp2_with (first
    | refine wpList_loadG Tryz.isAgg118 Tryz.sizeOf118 _ rfl rfl rfl rfl hc ?_
    | refine wpList_loadG Tryz.isAgg118 Tryz.sizeOf118 _ rfl rfl rfl rfl hd ?_)
  clear c0 c1 d0 d1 hc hd
  refine (eqAddr_any _ ⟨s.ak, s.aat⟩ ⟨s.ak, s.aat⟩).mono ?_
  rw [decide_eq_true rfl]
  rintro e3 u3 ⟨rfl, g3⟩
  have c4 : u3.cell? ⟨w.heap.size, 4, none⟩ = some (.bool s.no) := (p2.below g3 (by omega)).c 4 _ rfl
  have d4 : u3.cell? ⟨w.heap.size + 1, 4, none⟩ = some (.bool s.no) := (q2.below g3 (by omega)).c 4 _ rfl
  have G3 := G2.trans (g3.mono (by omega))
  clear g3 G2 p2 q2
  go_wp2
  go_ret
  exact ⟨rfl, G3⟩

set_option maxHeartbeats 2000000 in
theorem eqDrive_same (w : World) (s : DriveD) :
    Calls Tryz.prog 161 #[.agg (driveC s).toArray, .agg (driveC s).toArray] w fun e w' => e = .returned (.bool true) ∧ Below w.heap.size w w' := by
  have e1 : (s.wire != s.wire) = false := by simp
  go_enter Tryz.func161, Tryz.ntmps161
  go_wp2_with (refine wpList_boxG (vs := driveC s) rfl _ rfl rfl ?_)
  intro u1 g1 p1 s1
  go_wp2_with (refine wpList_boxG (vs := driveC s) rfl _ rfl rfl ?_)
  intro u2 g2 q2 s2
  have p2 := p1.below g2 (by omega)
  have G2 := g1.trans (g2.mono (by omega))
  clear g1 g2 p1
  have hc : CV u2 w.heap.size 0 [.int .i64 s.tk, .int .i64 s.ta] := p2.c.part 0 2
  have hd : CV u2 (w.heap.size + 1) 0 [.int .i64 s.tk, .int .i64 s.ta] := q2.c.part 0 2
  go_wp2_with (first
    | refine wpList_loadG Tryz.isAgg118 Tryz.sizeOf118 _ rfl rfl rfl rfl hc ?_
    | refine wpList_loadG Tryz.isAgg118 Tryz.sizeOf118 _ rfl rfl rfl rfl hd ?_)
  clear hc hd
  refine (eqAddr_any _ ⟨s.tk, s.ta⟩ ⟨s.tk, s.ta⟩).mono ?_
  rw [decide_eq_true rfl]
  rintro e3 u3 ⟨rfl, g3⟩
  have c4 : u3.cell? ⟨w.heap.size, 2, none⟩ = some (.int .i64 s.wire) := (p2.below g3 (by omega)).c 2 _ rfl
  have d4 : u3.cell? ⟨w.heap.size + 1, 2, none⟩ = some (.int .i64 s.wire) := (q2.below g3 (by omega)).c 2 _ rfl
  have G3 := G2.trans (g3.mono (by omega))
  clear g3 G2 p2 q2
  go_wp2
  go_ret
  exact ⟨rfl, G3⟩

set_option maxHeartbeats 2000000 in
theorem eqWire_same (w : World) (s : WireD) :
    Calls Tryz.prog 160 #[.agg (wireC s).toArray, .agg (wireC s).toArray] w fun e w' => e = .returned (.bool true) ∧ Below w.heap.size w w' := by
  have e1 : (s.kind != s.kind) = false := by simp
  have e2 : (s.n != s.n) = false := by simp
  go_enter Tryz.func160, Tryz.ntmps160
  go_wp2_with (refine wpList_boxG (vs := wireC s) rfl _ rfl rfl ?_)
  intro u1 g1 p1 s1
  go_wp2_with (refine wpList_boxG (vs := wireC s) rfl _ rfl rfl ?_)
  intro u2 g2 q2 s2
  have p2 := p1.below g2 (by omega)
  have G2 := g1.trans (g2.mono (by omega))
  clear g1 g2 p1
  have c0 : u2.cell? ⟨w.heap.size, 0, none⟩ = some (.int .i64 s.kind) := p2.c 0 _ rfl
  have c1 : u2.cell? ⟨w.heap.size, 1, none⟩ = some (.int .i64 s.n) := p2.c 1 _ rfl
  have d0 : u2.cell? ⟨w.heap.size + 1, 0, none⟩ = some (.int .i64 s.kind) := q2.c 0 _ rfl
  have d1 : u2.cell? ⟨w.heap.size + 1, 1, none⟩ = some (.int .i64 s.n) := q2.c 1 _ rfl
  have hc : CV u2 w.heap.size 2 (srcC s.a) := p2.c.part 2 5
  have hd : CV u2 (w.heap.size + 1) 2 (srcC s.a) := q2.c.part 2 5
  go_wp2_with (first
    | refine wpList_loadG Tryz.isAgg169 Tryz.sizeOf169 _ rfl rfl rfl rfl hc ?_
    | refine wpList_loadG Tryz.isAgg169 Tryz.sizeOf169 _ rfl rfl rfl rfl hd ?_)
  clear c0 c1 d0 d1 hc hd
  refine (eqSrc_same _ s.a).mono ?_
  rintro e3 u3 ⟨rfl, g3⟩
  have z3 := g3.size
  have hc : CV u3 w.heap.size 7 (srcC s.b) := (p2.below g3 (by omega)).c.part 7 5
  have hd : CV u3 (w.heap.size + 1) 7 (srcC s.b) := (q2.below g3 (by omega)).c.part 7 5
  have G3 := G2.trans (g3.mono (by omega))
  clear g3 G2 p2 q2
  go_wp2_with (first
    | refine wpList_loadG Tryz.isAgg169 Tryz.sizeOf169 _ rfl rfl rfl rfl hc ?_
    | refine wpList_loadG Tryz.isAgg169 Tryz.sizeOf169 _ rfl rfl rfl rfl hd ?_)
  clear hc hd
  refine (eqSrc_same _ s.b).mono ?_
  rintro e4 u4 ⟨rfl, g4⟩
  have G4 := G3.trans (g4.mono (by omega))
  clear g4 G3
  go_wp2
  go_ret
  exact ⟨rfl, G4⟩

set_option maxHeartbeats 4000000 in
theorem eqWireS_same (w : World) (lo hi lo' hi' : Nat) (va vb : Value) (ps : List WireD) (ha : GR wireE w lo hi va ps) (hb' : GR wireE w lo' hi' vb ps) (hhi : hi ≤ w.heap.size) (hhi' : hi' ≤ w.heap.size) :
    Calls Tryz.prog 75 #[va, vb] w fun e w' => e = .returned (.bool true) ∧ Below w.heap.size w w' := by
  obtain ⟨ad, cap, rfl, h1, h2⟩ := ha.shape
  obtain ⟨ad', cap', rfl, h1', h2'⟩ := hb'.shape
  have HK : Hid (GR wireE w lo hi (.slice ad ps.length cap) ps ∧ GR wireE w lo' hi' (.slice ad' ps.length cap') ps) := ⟨ha, hb'⟩
  clear ha hb'
  unfold maxLen at h2 h2'
  have hl2 : ((ps.length : Int) != (ps.length : Int)) = false := by simp
  go_enter Tryz.func75, Tryz.ntmps75
  go_wp2_with fail
  go_loopw [5] (fun i wr => ∃ j : Nat, j ≤ ps.length ∧ i = .int .i64 j ∧ Below w.heap.size w wr) (fun i _ => ps.length - (intOf i).toNat)
  case atStart => exact ⟨0, Nat.zero_le _, rfl, Below.refl _ _⟩
  case round =>
    obtain ⟨j, hj, rfl, hb⟩ := hrel
    have hsz := hb.size
    by_cases hlt : j < ps.length
    · obtain ⟨x, hx⟩ : ∃ x, ps[j]? = some x := ⟨ps[j], List.getElem?_eq_getElem hlt⟩
      obtain ⟨b, off, capx, hv, hb1, hb2, h5⟩ := HK.out.1.at_ hx
      obtain ⟨b', off', capy, hv', hb1', hb2', h5'⟩ := HK.out.2.at_ hx
      simp only [Value.slice.injEq, true_and] at hv hv'
      obtain ⟨rfl, rfl⟩ := hv
      obtain ⟨rfl, rfl⟩ := hv'
      have h5 : CV w b (off + j * 12) (wireC x) := h5
      have h5' : CV w b' (off' + j * 12) (wireC x) := h5'
      clear hx
      go_wp2_with fail
      refine wp_region_dag (R := Grow) (Φ := fun i v u => match i with
          | 0 => v = .slice (some ⟨b, off, none⟩) ps.length cap
          | 1 => v = .int .i64 j
          | 2 => v = .pointer (some ⟨b, off + j * 12, none⟩)
          | 3 => v = .agg (wireC x).toArray
          | 4 => v = .slice (some ⟨b', off', none⟩) ps.length cap'
          | 5 => v = .int .i64 j
          | 6 => v = .pointer (some ⟨b', off' + j * 12, none⟩)
          | 7 => v = .agg (wireC x).toArray
          | 8 => v = .bool true
          | 9 => v = .bool false
          | _ => True) (by kernel_rfl) (by kernel_rfl) (by kernel_rfl) (Below.refl _ _) grow_trans ?_ ?_ ?_
      · intro i v u u' hr
        match i with
        | 0 | 1 | 2 | 3 | 4 | 5 | 6 | 7 | 8 | 9 | _ + 10 => exact fun h => h
      · intro i o ho a u hf hR0 he K' hK
        have hR : Grow wr u := (Below.drew (Below.refl _ _)).trans hR0
        have hsz' : a.tmps.size = 27 := hf.size
        have hus : wr.heap.size ≤ u.heap.size := hR.size
        rcases i with _ | _ | _ | _ | _ | _ | _ | _ | _ | _ | i
        · obtain rfl := Option.some.inj ho
          have q0 : a.tmps.getD 0 undef = .slice (some ⟨b, off, none⟩) ps.length cap := hf.at_ 0 (by kernel_rfl)
          clear he
          go_simp
          exact hK _ _ (Below.refl _ _) (getD_put_self a 17 _ (by show _ < a.tmps.size; omega))
        · obtain rfl := Option.some.inj ho
          have q5 : a.tmps.getD 5 undef = .int .i64 j := hf.at_ 5 (by kernel_rfl)
          clear he
          go_simp
          exact hK _ _ (Below.refl _ _) (getD_put_self a 18 _ (by show _ < a.tmps.size; omega))
        · obtain rfl := Option.some.inj ho
          have q17 : a.tmps.getD 17 undef = .slice (some ⟨b, off, none⟩) ps.length cap := he _ (Array.mem_of_getElem? (i := 0) rfl) (by kernel_rfl) _ rfl
          have q18 : a.tmps.getD 18 undef = .int .i64 j := he _ (Array.mem_of_getElem? (i := 1) rfl) (by kernel_rfl) _ rfl
          clear he
          go_simp
          exact hK _ _ (Below.refl _ _) (getD_put_self a 19 _ (by show _ < a.tmps.size; omega))
        · obtain rfl := Option.some.inj ho
          have q19 : a.tmps.getD 19 undef = .pointer (some ⟨b, off + j * 12, none⟩) := he _ (Array.mem_of_getElem? (i := 0) rfl) (by kernel_rfl) _ rfl
          clear he
          refine wantedG rfl (wp_loadG Tryz.isAgg171 Tryz.sizeOf171 (vs := wireC x) _ rfl q19 rfl (h5.kept ((hb.trans (hR.mono hsz)).block b (by omega))) ?_)
          exact hK _ _ (Below.refl _ _) (getD_put_self a 20 _ (by show _ < a.tmps.size; omega))
        · obtain rfl := Option.some.inj ho
          have q1 : a.tmps.getD 1 undef = .slice (some ⟨b', off', none⟩) ps.length cap' := hf.at_ 1 (by kernel_rfl)
          clear he
          go_simp
          exact hK _ _ (Below.refl _ _) (getD_put_self a 21 _ (by show _ < a.tmps.size; omega))
        · obtain rfl := Option.some.inj ho
          have q5 : a.tmps.getD 5 undef = .int .i64 j := hf.at_ 5 (by kernel_rfl)
          clear he
          go_simp
          exact hK _ _ (Below.refl _ _) (getD_put_self a 22 _ (by show _ < a.tmps.size; omega))
        · obtain rfl := Option.some.inj ho
          have q21 : a.tmps.getD 21 undef = .slice (some ⟨b', off', none⟩) ps.length cap' := he _ (Array.mem_of_getElem? (i := 0) rfl) (by kernel_rfl) _ rfl
          have q22 : a.tmps.getD 22 undef = .int .i64 j := he _ (Array.mem_of_getElem? (i := 1) rfl) (by kernel_rfl) _ rfl
          clear he
          go_simp
          exact hK _ _ (Below.refl _ _) (getD_put_self a 23 _ (by show _ < a.tmps.size; omega))
        · obtain rfl := Option.some.inj ho
          have q23 : a.tmps.getD 23 undef = .pointer (some ⟨b', off' + j * 12, none⟩) := he _ (Array.mem_of_getElem? (i := 0) rfl) (by kernel_rfl) _ rfl
          clear he
          refine wantedG rfl (wp_loadG Tryz.isAgg171 Tryz.sizeOf171 (vs := wireC x) _ rfl q23 rfl (h5'.kept ((hb.trans (hR.mono hsz)).block b' (by omega))) ?_)
          exact hK _ _ (Below.refl _ _) (getD_put_self a 24 _ (by show _ < a.tmps.size; omega))
        · obtain rfl := Option.some.inj ho
          have q20 : a.tmps.getD 20 undef = .agg (wireC x).toArray := he _ (Array.mem_of_getElem? (i := 0) rfl) (by kernel_rfl) _ rfl
          have q24 : a.tmps.getD 24 undef = .agg (wireC x).toArray := he _ (Array.mem_of_getElem? (i := 1) rfl) (by kernel_rfl) _ rfl
          clear he
          go_simp
          refine (eqWire_same u x).mono ?_
          rintro e1 u' ⟨rfl, hbu⟩
          exact hK _ _ hbu (getD_put_self a 25 _ (by show _ < a.tmps.size; omega))
        · obtain rfl := Option.some.inj ho
          have q25 : a.tmps.getD 25 undef = .bool true := he _ (Array.mem_of_getElem? (i := 0) rfl) (by kernel_rfl) _ rfl
          clear he
          go_simp
          exact hK _ _ (Below.refl _ _) (getD_put_self a 26 _ (by show _ < a.tmps.size; omega))
        · exact absurd ho (by simp)
      · intro a u hf hR0 hp
        have hR : Grow wr u := (Below.drew (Below.refl _ _)).trans hR0
        have md : a.defers = [] := hf.defers
        have m0 : a.tmps.getD 0 undef = .slice (some ⟨b, off, none⟩) ps.length cap := hf.at_ 0 (by kernel_rfl)
        have m1 : a.tmps.getD 1 undef = .slice (some ⟨b', off', none⟩) ps.length cap' := hf.at_ 1 (by kernel_rfl)
        have m2 : a.tmps.getD 2 undef = undef := hf.at_ 2 (by kernel_rfl)
        have m3 : a.tmps.getD 3 undef = undef := hf.at_ 3 (by kernel_rfl)
        have m5 : a.tmps.getD 5 undef = .int .i64 j := hf.at_ 5 (by kernel_rfl)
        have m6 : a.tmps.getD 6 undef = .slice (some ⟨b, off, none⟩) ps.length cap := hf.at_ 6 (by kernel_rfl)
        have m7 : a.tmps.getD 7 undef = .int .i64 ps.length := hf.at_ 7 (by kernel_rfl)
        have m8 : a.tmps.getD 8 undef = .slice (some ⟨b', off', none⟩) ps.length cap' := hf.at_ 8 (by kernel_rfl)
        have m9 : a.tmps.getD 9 undef = .int .i64 ps.length := hf.at_ 9 (by kernel_rfl)
        have m10 : a.tmps.getD 10 undef = .bool false := hf.at_ 10 (by kernel_rfl)
        have m26 : a.tmps.getD 26 undef = .bool false := hp 9 _ rfl
        obtain ⟨f, ea, hfv⟩ := act_lit a 27 hf.size
        rw [← hfv] at m0 m1 m2 m3 m5 m6 m7 m8 m9 m10 m26
        rw [md] at ea
        simp only [List.range, List.range.loop, List.map_cons, List.map_nil, m0, m1, m2, m3, m5, m6, m7, m8, m9, m10, m26] at ea
        subst ea
        clear hfv hf md hp hR0
        clear h5 h5'
        go_wp2
        go_roundw
        case rel => exact ⟨j + 1, by omega, by go_num, hb.trans (hR.mono hsz)⟩
        case measure => simp [intOf]; omega
    · obtain rfl : j = ps.length := by omega
      go_wp2
      go_ret
      exact ⟨rfl, hb⟩

set_option maxHeartbeats 4000000 in
theorem eqDriveS_same (w : World) (lo hi lo' hi' : Nat) (va vb : Value) (ps : List DriveD) (ha : GR driveE w lo hi va ps) (hb' : GR driveE w lo' hi' vb ps) (hhi : hi ≤ w.heap.size) (hhi' : hi' ≤ w.heap.size) :
    Calls Tryz.prog 76 #[va, vb] w fun e w' => e = .returned (.bool true) ∧ Below w.heap.size w w' := by
  obtain ⟨ad, cap, rfl, h1, h2⟩ := ha.shape
  obtain ⟨ad', cap', rfl, h1', h2'⟩ := hb'.shape
  have HK : Hid (GR driveE w lo hi (.slice ad ps.length cap) ps ∧ GR driveE w lo' hi' (.slice ad' ps.length cap') ps) := ⟨ha, hb'⟩
  clear ha hb'
  unfold maxLen at h2 h2'
  have hl2 : ((ps.length : Int) != (ps.length : Int)) = false := by simp
  go_enter Tryz.func76, Tryz.ntmps76
  go_wp2_with fail
  go_loopw [5] (fun i wr => ∃ j : Nat, j ≤ ps.length ∧ i = .int .i64 j ∧ Below w.heap.size w wr) (fun i _ => ps.length - (intOf i).toNat)
  case atStart => exact ⟨0, Nat.zero_le _, rfl, Below.refl _ _⟩
  case round =>
    obtain ⟨j, hj, rfl, hb⟩ := hrel
    have hsz := hb.size
    by_cases hlt : j < ps.length
    · obtain ⟨x, hx⟩ : ∃ x, ps[j]? = some x := ⟨ps[j], List.getElem?_eq_getElem hlt⟩
      obtain ⟨b, off, capx, hv, hb1, hb2, h5⟩ := HK.out.1.at_ hx
      obtain ⟨b', off', capy, hv', hb1', hb2', h5'⟩ := HK.out.2.at_ hx
      simp only [Value.slice.injEq, true_and] at hv hv'
      obtain ⟨rfl, rfl⟩ := hv
      obtain ⟨rfl, rfl⟩ := hv'
      have h5 : CV w b (off + j * 3) (driveC x) := h5
      have h5' : CV w b' (off' + j * 3) (driveC x) := h5'
      clear hx
      go_wp2_with fail
      refine wp_region_dag (R := Grow) (Φ := fun i v u => match i with
          | 0 => v = .slice (some ⟨b, off, none⟩) ps.length cap
          | 1 => v = .int .i64 j
          | 2 => v = .pointer (some ⟨b, off + j * 3, none⟩)
          | 3 => v = .agg (driveC x).toArray
          | 4 => v = .slice (some ⟨b', off', none⟩) ps.length cap'
          | 5 => v = .int .i64 j
          | 6 => v = .pointer (some ⟨b', off' + j * 3, none⟩)
          | 7 => v = .agg (driveC x).toArray
          | 8 => v = .bool true
          | 9 => v = .bool false
          | _ => True) (by kernel_rfl) (by kernel_rfl) (by kernel_rfl) (Below.refl _ _) grow_trans ?_ ?_ ?_
      · intro i v u u' hr
        match i with
        | 0 | 1 | 2 | 3 | 4 | 5 | 6 | 7 | 8 | 9 | _ + 10 => exact fun h => h
      · intro i o ho a u hf hR0 he K' hK
        have hR : Grow wr u := (Below.drew (Below.refl _ _)).trans hR0
        have hsz' : a.tmps.size = 27 := hf.size
        have hus : wr.heap.size ≤ u.heap.size := hR.size
        rcases i with _ | _ | _ | _ | _ | _ | _ | _ | _ | _ | i
        · obtain rfl := Option.some.inj ho
          have q0 : a.tmps.getD 0 undef = .slice (some ⟨b, off, none⟩) ps.length cap := hf.at_ 0 (by kernel_rfl)
          clear he
          go_simp
          exact hK _ _ (Below.refl _ _) (getD_put_self a 17 _ (by show _ < a.tmps.size; omega))
        · obtain rfl := Option.some.inj ho
          have q5 : a.tmps.getD 5 undef = .int .i64 j := hf.at_ 5 (by kernel_rfl)
          clear he
          go_simp
          exact hK _ _ (Below.refl _ _) (getD_put_self a 18 _ (by show _ < a.tmps.size; omega))
        · obtain rfl := Option.some.inj ho
          have q17 : a.tmps.getD 17 undef = .slice (some ⟨b, off, none⟩) ps.length cap := he _ (Array.mem_of_getElem? (i := 0) rfl) (by kernel_rfl) _ rfl
          have q18 : a.tmps.getD 18 undef = .int .i64 j := he _ (Array.mem_of_getElem? (i := 1) rfl) (by kernel_rfl) _ rfl
          clear he
          go_simp
          exact hK _ _ (Below.refl _ _) (getD_put_self a 19 _ (by show _ < a.tmps.size; omega))
        · obtain rfl := Option.some.inj ho
          have q19 : a.tmps.getD 19 undef = .pointer (some ⟨b, off + j * 3, none⟩) := he _ (Array.mem_of_getElem? (i := 0) rfl) (by kernel_rfl) _ rfl
          clear he
          refine wantedG rfl (wp_loadG Tryz.isAgg173 Tryz.sizeOf173 (vs := driveC x) _ rfl q19 rfl (h5.kept ((hb.trans (hR.mono hsz)).block b (by omega))) ?_)
          exact hK _ _ (Below.refl _ _) (getD_put_self a 20 _ (by show _ < a.tmps.size; omega))
        · obtain rfl := Option.some.inj ho
          have q1 : a.tmps.getD 1 undef = .slice (some ⟨b', off', none⟩) ps.length cap' := hf.at_ 1 (by kernel_rfl)
          clear he
          go_simp
          exact hK _ _ (Below.refl _ _) (getD_put_self a 21 _ (by show _ < a.tmps.size; omega))
        · obtain rfl := Option.some.inj ho
          have q5 : a.tmps.getD 5 undef = .int .i64 j := hf.at_ 5 (by kernel_rfl)
          clear he
          go_simp
          exact hK _ _ (Below.refl _ _) (getD_put_self a 22 _ (by show _ < a.tmps.size; omega))
        · obtain rfl := Option.some.inj ho
          have q21 : a.tmps.getD 21 undef = .slice (some ⟨b', off', none⟩) ps.length cap' := he _ (Array.mem_of_getElem? (i := 0) rfl) (by kernel_rfl) _ rfl
          have q22 : a.tmps.getD 22 undef = .int .i64 j := he _ (Array.mem_of_getElem? (i := 1) rfl) (by kernel_rfl) _ rfl
          clear he
          go_simp
          exact hK _ _ (Below.refl _ _) (getD_put_self a 23 _ (by show _ < a.tmps.size; omega))
        · obtain rfl := Option.some.inj ho
          have q23 : a.tmps.getD 23 undef = .pointer (some ⟨b', off' + j * 3, none⟩) := he _ (Array.mem_of_getElem? (i := 0) rfl) (by kernel_rfl) _ rfl
          clear he
          refine wantedG rfl (wp_loadG Tryz.isAgg173 Tryz.sizeOf173 (vs := driveC x) _ rfl q23 rfl (h5'.kept ((hb.trans (hR.mono hsz)).block b' (by omega))) ?_)
          exact hK _ _ (Below.refl _ _) (getD_put_self a 24 _ (by show _ < a.tmps.size; omega))
        · obtain rfl := Option.some.inj ho
          have q20 : a.tmps.getD 20 undef = .agg (driveC x).toArray := he _ (Array.mem_of_getElem? (i := 0) rfl) (by kernel_rfl) _ rfl
          have q24 : a.tmps.getD 24 undef = .agg (driveC x).toArray := he _ (Array.mem_of_getElem? (i := 1) rfl) (by kernel_rfl) _ rfl
          clear he
          go_simp
          refine (eqDrive_same u x).mono ?_
          rintro e1 u' ⟨rfl, hbu⟩
          exact hK _ _ hbu (getD_put_self a 25 _ (by show _ < a.tmps.size; omega))
        · obtain rfl := Option.some.inj ho
          have q25 : a.tmps.getD 25 undef = .bool true := he _ (Array.mem_of_getElem? (i := 0) rfl) (by kernel_rfl) _ rfl
          clear he
          go_simp
          exact hK _ _ (Below.refl _ _) (getD_put_self a 26 _ (by show _ < a.tmps.size; omega))
        · exact absurd ho (by simp)
      · intro a u hf hR0 hp
        have hR : Grow wr u := (Below.drew (Below.refl _ _)).trans hR0
        have md : a.defers = [] := hf.defers
        have m0 : a.tmps.getD 0 undef = .slice (some ⟨b, off, none⟩) ps.length cap := hf.at_ 0 (by kernel_rfl)
        have m1 : a.tmps.getD 1 undef = .slice (some ⟨b', off', none⟩) ps.length cap' := hf.at_ 1 (by kernel_rfl)
        have m2 : a.tmps.getD 2 undef = undef := hf.at_ 2 (by kernel_rfl)
        have m3 : a.tmps.getD 3 undef = undef := hf.at_ 3 (by kernel_rfl)
        have m5 : a.tmps.getD 5 undef = .int .i64 j := hf.at_ 5 (by kernel_rfl)
        have m6 : a.tmps.getD 6 undef = .slice (some ⟨b, off, none⟩) ps.length cap := hf.at_ 6 (by kernel_rfl)
        have m7 : a.tmps.getD 7 undef = .int .i64 ps.length := hf.at_ 7 (by kernel_rfl)
        have m8 : a.tmps.getD 8 undef = .slice (some ⟨b', off', none⟩) ps.length cap' := hf.at_ 8 (by kernel_rfl)
        have m9 : a.tmps.getD 9 undef = .int .i64 ps.length := hf.at_ 9 (by kernel_rfl)
        have m10 : a.tmps.getD 10 undef = .bool false := hf.at_ 10 (by kernel_rfl)
        have m26 : a.tmps.getD 26 undef = .bool false := hp 9 _ rfl
        obtain ⟨f, ea, hfv⟩ := act_lit a 27 hf.size
        rw [← hfv] at m0 m1 m2 m3 m5 m6 m7 m8 m9 m10 m26
        rw [md] at ea
        simp only [List.range, List.range.loop, List.map_cons, List.map_nil, m0, m1, m2, m3, m5, m6, m7, m8, m9, m10, m26] at ea
        subst ea
        clear hfv hf md hp hR0
        clear h5 h5'
        go_wp2
        go_roundw
        case rel => exact ⟨j + 1, by omega, by go_num, hb.trans (hR.mono hsz)⟩
        case measure => simp [intOf]; omega
    · obtain rfl : j = ps.length := by omega
      go_wp2
      go_ret
      exact ⟨rfl, hb⟩

set_option maxHeartbeats 2000000 in
theorem eqNet_same (w : World) (lo hi lo' hi' : Nat) (va vb : Value) (n : NetD) (ha : NI w lo hi va n) (hb : NI w lo' hi' vb n) (hhi : hi ≤ w.heap.size) (hhi' : hi' ≤ w.heap.size) :
    Calls Tryz.prog 18 #[va, vb] w fun e w' => e = .returned (.bool true) ∧ Below w.heap.size w w' := by
  obtain ⟨xa, xb, rfl, hxa, hxb⟩ := ha
  obtain ⟨ya, yb, rfl, hya, hyb⟩ := hb
  obtain ⟨ad1, cap1, rfl, _, _⟩ := hxa.shape
  obtain ⟨ad2, cap2, rfl, _, _⟩ := hxb.shape
  obtain ⟨ad3, cap3, rfl, _, _⟩ := hya.shape
  obtain ⟨ad4, cap4, rfl, _, _⟩ := hyb.shape
  have HK : Hid ((GR wireE w lo hi (.slice ad1 n.ws.length cap1) n.ws ∧ GR driveE w lo hi (.slice ad2 n.ds.length cap2) n.ds) ∧ (GR wireE w lo' hi' (.slice ad3 n.ws.length cap3) n.ws ∧ GR driveE w lo' hi' (.slice ad4 n.ds.length cap4) n.ds)) := ⟨⟨hxa, hxb⟩, hya, hyb⟩
  clear hxa hxb hya hyb
  go_enter Tryz.func18, Tryz.ntmps18
  go_wp2_with (refine wpList_boxG (vs := [.slice ad1 n.ws.length cap1, .slice ad2 n.ds.length cap2]) rfl _ rfl rfl ?_)
  intro u1 g1 p1 s1
  go_wp2_with (refine wpList_boxG (vs := [.slice ad3 n.ws.length cap3, .slice ad4 n.ds.length cap4]) rfl _ rfl rfl ?_)
  intro u2 g2 q2 s2
  have p2 := p1.below g2 (by omega)
  have G2 := g1.trans (g2.mono (by omega))
  clear g1 g2 p1
  have c0 : u2.cell? ⟨w.heap.size, 0, none⟩ = some (.slice ad1 n.ws.length cap1) := p2.c 0 _ rfl
  have d0 : u2.cell? ⟨w.heap.size + 1, 0, none⟩ = some (.slice ad3 n.ws.length cap3) := q2.c 0 _ rfl
  go_wp2_with fail
  clear c0 d0
  refine (eqWireS_same _ _ _ _ _ _ _ n.ws (HK.out.1.1.under G2 hhi) (HK.out.2.1.under G2 hhi') (by omega) (by omega)).mono ?_
  rintro e3 u3 ⟨rfl, g3⟩
  have z3 := g3.size
  have c1 : u3.cell? ⟨w.heap.size, 1, none⟩ = some (.slice ad2 n.ds.length cap2) := (p2.below g3 (by omega)).c 1 _ rfl
  have d1 : u3.cell? ⟨w.heap.size + 1, 1, none⟩ = some (.slice ad4 n.ds.length cap4) := (q2.below g3 (by omega)).c 1 _ rfl
  have G3 := G2.trans (g3.mono (by omega))
  clear g3 G2 p2 q2
  go_wp2_with fail
  clear c1 d1
  refine (eqDriveS_same _ _ _ _ _ _ _ n.ds (HK.out.1.2.under G3 hhi) (HK.out.2.2.under G3 hhi') (by omega) (by omega)).mono ?_
  rintro e4 u4 ⟨rfl, g4⟩
  have G4 := G3.trans (g4.mono (by omega))
  clear g4 G3
  go_wp2
  go_ret
  exact ⟨rfl, G4⟩

end Go.Proofs.YtaoiookfmgpmkaaGreatDoor
