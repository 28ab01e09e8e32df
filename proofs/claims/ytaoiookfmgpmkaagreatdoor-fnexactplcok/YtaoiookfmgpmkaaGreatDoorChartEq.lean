/-
  eqTrans, eqTransS, eqAct, eqActS, eqChart: the laws' helpers that compare charts, of two that read the same. (Written by our generator gen_charteq.py.)
-/
import Derived.Test.YtaoiookfmgpmkaaGreatDoorChartData
import Derived.Test.YtaoiookfmgpmkaaGreatDoorExprEq
import Derived.Test.YtaoiookfmgpmkaaGreatDoorDag
namespace Go.Proofs.YtaoiookfmgpmkaaGreatDoor
open Go.ChangeShapes Go.WideShapes Go.ChangeAt Go.RowKit
set_option linter.unusedVariables false
set_option linter.unusedSimpArgs false
set_option maxRecDepth 100000

set_option maxHeartbeats 4000000 in
theorem eqTrans_same (w : World) (lo hi lo' hi' : Nat) (x y s x' y' s' : Value) (t : TransD) (ha : WayR w lo hi x y s t) (hb : WayR w lo' hi' x' y' s' t) (hhi : hi ≤ w.heap.size) (hhi' : hi' ≤ w.heap.size) :
    Calls Tryz.prog 162 #[.agg (transC x y t.e s).toArray, .agg (transC x' y' t.e s').toArray] w fun e w' => e = .returned (.bool true) ∧ Below w.heap.size w w' := by
  obtain ⟨ax, cx, ay, cy, az, cz, rfl, rfl, rfl⟩ := ha.shape
  obtain ⟨bx, dx, by_, dy, bz, dz, rfl, rfl, rfl⟩ := hb.shape
  have HK : Hid (WayR w lo hi (.slice ax t.fr.length cx) (.slice ay t.to.length cy) (.slice az t.e.kids.length cz) t ∧ WayR w lo' hi' (.slice bx t.fr.length dx) (.slice by_ t.to.length dy) (.slice bz t.e.kids.length dz) t) := ⟨ha, hb⟩
  clear ha hb
  go_enter Tryz.func162, Tryz.ntmps162
  go_wp2_with (refine wpList_boxG (vs := transC (.slice ax t.fr.length cx) (.slice ay t.to.length cy) t.e (.slice az t.e.kids.length cz)) rfl _ rfl rfl ?_)
  intro u1 g1 p1 s1
  go_wp2_with (refine wpList_boxG (vs := transC (.slice bx t.fr.length dx) (.slice by_ t.to.length dy) t.e (.slice bz t.e.kids.length dz)) rfl _ rfl rfl ?_)
  intro u2 g2 q2 s2
  have p2 := p1.below g2 (by omega)
  have G2 := g1.trans (g2.mono (by omega))
  clear g1 g2 p1
  have c0 : u2.cell? ⟨w.heap.size, 0, none⟩ = some (.slice ax t.fr.length cx) := p2.c 0 _ rfl
  have d0 : u2.cell? ⟨w.heap.size + 1, 0, none⟩ = some (.slice bx t.fr.length dx) := q2.c 0 _ rfl
  go_wp2_with fail
  clear c0 d0
  refine (eqIntS_any _ _ _ _ _ _ _ t.fr t.fr (HK.out.1.fr.below G2 hhi) (HK.out.2.fr.below G2 hhi')).mono ?_
  rw [decide_eq_true rfl]
  rintro e3 u3 ⟨m3, rfl, hm3⟩
  have g3 : Below u2.heap.size u2 u3 := by rw [hm3]; exact below_drewN (Below.refl _ _) m3
  clear hm3
  have z3 := g3.size
  have p3 := p2.below g3 (by omega)
  have q3 := q2.below g3 (by omega)
  have G3 := G2.trans (g3.mono (by omega))
  clear g3 G2 p2 q2
  have c1 : u3.cell? ⟨w.heap.size, 1, none⟩ = some (.slice ay t.to.length cy) := p3.c 1 _ rfl
  have d1 : u3.cell? ⟨w.heap.size + 1, 1, none⟩ = some (.slice by_ t.to.length dy) := q3.c 1 _ rfl
  go_wp2_with fail
  clear c1 d1
  refine (eqIntS_any _ _ _ _ _ _ _ t.to t.to (HK.out.1.to.below G3 hhi) (HK.out.2.to.below G3 hhi')).mono ?_
  rw [decide_eq_true rfl]
  rintro e4 u4 ⟨m4, rfl, hm4⟩
  have g4 : Below u3.heap.size u3 u4 := by rw [hm4]; exact below_drewN (Below.refl _ _) m4
  clear hm4
  have z4 := g4.size
  have p4 := p3.below g4 (by omega)
  have q4 := q3.below g4 (by omega)
  have G4 := G3.trans (g4.mono (by omega))
  clear g4 G3 p3 q3
  have hc : CV u4 w.heap.size 2 (exprC t.e (.slice az t.e.kids.length cz)) := p4.c.part 2 5
  have hd : CV u4 (w.heap.size + 1) 2 (exprC t.e (.slice bz t.e.kids.length dz)) := q4.c.part 2 5
  clear p4 q4
  go_wp2_with (first
    | refine wpList_loadG Tryz.isAgg121 Tryz.sizeOf121 _ rfl rfl rfl rfl hc ?_
    | refine wpList_loadG Tryz.isAgg121 Tryz.sizeOf121 _ rfl rfl rfl rfl hd ?_)
  clear hc hd
  refine (eqExpr_any _ lo hi lo' hi' _ _ t.e t.e ⟨_, rfl, HK.out.1.e.under G4 hhi⟩ ⟨_, rfl, HK.out.2.e.under G4 hhi'⟩ (by omega) (by omega)).mono ?_
  rintro e5 u5 ⟨r, rfl, hr, g5⟩
  obtain rfl : r = true := hr.mpr rfl
  have G5 := G4.trans (g5.mono (by omega))
  clear g5 G4 hr
  go_wp2
  go_ret
  exact ⟨rfl, G5⟩

set_option maxHeartbeats 2000000 in
theorem eqAct_same (w : World) (s : ActD) :
    Calls Tryz.prog 163 #[.agg (actC s).toArray, .agg (actC s).toArray] w fun e w' => e = .returned (.bool true) ∧ Below w.heap.size w w' := by
  have e1 : (s.kind != s.kind) = false := by simp
  have e2 : (s.step != s.step) = false := by simp
  go_enter Tryz.func163, Tryz.ntmps163
  go_wp2_with (refine wpList_boxG (vs := actC s) rfl _ rfl rfl ?_)
  intro u1 g1 p1 s1
  go_wp2_with (refine wpList_boxG (vs := actC s) rfl _ rfl rfl ?_)
  intro u2 g2 q2 s2
  have p2 := p1.below g2 (by omega)
  have G2 := g1.trans (g2.mono (by omega))
  clear g1 g2 p1
  have c0 : u2.cell? ⟨w.heap.size, 0, none⟩ = some (.int .i64 s.kind) := p2.c 0 _ rfl
  have c1 : u2.cell? ⟨w.heap.size, 1, none⟩ = some (.int .i64 s.step) := p2.c 1 _ rfl
  have d0 : u2.cell? ⟨w.heap.size + 1, 0, none⟩ = some (.int .i64 s.kind) := q2.c 0 _ rfl
  have d1 : u2.cell? ⟨w.heap.size + 1, 1, none⟩ = some (.int .i64 s.step) := q2.c 1 _ rfl
  have hc : CV u2 w.heap.size 2 [.int .i64 s.tk, .int .i64 s.ta] := p2.c.part 2 2
  have hd : CV u2 (w.heap.size + 1) 2 [.int .i64 s.tk, .int .i64 s.ta] := q2.c.part 2 2
  go_wp2_with (first
    | refine wpList_loadG Tryz.isAgg118 Tryz.sizeOf118 _ rfl rfl rfl rfl hc ?_
    | refine wpList_loadG Tryz.isAgg118 Tryz.sizeOf118 _ rfl rfl rfl rfl hd ?_)
  clear c0 c1 d0 d1 hc hd
  refine (eqAddr_any _ ⟨s.tk, s.ta⟩ ⟨s.tk, s.ta⟩).mono ?_
  rw [decide_eq_true rfl]
  rintro e3 u3 ⟨rfl, g3⟩
  have G3 := G2.trans (g3.mono (by omega))
  clear g3 G2 p2 q2
  go_wp2
  go_ret
  exact ⟨rfl, G3⟩

set_option maxHeartbeats 4000000 in
theorem eqTransS_same (w : World) (lo hi lo' hi' : Nat) (va vb : Value) (ps : List TransD) (ha : TR w lo hi va ps) (hb' : TR w lo' hi' vb ps) (hhi : hi ≤ w.heap.size) (hhi' : hi' ≤ w.heap.size) :
    Calls Tryz.prog 77 #[va, vb] w fun e w' => e = .returned (.bool true) ∧ Below w.heap.size w w' := by
  obtain ⟨ad, cap, rfl, h1, h2⟩ := ha.shape
  obtain ⟨ad', cap', rfl, h1', h2'⟩ := hb'.shape
  have HK : Hid (TR w lo hi (.slice ad ps.length cap) ps ∧ TR w lo' hi' (.slice ad' ps.length cap') ps) := ⟨ha, hb'⟩
  clear ha hb'
  unfold maxLen at h2 h2'
  have hl2 : ((ps.length : Int) != (ps.length : Int)) = false := by simp
  go_enter Tryz.func77, Tryz.ntmps77
  go_wp2_with fail
  go_loopw [5] (fun i wr => ∃ j : Nat, j ≤ ps.length ∧ i = .int .i64 j ∧ Below w.heap.size w wr) (fun i _ => ps.length - (intOf i).toNat)
  case atStart => exact ⟨0, Nat.zero_le _, rfl, Below.refl _ _⟩
  case round =>
    obtain ⟨j, hj, rfl, hb⟩ := hrel
    have hsz := hb.size
    by_cases hlt : j < ps.length
    · obtain ⟨x, hx⟩ : ∃ x, ps[j]? = some x := ⟨ps[j], List.getElem?_eq_getElem hlt⟩
      obtain ⟨b, off, capx, x1, y1, s1, hv, hb1, hb2, h5, k5⟩ := HK.out.1.at_ hx
      obtain ⟨b', off', capy, x2, y2, s2, hv', hb1', hb2', h5', k5'⟩ := HK.out.2.at_ hx
      simp only [Value.slice.injEq, true_and] at hv hv'
      obtain ⟨rfl, rfl⟩ := hv
      obtain ⟨rfl, rfl⟩ := hv'
      have h5 : CV w b (off + j * 7) (transC x1 y1 x.e s1) := h5
      have h5' : CV w b' (off' + j * 7) (transC x2 y2 x.e s2) := h5'
      have KK : Hid (WayR w lo hi x1 y1 s1 x ∧ WayR w lo' hi' x2 y2 s2 x) := ⟨k5, k5'⟩
      clear k5 k5'
      clear hx
      go_wp2_with fail
      refine wp_region_dag (R := Grow) (Φ := fun i v u => match i with
          | 0 => v = .slice (some ⟨b, off, none⟩) ps.length cap
          | 1 => v = .int .i64 j
          | 2 => v = .pointer (some ⟨b, off + j * 7, none⟩)
          | 3 => v = .agg (transC x1 y1 x.e s1).toArray
          | 4 => v = .slice (some ⟨b', off', none⟩) ps.length cap'
          | 5 => v = .int .i64 j
          | 6 => v = .pointer (some ⟨b', off' + j * 7, none⟩)
          | 7 => v = .agg (transC x2 y2 x.e s2).toArray
          | 8 => v = .bool true
          | 9 => v = .bool false
          | _ => True) (by kernel_rfl) (by kernel_rfl) (by kernel_rfl) (Below.refl _ _) grow_trans ?_ ?_ ?_
      · intro i v u u' hr
        match i with
        | 0 | 1 | 2 | 3 | 4 | 5 | 6 | 7 | 8 | 9 | _ + 10 => exact fun h => h
      · intro i o ho a u hf hR0 he K' hK
        have hR : Grow wr u := (Below.drew (Below.refl _ _)).trans hR0
        have hsz' : a.tmps.size = 27 := hf.size
        have hus : wr.heap.size ≤ u.heap.size := hR.size
        rcases i with _ | _ | _ | _ | _ | _ | _ | _ | _ | _ | i
        · obtain rfl := Option.some.inj ho
          have q0 : a.tmps.getD 0 undef = .slice (some ⟨b, off, none⟩) ps.length cap := hf.at_ 0 (by kernel_rfl)
          clear he
          go_simp
          exact hK _ _ (Below.refl _ _) (getD_put_self a 17 _ (by show _ < a.tmps.size; omega))
        · obtain rfl := Option.some.inj ho
          have q5 : a.tmps.getD 5 undef = .int .i64 j := hf.at_ 5 (by kernel_rfl)
          clear he
          go_simp
          exact hK _ _ (Below.refl _ _) (getD_put_self a 18 _ (by show _ < a.tmps.size; omega))
        · obtain rfl := Option.some.inj ho
          have q17 : a.tmps.getD 17 undef = .slice (some ⟨b, off, none⟩) ps.length cap := he _ (Array.mem_of_getElem? (i := 0) rfl) (by kernel_rfl) _ rfl
          have q18 : a.tmps.getD 18 undef = .int .i64 j := he _ (Array.mem_of_getElem? (i := 1) rfl) (by kernel_rfl) _ rfl
          clear he
          go_simp
          exact hK _ _ (Below.refl _ _) (getD_put_self a 19 _ (by show _ < a.tmps.size; omega))
        · obtain rfl := Option.some.inj ho
          have q19 : a.tmps.getD 19 undef = .pointer (some ⟨b, off + j * 7, none⟩) := he _ (Array.mem_of_getElem? (i := 0) rfl) (by kernel_rfl) _ rfl
          clear he
          refine wantedG rfl (wp_loadG Tryz.isAgg209 Tryz.sizeOf209 (vs := transC x1 y1 x.e s1) _ rfl q19 rfl (h5.kept ((hb.trans (hR.mono hsz)).block b (by omega))) ?_)
          exact hK _ _ (Below.refl _ _) (getD_put_self a 20 _ (by show _ < a.tmps.size; omega))
        · obtain rfl := Option.some.inj ho
          have q1 : a.tmps.getD 1 undef = .slice (some ⟨b', off', none⟩) ps.length cap' := hf.at_ 1 (by kernel_rfl)
          clear he
          go_simp
          exact hK _ _ (Below.refl _ _) (getD_put_self a 21 _ (by show _ < a.tmps.size; omega))
        · obtain rfl := Option.some.inj ho
          have q5 : a.tmps.getD 5 undef = .int .i64 j := hf.at_ 5 (by kernel_rfl)
          clear he
          go_simp
          exact hK _ _ (Below.refl _ _) (getD_put_self a 22 _ (by show _ < a.tmps.size; omega))
        · obtain rfl := Option.some.inj ho
          have q21 : a.tmps.getD 21 undef = .slice (some ⟨b', off', none⟩) ps.length cap' := he _ (Array.mem_of_getElem? (i := 0) rfl) (by kernel_rfl) _ rfl
          have q22 : a.tmps.getD 22 undef = .int .i64 j := he _ (Array.mem_of_getElem? (i := 1) rfl) (by kernel_rfl) _ rfl
          clear he
          go_simp
          exact hK _ _ (Below.refl _ _) (getD_put_self a 23 _ (by show _ < a.tmps.size; omega))
        · obtain rfl := Option.some.inj ho
          have q23 : a.tmps.getD 23 undef = .pointer (some ⟨b', off' + j * 7, none⟩) := he _ (Array.mem_of_getElem? (i := 0) rfl) (by kernel_rfl) _ rfl
          clear he
          refine wantedG rfl (wp_loadG Tryz.isAgg209 Tryz.sizeOf209 (vs := transC x2 y2 x.e s2) _ rfl q23 rfl (h5'.kept ((hb.trans (hR.mono hsz)).block b' (by omega))) ?_)
          exact hK _ _ (Below.refl _ _) (getD_put_self a 24 _ (by show _ < a.tmps.size; omega))
        · obtain rfl := Option.some.inj ho
          have q20 : a.tmps.getD 20 undef = .agg (transC x1 y1 x.e s1).toArray := he _ (Array.mem_of_getElem? (i := 0) rfl) (by kernel_rfl) _ rfl
          have q24 : a.tmps.getD 24 undef = .agg (transC x2 y2 x.e s2).toArray := he _ (Array.mem_of_getElem? (i := 1) rfl) (by kernel_rfl) _ rfl
          clear he
          go_simp
          refine (eqTrans_same u lo hi lo' hi' _ _ _ _ _ _ x (KK.out.1.under (hb.trans (hR.mono hsz)) hhi) (KK.out.2.under (hb.trans (hR.mono hsz)) hhi') (by omega) (by omega)).mono ?_
          rintro e1 u' ⟨rfl, hbu⟩
          exact hK _ _ hbu (getD_put_self a 25 _ (by show _ < a.tmps.size; omega))
        · obtain rfl := Option.some.inj ho
          have q25 : a.tmps.getD 25 undef = .bool true := he _ (Array.mem_of_getElem? (i := 0) rfl) (by kernel_rfl) _ rfl
          clear he
          go_simp
          exact hK _ _ (Below.refl _ _) (getD_put_self a 26 _ (by show _ < a.tmps.size; omega))
        · exact absurd ho (by simp)
      · intro a u hf hR0 hp
        have hR : Grow wr u := (Below.drew (Below.refl _ _)).trans hR0
        have md : a.defers = [] := hf.defers
        have m0 : a.tmps.getD 0 undef = .slice (some ⟨b, off, none⟩) ps.length cap := hf.at_ 0 (by kernel_rfl)
        have m1 : a.tmps.getD 1 undef = .slice (some ⟨b', off', none⟩) ps.length cap' := hf.at_ 1 (by kernel_rfl)
        have m2 : a.tmps.getD 2 undef = undef := hf.at_ 2 (by kernel_rfl)
        have m3 : a.tmps.getD 3 undef = undef := hf.at_ 3 (by kernel_rfl)
        have m5 : a.tmps.getD 5 undef = .int .i64 j := hf.at_ 5 (by kernel_rfl)
        have m6 : a.tmps.getD 6 undef = .slice (some ⟨b, off, none⟩) ps.length cap := hf.at_ 6 (by kernel_rfl)
        have m7 : a.tmps.getD 7 undef = .int .i64 ps.length := hf.at_ 7 (by kernel_rfl)
        have m8 : a.tmps.getD 8 undef = .slice (some ⟨b', off', none⟩) ps.length cap' := hf.at_ 8 (by kernel_rfl)
        have m9 : a.tmps.getD 9 undef = .int .i64 ps.length := hf.at_ 9 (by kernel_rfl)
        have m10 : a.tmps.getD 10 undef = .bool false := hf.at_ 10 (by kernel_rfl)
        have m26 : a.tmps.getD 26 undef = .bool false := hp 9 _ rfl
        obtain ⟨f, ea, hfv⟩ := act_lit a 27 hf.size
        rw [← hfv] at m0 m1 m2 m3 m5 m6 m7 m8 m9 m10 m26
        rw [md] at ea
        simp only [List.range, List.range.loop, List.map_cons, List.map_nil, m0, m1, m2, m3, m5, m6, m7, m8, m9, m10, m26] at ea
        subst ea
        clear hfv hf md hp hR0
        clear h5 h5'
        go_wp2
        go_roundw
        case rel => exact ⟨j + 1, by omega, by go_num, hb.trans (hR.mono hsz)⟩
        case measure => simp [intOf]; omega
    · obtain rfl : j = ps.length := by omega
      go_wp2
      go_ret
      exact ⟨rfl, hb⟩

set_option maxHeartbeats 4000000 in
theorem eqActS_same (w : World) (lo hi lo' hi' : Nat) (va vb : Value) (ps : List ActD) (ha : GR actE w lo hi va ps) (hb' : GR actE w lo' hi' vb ps) (hhi : hi ≤ w.heap.size) (hhi' : hi' ≤ w.heap.size) :
    Calls Tryz.prog 78 #[va, vb] w fun e w' => e = .returned (.bool true) ∧ Below w.heap.size w w' := by
  obtain ⟨ad, cap, rfl, h1, h2⟩ := ha.shape
  obtain ⟨ad', cap', rfl, h1', h2'⟩ := hb'.shape
  have HK : Hid (GR actE w lo hi (.slice ad ps.length cap) ps ∧ GR actE w lo' hi' (.slice ad' ps.length cap') ps) := ⟨ha, hb'⟩
  clear ha hb'
  unfold maxLen at h2 h2'
  have hl2 : ((ps.length : Int) != (ps.length : Int)) = false := by simp
  go_enter Tryz.func78, Tryz.ntmps78
  go_wp2_with fail
  go_loopw [5] (fun i wr => ∃ j : Nat, j ≤ ps.length ∧ i = .int .i64 j ∧ Below w.heap.size w wr) (fun i _ => ps.length - (intOf i).toNat)
  case atStart => exact ⟨0, Nat.zero_le _, rfl, Below.refl _ _⟩
  case round =>
    obtain ⟨j, hj, rfl, hb⟩ := hrel
    have hsz := hb.size
    by_cases hlt : j < ps.length
    · obtain ⟨x, hx⟩ : ∃ x, ps[j]? = some x := ⟨ps[j], List.getElem?_eq_getElem hlt⟩
      obtain ⟨b, off, capx, hv, hb1, hb2, h5⟩ := HK.out.1.at_ hx
      obtain ⟨b', off', capy, hv', hb1', hb2', h5'⟩ := HK.out.2.at_ hx
      simp only [Value.slice.injEq, true_and] at hv hv'
      obtain ⟨rfl, rfl⟩ := hv
      obtain ⟨rfl, rfl⟩ := hv'
      have h5 : CV w b (off + j * 4) (actC x) := h5
      have h5' : CV w b' (off' + j * 4) (actC x) := h5'
      clear hx
      go_wp2_with fail
      refine wp_region_dag (R := Grow) (Φ := fun i v u => match i with
          | 0 => v = .slice (some ⟨b, off, none⟩) ps.length cap
          | 1 => v = .int .i64 j
          | 2 => v = .pointer (some ⟨b, off + j * 4, none⟩)
          | 3 => v = .agg (actC x).toArray
          | 4 => v = .slice (some ⟨b', off', none⟩) ps.length cap'
          | 5 => v = .int .i64 j
          | 6 => v = .pointer (some ⟨b', off' + j * 4, none⟩)
          | 7 => v = .agg (actC x).toArray
          | 8 => v = .bool true
          | 9 => v = .bool false
          | _ => True) (by kernel_rfl) (by kernel_rfl) (by kernel_rfl) (Below.refl _ _) grow_trans ?_ ?_ ?_
      · intro i v u u' hr
        match i with
        | 0 | 1 | 2 | 3 | 4 | 5 | 6 | 7 | 8 | 9 | _ + 10 => exact fun h => h
      · intro i o ho a u hf hR0 he K' hK
        have hR : Grow wr u := (Below.drew (Below.refl _ _)).trans hR0
        have hsz' : a.tmps.size = 27 := hf.size
        have hus : wr.heap.size ≤ u.heap.size := hR.size
        rcases i with _ | _ | _ | _ | _ | _ | _ | _ | _ | _ | i
        · obtain rfl := Option.some.inj ho
          have q0 : a.tmps.getD 0 undef = .slice (some ⟨b, off, none⟩) ps.length cap := hf.at_ 0 (by kernel_rfl)
          clear he
          go_simp
          exact hK _ _ (Below.refl _ _) (getD_put_self a 17 _ (by show _ < a.tmps.size; omega))
        · obtain rfl := Option.some.inj ho
          have q5 : a.tmps.getD 5 undef = .int .i64 j := hf.at_ 5 (by kernel_rfl)
          clear he
          go_simp
          exact hK _ _ (Below.refl _ _) (getD_put_self a 18 _ (by show _ < a.tmps.size; omega))
        · obtain rfl := Option.some.inj ho
          have q17 : a.tmps.getD 17 undef = .slice (some ⟨b, off, none⟩) ps.length cap := he _ (Array.mem_of_getElem? (i := 0) rfl) (by kernel_rfl) _ rfl
          have q18 : a.tmps.getD 18 undef = .int .i64 j := he _ (Array.mem_of_getElem? (i := 1) rfl) (by kernel_rfl) _ rfl
          clear he
          go_simp
          exact hK _ _ (Below.refl _ _) (getD_put_self a 19 _ (by show _ < a.tmps.size; omega))
        · obtain rfl := Option.some.inj ho
          have q19 : a.tmps.getD 19 undef = .pointer (some ⟨b, off + j * 4, none⟩) := he _ (Array.mem_of_getElem? (i := 0) rfl) (by kernel_rfl) _ rfl
          clear he
          refine wantedG rfl (wp_loadG Tryz.isAgg223 Tryz.sizeOf223 (vs := actC x) _ rfl q19 rfl (h5.kept ((hb.trans (hR.mono hsz)).block b (by omega))) ?_)
          exact hK _ _ (Below.refl _ _) (getD_put_self a 20 _ (by show _ < a.tmps.size; omega))
        · obtain rfl := Option.some.inj ho
          have q1 : a.tmps.getD 1 undef = .slice (some ⟨b', off', none⟩) ps.length cap' := hf.at_ 1 (by kernel_rfl)
          clear he
          go_simp
          exact hK _ _ (Below.refl _ _) (getD_put_self a 21 _ (by show _ < a.tmps.size; omega))
        · obtain rfl := Option.some.inj ho
          have q5 : a.tmps.getD 5 undef = .int .i64 j := hf.at_ 5 (by kernel_rfl)
          clear he
          go_simp
          exact hK _ _ (Below.refl _ _) (getD_put_self a 22 _ (by show _ < a.tmps.size; omega))
        · obtain rfl := Option.some.inj ho
          have q21 : a.tmps.getD 21 undef = .slice (some ⟨b', off', none⟩) ps.length cap' := he _ (Array.mem_of_getElem? (i := 0) rfl) (by kernel_rfl) _ rfl
          have q22 : a.tmps.getD 22 undef = .int .i64 j := he _ (Array.mem_of_getElem? (i := 1) rfl) (by kernel_rfl) _ rfl
          clear he
          go_simp
          exact hK _ _ (Below.refl _ _) (getD_put_self a 23 _ (by show _ < a.tmps.size; omega))
        · obtain rfl := Option.some.inj ho
          have q23 : a.tmps.getD 23 undef = .pointer (some ⟨b', off' + j * 4, none⟩) := he _ (Array.mem_of_getElem? (i := 0) rfl) (by kernel_rfl) _ rfl
          clear he
          refine wantedG rfl (wp_loadG Tryz.isAgg223 Tryz.sizeOf223 (vs := actC x) _ rfl q23 rfl (h5'.kept ((hb.trans (hR.mono hsz)).block b' (by omega))) ?_)
          exact hK _ _ (Below.refl _ _) (getD_put_self a 24 _ (by show _ < a.tmps.size; omega))
        · obtain rfl := Option.some.inj ho
          have q20 : a.tmps.getD 20 undef = .agg (actC x).toArray := he _ (Array.mem_of_getElem? (i := 0) rfl) (by kernel_rfl) _ rfl
          have q24 : a.tmps.getD 24 undef = .agg (actC x).toArray := he _ (Array.mem_of_getElem? (i := 1) rfl) (by kernel_rfl) _ rfl
          clear he
          go_simp
          refine (eqAct_same u x).mono ?_
          rintro e1 u' ⟨rfl, hbu⟩
          exact hK _ _ hbu (getD_put_self a 25 _ (by show _ < a.tmps.size; omega))
        · obtain rfl := Option.some.inj ho
          have q25 : a.tmps.getD 25 undef = .bool true := he _ (Array.mem_of_getElem? (i := 0) rfl) (by kernel_rfl) _ rfl
          clear he
          go_simp
          exact hK _ _ (Below.refl _ _) (getD_put_self a 26 _ (by show _ < a.tmps.size; omega))
        · exact absurd ho (by simp)
      · intro a u hf hR0 hp
        have hR : Grow wr u := (Below.drew (Below.refl _ _)).trans hR0
        have md : a.defers = [] := hf.defers
        have m0 : a.tmps.getD 0 undef = .slice (some ⟨b, off, none⟩) ps.length cap := hf.at_ 0 (by kernel_rfl)
        have m1 : a.tmps.getD 1 undef = .slice (some ⟨b', off', none⟩) ps.length cap' := hf.at_ 1 (by kernel_rfl)
        have m2 : a.tmps.getD 2 undef = undef := hf.at_ 2 (by kernel_rfl)
        have m3 : a.tmps.getD 3 undef = undef := hf.at_ 3 (by kernel_rfl)
        have m5 : a.tmps.getD 5 undef = .int .i64 j := hf.at_ 5 (by kernel_rfl)
        have m6 : a.tmps.getD 6 undef = .slice (some ⟨b, off, none⟩) ps.length cap := hf.at_ 6 (by kernel_rfl)
        have m7 : a.tmps.getD 7 undef = .int .i64 ps.length := hf.at_ 7 (by kernel_rfl)
        have m8 : a.tmps.getD 8 undef = .slice (some ⟨b', off', none⟩) ps.length cap' := hf.at_ 8 (by kernel_rfl)
        have m9 : a.tmps.getD 9 undef = .int .i64 ps.length := hf.at_ 9 (by kernel_rfl)
        have m10 : a.tmps.getD 10 undef = .bool false := hf.at_ 10 (by kernel_rfl)
        have m26 : a.tmps.getD 26 undef = .bool false := hp 9 _ rfl
        obtain ⟨f, ea, hfv⟩ := act_lit a 27 hf.size
        rw [← hfv] at m0 m1 m2 m3 m5 m6 m7 m8 m9 m10 m26
        rw [md] at ea
        simp only [List.range, List.range.loop, List.map_cons, List.map_nil, m0, m1, m2, m3, m5, m6, m7, m8, m9, m10, m26] at ea
        subst ea
        clear hfv hf md hp hR0
        clear h5 h5'
        go_wp2
        go_roundw
        case rel => exact ⟨j + 1, by omega, by go_num, hb.trans (hR.mono hsz)⟩
        case measure => simp [intOf]; omega
    · obtain rfl : j = ps.length := by omega
      go_wp2
      go_ret
      exact ⟨rfl, hb⟩

set_option maxHeartbeats 2000000 in
theorem eqChart_same (w : World) (lo hi lo' hi' : Nat) (va vb : Value) (c : ChartD) (ha : HIc w lo hi va c) (hb : HIc w lo' hi' vb c) (hhi : hi ≤ w.heap.size) (hhi' : hi' ≤ w.heap.size) :
    Calls Tryz.prog 19 #[va, vb] w fun e w' => e = .returned (.bool true) ∧ Below w.heap.size w w' := by
  obtain ⟨xa, xb, rfl, hxa, hxb⟩ := ha
  obtain ⟨ya, yb, rfl, hya, hyb⟩ := hb
  obtain ⟨ad1, cap1, rfl, _, _⟩ := hxa.shape
  obtain ⟨ad2, cap2, rfl, _, _⟩ := hxb.shape
  obtain ⟨ad3, cap3, rfl, _, _⟩ := hya.shape
  obtain ⟨ad4, cap4, rfl, _, _⟩ := hyb.shape
  have HK : Hid ((TR w lo hi (.slice ad1 c.ts.length cap1) c.ts ∧ GR actE w lo hi (.slice ad2 c.acts.length cap2) c.acts) ∧ (TR w lo' hi' (.slice ad3 c.ts.length cap3) c.ts ∧ GR actE w lo' hi' (.slice ad4 c.acts.length cap4) c.acts)) := ⟨⟨hxa, hxb⟩, hya, hyb⟩
  clear hxa hxb hya hyb
  have e1 : (c.steps != c.steps) = false := by simp
  go_enter Tryz.func19, Tryz.ntmps19
  go_wp2_with (refine wpList_boxG (vs := [.int .i64 c.steps, .slice ad1 c.ts.length cap1, .slice ad2 c.acts.length cap2]) rfl _ rfl rfl ?_)
  intro u1 g1 p1 s1
  go_wp2_with (refine wpList_boxG (vs := [.int .i64 c.steps, .slice ad3 c.ts.length cap3, .slice ad4 c.acts.length cap4]) rfl _ rfl rfl ?_)
  intro u2 g2 q2 s2
  have p2 := p1.below g2 (by omega)
  have G2 := g1.trans (g2.mono (by omega))
  clear g1 g2 p1
  have b0 : u2.cell? ⟨w.heap.size, 0, none⟩ = some (.int .i64 c.steps) := p2.c 0 _ rfl
  have b1 : u2.cell? ⟨w.heap.size + 1, 0, none⟩ = some (.int .i64 c.steps) := q2.c 0 _ rfl
  have c0 : u2.cell? ⟨w.heap.size, 1, none⟩ = some (.slice ad1 c.ts.length cap1) := p2.c 1 _ rfl
  have d0 : u2.cell? ⟨w.heap.size + 1, 1, none⟩ = some (.slice ad3 c.ts.length cap3) := q2.c 1 _ rfl
  go_wp2_with fail
  clear c0 d0 b0 b1
  refine (eqTransS_same _ _ _ _ _ _ _ c.ts (HK.out.1.1.under G2 hhi) (HK.out.2.1.under G2 hhi') (by omega) (by omega)).mono ?_
  rintro e3 u3 ⟨rfl, g3⟩
  have z3 := g3.size
  have c1 : u3.cell? ⟨w.heap.size, 2, none⟩ = some (.slice ad2 c.acts.length cap2) := (p2.below g3 (by omega)).c 2 _ rfl
  have d1 : u3.cell? ⟨w.heap.size + 1, 2, none⟩ = some (.slice ad4 c.acts.length cap4) := (q2.below g3 (by omega)).c 2 _ rfl
  have G3 := G2.trans (g3.mono (by omega))
  clear g3 G2 p2 q2
  go_wp2_with fail
  clear c1 d1
  refine (eqActS_same _ _ _ _ _ _ _ c.acts (HK.out.1.2.under G3 hhi) (HK.out.2.2.under G3 hhi') (by omega) (by omega)).mono ?_
  rintro e4 u4 ⟨rfl, g4⟩
  have G4 := G3.trans (g4.mono (by omega))
  clear g4 G3
  go_wp2
  go_ret
  exact ⟨rfl, G4⟩

end Go.Proofs.YtaoiookfmgpmkaaGreatDoor
