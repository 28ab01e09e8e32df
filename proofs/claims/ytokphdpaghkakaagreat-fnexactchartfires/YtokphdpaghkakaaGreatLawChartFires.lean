/-
  FnExactChartFires, walked at every argument, given what the program's ChartFires answers. (Written by our generator exactown3.py.)
-/
import Derived.Test.YtokphdpaghkakaaGreatM4
import Derived.Test.YtokphdpaghkakaaGreatFiresS
import Derived.Test.YtokphdpaghkakaaGreatMarksWide
namespace Go.Proofs.YtokphdpaghkakaaGreat
open Go.ChangeShapes Go.WideShapes Go.ChangeAt Go.RowKit
set_option linter.unusedVariables false

theorem oi_shapeF {w : World} {lo hi : Nat} {v : Value} {xs : List Int} (h : OI w lo hi v xs) : ∃ a cap, v = .slice a xs.length cap := by
  obtain ⟨a, cap, hv, _⟩ := h.si; exact ⟨a, cap, hv⟩
theorem MkR.shapeR {w : World} {lo hi : Nat} {v : Value} {m : MarksD} (h : MkR w lo hi v m) : ∃ a c b e, v = .agg #[.slice a m.on.length c, .slice b m.kept.length e] := by
  obtain ⟨a, b, rfl, ha, hb⟩ := h
  obtain ⟨x, c, rfl, _, _⟩ := ha.shape
  obtain ⟨y, e, rfl, _, _⟩ := hb.shape
  exact ⟨x, c, y, e, rfl⟩
theorem MkR.below {w w' : World} {lo hi n : Nat} {v : Value} {m : MarksD} (h : MkR w lo hi v m) (hb : Below n w w') (hn : hi ≤ n) : MkR w' lo hi v m := h.under hb hn
theorem MI.shapeV {w : World} {lo hi : Nat} {v : Value} {d : MemD} (h : MI w lo hi v d) : ∃ a c b e f g, v = .agg #[.slice a d.i.length c, .slice b d.o.length e, .slice f d.v.length g] := by
  obtain ⟨a, b, c, rfl, ha, hb, hc⟩ := h
  obtain ⟨x, x', rfl⟩ := ha.shape
  obtain ⟨y, y', rfl⟩ := hb.shape
  obtain ⟨z, z', rfl⟩ := hc.shape
  exact ⟨_, _, _, _, _, _, rfl⟩

set_option maxRecDepth 100000 in
set_option maxHeartbeats 16000000 in
theorem exactChartFires_walk
    (impl : ∀ (w : World) (lo0 hi0 lo1 hi1 lo2 hi2 : Nat) (m0 m1 m2 : Value) (d0 : ChartD) (d1 : MarksD) (d2 : MemD), HIc w lo0 hi0 m0 d0 → MkR w lo1 hi1 m1 d1 → MI w lo2 hi2 m2 d2 → hi0 ≤ w.heap.size → hi1 ≤ w.heap.size → hi2 ≤ w.heap.size → d0.many ≤ 1048576 → Calls Tryz.prog 14 #[m0, m1, m2] w fun e w' => ∃ v', e = .returned v' ∧ RowZ w' w.heap.size v' (chartFires d0 d1 d2) ∧ Below w.heap.size w w')
    (w : World) (v0 : Value) (d0 : ChartD) (r0 : HIc w 0 w.heap.size v0 d0) (v1 : Value) (d1 : MarksD) (r1 : MkR w 0 w.heap.size v1 d1) (v2 : Value) (d2 : MemD) (r2 : MI w 0 w.heap.size v2 d2) :
    Calls Tryz.prog 3 #[v0, v1, v2] w fun e w' => e = .returned (.bool true) ∧ Below w.heap.size w w' := by
  obtain ⟨q, hq⟩ : ∃ q, chartFires d0 d1 d2 = q := ⟨_, rfl⟩
  have hqb : q.length ≤ 6 := by rw [← hq]; exact chartFires_len d0 d1 d2
  have HQ : Hid (chartFires d0 d1 d2 = q) := hq
  clear hq
  obtain ⟨paA0, caA0, pbA0, cbA0, rfl⟩ := r0.shape
  have R0 : Hid (HIc w 0 w.heap.size (.agg #[.int .i64 d0.steps, .slice paA0 d0.ts.length caA0, .slice pbA0 d0.acts.length cbA0]) d0) := r0
  clear r0
  obtain ⟨paA1, caA1, pbA1, cbA1, rfl⟩ := r1.shapeR
  have R1 : Hid (MkR w 0 w.heap.size (.agg #[.slice paA1 d1.on.length caA1, .slice pbA1 d1.kept.length cbA1]) d1) := r1
  clear r1
  obtain ⟨paA2, caA2, pbA2, cbA2, pcA2, ccA2, rfl⟩ := r2.shapeV
  have R2 : Hid (MI w 0 w.heap.size (.agg #[.slice paA2 d2.i.length caA2, .slice pbA2 d2.o.length cbA2, .slice pcA2 d2.v.length ccA2]) d2) := r2
  clear r2
  go_enter Tryz.func3, Tryz.ntmps3
  go_wp2_with fail
  obtain ⟨b0, eb0⟩ : ∃ b, w.alloc (.cells #[.int .i64 d0.steps, .slice paA0 d0.ts.length caA0, .slice pbA0 d0.acts.length cbA0] 25) = b := ⟨_, rfl⟩
  have sb0 : b0.heap.size = w.heap.size + 1 := by rw [← eb0]; simp
  have gb0 : Below w.heap.size w b0 := by rw [← eb0]; exact (Below.refl _ _).alloc (Nat.le_refl _) _
  have P0 := bxt_new w (.int .i64 d0.steps) (.slice paA0 d0.ts.length caA0) (.slice pbA0 d0.acts.length cbA0) 25
  rw [eb0] at P0 ⊢
  clear eb0
  obtain ⟨b1, eb1⟩ : ∃ b, b0.alloc (.cells #[.slice paA1 d1.on.length caA1, .slice pbA1 d1.kept.length cbA1] 28) = b := ⟨_, rfl⟩
  have sb1 : b1.heap.size = b0.heap.size + 1 := by rw [← eb1]; simp
  have gb1 : Below b0.heap.size b0 b1 := by rw [← eb1]; exact (Below.refl _ _).alloc (Nat.le_refl _) _
  have P1 := bxq_new b0 (.slice paA1 d1.on.length caA1) (.slice pbA1 d1.kept.length cbA1) 28
  rw [eb1] at P1 ⊢
  clear eb1
  obtain ⟨b2, eb2⟩ : ∃ b, b1.alloc (.cells #[.slice paA2 d2.i.length caA2, .slice pbA2 d2.o.length cbA2, .slice pcA2 d2.v.length ccA2] 31) = b := ⟨_, rfl⟩
  have sb2 : b2.heap.size = b1.heap.size + 1 := by rw [← eb2]; simp
  have gb2 : Below b1.heap.size b1 b2 := by rw [← eb2]; exact (Below.refl _ _).alloc (Nat.le_refl _) _
  have P2 := bxt_new b1 (.slice paA2 d2.i.length caA2) (.slice pbA2 d2.o.length cbA2) (.slice pcA2 d2.v.length ccA2) 31
  rw [eb2] at P2 ⊢
  clear eb2
  rw [sb0] at P1
  rw [sb1, sb0] at P2
  have P0 := (P0.below gb1 (by omega)).below gb2 (by omega)
  have P1 := P1.below gb2 (by omega)
  have G : Below w.heap.size w b2 := (gb0.trans (gb1.mono (by omega))).trans (gb2.mono (by omega))
  have hsz : b2.heap.size = w.heap.size + 3 := by omega
  clear gb0 gb1 gb2 sb0 sb1 sb2
  refine (szChart_any _ _ _ _ d0 ((1048576 : Int)) (R0.out.below G (Nat.le_refl _)) (by omega) (by omega) (by omega)).mono ?_
  by_cases big0 : (1048576 : Int) < (d0.many : Int)
  · rw [if_pos big0]
    rintro e1 q1 ⟨rfl, g1⟩
    have hbq := G.trans (g1.mono (by omega))
    clear g1 P0 P1 P2
    go_wp2
    go_ret
    exact ⟨rfl, hbq⟩
  rw [if_neg big0]
  rintro e1 u1 ⟨rfl, g1⟩
  have np0 : ¬ ((1048576 - (d0.many : Int)) < 0) := by omega
  have s1 := g1.size
  replace G := G.trans (g1.mono (by omega))
  replace P0 := P0.below g1 (by omega)
  replace P1 := P1.below g1 (by omega)
  replace P2 := P2.below g1 (by omega)
  clear g1
  obtain ⟨z2, z3⟩ := id P1
  go_wp2_with fail
  clear z2 z3
  refine (szMarks_any _ _ _ _ d1 ((1048576 - (d0.many : Int))) (R1.out.below G (Nat.le_refl _)) (by omega) (by omega) (by omega)).mono ?_
  by_cases big1 : (1048576 - (d0.many : Int)) < (d1.many : Int)
  · rw [if_pos big1]
    rintro e1 q1 ⟨rfl, g1⟩
    have hbq := G.trans (g1.mono (by omega))
    clear g1 P0 P1 P2
    go_wp2
    go_ret
    exact ⟨rfl, hbq⟩
  rw [if_neg big1]
  rintro e1 u4 ⟨rfl, g4⟩
  have np1 : ¬ (((1048576 - (d0.many : Int)) - (d1.many : Int)) < 0) := by omega
  have s4 := g4.size
  replace G := G.trans (g4.mono (by omega))
  replace P0 := P0.below g4 (by omega)
  replace P1 := P1.below g4 (by omega)
  replace P2 := P2.below g4 (by omega)
  clear g4
  obtain ⟨z5, z6, z7⟩ := id P2
  go_wp2_with fail
  clear z5 z6 z7
  refine (szMem_any _ _ _ _ d2 (((1048576 - (d0.many : Int)) - (d1.many : Int))) (R2.out.below G (Nat.le_refl _)) (by omega) (by omega) (by omega)).mono ?_
  by_cases big2 : ((1048576 - (d0.many : Int)) - (d1.many : Int)) < (d2.many : Int)
  · rw [if_pos big2]
    rintro e1 q1 ⟨rfl, g1⟩
    have hbq := G.trans (g1.mono (by omega))
    clear g1 P0 P1 P2
    go_wp2
    go_ret
    exact ⟨rfl, hbq⟩
  rw [if_neg big2]
  rintro e1 u8 ⟨rfl, g8⟩
  have np2 : ¬ ((((1048576 - (d0.many : Int)) - (d1.many : Int)) - (d2.many : Int)) < 0) := by omega
  have s8 := g8.size
  replace G := G.trans (g8.mono (by omega))
  replace P0 := P0.below g8 (by omega)
  replace P1 := P1.below g8 (by omega)
  replace P2 := P2.below g8 (by omega)
  clear g8
  have nb0 : d0.many ≤ 1048576 := by omega
  have nb1 : d1.many ≤ 1048576 := by omega
  have nb2 : d2.i.length + d2.o.length + d2.v.length ≤ 1048576 := by have : d2.many = d2.i.length + d2.o.length + d2.v.length := rfl; omega
  go_wp2_with fail
  refine wp_region_dag (R := Grow) (Φ := fun i v u => match i with
      | 0 => v = .agg #[.int .i64 d0.steps, .slice paA0 d0.ts.length caA0, .slice pbA0 d0.acts.length cbA0]
      | 1 => ∃ lo' hi', u8.heap.size ≤ lo' ∧ hi' ≤ u.heap.size ∧ HOc u lo' hi' v d0
      | 2 => v = .agg #[.slice paA1 d1.on.length caA1, .slice pbA1 d1.kept.length cbA1]
      | 3 => ∃ lo' hi', u8.heap.size ≤ lo' ∧ hi' ≤ u.heap.size ∧ MkO u lo' hi' v d1
      | 4 => v = .agg #[.slice paA2 d2.i.length caA2, .slice pbA2 d2.o.length cbA2, .slice pcA2 d2.v.length ccA2]
      | 5 => ∃ lo' hi', u8.heap.size ≤ lo' ∧ hi' ≤ u.heap.size ∧ MO u lo' hi' v d2
      | 6 => ∃ lo' hi', u8.heap.size ≤ lo' ∧ lo' ≤ hi' ∧ hi' ≤ u.heap.size ∧ OI u lo' hi' v q
      | 7 => ∃ lo' hi', u8.heap.size ≤ lo' ∧ lo' ≤ hi' ∧ hi' ≤ u.heap.size ∧ OI u lo' hi' v q
      | _ => True) (by kernel_rfl) (by kernel_rfl) (by kernel_rfl) (Below.refl _ _) grow_trans ?_ ?_ ?_
  · intro i v u u' hr
    match i with
    | 0 | 2 | 4 | _ + 8 => exact fun h => h
    | 1 => exact fun ⟨lo', hi', h0, h1, h2⟩ => ⟨lo', hi', h0, Nat.le_trans h1 hr.size, h2.below hr h1⟩
    | 3 => exact fun ⟨lo', hi', h0, h1, h2⟩ => ⟨lo', hi', h0, Nat.le_trans h1 hr.size, h2.below hr h1⟩
    | 5 => exact fun ⟨lo', hi', h0, h1, h2⟩ => ⟨lo', hi', h0, Nat.le_trans h1 hr.size, h2.below hr h1⟩
    | 6 => exact fun ⟨lo', hi', h0, h1, h2, h3⟩ => ⟨lo', hi', h0, h1, Nat.le_trans h2 hr.size, h3.kept fun k q1 q2 => hr.block k (by omega)⟩
    | 7 => exact fun ⟨lo', hi', h0, h1, h2, h3⟩ => ⟨lo', hi', h0, h1, Nat.le_trans h2 hr.size, h3.kept fun k q1 q2 => hr.block k (by omega)⟩
  · intro i o ho a u hf hR0 he K' hK
    have hR : Grow u8 u := (Below.drew (Below.refl _ _)).trans hR0
    have hRw : Below w.heap.size w u := G.trans (hR.mono (by omega))
    have hsz' : a.tmps.size = 115 := hf.size
    have hus : u8.heap.size ≤ u.heap.size := hR.size
    rcases i with _ | _ | _ | _ | _ | _ | _ | _ | i
    · obtain rfl := Option.some.inj ho
      clear he
      have q1 : a.tmps.getD 3 undef = .pointer (some ⟨w.heap.size, 0, none⟩) := hf.at_ 3 (by kernel_rfl)
      obtain ⟨c0, c1, c2⟩ := P0.below hR (by omega)
      go_simp
      exact hK _ _ (Below.refl _ _) (getD_put_self a 32 _ (by show _ < a.tmps.size; omega))
    · obtain rfl := Option.some.inj ho
      have q1 : a.tmps.getD 32 undef = .agg #[.int .i64 d0.steps, .slice paA0 d0.ts.length caA0, .slice pbA0 d0.acts.length cbA0] := he _ (Array.mem_of_getElem? (i := 0) rfl) (by kernel_rfl) _ rfl
      clear he
      go_simp
      refine (toChart_any _ _ _ _ d0 (R0.out.below hRw (Nat.le_refl _)) (by omega) nb0).mono ?_
      rintro e1 u' ⟨m', rfl, HOx, hbu⟩
      exact hK _ _ hbu ⟨_, _, hus, Nat.le_refl _, by show HOc _ _ _ ((a.put (some 33) m').tmps.getD 33 undef) d0; rw [getD_put_self a 33 _ (by show _ < a.tmps.size; omega)]; exact HOx⟩
    · obtain rfl := Option.some.inj ho
      clear he
      have q1 : a.tmps.getD 4 undef = .pointer (some ⟨w.heap.size + 1, 0, none⟩) := hf.at_ 4 (by kernel_rfl)
      obtain ⟨c0, c1⟩ := P1.below hR (by omega)
      go_simp
      exact hK _ _ (Below.refl _ _) (getD_put_self a 34 _ (by show _ < a.tmps.size; omega))
    · obtain rfl := Option.some.inj ho
      have q1 : a.tmps.getD 34 undef = .agg #[.slice paA1 d1.on.length caA1, .slice pbA1 d1.kept.length cbA1] := he _ (Array.mem_of_getElem? (i := 0) rfl) (by kernel_rfl) _ rfl
      clear he
      go_simp
      refine (toMarks_any _ _ _ _ d1 (R1.out.below hRw (Nat.le_refl _)) (by omega) nb1).mono ?_
      rintro e1 u' ⟨m', rfl, HOx, hbu⟩
      exact hK _ _ hbu ⟨_, _, hus, Nat.le_refl _, by show MkO _ _ _ ((a.put (some 35) m').tmps.getD 35 undef) d1; rw [getD_put_self a 35 _ (by show _ < a.tmps.size; omega)]; exact HOx⟩
    · obtain rfl := Option.some.inj ho
      clear he
      have q1 : a.tmps.getD 5 undef = .pointer (some ⟨w.heap.size + 1 + 1, 0, none⟩) := hf.at_ 5 (by kernel_rfl)
      obtain ⟨c0, c1, c2⟩ := P2.below hR (by omega)
      go_simp
      exact hK _ _ (Below.refl _ _) (getD_put_self a 36 _ (by show _ < a.tmps.size; omega))
    · obtain rfl := Option.some.inj ho
      have q1 : a.tmps.getD 36 undef = .agg #[.slice paA2 d2.i.length caA2, .slice pbA2 d2.o.length cbA2, .slice pcA2 d2.v.length ccA2] := he _ (Array.mem_of_getElem? (i := 0) rfl) (by kernel_rfl) _ rfl
      clear he
      go_simp
      refine (toMem_any _ _ _ _ d2 (R2.out.below hRw (Nat.le_refl _)) (by omega) nb2).mono ?_
      rintro e1 u' ⟨m', rfl, HOx, hbu⟩
      exact hK _ _ hbu ⟨_, _, hus, Nat.le_refl _, by show MO _ _ _ ((a.put (some 37) m').tmps.getD 37 undef) d2; rw [getD_put_self a 37 _ (by show _ < a.tmps.size; omega)]; exact HOx⟩
    · obtain rfl := Option.some.inj ho
      obtain ⟨lo0, hi0, ha0, hh0, HO0⟩ := he _ (Array.mem_of_getElem? (i := 0) rfl) (by kernel_rfl) _ rfl
      have HO0 : HOc u lo0 hi0 (a.tmps.getD 33 undef) d0 := HO0
      obtain ⟨mm0, em0⟩ : ∃ mm, a.tmps.getD 33 undef = mm := ⟨_, rfl⟩
      rw [em0] at HO0
      obtain ⟨lo1, hi1, ha1, hh1, HO1⟩ := he _ (Array.mem_of_getElem? (i := 1) rfl) (by kernel_rfl) _ rfl
      have HO1 : MkO u lo1 hi1 (a.tmps.getD 35 undef) d1 := HO1
      obtain ⟨mm1, em1⟩ : ∃ mm, a.tmps.getD 35 undef = mm := ⟨_, rfl⟩
      rw [em1] at HO1
      obtain ⟨lo2, hi2, ha2, hh2, HO2⟩ := he _ (Array.mem_of_getElem? (i := 2) rfl) (by kernel_rfl) _ rfl
      have HO2 : MO u lo2 hi2 (a.tmps.getD 37 undef) d2 := HO2
      obtain ⟨mm2, em2⟩ : ∃ mm, a.tmps.getD 37 undef = mm := ⟨_, rfl⟩
      rw [em2] at HO2
      have hcc := sChartFires_any u _ _ _ _ _ _ mm0 mm1 mm2 d0 d1 d2 HO0.hi HO1.r HO2.mi hh0 hh1 hh2 nb0
      rw [HQ.out] at hcc
      clear he
      go_simp
      refine hcc.mono ?_
      rintro e1 u' ⟨m', rfl, HOx, hbu⟩
      exact hK _ _ hbu ⟨_, _, hus, hbu.size, Nat.le_refl _, by show OI _ _ _ ((a.put (some 38) m').tmps.getD 38 undef) q; rw [getD_put_self a 38 _ (by show _ < a.tmps.size; omega)]; exact HOx.oi⟩
    · obtain rfl := Option.some.inj ho
      obtain ⟨lo4, hi4, ha4, hb4, hh4, HO4⟩ := he _ (Array.mem_of_getElem? (i := 0) rfl) (by kernel_rfl) _ rfl
      have HO4 : OI u lo4 hi4 (a.tmps.getD 38 undef) q := HO4
      obtain ⟨mm4, em4⟩ : ∃ mm, a.tmps.getD 38 undef = mm := ⟨_, rfl⟩
      rw [em4] at HO4
      clear he
      go_simp
      exact hK _ _ (Below.refl _ _) ⟨lo4, hi4, ha4, hb4, hh4, by show OI _ _ _ ((a.put (some 8) mm4).tmps.getD 8 undef) q; rw [getD_put_self a 8 _ (by show _ < a.tmps.size; omega)]; exact HO4⟩
    · exact absurd ho (by simp)
  intro a u9 hf hR0 hp
  have g9 : Grow u8 u9 := (Below.drew (Below.refl _ _)).trans hR0
  obtain ⟨loW, hiW, haW, hbW, hcW, O9⟩ := hp 7 _ rfl
  have O9 : OI u9 loW hiW (a.tmps.getD 8 undef) q := O9
  obtain ⟨aW, cW, hvW⟩ := oi_shapeF O9
  rw [hvW] at O9
  have md : a.defers = [] := hf.defers
  have m8 : a.tmps.getD 8 undef = .slice aW q.length cW := hvW
  have m3 : a.tmps.getD 3 undef = .pointer (some ⟨w.heap.size, 0, none⟩) := hf.at_ 3 (by kernel_rfl)
  have m4 : a.tmps.getD 4 undef = .pointer (some ⟨w.heap.size + 1, 0, none⟩) := hf.at_ 4 (by kernel_rfl)
  have m5 : a.tmps.getD 5 undef = .pointer (some ⟨w.heap.size + 1 + 1, 0, none⟩) := hf.at_ 5 (by kernel_rfl)
  obtain ⟨f, ea, hfv⟩ := act_lit a 115 hf.size
  rw [← hfv] at m8 m3 m4 m5
  rw [md] at ea
  simp only [List.range, List.range.loop, List.map_cons, List.map_nil, m8, m3, m4, m5] at ea
  subst ea
  clear hfv hf md hp hR0
  have s9 := g9.size
  replace G := G.trans (g9.mono (by omega))
  replace P0 := P0.below g9 (by omega)
  replace P1 := P1.below g9 (by omega)
  replace P2 := P2.below g9 (by omega)
  clear g9
  have W := O9
  clear O9
  obtain ⟨z10, z11, z12⟩ := id P0
  go_wp2_with fail
  clear z10 z11 z12
  refine (toChart_any _ _ _ _ d0 (R0.out.below G (Nat.le_refl _)) (by omega) nb0).mono ?_
  rintro e1 u13 ⟨m', rfl, O13, g13⟩
  obtain ⟨paT13, caT13, pbT13, cbT13, rfl⟩ := O13.hi.shape
  have s13 := g13.size
  replace G := G.trans (g13.mono (by omega))
  replace P0 := P0.below g13 (by omega)
  replace P1 := P1.below g13 (by omega)
  replace P2 := P2.below g13 (by omega)
  replace W := W.below g13 (by omega)
  clear g13
  have X0 := O13
  clear O13
  obtain ⟨z14, z15⟩ := id P1
  have lt16 : w.heap.size + 1 < u13.heap.size := by omega
  go_wp2_with fail
  clear z14 z15 lt16
  obtain ⟨u17, hu17, g17, Y17, t17⟩ : ∃ u17, u13.alloc (.cells #[.int .i64 d0.steps, .slice paT13 d0.ts.length caT13, .slice pbT13 d0.acts.length cbT13] 39) = u17 ∧ Below u13.heap.size u13 u17 ∧ BxT u17 u13.heap.size (.int .i64 d0.steps) (.slice paT13 d0.ts.length caT13) (.slice pbT13 d0.acts.length cbT13) ∧ u17.heap.size = u13.heap.size + 1 :=
    ⟨_, rfl, (Below.refl _ _).alloc (Nat.le_refl _) _, bxt_new _ _ _ _ _, by simp⟩
  rw [hu17]
  clear hu17
  have s17 := g17.size
  replace G := G.trans (g17.mono (by omega))
  replace P0 := P0.below g17 (by omega)
  replace P1 := P1.below g17 (by omega)
  replace P2 := P2.below g17 (by omega)
  replace W := W.below g17 (by omega)
  replace X0 := X0.below g17 (by omega)
  clear g17
  have B0 := Y17
  clear Y17
  refine (toMarks_any _ _ _ _ d1 (R1.out.below G (Nat.le_refl _)) (by omega) nb1).mono ?_
  rintro e1 u18 ⟨m', rfl, O18, g18⟩
  obtain ⟨paT18, caT18, pbT18, cbT18, rfl⟩ := O18.shape
  have s18 := g18.size
  replace G := G.trans (g18.mono (by omega))
  replace P0 := P0.below g18 (by omega)
  replace P1 := P1.below g18 (by omega)
  replace P2 := P2.below g18 (by omega)
  replace W := W.below g18 (by omega)
  replace X0 := X0.below g18 (by omega)
  replace B0 := B0.below g18 (by omega)
  clear g18
  have X1 := O18
  clear O18
  obtain ⟨z19, z20, z21⟩ := id P2
  have lt22 : w.heap.size + 1 + 1 < u18.heap.size := by omega
  go_wp2_with fail
  clear z19 z20 z21 lt22
  obtain ⟨u23, hu23, g23, Y23, t23⟩ : ∃ u23, u18.alloc (.cells #[.slice paT18 d1.on.length caT18, .slice pbT18 d1.kept.length cbT18] 41) = u23 ∧ Below u18.heap.size u18 u23 ∧ BxQ u23 u18.heap.size (.slice paT18 d1.on.length caT18) (.slice pbT18 d1.kept.length cbT18) ∧ u23.heap.size = u18.heap.size + 1 :=
    ⟨_, rfl, (Below.refl _ _).alloc (Nat.le_refl _) _, bxq_new _ _ _ _, by simp⟩
  rw [hu23]
  clear hu23
  have s23 := g23.size
  replace G := G.trans (g23.mono (by omega))
  replace P0 := P0.below g23 (by omega)
  replace P1 := P1.below g23 (by omega)
  replace P2 := P2.below g23 (by omega)
  replace W := W.below g23 (by omega)
  replace X0 := X0.below g23 (by omega)
  replace B0 := B0.below g23 (by omega)
  replace X1 := X1.below g23 (by omega)
  clear g23
  have B1 := Y23
  clear Y23
  refine (toMem_any _ _ _ _ d2 (R2.out.below G (Nat.le_refl _)) (by omega) nb2).mono ?_
  rintro e1 u24 ⟨m', rfl, O24, g24⟩
  obtain ⟨paT24, caT24, pbT24, cbT24, pcT24, ccT24, rfl⟩ := O24.mi.shapeV
  have s24 := g24.size
  replace G := G.trans (g24.mono (by omega))
  replace P0 := P0.below g24 (by omega)
  replace P1 := P1.below g24 (by omega)
  replace P2 := P2.below g24 (by omega)
  replace W := W.below g24 (by omega)
  replace X0 := X0.below g24 (by omega)
  replace B0 := B0.below g24 (by omega)
  replace X1 := X1.below g24 (by omega)
  replace B1 := B1.below g24 (by omega)
  clear g24
  have X2 := O24
  clear O24
  obtain ⟨z25, z26, z27⟩ := id B0
  obtain ⟨z28, z29⟩ := id B1
  have lt30 : u13.heap.size < u24.heap.size := by omega
  have lt31 : u18.heap.size < u24.heap.size := by omega
  go_wp2_with fail
  clear z25 z26 z27 z28 z29 lt30 lt31
  obtain ⟨u32, hu32, g32, Y32, t32⟩ : ∃ u32, u24.alloc (.cells #[.slice paT24 d2.i.length caT24, .slice pbT24 d2.o.length cbT24, .slice pcT24 d2.v.length ccT24] 43) = u32 ∧ Below u24.heap.size u24 u32 ∧ BxT u32 u24.heap.size (.slice paT24 d2.i.length caT24) (.slice pbT24 d2.o.length cbT24) (.slice pcT24 d2.v.length ccT24) ∧ u32.heap.size = u24.heap.size + 1 :=
    ⟨_, rfl, (Below.refl _ _).alloc (Nat.le_refl _) _, bxt_new _ _ _ _ _, by simp⟩
  rw [hu32]
  clear hu32
  have s32 := g32.size
  replace G := G.trans (g32.mono (by omega))
  replace P0 := P0.below g32 (by omega)
  replace P1 := P1.below g32 (by omega)
  replace P2 := P2.below g32 (by omega)
  replace W := W.below g32 (by omega)
  replace X0 := X0.below g32 (by omega)
  replace B0 := B0.below g32 (by omega)
  replace X1 := X1.below g32 (by omega)
  replace B1 := B1.below g32 (by omega)
  replace X2 := X2.below g32 (by omega)
  clear g32
  have B2 := Y32
  clear Y32
  have hcc := impl _ _ _ _ _ _ _ _ _ _ d0 d1 d2 X0.hi X1.r X2.mi (by omega) (by omega) (by omega) nb0
  rw [HQ.out] at hcc
  refine hcc.mono ?_
  clear hcc
  rintro e1 u33 ⟨m', rfl, O33, g33⟩
  replace O33 := O33.oi
  obtain ⟨aY, cY, rfl⟩ := oi_shapeF O33
  have s33 := g33.size
  replace G := G.trans (g33.mono (by omega))
  replace P0 := P0.below g33 (by omega)
  replace P1 := P1.below g33 (by omega)
  replace P2 := P2.below g33 (by omega)
  replace W := W.below g33 (by omega)
  replace X0 := X0.below g33 (by omega)
  replace B0 := B0.below g33 (by omega)
  replace X1 := X1.below g33 (by omega)
  replace B1 := B1.below g33 (by omega)
  replace X2 := X2.below g33 (by omega)
  replace B2 := B2.below g33 (by omega)
  clear g33
  have Y := O33
  clear O33
  go_wp2_with fail
  refine (eqIntS_any _ _ _ _ _ _ _ q q Y.si W.si).mono ?_
  rw [decide_eq_true rfl]
  rintro e1 u34 ⟨m34, rfl, hm34⟩
  have g34 : Below u33.heap.size u33 u34 := by rw [hm34]; exact below_drewN (Below.refl _ _) m34
  clear hm34
  have s34 := g34.size
  replace G := G.trans (g34.mono (by omega))
  replace P0 := P0.below g34 (by omega)
  replace P1 := P1.below g34 (by omega)
  replace P2 := P2.below g34 (by omega)
  replace W := W.below g34 (by omega)
  replace X0 := X0.below g34 (by omega)
  replace B0 := B0.below g34 (by omega)
  replace X1 := X1.below g34 (by omega)
  replace B1 := B1.below g34 (by omega)
  replace X2 := X2.below g34 (by omega)
  replace B2 := B2.below g34 (by omega)
  replace Y := Y.below g34 (by omega)
  clear g34
  go_wp2_with fail
  refine wp_region_dag (R := Grow) (Φ := fun i v u => match i with
      | 0 => v = .agg #[.int .i64 d0.steps, .slice paT13 d0.ts.length caT13, .slice pbT13 d0.acts.length cbT13]
      | 1 => v = .agg #[.int .i64 d0.steps, .slice paA0 d0.ts.length caA0, .slice pbA0 d0.acts.length cbA0]
      | 2 => ∃ lo' hi', hi' ≤ u.heap.size ∧ HOc u lo' hi' v d0
      | 3 => v = .bool true
      | 4 => v = .bool false
      | _ => True) (by kernel_rfl) (by kernel_rfl) (by kernel_rfl) (Below.refl _ _) grow_trans ?_ ?_ ?_
  · intro i v u u' hr
    match i with
    | 0 | 1 | 3 | 4 | _ + 5 => exact fun h => h
    | 2 => exact fun ⟨lo', hi', h1, h2⟩ => ⟨lo', hi', Nat.le_trans h1 hr.size, h2.below hr h1⟩
  · intro i o ho a u hf hR0 he K' hK
    have hR : Grow u34 u := (Below.drew (Below.refl _ _)).trans hR0
    have hRw : Below w.heap.size w u := G.trans (hR.mono (by omega))
    have hsz' : a.tmps.size = 115 := hf.size
    have hus : u34.heap.size ≤ u.heap.size := hR.size
    rcases i with _ | _ | _ | _ | _ | i
    · obtain rfl := Option.some.inj ho
      clear he
      have q1 : a.tmps.getD 9 undef = .pointer (some ⟨u13.heap.size, 0, none⟩) := hf.at_ 9 (by kernel_rfl)
      obtain ⟨c0, c1, c2⟩ := B0.below hR (by omega)
      go_simp
      exact hK _ _ (Below.refl _ _) (getD_put_self a 53 _ (by show _ < a.tmps.size; omega))
    · obtain rfl := Option.some.inj ho
      clear he
      have q1 : a.tmps.getD 3 undef = .pointer (some ⟨w.heap.size, 0, none⟩) := hf.at_ 3 (by kernel_rfl)
      obtain ⟨c0, c1, c2⟩ := P0.below hR (by omega)
      go_simp
      exact hK _ _ (Below.refl _ _) (getD_put_self a 54 _ (by show _ < a.tmps.size; omega))
    · obtain rfl := Option.some.inj ho
      have q1 : a.tmps.getD 54 undef = .agg #[.int .i64 d0.steps, .slice paA0 d0.ts.length caA0, .slice pbA0 d0.acts.length cbA0] := he _ (Array.mem_of_getElem? (i := 0) rfl) (by kernel_rfl) _ rfl
      clear he
      go_simp
      refine (toChart_any _ _ _ _ d0 (R0.out.below hRw (Nat.le_refl _)) (by omega) nb0).mono ?_
      rintro e1 u' ⟨m', rfl, HOx, hbu⟩
      exact hK _ _ hbu ⟨_, _, Nat.le_refl _, by show HOc _ _ _ ((a.put (some 55) m').tmps.getD 55 undef) d0; rw [getD_put_self a 55 _ (by show _ < a.tmps.size; omega)]; exact HOx⟩
    · obtain rfl := Option.some.inj ho
      have q22 : a.tmps.getD 53 undef = .agg #[.int .i64 d0.steps, .slice paT13 d0.ts.length caT13, .slice pbT13 d0.acts.length cbT13] := he _ (Array.mem_of_getElem? (i := 0) rfl) (by kernel_rfl) _ rfl
      obtain ⟨lo24, hi24, hh24, HO24⟩ := he _ (Array.mem_of_getElem? (i := 1) rfl) (by kernel_rfl) _ rfl
      have HO24 : HOc u lo24 hi24 (a.tmps.getD 55 undef) d0 := HO24
      obtain ⟨mm24, em24⟩ : ∃ mm, a.tmps.getD 55 undef = mm := ⟨_, rfl⟩
      rw [em24] at HO24
      clear he
      go_simp
      refine (eqChart_same _ _ _ _ _ _ _ d0 (X0.below hR (by omega)).hi HO24.hi (by omega) hh24).mono ?_
      rintro e1 u' ⟨rfl, hbu⟩
      exact hK _ _ hbu (getD_put_self a 56 _ (by show _ < a.tmps.size; omega))
    · obtain rfl := Option.some.inj ho
      have q1 : a.tmps.getD 56 undef = .bool true := he _ (Array.mem_of_getElem? (i := 0) rfl) (by kernel_rfl) _ rfl
      clear he
      go_simp
      exact hK _ _ (Below.refl _ _) (getD_put_self a 57 _ (by show _ < a.tmps.size; omega))
    · exact absurd ho (by simp)
  intro a u35 hf hR0 hp
  have g35 : Grow u34 u35 := (Below.drew (Below.refl _ _)).trans hR0
  have md : a.defers = [] := hf.defers
  have m57 : a.tmps.getD 57 undef = .bool false := hp 4 _ rfl
  have m3 : a.tmps.getD 3 undef = .pointer (some ⟨w.heap.size, 0, none⟩) := hf.at_ 3 (by kernel_rfl)
  have m4 : a.tmps.getD 4 undef = .pointer (some ⟨w.heap.size + 1, 0, none⟩) := hf.at_ 4 (by kernel_rfl)
  have m5 : a.tmps.getD 5 undef = .pointer (some ⟨w.heap.size + 1 + 1, 0, none⟩) := hf.at_ 5 (by kernel_rfl)
  have m9 : a.tmps.getD 9 undef = .pointer (some ⟨u13.heap.size, 0, none⟩) := hf.at_ 9 (by kernel_rfl)
  have m10 : a.tmps.getD 10 undef = .pointer (some ⟨u18.heap.size, 0, none⟩) := hf.at_ 10 (by kernel_rfl)
  have m11 : a.tmps.getD 11 undef = .pointer (some ⟨u24.heap.size, 0, none⟩) := hf.at_ 11 (by kernel_rfl)
  have m8 : a.tmps.getD 8 undef = .slice aW q.length cW := hf.at_ 8 (by kernel_rfl)
  have m12 : a.tmps.getD 12 undef = .slice aY q.length cY := hf.at_ 12 (by kernel_rfl)
  obtain ⟨f, ea, hfv⟩ := act_lit a 115 hf.size
  rw [← hfv] at m57 m3 m4 m5 m9 m10 m11 m8 m12
  rw [md] at ea
  simp only [List.range, List.range.loop, List.map_cons, List.map_nil, m57, m3, m4, m5, m9, m10, m11, m8, m12] at ea
  subst ea
  clear hfv hf md hp hR0
  have s35 := g35.size
  replace G := G.trans (g35.mono (by omega))
  replace P0 := P0.below g35 (by omega)
  replace P1 := P1.below g35 (by omega)
  replace P2 := P2.below g35 (by omega)
  replace W := W.below g35 (by omega)
  replace X0 := X0.below g35 (by omega)
  replace B0 := B0.below g35 (by omega)
  replace X1 := X1.below g35 (by omega)
  replace B1 := B1.below g35 (by omega)
  replace X2 := X2.below g35 (by omega)
  replace B2 := B2.below g35 (by omega)
  replace Y := Y.below g35 (by omega)
  clear g35
  go_wp2_with fail
  refine wp_region_dag (R := Grow) (Φ := fun i v u => match i with
      | 0 => v = .agg #[.slice paT18 d1.on.length caT18, .slice pbT18 d1.kept.length cbT18]
      | 1 => v = .agg #[.slice paA1 d1.on.length caA1, .slice pbA1 d1.kept.length cbA1]
      | 2 => ∃ lo' hi', hi' ≤ u.heap.size ∧ MkO u lo' hi' v d1
      | 3 => v = .bool true
      | 4 => v = .bool false
      | _ => True) (by kernel_rfl) (by kernel_rfl) (by kernel_rfl) (Below.refl _ _) grow_trans ?_ ?_ ?_
  · intro i v u u' hr
    match i with
    | 0 | 1 | 3 | 4 | _ + 5 => exact fun h => h
    | 2 => exact fun ⟨lo', hi', h1, h2⟩ => ⟨lo', hi', Nat.le_trans h1 hr.size, h2.below hr h1⟩
  · intro i o ho a u hf hR0 he K' hK
    have hR : Grow u35 u := (Below.drew (Below.refl _ _)).trans hR0
    have hRw : Below w.heap.size w u := G.trans (hR.mono (by omega))
    have hsz' : a.tmps.size = 115 := hf.size
    have hus : u35.heap.size ≤ u.heap.size := hR.size
    rcases i with _ | _ | _ | _ | _ | i
    · obtain rfl := Option.some.inj ho
      clear he
      have q1 : a.tmps.getD 10 undef = .pointer (some ⟨u18.heap.size, 0, none⟩) := hf.at_ 10 (by kernel_rfl)
      obtain ⟨c0, c1⟩ := B1.below hR (by omega)
      go_simp
      exact hK _ _ (Below.refl _ _) (getD_put_self a 58 _ (by show _ < a.tmps.size; omega))
    · obtain rfl := Option.some.inj ho
      clear he
      have q1 : a.tmps.getD 4 undef = .pointer (some ⟨w.heap.size + 1, 0, none⟩) := hf.at_ 4 (by kernel_rfl)
      obtain ⟨c0, c1⟩ := P1.below hR (by omega)
      go_simp
      exact hK _ _ (Below.refl _ _) (getD_put_self a 59 _ (by show _ < a.tmps.size; omega))
    · obtain rfl := Option.some.inj ho
      have q1 : a.tmps.getD 59 undef = .agg #[.slice paA1 d1.on.length caA1, .slice pbA1 d1.kept.length cbA1] := he _ (Array.mem_of_getElem? (i := 0) rfl) (by kernel_rfl) _ rfl
      clear he
      go_simp
      refine (toMarks_any _ _ _ _ d1 (R1.out.below hRw (Nat.le_refl _)) (by omega) nb1).mono ?_
      rintro e1 u' ⟨m', rfl, HOx, hbu⟩
      exact hK _ _ hbu ⟨_, _, Nat.le_refl _, by show MkO _ _ _ ((a.put (some 60) m').tmps.getD 60 undef) d1; rw [getD_put_self a 60 _ (by show _ < a.tmps.size; omega)]; exact HOx⟩
    · obtain rfl := Option.some.inj ho
      have q22 : a.tmps.getD 58 undef = .agg #[.slice paT18 d1.on.length caT18, .slice pbT18 d1.kept.length cbT18] := he _ (Array.mem_of_getElem? (i := 0) rfl) (by kernel_rfl) _ rfl
      obtain ⟨lo24, hi24, hh24, HO24⟩ := he _ (Array.mem_of_getElem? (i := 1) rfl) (by kernel_rfl) _ rfl
      have HO24 : MkO u lo24 hi24 (a.tmps.getD 60 undef) d1 := HO24
      obtain ⟨mm24, em24⟩ : ∃ mm, a.tmps.getD 60 undef = mm := ⟨_, rfl⟩
      rw [em24] at HO24
      clear he
      go_simp
      refine (eqMkO_same _ _ _ _ _ _ _ d1 (X1.below hR (by omega)).r HO24.r (by omega) hh24).mono ?_
      rintro e1 u' ⟨rfl, hbu⟩
      exact hK _ _ hbu (getD_put_self a 61 _ (by show _ < a.tmps.size; omega))
    · obtain rfl := Option.some.inj ho
      have q1 : a.tmps.getD 61 undef = .bool true := he _ (Array.mem_of_getElem? (i := 0) rfl) (by kernel_rfl) _ rfl
      clear he
      go_simp
      exact hK _ _ (Below.refl _ _) (getD_put_self a 62 _ (by show _ < a.tmps.size; omega))
    · exact absurd ho (by simp)
  intro a u36 hf hR0 hp
  have g36 : Grow u35 u36 := (Below.drew (Below.refl _ _)).trans hR0
  have md : a.defers = [] := hf.defers
  have m62 : a.tmps.getD 62 undef = .bool false := hp 4 _ rfl
  have m3 : a.tmps.getD 3 undef = .pointer (some ⟨w.heap.size, 0, none⟩) := hf.at_ 3 (by kernel_rfl)
  have m4 : a.tmps.getD 4 undef = .pointer (some ⟨w.heap.size + 1, 0, none⟩) := hf.at_ 4 (by kernel_rfl)
  have m5 : a.tmps.getD 5 undef = .pointer (some ⟨w.heap.size + 1 + 1, 0, none⟩) := hf.at_ 5 (by kernel_rfl)
  have m9 : a.tmps.getD 9 undef = .pointer (some ⟨u13.heap.size, 0, none⟩) := hf.at_ 9 (by kernel_rfl)
  have m10 : a.tmps.getD 10 undef = .pointer (some ⟨u18.heap.size, 0, none⟩) := hf.at_ 10 (by kernel_rfl)
  have m11 : a.tmps.getD 11 undef = .pointer (some ⟨u24.heap.size, 0, none⟩) := hf.at_ 11 (by kernel_rfl)
  have m8 : a.tmps.getD 8 undef = .slice aW q.length cW := hf.at_ 8 (by kernel_rfl)
  have m12 : a.tmps.getD 12 undef = .slice aY q.length cY := hf.at_ 12 (by kernel_rfl)
  obtain ⟨f, ea, hfv⟩ := act_lit a 115 hf.size
  rw [← hfv] at m62 m3 m4 m5 m9 m10 m11 m8 m12
  rw [md] at ea
  simp only [List.range, List.range.loop, List.map_cons, List.map_nil, m62, m3, m4, m5, m9, m10, m11, m8, m12] at ea
  subst ea
  clear hfv hf md hp hR0
  have s36 := g36.size
  replace G := G.trans (g36.mono (by omega))
  replace P0 := P0.below g36 (by omega)
  replace P1 := P1.below g36 (by omega)
  replace P2 := P2.below g36 (by omega)
  replace W := W.below g36 (by omega)
  replace X0 := X0.below g36 (by omega)
  replace B0 := B0.below g36 (by omega)
  replace X1 := X1.below g36 (by omega)
  replace B1 := B1.below g36 (by omega)
  replace X2 := X2.below g36 (by omega)
  replace B2 := B2.below g36 (by omega)
  replace Y := Y.below g36 (by omega)
  clear g36
  go_wp2_with fail
  refine wp_region_dag (R := Grow) (Φ := fun i v u => match i with
      | 0 => v = .agg #[.slice paT24 d2.i.length caT24, .slice pbT24 d2.o.length cbT24, .slice pcT24 d2.v.length ccT24]
      | 1 => v = .agg #[.slice paA2 d2.i.length caA2, .slice pbA2 d2.o.length cbA2, .slice pcA2 d2.v.length ccA2]
      | 2 => ∃ lo' hi', hi' ≤ u.heap.size ∧ MO u lo' hi' v d2
      | 3 => v = .bool true
      | 4 => v = .bool false
      | _ => True) (by kernel_rfl) (by kernel_rfl) (by kernel_rfl) (Below.refl _ _) grow_trans ?_ ?_ ?_
  · intro i v u u' hr
    match i with
    | 0 | 1 | 3 | 4 | _ + 5 => exact fun h => h
    | 2 => exact fun ⟨lo', hi', h1, h2⟩ => ⟨lo', hi', Nat.le_trans h1 hr.size, h2.below hr h1⟩
  · intro i o ho a u hf hR0 he K' hK
    have hR : Grow u36 u := (Below.drew (Below.refl _ _)).trans hR0
    have hRw : Below w.heap.size w u := G.trans (hR.mono (by omega))
    have hsz' : a.tmps.size = 115 := hf.size
    have hus : u36.heap.size ≤ u.heap.size := hR.size
    rcases i with _ | _ | _ | _ | _ | i
    · obtain rfl := Option.some.inj ho
      clear he
      have q1 : a.tmps.getD 11 undef = .pointer (some ⟨u24.heap.size, 0, none⟩) := hf.at_ 11 (by kernel_rfl)
      obtain ⟨c0, c1, c2⟩ := B2.below hR (by omega)
      go_simp
      exact hK _ _ (Below.refl _ _) (getD_put_self a 63 _ (by show _ < a.tmps.size; omega))
    · obtain rfl := Option.some.inj ho
      clear he
      have q1 : a.tmps.getD 5 undef = .pointer (some ⟨w.heap.size + 1 + 1, 0, none⟩) := hf.at_ 5 (by kernel_rfl)
      obtain ⟨c0, c1, c2⟩ := P2.below hR (by omega)
      go_simp
      exact hK _ _ (Below.refl _ _) (getD_put_self a 64 _ (by show _ < a.tmps.size; omega))
    · obtain rfl := Option.some.inj ho
      have q1 : a.tmps.getD 64 undef = .agg #[.slice paA2 d2.i.length caA2, .slice pbA2 d2.o.length cbA2, .slice pcA2 d2.v.length ccA2] := he _ (Array.mem_of_getElem? (i := 0) rfl) (by kernel_rfl) _ rfl
      clear he
      go_simp
      refine (toMem_any _ _ _ _ d2 (R2.out.below hRw (Nat.le_refl _)) (by omega) nb2).mono ?_
      rintro e1 u' ⟨m', rfl, HOx, hbu⟩
      exact hK _ _ hbu ⟨_, _, Nat.le_refl _, by show MO _ _ _ ((a.put (some 65) m').tmps.getD 65 undef) d2; rw [getD_put_self a 65 _ (by show _ < a.tmps.size; omega)]; exact HOx⟩
    · obtain rfl := Option.some.inj ho
      have q22 : a.tmps.getD 63 undef = .agg #[.slice paT24 d2.i.length caT24, .slice pbT24 d2.o.length cbT24, .slice pcT24 d2.v.length ccT24] := he _ (Array.mem_of_getElem? (i := 0) rfl) (by kernel_rfl) _ rfl
      obtain ⟨lo24, hi24, hh24, HO24⟩ := he _ (Array.mem_of_getElem? (i := 1) rfl) (by kernel_rfl) _ rfl
      have HO24 : MO u lo24 hi24 (a.tmps.getD 65 undef) d2 := HO24
      obtain ⟨mm24, em24⟩ : ∃ mm, a.tmps.getD 65 undef = mm := ⟨_, rfl⟩
      rw [em24] at HO24
      clear he
      go_simp
      refine (eqMem_any _ _ _ _ _ _ _ d2 d2 (X2.below hR (by omega)).mi HO24.mi (by omega) hh24).mono ?_
      rw [decide_eq_true rfl]
      rintro e1 u' ⟨rfl, hbu⟩
      exact hK _ _ hbu (getD_put_self a 66 _ (by show _ < a.tmps.size; omega))
    · obtain rfl := Option.some.inj ho
      have q1 : a.tmps.getD 66 undef = .bool true := he _ (Array.mem_of_getElem? (i := 0) rfl) (by kernel_rfl) _ rfl
      clear he
      go_simp
      exact hK _ _ (Below.refl _ _) (getD_put_self a 67 _ (by show _ < a.tmps.size; omega))
    · exact absurd ho (by simp)
  intro a u37 hf hR0 hp
  have g37 : Grow u36 u37 := (Below.drew (Below.refl _ _)).trans hR0
  have md : a.defers = [] := hf.defers
  have m67 : a.tmps.getD 67 undef = .bool false := hp 4 _ rfl
  have m3 : a.tmps.getD 3 undef = .pointer (some ⟨w.heap.size, 0, none⟩) := hf.at_ 3 (by kernel_rfl)
  have m4 : a.tmps.getD 4 undef = .pointer (some ⟨w.heap.size + 1, 0, none⟩) := hf.at_ 4 (by kernel_rfl)
  have m5 : a.tmps.getD 5 undef = .pointer (some ⟨w.heap.size + 1 + 1, 0, none⟩) := hf.at_ 5 (by kernel_rfl)
  have m9 : a.tmps.getD 9 undef = .pointer (some ⟨u13.heap.size, 0, none⟩) := hf.at_ 9 (by kernel_rfl)
  have m10 : a.tmps.getD 10 undef = .pointer (some ⟨u18.heap.size, 0, none⟩) := hf.at_ 10 (by kernel_rfl)
  have m11 : a.tmps.getD 11 undef = .pointer (some ⟨u24.heap.size, 0, none⟩) := hf.at_ 11 (by kernel_rfl)
  have m8 : a.tmps.getD 8 undef = .slice aW q.length cW := hf.at_ 8 (by kernel_rfl)
  have m12 : a.tmps.getD 12 undef = .slice aY q.length cY := hf.at_ 12 (by kernel_rfl)
  obtain ⟨f, ea, hfv⟩ := act_lit a 115 hf.size
  rw [← hfv] at m67 m3 m4 m5 m9 m10 m11 m8 m12
  rw [md] at ea
  simp only [List.range, List.range.loop, List.map_cons, List.map_nil, m67, m3, m4, m5, m9, m10, m11, m8, m12] at ea
  subst ea
  clear hfv hf md hp hR0
  have s37 := g37.size
  replace G := G.trans (g37.mono (by omega))
  replace P0 := P0.below g37 (by omega)
  replace P1 := P1.below g37 (by omega)
  replace P2 := P2.below g37 (by omega)
  replace W := W.below g37 (by omega)
  replace X0 := X0.below g37 (by omega)
  replace B0 := B0.below g37 (by omega)
  replace X1 := X1.below g37 (by omega)
  replace B1 := B1.below g37 (by omega)
  replace X2 := X2.below g37 (by omega)
  replace B2 := B2.below g37 (by omega)
  replace Y := Y.below g37 (by omega)
  clear g37
  obtain ⟨z38, z39, z40⟩ := id B0
  go_wp2_with fail
  clear z38 z39 z40
  refine (markChart_any _ _ _ _ d0 1 X0 (by omega) (by omega) (by omega) (by omega)).mono ?_
  rintro e1 u41 ⟨k41, rfl, hk41, hk41', o41⟩
  clear X0 B0
  have s41 := o41.size
  replace G := G.trans (o41.below (by omega) (by omega))
  replace P0 := P0.out o41 (by omega) (by omega)
  replace P1 := P1.out o41 (by omega) (by omega)
  replace P2 := P2.out o41 (by omega) (by omega)
  replace W := W.out o41 (by omega) (by omega)
  replace X1 := X1.out o41 (by omega) (by omega)
  replace B1 := B1.out o41 (by omega) (by omega)
  replace X2 := X2.out o41 (by omega) (by omega)
  replace B2 := B2.out o41 (by omega) (by omega)
  replace Y := Y.out o41 (by omega) (by omega)
  clear o41
  obtain ⟨z42, z43⟩ := id B1
  go_wp2_with fail
  clear z42 z43
  have hMn : d1.many = d1.on.length + d1.kept.length := rfl
  refine (markMkW_any _ _ _ _ d1 k41 X1 (by omega) (by omega) (by omega)).mono ?_
  rintro e1 u44 ⟨rfl, _, o44⟩
  clear X1 B1
  have s44 := o44.size
  replace G := G.trans (o44.below (by omega) (by omega))
  replace P0 := P0.out o44 (by omega) (by omega)
  replace P1 := P1.out o44 (by omega) (by omega)
  replace P2 := P2.out o44 (by omega) (by omega)
  replace W := W.out o44 (by omega) (by omega)
  replace X2 := X2.out o44 (by omega) (by omega)
  replace B2 := B2.out o44 (by omega) (by omega)
  replace Y := Y.out o44 (by omega) (by omega)
  clear o44
  have hMn2 : MkOn d1 = d1.on.length + d1.kept.length := rfl
  obtain ⟨k1, hk1⟩ : ∃ z, k41 + (MkOn d1 : Int) = z := ⟨_, rfl⟩
  have hk1b : 0 ≤ k1 ∧ k1 ≤ 210000000 := by omega
  rw [hk1]
  clear hk1
  obtain ⟨z45, z46, z47⟩ := id B2
  go_wp2_with fail
  clear z45 z46 z47
  have hMm : d2.many = d2.i.length + d2.o.length + d2.v.length := rfl
  refine (markMemW_any _ _ _ _ d2 k1 X2 (by omega) (by omega) (by omega) (by omega)).mono ?_
  rintro e1 u48 ⟨rfl, _, o48⟩
  clear X2 B2
  have s48 := o48.size
  replace G := G.trans (o48.below (by omega) (by omega))
  replace P0 := P0.out o48 (by omega) (by omega)
  replace P1 := P1.out o48 (by omega) (by omega)
  replace P2 := P2.out o48 (by omega) (by omega)
  replace W := W.out o48 (by omega) (by omega)
  replace Y := Y.out o48 (by omega) (by omega)
  clear o48
  obtain ⟨k2, hk2⟩ : ∃ z, k1 + (d2.many : Int) = z := ⟨_, rfl⟩
  have hneg : ¬ (k2 < 0) := by omega
  rw [hk2]
  clear hk2
  go_wp2_with fail
  refine (eqIntS_any _ _ _ _ _ _ _ q q Y.si W.si).mono ?_
  rw [decide_eq_true rfl]
  rintro e1 u49 ⟨m49, rfl, hm49⟩
  have g49 : Below u48.heap.size u48 u49 := by rw [hm49]; exact below_drewN (Below.refl _ _) m49
  clear hm49
  have s49 := g49.size
  replace G := G.trans (g49.mono (by omega))
  replace P0 := P0.below g49 (by omega)
  replace P1 := P1.below g49 (by omega)
  replace P2 := P2.below g49 (by omega)
  replace W := W.below g49 (by omega)
  replace Y := Y.below g49 (by omega)
  clear g49
  go_wp2_with fail
  refine (markIntS_any _ _ _ _ q 1 Y (by omega) (by omega) (by omega)).mono ?_
  rintro e1 u50 ⟨rfl, Y2, wr50⟩
  have o50 := Y.wroteOut wr50 (by omega)
  clear wr50 Y
  have s50 := o50.size
  replace G := G.trans (o50.below (by omega) (by omega))
  replace P0 := P0.out o50 (by omega) (by omega)
  replace P1 := P1.out o50 (by omega) (by omega)
  replace P2 := P2.out o50 (by omega) (by omega)
  replace W := W.out o50 (by omega) (by omega)
  clear o50
  have Y := Y2
  clear Y2
  have hm0 : ¬ ((1 : Int) + (q.length : Int) < 0) := by omega
  obtain ⟨M, hM⟩ : ∃ M, (1 : Int) + (q.length : Int) = M := ⟨_, rfl⟩
  have HM : Hid ((1 : Int) + (q.length : Int) = M) := hM
  rw [hM] at hm0 ⊢
  clear hM
  go_wp2_with fail
  have hh := heldIntS_any _ _ _ _ q.length 1 Y.si (by omega) (by omega) (by omega)
  rw [HM.out] at hh
  refine hh.mono ?_
  clear hh
  rintro e1 u51 ⟨rfl, rfl⟩
  go_wp2_with fail
  refine wp_region_dag (R := Grow) (Φ := fun i v u => match i with
      | 0 => v = .agg #[.int .i64 d0.steps, .slice paA0 d0.ts.length caA0, .slice pbA0 d0.acts.length cbA0]
      | 1 => ∃ lo' hi', u51.heap.size ≤ lo' ∧ hi' ≤ u.heap.size ∧ HOc u lo' hi' v d0
      | 2 => v = .agg #[.slice paA1 d1.on.length caA1, .slice pbA1 d1.kept.length cbA1]
      | 3 => ∃ lo' hi', u51.heap.size ≤ lo' ∧ hi' ≤ u.heap.size ∧ MkO u lo' hi' v d1
      | 4 => v = .agg #[.slice paA2 d2.i.length caA2, .slice pbA2 d2.o.length cbA2, .slice pcA2 d2.v.length ccA2]
      | 5 => ∃ lo' hi', u51.heap.size ≤ lo' ∧ hi' ≤ u.heap.size ∧ MO u lo' hi' v d2
      | 6 => ∃ lo' hi', u51.heap.size ≤ lo' ∧ lo' ≤ hi' ∧ hi' ≤ u.heap.size ∧ OI u lo' hi' v q
      | 7 => ∃ lo' hi', u51.heap.size ≤ lo' ∧ lo' ≤ hi' ∧ hi' ≤ u.heap.size ∧ OI u lo' hi' v q
      | _ => True) (by kernel_rfl) (by kernel_rfl) (by kernel_rfl) (Below.refl _ _) grow_trans ?_ ?_ ?_
  · intro i v u u' hr
    match i with
    | 0 | 2 | 4 | _ + 8 => exact fun h => h
    | 1 => exact fun ⟨lo', hi', h0, h1, h2⟩ => ⟨lo', hi', h0, Nat.le_trans h1 hr.size, h2.below hr h1⟩
    | 3 => exact fun ⟨lo', hi', h0, h1, h2⟩ => ⟨lo', hi', h0, Nat.le_trans h1 hr.size, h2.below hr h1⟩
    | 5 => exact fun ⟨lo', hi', h0, h1, h2⟩ => ⟨lo', hi', h0, Nat.le_trans h1 hr.size, h2.below hr h1⟩
    | 6 => exact fun ⟨lo', hi', h0, h1, h2, h3⟩ => ⟨lo', hi', h0, h1, Nat.le_trans h2 hr.size, h3.kept fun k q1 q2 => hr.block k (by omega)⟩
    | 7 => exact fun ⟨lo', hi', h0, h1, h2, h3⟩ => ⟨lo', hi', h0, h1, Nat.le_trans h2 hr.size, h3.kept fun k q1 q2 => hr.block k (by omega)⟩
  · intro i o ho a u hf hR0 he K' hK
    have hR : Grow u51 u := (Below.drew (Below.refl _ _)).trans hR0
    have hRw : Below w.heap.size w u := G.trans (hR.mono (by omega))
    have hsz' : a.tmps.size = 115 := hf.size
    have hus : u51.heap.size ≤ u.heap.size := hR.size
    rcases i with _ | _ | _ | _ | _ | _ | _ | _ | i
    · obtain rfl := Option.some.inj ho
      clear he
      have q1 : a.tmps.getD 3 undef = .pointer (some ⟨w.heap.size, 0, none⟩) := hf.at_ 3 (by kernel_rfl)
      obtain ⟨c0, c1, c2⟩ := P0.below hR (by omega)
      go_simp
      exact hK _ _ (Below.refl _ _) (getD_put_self a 96 _ (by show _ < a.tmps.size; omega))
    · obtain rfl := Option.some.inj ho
      have q1 : a.tmps.getD 96 undef = .agg #[.int .i64 d0.steps, .slice paA0 d0.ts.length caA0, .slice pbA0 d0.acts.length cbA0] := he _ (Array.mem_of_getElem? (i := 0) rfl) (by kernel_rfl) _ rfl
      clear he
      go_simp
      refine (toChart_any _ _ _ _ d0 (R0.out.below hRw (Nat.le_refl _)) (by omega) nb0).mono ?_
      rintro e1 u' ⟨m', rfl, HOx, hbu⟩
      exact hK _ _ hbu ⟨_, _, hus, Nat.le_refl _, by show HOc _ _ _ ((a.put (some 97) m').tmps.getD 97 undef) d0; rw [getD_put_self a 97 _ (by show _ < a.tmps.size; omega)]; exact HOx⟩
    · obtain rfl := Option.some.inj ho
      clear he
      have q1 : a.tmps.getD 4 undef = .pointer (some ⟨w.heap.size + 1, 0, none⟩) := hf.at_ 4 (by kernel_rfl)
      obtain ⟨c0, c1⟩ := P1.below hR (by omega)
      go_simp
      exact hK _ _ (Below.refl _ _) (getD_put_self a 98 _ (by show _ < a.tmps.size; omega))
    · obtain rfl := Option.some.inj ho
      have q1 : a.tmps.getD 98 undef = .agg #[.slice paA1 d1.on.length caA1, .slice pbA1 d1.kept.length cbA1] := he _ (Array.mem_of_getElem? (i := 0) rfl) (by kernel_rfl) _ rfl
      clear he
      go_simp
      refine (toMarks_any _ _ _ _ d1 (R1.out.below hRw (Nat.le_refl _)) (by omega) nb1).mono ?_
      rintro e1 u' ⟨m', rfl, HOx, hbu⟩
      exact hK _ _ hbu ⟨_, _, hus, Nat.le_refl _, by show MkO _ _ _ ((a.put (some 99) m').tmps.getD 99 undef) d1; rw [getD_put_self a 99 _ (by show _ < a.tmps.size; omega)]; exact HOx⟩
    · obtain rfl := Option.some.inj ho
      clear he
      have q1 : a.tmps.getD 5 undef = .pointer (some ⟨w.heap.size + 1 + 1, 0, none⟩) := hf.at_ 5 (by kernel_rfl)
      obtain ⟨c0, c1, c2⟩ := P2.below hR (by omega)
      go_simp
      exact hK _ _ (Below.refl _ _) (getD_put_self a 100 _ (by show _ < a.tmps.size; omega))
    · obtain rfl := Option.some.inj ho
      have q1 : a.tmps.getD 100 undef = .agg #[.slice paA2 d2.i.length caA2, .slice pbA2 d2.o.length cbA2, .slice pcA2 d2.v.length ccA2] := he _ (Array.mem_of_getElem? (i := 0) rfl) (by kernel_rfl) _ rfl
      clear he
      go_simp
      refine (toMem_any _ _ _ _ d2 (R2.out.below hRw (Nat.le_refl _)) (by omega) nb2).mono ?_
      rintro e1 u' ⟨m', rfl, HOx, hbu⟩
      exact hK _ _ hbu ⟨_, _, hus, Nat.le_refl _, by show MO _ _ _ ((a.put (some 101) m').tmps.getD 101 undef) d2; rw [getD_put_self a 101 _ (by show _ < a.tmps.size; omega)]; exact HOx⟩
    · obtain rfl := Option.some.inj ho
      obtain ⟨lo0, hi0, ha0, hh0, HO0⟩ := he _ (Array.mem_of_getElem? (i := 0) rfl) (by kernel_rfl) _ rfl
      have HO0 : HOc u lo0 hi0 (a.tmps.getD 97 undef) d0 := HO0
      obtain ⟨mm0, em0⟩ : ∃ mm, a.tmps.getD 97 undef = mm := ⟨_, rfl⟩
      rw [em0] at HO0
      obtain ⟨lo1, hi1, ha1, hh1, HO1⟩ := he _ (Array.mem_of_getElem? (i := 1) rfl) (by kernel_rfl) _ rfl
      have HO1 : MkO u lo1 hi1 (a.tmps.getD 99 undef) d1 := HO1
      obtain ⟨mm1, em1⟩ : ∃ mm, a.tmps.getD 99 undef = mm := ⟨_, rfl⟩
      rw [em1] at HO1
      obtain ⟨lo2, hi2, ha2, hh2, HO2⟩ := he _ (Array.mem_of_getElem? (i := 2) rfl) (by kernel_rfl) _ rfl
      have HO2 : MO u lo2 hi2 (a.tmps.getD 101 undef) d2 := HO2
      obtain ⟨mm2, em2⟩ : ∃ mm, a.tmps.getD 101 undef = mm := ⟨_, rfl⟩
      rw [em2] at HO2
      have hcc := impl u _ _ _ _ _ _ mm0 mm1 mm2 d0 d1 d2 HO0.hi HO1.r HO2.mi hh0 hh1 hh2 nb0
      rw [HQ.out] at hcc
      clear he
      go_simp
      refine hcc.mono ?_
      rintro e1 u' ⟨m', rfl, HOx, hbu⟩
      exact hK _ _ hbu ⟨_, _, hus, hbu.size, Nat.le_refl _, by show OI _ _ _ ((a.put (some 102) m').tmps.getD 102 undef) q; rw [getD_put_self a 102 _ (by show _ < a.tmps.size; omega)]; exact HOx.oi⟩
    · obtain rfl := Option.some.inj ho
      obtain ⟨lo4, hi4, ha4, hb4, hh4, HO4⟩ := he _ (Array.mem_of_getElem? (i := 0) rfl) (by kernel_rfl) _ rfl
      have HO4 : OI u lo4 hi4 (a.tmps.getD 102 undef) q := HO4
      obtain ⟨mm4, em4⟩ : ∃ mm, a.tmps.getD 102 undef = mm := ⟨_, rfl⟩
      rw [em4] at HO4
      clear he
      go_simp
      exact hK _ _ (Below.refl _ _) ⟨lo4, hi4, ha4, hb4, hh4, by show OI _ _ _ ((a.put (some 16) mm4).tmps.getD 16 undef) q; rw [getD_put_self a 16 _ (by show _ < a.tmps.size; omega)]; exact HO4⟩
    · exact absurd ho (by simp)
  intro a u52 hf hR0 hp
  have g52 : Grow u51 u52 := (Below.drew (Below.refl _ _)).trans hR0
  obtain ⟨loZ, hiZ, haZ, hbZ, hcZ, O52⟩ := hp 7 _ rfl
  have O52 : OI u52 loZ hiZ (a.tmps.getD 16 undef) q := O52
  obtain ⟨aZ, cZ, hvZ⟩ := oi_shapeF O52
  rw [hvZ] at O52
  have md : a.defers = [] := hf.defers
  have m16 : a.tmps.getD 16 undef = .slice aZ q.length cZ := hvZ
  have m8 : a.tmps.getD 8 undef = .slice aW q.length cW := hf.at_ 8 (by kernel_rfl)
  have m12 : a.tmps.getD 12 undef = .slice aY q.length cY := hf.at_ 12 (by kernel_rfl)
  have m14 : a.tmps.getD 14 undef = .int .i64 M := hf.at_ 14 (by kernel_rfl)
  obtain ⟨f, ea, hfv⟩ := act_lit a 115 hf.size
  rw [← hfv] at m16 m8 m12 m14
  rw [md] at ea
  simp only [List.range, List.range.loop, List.map_cons, List.map_nil, m16, m8, m12, m14] at ea
  subst ea
  clear hfv hf md hp hR0
  have s52 := g52.size
  replace G := G.trans (g52.mono (by omega))
  replace P0 := P0.below g52 (by omega)
  replace P1 := P1.below g52 (by omega)
  replace P2 := P2.below g52 (by omega)
  replace W := W.below g52 (by omega)
  replace Y := Y.below g52 (by omega)
  clear g52
  have Z := O52
  clear O52
  go_wp2_with fail
  refine (eqIntS_any _ _ _ _ _ _ _ q q Z.si W.si).mono ?_
  rw [decide_eq_true rfl]
  rintro e1 u53 ⟨m53, rfl, hm53⟩
  have g53 : Below u52.heap.size u52 u53 := by rw [hm53]; exact below_drewN (Below.refl _ _) m53
  clear hm53
  have s53 := g53.size
  replace G := G.trans (g53.mono (by omega))
  replace P0 := P0.below g53 (by omega)
  replace P1 := P1.below g53 (by omega)
  replace P2 := P2.below g53 (by omega)
  replace W := W.below g53 (by omega)
  replace Y := Y.below g53 (by omega)
  replace Z := Z.below g53 (by omega)
  clear g53
  go_wp2_with fail
  have hh := heldIntS_any _ _ _ _ q.length 1 Y.si (by omega) (by omega) (by omega)
  rw [HM.out] at hh
  refine hh.mono ?_
  clear hh
  rintro e1 u54 ⟨rfl, rfl⟩
  go_wp2
  go_ret
  exact ⟨rfl, G⟩
end Go.Proofs.YtokphdpaghkakaaGreat
