/-
  FnExprSwap, walked over any bytes.
-/
import Derived.Test.YtdhmioelmcdflaaSwapA
import Derived.Test.YtdhmioelmcdflaaDrawNum
import Derived.Test.YtdhmioelmcdflaaImplG
namespace Go.Proofs.Ytdhmioelmcdflaa
open Go.ChangeShapes Go.WideShapes Go.ChangeAt Go.RowKit
set_option linter.unusedVariables false
set_option maxRecDepth 100000

/-- An expression and a memory in two new variables. -/
theorem vars_new (u : World) (a : ExprD) (s : Value) (x y z : Value) : ∃ u2, (u.alloc (.cells #[.int .i64 a.k, .int .i64 a.n, .int .i64 a.ak, .int .i64 a.at_, s] 27)).alloc (.cells #[x, y, z] 30) = u2 ∧ Below u.heap.size u u2 ∧
    Five u2 u.heap.size (.int .i64 a.k) (.int .i64 a.n) (.int .i64 a.ak) (.int .i64 a.at_) s ∧ Three u2 (u.heap.size + 1) x y z ∧ u2.heap.size = u.heap.size + 2 := by
  have k1 := (Below.refl u.heap.size u).alloc (Nat.le_refl _) (.cells #[.int .i64 a.k, .int .i64 a.n, .int .i64 a.ak, .int .i64 a.at_, s] 27)
  have n1 := five_new u (.int .i64 a.k) (.int .i64 a.n) (.int .i64 a.ak) (.int .i64 a.at_) s 27
  obtain ⟨w1, hw1⟩ : ∃ w1, u.alloc (.cells #[.int .i64 a.k, .int .i64 a.n, .int .i64 a.ak, .int .i64 a.at_, s] 27) = w1 := ⟨_, rfl⟩
  have s1 : w1.heap.size = u.heap.size + 1 := by rw [← hw1]; simp
  rw [hw1] at k1 n1 ⊢
  have k2 := (Below.refl w1.heap.size w1).alloc (Nat.le_refl _) (.cells #[x, y, z] 30)
  have n2 := three_new w1 x y z 30
  rw [s1] at n2
  exact ⟨_, rfl, k1.trans (k2.mono (by omega)), n1.under k2 (by omega), n2, by rw [World.size_alloc]; omega⟩

set_option maxHeartbeats 16000000 in
theorem fnExprSwap_walk (w : World) (x0 : Option Addr) (len0 cap0 : Nat) (hb0 : Bytes8 w w.heap.size x0 len0) (hlc0 : len0 ≤ cap0) (hm0 : cap0 ≤ maxLen) (x1 : Option Addr) (len1 cap1 : Nat) (hb1 : Bytes8 w w.heap.size x1 len1) (hlc1 : len1 ≤ cap1) (hm1 : cap1 ≤ maxLen) :
    Calls Try.prog 4 #[.slice x0 len0 cap0, .slice x1 len1 cap1] w fun e w' => e = .returned (.bool true) ∧ Below w.heap.size w w' := by
  have hm0' := hm0
  have hm1' := hm1
  unfold maxLen at hm0' hm1'
  by_cases h0 : (1048576 : Int) < len0
  · clear hb0 hb1 hm0 hm1
    go_enter Try.func4, Try.ntmps4
    go_wp2
    go_ret
    exact ⟨rfl, Below.refl _ _⟩
  by_cases h1 : (1048576 : Int) < len1
  · clear hb0 hb1 hm0 hm1
    go_enter Try.func4, Try.ntmps4
    go_wp2
    go_ret
    exact ⟨rfl, Below.refl _ _⟩
  go_enter Try.func4, Try.ntmps4
  go_wp2_with fail
  refine (drawExprOf_any w x0 len0 cap0 hb0 hlc0 hm0).mono ?_
  rintro e1 u1 ⟨v, a, m, d, rfl, ⟨s, rfl, hka⟩, hma, hmi, hdm, g1⟩
  obtain ⟨ads, cps, rfl, _, _⟩ := hka.shape
  obtain ⟨pa, ca, pb, cb, pc, cc, rfl⟩ := hmi.shapeS
  obtain ⟨X, hX⟩ : ∃ X, u1.heap.size = X := ⟨_, rfl⟩
  obtain ⟨u2, hu2, g2, F2, T2, S2⟩ := vars_new u1 a (.slice ads a.kids.length cps) (.slice pa d.i.length ca) (.slice pb d.o.length cb) (.slice pc d.v.length cc)
  rw [hX] at F2 T2 S2 hka hmi g2
  have hs1 := g1.size
  have G2 := g1.trans (g2.mono (by omega))
  have hka2 := hka.under g2 (Nat.le_refl _)
  have hmi2 := hmi.below g2 (Nat.le_refl _)
  have hb2 := hb1.kept (G2)
  clear hka hmi g1 g2 hb0 hb1
  go_wp2_with fail
  clear hu2
  refine (drawExprOf_any u2 x1 len1 cap1 hb2 hlc1 hm1).mono ?_
  rintro e1 u3 ⟨v, b, m', d', rfl, ⟨t, rfl, hkb⟩, hmb, hmi', hdm', g3⟩
  obtain ⟨adt, cpt, rfl, _, _⟩ := hkb.shape
  obtain ⟨pa', ca', pb', cb', pc', cc', rfl⟩ := hmi'.shapeS
  obtain ⟨Y, hY⟩ : ∃ Y, u3.heap.size = Y := ⟨_, rfl⟩
  obtain ⟨u4, hu4, g4, F4, T4, S4⟩ := vars_new u3 b (.slice adt b.kids.length cpt) (.slice pa' d'.i.length ca') (.slice pb' d'.o.length cb') (.slice pc' d'.v.length cc')
  rw [hY] at F4 T4 S4 hkb g4
  have hs3 := g3.size
  have g34 : Below u2.heap.size u2 u4 := g3.trans (g4.mono (by omega))
  obtain ⟨u5, hu5, g5, C5, S5⟩ : ∃ u5, u4.alloc (.cells #[.int .i64 3, .int .i64 5, .int .i64 7, .int .i64 8, .int .i64 9] 3) = u5 ∧ Below u4.heap.size u4 u5 ∧ (∀ j, j < 5 → ∃ k : Int, u5.cell? ⟨Y + 2, j, none⟩ = some (.int .i64 k) ∧ (k = 3 ∨ k = 5 ∨ k = 7 ∨ k = 8 ∨ k = 9)) ∧ u5.heap.size = Y + 3 := by
    refine ⟨_, rfl, (Below.refl _ _).alloc (Nat.le_refl _) _, fun j hj => ?_, by rw [World.size_alloc]; omega⟩
    rw [← S4]
    obtain rfl | rfl | rfl | rfl | rfl : j = 0 ∨ j = 1 ∨ j = 2 ∨ j = 3 ∨ j = 4 := by omega
    · exact ⟨3, World.cell?_alloc_new _ _ _ _, by omega⟩
    · exact ⟨5, World.cell?_alloc_new _ _ _ _, by omega⟩
    · exact ⟨7, World.cell?_alloc_new _ _ _ _, by omega⟩
    · exact ⟨8, World.cell?_alloc_new _ _ _ _, by omega⟩
    · exact ⟨9, World.cell?_alloc_new _ _ _ _, by omega⟩
  have g25 : Below u2.heap.size u2 u5 := g34.trans (g5.mono (by omega))
  have HA : Hid (Below w.heap.size w u5 ∧ Five u5 X (.int .i64 a.k) (.int .i64 a.n) (.int .i64 a.ak) (.int .i64 a.at_) (.slice ads a.kids.length cps) ∧ Three u5 (X + 1) (.slice pa d.i.length ca) (.slice pb d.o.length cb) (.slice pc d.v.length cc) ∧ Five u5 Y (.int .i64 b.k) (.int .i64 b.n) (.int .i64 b.ak) (.int .i64 b.at_) (.slice adt b.kids.length cpt) ∧ KR u5 w.heap.size Y (.slice ads a.kids.length cps) a.kids ∧ KR u5 w.heap.size Y (.slice adt b.kids.length cpt) b.kids ∧ MI u5 w.heap.size Y (.agg #[.slice pa d.i.length ca, .slice pb d.o.length cb, .slice pc d.v.length cc]) d ∧ (∀ j, j < 5 → ∃ k : Int, u5.cell? ⟨Y + 2, j, none⟩ = some (.int .i64 k) ∧ (k = 3 ∨ k = 5 ∨ k = 7 ∨ k = 8 ∨ k = 9))) :=
    ⟨G2.trans (g25.mono (by omega)), F2.under g25 (by omega), T2.at_ (g25.block _ (by omega)), F4.under g5 (by omega), (hka2.under g25 (by omega)).wide (Nat.le_refl _) (by omega), (hkb.under (g4.trans (g5.mono (by omega))) (Nat.le_refl _)).wide (by omega) (Nat.le_refl _), (hmi2.below g25 (by omega)).rng (Nat.le_refl _) (by omega), C5⟩
  have hXY : X + 2 ≤ Y := by omega
  have hwX : w.heap.size ≤ X := by omega
  have HU4 : Hid (_ = u4) := hu4
  have HU5 : Hid (_ = u5) := hu5
  have hma' := manyE_eq a
  have hmb' := manyE_eq b
  clear hu4 hu5 hka2 hkb hmi2 hmi' F2 T2 F4 T4 g3 g4 g5 g34 g25 C5 G2 hb2
  go_wp2_with fail
  rw [HU4.out, HU5.out]
  clear HU4 HU5
  go_loopw [34] (fun i wr => ∃ j : Nat, i = .int .i64 j ∧ j ≤ 5 ∧ Y + 3 ≤ wr.heap.size ∧ Hid (Below u5.heap.size u5 wr)) (fun i _ => 5 - (intOf i).toNat)
  case atStart => exact ⟨0, rfl, by omega, by omega, Below.refl _ _⟩
  case round =>
    obtain ⟨j, rfl, hj, hws, HR⟩ := hrel
    obtain ⟨i1, i2, i3, i4, i5, i6, i7, i8⟩ := HA.out
    have hR9 := HR.out
    have FX := i2.under hR9 (by omega)
    have FY := i4.under hR9 (by omega)
    have TX := i3.at_ (hR9.block _ (by omega))
    have ka := i5.under hR9 (by omega)
    have kb := i6.under hR9 (by omega)
    have mm := i7.below hR9 (by omega)
    have HB : Hid (Below w.heap.size w wr) := i1.trans (hR9.mono (by omega))
    have HI : Hid (Five wr X (.int .i64 a.k) (.int .i64 a.n) (.int .i64 a.ak) (.int .i64 a.at_) (.slice ads a.kids.length cps) ∧ Three wr (X + 1) (.slice pa d.i.length ca) (.slice pb d.o.length cb) (.slice pc d.v.length cc) ∧ Five wr Y (.int .i64 b.k) (.int .i64 b.n) (.int .i64 b.ak) (.int .i64 b.at_) (.slice adt b.kids.length cpt) ∧ KR wr w.heap.size Y (.slice ads a.kids.length cps) a.kids ∧ KR wr w.heap.size Y (.slice adt b.kids.length cpt) b.kids ∧ MI wr w.heap.size Y (.agg #[.slice pa d.i.length ca, .slice pb d.o.length cb, .slice pc d.v.length cc]) d) := ⟨FX, TX, FY, ka, kb, mm⟩
    by_cases hlt : j < 5
    · obtain ⟨k, hk, hk5⟩ := i8 j hlt
      have hkc : wr.cell? ⟨Y + 2, j, none⟩ = some (.int .i64 k) := by rw [hR9.cell (p := ⟨Y + 2, j, none⟩) (by show Y + 2 < _; omega)]; exact hk
      have hlt' : (j : Int) < 5 := by omega
      have HK5 : Hid (k = 3 ∨ k = 5 ∨ k = 7 ∨ k = 8 ∨ k = 9) := hk5
      have HR2 : Hid (Below u5.heap.size u5 wr) := HR.out
      obtain ⟨c0, c1, c2, c3, c4, _⟩ := FX
      obtain ⟨y0, y1, y2, y3, y4, _⟩ := FY
      have hW := wqTwo_any wr w.heap.size Y k (.agg #[.int .i64 a.k, .int .i64 a.n, .int .i64 a.ak, .int .i64 a.at_, .slice ads a.kids.length cps]) (.agg #[.int .i64 b.k, .int .i64 b.n, .int .i64 b.ak, .int .i64 b.at_, .slice adt b.kids.length cpt]) a b ⟨_, rfl, ka⟩ ⟨_, rfl, kb⟩ (by omega) (by omega)
      clear i1 i2 i3 i4 i5 i6 i7 i8 hk hk5 ka kb mm TX hR9 HR
      go_wp2_with fail
      refine hW.mono ?_
      rintro e1 w1 ⟨g, rfl, hx, gw1⟩
      clear hW c0 c1 c2 c3 c4 y0 y1 y2 y3 y4 hkc
      have hw1s := gw1.size
      obtain ⟨Z, hZ⟩ : ∃ Z, w1.heap.size = Z := ⟨_, rfl⟩
      obtain ⟨w2, hw2, gw2, FZ, SZ⟩ : ∃ w2, w1.alloc (.cells #[.int .i64 k, .int .i64 0, .int .i64 0, .int .i64 0, .slice (some ⟨g, 0, none⟩) 2 2] 27) = w2 ∧ Below Z w1 w2 ∧ Five w2 Z (.int .i64 k) (.int .i64 0) (.int .i64 0) (.int .i64 0) (.slice (some ⟨g, 0, none⟩) 2 2) ∧ w2.heap.size = Z + 1 := by
        have n1 := five_new w1 (.int .i64 k) (.int .i64 0) (.int .i64 0) (.int .i64 0) (.slice (some ⟨g, 0, none⟩) 2 2) 27
        rw [hZ] at n1
        exact ⟨_, rfl, by rw [← hZ]; exact (Below.refl _ _).alloc (Nat.le_refl _) _, n1, by rw [World.size_alloc]; omega⟩
      rw [hZ] at hx
      have hx2 := hx.under gw2 (Nat.le_refl _)
      have g02 : Below wr.heap.size wr w2 := gw1.trans (gw2.mono (by omega))
      obtain ⟨j1, j2, j3, j4, j5, j6⟩ := HI.out
      have TX2 := j2.at_ (g02.block _ (by omega))
      obtain ⟨z0, z1, z2, z3, z4, _⟩ := id FZ
      obtain ⟨t0, t1, t2, _⟩ := id TX2
      have hmany : manyL (twoD k a b).kids ≤ 1048576 := by rw [many_twoD]; omega
      have hmany2 : manyL (twoD k b a).kids ≤ 1048576 := by rw [many_twoD]; omega
      have hC := iExprOf_any w2 w.heap.size Z w.heap.size Y _ _ (twoD k a b) d ⟨_, rfl, hx2⟩ (j6.below g02 (by omega)) (by omega) (by omega) hmany
      obtain ⟨n, hn⟩ : ∃ n, exprOf (twoD k a b) d = n := ⟨_, rfl⟩
      have hn2 : exprOf (twoD k b a) d = n := by rw [exprOf_swap HK5.out]; exact hn
      rw [hn] at hC
      have hC' : Calls Try.prog 11 #[.agg #[.int .i64 k, .int .i64 0, .int .i64 0, .int .i64 0, .slice (some ⟨g, 0, none⟩) 2 2], .agg #[.slice pa d.i.length ca, .slice pb d.o.length cb, .slice pc d.v.length cc]] w2 fun en w' => en = .returned (.int .i64 n) ∧ Below w2.heap.size w2 w' := hC
      have HN : Hid (exprOf (twoD k a b) d = n ∧ exprOf (twoD k b a) d = n) := ⟨hn, hn2⟩
      clear hn hn2 hC hx j1 j2 j3 j4 j5 j6
      have hZw : wr.heap.size ≤ Z := by omega
      go_wp2_with fail
      clear hw2 hZ z0 z1 z2 z3 z4 t0 t1 t2
      refine hC'.mono ?_
      rintro e1 w3 ⟨rfl, gw3⟩
      clear hC'
      have hw3s := gw3.size
      have g03 : Below wr.heap.size wr w3 := g02.trans (gw3.mono (by omega))
      obtain ⟨j1, j2, j3, j4, j5, j6⟩ := HI.out
      have HW : Hid (Five w3 X (.int .i64 a.k) (.int .i64 a.n) (.int .i64 a.ak) (.int .i64 a.at_) (.slice ads a.kids.length cps) ∧ Three w3 (X + 1) (.slice pa d.i.length ca) (.slice pb d.o.length cb) (.slice pc d.v.length cc) ∧ Five w3 Y (.int .i64 b.k) (.int .i64 b.n) (.int .i64 b.ak) (.int .i64 b.at_) (.slice adt b.kids.length cpt) ∧ KR w3 w.heap.size Y (.slice ads a.kids.length cps) a.kids ∧ KR w3 w.heap.size Y (.slice adt b.kids.length cpt) b.kids ∧ MI w3 w.heap.size Y (.agg #[.slice pa d.i.length ca, .slice pb d.o.length cb, .slice pc d.v.length cc]) d ∧ Five w3 Z (.int .i64 k) (.int .i64 0) (.int .i64 0) (.int .i64 0) (.slice (some ⟨g, 0, none⟩) 2 2) ∧ KR w3 w.heap.size Z (.slice (some ⟨g, 0, none⟩) 2 2) [a, b] ∧ Below u5.heap.size u5 w3) :=
        ⟨j1.under g03 (by omega), j2.at_ (g03.block _ (by omega)), j3.under g03 (by omega), j4.under g03 (by omega), j5.under g03 (by omega), j6.below g03 (by omega), FZ.under gw3 (by omega), hx2.under gw3 (by omega), HR2.out.trans (g03.mono (by omega))⟩
      have hZ3 : Z < w3.heap.size := by omega
      have hYZ : Y + 3 ≤ Z := by omega
      clear j1 j2 j3 j4 j5 j6 FZ hx2 gw1 gw2 gw3 g02 g03 HI HR2 TX2
      go_wp2_with fail
      refine wp_region_dag (R := Grow) (Φ := fun i v u => match i with
          | 0 => v = .int .i64 n
          | 1 => v = .agg #[.int .i64 k, .int .i64 0, .int .i64 0, .int .i64 0, .slice (some ⟨g, 0, none⟩) 2 2]
          | 2 => v = .agg #[.slice pa d.i.length ca, .slice pb d.o.length cb, .slice pc d.v.length cc]
          | 3 => v = .int .i64 n
          | 4 => v = .bool false
          | 5 => v = .bool false
          | 6 => v = .int .i64 n
          | 7 => v = .int .i64 k
          | 8 => v = .agg #[.int .i64 b.k, .int .i64 b.n, .int .i64 b.ak, .int .i64 b.at_, .slice adt b.kids.length cpt]
          | 9 => v = .agg #[.int .i64 a.k, .int .i64 a.n, .int .i64 a.ak, .int .i64 a.at_, .slice ads a.kids.length cps]
          | 10 => ∃ g', v = .agg #[.int .i64 k, .int .i64 0, .int .i64 0, .int .i64 0, .slice (some ⟨g', 0, none⟩) 2 2] ∧ KR u w.heap.size u.heap.size (.slice (some ⟨g', 0, none⟩) 2 2) [b, a]
          | 11 => v = .agg #[.slice pa d.i.length ca, .slice pb d.o.length cb, .slice pc d.v.length cc]
          | 12 => v = .int .i64 n
          | 13 => v = .bool false
          | 14 => v = .bool false
          | _ => True) (by kernel_rfl) (by kernel_rfl) (by kernel_rfl) (Below.refl _ _) grow_trans ?_ ?_ ?_
      · intro i v u u' hr
        match i with
        | 0 | 1 | 2 | 3 | 4 | 5 | 6 | 7 | 8 | 9 | 11 | 12 | 13 | 14 | _ + 15 => exact fun h => h
        | 10 => exact fun ⟨g', h1, h2⟩ => ⟨g', h1, (h2.under hr (Nat.le_refl _)).wide (Nat.le_refl _) hr.size⟩
      · intro i o ho ac u hf hR0 he K' hK
        have hR : Grow w3 u := (Below.drew (Below.refl _ _)).trans hR0
        have hsz' : ac.tmps.size = 74 := hf.size
        have hus := hR.size
        rcases i with _ | _ | _ | _ | _ | _ | _ | _ | _ | _ | _ | _ | _ | _ | _ | i
        · obtain rfl := Option.some.inj ho
          have q12 : ac.tmps.getD 12 undef = .int .i64 n := hf.at_ 12 (by kernel_rfl)
          clear he
          go_simp
          exact hK _ _ (Below.refl _ _) (getD_put_self ac 45 _ (by show _ < ac.tmps.size; omega))
        · obtain rfl := Option.some.inj ho
          have q11 : ac.tmps.getD 11 undef = .pointer (some ⟨Z, 0, none⟩) := hf.at_ 11 (by kernel_rfl)
          obtain ⟨c0, c1, c2, c3, c4, _⟩ := HW.out.2.2.2.2.2.2.1.under hR (by omega)
          clear he
          go_simp
          exact hK _ _ (Below.refl _ _) (getD_put_self ac 46 _ (by show _ < ac.tmps.size; omega))
        · obtain rfl := Option.some.inj ho
          have q6 : ac.tmps.getD 6 undef = .pointer (some ⟨X + 1, 0, none⟩) := hf.at_ 6 (by kernel_rfl)
          obtain ⟨c0, c1, c2, _⟩ := HW.out.2.1.at_ (hR.block _ (by omega))
          clear he
          go_simp
          exact hK _ _ (Below.refl _ _) (getD_put_self ac 47 _ (by show _ < ac.tmps.size; omega))
        · obtain rfl := Option.some.inj ho
          have q46 : ac.tmps.getD 46 undef = .agg #[.int .i64 k, .int .i64 0, .int .i64 0, .int .i64 0, .slice (some ⟨g, 0, none⟩) 2 2] := he _ (Array.mem_of_getElem? (i := 0) rfl) (by kernel_rfl) _ rfl
          have q47 : ac.tmps.getD 47 undef = .agg #[.slice pa d.i.length ca, .slice pb d.o.length cb, .slice pc d.v.length cc] := he _ (Array.mem_of_getElem? (i := 1) rfl) (by kernel_rfl) _ rfl
          have hC := sExprOf_any u w.heap.size Z w.heap.size Y _ _ (twoD k a b) d ⟨_, rfl, HW.out.2.2.2.2.2.2.2.1.under hR (by omega)⟩ (HW.out.2.2.2.2.2.1.below hR (by omega)) (by omega) (by omega) hmany
          rw [HN.out.1] at hC
          clear he
          go_simp
          refine (show Calls Try.prog 12 #[.agg #[.int .i64 k, .int .i64 0, .int .i64 0, .int .i64 0, .slice (some ⟨g, 0, none⟩) 2 2], .agg #[.slice pa d.i.length ca, .slice pb d.o.length cb, .slice pc d.v.length cc]] u _ from hC).mono ?_
          rintro e1 u' ⟨rfl, g9⟩
          exact hK _ _ g9 (getD_put_self ac 48 _ (by show _ < ac.tmps.size; omega))
        · obtain rfl := Option.some.inj ho
          have q45 : ac.tmps.getD 45 undef = .int .i64 n := he _ (Array.mem_of_getElem? (i := 0) rfl) (by kernel_rfl) _ rfl
          have q48 : ac.tmps.getD 48 undef = .int .i64 n := he _ (Array.mem_of_getElem? (i := 1) rfl) (by kernel_rfl) _ rfl
          clear he
          go_simp
          refine hK _ _ (Below.refl _ _) ?_
          refine (getD_put_self ac 49 _ (by show _ < ac.tmps.size; omega)).trans ?_
          simp
        · obtain rfl := Option.some.inj ho
          have q49 : ac.tmps.getD 49 undef = .bool false := he _ (Array.mem_of_getElem? (i := 0) rfl) (by kernel_rfl) _ rfl
          clear he
          go_simp
          exact hK _ _ (Below.refl _ _) (getD_put_self ac 50 _ (by show _ < ac.tmps.size; omega))
        · obtain rfl := Option.some.inj ho
          have q12 : ac.tmps.getD 12 undef = .int .i64 n := hf.at_ 12 (by kernel_rfl)
          have q50 : ac.tmps.getD 50 undef = .bool false := he _ (Array.mem_of_getElem? (i := 0) rfl) (by kernel_rfl) _ rfl
          clear he
          refine wanted_if rfl (yielded_at rfl rfl (by rw [hsz']; decide) q50) ?_
          go_simp
          exact hK _ _ (Below.refl _ _) (getD_put_self ac 51 _ (by show _ < ac.tmps.size; omega))
        · obtain rfl := Option.some.inj ho
          have q10 : ac.tmps.getD 10 undef = .int .i64 k := hf.at_ 10 (by kernel_rfl)
          have q50 : ac.tmps.getD 50 undef = .bool false := he _ (Array.mem_of_getElem? (i := 0) rfl) (by kernel_rfl) _ rfl
          clear he
          refine wanted_if rfl (yielded_at rfl rfl (by rw [hsz']; decide) q50) ?_
          go_simp
          exact hK _ _ (Below.refl _ _) (getD_put_self ac 52 _ (by show _ < ac.tmps.size; omega))
        · obtain rfl := Option.some.inj ho
          have q7 : ac.tmps.getD 7 undef = .pointer (some ⟨Y, 0, none⟩) := hf.at_ 7 (by kernel_rfl)
          have q50 : ac.tmps.getD 50 undef = .bool false := he _ (Array.mem_of_getElem? (i := 0) rfl) (by kernel_rfl) _ rfl
          obtain ⟨c0, c1, c2, c3, c4, _⟩ := HW.out.2.2.1.under hR (by omega)
          clear he
          refine wanted_if rfl (yielded_at rfl rfl (by rw [hsz']; decide) q50) ?_
          go_simp
          exact hK _ _ (Below.refl _ _) (getD_put_self ac 53 _ (by show _ < ac.tmps.size; omega))
        · obtain rfl := Option.some.inj ho
          have q5 : ac.tmps.getD 5 undef = .pointer (some ⟨X, 0, none⟩) := hf.at_ 5 (by kernel_rfl)
          have q50 : ac.tmps.getD 50 undef = .bool false := he _ (Array.mem_of_getElem? (i := 0) rfl) (by kernel_rfl) _ rfl
          obtain ⟨c0, c1, c2, c3, c4, _⟩ := HW.out.1.under hR (by omega)
          clear he
          refine wanted_if rfl (yielded_at rfl rfl (by rw [hsz']; decide) q50) ?_
          go_simp
          exact hK _ _ (Below.refl _ _) (getD_put_self ac 54 _ (by show _ < ac.tmps.size; omega))
        · obtain rfl := Option.some.inj ho
          have q52 : ac.tmps.getD 52 undef = .int .i64 k := he _ (Array.mem_of_getElem? (i := 0) rfl) (by kernel_rfl) _ rfl
          have q53 : ac.tmps.getD 53 undef = .agg #[.int .i64 b.k, .int .i64 b.n, .int .i64 b.ak, .int .i64 b.at_, .slice adt b.kids.length cpt] := he _ (Array.mem_of_getElem? (i := 1) rfl) (by kernel_rfl) _ rfl
          have q54 : ac.tmps.getD 54 undef = .agg #[.int .i64 a.k, .int .i64 a.n, .int .i64 a.ak, .int .i64 a.at_, .slice ads a.kids.length cps] := he _ (Array.mem_of_getElem? (i := 2) rfl) (by kernel_rfl) _ rfl
          have q50 : ac.tmps.getD 50 undef = .bool false := he _ (Array.mem_of_getElem? (i := 4) rfl) (by kernel_rfl) _ rfl
          have hC := wqTwo_any u w.heap.size Y k (.agg #[.int .i64 b.k, .int .i64 b.n, .int .i64 b.ak, .int .i64 b.at_, .slice adt b.kids.length cpt]) (.agg #[.int .i64 a.k, .int .i64 a.n, .int .i64 a.ak, .int .i64 a.at_, .slice ads a.kids.length cps]) b a ⟨_, rfl, HW.out.2.2.2.2.1.under hR (by omega)⟩ ⟨_, rfl, HW.out.2.2.2.1.under hR (by omega)⟩ (by omega) (by omega)
          clear he
          refine wanted_if rfl (yielded_at rfl rfl (by rw [hsz']; decide) q50) ?_
          go_simp
          refine hC.mono ?_
          rintro e1 u' ⟨g', rfl, hkk, g9⟩
          exact hK _ _ g9 ⟨g', getD_put_self ac 55 _ (by show _ < ac.tmps.size; omega), hkk⟩
        · obtain rfl := Option.some.inj ho
          have q6 : ac.tmps.getD 6 undef = .pointer (some ⟨X + 1, 0, none⟩) := hf.at_ 6 (by kernel_rfl)
          have q50 : ac.tmps.getD 50 undef = .bool false := he _ (Array.mem_of_getElem? (i := 0) rfl) (by kernel_rfl) _ rfl
          obtain ⟨c0, c1, c2, _⟩ := HW.out.2.1.at_ (hR.block _ (by omega))
          clear he
          refine wanted_if rfl (yielded_at rfl rfl (by rw [hsz']; decide) q50) ?_
          go_simp
          exact hK _ _ (Below.refl _ _) (getD_put_self ac 56 _ (by show _ < ac.tmps.size; omega))
        · obtain rfl := Option.some.inj ho
          have q56 : ac.tmps.getD 56 undef = .agg #[.slice pa d.i.length ca, .slice pb d.o.length cb, .slice pc d.v.length cc] := he _ (Array.mem_of_getElem? (i := 1) rfl) (by kernel_rfl) _ rfl
          have q50 : ac.tmps.getD 50 undef = .bool false := he _ (Array.mem_of_getElem? (i := 3) rfl) (by kernel_rfl) _ rfl
          obtain ⟨g', q55, hkk⟩ := he _ (Array.mem_of_getElem? (i := 0) rfl) (by kernel_rfl) _ rfl
          have q55 : ac.tmps.getD 55 undef = .agg #[.int .i64 k, .int .i64 0, .int .i64 0, .int .i64 0, .slice (some ⟨g', 0, none⟩) 2 2] := q55
          have hC := iExprOf_any u w.heap.size u.heap.size w.heap.size Y _ _ (twoD k b a) d ⟨_, rfl, hkk⟩ (HW.out.2.2.2.2.2.1.below hR (by omega)) (Nat.le_refl _) (by omega) hmany2
          rw [HN.out.2] at hC
          clear he
          refine wanted_if rfl (yielded_at rfl rfl (by rw [hsz']; decide) q50) ?_
          go_simp
          refine (show Calls Try.prog 11 #[.agg #[.int .i64 k, .int .i64 0, .int .i64 0, .int .i64 0, .slice (some ⟨g', 0, none⟩) 2 2], .agg #[.slice pa d.i.length ca, .slice pb d.o.length cb, .slice pc d.v.length cc]] u _ from hC).mono ?_
          rintro e1 u' ⟨rfl, g9⟩
          exact hK _ _ g9 (getD_put_self ac 57 _ (by show _ < ac.tmps.size; omega))
        · obtain rfl := Option.some.inj ho
          have q51 : ac.tmps.getD 51 undef = .int .i64 n := he _ (Array.mem_of_getElem? (i := 0) rfl) (by kernel_rfl) _ rfl
          have q57 : ac.tmps.getD 57 undef = .int .i64 n := he _ (Array.mem_of_getElem? (i := 1) rfl) (by kernel_rfl) _ rfl
          have q50 : ac.tmps.getD 50 undef = .bool false := he _ (Array.mem_of_getElem? (i := 2) rfl) (by kernel_rfl) _ rfl
          clear he
          refine wanted_if rfl (yielded_at rfl rfl (by rw [hsz']; decide) q50) ?_
          go_simp
          refine hK _ _ (Below.refl _ _) ?_
          refine (getD_put_self ac 58 _ (by show _ < ac.tmps.size; omega)).trans ?_
          simp
        · obtain rfl := Option.some.inj ho
          have q50 : ac.tmps.getD 50 undef = .bool false := he _ (Array.mem_of_getElem? (i := 0) rfl) (by kernel_rfl) _ rfl
          have q58 : ac.tmps.getD 58 undef = .bool false := he _ (Array.mem_of_getElem? (i := 1) rfl) (by kernel_rfl) _ rfl
          clear he
          go_simp
          exact hK _ _ (Below.refl _ _) (getD_put_self ac 59 _ (by show _ < ac.tmps.size; omega))
        · exact absurd ho (by simp)
      · intro ac u hf hR0 hp
        have hR : Grow w3 u := (Below.drew (Below.refl _ _)).trans hR0
        have hus := hR.size
        have HN5 : Hid (Below u5.heap.size u5 u) := HW.out.2.2.2.2.2.2.2.2.trans (hR.mono (by omega))
        have m59 : ac.tmps.getD 59 undef = .bool false := hp 14 _ rfl
        clear hp hR0 hR HW HN
        obtain ⟨f, ea, hfv⟩ := act_lit ac 74 hf.size
        have md : ac.defers = [] := hf.defers
        rw [md] at ea
        have m0 := hf.at_ 0 (by kernel_rfl)
        have m1 := hf.at_ 1 (by kernel_rfl)
        have m2 := hf.at_ 2 (by kernel_rfl)
        have m3 := hf.at_ 3 (by kernel_rfl)
        have m4 := hf.at_ 4 (by kernel_rfl)
        have m5 := hf.at_ 5 (by kernel_rfl)
        have m6 := hf.at_ 6 (by kernel_rfl)
        have m7 := hf.at_ 7 (by kernel_rfl)
        have m8 := hf.at_ 8 (by kernel_rfl)
        have m9 := hf.at_ 9 (by kernel_rfl)
        have m10 := hf.at_ 10 (by kernel_rfl)
        have m11 := hf.at_ 11 (by kernel_rfl)
        have m12 := hf.at_ 12 (by kernel_rfl)
        have m13 := hf.at_ 13 (by kernel_rfl)
        have m14 := hf.at_ 14 (by kernel_rfl)
        have m15 := hf.at_ 15 (by kernel_rfl)
        have m16 := hf.at_ 16 (by kernel_rfl)
        have m17 := hf.at_ 17 (by kernel_rfl)
        have m18 := hf.at_ 18 (by kernel_rfl)
        have m19 := hf.at_ 19 (by kernel_rfl)
        have m20 := hf.at_ 20 (by kernel_rfl)
        have m21 := hf.at_ 21 (by kernel_rfl)
        have m22 := hf.at_ 22 (by kernel_rfl)
        have m23 := hf.at_ 23 (by kernel_rfl)
        have m24 := hf.at_ 24 (by kernel_rfl)
        have m25 := hf.at_ 25 (by kernel_rfl)
        have m26 := hf.at_ 26 (by kernel_rfl)
        have m27 := hf.at_ 27 (by kernel_rfl)
        have m28 := hf.at_ 28 (by kernel_rfl)
        have m29 := hf.at_ 29 (by kernel_rfl)
        have m30 := hf.at_ 30 (by kernel_rfl)
        have m31 := hf.at_ 31 (by kernel_rfl)
        have m32 := hf.at_ 32 (by kernel_rfl)
        have m33 := hf.at_ 33 (by kernel_rfl)
        have m34 := hf.at_ 34 (by kernel_rfl)
        have m35 := hf.at_ 35 (by kernel_rfl)
        have m36 := hf.at_ 36 (by kernel_rfl)
        have m37 := hf.at_ 37 (by kernel_rfl)
        have m38 := hf.at_ 38 (by kernel_rfl)
        have m39 := hf.at_ 39 (by kernel_rfl)
        have m40 := hf.at_ 40 (by kernel_rfl)
        have m41 := hf.at_ 41 (by kernel_rfl)
        have m42 := hf.at_ 42 (by kernel_rfl)
        have m43 := hf.at_ 43 (by kernel_rfl)
        have m44 := hf.at_ 44 (by kernel_rfl)
        have m60 := hf.at_ 60 (by kernel_rfl)
        have m61 := hf.at_ 61 (by kernel_rfl)
        have m62 := hf.at_ 62 (by kernel_rfl)
        have m63 := hf.at_ 63 (by kernel_rfl)
        have m64 := hf.at_ 64 (by kernel_rfl)
        have m65 := hf.at_ 65 (by kernel_rfl)
        have m66 := hf.at_ 66 (by kernel_rfl)
        have m67 := hf.at_ 67 (by kernel_rfl)
        have m68 := hf.at_ 68 (by kernel_rfl)
        have m69 := hf.at_ 69 (by kernel_rfl)
        have m70 := hf.at_ 70 (by kernel_rfl)
        have m71 := hf.at_ 71 (by kernel_rfl)
        have m72 := hf.at_ 72 (by kernel_rfl)
        have m73 := hf.at_ 73 (by kernel_rfl)
        rw [← hfv] at m0 m1 m2 m3 m4 m5 m6 m7 m8 m9 m10 m11 m12 m13 m14 m15 m16 m17 m18 m19 m20 m21 m22 m23 m24 m25 m26 m27 m28 m29 m30 m31 m32 m33 m34 m35 m36 m37 m38 m39 m40 m41 m42 m43 m44 m60 m61 m62 m63 m64 m65 m66 m67 m68 m69 m70 m71 m72 m73 m59
        simp only [Array.getD_eq_getD_getElem?, List.getElem?_toArray, List.getElem?_cons_succ, List.getElem?_cons_zero, Option.getD_some] at m0 m1 m2 m3 m4 m5 m6 m7 m8 m9 m10 m11 m12 m13 m14 m15 m16 m17 m18 m19 m20 m21 m22 m23 m24 m25 m26 m27 m28 m29 m30 m31 m32 m33 m34 m35 m36 m37 m38 m39 m40 m41 m42 m43 m44 m60 m61 m62 m63 m64 m65 m66 m67 m68 m69 m70 m71 m72 m73
        simp only [List.range, List.range.loop, List.map_cons, List.map_nil, m0, m1, m2, m3, m4, m5, m6, m7, m8, m9, m10, m11, m12, m13, m14, m15, m16, m17, m18, m19, m20, m21, m22, m23, m24, m25, m26, m27, m28, m29, m30, m31, m32, m33, m34, m35, m36, m37, m38, m39, m40, m41, m42, m43, m44, m60, m61, m62, m63, m64, m65, m66, m67, m68, m69, m70, m71, m72, m73, m59] at ea
        subst ea
        clear m0 m1 m2 m3 m4 m5 m6 m7 m8 m9 m10 m11 m12 m13 m14 m15 m16 m17 m18 m19 m20 m21 m22 m23 m24 m25 m26 m27 m28 m29 m30 m31 m32 m33 m34 m35 m36 m37 m38 m39 m40 m41 m42 m43 m44 m60 m61 m62 m63 m64 m65 m66 m67 m68 m69 m70 m71 m72 m73 m59 hfv md hf
        go_wp2
        go_roundw
        case rel => exact ⟨j + 1, by go_num, by omega, by omega, HN5.out⟩
        case measure => simp [intOf]; omega
    · obtain rfl : j = 5 := by omega
      clear HA HR i1 i2 i3 i4 i5 i6 i7 i8 hR9
      obtain ⟨c0, c1, c2, c3, c4, _⟩ := FX
      obtain ⟨y0, y1, y2, y3, y4, _⟩ := FY
      have hW := wqTwo_any wr w.heap.size Y 4 (.agg #[.int .i64 a.k, .int .i64 a.n, .int .i64 a.ak, .int .i64 a.at_, .slice ads a.kids.length cps]) (.agg #[.int .i64 b.k, .int .i64 b.n, .int .i64 b.ak, .int .i64 b.at_, .slice adt b.kids.length cpt]) a b ⟨_, rfl, ka⟩ ⟨_, rfl, kb⟩ (by omega) (by omega)
      clear ka kb mm TX
      go_wp2_with fail
      refine hW.mono ?_
      rintro e1 w1 ⟨g, rfl, hx, gw1⟩
      clear hW c0 c1 c2 c3 c4 y0 y1 y2 y3 y4
      have hw1s := gw1.size
      obtain ⟨Z, hZ⟩ : ∃ Z, w1.heap.size = Z := ⟨_, rfl⟩
      obtain ⟨w3, hw3, gw3, FZ, SZ⟩ : ∃ w3, w1.alloc (.cells #[.int .i64 4, .int .i64 0, .int .i64 0, .int .i64 0, .slice (some ⟨g, 0, none⟩) 2 2] 27) = w3 ∧ Below Z w1 w3 ∧ Five w3 Z (.int .i64 4) (.int .i64 0) (.int .i64 0) (.int .i64 0) (.slice (some ⟨g, 0, none⟩) 2 2) ∧ w3.heap.size = Z + 1 := by
        have n1 := five_new w1 (.int .i64 4) (.int .i64 0) (.int .i64 0) (.int .i64 0) (.slice (some ⟨g, 0, none⟩) 2 2) 27
        rw [hZ] at n1
        exact ⟨_, rfl, by rw [← hZ]; exact (Below.refl _ _).alloc (Nat.le_refl _) _, n1, by rw [World.size_alloc]; omega⟩
      rw [hZ] at hx
      have g03 : Below wr.heap.size wr w3 := gw1.trans (gw3.mono (by omega))
      obtain ⟨j1, j2, j3, j4, j5, j6⟩ := HI.out
      have HW : Hid (Five w3 X (.int .i64 a.k) (.int .i64 a.n) (.int .i64 a.ak) (.int .i64 a.at_) (.slice ads a.kids.length cps) ∧ Three w3 (X + 1) (.slice pa d.i.length ca) (.slice pb d.o.length cb) (.slice pc d.v.length cc) ∧ Five w3 Y (.int .i64 b.k) (.int .i64 b.n) (.int .i64 b.ak) (.int .i64 b.at_) (.slice adt b.kids.length cpt) ∧ KR w3 w.heap.size Y (.slice ads a.kids.length cps) a.kids ∧ KR w3 w.heap.size Y (.slice adt b.kids.length cpt) b.kids ∧ MI w3 w.heap.size Y (.agg #[.slice pa d.i.length ca, .slice pb d.o.length cb, .slice pc d.v.length cc]) d ∧ Five w3 Z (.int .i64 4) (.int .i64 0) (.int .i64 0) (.int .i64 0) (.slice (some ⟨g, 0, none⟩) 2 2) ∧ KR w3 w.heap.size Z (.slice (some ⟨g, 0, none⟩) 2 2) [a, b] ∧ Below w.heap.size w w3) :=
        ⟨j1.under g03 (by omega), j2.at_ (g03.block _ (by omega)), j3.under g03 (by omega), j4.under g03 (by omega), j5.under g03 (by omega), j6.below g03 (by omega), FZ, hx.under gw3 (Nat.le_refl _), HB.out.trans (g03.mono HB.out.size)⟩
      have hmany : manyL (twoD 4 a b).kids ≤ 1048576 := by rw [many_twoD]; omega
      have hmany2 : manyL (twoD 4 b a).kids ≤ 1048576 := by rw [many_twoD]; omega
      obtain ⟨n, hn⟩ : ∃ n, exprOf (twoD 4 b a) d = n := ⟨_, rfl⟩
      have hnb := exprOf_bd (twoD 4 b a) d
      rw [hn] at hnb
      have HN : Hid (exprOf (twoD 4 a b) d = -n ∧ exprOf (twoD 4 b a) d = n) := ⟨by rw [exprOf_sub, hn], hn⟩
      have hZ3 : Z < w3.heap.size := by omega
      have hYZ : Y + 3 ≤ Z := by omega
      clear j1 j2 j3 j4 j5 j6 FZ hx gw1 gw3 g03 HI hn HB
      go_wp2_with fail
      clear hw3 hZ
      refine wp_region_dag (R := Grow) (Φ := fun i v u => match i with
          | 0 => v = .agg #[.int .i64 4, .int .i64 0, .int .i64 0, .int .i64 0, .slice (some ⟨g, 0, none⟩) 2 2]
          | 1 => v = .agg #[.slice pa d.i.length ca, .slice pb d.o.length cb, .slice pc d.v.length cc]
          | 2 => v = .int .i64 (-n)
          | 3 => v = .agg #[.int .i64 b.k, .int .i64 b.n, .int .i64 b.ak, .int .i64 b.at_, .slice adt b.kids.length cpt]
          | 4 => v = .agg #[.int .i64 a.k, .int .i64 a.n, .int .i64 a.ak, .int .i64 a.at_, .slice ads a.kids.length cps]
          | 5 => ∃ g', v = .agg #[.int .i64 4, .int .i64 0, .int .i64 0, .int .i64 0, .slice (some ⟨g', 0, none⟩) 2 2] ∧ KR u w.heap.size u.heap.size (.slice (some ⟨g', 0, none⟩) 2 2) [b, a]
          | 6 => v = .agg #[.slice pa d.i.length ca, .slice pb d.o.length cb, .slice pc d.v.length cc]
          | 7 => v = .int .i64 n
          | 8 => v = .int .i64 (-n)
          | 9 => v = .bool true
          | 10 => v = .bool true
          | _ => True) (by kernel_rfl) (by kernel_rfl) (by kernel_rfl) (Below.refl _ _) grow_trans ?_ ?_ ?_
      · intro i v u u' hr
        match i with
        | 0 | 1 | 2 | 3 | 4 | 6 | 7 | 8 | 9 | 10 | _ + 11 => exact fun h => h
        | 5 => exact fun ⟨g', h1, h2⟩ => ⟨g', h1, (h2.under hr (Nat.le_refl _)).wide (Nat.le_refl _) hr.size⟩
      · intro i o ho ac u hf hR0 he K' hK
        have hR : Grow w3 u := (Below.drew (Below.refl _ _)).trans hR0
        have hsz' : ac.tmps.size = 74 := hf.size
        have hus := hR.size
        rcases i with _ | _ | _ | _ | _ | _ | _ | _ | _ | _ | _ | i
        · obtain rfl := Option.some.inj ho
          have q13 : ac.tmps.getD 13 undef = .pointer (some ⟨Z, 0, none⟩) := hf.at_ 13 (by kernel_rfl)
          obtain ⟨c0, c1, c2, c3, c4, _⟩ := HW.out.2.2.2.2.2.2.1.under hR (by omega)
          clear he
          go_simp
          exact hK _ _ (Below.refl _ _) (getD_put_self ac 64 _ (by show _ < ac.tmps.size; omega))
        · obtain rfl := Option.some.inj ho
          have q6 : ac.tmps.getD 6 undef = .pointer (some ⟨X + 1, 0, none⟩) := hf.at_ 6 (by kernel_rfl)
          obtain ⟨c0, c1, c2, _⟩ := HW.out.2.1.at_ (hR.block _ (by omega))
          clear he
          go_simp
          exact hK _ _ (Below.refl _ _) (getD_put_self ac 65 _ (by show _ < ac.tmps.size; omega))
        · obtain rfl := Option.some.inj ho
          have q64 : ac.tmps.getD 64 undef = .agg #[.int .i64 4, .int .i64 0, .int .i64 0, .int .i64 0, .slice (some ⟨g, 0, none⟩) 2 2] := he _ (Array.mem_of_getElem? (i := 0) rfl) (by kernel_rfl) _ rfl
          have q65 : ac.tmps.getD 65 undef = .agg #[.slice pa d.i.length ca, .slice pb d.o.length cb, .slice pc d.v.length cc] := he _ (Array.mem_of_getElem? (i := 1) rfl) (by kernel_rfl) _ rfl
          have hC := iExprOf_any u w.heap.size Z w.heap.size Y _ _ (twoD 4 a b) d ⟨_, rfl, HW.out.2.2.2.2.2.2.2.1.under hR (by omega)⟩ (HW.out.2.2.2.2.2.1.below hR (by omega)) (by omega) (by omega) hmany
          rw [HN.out.1] at hC
          clear he
          go_simp
          refine (show Calls Try.prog 11 #[.agg #[.int .i64 4, .int .i64 0, .int .i64 0, .int .i64 0, .slice (some ⟨g, 0, none⟩) 2 2], .agg #[.slice pa d.i.length ca, .slice pb d.o.length cb, .slice pc d.v.length cc]] u _ from hC).mono ?_
          rintro e1 u' ⟨rfl, g9⟩
          exact hK _ _ g9 (getD_put_self ac 66 _ (by show _ < ac.tmps.size; omega))
        · obtain rfl := Option.some.inj ho
          have q7 : ac.tmps.getD 7 undef = .pointer (some ⟨Y, 0, none⟩) := hf.at_ 7 (by kernel_rfl)
          obtain ⟨c0, c1, c2, c3, c4, _⟩ := HW.out.2.2.1.under hR (by omega)
          clear he
          go_simp
          exact hK _ _ (Below.refl _ _) (getD_put_self ac 67 _ (by show _ < ac.tmps.size; omega))
        · obtain rfl := Option.some.inj ho
          have q5 : ac.tmps.getD 5 undef = .pointer (some ⟨X, 0, none⟩) := hf.at_ 5 (by kernel_rfl)
          obtain ⟨c0, c1, c2, c3, c4, _⟩ := HW.out.1.under hR (by omega)
          clear he
          go_simp
          exact hK _ _ (Below.refl _ _) (getD_put_self ac 68 _ (by show _ < ac.tmps.size; omega))
        · obtain rfl := Option.some.inj ho
          have q67 : ac.tmps.getD 67 undef = .agg #[.int .i64 b.k, .int .i64 b.n, .int .i64 b.ak, .int .i64 b.at_, .slice adt b.kids.length cpt] := he _ (Array.mem_of_getElem? (i := 0) rfl) (by kernel_rfl) _ rfl
          have q68 : ac.tmps.getD 68 undef = .agg #[.int .i64 a.k, .int .i64 a.n, .int .i64 a.ak, .int .i64 a.at_, .slice ads a.kids.length cps] := he _ (Array.mem_of_getElem? (i := 1) rfl) (by kernel_rfl) _ rfl
          have hC := wqTwo_any u w.heap.size Y 4 (.agg #[.int .i64 b.k, .int .i64 b.n, .int .i64 b.ak, .int .i64 b.at_, .slice adt b.kids.length cpt]) (.agg #[.int .i64 a.k, .int .i64 a.n, .int .i64 a.ak, .int .i64 a.at_, .slice ads a.kids.length cps]) b a ⟨_, rfl, HW.out.2.2.2.2.1.under hR (by omega)⟩ ⟨_, rfl, HW.out.2.2.2.1.under hR (by omega)⟩ (by omega) (by omega)
          clear he
          go_simp
          refine hC.mono ?_
          rintro e1 u' ⟨g', rfl, hkk, g9⟩
          exact hK _ _ g9 ⟨g', getD_put_self ac 69 _ (by show _ < ac.tmps.size; omega), hkk⟩
        · obtain rfl := Option.some.inj ho
          have q6 : ac.tmps.getD 6 undef = .pointer (some ⟨X + 1, 0, none⟩) := hf.at_ 6 (by kernel_rfl)
          obtain ⟨c0, c1, c2, _⟩ := HW.out.2.1.at_ (hR.block _ (by omega))
          clear he
          go_simp
          exact hK _ _ (Below.refl _ _) (getD_put_self ac 70 _ (by show _ < ac.tmps.size; omega))
        · obtain rfl := Option.some.inj ho
          have q70 : ac.tmps.getD 70 undef = .agg #[.slice pa d.i.length ca, .slice pb d.o.length cb, .slice pc d.v.length cc] := he _ (Array.mem_of_getElem? (i := 1) rfl) (by kernel_rfl) _ rfl
          obtain ⟨g', q69, hkk⟩ := he _ (Array.mem_of_getElem? (i := 0) rfl) (by kernel_rfl) _ rfl
          have q69 : ac.tmps.getD 69 undef = .agg #[.int .i64 4, .int .i64 0, .int .i64 0, .int .i64 0, .slice (some ⟨g', 0, none⟩) 2 2] := q69
          have hC := iExprOf_any u w.heap.size u.heap.size w.heap.size Y _ _ (twoD 4 b a) d ⟨_, rfl, hkk⟩ (HW.out.2.2.2.2.2.1.below hR (by omega)) (Nat.le_refl _) (by omega) hmany2
          rw [HN.out.2] at hC
          clear he
          go_simp
          refine (show Calls Try.prog 11 #[.agg #[.int .i64 4, .int .i64 0, .int .i64 0, .int .i64 0, .slice (some ⟨g', 0, none⟩) 2 2], .agg #[.slice pa d.i.length ca, .slice pb d.o.length cb, .slice pc d.v.length cc]] u _ from hC).mono ?_
          rintro e1 u' ⟨rfl, g9⟩
          exact hK _ _ g9 (getD_put_self ac 71 _ (by show _ < ac.tmps.size; omega))
        · obtain rfl := Option.some.inj ho
          have q71 : ac.tmps.getD 71 undef = .int .i64 n := he _ (Array.mem_of_getElem? (i := 0) rfl) (by kernel_rfl) _ rfl
          clear he
          go_simp
          refine hK _ _ (Below.refl _ _) ?_
          refine (getD_put_self ac 72 _ (by show _ < ac.tmps.size; omega)).trans ?_
          first | rfl | (congr 1; first | rfl | exact wrap_small _ (by omega) (by omega) | (unfold wrap64; omega))
        · obtain rfl := Option.some.inj ho
          have q66 : ac.tmps.getD 66 undef = .int .i64 (-n) := he _ (Array.mem_of_getElem? (i := 0) rfl) (by kernel_rfl) _ rfl
          have q72 : ac.tmps.getD 72 undef = .int .i64 (-n) := he _ (Array.mem_of_getElem? (i := 1) rfl) (by kernel_rfl) _ rfl
          clear he
          go_simp
          refine hK _ _ (Below.refl _ _) ?_
          refine (getD_put_self ac 73 _ (by show _ < ac.tmps.size; omega)).trans ?_
          simp
        · obtain rfl := Option.some.inj ho
          have q73 : ac.tmps.getD 73 undef = .bool true := he _ (Array.mem_of_getElem? (i := 0) rfl) (by kernel_rfl) _ rfl
          clear he
          go_simp
          exact hK _ _ (Below.refl _ _) (getD_put_self ac 4 _ (by show _ < ac.tmps.size; omega))
        · exact absurd ho (by simp)
      · intro ac u hf hR0 hp
        have hR : Grow w3 u := (Below.drew (Below.refl _ _)).trans hR0
        have HG : Hid (Below w.heap.size w u) := HW.out.2.2.2.2.2.2.2.2.trans (hR.mono (by omega))
        have m4 : ac.tmps.getD 4 undef = .bool true := hp 10 _ rfl
        have md : ac.defers = [] := hf.defers
        obtain ⟨f, ea, hfv⟩ := act_lit ac 74 hf.size
        rw [← hfv] at m4
        rw [md] at ea
        simp only [List.range, List.range.loop, List.map_cons, List.map_nil, m4] at ea
        subst ea
        clear hfv hf md hp hR0
        go_wp2
        go_ret
        exact ⟨rfl, HG.out⟩
end Go.Proofs.Ytdhmioelmcdflaa
