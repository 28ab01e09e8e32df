/-
  FnExprOf, walked over any bytes.
-/
import Derived.Test.YtdhmioelmcdflaaDrawExprF
import Derived.Test.YtdhmioelmcdflaaDrawNum
import Derived.Test.YtdhmioelmcdflaaComesD
import Derived.Test.YtdhmioelmcdflaaExprAlg
import Derived.Test.YtdhmioelmcdflaaImplH
namespace Go.Proofs.Ytdhmioelmcdflaa
open Go.ChangeShapes Go.WideShapes Go.ChangeAt Go.RowKit
set_option linter.unusedVariables false
set_option maxRecDepth 100000

/-- What the law keeps of the kids behind j rounds. -/
def keptK (e : ExprD) (m : MemD) (j i : Nat) : Int := if i < j then exprOf (kidAt e i) m else 0

theorem MI.shapeS {w : World} {lo hi : Nat} {m : Value} {d : MemD} (h : MI w lo hi m d) : ∃ pa ca pb cb pc cc, m = .agg #[.slice pa d.i.length ca, .slice pb d.o.length cb, .slice pc d.v.length cc] := by
  obtain ⟨a, b, c, rfl, h1, h2, h3⟩ := h
  obtain ⟨pa, ca, rfl⟩ := h1.shape
  obtain ⟨pb, cb, rfl⟩ := h2.shape
  obtain ⟨pc, cc, rfl⟩ := h3.shape
  exact ⟨_, _, _, _, _, _, rfl⟩

theorem Pair.under {u u' : World} {B n : Nat} {x y : Value} (h : Pair u B x y) (hb : Below n u u') (hB : B < n) : Pair u' B x y :=
  ⟨by rw [hb.cell (p := ⟨B, 0, none⟩) hB]; exact h.c0, by rw [hb.cell (p := ⟨B, 1, none⟩) hB]; exact h.c1, fun o => by rw [hb.frozen (p := ⟨B, o, none⟩) hB]; exact h.f o⟩

theorem Pair.next {e : ExprD} {m : MemD} {u : World} {B j : Nat} {x : ExprD} (h : Pair u B (.int .i64 (keptK e m j 0)) (.int .i64 (keptK e m j 1))) (hj : j < 2) (hx : kidAt e j = x) :
    Pair (u.setCell ⟨B, j, none⟩ (.int .i64 (exprOf x m))) B (.int .i64 (keptK e m (j + 1) 0)) (.int .i64 (keptK e m (j + 1) 1)) := by
  obtain rfl | rfl : j = 0 ∨ j = 1 := by omega
  · have e0 : keptK e m (0 + 1) 0 = exprOf x m := by unfold keptK; rw [if_pos (by omega), hx]
    have e1 : keptK e m (0 + 1) 1 = keptK e m 0 1 := by unfold keptK; rw [if_neg (by omega), if_neg (by omega)]
    rw [e0, e1]; exact h.set0 _
  · have e1 : keptK e m (1 + 1) 1 = exprOf x m := by unfold keptK; rw [if_pos (by omega), hx]
    have e0 : keptK e m (1 + 1) 0 = keptK e m 1 0 := by unfold keptK; rw [if_pos (by omega), if_pos (by omega)]
    rw [e0, e1]; exact h.set1 _

theorem Pair.cellAt {u : World} {B j : Nat} {x y : Int} (h : Pair u B (.int .i64 x) (.int .i64 y)) (hj : j < 2) : ∃ z, u.cell? ⟨B, j, none⟩ = some (.int .i64 z) := by
  obtain rfl | rfl : j = 0 ∨ j = 1 := by omega
  · exact ⟨_, h.c0⟩
  · exact ⟨_, h.c1⟩

theorem numOn_none : True := trivial

set_option maxHeartbeats 16000000 in
theorem fnExprOf_walk (w : World) (a : Option Addr) (len cap : Nat) (hb : Bytes8 w w.heap.size a len) (hlc : len ≤ cap) (hm : cap ≤ maxLen) :
    Calls Try.prog 3 #[.slice a len cap] w fun e w' => e = .returned (.bool true) ∧ Below w.heap.size w w' := by
  have hm' := hm
  unfold maxLen at hm'
  by_cases h : (1048576 : Int) < len
  · clear hb hm
    go_enter Try.func3, Try.ntmps3
    go_wp2
    go_ret
    exact ⟨rfl, Below.refl _ _⟩
  go_enter Try.func3, Try.ntmps3
  go_wp2_with fail
  refine (drawExprOf_any w a len cap hb hlc hm).mono ?_
  rintro e1 u1 ⟨v, e, m, d, rfl, ⟨s, rfl, hkr⟩, hme, hmi, hdm, g1⟩
  obtain ⟨ads, cps, rfl, _, _⟩ := hkr.shape
  obtain ⟨pa, ca, pb, cb, pc, cc, rfl⟩ := hmi.shapeS
  have hme2 := manyE_eq e
  have hmk : manyL e.kids ≤ 1048576 := by omega
  obtain ⟨X, hX⟩ : ∃ X, u1.heap.size = X := ⟨_, rfl⟩
  obtain ⟨u2, hu2, G2, F2, T2, E2, M2, S2⟩ : ∃ u2, (u1.alloc (.cells #[.int .i64 e.k, .int .i64 e.n, .int .i64 e.ak, .int .i64 e.at_, .slice ads e.kids.length cps] 27)).alloc (.cells #[.slice pa d.i.length ca, .slice pb d.o.length cb, .slice pc d.v.length cc] 30) = u2 ∧ Below w.heap.size w u2 ∧
      Five u2 X (.int .i64 e.k) (.int .i64 e.n) (.int .i64 e.ak) (.int .i64 e.at_) (.slice ads e.kids.length cps) ∧ Three u2 (X + 1) (.slice pa d.i.length ca) (.slice pb d.o.length cb) (.slice pc d.v.length cc) ∧ KR u2 w.heap.size X (.slice ads e.kids.length cps) e.kids ∧ MI u2 w.heap.size X (.agg #[.slice pa d.i.length ca, .slice pb d.o.length cb, .slice pc d.v.length cc]) d ∧ u2.heap.size = X + 2 := by
    have k1 := (Below.refl u1.heap.size u1).alloc (Nat.le_refl _) (.cells #[.int .i64 e.k, .int .i64 e.n, .int .i64 e.ak, .int .i64 e.at_, .slice ads e.kids.length cps] 27)
    have n1 := five_new u1 (.int .i64 e.k) (.int .i64 e.n) (.int .i64 e.ak) (.int .i64 e.at_) (.slice ads e.kids.length cps) 27
    obtain ⟨w1, hw1⟩ : ∃ w1, u1.alloc (.cells #[.int .i64 e.k, .int .i64 e.n, .int .i64 e.ak, .int .i64 e.at_, .slice ads e.kids.length cps] 27) = w1 := ⟨_, rfl⟩
    have s1 : w1.heap.size = X + 1 := by rw [← hw1]; simp [hX]
    rw [hw1] at k1 n1 ⊢
    have k2 := (Below.refl w1.heap.size w1).alloc (Nat.le_refl _) (.cells #[.slice pa d.i.length ca, .slice pb d.o.length cb, .slice pc d.v.length cc] 30)
    have n2 := three_new w1 (.slice pa d.i.length ca) (.slice pb d.o.length cb) (.slice pc d.v.length cc) 30
    rw [s1] at n2
    rw [hX] at n1 hkr hmi k1
    have hgs := g1.size
    exact ⟨_, rfl, (g1.trans (k1.mono (by omega))).trans (k2.mono (by omega)), n1.under k2 (by omega), n2, (hkr.under k1 (Nat.le_refl _)).under k2 (by omega), (hmi.below k1 (Nat.le_refl _)).below k2 (by omega), by rw [World.size_alloc]; omega⟩
  have hwX : w.heap.size ≤ X := by have := g1.size; omega
  clear g1 hkr hmi hb
  have HU2 : Hid (_ = u2) := hu2
  obtain ⟨c0, c1, c2, c3, c4, _⟩ := id F2
  obtain ⟨t0, t1, t2, _⟩ := id T2
  obtain ⟨r, hr⟩ : ∃ r, exprOf e d = r := ⟨_, rfl⟩
  have HRr : Hid (exprOf e d = r) := hr
  have hO := fun W (g : Below X u2 W) => iExprOf_any W w.heap.size X w.heap.size X (.agg #[.int .i64 e.k, .int .i64 e.n, .int .i64 e.ak, .int .i64 e.at_, .slice ads e.kids.length cps]) (.agg #[.slice pa d.i.length ca, .slice pb d.o.length cb, .slice pc d.v.length cc]) e d ⟨_, rfl, E2.under g (Nat.le_refl _)⟩ (M2.below g (Nat.le_refl _)) (by have := g.size; omega) (by have := g.size; omega) hmk
  have hS := fun W (g : Below X u2 W) => sExprOf_any W w.heap.size X w.heap.size X (.agg #[.int .i64 e.k, .int .i64 e.n, .int .i64 e.ak, .int .i64 e.at_, .slice ads e.kids.length cps]) (.agg #[.slice pa d.i.length ca, .slice pb d.o.length cb, .slice pc d.v.length cc]) e d ⟨_, rfl, E2.under g (Nat.le_refl _)⟩ (M2.below g (Nat.le_refl _)) (by have := g.size; omega) (by have := g.size; omega) hmk
  rw [hr] at hO hS
  have hcut : cutZ r = r := by rw [← hr]; exact exprOf_cut e d
  have hN := fun W => numCut_any r W
  rw [hcut] at hN
  clear hr hcut
  have HO := hO
  go_wp2_with fail
  clear hu2 HU2
  refine (hO u2 (Below.refl _ _)).mono ?_
  rintro e1 u3 ⟨rfl, g3⟩
  clear c0 c1 c2 c3 c4 t0 t1 t2 hO
  have S3 := g3.size
  have F3 := F2.under g3 (by omega)
  have T3 := T2.at_ (g3.block _ (by omega))
  obtain ⟨c0, c1, c2, c3, c4, _⟩ := id F3
  obtain ⟨t0, t1, t2, _⟩ := id T3
  go_wp2_with fail
  refine (hS u3 (g3.mono (by omega))).mono ?_
  rintro e1 u4 ⟨rfl, g4⟩
  clear c0 c1 c2 c3 c4 t0 t1 t2 hS
  have S4 := g4.size
  have F4 := F3.under g4 (by omega)
  have T4 := T3.at_ (g4.block _ (by omega))
  have G4 : Below X u2 u4 := (g3.mono (by omega)).trans (g4.mono (by omega))
  have hrr : (r != r) = false := by simp
  go_wp2_with fail
  refine (hN _).mono ?_
  rintro e1 w5 ⟨rfl, rfl⟩
  clear F2 F3 T2 T3 g3 g4 hN
  obtain ⟨c0, c1, c2, c3, c4, _⟩ := id F4
  obtain ⟨t0, t1, t2, _⟩ := id T4
  go_wp2_with fail
  refine (sExprOk_any _ w.heap.size X _ e ⟨_, rfl, E2.under G4 (Nat.le_refl _)⟩ (by omega) hmk).mono ?_
  rintro e1 u5 ⟨rfl, g5⟩
  have S5 := g5.size
  have F5 := F4.under g5 (by omega)
  have T5 := T4.at_ (g5.block _ (by omega))
  have G5 : Below X u2 u5 := G4.trans (g5.mono (by omega))
  clear c0 c1 c2 c3 c4 t0 t1 t2 F4 T4 G4 g5
  have hz0 : exprOk e = false → r = 0 := fun h => by rw [← HRr.out, exprOf_not (by rw [h]; rfl)]
  have HW5 : Hid (Below w.heap.size w u5) := G2.trans (G5.mono hwX)
  cases hok : exprOk e with
  | false =>
    obtain rfl := hz0 hok
    go_wp2
    go_ret
    exact ⟨rfl, HW5.out⟩
  | true =>
  obtain ⟨t0, t1, t2, _⟩ := id T5
  go_wp2_with fail
  refine (sMemOk_any _ w.heap.size X _ d (M2.below G5 (Nat.le_refl _)) (by omega)).mono ?_
  rintro e1 u6 ⟨rfl, g6⟩
  have S6 := g6.size
  have F6 := F5.under g6 (by omega)
  have T6 := T5.at_ (g6.block _ (by omega))
  have G6 : Below X u2 u6 := G5.trans (g6.mono (by omega))
  clear t0 t1 t2 F5 T5 G5 g6 HW5 hz0
  have HW6 : Hid (Below w.heap.size w u6) := G2.trans (G6.mono hwX)
  cases hmo : memOk d with
  | false =>
    have hr0 : r = 0 := by rw [← HRr.out, exprOf_not (by rw [hmo, Bool.and_false])]
    subst hr0
    go_wp2
    go_ret
    exact ⟨rfl, HW6.out⟩
  | true =>
  have hnode := exprOf_node hok hmo
  rw [HRr.out] at hnode
  have HND : Hid (_ ∧ _) := hnode
  have hform := exprOk_form hok
  have hkind := form_kind hform
  have hkids := (form_parts hform).1
  have hk2 := (kidsOf_bd e.k).2
  have hl2 : e.kids.length ≤ 2 := by omega
  have HKD : Hid (kidsOf e.k = e.kids.length) := hkids
  clear hnode hform hkids hrr
  obtain ⟨Y, hY⟩ : ∃ Y, u6.heap.size = Y := ⟨_, rfl⟩
  obtain ⟨u7, hu7, G7, P7, S7⟩ : ∃ u7, u6.alloc (.cells #[.int .i64 0, .int .i64 0] 3) = u7 ∧ Below Y u6 u7 ∧ Pair u7 Y (.int .i64 0) (.int .i64 0) ∧ u7.heap.size = Y + 1 := by
    have n1 := pair_new u6 (.int .i64 0) (.int .i64 0) 3
    rw [hY] at n1
    exact ⟨_, rfl, by rw [← hY]; exact (Below.refl _ _).alloc (Nat.le_refl _) _, n1, by rw [World.size_alloc]; omega⟩
  have HI7 : Hid (Below Y u6 u7 ∧ Pair u7 Y (.int .i64 0) (.int .i64 0)) := ⟨G7, P7⟩
  have HA : Hid (Below X u2 u6 ∧ Five u6 X (.int .i64 e.k) (.int .i64 e.n) (.int .i64 e.ak) (.int .i64 e.at_) (.slice ads e.kids.length cps) ∧ Three u6 (X + 1) (.slice pa d.i.length ca) (.slice pb d.o.length cb) (.slice pc d.v.length cc)) := ⟨G6, F6, T6⟩
  have HE2 : Hid (KR u2 w.heap.size X (.slice ads e.kids.length cps) e.kids) := E2
  have HM2 : Hid (MI u2 w.heap.size X (.agg #[.slice pa d.i.length ca, .slice pb d.o.length cb, .slice pc d.v.length cc]) d) := M2
  clear G7 P7 G6 F6 T6 E2 M2 G2
  go_wp2_with fail
  clear hu7
  have hXY : X + 2 ≤ Y := by omega
  go_loopw [7] (fun i wr => ∃ j : Nat, i = .int .i64 j ∧ j ≤ e.kids.length ∧ Y < wr.heap.size ∧ wr.cell? ⟨X, 4, none⟩ = some (.slice ads e.kids.length cps) ∧ Hid (Below Y u6 wr ∧ Pair wr Y (.int .i64 (keptK e d j 0)) (.int .i64 (keptK e d j 1)))) (fun i _ => e.kids.length - (intOf i).toNat)
  case atStart => exact ⟨0, rfl, Nat.zero_le _, by omega, (HA.out.2.1.under HI7.out.1 (by omega)).c4, HI7.out.1, by have := HI7.out.2; unfold keptK; rwa [if_neg (by omega), if_neg (by omega)]⟩
  case round =>
    clear HI7 S7
    obtain ⟨j, rfl, hj, hYs, hc4, HR⟩ := hrel
    have hmx : e.kids.length ≤ 9223372036854775807 := by omega
    by_cases hlt : j < e.kids.length
    · have hlt' : (j : Int) < (e.kids.length : Int) := by omega
      have hj2 : (j : Int) < 2 := by omega
      obtain ⟨x, hx⟩ : ∃ x, e.kids[j]? = some x := ⟨e.kids[j], List.getElem?_eq_getElem hlt⟩
      obtain ⟨b, off, cap', sx, hv, hb1, hb2, h5, hkx⟩ := HE2.out.at_ hx
      simp only [Value.slice.injEq, true_and] at hv
      obtain ⟨rfl, rfl⟩ := hv
      obtain ⟨adx, cpx, rfl, _, _⟩ := hkx.shape
      have hkl := kid_lt hx
      have HX : Hid (e.kids[j]? = some x) := hx
      have H5 : Hid (Cell5 u2 b (off + j * 5) x (.slice adx x.kids.length cpx)) := h5
      have HKX : Hid (KR u2 w.heap.size X (.slice adx x.kids.length cpx) x.kids) := hkx
      clear hx h5 hkx
      go_wp2_with fail
      clear hc4
      refine wp_region_last (R := Grow) (Φ := fun i v u => match i with
          | 0 => v = .slice (some ⟨Y, 0, none⟩) 2 2
          | 1 => v = .int .i64 j
          | 2 => v = .pointer (some ⟨X, 4, none⟩)
          | 3 => v = .slice (some ⟨b, off, none⟩) e.kids.length cps
          | 4 => v = .int .i64 j
          | 5 => v = .pointer (some ⟨b, off + j * 5, none⟩)
          | 6 => v = .agg #[.int .i64 x.k, .int .i64 x.n, .int .i64 x.ak, .int .i64 x.at_, .slice adx x.kids.length cpx]
          | 7 => v = .agg #[.slice pa d.i.length ca, .slice pb d.o.length cb, .slice pc d.v.length cc]
          | 8 => v = .int .i64 (exprOf x d)
          | 9 => v = .pointer (some ⟨Y, j, none⟩)
          | _ => True)
        (J := fun _ _ _ => True) 10 _ rfl rfl (by kernel_rfl) (by kernel_rfl) (by kernel_rfl) (by kernel_rfl) (Below.refl _ _) grow_trans ?_ trivial ?_ ?_
      · intro i v u u' hr
        match i with
        | 0 | 1 | 2 | 3 | 4 | 5 | 6 | 7 | 8 | 9 | _ + 10 => exact fun h => h
      · intro i o ho hin L ac u hf hR0 hLs hLi hp he hJ K' hK
        have hR : Grow wr u := (Below.drew (Below.refl _ _)).trans hR0
        have hsz' : ac.tmps.size = 168 := hf.size
        have hus := hR.size
        have hbY : Below Y u6 u := HR.out.1.trans (hR.mono (by omega))
        have hbX : Below X u2 u := HA.out.1.trans (hbY.mono (by omega))
        rcases i with _ | _ | _ | _ | _ | _ | _ | _ | _ | _ | i
        · obtain rfl := Option.some.inj ho
          have q6 : ac.tmps.getD 6 undef = .slice (some ⟨Y, 0, none⟩) 2 2 := hf.at_ 6 (by kernel_rfl)
          clear hp he
          go_simp
          exact hK _ _ (Below.refl _ _) (getD_put_self ac 48 _ (by show _ < ac.tmps.size; omega)) trivial
        · obtain rfl := Option.some.inj ho
          have q7 : ac.tmps.getD 7 undef = .int .i64 j := hf.at_ 7 (by kernel_rfl)
          clear hp he
          go_simp
          exact hK _ _ (Below.refl _ _) (getD_put_self ac 49 _ (by show _ < ac.tmps.size; omega)) trivial
        · obtain rfl := Option.some.inj ho
          have q3 : ac.tmps.getD 3 undef = .pointer (some ⟨X, 0, none⟩) := hf.at_ 3 (by kernel_rfl)
          clear hp he
          go_simp
          exact hK _ _ (Below.refl _ _) (getD_put_self ac 50 _ (by show _ < ac.tmps.size; omega)) trivial
        · obtain rfl := Option.some.inj ho
          have q50 : ac.tmps.getD 50 undef = .pointer (some ⟨X, 4, none⟩) := hp 2 _ rfl (he _ (Array.mem_of_getElem? (i := 0) rfl) (by kernel_rfl))
          have c4 := (HA.out.2.1.under hbY (by omega)).c4
          clear hp he
          go_simp
          exact hK _ _ (Below.refl _ _) (getD_put_self ac 51 _ (by show _ < ac.tmps.size; omega)) trivial
        · obtain rfl := Option.some.inj ho
          have q7 : ac.tmps.getD 7 undef = .int .i64 j := hf.at_ 7 (by kernel_rfl)
          clear hp he
          go_simp
          exact hK _ _ (Below.refl _ _) (getD_put_self ac 52 _ (by show _ < ac.tmps.size; omega)) trivial
        · obtain rfl := Option.some.inj ho
          have q51 : ac.tmps.getD 51 undef = .slice (some ⟨b, off, none⟩) e.kids.length cps := hp 3 _ rfl (he _ (Array.mem_of_getElem? (i := 0) rfl) (by kernel_rfl))
          have q52 : ac.tmps.getD 52 undef = .int .i64 j := hp 4 _ rfl (he _ (Array.mem_of_getElem? (i := 1) rfl) (by kernel_rfl))
          clear hp he
          go_simp
          exact hK _ _ (Below.refl _ _) (getD_put_self ac 53 _ (by show _ < ac.tmps.size; omega)) trivial
        · obtain rfl := Option.some.inj ho
          have q53 : ac.tmps.getD 53 undef = .pointer (some ⟨b, off + j * 5, none⟩) := hp 5 _ rfl (he _ (Array.mem_of_getElem? (i := 0) rfl) (by kernel_rfl))
          obtain ⟨c0, c1, c2, c3, c4⟩ := H5.out
          rw [← hbX.cell (p := ⟨b, off + j * 5, none⟩) (by show b < _; omega)] at c0
          rw [← hbX.cell (p := ⟨b, off + j * 5 + 1, none⟩) (by show b < _; omega)] at c1
          rw [← hbX.cell (p := ⟨b, off + j * 5 + 2, none⟩) (by show b < _; omega)] at c2
          rw [← hbX.cell (p := ⟨b, off + j * 5 + 3, none⟩) (by show b < _; omega)] at c3
          rw [← hbX.cell (p := ⟨b, off + j * 5 + 4, none⟩) (by show b < _; omega)] at c4
          clear hp he
          go_simp
          exact hK _ _ (Below.refl _ _) (getD_put_self ac 54 _ (by show _ < ac.tmps.size; omega)) trivial
        · obtain rfl := Option.some.inj ho
          have q4 : ac.tmps.getD 4 undef = .pointer (some ⟨X + 1, 0, none⟩) := hf.at_ 4 (by kernel_rfl)
          obtain ⟨c0, c1, c2, _⟩ := HA.out.2.2.at_ (hbY.block (X + 1) (by omega))
          clear hp he
          go_simp
          exact hK _ _ (Below.refl _ _) (getD_put_self ac 55 _ (by show _ < ac.tmps.size; omega)) trivial
        · obtain rfl := Option.some.inj ho
          have q54 : ac.tmps.getD 54 undef = .agg #[.int .i64 x.k, .int .i64 x.n, .int .i64 x.ak, .int .i64 x.at_, .slice adx x.kids.length cpx] := hp 6 _ rfl (he _ (Array.mem_of_getElem? (i := 0) rfl) (by kernel_rfl))
          have q55 : ac.tmps.getD 55 undef = .agg #[.slice pa d.i.length ca, .slice pb d.o.length cb, .slice pc d.v.length cc] := hp 7 _ rfl (he _ (Array.mem_of_getElem? (i := 1) rfl) (by kernel_rfl))
          have hC := iExprOf_any u w.heap.size X w.heap.size X _ _ x d ⟨_, rfl, HKX.out.under hbX (Nat.le_refl _)⟩ (HM2.out.below hbX (Nat.le_refl _)) (by omega) (by omega) (by omega)
          clear hp he
          go_simp
          refine hC.mono ?_
          rintro e1 u' ⟨rfl, g1⟩
          exact hK _ _ g1 (getD_put_self ac 56 _ (by show _ < ac.tmps.size; omega)) trivial
        · obtain rfl := Option.some.inj ho
          have q48 : ac.tmps.getD 48 undef = .slice (some ⟨Y, 0, none⟩) 2 2 := hp 0 _ rfl (he _ (Array.mem_of_getElem? (i := 0) rfl) (by kernel_rfl))
          have q49 : ac.tmps.getD 49 undef = .int .i64 j := hp 1 _ rfl (he _ (Array.mem_of_getElem? (i := 1) rfl) (by kernel_rfl))
          clear hp he
          go_simp
          exact hK _ _ (Below.refl _ _) (getD_put_self ac 57 _ (by show _ < ac.tmps.size; omega)) trivial
        · omega
      · intro L ac u hf hR0 hp hJ K' hK
        have hR : Grow wr u := (Below.drew (Below.refl _ _)).trans hR0
        have hus := hR.size
        have m56 : ac.tmps.getD 56 undef = .int .i64 (exprOf x d) := (hp 8 _ (by decide) rfl).2
        have m57 : ac.tmps.getD 57 undef = .pointer (some ⟨Y, j, none⟩) := (hp 9 _ (by decide) rfl).2
        have hP := HR.out.2.under hR (by omega)
        obtain ⟨z, hz⟩ := hP.cellAt (j := j) (by omega)
        have hzf := hP.f j
        have HN : Hid (Below Y u6 (u.setCell ⟨Y, j, none⟩ (.int .i64 (exprOf x d))) ∧ Pair (u.setCell ⟨Y, j, none⟩ (.int .i64 (exprOf x d))) Y (.int .i64 (keptK e d (j + 1) 0)) (.int .i64 (keptK e d (j + 1) 1))) := ⟨(HR.out.1.trans (hR.mono (by omega))).setCell (p := ⟨Y, j, none⟩) (Nat.le_refl _) _, hP.next (by omega) (kidAt_some HX.out)⟩
        have hc9 : (u.setCell ⟨Y, j, none⟩ (.int .i64 (exprOf x d))).cell? ⟨X, 4, none⟩ = some (.slice (some ⟨b, off, none⟩) e.kids.length cps) := (HA.out.2.1.under HN.out.1 (by omega)).c4
        have hYu : Y < (u.setCell ⟨Y, j, none⟩ (.int .i64 (exprOf x d))).heap.size := by rw [World.size_setCell]; omega
        have HC9 : Hid (_ = _) := hc9
        have HYu : Hid (Y < _) := hYu
        clear hP hp hJ hR0 hR hc9 hYu
        obtain ⟨f, ea, hfv⟩ := act_lit ac 168 hf.size
        have md : ac.defers = [] := hf.defers
        rw [md] at ea
        have m0 := hf.at_ 0 (by kernel_rfl)
        have m1 := hf.at_ 1 (by kernel_rfl)
        have m2 := hf.at_ 2 (by kernel_rfl)
        have m3 := hf.at_ 3 (by kernel_rfl)
        have m4 := hf.at_ 4 (by kernel_rfl)
        have m5 := hf.at_ 5 (by kernel_rfl)
        have m6 := hf.at_ 6 (by kernel_rfl)
        have m7 := hf.at_ 7 (by kernel_rfl)
        have m8 := hf.at_ 8 (by kernel_rfl)
        have m9 := hf.at_ 9 (by kernel_rfl)
        have m10 := hf.at_ 10 (by kernel_rfl)
        have m11 := hf.at_ 11 (by kernel_rfl)
        have m12 := hf.at_ 12 (by kernel_rfl)
        have m13 := hf.at_ 13 (by kernel_rfl)
        have m14 := hf.at_ 14 (by kernel_rfl)
        have m15 := hf.at_ 15 (by kernel_rfl)
        have m16 := hf.at_ 16 (by kernel_rfl)
        have m17 := hf.at_ 17 (by kernel_rfl)
        have m18 := hf.at_ 18 (by kernel_rfl)
        have m19 := hf.at_ 19 (by kernel_rfl)
        have m20 := hf.at_ 20 (by kernel_rfl)
        have m21 := hf.at_ 21 (by kernel_rfl)
        have m22 := hf.at_ 22 (by kernel_rfl)
        have m23 := hf.at_ 23 (by kernel_rfl)
        have m24 := hf.at_ 24 (by kernel_rfl)
        have m25 := hf.at_ 25 (by kernel_rfl)
        have m26 := hf.at_ 26 (by kernel_rfl)
        have m27 := hf.at_ 27 (by kernel_rfl)
        have m28 := hf.at_ 28 (by kernel_rfl)
        have m29 := hf.at_ 29 (by kernel_rfl)
        have m30 := hf.at_ 30 (by kernel_rfl)
        have m31 := hf.at_ 31 (by kernel_rfl)
        have m32 := hf.at_ 32 (by kernel_rfl)
        have m33 := hf.at_ 33 (by kernel_rfl)
        have m34 := hf.at_ 34 (by kernel_rfl)
        have m35 := hf.at_ 35 (by kernel_rfl)
        have m36 := hf.at_ 36 (by kernel_rfl)
        have m37 := hf.at_ 37 (by kernel_rfl)
        have m38 := hf.at_ 38 (by kernel_rfl)
        have m39 := hf.at_ 39 (by kernel_rfl)
        have m40 := hf.at_ 40 (by kernel_rfl)
        have m41 := hf.at_ 41 (by kernel_rfl)
        have m42 := hf.at_ 42 (by kernel_rfl)
        have m43 := hf.at_ 43 (by kernel_rfl)
        have m44 := hf.at_ 44 (by kernel_rfl)
        have m45 := hf.at_ 45 (by kernel_rfl)
        have m46 := hf.at_ 46 (by kernel_rfl)
        have m47 := hf.at_ 47 (by kernel_rfl)
        have m58 := hf.at_ 58 (by kernel_rfl)
        have m59 := hf.at_ 59 (by kernel_rfl)
        have m60 := hf.at_ 60 (by kernel_rfl)
        have m61 := hf.at_ 61 (by kernel_rfl)
        have m62 := hf.at_ 62 (by kernel_rfl)
        have m63 := hf.at_ 63 (by kernel_rfl)
        have m64 := hf.at_ 64 (by kernel_rfl)
        have m65 := hf.at_ 65 (by kernel_rfl)
        have m66 := hf.at_ 66 (by kernel_rfl)
        have m67 := hf.at_ 67 (by kernel_rfl)
        have m68 := hf.at_ 68 (by kernel_rfl)
        have m69 := hf.at_ 69 (by kernel_rfl)
        have m70 := hf.at_ 70 (by kernel_rfl)
        have m71 := hf.at_ 71 (by kernel_rfl)
        have m72 := hf.at_ 72 (by kernel_rfl)
        have m73 := hf.at_ 73 (by kernel_rfl)
        have m74 := hf.at_ 74 (by kernel_rfl)
        have m75 := hf.at_ 75 (by kernel_rfl)
        have m76 := hf.at_ 76 (by kernel_rfl)
        have m77 := hf.at_ 77 (by kernel_rfl)
        have m78 := hf.at_ 78 (by kernel_rfl)
        have m79 := hf.at_ 79 (by kernel_rfl)
        have m80 := hf.at_ 80 (by kernel_rfl)
        have m81 := hf.at_ 81 (by kernel_rfl)
        have m82 := hf.at_ 82 (by kernel_rfl)
        have m83 := hf.at_ 83 (by kernel_rfl)
        have m84 := hf.at_ 84 (by kernel_rfl)
        have m85 := hf.at_ 85 (by kernel_rfl)
        have m86 := hf.at_ 86 (by kernel_rfl)
        have m87 := hf.at_ 87 (by kernel_rfl)
        have m88 := hf.at_ 88 (by kernel_rfl)
        have m89 := hf.at_ 89 (by kernel_rfl)
        have m90 := hf.at_ 90 (by kernel_rfl)
        have m91 := hf.at_ 91 (by kernel_rfl)
        have m92 := hf.at_ 92 (by kernel_rfl)
        have m93 := hf.at_ 93 (by kernel_rfl)
        have m94 := hf.at_ 94 (by kernel_rfl)
        have m95 := hf.at_ 95 (by kernel_rfl)
        have m96 := hf.at_ 96 (by kernel_rfl)
        have m97 := hf.at_ 97 (by kernel_rfl)
        have m98 := hf.at_ 98 (by kernel_rfl)
        have m99 := hf.at_ 99 (by kernel_rfl)
        have m100 := hf.at_ 100 (by kernel_rfl)
        have m101 := hf.at_ 101 (by kernel_rfl)
        have m102 := hf.at_ 102 (by kernel_rfl)
        have m103 := hf.at_ 103 (by kernel_rfl)
        have m104 := hf.at_ 104 (by kernel_rfl)
        have m105 := hf.at_ 105 (by kernel_rfl)
        have m106 := hf.at_ 106 (by kernel_rfl)
        have m107 := hf.at_ 107 (by kernel_rfl)
        have m108 := hf.at_ 108 (by kernel_rfl)
        have m109 := hf.at_ 109 (by kernel_rfl)
        have m110 := hf.at_ 110 (by kernel_rfl)
        have m111 := hf.at_ 111 (by kernel_rfl)
        have m112 := hf.at_ 112 (by kernel_rfl)
        have m113 := hf.at_ 113 (by kernel_rfl)
        have m114 := hf.at_ 114 (by kernel_rfl)
        have m115 := hf.at_ 115 (by kernel_rfl)
        have m116 := hf.at_ 116 (by kernel_rfl)
        have m117 := hf.at_ 117 (by kernel_rfl)
        have m118 := hf.at_ 118 (by kernel_rfl)
        have m119 := hf.at_ 119 (by kernel_rfl)
        have m120 := hf.at_ 120 (by kernel_rfl)
        have m121 := hf.at_ 121 (by kernel_rfl)
        have m122 := hf.at_ 122 (by kernel_rfl)
        have m123 := hf.at_ 123 (by kernel_rfl)
        have m124 := hf.at_ 124 (by kernel_rfl)
        have m125 := hf.at_ 125 (by kernel_rfl)
        have m126 := hf.at_ 126 (by kernel_rfl)
        have m127 := hf.at_ 127 (by kernel_rfl)
        have m128 := hf.at_ 128 (by kernel_rfl)
        have m129 := hf.at_ 129 (by kernel_rfl)
        have m130 := hf.at_ 130 (by kernel_rfl)
        have m131 := hf.at_ 131 (by kernel_rfl)
        have m132 := hf.at_ 132 (by kernel_rfl)
        have m133 := hf.at_ 133 (by kernel_rfl)
        have m134 := hf.at_ 134 (by kernel_rfl)
        have m135 := hf.at_ 135 (by kernel_rfl)
        have m136 := hf.at_ 136 (by kernel_rfl)
        have m137 := hf.at_ 137 (by kernel_rfl)
        have m138 := hf.at_ 138 (by kernel_rfl)
        have m139 := hf.at_ 139 (by kernel_rfl)
        have m140 := hf.at_ 140 (by kernel_rfl)
        have m141 := hf.at_ 141 (by kernel_rfl)
        have m142 := hf.at_ 142 (by kernel_rfl)
        have m143 := hf.at_ 143 (by kernel_rfl)
        have m144 := hf.at_ 144 (by kernel_rfl)
        have m145 := hf.at_ 145 (by kernel_rfl)
        have m146 := hf.at_ 146 (by kernel_rfl)
        have m147 := hf.at_ 147 (by kernel_rfl)
        have m148 := hf.at_ 148 (by kernel_rfl)
        have m149 := hf.at_ 149 (by kernel_rfl)
        have m150 := hf.at_ 150 (by kernel_rfl)
        have m151 := hf.at_ 151 (by kernel_rfl)
        have m152 := hf.at_ 152 (by kernel_rfl)
        have m153 := hf.at_ 153 (by kernel_rfl)
        have m154 := hf.at_ 154 (by kernel_rfl)
        have m155 := hf.at_ 155 (by kernel_rfl)
        have m156 := hf.at_ 156 (by kernel_rfl)
        have m157 := hf.at_ 157 (by kernel_rfl)
        have m158 := hf.at_ 158 (by kernel_rfl)
        have m159 := hf.at_ 159 (by kernel_rfl)
        have m160 := hf.at_ 160 (by kernel_rfl)
        have m161 := hf.at_ 161 (by kernel_rfl)
        have m162 := hf.at_ 162 (by kernel_rfl)
        have m163 := hf.at_ 163 (by kernel_rfl)
        have m164 := hf.at_ 164 (by kernel_rfl)
        have m165 := hf.at_ 165 (by kernel_rfl)
        have m166 := hf.at_ 166 (by kernel_rfl)
        have m167 := hf.at_ 167 (by kernel_rfl)
        rw [← hfv] at m0 m1 m2 m3 m4 m5 m6 m7 m8 m9 m10 m11 m12 m13 m14 m15 m16 m17 m18 m19 m20 m21 m22 m23 m24 m25 m26 m27 m28 m29 m30 m31 m32 m33 m34 m35 m36 m37 m38 m39 m40 m41 m42 m43 m44 m45 m46 m47 m58 m59 m60 m61 m62 m63 m64 m65 m66 m67 m68 m69 m70 m71 m72 m73 m74 m75 m76 m77 m78 m79 m80 m81 m82 m83 m84 m85 m86 m87 m88 m89 m90 m91 m92 m93 m94 m95 m96 m97 m98 m99 m100 m101 m102 m103 m104 m105 m106 m107 m108 m109 m110 m111 m112 m113 m114 m115 m116 m117 m118 m119 m120 m121 m122 m123 m124 m125 m126 m127 m128 m129 m130 m131 m132 m133 m134 m135 m136 m137 m138 m139 m140 m141 m142 m143 m144 m145 m146 m147 m148 m149 m150 m151 m152 m153 m154 m155 m156 m157 m158 m159 m160 m161 m162 m163 m164 m165 m166 m167 m56 m57
        simp only [Array.getD_eq_getD_getElem?, List.getElem?_toArray, List.getElem?_cons_succ, List.getElem?_cons_zero, Option.getD_some] at m0 m1 m2 m3 m4 m5 m6 m7 m8 m9 m10 m11 m12 m13 m14 m15 m16 m17 m18 m19 m20 m21 m22 m23 m24 m25 m26 m27 m28 m29 m30 m31 m32 m33 m34 m35 m36 m37 m38 m39 m40 m41 m42 m43 m44 m45 m46 m47 m58 m59 m60 m61 m62 m63 m64 m65 m66 m67 m68 m69 m70 m71 m72 m73 m74 m75 m76 m77 m78 m79 m80 m81 m82 m83 m84 m85 m86 m87 m88 m89 m90 m91 m92 m93 m94 m95 m96 m97 m98 m99 m100 m101 m102 m103 m104 m105 m106 m107 m108 m109 m110 m111 m112 m113 m114 m115 m116 m117 m118 m119 m120 m121 m122 m123 m124 m125 m126 m127 m128 m129 m130 m131 m132 m133 m134 m135 m136 m137 m138 m139 m140 m141 m142 m143 m144 m145 m146 m147 m148 m149 m150 m151 m152 m153 m154 m155 m156 m157 m158 m159 m160 m161 m162 m163 m164 m165 m166 m167
        simp only [List.range, List.range.loop, List.map_cons, List.map_nil, m0, m1, m2, m3, m4, m5, m6, m7, m8, m9, m10, m11, m12, m13, m14, m15, m16, m17, m18, m19, m20, m21, m22, m23, m24, m25, m26, m27, m28, m29, m30, m31, m32, m33, m34, m35, m36, m37, m38, m39, m40, m41, m42, m43, m44, m45, m46, m47, m58, m59, m60, m61, m62, m63, m64, m65, m66, m67, m68, m69, m70, m71, m72, m73, m74, m75, m76, m77, m78, m79, m80, m81, m82, m83, m84, m85, m86, m87, m88, m89, m90, m91, m92, m93, m94, m95, m96, m97, m98, m99, m100, m101, m102, m103, m104, m105, m106, m107, m108, m109, m110, m111, m112, m113, m114, m115, m116, m117, m118, m119, m120, m121, m122, m123, m124, m125, m126, m127, m128, m129, m130, m131, m132, m133, m134, m135, m136, m137, m138, m139, m140, m141, m142, m143, m144, m145, m146, m147, m148, m149, m150, m151, m152, m153, m154, m155, m156, m157, m158, m159, m160, m161, m162, m163, m164, m165, m166, m167, m56, m57] at ea
        subst ea
        clear m0 m1 m2 m3 m4 m5 m6 m7 m8 m9 m10 m11 m12 m13 m14 m15 m16 m17 m18 m19 m20 m21 m22 m23 m24 m25 m26 m27 m28 m29 m30 m31 m32 m33 m34 m35 m36 m37 m38 m39 m40 m41 m42 m43 m44 m45 m46 m47 m58 m59 m60 m61 m62 m63 m64 m65 m66 m67 m68 m69 m70 m71 m72 m73 m74 m75 m76 m77 m78 m79 m80 m81 m82 m83 m84 m85 m86 m87 m88 m89 m90 m91 m92 m93 m94 m95 m96 m97 m98 m99 m100 m101 m102 m103 m104 m105 m106 m107 m108 m109 m110 m111 m112 m113 m114 m115 m116 m117 m118 m119 m120 m121 m122 m123 m124 m125 m126 m127 m128 m129 m130 m131 m132 m133 m134 m135 m136 m137 m138 m139 m140 m141 m142 m143 m144 m145 m146 m147 m148 m149 m150 m151 m152 m153 m154 m155 m156 m157 m158 m159 m160 m161 m162 m163 m164 m165 m166 m167 m56 m57 hfv md hf
        go_simp
        refine hK _ _ ?_
        clear hK
        go_wp2
        go_roundw
        case rel => exact ⟨j + 1, by go_num, by omega, HYu.out, HC9.out, HN.out⟩
        case measure => simp [intOf]; omega
    · have hlt' : ¬ (j : Int) < (e.kids.length : Int) := by omega
      obtain rfl : j = e.kids.length := by omega
      have hb9 : Below w.heap.size w wr := HW6.out.trans (HR.out.1.mono (by omega))
      have HB9 : Hid (Below w.heap.size w wr) := hb9
      have F9 := HA.out.2.1.under HR.out.1 (by omega)
      have T9 := HA.out.2.2.at_ (HR.out.1.block (X + 1) (by omega))
      have M9 := HM2.out.below (HA.out.1.trans (HR.out.1.mono (by omega))) (Nat.le_refl _)
      have P9 := HR.out.2
      have hsz9 : X ≤ wr.heap.size := by omega
      have HKT : Hid (3 ≤ e.k → e.k ≤ 9 → e.kids.length = 2) := fun h1 h2 => by have := HKD.out; rw [kidsOf_two h1 h2] at this; omega
      have HKN : Hid (e.k = 10 → e.kids.length = 1) := fun h1 => by have := HKD.out; rw [kidsOf_not h1] at this; omega
      have h0k : 3 ≤ e.k → keptK e d e.kids.length 0 = exprOf (kidAt e 0) d := fun h1 => by
        unfold keptK
        by_cases h2 : e.k ≤ 9
        · rw [if_pos (by have := HKT.out h1 h2; omega)]
        · rw [if_pos (by have := HKN.out (by omega); omega)]
      have h1k : 3 ≤ e.k → e.k ≤ 9 → keptK e d e.kids.length 1 = exprOf (kidAt e 1) d := fun h1 h2 => by
        unfold keptK
        rw [if_pos (by have := HKT.out h1 h2; omega)]
      have hT2 : 3 ≤ e.k → e.k ≤ 9 → r = twoZ e.k (keptK e d e.kids.length 0) (keptK e d e.kids.length 1) := fun h1 h2 => by
        rw [h0k h1, h1k h1 h2]; exact HND.out.2.2.2 h1 h2
      have hT3 : e.k = 10 → r = isZ (!(keptK e d e.kids.length 0 != 0)) := fun h1 => by
        rw [h0k (by omega)]; exact HND.out.2.2.1 h1
      generalize keptK e d e.kids.length 0 = r0 at *
      generalize keptK e d e.kids.length 1 = r1 at *
      have HT1 : Hid (e.k = 1 → r = e.n) := HND.out.1
      have HT4 : Hid (e.k = 2 → r = memGet d ⟨e.ak, e.at_⟩) := HND.out.2.1
      have HT2 : Hid (3 ≤ e.k → e.k ≤ 9 → r = twoZ e.k r0 r1) := hT2
      have HT3 : Hid (e.k = 10 → r = isZ (!(r0 != 0))) := hT3
      have HKk : Hid (1 ≤ e.k ∧ e.k ≤ 10) := hkind
      have HM9 : Hid (MI wr w.heap.size X (.agg #[.slice pa d.i.length ca, .slice pb d.o.length cb, .slice pc d.v.length cc]) d) := M9
      clear hT2 hT3 h0k h1k HKT HKN HND HKD hb9 M9 hkind HR HA HE2 HM2 HRr HW6 HO hl2 hk2
      obtain ⟨c0, c1, c2, c3, c4, _⟩ := F9
      obtain ⟨t0, t1, t2, _⟩ := T9
      obtain ⟨y0, y1, _⟩ := P9
      generalize hek : e.k = K at *
      obtain rfl | rfl | rfl | rfl | rfl | rfl | rfl | rfl | rfl | rfl : K = 1 ∨ K = 2 ∨ K = 3 ∨ K = 4 ∨ K = 5 ∨ K = 6 ∨ K = 7 ∨ K = 8 ∨ K = 9 ∨ K = 10 := by have := HKk.out; omega
      · obtain rfl := HT1.out rfl
        clear HT2 HT3 HT4
        go_wp2
        go_ret
        exact ⟨ret_bool (by simp), HB9.out⟩
      · obtain rfl := HT4.out rfl
        have hG := iMemGet_any wr _ w.heap.size X d e.ak e.at_ HM9.out hsz9
        have ev : AddrD.val ⟨e.ak, e.at_⟩ = .agg #[.int .i64 e.ak, .int .i64 e.at_] := rfl
        rw [ev] at hG
        clear ev HT1 HT2 HT3
        generalize memGet d ⟨e.ak, e.at_⟩ = rr at *
        go_wp2_with fail
        refine hG.mono ?_
        rintro e1 w9 ⟨rfl, g9⟩
        go_wp2
        go_ret
        exact ⟨ret_bool (by simp), HB9.out.trans (g9.mono HB9.out.size)⟩
      · obtain rfl := HT2.out (by omega) (by omega)
        have hN := fun W => numAdd_any r0 r1 W
        rw [← twoZ_3] at hN
        generalize twoZ 3 r0 r1 = rr at *
        clear HT1 HT3 HT4
        go_wp2_with fail
        go_quiet ((go_at_call 17; exact Calls.quiet_of_same (hN _)))
        go_wp2
        go_ret
        exact ⟨ret_bool (by simp), below_drewN HB9.out nq⟩
      · obtain rfl := HT2.out (by omega) (by omega)
        have hN := fun W => numSub_any r0 r1 W
        rw [← twoZ_4] at hN
        generalize twoZ 4 r0 r1 = rr at *
        clear HT1 HT3 HT4
        go_wp2_with fail
        go_quiet ((go_at_call 18; exact Calls.quiet_of_same (hN _)))
        go_wp2
        go_ret
        exact ⟨ret_bool (by simp), below_drewN HB9.out nq⟩
      · obtain rfl := HT2.out (by omega) (by omega)
        have hN := fun W => numMul_any r0 r1 W
        rw [← twoZ_5] at hN
        generalize twoZ 5 r0 r1 = rr at *
        clear HT1 HT3 HT4
        go_wp2_with fail
        go_quiet ((go_at_call 19; exact Calls.quiet_of_same (hN _)))
        go_wp2
        go_ret
        exact ⟨ret_bool (by simp), below_drewN HB9.out nq⟩
      · obtain rfl := HT2.out (by omega) (by omega)
        have hN := fun W => numIs_any W (decide (r0 < r1))
        rw [← twoZ_6] at hN
        generalize twoZ 6 r0 r1 = rr at *
        clear HT1 HT3 HT4
        go_wp2_with fail
        go_quiet ((go_at_call 20; exact Calls.quiet_of_same (hN _)))
        go_wp2
        go_ret
        exact ⟨ret_bool (by simp), below_drewN HB9.out nq⟩
      · obtain rfl := HT2.out (by omega) (by omega)
        have hN := fun W => numIs_any W (r0 == r1)
        rw [← twoZ_7] at hN
        generalize twoZ 7 r0 r1 = rr at *
        clear HT1 HT3 HT4
        go_wp2_with fail
        go_quiet ((go_at_call 20; exact Calls.quiet_of_same (hN _)))
        go_wp2
        go_ret
        exact ⟨ret_bool (by simp), below_drewN HB9.out nq⟩
      · obtain rfl := HT2.out (by omega) (by omega)
        rw [twoZ_8]
        clear HT1 HT3 HT4
        cases h0 : (r0 != 0)
        all_goals
          cases h1 : (r1 != 0)
          all_goals
            go_wp2_with (go_at_call 20; refine (numIs_any _ _).mono ?_; rintro e1 w9 ⟨rfl, rfl⟩)
            go_ret
            exact ⟨ret_bool (by simp), HB9.out⟩
      · obtain rfl := HT2.out (by omega) (by omega)
        rw [twoZ_9]
        clear HT1 HT3 HT4
        cases h0 : (r0 != 0)
        all_goals
          cases h1 : (r1 != 0)
          all_goals
            go_wp2_with (go_at_call 20; refine (numIs_any _ _).mono ?_; rintro e1 w9 ⟨rfl, rfl⟩)
            go_ret
            exact ⟨ret_bool (by simp), HB9.out⟩
      · obtain rfl := HT3.out rfl
        clear HT1 HT2 HT4
        cases h0 : (r0 == 0)
        all_goals
          go_wp2_with (go_at_call 20; refine (numIs_any _ _).mono ?_; rintro e1 w9 ⟨rfl, rfl⟩)
          go_ret
          exact ⟨ret_bool (by simp [isZ, bne, h0]), HB9.out⟩
end Go.Proofs.Ytdhmioelmcdflaa
