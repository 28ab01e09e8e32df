/-
  eqExpr, eqExprS: the laws' helpers that compare.
-/
import Derived.Test.YtkeockippmmneaaExprData
import Derived.Test.YtkeockippmmneaaAddrKit
import Derived.Test.YtkeockippmmneaaDag
namespace Go.Proofs.Ytkeockippmmneaa
open Go.ChangeShapes Go.WideShapes Go.ChangeAt Go.RowKit
set_option linter.unusedVariables false

theorem exprD_eq {x y : ExprD} : x = y ↔ x.k = y.k ∧ x.n = y.n ∧ x.ak = y.ak ∧ x.at_ = y.at_ ∧ x.kids = y.kids := by
  cases x; cases y; simp [ExprD.k, ExprD.n, ExprD.ak, ExprD.at_, ExprD.kids]

/-- What eqExprS answers of lists of which the first has at most n parts. -/
def EqS (n : Nat) : Prop := ∀ (w : World) (lo hi lo' hi' : Nat) (v v' : Value) (es es' : List ExprD), manyL es ≤ n → KR w lo hi v es → KR w lo' hi' v' es' → hi ≤ w.heap.size → hi' ≤ w.heap.size →
  Calls Try.prog 29 #[v, v'] w fun e w' => ∃ r : Bool, e = .returned (.bool r) ∧ (r = true ↔ es = es') ∧ Below w.heap.size w w'

set_option maxHeartbeats 1000000 in
theorem eqExpr_of {n : Nat} (H : EqS n) (w : World) (lo hi lo' hi' : Nat) (x y : ExprD) (s s' : Value) (hn : manyL x.kids ≤ n) (h : KR w lo hi s x.kids) (h' : KR w lo' hi' s' y.kids) (hhi : hi ≤ w.heap.size) (hhi' : hi' ≤ w.heap.size) :
    Calls Try.prog 10 #[.agg #[.int .i64 x.k, .int .i64 x.n, .int .i64 x.ak, .int .i64 x.at_, s], .agg #[.int .i64 y.k, .int .i64 y.n, .int .i64 y.ak, .int .i64 y.at_, s']] w fun e w' => ∃ r : Bool, e = .returned (.bool r) ∧ (r = true ↔ x = y) ∧ Below w.heap.size w w' := by
  have b2 := fun o o' => ((Below.refl w.heap.size w).alloc (Nat.le_refl _) o).alloc (by simp) o'
  have HX : Hid (x = y ↔ x.k = y.k ∧ x.n = y.n ∧ x.ak = y.ak ∧ x.at_ = y.at_ ∧ x.kids = y.kids) := exprD_eq
  obtain ⟨ad, cap, rfl, _, _⟩ := h.shape
  obtain ⟨ad', cap', rfl, _, _⟩ := h'.shape
  obtain ⟨k1, e1⟩ : ∃ q, x.k = q := ⟨_, rfl⟩
  obtain ⟨n1, e2⟩ : ∃ q, x.n = q := ⟨_, rfl⟩
  obtain ⟨a1, e3⟩ : ∃ q, x.ak = q := ⟨_, rfl⟩
  obtain ⟨t1, e4⟩ : ∃ q, x.at_ = q := ⟨_, rfl⟩
  obtain ⟨k2, d1⟩ : ∃ q, y.k = q := ⟨_, rfl⟩
  obtain ⟨n2, d2⟩ : ∃ q, y.n = q := ⟨_, rfl⟩
  obtain ⟨a2, d3⟩ : ∃ q, y.ak = q := ⟨_, rfl⟩
  obtain ⟨t2, d4⟩ : ∃ q, y.at_ = q := ⟨_, rfl⟩
  rw [e1, e2, e3, e4, d1, d2, d3, d4] at HX
  rw [e1, e2, e3, e4, d1, d2, d3, d4]
  clear e1 e2 e3 e4 d1 d2 d3 d4
  have HK := And.intro h h'
  have HK : Hid (KR w lo hi (.slice ad x.kids.length cap) x.kids ∧ KR w lo' hi' (.slice ad' y.kids.length cap') y.kids) := HK
  clear h h'
  by_cases q1 : k1 = k2
  · have q1' : (k1 != k2) = false := by simp [q1]
    by_cases q2 : n1 = n2
    · have q2' : (n1 != n2) = false := by simp [q2]
      have Q12 : Hid (k1 = k2 ∧ n1 = n2) := ⟨q1, q2⟩
      clear q1 q2
      go_enter Try.func10, Try.ntmps10
      go_wp2_with fail
      obtain ⟨u0, hu0, G0, c0, c1, S0⟩ : ∃ u0, (w.alloc (.cells #[.int .i64 k1, .int .i64 n1, .int .i64 a1, .int .i64 t1, .slice ad x.kids.length cap] 31)).alloc (.cells #[.int .i64 k2, .int .i64 n2, .int .i64 a2, .int .i64 t2, .slice ad' y.kids.length cap'] 31) = u0 ∧ Below w.heap.size w u0 ∧ u0.cell? ⟨w.heap.size, 4, none⟩ = some (.slice ad x.kids.length cap) ∧ u0.cell? ⟨w.heap.size + 1, 4, none⟩ = some (.slice ad' y.kids.length cap') ∧ u0.heap.size = w.heap.size + 2 :=
        ⟨_, rfl, b2 _ _, World.cell?_alloc2_first _ _ _ _, World.cell?_alloc2_new _ _ _ _, by simp⟩
      rw [hu0]
      clear hu0
      refine (eqAddr_any _ ⟨a1, t1⟩ ⟨a2, t2⟩).mono ?_
      by_cases q3 : (⟨a1, t1⟩ : AddrD) = ⟨a2, t2⟩
      · rw [decide_eq_true q3]
        rintro e1 u1 ⟨rfl, g1⟩
        have S1 := g1.size
        have G1 := G0.trans (g1.mono (by omega))
        rw [← g1.cell (p := ⟨w.heap.size, 4, none⟩) (by show w.heap.size < u0.heap.size; omega)] at c0
        rw [← g1.cell (p := ⟨w.heap.size + 1, 4, none⟩) (by show w.heap.size + 1 < u0.heap.size; omega)] at c1
        have Q3 : Hid (a1 = a2 ∧ t1 = t2) := by simp at q3; exact q3
        clear g1 G0 q3
        go_wp2_with fail
        refine (H _ lo hi lo' hi' _ _ x.kids y.kids hn (HK.out.1.under G1 hhi) (HK.out.2.under G1 hhi') (by omega) (by omega)).mono ?_
        rintro e2 u2 ⟨r, rfl, hr, g2⟩
        have G2 := G1.trans (g2.mono (by omega))
        have HR : Hid (r = true ↔ x.kids = y.kids) := hr
        clear g2 hr G1 c0 c1
        have hfin : (r = true ↔ x = y) := by
          rw [HR.out, HX.out]
          exact ⟨fun h => ⟨Q12.out.1, Q12.out.2, Q3.out.1, Q3.out.2, h⟩, fun h => h.2.2.2.2⟩
        have HF : Hid (r = true ↔ x = y) := hfin
        clear hfin
        cases r with
        | true =>
          go_wp2
          go_ret
          exact ⟨true, rfl, by simpa using HF.out, G2⟩
        | false =>
          go_wp2
          go_ret
          exact ⟨false, rfl, HF.out, G2⟩
      · rw [decide_eq_false q3]
        rintro e1 u1 ⟨rfl, g1⟩
        have G1 := G0.trans (g1.mono (by omega))
        have HF : Hid (false = true ↔ x = y) := by show _ ↔ _; rw [HX.out]; simp at q3 ⊢; intro _ _ h1 h2; exact absurd h2 (q3 h1)
        clear g1 G0 q3 c0 c1
        go_wp2
        go_ret
        exact ⟨false, rfl, HF.out, G1⟩
    · have q2' : (n1 != n2) = true := by simp [q2]
      have HF : Hid (false = true ↔ x = y) := by show _ ↔ _; rw [HX.out]; simp; intro _ h; exact absurd h q2
      clear q1 q2
      go_enter Try.func10, Try.ntmps10
      go_wp2
      go_ret
      exact ⟨false, rfl, HF.out, b2 _ _⟩
  · have q1' : (k1 != k2) = true := by simp [q1]
    have HF : Hid (false = true ↔ x = y) := by show _ ↔ _; rw [HX.out]; simp; intro h; exact absurd h q1
    clear q1
    go_enter Try.func10, Try.ntmps10
    go_wp2
    go_ret
    exact ⟨false, rfl, HF.out, b2 _ _⟩

theorem take_succ_eq {xs ys : List ExprD} {j : Nat} {x y : ExprD} (h : xs.take j = ys.take j) (hx : xs[j]? = some x) (hy : ys[j]? = some y) (e : x = y) : xs.take (j + 1) = ys.take (j + 1) := by
  rw [List.take_add_one, List.take_add_one, h, hx, hy, e]

theorem ne_at_expr {xs ys : List ExprD} {j : Nat} {x y : ExprD} (hx : xs[j]? = some x) (hy : ys[j]? = some y) (e : x ≠ y) : xs ≠ ys := by
  intro h; rw [h, hy] at hx; exact e (Option.some.inj hx).symm

set_option maxHeartbeats 2000000 in
theorem eqExprS_step {n : Nat} (H : ∀ m, m < n → EqS m) : EqS n := by
  intro w lo hi lo' hi' v v' es es' hn h h' hhi hhi'
  obtain ⟨ad, cap, rfl, hc1, hc2⟩ := h.shape
  obtain ⟨ad', cap', rfl, hd1, hd2⟩ := h'.shape
  have hmx : es.length ≤ 9223372036854775807 := by unfold maxLen at hc2; omega
  have hmx' : es'.length ≤ 9223372036854775807 := by unfold maxLen at hd2; omega
  have HK : Hid (KR w lo hi (.slice ad es.length cap) es) := h
  have HK' : Hid (KR w lo' hi' (.slice ad' es'.length cap') es') := h'
  clear h h' hc1 hc2 hd1 hd2
  by_cases hl : es.length = es'.length
  · have hl2 : ((es.length : Int) != (es'.length : Int)) = false := by simp; omega
    have HL : Hid (es.length = es'.length) := hl
    clear hl
    go_enter Try.func29, Try.ntmps29
    go_wp2_with fail
    go_loopw [5] (fun i wr => ∃ j : Nat, j ≤ es.length ∧ i = .int .i64 j ∧ Below w.heap.size w wr ∧ es.take j = es'.take j) (fun i _ => es.length - (intOf i).toNat)
    case atStart => exact ⟨0, Nat.zero_le _, rfl, Below.refl _ _, rfl⟩
    case round =>
      obtain ⟨j, hj, rfl, hb, ht⟩ := hrel
      have HT : Hid (es.take j = es'.take j) := ht
      clear ht
      by_cases hlt : j < es.length
      · obtain ⟨x, hx⟩ : ∃ x, es[j]? = some x := ⟨es[j], List.getElem?_eq_getElem hlt⟩
        have hlt' : j < es'.length := by rw [← HL.out]; exact hlt
        obtain ⟨y, hy⟩ : ∃ y, es'[j]? = some y := ⟨es'[j]'hlt', List.getElem?_eq_getElem hlt'⟩
        obtain ⟨b, off, cap1, s, hv, hb1, hb2, h5, hk⟩ := HK.out.at_ hx
        obtain ⟨b', off', cap1', s', hv', hb1', hb2', h5', hk'⟩ := HK'.out.at_ hy
        simp only [Value.slice.injEq, true_and] at hv hv'
        obtain ⟨rfl, rfl⟩ := hv
        obtain ⟨rfl, rfl⟩ := hv'
        have hkl := kid_lt hx
        have hsz := hb.size
        have HX : Hid (es[j]? = some x ∧ es'[j]? = some y) := ⟨hx, hy⟩
        clear hx hy
        obtain ⟨ads, cps, rfl, _, _⟩ := hk.shape
        obtain ⟨ads', cps', rfl, _, _⟩ := hk'.shape
        go_wp2_with fail
        refine wp_region_dag (R := Grow) (Φ := fun i v u => match i with
            | 0 => v = .slice (some ⟨b, off, none⟩) es.length cap
            | 1 => v = .int .i64 j
            | 2 => v = .pointer (some ⟨b, off + j * 5, none⟩)
            | 3 => v = .agg #[.int .i64 x.k, .int .i64 x.n, .int .i64 x.ak, .int .i64 x.at_, .slice ads x.kids.length cps]
            | 4 => v = .slice (some ⟨b', off', none⟩) es'.length cap'
            | 5 => v = .int .i64 j
            | 6 => v = .pointer (some ⟨b', off' + j * 5, none⟩)
            | 7 => v = .agg #[.int .i64 y.k, .int .i64 y.n, .int .i64 y.ak, .int .i64 y.at_, .slice ads' y.kids.length cps']
            | 8 => ∃ r : Bool, v = .bool r ∧ (r = true ↔ x = y)
            | 9 => ∃ r : Bool, v = .bool (!r) ∧ (r = true ↔ x = y)
            | _ => True) (by kernel_rfl) (by kernel_rfl) (by kernel_rfl) (Below.refl _ _) grow_trans ?_ ?_ ?_
        · intro i v u u' hr
          match i with
          | 0 | 1 | 2 | 3 | 4 | 5 | 6 | 7 | 8 | 9 | _ + 10 => exact fun h => h
        · intro i o ho a u hf hR0 he K' hK
          have hR : Grow wr u := (Below.drew (Below.refl _ _)).trans hR0
          have hRw : Below w.heap.size w u := hb.trans (hR.mono hsz)
          have hsz' : a.tmps.size = 27 := hf.size
          have hus : wr.heap.size ≤ u.heap.size := hR.size
          have putat : ∀ (t : Nat) (v : Value), t < a.tmps.size → (a.put (some t) v).tmps.getD t undef = v := fun t v ht => by
            show (a.tmps.setIfInBounds t v).getD t undef = v
            simp [ht]
          rcases i with _ | _ | _ | _ | _ | _ | _ | _ | _ | _ | i
          · obtain rfl := Option.some.inj ho
            have f1 : a.tmps.getD 0 undef = .slice (some ⟨b, off, none⟩) es.length cap := hf.at_ 0 (by kernel_rfl)
            clear he
            go_simp
            exact hK _ _ (Below.refl _ _) (putat 17 _ (by omega))
          · obtain rfl := Option.some.inj ho
            have f1 : a.tmps.getD 5 undef = .int .i64 j := hf.at_ 5 (by kernel_rfl)
            clear he
            go_simp
            exact hK _ _ (Below.refl _ _) (putat 18 _ (by omega))
          · obtain rfl := Option.some.inj ho
            have f1 : a.tmps.getD 17 undef = .slice (some ⟨b, off, none⟩) es.length cap := he _ (Array.mem_of_getElem? (i := 0) rfl) (by kernel_rfl) _ rfl
            have f2 : a.tmps.getD 18 undef = .int .i64 j := he _ (Array.mem_of_getElem? (i := 1) rfl) (by kernel_rfl) _ rfl
            clear he
            go_simp
            exact hK _ _ (Below.refl _ _) (putat 19 _ (by omega))
          · obtain rfl := Option.some.inj ho
            have f1 : a.tmps.getD 19 undef = .pointer (some ⟨b, off + j * 5, none⟩) := he _ (Array.mem_of_getElem? (i := 0) rfl) (by kernel_rfl) _ rfl
            obtain ⟨c0, c1, c2, c3, c4⟩ := h5
            rw [← hRw.cell (p := ⟨b, off + j * 5, none⟩) (by show b < _; omega)] at c0
            rw [← hRw.cell (p := ⟨b, off + j * 5 + 1, none⟩) (by show b < _; omega)] at c1
            rw [← hRw.cell (p := ⟨b, off + j * 5 + 2, none⟩) (by show b < _; omega)] at c2
            rw [← hRw.cell (p := ⟨b, off + j * 5 + 3, none⟩) (by show b < _; omega)] at c3
            rw [← hRw.cell (p := ⟨b, off + j * 5 + 4, none⟩) (by show b < _; omega)] at c4
            clear he
            go_simp
            exact hK _ _ (Below.refl _ _) (putat 20 _ (by omega))
          · obtain rfl := Option.some.inj ho
            have f1 : a.tmps.getD 1 undef = .slice (some ⟨b', off', none⟩) es'.length cap' := hf.at_ 1 (by kernel_rfl)
            clear he
            go_simp
            exact hK _ _ (Below.refl _ _) (putat 21 _ (by omega))
          · obtain rfl := Option.some.inj ho
            have f1 : a.tmps.getD 5 undef = .int .i64 j := hf.at_ 5 (by kernel_rfl)
            clear he
            go_simp
            exact hK _ _ (Below.refl _ _) (putat 22 _ (by omega))
          · obtain rfl := Option.some.inj ho
            have f1 : a.tmps.getD 21 undef = .slice (some ⟨b', off', none⟩) es'.length cap' := he _ (Array.mem_of_getElem? (i := 0) rfl) (by kernel_rfl) _ rfl
            have f2 : a.tmps.getD 22 undef = .int .i64 j := he _ (Array.mem_of_getElem? (i := 1) rfl) (by kernel_rfl) _ rfl
            clear he
            go_simp
            exact hK _ _ (Below.refl _ _) (putat 23 _ (by omega))
          · obtain rfl := Option.some.inj ho
            have f1 : a.tmps.getD 23 undef = .pointer (some ⟨b', off' + j * 5, none⟩) := he _ (Array.mem_of_getElem? (i := 0) rfl) (by kernel_rfl) _ rfl
            obtain ⟨c0, c1, c2, c3, c4⟩ := h5'
            rw [← hRw.cell (p := ⟨b', off' + j * 5, none⟩) (by show b' < _; omega)] at c0
            rw [← hRw.cell (p := ⟨b', off' + j * 5 + 1, none⟩) (by show b' < _; omega)] at c1
            rw [← hRw.cell (p := ⟨b', off' + j * 5 + 2, none⟩) (by show b' < _; omega)] at c2
            rw [← hRw.cell (p := ⟨b', off' + j * 5 + 3, none⟩) (by show b' < _; omega)] at c3
            rw [← hRw.cell (p := ⟨b', off' + j * 5 + 4, none⟩) (by show b' < _; omega)] at c4
            clear he
            go_simp
            exact hK _ _ (Below.refl _ _) (putat 24 _ (by omega))
          · obtain rfl := Option.some.inj ho
            have f1 : a.tmps.getD 20 undef = .agg #[.int .i64 x.k, .int .i64 x.n, .int .i64 x.ak, .int .i64 x.at_, .slice ads x.kids.length cps] := he _ (Array.mem_of_getElem? (i := 0) rfl) (by kernel_rfl) _ rfl
            have f2 : a.tmps.getD 24 undef = .agg #[.int .i64 y.k, .int .i64 y.n, .int .i64 y.ak, .int .i64 y.at_, .slice ads' y.kids.length cps'] := he _ (Array.mem_of_getElem? (i := 1) rfl) (by kernel_rfl) _ rfl
            clear he
            go_simp
            refine (eqExpr_of (n := manyL x.kids) (H _ (by omega)) u lo hi lo' hi' x y _ _ (Nat.le_refl _) (hk.under hRw hhi) (hk'.under hRw hhi') (by omega) (by omega)).mono ?_
            rintro e u' ⟨r, rfl, hr, hbu⟩
            exact hK _ _ hbu ⟨r, putat 25 _ (by omega), hr⟩
          · obtain rfl := Option.some.inj ho
            obtain ⟨r, f1, hr⟩ := he _ (Array.mem_of_getElem? (i := 0) rfl) (by kernel_rfl) _ rfl
            have f1 : a.tmps.getD 25 undef = .bool r := f1
            clear he
            go_simp
            exact hK _ _ (Below.refl _ _) ⟨r, putat 26 _ (by omega), hr⟩
          · exact absurd ho (by simp)
        · intro a u hf hR0 hp
          have hR : Grow wr u := (Below.drew (Below.refl _ _)).trans hR0
          have hRw : Below w.heap.size w u := hb.trans (hR.mono hsz)
          have md : a.defers = [] := hf.defers
          obtain ⟨r, m26, hr⟩ := hp 9 _ rfl
          have m26 : a.tmps.getD 26 undef = .bool (!r) := m26
          have m0 : a.tmps.getD 0 undef = .slice (some ⟨b, off, none⟩) es.length cap := hf.at_ 0 (by kernel_rfl)
          have m1 : a.tmps.getD 1 undef = .slice (some ⟨b', off', none⟩) es'.length cap' := hf.at_ 1 (by kernel_rfl)
          have m5 : a.tmps.getD 5 undef = .int .i64 j := hf.at_ 5 (by kernel_rfl)
          have m2 : a.tmps.getD 2 undef = undef := hf.at_ 2 (by kernel_rfl)
          have m3 : a.tmps.getD 3 undef = undef := hf.at_ 3 (by kernel_rfl)
          have m6 : a.tmps.getD 6 undef = .slice (some ⟨b, off, none⟩) es.length cap := hf.at_ 6 (by kernel_rfl)
          have m7 : a.tmps.getD 7 undef = .int .i64 es.length := hf.at_ 7 (by kernel_rfl)
          have m8 : a.tmps.getD 8 undef = .slice (some ⟨b', off', none⟩) es'.length cap' := hf.at_ 8 (by kernel_rfl)
          have m9 : a.tmps.getD 9 undef = .int .i64 es'.length := hf.at_ 9 (by kernel_rfl)
          have m10 : a.tmps.getD 10 undef = .bool false := hf.at_ 10 (by kernel_rfl)
          obtain ⟨f, ea, hfv⟩ := act_lit a 27 hf.size
          rw [← hfv] at m0 m1 m2 m3 m5 m6 m7 m8 m9 m10 m26
          rw [md] at ea
          cases r with
          | true =>
            simp only [List.range, List.range.loop, List.map_cons, List.map_nil, m0, m1, m2, m3, m5, m6, m7, m8, m9, m10, m26, Bool.not_true] at ea
            subst ea
            have HN : Hid (es.take (j + 1) = es'.take (j + 1)) := take_succ_eq HT.out HX.out.1 HX.out.2 (hr.mp rfl)
            clear hfv hf hp hR0 hR md hr h5 h5' hk hk'
            go_wp2
            go_roundw
            case rel => exact ⟨j + 1, by omega, by go_num, hRw, HN.out⟩
            case measure => simp [intOf]; omega
          | false =>
            simp only [List.range, List.range.loop, List.map_cons, List.map_nil, m0, m1, m2, m3, m5, m6, m7, m8, m9, m10, m26, Bool.not_false] at ea
            subst ea
            have HN : Hid (es ≠ es') := ne_at_expr HX.out.1 HX.out.2 fun h => by have := hr.mpr h; cases this
            clear hfv hf hp hR0 hR md hr h5 h5' hk hk'
            go_wp2
            go_ret
            exact ⟨false, rfl, by simp [HN.out], hRw⟩
      · have hje : j = es.length := by omega
        subst hje
        have he : es = es' := by have := HT.out; rwa [List.take_length, HL.out, List.take_length] at this
        have HE : Hid (es = es') := he
        clear he
        go_wp2
        go_ret
        exact ⟨true, rfl, by simp [HE.out], hb⟩
  · have hl2 : ((es.length : Int) != (es'.length : Int)) = true := by simp; omega
    have HE : Hid (es ≠ es') := fun h => hl (by rw [h])
    go_enter Try.func29, Try.ntmps29
    go_wp2
    go_ret
    exact ⟨false, rfl, by simp [HE.out], Below.refl _ _⟩

theorem eqS (n : Nat) : EqS n := by
  induction n using Nat.strongRecOn with
  | ind n ih => exact eqExprS_step ih

theorem eqExpr_any (w : World) (lo hi lo' hi' : Nat) (v v' : Value) (x y : ExprD) (h : ER w lo hi v x) (h' : ER w lo' hi' v' y) (hhi : hi ≤ w.heap.size) (hhi' : hi' ≤ w.heap.size) :
    Calls Try.prog 10 #[v, v'] w fun e w' => ∃ r : Bool, e = .returned (.bool r) ∧ (r = true ↔ x = y) ∧ Below w.heap.size w w' := by
  obtain ⟨s, rfl, hk⟩ := h
  obtain ⟨s', rfl, hk'⟩ := h'
  exact eqExpr_of (eqS _) w lo hi lo' hi' x y s s' (Nat.le_refl _) hk hk' hhi hhi'
end Go.Proofs.Ytkeockippmmneaa
