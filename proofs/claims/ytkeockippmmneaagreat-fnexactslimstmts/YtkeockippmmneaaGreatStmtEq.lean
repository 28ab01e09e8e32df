/-
  eqStmt, eqStmtS: the laws' helpers that compare statements.
-/
import Derived.Test.YtkeockippmmneaaGreatQS1
import Derived.Test.YtkeockippmmneaaGreatQS6
namespace Go.Proofs.YtkeockippmmneaaGreat
open Go.ChangeShapes Go.WideShapes Go.ChangeAt Go.RowKit
set_option linter.unusedVariables false

/-- What eqStmtS answers of lists of which the first has at most n. -/
def EqT (n : Nat) : Prop := ∀ (w : World) (lo hi lo' hi' : Nat) (v v' : Value) (ss ss' : List StmtD), sizeL ss ≤ n → SR w lo hi v ss → SR w lo' hi' v' ss' → hi ≤ w.heap.size → hi' ≤ w.heap.size →
  Calls Tryz.prog 8 #[v, v'] w fun e w' => ∃ r : Bool, e = .returned (.bool r) ∧ (r = true ↔ ss = ss') ∧ Below w.heap.size w w'

set_option maxRecDepth 100000 in
set_option maxHeartbeats 4000000 in
theorem eqStmt_of {n : Nat} (H : ∀ m, m < n → EqT m) (w : World) (lo hi lo' hi' : Nat) (x y : StmtD) (x1 x2 x3 y1 y2 y3 : Value) (hn : sizeL x.th < n ∧ sizeL x.el < n)
    (hx1 : KR w lo hi x1 x.e.kids) (hx2 : SR w lo hi x2 x.th) (hx3 : SR w lo hi x3 x.el) (hy1 : KR w lo' hi' y1 y.e.kids) (hy2 : SR w lo' hi' y2 y.th) (hy3 : SR w lo' hi' y3 y.el) (hhi : hi ≤ w.heap.size) (hhi' : hi' ≤ w.heap.size) :
    Calls Tryz.prog 18 #[stmtV x x1 x2 x3, stmtV y y1 y2 y3] w fun e w' => ∃ r : Bool, e = .returned (.bool r) ∧ (r = true ↔ x = y) ∧ Below w.heap.size w w' := by
  have b2 := fun o o' => ((Below.refl w.heap.size w).alloc (Nat.le_refl _) o).alloc (by simp) o'
  have HX : Hid (x = y ↔ x.k = y.k ∧ (x.tk = y.tk ∧ x.ta = y.ta) ∧ x.e = y.e ∧ x.th = y.th ∧ x.el = y.el) := stmtD_eq
  have HK : Hid (KR w lo hi x1 x.e.kids ∧ SR w lo hi x2 x.th ∧ SR w lo hi x3 x.el) := ⟨hx1, hx2, hx3⟩
  have HK' : Hid (KR w lo' hi' y1 y.e.kids ∧ SR w lo' hi' y2 y.th ∧ SR w lo' hi' y3 y.el) := ⟨hy1, hy2, hy3⟩
  obtain ⟨a1x, c1x, rfl, _, _⟩ := hx1.shape
  obtain ⟨a2x, c2x, rfl, _, _⟩ := hx2.shape
  obtain ⟨a3x, c3x, rfl, _, _⟩ := hx3.shape
  obtain ⟨a1y, c1y, rfl, _, _⟩ := hy1.shape
  obtain ⟨a2y, c2y, rfl, _, _⟩ := hy2.shape
  obtain ⟨a3y, c3y, rfl, _, _⟩ := hy3.shape
  clear hx1 hx2 hx3 hy1 hy2 hy3
  unfold stmtV
  by_cases q1 : x.k = y.k
  · have q1' : (x.k != y.k) = false := by simp [q1]
    have Q1 : Hid (x.k = y.k) := q1
    clear q1
    go_enter Tryz.func18, Tryz.ntmps18
    go_wp2_with fail
    obtain ⟨u0, hu0, G0, A0, B0, S0⟩ : ∃ u0, (w.alloc (.cells #[.int .i64 x.k, .int .i64 x.tk, .int .i64 x.ta, .int .i64 x.e.k, .int .i64 x.e.n, .int .i64 x.e.ak, .int .i64 x.e.at_, .slice a1x x.e.kids.length c1x, .slice a2x x.th.length c2x, .slice a3x x.el.length c3x] 44)).alloc (.cells #[.int .i64 y.k, .int .i64 y.tk, .int .i64 y.ta, .int .i64 y.e.k, .int .i64 y.e.n, .int .i64 y.e.ak, .int .i64 y.e.at_, .slice a1y y.e.kids.length c1y, .slice a2y y.th.length c2y, .slice a3y y.el.length c3y] 44) = u0 ∧ Below w.heap.size w u0 ∧ TenW u0 w.heap.size (.int .i64 x.k) (.int .i64 x.tk) (.int .i64 x.ta) (.int .i64 x.e.k) (.int .i64 x.e.n) (.int .i64 x.e.ak) (.int .i64 x.e.at_) (.slice a1x x.e.kids.length c1x) (.slice a2x x.th.length c2x) (.slice a3x x.el.length c3x) ∧ TenW u0 (w.heap.size + 1) (.int .i64 y.k) (.int .i64 y.tk) (.int .i64 y.ta) (.int .i64 y.e.k) (.int .i64 y.e.n) (.int .i64 y.e.ak) (.int .i64 y.e.at_) (.slice a1y y.e.kids.length c1y) (.slice a2y y.th.length c2y) (.slice a3y y.el.length c3y) ∧ u0.heap.size = w.heap.size + 2 := by
      refine ⟨_, rfl, b2 _ _, (tenW_new w (.int .i64 x.k) (.int .i64 x.tk) (.int .i64 x.ta) (.int .i64 x.e.k) (.int .i64 x.e.n) (.int .i64 x.e.ak) (.int .i64 x.e.at_) (.slice a1x x.e.kids.length c1x) (.slice a2x x.th.length c2x) (.slice a3x x.el.length c3x) 44).under ((Below.refl _ _).alloc (Nat.le_refl _) _) (by simp), ?_, by simp⟩
      have h1 := tenW_new (w.alloc (.cells #[.int .i64 x.k, .int .i64 x.tk, .int .i64 x.ta, .int .i64 x.e.k, .int .i64 x.e.n, .int .i64 x.e.ak, .int .i64 x.e.at_, .slice a1x x.e.kids.length c1x, .slice a2x x.th.length c2x, .slice a3x x.el.length c3x] 44)) (.int .i64 y.k) (.int .i64 y.tk) (.int .i64 y.ta) (.int .i64 y.e.k) (.int .i64 y.e.n) (.int .i64 y.e.ak) (.int .i64 y.e.at_) (.slice a1y y.e.kids.length c1y) (.slice a2y y.th.length c2y) (.slice a3y y.el.length c3y) 44
      simp only [World.size_alloc] at h1
      exact h1
    rw [hu0]
    clear hu0
    refine (eqAddr_any _ ⟨x.tk, x.ta⟩ ⟨y.tk, y.ta⟩).mono ?_
    by_cases q3 : (⟨x.tk, x.ta⟩ : AddrD) = ⟨y.tk, y.ta⟩
    · rw [decide_eq_true q3]
      rintro e1 u1 ⟨rfl, g1⟩
      have S1 := g1.size
      have G1 := G0.trans (g1.mono (by omega))
      have A1 := A0.under g1 (by omega)
      have B1 := B0.under g1 (by omega)
      have Q3 : Hid (x.tk = y.tk ∧ x.ta = y.ta) := by simp at q3; exact q3
      have HA1 : Hid (TenW u1 w.heap.size (.int .i64 x.k) (.int .i64 x.tk) (.int .i64 x.ta) (.int .i64 x.e.k) (.int .i64 x.e.n) (.int .i64 x.e.ak) (.int .i64 x.e.at_) (.slice a1x x.e.kids.length c1x) (.slice a2x x.th.length c2x) (.slice a3x x.el.length c3x)) := A1
      have HB1 : Hid (TenW u1 (w.heap.size + 1) (.int .i64 y.k) (.int .i64 y.tk) (.int .i64 y.ta) (.int .i64 y.e.k) (.int .i64 y.e.n) (.int .i64 y.e.ak) (.int .i64 y.e.at_) (.slice a1y y.e.kids.length c1y) (.slice a2y y.th.length c2y) (.slice a3y y.el.length c3y)) := B1
      obtain ⟨c0, c1, c2, c3, c4, c5, c6, c7, c8, c9, _⟩ := id A1
      obtain ⟨d0, d1, d2, d3, d4, d5, d6, d7, d8, d9, _⟩ := id B1
      clear g1 G0 q3 A0 B0 A1 B1
      go_wp2_with fail
      refine (eqExpr_any _ lo hi lo' hi' _ _ x.e y.e ⟨_, rfl, HK.out.1.under G1 hhi⟩ ⟨_, rfl, HK'.out.1.under G1 hhi'⟩ (by omega) (by omega)).mono ?_
      clear c0 c1 c2 c3 c4 c5 c6 c7 c8 c9 d0 d1 d2 d3 d4 d5 d6 d7 d8 d9
      rintro e2 u2 ⟨r2, rfl, hr2, g2⟩
      have S2 := g2.size
      have G2 := G1.trans (g2.mono (by omega))
      have HR2 : Hid (r2 = true ↔ x.e = y.e) := hr2
      have HA2 : Hid (TenW u2 w.heap.size (.int .i64 x.k) (.int .i64 x.tk) (.int .i64 x.ta) (.int .i64 x.e.k) (.int .i64 x.e.n) (.int .i64 x.e.ak) (.int .i64 x.e.at_) (.slice a1x x.e.kids.length c1x) (.slice a2x x.th.length c2x) (.slice a3x x.el.length c3x)) := HA1.out.under g2 (by omega)
      have HB2 : Hid (TenW u2 (w.heap.size + 1) (.int .i64 y.k) (.int .i64 y.tk) (.int .i64 y.ta) (.int .i64 y.e.k) (.int .i64 y.e.n) (.int .i64 y.e.ak) (.int .i64 y.e.at_) (.slice a1y y.e.kids.length c1y) (.slice a2y y.th.length c2y) (.slice a3y y.el.length c3y)) := HB1.out.under g2 (by omega)
      clear g2 hr2 G1 HA1 HB1
      cases r2 with
      | false =>
        have HF : Hid (false = true ↔ x = y) := by show _ ↔ _; rw [HX.out]; constructor; (intro h; cases h); intro h; exact HR2.out.2 h.2.2.1
        clear HA2 HB2
        go_wp2
        go_ret
        exact ⟨false, rfl, HF.out, G2⟩
      | true =>
        have c8 := HA2.out.c8
        have d8 := HB2.out.c8
        go_wp2_with fail
        refine (H _ hn.1 _ lo hi lo' hi' _ _ x.th y.th (Nat.le_refl _) (HK.out.2.1.under G2 hhi) (HK'.out.2.1.under G2 hhi') (by omega) (by omega)).mono ?_
        rintro e3 u3 ⟨r3, rfl, hr3, g3⟩
        have S3 := g3.size
        have G3 := G2.trans (g3.mono (by omega))
        have HR3 : Hid (r3 = true ↔ x.th = y.th) := hr3
        have HA3 : Hid (TenW u3 w.heap.size (.int .i64 x.k) (.int .i64 x.tk) (.int .i64 x.ta) (.int .i64 x.e.k) (.int .i64 x.e.n) (.int .i64 x.e.ak) (.int .i64 x.e.at_) (.slice a1x x.e.kids.length c1x) (.slice a2x x.th.length c2x) (.slice a3x x.el.length c3x)) := HA2.out.under g3 (by omega)
        have HB3 : Hid (TenW u3 (w.heap.size + 1) (.int .i64 y.k) (.int .i64 y.tk) (.int .i64 y.ta) (.int .i64 y.e.k) (.int .i64 y.e.n) (.int .i64 y.e.ak) (.int .i64 y.e.at_) (.slice a1y y.e.kids.length c1y) (.slice a2y y.th.length c2y) (.slice a3y y.el.length c3y)) := HB2.out.under g3 (by omega)
        clear g3 hr3 G2 HA2 HB2 c8 d8
        cases r3 with
        | false =>
          have HF : Hid (false = true ↔ x = y) := by show _ ↔ _; rw [HX.out]; constructor; (intro h; cases h); intro h; exact HR3.out.2 h.2.2.2.1
          clear HA3 HB3
          go_wp2
          go_ret
          exact ⟨false, rfl, HF.out, G3⟩
        | true =>
          have c9 := HA3.out.c9
          have d9 := HB3.out.c9
          go_wp2_with fail
          refine (H _ hn.2 _ lo hi lo' hi' _ _ x.el y.el (Nat.le_refl _) (HK.out.2.2.under G3 hhi) (HK'.out.2.2.under G3 hhi') (by omega) (by omega)).mono ?_
          rintro e4 u4 ⟨r4, rfl, hr4, g4⟩
          have G4 := G3.trans (g4.mono (by omega))
          have HF : Hid (r4 = true ↔ x = y) := by
            show _ ↔ _
            rw [HX.out, hr4]
            exact ⟨fun h => ⟨Q1.out, Q3.out, HR2.out.1 (by first | rfl | trivial), HR3.out.1 (by first | rfl | trivial), h⟩, fun h => h.2.2.2.2⟩
          clear g4 hr4 G3 HA3 HB3 c9 d9
          cases r4 with
          | false =>
            go_wp2
            go_ret
            exact ⟨false, rfl, HF.out, G4⟩
          | true =>
            go_wp2
            go_ret
            exact ⟨true, rfl, by simpa using HF.out, G4⟩
    · rw [decide_eq_false q3]
      rintro e1 u1 ⟨rfl, g1⟩
      have G1 := G0.trans (g1.mono (by omega))
      have HF : Hid (false = true ↔ x = y) := by show _ ↔ _; rw [HX.out]; constructor; (intro h; cases h); intro h; exact absurd (by rw [h.2.1.1, h.2.1.2]) q3
      clear g1 G0 q3 A0 B0
      go_wp2
      go_ret
      exact ⟨false, rfl, HF.out, G1⟩
  · have q1' : (x.k != y.k) = true := by simp [q1]
    have HF : Hid (false = true ↔ x = y) := by show _ ↔ _; rw [HX.out]; constructor; (intro h; cases h); intro h; exact absurd h.1 q1
    clear q1
    go_enter Tryz.func18, Tryz.ntmps18
    go_wp2
    go_ret
    exact ⟨false, rfl, HF.out, b2 _ _⟩

theorem take_succ_eqT {xs ys : List StmtD} {j : Nat} {x y : StmtD} (h : xs.take j = ys.take j) (hx : xs[j]? = some x) (hy : ys[j]? = some y) (e : x = y) : xs.take (j + 1) = ys.take (j + 1) := by
  rw [List.take_add_one, List.take_add_one, h, hx, hy, e]

theorem ne_at_stmt {xs ys : List StmtD} {j : Nat} {x y : StmtD} (hx : xs[j]? = some x) (hy : ys[j]? = some y) (e : x ≠ y) : xs ≠ ys := by
  intro h; rw [h, hy] at hx; exact e (Option.some.inj hx).symm

set_option maxRecDepth 100000 in
set_option maxHeartbeats 8000000 in
theorem eqStmtS_step {n : Nat} (H : ∀ m, m < n → EqT m) : EqT n := by
  intro w lo hi lo' hi' v v' ss ss' hn h h' hhi hhi'
  obtain ⟨ad, cap, rfl, hc1, hc2⟩ := h.shape
  obtain ⟨ad', cap', rfl, hd1, hd2⟩ := h'.shape
  have hmx : ss.length ≤ 9223372036854775807 := by unfold maxLen at hc2; omega
  have hmx' : ss'.length ≤ 9223372036854775807 := by unfold maxLen at hd2; omega
  have HK : Hid (SR w lo hi (.slice ad ss.length cap) ss) := h
  have HK' : Hid (SR w lo' hi' (.slice ad' ss'.length cap') ss') := h'
  clear h h' hc1 hc2 hd1 hd2
  by_cases hl : ss.length = ss'.length
  · have hl2 : ((ss.length : Int) != (ss'.length : Int)) = false := by simp; omega
    have HL : Hid (ss.length = ss'.length) := hl
    clear hl
    go_enter Tryz.func8, Tryz.ntmps8
    go_wp2_with fail
    go_loopw [5] (fun i wr => ∃ j : Nat, j ≤ ss.length ∧ i = .int .i64 j ∧ Below w.heap.size w wr ∧ ss.take j = ss'.take j) (fun i _ => ss.length - (intOf i).toNat)
    case atStart => exact ⟨0, Nat.zero_le _, rfl, Below.refl _ _, rfl⟩
    case round =>
      obtain ⟨j, hj, rfl, hb, ht⟩ := hrel
      have HT : Hid (ss.take j = ss'.take j) := ht
      clear ht
      by_cases hlt : j < ss.length
      · obtain ⟨x, hx⟩ : ∃ x, ss[j]? = some x := ⟨ss[j], List.getElem?_eq_getElem hlt⟩
        have hlt' : j < ss'.length := by rw [← HL.out]; exact hlt
        obtain ⟨y, hy⟩ : ∃ y, ss'[j]? = some y := ⟨ss'[j]'hlt', List.getElem?_eq_getElem hlt'⟩
        obtain ⟨b, off, cap1, x1, x2, x3, hv, hb1, hb2, h5, hk1, hk2, hk3⟩ := HK.out.at_ hx
        obtain ⟨b', off', cap1', y1, y2, y3, hv', hb1', hb2', h5', hl1, hl2', hl3⟩ := HK'.out.at_ hy
        simp only [Value.slice.injEq, true_and] at hv hv'
        obtain ⟨rfl, rfl⟩ := hv
        obtain ⟨rfl, rfl⟩ := hv'
        have hkl := stmt_lt hx
        have hsz := hb.size
        have HXY : Hid (ss[j]? = some x ∧ ss'[j]? = some y) := ⟨hx, hy⟩
        clear hx hy
        obtain ⟨a1x, c1x, rfl, _, _⟩ := hk1.shape
        obtain ⟨a2x, c2x, rfl, _, _⟩ := hk2.shape
        obtain ⟨a3x, c3x, rfl, _, _⟩ := hk3.shape
        obtain ⟨a1y, c1y, rfl, _, _⟩ := hl1.shape
        obtain ⟨a2y, c2y, rfl, _, _⟩ := hl2'.shape
        obtain ⟨a3y, c3y, rfl, _, _⟩ := hl3.shape
        go_wp2_with fail
        refine wp_region_dag (R := Grow) (Φ := fun i v u => match i with
            | 0 => v = .slice (some ⟨b, off, none⟩) ss.length cap
            | 1 => v = .int .i64 j
            | 2 => v = .pointer (some ⟨b, off + j * 10, none⟩)
            | 3 => v = .agg #[.int .i64 x.k, .int .i64 x.tk, .int .i64 x.ta, .int .i64 x.e.k, .int .i64 x.e.n, .int .i64 x.e.ak, .int .i64 x.e.at_, .slice a1x x.e.kids.length c1x, .slice a2x x.th.length c2x, .slice a3x x.el.length c3x]
            | 4 => v = .slice (some ⟨b', off', none⟩) ss'.length cap'
            | 5 => v = .int .i64 j
            | 6 => v = .pointer (some ⟨b', off' + j * 10, none⟩)
            | 7 => v = .agg #[.int .i64 y.k, .int .i64 y.tk, .int .i64 y.ta, .int .i64 y.e.k, .int .i64 y.e.n, .int .i64 y.e.ak, .int .i64 y.e.at_, .slice a1y y.e.kids.length c1y, .slice a2y y.th.length c2y, .slice a3y y.el.length c3y]
            | 8 => ∃ r : Bool, v = .bool r ∧ (r = true ↔ x = y)
            | 9 => ∃ r : Bool, v = .bool (!r) ∧ (r = true ↔ x = y)
            | _ => True) (by kernel_rfl) (by kernel_rfl) (by kernel_rfl) (Below.refl _ _) grow_trans ?_ ?_ ?_
        · intro i v u u' hr
          match i with
          | 0 | 1 | 2 | 3 | 4 | 5 | 6 | 7 | 8 | 9 | _ + 10 => exact fun h => h
        · intro i o ho a u hf hR0 he K' hK
          have hR : Grow wr u := (Below.drew (Below.refl _ _)).trans hR0
          have hRw : Below w.heap.size w u := hb.trans (hR.mono hsz)
          have hsz' : a.tmps.size = 27 := hf.size
          have hus : wr.heap.size ≤ u.heap.size := hR.size
          have putat : ∀ (t : Nat) (v : Value), t < a.tmps.size → (a.put (some t) v).tmps.getD t undef = v := fun t v ht => by
            show (a.tmps.setIfInBounds t v).getD t undef = v
            simp [ht]
          rcases i with _ | _ | _ | _ | _ | _ | _ | _ | _ | _ | i
          · obtain rfl := Option.some.inj ho
            have f1 : a.tmps.getD 0 undef = .slice (some ⟨b, off, none⟩) ss.length cap := hf.at_ 0 (by kernel_rfl)
            clear he
            go_simp
            exact hK _ _ (Below.refl _ _) (putat 17 _ (by omega))
          · obtain rfl := Option.some.inj ho
            have f1 : a.tmps.getD 5 undef = .int .i64 j := hf.at_ 5 (by kernel_rfl)
            clear he
            go_simp
            exact hK _ _ (Below.refl _ _) (putat 18 _ (by omega))
          · obtain rfl := Option.some.inj ho
            have f1 : a.tmps.getD 17 undef = .slice (some ⟨b, off, none⟩) ss.length cap := he _ (Array.mem_of_getElem? (i := 0) rfl) (by kernel_rfl) _ rfl
            have f2 : a.tmps.getD 18 undef = .int .i64 j := he _ (Array.mem_of_getElem? (i := 1) rfl) (by kernel_rfl) _ rfl
            clear he
            go_simp
            exact hK _ _ (Below.refl _ _) (putat 19 _ (by omega))
          · obtain rfl := Option.some.inj ho
            have f1 : a.tmps.getD 19 undef = .pointer (some ⟨b, off + j * 10, none⟩) := he _ (Array.mem_of_getElem? (i := 0) rfl) (by kernel_rfl) _ rfl
            obtain ⟨c0, c1, c2, c3, c4, c5, c6, c7, c8, c9⟩ := h5.kept (hRw.block b (by omega))
            clear he
            go_simp
            exact hK _ _ (Below.refl _ _) (putat 20 _ (by omega))
          · obtain rfl := Option.some.inj ho
            have f1 : a.tmps.getD 1 undef = .slice (some ⟨b', off', none⟩) ss'.length cap' := hf.at_ 1 (by kernel_rfl)
            clear he
            go_simp
            exact hK _ _ (Below.refl _ _) (putat 21 _ (by omega))
          · obtain rfl := Option.some.inj ho
            have f1 : a.tmps.getD 5 undef = .int .i64 j := hf.at_ 5 (by kernel_rfl)
            clear he
            go_simp
            exact hK _ _ (Below.refl _ _) (putat 22 _ (by omega))
          · obtain rfl := Option.some.inj ho
            have f1 : a.tmps.getD 21 undef = .slice (some ⟨b', off', none⟩) ss'.length cap' := he _ (Array.mem_of_getElem? (i := 0) rfl) (by kernel_rfl) _ rfl
            have f2 : a.tmps.getD 22 undef = .int .i64 j := he _ (Array.mem_of_getElem? (i := 1) rfl) (by kernel_rfl) _ rfl
            clear he
            go_simp
            exact hK _ _ (Below.refl _ _) (putat 23 _ (by omega))
          · obtain rfl := Option.some.inj ho
            have f1 : a.tmps.getD 23 undef = .pointer (some ⟨b', off' + j * 10, none⟩) := he _ (Array.mem_of_getElem? (i := 0) rfl) (by kernel_rfl) _ rfl
            obtain ⟨c0, c1, c2, c3, c4, c5, c6, c7, c8, c9⟩ := h5'.kept (hRw.block b' (by omega))
            clear he
            go_simp
            exact hK _ _ (Below.refl _ _) (putat 24 _ (by omega))
          · obtain rfl := Option.some.inj ho
            have f1 : a.tmps.getD 20 undef = .agg #[.int .i64 x.k, .int .i64 x.tk, .int .i64 x.ta, .int .i64 x.e.k, .int .i64 x.e.n, .int .i64 x.e.ak, .int .i64 x.e.at_, .slice a1x x.e.kids.length c1x, .slice a2x x.th.length c2x, .slice a3x x.el.length c3x] := he _ (Array.mem_of_getElem? (i := 0) rfl) (by kernel_rfl) _ rfl
            have f2 : a.tmps.getD 24 undef = .agg #[.int .i64 y.k, .int .i64 y.tk, .int .i64 y.ta, .int .i64 y.e.k, .int .i64 y.e.n, .int .i64 y.e.ak, .int .i64 y.e.at_, .slice a1y y.e.kids.length c1y, .slice a2y y.th.length c2y, .slice a3y y.el.length c3y] := he _ (Array.mem_of_getElem? (i := 1) rfl) (by kernel_rfl) _ rfl
            clear he
            go_simp
            refine (eqStmt_of (n := n) H u lo hi lo' hi' x y _ _ _ _ _ _ (by omega) (hk1.under hRw hhi) (hk2.under hRw hhi) (hk3.under hRw hhi) (hl1.under hRw hhi') (hl2'.under hRw hhi') (hl3.under hRw hhi') (by omega) (by omega)).mono ?_
            rintro e u' ⟨r, rfl, hr, hbu⟩
            exact hK _ _ hbu ⟨r, putat 25 _ (by omega), hr⟩
          · obtain rfl := Option.some.inj ho
            obtain ⟨r, f1, hr⟩ := he _ (Array.mem_of_getElem? (i := 0) rfl) (by kernel_rfl) _ rfl
            have f1 : a.tmps.getD 25 undef = .bool r := f1
            clear he
            go_simp
            exact hK _ _ (Below.refl _ _) ⟨r, putat 26 _ (by omega), hr⟩
          · exact absurd ho (by simp)
        · intro a u hf hR0 hp
          have hR : Grow wr u := (Below.drew (Below.refl _ _)).trans hR0
          have hRw : Below w.heap.size w u := hb.trans (hR.mono hsz)
          have md : a.defers = [] := hf.defers
          obtain ⟨r, m26, hr⟩ := hp 9 _ rfl
          have m26 : a.tmps.getD 26 undef = .bool (!r) := m26
          have m0 : a.tmps.getD 0 undef = .slice (some ⟨b, off, none⟩) ss.length cap := hf.at_ 0 (by kernel_rfl)
          have m1 : a.tmps.getD 1 undef = .slice (some ⟨b', off', none⟩) ss'.length cap' := hf.at_ 1 (by kernel_rfl)
          have m5 : a.tmps.getD 5 undef = .int .i64 j := hf.at_ 5 (by kernel_rfl)
          have m2 : a.tmps.getD 2 undef = undef := hf.at_ 2 (by kernel_rfl)
          have m3 : a.tmps.getD 3 undef = undef := hf.at_ 3 (by kernel_rfl)
          have m6 : a.tmps.getD 6 undef = .slice (some ⟨b, off, none⟩) ss.length cap := hf.at_ 6 (by kernel_rfl)
          have m7 : a.tmps.getD 7 undef = .int .i64 ss.length := hf.at_ 7 (by kernel_rfl)
          have m8 : a.tmps.getD 8 undef = .slice (some ⟨b', off', none⟩) ss'.length cap' := hf.at_ 8 (by kernel_rfl)
          have m9 : a.tmps.getD 9 undef = .int .i64 ss'.length := hf.at_ 9 (by kernel_rfl)
          have m10 : a.tmps.getD 10 undef = .bool false := hf.at_ 10 (by kernel_rfl)
          obtain ⟨f, ea, hfv⟩ := act_lit a 27 hf.size
          rw [← hfv] at m0 m1 m2 m3 m5 m6 m7 m8 m9 m10 m26
          rw [md] at ea
          cases r with
          | true =>
            simp only [List.range, List.range.loop, List.map_cons, List.map_nil, m0, m1, m2, m3, m5, m6, m7, m8, m9, m10, m26, Bool.not_true] at ea
            subst ea
            have HN : Hid (ss.take (j + 1) = ss'.take (j + 1)) := take_succ_eqT HT.out HXY.out.1 HXY.out.2 (hr.mp rfl)
            clear hfv hf hp hR0 hR md hr h5 h5' hk1 hk2 hk3 hl1 hl2' hl3
            go_wp2
            go_roundw
            case rel => exact ⟨j + 1, by omega, by go_num, hRw, HN.out⟩
            case measure => simp [intOf]; omega
          | false =>
            simp only [List.range, List.range.loop, List.map_cons, List.map_nil, m0, m1, m2, m3, m5, m6, m7, m8, m9, m10, m26, Bool.not_false] at ea
            subst ea
            have HN : Hid (ss ≠ ss') := ne_at_stmt HXY.out.1 HXY.out.2 fun h => by have := hr.mpr h; cases this
            clear hfv hf hp hR0 hR md hr h5 h5' hk1 hk2 hk3 hl1 hl2' hl3
            go_wp2
            go_ret
            exact ⟨false, rfl, by simp [HN.out], hRw⟩
      · have hje : j = ss.length := by omega
        subst hje
        have he : ss = ss' := by have := HT.out; rwa [List.take_length, HL.out, List.take_length] at this
        have HE : Hid (ss = ss') := he
        clear he
        go_wp2
        go_ret
        exact ⟨true, rfl, by simp [HE.out], hb⟩
  · have hl2 : ((ss.length : Int) != (ss'.length : Int)) = true := by simp; omega
    have HE : Hid (ss ≠ ss') := fun h => hl (by rw [h])
    go_enter Tryz.func8, Tryz.ntmps8
    go_wp2
    go_ret
    exact ⟨false, rfl, by simp [HE.out], Below.refl _ _⟩

theorem eqT (n : Nat) : EqT n := by
  induction n using Nat.strongRecOn with
  | ind n ih => exact eqStmtS_step ih

theorem eqStmtS_any (w : World) (lo hi lo' hi' : Nat) (v v' : Value) (x y : List StmtD) (h : SR w lo hi v x) (h' : SR w lo' hi' v' y) (hhi : hi ≤ w.heap.size) (hhi' : hi' ≤ w.heap.size) :
    Calls Tryz.prog 8 #[v, v'] w fun e w' => ∃ r : Bool, e = .returned (.bool r) ∧ (r = true ↔ x = y) ∧ Below w.heap.size w w' :=
  eqT _ w lo hi lo' hi' v v' x y (Nat.le_refl _) h h' hhi hhi'
end Go.Proofs.YtkeockippmmneaaGreat
