/-
  Chapter 10's model: two parts made shorter (l10Two). (Written by our generator gen_slimt.py.)
-/
import Derived.Test.YtkeockippmmneaaGreatSlimR
import Derived.Test.YtkeockippmmneaaGreatExprAlike
namespace Go.Proofs.YtkeockippmmneaaGreat
open Go.ChangeShapes Go.WideShapes Go.ChangeAt Go.RowKit
set_option linter.unusedVariables false
set_option maxRecDepth 100000
set_option linter.unusedSimpArgs false

theorem sNum10_any (w : World) (n : Int) :
    Calls Tryz.prog 40 #[.int .i64 n] w fun en w' => en = .returned (.agg #[.int .i64 1, .int .i64 n, .int .i64 0, .int .i64 0, .slice none 0 0]) ∧ Below w.heap.size w w' := by
  have b1 := fun o => (Below.refl w.heap.size w).alloc (Nat.le_refl _) o
  go_enter Tryz.func40, Tryz.ntmps40
  go_wp2
  refine bodyPost_ret (v := .agg #[.int .i64 1, .int .i64 n, .int .i64 0, .int .i64 0, .slice none 0 0]) ?_ rfl ⟨rfl, b1 _⟩
  simp [results, Tryz.results40, go_sem]

theorem sIs10_any (w : World) (e : ExprD) (ad : Option Go.Addr) (len cap : Nat) (n : Int) :
    Calls Tryz.prog 27 #[.agg #[.int .i64 e.k, .int .i64 e.n, .int .i64 e.ak, .int .i64 e.at_, .slice ad len cap], .int .i64 n] w fun en w' => en = .returned (.bool (isTheB e n)) ∧ Below w.heap.size w w' := by
  have b1 := fun o => (Below.refl w.heap.size w).alloc (Nat.le_refl _) o
  have HR : Hid (isTheB e n = ((e.k == 1) && (e.n == n))) := rfl
  cases hk : (e.k == 1) with
  | false =>
    rw [hk] at HR
    go_enter Tryz.func27, Tryz.ntmps27
    go_wp2
    go_ret
    exact ⟨ret_bool (by rw [HR.out]; rfl), b1 _⟩
  | true =>
    rw [hk] at HR
    cases hn : (e.n == n) with
    | false =>
      rw [hn] at HR
      go_enter Tryz.func27, Tryz.ntmps27
      go_wp2
      go_ret
      exact ⟨ret_bool (by rw [HR.out]; rfl), b1 _⟩
    | true =>
      rw [hn] at HR
      go_enter Tryz.func27, Tryz.ntmps27
      go_wp2
      go_ret
      exact ⟨ret_bool (by rw [HR.out]; rfl), b1 _⟩

theorem sAlike_bool (w : World) (lo hi lo' hi' : Nat) (va vb : Value) (a b : ExprD) (ha : ER w lo hi va a) (hb : ER w lo' hi' vb b) (hhi : hi ≤ w.heap.size) (hhi' : hi' ≤ w.heap.size) :
    Calls Tryz.prog 59 #[va, vb] w fun e w' => e = .returned (.bool (sameE a b)) ∧ Below w.heap.size w w' :=
  (sExprAlike_any w lo hi lo' hi' va vb a b ha hb hhi hhi').mono fun e w' h => by
    obtain ⟨r, he, hr, hb⟩ := h
    have : r = sameE a b := Bool.eq_iff_iff.mpr (hr.trans (sameE_iff a b).symm)
    subst this
    exact ⟨he, hb⟩

/-- What l10Two leaves. -/
def TwoQ (w : World) (lo hi : Nat) (x : ExprD) (en : Ending) (w' : World) : Prop := ∃ v', en = .returned v' ∧ EO w' lo hi v' x ∧ Below w.heap.size w w'

theorem twoQ_done {w w' : World} {lo hi : Nat} {x y : ExprD} {en : Ending} {v' : Value} (h1 : en = .returned v') (h2 : EO w' lo hi v' y) (h3 : Below w.heap.size w w') (h4 : x = y) : TwoQ w lo hi x en w' := ⟨v', h1, by rw [h4]; exact h2, h3⟩

/-- What the rules of two come to, by a kind. -/
theorem short_two {e x y : ExprD} (h39 : 3 ≤ e.k ∧ e.k ≤ 9) (h0 : kidN e 0 = x) (h1 : kidN e 1 = y) : shortD e =
    if (x.k == 1) && (y.k == 1) then numE (twoZ e.k x.n y.n)
    else if (((e.k == 3) && isTheB y 0) || ((e.k == 4) && isTheB y 0)) || ((e.k == 5) && isTheB y 1) then x
    else if ((e.k == 3) && isTheB x 0) || ((e.k == 5) && isTheB x 1) then y
    else if ((e.k == 5) && (isTheB x 0 || isTheB y 0)) || ((e.k == 8) && (isTheB x 0 || isTheB y 0)) then numE 0
    else if (e.k == 7) && sameE x y then numE 1
    else if ((e.k == 6) || (e.k == 4)) && sameE x y then numE 0 else e := by
  have r0 : ruleD 0 e = none := by simp only [ruleD]; rw [if_neg (by omega)]
  unfold shortD
  rw [r0]
  simp only [ruleD, h0, h1]
  obtain hk | hk | hk | hk | hk | hk | hk : e.k = 3 ∨ e.k = 4 ∨ e.k = 5 ∨ e.k = 6 ∨ e.k = 7 ∨ e.k = 8 ∨ e.k = 9 := by omega
  all_goals
    by_cases hx : x.k = 1
    all_goals by_cases hy : y.k = 1
    all_goals cases hx0 : isTheB x 0
    all_goals cases hx1 : isTheB x 1
    all_goals cases hy0 : isTheB y 0
    all_goals cases hy1 : isTheB y 1
    all_goals cases hs : sameE x y
    all_goals simp [hk, hx, hy]

/-- Between the cases of l10Two. -/
structure TwoV (w : World) (lo hi : Nat) (e x y : ExprD) (b off cap : Nat) (ax ay : Option Go.Addr) (cx cy lx hx ly hy : Nat) (u : World) : Prop where
  te : Five u w.heap.size (.int .i64 e.k) (.int .i64 e.n) (.int .i64 e.ak) (.int .i64 e.at_) (.slice (some ⟨b, off, none⟩) 2 cap)
  tr : Five u (w.heap.size + 1) (.int .i64 0) (.int .i64 0) (.int .i64 0) (.int .i64 0) (.slice none 0 0)
  tx : Five u (w.heap.size + 1 + 1) (.int .i64 x.k) (.int .i64 x.n) (.int .i64 x.ak) (.int .i64 x.at_) (.slice ax x.kids.length cx)
  ty : Five u (w.heap.size + 1 + 1 + 1) (.int .i64 y.k) (.int .i64 y.n) (.int .i64 y.ak) (.int .i64 y.at_) (.slice ay y.kids.length cy)
  ko : KO u lo hi (.slice (some ⟨b, off, none⟩) 2 cap) e.kids
  kx : KO u lx hx (.slice ax x.kids.length cx) x.kids
  ky : KO u ly hy (.slice ay y.kids.length cy) y.kids
  low : Below w.heap.size w u
  size : w.heap.size + 4 ≤ u.heap.size

theorem TwoV.below {w : World} {lo hi : Nat} {e x y : ExprD} {b off cap : Nat} {ax ay : Option Go.Addr} {cx cy lx hx ly hy : Nat} {u u' : World} (h : TwoV w lo hi e x y b off cap ax ay cx cy lx hx ly hy u) (g : Below u.heap.size u u') (h1 : hi ≤ w.heap.size) (h2 : hx ≤ w.heap.size) (h3 : hy ≤ w.heap.size) : TwoV w lo hi e x y b off cap ax ay cx cy lx hx ly hy u' := by
  have hs := h.size
  exact ⟨h.te.under g (by omega), h.tr.under g (by omega), h.tx.under g (by omega), h.ty.under g (by omega), h.ko.under g (by omega), h.kx.under g (by omega), h.ky.under g (by omega), h.low.trans (g.mono (by omega)), Nat.le_trans hs g.size⟩

set_option maxHeartbeats 16000000 in
theorem l10Two_any (w : World) (lo hi d : Nat) (s : Value) (e : ExprD) (ho : KO w lo hi s e.kids) (hhi : hi ≤ w.heap.size) (hfm : formE (d + 1) e = true) (h39 : 3 ≤ e.k ∧ e.k ≤ 9) :
    Calls Tryz.prog 42 #[.agg #[.int .i64 e.k, .int .i64 e.n, .int .i64 e.ak, .int .i64 e.at_, s]] w (TwoQ w lo hi (shortD e)) := by
  obtain ⟨x, y, hkids, hk0, hk1⟩ := slim_two hfm h39
  have HS : Hid (shortD e = if (x.k == 1) && (y.k == 1) then numE (twoZ e.k x.n y.n)
    else if (((e.k == 3) && isTheB y 0) || ((e.k == 4) && isTheB y 0)) || ((e.k == 5) && isTheB y 1) then x
    else if ((e.k == 3) && isTheB x 0) || ((e.k == 5) && isTheB x 1) then y
    else if ((e.k == 5) && (isTheB x 0 || isTheB y 0)) || ((e.k == 8) && (isTheB x 0 || isTheB y 0)) then numE 0
    else if (e.k == 7) && sameE x y then numE 1
    else if ((e.k == 6) || (e.k == 4)) && sameE x y then numE 0 else e) := short_two h39 hk0 hk1
  obtain ⟨b, off, cap, sx, sy, lx, hx, ly, hy, rfl, hb1, hb2, h5, h5y, kx, ky, ix, iy⟩ := cells_two ho hkids
  obtain ⟨ax, cx, rfl, _, _⟩ := kx.kr.shape
  obtain ⟨ay, cy, rfl, _, _⟩ := ky.kr.shape
  have hsz : ((0 : Int) < 2) := by decide
  have hsz1 : ((1 : Int) < 2) := by decide
  obtain ⟨c0, c1, c2, c3, c4⟩ := id h5
  obtain ⟨d0, d1, d2, d3, d4⟩ := id h5y
  obtain ⟨u0, hu0, G0, F0, Z0, S0⟩ := rule_start w e (.slice (some ⟨b, off, none⟩) 2 cap) 42
  obtain ⟨u1, hu1, B1, X1, S1⟩ : ∃ u1, u0.alloc (.cells #[.int .i64 x.k, .int .i64 x.n, .int .i64 x.ak, .int .i64 x.at_, .slice ax x.kids.length cx] 42) = u1 ∧ Below u0.heap.size u0 u1 ∧ Five u1 u0.heap.size (.int .i64 x.k) (.int .i64 x.n) (.int .i64 x.ak) (.int .i64 x.at_) (.slice ax x.kids.length cx) ∧ u1.heap.size = u0.heap.size + 1 := ⟨_, rfl, (Below.refl _ _).alloc (Nat.le_refl _) _, five_new _ _ _ _ _ _ _, by simp⟩
  obtain ⟨u, hu, B2, Y2, S2⟩ : ∃ u, u1.alloc (.cells #[.int .i64 y.k, .int .i64 y.n, .int .i64 y.ak, .int .i64 y.at_, .slice ay y.kids.length cy] 42) = u ∧ Below u1.heap.size u1 u ∧ Five u u1.heap.size (.int .i64 y.k) (.int .i64 y.n) (.int .i64 y.ak) (.int .i64 y.at_) (.slice ay y.kids.length cy) ∧ u.heap.size = u1.heap.size + 1 := ⟨_, rfl, (Below.refl _ _).alloc (Nat.le_refl _) _, five_new _ _ _ _ _ _ _, by simp⟩
  have GU : Below w.heap.size w u := (G0.trans (B1.mono (by omega))).trans (B2.mono (by omega))
  have HT : Hid (TwoV w lo hi e x y b off cap ax ay cx cy lx hx ly hy u) := ⟨(F0.under B1 (by omega)).under B2 (by omega), (Z0.under B1 (by omega)).under B2 (by omega), by have h := X1.under B2 (by omega); rwa [S0] at h, by rw [S1, S0] at Y2; exact Y2, ho.under GU hhi, kx.under GU (by omega), ky.under GU (by omega), GU, by omega⟩
  have HI : Hid (hx ≤ hi ∧ hy ≤ hi ∧ lo ≤ lx ∧ lo ≤ ly) := ⟨ix.2, iy.2, ix.1, iy.1⟩
  obtain ⟨t0, t1, t2, t3, t4, _⟩ := id HT.out.te
  obtain ⟨x0, x1, x2, x3, x4, _⟩ := id HT.out.tx
  obtain ⟨y0, y1, y2, y3, y4, _⟩ := id HT.out.ty
  obtain ⟨v0, v1, v2, v3, v4, vf⟩ := id HT.out.tr
  have p0 : u0.cell? ⟨w.heap.size, 4, none⟩ = _ := F0.c4
  have p1 : u1.cell? ⟨w.heap.size, 4, none⟩ = _ := (F0.under B1 (by omega)).c4
  have e5 : Cell5 u0 b off x (.slice ax x.kids.length cx) := h5.kept (G0.block b (by omega))
  have e6 : Cell5 u1 b (off + 5) y (.slice ay y.kids.length cy) := h5y.kept ((G0.trans (B1.mono (by omega))).block b (by omega))
  obtain ⟨f0, f1, f2, f3, f4⟩ := id e5
  obtain ⟨g0, g1, g2, g3, g4⟩ := id e6
  have q0 : u0.heap.size = w.heap.size + 1 + 1 := by omega
  have q1 : u1.heap.size = w.heap.size + 1 + 1 + 1 := by omega
  clear h5 h5y ho kx ky B1 B2 X1 Y2 GU F0 Z0 G0 hkids hk0 hk1 e5 e6 vf ix iy c0 c1 c2 c3 c4 d0 d1 d2 d3 d4
  have vf0 := HT.out.tr.f 0
  by_cases hnum : x.k = 1 ∧ y.k = 1
  · have hxb : (x.k == 1) = true := by simp [hnum.1]
    have hyb : (y.k == 1) = true := by simp [hnum.2]
    clear hnum
    go_enter Tryz.func42, Tryz.ntmps42
    go_wp2_with fail
    clear hu0 hu1 hu f0 f1 f2 f3 f4 g0 g1 g2 g3 g4 p0 p1 v0 v1 v2 v3 v4 vf0
    clear t0 t1 t2 t3 t4 x0 x1 x2 x3 x4 y0 y1 y2 y3 y4
    refine (l3Two_any e.k x.n y.n _).mono ?_
    rintro e1 w1 ⟨rfl, h1⟩
    rw [h1]
    clear h1 w1
    go_wp2_with fail
    refine (sNum10_any _ _).mono ?_
    rintro e2 w2 ⟨rfl, g2⟩
    have T2 := HT.out.below g2 hhi (by have := HI.out; omega) (by have := HI.out; omega)
    clear g2
    obtain ⟨n, hn⟩ : ∃ n, twoZ e.k x.n y.n = n := ⟨_, rfl⟩
    have HNN : Hid (twoZ e.k x.n y.n = n) := hn
    rw [hn]
    clear hn
    obtain ⟨u5, hu5, F5, N5, S5, B5⟩ := fiveStore T2.tr (.int .i64 1) (.int .i64 n) (.int .i64 0) (.int .i64 0) (.slice none 0 0)
    have HU5 : Hid (_ = u5) := hu5
    have HB : Hid (Below w.heap.size w u5 ∧ Five u5 (w.heap.size + 1) (.int .i64 1) (.int .i64 n) (.int .i64 0) (.int .i64 0) (.slice none 0 0) ∧ EO u5 lo hi (.agg #[.int .i64 1, .int .i64 n, .int .i64 0, .int .i64 0, .slice none 0 0]) (numE n)) := ⟨T2.low.trans (B5.mono (by omega)), F5, eo_num _ _ _ _⟩
    obtain ⟨z0, z1, z2, z3, z4, zf⟩ := id T2.tr
    have zf0 := zf 0
    have zf1 := zf 1
    have zf2 := zf 2
    have zf3 := zf 3
    have zf4 := zf 4
    clear hu5 F5 N5 B5 zf
    go_wp2
    rw [HU5.out]
    obtain ⟨r0, r1, r2, r3, r4, _⟩ := HB.out.2.1
    exact bodyPost_ret (v := .agg #[.int .i64 1, .int .i64 n, .int .i64 0, .int .i64 0, .slice none 0 0]) (by simp [results, Tryz.results42, go_sem, r0, r1, r2, r3, r4]) rfl (twoQ_done rfl HB.out.2.2 HB.out.1 (by rw [HS.out]; rw [← HNN.out]; simp [hxb, hyb]))
  have hnn : ¬ (x.k = 1 ∧ y.k = 1) := hnum
  by_cases hk : e.k = 3
  · have HNF : Hid (¬ (x.k = 1 ∧ y.k = 1)) := hnn
    have b3 : (e.k == 3) = true := by simp [hk]
    have b4 : (e.k == 4) = false := by simp [hk]
    have b5 : (e.k == 5) = false := by simp [hk]
    have b6 : (e.k == 6) = false := by simp [hk]
    have b7 : (e.k == 7) = false := by simp [hk]
    have b8 : (e.k == 8) = false := by simp [hk]
    have b9 : (e.k == 9) = false := by simp [hk]
    have HK : Hid (e.k = 3) := hk
    clear hk hnn hnum
    cases hxb : (x.k == 1) with
    | true =>
      have hyb : (y.k == 1) = false := by
        have hx1 : x.k = 1 := by simpa using hxb
        have hy1 : ¬ y.k = 1 := fun h => HNF.out ⟨hx1, h⟩
        simp [hy1]
      go_enter Tryz.func42, Tryz.ntmps42
      go_wp2_with fail
      clear hu0 hu1 hu f0 f1 f2 f3 f4 g0 g1 g2 g3 g4 p0 p1 v0 v1 v2 v3 v4 vf0
      clear t0 t1 t2 t3 t4 x0 x1 x2 x3 x4 y0 y1 y2 y3 y4
      have hk := HK.out
      have hnn := HNF.out
      clear HK HNF
      have TT := HT.out
      have HK : Hid (e.k = 3 ∧ ¬ (x.k = 1 ∧ y.k = 1)) := ⟨hk, hnn⟩
      clear hk hnn
      refine (sIs10_any _ y _ _ _ 0).mono ?_
      rintro e1 w1 ⟨rfl, g1⟩
      have T1 := TT.below g1 hhi (by have := HI.out; omega) (by have := HI.out; omega)
      have z1 := g1.size
      clear g1
      cases h1 : isTheB y 0 with
      | true =>
        obtain ⟨t0, t1, t2, t3, t4, _⟩ := id T1.te
        obtain ⟨x0, x1, x2, x3, x4, _⟩ := id T1.tx
        obtain ⟨y0, y1, y2, y3, y4, _⟩ := id T1.ty
        obtain ⟨u5, hu5, F5, N5, S5, B5⟩ := fiveStore T1.tr (.int .i64 x.k) (.int .i64 x.n) (.int .i64 x.ak) (.int .i64 x.at_) (.slice ax x.kids.length cx)
        have HU5 : Hid (_ = u5) := hu5
        have HB : Hid (Below w.heap.size w u5 ∧ Five u5 (w.heap.size + 1) (.int .i64 x.k) (.int .i64 x.n) (.int .i64 x.ak) (.int .i64 x.at_) (.slice ax x.kids.length cx) ∧ EO u5 lo hi (.agg #[.int .i64 x.k, .int .i64 x.n, .int .i64 x.ak, .int .i64 x.at_, .slice ax x.kids.length cx]) (x)) := ⟨T1.low.trans (B5.mono (by omega)), F5, ⟨_, rfl, (T1.kx.kept fun k q1 q2 => N5 k (by have := HI.out; omega)).wide (by have := HI.out; omega) (by have := HI.out; omega)⟩⟩
        obtain ⟨z0, z1, z2, z3, z4, zf⟩ := id T1.tr
        have zf0 := zf 0
        have zf1 := zf 1
        have zf2 := zf 2
        have zf3 := zf 3
        have zf4 := zf 4
        clear hu5 F5 N5 B5 zf
        go_wp2
        rw [HU5.out]
        obtain ⟨r0, r1, r2, r3, r4, _⟩ := HB.out.2.1
        exact bodyPost_ret (v := .agg #[.int .i64 x.k, .int .i64 x.n, .int .i64 x.ak, .int .i64 x.at_, .slice ax x.kids.length cx]) (by simp [results, Tryz.results42, go_sem, r0, r1, r2, r3, r4]) rfl (twoQ_done rfl HB.out.2.2 HB.out.1 (by have hk := HK.out.1; have hnn := HK.out.2; rw [HS.out]; simp [hk, hnn, hxb, hyb, h1]))
      | false =>
        obtain ⟨t0, t1, t2, t3, t4, _⟩ := id T1.te
        obtain ⟨x0, x1, x2, x3, x4, _⟩ := id T1.tx
        obtain ⟨y0, y1, y2, y3, y4, _⟩ := id T1.ty
        go_wp2_with fail
        clear t0 t1 t2 t3 t4 x0 x1 x2 x3 x4 y0 y1 y2 y3 y4
        refine (sIs10_any _ x _ _ _ 0).mono ?_
        rintro e2 w2 ⟨rfl, g2⟩
        have T2 := T1.below g2 hhi (by have := HI.out; omega) (by have := HI.out; omega)
        have z2 := g2.size
        clear g2
        cases h2 : isTheB x 0 with
        | true =>
          obtain ⟨t0, t1, t2, t3, t4, _⟩ := id T2.te
          obtain ⟨x0, x1, x2, x3, x4, _⟩ := id T2.tx
          obtain ⟨y0, y1, y2, y3, y4, _⟩ := id T2.ty
          obtain ⟨u5, hu5, F5, N5, S5, B5⟩ := fiveStore T2.tr (.int .i64 y.k) (.int .i64 y.n) (.int .i64 y.ak) (.int .i64 y.at_) (.slice ay y.kids.length cy)
          have HU5 : Hid (_ = u5) := hu5
          have HB : Hid (Below w.heap.size w u5 ∧ Five u5 (w.heap.size + 1) (.int .i64 y.k) (.int .i64 y.n) (.int .i64 y.ak) (.int .i64 y.at_) (.slice ay y.kids.length cy) ∧ EO u5 lo hi (.agg #[.int .i64 y.k, .int .i64 y.n, .int .i64 y.ak, .int .i64 y.at_, .slice ay y.kids.length cy]) (y)) := ⟨T2.low.trans (B5.mono (by omega)), F5, ⟨_, rfl, (T2.ky.kept fun k q1 q2 => N5 k (by have := HI.out; omega)).wide (by have := HI.out; omega) (by have := HI.out; omega)⟩⟩
          obtain ⟨z0, z1, z2, z3, z4, zf⟩ := id T2.tr
          have zf0 := zf 0
          have zf1 := zf 1
          have zf2 := zf 2
          have zf3 := zf 3
          have zf4 := zf 4
          clear hu5 F5 N5 B5 zf
          go_wp2
          rw [HU5.out]
          obtain ⟨r0, r1, r2, r3, r4, _⟩ := HB.out.2.1
          exact bodyPost_ret (v := .agg #[.int .i64 y.k, .int .i64 y.n, .int .i64 y.ak, .int .i64 y.at_, .slice ay y.kids.length cy]) (by simp [results, Tryz.results42, go_sem, r0, r1, r2, r3, r4]) rfl (twoQ_done rfl HB.out.2.2 HB.out.1 (by have hk := HK.out.1; have hnn := HK.out.2; rw [HS.out]; simp [hk, hnn, hxb, hyb, h1, h2]))
        | false =>
          obtain ⟨t0, t1, t2, t3, t4, _⟩ := id T2.te
          obtain ⟨x0, x1, x2, x3, x4, _⟩ := id T2.tx
          obtain ⟨y0, y1, y2, y3, y4, _⟩ := id T2.ty
          obtain ⟨u5, hu5, F5, N5, S5, B5⟩ := fiveStore T2.tr (.int .i64 e.k) (.int .i64 e.n) (.int .i64 e.ak) (.int .i64 e.at_) (.slice (some ⟨b, off, none⟩) 2 cap)
          have HU5 : Hid (_ = u5) := hu5
          have HB : Hid (Below w.heap.size w u5 ∧ Five u5 (w.heap.size + 1) (.int .i64 e.k) (.int .i64 e.n) (.int .i64 e.ak) (.int .i64 e.at_) (.slice (some ⟨b, off, none⟩) 2 cap) ∧ EO u5 lo hi (.agg #[.int .i64 e.k, .int .i64 e.n, .int .i64 e.ak, .int .i64 e.at_, .slice (some ⟨b, off, none⟩) 2 cap]) (e)) := ⟨T2.low.trans (B5.mono (by omega)), F5, ⟨_, rfl, T2.ko.kept fun k q1 q2 => N5 k (by omega)⟩⟩
          obtain ⟨z0, z1, z2, z3, z4, zf⟩ := id T2.tr
          have zf0 := zf 0
          have zf1 := zf 1
          have zf2 := zf 2
          have zf3 := zf 3
          have zf4 := zf 4
          clear hu5 F5 N5 B5 zf
          go_wp2
          rw [HU5.out]
          obtain ⟨r0, r1, r2, r3, r4, _⟩ := HB.out.2.1
          exact bodyPost_ret (v := .agg #[.int .i64 e.k, .int .i64 e.n, .int .i64 e.ak, .int .i64 e.at_, .slice (some ⟨b, off, none⟩) 2 cap]) (by simp [results, Tryz.results42, go_sem, r0, r1, r2, r3, r4]) rfl (twoQ_done rfl HB.out.2.2 HB.out.1 (by have hk := HK.out.1; have hnn := HK.out.2; rw [HS.out]; simp [hk, hnn, hxb, hyb, h1, h2]))
    | false =>
      go_enter Tryz.func42, Tryz.ntmps42
      go_wp2_with fail
      clear hu0 hu1 hu f0 f1 f2 f3 f4 g0 g1 g2 g3 g4 p0 p1 v0 v1 v2 v3 v4 vf0
      clear t0 t1 t2 t3 t4 x0 x1 x2 x3 x4 y0 y1 y2 y3 y4
      have hk := HK.out
      have hnn := HNF.out
      clear HK HNF
      have TT := HT.out
      have HK : Hid (e.k = 3 ∧ ¬ (x.k = 1 ∧ y.k = 1)) := ⟨hk, hnn⟩
      clear hk hnn
      refine (sIs10_any _ y _ _ _ 0).mono ?_
      rintro e1 w1 ⟨rfl, g1⟩
      have T1 := TT.below g1 hhi (by have := HI.out; omega) (by have := HI.out; omega)
      have z1 := g1.size
      clear g1
      cases h1 : isTheB y 0 with
      | true =>
        obtain ⟨t0, t1, t2, t3, t4, _⟩ := id T1.te
        obtain ⟨x0, x1, x2, x3, x4, _⟩ := id T1.tx
        obtain ⟨y0, y1, y2, y3, y4, _⟩ := id T1.ty
        obtain ⟨u5, hu5, F5, N5, S5, B5⟩ := fiveStore T1.tr (.int .i64 x.k) (.int .i64 x.n) (.int .i64 x.ak) (.int .i64 x.at_) (.slice ax x.kids.length cx)
        have HU5 : Hid (_ = u5) := hu5
        have HB : Hid (Below w.heap.size w u5 ∧ Five u5 (w.heap.size + 1) (.int .i64 x.k) (.int .i64 x.n) (.int .i64 x.ak) (.int .i64 x.at_) (.slice ax x.kids.length cx) ∧ EO u5 lo hi (.agg #[.int .i64 x.k, .int .i64 x.n, .int .i64 x.ak, .int .i64 x.at_, .slice ax x.kids.length cx]) (x)) := ⟨T1.low.trans (B5.mono (by omega)), F5, ⟨_, rfl, (T1.kx.kept fun k q1 q2 => N5 k (by have := HI.out; omega)).wide (by have := HI.out; omega) (by have := HI.out; omega)⟩⟩
        obtain ⟨z0, z1, z2, z3, z4, zf⟩ := id T1.tr
        have zf0 := zf 0
        have zf1 := zf 1
        have zf2 := zf 2
        have zf3 := zf 3
        have zf4 := zf 4
        clear hu5 F5 N5 B5 zf
        go_wp2
        rw [HU5.out]
        obtain ⟨r0, r1, r2, r3, r4, _⟩ := HB.out.2.1
        exact bodyPost_ret (v := .agg #[.int .i64 x.k, .int .i64 x.n, .int .i64 x.ak, .int .i64 x.at_, .slice ax x.kids.length cx]) (by simp [results, Tryz.results42, go_sem, r0, r1, r2, r3, r4]) rfl (twoQ_done rfl HB.out.2.2 HB.out.1 (by have hk := HK.out.1; have hnn := HK.out.2; rw [HS.out]; simp [hk, hnn, hxb, h1]))
      | false =>
        obtain ⟨t0, t1, t2, t3, t4, _⟩ := id T1.te
        obtain ⟨x0, x1, x2, x3, x4, _⟩ := id T1.tx
        obtain ⟨y0, y1, y2, y3, y4, _⟩ := id T1.ty
        go_wp2_with fail
        clear t0 t1 t2 t3 t4 x0 x1 x2 x3 x4 y0 y1 y2 y3 y4
        refine (sIs10_any _ x _ _ _ 0).mono ?_
        rintro e2 w2 ⟨rfl, g2⟩
        have T2 := T1.below g2 hhi (by have := HI.out; omega) (by have := HI.out; omega)
        have z2 := g2.size
        clear g2
        cases h2 : isTheB x 0 with
        | true =>
          obtain ⟨t0, t1, t2, t3, t4, _⟩ := id T2.te
          obtain ⟨x0, x1, x2, x3, x4, _⟩ := id T2.tx
          obtain ⟨y0, y1, y2, y3, y4, _⟩ := id T2.ty
          obtain ⟨u5, hu5, F5, N5, S5, B5⟩ := fiveStore T2.tr (.int .i64 y.k) (.int .i64 y.n) (.int .i64 y.ak) (.int .i64 y.at_) (.slice ay y.kids.length cy)
          have HU5 : Hid (_ = u5) := hu5
          have HB : Hid (Below w.heap.size w u5 ∧ Five u5 (w.heap.size + 1) (.int .i64 y.k) (.int .i64 y.n) (.int .i64 y.ak) (.int .i64 y.at_) (.slice ay y.kids.length cy) ∧ EO u5 lo hi (.agg #[.int .i64 y.k, .int .i64 y.n, .int .i64 y.ak, .int .i64 y.at_, .slice ay y.kids.length cy]) (y)) := ⟨T2.low.trans (B5.mono (by omega)), F5, ⟨_, rfl, (T2.ky.kept fun k q1 q2 => N5 k (by have := HI.out; omega)).wide (by have := HI.out; omega) (by have := HI.out; omega)⟩⟩
          obtain ⟨z0, z1, z2, z3, z4, zf⟩ := id T2.tr
          have zf0 := zf 0
          have zf1 := zf 1
          have zf2 := zf 2
          have zf3 := zf 3
          have zf4 := zf 4
          clear hu5 F5 N5 B5 zf
          go_wp2
          rw [HU5.out]
          obtain ⟨r0, r1, r2, r3, r4, _⟩ := HB.out.2.1
          exact bodyPost_ret (v := .agg #[.int .i64 y.k, .int .i64 y.n, .int .i64 y.ak, .int .i64 y.at_, .slice ay y.kids.length cy]) (by simp [results, Tryz.results42, go_sem, r0, r1, r2, r3, r4]) rfl (twoQ_done rfl HB.out.2.2 HB.out.1 (by have hk := HK.out.1; have hnn := HK.out.2; rw [HS.out]; simp [hk, hnn, hxb, h1, h2]))
        | false =>
          obtain ⟨t0, t1, t2, t3, t4, _⟩ := id T2.te
          obtain ⟨x0, x1, x2, x3, x4, _⟩ := id T2.tx
          obtain ⟨y0, y1, y2, y3, y4, _⟩ := id T2.ty
          obtain ⟨u5, hu5, F5, N5, S5, B5⟩ := fiveStore T2.tr (.int .i64 e.k) (.int .i64 e.n) (.int .i64 e.ak) (.int .i64 e.at_) (.slice (some ⟨b, off, none⟩) 2 cap)
          have HU5 : Hid (_ = u5) := hu5
          have HB : Hid (Below w.heap.size w u5 ∧ Five u5 (w.heap.size + 1) (.int .i64 e.k) (.int .i64 e.n) (.int .i64 e.ak) (.int .i64 e.at_) (.slice (some ⟨b, off, none⟩) 2 cap) ∧ EO u5 lo hi (.agg #[.int .i64 e.k, .int .i64 e.n, .int .i64 e.ak, .int .i64 e.at_, .slice (some ⟨b, off, none⟩) 2 cap]) (e)) := ⟨T2.low.trans (B5.mono (by omega)), F5, ⟨_, rfl, T2.ko.kept fun k q1 q2 => N5 k (by omega)⟩⟩
          obtain ⟨z0, z1, z2, z3, z4, zf⟩ := id T2.tr
          have zf0 := zf 0
          have zf1 := zf 1
          have zf2 := zf 2
          have zf3 := zf 3
          have zf4 := zf 4
          clear hu5 F5 N5 B5 zf
          go_wp2
          rw [HU5.out]
          obtain ⟨r0, r1, r2, r3, r4, _⟩ := HB.out.2.1
          exact bodyPost_ret (v := .agg #[.int .i64 e.k, .int .i64 e.n, .int .i64 e.ak, .int .i64 e.at_, .slice (some ⟨b, off, none⟩) 2 cap]) (by simp [results, Tryz.results42, go_sem, r0, r1, r2, r3, r4]) rfl (twoQ_done rfl HB.out.2.2 HB.out.1 (by have hk := HK.out.1; have hnn := HK.out.2; rw [HS.out]; simp [hk, hnn, hxb, h1, h2]))
  by_cases hk : e.k = 4
  · have HNF : Hid (¬ (x.k = 1 ∧ y.k = 1)) := hnn
    have b3 : (e.k == 3) = false := by simp [hk]
    have b4 : (e.k == 4) = true := by simp [hk]
    have b5 : (e.k == 5) = false := by simp [hk]
    have b6 : (e.k == 6) = false := by simp [hk]
    have b7 : (e.k == 7) = false := by simp [hk]
    have b8 : (e.k == 8) = false := by simp [hk]
    have b9 : (e.k == 9) = false := by simp [hk]
    have HK : Hid (e.k = 4) := hk
    clear hk hnn hnum
    cases hxb : (x.k == 1) with
    | true =>
      have hyb : (y.k == 1) = false := by
        have hx1 : x.k = 1 := by simpa using hxb
        have hy1 : ¬ y.k = 1 := fun h => HNF.out ⟨hx1, h⟩
        simp [hy1]
      go_enter Tryz.func42, Tryz.ntmps42
      go_wp2_with fail
      clear hu0 hu1 hu f0 f1 f2 f3 f4 g0 g1 g2 g3 g4 p0 p1 v0 v1 v2 v3 v4 vf0
      clear t0 t1 t2 t3 t4 x0 x1 x2 x3 x4 y0 y1 y2 y3 y4
      have hk := HK.out
      have hnn := HNF.out
      clear HK HNF
      have TT := HT.out
      have HK : Hid (e.k = 4 ∧ ¬ (x.k = 1 ∧ y.k = 1)) := ⟨hk, hnn⟩
      clear hk hnn
      refine (sIs10_any _ y _ _ _ 0).mono ?_
      rintro e1 w1 ⟨rfl, g1⟩
      have T1 := TT.below g1 hhi (by have := HI.out; omega) (by have := HI.out; omega)
      have z1 := g1.size
      clear g1
      cases h1 : isTheB y 0 with
      | true =>
        obtain ⟨t0, t1, t2, t3, t4, _⟩ := id T1.te
        obtain ⟨x0, x1, x2, x3, x4, _⟩ := id T1.tx
        obtain ⟨y0, y1, y2, y3, y4, _⟩ := id T1.ty
        obtain ⟨u5, hu5, F5, N5, S5, B5⟩ := fiveStore T1.tr (.int .i64 x.k) (.int .i64 x.n) (.int .i64 x.ak) (.int .i64 x.at_) (.slice ax x.kids.length cx)
        have HU5 : Hid (_ = u5) := hu5
        have HB : Hid (Below w.heap.size w u5 ∧ Five u5 (w.heap.size + 1) (.int .i64 x.k) (.int .i64 x.n) (.int .i64 x.ak) (.int .i64 x.at_) (.slice ax x.kids.length cx) ∧ EO u5 lo hi (.agg #[.int .i64 x.k, .int .i64 x.n, .int .i64 x.ak, .int .i64 x.at_, .slice ax x.kids.length cx]) (x)) := ⟨T1.low.trans (B5.mono (by omega)), F5, ⟨_, rfl, (T1.kx.kept fun k q1 q2 => N5 k (by have := HI.out; omega)).wide (by have := HI.out; omega) (by have := HI.out; omega)⟩⟩
        obtain ⟨z0, z1, z2, z3, z4, zf⟩ := id T1.tr
        have zf0 := zf 0
        have zf1 := zf 1
        have zf2 := zf 2
        have zf3 := zf 3
        have zf4 := zf 4
        clear hu5 F5 N5 B5 zf
        go_wp2
        rw [HU5.out]
        obtain ⟨r0, r1, r2, r3, r4, _⟩ := HB.out.2.1
        exact bodyPost_ret (v := .agg #[.int .i64 x.k, .int .i64 x.n, .int .i64 x.ak, .int .i64 x.at_, .slice ax x.kids.length cx]) (by simp [results, Tryz.results42, go_sem, r0, r1, r2, r3, r4]) rfl (twoQ_done rfl HB.out.2.2 HB.out.1 (by have hk := HK.out.1; have hnn := HK.out.2; rw [HS.out]; simp [hk, hnn, hxb, hyb, h1]))
      | false =>
        obtain ⟨t0, t1, t2, t3, t4, _⟩ := id T1.te
        obtain ⟨x0, x1, x2, x3, x4, _⟩ := id T1.tx
        obtain ⟨y0, y1, y2, y3, y4, _⟩ := id T1.ty
        go_wp2_with fail
        clear t0 t1 t2 t3 t4 x0 x1 x2 x3 x4 y0 y1 y2 y3 y4
        refine (sAlike_bool _ lx hx ly hy _ _ x y ⟨_, rfl, T1.kx.kr⟩ ⟨_, rfl, T1.ky.kr⟩ (by have := HI.out; have := T1.size; omega) (by have := HI.out; have := T1.size; omega)).mono ?_
        rintro e2 w2 ⟨rfl, g2⟩
        have T2 := T1.below g2 hhi (by have := HI.out; omega) (by have := HI.out; omega)
        have z2 := g2.size
        clear g2
        cases h2 : sameE x y with
        | true =>
          obtain ⟨t0, t1, t2, t3, t4, _⟩ := id T2.te
          obtain ⟨x0, x1, x2, x3, x4, _⟩ := id T2.tx
          obtain ⟨y0, y1, y2, y3, y4, _⟩ := id T2.ty
          skip
          go_wp2_with (go_at_call 40; refine (sNum10_any _ 0).mono ?_; rintro e2n w2n ⟨rfl, g2n⟩; have T2n := T2.below g2n hhi (by have := HI.out; omega) (by have := HI.out; omega); obtain ⟨u5, hu5, F5, N5, S5, B5⟩ := fiveStore T2n.tr (.int .i64 1) (.int .i64 0) (.int .i64 0) (.int .i64 0) (.slice none 0 0); have HU5 : Hid (_ = u5) := hu5; have HB : Hid (Below w.heap.size w u5 ∧ Five u5 (w.heap.size + 1) (.int .i64 1) (.int .i64 0) (.int .i64 0) (.int .i64 0) (.slice none 0 0) ∧ EO u5 lo hi (.agg #[.int .i64 1, .int .i64 0, .int .i64 0, .int .i64 0, .slice none 0 0]) (numE 0)) := ⟨T2n.low.trans (B5.mono (by omega)), F5, eo_num _ _ _ _⟩; obtain ⟨z0, z1, z2, z3, z4, zf⟩ := id T2n.tr; have zf0 := zf 0; have zf1 := zf 1; have zf2 := zf 2; have zf3 := zf 3; have zf4 := zf 4; clear hu5 F5 N5 B5 zf)
          rw [HU5.out]
          obtain ⟨r0, r1, r2, r3, r4, _⟩ := HB.out.2.1
          exact bodyPost_ret (v := .agg #[.int .i64 1, .int .i64 0, .int .i64 0, .int .i64 0, .slice none 0 0]) (by simp [results, Tryz.results42, go_sem, r0, r1, r2, r3, r4]) rfl (twoQ_done rfl HB.out.2.2 HB.out.1 (by have hk := HK.out.1; have hnn := HK.out.2; rw [HS.out]; simp [hk, hnn, hxb, hyb, h1, h2]))
        | false =>
          obtain ⟨t0, t1, t2, t3, t4, _⟩ := id T2.te
          obtain ⟨x0, x1, x2, x3, x4, _⟩ := id T2.tx
          obtain ⟨y0, y1, y2, y3, y4, _⟩ := id T2.ty
          obtain ⟨u5, hu5, F5, N5, S5, B5⟩ := fiveStore T2.tr (.int .i64 e.k) (.int .i64 e.n) (.int .i64 e.ak) (.int .i64 e.at_) (.slice (some ⟨b, off, none⟩) 2 cap)
          have HU5 : Hid (_ = u5) := hu5
          have HB : Hid (Below w.heap.size w u5 ∧ Five u5 (w.heap.size + 1) (.int .i64 e.k) (.int .i64 e.n) (.int .i64 e.ak) (.int .i64 e.at_) (.slice (some ⟨b, off, none⟩) 2 cap) ∧ EO u5 lo hi (.agg #[.int .i64 e.k, .int .i64 e.n, .int .i64 e.ak, .int .i64 e.at_, .slice (some ⟨b, off, none⟩) 2 cap]) (e)) := ⟨T2.low.trans (B5.mono (by omega)), F5, ⟨_, rfl, T2.ko.kept fun k q1 q2 => N5 k (by omega)⟩⟩
          obtain ⟨z0, z1, z2, z3, z4, zf⟩ := id T2.tr
          have zf0 := zf 0
          have zf1 := zf 1
          have zf2 := zf 2
          have zf3 := zf 3
          have zf4 := zf 4
          clear hu5 F5 N5 B5 zf
          go_wp2
          rw [HU5.out]
          obtain ⟨r0, r1, r2, r3, r4, _⟩ := HB.out.2.1
          exact bodyPost_ret (v := .agg #[.int .i64 e.k, .int .i64 e.n, .int .i64 e.ak, .int .i64 e.at_, .slice (some ⟨b, off, none⟩) 2 cap]) (by simp [results, Tryz.results42, go_sem, r0, r1, r2, r3, r4]) rfl (twoQ_done rfl HB.out.2.2 HB.out.1 (by have hk := HK.out.1; have hnn := HK.out.2; rw [HS.out]; simp [hk, hnn, hxb, hyb, h1, h2]))
    | false =>
      go_enter Tryz.func42, Tryz.ntmps42
      go_wp2_with fail
      clear hu0 hu1 hu f0 f1 f2 f3 f4 g0 g1 g2 g3 g4 p0 p1 v0 v1 v2 v3 v4 vf0
      clear t0 t1 t2 t3 t4 x0 x1 x2 x3 x4 y0 y1 y2 y3 y4
      have hk := HK.out
      have hnn := HNF.out
      clear HK HNF
      have TT := HT.out
      have HK : Hid (e.k = 4 ∧ ¬ (x.k = 1 ∧ y.k = 1)) := ⟨hk, hnn⟩
      clear hk hnn
      refine (sIs10_any _ y _ _ _ 0).mono ?_
      rintro e1 w1 ⟨rfl, g1⟩
      have T1 := TT.below g1 hhi (by have := HI.out; omega) (by have := HI.out; omega)
      have z1 := g1.size
      clear g1
      cases h1 : isTheB y 0 with
      | true =>
        obtain ⟨t0, t1, t2, t3, t4, _⟩ := id T1.te
        obtain ⟨x0, x1, x2, x3, x4, _⟩ := id T1.tx
        obtain ⟨y0, y1, y2, y3, y4, _⟩ := id T1.ty
        obtain ⟨u5, hu5, F5, N5, S5, B5⟩ := fiveStore T1.tr (.int .i64 x.k) (.int .i64 x.n) (.int .i64 x.ak) (.int .i64 x.at_) (.slice ax x.kids.length cx)
        have HU5 : Hid (_ = u5) := hu5
        have HB : Hid (Below w.heap.size w u5 ∧ Five u5 (w.heap.size + 1) (.int .i64 x.k) (.int .i64 x.n) (.int .i64 x.ak) (.int .i64 x.at_) (.slice ax x.kids.length cx) ∧ EO u5 lo hi (.agg #[.int .i64 x.k, .int .i64 x.n, .int .i64 x.ak, .int .i64 x.at_, .slice ax x.kids.length cx]) (x)) := ⟨T1.low.trans (B5.mono (by omega)), F5, ⟨_, rfl, (T1.kx.kept fun k q1 q2 => N5 k (by have := HI.out; omega)).wide (by have := HI.out; omega) (by have := HI.out; omega)⟩⟩
        obtain ⟨z0, z1, z2, z3, z4, zf⟩ := id T1.tr
        have zf0 := zf 0
        have zf1 := zf 1
        have zf2 := zf 2
        have zf3 := zf 3
        have zf4 := zf 4
        clear hu5 F5 N5 B5 zf
        go_wp2
        rw [HU5.out]
        obtain ⟨r0, r1, r2, r3, r4, _⟩ := HB.out.2.1
        exact bodyPost_ret (v := .agg #[.int .i64 x.k, .int .i64 x.n, .int .i64 x.ak, .int .i64 x.at_, .slice ax x.kids.length cx]) (by simp [results, Tryz.results42, go_sem, r0, r1, r2, r3, r4]) rfl (twoQ_done rfl HB.out.2.2 HB.out.1 (by have hk := HK.out.1; have hnn := HK.out.2; rw [HS.out]; simp [hk, hnn, hxb, h1]))
      | false =>
        obtain ⟨t0, t1, t2, t3, t4, _⟩ := id T1.te
        obtain ⟨x0, x1, x2, x3, x4, _⟩ := id T1.tx
        obtain ⟨y0, y1, y2, y3, y4, _⟩ := id T1.ty
        go_wp2_with fail
        clear t0 t1 t2 t3 t4 x0 x1 x2 x3 x4 y0 y1 y2 y3 y4
        refine (sAlike_bool _ lx hx ly hy _ _ x y ⟨_, rfl, T1.kx.kr⟩ ⟨_, rfl, T1.ky.kr⟩ (by have := HI.out; have := T1.size; omega) (by have := HI.out; have := T1.size; omega)).mono ?_
        rintro e2 w2 ⟨rfl, g2⟩
        have T2 := T1.below g2 hhi (by have := HI.out; omega) (by have := HI.out; omega)
        have z2 := g2.size
        clear g2
        cases h2 : sameE x y with
        | true =>
          obtain ⟨t0, t1, t2, t3, t4, _⟩ := id T2.te
          obtain ⟨x0, x1, x2, x3, x4, _⟩ := id T2.tx
          obtain ⟨y0, y1, y2, y3, y4, _⟩ := id T2.ty
          skip
          go_wp2_with (go_at_call 40; refine (sNum10_any _ 0).mono ?_; rintro e2n w2n ⟨rfl, g2n⟩; have T2n := T2.below g2n hhi (by have := HI.out; omega) (by have := HI.out; omega); obtain ⟨u5, hu5, F5, N5, S5, B5⟩ := fiveStore T2n.tr (.int .i64 1) (.int .i64 0) (.int .i64 0) (.int .i64 0) (.slice none 0 0); have HU5 : Hid (_ = u5) := hu5; have HB : Hid (Below w.heap.size w u5 ∧ Five u5 (w.heap.size + 1) (.int .i64 1) (.int .i64 0) (.int .i64 0) (.int .i64 0) (.slice none 0 0) ∧ EO u5 lo hi (.agg #[.int .i64 1, .int .i64 0, .int .i64 0, .int .i64 0, .slice none 0 0]) (numE 0)) := ⟨T2n.low.trans (B5.mono (by omega)), F5, eo_num _ _ _ _⟩; obtain ⟨z0, z1, z2, z3, z4, zf⟩ := id T2n.tr; have zf0 := zf 0; have zf1 := zf 1; have zf2 := zf 2; have zf3 := zf 3; have zf4 := zf 4; clear hu5 F5 N5 B5 zf)
          rw [HU5.out]
          obtain ⟨r0, r1, r2, r3, r4, _⟩ := HB.out.2.1
          exact bodyPost_ret (v := .agg #[.int .i64 1, .int .i64 0, .int .i64 0, .int .i64 0, .slice none 0 0]) (by simp [results, Tryz.results42, go_sem, r0, r1, r2, r3, r4]) rfl (twoQ_done rfl HB.out.2.2 HB.out.1 (by have hk := HK.out.1; have hnn := HK.out.2; rw [HS.out]; simp [hk, hnn, hxb, h1, h2]))
        | false =>
          obtain ⟨t0, t1, t2, t3, t4, _⟩ := id T2.te
          obtain ⟨x0, x1, x2, x3, x4, _⟩ := id T2.tx
          obtain ⟨y0, y1, y2, y3, y4, _⟩ := id T2.ty
          obtain ⟨u5, hu5, F5, N5, S5, B5⟩ := fiveStore T2.tr (.int .i64 e.k) (.int .i64 e.n) (.int .i64 e.ak) (.int .i64 e.at_) (.slice (some ⟨b, off, none⟩) 2 cap)
          have HU5 : Hid (_ = u5) := hu5
          have HB : Hid (Below w.heap.size w u5 ∧ Five u5 (w.heap.size + 1) (.int .i64 e.k) (.int .i64 e.n) (.int .i64 e.ak) (.int .i64 e.at_) (.slice (some ⟨b, off, none⟩) 2 cap) ∧ EO u5 lo hi (.agg #[.int .i64 e.k, .int .i64 e.n, .int .i64 e.ak, .int .i64 e.at_, .slice (some ⟨b, off, none⟩) 2 cap]) (e)) := ⟨T2.low.trans (B5.mono (by omega)), F5, ⟨_, rfl, T2.ko.kept fun k q1 q2 => N5 k (by omega)⟩⟩
          obtain ⟨z0, z1, z2, z3, z4, zf⟩ := id T2.tr
          have zf0 := zf 0
          have zf1 := zf 1
          have zf2 := zf 2
          have zf3 := zf 3
          have zf4 := zf 4
          clear hu5 F5 N5 B5 zf
          go_wp2
          rw [HU5.out]
          obtain ⟨r0, r1, r2, r3, r4, _⟩ := HB.out.2.1
          exact bodyPost_ret (v := .agg #[.int .i64 e.k, .int .i64 e.n, .int .i64 e.ak, .int .i64 e.at_, .slice (some ⟨b, off, none⟩) 2 cap]) (by simp [results, Tryz.results42, go_sem, r0, r1, r2, r3, r4]) rfl (twoQ_done rfl HB.out.2.2 HB.out.1 (by have hk := HK.out.1; have hnn := HK.out.2; rw [HS.out]; simp [hk, hnn, hxb, h1, h2]))
  by_cases hk : e.k = 5
  · have HNF : Hid (¬ (x.k = 1 ∧ y.k = 1)) := hnn
    have b3 : (e.k == 3) = false := by simp [hk]
    have b4 : (e.k == 4) = false := by simp [hk]
    have b5 : (e.k == 5) = true := by simp [hk]
    have b6 : (e.k == 6) = false := by simp [hk]
    have b7 : (e.k == 7) = false := by simp [hk]
    have b8 : (e.k == 8) = false := by simp [hk]
    have b9 : (e.k == 9) = false := by simp [hk]
    have HK : Hid (e.k = 5) := hk
    clear hk hnn hnum
    cases hxb : (x.k == 1) with
    | true =>
      have hyb : (y.k == 1) = false := by
        have hx1 : x.k = 1 := by simpa using hxb
        have hy1 : ¬ y.k = 1 := fun h => HNF.out ⟨hx1, h⟩
        simp [hy1]
      go_enter Tryz.func42, Tryz.ntmps42
      go_wp2_with fail
      clear hu0 hu1 hu f0 f1 f2 f3 f4 g0 g1 g2 g3 g4 p0 p1 v0 v1 v2 v3 v4 vf0
      clear t0 t1 t2 t3 t4 x0 x1 x2 x3 x4 y0 y1 y2 y3 y4
      have hk := HK.out
      have hnn := HNF.out
      clear HK HNF
      have TT := HT.out
      have HK : Hid (e.k = 5 ∧ ¬ (x.k = 1 ∧ y.k = 1)) := ⟨hk, hnn⟩
      clear hk hnn
      refine (sIs10_any _ y _ _ _ 1).mono ?_
      rintro e1 w1 ⟨rfl, g1⟩
      have T1 := TT.below g1 hhi (by have := HI.out; omega) (by have := HI.out; omega)
      have z1 := g1.size
      clear g1
      cases h1 : isTheB y 1 with
      | true =>
        obtain ⟨t0, t1, t2, t3, t4, _⟩ := id T1.te
        obtain ⟨x0, x1, x2, x3, x4, _⟩ := id T1.tx
        obtain ⟨y0, y1, y2, y3, y4, _⟩ := id T1.ty
        obtain ⟨u5, hu5, F5, N5, S5, B5⟩ := fiveStore T1.tr (.int .i64 x.k) (.int .i64 x.n) (.int .i64 x.ak) (.int .i64 x.at_) (.slice ax x.kids.length cx)
        have HU5 : Hid (_ = u5) := hu5
        have HB : Hid (Below w.heap.size w u5 ∧ Five u5 (w.heap.size + 1) (.int .i64 x.k) (.int .i64 x.n) (.int .i64 x.ak) (.int .i64 x.at_) (.slice ax x.kids.length cx) ∧ EO u5 lo hi (.agg #[.int .i64 x.k, .int .i64 x.n, .int .i64 x.ak, .int .i64 x.at_, .slice ax x.kids.length cx]) (x)) := ⟨T1.low.trans (B5.mono (by omega)), F5, ⟨_, rfl, (T1.kx.kept fun k q1 q2 => N5 k (by have := HI.out; omega)).wide (by have := HI.out; omega) (by have := HI.out; omega)⟩⟩
        obtain ⟨z0, z1, z2, z3, z4, zf⟩ := id T1.tr
        have zf0 := zf 0
        have zf1 := zf 1
        have zf2 := zf 2
        have zf3 := zf 3
        have zf4 := zf 4
        clear hu5 F5 N5 B5 zf
        go_wp2
        rw [HU5.out]
        obtain ⟨r0, r1, r2, r3, r4, _⟩ := HB.out.2.1
        exact bodyPost_ret (v := .agg #[.int .i64 x.k, .int .i64 x.n, .int .i64 x.ak, .int .i64 x.at_, .slice ax x.kids.length cx]) (by simp [results, Tryz.results42, go_sem, r0, r1, r2, r3, r4]) rfl (twoQ_done rfl HB.out.2.2 HB.out.1 (by have hk := HK.out.1; have hnn := HK.out.2; rw [HS.out]; simp [hk, hnn, hxb, hyb, h1]))
      | false =>
        obtain ⟨t0, t1, t2, t3, t4, _⟩ := id T1.te
        obtain ⟨x0, x1, x2, x3, x4, _⟩ := id T1.tx
        obtain ⟨y0, y1, y2, y3, y4, _⟩ := id T1.ty
        go_wp2_with fail
        clear t0 t1 t2 t3 t4 x0 x1 x2 x3 x4 y0 y1 y2 y3 y4
        refine (sIs10_any _ x _ _ _ 1).mono ?_
        rintro e2 w2 ⟨rfl, g2⟩
        have T2 := T1.below g2 hhi (by have := HI.out; omega) (by have := HI.out; omega)
        have z2 := g2.size
        clear g2
        cases h2 : isTheB x 1 with
        | true =>
          obtain ⟨t0, t1, t2, t3, t4, _⟩ := id T2.te
          obtain ⟨x0, x1, x2, x3, x4, _⟩ := id T2.tx
          obtain ⟨y0, y1, y2, y3, y4, _⟩ := id T2.ty
          obtain ⟨u5, hu5, F5, N5, S5, B5⟩ := fiveStore T2.tr (.int .i64 y.k) (.int .i64 y.n) (.int .i64 y.ak) (.int .i64 y.at_) (.slice ay y.kids.length cy)
          have HU5 : Hid (_ = u5) := hu5
          have HB : Hid (Below w.heap.size w u5 ∧ Five u5 (w.heap.size + 1) (.int .i64 y.k) (.int .i64 y.n) (.int .i64 y.ak) (.int .i64 y.at_) (.slice ay y.kids.length cy) ∧ EO u5 lo hi (.agg #[.int .i64 y.k, .int .i64 y.n, .int .i64 y.ak, .int .i64 y.at_, .slice ay y.kids.length cy]) (y)) := ⟨T2.low.trans (B5.mono (by omega)), F5, ⟨_, rfl, (T2.ky.kept fun k q1 q2 => N5 k (by have := HI.out; omega)).wide (by have := HI.out; omega) (by have := HI.out; omega)⟩⟩
          obtain ⟨z0, z1, z2, z3, z4, zf⟩ := id T2.tr
          have zf0 := zf 0
          have zf1 := zf 1
          have zf2 := zf 2
          have zf3 := zf 3
          have zf4 := zf 4
          clear hu5 F5 N5 B5 zf
          go_wp2
          rw [HU5.out]
          obtain ⟨r0, r1, r2, r3, r4, _⟩ := HB.out.2.1
          exact bodyPost_ret (v := .agg #[.int .i64 y.k, .int .i64 y.n, .int .i64 y.ak, .int .i64 y.at_, .slice ay y.kids.length cy]) (by simp [results, Tryz.results42, go_sem, r0, r1, r2, r3, r4]) rfl (twoQ_done rfl HB.out.2.2 HB.out.1 (by have hk := HK.out.1; have hnn := HK.out.2; rw [HS.out]; simp [hk, hnn, hxb, hyb, h1, h2]))
        | false =>
          obtain ⟨t0, t1, t2, t3, t4, _⟩ := id T2.te
          obtain ⟨x0, x1, x2, x3, x4, _⟩ := id T2.tx
          obtain ⟨y0, y1, y2, y3, y4, _⟩ := id T2.ty
          go_wp2_with fail
          clear t0 t1 t2 t3 t4 x0 x1 x2 x3 x4 y0 y1 y2 y3 y4
          refine (sIs10_any _ x _ _ _ 0).mono ?_
          rintro e3 w3 ⟨rfl, g3⟩
          have T3 := T2.below g3 hhi (by have := HI.out; omega) (by have := HI.out; omega)
          have z3 := g3.size
          clear g3
          cases h3 : isTheB x 0 with
          | true =>
            obtain ⟨t0, t1, t2, t3, t4, _⟩ := id T3.te
            obtain ⟨x0, x1, x2, x3, x4, _⟩ := id T3.tx
            obtain ⟨y0, y1, y2, y3, y4, _⟩ := id T3.ty
            skip
            go_wp2_with (go_at_call 40; refine (sNum10_any _ 0).mono ?_; rintro e3n w3n ⟨rfl, g3n⟩; have T3n := T3.below g3n hhi (by have := HI.out; omega) (by have := HI.out; omega); obtain ⟨u5, hu5, F5, N5, S5, B5⟩ := fiveStore T3n.tr (.int .i64 1) (.int .i64 0) (.int .i64 0) (.int .i64 0) (.slice none 0 0); have HU5 : Hid (_ = u5) := hu5; have HB : Hid (Below w.heap.size w u5 ∧ Five u5 (w.heap.size + 1) (.int .i64 1) (.int .i64 0) (.int .i64 0) (.int .i64 0) (.slice none 0 0) ∧ EO u5 lo hi (.agg #[.int .i64 1, .int .i64 0, .int .i64 0, .int .i64 0, .slice none 0 0]) (numE 0)) := ⟨T3n.low.trans (B5.mono (by omega)), F5, eo_num _ _ _ _⟩; obtain ⟨z0, z1, z2, z3, z4, zf⟩ := id T3n.tr; have zf0 := zf 0; have zf1 := zf 1; have zf2 := zf 2; have zf3 := zf 3; have zf4 := zf 4; clear hu5 F5 N5 B5 zf)
            rw [HU5.out]
            obtain ⟨r0, r1, r2, r3, r4, _⟩ := HB.out.2.1
            exact bodyPost_ret (v := .agg #[.int .i64 1, .int .i64 0, .int .i64 0, .int .i64 0, .slice none 0 0]) (by simp [results, Tryz.results42, go_sem, r0, r1, r2, r3, r4]) rfl (twoQ_done rfl HB.out.2.2 HB.out.1 (by have hk := HK.out.1; have hnn := HK.out.2; rw [HS.out]; simp [hk, hnn, hxb, hyb, h1, h2, h3]))
          | false =>
            obtain ⟨t0, t1, t2, t3, t4, _⟩ := id T3.te
            obtain ⟨x0, x1, x2, x3, x4, _⟩ := id T3.tx
            obtain ⟨y0, y1, y2, y3, y4, _⟩ := id T3.ty
            go_wp2_with fail
            clear t0 t1 t2 t3 t4 x0 x1 x2 x3 x4 y0 y1 y2 y3 y4
            refine (sIs10_any _ y _ _ _ 0).mono ?_
            rintro e4 w4 ⟨rfl, g4⟩
            have T4 := T3.below g4 hhi (by have := HI.out; omega) (by have := HI.out; omega)
            have z4 := g4.size
            clear g4
            cases h4 : isTheB y 0 with
            | true =>
              obtain ⟨t0, t1, t2, t3, t4, _⟩ := id T4.te
              obtain ⟨x0, x1, x2, x3, x4, _⟩ := id T4.tx
              obtain ⟨y0, y1, y2, y3, y4, _⟩ := id T4.ty
              skip
              go_wp2_with (go_at_call 40; refine (sNum10_any _ 0).mono ?_; rintro e4n w4n ⟨rfl, g4n⟩; have T4n := T4.below g4n hhi (by have := HI.out; omega) (by have := HI.out; omega); obtain ⟨u5, hu5, F5, N5, S5, B5⟩ := fiveStore T4n.tr (.int .i64 1) (.int .i64 0) (.int .i64 0) (.int .i64 0) (.slice none 0 0); have HU5 : Hid (_ = u5) := hu5; have HB : Hid (Below w.heap.size w u5 ∧ Five u5 (w.heap.size + 1) (.int .i64 1) (.int .i64 0) (.int .i64 0) (.int .i64 0) (.slice none 0 0) ∧ EO u5 lo hi (.agg #[.int .i64 1, .int .i64 0, .int .i64 0, .int .i64 0, .slice none 0 0]) (numE 0)) := ⟨T4n.low.trans (B5.mono (by omega)), F5, eo_num _ _ _ _⟩; obtain ⟨z0, z1, z2, z3, z4, zf⟩ := id T4n.tr; have zf0 := zf 0; have zf1 := zf 1; have zf2 := zf 2; have zf3 := zf 3; have zf4 := zf 4; clear hu5 F5 N5 B5 zf)
              rw [HU5.out]
              obtain ⟨r0, r1, r2, r3, r4, _⟩ := HB.out.2.1
              exact bodyPost_ret (v := .agg #[.int .i64 1, .int .i64 0, .int .i64 0, .int .i64 0, .slice none 0 0]) (by simp [results, Tryz.results42, go_sem, r0, r1, r2, r3, r4]) rfl (twoQ_done rfl HB.out.2.2 HB.out.1 (by have hk := HK.out.1; have hnn := HK.out.2; rw [HS.out]; simp [hk, hnn, hxb, hyb, h1, h2, h3, h4]))
            | false =>
              obtain ⟨t0, t1, t2, t3, t4, _⟩ := id T4.te
              obtain ⟨x0, x1, x2, x3, x4, _⟩ := id T4.tx
              obtain ⟨y0, y1, y2, y3, y4, _⟩ := id T4.ty
              obtain ⟨u5, hu5, F5, N5, S5, B5⟩ := fiveStore T4.tr (.int .i64 e.k) (.int .i64 e.n) (.int .i64 e.ak) (.int .i64 e.at_) (.slice (some ⟨b, off, none⟩) 2 cap)
              have HU5 : Hid (_ = u5) := hu5
              have HB : Hid (Below w.heap.size w u5 ∧ Five u5 (w.heap.size + 1) (.int .i64 e.k) (.int .i64 e.n) (.int .i64 e.ak) (.int .i64 e.at_) (.slice (some ⟨b, off, none⟩) 2 cap) ∧ EO u5 lo hi (.agg #[.int .i64 e.k, .int .i64 e.n, .int .i64 e.ak, .int .i64 e.at_, .slice (some ⟨b, off, none⟩) 2 cap]) (e)) := ⟨T4.low.trans (B5.mono (by omega)), F5, ⟨_, rfl, T4.ko.kept fun k q1 q2 => N5 k (by omega)⟩⟩
              obtain ⟨z0, z1, z2, z3, z4, zf⟩ := id T4.tr
              have zf0 := zf 0
              have zf1 := zf 1
              have zf2 := zf 2
              have zf3 := zf 3
              have zf4 := zf 4
              clear hu5 F5 N5 B5 zf
              go_wp2
              rw [HU5.out]
              obtain ⟨r0, r1, r2, r3, r4, _⟩ := HB.out.2.1
              exact bodyPost_ret (v := .agg #[.int .i64 e.k, .int .i64 e.n, .int .i64 e.ak, .int .i64 e.at_, .slice (some ⟨b, off, none⟩) 2 cap]) (by simp [results, Tryz.results42, go_sem, r0, r1, r2, r3, r4]) rfl (twoQ_done rfl HB.out.2.2 HB.out.1 (by have hk := HK.out.1; have hnn := HK.out.2; rw [HS.out]; simp [hk, hnn, hxb, hyb, h1, h2, h3, h4]))
    | false =>
      go_enter Tryz.func42, Tryz.ntmps42
      go_wp2_with fail
      clear hu0 hu1 hu f0 f1 f2 f3 f4 g0 g1 g2 g3 g4 p0 p1 v0 v1 v2 v3 v4 vf0
      clear t0 t1 t2 t3 t4 x0 x1 x2 x3 x4 y0 y1 y2 y3 y4
      have hk := HK.out
      have hnn := HNF.out
      clear HK HNF
      have TT := HT.out
      have HK : Hid (e.k = 5 ∧ ¬ (x.k = 1 ∧ y.k = 1)) := ⟨hk, hnn⟩
      clear hk hnn
      refine (sIs10_any _ y _ _ _ 1).mono ?_
      rintro e1 w1 ⟨rfl, g1⟩
      have T1 := TT.below g1 hhi (by have := HI.out; omega) (by have := HI.out; omega)
      have z1 := g1.size
      clear g1
      cases h1 : isTheB y 1 with
      | true =>
        obtain ⟨t0, t1, t2, t3, t4, _⟩ := id T1.te
        obtain ⟨x0, x1, x2, x3, x4, _⟩ := id T1.tx
        obtain ⟨y0, y1, y2, y3, y4, _⟩ := id T1.ty
        obtain ⟨u5, hu5, F5, N5, S5, B5⟩ := fiveStore T1.tr (.int .i64 x.k) (.int .i64 x.n) (.int .i64 x.ak) (.int .i64 x.at_) (.slice ax x.kids.length cx)
        have HU5 : Hid (_ = u5) := hu5
        have HB : Hid (Below w.heap.size w u5 ∧ Five u5 (w.heap.size + 1) (.int .i64 x.k) (.int .i64 x.n) (.int .i64 x.ak) (.int .i64 x.at_) (.slice ax x.kids.length cx) ∧ EO u5 lo hi (.agg #[.int .i64 x.k, .int .i64 x.n, .int .i64 x.ak, .int .i64 x.at_, .slice ax x.kids.length cx]) (x)) := ⟨T1.low.trans (B5.mono (by omega)), F5, ⟨_, rfl, (T1.kx.kept fun k q1 q2 => N5 k (by have := HI.out; omega)).wide (by have := HI.out; omega) (by have := HI.out; omega)⟩⟩
        obtain ⟨z0, z1, z2, z3, z4, zf⟩ := id T1.tr
        have zf0 := zf 0
        have zf1 := zf 1
        have zf2 := zf 2
        have zf3 := zf 3
        have zf4 := zf 4
        clear hu5 F5 N5 B5 zf
        go_wp2
        rw [HU5.out]
        obtain ⟨r0, r1, r2, r3, r4, _⟩ := HB.out.2.1
        exact bodyPost_ret (v := .agg #[.int .i64 x.k, .int .i64 x.n, .int .i64 x.ak, .int .i64 x.at_, .slice ax x.kids.length cx]) (by simp [results, Tryz.results42, go_sem, r0, r1, r2, r3, r4]) rfl (twoQ_done rfl HB.out.2.2 HB.out.1 (by have hk := HK.out.1; have hnn := HK.out.2; rw [HS.out]; simp [hk, hnn, hxb, h1]))
      | false =>
        obtain ⟨t0, t1, t2, t3, t4, _⟩ := id T1.te
        obtain ⟨x0, x1, x2, x3, x4, _⟩ := id T1.tx
        obtain ⟨y0, y1, y2, y3, y4, _⟩ := id T1.ty
        go_wp2_with fail
        clear t0 t1 t2 t3 t4 x0 x1 x2 x3 x4 y0 y1 y2 y3 y4
        refine (sIs10_any _ x _ _ _ 1).mono ?_
        rintro e2 w2 ⟨rfl, g2⟩
        have T2 := T1.below g2 hhi (by have := HI.out; omega) (by have := HI.out; omega)
        have z2 := g2.size
        clear g2
        cases h2 : isTheB x 1 with
        | true =>
          obtain ⟨t0, t1, t2, t3, t4, _⟩ := id T2.te
          obtain ⟨x0, x1, x2, x3, x4, _⟩ := id T2.tx
          obtain ⟨y0, y1, y2, y3, y4, _⟩ := id T2.ty
          obtain ⟨u5, hu5, F5, N5, S5, B5⟩ := fiveStore T2.tr (.int .i64 y.k) (.int .i64 y.n) (.int .i64 y.ak) (.int .i64 y.at_) (.slice ay y.kids.length cy)
          have HU5 : Hid (_ = u5) := hu5
          have HB : Hid (Below w.heap.size w u5 ∧ Five u5 (w.heap.size + 1) (.int .i64 y.k) (.int .i64 y.n) (.int .i64 y.ak) (.int .i64 y.at_) (.slice ay y.kids.length cy) ∧ EO u5 lo hi (.agg #[.int .i64 y.k, .int .i64 y.n, .int .i64 y.ak, .int .i64 y.at_, .slice ay y.kids.length cy]) (y)) := ⟨T2.low.trans (B5.mono (by omega)), F5, ⟨_, rfl, (T2.ky.kept fun k q1 q2 => N5 k (by have := HI.out; omega)).wide (by have := HI.out; omega) (by have := HI.out; omega)⟩⟩
          obtain ⟨z0, z1, z2, z3, z4, zf⟩ := id T2.tr
          have zf0 := zf 0
          have zf1 := zf 1
          have zf2 := zf 2
          have zf3 := zf 3
          have zf4 := zf 4
          clear hu5 F5 N5 B5 zf
          go_wp2
          rw [HU5.out]
          obtain ⟨r0, r1, r2, r3, r4, _⟩ := HB.out.2.1
          exact bodyPost_ret (v := .agg #[.int .i64 y.k, .int .i64 y.n, .int .i64 y.ak, .int .i64 y.at_, .slice ay y.kids.length cy]) (by simp [results, Tryz.results42, go_sem, r0, r1, r2, r3, r4]) rfl (twoQ_done rfl HB.out.2.2 HB.out.1 (by have hk := HK.out.1; have hnn := HK.out.2; rw [HS.out]; simp [hk, hnn, hxb, h1, h2]))
        | false =>
          obtain ⟨t0, t1, t2, t3, t4, _⟩ := id T2.te
          obtain ⟨x0, x1, x2, x3, x4, _⟩ := id T2.tx
          obtain ⟨y0, y1, y2, y3, y4, _⟩ := id T2.ty
          go_wp2_with fail
          clear t0 t1 t2 t3 t4 x0 x1 x2 x3 x4 y0 y1 y2 y3 y4
          refine (sIs10_any _ x _ _ _ 0).mono ?_
          rintro e3 w3 ⟨rfl, g3⟩
          have T3 := T2.below g3 hhi (by have := HI.out; omega) (by have := HI.out; omega)
          have z3 := g3.size
          clear g3
          cases h3 : isTheB x 0 with
          | true =>
            obtain ⟨t0, t1, t2, t3, t4, _⟩ := id T3.te
            obtain ⟨x0, x1, x2, x3, x4, _⟩ := id T3.tx
            obtain ⟨y0, y1, y2, y3, y4, _⟩ := id T3.ty
            skip
            go_wp2_with (go_at_call 40; refine (sNum10_any _ 0).mono ?_; rintro e3n w3n ⟨rfl, g3n⟩; have T3n := T3.below g3n hhi (by have := HI.out; omega) (by have := HI.out; omega); obtain ⟨u5, hu5, F5, N5, S5, B5⟩ := fiveStore T3n.tr (.int .i64 1) (.int .i64 0) (.int .i64 0) (.int .i64 0) (.slice none 0 0); have HU5 : Hid (_ = u5) := hu5; have HB : Hid (Below w.heap.size w u5 ∧ Five u5 (w.heap.size + 1) (.int .i64 1) (.int .i64 0) (.int .i64 0) (.int .i64 0) (.slice none 0 0) ∧ EO u5 lo hi (.agg #[.int .i64 1, .int .i64 0, .int .i64 0, .int .i64 0, .slice none 0 0]) (numE 0)) := ⟨T3n.low.trans (B5.mono (by omega)), F5, eo_num _ _ _ _⟩; obtain ⟨z0, z1, z2, z3, z4, zf⟩ := id T3n.tr; have zf0 := zf 0; have zf1 := zf 1; have zf2 := zf 2; have zf3 := zf 3; have zf4 := zf 4; clear hu5 F5 N5 B5 zf)
            rw [HU5.out]
            obtain ⟨r0, r1, r2, r3, r4, _⟩ := HB.out.2.1
            exact bodyPost_ret (v := .agg #[.int .i64 1, .int .i64 0, .int .i64 0, .int .i64 0, .slice none 0 0]) (by simp [results, Tryz.results42, go_sem, r0, r1, r2, r3, r4]) rfl (twoQ_done rfl HB.out.2.2 HB.out.1 (by have hk := HK.out.1; have hnn := HK.out.2; rw [HS.out]; simp [hk, hnn, hxb, h1, h2, h3]))
          | false =>
            obtain ⟨t0, t1, t2, t3, t4, _⟩ := id T3.te
            obtain ⟨x0, x1, x2, x3, x4, _⟩ := id T3.tx
            obtain ⟨y0, y1, y2, y3, y4, _⟩ := id T3.ty
            go_wp2_with fail
            clear t0 t1 t2 t3 t4 x0 x1 x2 x3 x4 y0 y1 y2 y3 y4
            refine (sIs10_any _ y _ _ _ 0).mono ?_
            rintro e4 w4 ⟨rfl, g4⟩
            have T4 := T3.below g4 hhi (by have := HI.out; omega) (by have := HI.out; omega)
            have z4 := g4.size
            clear g4
            cases h4 : isTheB y 0 with
            | true =>
              obtain ⟨t0, t1, t2, t3, t4, _⟩ := id T4.te
              obtain ⟨x0, x1, x2, x3, x4, _⟩ := id T4.tx
              obtain ⟨y0, y1, y2, y3, y4, _⟩ := id T4.ty
              skip
              go_wp2_with (go_at_call 40; refine (sNum10_any _ 0).mono ?_; rintro e4n w4n ⟨rfl, g4n⟩; have T4n := T4.below g4n hhi (by have := HI.out; omega) (by have := HI.out; omega); obtain ⟨u5, hu5, F5, N5, S5, B5⟩ := fiveStore T4n.tr (.int .i64 1) (.int .i64 0) (.int .i64 0) (.int .i64 0) (.slice none 0 0); have HU5 : Hid (_ = u5) := hu5; have HB : Hid (Below w.heap.size w u5 ∧ Five u5 (w.heap.size + 1) (.int .i64 1) (.int .i64 0) (.int .i64 0) (.int .i64 0) (.slice none 0 0) ∧ EO u5 lo hi (.agg #[.int .i64 1, .int .i64 0, .int .i64 0, .int .i64 0, .slice none 0 0]) (numE 0)) := ⟨T4n.low.trans (B5.mono (by omega)), F5, eo_num _ _ _ _⟩; obtain ⟨z0, z1, z2, z3, z4, zf⟩ := id T4n.tr; have zf0 := zf 0; have zf1 := zf 1; have zf2 := zf 2; have zf3 := zf 3; have zf4 := zf 4; clear hu5 F5 N5 B5 zf)
              rw [HU5.out]
              obtain ⟨r0, r1, r2, r3, r4, _⟩ := HB.out.2.1
              exact bodyPost_ret (v := .agg #[.int .i64 1, .int .i64 0, .int .i64 0, .int .i64 0, .slice none 0 0]) (by simp [results, Tryz.results42, go_sem, r0, r1, r2, r3, r4]) rfl (twoQ_done rfl HB.out.2.2 HB.out.1 (by have hk := HK.out.1; have hnn := HK.out.2; rw [HS.out]; simp [hk, hnn, hxb, h1, h2, h3, h4]))
            | false =>
              obtain ⟨t0, t1, t2, t3, t4, _⟩ := id T4.te
              obtain ⟨x0, x1, x2, x3, x4, _⟩ := id T4.tx
              obtain ⟨y0, y1, y2, y3, y4, _⟩ := id T4.ty
              obtain ⟨u5, hu5, F5, N5, S5, B5⟩ := fiveStore T4.tr (.int .i64 e.k) (.int .i64 e.n) (.int .i64 e.ak) (.int .i64 e.at_) (.slice (some ⟨b, off, none⟩) 2 cap)
              have HU5 : Hid (_ = u5) := hu5
              have HB : Hid (Below w.heap.size w u5 ∧ Five u5 (w.heap.size + 1) (.int .i64 e.k) (.int .i64 e.n) (.int .i64 e.ak) (.int .i64 e.at_) (.slice (some ⟨b, off, none⟩) 2 cap) ∧ EO u5 lo hi (.agg #[.int .i64 e.k, .int .i64 e.n, .int .i64 e.ak, .int .i64 e.at_, .slice (some ⟨b, off, none⟩) 2 cap]) (e)) := ⟨T4.low.trans (B5.mono (by omega)), F5, ⟨_, rfl, T4.ko.kept fun k q1 q2 => N5 k (by omega)⟩⟩
              obtain ⟨z0, z1, z2, z3, z4, zf⟩ := id T4.tr
              have zf0 := zf 0
              have zf1 := zf 1
              have zf2 := zf 2
              have zf3 := zf 3
              have zf4 := zf 4
              clear hu5 F5 N5 B5 zf
              go_wp2
              rw [HU5.out]
              obtain ⟨r0, r1, r2, r3, r4, _⟩ := HB.out.2.1
              exact bodyPost_ret (v := .agg #[.int .i64 e.k, .int .i64 e.n, .int .i64 e.ak, .int .i64 e.at_, .slice (some ⟨b, off, none⟩) 2 cap]) (by simp [results, Tryz.results42, go_sem, r0, r1, r2, r3, r4]) rfl (twoQ_done rfl HB.out.2.2 HB.out.1 (by have hk := HK.out.1; have hnn := HK.out.2; rw [HS.out]; simp [hk, hnn, hxb, h1, h2, h3, h4]))
  by_cases hk : e.k = 6
  · have HNF : Hid (¬ (x.k = 1 ∧ y.k = 1)) := hnn
    have b3 : (e.k == 3) = false := by simp [hk]
    have b4 : (e.k == 4) = false := by simp [hk]
    have b5 : (e.k == 5) = false := by simp [hk]
    have b6 : (e.k == 6) = true := by simp [hk]
    have b7 : (e.k == 7) = false := by simp [hk]
    have b8 : (e.k == 8) = false := by simp [hk]
    have b9 : (e.k == 9) = false := by simp [hk]
    have HK : Hid (e.k = 6) := hk
    clear hk hnn hnum
    cases hxb : (x.k == 1) with
    | true =>
      have hyb : (y.k == 1) = false := by
        have hx1 : x.k = 1 := by simpa using hxb
        have hy1 : ¬ y.k = 1 := fun h => HNF.out ⟨hx1, h⟩
        simp [hy1]
      go_enter Tryz.func42, Tryz.ntmps42
      go_wp2_with fail
      clear hu0 hu1 hu f0 f1 f2 f3 f4 g0 g1 g2 g3 g4 p0 p1 v0 v1 v2 v3 v4 vf0
      clear t0 t1 t2 t3 t4 x0 x1 x2 x3 x4 y0 y1 y2 y3 y4
      have hk := HK.out
      have hnn := HNF.out
      clear HK HNF
      have TT := HT.out
      have HK : Hid (e.k = 6 ∧ ¬ (x.k = 1 ∧ y.k = 1)) := ⟨hk, hnn⟩
      clear hk hnn
      refine (sAlike_bool _ lx hx ly hy _ _ x y ⟨_, rfl, TT.kx.kr⟩ ⟨_, rfl, TT.ky.kr⟩ (by have := HI.out; have := TT.size; omega) (by have := HI.out; have := TT.size; omega)).mono ?_
      rintro e1 w1 ⟨rfl, g1⟩
      have T1 := TT.below g1 hhi (by have := HI.out; omega) (by have := HI.out; omega)
      have z1 := g1.size
      clear g1
      cases h1 : sameE x y with
      | true =>
        obtain ⟨t0, t1, t2, t3, t4, _⟩ := id T1.te
        obtain ⟨x0, x1, x2, x3, x4, _⟩ := id T1.tx
        obtain ⟨y0, y1, y2, y3, y4, _⟩ := id T1.ty
        skip
        go_wp2_with (go_at_call 40; refine (sNum10_any _ 0).mono ?_; rintro e1n w1n ⟨rfl, g1n⟩; have T1n := T1.below g1n hhi (by have := HI.out; omega) (by have := HI.out; omega); obtain ⟨u5, hu5, F5, N5, S5, B5⟩ := fiveStore T1n.tr (.int .i64 1) (.int .i64 0) (.int .i64 0) (.int .i64 0) (.slice none 0 0); have HU5 : Hid (_ = u5) := hu5; have HB : Hid (Below w.heap.size w u5 ∧ Five u5 (w.heap.size + 1) (.int .i64 1) (.int .i64 0) (.int .i64 0) (.int .i64 0) (.slice none 0 0) ∧ EO u5 lo hi (.agg #[.int .i64 1, .int .i64 0, .int .i64 0, .int .i64 0, .slice none 0 0]) (numE 0)) := ⟨T1n.low.trans (B5.mono (by omega)), F5, eo_num _ _ _ _⟩; obtain ⟨z0, z1, z2, z3, z4, zf⟩ := id T1n.tr; have zf0 := zf 0; have zf1 := zf 1; have zf2 := zf 2; have zf3 := zf 3; have zf4 := zf 4; clear hu5 F5 N5 B5 zf)
        rw [HU5.out]
        obtain ⟨r0, r1, r2, r3, r4, _⟩ := HB.out.2.1
        exact bodyPost_ret (v := .agg #[.int .i64 1, .int .i64 0, .int .i64 0, .int .i64 0, .slice none 0 0]) (by simp [results, Tryz.results42, go_sem, r0, r1, r2, r3, r4]) rfl (twoQ_done rfl HB.out.2.2 HB.out.1 (by have hk := HK.out.1; have hnn := HK.out.2; rw [HS.out]; simp [hk, hnn, hxb, hyb, h1]))
      | false =>
        obtain ⟨t0, t1, t2, t3, t4, _⟩ := id T1.te
        obtain ⟨x0, x1, x2, x3, x4, _⟩ := id T1.tx
        obtain ⟨y0, y1, y2, y3, y4, _⟩ := id T1.ty
        obtain ⟨u5, hu5, F5, N5, S5, B5⟩ := fiveStore T1.tr (.int .i64 e.k) (.int .i64 e.n) (.int .i64 e.ak) (.int .i64 e.at_) (.slice (some ⟨b, off, none⟩) 2 cap)
        have HU5 : Hid (_ = u5) := hu5
        have HB : Hid (Below w.heap.size w u5 ∧ Five u5 (w.heap.size + 1) (.int .i64 e.k) (.int .i64 e.n) (.int .i64 e.ak) (.int .i64 e.at_) (.slice (some ⟨b, off, none⟩) 2 cap) ∧ EO u5 lo hi (.agg #[.int .i64 e.k, .int .i64 e.n, .int .i64 e.ak, .int .i64 e.at_, .slice (some ⟨b, off, none⟩) 2 cap]) (e)) := ⟨T1.low.trans (B5.mono (by omega)), F5, ⟨_, rfl, T1.ko.kept fun k q1 q2 => N5 k (by omega)⟩⟩
        obtain ⟨z0, z1, z2, z3, z4, zf⟩ := id T1.tr
        have zf0 := zf 0
        have zf1 := zf 1
        have zf2 := zf 2
        have zf3 := zf 3
        have zf4 := zf 4
        clear hu5 F5 N5 B5 zf
        go_wp2
        rw [HU5.out]
        obtain ⟨r0, r1, r2, r3, r4, _⟩ := HB.out.2.1
        exact bodyPost_ret (v := .agg #[.int .i64 e.k, .int .i64 e.n, .int .i64 e.ak, .int .i64 e.at_, .slice (some ⟨b, off, none⟩) 2 cap]) (by simp [results, Tryz.results42, go_sem, r0, r1, r2, r3, r4]) rfl (twoQ_done rfl HB.out.2.2 HB.out.1 (by have hk := HK.out.1; have hnn := HK.out.2; rw [HS.out]; simp [hk, hnn, hxb, hyb, h1]))
    | false =>
      go_enter Tryz.func42, Tryz.ntmps42
      go_wp2_with fail
      clear hu0 hu1 hu f0 f1 f2 f3 f4 g0 g1 g2 g3 g4 p0 p1 v0 v1 v2 v3 v4 vf0
      clear t0 t1 t2 t3 t4 x0 x1 x2 x3 x4 y0 y1 y2 y3 y4
      have hk := HK.out
      have hnn := HNF.out
      clear HK HNF
      have TT := HT.out
      have HK : Hid (e.k = 6 ∧ ¬ (x.k = 1 ∧ y.k = 1)) := ⟨hk, hnn⟩
      clear hk hnn
      refine (sAlike_bool _ lx hx ly hy _ _ x y ⟨_, rfl, TT.kx.kr⟩ ⟨_, rfl, TT.ky.kr⟩ (by have := HI.out; have := TT.size; omega) (by have := HI.out; have := TT.size; omega)).mono ?_
      rintro e1 w1 ⟨rfl, g1⟩
      have T1 := TT.below g1 hhi (by have := HI.out; omega) (by have := HI.out; omega)
      have z1 := g1.size
      clear g1
      cases h1 : sameE x y with
      | true =>
        obtain ⟨t0, t1, t2, t3, t4, _⟩ := id T1.te
        obtain ⟨x0, x1, x2, x3, x4, _⟩ := id T1.tx
        obtain ⟨y0, y1, y2, y3, y4, _⟩ := id T1.ty
        skip
        go_wp2_with (go_at_call 40; refine (sNum10_any _ 0).mono ?_; rintro e1n w1n ⟨rfl, g1n⟩; have T1n := T1.below g1n hhi (by have := HI.out; omega) (by have := HI.out; omega); obtain ⟨u5, hu5, F5, N5, S5, B5⟩ := fiveStore T1n.tr (.int .i64 1) (.int .i64 0) (.int .i64 0) (.int .i64 0) (.slice none 0 0); have HU5 : Hid (_ = u5) := hu5; have HB : Hid (Below w.heap.size w u5 ∧ Five u5 (w.heap.size + 1) (.int .i64 1) (.int .i64 0) (.int .i64 0) (.int .i64 0) (.slice none 0 0) ∧ EO u5 lo hi (.agg #[.int .i64 1, .int .i64 0, .int .i64 0, .int .i64 0, .slice none 0 0]) (numE 0)) := ⟨T1n.low.trans (B5.mono (by omega)), F5, eo_num _ _ _ _⟩; obtain ⟨z0, z1, z2, z3, z4, zf⟩ := id T1n.tr; have zf0 := zf 0; have zf1 := zf 1; have zf2 := zf 2; have zf3 := zf 3; have zf4 := zf 4; clear hu5 F5 N5 B5 zf)
        rw [HU5.out]
        obtain ⟨r0, r1, r2, r3, r4, _⟩ := HB.out.2.1
        exact bodyPost_ret (v := .agg #[.int .i64 1, .int .i64 0, .int .i64 0, .int .i64 0, .slice none 0 0]) (by simp [results, Tryz.results42, go_sem, r0, r1, r2, r3, r4]) rfl (twoQ_done rfl HB.out.2.2 HB.out.1 (by have hk := HK.out.1; have hnn := HK.out.2; rw [HS.out]; simp [hk, hnn, hxb, h1]))
      | false =>
        obtain ⟨t0, t1, t2, t3, t4, _⟩ := id T1.te
        obtain ⟨x0, x1, x2, x3, x4, _⟩ := id T1.tx
        obtain ⟨y0, y1, y2, y3, y4, _⟩ := id T1.ty
        obtain ⟨u5, hu5, F5, N5, S5, B5⟩ := fiveStore T1.tr (.int .i64 e.k) (.int .i64 e.n) (.int .i64 e.ak) (.int .i64 e.at_) (.slice (some ⟨b, off, none⟩) 2 cap)
        have HU5 : Hid (_ = u5) := hu5
        have HB : Hid (Below w.heap.size w u5 ∧ Five u5 (w.heap.size + 1) (.int .i64 e.k) (.int .i64 e.n) (.int .i64 e.ak) (.int .i64 e.at_) (.slice (some ⟨b, off, none⟩) 2 cap) ∧ EO u5 lo hi (.agg #[.int .i64 e.k, .int .i64 e.n, .int .i64 e.ak, .int .i64 e.at_, .slice (some ⟨b, off, none⟩) 2 cap]) (e)) := ⟨T1.low.trans (B5.mono (by omega)), F5, ⟨_, rfl, T1.ko.kept fun k q1 q2 => N5 k (by omega)⟩⟩
        obtain ⟨z0, z1, z2, z3, z4, zf⟩ := id T1.tr
        have zf0 := zf 0
        have zf1 := zf 1
        have zf2 := zf 2
        have zf3 := zf 3
        have zf4 := zf 4
        clear hu5 F5 N5 B5 zf
        go_wp2
        rw [HU5.out]
        obtain ⟨r0, r1, r2, r3, r4, _⟩ := HB.out.2.1
        exact bodyPost_ret (v := .agg #[.int .i64 e.k, .int .i64 e.n, .int .i64 e.ak, .int .i64 e.at_, .slice (some ⟨b, off, none⟩) 2 cap]) (by simp [results, Tryz.results42, go_sem, r0, r1, r2, r3, r4]) rfl (twoQ_done rfl HB.out.2.2 HB.out.1 (by have hk := HK.out.1; have hnn := HK.out.2; rw [HS.out]; simp [hk, hnn, hxb, h1]))
  by_cases hk : e.k = 7
  · have HNF : Hid (¬ (x.k = 1 ∧ y.k = 1)) := hnn
    have b3 : (e.k == 3) = false := by simp [hk]
    have b4 : (e.k == 4) = false := by simp [hk]
    have b5 : (e.k == 5) = false := by simp [hk]
    have b6 : (e.k == 6) = false := by simp [hk]
    have b7 : (e.k == 7) = true := by simp [hk]
    have b8 : (e.k == 8) = false := by simp [hk]
    have b9 : (e.k == 9) = false := by simp [hk]
    have HK : Hid (e.k = 7) := hk
    clear hk hnn hnum
    cases hxb : (x.k == 1) with
    | true =>
      have hyb : (y.k == 1) = false := by
        have hx1 : x.k = 1 := by simpa using hxb
        have hy1 : ¬ y.k = 1 := fun h => HNF.out ⟨hx1, h⟩
        simp [hy1]
      go_enter Tryz.func42, Tryz.ntmps42
      go_wp2_with fail
      clear hu0 hu1 hu f0 f1 f2 f3 f4 g0 g1 g2 g3 g4 p0 p1 v0 v1 v2 v3 v4 vf0
      clear t0 t1 t2 t3 t4 x0 x1 x2 x3 x4 y0 y1 y2 y3 y4
      have hk := HK.out
      have hnn := HNF.out
      clear HK HNF
      have TT := HT.out
      have HK : Hid (e.k = 7 ∧ ¬ (x.k = 1 ∧ y.k = 1)) := ⟨hk, hnn⟩
      clear hk hnn
      refine (sAlike_bool _ lx hx ly hy _ _ x y ⟨_, rfl, TT.kx.kr⟩ ⟨_, rfl, TT.ky.kr⟩ (by have := HI.out; have := TT.size; omega) (by have := HI.out; have := TT.size; omega)).mono ?_
      rintro e1 w1 ⟨rfl, g1⟩
      have T1 := TT.below g1 hhi (by have := HI.out; omega) (by have := HI.out; omega)
      have z1 := g1.size
      clear g1
      cases h1 : sameE x y with
      | true =>
        obtain ⟨t0, t1, t2, t3, t4, _⟩ := id T1.te
        obtain ⟨x0, x1, x2, x3, x4, _⟩ := id T1.tx
        obtain ⟨y0, y1, y2, y3, y4, _⟩ := id T1.ty
        skip
        go_wp2_with (go_at_call 40; refine (sNum10_any _ 1).mono ?_; rintro e1n w1n ⟨rfl, g1n⟩; have T1n := T1.below g1n hhi (by have := HI.out; omega) (by have := HI.out; omega); obtain ⟨u5, hu5, F5, N5, S5, B5⟩ := fiveStore T1n.tr (.int .i64 1) (.int .i64 1) (.int .i64 0) (.int .i64 0) (.slice none 0 0); have HU5 : Hid (_ = u5) := hu5; have HB : Hid (Below w.heap.size w u5 ∧ Five u5 (w.heap.size + 1) (.int .i64 1) (.int .i64 1) (.int .i64 0) (.int .i64 0) (.slice none 0 0) ∧ EO u5 lo hi (.agg #[.int .i64 1, .int .i64 1, .int .i64 0, .int .i64 0, .slice none 0 0]) (numE 1)) := ⟨T1n.low.trans (B5.mono (by omega)), F5, eo_num _ _ _ _⟩; obtain ⟨z0, z1, z2, z3, z4, zf⟩ := id T1n.tr; have zf0 := zf 0; have zf1 := zf 1; have zf2 := zf 2; have zf3 := zf 3; have zf4 := zf 4; clear hu5 F5 N5 B5 zf)
        rw [HU5.out]
        obtain ⟨r0, r1, r2, r3, r4, _⟩ := HB.out.2.1
        exact bodyPost_ret (v := .agg #[.int .i64 1, .int .i64 1, .int .i64 0, .int .i64 0, .slice none 0 0]) (by simp [results, Tryz.results42, go_sem, r0, r1, r2, r3, r4]) rfl (twoQ_done rfl HB.out.2.2 HB.out.1 (by have hk := HK.out.1; have hnn := HK.out.2; rw [HS.out]; simp [hk, hnn, hxb, hyb, h1]))
      | false =>
        obtain ⟨t0, t1, t2, t3, t4, _⟩ := id T1.te
        obtain ⟨x0, x1, x2, x3, x4, _⟩ := id T1.tx
        obtain ⟨y0, y1, y2, y3, y4, _⟩ := id T1.ty
        obtain ⟨u5, hu5, F5, N5, S5, B5⟩ := fiveStore T1.tr (.int .i64 e.k) (.int .i64 e.n) (.int .i64 e.ak) (.int .i64 e.at_) (.slice (some ⟨b, off, none⟩) 2 cap)
        have HU5 : Hid (_ = u5) := hu5
        have HB : Hid (Below w.heap.size w u5 ∧ Five u5 (w.heap.size + 1) (.int .i64 e.k) (.int .i64 e.n) (.int .i64 e.ak) (.int .i64 e.at_) (.slice (some ⟨b, off, none⟩) 2 cap) ∧ EO u5 lo hi (.agg #[.int .i64 e.k, .int .i64 e.n, .int .i64 e.ak, .int .i64 e.at_, .slice (some ⟨b, off, none⟩) 2 cap]) (e)) := ⟨T1.low.trans (B5.mono (by omega)), F5, ⟨_, rfl, T1.ko.kept fun k q1 q2 => N5 k (by omega)⟩⟩
        obtain ⟨z0, z1, z2, z3, z4, zf⟩ := id T1.tr
        have zf0 := zf 0
        have zf1 := zf 1
        have zf2 := zf 2
        have zf3 := zf 3
        have zf4 := zf 4
        clear hu5 F5 N5 B5 zf
        go_wp2
        rw [HU5.out]
        obtain ⟨r0, r1, r2, r3, r4, _⟩ := HB.out.2.1
        exact bodyPost_ret (v := .agg #[.int .i64 e.k, .int .i64 e.n, .int .i64 e.ak, .int .i64 e.at_, .slice (some ⟨b, off, none⟩) 2 cap]) (by simp [results, Tryz.results42, go_sem, r0, r1, r2, r3, r4]) rfl (twoQ_done rfl HB.out.2.2 HB.out.1 (by have hk := HK.out.1; have hnn := HK.out.2; rw [HS.out]; simp [hk, hnn, hxb, hyb, h1]))
    | false =>
      go_enter Tryz.func42, Tryz.ntmps42
      go_wp2_with fail
      clear hu0 hu1 hu f0 f1 f2 f3 f4 g0 g1 g2 g3 g4 p0 p1 v0 v1 v2 v3 v4 vf0
      clear t0 t1 t2 t3 t4 x0 x1 x2 x3 x4 y0 y1 y2 y3 y4
      have hk := HK.out
      have hnn := HNF.out
      clear HK HNF
      have TT := HT.out
      have HK : Hid (e.k = 7 ∧ ¬ (x.k = 1 ∧ y.k = 1)) := ⟨hk, hnn⟩
      clear hk hnn
      refine (sAlike_bool _ lx hx ly hy _ _ x y ⟨_, rfl, TT.kx.kr⟩ ⟨_, rfl, TT.ky.kr⟩ (by have := HI.out; have := TT.size; omega) (by have := HI.out; have := TT.size; omega)).mono ?_
      rintro e1 w1 ⟨rfl, g1⟩
      have T1 := TT.below g1 hhi (by have := HI.out; omega) (by have := HI.out; omega)
      have z1 := g1.size
      clear g1
      cases h1 : sameE x y with
      | true =>
        obtain ⟨t0, t1, t2, t3, t4, _⟩ := id T1.te
        obtain ⟨x0, x1, x2, x3, x4, _⟩ := id T1.tx
        obtain ⟨y0, y1, y2, y3, y4, _⟩ := id T1.ty
        skip
        go_wp2_with (go_at_call 40; refine (sNum10_any _ 1).mono ?_; rintro e1n w1n ⟨rfl, g1n⟩; have T1n := T1.below g1n hhi (by have := HI.out; omega) (by have := HI.out; omega); obtain ⟨u5, hu5, F5, N5, S5, B5⟩ := fiveStore T1n.tr (.int .i64 1) (.int .i64 1) (.int .i64 0) (.int .i64 0) (.slice none 0 0); have HU5 : Hid (_ = u5) := hu5; have HB : Hid (Below w.heap.size w u5 ∧ Five u5 (w.heap.size + 1) (.int .i64 1) (.int .i64 1) (.int .i64 0) (.int .i64 0) (.slice none 0 0) ∧ EO u5 lo hi (.agg #[.int .i64 1, .int .i64 1, .int .i64 0, .int .i64 0, .slice none 0 0]) (numE 1)) := ⟨T1n.low.trans (B5.mono (by omega)), F5, eo_num _ _ _ _⟩; obtain ⟨z0, z1, z2, z3, z4, zf⟩ := id T1n.tr; have zf0 := zf 0; have zf1 := zf 1; have zf2 := zf 2; have zf3 := zf 3; have zf4 := zf 4; clear hu5 F5 N5 B5 zf)
        rw [HU5.out]
        obtain ⟨r0, r1, r2, r3, r4, _⟩ := HB.out.2.1
        exact bodyPost_ret (v := .agg #[.int .i64 1, .int .i64 1, .int .i64 0, .int .i64 0, .slice none 0 0]) (by simp [results, Tryz.results42, go_sem, r0, r1, r2, r3, r4]) rfl (twoQ_done rfl HB.out.2.2 HB.out.1 (by have hk := HK.out.1; have hnn := HK.out.2; rw [HS.out]; simp [hk, hnn, hxb, h1]))
      | false =>
        obtain ⟨t0, t1, t2, t3, t4, _⟩ := id T1.te
        obtain ⟨x0, x1, x2, x3, x4, _⟩ := id T1.tx
        obtain ⟨y0, y1, y2, y3, y4, _⟩ := id T1.ty
        obtain ⟨u5, hu5, F5, N5, S5, B5⟩ := fiveStore T1.tr (.int .i64 e.k) (.int .i64 e.n) (.int .i64 e.ak) (.int .i64 e.at_) (.slice (some ⟨b, off, none⟩) 2 cap)
        have HU5 : Hid (_ = u5) := hu5
        have HB : Hid (Below w.heap.size w u5 ∧ Five u5 (w.heap.size + 1) (.int .i64 e.k) (.int .i64 e.n) (.int .i64 e.ak) (.int .i64 e.at_) (.slice (some ⟨b, off, none⟩) 2 cap) ∧ EO u5 lo hi (.agg #[.int .i64 e.k, .int .i64 e.n, .int .i64 e.ak, .int .i64 e.at_, .slice (some ⟨b, off, none⟩) 2 cap]) (e)) := ⟨T1.low.trans (B5.mono (by omega)), F5, ⟨_, rfl, T1.ko.kept fun k q1 q2 => N5 k (by omega)⟩⟩
        obtain ⟨z0, z1, z2, z3, z4, zf⟩ := id T1.tr
        have zf0 := zf 0
        have zf1 := zf 1
        have zf2 := zf 2
        have zf3 := zf 3
        have zf4 := zf 4
        clear hu5 F5 N5 B5 zf
        go_wp2
        rw [HU5.out]
        obtain ⟨r0, r1, r2, r3, r4, _⟩ := HB.out.2.1
        exact bodyPost_ret (v := .agg #[.int .i64 e.k, .int .i64 e.n, .int .i64 e.ak, .int .i64 e.at_, .slice (some ⟨b, off, none⟩) 2 cap]) (by simp [results, Tryz.results42, go_sem, r0, r1, r2, r3, r4]) rfl (twoQ_done rfl HB.out.2.2 HB.out.1 (by have hk := HK.out.1; have hnn := HK.out.2; rw [HS.out]; simp [hk, hnn, hxb, h1]))
  by_cases hk : e.k = 8
  · have HNF : Hid (¬ (x.k = 1 ∧ y.k = 1)) := hnn
    have b3 : (e.k == 3) = false := by simp [hk]
    have b4 : (e.k == 4) = false := by simp [hk]
    have b5 : (e.k == 5) = false := by simp [hk]
    have b6 : (e.k == 6) = false := by simp [hk]
    have b7 : (e.k == 7) = false := by simp [hk]
    have b8 : (e.k == 8) = true := by simp [hk]
    have b9 : (e.k == 9) = false := by simp [hk]
    have HK : Hid (e.k = 8) := hk
    clear hk hnn hnum
    cases hxb : (x.k == 1) with
    | true =>
      have hyb : (y.k == 1) = false := by
        have hx1 : x.k = 1 := by simpa using hxb
        have hy1 : ¬ y.k = 1 := fun h => HNF.out ⟨hx1, h⟩
        simp [hy1]
      go_enter Tryz.func42, Tryz.ntmps42
      go_wp2_with fail
      clear hu0 hu1 hu f0 f1 f2 f3 f4 g0 g1 g2 g3 g4 p0 p1 v0 v1 v2 v3 v4 vf0
      clear t0 t1 t2 t3 t4 x0 x1 x2 x3 x4 y0 y1 y2 y3 y4
      have hk := HK.out
      have hnn := HNF.out
      clear HK HNF
      have TT := HT.out
      have HK : Hid (e.k = 8 ∧ ¬ (x.k = 1 ∧ y.k = 1)) := ⟨hk, hnn⟩
      clear hk hnn
      refine (sIs10_any _ x _ _ _ 0).mono ?_
      rintro e1 w1 ⟨rfl, g1⟩
      have T1 := TT.below g1 hhi (by have := HI.out; omega) (by have := HI.out; omega)
      have z1 := g1.size
      clear g1
      cases h1 : isTheB x 0 with
      | true =>
        obtain ⟨t0, t1, t2, t3, t4, _⟩ := id T1.te
        obtain ⟨x0, x1, x2, x3, x4, _⟩ := id T1.tx
        obtain ⟨y0, y1, y2, y3, y4, _⟩ := id T1.ty
        skip
        go_wp2_with (go_at_call 40; refine (sNum10_any _ 0).mono ?_; rintro e1n w1n ⟨rfl, g1n⟩; have T1n := T1.below g1n hhi (by have := HI.out; omega) (by have := HI.out; omega); obtain ⟨u5, hu5, F5, N5, S5, B5⟩ := fiveStore T1n.tr (.int .i64 1) (.int .i64 0) (.int .i64 0) (.int .i64 0) (.slice none 0 0); have HU5 : Hid (_ = u5) := hu5; have HB : Hid (Below w.heap.size w u5 ∧ Five u5 (w.heap.size + 1) (.int .i64 1) (.int .i64 0) (.int .i64 0) (.int .i64 0) (.slice none 0 0) ∧ EO u5 lo hi (.agg #[.int .i64 1, .int .i64 0, .int .i64 0, .int .i64 0, .slice none 0 0]) (numE 0)) := ⟨T1n.low.trans (B5.mono (by omega)), F5, eo_num _ _ _ _⟩; obtain ⟨z0, z1, z2, z3, z4, zf⟩ := id T1n.tr; have zf0 := zf 0; have zf1 := zf 1; have zf2 := zf 2; have zf3 := zf 3; have zf4 := zf 4; clear hu5 F5 N5 B5 zf)
        rw [HU5.out]
        obtain ⟨r0, r1, r2, r3, r4, _⟩ := HB.out.2.1
        exact bodyPost_ret (v := .agg #[.int .i64 1, .int .i64 0, .int .i64 0, .int .i64 0, .slice none 0 0]) (by simp [results, Tryz.results42, go_sem, r0, r1, r2, r3, r4]) rfl (twoQ_done rfl HB.out.2.2 HB.out.1 (by have hk := HK.out.1; have hnn := HK.out.2; rw [HS.out]; simp [hk, hnn, hxb, hyb, h1]))
      | false =>
        obtain ⟨t0, t1, t2, t3, t4, _⟩ := id T1.te
        obtain ⟨x0, x1, x2, x3, x4, _⟩ := id T1.tx
        obtain ⟨y0, y1, y2, y3, y4, _⟩ := id T1.ty
        go_wp2_with fail
        clear t0 t1 t2 t3 t4 x0 x1 x2 x3 x4 y0 y1 y2 y3 y4
        refine (sIs10_any _ y _ _ _ 0).mono ?_
        rintro e2 w2 ⟨rfl, g2⟩
        have T2 := T1.below g2 hhi (by have := HI.out; omega) (by have := HI.out; omega)
        have z2 := g2.size
        clear g2
        cases h2 : isTheB y 0 with
        | true =>
          obtain ⟨t0, t1, t2, t3, t4, _⟩ := id T2.te
          obtain ⟨x0, x1, x2, x3, x4, _⟩ := id T2.tx
          obtain ⟨y0, y1, y2, y3, y4, _⟩ := id T2.ty
          skip
          go_wp2_with (go_at_call 40; refine (sNum10_any _ 0).mono ?_; rintro e2n w2n ⟨rfl, g2n⟩; have T2n := T2.below g2n hhi (by have := HI.out; omega) (by have := HI.out; omega); obtain ⟨u5, hu5, F5, N5, S5, B5⟩ := fiveStore T2n.tr (.int .i64 1) (.int .i64 0) (.int .i64 0) (.int .i64 0) (.slice none 0 0); have HU5 : Hid (_ = u5) := hu5; have HB : Hid (Below w.heap.size w u5 ∧ Five u5 (w.heap.size + 1) (.int .i64 1) (.int .i64 0) (.int .i64 0) (.int .i64 0) (.slice none 0 0) ∧ EO u5 lo hi (.agg #[.int .i64 1, .int .i64 0, .int .i64 0, .int .i64 0, .slice none 0 0]) (numE 0)) := ⟨T2n.low.trans (B5.mono (by omega)), F5, eo_num _ _ _ _⟩; obtain ⟨z0, z1, z2, z3, z4, zf⟩ := id T2n.tr; have zf0 := zf 0; have zf1 := zf 1; have zf2 := zf 2; have zf3 := zf 3; have zf4 := zf 4; clear hu5 F5 N5 B5 zf)
          rw [HU5.out]
          obtain ⟨r0, r1, r2, r3, r4, _⟩ := HB.out.2.1
          exact bodyPost_ret (v := .agg #[.int .i64 1, .int .i64 0, .int .i64 0, .int .i64 0, .slice none 0 0]) (by simp [results, Tryz.results42, go_sem, r0, r1, r2, r3, r4]) rfl (twoQ_done rfl HB.out.2.2 HB.out.1 (by have hk := HK.out.1; have hnn := HK.out.2; rw [HS.out]; simp [hk, hnn, hxb, hyb, h1, h2]))
        | false =>
          obtain ⟨t0, t1, t2, t3, t4, _⟩ := id T2.te
          obtain ⟨x0, x1, x2, x3, x4, _⟩ := id T2.tx
          obtain ⟨y0, y1, y2, y3, y4, _⟩ := id T2.ty
          obtain ⟨u5, hu5, F5, N5, S5, B5⟩ := fiveStore T2.tr (.int .i64 e.k) (.int .i64 e.n) (.int .i64 e.ak) (.int .i64 e.at_) (.slice (some ⟨b, off, none⟩) 2 cap)
          have HU5 : Hid (_ = u5) := hu5
          have HB : Hid (Below w.heap.size w u5 ∧ Five u5 (w.heap.size + 1) (.int .i64 e.k) (.int .i64 e.n) (.int .i64 e.ak) (.int .i64 e.at_) (.slice (some ⟨b, off, none⟩) 2 cap) ∧ EO u5 lo hi (.agg #[.int .i64 e.k, .int .i64 e.n, .int .i64 e.ak, .int .i64 e.at_, .slice (some ⟨b, off, none⟩) 2 cap]) (e)) := ⟨T2.low.trans (B5.mono (by omega)), F5, ⟨_, rfl, T2.ko.kept fun k q1 q2 => N5 k (by omega)⟩⟩
          obtain ⟨z0, z1, z2, z3, z4, zf⟩ := id T2.tr
          have zf0 := zf 0
          have zf1 := zf 1
          have zf2 := zf 2
          have zf3 := zf 3
          have zf4 := zf 4
          clear hu5 F5 N5 B5 zf
          go_wp2
          rw [HU5.out]
          obtain ⟨r0, r1, r2, r3, r4, _⟩ := HB.out.2.1
          exact bodyPost_ret (v := .agg #[.int .i64 e.k, .int .i64 e.n, .int .i64 e.ak, .int .i64 e.at_, .slice (some ⟨b, off, none⟩) 2 cap]) (by simp [results, Tryz.results42, go_sem, r0, r1, r2, r3, r4]) rfl (twoQ_done rfl HB.out.2.2 HB.out.1 (by have hk := HK.out.1; have hnn := HK.out.2; rw [HS.out]; simp [hk, hnn, hxb, hyb, h1, h2]))
    | false =>
      go_enter Tryz.func42, Tryz.ntmps42
      go_wp2_with fail
      clear hu0 hu1 hu f0 f1 f2 f3 f4 g0 g1 g2 g3 g4 p0 p1 v0 v1 v2 v3 v4 vf0
      clear t0 t1 t2 t3 t4 x0 x1 x2 x3 x4 y0 y1 y2 y3 y4
      have hk := HK.out
      have hnn := HNF.out
      clear HK HNF
      have TT := HT.out
      have HK : Hid (e.k = 8 ∧ ¬ (x.k = 1 ∧ y.k = 1)) := ⟨hk, hnn⟩
      clear hk hnn
      refine (sIs10_any _ x _ _ _ 0).mono ?_
      rintro e1 w1 ⟨rfl, g1⟩
      have T1 := TT.below g1 hhi (by have := HI.out; omega) (by have := HI.out; omega)
      have z1 := g1.size
      clear g1
      cases h1 : isTheB x 0 with
      | true =>
        obtain ⟨t0, t1, t2, t3, t4, _⟩ := id T1.te
        obtain ⟨x0, x1, x2, x3, x4, _⟩ := id T1.tx
        obtain ⟨y0, y1, y2, y3, y4, _⟩ := id T1.ty
        skip
        go_wp2_with (go_at_call 40; refine (sNum10_any _ 0).mono ?_; rintro e1n w1n ⟨rfl, g1n⟩; have T1n := T1.below g1n hhi (by have := HI.out; omega) (by have := HI.out; omega); obtain ⟨u5, hu5, F5, N5, S5, B5⟩ := fiveStore T1n.tr (.int .i64 1) (.int .i64 0) (.int .i64 0) (.int .i64 0) (.slice none 0 0); have HU5 : Hid (_ = u5) := hu5; have HB : Hid (Below w.heap.size w u5 ∧ Five u5 (w.heap.size + 1) (.int .i64 1) (.int .i64 0) (.int .i64 0) (.int .i64 0) (.slice none 0 0) ∧ EO u5 lo hi (.agg #[.int .i64 1, .int .i64 0, .int .i64 0, .int .i64 0, .slice none 0 0]) (numE 0)) := ⟨T1n.low.trans (B5.mono (by omega)), F5, eo_num _ _ _ _⟩; obtain ⟨z0, z1, z2, z3, z4, zf⟩ := id T1n.tr; have zf0 := zf 0; have zf1 := zf 1; have zf2 := zf 2; have zf3 := zf 3; have zf4 := zf 4; clear hu5 F5 N5 B5 zf)
        rw [HU5.out]
        obtain ⟨r0, r1, r2, r3, r4, _⟩ := HB.out.2.1
        exact bodyPost_ret (v := .agg #[.int .i64 1, .int .i64 0, .int .i64 0, .int .i64 0, .slice none 0 0]) (by simp [results, Tryz.results42, go_sem, r0, r1, r2, r3, r4]) rfl (twoQ_done rfl HB.out.2.2 HB.out.1 (by have hk := HK.out.1; have hnn := HK.out.2; rw [HS.out]; simp [hk, hnn, hxb, h1]))
      | false =>
        obtain ⟨t0, t1, t2, t3, t4, _⟩ := id T1.te
        obtain ⟨x0, x1, x2, x3, x4, _⟩ := id T1.tx
        obtain ⟨y0, y1, y2, y3, y4, _⟩ := id T1.ty
        go_wp2_with fail
        clear t0 t1 t2 t3 t4 x0 x1 x2 x3 x4 y0 y1 y2 y3 y4
        refine (sIs10_any _ y _ _ _ 0).mono ?_
        rintro e2 w2 ⟨rfl, g2⟩
        have T2 := T1.below g2 hhi (by have := HI.out; omega) (by have := HI.out; omega)
        have z2 := g2.size
        clear g2
        cases h2 : isTheB y 0 with
        | true =>
          obtain ⟨t0, t1, t2, t3, t4, _⟩ := id T2.te
          obtain ⟨x0, x1, x2, x3, x4, _⟩ := id T2.tx
          obtain ⟨y0, y1, y2, y3, y4, _⟩ := id T2.ty
          skip
          go_wp2_with (go_at_call 40; refine (sNum10_any _ 0).mono ?_; rintro e2n w2n ⟨rfl, g2n⟩; have T2n := T2.below g2n hhi (by have := HI.out; omega) (by have := HI.out; omega); obtain ⟨u5, hu5, F5, N5, S5, B5⟩ := fiveStore T2n.tr (.int .i64 1) (.int .i64 0) (.int .i64 0) (.int .i64 0) (.slice none 0 0); have HU5 : Hid (_ = u5) := hu5; have HB : Hid (Below w.heap.size w u5 ∧ Five u5 (w.heap.size + 1) (.int .i64 1) (.int .i64 0) (.int .i64 0) (.int .i64 0) (.slice none 0 0) ∧ EO u5 lo hi (.agg #[.int .i64 1, .int .i64 0, .int .i64 0, .int .i64 0, .slice none 0 0]) (numE 0)) := ⟨T2n.low.trans (B5.mono (by omega)), F5, eo_num _ _ _ _⟩; obtain ⟨z0, z1, z2, z3, z4, zf⟩ := id T2n.tr; have zf0 := zf 0; have zf1 := zf 1; have zf2 := zf 2; have zf3 := zf 3; have zf4 := zf 4; clear hu5 F5 N5 B5 zf)
          rw [HU5.out]
          obtain ⟨r0, r1, r2, r3, r4, _⟩ := HB.out.2.1
          exact bodyPost_ret (v := .agg #[.int .i64 1, .int .i64 0, .int .i64 0, .int .i64 0, .slice none 0 0]) (by simp [results, Tryz.results42, go_sem, r0, r1, r2, r3, r4]) rfl (twoQ_done rfl HB.out.2.2 HB.out.1 (by have hk := HK.out.1; have hnn := HK.out.2; rw [HS.out]; simp [hk, hnn, hxb, h1, h2]))
        | false =>
          obtain ⟨t0, t1, t2, t3, t4, _⟩ := id T2.te
          obtain ⟨x0, x1, x2, x3, x4, _⟩ := id T2.tx
          obtain ⟨y0, y1, y2, y3, y4, _⟩ := id T2.ty
          obtain ⟨u5, hu5, F5, N5, S5, B5⟩ := fiveStore T2.tr (.int .i64 e.k) (.int .i64 e.n) (.int .i64 e.ak) (.int .i64 e.at_) (.slice (some ⟨b, off, none⟩) 2 cap)
          have HU5 : Hid (_ = u5) := hu5
          have HB : Hid (Below w.heap.size w u5 ∧ Five u5 (w.heap.size + 1) (.int .i64 e.k) (.int .i64 e.n) (.int .i64 e.ak) (.int .i64 e.at_) (.slice (some ⟨b, off, none⟩) 2 cap) ∧ EO u5 lo hi (.agg #[.int .i64 e.k, .int .i64 e.n, .int .i64 e.ak, .int .i64 e.at_, .slice (some ⟨b, off, none⟩) 2 cap]) (e)) := ⟨T2.low.trans (B5.mono (by omega)), F5, ⟨_, rfl, T2.ko.kept fun k q1 q2 => N5 k (by omega)⟩⟩
          obtain ⟨z0, z1, z2, z3, z4, zf⟩ := id T2.tr
          have zf0 := zf 0
          have zf1 := zf 1
          have zf2 := zf 2
          have zf3 := zf 3
          have zf4 := zf 4
          clear hu5 F5 N5 B5 zf
          go_wp2
          rw [HU5.out]
          obtain ⟨r0, r1, r2, r3, r4, _⟩ := HB.out.2.1
          exact bodyPost_ret (v := .agg #[.int .i64 e.k, .int .i64 e.n, .int .i64 e.ak, .int .i64 e.at_, .slice (some ⟨b, off, none⟩) 2 cap]) (by simp [results, Tryz.results42, go_sem, r0, r1, r2, r3, r4]) rfl (twoQ_done rfl HB.out.2.2 HB.out.1 (by have hk := HK.out.1; have hnn := HK.out.2; rw [HS.out]; simp [hk, hnn, hxb, h1, h2]))
  by_cases hk : e.k = 9
  · have HNF : Hid (¬ (x.k = 1 ∧ y.k = 1)) := hnn
    have b3 : (e.k == 3) = false := by simp [hk]
    have b4 : (e.k == 4) = false := by simp [hk]
    have b5 : (e.k == 5) = false := by simp [hk]
    have b6 : (e.k == 6) = false := by simp [hk]
    have b7 : (e.k == 7) = false := by simp [hk]
    have b8 : (e.k == 8) = false := by simp [hk]
    have b9 : (e.k == 9) = true := by simp [hk]
    have HK : Hid (e.k = 9) := hk
    clear hk hnn hnum
    cases hxb : (x.k == 1) with
    | true =>
      have hyb : (y.k == 1) = false := by
        have hx1 : x.k = 1 := by simpa using hxb
        have hy1 : ¬ y.k = 1 := fun h => HNF.out ⟨hx1, h⟩
        simp [hy1]
      obtain ⟨u5, hu5, F5, N5, S5, B5⟩ := fiveStore HT.out.tr (.int .i64 e.k) (.int .i64 e.n) (.int .i64 e.ak) (.int .i64 e.at_) (.slice (some ⟨b, off, none⟩) 2 cap)
      have HU5 : Hid (_ = u5) := hu5
      have HB : Hid (Below w.heap.size w u5 ∧ Five u5 (w.heap.size + 1) (.int .i64 e.k) (.int .i64 e.n) (.int .i64 e.ak) (.int .i64 e.at_) (.slice (some ⟨b, off, none⟩) 2 cap) ∧ EO u5 lo hi (.agg #[.int .i64 e.k, .int .i64 e.n, .int .i64 e.ak, .int .i64 e.at_, .slice (some ⟨b, off, none⟩) 2 cap]) (e)) := ⟨HT.out.low.trans (B5.mono (by omega)), F5, ⟨_, rfl, HT.out.ko.kept fun k q1 q2 => N5 k (by omega)⟩⟩
      obtain ⟨z0, z1, z2, z3, z4, zf⟩ := id HT.out.tr
      have zf0 := zf 0
      have zf1 := zf 1
      have zf2 := zf 2
      have zf3 := zf 3
      have zf4 := zf 4
      clear hu5 F5 N5 B5 zf v0 v1 v2 v3 v4 vf0
      go_enter Tryz.func42, Tryz.ntmps42
      go_wp2
      rw [HU5.out]
      obtain ⟨r0, r1, r2, r3, r4, _⟩ := HB.out.2.1
      have hk := HK.out
      have hnn := HNF.out
      exact bodyPost_ret (v := .agg #[.int .i64 e.k, .int .i64 e.n, .int .i64 e.ak, .int .i64 e.at_, .slice (some ⟨b, off, none⟩) 2 cap]) (by simp [results, Tryz.results42, go_sem, r0, r1, r2, r3, r4]) rfl (twoQ_done rfl HB.out.2.2 HB.out.1 (by rw [HS.out]; simp [hk, hnn]))
    | false =>
      obtain ⟨u5, hu5, F5, N5, S5, B5⟩ := fiveStore HT.out.tr (.int .i64 e.k) (.int .i64 e.n) (.int .i64 e.ak) (.int .i64 e.at_) (.slice (some ⟨b, off, none⟩) 2 cap)
      have HU5 : Hid (_ = u5) := hu5
      have HB : Hid (Below w.heap.size w u5 ∧ Five u5 (w.heap.size + 1) (.int .i64 e.k) (.int .i64 e.n) (.int .i64 e.ak) (.int .i64 e.at_) (.slice (some ⟨b, off, none⟩) 2 cap) ∧ EO u5 lo hi (.agg #[.int .i64 e.k, .int .i64 e.n, .int .i64 e.ak, .int .i64 e.at_, .slice (some ⟨b, off, none⟩) 2 cap]) (e)) := ⟨HT.out.low.trans (B5.mono (by omega)), F5, ⟨_, rfl, HT.out.ko.kept fun k q1 q2 => N5 k (by omega)⟩⟩
      obtain ⟨z0, z1, z2, z3, z4, zf⟩ := id HT.out.tr
      have zf0 := zf 0
      have zf1 := zf 1
      have zf2 := zf 2
      have zf3 := zf 3
      have zf4 := zf 4
      clear hu5 F5 N5 B5 zf v0 v1 v2 v3 v4 vf0
      go_enter Tryz.func42, Tryz.ntmps42
      go_wp2
      rw [HU5.out]
      obtain ⟨r0, r1, r2, r3, r4, _⟩ := HB.out.2.1
      have hk := HK.out
      have hnn := HNF.out
      exact bodyPost_ret (v := .agg #[.int .i64 e.k, .int .i64 e.n, .int .i64 e.ak, .int .i64 e.at_, .slice (some ⟨b, off, none⟩) 2 cap]) (by simp [results, Tryz.results42, go_sem, r0, r1, r2, r3, r4]) rfl (twoQ_done rfl HB.out.2.2 HB.out.1 (by rw [HS.out]; simp [hk, hnn]))
  omega
end Go.Proofs.YtkeockippmmneaaGreat
