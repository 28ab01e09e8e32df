/-
  Chapter 10's program: SlimReads: a loop over the parts that ends at the first that reads the place.
-/
import Derived.Test.YtkeockippmmneaaPartsB
import Derived.Test.YtkeockippmmneaaSlimS
namespace Go.Proofs.Ytkeockippmmneaa
open Go.ChangeShapes Go.WideShapes Go.ChangeAt Go.RowKit Go.Shelf
attribute [local go_sem] Oper.semAt_some
set_option linter.unusedVariables false
set_option maxRecDepth 100000

theorem Pr2.grownBy {W W' : World} {row : Option Nat} {B : Nat} {x y : Value} (h : Pr2 W B x y) (hg : W.grownBy W' row) (hr : ∀ r, row = some r → ∃ o : Obj, W.heap[r]? = some o ∧ o.isCells = false) : Pr2 W' B x y :=
  ⟨cell_kept h.c0 hg hr, cell_kept h.c1 hg hr⟩
theorem Pr2.other {W : World} {B B' o : Nat} {x y : Value} (h : Pr2 W B x y) (v : Value) (hne : B ≠ B') : Pr2 (W.setCell ⟨B', o, none⟩ v) B x y :=
  ⟨by rw [cell_set_other W (.inl hne)]; exact h.c0, by rw [cell_set_other W (.inl hne)]; exact h.c1⟩

set_option maxHeartbeats 2000000 in
theorem readsAt_any (W : World) (e : ExprD) (ad : Option Go.Addr) (cap : Nat) (k t : Int) :
    Calls Try.prog 34 #[.agg #[.int .i64 e.k, .int .i64 e.n, .int .i64 e.ak, .int .i64 e.at_, .slice ad e.kids.length cap], .agg #[.int .i64 k, .int .i64 t]] W fun en w' => en = .returned (.bool (readB k t e)) ∧ Below W.heap.size W w' := by
  have b2 := fun o o' => ((Below.refl W.heap.size W).alloc (Nat.le_refl _) o).alloc (by simp) o'
  obtain ⟨r, hr⟩ : ∃ r, readB k t e = r := ⟨_, rfl⟩
  have HR : Hid (r = ((e.k == 2) && ((e.ak == k) && (e.at_ == t)))) := by show _ = _; rw [← hr]; rfl
  rw [hr]
  clear hr
  cases b1 : (e.k == 2) with
  | false =>
    rw [b1] at HR
    go_enter Try.func34, Try.ntmps34
    go_wp2
    go_ret
    exact ⟨ret_bool (by rw [HR.out]; rfl), b2 _ _⟩
  | true =>
    rw [b1] at HR
    cases ha : (e.ak == k) with
    | false =>
      rw [ha] at HR
      go_enter Try.func34, Try.ntmps34
      go_wp2
      go_ret
      exact ⟨ret_bool (by rw [HR.out]; rfl), b2 _ _⟩
    | true =>
      rw [ha] at HR
      cases ht : (e.at_ == t) with
      | false =>
        rw [ht] at HR
        go_enter Try.func34, Try.ntmps34
        go_wp2
        go_ret
        exact ⟨ret_bool (by rw [HR.out]; rfl), b2 _ _⟩
      | true =>
        rw [ht] at HR
        go_enter Try.func34, Try.ntmps34
        go_wp2
        go_ret
        exact ⟨ret_bool (by rw [HR.out]; rfl), b2 _ _⟩

/-- Between two rounds of SlimReads. -/
structure RdI (w : World) (k t : Int) (n₁ : Nat) (pre : List PartV) (W : World) : Prop where
  res : One W (w.heap.size + 1 + 1) (.bool false)
  pl : Pr2 W (w.heap.size + 1) (.int .i64 k) (.int .i64 t)
  none : ∀ x, x ∈ pre → readB k t x.proj.1 = false
  low : Below w.heap.size w W
  size : n₁ ≤ W.heap.size

/-- A round of SlimReads has found one. -/
structure RdX (w : World) (k t : Int) (pre : List PartV) (W : World) : Prop where
  res : One W (w.heap.size + 1 + 1) (.bool true)
  some : ∃ x, x ∈ pre ∧ readB k t x.proj.1 = true
  low : Below w.heap.size w W

theorem rdI_own (w : World) (k t : Int) (n₁ B : Nat) (hB : w.heap.size ≤ B) : OwnFrom B (RdI w k t n₁) := fun s W W' row hs hg hr =>
  ⟨hs.res.grownBy hg fun r e => (hr r e).2, hs.pl.grownBy hg fun r e => (hr r e).2, hs.none, hs.low.grown hg hs.low.size fun k e => Nat.le_trans hB (hr k e).1, Nat.le_trans hs.size hg.size⟩
theorem rdX_own (w : World) (k t : Int) (B : Nat) (hB : w.heap.size ≤ B) : OwnFrom B (RdX w k t) := fun s W W' row hs hg hr =>
  ⟨hs.res.grownBy hg fun r e => (hr r e).2, hs.some, hs.low.grown hg hs.low.size fun k e => Nat.le_trans hB (hr k e).1⟩

set_option maxHeartbeats 8000000 in
theorem iSlimReads_any (w : World) (lo hi : Nat) (v : Value) (e : ExprD) (k t : Int) (h : ER w lo hi v e) (hhi : hi ≤ w.heap.size) (hm : manyL e.kids ≤ 1048576) :
    Calls Try.prog 15 #[v, .agg #[.int .i64 k, .int .i64 t]] w fun en w' => en = .returned (.bool (slimReads e k t)) ∧ Below w.heap.size w w' := by
  have hO := fun W hW hh => iExprOk_any W lo hi v e hW hh hm
  have HE := h
  obtain ⟨s, rfl, hk⟩ := h
  obtain ⟨ad, cap, rfl, hc1, hc2⟩ := hk.shape
  have hme := manyE_eq e
  obtain ⟨u0, hu0, G0, F0, P0, N0, S0⟩ : ∃ u0, ((w.alloc (.cells #[.int .i64 e.k, .int .i64 e.n, .int .i64 e.ak, .int .i64 e.at_, .slice ad e.kids.length cap] 31)).alloc (.cells #[.int .i64 k, .int .i64 t] 28)).alloc (.cells #[.bool false] 4) = u0 ∧
      Below w.heap.size w u0 ∧ Five u0 w.heap.size (.int .i64 e.k) (.int .i64 e.n) (.int .i64 e.ak) (.int .i64 e.at_) (.slice ad e.kids.length cap) ∧ Pr2 u0 (w.heap.size + 1) (.int .i64 k) (.int .i64 t) ∧ One u0 (w.heap.size + 1 + 1) (.bool false) ∧ u0.heap.size = w.heap.size + 3 := by
    obtain ⟨u, hu, g, f, p, s⟩ := five_two_new w e (.slice ad e.kids.length cap) k t 31 28
    rw [hu]
    have b := fun o => (Below.refl u.heap.size u).alloc (Nat.le_refl _) o
    have n := one_new u (.bool false) 4
    rw [s] at n
    exact ⟨_, rfl, g.trans ((b _).mono (by omega)), f.under (b _) (by omega), p.below (b _) (by omega), n, by simp; omega⟩
  have hO0 := hO u0 (HE.below G0 hhi) (by omega)
  obtain ⟨c0, c1, c2, c3, c4, _⟩ := id F0
  obtain ⟨d0, d1⟩ := id P0
  obtain ⟨e0, e1⟩ := id N0
  refine (callsIn_wide (n := 8)).1 ?_
  have hro : Fence.wide.round = none := rfl
  have hd : Fence.wide.depth = none := rfl
  cases hok : exprOk e with
  | false =>
    rw [hok] at hO0
    have HEM : Hid (slimReads e k t = false) := by show slimReads e k t = false; unfold slimReads; rw [hok]; rfl
    clear hO
    refine callsIn_of_wp_marks Try.func15 rfl trivial ?_ hro
    simp only [Try.ntmps15, List.size_toArray, List.length_cons, List.length_nil, Nat.reduceAdd, Nat.reduceSub, Array.replicate_succ, Array.replicate_zero, List.push_toArray, List.append_toArray, List.nil_append, List.cons_append]
    gi_wp2_with ((try refine ⟨trivial, ?_⟩); gi_at_call 26; refine (callsIn_wide.2 hO0).mono ?_; rintro e1 w1 ⟨rfl, g1⟩; have n1 := (g1.cell (p := ⟨w.heap.size + 1 + 1, 0, none⟩) (by show w.heap.size + 1 + 1 < _; omega)).trans N0.1; have n2 := (g1.frozen (p := ⟨w.heap.size + 1 + 1, 0, none⟩) (by show w.heap.size + 1 + 1 < _; omega)).trans N0.2)
    have hc5 : (w1.setCell ⟨w.heap.size + 1 + 1, 0, none⟩ (.bool false)).cell? ⟨w.heap.size + 1 + 1, 0, none⟩ = some (.bool false) := World.cell?_setCell_same' _ _ _ (by rw [n1]; rfl)
    refine ⟨.bool false, ?_, by rw [HEM.out], (G0.trans (g1.mono G0.size)).setCell (p := ⟨w.heap.size + 1 + 1, 0, none⟩) (by show w.heap.size ≤ w.heap.size + 1 + 1; omega) _⟩
    simp [results, Try.f15, go_sem, hc5]
  | true =>
    rw [hok] at hO0
    have HEM : Hid (slimReads e k t = (preE 0 e).any fun x => readB k t x.1) := slimReads_pre hok k t
    refine callsIn_of_wp_marks Try.func15 rfl trivial ?_ hro
    simp only [Try.ntmps15, List.size_toArray, List.length_cons, List.length_nil, Nat.reduceAdd, Nat.reduceSub, Array.replicate_succ, Array.replicate_zero, List.push_toArray, List.append_toArray, List.nil_append, List.cons_append]
    gi_wp2_with (first
      | ((try refine ⟨trivial, ?_⟩); gi_at_call 26; refine (callsIn_wide.2 hO0).mono ?_; rintro e1 w1 ⟨rfl, g1⟩; have F1 := F0.under g1 (by omega); have P1 := P0.below g1 (by omega); have N1 := N0.below g1 (by omega); have s1 := g1.size; have m0 := F1.c0; have m1 := F1.c1; have m2 := F1.c2; have m3 := F1.c3; have m4 := F1.c4)
      | ((try refine ⟨trivial, ?_⟩); gi_at_call 33; refine (exprParts_in Fence.wide _ trivial hro _ _ _ _ _ _ _ _).mono ?_; rintro e1 w2 ⟨rfl, rfl⟩))
    obtain ⟨W0, hW0, Z0, B0, C1, C2, C3⟩ : ∃ W0, w1.alloc (.cells #[.int .i64 e.k, .int .i64 e.n, .int .i64 e.ak, .int .i64 e.at_, .slice ad e.kids.length cap] 31) = W0 ∧
        W0.heap.size = w1.heap.size + 1 ∧ Below w.heap.size w W0 ∧ Pr2 W0 (w.heap.size + 1) (.int .i64 k) (.int .i64 t) ∧ One W0 (w.heap.size + 1 + 1) (.bool false) ∧ Five W0 w1.heap.size (.int .i64 e.k) (.int .i64 e.n) (.int .i64 e.ak) (.int .i64 e.at_) (.slice ad e.kids.length cap) := by
      have b := fun o => (Below.refl w1.heap.size w1).alloc (Nat.le_refl _) o
      exact ⟨_, rfl, by simp, (G0.trans (g1.mono G0.size)).alloc (by omega) _, P1.below (b _) (by omega), N1.below (b _) (by omega), five_new _ _ _ _ _ _ _⟩
    rw [hW0]
    clear hW0 m0 m1 m2 m3 m4 c0 c1 c2 c3 c4 d0 d1 e0 e1 hO hO0 F1 P1 N1
    refine wpIn_rangeFunc_ownH hro (by decide) (gf := 56) (lb := #[.pointer (some ⟨w1.heap.size, 0, none⟩)]) rfl trivial (enters_of Try.func56 (by kernel_rfl) rfl)
      (parts_stops Fence.wide hd _ trivial trivial hro w1.heap.size w.heap.size W0.heap.size lo hi e ad cap W0 (by omega) hhi (by omega) (Nat.le_refl _) C3 (hk.under B0 hhi)) KeepsP.trans (keepsP_b (by omega)) (Below.refl _ _) (fun _ => rfl)
      (RdI w k t W0.heap.size) (fun c pre W => c = .ret ∧ RdX w k t pre W) (rdI_own w k t _ _ (by omega)) (fun c s W W' row hs hg hr => ⟨hs.1, rdX_own w k t W0.heap.size (by omega) s W W' row hs.2 hg hr⟩)
      ⟨C2, C1, by simp, B0, Nat.le_refl _⟩
      (fun x a' W => ∃ Bx, W0.heap.size ≤ Bx ∧ Bx < W.heap.size ∧ Five W Bx (.int .i64 x.e.k) (.int .i64 x.e.n) (.int .i64 x.e.ak) (.int .i64 x.e.at_) (.slice x.ad x.e.kids.length x.cap) ∧ a' = { tmps := #[.agg #[.int .i64 e.k, .int .i64 e.n, .int .i64 e.ak, .int .i64 e.at_, .slice ad e.kids.length cap], .agg #[.int .i64 k, .int .i64 t], .pointer (some ⟨w.heap.size, 0, none⟩), .pointer (some ⟨w.heap.size + 1, 0, none⟩), .pointer (some ⟨w.heap.size + 1 + 1, 0, none⟩), .pointer (some ⟨Bx, 0, none⟩), .agg #[.int .i64 e.k, .int .i64 e.n, .int .i64 e.ak, .int .i64 e.at_, .slice ad e.kids.length cap], .bool true, .bool false, .agg #[.int .i64 e.k, .int .i64 e.n, .int .i64 e.ak, .int .i64 e.at_, .slice ad e.kids.length cap], .func (.func 56) #[] #[.pointer (some ⟨w1.heap.size, 0, none⟩)], .agg #[.int .i64 x.e.k, .int .i64 x.e.n, .int .i64 x.e.ak, .int .i64 x.e.at_, .slice x.ad x.e.kids.length x.cap], .int .i64 x.d, undef, undef, undef], defers := [] })
      (fun x a' s W W' row hs hg hr => by
        obtain ⟨Bx, h1, h2, h3, h4⟩ := hs
        exact ⟨Bx, h1, Nat.lt_of_lt_of_le h2 hg.size, h3.grownBy hg fun r e => (hr r e).2, h4⟩)
      ?assign ?body ?done ?stop
    case assign =>
      intro l pre x W K hi hK
      have hsz := hi.size
      have hB := hi.low
      simp only [PartV.encs, PartV.val]
      gi_wp2
      refine hK _ _ ((KeepsOthers.alloc _ _).from _) (.alloc W (by omega) _) (rdI_own w k t W0.heap.size W0.heap.size (by omega) pre W _ none hi (World.grownBy_alloc W _ none) (fun r e => by cases e)) ⟨W.heap.size, hsz, by simp, five_new W _ _ _ _ _ _, rfl⟩
    case body =>
      rintro l pre x a' W hl _ hi ⟨Bx, hBx, hBx2, hF, rfl⟩ hlt
      obtain ⟨hres, hpl, hnone, hlow, hsz⟩ := hi
      have hr1 := hres.1
      have hr2 := hres.2
      obtain ⟨p0, p1⟩ := id hpl
      obtain ⟨c0, c1, c2, c3, c4, _⟩ := id hF
      have HI : Hid (One W (w.heap.size + 1 + 1) (.bool false) ∧ Pr2 W (w.heap.size + 1) (.int .i64 k) (.int .i64 t) ∧ (∀ x, x ∈ pre → readB k t x.proj.1 = false) ∧ Below w.heap.size w W) := ⟨hres, hpl, hnone, hlow⟩
      have hcon := readsAt_any W x.e x.ad x.cap k t
      clear hres hpl hnone hlow hF hme hlt
      cases hpb : readB k t x.e with
      | false =>
        rw [hpb] at hcon
        gi_wp2_with ((try refine ⟨trivial, ?_⟩); gi_at_call 34; refine (CallsIn.inRound l (callsIn_wide.2 hcon)).mono ?_; rintro e2 W2 ⟨rfl, g2⟩)
        obtain ⟨h1, h2, h3, h4⟩ := HI.out
        refine ⟨KeepsFrom.of_below g2, .of_below g2 (by omega), ⟨h1.below g2 (by omega), h2.below g2 (by omega), ?_, h4.trans (g2.mono h4.size), Nat.le_trans hsz g2.size⟩⟩
        intro y hy
        rcases List.mem_append.1 hy with hy | hy
        · exact h3 y hy
        · rw [List.mem_singleton] at hy; subst hy; exact hpb
      | true =>
        rw [hpb] at hcon
        gi_wp2_with ((try refine ⟨trivial, ?_⟩); gi_at_call 34; refine (CallsIn.inRound l (callsIn_wide.2 hcon)).mono ?_; rintro e2 W2 ⟨rfl, g2⟩; have hr3 := (g2.cell (p := ⟨w.heap.size + 1 + 1, 0, none⟩) (by show w.heap.size + 1 + 1 < _; omega)).trans HI.out.1.1; have hr4 := (g2.frozen (p := ⟨w.heap.size + 1 + 1, 0, none⟩) (by show w.heap.size + 1 + 1 < _; omega)).trans HI.out.1.2)
        obtain ⟨h1, h2, h3, h4⟩ := HI.out
        exact ⟨(KeepsFrom.of_below g2).trans ((KeepsOthers.setCell _ _ _).from _), rfl, ⟨One.set ⟨hr3, hr4⟩ _, ⟨x, by simp, hpb⟩, (h4.trans (g2.mono h4.size)).setCell (p := ⟨w.heap.size + 1 + 1, 0, none⟩) (by show w.heap.size ≤ w.heap.size + 1 + 1; omega) _⟩⟩
    case done =>
      intro D ys W hD hS hi hK
      have hr1 := hi.res.1
      have hr2 := hi.res.2
      have HQ : Hid (slimReads e k t = false) := by
        show slimReads e k t = false
        rw [HEM.out, ← hS, List.any_map, List.any_eq_false]
        intro y hy
        have := hi.none y hy
        simp only [Function.comp_apply]
        rw [this]; decide
      have HB : Hid (Below w.heap.size w W ∧ One W (w.heap.size + 1 + 1) (.bool false)) := ⟨hi.low, hi.res⟩
      clear hi
      gi_wp2
      have hK' := (KeepsOthers.setCell W ⟨w.heap.size + 1 + 1, 0, none⟩ (.bool false)).same D _ hK rfl
      refine ⟨by simp, .inl ⟨_, _, rfl, run_takeDeferred hK', ?_⟩⟩
      have hc5 := cell_kept (HB.out.2.set (.bool false)).1 (grownBy_putObj' _ D (.deferred none)) (fun r e => by cases e; exact ⟨_, hK', rfl⟩)
      refine ⟨.bool false, ?_, by rw [HQ.out], (HB.out.1.setCell (p := ⟨w.heap.size + 1 + 1, 0, none⟩) (by show w.heap.size ≤ w.heap.size + 1 + 1; omega) _).trans (belowK_b (w := w) (Nat.le_refl _) _ D _ _ (by omega) hK' rfl rfl)⟩
      simp [results, Try.f15, go_sem, hc5]
    case stop =>
      rintro D c pre W hD hSp ⟨rfl, hx⟩ hK
      have HQ : Hid (slimReads e k t = true) := by
        show slimReads e k t = true
        rw [HEM.out, List.any_eq_true]
        obtain ⟨x, hxm, hxb⟩ := hx.some
        exact ⟨x.proj, hSp.subset (List.mem_map.2 ⟨x, hxm, rfl⟩), hxb⟩
      have HB : Hid (Below w.heap.size w W ∧ One W (w.heap.size + 1 + 1) (.bool true)) := ⟨hx.low, hx.res⟩
      clear hx
      gi_wp2
      refine ⟨by simp, .inl ⟨_, _, rfl, run_takeDeferred hK, ?_⟩⟩
      have hc5 := cell_kept HB.out.2.1 (grownBy_putObj' _ D (.deferred none)) (fun r e => by cases e; exact ⟨_, hK, rfl⟩)
      refine ⟨.bool true, ?_, by rw [HQ.out], HB.out.1.trans (belowK_b (w := w) (Nat.le_refl _) _ D _ _ (by omega) hK rfl rfl)⟩
      simp [results, Try.f15, go_sem, hc5]
end Go.Proofs.Ytkeockippmmneaa
