/-
  ExprOk and ExprMany of the program: loops over the parts.
-/
import Derived.Test.YtkeockippmmneaaPartsA
import Derived.Test.YtkeockippmmneaaKindC
namespace Go.Proofs.Ytkeockippmmneaa
open Go.ChangeShapes Go.WideShapes Go.ChangeAt Go.RowKit Go.Shelf
attribute [local go_sem] Oper.semAt_some
set_option linter.unusedVariables false

theorem Five.grownBy {W W' : World} {row : Option Nat} {B : Nat} {v0 v1 v2 v3 v4 : Value} (h : Five W B v0 v1 v2 v3 v4) (hg : W.grownBy W' row) (hr : ∀ r, row = some r → ∃ o : Obj, W.heap[r]? = some o ∧ o.isCells = false) : Five W' B v0 v1 v2 v3 v4 := by
  obtain ⟨o, ho, hc⟩ := cells_of_cell h.c0
  have hb := grownBy_keeps_cells hg hr ho hc
  exact ⟨cell_kept h.c0 hg hr, cell_kept h.c1 hg hr, cell_kept h.c2 hg hr, cell_kept h.c3 hg hr, cell_kept h.c4 hg hr, fun o => by rw [World.frozen?_of_block (w := W) (a := ⟨B, o, none⟩) hb]; exact h.f o⟩

/-- A variable of one cell. -/
def One (W : World) (B : Nat) (v : Value) : Prop := W.cell? ⟨B, 0, none⟩ = some v ∧ W.frozen? ⟨B, 0, none⟩ = false

theorem One.grownBy {W W' : World} {row : Option Nat} {B : Nat} {v : Value} (h : One W B v) (hg : W.grownBy W' row) (hr : ∀ r, row = some r → ∃ o : Obj, W.heap[r]? = some o ∧ o.isCells = false) : One W' B v :=
  ⟨cell_kept h.1 hg hr, (frozen_kept h.1 hg hr).trans h.2⟩
theorem One.below {W W' : World} {B n : Nat} {v : Value} (h : One W B v) (hb : Below n W W') (hB : B < n) : One W' B v :=
  ⟨(hb.cell (p := ⟨B, 0, none⟩) hB).trans h.1, (hb.frozen (p := ⟨B, 0, none⟩) hB).trans h.2⟩
theorem One.set {W : World} {B : Nat} {v : Value} (h : One W B v) (x : Value) : One (W.setCell ⟨B, 0, none⟩ x) B x :=
  ⟨World.cell?_setCell_same' _ _ _ (by rw [h.1]; rfl), by rw [World.frozen?_setCell]; exact h.2⟩
theorem One.other {W : World} {B B' : Nat} {v : Value} (h : One W B v) (x : Value) (hne : B ≠ B') : One (W.setCell ⟨B', 0, none⟩ x) B v :=
  ⟨by rw [cell_set_other W (.inl hne)]; exact h.1, by rw [World.frozen?_setCell]; exact h.2⟩
theorem one_new (W : World) (v : Value) (t : TypeId) : One (W.alloc (.cells #[v] t)) W.heap.size v :=
  ⟨World.cell?_alloc_new _ _ _ _, World.frozen?_alloc_new _ _ _ _⟩

/-- Between two rounds of ExprOk. -/
structure OkI (w : World) (n₁ : Nat) (pre : List PartV) (W : World) : Prop where
  many : One W (w.heap.size + 1 + 1) (.int .i64 (pre.length : Int))
  res : One W (w.heap.size + 1) (.bool false)
  good : ∀ x, x ∈ pre → goodP x.proj
  few : pre.length ≤ 14
  low : Below w.heap.size w W
  size : n₁ ≤ W.heap.size

/-- A round of ExprOk has found one that is not right. -/
structure OkX (w : World) (pre : List PartV) (W : World) : Prop where
  res : One W (w.heap.size + 1) (.bool false)
  bad : 14 < pre.length ∨ ∃ x, x ∈ pre ∧ ¬ goodP x.proj
  low : Below w.heap.size w W

theorem okI_own (w : World) (n₁ B : Nat) (hB : w.heap.size ≤ B) : OwnFrom B (OkI w n₁) := fun s W W' row hs hg hr =>
  ⟨hs.many.grownBy hg fun r e => (hr r e).2, hs.res.grownBy hg fun r e => (hr r e).2, hs.good, hs.few, hs.low.grown hg hs.low.size fun k e => Nat.le_trans hB (hr k e).1, Nat.le_trans hs.size hg.size⟩
theorem okX_own (w : World) (B : Nat) (hB : w.heap.size ≤ B) : OwnFrom B (OkX w) := fun s W W' row hs hg hr =>
  ⟨hs.res.grownBy hg fun r e => (hr r e).2, hs.bad, hs.low.grown hg hs.low.size fun k e => Nat.le_trans hB (hr k e).1⟩

theorem goodP_iff (x : PartV) : goodP x.proj ↔ x.d < 6 ∧ partB x.e = true := Iff.rfl

set_option maxRecDepth 100000 in
set_option maxHeartbeats 4000000 in
theorem iExprOk_any (w : World) (lo hi : Nat) (v : Value) (e : ExprD) (h : ER w lo hi v e) (hhi : hi ≤ w.heap.size) (hm : manyL e.kids ≤ 1048576) :
    Calls Try.prog 26 #[v] w fun en w' => en = .returned (.bool (exprOk e)) ∧ Below w.heap.size w w' := by
  obtain ⟨s, rfl, hk⟩ := h
  obtain ⟨ad, cap, rfl, hc1, hc2⟩ := hk.shape
  refine (callsIn_wide (n := 8)).1 ?_
  have hro : Fence.wide.round = none := rfl
  have hd : Fence.wide.depth = none := rfl
  refine callsIn_of_wp_marks Try.func26 rfl trivial ?_ hro
  simp only [Try.ntmps26, List.size_toArray, List.length_cons, List.length_nil, Nat.reduceAdd, Nat.reduceSub, Array.replicate_succ, Array.replicate_zero, List.push_toArray, List.append_toArray, List.nil_append, List.cons_append]
  gi_wp2_with ((try refine ⟨trivial, ?_⟩); gi_at_call 33; refine (exprParts_in Fence.wide _ trivial hro _ _ _ _ _ _ _ _).mono ?_; rintro e1 w1 ⟨rfl, rfl⟩)
  obtain ⟨W0, hW0, Z0, B0, C1, C2, C3⟩ : ∃ W0, (((w.alloc (.cells #[.int .i64 e.k, .int .i64 e.n, .int .i64 e.ak, .int .i64 e.at_, .slice ad e.kids.length cap] 31)).alloc (.cells #[.bool false] 4)).alloc (.cells #[.int .i64 0] 3)).alloc (.cells #[.int .i64 e.k, .int .i64 e.n, .int .i64 e.ak, .int .i64 e.at_, .slice ad e.kids.length cap] 31) = W0 ∧
      W0.heap.size = w.heap.size + 4 ∧ Below w.heap.size w W0 ∧ One W0 (w.heap.size + 1) (.bool false) ∧ One W0 (w.heap.size + 1 + 1) (.int .i64 0) ∧ Five W0 (w.heap.size + 1 + 1 + 1) (.int .i64 e.k) (.int .i64 e.n) (.int .i64 e.ak) (.int .i64 e.at_) (.slice ad e.kids.length cap) := by
    refine ⟨_, rfl, by simp, ((((Below.refl _ w).alloc (Nat.le_refl _) _).alloc (by simp) _).alloc (by simp; omega) _).alloc (by simp; omega) _, ?_, ?_, ?_⟩
    · have h1 := one_new (w.alloc (.cells #[.int .i64 e.k, .int .i64 e.n, .int .i64 e.ak, .int .i64 e.at_, .slice ad e.kids.length cap] 31)) (.bool false) 4
      rw [World.size_alloc] at h1
      exact h1.below (((Below.refl _ _).alloc (Nat.le_refl _) _).alloc (by simp) _) (by simp)
    · have h1 := one_new ((w.alloc (.cells #[.int .i64 e.k, .int .i64 e.n, .int .i64 e.ak, .int .i64 e.at_, .slice ad e.kids.length cap] 31)).alloc (.cells #[.bool false] 4)) (.int .i64 0) 3
      rw [World.size_alloc, World.size_alloc] at h1
      exact h1.below ((Below.refl _ _).alloc (Nat.le_refl _) _) (by simp)
    · have h1 := five_new (((w.alloc (.cells #[.int .i64 e.k, .int .i64 e.n, .int .i64 e.ak, .int .i64 e.at_, .slice ad e.kids.length cap] 31)).alloc (.cells #[.bool false] 4)).alloc (.cells #[.int .i64 0] 3)) (.int .i64 e.k) (.int .i64 e.n) (.int .i64 e.ak) (.int .i64 e.at_) (.slice ad e.kids.length cap) 31
      simp only [World.size_alloc] at h1
      exact h1
  rw [hW0]
  clear hW0
  have hme := manyE_eq e
  have hexp := exprOk_iff e
  refine wpIn_rangeFunc_ownH hro (by decide) (gf := 56) (lb := #[.pointer (some ⟨w.heap.size + 1 + 1 + 1, 0, none⟩)]) rfl trivial (enters_of Try.func56 (by kernel_rfl) rfl)
    (parts_stops Fence.wide hd _ trivial trivial hro (w.heap.size + 1 + 1 + 1) w.heap.size W0.heap.size lo hi e ad cap W0 (by omega) hhi (by omega) (Nat.le_refl _) C3 (hk.under B0 hhi)) KeepsP.trans (keepsP_b (by omega)) (Below.refl _ _) (fun _ => rfl)
    (OkI w W0.heap.size) (fun c pre W => c = .ret ∧ OkX w pre W) (okI_own w _ _ (by omega)) (fun c s W W' row hs hg hr => ⟨hs.1, okX_own w W0.heap.size (by omega) s W W' row hs.2 hg hr⟩)
    ⟨C2, C1, by simp, by simp, B0, Nat.le_refl _⟩
    (fun x a' W => ∃ Bx, W0.heap.size ≤ Bx ∧ Bx < W.heap.size ∧ Five W Bx (.int .i64 x.e.k) (.int .i64 x.e.n) (.int .i64 x.e.ak) (.int .i64 x.e.at_) (.slice x.ad x.e.kids.length x.cap) ∧ a' = { tmps := #[.agg #[.int .i64 e.k, .int .i64 e.n, .int .i64 e.ak, .int .i64 e.at_, .slice ad e.kids.length cap], .pointer (some ⟨w.heap.size, 0, none⟩), .pointer (some ⟨w.heap.size + 1, 0, none⟩), .pointer (some ⟨w.heap.size + 1 + 1, 0, none⟩), .pointer (some ⟨Bx, 0, none⟩), .int .i64 x.d, .agg #[.int .i64 e.k, .int .i64 e.n, .int .i64 e.ak, .int .i64 e.at_, .slice ad e.kids.length cap], .func (.func 56) #[] #[.pointer (some ⟨w.heap.size + 1 + 1 + 1, 0, none⟩)], .agg #[.int .i64 x.e.k, .int .i64 x.e.n, .int .i64 x.e.ak, .int .i64 x.e.at_, .slice x.ad x.e.kids.length x.cap], .int .i64 x.d, undef, undef, undef, undef, undef, undef, undef, undef, undef, undef, undef, undef, undef], defers := [] })
    (fun x a' s W W' row hs hg hr => by
      obtain ⟨Bx, h1, h2, h3, h4⟩ := hs
      exact ⟨Bx, h1, Nat.lt_of_lt_of_le h2 hg.size, h3.grownBy hg fun r e => (hr r e).2, h4⟩)
    ?assign ?body ?done ?stop
  case assign =>
    intro l pre x W K hi hK
    have hsz := hi.size
    have hB := hi.low
    simp only [PartV.encs, PartV.val]
    gi_wp2
    refine hK _ _ ((KeepsOthers.alloc _ _).from _) (.alloc W (by omega) _) (okI_own w W0.heap.size W0.heap.size (by omega) pre W _ none hi (World.grownBy_alloc W _ none) (fun r e => by cases e)) ⟨W.heap.size, hsz, by simp, five_new W _ _ _ _ _ _, rfl⟩
  case body =>
    rintro l pre x a' W hl _ hi ⟨Bx, hBx, hBx2, hF, rfl⟩ hlt
    obtain ⟨⟨hm1, hm2⟩, hres, hgood, hfew, hlow, hsz⟩ := hi
    have hr1 := hres.1
    have hr2 := hres.2
    obtain ⟨c0, c1, c2, c3, c4, _⟩ := id hF
    have HI : Hid (One W (w.heap.size + 1 + 1) (.int .i64 (pre.length : Int)) ∧ One W (w.heap.size + 1) (.bool false) ∧ (∀ x, x ∈ pre → goodP x.proj) ∧ Below w.heap.size w W ∧ Five W Bx (.int .i64 x.e.k) (.int .i64 x.e.n) (.int .i64 x.e.ak) (.int .i64 x.e.at_) (.slice x.ad x.e.kids.length x.cap)) := ⟨⟨hm1, hm2⟩, hres, hgood, hlow, hF⟩
    clear hres hgood hlow hF hexp hme hlt
    have hne1 : ¬ Bx = w.heap.size + 1 + 1 := by omega
    have hne2 : ¬ w.heap.size + 1 = w.heap.size + 1 + 1 := by omega
    by_cases h14 : pre.length = 14
    · have hp1 : (14 : Int) < (pre.length : Int) + 1 := by omega
      gi_wp2
      refine ⟨trivial, ?_⟩
      gi_wp2
      obtain ⟨h1, h2, h3, h4, h5⟩ := HI.out
      exact ⟨((KeepsOthers.setCell _ _ _).from _).trans ((KeepsOthers.setCell _ _ _).from _), rfl, ⟨(h2.other _ (by omega)).set _, .inl (by simp [h14]), (h4.setCell (p := ⟨w.heap.size + 1 + 1, 0, none⟩) (by show w.heap.size ≤ w.heap.size + 1 + 1; omega) _).setCell (p := ⟨w.heap.size + 1, 0, none⟩) (by show w.heap.size ≤ w.heap.size + 1; omega) _⟩⟩
    · have hp1 : ¬ (14 : Int) < (pre.length : Int) + 1 := by omega
      by_cases h6 : x.d < 6
      · have hp2 : ¬ (6 : Int) ≤ x.d := by omega
        cases hpb : partB x.e with
        | true =>
          gi_wp2_with ((try refine ⟨trivial, ?_⟩); gi_at_call 48; refine (CallsIn.inRound l (callsIn_wide.2 (partOk_any _ x.e x.ad x.cap))).mono ?_; rw [hpb]; rintro e2 W2 ⟨rfl, g2⟩)
          obtain ⟨h1, h2, h3, h4, h5⟩ := HI.out
          have hsz1 : (W.setCell ⟨w.heap.size + 1 + 1, 0, none⟩ (.int .i64 ((pre.length : Int) + 1))).heap.size = W.heap.size := by simp
          have hlow1 := h4.setCell (p := ⟨w.heap.size + 1 + 1, 0, none⟩) (by show w.heap.size ≤ w.heap.size + 1 + 1; omega) (.int .i64 ((pre.length : Int) + 1))
          refine ⟨((KeepsOthers.setCell _ _ _).from _).trans (KeepsFrom.of_below g2), (KeepsP.setCell W (by omega) (by omega) _).trans (.of_below g2 (by omega)), ⟨?_, (h2.other _ (by omega)).below g2 (by omega), ?_, ?_, hlow1.trans (g2.mono (by omega)), ?_⟩⟩
          · rw [show ((pre ++ [x]).length : Int) = (pre.length : Int) + 1 by simp]
            exact (h1.set _).below g2 (by omega)
          · intro y hy
            rcases List.mem_append.1 hy with hy | hy
            · exact h3 y hy
            · rw [List.mem_singleton] at hy; subst hy; exact ⟨h6, hpb⟩
          · simp only [List.length_append, List.length_cons, List.length_nil]; omega
          · have := g2.size; omega
        | false =>
          gi_wp2_with ((try refine ⟨trivial, ?_⟩); gi_at_call 48; refine (CallsIn.inRound l (callsIn_wide.2 (partOk_any _ x.e x.ad x.cap))).mono ?_; rw [hpb]; rintro e2 W2 ⟨rfl, g2⟩; have hr3 := (g2.cell (p := ⟨w.heap.size + 1, 0, none⟩) (by show w.heap.size + 1 < _; simp; omega)).trans ((HI.out.2.1.other _ (by omega)).1); have hr4 := (g2.frozen (p := ⟨w.heap.size + 1, 0, none⟩) (by show w.heap.size + 1 < _; simp; omega)).trans ((HI.out.2.1.other _ (by omega)).2))
          obtain ⟨h1, h2, h3, h4, h5⟩ := HI.out
          have hsz1 : (W.setCell ⟨w.heap.size + 1 + 1, 0, none⟩ (.int .i64 ((pre.length : Int) + 1))).heap.size = W.heap.size := by simp
          have hlow1 := h4.setCell (p := ⟨w.heap.size + 1 + 1, 0, none⟩) (by show w.heap.size ≤ w.heap.size + 1 + 1; omega) (.int .i64 ((pre.length : Int) + 1))
          exact ⟨(((KeepsOthers.setCell _ _ _).from _).trans (KeepsFrom.of_below g2)).trans ((KeepsOthers.setCell _ _ _).from _), rfl, ⟨One.set ⟨hr3, hr4⟩ _, .inr ⟨x, by simp, fun hg => by have := hg.2; rw [show partB x.proj.1 = partB x.e from rfl, hpb] at this; cases this⟩, (hlow1.trans (g2.mono (by omega))).setCell (p := ⟨w.heap.size + 1, 0, none⟩) (by show w.heap.size ≤ w.heap.size + 1; omega) _⟩⟩
      · have hp2 : (6 : Int) ≤ x.d := by omega
        gi_wp2
        refine ⟨trivial, ?_⟩
        gi_wp2
        obtain ⟨h1, h2, h3, h4, h5⟩ := HI.out
        exact ⟨((KeepsOthers.setCell _ _ _).from _).trans ((KeepsOthers.setCell _ _ _).from _), rfl, ⟨(h2.other _ (by omega)).set _, .inr ⟨x, by simp, fun hg => by have : x.d < 6 := hg.1; omega⟩, (h4.setCell (p := ⟨w.heap.size + 1 + 1, 0, none⟩) (by show w.heap.size ≤ w.heap.size + 1 + 1; omega) _).setCell (p := ⟨w.heap.size + 1, 0, none⟩) (by show w.heap.size ≤ w.heap.size + 1; omega) _⟩⟩
  case done =>
    intro D ys W hD hS hi hK
    have hr1 := hi.res.1
    have hr2 := hi.res.2
    have hok : exprOk e = true := by
      rw [hexp]
      refine ⟨fun x hx => ?_, ?_⟩
      · rw [← hS] at hx
        obtain ⟨y, hy, rfl⟩ := List.mem_map.1 hx
        exact hi.good y hy
      · have := congrArg List.length hS
        rw [List.length_map, preE_length] at this
        have := hi.few
        omega
    have HB : Hid (Below w.heap.size w W ∧ One W (w.heap.size + 1) (.bool false)) := ⟨hi.low, hi.res⟩
    clear hi
    gi_wp2
    have hK' := (KeepsOthers.setCell W ⟨w.heap.size + 1, 0, none⟩ (.bool true)).same D _ hK rfl
    refine ⟨by simp, .inl ⟨_, _, rfl, run_takeDeferred hK', ?_⟩⟩
    have hc5 := cell_kept (HB.out.2.set (.bool true)).1 (grownBy_putObj' _ D (.deferred none)) (fun r e => by cases e; exact ⟨_, hK', rfl⟩)
    refine ⟨.bool true, ?_, by rw [hok], (HB.out.1.setCell (p := ⟨w.heap.size + 1, 0, none⟩) (by show w.heap.size ≤ w.heap.size + 1; omega) _).trans (belowK_b (w := w) (Nat.le_refl _) _ D _ _ (by omega) hK' rfl rfl)⟩
    simp [results, Try.f26, go_sem, hc5]
  case stop =>
    rintro D c pre W hD hSp ⟨rfl, hx⟩ hK
    have hok : exprOk e = false := by
      rw [Bool.eq_false_iff]
      intro h
      obtain ⟨h1, h2⟩ := hexp.1 h
      rcases hx.bad with hb | ⟨x, hxm, hxb⟩
      · have := hSp.length_le
        rw [List.length_map, preE_length] at this
        omega
      · exact hxb (h1 _ (hSp.subset (List.mem_map.2 ⟨x, hxm, rfl⟩)))
    have HB : Hid (Below w.heap.size w W ∧ One W (w.heap.size + 1) (.bool false)) := ⟨hx.low, hx.res⟩
    clear hx
    gi_wp2
    refine ⟨by simp, .inl ⟨_, _, rfl, run_takeDeferred hK, ?_⟩⟩
    have hc5 := cell_kept HB.out.2.1 (grownBy_putObj' _ D (.deferred none)) (fun r e => by cases e; exact ⟨_, hK, rfl⟩)
    refine ⟨.bool false, ?_, by rw [hok], HB.out.1.trans (belowK_b (w := w) (Nat.le_refl _) _ D _ _ (by omega) hK rfl rfl)⟩
    simp [results, Try.f26, go_sem, hc5]
end Go.Proofs.Ytkeockippmmneaa
