import Derived.Test.YtaoiookfmgpmkaaGreatDoorQM19
import Derived.Test.YtaoiookfmgpmkaaGreatDoorQM12

/-
 ExprOk and ExprMany of the program: loops over the parts.
-/
namespace Go.Proofs.YtaoiookfmgpmkaaGreatDoor
open Go.ChangeShapes Go.WideShapes Go.ChangeAt Go.RowKit Go.Shelf
attribute [local go_sem] Oper.semAt_some
set_option linter.unusedVariables false

theorem Five.grownBy {W W' : World} {row : Option Nat} {B : Nat} {v0 v1 v2 v3 v4 : Value} (h : Five W B v0 v1 v2 v3 v4) (hg : W.grownBy W' row) (hr : ∀ r, row = some r → ∃ o : Obj, W.heap[r]? = some o ∧ o.isCells = false) : Five W' B v0 v1 v2 v3 v4 := by
 obtain ⟨o, ho, hc⟩ := cells_of_cell h.c0
 have hb := grownBy_keeps_cells hg hr ho hc
 exact ⟨cell_kept h.c0 hg hr, cell_kept h.c1 hg hr, cell_kept h.c2 hg hr, cell_kept h.c3 hg hr, cell_kept h.c4 hg hr, fun o => by rw [World.frozen?_of_block (w := W) (a := ⟨B, o, none⟩) hb]; exact h.f o⟩

def One (W : World) (B : Nat) (v : Value) : Prop := W.cell? ⟨B, 0, none⟩ = some v ∧ W.frozen? ⟨B, 0, none⟩ = false

theorem One.grownBy {W W' : World} {row : Option Nat} {B : Nat} {v : Value} (h : One W B v) (hg : W.grownBy W' row) (hr : ∀ r, row = some r → ∃ o : Obj, W.heap[r]? = some o ∧ o.isCells = false) : One W' B v :=
 ⟨cell_kept h.1 hg hr, (frozen_kept h.1 hg hr).trans h.2⟩
theorem One.below {W W' : World} {B n : Nat} {v : Value} (h : One W B v) (hb : Below n W W') (hB : B < n) : One W' B v :=
 ⟨(hb.cell (p := ⟨B, 0, none⟩) hB).trans h.1, (hb.frozen (p := ⟨B, 0, none⟩) hB).trans h.2⟩
theorem One.set {W : World} {B : Nat} {v : Value} (h : One W B v) (x : Value) : One (W.setCell ⟨B, 0, none⟩ x) B x :=
 ⟨World.cell?_setCell_same' _ _ _ (by rw [h.1]; rfl), by rw [World.frozen?_setCell]; exact h.2⟩
theorem One.other {W : World} {B B' : Nat} {v : Value} (h : One W B v) (x : Value) (hne : B ≠ B') : One (W.setCell ⟨B', 0, none⟩ x) B v :=
 ⟨by rw [cell_set_other W (.inl hne)]; exact h.1, by rw [World.frozen?_setCell]; exact h.2⟩
theorem one_new (W : World) (v : Value) (t : TypeId) : One (W.alloc (.cells #[v] t)) W.heap.size v :=
 ⟨World.cell?_alloc_new _ _ _ _, World.frozen?_alloc_new _ _ _ _⟩

structure OkI (w : World) (n₁ : Nat) (pre : List PartV) (W : World) : Prop where
 many : One W (w.heap.size + 1 + 1) (.int .i64 (pre.length : Int))
 res : One W (w.heap.size + 1) (.bool false)
 good : ∀ x, x ∈ pre → goodP x.proj
 few : pre.length ≤ 14
 low : Below w.heap.size w W
 size : n₁ ≤ W.heap.size

structure OkX (w : World) (pre : List PartV) (W : World) : Prop where
 res : One W (w.heap.size + 1) (.bool false)
 bad : 14 < pre.length ∨ ∃ x, x ∈ pre ∧ ¬ goodP x.proj
 low : Below w.heap.size w W

theorem okI_own (w : World) (n₁ B : Nat) (hB : w.heap.size ≤ B) : OwnFrom B (OkI w n₁) := fun s W W' row hs hg hr =>
 ⟨hs.many.grownBy hg fun r e => (hr r e).2, hs.res.grownBy hg fun r e => (hr r e).2, hs.good, hs.few, hs.low.grown hg hs.low.size fun k e => Nat.le_trans hB (hr k e).1, Nat.le_trans hs.size hg.size⟩
theorem okX_own (w : World) (B : Nat) (hB : w.heap.size ≤ B) : OwnFrom B (OkX w) := fun s W W' row hs hg hr =>
 ⟨hs.res.grownBy hg fun r e => (hr r e).2, hs.bad, hs.low.grown hg hs.low.size fun k e => Nat.le_trans hB (hr k e).1⟩

set_option maxRecDepth 100000 in
set_option maxHeartbeats 4000000 in
theorem iExprOk_any (w : World) (lo hi : Nat) (v : Value) (e : ExprD) (h : ER w lo hi v e) (hhi : hi ≤ w.heap.size) (hm : manyL e.kids ≤ 1048576) :
  Calls Tryz.prog 267 #[v] w fun en w' => en = .returned (.bool (exprOk e)) ∧ Below w.heap.size w w' := by
 obtain ⟨s, rfl, hk⟩ := h
 obtain ⟨ad, cap, rfl, hc1, hc2⟩ := hk.shape
 refine (callsIn_wide (n := 8)).1 ?_
 have hro : Fence.wide.round = none := rfl
 have hd : Fence.wide.depth = none := rfl
 refine callsIn_of_wp_marks Tryz.func267 rfl trivial ?_ hro
 simp only [Tryz.ntmps267, List.size_toArray, List.length_cons, List.length_nil, Nat.reduceAdd, Nat.reduceSub, Array.replicate_succ, Array.replicate_zero, List.push_toArray, List.append_toArray, List.nil_append, List.cons_append]
 gi_wp2_with ((try refine ⟨trivial, ?_⟩); gi_at_call 290; refine (exprParts_in Fence.wide _ trivial hro _ _ _ _ _ _ _ _).mono ?_; rintro e1 w1 ⟨rfl, rfl⟩)
 obtain ⟨W0, hW0, Z0, B0, C1, C2, C3⟩ : ∃ W0, (((w.alloc (.cells #[.int .i64 e.k, .int .i64 e.n, .int .i64 e.ak, .int .i64 e.at_, .slice ad e.kids.length cap] 121)).alloc (.cells #[.bool false] 4)).alloc (.cells #[.int .i64 0] 3)).alloc (.cells #[.int .i64 e.k, .int .i64 e.n, .int .i64 e.ak, .int .i64 e.at_, .slice ad e.kids.length cap] 121) = W0 ∧
   W0.heap.size = w.heap.size + 4 ∧ Below w.heap.size w W0 ∧ One W0 (w.heap.size + 1) (.bool false) ∧ One W0 (w.heap.size + 1 + 1) (.int .i64 0) ∧ Five W0 (w.heap.size + 1 + 1 + 1) (.int .i64 e.k) (.int .i64 e.n) (.int .i64 e.ak) (.int .i64 e.at_) (.slice ad e.kids.length cap) := by
  refine ⟨_, rfl, by simp, ((((Below.refl _ w).alloc (Nat.le_refl _) _).alloc (by simp) _).alloc (by simp; omega) _).alloc (by simp; omega) _, ?_, ?_, ?_⟩
  ·have h1 := one_new (w.alloc (.cells #[.int .i64 e.k, .int .i64 e.n, .int .i64 e.ak, .int .i64 e.at_, .slice ad e.kids.length cap] 121)) (.bool false) 4
   rw [World.size_alloc] at h1
   exact h1.below (((Below.refl _ _).alloc (Nat.le_refl _) _).alloc (by simp) _) (by simp)
  ·have h1 := one_new ((w.alloc (.cells #[.int .i64 e.k, .int .i64 e.n, .int .i64 e.ak, .int .i64 e.at_, .slice ad e.kids.length cap] 121)).alloc (.cells #[.bool false] 4)) (.int .i64 0) 3
   rw [World.size_alloc, World.size_alloc] at h1
   exact h1.below ((Below.refl _ _).alloc (Nat.le_refl _) _) (by simp)
  ·have h1 := five_new (((w.alloc (.cells #[.int .i64 e.k, .int .i64 e.n, .int .i64 e.ak, .int .i64 e.at_, .slice ad e.kids.length cap] 121)).alloc (.cells #[.bool false] 4)).alloc (.cells #[.int .i64 0] 3)) (.int .i64 e.k) (.int .i64 e.n) (.int .i64 e.ak) (.int .i64 e.at_) (.slice ad e.kids.length cap) 121
   simp only [World.size_alloc] at h1
   exact h1
 rw [hW0]
 clear hW0
 have hme := manyE_eq e
 have hexp := exprOk_iff e
 refine wpIn_rangeFunc_ownH hro (by decide) (gf := 297) (lb := #[.pointer (some ⟨w.heap.size + 1 + 1 + 1, 0, none⟩)]) rfl trivial (enters_of Tryz.func297 (by kernel_rfl) rfl)
  (parts_stops Fence.wide hd _ trivial trivial hro (w.heap.size + 1 + 1 + 1) w.heap.size W0.heap.size lo hi e ad cap W0 (by omega) hhi (by omega) (Nat.le_refl _) C3 (hk.under B0 hhi)) KeepsP.trans (keepsP_b (by omega)) (Below.refl _ _) (fun _ => rfl)
  (OkI w W0.heap.size) (fun c pre W => c = .ret ∧ OkX w pre W) (okI_own w _ _ (by omega)) (fun c s W W' row hs hg hr => ⟨hs.1, okX_own w W0.heap.size (by omega) s W W' row hs.2 hg hr⟩)
  ⟨C2, C1, by simp, by simp, B0, Nat.le_refl _⟩
  (fun x a' W => ∃ Bx, W0.heap.size ≤ Bx ∧ Bx < W.heap.size ∧ Five W Bx (.int .i64 x.e.k) (.int .i64 x.e.n) (.int .i64 x.e.ak) (.int .i64 x.e.at_) (.slice x.ad x.e.kids.length x.cap) ∧ a' = { tmps := #[.agg #[.int .i64 e.k, .int .i64 e.n, .int .i64 e.ak, .int .i64 e.at_, .slice ad e.kids.length cap], .pointer (some ⟨w.heap.size, 0, none⟩), .pointer (some ⟨w.heap.size + 1, 0, none⟩), .pointer (some ⟨w.heap.size + 1 + 1, 0, none⟩), .pointer (some ⟨Bx, 0, none⟩), .int .i64 x.d, .agg #[.int .i64 e.k, .int .i64 e.n, .int .i64 e.ak, .int .i64 e.at_, .slice ad e.kids.length cap], .func (.func 297) #[] #[.pointer (some ⟨w.heap.size + 1 + 1 + 1, 0, none⟩)], .agg #[.int .i64 x.e.k, .int .i64 x.e.n, .int .i64 x.e.ak, .int .i64 x.e.at_, .slice x.ad x.e.kids.length x.cap], .int .i64 x.d, undef, undef, undef, undef, undef, undef, undef, undef, undef, undef, undef, undef, undef], defers := [] })
  (fun x a' s W W' row hs hg hr => by
   obtain ⟨Bx, h1, h2, h3, h4⟩ := hs
   exact ⟨Bx, h1, Nat.lt_of_lt_of_le h2 hg.size, h3.grownBy hg fun r e => (hr r e).2, h4⟩)
  ?assign ?body ?done ?stop
 case assign =>
  intro l pre x W K hi hK
  have hsz := hi.size
  have hB := hi.low
  simp only [PartV.encs, PartV.val]
  gi_wp2
  refine hK _ _ ((KeepsOthers.alloc _ _).from _) (.alloc W (by omega) _) (okI_own w W0.heap.size W0.heap.size (by omega) pre W _ none hi (World.grownBy_alloc W _ none) (fun r e => by cases e)) ⟨W.heap.size, hsz, by simp, five_new W _ _ _ _ _ _, rfl⟩
 case body =>
  rintro l pre x a' W hl _ hi ⟨Bx, hBx, hBx2, hF, rfl⟩ hlt
  obtain ⟨⟨hm1, hm2⟩, hres, hgood, hfew, hlow, hsz⟩ := hi
  have hr1 := hres.1
  have hr2 := hres.2
  obtain ⟨c0, c1, c2, c3, c4, _⟩ := id hF
  have HI : Hid (One W (w.heap.size + 1 + 1) (.int .i64 (pre.length : Int)) ∧ One W (w.heap.size + 1) (.bool false) ∧ (∀ x, x ∈ pre → goodP x.proj) ∧ Below w.heap.size w W ∧ Five W Bx (.int .i64 x.e.k) (.int .i64 x.e.n) (.int .i64 x.e.ak) (.int .i64 x.e.at_) (.slice x.ad x.e.kids.length x.cap)) := ⟨⟨hm1, hm2⟩, hres, hgood, hlow, hF⟩
  clear hres hgood hlow hF hexp hme hlt
  have hne1 : ¬ Bx = w.heap.size + 1 + 1 := by omega
  have hne2 : ¬ w.heap.size + 1 = w.heap.size + 1 + 1 := by omega
  by_cases h14 : pre.length = 14
  ·have hp1 : (14 : Int) < (pre.length : Int) + 1 := by omega
   gi_wp2
   refine ⟨trivial, ?_⟩
   gi_wp2
   obtain ⟨h1, h2, h3, h4, h5⟩ := HI.out
   exact ⟨((KeepsOthers.setCell _ _ _).from _).trans ((KeepsOthers.setCell _ _ _).from _), rfl, ⟨(h2.other _ (by omega)).set _, .inl (by simp [h14]), (h4.setCell (p := ⟨w.heap.size + 1 + 1, 0, none⟩) (by show w.heap.size ≤ w.heap.size + 1 + 1; omega) _).setCell (p := ⟨w.heap.size + 1, 0, none⟩) (by show w.heap.size ≤ w.heap.size + 1; omega) _⟩⟩
  ·have hp1 : ¬ (14 : Int) < (pre.length : Int) + 1 := by omega
   by_cases h6 : x.d < 6
   ·have hp2 : ¬ (6 : Int) ≤ x.d := by omega
    cases hpb : partB x.e with
    | true =>
     gi_wp2_with ((try refine ⟨trivial, ?_⟩); gi_at_call 291; refine (CallsIn.inRound l (callsIn_wide.2 (partOk_any _ x.e x.ad x.cap))).mono ?_; rw [hpb]; rintro e2 W2 ⟨rfl, g2⟩)
     obtain ⟨h1, h2, h3, h4, h5⟩ := HI.out
     have hsz1 : (W.setCell ⟨w.heap.size + 1 + 1, 0, none⟩ (.int .i64 ((pre.length : Int) + 1))).heap.size = W.heap.size := by simp
     have hlow1 := h4.setCell (p := ⟨w.heap.size + 1 + 1, 0, none⟩) (by show w.heap.size ≤ w.heap.size + 1 + 1; omega) (.int .i64 ((pre.length : Int) + 1))
     refine ⟨((KeepsOthers.setCell _ _ _).from _).trans (KeepsFrom.of_below g2), (KeepsP.setCell W (by omega) (by omega) _).trans (.of_below g2 (by omega)), ⟨?_, (h2.other _ (by omega)).below g2 (by omega), ?_, ?_, hlow1.trans (g2.mono (by omega)), ?_⟩⟩
     ·rw [show ((pre ++ [x]).length : Int) = (pre.length : Int) + 1 by simp]
      exact (h1.set _).below g2 (by omega)
     ·intro y hy
      rcases List.mem_append.1 hy with hy | hy
      ·exact h3 y hy
      ·rw [List.mem_singleton] at hy; subst hy; exact ⟨h6, hpb⟩
     ·simp only [List.length_append, List.length_cons, List.length_nil]; omega
     ·have := g2.size; omega
    | false =>
     gi_wp2_with ((try refine ⟨trivial, ?_⟩); gi_at_call 291; refine (CallsIn.inRound l (callsIn_wide.2 (partOk_any _ x.e x.ad x.cap))).mono ?_; rw [hpb]; rintro e2 W2 ⟨rfl, g2⟩; have hr3 := (g2.cell (p := ⟨w.heap.size + 1, 0, none⟩) (by show w.heap.size + 1 < _; simp; omega)).trans ((HI.out.2.1.other _ (by omega)).1); have hr4 := (g2.frozen (p := ⟨w.heap.size + 1, 0, none⟩) (by show w.heap.size + 1 < _; simp; omega)).trans ((HI.out.2.1.other _ (by omega)).2))
     obtain ⟨h1, h2, h3, h4, h5⟩ := HI.out
     have hsz1 : (W.setCell ⟨w.heap.size + 1 + 1, 0, none⟩ (.int .i64 ((pre.length : Int) + 1))).heap.size = W.heap.size := by simp
     have hlow1 := h4.setCell (p := ⟨w.heap.size + 1 + 1, 0, none⟩) (by show w.heap.size ≤ w.heap.size + 1 + 1; omega) (.int .i64 ((pre.length : Int) + 1))
     exact ⟨(((KeepsOthers.setCell _ _ _).from _).trans (KeepsFrom.of_below g2)).trans ((KeepsOthers.setCell _ _ _).from _), rfl, ⟨One.set ⟨hr3, hr4⟩ _, .inr ⟨x, by simp, fun hg => by have := hg.2; rw [show partB x.proj.1 = partB x.e from rfl, hpb] at this; cases this⟩, (hlow1.trans (g2.mono (by omega))).setCell (p := ⟨w.heap.size + 1, 0, none⟩) (by show w.heap.size ≤ w.heap.size + 1; omega) _⟩⟩
   ·have hp2 : (6 : Int) ≤ x.d := by omega
    gi_wp2
    refine ⟨trivial, ?_⟩
    gi_wp2
    obtain ⟨h1, h2, h3, h4, h5⟩ := HI.out
    exact ⟨((KeepsOthers.setCell _ _ _).from _).trans ((KeepsOthers.setCell _ _ _).from _), rfl, ⟨(h2.other _ (by omega)).set _, .inr ⟨x, by simp, fun hg => by have : x.d < 6 := hg.1; omega⟩, (h4.setCell (p := ⟨w.heap.size + 1 + 1, 0, none⟩) (by show w.heap.size ≤ w.heap.size + 1 + 1; omega) _).setCell (p := ⟨w.heap.size + 1, 0, none⟩) (by show w.heap.size ≤ w.heap.size + 1; omega) _⟩⟩
 case done =>
  intro D ys W hD hS hi hK
  have hr1 := hi.res.1
  have hr2 := hi.res.2
  have hok : exprOk e = true := by
   rw [hexp]
   refine ⟨fun x hx => ?_, ?_⟩
   ·rw [← hS] at hx
    obtain ⟨y, hy, rfl⟩ := List.mem_map.1 hx
    exact hi.good y hy
   ·have := congrArg List.length hS
    rw [List.length_map, preE_length] at this
    have := hi.few
    omega
  have HB : Hid (Below w.heap.size w W ∧ One W (w.heap.size + 1) (.bool false)) := ⟨hi.low, hi.res⟩
  clear hi
  gi_wp2
  have hK' := (KeepsOthers.setCell W ⟨w.heap.size + 1, 0, none⟩ (.bool true)).same D _ hK rfl
  refine ⟨by simp, .inl ⟨_, _, rfl, run_takeDeferred hK', ?_⟩⟩
  have hc5 := cell_kept (HB.out.2.set (.bool true)).1 (grownBy_putObj' _ D (.deferred none)) (fun r e => by cases e; exact ⟨_, hK', rfl⟩)
  refine ⟨.bool true, ?_, by rw [hok], (HB.out.1.setCell (p := ⟨w.heap.size + 1, 0, none⟩) (by show w.heap.size ≤ w.heap.size + 1; omega) _).trans (belowK_b (w := w) (Nat.le_refl _) _ D _ _ (by omega) hK' rfl rfl)⟩
  simp [results, Tryz.f267, go_sem, hc5]
 case stop =>
  rintro D c pre W hD hSp ⟨rfl, hx⟩ hK
  have hok : exprOk e = false := by
   rw [Bool.eq_false_iff]
   intro h
   obtain ⟨h1, h2⟩ := hexp.1 h
   rcases hx.bad with hb | ⟨x, hxm, hxb⟩
   ·have := hSp.length_le
    rw [List.length_map, preE_length] at this
    omega
   ·exact hxb (h1 _ (hSp.subset (List.mem_map.2 ⟨x, hxm, rfl⟩)))
  have HB : Hid (Below w.heap.size w W ∧ One W (w.heap.size + 1) (.bool false)) := ⟨hx.low, hx.res⟩
  clear hx
  gi_wp2
  refine ⟨by simp, .inl ⟨_, _, rfl, run_takeDeferred hK, ?_⟩⟩
  have hc5 := cell_kept HB.out.2.1 (grownBy_putObj' _ D (.deferred none)) (fun r e => by cases e; exact ⟨_, hK, rfl⟩)
  refine ⟨.bool false, ?_, by rw [hok], HB.out.1.trans (belowK_b (w := w) (Nat.le_refl _) _ D _ _ (by omega) hK rfl rfl)⟩
  simp [results, Tryz.f267, go_sem, hc5]
end Go.Proofs.YtaoiookfmgpmkaaGreatDoor

/-
 Statements of a kind, behind an interface: doingOf, fits, stmtOk.
-/
namespace Go.Proofs.YtaoiookfmgpmkaaGreatDoor
open Go.ChangeShapes Go.WideShapes Go.ChangeAt Go.RowKit
set_option linter.unusedVariables false

def doingV (k : Int) (v : Value) : Value := if k = 1 then .iface 381 v else if k = 2 then .iface 382 v else if k = 3 then .iface 383 v else .nilIface

set_option maxHeartbeats 1000000 in
theorem doingOf_any (w : World) (s : StmtD) (ax ay az : Option Go.Addr) (cx cy cz : Nat) :
  Calls Tryz.prog 266 #[.agg #[.int .i64 s.k, .int .i64 s.tk, .int .i64 s.ta, .int .i64 s.e.k, .int .i64 s.e.n, .int .i64 s.e.ak, .int .i64 s.e.at_, .slice ax s.e.kids.length cx, .slice ay s.th.length cy, .slice az s.el.length cz]] w fun e w' => e = .returned (doingV s.k (.agg #[.int .i64 s.k, .int .i64 s.tk, .int .i64 s.ta, .int .i64 s.e.k, .int .i64 s.e.n, .int .i64 s.e.ak, .int .i64 s.e.at_, .slice ax s.e.kids.length cx, .slice ay s.th.length cy, .slice az s.el.length cz])) ∧ Below w.heap.size w w' := by
 have b1 := fun o => (Below.refl w.heap.size w).alloc (Nat.le_refl _) o
 unfold doingV
 generalize s.k = k
 by_cases h1 : k = 1
 ·subst h1
  go_enter Tryz.func266, Tryz.ntmps266
  go_wp2
  go_ret
  exact ⟨rfl, b1 _⟩
 by_cases h2 : k = 2
 ·subst h2
  go_enter Tryz.func266, Tryz.ntmps266
  go_wp2
  go_ret
  exact ⟨rfl, b1 _⟩
 by_cases h3 : k = 3
 ·subst h3
  go_enter Tryz.func266, Tryz.ntmps266
  go_wp2
  go_ret
  exact ⟨rfl, b1 _⟩
 have e1 : (k == 1) = false := by simp [h1]
 have e2 : (k == 2) = false := by simp [h2]
 have e3 : (k == 3) = false := by simp [h3]
 rw [if_neg h1, if_neg h2, if_neg h3]
 clear h1 h2 h3
 go_enter Tryz.func266, Tryz.ntmps266
 go_wp2
 go_ret
 exact ⟨rfl, b1 _⟩

set_option maxHeartbeats 400000 in
theorem placeTakes_any (w : World) (k : Int) (hk : kindOk k = true) :
  Calls Tryz.prog 193 #[.int .i64 k] w fun e w' => e = .returned (.bool (k != 1)) ∧ w' = w := by
 have ho := placeOk_any w k
 rw [hk] at ho
 cases h : (k != 1) with
 | true =>
  go_enter Tryz.func193, Tryz.ntmps193
  go_wp2_with fail
  refine ho.mono ?_
  rintro e w1 ⟨rfl, rfl⟩
  clear ho
  go_wp2
  go_ret
  exact ⟨rfl, rfl⟩
 | false =>
  go_enter Tryz.func193, Tryz.ntmps193
  go_wp2_with fail
  refine ho.mono ?_
  rintro e w1 ⟨rfl, rfl⟩
  clear ho
  go_wp2
  go_ret
  exact ⟨rfl, rfl⟩

set_option maxRecDepth 100000 in
set_option maxHeartbeats 2000000 in
theorem fits_set (w : World) (s : StmtD) (ax ay az : Option Go.Addr) (cx cy cz : Nat) (h1 : s.th.length ≤ 1048576) (h2 : s.el.length ≤ 1048576) :
  Calls Tryz.prog 359 #[.agg #[.int .i64 s.k, .int .i64 s.tk, .int .i64 s.ta, .int .i64 s.e.k, .int .i64 s.e.n, .int .i64 s.e.ak, .int .i64 s.e.at_, .slice ax s.e.kids.length cx, .slice ay s.th.length cy, .slice az s.el.length cz]] w fun e w' => e = .returned (.bool (addrOk ⟨s.tk, s.ta⟩ && ((s.tk != 1) && (((s.th.length : Int) == 0) && ((s.el.length : Int) == 0))))) ∧ Below w.heap.size w w' := by
 have ev : AddrD.val ⟨s.tk, s.ta⟩ = .agg #[.int .i64 s.tk, .int .i64 s.ta] := rfl
 have hao := fun W => iAddrOk_any W s.tk s.ta
 rw [ev] at hao
 clear ev
 go_enter Tryz.func359, Tryz.ntmps359
 go_wp2_with fail
 obtain ⟨u0, hu0, G0, T0, S0⟩ : ∃ u0, w.alloc (.cells #[.int .i64 s.k, .int .i64 s.tk, .int .i64 s.ta, .int .i64 s.e.k, .int .i64 s.e.n, .int .i64 s.e.ak, .int .i64 s.e.at_, .slice ax s.e.kids.length cx, .slice ay s.th.length cy, .slice az s.el.length cz] 381) = u0 ∧ Below w.heap.size w u0 ∧ TenW u0 w.heap.size (.int .i64 s.k) (.int .i64 s.tk) (.int .i64 s.ta) (.int .i64 s.e.k) (.int .i64 s.e.n) (.int .i64 s.e.ak) (.int .i64 s.e.at_) (.slice ax s.e.kids.length cx) (.slice ay s.th.length cy) (.slice az s.el.length cz) ∧ u0.heap.size = w.heap.size + 1 :=
  ⟨_, rfl, (Below.refl _ _).alloc (Nat.le_refl _) _, tenW_new _ _ _ _ _ _ _ _ _ _ _ _, by simp⟩
 rw [hu0]
 clear hu0
 refine (hao _).mono ?_
 rintro e1 u1 ⟨rfl, g1⟩
 have G1 := G0.trans (g1.mono (by omega))
 obtain ⟨c0, c1, c2, c3, c4, c5, c6, c7, c8, c9, _⟩ := T0.under g1 (by omega)
 clear g1 G0 T0 hao
 cases ha : addrOk ⟨s.tk, s.ta⟩ with
 | false =>
  go_wp2
  go_ret
  exact ⟨ret_bool (by rw [ha]; rfl), G1⟩
 | true =>
  have hko : kindOk s.tk = true := by
   rw [kindOk_addr] at ha
   simp only [Bool.and_eq_true] at ha
   exact ha.1.1
  go_wp2_with fail
  refine (placeTakes_any _ s.tk hko).mono ?_
  rintro e2 u2 ⟨rfl, rfl⟩
  cases ht : (s.tk != 1) with
  | false =>
   go_wp2
   go_ret
   exact ⟨ret_bool (by rw [ha, ht]; rfl), G1⟩
  | true =>
   cases hh : ((s.th.length : Int) == 0) with
   | false =>
    go_wp2
    go_ret
    exact ⟨ret_bool (by rw [ha, ht, hh]; rfl), G1⟩
   | true =>
    cases he : ((s.el.length : Int) == 0) with
    | false =>
     go_wp2
     go_ret
     exact ⟨ret_bool (by rw [ha, ht, hh, he]; rfl), G1⟩
    | true =>
     go_wp2
     go_ret
     exact ⟨ret_bool (by rw [ha, ht, hh, he]; rfl), G1⟩

set_option maxHeartbeats 1000000 in
theorem fits_if (w : World) (s : StmtD) (ax ay az : Option Go.Addr) (cx cy cz : Nat) :
  Calls Tryz.prog 362 #[.agg #[.int .i64 s.k, .int .i64 s.tk, .int .i64 s.ta, .int .i64 s.e.k, .int .i64 s.e.n, .int .i64 s.e.ak, .int .i64 s.e.at_, .slice ax s.e.kids.length cx, .slice ay s.th.length cy, .slice az s.el.length cz]] w fun e w' => e = .returned (.bool ((s.tk == 0) && (s.ta == 0))) ∧ Below w.heap.size w w' := by
 have b1 := fun o => (Below.refl w.heap.size w).alloc (Nat.le_refl _) o
 cases h1 : (s.tk == 0) with
 | false =>
  go_enter Tryz.func362, Tryz.ntmps362
  go_wp2
  go_ret
  exact ⟨rfl, b1 _⟩
 | true =>
  cases h2 : (s.ta == 0) with
  | false =>
   go_enter Tryz.func362, Tryz.ntmps362
   go_wp2
   go_ret
   exact ⟨rfl, b1 _⟩
  | true =>
   go_enter Tryz.func362, Tryz.ntmps362
   go_wp2
   go_ret
   exact ⟨rfl, b1 _⟩

set_option maxHeartbeats 1000000 in
theorem fits_while (w : World) (s : StmtD) (ax ay az : Option Go.Addr) (cx cy cz : Nat) (h2 : s.el.length ≤ 1048576) :
  Calls Tryz.prog 365 #[.agg #[.int .i64 s.k, .int .i64 s.tk, .int .i64 s.ta, .int .i64 s.e.k, .int .i64 s.e.n, .int .i64 s.e.ak, .int .i64 s.e.at_, .slice ax s.e.kids.length cx, .slice ay s.th.length cy, .slice az s.el.length cz]] w fun e w' => e = .returned (.bool (((s.tk == 0) && (s.ta == 0)) && ((s.el.length : Int) == 0))) ∧ Below w.heap.size w w' := by
 have b1 := fun o => (Below.refl w.heap.size w).alloc (Nat.le_refl _) o
 cases h1 : (s.tk == 0) with
 | false =>
  go_enter Tryz.func365, Tryz.ntmps365
  go_wp2
  go_ret
  exact ⟨rfl, b1 _⟩
 | true =>
  cases h2 : (s.ta == 0) with
  | false =>
   go_enter Tryz.func365, Tryz.ntmps365
   go_wp2
   go_ret
   exact ⟨rfl, b1 _⟩
  | true =>
   cases h3 : ((s.el.length : Int) == 0) with
   | false =>
    go_enter Tryz.func365, Tryz.ntmps365
    go_wp2
    go_ret
    exact ⟨rfl, b1 _⟩
   | true =>
    go_enter Tryz.func365, Tryz.ntmps365
    go_wp2
    go_ret
    exact ⟨rfl, b1 _⟩

theorem m_fits_set (v : Value) : ∀ w : World, (method 547 381 v "loop.example/stopgate/impl.fits").run Tryz.prog w = .ok (359, v) w := fun _ => by kernel_rfl
theorem m_fits_if (v : Value) : ∀ w : World, (method 547 382 v "loop.example/stopgate/impl.fits").run Tryz.prog w = .ok (362, v) w := fun _ => by kernel_rfl
theorem m_fits_while (v : Value) : ∀ w : World, (method 547 383 v "loop.example/stopgate/impl.fits").run Tryz.prog w = .ok (365, v) w := fun _ => by kernel_rfl
theorem calls_set_fits (args : Array Value) (w : World) : (callFunc 359 args).run Tryz.prog w = .ok (.enter 359 args) w := by kernel_rfl
theorem calls_if_fits (args : Array Value) (w : World) : (callFunc 362 args).run Tryz.prog w = .ok (.enter 362 args) w := by kernel_rfl
theorem calls_while_fits (args : Array Value) (w : World) : (callFunc 365 args).run Tryz.prog w = .ok (.enter 365 args) w := by kernel_rfl

set_option maxRecDepth 100000 in
set_option maxHeartbeats 4000000 in
theorem stmtOk_gen (w : World) (lo hi : Nat) (s : StmtD) (ax ay az : Option Go.Addr) (cx cy cz : Nat) (T : TypeId) (ff : Nat) (r : Bool) (hx : KR w lo hi (.slice ax s.e.kids.length cx) s.e.kids) (hhi : hi ≤ w.heap.size) (hm : manyL s.e.kids ≤ 1048576)
  (hkv : doingV s.k (.agg #[.int .i64 s.k, .int .i64 s.tk, .int .i64 s.ta, .int .i64 s.e.k, .int .i64 s.e.n, .int .i64 s.e.ak, .int .i64 s.e.at_, .slice ax s.e.kids.length cx, .slice ay s.th.length cy, .slice az s.el.length cz]) = .iface T (.agg #[.int .i64 s.k, .int .i64 s.tk, .int .i64 s.ta, .int .i64 s.e.k, .int .i64 s.e.n, .int .i64 s.e.ak, .int .i64 s.e.at_, .slice ax s.e.kids.length cx, .slice ay s.th.length cy, .slice az s.el.length cz]))
  (hm2 : ∀ w : World, (method 547 T (.agg #[.int .i64 s.k, .int .i64 s.tk, .int .i64 s.ta, .int .i64 s.e.k, .int .i64 s.e.n, .int .i64 s.e.ak, .int .i64 s.e.at_, .slice ax s.e.kids.length cx, .slice ay s.th.length cy, .slice az s.el.length cz]) "loop.example/stopgate/impl.fits").run Tryz.prog w = .ok (ff, .agg #[.int .i64 s.k, .int .i64 s.tk, .int .i64 s.ta, .int .i64 s.e.k, .int .i64 s.e.n, .int .i64 s.e.ak, .int .i64 s.e.at_, .slice ax s.e.kids.length cx, .slice ay s.th.length cy, .slice az s.el.length cz]) w)
  (he2 : ∀ (args : Array Value) (w : World), (callFunc ff args).run Tryz.prog w = .ok (.enter ff args) w)
  (hf : ∀ W : World, Calls Tryz.prog ff #[.agg #[.int .i64 s.k, .int .i64 s.tk, .int .i64 s.ta, .int .i64 s.e.k, .int .i64 s.e.n, .int .i64 s.e.ak, .int .i64 s.e.at_, .slice ax s.e.kids.length cx, .slice ay s.th.length cy, .slice az s.el.length cz]] W fun e w' => e = .returned (.bool r) ∧ Below W.heap.size W w') :
  Calls Tryz.prog 215 #[.agg #[.int .i64 s.k, .int .i64 s.tk, .int .i64 s.ta, .int .i64 s.e.k, .int .i64 s.e.n, .int .i64 s.e.ak, .int .i64 s.e.at_, .slice ax s.e.kids.length cx, .slice ay s.th.length cy, .slice az s.el.length cz]] w fun e w' => e = .returned (.bool (r && exprOk s.e)) ∧ Below w.heap.size w w' := by
 have hko := fun W => doingOf_any W s ax ay az cx cy cz
 rw [hkv] at hko
 clear hkv
 have HX : Hid (KR w lo hi (.slice ax s.e.kids.length cx) s.e.kids) := hx
 clear hx
 go_enter Tryz.func215, Tryz.ntmps215
 go_wp2_with fail
 obtain ⟨u0, hu0, G0, T0, S0⟩ : ∃ u0, w.alloc (.cells #[.int .i64 s.k, .int .i64 s.tk, .int .i64 s.ta, .int .i64 s.e.k, .int .i64 s.e.n, .int .i64 s.e.ak, .int .i64 s.e.at_, .slice ax s.e.kids.length cx, .slice ay s.th.length cy, .slice az s.el.length cz] 123) = u0 ∧ Below w.heap.size w u0 ∧ TenW u0 w.heap.size (.int .i64 s.k) (.int .i64 s.tk) (.int .i64 s.ta) (.int .i64 s.e.k) (.int .i64 s.e.n) (.int .i64 s.e.ak) (.int .i64 s.e.at_) (.slice ax s.e.kids.length cx) (.slice ay s.th.length cy) (.slice az s.el.length cz) ∧ u0.heap.size = w.heap.size + 1 :=
  ⟨_, rfl, (Below.refl _ _).alloc (Nat.le_refl _) _, tenW_new _ _ _ _ _ _ _ _ _ _ _ _, by simp⟩
 rw [hu0]
 clear hu0
 refine (hko _).mono ?_
 rintro e1 u1 ⟨rfl, g1⟩
 have S1 := g1.size
 have G1 := G0.trans (g1.mono (by omega))
 have T1 := T0.under g1 (by omega)
 clear hko g1 T0 G0
 go_wp2_with fail
 refine (hf _).mono ?_
 rintro e2 u2 ⟨rfl, g2⟩
 have S2 := g2.size
 have G2 := G1.trans (g2.mono (by omega))
 obtain ⟨c0, c1, c2, c3, c4, c5, c6, c7, c8, c9, _⟩ := T1.under g2 (by omega)
 clear hf g2 T1 G1
 cases r with
 | false =>
  go_wp2
  go_ret
  exact ⟨rfl, G2⟩
 | true =>
  go_wp2_with fail
  refine (iExprOk_any _ lo hi _ s.e ⟨_, rfl, HX.out.under G2 hhi⟩ (by omega) hm).mono ?_
  rintro e3 u3 ⟨rfl, g3⟩
  have G3 := G2.trans (g3.mono (by omega))
  clear g3 G2
  go_wp2
  go_ret
  exact ⟨by simp, G3⟩

set_option maxRecDepth 100000 in
set_option maxHeartbeats 1000000 in
theorem stmtOk_nil (w : World) (s : StmtD) (ax ay az : Option Go.Addr) (cx cy cz : Nat) (hkv : doingV s.k (.agg #[.int .i64 s.k, .int .i64 s.tk, .int .i64 s.ta, .int .i64 s.e.k, .int .i64 s.e.n, .int .i64 s.e.ak, .int .i64 s.e.at_, .slice ax s.e.kids.length cx, .slice ay s.th.length cy, .slice az s.el.length cz]) = .nilIface) :
  Calls Tryz.prog 215 #[.agg #[.int .i64 s.k, .int .i64 s.tk, .int .i64 s.ta, .int .i64 s.e.k, .int .i64 s.e.n, .int .i64 s.e.ak, .int .i64 s.e.at_, .slice ax s.e.kids.length cx, .slice ay s.th.length cy, .slice az s.el.length cz]] w fun e w' => e = .returned (.bool false) ∧ Below w.heap.size w w' := by
 have hko := fun W => doingOf_any W s ax ay az cx cy cz
 rw [hkv] at hko
 have b1 := fun o => (Below.refl w.heap.size w).alloc (Nat.le_refl _) o
 clear hkv
 go_enter Tryz.func215, Tryz.ntmps215
 go_wp2_with fail
 refine (hko _).mono ?_
 rintro e1 u1 ⟨rfl, g1⟩
 have G1 := (b1 _).trans (g1.mono (by simp))
 clear hko g1 b1
 go_wp2
 go_ret
 exact ⟨rfl, G1⟩

theorem stmtOk_any (w : World) (lo hi : Nat) (s : StmtD) (ax ay az : Option Go.Addr) (cx cy cz : Nat) (hx : KR w lo hi (.slice ax s.e.kids.length cx) s.e.kids) (hhi : hi ≤ w.heap.size) (hm : manyL s.e.kids ≤ 1048576) (h1 : s.th.length ≤ 1048576) (h2 : s.el.length ≤ 1048576) :
  Calls Tryz.prog 215 #[.agg #[.int .i64 s.k, .int .i64 s.tk, .int .i64 s.ta, .int .i64 s.e.k, .int .i64 s.e.n, .int .i64 s.e.ak, .int .i64 s.e.at_, .slice ax s.e.kids.length cx, .slice ay s.th.length cy, .slice az s.el.length cz]] w fun en w' => en = .returned (.bool (stmtB s)) ∧ Below w.heap.size w w' := by
 unfold stmtB
 by_cases k1 : s.k = 1
 ·have hp : fitB s = (addrOk ⟨s.tk, s.ta⟩ && ((s.tk != 1) && (((s.th.length : Int) == 0) && ((s.el.length : Int) == 0)))) := by unfold fitB; rw [if_pos k1]
  rw [hp]
  exact stmtOk_gen w lo hi s ax ay az cx cy cz 381 359 _ hx hhi hm (by unfold doingV; rw [if_pos k1]) (m_fits_set _) calls_set_fits (fun W => fits_set W s ax ay az cx cy cz h1 h2)
 by_cases k2 : s.k = 2
 ·have hp : fitB s = ((s.tk == 0) && (s.ta == 0)) := by unfold fitB; rw [if_neg k1, if_pos k2]
  rw [hp]
  exact stmtOk_gen w lo hi s ax ay az cx cy cz 382 362 _ hx hhi hm (by unfold doingV; rw [if_neg k1, if_pos k2]) (m_fits_if _) calls_if_fits (fun W => fits_if W s ax ay az cx cy cz)
 by_cases k3 : s.k = 3
 ·have hp : fitB s = (((s.tk == 0) && (s.ta == 0)) && ((s.el.length : Int) == 0)) := by unfold fitB; rw [if_neg k1, if_neg k2, if_pos k3]
  rw [hp]
  exact stmtOk_gen w lo hi s ax ay az cx cy cz 383 365 _ hx hhi hm (by unfold doingV; rw [if_neg k1, if_neg k2, if_pos k3]) (m_fits_while _) calls_while_fits (fun W => fits_while W s ax ay az cx cy cz h2)
 ·have hp : fitB s = false := by unfold fitB; rw [if_neg k1, if_neg k2, if_neg k3]
  rw [hp, Bool.false_and]
  exact stmtOk_nil w s ax ay az cx cy cz (by unfold doingV; rw [if_neg k1, if_neg k2, if_neg k3])
end Go.Proofs.YtaoiookfmgpmkaaGreatDoor

/-
 StmtsOk and StmtsMany of the program: loops over the statements.
-/
namespace Go.Proofs.YtaoiookfmgpmkaaGreatDoor
open Go.ChangeShapes Go.WideShapes Go.ChangeAt Go.RowKit Go.Shelf
attribute [local go_sem] Oper.semAt_some
set_option linter.unusedVariables false

theorem TenW.grownBy {W W' : World} {row : Option Nat} {B : Nat} {x0 x1 x2 x3 x4 x5 x6 x7 x8 x9 : Value} (h : TenW W B x0 x1 x2 x3 x4 x5 x6 x7 x8 x9) (hg : W.grownBy W' row) (hr : ∀ r, row = some r → ∃ o : Obj, W.heap[r]? = some o ∧ o.isCells = false) : TenW W' B x0 x1 x2 x3 x4 x5 x6 x7 x8 x9 := by
 obtain ⟨o, ho, hc⟩ := cells_of_cell h.c0
 exact h.at_ ((grownBy_keeps_cells hg hr ho hc).trans (by rw [ho]))

structure OkTI {w0 : World} {lo hi : Nat} (w : World) (n₁ : Nat) (pre : List (StmtX w0 lo hi)) (W : World) : Prop where
 many : One W (w.heap.size + 1) (.int .i64 (pre.length : Int))
 res : One W w.heap.size (.bool false)
 good : ∀ x, x ∈ pre → goodT x.proj
 few : pre.length ≤ 16
 low : Below w.heap.size w W
 size : n₁ ≤ W.heap.size

structure OkTX {w0 : World} {lo hi : Nat} (w : World) (pre : List (StmtX w0 lo hi)) (W : World) : Prop where
 res : One W w.heap.size (.bool false)
 bad : 16 < pre.length ∨ ∃ x, x ∈ pre ∧ ¬ goodT x.proj
 low : Below w.heap.size w W

theorem okTI_own {w0 : World} {lo hi : Nat} (w : World) (n₁ B : Nat) (hB : w.heap.size ≤ B) : OwnFrom B (OkTI (w0 := w0) (lo := lo) (hi := hi) w n₁) := fun s W W' row hs hg hr =>
 ⟨hs.many.grownBy hg fun r e => (hr r e).2, hs.res.grownBy hg fun r e => (hr r e).2, hs.good, hs.few, hs.low.grown hg hs.low.size fun k e => Nat.le_trans hB (hr k e).1, Nat.le_trans hs.size hg.size⟩
theorem okTX_own {w0 : World} {lo hi : Nat} (w : World) (B : Nat) (hB : w.heap.size ≤ B) : OwnFrom B (OkTX (w0 := w0) (lo := lo) (hi := hi) w) := fun s W W' row hs hg hr =>
 ⟨hs.res.grownBy hg fun r e => (hr r e).2, hs.bad, hs.low.grown hg hs.low.size fun k e => Nat.le_trans hB (hr k e).1⟩

set_option maxRecDepth 100000 in
set_option maxHeartbeats 8000000 in
theorem iStmtsOk_any (w : World) (lo hi : Nat) (v : Value) (ss : List StmtD) (h : SR w lo hi v ss) (hhi : hi ≤ w.heap.size) (hm : sizeL ss ≤ 1048576) :
  Calls Tryz.prog 146 #[v] w fun en w' => en = .returned (.bool (stmtsOk ss)) ∧ Below w.heap.size w w' := by
 obtain ⟨ad, cap, rfl, hc1, hc2⟩ := h.shape
 refine (callsIn_wide (n := 8)).1 ?_
 have hro : Fence.wide.round = none := rfl
 have hd : Fence.wide.depth = none := rfl
 refine callsIn_of_wp_marks Tryz.func146 rfl trivial ?_ hro
 simp only [Tryz.ntmps146, List.size_toArray, List.length_cons, List.length_nil, Nat.reduceAdd, Nat.reduceSub, Array.replicate_succ, Array.replicate_zero, List.push_toArray, List.append_toArray, List.nil_append, List.cons_append]
 gi_wp2_with ((try refine ⟨trivial, ?_⟩); gi_at_call 214; refine (stmtsWithin_in Fence.wide _ trivial hro _ _ _ _).mono ?_; rintro e1 w1 ⟨rfl, rfl⟩)
 obtain ⟨W0, hW0, Z0, B0, C1, C2, C3⟩ : ∃ W0, ((w.alloc (.cells #[.bool false] 4)).alloc (.cells #[.int .i64 0] 3)).alloc (.cells #[.slice ad ss.length cap] 34) = W0 ∧
   W0.heap.size = w.heap.size + 3 ∧ Below w.heap.size w W0 ∧ One W0 w.heap.size (.bool false) ∧ One W0 (w.heap.size + 1) (.int .i64 0) ∧ One W0 (w.heap.size + 1 + 1) (.slice ad ss.length cap) := by
  refine ⟨_, rfl, by simp, (((Below.refl _ w).alloc (Nat.le_refl _) _).alloc (by simp) _).alloc (by simp; omega) _, ?_, ?_, ?_⟩
  ·exact (one_new w (.bool false) 4).below (((Below.refl _ _).alloc (Nat.le_refl _) _).alloc (by simp) _) (by simp)
  ·have h1 := one_new (w.alloc (.cells #[.bool false] 4)) (.int .i64 0) 3
   rw [World.size_alloc] at h1
   exact h1.below ((Below.refl _ _).alloc (Nat.le_refl _) _) (by simp)
  ·have h1 := one_new ((w.alloc (.cells #[.bool false] 4)).alloc (.cells #[.int .i64 0] 3)) (.slice ad ss.length cap) 34
   simp only [World.size_alloc] at h1
   exact h1
 rw [hW0]
 clear hW0
 have hexp := stmtsOk_iff ss
 refine wpIn_rangeFunc_ownH hro (by decide) (gf := 264) (lb := #[.pointer (some ⟨w.heap.size + 1 + 1, 0, none⟩)]) rfl trivial (enters_of Tryz.func264 (by kernel_rfl) rfl)
  (stmts_stops Fence.wide hd _ trivial trivial hro w lo hi hhi (w.heap.size + 1 + 1) w.heap.size W0.heap.size (Nat.le_refl _) ss _ W0 (by omega) (by omega) (Nat.le_refl _) B0 C3.1 h hm) KeepsP.trans (keepsP_b (by omega)) (Below.refl _ _) (fun _ => rfl)
  (OkTI w W0.heap.size) (fun c pre W => c = .ret ∧ OkTX w pre W) (okTI_own w _ _ (by omega)) (fun c s W W' row hs hg hr => ⟨hs.1, okTX_own w W0.heap.size (by omega) s W W' row hs.2 hg hr⟩)
  ⟨C2, C1, by simp, by simp, B0, Nat.le_refl _⟩
  (fun x a' W => ∃ Bx, W0.heap.size ≤ Bx ∧ Bx < W.heap.size ∧ TenW W Bx (.int .i64 x.s.k) (.int .i64 x.s.tk) (.int .i64 x.s.ta) (.int .i64 x.s.e.k) (.int .i64 x.s.e.n) (.int .i64 x.s.e.ak) (.int .i64 x.s.e.at_) (.slice x.ax x.s.e.kids.length x.cx) (.slice x.ay x.s.th.length x.cy) (.slice x.az x.s.el.length x.cz) ∧ a' = { tmps := #[.slice ad ss.length cap, undef, .pointer (some ⟨w.heap.size, 0, none⟩), .pointer (some ⟨w.heap.size + 1, 0, none⟩), .pointer (some ⟨Bx, 0, none⟩), .int .i64 x.d, .slice ad ss.length cap, .func (.func 264) #[] #[.pointer (some ⟨w.heap.size + 1 + 1, 0, none⟩)], .agg #[.int .i64 x.s.k, .int .i64 x.s.tk, .int .i64 x.s.ta, .int .i64 x.s.e.k, .int .i64 x.s.e.n, .int .i64 x.s.e.ak, .int .i64 x.s.e.at_, .slice x.ax x.s.e.kids.length x.cx, .slice x.ay x.s.th.length x.cy, .slice x.az x.s.el.length x.cz], .int .i64 x.d, undef, undef, undef, undef, undef, undef, undef, undef, undef, undef, undef, undef, undef], defers := [] })
  (fun x a' s W W' row hs hg hr => by
   obtain ⟨Bx, h1, h2, h3, h4⟩ := hs
   exact ⟨Bx, h1, Nat.lt_of_lt_of_le h2 hg.size, h3.grownBy hg fun r e => (hr r e).2, h4⟩)
  ?assign ?body ?done ?stop
 case assign =>
  intro l pre x W K hi hK
  have hsz := hi.size
  have hB := hi.low
  simp only [StmtX.encs, StmtX.val]
  gi_wp2
  refine hK _ _ ((KeepsOthers.alloc _ _).from _) (.alloc W (by omega) _) (okTI_own w W0.heap.size W0.heap.size (by omega) pre W _ none hi (World.grownBy_alloc W _ none) (fun r e => by cases e)) ⟨W.heap.size, hsz, by simp, tenW_new W _ _ _ _ _ _ _ _ _ _ _, rfl⟩
 case body =>
  rintro l pre x a' W hl _ hi ⟨Bx, hBx, hBx2, hF, rfl⟩ hlt
  obtain ⟨⟨hm1, hm2⟩, hres, hgood, hfew, hlow, hsz⟩ := hi
  have hr1 := hres.1
  have hr2 := hres.2
  obtain ⟨c0, c1, c2, c3, c4, c5, c6, c7, c8, c9, _⟩ := id hF
  have HI : Hid (One W (w.heap.size + 1) (.int .i64 (pre.length : Int)) ∧ One W w.heap.size (.bool false) ∧ (∀ x, x ∈ pre → goodT x.proj) ∧ Below w.heap.size w W) := ⟨⟨hm1, hm2⟩, hres, hgood, hlow⟩
  have hlow1 := hlow.setCell (p := ⟨w.heap.size + 1, 0, none⟩) (by show w.heap.size ≤ w.heap.size + 1; omega) (.int .i64 ((pre.length : Int) + 1))
  have hSO := stmtOk_any (W.setCell ⟨w.heap.size + 1, 0, none⟩ (.int .i64 ((pre.length : Int) + 1))) lo hi x.s x.ax x.ay x.az x.cx x.cy x.cz (x.kr.under hlow1 hhi) (Nat.le_trans hhi hlow1.size) x.many x.th x.el
  clear hres hgood hlow hF hexp hlt hlow1
  have hne1 : ¬ Bx = w.heap.size + 1 := by omega
  have hne2 : ¬ w.heap.size = w.heap.size + 1 := by omega
  by_cases h14 : pre.length = 16
  ·have hp1 : (16 : Int) < (pre.length : Int) + 1 := by omega
   clear hSO
   gi_wp2
   refine ⟨trivial, ?_⟩
   gi_wp2
   obtain ⟨h1, h2, h3, h4⟩ := HI.out
   exact ⟨((KeepsOthers.setCell _ _ _).from _).trans ((KeepsOthers.setCell _ _ _).from _), rfl, ⟨(h2.other _ (by omega)).set _, .inl (by simp [h14]), (h4.setCell (p := ⟨w.heap.size + 1, 0, none⟩) (by show w.heap.size ≤ w.heap.size + 1; omega) _).setCell (p := ⟨w.heap.size, 0, none⟩) (Nat.le_refl _) _⟩⟩
  ·have hp1 : ¬ (16 : Int) < (pre.length : Int) + 1 := by omega
   by_cases h6 : x.d < 4
   ·have hp2 : ¬ (4 : Int) ≤ x.d := by omega
    cases hpb : stmtB x.s with
    | true =>
     rw [hpb] at hSO
     gi_wp2_with ((try refine ⟨trivial, ?_⟩); gi_at_call 215; refine (CallsIn.inRound l (callsIn_wide.2 hSO)).mono ?_; rintro e2 W2 ⟨rfl, g2⟩)
     obtain ⟨h1, h2, h3, h4⟩ := HI.out
     have hsz1 : (W.setCell ⟨w.heap.size + 1, 0, none⟩ (.int .i64 ((pre.length : Int) + 1))).heap.size = W.heap.size := by simp
     have hlow1 := h4.setCell (p := ⟨w.heap.size + 1, 0, none⟩) (by show w.heap.size ≤ w.heap.size + 1; omega) (.int .i64 ((pre.length : Int) + 1))
     refine ⟨((KeepsOthers.setCell _ _ _).from _).trans (KeepsFrom.of_below g2), (KeepsP.setCell W (by omega) (by omega) _).trans (.of_below g2 (by omega)), ⟨?_, (h2.other _ (by omega)).below g2 (by omega), ?_, ?_, hlow1.trans (g2.mono (by omega)), ?_⟩⟩
     ·rw [show ((pre ++ [x]).length : Int) = (pre.length : Int) + 1 by simp]
      exact (h1.set _).below g2 (by omega)
     ·intro y hy
      rcases List.mem_append.1 hy with hy | hy
      ·exact h3 y hy
      ·rw [List.mem_singleton] at hy; subst hy; exact ⟨h6, hpb⟩
     ·simp only [List.length_append, List.length_cons, List.length_nil]; omega
     ·have := g2.size; omega
    | false =>
     rw [hpb] at hSO
     gi_wp2_with ((try refine ⟨trivial, ?_⟩); gi_at_call 215; refine (CallsIn.inRound l (callsIn_wide.2 hSO)).mono ?_; rintro e2 W2 ⟨rfl, g2⟩; have hr3 := (g2.cell (p := ⟨w.heap.size, 0, none⟩) (by show w.heap.size < _; simp; omega)).trans ((HI.out.2.1.other _ (by omega)).1); have hr4 := (g2.frozen (p := ⟨w.heap.size, 0, none⟩) (by show w.heap.size < _; simp; omega)).trans ((HI.out.2.1.other _ (by omega)).2))
     obtain ⟨h1, h2, h3, h4⟩ := HI.out
     have hsz1 : (W.setCell ⟨w.heap.size + 1, 0, none⟩ (.int .i64 ((pre.length : Int) + 1))).heap.size = W.heap.size := by simp
     have hlow1 := h4.setCell (p := ⟨w.heap.size + 1, 0, none⟩) (by show w.heap.size ≤ w.heap.size + 1; omega) (.int .i64 ((pre.length : Int) + 1))
     exact ⟨(((KeepsOthers.setCell _ _ _).from _).trans (KeepsFrom.of_below g2)).trans ((KeepsOthers.setCell _ _ _).from _), rfl, ⟨One.set ⟨hr3, hr4⟩ _, .inr ⟨x, by simp, fun hg => by have := hg.2; rw [show stmtB x.proj.1 = stmtB x.s from rfl, hpb] at this; cases this⟩, (hlow1.trans (g2.mono (by omega))).setCell (p := ⟨w.heap.size, 0, none⟩) (Nat.le_refl _) _⟩⟩
   ·have hp2 : (4 : Int) ≤ x.d := by omega
    clear hSO
    gi_wp2
    refine ⟨trivial, ?_⟩
    gi_wp2
    obtain ⟨h1, h2, h3, h4⟩ := HI.out
    exact ⟨((KeepsOthers.setCell _ _ _).from _).trans ((KeepsOthers.setCell _ _ _).from _), rfl, ⟨(h2.other _ (by omega)).set _, .inr ⟨x, by simp, fun hg => by have : x.d < 4 := hg.1; omega⟩, (h4.setCell (p := ⟨w.heap.size + 1, 0, none⟩) (by show w.heap.size ≤ w.heap.size + 1; omega) _).setCell (p := ⟨w.heap.size, 0, none⟩) (Nat.le_refl _) _⟩⟩
 case done =>
  intro D ys W hD hS hi hK
  have hr1 := hi.res.1
  have hr2 := hi.res.2
  have hok : stmtsOk ss = true := by
   rw [hexp]
   refine ⟨fun x hx => ?_, ?_⟩
   ·rw [← hS] at hx
    obtain ⟨y, hy, rfl⟩ := List.mem_map.1 hx
    exact hi.good y hy
   ·have := congrArg List.length hS
    rw [List.length_map, preT_length] at this
    have := hi.few
    omega
  have HB : Hid (Below w.heap.size w W ∧ One W w.heap.size (.bool false)) := ⟨hi.low, hi.res⟩
  clear hi
  gi_wp2
  have hK' := (KeepsOthers.setCell W ⟨w.heap.size, 0, none⟩ (.bool true)).same D _ hK rfl
  refine ⟨by simp, .inl ⟨_, _, rfl, run_takeDeferred hK', ?_⟩⟩
  have hc5 := cell_kept (HB.out.2.set (.bool true)).1 (grownBy_putObj' _ D (.deferred none)) (fun r e => by cases e; exact ⟨_, hK', rfl⟩)
  refine ⟨.bool true, ?_, by rw [hok], (HB.out.1.setCell (p := ⟨w.heap.size, 0, none⟩) (Nat.le_refl _) _).trans (belowK_b (w := w) (Nat.le_refl _) _ D _ _ (by omega) hK' rfl rfl)⟩
  simp [results, Tryz.f146, go_sem, hc5]
 case stop =>
  rintro D c pre W hD hSp ⟨rfl, hx⟩ hK
  have hok : stmtsOk ss = false := by
   rw [Bool.eq_false_iff]
   intro h
   obtain ⟨h1, h2⟩ := hexp.1 h
   rcases hx.bad with hb | ⟨x, hxm, hxb⟩
   ·have := hSp.length_le
    rw [List.length_map, preT_length] at this
    omega
   ·exact hxb (h1 _ (hSp.subset (List.mem_map.2 ⟨x, hxm, rfl⟩)))
  have HB : Hid (Below w.heap.size w W ∧ One W w.heap.size (.bool false)) := ⟨hx.low, hx.res⟩
  clear hx
  gi_wp2
  refine ⟨by simp, .inl ⟨_, _, rfl, run_takeDeferred hK, ?_⟩⟩
  have hc5 := cell_kept HB.out.2.1 (grownBy_putObj' _ D (.deferred none)) (fun r e => by cases e; exact ⟨_, hK, rfl⟩)
  refine ⟨.bool false, ?_, by rw [hok], HB.out.1.trans (belowK_b (w := w) (Nat.le_refl _) _ D _ _ (by omega) hK rfl rfl)⟩
  simp [results, Tryz.f146, go_sem, hc5]

end Go.Proofs.YtaoiookfmgpmkaaGreatDoor
