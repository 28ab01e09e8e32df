/-
  Chapter 10's program: SlimWrites: a loop over the statements that ends at the first that sets the place. (Written by our generator gen_slimw.py.)
-/
import Derived.Test.YtkeockippmmneaaStmtsB
import Derived.Test.YtkeockippmmneaaSlimWS
namespace Go.Proofs.Ytkeockippmmneaa
open Go.ChangeShapes Go.WideShapes Go.ChangeAt Go.RowKit Go.Shelf
attribute [local go_sem] Oper.semAt_some
set_option linter.unusedVariables false
set_option maxRecDepth 100000

theorem Pr2.grownByW {W W' : World} {row : Option Nat} {B : Nat} {x y : Value} (h : Pr2 W B x y) (hg : W.grownBy W' row) (hr : ∀ r, row = some r → ∃ o : Obj, W.heap[r]? = some o ∧ o.isCells = false) : Pr2 W' B x y :=
  ⟨cell_kept h.c0 hg hr, cell_kept h.c1 hg hr⟩

/-- Between two rounds of SlimWrites. -/
structure WrI {w0 : World} {lo hi : Nat} (w : World) (k t : Int) (n₁ : Nat) (pre : List (StmtX w0 lo hi)) (W : World) : Prop where
  res : One W (w.heap.size + 1) (.bool false)
  pl : Pr2 W w.heap.size (.int .i64 k) (.int .i64 t)
  none : ∀ x, x ∈ pre → setB k t x.proj.1 = false
  low : Below w.heap.size w W
  size : n₁ ≤ W.heap.size

/-- A round of SlimWrites has found one. -/
structure WrX {w0 : World} {lo hi : Nat} (w : World) (k t : Int) (pre : List (StmtX w0 lo hi)) (W : World) : Prop where
  res : One W (w.heap.size + 1) (.bool true)
  some : ∃ x, x ∈ pre ∧ setB k t x.proj.1 = true
  low : Below w.heap.size w W

theorem wrI_own {w0 : World} {lo hi : Nat} (w : World) (k t : Int) (n₁ B : Nat) (hB : w.heap.size ≤ B) : OwnFrom B (WrI (w0 := w0) (lo := lo) (hi := hi) w k t n₁) := fun s W W' row hs hg hr =>
  ⟨hs.res.grownBy hg fun r e => (hr r e).2, hs.pl.grownByW hg fun r e => (hr r e).2, hs.none, hs.low.grown hg hs.low.size fun k e => Nat.le_trans hB (hr k e).1, Nat.le_trans hs.size hg.size⟩
theorem wrX_own {w0 : World} {lo hi : Nat} (w : World) (k t : Int) (B : Nat) (hB : w.heap.size ≤ B) : OwnFrom B (WrX (w0 := w0) (lo := lo) (hi := hi) w k t) := fun s W W' row hs hg hr =>
  ⟨hs.res.grownBy hg fun r e => (hr r e).2, hs.some, hs.low.grown hg hs.low.size fun k e => Nat.le_trans hB (hr k e).1⟩

set_option maxHeartbeats 8000000 in
theorem iSlimWrites_any (w : World) (lo hi : Nat) (v : Value) (ss : List StmtD) (k t : Int) (h : SR w lo hi v ss) (hhi : hi ≤ w.heap.size) (hm : sizeL ss ≤ 1048576) :
    Calls Try.prog 19 #[v, .agg #[.int .i64 k, .int .i64 t]] w fun en w' => en = .returned (.bool (slimWrites ss k t)) ∧ Below w.heap.size w w' := by
  obtain ⟨ad, cap, rfl, hc1, hc2⟩ := h.shape
  have HS : Hid (SR w lo hi (.slice ad ss.length cap) ss) := h
  obtain ⟨u0, hu0, G0, P0, N0, S0⟩ : ∃ u0, (w.alloc (.cells #[.int .i64 k, .int .i64 t] 28)).alloc (.cells #[.bool false] 4) = u0 ∧
      Below w.heap.size w u0 ∧ Pr2 u0 w.heap.size (.int .i64 k) (.int .i64 t) ∧ One u0 (w.heap.size + 1) (.bool false) ∧ u0.heap.size = w.heap.size + 2 := by
    refine ⟨_, rfl, ((Below.refl _ w).alloc (Nat.le_refl _) _).alloc (by simp) _, ?_, ?_, by simp⟩
    · exact Pr2.below ⟨World.cell?_alloc_new _ _ _ _, World.cell?_alloc_new _ _ _ _⟩ ((Below.refl _ _).alloc (Nat.le_refl _) _) (by simp)
    · have n := one_new (w.alloc (.cells #[.int .i64 k, .int .i64 t] 28)) (.bool false) 4
      rwa [World.size_alloc] at n
  have hO0 := iStmtsOk_any u0 lo hi _ ss (HS.out.under G0 hhi) (by omega) hm
  have hcl := cnt_le ss
  obtain ⟨d0, d1⟩ := id P0
  obtain ⟨e0, e1⟩ := id N0
  clear h
  refine (callsIn_wide (n := 8)).1 ?_
  have hro : Fence.wide.round = none := rfl
  have hd : Fence.wide.depth = none := rfl
  cases hok : stmtsOk ss with
  | false =>
    rw [hok] at hO0
    have HEM : Hid (slimWrites ss k t = false) := by show slimWrites ss k t = false; unfold slimWrites; rw [hok]; rfl
    refine callsIn_of_wp_marks Try.func19 rfl trivial ?_ hro
    simp only [Try.ntmps19, List.size_toArray, List.length_cons, List.length_nil, Nat.reduceAdd, Nat.reduceSub, Array.replicate_succ, Array.replicate_zero, List.push_toArray, List.append_toArray, List.nil_append, List.cons_append]
    gi_wp2_with ((try refine ⟨trivial, ?_⟩); gi_at_call 39; refine (callsIn_wide.2 hO0).mono ?_; rintro e1 w1 ⟨rfl, g1⟩; have n1 := (g1.cell (p := ⟨w.heap.size + 1, 0, none⟩) (by show w.heap.size + 1 < _; omega)).trans N0.1; have n2 := (g1.frozen (p := ⟨w.heap.size + 1, 0, none⟩) (by show w.heap.size + 1 < _; omega)).trans N0.2)
    have hc5 : (w1.setCell ⟨w.heap.size + 1, 0, none⟩ (.bool false)).cell? ⟨w.heap.size + 1, 0, none⟩ = some (.bool false) := World.cell?_setCell_same' _ _ _ (by rw [n1]; rfl)
    refine ⟨.bool false, ?_, by rw [HEM.out], (G0.trans (g1.mono G0.size)).setCell (p := ⟨w.heap.size + 1, 0, none⟩) (by show w.heap.size ≤ w.heap.size + 1; omega) _⟩
    simp [results, Try.f19, go_sem, hc5]
  | true =>
    rw [hok] at hO0
    have HEM : Hid (slimWrites ss k t = (preT 0 ss).any fun x => setB k t x.1) := slimWrites_pre hok k t
    refine callsIn_of_wp_marks Try.func19 rfl trivial ?_ hro
    simp only [Try.ntmps19, List.size_toArray, List.length_cons, List.length_nil, Nat.reduceAdd, Nat.reduceSub, Array.replicate_succ, Array.replicate_zero, List.push_toArray, List.append_toArray, List.nil_append, List.cons_append]
    gi_wp2_with (first
      | ((try refine ⟨trivial, ?_⟩); gi_at_call 39; refine (callsIn_wide.2 hO0).mono ?_; rintro e1 w1 ⟨rfl, g1⟩; have P1 := P0.below g1 (by omega); have N1 := N0.below g1 (by omega); have s1 := g1.size)
      | ((try refine ⟨trivial, ?_⟩); gi_at_call 40; refine (stmtsWithin_in Fence.wide _ trivial hro _ _ _ _).mono ?_; rintro e1 w2 ⟨rfl, rfl⟩))
    obtain ⟨W0, hW0, Z0, B0, C1, C2, C3⟩ : ∃ W0, w1.alloc (.cells #[.slice ad ss.length cap] 43) = W0 ∧
        W0.heap.size = w1.heap.size + 1 ∧ Below w.heap.size w W0 ∧ Pr2 W0 w.heap.size (.int .i64 k) (.int .i64 t) ∧ One W0 (w.heap.size + 1) (.bool false) ∧ One W0 w1.heap.size (.slice ad ss.length cap) := by
      have b := fun o => (Below.refl w1.heap.size w1).alloc (Nat.le_refl _) o
      exact ⟨_, rfl, by simp, (G0.trans (g1.mono G0.size)).alloc (by omega) _, P1.below (b _) (by omega), N1.below (b _) (by omega), one_new _ _ _⟩
    rw [hW0]
    clear hW0 d0 d1 e0 e1 hO0 P1 N1
    refine wpIn_rangeFunc_ownH hro (by decide) (gf := 61) (lb := #[.pointer (some ⟨w1.heap.size, 0, none⟩)]) rfl trivial (enters_of Try.func61 (by kernel_rfl) rfl)
      (stmts_stops Fence.wide hd _ trivial trivial hro w lo hi hhi w1.heap.size w.heap.size W0.heap.size (Nat.le_refl _) ss _ W0 (by omega) (by omega) (Nat.le_refl _) B0 C3.1 HS.out hm) KeepsP.trans (keepsP_b (by omega)) (Below.refl _ _) (fun _ => rfl)
      (WrI w k t W0.heap.size) (fun c pre W => c = .ret ∧ WrX w k t pre W) (wrI_own w k t _ _ (by omega)) (fun c s W W' row hs hg hr => ⟨hs.1, wrX_own w k t W0.heap.size (by omega) s W W' row hs.2 hg hr⟩)
      ⟨C2, C1, by simp, B0, Nat.le_refl _⟩
      (fun x a' W => ∃ Bx, W0.heap.size ≤ Bx ∧ Bx < W.heap.size ∧ TenW W Bx (.int .i64 x.s.k) (.int .i64 x.s.tk) (.int .i64 x.s.ta) (.int .i64 x.s.e.k) (.int .i64 x.s.e.n) (.int .i64 x.s.e.ak) (.int .i64 x.s.e.at_) (.slice x.ax x.s.e.kids.length x.cx) (.slice x.ay x.s.th.length x.cy) (.slice x.az x.s.el.length x.cz) ∧ a' = { tmps := #[.slice ad ss.length cap, .agg #[.int .i64 k, .int .i64 t], undef, .pointer (some ⟨w.heap.size, 0, none⟩), .pointer (some ⟨w.heap.size + 1, 0, none⟩), .pointer (some ⟨Bx, 0, none⟩), .slice ad ss.length cap, .bool true, .bool false, .slice ad ss.length cap, .func (.func 61) #[] #[.pointer (some ⟨w1.heap.size, 0, none⟩)], .agg #[.int .i64 x.s.k, .int .i64 x.s.tk, .int .i64 x.s.ta, .int .i64 x.s.e.k, .int .i64 x.s.e.n, .int .i64 x.s.e.ak, .int .i64 x.s.e.at_, .slice x.ax x.s.e.kids.length x.cx, .slice x.ay x.s.th.length x.cy, .slice x.az x.s.el.length x.cz], .int .i64 x.d, undef, undef, undef, undef, undef, undef, undef, undef, undef], defers := [] })
      (fun x a' s W W' row hs hg hr => by
        obtain ⟨Bx, h1, h2, h3, h4⟩ := hs
        exact ⟨Bx, h1, Nat.lt_of_lt_of_le h2 hg.size, h3.grownBy hg fun r e => (hr r e).2, h4⟩)
      ?assign ?body ?done ?stop
    case assign =>
      intro l pre x W K hi hK
      have hsz := hi.size
      have hB := hi.low
      simp only [StmtX.encs, StmtX.val]
      gi_wp2
      refine hK _ _ ((KeepsOthers.alloc _ _).from _) (.alloc W (by omega) _) (wrI_own w k t W0.heap.size W0.heap.size (by omega) pre W _ none hi (World.grownBy_alloc W _ none) (fun r e => by cases e)) ⟨W.heap.size, hsz, by simp, tenW_new W _ _ _ _ _ _ _ _ _ _ _, rfl⟩
    case body =>
      rintro l pre x a' W hl _ hi ⟨Bx, hBx, hBx2, hF, rfl⟩ hlt
      obtain ⟨hres, hpl, hnone, hlow, hsz⟩ := hi
      have hr1 := hres.1
      have hr2 := hres.2
      obtain ⟨p0, p1⟩ := id hpl
      obtain ⟨c0, c1, c2, c3, c4, c5, c6, c7, c8, c9, _⟩ := id hF
      have HI : Hid (One W (w.heap.size + 1) (.bool false) ∧ Pr2 W w.heap.size (.int .i64 k) (.int .i64 t) ∧ (∀ x, x ∈ pre → setB k t x.proj.1 = false) ∧ Below w.heap.size w W) := ⟨hres, hpl, hnone, hlow⟩
      have hsb : setB k t x.s = ((x.s.k == 1) && ((x.s.tk == k) && (x.s.ta == t))) := rfl
      have hxp : x.proj.1 = x.s := rfl
      clear hres hpl hnone hlow hF hlt
      have fin : setB k t x.s = false → KeepsFrom W0.heap.size W W ∧ KeepsP w.heap.size W0.heap.size W W ∧ WrI w k t W0.heap.size (pre ++ [x]) W := by
        intro hpb
        obtain ⟨h1, h2, h3, h4⟩ := HI.out
        refine ⟨KeepsFrom.refl _ _, KeepsP.refl _ _ _, ⟨h1, h2, ?_, h4, hsz⟩⟩
        intro y hy
        rcases List.mem_append.1 hy with hy | hy
        · exact h3 y hy
        · rw [List.mem_singleton] at hy; subst hy; exact hpb
      have FIN : Hid (setB k t x.s = false → KeepsFrom W0.heap.size W W ∧ KeepsP w.heap.size W0.heap.size W W ∧ WrI w k t W0.heap.size (pre ++ [x]) W) := fin
      clear fin
      cases b1 : (x.s.k == 1) with
      | false =>
        have HQ : Hid (setB k t x.s = false) := by show setB k t x.s = false; rw [hsb, b1]; rfl
        clear hsb
        gi_wp2
        exact FIN.out HQ.out
      | true =>
        cases b2 : (x.s.tk == k) with
        | false =>
          have HQ : Hid (setB k t x.s = false) := by show setB k t x.s = false; rw [hsb, b1, b2]; rfl
          clear hsb
          gi_wp2
          exact FIN.out HQ.out
        | true =>
          cases b3 : (x.s.ta == t) with
          | false =>
            have HQ : Hid (setB k t x.s = false) := by show setB k t x.s = false; rw [hsb, b1, b2, b3]; rfl
            clear hsb
            gi_wp2
            exact FIN.out HQ.out
          | true =>
            have HQ : Hid (setB k t x.s = true) := by show setB k t x.s = true; rw [hsb, b1, b2, b3]; rfl
            clear hsb
            gi_wp2
            obtain ⟨h1, h2, h3, h4⟩ := HI.out
            exact ⟨(KeepsOthers.setCell _ _ _).from _, rfl, ⟨h1.set _, ⟨x, by simp, HQ.out⟩, h4.setCell (p := ⟨w.heap.size + 1, 0, none⟩) (by show w.heap.size ≤ w.heap.size + 1; omega) _⟩⟩
    case done =>
      intro D ys W hD hS hi hK
      have hr1 := hi.res.1
      have hr2 := hi.res.2
      have HQ : Hid (slimWrites ss k t = false) := by
        show slimWrites ss k t = false
        rw [HEM.out, ← hS, List.any_map, List.any_eq_false]
        intro y hy
        have := hi.none y hy
        simp only [Function.comp_apply]
        rw [this]; decide
      have HB : Hid (Below w.heap.size w W ∧ One W (w.heap.size + 1) (.bool false)) := ⟨hi.low, hi.res⟩
      clear hi
      gi_wp2
      have hK' := (KeepsOthers.setCell W ⟨w.heap.size + 1, 0, none⟩ (.bool false)).same D _ hK rfl
      refine ⟨by simp, .inl ⟨_, _, rfl, run_takeDeferred hK', ?_⟩⟩
      have hc5 := cell_kept (HB.out.2.set (.bool false)).1 (grownBy_putObj' _ D (.deferred none)) (fun r e => by cases e; exact ⟨_, hK', rfl⟩)
      refine ⟨.bool false, ?_, by rw [HQ.out], (HB.out.1.setCell (p := ⟨w.heap.size + 1, 0, none⟩) (by show w.heap.size ≤ w.heap.size + 1; omega) _).trans (belowK_b (w := w) (Nat.le_refl _) _ D _ _ (by omega) hK' rfl rfl)⟩
      simp [results, Try.f19, go_sem, hc5]
    case stop =>
      rintro D c pre W hD hSp ⟨rfl, hx⟩ hK
      have HQ : Hid (slimWrites ss k t = true) := by
        show slimWrites ss k t = true
        rw [HEM.out, List.any_eq_true]
        obtain ⟨x, hxm, hxb⟩ := hx.some
        exact ⟨x.proj, hSp.subset (List.mem_map.2 ⟨x, hxm, rfl⟩), hxb⟩
      have HB : Hid (Below w.heap.size w W ∧ One W (w.heap.size + 1) (.bool true)) := ⟨hx.low, hx.res⟩
      clear hx
      gi_wp2
      refine ⟨by simp, .inl ⟨_, _, rfl, run_takeDeferred hK, ?_⟩⟩
      have hc5 := cell_kept HB.out.2.1 (grownBy_putObj' _ D (.deferred none)) (fun r e => by cases e; exact ⟨_, hK, rfl⟩)
      refine ⟨.bool true, ?_, by rw [HQ.out], HB.out.1.trans (belowK_b (w := w) (Nat.le_refl _) _ D _ _ (by omega) hK rfl rfl)⟩
      simp [results, Try.f19, go_sem, hc5]
end Go.Proofs.Ytkeockippmmneaa
