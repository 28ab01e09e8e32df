/-
  StmtsOk and StmtsMany of the program: loops over the statements.
-/
import Derived.Test.YtkeockippmmneaaStmtsA
import Derived.Test.YtkeockippmmneaaStmtFit
namespace Go.Proofs.Ytkeockippmmneaa
open Go.ChangeShapes Go.WideShapes Go.ChangeAt Go.RowKit Go.Shelf
attribute [local go_sem] Oper.semAt_some
set_option linter.unusedVariables false

theorem TenW.grownBy {W W' : World} {row : Option Nat} {B : Nat} {x0 x1 x2 x3 x4 x5 x6 x7 x8 x9 : Value} (h : TenW W B x0 x1 x2 x3 x4 x5 x6 x7 x8 x9) (hg : W.grownBy W' row) (hr : ∀ r, row = some r → ∃ o : Obj, W.heap[r]? = some o ∧ o.isCells = false) : TenW W' B x0 x1 x2 x3 x4 x5 x6 x7 x8 x9 := by
  obtain ⟨o, ho, hc⟩ := cells_of_cell h.c0
  exact h.at_ ((grownBy_keeps_cells hg hr ho hc).trans (by rw [ho]))

/-- Between two rounds of StmtsOk. -/
structure OkTI {w0 : World} {lo hi : Nat} (w : World) (n₁ : Nat) (pre : List (StmtX w0 lo hi)) (W : World) : Prop where
  many : One W (w.heap.size + 1) (.int .i64 (pre.length : Int))
  res : One W w.heap.size (.bool false)
  good : ∀ x, x ∈ pre → goodT x.proj
  few : pre.length ≤ 16
  low : Below w.heap.size w W
  size : n₁ ≤ W.heap.size

/-- A round of StmtsOk has found one that is not right. -/
structure OkTX {w0 : World} {lo hi : Nat} (w : World) (pre : List (StmtX w0 lo hi)) (W : World) : Prop where
  res : One W w.heap.size (.bool false)
  bad : 16 < pre.length ∨ ∃ x, x ∈ pre ∧ ¬ goodT x.proj
  low : Below w.heap.size w W

theorem okTI_own {w0 : World} {lo hi : Nat} (w : World) (n₁ B : Nat) (hB : w.heap.size ≤ B) : OwnFrom B (OkTI (w0 := w0) (lo := lo) (hi := hi) w n₁) := fun s W W' row hs hg hr =>
  ⟨hs.many.grownBy hg fun r e => (hr r e).2, hs.res.grownBy hg fun r e => (hr r e).2, hs.good, hs.few, hs.low.grown hg hs.low.size fun k e => Nat.le_trans hB (hr k e).1, Nat.le_trans hs.size hg.size⟩
theorem okTX_own {w0 : World} {lo hi : Nat} (w : World) (B : Nat) (hB : w.heap.size ≤ B) : OwnFrom B (OkTX (w0 := w0) (lo := lo) (hi := hi) w) := fun s W W' row hs hg hr =>
  ⟨hs.res.grownBy hg fun r e => (hr r e).2, hs.bad, hs.low.grown hg hs.low.size fun k e => Nat.le_trans hB (hr k e).1⟩

set_option maxRecDepth 100000 in
set_option maxHeartbeats 8000000 in
theorem iStmtsOk_any (w : World) (lo hi : Nat) (v : Value) (ss : List StmtD) (h : SR w lo hi v ss) (hhi : hi ≤ w.heap.size) (hm : sizeL ss ≤ 1048576) :
    Calls Try.prog 39 #[v] w fun en w' => en = .returned (.bool (stmtsOk ss)) ∧ Below w.heap.size w w' := by
  obtain ⟨ad, cap, rfl, hc1, hc2⟩ := h.shape
  refine (callsIn_wide (n := 8)).1 ?_
  have hro : Fence.wide.round = none := rfl
  have hd : Fence.wide.depth = none := rfl
  refine callsIn_of_wp_marks Try.func39 rfl trivial ?_ hro
  simp only [Try.ntmps39, List.size_toArray, List.length_cons, List.length_nil, Nat.reduceAdd, Nat.reduceSub, Array.replicate_succ, Array.replicate_zero, List.push_toArray, List.append_toArray, List.nil_append, List.cons_append]
  gi_wp2_with ((try refine ⟨trivial, ?_⟩); gi_at_call 40; refine (stmtsWithin_in Fence.wide _ trivial hro _ _ _ _).mono ?_; rintro e1 w1 ⟨rfl, rfl⟩)
  obtain ⟨W0, hW0, Z0, B0, C1, C2, C3⟩ : ∃ W0, ((w.alloc (.cells #[.bool false] 4)).alloc (.cells #[.int .i64 0] 3)).alloc (.cells #[.slice ad ss.length cap] 43) = W0 ∧
      W0.heap.size = w.heap.size + 3 ∧ Below w.heap.size w W0 ∧ One W0 w.heap.size (.bool false) ∧ One W0 (w.heap.size + 1) (.int .i64 0) ∧ One W0 (w.heap.size + 1 + 1) (.slice ad ss.length cap) := by
    refine ⟨_, rfl, by simp, (((Below.refl _ w).alloc (Nat.le_refl _) _).alloc (by simp) _).alloc (by simp; omega) _, ?_, ?_, ?_⟩
    · exact (one_new w (.bool false) 4).below (((Below.refl _ _).alloc (Nat.le_refl _) _).alloc (by simp) _) (by simp)
    · have h1 := one_new (w.alloc (.cells #[.bool false] 4)) (.int .i64 0) 3
      rw [World.size_alloc] at h1
      exact h1.below ((Below.refl _ _).alloc (Nat.le_refl _) _) (by simp)
    · have h1 := one_new ((w.alloc (.cells #[.bool false] 4)).alloc (.cells #[.int .i64 0] 3)) (.slice ad ss.length cap) 43
      simp only [World.size_alloc] at h1
      exact h1
  rw [hW0]
  clear hW0
  have hexp := stmtsOk_iff ss
  refine wpIn_rangeFunc_ownH hro (by decide) (gf := 61) (lb := #[.pointer (some ⟨w.heap.size + 1 + 1, 0, none⟩)]) rfl trivial (enters_of Try.func61 (by kernel_rfl) rfl)
    (stmts_stops Fence.wide hd _ trivial trivial hro w lo hi hhi (w.heap.size + 1 + 1) w.heap.size W0.heap.size (Nat.le_refl _) ss _ W0 (by omega) (by omega) (Nat.le_refl _) B0 C3.1 h hm) KeepsP.trans (keepsP_b (by omega)) (Below.refl _ _) (fun _ => rfl)
    (OkTI w W0.heap.size) (fun c pre W => c = .ret ∧ OkTX w pre W) (okTI_own w _ _ (by omega)) (fun c s W W' row hs hg hr => ⟨hs.1, okTX_own w W0.heap.size (by omega) s W W' row hs.2 hg hr⟩)
    ⟨C2, C1, by simp, by simp, B0, Nat.le_refl _⟩
    (fun x a' W => ∃ Bx, W0.heap.size ≤ Bx ∧ Bx < W.heap.size ∧ TenW W Bx (.int .i64 x.s.k) (.int .i64 x.s.tk) (.int .i64 x.s.ta) (.int .i64 x.s.e.k) (.int .i64 x.s.e.n) (.int .i64 x.s.e.ak) (.int .i64 x.s.e.at_) (.slice x.ax x.s.e.kids.length x.cx) (.slice x.ay x.s.th.length x.cy) (.slice x.az x.s.el.length x.cz) ∧ a' = { tmps := #[.slice ad ss.length cap, undef, .pointer (some ⟨w.heap.size, 0, none⟩), .pointer (some ⟨w.heap.size + 1, 0, none⟩), .pointer (some ⟨Bx, 0, none⟩), .int .i64 x.d, .slice ad ss.length cap, .func (.func 61) #[] #[.pointer (some ⟨w.heap.size + 1 + 1, 0, none⟩)], .agg #[.int .i64 x.s.k, .int .i64 x.s.tk, .int .i64 x.s.ta, .int .i64 x.s.e.k, .int .i64 x.s.e.n, .int .i64 x.s.e.ak, .int .i64 x.s.e.at_, .slice x.ax x.s.e.kids.length x.cx, .slice x.ay x.s.th.length x.cy, .slice x.az x.s.el.length x.cz], .int .i64 x.d, undef, undef, undef, undef, undef, undef, undef, undef, undef, undef, undef, undef, undef], defers := [] })
    (fun x a' s W W' row hs hg hr => by
      obtain ⟨Bx, h1, h2, h3, h4⟩ := hs
      exact ⟨Bx, h1, Nat.lt_of_lt_of_le h2 hg.size, h3.grownBy hg fun r e => (hr r e).2, h4⟩)
    ?assign ?body ?done ?stop
  case assign =>
    intro l pre x W K hi hK
    have hsz := hi.size
    have hB := hi.low
    simp only [StmtX.encs, StmtX.val]
    gi_wp2
    refine hK _ _ ((KeepsOthers.alloc _ _).from _) (.alloc W (by omega) _) (okTI_own w W0.heap.size W0.heap.size (by omega) pre W _ none hi (World.grownBy_alloc W _ none) (fun r e => by cases e)) ⟨W.heap.size, hsz, by simp, tenW_new W _ _ _ _ _ _ _ _ _ _ _, rfl⟩
  case body =>
    rintro l pre x a' W hl _ hi ⟨Bx, hBx, hBx2, hF, rfl⟩ hlt
    obtain ⟨⟨hm1, hm2⟩, hres, hgood, hfew, hlow, hsz⟩ := hi
    have hr1 := hres.1
    have hr2 := hres.2
    obtain ⟨c0, c1, c2, c3, c4, c5, c6, c7, c8, c9, _⟩ := id hF
    have HI : Hid (One W (w.heap.size + 1) (.int .i64 (pre.length : Int)) ∧ One W w.heap.size (.bool false) ∧ (∀ x, x ∈ pre → goodT x.proj) ∧ Below w.heap.size w W) := ⟨⟨hm1, hm2⟩, hres, hgood, hlow⟩
    have hlow1 := hlow.setCell (p := ⟨w.heap.size + 1, 0, none⟩) (by show w.heap.size ≤ w.heap.size + 1; omega) (.int .i64 ((pre.length : Int) + 1))
    have hSO := stmtOk_any (W.setCell ⟨w.heap.size + 1, 0, none⟩ (.int .i64 ((pre.length : Int) + 1))) lo hi x.s x.ax x.ay x.az x.cx x.cy x.cz (x.kr.under hlow1 hhi) (Nat.le_trans hhi hlow1.size) x.many x.th x.el
    clear hres hgood hlow hF hexp hlt hlow1
    have hne1 : ¬ Bx = w.heap.size + 1 := by omega
    have hne2 : ¬ w.heap.size = w.heap.size + 1 := by omega
    by_cases h14 : pre.length = 16
    · have hp1 : (16 : Int) < (pre.length : Int) + 1 := by omega
      clear hSO
      gi_wp2
      refine ⟨trivial, ?_⟩
      gi_wp2
      obtain ⟨h1, h2, h3, h4⟩ := HI.out
      exact ⟨((KeepsOthers.setCell _ _ _).from _).trans ((KeepsOthers.setCell _ _ _).from _), rfl, ⟨(h2.other _ (by omega)).set _, .inl (by simp [h14]), (h4.setCell (p := ⟨w.heap.size + 1, 0, none⟩) (by show w.heap.size ≤ w.heap.size + 1; omega) _).setCell (p := ⟨w.heap.size, 0, none⟩) (Nat.le_refl _) _⟩⟩
    · have hp1 : ¬ (16 : Int) < (pre.length : Int) + 1 := by omega
      by_cases h6 : x.d < 4
      · have hp2 : ¬ (4 : Int) ≤ x.d := by omega
        cases hpb : stmtB x.s with
        | true =>
          rw [hpb] at hSO
          gi_wp2_with ((try refine ⟨trivial, ?_⟩); gi_at_call 60; refine (CallsIn.inRound l (callsIn_wide.2 hSO)).mono ?_; rintro e2 W2 ⟨rfl, g2⟩)
          obtain ⟨h1, h2, h3, h4⟩ := HI.out
          have hsz1 : (W.setCell ⟨w.heap.size + 1, 0, none⟩ (.int .i64 ((pre.length : Int) + 1))).heap.size = W.heap.size := by simp
          have hlow1 := h4.setCell (p := ⟨w.heap.size + 1, 0, none⟩) (by show w.heap.size ≤ w.heap.size + 1; omega) (.int .i64 ((pre.length : Int) + 1))
          refine ⟨((KeepsOthers.setCell _ _ _).from _).trans (KeepsFrom.of_below g2), (KeepsP.setCell W (by omega) (by omega) _).trans (.of_below g2 (by omega)), ⟨?_, (h2.other _ (by omega)).below g2 (by omega), ?_, ?_, hlow1.trans (g2.mono (by omega)), ?_⟩⟩
          · rw [show ((pre ++ [x]).length : Int) = (pre.length : Int) + 1 by simp]
            exact (h1.set _).below g2 (by omega)
          · intro y hy
            rcases List.mem_append.1 hy with hy | hy
            · exact h3 y hy
            · rw [List.mem_singleton] at hy; subst hy; exact ⟨h6, hpb⟩
          · simp only [List.length_append, List.length_cons, List.length_nil]; omega
          · have := g2.size; omega
        | false =>
          rw [hpb] at hSO
          gi_wp2_with ((try refine ⟨trivial, ?_⟩); gi_at_call 60; refine (CallsIn.inRound l (callsIn_wide.2 hSO)).mono ?_; rintro e2 W2 ⟨rfl, g2⟩; have hr3 := (g2.cell (p := ⟨w.heap.size, 0, none⟩) (by show w.heap.size < _; simp; omega)).trans ((HI.out.2.1.other _ (by omega)).1); have hr4 := (g2.frozen (p := ⟨w.heap.size, 0, none⟩) (by show w.heap.size < _; simp; omega)).trans ((HI.out.2.1.other _ (by omega)).2))
          obtain ⟨h1, h2, h3, h4⟩ := HI.out
          have hsz1 : (W.setCell ⟨w.heap.size + 1, 0, none⟩ (.int .i64 ((pre.length : Int) + 1))).heap.size = W.heap.size := by simp
          have hlow1 := h4.setCell (p := ⟨w.heap.size + 1, 0, none⟩) (by show w.heap.size ≤ w.heap.size + 1; omega) (.int .i64 ((pre.length : Int) + 1))
          exact ⟨(((KeepsOthers.setCell _ _ _).from _).trans (KeepsFrom.of_below g2)).trans ((KeepsOthers.setCell _ _ _).from _), rfl, ⟨One.set ⟨hr3, hr4⟩ _, .inr ⟨x, by simp, fun hg => by have := hg.2; rw [show stmtB x.proj.1 = stmtB x.s from rfl, hpb] at this; cases this⟩, (hlow1.trans (g2.mono (by omega))).setCell (p := ⟨w.heap.size, 0, none⟩) (Nat.le_refl _) _⟩⟩
      · have hp2 : (4 : Int) ≤ x.d := by omega
        clear hSO
        gi_wp2
        refine ⟨trivial, ?_⟩
        gi_wp2
        obtain ⟨h1, h2, h3, h4⟩ := HI.out
        exact ⟨((KeepsOthers.setCell _ _ _).from _).trans ((KeepsOthers.setCell _ _ _).from _), rfl, ⟨(h2.other _ (by omega)).set _, .inr ⟨x, by simp, fun hg => by have : x.d < 4 := hg.1; omega⟩, (h4.setCell (p := ⟨w.heap.size + 1, 0, none⟩) (by show w.heap.size ≤ w.heap.size + 1; omega) _).setCell (p := ⟨w.heap.size, 0, none⟩) (Nat.le_refl _) _⟩⟩
  case done =>
    intro D ys W hD hS hi hK
    have hr1 := hi.res.1
    have hr2 := hi.res.2
    have hok : stmtsOk ss = true := by
      rw [hexp]
      refine ⟨fun x hx => ?_, ?_⟩
      · rw [← hS] at hx
        obtain ⟨y, hy, rfl⟩ := List.mem_map.1 hx
        exact hi.good y hy
      · have := congrArg List.length hS
        rw [List.length_map, preT_length] at this
        have := hi.few
        omega
    have HB : Hid (Below w.heap.size w W ∧ One W w.heap.size (.bool false)) := ⟨hi.low, hi.res⟩
    clear hi
    gi_wp2
    have hK' := (KeepsOthers.setCell W ⟨w.heap.size, 0, none⟩ (.bool true)).same D _ hK rfl
    refine ⟨by simp, .inl ⟨_, _, rfl, run_takeDeferred hK', ?_⟩⟩
    have hc5 := cell_kept (HB.out.2.set (.bool true)).1 (grownBy_putObj' _ D (.deferred none)) (fun r e => by cases e; exact ⟨_, hK', rfl⟩)
    refine ⟨.bool true, ?_, by rw [hok], (HB.out.1.setCell (p := ⟨w.heap.size, 0, none⟩) (Nat.le_refl _) _).trans (belowK_b (w := w) (Nat.le_refl _) _ D _ _ (by omega) hK' rfl rfl)⟩
    simp [results, Try.f39, go_sem, hc5]
  case stop =>
    rintro D c pre W hD hSp ⟨rfl, hx⟩ hK
    have hok : stmtsOk ss = false := by
      rw [Bool.eq_false_iff]
      intro h
      obtain ⟨h1, h2⟩ := hexp.1 h
      rcases hx.bad with hb | ⟨x, hxm, hxb⟩
      · have := hSp.length_le
        rw [List.length_map, preT_length] at this
        omega
      · exact hxb (h1 _ (hSp.subset (List.mem_map.2 ⟨x, hxm, rfl⟩)))
    have HB : Hid (Below w.heap.size w W ∧ One W w.heap.size (.bool false)) := ⟨hx.low, hx.res⟩
    clear hx
    gi_wp2
    refine ⟨by simp, .inl ⟨_, _, rfl, run_takeDeferred hK, ?_⟩⟩
    have hc5 := cell_kept HB.out.2.1 (grownBy_putObj' _ D (.deferred none)) (fun r e => by cases e; exact ⟨_, hK, rfl⟩)
    refine ⟨.bool false, ?_, by rw [hok], HB.out.1.trans (belowK_b (w := w) (Nat.le_refl _) _ D _ _ (by omega) hK rfl rfl)⟩
    simp [results, Try.f39, go_sem, hc5]

end Go.Proofs.Ytkeockippmmneaa
