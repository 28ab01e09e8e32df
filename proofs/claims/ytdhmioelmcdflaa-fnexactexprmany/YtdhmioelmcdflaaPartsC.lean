/-
  ExprMany of the program: the parts counted.
-/
import Derived.Test.YtdhmioelmcdflaaPartsB
namespace Go.Proofs.Ytdhmioelmcdflaa
open Go.ChangeShapes Go.WideShapes Go.ChangeAt Go.RowKit Go.Shelf
attribute [local go_sem] Oper.semAt_some
set_option linter.unusedVariables false

set_option maxRecDepth 100000 in
set_option maxHeartbeats 4000000 in
theorem iExprMany_any (w : World) (lo hi : Nat) (v : Value) (e : ExprD) (h : ER w lo hi v e) (hhi : hi ≤ w.heap.size) (hm : manyL e.kids ≤ 1048576) :
    Calls Try.prog 29 #[v] w fun en w' => en = .returned (.int .i64 ((exprMany e : Int))) ∧ Below w.heap.size w w' := by
  have hO := fun W hW hh => iExprOk_any W lo hi v e hW hh hm
  have HE := h
  obtain ⟨s, rfl, hk⟩ := h
  obtain ⟨ad, cap, rfl, hc1, hc2⟩ := hk.shape
  have hme := manyE_eq e
  have hem := exprMany_eq e
  obtain ⟨u0, hu0, G0, F0, S0⟩ : ∃ u0, w.alloc (.cells #[.int .i64 e.k, .int .i64 e.n, .int .i64 e.ak, .int .i64 e.at_, .slice ad e.kids.length cap] 27) = u0 ∧ Below w.heap.size w u0 ∧ Five u0 w.heap.size (.int .i64 e.k) (.int .i64 e.n) (.int .i64 e.ak) (.int .i64 e.at_) (.slice ad e.kids.length cap) ∧ u0.heap.size = w.heap.size + 1 :=
    ⟨_, rfl, (Below.refl w.heap.size w).alloc (Nat.le_refl _) _, five_new w _ _ _ _ _ _, by simp⟩
  have hO0 := hO u0 (HE.below G0 hhi) (by omega)
  obtain ⟨c0, c1, c2, c3, c4, _⟩ := id F0
  refine (callsIn_wide (n := 8)).1 ?_
  have hro : Fence.wide.round = none := rfl
  have hd : Fence.wide.depth = none := rfl
  cases hok : exprOk e with
  | false =>
    rw [hok] at hO0 hem
    have HEM : Hid (exprMany e = 0) := by show exprMany e = 0; rw [hem]; rfl
    clear hem
    refine callsIn_of_wp_marks Try.func29 rfl trivial ?_ hro
    simp only [Try.ntmps29, List.size_toArray, List.length_cons, List.length_nil, Nat.reduceAdd, Nat.reduceSub, Array.replicate_succ, Array.replicate_zero, List.push_toArray, List.append_toArray, List.nil_append, List.cons_append]
    gi_wp2_with ((try refine ⟨trivial, ?_⟩); gi_at_call 24; refine (callsIn_wide.2 hO0).mono ?_; rintro e1 w1 ⟨rfl, g1⟩)
    exact ⟨_, results_tmp rfl _ _ _, by rw [HEM.out]; rfl, G0.trans (g1.mono G0.size)⟩
  | true =>
    rw [hok] at hO0 hem
    have HEM : Hid (exprMany e = manyE e) := by show exprMany e = manyE e; rw [hem]; rfl
    clear hem
    refine callsIn_of_wp_marks Try.func29 rfl trivial ?_ hro
    simp only [Try.ntmps29, List.size_toArray, List.length_cons, List.length_nil, Nat.reduceAdd, Nat.reduceSub, Array.replicate_succ, Array.replicate_zero, List.push_toArray, List.append_toArray, List.nil_append, List.cons_append]
    gi_wp2_with (first
      | ((try refine ⟨trivial, ?_⟩); gi_at_call 24; refine (callsIn_wide.2 hO0).mono ?_; rintro e1 w1 ⟨rfl, g1⟩; have F1 := F0.under g1 (by omega); have b1 := fun o => (Below.refl w1.heap.size w1).alloc (Nat.le_refl _) o; have s1 := g1.size; have d0 := fun o => (F1.under (b1 o) (by omega)).c0; have d1 := fun o => (F1.under (b1 o) (by omega)).c1; have d2 := fun o => (F1.under (b1 o) (by omega)).c2; have d3 := fun o => (F1.under (b1 o) (by omega)).c3; have d4 := fun o => (F1.under (b1 o) (by omega)).c4)
      | ((try refine ⟨trivial, ?_⟩); gi_at_call 52; refine (exprParts_in Fence.wide _ trivial hro _ _ _ _ _ _ _ _).mono ?_; rintro e1 w2 ⟨rfl, rfl⟩))
    obtain ⟨W0, hW0, Z0, B0, C2, C3⟩ : ∃ W0, (w1.alloc (.cells #[.int .i64 0] 3)).alloc (.cells #[.int .i64 e.k, .int .i64 e.n, .int .i64 e.ak, .int .i64 e.at_, .slice ad e.kids.length cap] 27) = W0 ∧
        W0.heap.size = w1.heap.size + 2 ∧ Below w.heap.size w W0 ∧ One W0 w1.heap.size (.int .i64 0) ∧ Five W0 (w1.heap.size + 1) (.int .i64 e.k) (.int .i64 e.n) (.int .i64 e.ak) (.int .i64 e.at_) (.slice ad e.kids.length cap) := by
      refine ⟨_, rfl, by simp, ((G0.trans (g1.mono G0.size)).alloc (by omega) _).alloc (by simp; omega) _, ?_, ?_⟩
      · exact (one_new w1 (.int .i64 0) 3).below ((Below.refl _ _).alloc (Nat.le_refl _) _) (by simp)
      · have h1 := five_new (w1.alloc (.cells #[.int .i64 0] 3)) (.int .i64 e.k) (.int .i64 e.n) (.int .i64 e.ak) (.int .i64 e.at_) (.slice ad e.kids.length cap) 27
        simp only [World.size_alloc] at h1
        exact h1
    rw [hW0]
    clear hW0 d0 d1 d2 d3 d4 F1 b1 c0 c1 c2 c3 c4 hO hO0
    refine wpIn_rangeFunc_ownH hro (by decide) (gf := 80) (lb := #[.pointer (some ⟨w1.heap.size + 1, 0, none⟩)]) rfl trivial (enters_of Try.func80 (by kernel_rfl) rfl)
      (parts_stops Fence.wide hd _ trivial trivial hro (w1.heap.size + 1) w.heap.size W0.heap.size lo hi e ad cap W0 (by omega) hhi (by omega) (Nat.le_refl _) C3 (hk.under B0 hhi)) KeepsP.trans (keepsP_b (by omega)) (Below.refl _ _) (fun _ => rfl)
      (fun pre W => One W w1.heap.size (.int .i64 (pre.length : Int)) ∧ Below w.heap.size w W ∧ W0.heap.size ≤ W.heap.size) (fun _ _ _ => False)
      (fun s W W' row hs hg hr => ⟨hs.1.grownBy hg fun r e => (hr r e).2, hs.2.1.grown hg hs.2.1.size fun k e => Nat.le_trans (by omega) (hr k e).1, Nat.le_trans hs.2.2 hg.size⟩) (fun _ _ _ _ _ hs _ _ => hs)
      ⟨C2, B0, Nat.le_refl _⟩
      (fun x a' W => a' = { tmps := #[.agg #[.int .i64 e.k, .int .i64 e.n, .int .i64 e.ak, .int .i64 e.at_, .slice ad e.kids.length cap], .pointer (some ⟨w.heap.size, 0, none⟩), .int .i64 0, .pointer (some ⟨w1.heap.size, 0, none⟩), .agg #[.int .i64 e.k, .int .i64 e.n, .int .i64 e.ak, .int .i64 e.at_, .slice ad e.kids.length cap], .bool true, .bool false, .agg #[.int .i64 e.k, .int .i64 e.n, .int .i64 e.ak, .int .i64 e.at_, .slice ad e.kids.length cap], .func (.func 80) #[] #[.pointer (some ⟨w1.heap.size + 1, 0, none⟩)], .agg #[.int .i64 x.e.k, .int .i64 x.e.n, .int .i64 x.e.ak, .int .i64 x.e.at_, .slice x.ad x.e.kids.length x.cap], .int .i64 x.d, undef, undef, undef], defers := [] })
      (fun x a' s W W' row hs hg hr => hs)
      ?assign ?body ?done ?stop
    case assign =>
      intro l pre x W K hi hK
      simp only [PartV.encs, PartV.val]
      gi_wp2
      exact hK _ _ (KeepsFrom.refl _ _) (KeepsP.refl _ _ _) hi (by simp)
    case body =>
      rintro l pre x a' W hl _ ⟨hone, hlow, hsz⟩ rfl hlt
      have hm1 := hone.1
      have hm2 := hone.2
      have HI : Hid (One W w1.heap.size (.int .i64 (pre.length : Int)) ∧ Below w.heap.size w W) := ⟨hone, hlow⟩
      clear hone hlow
      have hp : (pre.length : Int) ≤ 1048576 := by omega
      gi_wp2
      refine ⟨(KeepsOthers.setCell _ _ _).from _, KeepsP.setCell W (by omega) (by omega) _, ?_, HI.out.2.setCell (p := ⟨w1.heap.size, 0, none⟩) (by show w.heap.size ≤ w1.heap.size; omega) _, by simp; omega⟩
      rw [show ((pre ++ [x]).length : Int) = (pre.length : Int) + 1 by simp]
      exact HI.out.1.set _
    case done =>
      intro D ys W hD hS hi hK
      have hr1 := hi.1.1
      have hlen : ys.length = manyE e := by
        have := congrArg List.length hS
        rw [List.length_map, preE_length] at this
        exact this
      have HB : Hid (Below w.heap.size w W ∧ ys.length = manyE e) := ⟨hi.2.1, hlen⟩
      clear hi hlen
      gi_wp2
      refine ⟨by simp, .inl ⟨_, _, rfl, run_takeDeferred hK, ?_⟩⟩
      exact ⟨_, results_tmp rfl _ _ _, by rw [HEM.out, ← HB.out.2]; rfl, HB.out.1.trans (belowK_b (w := w) (Nat.le_refl _) W D _ _ (by omega) hK rfl rfl)⟩
    case stop =>
      rintro D c pre W _ _ h _
      exact h.elim
end Go.Proofs.Ytdhmioelmcdflaa
