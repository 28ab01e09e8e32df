/-
  Draws of what is reckoned: l3Some, l3Bent.
-/
import Derived.Test.YtdhmioelmcdflaaDrawExprB
import Derived.Test.YtdhmioelmcdflaaExprSpec2
namespace Go.Proofs.Ytdhmioelmcdflaa
open Go.ChangeShapes Go.WideShapes Go.ChangeAt Go.RowKit
set_option linter.unusedVariables false
set_option maxRecDepth 100000

theorem big4 {d : Nat} (h : d ≤ 4) : big d ≤ 155 := by
  obtain rfl | rfl | rfl | rfl | rfl : d = 0 ∨ d = 1 ∨ d = 2 ∨ d = 3 ∨ d = 4 := by omega
  all_goals decide

set_option maxHeartbeats 4000000 in
theorem l3Some_any (n0 : Nat) (w : World) (B : Nat) (a : Option Addr) (len cap : Nat) (q : Int) (h : RdQ n0 B a len cap q w) (hq : q + 200 < 1000000) :
    Calls Try.prog 63 #[.pointer (some ⟨B, 0, none⟩)] w fun en w' => ∃ v e, en = .returned v ∧ EO w' w.heap.size w'.heap.size v e ∧ manyE e ≤ 155 ∧ RdQ n0 B a len cap (q + 200) w' ∧ Aside B w w' := by
  have hB := h.hi
  obtain ⟨u0, hu0, A0, R0, S0, P0⟩ : ∃ u0, w.alloc (.cells #[.int .i64 0, .int .i64 0, .int .i64 0, .int .i64 0, .slice none 0 0] 27) = u0 ∧ Aside B w u0 ∧ RdQ n0 B a len cap q u0 ∧ u0.heap.size = w.heap.size + 1 ∧ Five u0 w.heap.size (.int .i64 0) (.int .i64 0) (.int .i64 0) (.int .i64 0) (.slice none 0 0) :=
    ⟨_, rfl, aside_alloc _ _ _, h.kept ((Below.refl _ _).alloc (Nat.le_refl _) _), by simp, five_new _ _ _ _ _ _ _⟩
  go_enter Try.func63, Try.ntmps63
  go_wp2_with fail
  clear hu0
  refine (pickQ n0 _ B a len cap _ 4 R0 (by omega) (by omega) (by omega)).mono ?_
  rintro e u1 ⟨r, rfl, hr0, hr1, R1, A1⟩
  have S1 := A1.size
  have P1 := P0.aside A1 (by omega) (by omega)
  have A2 := A0.trans A1
  clear A0 R0 P0 A1
  obtain ⟨d, hd, hd4⟩ : ∃ d : Nat, (d : Int) = 1 + r ∧ d ≤ 4 := ⟨(1 + r).toNat, by omega, by omega⟩
  have hb4 := big4 hd4
  have hE := exprS d (by omega) n0 u1 B a len cap _ R1 (by omega)
  rw [hd] at hE
  go_wp2_with fail
  refine hE.mono ?_
  rintro e1 u2 ⟨v, e, rfl, ⟨s, rfl, hko⟩, hm, R2, A3⟩
  obtain ⟨ads, cps, rfl, _, _⟩ := hko.kr.shape
  have S2 := A3.size
  have P2 := P1.aside A3 (by omega) (by omega)
  have A4 := A2.trans A3
  have hmm := manyE_eq e
  have R2' : RdQ n0 B a len cap (q + 156) u2 := R2.mono (by omega)
  clear hE R1 R2 A2 A3 P1
  obtain ⟨u3, hu3, g3, V3, S3⟩ : ∃ u3, u2.alloc (.cells #[.int .i64 e.k, .int .i64 e.n, .int .i64 e.ak, .int .i64 e.at_, .slice ads e.kids.length cps] 27) = u3 ∧ Below u2.heap.size u2 u3 ∧ Five u3 u2.heap.size (.int .i64 e.k) (.int .i64 e.n) (.int .i64 e.ak) (.int .i64 e.at_) (.slice ads e.kids.length cps) ∧ u3.heap.size = u2.heap.size + 1 :=
    ⟨_, rfl, (Below.refl _ _).alloc (Nat.le_refl _) _, five_new _ _ _ _ _ _ _, by simp⟩
  obtain ⟨d0, d1, d2, d3, d4, _⟩ := id V3
  go_wp2_with fail
  clear hu3 d0 d1 d2 d3 d4
  have hko3 := hko.under g3 (Nat.le_refl _)
  refine (sExprOk_any _ u1.heap.size u2.heap.size _ e ⟨_, rfl, hko3.kr⟩ (by omega) (by omega)).mono ?_
  rintro e1 u4 ⟨rfl, g4⟩
  have S4 := g4.size
  have V4 := V3.under g4 (by omega)
  have P4 := (P2.under g3 (by omega)).under g4 (by omega)
  have R4 := (R2'.kept g3).kept g4
  have A5 := (A4.trans (aside_of g3)).trans (aside_of g4)
  have hko4 := hko3.under g4 (by omega)
  clear hko hko3 R2' A4 P2 V3 g3 g4
  cases hok : exprOk e with
  | true =>
    have HKO : Hid (KO u4 (w.heap.size + 1) u4.heap.size (.slice ads e.kids.length cps) e.kids) := hko4.wide (by omega) (by omega)
    clear hko4
    obtain ⟨u9, hu9, F9, HX9⟩ := draw_ret (N := 155) (q' := q + 200) (k := e.k) (n := e.n) (ak := e.ak) (at_ := e.at_) (s := .slice ads e.kids.length cps) (es := e.kids) P4 R4 A5 HKO.out (by omega) (by rw [← ExprD.eta]; omega) hB (by omega)
    have HU : Hid (_ = u9) := hu9
    have HF : Hid (Five u9 w.heap.size _ _ _ _ _) := F9
    obtain ⟨p0, p1, p2, p3, p4, pf⟩ := P4
    obtain ⟨y0, y1, y2, y3, y4, _⟩ := V4
    have q0 := pf 0
    have q1 := pf 1
    have q2 := pf 2
    have q3 := pf 3
    have q4 := pf 4
    clear pf hu9 F9
    go_wp2
    rw [HU.out]
    obtain ⟨r0, r1, r2, r3, r4, _⟩ := HF.out
    exact bodyPost_ret (v := .agg #[.int .i64 e.k, .int .i64 e.n, .int .i64 e.ak, .int .i64 e.at_, .slice ads e.kids.length cps]) (by simp [results, Try.results63, go_sem, r0, r1, r2, r3, r4]) rfl (by obtain ⟨v, e, h1, h2⟩ := HX9; first | exact ⟨v, e, h1, h2⟩ | exact ⟨v, h1, e, h2⟩)
  | false =>
    clear hko4 V4
    go_wp2_with fail
    have hE := exprS 2 (by omega) n0 u4 B a len cap _ R4 (by have : big 2 = 35 := rfl; omega)
    refine hE.mono ?_
    rintro e1 u5 ⟨v, e', rfl, ⟨s', rfl, hko5⟩, hm5, R5, A6⟩
    have hb2 : big 2 = 35 := rfl
    rw [hb2] at hm5 R5
    obtain ⟨ads', cps', rfl, _, _⟩ := hko5.kr.shape
    have S5 := A6.size
    have P5 := P4.aside A6 (by omega) (by omega)
    have A7 := A5.trans A6
    have HKO : Hid (KO u5 (w.heap.size + 1) u5.heap.size (.slice ads' e'.kids.length cps') e'.kids) := hko5.wide (by omega) (by omega)
    clear hko5 hE hb2 R4 A5 A6 P4
    obtain ⟨u9, hu9, F9, HX9⟩ := draw_ret (N := 155) (q' := q + 200) (k := e'.k) (n := e'.n) (ak := e'.ak) (at_ := e'.at_) (s := .slice ads' e'.kids.length cps') (es := e'.kids) P5 R5 A7 HKO.out (by omega) (by rw [← ExprD.eta]; omega) hB (by omega)
    have HU : Hid (_ = u9) := hu9
    have HF : Hid (Five u9 w.heap.size _ _ _ _ _) := F9
    obtain ⟨p0, p1, p2, p3, p4, pf⟩ := P5
    have q0 := pf 0
    have q1 := pf 1
    have q2 := pf 2
    have q3 := pf 3
    have q4 := pf 4
    clear pf hu9 F9
    go_wp2
    rw [HU.out]
    obtain ⟨r0, r1, r2, r3, r4, _⟩ := HF.out
    exact bodyPost_ret (v := .agg #[.int .i64 e'.k, .int .i64 e'.n, .int .i64 e'.ak, .int .i64 e'.at_, .slice ads' e'.kids.length cps']) (by simp [results, Try.results63, go_sem, r0, r1, r2, r3, r4]) rfl (by obtain ⟨v, e, h1, h2⟩ := HX9; first | exact ⟨v, e, h1, h2⟩ | exact ⟨v, h1, e, h2⟩)
end Go.Proofs.Ytdhmioelmcdflaa
