import Derived.Test.YtaoiookfmgpmkaaGreatDoorQM4
import Derived.Test.YtaoiookfmgpmkaaGreatDoorQM5
import Derived.Test.YtaoiookfmgpmkaaGreatDoorQM6
import Derived.Test.YtaoiookfmgpmkaaGreatDoorQM7
import Derived.Test.YtaoiookfmgpmkaaGreatDoorQM8
import Derived.Laws.ResultCell
import Derived.Test.YtaoiookfmgpmkaaGreatDoorQM1

/-
 szPlc, toPlc and eqPlc: what the laws' helpers do with controllers. (Written by our generator gen_plc.py.)
-/
namespace Go.Proofs.YtaoiookfmgpmkaaGreatDoor
open Go.ChangeShapes Go.WideShapes Go.ChangeAt Go.RowKit
set_option linter.unusedVariables false
set_option linter.unusedSimpArgs false
set_option maxRecDepth 100000

set_option maxHeartbeats 4000000 in
theorem szPlc_any (w : World) (lo hi : Nat) (v : Value) (p : PlcD) (left : Int) (x : PI w lo hi v p) (hhi : hi ≤ w.heap.size) (hl : 0 ≤ left) (hl' : left ≤ 1048576) :
  Calls Tryz.prog 25 #[v, .int .i64 left] w fun e w' => e = .returned (.int .i64 (if left < p.many then -1 else left - p.many)) ∧ Below w.heap.size w w' := by
 obtain ⟨r, hr⟩ : ∃ r : Int, (if left < (p.many : Int) then -1 else left - (p.many : Int)) = r := ⟨_, rfl⟩
 rw [hr]
 have HR : Hid ((if left < (p.many : Int) then -1 else left - (p.many : Int)) = r) := hr
 clear hr
 obtain ⟨s, a, b, c, d, e, f, g, h, i, j, k, rfl, H⟩ := x
 have HH : Hid (PlcR w lo hi p s a b c d e f g h i j k) := H
 clear H
 have hmany : p.many = sizeL p.prog + p.net.many + p.chart.many + p.st.many + p.marks.many + p.mem.many := rfl
 go_enter Tryz.func25, Tryz.ntmps25
 go_wp2_with (refine wpList_boxG (vs := plcC p s a b c d e f g h i j k) rfl _ rfl rfl ?_)
 intro u0 g0 p0 s0
 have c0 : u0.cell? ⟨w.heap.size, 0, none⟩ = some (s) := p0.c 0 _ rfl
 go_wp2_with fail
 clear c0
 refine (szStmtS_any _ lo hi _ p.prog (left) (HH.out.prog.under g0 hhi) (by omega) (by omega) (by omega)).mono ?_
 by_cases big0 : (left : Int) < (sizeL p.prog : Nat)
 ·rw [if_pos big0]
  rintro e1 q1 ⟨rfl, gq⟩
  have hF : r = -1 := by rw [← HR.out, if_pos (by omega)]
  have hbq := g0.trans (gq.mono (by omega))
  clear gq g0 p0
  go_wp2
  go_ret
  exact ⟨ret_int hF.symm, hbq⟩
 rw [if_neg big0]
 rintro e1 u1 ⟨rfl, k1⟩
 have s1 := k1.size
 have p1 := p0.below k1 (by omega)
 have g1 := g0.trans (k1.mono (by omega))
 clear k1 g0 p0
 have np0 : ¬ ((left - (sizeL p.prog : Nat) : Int) < 0) := by omega
 have c1 : u1.cell? ⟨w.heap.size, 1, none⟩ = some (a) := p1.c 1 _ rfl
 have c2 : u1.cell? ⟨w.heap.size, 2, none⟩ = some (b) := p1.c 2 _ rfl
 go_wp2_with fail
 clear c1 c2
 refine (szNet_any _ lo hi _ p.net (left - (sizeL p.prog : Nat)) (HH.out.net.under g1 hhi) (by omega) (by omega) (by omega)).mono ?_
 by_cases big1 : (left - (sizeL p.prog : Nat) : Int) < (p.net.many : Nat)
 ·rw [if_pos big1]
  rintro e1 q1 ⟨rfl, gq⟩
  have hF : r = -1 := by rw [← HR.out, if_pos (by omega)]
  have hbq := g1.trans (gq.mono (by omega))
  clear gq g1 p1
  go_wp2
  go_ret
  exact ⟨ret_int hF.symm, hbq⟩
 rw [if_neg big1]
 rintro e1 u2 ⟨rfl, k2⟩
 have s2 := k2.size
 have p2 := p1.below k2 (by omega)
 have g2 := g1.trans (k2.mono (by omega))
 clear k2 g1 p1
 have np1 : ¬ ((left - (sizeL p.prog : Nat) - (p.net.many : Nat) : Int) < 0) := by omega
 have c3 : u2.cell? ⟨w.heap.size, 3, none⟩ = some (.int .i64 p.chart.steps) := p2.c 3 _ rfl
 have c4 : u2.cell? ⟨w.heap.size, 4, none⟩ = some (c) := p2.c 4 _ rfl
 have c5 : u2.cell? ⟨w.heap.size, 5, none⟩ = some (d) := p2.c 5 _ rfl
 go_wp2_with fail
 clear c3 c4 c5
 refine (szChart_any _ lo hi _ p.chart (left - (sizeL p.prog : Nat) - (p.net.many : Nat)) (HH.out.chart.under g2 hhi) (by omega) (by omega) (by omega)).mono ?_
 by_cases big2 : (left - (sizeL p.prog : Nat) - (p.net.many : Nat) : Int) < (p.chart.many : Nat)
 ·rw [if_pos big2]
  rintro e1 q1 ⟨rfl, gq⟩
  have hF : r = -1 := by rw [← HR.out, if_pos (by omega)]
  have hbq := g2.trans (gq.mono (by omega))
  clear gq g2 p2
  go_wp2
  go_ret
  exact ⟨ret_int hF.symm, hbq⟩
 rw [if_neg big2]
 rintro e1 u3 ⟨rfl, k3⟩
 have s3 := k3.size
 have p3 := p2.below k3 (by omega)
 have g3 := g2.trans (k3.mono (by omega))
 clear k3 g2 p2
 have np2 : ¬ ((left - (sizeL p.prog : Nat) - (p.net.many : Nat) - (p.chart.many : Nat) : Int) < 0) := by omega
 have c6 : u3.cell? ⟨w.heap.size, 6, none⟩ = some (e) := p3.c 6 _ rfl
 have c7 : u3.cell? ⟨w.heap.size, 7, none⟩ = some (f) := p3.c 7 _ rfl
 go_wp2_with fail
 clear c6 c7
 refine (szState_any _ lo hi _ p.st (left - (sizeL p.prog : Nat) - (p.net.many : Nat) - (p.chart.many : Nat)) (HH.out.st.under g3 hhi) (by omega) (by omega) (by omega)).mono ?_
 by_cases big3 : (left - (sizeL p.prog : Nat) - (p.net.many : Nat) - (p.chart.many : Nat) : Int) < (p.st.many : Nat)
 ·rw [if_pos big3]
  rintro e1 q1 ⟨rfl, gq⟩
  have hF : r = -1 := by rw [← HR.out, if_pos (by omega)]
  have hbq := g3.trans (gq.mono (by omega))
  clear gq g3 p3
  go_wp2
  go_ret
  exact ⟨ret_int hF.symm, hbq⟩
 rw [if_neg big3]
 rintro e1 u4 ⟨rfl, k4⟩
 have s4 := k4.size
 have p4 := p3.below k4 (by omega)
 have g4 := g3.trans (k4.mono (by omega))
 clear k4 g3 p3
 have np3 : ¬ ((left - (sizeL p.prog : Nat) - (p.net.many : Nat) - (p.chart.many : Nat) - (p.st.many : Nat) : Int) < 0) := by omega
 have c8 : u4.cell? ⟨w.heap.size, 8, none⟩ = some (g) := p4.c 8 _ rfl
 have c9 : u4.cell? ⟨w.heap.size, 9, none⟩ = some (h) := p4.c 9 _ rfl
 go_wp2_with fail
 clear c8 c9
 refine (szMarks_any _ lo hi _ p.marks (left - (sizeL p.prog : Nat) - (p.net.many : Nat) - (p.chart.many : Nat) - (p.st.many : Nat)) (HH.out.marks.under g4 hhi) (by omega) (by omega) (by omega)).mono ?_
 by_cases big4 : (left - (sizeL p.prog : Nat) - (p.net.many : Nat) - (p.chart.many : Nat) - (p.st.many : Nat) : Int) < (p.marks.many : Nat)
 ·rw [if_pos big4]
  rintro e1 q1 ⟨rfl, gq⟩
  have hF : r = -1 := by rw [← HR.out, if_pos (by omega)]
  have hbq := g4.trans (gq.mono (by omega))
  clear gq g4 p4
  go_wp2
  go_ret
  exact ⟨ret_int hF.symm, hbq⟩
 rw [if_neg big4]
 rintro e1 u5 ⟨rfl, k5⟩
 have s5 := k5.size
 have p5 := p4.below k5 (by omega)
 have g5 := g4.trans (k5.mono (by omega))
 clear k5 g4 p4
 have np4 : ¬ ((left - (sizeL p.prog : Nat) - (p.net.many : Nat) - (p.chart.many : Nat) - (p.st.many : Nat) - (p.marks.many : Nat) : Int) < 0) := by omega
 have c10 : u5.cell? ⟨w.heap.size, 10, none⟩ = some (i) := p5.c 10 _ rfl
 have c11 : u5.cell? ⟨w.heap.size, 11, none⟩ = some (j) := p5.c 11 _ rfl
 have c12 : u5.cell? ⟨w.heap.size, 12, none⟩ = some (k) := p5.c 12 _ rfl
 go_wp2_with fail
 clear c10 c11 c12
 refine (szMem_any _ lo hi _ p.mem (left - (sizeL p.prog : Nat) - (p.net.many : Nat) - (p.chart.many : Nat) - (p.st.many : Nat) - (p.marks.many : Nat)) (HH.out.mem.below g5 hhi) (by omega) (by omega) (by omega)).mono ?_
 by_cases big5 : (left - (sizeL p.prog : Nat) - (p.net.many : Nat) - (p.chart.many : Nat) - (p.st.many : Nat) - (p.marks.many : Nat) : Int) < (p.mem.many : Nat)
 ·rw [if_pos big5]
  rintro e1 q1 ⟨rfl, gq⟩
  have hF : r = -1 := by rw [← HR.out, if_pos (by omega)]
  have hbq := g5.trans (gq.mono (by omega))
  clear gq g5 p5
  go_wp2
  go_ret
  exact ⟨ret_int hF.symm, hbq⟩
 rw [if_neg big5]
 rintro e1 u6 ⟨rfl, k6⟩
 have s6 := k6.size
 have p6 := p5.below k6 (by omega)
 have g6 := g5.trans (k6.mono (by omega))
 clear k6 g5 p5
 have np5 : ¬ ((left - (sizeL p.prog : Nat) - (p.net.many : Nat) - (p.chart.many : Nat) - (p.st.many : Nat) - (p.marks.many : Nat) - (p.mem.many : Nat) : Int) < 0) := by omega
 have hF : r = left - (sizeL p.prog : Nat) - (p.net.many : Nat) - (p.chart.many : Nat) - (p.st.many : Nat) - (p.marks.many : Nat) - (p.mem.many : Nat) := by rw [← HR.out, if_neg (by omega)]; omega
 go_wp2
 go_ret
 exact ⟨ret_int hF.symm, g6⟩

theorem parts_one_net {w : World} {lo hi : Nat} {m : NetD} {a b : Value} (hx : NI w lo hi (.agg #[a, b]) m) : ∀ v ∈ [a, b], v.oneCell' = true := by
 obtain ⟨x1, x2, e1, q1, q2⟩ := hx
 simp only [Value.agg.injEq, Array.mk.injEq, List.cons.injEq, and_true, true_and] at e1
 obtain ⟨rfl, rfl⟩ := e1
 obtain ⟨_, _, rfl, _, _⟩ := q1.shape
 obtain ⟨_, _, rfl, _, _⟩ := q2.shape
 intro v hv
 simp only [List.mem_cons, List.not_mem_nil, or_false] at hv
 rcases hv with rfl | rfl <;> rfl

theorem parts_one_chart {w : World} {lo hi : Nat} {m : ChartD} {c d : Value} (hx : HIc w lo hi (.agg #[.int .i64 m.steps, c, d]) m) : ∀ v ∈ [.int .i64 m.steps, c, d], v.oneCell' = true := by
 obtain ⟨x1, x2, e1, q1, q2⟩ := hx
 simp only [Value.agg.injEq, Array.mk.injEq, List.cons.injEq, and_true, true_and] at e1
 obtain ⟨rfl, rfl⟩ := e1
 obtain ⟨_, _, rfl, _, _⟩ := q1.shape
 obtain ⟨_, _, rfl, _, _⟩ := q2.shape
 intro v hv
 simp only [List.mem_cons, List.not_mem_nil, or_false] at hv
 rcases hv with rfl | rfl | rfl <;> rfl

theorem parts_one_st {w : World} {lo hi : Nat} {m : StateD} {e f : Value} (hx : StR w lo hi (.agg #[e, f]) m) : ∀ v ∈ [e, f], v.oneCell' = true := by
 obtain ⟨x1, x2, e1, q1, q2⟩ := hx
 simp only [Value.agg.injEq, Array.mk.injEq, List.cons.injEq, and_true, true_and] at e1
 obtain ⟨rfl, rfl⟩ := e1
 obtain ⟨_, _, rfl, _, _⟩ := q1.shape
 obtain ⟨_, _, rfl, _, _⟩ := q2.shape
 intro v hv
 simp only [List.mem_cons, List.not_mem_nil, or_false] at hv
 rcases hv with rfl | rfl <;> rfl

theorem parts_one_marks {w : World} {lo hi : Nat} {m : MarksD} {g h : Value} (hx : MkR w lo hi (.agg #[g, h]) m) : ∀ v ∈ [g, h], v.oneCell' = true := by
 obtain ⟨x1, x2, e1, q1, q2⟩ := hx
 simp only [Value.agg.injEq, Array.mk.injEq, List.cons.injEq, and_true, true_and] at e1
 obtain ⟨rfl, rfl⟩ := e1
 obtain ⟨_, _, rfl, _, _⟩ := q1.shape
 obtain ⟨_, _, rfl, _, _⟩ := q2.shape
 intro v hv
 simp only [List.mem_cons, List.not_mem_nil, or_false] at hv
 rcases hv with rfl | rfl <;> rfl

theorem parts_one_mem {w : World} {lo hi : Nat} {m : MemD} {i j k : Value} (hx : MI w lo hi (.agg #[i, j, k]) m) : ∀ v ∈ [i, j, k], v.oneCell' = true := by
 obtain ⟨x1, x2, x3, e1, q1, q2, q3⟩ := hx
 simp only [Value.agg.injEq, Array.mk.injEq, List.cons.injEq, and_true, true_and] at e1
 obtain ⟨rfl, rfl, rfl⟩ := e1
 obtain ⟨_, _, rfl⟩ := q1.shape
 obtain ⟨_, _, rfl⟩ := q2.shape
 obtain ⟨_, _, rfl⟩ := q3.shape
 intro v hv
 simp only [List.mem_cons, List.not_mem_nil, or_false] at hv
 rcases hv with rfl | rfl | rfl <;> rfl

theorem zero_plcT : (Tryz.prog.info? 53).map (fun i => (i.zero, i.size)) = some (some (.agg ([Value.slice none 0 0, Value.slice none 0 0, Value.slice none 0 0, Value.int .i64 0, Value.slice none 0 0, Value.slice none 0 0, Value.slice none 0 0, Value.slice none 0 0, Value.slice none 0 0, Value.slice none 0 0, Value.slice none 0 0, Value.slice none 0 0, Value.slice none 0 0, Value.bool false, Value.int .i64 0] : List Value).toArray), 15) := by kernel_rfl

theorem sr_one {w : World} {lo hi : Nat} {v : Value} {x : List StmtD} (h : SR w lo hi v x) : v.oneCell' = true := by
 obtain ⟨ad, cap, rfl, _, _⟩ := h.shape; rfl
theorem plcC_one {w : World} {lo hi : Nat} {p : PlcD} {s a b c d e f g h i j k : Value} (x : PlcR w lo hi p s a b c d e f g h i j k) : ∀ v ∈ plcC p s a b c d e f g h i j k, v.oneCell' = true := by
 have h0 := sr_one x.prog
 obtain ⟨a', b', e1, q1, q2⟩ := x.net
 obtain ⟨c', d', e2, q3, q4⟩ := x.chart
 obtain ⟨e', f', e3, q5, q6⟩ := x.st
 obtain ⟨g', h', e4, q7, q8⟩ := x.marks
 obtain ⟨i', j', k', e5, q9, q10, q11⟩ := x.mem
 simp only [Value.agg.injEq, Array.mk.injEq, List.cons.injEq, and_true, true_and] at e1 e2 e3 e4 e5
 obtain ⟨rfl, rfl⟩ := e1
 obtain ⟨rfl, rfl⟩ := e2
 obtain ⟨rfl, rfl⟩ := e3
 obtain ⟨rfl, rfl⟩ := e4
 obtain ⟨rfl, rfl, rfl⟩ := e5
 obtain ⟨_, _, rfl, _, _⟩ := q1.shape
 obtain ⟨_, _, rfl, _, _⟩ := q2.shape
 obtain ⟨_, _, rfl, _, _⟩ := q3.shape
 obtain ⟨_, _, rfl, _, _⟩ := q4.shape
 obtain ⟨_, _, rfl, _, _⟩ := q5.shape
 obtain ⟨_, _, rfl, _, _⟩ := q6.shape
 obtain ⟨_, _, rfl, _, _⟩ := q7.shape
 obtain ⟨_, _, rfl, _, _⟩ := q8.shape
 obtain ⟨_, _, rfl⟩ := q9.shape
 obtain ⟨_, _, rfl⟩ := q10.shape
 obtain ⟨_, _, rfl⟩ := q11.shape
 intro v hv
 simp only [plcC, List.mem_cons, List.not_mem_nil, or_false] at hv
 rcases hv with rfl | rfl | rfl | rfl | rfl | rfl | rfl | rfl | rfl | rfl | rfl | rfl | rfl | rfl | rfl
 ·exact h0
 all_goals rfl

set_option maxHeartbeats 8000000 in
theorem toPlc_any (w : World) (lo hi : Nat) (v : Value) (p : PlcD) (x : PI w lo hi v p) (hhi : hi ≤ w.heap.size) (hm : p.many ≤ 1048576) :
  Calls Tryz.prog 27 #[v] w fun e w' => ∃ v', e = .returned v' ∧ PO w' w.heap.size w'.heap.size v' p ∧ Below w.heap.size w w' := by
 have hZ := (zero_of_info (P := Tryz.prog) zero_plcT).1
 obtain ⟨s, a, b, c, d, e, f, g, h, i, j, k, rfl, H⟩ := x
 have HH : Hid (PlcR w lo hi p s a b c d e f g h i j k) := H
 clear H
 have hmany : p.many = sizeL p.prog + p.net.many + p.chart.many + p.st.many + p.marks.many + p.mem.many := rfl
 go_enter Tryz.func27, Tryz.ntmps27
 go_wp2_with (refine wpList_boxG (vs := plcC p s a b c d e f g h i j k) rfl _ rfl rfl ?_)
 intro u1 g1 p1 s1
 go_wp2_with (refine wpList_allocG hZ rfl rfl ?_)
 intro u2 g2 q2 s2
 replace p1 := p1.below g2 (by omega)
 have G2 := g1.trans (g2.mono (by omega))
 clear g1 g2
 go_wp2_with (refine wpList_allocG hZ rfl rfl ?_)
 intro u3 g3 r3 s3
 have p3 := p1.below g3 (by omega)
 have q3 := q2.below g3 (by omega)
 have G3 := G2.trans (g3.mono (by omega))
 clear g3 G2 p1 q2
 have c0 : u3.cell? ⟨w.heap.size, 0, none⟩ = some (s) := p3.c 0 _ rfl
 go_wp2_with fail
 clear c0
 refine (toStmtS_any _ lo hi _ p.prog (HH.out.prog.under G3 hhi) (by omega) (by omega)).mono ?_
 rintro e1 u4 ⟨v0, rfl, O0, g4⟩
 have s4 := g4.size
 obtain ⟨s', hs'⟩ : ∃ s' : Value, s' = v0 := ⟨_, rfl⟩
 cases hs'
 have one0 := sr_one O0.sr
 have p4 := p3.below g4 (by omega)
 have q4 := q3.below g4 (by omega)
 have r4 := r3.below g4 (by omega)
 have G4 := G3.trans (g4.mono (by omega))
 clear g4 p3 q3 r3 G3
 go_wp2_with (refine wpList_store1G Tryz.sizeOf34 _ _ rfl rfl rfl rfl (by obtain ⟨_, _, rfl, _, _⟩ := O0.sr.shape; rfl) one0 (r4.one (show 0 < 15 by decide)) (r4.f _) ?_)
 intro u5 L
 have s5 := L.size
 have r5 := r4.laid L (ws := [v0, .slice none 0 0, .slice none 0 0, .int .i64 0, .slice none 0 0, .slice none 0 0, .slice none 0 0, .slice none 0 0, .slice none 0 0, .slice none 0 0, .slice none 0 0, .slice none 0 0, .slice none 0 0, .bool false, .int .i64 0]) rfl (show 0 + 1 ≤ 15 by decide)
 have p5 := L.other p4 (by omega)
 have q5 := L.other q4 (by omega)
 have G5 := L.below _ _ (by omega) G4
 replace O0 := O0.kept fun y h1 h2 => L.block y (by omega)
 clear L r4 p4 q4 G4
 have c1 : u5.cell? ⟨w.heap.size, 1, none⟩ = some (a) := p5.c 1 _ rfl
 have c2 : u5.cell? ⟨w.heap.size, 2, none⟩ = some (b) := p5.c 2 _ rfl
 go_wp2_with fail
 clear c1 c2
 refine (toNet_any _ lo hi _ p.net (HH.out.net.under G5 hhi) (by omega) (by omega)).mono ?_
 rintro e1 u6 ⟨v1, rfl, O1, g6⟩
 have s6 := g6.size
 obtain ⟨a', b', hv1⟩ : ∃ a' b', v1 = .agg #[a', b'] := by obtain ⟨x1, x2, hv, _⟩ := O1.ni; exact ⟨x1, x2, hv⟩
 subst hv1
 have p6 := p5.below g6 (by omega)
 have q6 := q5.below g6 (by omega)
 have r6 := r5.below g6 (by omega)
 have G6 := G5.trans (g6.mono (by omega))
 replace O0 := O0.kept fun y h1 h2 => g6.block y (by omega)
 clear g6 p5 q5 r5 G5
 have hone : ∀ v ∈ [a', b'], v.oneCell' = true := parts_one_net O1.ni
 have hr := r6.run 1 2 (show 1 + 2 ≤ 15 by decide)
 go_wp2_with (refine wpList_storeG Tryz.sizeOf38 (vs := [a', b']) _ _ rfl rfl rfl rfl rfl hone hr.1 hr.2 ?_)
 intro u7 L
 have s7 := L.size
 have r7 := r6.laid L (ws := [v0, a', b', .int .i64 0, .slice none 0 0, .slice none 0 0, .slice none 0 0, .slice none 0 0, .slice none 0 0, .slice none 0 0, .slice none 0 0, .slice none 0 0, .slice none 0 0, .bool false, .int .i64 0]) rfl (show 1 + 2 ≤ 15 by decide)
 have p7 := L.other p6 (by omega)
 have q7 := L.other q6 (by omega)
 have G7 := L.below _ _ (by omega) G6
 replace O0 := O0.kept fun y h1 h2 => L.block y (by omega)
 replace O1 := O1.kept fun y h1 h2 => L.block y (by omega)
 clear L r6 p6 q6 G6 hone hr
 have c3 : u7.cell? ⟨w.heap.size, 3, none⟩ = some (.int .i64 p.chart.steps) := p7.c 3 _ rfl
 have c4 : u7.cell? ⟨w.heap.size, 4, none⟩ = some (c) := p7.c 4 _ rfl
 have c5 : u7.cell? ⟨w.heap.size, 5, none⟩ = some (d) := p7.c 5 _ rfl
 go_wp2_with fail
 clear c3 c4 c5
 refine (toChart_any _ lo hi _ p.chart (HH.out.chart.under G7 hhi) (by omega) (by omega)).mono ?_
 rintro e1 u8 ⟨v2, rfl, O2, g8⟩
 have s8 := g8.size
 obtain ⟨c', d', hv2⟩ : ∃ c' d', v2 = .agg #[.int .i64 p.chart.steps, c', d'] := by obtain ⟨x1, x2, hv, _⟩ := O2.hi; exact ⟨x1, x2, hv⟩
 subst hv2
 have p8 := p7.below g8 (by omega)
 have q8 := q7.below g8 (by omega)
 have r8 := r7.below g8 (by omega)
 have G8 := G7.trans (g8.mono (by omega))
 replace O0 := O0.kept fun y h1 h2 => g8.block y (by omega)
 replace O1 := O1.kept fun y h1 h2 => g8.block y (by omega)
 clear g8 p7 q7 r7 G7
 have hone : ∀ v ∈ [.int .i64 p.chart.steps, c', d'], v.oneCell' = true := parts_one_chart O2.hi
 have hr := r8.run 3 3 (show 3 + 3 ≤ 15 by decide)
 go_wp2_with (refine wpList_storeG Tryz.sizeOf42 (vs := [.int .i64 p.chart.steps, c', d']) _ _ rfl rfl rfl rfl rfl hone hr.1 hr.2 ?_)
 intro u9 L
 have s9 := L.size
 have r9 := r8.laid L (ws := [v0, a', b', .int .i64 p.chart.steps, c', d', .slice none 0 0, .slice none 0 0, .slice none 0 0, .slice none 0 0, .slice none 0 0, .slice none 0 0, .slice none 0 0, .bool false, .int .i64 0]) rfl (show 3 + 3 ≤ 15 by decide)
 have p9 := L.other p8 (by omega)
 have q9 := L.other q8 (by omega)
 have G9 := L.below _ _ (by omega) G8
 replace O0 := O0.kept fun y h1 h2 => L.block y (by omega)
 replace O1 := O1.kept fun y h1 h2 => L.block y (by omega)
 replace O2 := O2.kept fun y h1 h2 => L.block y (by omega)
 clear L r8 p8 q8 G8 hone hr
 have c6 : u9.cell? ⟨w.heap.size, 6, none⟩ = some (e) := p9.c 6 _ rfl
 have c7 : u9.cell? ⟨w.heap.size, 7, none⟩ = some (f) := p9.c 7 _ rfl
 go_wp2_with fail
 clear c6 c7
 refine (toState_any _ lo hi _ p.st (HH.out.st.under G9 hhi) (by omega) (by omega)).mono ?_
 rintro e1 u10 ⟨v3, rfl, O3, g10⟩
 have s10 := g10.size
 obtain ⟨e', f', hv3⟩ : ∃ e' f', v3 = .agg #[e', f'] := by obtain ⟨x1, x2, hv, _⟩ := O3.r; exact ⟨x1, x2, hv⟩
 subst hv3
 have p10 := p9.below g10 (by omega)
 have q10 := q9.below g10 (by omega)
 have r10 := r9.below g10 (by omega)
 have G10 := G9.trans (g10.mono (by omega))
 replace O0 := O0.kept fun y h1 h2 => g10.block y (by omega)
 replace O1 := O1.kept fun y h1 h2 => g10.block y (by omega)
 replace O2 := O2.kept fun y h1 h2 => g10.block y (by omega)
 clear g10 p9 q9 r9 G9
 have hone : ∀ v ∈ [e', f'], v.oneCell' = true := parts_one_st O3.r
 have hr := r10.run 6 2 (show 6 + 2 ≤ 15 by decide)
 go_wp2_with (refine wpList_storeG Tryz.sizeOf46 (vs := [e', f']) _ _ rfl rfl rfl rfl rfl hone hr.1 hr.2 ?_)
 intro u11 L
 have s11 := L.size
 have r11 := r10.laid L (ws := [v0, a', b', .int .i64 p.chart.steps, c', d', e', f', .slice none 0 0, .slice none 0 0, .slice none 0 0, .slice none 0 0, .slice none 0 0, .bool false, .int .i64 0]) rfl (show 6 + 2 ≤ 15 by decide)
 have p11 := L.other p10 (by omega)
 have q11 := L.other q10 (by omega)
 have G11 := L.below _ _ (by omega) G10
 replace O0 := O0.kept fun y h1 h2 => L.block y (by omega)
 replace O1 := O1.kept fun y h1 h2 => L.block y (by omega)
 replace O2 := O2.kept fun y h1 h2 => L.block y (by omega)
 replace O3 := O3.kept_ fun y h1 h2 => L.block y (by omega)
 clear L r10 p10 q10 G10 hone hr
 have c8 : u11.cell? ⟨w.heap.size, 8, none⟩ = some (g) := p11.c 8 _ rfl
 have c9 : u11.cell? ⟨w.heap.size, 9, none⟩ = some (h) := p11.c 9 _ rfl
 go_wp2_with fail
 clear c8 c9
 refine (toMarks_any _ lo hi _ p.marks (HH.out.marks.under G11 hhi) (by omega) (by omega)).mono ?_
 rintro e1 u12 ⟨v4, rfl, O4, g12⟩
 have s12 := g12.size
 obtain ⟨g', h', hv4⟩ : ∃ g' h', v4 = .agg #[g', h'] := by obtain ⟨x1, x2, hv, _⟩ := O4.r; exact ⟨x1, x2, hv⟩
 subst hv4
 have p12 := p11.below g12 (by omega)
 have q12 := q11.below g12 (by omega)
 have r12 := r11.below g12 (by omega)
 have G12 := G11.trans (g12.mono (by omega))
 replace O0 := O0.kept fun y h1 h2 => g12.block y (by omega)
 replace O1 := O1.kept fun y h1 h2 => g12.block y (by omega)
 replace O2 := O2.kept fun y h1 h2 => g12.block y (by omega)
 replace O3 := O3.kept_ fun y h1 h2 => g12.block y (by omega)
 clear g12 p11 q11 r11 G11
 have hone : ∀ v ∈ [g', h'], v.oneCell' = true := parts_one_marks O4.r
 have hr := r12.run 8 2 (show 8 + 2 ≤ 15 by decide)
 go_wp2_with (refine wpList_storeG Tryz.sizeOf48 (vs := [g', h']) _ _ rfl rfl rfl rfl rfl hone hr.1 hr.2 ?_)
 intro u13 L
 have s13 := L.size
 have r13 := r12.laid L (ws := [v0, a', b', .int .i64 p.chart.steps, c', d', e', f', g', h', .slice none 0 0, .slice none 0 0, .slice none 0 0, .bool false, .int .i64 0]) rfl (show 8 + 2 ≤ 15 by decide)
 have p13 := L.other p12 (by omega)
 have q13 := L.other q12 (by omega)
 have G13 := L.below _ _ (by omega) G12
 replace O0 := O0.kept fun y h1 h2 => L.block y (by omega)
 replace O1 := O1.kept fun y h1 h2 => L.block y (by omega)
 replace O2 := O2.kept fun y h1 h2 => L.block y (by omega)
 replace O3 := O3.kept_ fun y h1 h2 => L.block y (by omega)
 replace O4 := O4.kept_ fun y h1 h2 => L.block y (by omega)
 clear L r12 p12 q12 G12 hone hr
 have c10 : u13.cell? ⟨w.heap.size, 10, none⟩ = some (i) := p13.c 10 _ rfl
 have c11 : u13.cell? ⟨w.heap.size, 11, none⟩ = some (j) := p13.c 11 _ rfl
 have c12 : u13.cell? ⟨w.heap.size, 12, none⟩ = some (k) := p13.c 12 _ rfl
 go_wp2_with fail
 clear c10 c11 c12
 refine (toMem_any _ lo hi _ p.mem (HH.out.mem.below G13 hhi) (by omega) (by show p.mem.many ≤ 1048576; omega)).mono ?_
 rintro e1 u14 ⟨v5, rfl, O5, g14⟩
 have s14 := g14.size
 obtain ⟨i', j', k', hv5⟩ : ∃ i' j' k', v5 = .agg #[i', j', k'] := by obtain ⟨x1, x2, x3, hv, _⟩ := O5.mi; exact ⟨x1, x2, x3, hv⟩
 subst hv5
 have p14 := p13.below g14 (by omega)
 have q14 := q13.below g14 (by omega)
 have r14 := r13.below g14 (by omega)
 have G14 := G13.trans (g14.mono (by omega))
 replace O0 := O0.kept fun y h1 h2 => g14.block y (by omega)
 replace O1 := O1.kept fun y h1 h2 => g14.block y (by omega)
 replace O2 := O2.kept fun y h1 h2 => g14.block y (by omega)
 replace O3 := O3.kept_ fun y h1 h2 => g14.block y (by omega)
 replace O4 := O4.kept_ fun y h1 h2 => g14.block y (by omega)
 clear g14 p13 q13 r13 G13
 have hone : ∀ v ∈ [i', j', k'], v.oneCell' = true := parts_one_mem O5.mi
 have hr := r14.run 10 3 (show 10 + 3 ≤ 15 by decide)
 go_wp2_with (refine wpList_storeG Tryz.sizeOf51 (vs := [i', j', k']) _ _ rfl rfl rfl rfl rfl hone hr.1 hr.2 ?_)
 intro u15 L
 have s15 := L.size
 have r15 := r14.laid L (ws := [v0, a', b', .int .i64 p.chart.steps, c', d', e', f', g', h', i', j', k', .bool false, .int .i64 0]) rfl (show 10 + 3 ≤ 15 by decide)
 have p15 := L.other p14 (by omega)
 have q15 := L.other q14 (by omega)
 have G15 := L.below _ _ (by omega) G14
 replace O0 := O0.kept fun y h1 h2 => L.block y (by omega)
 replace O1 := O1.kept fun y h1 h2 => L.block y (by omega)
 replace O2 := O2.kept fun y h1 h2 => L.block y (by omega)
 replace O3 := O3.kept_ fun y h1 h2 => L.block y (by omega)
 replace O4 := O4.kept_ fun y h1 h2 => L.block y (by omega)
 replace O5 := O5.kept fun y h1 h2 => L.block y (by omega)
 clear L r14 p14 q14 G14 hone hr
 have c13 : u15.cell? ⟨w.heap.size, 13, none⟩ = some (.bool p.fault) := p15.c 13 _ rfl
 go_wp2_with (refine wpList_store1G Tryz.sizeOf4 _ _ rfl rfl rfl rfl rfl rfl (r15.one (show 13 < 15 by decide)) (r15.f _) ?_)
 intro u16 L
 have s16 := L.size
 have r16 := r15.laid L (ws := [v0, a', b', .int .i64 p.chart.steps, c', d', e', f', g', h', i', j', k', .bool p.fault, .int .i64 0]) rfl (show 13 + 1 ≤ 15 by decide)
 have p16 := L.other p15 (by omega)
 have q16 := L.other q15 (by omega)
 have G16 := L.below _ _ (by omega) G15
 replace O0 := O0.kept fun y h1 h2 => L.block y (by omega)
 replace O1 := O1.kept fun y h1 h2 => L.block y (by omega)
 replace O2 := O2.kept fun y h1 h2 => L.block y (by omega)
 replace O3 := O3.kept_ fun y h1 h2 => L.block y (by omega)
 replace O4 := O4.kept_ fun y h1 h2 => L.block y (by omega)
 replace O5 := O5.kept fun y h1 h2 => L.block y (by omega)
 clear L r15 p15 q15 G15 c13
 have c14 : u16.cell? ⟨w.heap.size, 14, none⟩ = some (.int .i64 p.scans) := p16.c 14 _ rfl
 go_wp2_with (refine wpList_store1G Tryz.sizeOf3 _ _ rfl rfl rfl rfl rfl rfl (r16.one (show 14 < 15 by decide)) (r16.f _) ?_)
 intro u17 L
 have s17 := L.size
 have r17 := r16.laid L (ws := [v0, a', b', .int .i64 p.chart.steps, c', d', e', f', g', h', i', j', k', .bool p.fault, .int .i64 p.scans]) rfl (show 14 + 1 ≤ 15 by decide)
 have p17 := L.other p16 (by omega)
 have q17 := L.other q16 (by omega)
 have G17 := L.below _ _ (by omega) G16
 replace O0 := O0.kept fun y h1 h2 => L.block y (by omega)
 replace O1 := O1.kept fun y h1 h2 => L.block y (by omega)
 replace O2 := O2.kept fun y h1 h2 => L.block y (by omega)
 replace O3 := O3.kept_ fun y h1 h2 => L.block y (by omega)
 replace O4 := O4.kept_ fun y h1 h2 => L.block y (by omega)
 replace O5 := O5.kept fun y h1 h2 => L.block y (by omega)
 clear L r16 p16 q16 G16 c14
 have HO : PlcO u17 u3.heap.size u17.heap.size (fun i => match i with | 0 => u3.heap.size | 1 => u5.heap.size | 2 => u7.heap.size | 3 => u9.heap.size | 4 => u11.heap.size | _ => u13.heap.size) (fun i => match i with | 0 => u4.heap.size | 1 => u6.heap.size | 2 => u8.heap.size | 3 => u10.heap.size | 4 => u12.heap.size | _ => u14.heap.size) p v0 a' b' c' d' e' f' g' h' i' j' k' :=
  ⟨O0, O1, O2, O3, O4, O5, six (by constructor <;> (simp only []; omega)) (by constructor <;> (simp only []; omega)) (by constructor <;> (simp only []; omega)) (by constructor <;> (simp only []; omega)) (by constructor <;> (simp only []; omega)) (by constructor <;> (simp only []; omega)),
   by refine six ?_ ?_ ?_ ?_ ?_ ?_ <;> (refine six ?_ ?_ ?_ ?_ ?_ ?_ <;> (intro hne; simp only []; omega))⟩
 clear O0 O1 O2 O3 O4 O5 p17
 have hone := plcC_one HO.r
 have hr := q17.run 0 15 (show 0 + 15 ≤ 15 by decide)
 go_wp2_with (first
  | refine wpList_loadG Tryz.isAgg53 Tryz.sizeOf53 (vs := plcC p v0 a' b' c' d' e' f' g' h' i' j' k') _ rfl rfl rfl rfl r17.c ?_
  | refine wpList_storeG Tryz.sizeOf53 (vs := plcC p v0 a' b' c' d' e' f' g' h' i' j' k') _ _ rfl rfl rfl rfl rfl hone hr.1 hr.2 ?_)
 intro u18 L
 have s18 := L.size
 have q18 := L.var q17
 have HO' := HO.kept fun y h1 h2 => L.block y (by omega)
 have G18 := L.below _ _ (by omega) G17
 clear L r17 q17 G17 HO hone hr
 go_wp2
 refine bodyPost_ret (v := .agg (plcC p v0 a' b' c' d' e' f' g' h' i' j' k').toArray) ?_ rfl ⟨_, rfl, ⟨_, _, _, _, _, _, _, _, _, _, _, _, _, _, rfl, HO'.wide (by omega) (by omega)⟩, G18⟩
 simp [results, Tryz.results27]
 exact run_loadVarG (P := Tryz.prog) Tryz.isAgg53 Tryz.sizeOf53 rfl q18.c
set_option maxHeartbeats 8000000 in
theorem eqPlc_same (w : World) (lo hi lo' hi' : Nat) (va vb : Value) (p : PlcD) (x : PI w lo hi va p) (y : PI w lo' hi' vb p) (hhi : hi ≤ w.heap.size) (hhi' : hi' ≤ w.heap.size) :
  Calls Tryz.prog 16 #[va, vb] w fun e w' => e = .returned (.bool true) ∧ Below w.heap.size w w' := by
 obtain ⟨s, a, b, c, d, e, f, g, h, i, j, k, rfl, H⟩ := x
 obtain ⟨s', a', b', c', d', e', f', g', h', i', j', k', rfl, H'⟩ := y
 have HH : Hid (PlcR w lo hi p s a b c d e f g h i j k ∧ PlcR w lo' hi' p s' a' b' c' d' e' f' g' h' i' j' k') := ⟨H, H'⟩
 clear H H'
 go_enter Tryz.func16, Tryz.ntmps16
 go_wp2_with (refine wpList_boxG (vs := plcC p s a b c d e f g h i j k) rfl _ rfl rfl ?_)
 intro u1 g1 p1 s1
 go_wp2_with (refine wpList_boxG (vs := plcC p s' a' b' c' d' e' f' g' h' i' j' k') rfl _ rfl rfl ?_)
 intro u2 g2 q2 s2
 have p2 := p1.below g2 (by omega)
 have G2 := g1.trans (g2.mono (by omega))
 clear g1 g2 p1
 have c0 : u2.cell? ⟨w.heap.size, 0, none⟩ = some (s) := p2.c 0 _ rfl
 have d0 : u2.cell? ⟨w.heap.size + 1, 0, none⟩ = some (s') := q2.c 0 _ rfl
 go_wp2_with fail
 clear c0 d0
 refine (eqStmtS_any _ lo hi lo' hi' _ _ p.prog p.prog (HH.out.1.prog.under G2 hhi) (HH.out.2.prog.under G2 hhi') (by omega) (by omega)).mono ?_
 rintro e1 u3 ⟨r1, rfl, hr1, g3⟩
 obtain rfl : r1 = true := hr1.mpr rfl
 clear hr1
 have s3 := g3.size
 have p3 := p2.below g3 (by omega)
 have q3 := q2.below g3 (by omega)
 have G3 := G2.trans (g3.mono (by omega))
 clear g3 p2 q2 G2
 have c1 : u3.cell? ⟨w.heap.size, 1, none⟩ = some (a) := p3.c 1 _ rfl
 have d1 : u3.cell? ⟨w.heap.size + 1, 1, none⟩ = some (a') := q3.c 1 _ rfl
 have c2 : u3.cell? ⟨w.heap.size, 2, none⟩ = some (b) := p3.c 2 _ rfl
 have d2 : u3.cell? ⟨w.heap.size + 1, 2, none⟩ = some (b') := q3.c 2 _ rfl
 go_wp2_with fail
 clear c1 d1 c2 d2
 refine (eqNet_same _ lo hi lo' hi' _ _ p.net (HH.out.1.net.under G3 hhi) (HH.out.2.net.under G3 hhi') (by omega) (by omega)).mono ?_
 rintro e1 u4 ⟨rfl, g4⟩
 have s4 := g4.size
 have p4 := p3.below g4 (by omega)
 have q4 := q3.below g4 (by omega)
 have G4 := G3.trans (g4.mono (by omega))
 clear g4 p3 q3 G3
 have c3 : u4.cell? ⟨w.heap.size, 3, none⟩ = some (.int .i64 p.chart.steps) := p4.c 3 _ rfl
 have d3 : u4.cell? ⟨w.heap.size + 1, 3, none⟩ = some (.int .i64 p.chart.steps) := q4.c 3 _ rfl
 have c4 : u4.cell? ⟨w.heap.size, 4, none⟩ = some (c) := p4.c 4 _ rfl
 have d4 : u4.cell? ⟨w.heap.size + 1, 4, none⟩ = some (c') := q4.c 4 _ rfl
 have c5 : u4.cell? ⟨w.heap.size, 5, none⟩ = some (d) := p4.c 5 _ rfl
 have d5 : u4.cell? ⟨w.heap.size + 1, 5, none⟩ = some (d') := q4.c 5 _ rfl
 go_wp2_with fail
 clear c3 d3 c4 d4 c5 d5
 refine (eqChart_same _ lo hi lo' hi' _ _ p.chart (HH.out.1.chart.under G4 hhi) (HH.out.2.chart.under G4 hhi') (by omega) (by omega)).mono ?_
 rintro e1 u5 ⟨rfl, g5⟩
 have s5 := g5.size
 have p5 := p4.below g5 (by omega)
 have q5 := q4.below g5 (by omega)
 have G5 := G4.trans (g5.mono (by omega))
 clear g5 p4 q4 G4
 have c6 : u5.cell? ⟨w.heap.size, 6, none⟩ = some (e) := p5.c 6 _ rfl
 have d6 : u5.cell? ⟨w.heap.size + 1, 6, none⟩ = some (e') := q5.c 6 _ rfl
 have c7 : u5.cell? ⟨w.heap.size, 7, none⟩ = some (f) := p5.c 7 _ rfl
 have d7 : u5.cell? ⟨w.heap.size + 1, 7, none⟩ = some (f') := q5.c 7 _ rfl
 go_wp2_with fail
 clear c6 d6 c7 d7
 refine (eqStO_same _ lo hi lo' hi' _ _ p.st (HH.out.1.st.under G5 hhi) (HH.out.2.st.under G5 hhi') (by omega) (by omega)).mono ?_
 rintro e1 u6 ⟨rfl, g6⟩
 have s6 := g6.size
 have p6 := p5.below g6 (by omega)
 have q6 := q5.below g6 (by omega)
 have G6 := G5.trans (g6.mono (by omega))
 clear g6 p5 q5 G5
 have c8 : u6.cell? ⟨w.heap.size, 8, none⟩ = some (g) := p6.c 8 _ rfl
 have d8 : u6.cell? ⟨w.heap.size + 1, 8, none⟩ = some (g') := q6.c 8 _ rfl
 have c9 : u6.cell? ⟨w.heap.size, 9, none⟩ = some (h) := p6.c 9 _ rfl
 have d9 : u6.cell? ⟨w.heap.size + 1, 9, none⟩ = some (h') := q6.c 9 _ rfl
 go_wp2_with fail
 clear c8 d8 c9 d9
 refine (eqMkO_same _ lo hi lo' hi' _ _ p.marks (HH.out.1.marks.under G6 hhi) (HH.out.2.marks.under G6 hhi') (by omega) (by omega)).mono ?_
 rintro e1 u7 ⟨rfl, g7⟩
 have s7 := g7.size
 have p7 := p6.below g7 (by omega)
 have q7 := q6.below g7 (by omega)
 have G7 := G6.trans (g7.mono (by omega))
 clear g7 p6 q6 G6
 have c10 : u7.cell? ⟨w.heap.size, 10, none⟩ = some (i) := p7.c 10 _ rfl
 have d10 : u7.cell? ⟨w.heap.size + 1, 10, none⟩ = some (i') := q7.c 10 _ rfl
 have c11 : u7.cell? ⟨w.heap.size, 11, none⟩ = some (j) := p7.c 11 _ rfl
 have d11 : u7.cell? ⟨w.heap.size + 1, 11, none⟩ = some (j') := q7.c 11 _ rfl
 have c12 : u7.cell? ⟨w.heap.size, 12, none⟩ = some (k) := p7.c 12 _ rfl
 have d12 : u7.cell? ⟨w.heap.size + 1, 12, none⟩ = some (k') := q7.c 12 _ rfl
 go_wp2_with fail
 clear c10 d10 c11 d11 c12 d12
 refine (eqMem_any _ lo hi lo' hi' _ _ p.mem p.mem (HH.out.1.mem.below G7 hhi) (HH.out.2.mem.below G7 hhi') (by omega) (by omega)).mono ?_
 rw [decide_eq_true rfl]
 rintro e1 u8 ⟨rfl, g8⟩
 have s8 := g8.size
 have p8 := p7.below g8 (by omega)
 have q8 := q7.below g8 (by omega)
 have G8 := G7.trans (g8.mono (by omega))
 clear g8 p7 q7 G7
 have c13 : u8.cell? ⟨w.heap.size, 13, none⟩ = some (.bool p.fault) := p8.c 13 _ rfl
 have d13 : u8.cell? ⟨w.heap.size + 1, 13, none⟩ = some (.bool p.fault) := q8.c 13 _ rfl
 have c14 : u8.cell? ⟨w.heap.size, 14, none⟩ = some (.int .i64 p.scans) := p8.c 14 _ rfl
 have d14 : u8.cell? ⟨w.heap.size + 1, 14, none⟩ = some (.int .i64 p.scans) := q8.c 14 _ rfl
 have e14 : (p.scans != p.scans) = false := by simp
 go_wp2
 go_ret
 exact ⟨rfl, G8⟩

theorem MkR.two {w : World} {lo hi : Nat} {a b : Value} {m : MarksD} (h : MkR w lo hi (.agg #[a, b]) m) : GR bool2 w lo hi a m.on ∧ GR bool2 w lo hi b m.kept := by
 obtain ⟨x, y, e, h1, h2⟩ := h
 simp only [Value.agg.injEq, Array.mk.injEq, List.cons.injEq, and_true] at e
 obtain ⟨rfl, rfl⟩ := e
 exact ⟨h1, h2⟩

end Go.Proofs.YtaoiookfmgpmkaaGreatDoor

/-
 Variables of fifteen cells of a law; a controller's value, written out.
-/
namespace Go.Proofs.YtaoiookfmgpmkaaGreatDoor
open Go.ChangeShapes Go.WideShapes Go.ChangeAt Go.RowKit
set_option linter.unusedVariables false

structure BxF (w : World) (B : Nat) (x0 x1 x2 x3 x4 x5 x6 x7 x8 x9 x10 x11 x12 x13 x14 : Value) : Prop where
 c0 : w.cell? ⟨B, 0, none⟩ = some x0
 c1 : w.cell? ⟨B, 1, none⟩ = some x1
 c2 : w.cell? ⟨B, 2, none⟩ = some x2
 c3 : w.cell? ⟨B, 3, none⟩ = some x3
 c4 : w.cell? ⟨B, 4, none⟩ = some x4
 c5 : w.cell? ⟨B, 5, none⟩ = some x5
 c6 : w.cell? ⟨B, 6, none⟩ = some x6
 c7 : w.cell? ⟨B, 7, none⟩ = some x7
 c8 : w.cell? ⟨B, 8, none⟩ = some x8
 c9 : w.cell? ⟨B, 9, none⟩ = some x9
 c10 : w.cell? ⟨B, 10, none⟩ = some x10
 c11 : w.cell? ⟨B, 11, none⟩ = some x11
 c12 : w.cell? ⟨B, 12, none⟩ = some x12
 c13 : w.cell? ⟨B, 13, none⟩ = some x13
 c14 : w.cell? ⟨B, 14, none⟩ = some x14

theorem BxF.below {w w' : World} {B n : Nat} {x0 x1 x2 x3 x4 x5 x6 x7 x8 x9 x10 x11 x12 x13 x14 : Value} (h : BxF w B x0 x1 x2 x3 x4 x5 x6 x7 x8 x9 x10 x11 x12 x13 x14) (hb : Below n w w') (hB : B < n) : BxF w' B x0 x1 x2 x3 x4 x5 x6 x7 x8 x9 x10 x11 x12 x13 x14 :=
 ⟨by rw [hb.cell (p := ⟨B, 0, none⟩) hB]; exact h.c0,
 by rw [hb.cell (p := ⟨B, 1, none⟩) hB]; exact h.c1,
 by rw [hb.cell (p := ⟨B, 2, none⟩) hB]; exact h.c2,
 by rw [hb.cell (p := ⟨B, 3, none⟩) hB]; exact h.c3,
 by rw [hb.cell (p := ⟨B, 4, none⟩) hB]; exact h.c4,
 by rw [hb.cell (p := ⟨B, 5, none⟩) hB]; exact h.c5,
 by rw [hb.cell (p := ⟨B, 6, none⟩) hB]; exact h.c6,
 by rw [hb.cell (p := ⟨B, 7, none⟩) hB]; exact h.c7,
 by rw [hb.cell (p := ⟨B, 8, none⟩) hB]; exact h.c8,
 by rw [hb.cell (p := ⟨B, 9, none⟩) hB]; exact h.c9,
 by rw [hb.cell (p := ⟨B, 10, none⟩) hB]; exact h.c10,
 by rw [hb.cell (p := ⟨B, 11, none⟩) hB]; exact h.c11,
 by rw [hb.cell (p := ⟨B, 12, none⟩) hB]; exact h.c12,
 by rw [hb.cell (p := ⟨B, 13, none⟩) hB]; exact h.c13,
 by rw [hb.cell (p := ⟨B, 14, none⟩) hB]; exact h.c14⟩

theorem pi_one {w : World} {lo hi : Nat} {vs : List Value} {p : PlcD} (x : PI w lo hi (.agg vs.toArray) p) : ∀ v ∈ vs, v.oneCell' = true := by
 obtain ⟨s, a, b, c, d, e, f, g, h, i, j, k, hv, H⟩ := x
 have hvs : vs = plcC p s a b c d e f g h i j k := by simpa using hv
 rw [hvs]
 exact plcC_one H

theorem PI.opq {w : World} {lo hi : Nat} {v : Value} {p : PlcD} (x : PI w lo hi v p) : ∃ cs : List Value, cs.length = 15 ∧ v = .agg cs.toArray := by
 obtain ⟨s, a, b, c, d, e, f, g, h, i, j, k, hv, _⟩ := x; exact ⟨_, rfl, hv⟩

theorem PI.lit {w : World} {lo hi : Nat} {v : Value} {p : PlcD} (x : PI w lo hi v p) : ∃ s a b c d e f g h i j k, v = .agg #[s, a, b, .int .i64 p.chart.steps, c, d, e, f, g, h, i, j, k, .bool p.fault, .int .i64 p.scans] := by
 obtain ⟨s, a, b, c, d, e, f, g, h, i, j, k, hv, _⟩ := x; exact ⟨s, a, b, c, d, e, f, g, h, i, j, k, hv⟩
end Go.Proofs.YtaoiookfmgpmkaaGreatDoor

/-
 What each function of chapter 1 (package impl) and each of its models (package spec) answers, as a contract: called with any numbers, it returns its number, and the world stays as it was.
-/
namespace Go.Proofs.YtaoiookfmgpmkaaGreatDoor
open Go.ChangeShapes Go.WideShapes Go.ChangeAt Go.RowKit

def cutZ (n : Int) : Int := if n < -1000000 then -1000000 else if 1000000 < n then 1000000 else n

theorem cutZ_lo {n : Int} (h : n < -1000000) : cutZ n = -1000000 := by unfold cutZ; rw [if_pos h]
theorem cutZ_hi {n : Int} (h : 1000000 < n) : cutZ n = 1000000 := by unfold cutZ; rw [if_neg (by omega), if_pos h]
theorem cutZ_in {n : Int} (h : -1000000 ≤ n) (h' : n ≤ 1000000) : cutZ n = n := by unfold cutZ; rw [if_neg (by omega), if_neg (by omega)]

set_option maxHeartbeats 400000 in
theorem cutWide_any (n : Int) (w : World) :
  Calls Tryz.prog 240 #[.int .i64 n] w fun e w' => e = .returned (.int .i64 (cutZ n)) ∧ w' = w := by
 by_cases h1 : n < -1000000
 ·go_enter Tryz.func240, Tryz.ntmps240
  go_wp2
  all_goals first
   | (exfalso; rename_i h; rw [if_pos h1] at h; omega)
   | (go_ret; exact ⟨ret_int (cutZ_lo h1).symm, rfl⟩)
 ·by_cases h2 : 1000000 < n
  ·go_enter Tryz.func240, Tryz.ntmps240
   go_wp2
   all_goals (go_ret; exact ⟨ret_int (cutZ_hi h2).symm, rfl⟩)
  ·have h3 : -1000000 ≤ n := by omega
   have h4 : n ≤ 1000000 := by omega
   clear h1 h2
   go_enter Tryz.func240, Tryz.ntmps240
   go_wp2
   all_goals (go_ret; exact ⟨ret_int (cutZ_in h3 h4).symm, rfl⟩)

theorem numCut_any (n : Int) (w : World) :
  Calls Tryz.prog 194 #[.int .i64 n] w fun e w' => e = .returned (.int .i64 (cutZ n)) ∧ w' = w := by
 go_enter Tryz.func194, Tryz.ntmps194
 go_wp2_with (go_at_call 240; refine (cutWide_any _ _).mono ?_; rintro e w' ⟨rfl, rfl⟩)
 go_ret
 exact ⟨rfl, rfl⟩

theorem sCut_any (n : Int) (w : World) :
  Calls Tryz.prog 224 #[.int .i64 n] w fun e w' => e = .returned (.int .i64 (cutZ n)) ∧ w' = w := by
 by_cases h1 : n < -1000000
 ·have h2 : n < 1000000 := by omega
  go_enter Tryz.func224, Tryz.ntmps224
  go_wp2
  go_ret
  exact ⟨ret_int (cutZ_lo h1).symm, rfl⟩
 ·by_cases h2 : 1000000 < n
  ·go_enter Tryz.func224, Tryz.ntmps224
   go_wp2
   go_ret
   exact ⟨ret_int (cutZ_hi h2).symm, rfl⟩
  ·have h3 : -1000000 ≤ n := by omega
   have h4 : n ≤ 1000000 := by omega
   clear h1 h2
   go_enter Tryz.func224, Tryz.ntmps224
   go_wp2
   all_goals
    go_ret
    exact ⟨ret_int (by unfold cutZ; split <;> (try split) <;> omega), rfl⟩

end Go.Proofs.YtaoiookfmgpmkaaGreatDoor
