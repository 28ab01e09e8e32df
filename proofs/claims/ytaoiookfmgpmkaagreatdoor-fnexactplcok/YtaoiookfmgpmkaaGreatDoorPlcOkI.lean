/-
 threeFit and PlcOk, by the program. (Written by our generator gen_plc.py.)
-/
import Derived.Test.YtaoiookfmgpmkaaGreatDoorStateOkI
import Derived.Test.YtaoiookfmgpmkaaGreatDoorQM21
import Derived.Test.YtaoiookfmgpmkaaGreatDoorQM20
import Derived.Test.YtaoiookfmgpmkaaGreatDoorQM24
import Derived.Test.YtaoiookfmgpmkaaGreatDoorChartImpl
import Derived.Test.YtaoiookfmgpmkaaGreatDoorQM27
import Derived.Test.YtaoiookfmgpmkaaGreatDoorFiresI
import Derived.Test.YtaoiookfmgpmkaaGreatDoorQM9
namespace Go.Proofs.YtaoiookfmgpmkaaGreatDoor
open Go.ChangeShapes Go.WideShapes Go.ChangeAt Go.RowKit
set_option linter.unusedVariables false
set_option linter.unusedSimpArgs false
set_option maxRecDepth 100000

set_option maxHeartbeats 8000000 in
theorem threeFit_any (w : World) (hF : FormsAt w) (lo hi lo1 hi1 lo2 hi2 : Nat) (vs vn vc : Value) (ss : List StmtD) (n : NetD) (c : ChartD) (hs : SR w lo hi vs ss) (hn : NI w lo1 hi1 vn n) (hc : HIc w lo2 hi2 vc c) (hhi : hi ≤ w.heap.size) (hhi1 : hi1 ≤ w.heap.size) (hhi2 : hi2 ≤ w.heap.size) (m0 : sizeL ss ≤ 1048576) (m2 : c.many ≤ 1048576) :
  Calls Tryz.prog 66 #[vs, vn, vc] w fun e w' => e = .returned (.bool (plcFits ss n c)) ∧ Below w.heap.size w w' := by
 obtain ⟨R, hR⟩ : ∃ R, plcFits ss n c = R := ⟨_, rfl⟩
 rw [hR]
 have HR : Hid (plcFits ss n c = R) := hR
 clear hR
 have HS : Hid (SR w lo hi vs ss) := hs
 have HN : Hid (NI w lo1 hi1 vn n) := hn
 have HC : Hid (HIc w lo2 hi2 vc c) := hc
 clear hs
 obtain ⟨na, nb, rfl, _, _⟩ := hn
 obtain ⟨ca, cb, rfl, _, _⟩ := hc
 go_enter Tryz.func66, Tryz.ntmps66
 go_wp2_with (refine wpList_boxG (vs := [na, nb]) rfl _ rfl rfl ?_)
 intro u1 g1 p1 s1
 go_wp2_with (refine wpList_boxG (vs := [.int .i64 c.steps, ca, cb]) rfl _ rfl rfl ?_)
 intro u2 g2 q2 s2
 have p2 := p1.below g2 (by omega)
 have G2 := g1.trans (g2.mono (by omega))
 clear g1 g2 p1
 go_wp2_with fail
 obtain ⟨b2, hb2⟩ : ∃ b, stmtsOk ss = b := ⟨_, rfl⟩
 refine (iStmtsOk_any _ lo hi _ ss (HS.out.under G2 hhi) (by omega) m0).mono ?_
 rw [hb2]
 rintro e1 u3 ⟨rfl, g3⟩
 have s3 := g3.size
 have p3 := p2.below g3 (by omega)
 have q3 := q2.below g3 (by omega)
 have G3 := G2.trans (g3.mono (by omega))
 clear g3 p2 q2 G2
 cases b2 with
 | false =>
  have HF : Hid (R = false) := by show R = false; rw [← HR.out]; unfold plcFits; rw [hb2]; simp
  clear hb2 p3 q3
  go_wp2
  go_ret
  exact ⟨ret_bool HF.out.symm, G3⟩
 | true =>
 have Hs : Hid (stmtsOk ss = true) := hb2
 clear hb2
 have e0 : u3.cell? ⟨w.heap.size, 0, none⟩ = some na := p3.c 0 _ rfl
 have e1 : u3.cell? ⟨w.heap.size, 1, none⟩ = some nb := p3.c 1 _ rfl
 go_wp2_with fail
 clear e0 e1
 obtain ⟨b3, hb3⟩ : ∃ b, netOk n = b := ⟨_, rfl⟩
 refine (iNetOk_any _ (hF.grow G3) _ lo1 hi1 n (HN.out.under G3 hhi1) (by omega)).mono ?_
 rw [hb3]
 rintro e1 u4 ⟨rfl, g4⟩
 have s4 := g4.size
 have p4 := p3.below g4 (by omega)
 have q4 := q3.below g4 (by omega)
 have G4 := G3.trans (g4.mono (by omega))
 clear g4 p3 q3 G3
 cases b3 with
 | false =>
  have HF : Hid (R = false) := by show R = false; rw [← HR.out]; unfold plcFits; rw [hb3]; simp
  clear hb3 p4 q4
  go_wp2
  go_ret
  exact ⟨ret_bool HF.out.symm, G4⟩
 | true =>
 have Hn : Hid (netOk n = true) := hb3
 clear hb3
 have e0 : u4.cell? ⟨w.heap.size + 1, 0, none⟩ = some (.int .i64 c.steps) := q4.c 0 _ rfl
 have e1 : u4.cell? ⟨w.heap.size + 1, 1, none⟩ = some ca := q4.c 1 _ rfl
 have e2 : u4.cell? ⟨w.heap.size + 1, 2, none⟩ = some cb := q4.c 2 _ rfl
 go_wp2_with fail
 clear e0 e1 e2
 obtain ⟨b4, hb4⟩ : ∃ b, chartOk c = b := ⟨_, rfl⟩
 refine (iChartOk_any _ lo2 hi2 _ c (HC.out.under G4 hhi2) (by omega) m2).mono ?_
 rw [hb4]
 rintro e1 u5 ⟨rfl, g5⟩
 have s5 := g5.size
 have p5 := p4.below g5 (by omega)
 have q5 := q4.below g5 (by omega)
 have G5 := G4.trans (g5.mono (by omega))
 clear g5 p4 q4 G4
 cases b4 with
 | false =>
  have HF : Hid (R = false) := by show R = false; rw [← HR.out]; unfold plcFits; rw [hb4]; simp
  clear hb4 p5 q5
  go_wp2
  go_ret
  exact ⟨ret_bool HF.out.symm, G5⟩
 | true =>
 have Hc : Hid (chartOk c = true) := hb4
 clear hb4
 go_wp2_with fail
 obtain ⟨b5, hb5⟩ : ∃ b, decide ((codeOf ss).length ≤ 400) = b := ⟨_, rfl⟩
 refine (iCodeOf_any _ lo hi _ ss (HS.out.under G5 hhi) (by omega) m0).mono ?_
 rintro e1 u6 ⟨v5, rfl, hrow, g6⟩
 obtain ⟨ad5, cap5, rfl, _, _⟩ := hrow.shape
 clear hrow
 have s6 := g6.size
 have p6 := p5.below g6 (by omega)
 have q6 := q5.below g6 (by omega)
 have G6 := G5.trans (g6.mono (by omega))
 clear g6 p5 q5 G5
 have hd : decide (((codeOf ss).length : Int) ≤ 400) = b5 := by rw [← hb5]; exact decide_eq_decide.mpr (by omega)
 cases b5 with
 | false =>
  have HF : Hid (R = false) := by show R = false; rw [← HR.out]; unfold plcFits; rw [hb5]; simp
  have hd1 : ¬ (((codeOf ss).length : Int) ≤ 400) := of_decide_eq_false hd
  have hd2 : (400 : Int) < ((codeOf ss).length : Int) := by omega
  clear hb5 p6 q6
  go_wp2
  go_ret
  exact ⟨ret_bool HF.out.symm, G6⟩
 | true =>
 have Hl : Hid (decide ((codeOf ss).length ≤ 400) = true) := hb5
 clear hb5
 have hd1 : ((codeOf ss).length : Int) ≤ 400 := of_decide_eq_true hd
 have HF : Hid (R = true) := by show R = true; rw [← HR.out]; unfold plcFits; rw [Hs.out, Hl.out, Hn.out, Hc.out]; rfl
 clear p6 q6
 go_wp2
 go_ret
 exact ⟨ret_bool HF.out.symm, G6⟩

set_option maxHeartbeats 8000000 in
theorem iPlcOk_any (w : World) (hF : FormsAt w) (lo hi : Nat) (v : Value) (p : PlcD) (x : PI w lo hi v p) (hhi : hi ≤ w.heap.size) (hm : p.many ≤ 1048576) :
  Calls Tryz.prog 28 #[v] w fun e w' => e = .returned (.bool (plcOk p)) ∧ Below w.heap.size w w' := by
 obtain ⟨R, hR⟩ : ∃ R, plcOk p = R := ⟨_, rfl⟩
 rw [hR]
 have HR : Hid (plcOk p = R) := hR
 clear hR
 obtain ⟨s, a, b, c, d, e, f, g, h, i, j, k, rfl, H⟩ := x
 have HH : Hid (PlcR w lo hi p s a b c d e f g h i j k) := H
 clear H
 have m0 : sizeL p.prog ≤ 1048576 := by unfold PlcD.many at hm; omega
 have m2 : p.chart.many ≤ 1048576 := by unfold PlcD.many at hm; omega
 clear hm
 go_enter Tryz.func28, Tryz.ntmps28
 go_wp2_with (refine wpList_boxG (vs := plcC p s a b c d e f g h i j k) rfl _ rfl rfl ?_)
 intro u1 G1 p1 s1
 have c0 : u1.cell? ⟨w.heap.size, 0, none⟩ = some (s) := p1.c 0 _ rfl
 have c1 : u1.cell? ⟨w.heap.size, 1, none⟩ = some (a) := p1.c 1 _ rfl
 have c2 : u1.cell? ⟨w.heap.size, 2, none⟩ = some (b) := p1.c 2 _ rfl
 have c3 : u1.cell? ⟨w.heap.size, 3, none⟩ = some (.int .i64 p.chart.steps) := p1.c 3 _ rfl
 have c4 : u1.cell? ⟨w.heap.size, 4, none⟩ = some (c) := p1.c 4 _ rfl
 have c5 : u1.cell? ⟨w.heap.size, 5, none⟩ = some (d) := p1.c 5 _ rfl
 go_wp2_with fail
 clear c0 c1 c2 c3 c4 c5
 obtain ⟨b1, hb1⟩ : ∃ b, plcFits p.prog p.net p.chart = b := ⟨_, rfl⟩
 refine (threeFit_any _ (hF.grow G1) lo hi lo hi lo hi _ _ _ p.prog p.net p.chart (HH.out.prog.under G1 hhi) (HH.out.net.under G1 hhi) (HH.out.chart.under G1 hhi) (by omega) (by omega) (by omega) m0 m2).mono ?_
 rw [hb1]
 rintro e1 u2 ⟨rfl, g2⟩
 have s2 := g2.size
 have p2 := p1.below g2 (by omega)
 have G2 := G1.trans (g2.mono (by omega))
 clear g2 p1 G1
 cases b1 with
 | false =>
  have HF : Hid (R = false) := by show R = false; rw [← HR.out]; unfold plcOk; rw [hb1]; simp
  clear hb1 p2
  go_wp2
  go_ret
  exact ⟨ret_bool HF.out.symm, G2⟩
 | true =>
 have Hf : Hid (plcFits p.prog p.net p.chart = true) := hb1
 clear hb1
 have HNOK : Hid (netOk p.net = true) := by
  have h := Hf.out
  unfold plcFits at h
  simp only [Bool.and_eq_true] at h
  exact h.2.2.1
 have c1 : u2.cell? ⟨w.heap.size, 1, none⟩ = some (a) := p2.c 1 _ rfl
 have c2 : u2.cell? ⟨w.heap.size, 2, none⟩ = some (b) := p2.c 2 _ rfl
 have c6 : u2.cell? ⟨w.heap.size, 6, none⟩ = some (e) := p2.c 6 _ rfl
 have c7 : u2.cell? ⟨w.heap.size, 7, none⟩ = some (f) := p2.c 7 _ rfl
 go_wp2_with fail
 clear c1 c2 c6 c7
 obtain ⟨b2, hb2⟩ : ∃ b, stateFit p.net p.st = b := ⟨_, rfl⟩
 refine (iStateOk_any _ lo hi lo hi _ _ p.net p.st (HH.out.net.under G2 hhi) (HH.out.st.under G2 hhi) (by omega) (by omega) HNOK.out).mono ?_
 rw [hb2]
 rintro e1 u3 ⟨rfl, g3⟩
 have s3 := g3.size
 have p3 := p2.below g3 (by omega)
 have G3 := G2.trans (g3.mono (by omega))
 clear g3 p2 G2
 cases b2 with
 | false =>
  have HF : Hid (R = false) := by show R = false; rw [← HR.out]; unfold plcOk; rw [hb2]; simp
  clear hb2 p3
  go_wp2
  go_ret
  exact ⟨ret_bool HF.out.symm, G3⟩
 | true =>
 have Hst : Hid (stateFit p.net p.st = true) := hb2
 clear hb2
 have c3 : u3.cell? ⟨w.heap.size, 3, none⟩ = some (.int .i64 p.chart.steps) := p3.c 3 _ rfl
 have c4 : u3.cell? ⟨w.heap.size, 4, none⟩ = some (c) := p3.c 4 _ rfl
 have c5 : u3.cell? ⟨w.heap.size, 5, none⟩ = some (d) := p3.c 5 _ rfl
 have c8 : u3.cell? ⟨w.heap.size, 8, none⟩ = some (g) := p3.c 8 _ rfl
 have c9 : u3.cell? ⟨w.heap.size, 9, none⟩ = some (h) := p3.c 9 _ rfl
 go_wp2_with fail
 clear c3 c4 c5 c8 c9
 obtain ⟨b3, hb3⟩ : ∃ b, marksFit p.chart p.marks = b := ⟨_, rfl⟩
 unfold marksFit at hb3
 refine (iMarksOk_any _ lo hi p.chart.steps _ _ _ p.marks (HH.out.marks.under G3 hhi)).mono ?_
 rw [hb3]
 rintro e1 u4 ⟨rfl, g4⟩
 have s4 := g4.size
 have p4 := p3.below g4 (by omega)
 have G4 := G3.trans (g4.mono (by omega))
 clear g4 p3 G3
 cases b3 with
 | false =>
  have HF : Hid (R = false) := by show R = false; rw [← HR.out]; unfold plcOk marksFit; rw [hb3]; simp
  clear hb3 p4
  go_wp2
  go_ret
  exact ⟨ret_bool HF.out.symm, G4⟩
 | true =>
 have Hmk : Hid (marksFit p.chart p.marks = true) := hb3
 clear hb3
 have c10 : u4.cell? ⟨w.heap.size, 10, none⟩ = some (i) := p4.c 10 _ rfl
 have c11 : u4.cell? ⟨w.heap.size, 11, none⟩ = some (j) := p4.c 11 _ rfl
 have c12 : u4.cell? ⟨w.heap.size, 12, none⟩ = some (k) := p4.c 12 _ rfl
 go_wp2_with fail
 clear c10 c11 c12
 obtain ⟨b4, hb4⟩ : ∃ b, memOk p.mem = b := ⟨_, rfl⟩
 refine (iMemOk_any _ _ lo hi p.mem (HH.out.mem.below G4 hhi) (by omega)).mono ?_
 rw [hb4]
 rintro e1 u5 ⟨rfl, g5⟩
 have s5 := g5.size
 have p5 := p4.below g5 (by omega)
 have G5 := G4.trans (g5.mono (by omega))
 clear g5 p4 G4
 cases b4 with
 | false =>
  have HF : Hid (R = false) := by show R = false; rw [← HR.out]; unfold plcOk; rw [hb4]; simp
  clear hb4 p5
  go_wp2
  go_ret
  exact ⟨ret_bool HF.out.symm, G5⟩
 | true =>
 have Hme : Hid (memOk p.mem = true) := hb4
 clear hb4
 have c14 : u5.cell? ⟨w.heap.size, 14, none⟩ = some (.int .i64 p.scans) := p5.c 14 _ rfl
 clear p5
 have HE : Hid (plcOk p = (decide (0 ≤ p.scans) && decide (p.scans ≤ 1000000))) := by show _ = _; unfold plcOk; rw [Hf.out, Hst.out, Hmk.out, Hme.out]; rfl
 by_cases h1 : 0 ≤ p.scans
 ·by_cases h2 : p.scans ≤ 1000000
  ·have HF : Hid (R = true) := by show R = true; rw [← HR.out, HE.out, decide_eq_true h1, decide_eq_true h2]; rfl
   go_wp2
   go_ret
   exact ⟨ret_bool HF.out.symm, G5⟩
  ·have HF : Hid (R = false) := by show R = false; rw [← HR.out, HE.out, decide_eq_true h1, decide_eq_false h2]; rfl
   have h3 : 1000000 < p.scans := by omega
   go_wp2
   go_ret
   exact ⟨ret_bool (by rw [HF.out]; first | done | rfl | exact decide_eq_false (by omega)), G5⟩
 ·have HF : Hid (R = false) := by show R = false; rw [← HR.out, HE.out, decide_eq_false h1]; rfl
  have h3 : p.scans < 0 := by omega
  go_wp2
  go_ret
  exact ⟨ret_bool (by rw [HF.out]; first | done | rfl | exact decide_eq_false (by omega)), G5⟩

end Go.Proofs.YtaoiookfmgpmkaaGreatDoor
