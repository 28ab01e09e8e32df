/-
  PlcSame, by the model and by the program. (Written by our generator gen_plc.py.)
-/
import Derived.Test.YtaoiookfmgpmkaaPM9
import Derived.Test.YtaoiookfmgpmkaaStateSame
import Derived.Test.YtaoiookfmgpmkaaSameC
import Derived.Test.YtaoiookfmgpmkaaNetSame
import Derived.Test.YtaoiookfmgpmkaaChartSame
import Derived.Test.YtaoiookfmgpmkaaImplE
namespace Go.Proofs.Ytaoiookfmgpmkaa
open Go.ChangeShapes Go.WideShapes Go.ChangeAt Go.RowKit
set_option linter.unusedVariables false
set_option linter.unusedSimpArgs false
set_option maxRecDepth 100000

set_option maxHeartbeats 8000000 in
theorem iPlcSame_any (w : World) (lo hi lo' hi' : Nat) (va vb : Value) (p q : PlcD) (x : PO w lo hi va p) (y : PI w lo' hi' vb q) (hhi : hi ≤ w.heap.size) (hhi' : hi' ≤ w.heap.size) (hm : p.many ≤ 1048576) (hm' : q.many ≤ 1048576) :
    Calls Try.prog 7 #[va, vb] w fun e w' => ∃ r : Bool, e = .returned (.bool r) ∧ (r = true ↔ p = q) ∧ Below w.heap.size w w' := by
  obtain ⟨l, u, s, a, b, c, d, e, f, g, h, i, j, k, rfl, H⟩ := x
  obtain ⟨s', a', b', c', d', e', f', g', h', i', j', k', rfl, H'⟩ := y
  have r0 := H.rng 0 (by omega)
  have r2 := H.rng 2 (by omega)
  have r0' : u 0 ≤ w.heap.size := by omega
  have r2' : u 2 ≤ w.heap.size := by omega
  clear r0 r2
  have HP : Hid (SO w (l 0) (u 0) s p.prog ∧ HOc w (l 2) (u 2) (.agg #[.int .i64 p.chart.steps, c, d]) p.chart) := ⟨H.prog, H.chart⟩
  have HH : Hid (PlcR w lo hi p s a b c d e f g h i j k ∧ PlcR w lo' hi' q s' a' b' c' d' e' f' g' h' i' j' k') := ⟨H.r, H'⟩
  clear H H'
  have n0 : sizeL p.prog ≤ 1048576 := by unfold PlcD.many at hm; omega
  have n0' : sizeL q.prog ≤ 1048576 := by unfold PlcD.many at hm'; omega
  have n1 : p.net.many ≤ 1048576 := by unfold PlcD.many at hm; omega
  have n1' : q.net.many ≤ 1048576 := by unfold PlcD.many at hm'; omega
  have n2 : p.chart.many ≤ 1048576 := by unfold PlcD.many at hm; omega
  have n2' : q.chart.many ≤ 1048576 := by unfold PlcD.many at hm'; omega
  clear hm hm'
  go_enter Try.func7, Try.ntmps7
  go_wp2_with (refine wpList_boxG (vs := plcC p s a b c d e f g h i j k) rfl _ rfl rfl ?_)
  intro u1 g1 p1 s1
  go_wp2_with (refine wpList_boxG (vs := plcC q s' a' b' c' d' e' f' g' h' i' j' k') rfl _ rfl rfl ?_)
  intro u2 g2 q2 s2
  have p2 := p1.below g2 (by omega)
  have G2 := g1.trans (g2.mono (by omega))
  clear g1 g2 p1
  have c0 : u2.cell? ⟨w.heap.size, 0, none⟩ = some (s) := p2.c 0 _ rfl
  have d0 : u2.cell? ⟨w.heap.size + 1, 0, none⟩ = some (s') := q2.c 0 _ rfl
  go_wp2_with fail
  clear c0 d0
  refine (iStmtsSame_any _ (l 0) (u 0) lo' hi' _ _ p.prog q.prog (HP.out.1.under G2 r0') (HH.out.2.prog.under G2 hhi') (by omega) (by omega) n0 n0').mono ?_
  rintro e1 u3 ⟨b2, rfl, hb2, g3⟩
  have s3 := g3.size
  have p3 := p2.below g3 (by omega)
  have q3 := q2.below g3 (by omega)
  have G3 := G2.trans (g3.mono (by omega))
  clear g3 p2 q2 G2
  cases b2 with
  | false =>
    have HN : Hid (¬ p = q) := fun h => by have := hb2.mpr (by rw [h]); cases this
    clear hb2
    go_wp2
    go_ret
    exact ⟨false, rfl, ⟨fun h => (by cases h), fun h => absurd h HN.out⟩, G3⟩
  | true =>
  have Eprog : Hid (p.prog = q.prog) := hb2.mp rfl
  clear hb2
  have c1 : u3.cell? ⟨w.heap.size, 1, none⟩ = some (a) := p3.c 1 _ rfl
  have d1 : u3.cell? ⟨w.heap.size + 1, 1, none⟩ = some (a') := q3.c 1 _ rfl
  have c2 : u3.cell? ⟨w.heap.size, 2, none⟩ = some (b) := p3.c 2 _ rfl
  have d2 : u3.cell? ⟨w.heap.size + 1, 2, none⟩ = some (b') := q3.c 2 _ rfl
  go_wp2_with fail
  clear c1 d1 c2 d2
  obtain ⟨b3, hb3⟩ : ∃ b, decide (p.net = q.net) = b := ⟨_, rfl⟩
  refine (iNetSame_any _ _ lo hi p.net _ lo' hi' q.net (HH.out.1.net.under G3 hhi) (by omega) n1 (HH.out.2.net.under G3 hhi') (by omega) n1').mono ?_
  rw [hb3]
  rintro e1 u4 ⟨rfl, g4⟩
  replace hb3 : b3 = true ↔ p.net = q.net := by rw [← hb3]; exact decide_eq_true_iff
  have s4 := g4.size
  have p4 := p3.below g4 (by omega)
  have q4 := q3.below g4 (by omega)
  have G4 := G3.trans (g4.mono (by omega))
  clear g4 p3 q3 G3
  cases b3 with
  | false =>
    have HN : Hid (¬ p = q) := fun h => by have := hb3.mpr (by rw [h]); cases this
    clear hb3
    go_wp2
    go_ret
    exact ⟨false, rfl, ⟨fun h => (by cases h), fun h => absurd h HN.out⟩, G4⟩
  | true =>
  have Enet : Hid (p.net = q.net) := hb3.mp rfl
  clear hb3
  have c3 : u4.cell? ⟨w.heap.size, 3, none⟩ = some (.int .i64 p.chart.steps) := p4.c 3 _ rfl
  have d3 : u4.cell? ⟨w.heap.size + 1, 3, none⟩ = some (.int .i64 q.chart.steps) := q4.c 3 _ rfl
  have c4 : u4.cell? ⟨w.heap.size, 4, none⟩ = some (c) := p4.c 4 _ rfl
  have d4 : u4.cell? ⟨w.heap.size + 1, 4, none⟩ = some (c') := q4.c 4 _ rfl
  have c5 : u4.cell? ⟨w.heap.size, 5, none⟩ = some (d) := p4.c 5 _ rfl
  have d5 : u4.cell? ⟨w.heap.size + 1, 5, none⟩ = some (d') := q4.c 5 _ rfl
  go_wp2_with fail
  clear c3 d3 c4 d4 c5 d5
  refine (iChartSame_any _ (l 2) (u 2) lo' hi' _ _ p.chart q.chart (HP.out.2.under G4 r2') (HH.out.2.chart.under G4 hhi') (by omega) (by omega) n2 n2').mono ?_
  rintro e1 u5 ⟨b4, rfl, hb4, g5⟩
  have s5 := g5.size
  have p5 := p4.below g5 (by omega)
  have q5 := q4.below g5 (by omega)
  have G5 := G4.trans (g5.mono (by omega))
  clear g5 p4 q4 G4
  cases b4 with
  | false =>
    have HN : Hid (¬ p = q) := fun h => by have := hb4.mpr (by rw [h]); cases this
    clear hb4
    go_wp2
    go_ret
    exact ⟨false, rfl, ⟨fun h => (by cases h), fun h => absurd h HN.out⟩, G5⟩
  | true =>
  have Echart : Hid (p.chart = q.chart) := hb4.mp rfl
  clear hb4
  have c6 : u5.cell? ⟨w.heap.size, 6, none⟩ = some (e) := p5.c 6 _ rfl
  have d6 : u5.cell? ⟨w.heap.size + 1, 6, none⟩ = some (e') := q5.c 6 _ rfl
  have c7 : u5.cell? ⟨w.heap.size, 7, none⟩ = some (f) := p5.c 7 _ rfl
  have d7 : u5.cell? ⟨w.heap.size + 1, 7, none⟩ = some (f') := q5.c 7 _ rfl
  go_wp2_with fail
  clear c6 d6 c7 d7
  obtain ⟨b5, hb5⟩ : ∃ b, decide (p.st = q.st) = b := ⟨_, rfl⟩
  refine (iSameState_any _ _ lo hi p.st _ lo' hi' q.st (HH.out.1.st.under G5 hhi) (by omega) (HH.out.2.st.under G5 hhi') (by omega)).mono ?_
  rw [hb5]
  rintro e1 u6 ⟨rfl, g6⟩
  replace hb5 : b5 = true ↔ p.st = q.st := by rw [← hb5]; exact decide_eq_true_iff
  have s6 := g6.size
  have p6 := p5.below g6 (by omega)
  have q6 := q5.below g6 (by omega)
  have G6 := G5.trans (g6.mono (by omega))
  clear g6 p5 q5 G5
  cases b5 with
  | false =>
    have HN : Hid (¬ p = q) := fun h => by have := hb5.mpr (by rw [h]); cases this
    clear hb5
    go_wp2
    go_ret
    exact ⟨false, rfl, ⟨fun h => (by cases h), fun h => absurd h HN.out⟩, G6⟩
  | true =>
  have Est : Hid (p.st = q.st) := hb5.mp rfl
  clear hb5
  have c8 : u6.cell? ⟨w.heap.size, 8, none⟩ = some (g) := p6.c 8 _ rfl
  have d8 : u6.cell? ⟨w.heap.size + 1, 8, none⟩ = some (g') := q6.c 8 _ rfl
  have c9 : u6.cell? ⟨w.heap.size, 9, none⟩ = some (h) := p6.c 9 _ rfl
  have d9 : u6.cell? ⟨w.heap.size + 1, 9, none⟩ = some (h') := q6.c 9 _ rfl
  go_wp2_with fail
  clear c8 d8 c9 d9
  obtain ⟨b6, hb6⟩ : ∃ b, decide (p.marks = q.marks) = b := ⟨_, rfl⟩
  refine (iSameMarks_any _ _ lo hi p.marks _ lo' hi' q.marks (HH.out.1.marks.under G6 hhi) (by omega) (HH.out.2.marks.under G6 hhi') (by omega)).mono ?_
  rw [hb6]
  rintro e1 u7 ⟨rfl, g7⟩
  replace hb6 : b6 = true ↔ p.marks = q.marks := by rw [← hb6]; exact decide_eq_true_iff
  have s7 := g7.size
  have p7 := p6.below g7 (by omega)
  have q7 := q6.below g7 (by omega)
  have G7 := G6.trans (g7.mono (by omega))
  clear g7 p6 q6 G6
  cases b6 with
  | false =>
    have HN : Hid (¬ p = q) := fun h => by have := hb6.mpr (by rw [h]); cases this
    clear hb6
    go_wp2
    go_ret
    exact ⟨false, rfl, ⟨fun h => (by cases h), fun h => absurd h HN.out⟩, G7⟩
  | true =>
  have Emarks : Hid (p.marks = q.marks) := hb6.mp rfl
  clear hb6
  have c10 : u7.cell? ⟨w.heap.size, 10, none⟩ = some (i) := p7.c 10 _ rfl
  have d10 : u7.cell? ⟨w.heap.size + 1, 10, none⟩ = some (i') := q7.c 10 _ rfl
  have c11 : u7.cell? ⟨w.heap.size, 11, none⟩ = some (j) := p7.c 11 _ rfl
  have d11 : u7.cell? ⟨w.heap.size + 1, 11, none⟩ = some (j') := q7.c 11 _ rfl
  have c12 : u7.cell? ⟨w.heap.size, 12, none⟩ = some (k) := p7.c 12 _ rfl
  have d12 : u7.cell? ⟨w.heap.size + 1, 12, none⟩ = some (k') := q7.c 12 _ rfl
  go_wp2_with fail
  clear c10 d10 c11 d11 c12 d12
  obtain ⟨b7, hb7⟩ : ∃ b, decide (p.mem = q.mem) = b := ⟨_, rfl⟩
  refine (iMemSame_any _ _ _ lo hi p.mem lo' hi' q.mem (HH.out.1.mem.below G7 hhi) (HH.out.2.mem.below G7 hhi') (by omega) (by omega)).mono ?_
  rw [hb7]
  rintro e1 u8 ⟨rfl, g8⟩
  replace hb7 : b7 = true ↔ p.mem = q.mem := by rw [← hb7]; exact decide_eq_true_iff
  have s8 := g8.size
  have p8 := p7.below g8 (by omega)
  have q8 := q7.below g8 (by omega)
  have G8 := G7.trans (g8.mono (by omega))
  clear g8 p7 q7 G7
  cases b7 with
  | false =>
    have HN : Hid (¬ p = q) := fun h => by have := hb7.mpr (by rw [h]); cases this
    clear hb7
    go_wp2
    go_ret
    exact ⟨false, rfl, ⟨fun h => (by cases h), fun h => absurd h HN.out⟩, G8⟩
  | true =>
  have Emem : Hid (p.mem = q.mem) := hb7.mp rfl
  clear hb7
  have c13 : u8.cell? ⟨w.heap.size, 13, none⟩ = some (.bool p.fault) := p8.c 13 _ rfl
  have d13 : u8.cell? ⟨w.heap.size + 1, 13, none⟩ = some (.bool q.fault) := q8.c 13 _ rfl
  have c14 : u8.cell? ⟨w.heap.size, 14, none⟩ = some (.int .i64 p.scans) := p8.c 14 _ rfl
  have d14 : u8.cell? ⟨w.heap.size + 1, 14, none⟩ = some (.int .i64 q.scans) := q8.c 14 _ rfl
  by_cases ef : p.fault = q.fault
  · have hf : (p.fault == q.fault) = true := by simpa using ef
    have EF : Hid (p.fault = q.fault) := ef
    clear ef
    by_cases es : p.scans = q.scans
    · have hs : (p.scans == q.scans) = true := by simpa using es
      have ES : Hid (p.scans = q.scans) := es
      clear es
      go_wp2
      go_ret
      exact ⟨true, rfl, ⟨fun _ => plcD_eq.mpr ⟨Eprog.out, Enet.out, Echart.out, Est.out, Emarks.out, Emem.out, EF.out, ES.out⟩, fun _ => rfl⟩, G8⟩
    · have hs : (p.scans == q.scans) = false := by simpa using es
      have ES : Hid (¬ p.scans = q.scans) := es
      clear es
      go_wp2
      go_ret
      exact ⟨false, rfl, ⟨fun h => (by cases h), fun h => absurd (by rw [h]) ES.out⟩, G8⟩
  · have hf : (p.fault == q.fault) = false := by simpa using ef
    have EF : Hid (¬ p.fault = q.fault) := ef
    clear ef
    go_wp2
    go_ret
    exact ⟨false, rfl, ⟨fun h => (by cases h), fun h => absurd (by rw [h]) EF.out⟩, G8⟩

end Go.Proofs.Ytaoiookfmgpmkaa
