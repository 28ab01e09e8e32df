/-
  PlcSame, by the model. (Written by our generator gen_plc.py.)
-/
import Derived.Test.YtaoiookfmgpmkaaPM9
import Derived.Test.YtaoiookfmgpmkaaStateSame
import Derived.Test.YtaoiookfmgpmkaaStmtSame
import Derived.Test.YtaoiookfmgpmkaaNetSame
import Derived.Test.YtaoiookfmgpmkaaChartSameS
import Derived.Test.YtaoiookfmgpmkaaMemSpec
namespace Go.Proofs.Ytaoiookfmgpmkaa
open Go.ChangeShapes Go.WideShapes Go.ChangeAt Go.RowKit
set_option linter.unusedVariables false
set_option linter.unusedSimpArgs false
set_option maxRecDepth 100000

set_option maxHeartbeats 8000000 in
theorem sPlcSame_any (w : World) (lo hi lo' hi' : Nat) (va vb : Value) (p q : PlcD) (x : PI w lo hi va p) (y : PI w lo' hi' vb q) (hhi : hi ≤ w.heap.size) (hhi' : hi' ≤ w.heap.size) :
    Calls Try.prog 5 #[va, vb] w fun e w' => ∃ r : Bool, e = .returned (.bool r) ∧ (r = true ↔ p = q) ∧ Below w.heap.size w w' := by
  obtain ⟨s, a, b, c, d, e, f, g, h, i, j, k, rfl, H⟩ := x
  obtain ⟨s', a', b', c', d', e', f', g', h', i', j', k', rfl, H'⟩ := y
  have HH : Hid (PlcR w lo hi p s a b c d e f g h i j k ∧ PlcR w lo' hi' q s' a' b' c' d' e' f' g' h' i' j' k') := ⟨H, H'⟩
  clear H H'
  go_enter Try.func5, Try.ntmps5
  go_wp2_with (refine wpList_boxG (vs := plcC p s a b c d e f g h i j k) rfl _ rfl rfl ?_)
  intro u1 g1 p1 s1
  go_wp2_with (refine wpList_boxG (vs := plcC q s' a' b' c' d' e' f' g' h' i' j' k') rfl _ rfl rfl ?_)
  intro u2 g2 q2 s2
  have p2 := p1.below g2 (by omega)
  have G2 := g1.trans (g2.mono (by omega))
  clear g1 g2 p1
  have c0 : u2.cell? ⟨w.heap.size, 0, none⟩ = some (s) := p2.c 0 _ rfl
  have d0 : u2.cell? ⟨w.heap.size + 1, 0, none⟩ = some (s') := q2.c 0 _ rfl
  go_wp2_with fail
  clear c0 d0
  refine (sStmtsSame_any _ lo hi lo' hi' _ _ p.prog q.prog (HH.out.1.prog.under G2 hhi) (HH.out.2.prog.under G2 hhi') (by omega) (by omega)).mono ?_
  rintro e1 u3 ⟨b2, rfl, hb2, g3⟩
  have s3 := g3.size
  have p3 := p2.below g3 (by omega)
  have q3 := q2.below g3 (by omega)
  have G3 := G2.trans (g3.mono (by omega))
  clear g3 p2 q2 G2
  cases b2 with
  | false =>
    have HN : Hid (¬ p = q) := fun h => by have := hb2.mpr (by rw [h]); cases this
    clear hb2
    go_wp2
    go_ret
    exact ⟨false, rfl, ⟨fun h => (by cases h), fun h => absurd h HN.out⟩, G3⟩
  | true =>
  have Eprog : Hid (p.prog = q.prog) := hb2.mp rfl
  clear hb2
  have c1 : u3.cell? ⟨w.heap.size, 1, none⟩ = some (a) := p3.c 1 _ rfl
  have d1 : u3.cell? ⟨w.heap.size + 1, 1, none⟩ = some (a') := q3.c 1 _ rfl
  have c2 : u3.cell? ⟨w.heap.size, 2, none⟩ = some (b) := p3.c 2 _ rfl
  have d2 : u3.cell? ⟨w.heap.size + 1, 2, none⟩ = some (b') := q3.c 2 _ rfl
  go_wp2_with fail
  clear c1 d1 c2 d2
  obtain ⟨b3, hb3⟩ : ∃ b, decide (p.net = q.net) = b := ⟨_, rfl⟩
  refine (sNetSame_any _ lo hi lo' hi' _ _ p.net q.net (HH.out.1.net.under G3 hhi) (HH.out.2.net.under G3 hhi') (by omega) (by omega)).mono ?_
  rw [hb3]
  rintro e1 u4 ⟨rfl, g4⟩
  replace hb3 : b3 = true ↔ p.net = q.net := by rw [← hb3]; exact decide_eq_true_iff
  have s4 := g4.size
  have p4 := p3.below g4 (by omega)
  have q4 := q3.below g4 (by omega)
  have G4 := G3.trans (g4.mono (by omega))
  clear g4 p3 q3 G3
  cases b3 with
  | false =>
    have HN : Hid (¬ p = q) := fun h => by have := hb3.mpr (by rw [h]); cases this
    clear hb3
    go_wp2
    go_ret
    exact ⟨false, rfl, ⟨fun h => (by cases h), fun h => absurd h HN.out⟩, G4⟩
  | true =>
  have Enet : Hid (p.net = q.net) := hb3.mp rfl
  clear hb3
  have c3 : u4.cell? ⟨w.heap.size, 3, none⟩ = some (.int .i64 p.chart.steps) := p4.c 3 _ rfl
  have d3 : u4.cell? ⟨w.heap.size + 1, 3, none⟩ = some (.int .i64 q.chart.steps) := q4.c 3 _ rfl
  have c4 : u4.cell? ⟨w.heap.size, 4, none⟩ = some (c) := p4.c 4 _ rfl
  have d4 : u4.cell? ⟨w.heap.size + 1, 4, none⟩ = some (c') := q4.c 4 _ rfl
  have c5 : u4.cell? ⟨w.heap.size, 5, none⟩ = some (d) := p4.c 5 _ rfl
  have d5 : u4.cell? ⟨w.heap.size + 1, 5, none⟩ = some (d') := q4.c 5 _ rfl
  go_wp2_with fail
  clear c3 d3 c4 d4 c5 d5
  refine (sChartSame_any _ lo hi lo' hi' _ _ p.chart q.chart (HH.out.1.chart.under G4 hhi) (HH.out.2.chart.under G4 hhi') (by omega) (by omega)).mono ?_
  rintro e1 u5 ⟨b4, rfl, hb4, g5⟩
  have s5 := g5.size
  have p5 := p4.below g5 (by omega)
  have q5 := q4.below g5 (by omega)
  have G5 := G4.trans (g5.mono (by omega))
  clear g5 p4 q4 G4
  cases b4 with
  | false =>
    have HN : Hid (¬ p = q) := fun h => by have := hb4.mpr (by rw [h]); cases this
    clear hb4
    go_wp2
    go_ret
    exact ⟨false, rfl, ⟨fun h => (by cases h), fun h => absurd h HN.out⟩, G5⟩
  | true =>
  have Echart : Hid (p.chart = q.chart) := hb4.mp rfl
  clear hb4
  have c6 : u5.cell? ⟨w.heap.size, 6, none⟩ = some (e) := p5.c 6 _ rfl
  have d6 : u5.cell? ⟨w.heap.size + 1, 6, none⟩ = some (e') := q5.c 6 _ rfl
  have c7 : u5.cell? ⟨w.heap.size, 7, none⟩ = some (f) := p5.c 7 _ rfl
  have d7 : u5.cell? ⟨w.heap.size + 1, 7, none⟩ = some (f') := q5.c 7 _ rfl
  go_wp2_with fail
  clear c6 d6 c7 d7
  obtain ⟨b5, hb5⟩ : ∃ b, decide (p.st = q.st) = b := ⟨_, rfl⟩
  refine (sL7Same_any _ lo hi lo' hi' _ _ p.st q.st (HH.out.1.st.under G5 hhi) (HH.out.2.st.under G5 hhi') (by omega) (by omega)).mono ?_
  rw [hb5]
  rintro e1 u6 ⟨rfl, g6⟩
  replace hb5 : b5 = true ↔ p.st = q.st := by rw [← hb5]; exact decide_eq_true_iff
  have s6 := g6.size
  have p6 := p5.below g6 (by omega)
  have q6 := q5.below g6 (by omega)
  have G6 := G5.trans (g6.mono (by omega))
  clear g6 p5 q5 G5
  cases b5 with
  | false =>
    have HN : Hid (¬ p = q) := fun h => by have := hb5.mpr (by rw [h]); cases this
    clear hb5
    go_wp2
    go_ret
    exact ⟨false, rfl, ⟨fun h => (by cases h), fun h => absurd h HN.out⟩, G6⟩
  | true =>
  have Est : Hid (p.st = q.st) := hb5.mp rfl
  clear hb5
  have c8 : u6.cell? ⟨w.heap.size, 8, none⟩ = some (g) := p6.c 8 _ rfl
  have d8 : u6.cell? ⟨w.heap.size + 1, 8, none⟩ = some (g') := q6.c 8 _ rfl
  go_wp2_with fail
  clear c8 d8
  obtain ⟨b6, hb6⟩ : ∃ b, decide (p.marks.on = q.marks.on) = b := ⟨_, rfl⟩
  refine (sL8Bools_any _ lo hi lo' hi' _ _ p.marks.on q.marks.on ((HH.out.1.marks.under G6 hhi).two.1) ((HH.out.2.marks.under G6 hhi').two.1)).mono ?_
  rw [hb6]
  rintro e1 u7 ⟨m6, rfl, hm6⟩
  have g7 : Below u6.heap.size u6 u7 := by rw [hm6]; exact below_drewN (Below.refl _ _) m6
  clear hm6
  replace hb6 : b6 = true ↔ p.marks.on = q.marks.on := by rw [← hb6]; exact decide_eq_true_iff
  have s7 := g7.size
  have p7 := p6.below g7 (by omega)
  have q7 := q6.below g7 (by omega)
  have G7 := G6.trans (g7.mono (by omega))
  clear g7 p6 q6 G6
  cases b6 with
  | false =>
    have HN : Hid (¬ p = q) := fun h => by have := hb6.mpr (by rw [h]); cases this
    clear hb6
    go_wp2
    go_ret
    exact ⟨false, rfl, ⟨fun h => (by cases h), fun h => absurd h HN.out⟩, G7⟩
  | true =>
  have Eon : Hid (p.marks.on = q.marks.on) := hb6.mp rfl
  clear hb6
  have c9 : u7.cell? ⟨w.heap.size, 9, none⟩ = some (h) := p7.c 9 _ rfl
  have d9 : u7.cell? ⟨w.heap.size + 1, 9, none⟩ = some (h') := q7.c 9 _ rfl
  go_wp2_with fail
  clear c9 d9
  obtain ⟨b7, hb7⟩ : ∃ b, decide (p.marks.kept = q.marks.kept) = b := ⟨_, rfl⟩
  refine (sL8Bools_any _ lo hi lo' hi' _ _ p.marks.kept q.marks.kept ((HH.out.1.marks.under G7 hhi).two.2) ((HH.out.2.marks.under G7 hhi').two.2)).mono ?_
  rw [hb7]
  rintro e1 u8 ⟨m7, rfl, hm7⟩
  have g8 : Below u7.heap.size u7 u8 := by rw [hm7]; exact below_drewN (Below.refl _ _) m7
  clear hm7
  replace hb7 : b7 = true ↔ p.marks.kept = q.marks.kept := by rw [← hb7]; exact decide_eq_true_iff
  have s8 := g8.size
  have p8 := p7.below g8 (by omega)
  have q8 := q7.below g8 (by omega)
  have G8 := G7.trans (g8.mono (by omega))
  clear g8 p7 q7 G7
  cases b7 with
  | false =>
    have HN : Hid (¬ p = q) := fun h => by have := hb7.mpr (by rw [h]); cases this
    clear hb7
    go_wp2
    go_ret
    exact ⟨false, rfl, ⟨fun h => (by cases h), fun h => absurd h HN.out⟩, G8⟩
  | true =>
  have Ekept : Hid (p.marks.kept = q.marks.kept) := hb7.mp rfl
  clear hb7
  have c10 : u8.cell? ⟨w.heap.size, 10, none⟩ = some (i) := p8.c 10 _ rfl
  have d10 : u8.cell? ⟨w.heap.size + 1, 10, none⟩ = some (i') := q8.c 10 _ rfl
  have c11 : u8.cell? ⟨w.heap.size, 11, none⟩ = some (j) := p8.c 11 _ rfl
  have d11 : u8.cell? ⟨w.heap.size + 1, 11, none⟩ = some (j') := q8.c 11 _ rfl
  have c12 : u8.cell? ⟨w.heap.size, 12, none⟩ = some (k) := p8.c 12 _ rfl
  have d12 : u8.cell? ⟨w.heap.size + 1, 12, none⟩ = some (k') := q8.c 12 _ rfl
  go_wp2_with fail
  clear c10 d10 c11 d11 c12 d12
  obtain ⟨b8, hb8⟩ : ∃ b, decide (p.mem = q.mem) = b := ⟨_, rfl⟩
  refine (sMemSame_any _ lo hi lo' hi' _ _ p.mem q.mem (HH.out.1.mem.below G8 hhi) (HH.out.2.mem.below G8 hhi') (by omega) (by omega)).mono ?_
  rw [hb8]
  rintro e1 u9 ⟨rfl, g9⟩
  replace hb8 : b8 = true ↔ p.mem = q.mem := by rw [← hb8]; exact decide_eq_true_iff
  have s9 := g9.size
  have p9 := p8.below g9 (by omega)
  have q9 := q8.below g9 (by omega)
  have G9 := G8.trans (g9.mono (by omega))
  clear g9 p8 q8 G8
  cases b8 with
  | false =>
    have HN : Hid (¬ p = q) := fun h => by have := hb8.mpr (by rw [h]); cases this
    clear hb8
    go_wp2
    go_ret
    exact ⟨false, rfl, ⟨fun h => (by cases h), fun h => absurd h HN.out⟩, G9⟩
  | true =>
  have Emem : Hid (p.mem = q.mem) := hb8.mp rfl
  clear hb8
  have c13 : u9.cell? ⟨w.heap.size, 13, none⟩ = some (.bool p.fault) := p9.c 13 _ rfl
  have d13 : u9.cell? ⟨w.heap.size + 1, 13, none⟩ = some (.bool q.fault) := q9.c 13 _ rfl
  have c14 : u9.cell? ⟨w.heap.size, 14, none⟩ = some (.int .i64 p.scans) := p9.c 14 _ rfl
  have d14 : u9.cell? ⟨w.heap.size + 1, 14, none⟩ = some (.int .i64 q.scans) := q9.c 14 _ rfl
  by_cases ef : p.fault = q.fault
  · have hf : (p.fault == q.fault) = true := by simpa using ef
    have EF : Hid (p.fault = q.fault) := ef
    clear ef
    by_cases es : p.scans = q.scans
    · have hs : (p.scans == q.scans) = true := by simpa using es
      have ES : Hid (p.scans = q.scans) := es
      clear es
      go_wp2
      go_ret
      exact ⟨true, rfl, ⟨fun _ => plcD_eq.mpr ⟨Eprog.out, Enet.out, Echart.out, Est.out, (marksD_eq.mpr ⟨Eon.out, Ekept.out⟩), Emem.out, EF.out, ES.out⟩, fun _ => rfl⟩, G9⟩
    · have hs : (p.scans == q.scans) = false := by simpa using es
      have ES : Hid (¬ p.scans = q.scans) := es
      clear es
      go_wp2
      go_ret
      exact ⟨false, rfl, ⟨fun h => (by cases h), fun h => absurd (by rw [h]) ES.out⟩, G9⟩
  · have hf : (p.fault == q.fault) = false := by simpa using ef
    have EF : Hid (¬ p.fault = q.fault) := ef
    clear ef
    go_wp2
    go_ret
    exact ⟨false, rfl, ⟨fun h => (by cases h), fun h => absurd (by rw [h]) EF.out⟩, G9⟩

end Go.Proofs.Ytaoiookfmgpmkaa
