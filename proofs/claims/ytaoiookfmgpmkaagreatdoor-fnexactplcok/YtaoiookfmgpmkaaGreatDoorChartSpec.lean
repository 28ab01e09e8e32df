/-
 The model's ChartOk.
-/
import Derived.Test.YtaoiookfmgpmkaaGreatDoorChartSpecP
import Derived.Test.YtaoiookfmgpmkaaGreatDoorQM8
namespace Go.Proofs.YtaoiookfmgpmkaaGreatDoor
open Go.ChangeShapes Go.WideShapes Go.ChangeAt Go.RowKit
set_option linter.unusedVariables false
set_option linter.unusedSimpArgs false
set_option maxRecDepth 100000

theorem head_no {c : ChartD} (h : c.steps < 1 ∨ 6 < c.steps ∨ 6 < c.ts.length ∨ 6 < c.acts.length) : chartHead c = false := by
 unfold chartHead
 rw [Bool.eq_false_iff]
 simp only [ne_eq, Bool.and_eq_true, decide_eq_true_eq]
 omega
theorem head_yes {c : ChartD} (h1 : ¬ c.steps < 1) (h2 : ¬ 6 < c.steps) (h3 : ¬ 6 < c.ts.length) (h4 : ¬ 6 < c.acts.length) : chartHead c = true := by
 unfold chartHead
 simp only [Bool.and_eq_true, decide_eq_true_eq]
 omega
theorem way_no {n : Int} {t : TransD} (h : placesOk t.fr n = false ∨ placesOk t.to n = false ∨ exprOk t.e = false) : wayOkB n t = false := by
 unfold wayOkB
 rcases h with h | h | h <;> rw [h] <;> simp

theorem zero_actB : (Tryz.prog.info? 223).map (fun i => (i.zero, i.size)) = some (some (.agg (actC ⟨0, 0, 0, 0⟩).toArray), 4) := by kernel_rfl
theorem zero_transB : (Tryz.prog.info? 209).map (fun i => (i.zero, i.size)) = some (some (.agg (transC zSl zSl noExpr zSl).toArray), 7) := by kernel_rfl

set_option maxHeartbeats 16000000 in
theorem sChartOk_any (w : World) (lo hi : Nat) (v : Value) (c : ChartD) (h : HIc w lo hi v c) (hhi : hi ≤ w.heap.size) (hm : c.many ≤ 1048576) :
  Calls Tryz.prog 137 #[v] w fun e w' => e = .returned (.bool (chartOk c)) ∧ Below w.heap.size w w' := by
 obtain ⟨R, hR⟩ : ∃ R, chartOk c = R := ⟨_, rfl⟩
 rw [hR]
 have HR : Hid (chartOk c = R) := hR
 clear hR
 have HM : Hid (c.many ≤ 1048576) := hm
 clear hm
 obtain ⟨va, vb, rfl, hA, hB⟩ := h
 obtain ⟨ad, cap, rfl, k1, k1'⟩ := hA.shape
 obtain ⟨add, capd, rfl, k2, k2'⟩ := hB.shape
 unfold maxLen at k1' k2'
 have HA : Hid (TR w lo hi (.slice ad c.ts.length cap) c.ts) := hA
 have HD : Hid (GR actE w lo hi (.slice add c.acts.length capd) c.acts) := hB
 clear hA hB
 have hZt := (zero_of_info (P := Tryz.prog) zero_transB).1
 have hZa := (zero_of_info (P := Tryz.prog) zero_actB).1
 by_cases hbad : c.steps < 1 ∨ 6 < c.steps ∨ 6 < c.ts.length ∨ 6 < c.acts.length
 ·have HF : Hid (R = false) := by show R = false; rw [← HR.out]; exact chartOk_head (head_no hbad)
  clear HR HA HD hZt hZa HM
  by_cases s1 : c.steps < 1
  ·clear hbad
   go_enter Tryz.func137, Tryz.ntmps137
   go_wp2_with (refine wpList_boxG (vs := [.int .i64 c.steps, .slice ad c.ts.length cap, .slice add c.acts.length capd]) rfl _ rfl rfl ?_)
   intro w0 g0 pv s0
   have c0 : w0.cell? ⟨w.heap.size, 0, none⟩ = some (.int .i64 c.steps) := pv.c 0 _ rfl
   clear pv
   go_wp2
   go_ret
   exact ⟨ret_bool HF.out.symm, g0⟩
  by_cases s2 : 6 < c.steps
  ·clear hbad
   go_enter Tryz.func137, Tryz.ntmps137
   go_wp2_with (refine wpList_boxG (vs := [.int .i64 c.steps, .slice ad c.ts.length cap, .slice add c.acts.length capd]) rfl _ rfl rfl ?_)
   intro w0 g0 pv s0
   have c0 : w0.cell? ⟨w.heap.size, 0, none⟩ = some (.int .i64 c.steps) := pv.c 0 _ rfl
   clear pv
   go_wp2
   go_ret
   exact ⟨ret_bool HF.out.symm, g0⟩
  by_cases s3 : 6 < c.ts.length
  ·clear hbad
   have s3' : (6 : Int) < (c.ts.length : Int) := by omega
   go_enter Tryz.func137, Tryz.ntmps137
   go_wp2_with (refine wpList_boxG (vs := [.int .i64 c.steps, .slice ad c.ts.length cap, .slice add c.acts.length capd]) rfl _ rfl rfl ?_)
   intro w0 g0 pv s0
   have c0 : w0.cell? ⟨w.heap.size, 0, none⟩ = some (.int .i64 c.steps) := pv.c 0 _ rfl
   have c1 : w0.cell? ⟨w.heap.size, 1, none⟩ = some (.slice ad c.ts.length cap) := pv.c 1 _ rfl
   clear pv
   go_wp2
   go_ret
   exact ⟨ret_bool HF.out.symm, g0⟩
  have s4 : 6 < c.acts.length := by omega
  have s4' : (6 : Int) < (c.acts.length : Int) := by omega
  have s3' : ¬ (6 : Int) < (c.ts.length : Int) := by omega
  clear hbad
  go_enter Tryz.func137, Tryz.ntmps137
  go_wp2_with (refine wpList_boxG (vs := [.int .i64 c.steps, .slice ad c.ts.length cap, .slice add c.acts.length capd]) rfl _ rfl rfl ?_)
  intro w0 g0 pv s0
  have c0 : w0.cell? ⟨w.heap.size, 0, none⟩ = some (.int .i64 c.steps) := pv.c 0 _ rfl
  have c1 : w0.cell? ⟨w.heap.size, 1, none⟩ = some (.slice ad c.ts.length cap) := pv.c 1 _ rfl
  have c2 : w0.cell? ⟨w.heap.size, 2, none⟩ = some (.slice add c.acts.length capd) := pv.c 2 _ rfl
  clear pv
  go_wp2
  go_ret
  exact ⟨ret_bool HF.out.symm, g0⟩
 have s1 : ¬ c.steps < 1 := fun h => hbad (.inl h)
 have s2 : ¬ 6 < c.steps := fun h => hbad (.inr (.inl h))
 have s3 : ¬ (6 : Int) < (c.ts.length : Int) := fun h => hbad (.inr (.inr (.inl (by omega))))
 have s4 : ¬ (6 : Int) < (c.acts.length : Int) := fun h => hbad (.inr (.inr (.inr (by omega))))
 have HH : Hid (chartHead c = true) := head_yes s1 s2 (fun h => s3 (by omega)) (fun h => s4 (by omega))
 clear hbad
 go_enter Tryz.func137, Tryz.ntmps137
 go_wp2_with (refine wpList_boxG (vs := [.int .i64 c.steps, .slice ad c.ts.length cap, .slice add c.acts.length capd]) rfl _ rfl rfl ?_)
 intro w0 g0 pv s0
 have c0 : w0.cell? ⟨w.heap.size, 0, none⟩ = some (.int .i64 c.steps) := pv.c 0 _ rfl
 have c1 : w0.cell? ⟨w.heap.size, 1, none⟩ = some (.slice ad c.ts.length cap) := pv.c 1 _ rfl
 have c2 : w0.cell? ⟨w.heap.size, 2, none⟩ = some (.slice add c.acts.length capd) := pv.c 2 _ rfl
 go_wp2_with fail
 clear c0 c1 c2
 replace HA : Hid (TR w0 lo hi (.slice ad c.ts.length cap) c.ts) := HA.out.under g0 hhi
 replace HD : Hid (GR actE w0 lo hi (.slice add c.acts.length capd) c.acts) := HD.out.under g0 hhi
 have hhi0 : hi ≤ w.heap.size := hhi
 go_loopw [3] (fun i wr => ∃ j : Nat, j ≤ c.ts.length ∧ i = .int .i64 j ∧ Below w0.heap.size w0 wr ∧ WaysTo c j) (fun i _ => c.ts.length - (intOf i).toNat)
 case atStart => exact ⟨0, Nat.zero_le _, rfl, Below.refl _ _, fun i y hi _ => by omega⟩
 case round =>
  obtain ⟨j, hj, rfl, hb, hto⟩ := hrel
  have HT : Hid (WaysTo c j) := hto
  clear hto
  have hsz := hb.size
  have pr := pv.below hb (by omega)
  have c1 : wr.cell? ⟨w.heap.size, 1, none⟩ = some (.slice ad c.ts.length cap) := pr.c 1 _ rfl
  by_cases hlt : j < c.ts.length
  ·obtain ⟨t, hx⟩ : ∃ x, c.ts[j]? = some x := ⟨c.ts[j], List.getElem?_eq_getElem hlt⟩
   obtain ⟨b, off, capx, x, y, s, hv, hb1, hb2, h5, hk⟩ := HA.out.at_ hx
   simp only [Value.slice.injEq, true_and] at hv
   obtain ⟨rfl, rfl⟩ := hv
   have h5 : CV wr b (off + j * 7) (transC x y t.e s) := h5.below hb (by omega)
   have HX : Hid (c.ts[j]? = some t) := hx
   have HW : Hid (WayR w0 lo hi x y s t) := hk
   have HTM : Hid (manyL t.e.kids ≤ 1048576) := by
    have h1 := many_le_manyT hx
    have h2 := HM.out
    unfold ChartD.many at h2
    unfold TransD.many at h1
    show _ ≤ _
    omega
   obtain ⟨ax, cx, ay, cy, az, cz, rfl, rfl, rfl⟩ := hk.shape
   clear hx hk
   go_wp2_with (first
    | refine wpList_loadG Tryz.isAgg209 Tryz.sizeOf209 _ rfl rfl rfl rfl h5 ?_
    | refine wpList_allocG hZt rfl rfl ?_)
   intro u1 g1 q1 s1'
   clear h5 c1
   have hr7 := q1.run 0 7 (show 0 + 7 ≤ 7 by decide)
   go_wp2_with (refine wpList_storeG Tryz.sizeOf209 _ _ rfl rfl rfl rfl rfl (transC_one t.e rfl rfl rfl) hr7.1 hr7.2 ?_)
   intro u2 L
   have q2 := L.var q1
   have z2 := L.size
   have G2 : Below w0.heap.size w0 u2 := L.below _ _ (by omega) (hb.trans (g1.mono (by omega)))
   have p2 := pv.below G2 (by omega)
   clear L q1 g1 hr7 hb pr
   have c0 : u2.cell? ⟨w.heap.size, 0, none⟩ = some (.int .i64 c.steps) := p2.c 0 _ rfl
   have d0 : u2.cell? ⟨wr.heap.size, 0, none⟩ = some (.slice ax t.fr.length cx) := q2.c 0 _ rfl
   go_wp2_with fail
   clear c0 d0
   refine (sPlaces_any u2 lo hi _ t.fr c.steps (HW.out.fr.below G2 (by omega)) (by omega)).mono ?_
   obtain ⟨r1, hr1⟩ : ∃ r, placesOk t.fr c.steps = r := ⟨_, rfl⟩
   rw [hr1]
   rintro e3 u3 ⟨rfl, g3⟩
   have z3 := g3.size
   have G3 := G2.trans (g3.mono (by omega))
   have q3 := q2.below g3 (by omega)
   have p3 := p2.below g3 (by omega)
   clear g3 q2 p2 G2
   cases r1
   ·have HFF : Hid (R = false) := by show R = false; rw [← HR.out]; exact chartOk_way HX.out (way_no (.inl hr1))
    clear hr1 q3 p3
    go_wp2
    go_ret
    exact ⟨ret_bool HFF.out.symm, g0.trans (G3.mono (by omega))⟩
   have HR1 : Hid (placesOk t.fr c.steps = true) := hr1
   clear hr1
   have c0 : u3.cell? ⟨w.heap.size, 0, none⟩ = some (.int .i64 c.steps) := p3.c 0 _ rfl
   have d0 : u3.cell? ⟨wr.heap.size, 1, none⟩ = some (.slice ay t.to.length cy) := q3.c 1 _ rfl
   go_wp2_with fail
   clear c0 d0
   refine (sPlaces_any u3 lo hi _ t.to c.steps (HW.out.to.below G3 (by omega)) (by omega)).mono ?_
   obtain ⟨r2, hr2⟩ : ∃ r, placesOk t.to c.steps = r := ⟨_, rfl⟩
   rw [hr2]
   rintro e4 u4 ⟨rfl, g4⟩
   have z4 := g4.size
   have G4 := G3.trans (g4.mono (by omega))
   have q4 := q3.below g4 (by omega)
   clear g4 q3 p3 G3
   cases r2
   ·have HFF : Hid (R = false) := by show R = false; rw [← HR.out]; exact chartOk_way HX.out (way_no (.inr (.inl hr2)))
    clear hr2 q4
    go_wp2
    go_ret
    exact ⟨ret_bool HFF.out.symm, g0.trans (G4.mono (by omega))⟩
   have HR2 : Hid (placesOk t.to c.steps = true) := hr2
   clear hr2
   have d2 : u4.cell? ⟨wr.heap.size, 2, none⟩ = some (.int .i64 t.e.k) := q4.c 2 _ rfl
   have d3 : u4.cell? ⟨wr.heap.size, 3, none⟩ = some (.int .i64 t.e.n) := q4.c 3 _ rfl
   have d4 : u4.cell? ⟨wr.heap.size, 4, none⟩ = some (.int .i64 t.e.ak) := q4.c 4 _ rfl
   have d5 : u4.cell? ⟨wr.heap.size, 5, none⟩ = some (.int .i64 t.e.at_) := q4.c 5 _ rfl
   have d6 : u4.cell? ⟨wr.heap.size, 6, none⟩ = some (.slice az t.e.kids.length cz) := q4.c 6 _ rfl
   go_wp2_with fail
   clear d2 d3 d4 d5 d6 q4
   refine (sExprOk_any u4 lo hi _ t.e ⟨_, rfl, HW.out.e.under G4 (by omega)⟩ (by omega) HTM.out).mono ?_
   obtain ⟨r3, hr3⟩ : ∃ r, exprOk t.e = r := ⟨_, rfl⟩
   rw [hr3]
   rintro e5 u5 ⟨rfl, g5⟩
   have G5 := G4.trans (g5.mono (by omega))
   clear g5 G4
   cases r3
   ·have HFF : Hid (R = false) := by show R = false; rw [← HR.out]; exact chartOk_way HX.out (way_no (.inr (.inr hr3)))
    clear hr3
    go_wp2
    go_ret
    exact ⟨ret_bool HFF.out.symm, g0.trans (G5.mono (by omega))⟩
   ·have HN : Hid (WaysTo c (j + 1)) := HT.out.next HX.out (by unfold wayOkB; rw [HR1.out, HR2.out, hr3]; rfl)
    clear hr3
    go_wp2
    go_roundw
    case rel => exact ⟨j + 1, by omega, by go_num, G5, HN.out⟩
    case measure => simp [intOf]; omega
  ·obtain rfl : j = c.ts.length := by omega
   go_wp2_with fail
   clear c1 pr
   obtain ⟨wq, hwq⟩ : ∃ q, wr = q := ⟨_, rfl⟩
   rw [hwq] at hb ⊢
   clear hwq hsz
   go_loopw [5] (fun i wr => ∃ j : Nat, j ≤ c.acts.length ∧ i = .int .i64 j ∧ Below w0.heap.size w0 wr ∧ ActsTo c j) (fun i _ => c.acts.length - (intOf i).toNat)
   case atStart => exact ⟨0, Nat.zero_le _, rfl, hb, fun i y hi _ => by omega⟩
   case round =>
    clear hb
    obtain ⟨j, hj, rfl, hb, hto⟩ := hrel
    have HTA : Hid (ActsTo c j) := hto
    clear hto
    have hsz := hb.size
    have pr := pv.below hb (by omega)
    have c2 : wr.cell? ⟨w.heap.size, 2, none⟩ = some (.slice add c.acts.length capd) := pr.c 2 _ rfl
    by_cases hlt : j < c.acts.length
    ·obtain ⟨t, hx⟩ : ∃ x, c.acts[j]? = some x := ⟨c.acts[j], List.getElem?_eq_getElem hlt⟩
     obtain ⟨b, off, capx, hv, hb1, hb2, h5⟩ := HD.out.at_ hx
     simp only [Value.slice.injEq, true_and] at hv
     obtain ⟨rfl, rfl⟩ := hv
     have h5 : CV wr b (off + j * 4) (actC t) := h5.below hb (by omega)
     have HX : Hid (c.acts[j]? = some t) := hx
     clear hx
     go_wp2_with (first
      | refine wpList_loadG Tryz.isAgg223 Tryz.sizeOf223 _ rfl rfl rfl rfl h5 ?_
      | refine wpList_allocG hZa rfl rfl ?_)
     intro u1 g1 q1 s1'
     clear h5 c2
     have hr7 := q1.run 0 4 (show 0 + 4 ≤ 4 by decide)
     go_wp2_with (refine wpList_storeG Tryz.sizeOf223 _ _ rfl rfl rfl rfl rfl (actC_one t) hr7.1 hr7.2 ?_)
     intro u2 L
     have q2 := L.var q1
     have z2 := L.size
     have G2 : Below w0.heap.size w0 u2 := L.below _ _ (by omega) (hb.trans (g1.mono (by omega)))
     have p2 := pv.below G2 (by omega)
     clear L q1 g1 hr7 hb pr
     have c0 : u2.cell? ⟨w.heap.size, 0, none⟩ = some (.int .i64 c.steps) := p2.c 0 _ rfl
     have d0 : u2.cell? ⟨wr.heap.size, 0, none⟩ = some (.int .i64 t.kind) := q2.c 0 _ rfl
     have d1 : u2.cell? ⟨wr.heap.size, 1, none⟩ = some (.int .i64 t.step) := q2.c 1 _ rfl
     have d2 : u2.cell? ⟨wr.heap.size, 2, none⟩ = some (.int .i64 t.tk) := q2.c 2 _ rfl
     have d3 : u2.cell? ⟨wr.heap.size, 3, none⟩ = some (.int .i64 t.ta) := q2.c 3 _ rfl
     have G2' := g0.trans (G2.mono (by omega))
     by_cases a1 : t.kind < 1
     ·have HFF : Hid (R = false) := by show R = false; rw [← HR.out]; refine chartOk_act HX.out ?_; unfold actOkB; rw [decide_eq_false (by omega)]; rfl
      clear d1 d2 d3 c0 q2 p2
      go_wp2
      go_ret
      exact ⟨ret_bool HFF.out.symm, G2'⟩
     by_cases a2 : 4 < t.kind
     ·have HFF : Hid (R = false) := by show R = false; rw [← HR.out]; refine chartOk_act HX.out ?_; unfold actOkB; rw [decide_eq_false (p := t.kind ≤ 4) (by omega)]; simp
      clear d1 d2 d3 c0 q2 p2
      go_wp2
      go_ret
      exact ⟨ret_bool HFF.out.symm, G2'⟩
     by_cases a3 : t.step < 0
     ·have HFF : Hid (R = false) := by show R = false; rw [← HR.out]; refine chartOk_act HX.out ?_; unfold actOkB; rw [decide_eq_false (p := 0 ≤ t.step) (by omega)]; simp
      clear d2 d3 c0 q2 p2
      go_wp2
      go_ret
      exact ⟨ret_bool HFF.out.symm, G2'⟩
     by_cases a4 : c.steps ≤ t.step
     ·have HFF : Hid (R = false) := by show R = false; rw [← HR.out]; refine chartOk_act HX.out ?_; unfold actOkB; rw [decide_eq_false (p := t.step < c.steps) (by omega)]; simp
      clear d2 d3 q2 p2
      go_wp2
      go_ret
      exact ⟨ret_bool HFF.out.symm, G2'⟩
     go_wp2_with fail
     clear d0 d1 d2 d3 c0
     refine (sAddrOk_any u2 ⟨t.tk, t.ta⟩).mono ?_
     obtain ⟨r1, hr1⟩ : ∃ r, addrOk ⟨t.tk, t.ta⟩ = r := ⟨_, rfl⟩
     rw [hr1]
     rintro e3 u3 ⟨rfl, g3⟩
     have z3 := g3.size
     have G3 := G2.trans (g3.mono (by omega))
     have q3 := q2.below g3 (by omega)
     have d2 : u3.cell? ⟨wr.heap.size, 2, none⟩ = some (.int .i64 t.tk) := q3.c 2 _ rfl
     have G3' := g0.trans (G3.mono (by omega))
     clear g3 q2 p2 G2 G2' q3
     cases r1
     ·have HFF : Hid (R = false) := by show R = false; rw [← HR.out]; refine chartOk_act HX.out ?_; unfold actOkB; rw [hr1]; simp
      clear hr1 d2
      go_wp2
      go_ret
      exact ⟨ret_bool HFF.out.symm, G3'⟩
     have HR1 : Hid (addrOk ⟨t.tk, t.ta⟩ = true) := hr1
     clear hr1
     by_cases a5 : t.tk = 2
     ·have HN : Hid (ActsTo c (j + 1)) := HTA.out.next HX.out (by unfold actOkB; rw [HR1.out]; simp; omega)
      have a5' : (t.tk != 2) = false := by simp [a5]
      clear a5
      go_wp2
      go_roundw
      case rel => exact ⟨j + 1, by omega, by go_num, G3, HN.out⟩
      case measure => simp [intOf]; omega
     ·have HFF : Hid (R = false) := by show R = false; rw [← HR.out]; refine chartOk_act HX.out ?_; unfold actOkB; rw [HR1.out]; simp [a5]
      have a5' : (t.tk != 2) = true := by simp [a5]
      clear a5
      go_wp2
      go_ret
      exact ⟨ret_bool HFF.out.symm, G3'⟩
    ·obtain rfl : j = c.acts.length := by omega
     have HFF : Hid (R = true) := by show R = true; rw [← HR.out]; exact chartOk_yes HH.out HT.out HTA.out
     go_wp2
     go_ret
     exact ⟨ret_bool HFF.out.symm, g0.trans (hb.mono (by omega))⟩
end Go.Proofs.YtaoiookfmgpmkaaGreatDoor
