/-
 The program's ChartOk, and what it asks: isStep, stepListOk, wayOk, actingOf, actOk.
-/
import Derived.Test.YtaoiookfmgpmkaaGreatDoorQM10
import Derived.Test.YtaoiookfmgpmkaaGreatDoorQM8
import Derived.Test.YtaoiookfmgpmkaaGreatDoorQM20
import Derived.Test.YtaoiookfmgpmkaaGreatDoorQM19
namespace Go.Proofs.YtaoiookfmgpmkaaGreatDoor
open Go.ChangeShapes Go.WideShapes Go.ChangeAt Go.RowKit
set_option linter.unusedVariables false
set_option linter.unusedSimpArgs false
set_option maxRecDepth 100000

theorem iIsStep_any (w : World) (a n : Int) : Calls Tryz.prog 270 #[.int .i64 a, .int .i64 n] w fun e w' => e = .returned (.bool (decide (0 ≤ a) && decide (a < n))) ∧ w' = w := by
 by_cases h : 0 ≤ a
 ·rw [decide_eq_true h, Bool.true_and]
  go_enter Tryz.func270, Tryz.ntmps270
  go_wp2
  go_ret
  exact ⟨rfl, rfl⟩
 ·rw [decide_eq_false h, Bool.false_and]
  go_enter Tryz.func270, Tryz.ntmps270
  go_wp2
  go_ret
  exact ⟨rfl, rfl⟩

set_option maxHeartbeats 8000000 in
theorem iStepList_any (w : World) (lo hi : Nat) (v : Value) (xs : List Int) (n : Int) (h : SI w lo hi v xs) (hhi : hi ≤ w.heap.size) :
  Calls Tryz.prog 268 #[v, .int .i64 n] w fun e w' => e = .returned (.bool (placesOk xs n)) ∧ Below w.heap.size w w' := by
 obtain ⟨R, hR⟩ : ∃ R, placesOk xs n = R := ⟨_, rfl⟩
 rw [hR]
 have HR : Hid (placesOk xs n = R) := hR
 clear hR
 obtain ⟨a, cap, rfl, h1, h2, h3⟩ := h
 unfold maxLen at h2
 go_enter Tryz.func268, Tryz.ntmps268
 go_wp2_with fail
 go_loopw [9] (fun i wr => ∃ j : Nat, j ≤ xs.length ∧ i = .int .i64 j ∧ Below w.heap.size w wr ∧ ∀ i, i < j → placeAt xs n i = true) (fun i _ => xs.length - (intOf i).toNat)
 case atStart => exact ⟨0, Nat.zero_le _, rfl, Below.refl _ _, fun i hi => by omega⟩
 case round =>
  obtain ⟨j, hj, rfl, hb, ht⟩ := hrel
  have HT : Hid (∀ i, i < j → placeAt xs n i = true) := ht
  clear ht
  by_cases hlt : j < xs.length
  ·obtain ⟨x, hx⟩ : ∃ x, xs[j]? = some x := ⟨xs[j], List.getElem?_eq_getElem hlt⟩
   rcases h3 with h0 | ⟨b, off, rfl, hl0, hh0, hc⟩
   ·rw [h0] at hlt; simp at hlt
   have hsz := hb.size
   have c1 : wr.cell? ⟨b, off + j, none⟩ = some (.int .i64 x) := by rw [hb.cell (p := ⟨b, off + j, none⟩) (by show b < _; omega)]; exact hc j x hx
   have HX : Hid (xs[j]? = some x) := hx
   have HC : Hid (CI w b off xs) := hc
   have HB : Hid (Below w.heap.size w wr) := hb
   clear hx hc hb
   have hz := iIsStep_any wr x n
   go_wp2_with fail
   refine hz.mono ?_
   clear hz
   by_cases q : 0 ≤ x ∧ x < n
   ·rw [decide_eq_true q.1, decide_eq_true q.2]
    rintro e2 u2 ⟨rfl, rfl⟩
    obtain ⟨q3, q4⟩ := q
    cases j with
    | zero =>
     have HN : Hid (∀ i, i < 0 + 1 → placeAt xs n i = true) := by
      intro i hi
      obtain rfl : i = 0 := by omega
      exact placeAt_first HX.out q3 q4
     clear c1
     go_wp2
     go_roundw
     case rel => exact ⟨0 + 1, by omega, by go_num, HB.out, HN.out⟩
     case measure => simp [intOf]; omega
    | succ k =>
     obtain ⟨p, hp⟩ : ∃ p, xs[k]? = some p := ⟨xs[k], List.getElem?_eq_getElem (by omega)⟩
     have c0 : u2.cell? ⟨b, off + k, none⟩ = some (.int .i64 p) := by rw [HB.out.cell (p := ⟨b, off + k, none⟩) (by show b < _; omega)]; exact HC.out k p hp
     have HP : Hid (xs[k]? = some p) := hp
     have hkl : k < xs.length := by omega
     clear hp c1
     by_cases q5 : p < x
     ·have HN : Hid (∀ i, i < k + 1 + 1 → placeAt xs n i = true) := by
       intro i hi
       by_cases e : i = k + 1
       ·rw [e, placeAt_next HX.out HP.out q3 q4]; simpa using q5
       ·exact HT.out i (by omega)
      go_wp2
      go_roundw
      case rel => exact ⟨k + 1 + 1, by omega, by go_num, HB.out, HN.out⟩
      case measure => simp [intOf]; omega
     ·have HF : Hid (R = false) := by show R = false; rw [← HR.out]; exact placesOk_no hlt (by rw [placeAt_next HX.out HP.out q3 q4]; simpa using q5)
      go_wp2
      go_ret
      exact ⟨ret_bool HF.out.symm, HB.out⟩
   ·have HF : Hid (R = false) := by
     show R = false
     rw [← HR.out]
     by_cases q1 : x < 0
     ·exact placesOk_no hlt (placeAt_low HX.out q1)
     ·exact placesOk_no hlt (placeAt_high HX.out (by omega))
    have hq : (decide (0 ≤ x) && decide (x < n)) = false := by
     rw [Bool.eq_false_iff]
     simpa using q
    rw [hq]
    rintro e2 u2 ⟨rfl, rfl⟩
    clear c1 hq
    go_wp2
    go_ret
    exact ⟨ret_bool HF.out.symm, HB.out⟩
  ·obtain rfl : j = xs.length := by omega
   have HF : Hid (decide (0 < xs.length) = R) := by show _ = R; rw [← HR.out, placesOk_yes HT.out]
   go_wp2
   go_ret
   exact ⟨ret_bool HF.out, hb⟩

set_option maxHeartbeats 8000000 in
theorem iWayOk_any (w : World) (lo hi : Nat) (x y s : Value) (t : TransD) (n : Int) (h : WayR w lo hi x y s t) (hhi : hi ≤ w.heap.size) (hm : manyL t.e.kids ≤ 1048576) :
  Calls Tryz.prog 216 #[.agg (transC x y t.e s).toArray, .int .i64 n] w fun e w' => e = .returned (.bool (wayOkB n t)) ∧ Below w.heap.size w w' := by
 obtain ⟨R, hR⟩ : ∃ R, wayOkB n t = R := ⟨_, rfl⟩
 rw [hR]
 have HR : Hid ((placesOk t.fr n && (placesOk t.to n && exprOk t.e)) = R) := hR
 clear hR
 obtain ⟨ax, cx, ay, cy, az, cz, rfl, rfl, rfl⟩ := h.shape
 have HW : Hid (WayR w lo hi (.slice ax t.fr.length cx) (.slice ay t.to.length cy) (.slice az t.e.kids.length cz) t) := h
 clear h
 go_enter Tryz.func216, Tryz.ntmps216
 go_wp2_with (refine wpList_boxG (vs := transC (.slice ax t.fr.length cx) (.slice ay t.to.length cy) t.e (.slice az t.e.kids.length cz)) rfl _ rfl rfl ?_)
 intro u1 g1 p1 s1
 have c0 : u1.cell? ⟨w.heap.size, 0, none⟩ = some (.slice ax t.fr.length cx) := p1.c 0 _ rfl
 go_wp2_with fail
 clear c0
 refine (iStepList_any u1 lo hi _ t.fr n (HW.out.fr.below g1 hhi) (by omega)).mono ?_
 obtain ⟨r1, hr1⟩ : ∃ r, placesOk t.fr n = r := ⟨_, rfl⟩
 rw [hr1] at HR ⊢
 rintro e2 u2 ⟨rfl, g2⟩
 have z2 := g2.size
 have G2 := g1.trans (g2.mono (by omega))
 have p2 := p1.below g2 (by omega)
 clear g1 g2 p1 hr1
 cases r1
 ·have HF : Hid (R = false) := HR.out.symm
  clear HR p2
  go_wp2
  go_ret
  exact ⟨ret_bool HF.out.symm, G2⟩
 have c1 : u2.cell? ⟨w.heap.size, 1, none⟩ = some (.slice ay t.to.length cy) := p2.c 1 _ rfl
 go_wp2_with fail
 clear c1
 refine (iStepList_any u2 lo hi _ t.to n (HW.out.to.below G2 hhi) (by omega)).mono ?_
 obtain ⟨r2, hr2⟩ : ∃ r, placesOk t.to n = r := ⟨_, rfl⟩
 rw [hr2] at HR ⊢
 rintro e3 u3 ⟨rfl, g3⟩
 have z3 := g3.size
 have G3 := G2.trans (g3.mono (by omega))
 have p3 := p2.below g3 (by omega)
 clear G2 g3 p2 hr2
 cases r2
 ·have HF : Hid (R = false) := HR.out.symm
  clear HR p3
  go_wp2
  go_ret
  exact ⟨ret_bool HF.out.symm, G3⟩
 have d2 : u3.cell? ⟨w.heap.size, 2, none⟩ = some (.int .i64 t.e.k) := p3.c 2 _ rfl
 have d3 : u3.cell? ⟨w.heap.size, 3, none⟩ = some (.int .i64 t.e.n) := p3.c 3 _ rfl
 have d4 : u3.cell? ⟨w.heap.size, 4, none⟩ = some (.int .i64 t.e.ak) := p3.c 4 _ rfl
 have d5 : u3.cell? ⟨w.heap.size, 5, none⟩ = some (.int .i64 t.e.at_) := p3.c 5 _ rfl
 have d6 : u3.cell? ⟨w.heap.size, 6, none⟩ = some (.slice az t.e.kids.length cz) := p3.c 6 _ rfl
 go_wp2_with fail
 clear d2 d3 d4 d5 d6 p3
 refine (iExprOk_any u3 lo hi _ t.e ⟨_, rfl, HW.out.e.under G3 hhi⟩ (by omega) hm).mono ?_
 obtain ⟨r3, hr3⟩ : ∃ r, exprOk t.e = r := ⟨_, rfl⟩
 rw [hr3] at HR ⊢
 rintro e4 u4 ⟨rfl, g4⟩
 have G4 := G3.trans (g4.mono (by omega))
 have HF : Hid (r3 = R) := HR.out
 clear hr3 HR g4 G3
 go_wp2
 go_ret
 exact ⟨ret_bool HF.out, G4⟩

def actV (a : ActD) : Value := if a.kind = 1 then .iface 387 (.agg (actC a).toArray) else if a.kind = 2 then .iface 388 (.agg (actC a).toArray) else if a.kind = 3 then .iface 389 (.agg (actC a).toArray) else if a.kind = 4 then .iface 390 (.agg (actC a).toArray) else .nilIface
def isActK (k : Int) : Bool := decide (1 ≤ k) && decide (k ≤ 4)
theorem act_five (k : Int) : k = 1 ∨ k = 2 ∨ k = 3 ∨ k = 4 ∨ (k < 1 ∨ 4 < k) := by omega

set_option maxHeartbeats 4000000 in
theorem actingOf_any (w : World) (a : ActD) :
  Calls Tryz.prog 269 #[.agg (actC a).toArray] w fun e w' => e = .returned (actV a) ∧ Below w.heap.size w w' := by
 obtain ⟨k, s, tk, ta⟩ := a
 have hb := fun o => (Below.refl w.heap.size w).alloc (Nat.le_refl _) o
 rcases act_five k with rfl | rfl | rfl | rfl | h
 all_goals unfold actC
 ·go_enter Tryz.func269, Tryz.ntmps269
  go_wp2
  go_ret
  exact ⟨rfl, hb _⟩
 ·go_enter Tryz.func269, Tryz.ntmps269
  go_wp2
  go_ret
  exact ⟨rfl, hb _⟩
 ·go_enter Tryz.func269, Tryz.ntmps269
  go_wp2
  go_ret
  exact ⟨rfl, hb _⟩
 ·go_enter Tryz.func269, Tryz.ntmps269
  go_wp2
  go_ret
  exact ⟨rfl, hb _⟩
 ·have e1 : (k == 1) = false := by simp; omega
  have e2 : (k == 2) = false := by simp; omega
  have e3 : (k == 3) = false := by simp; omega
  have e4 : (k == 4) = false := by simp; omega
  have HV : actV ⟨k, s, tk, ta⟩ = .nilIface := by unfold actV; simp only; rw [if_neg (by omega), if_neg (by omega), if_neg (by omega), if_neg (by omega)]
  rw [HV]
  go_enter Tryz.func269, Tryz.ntmps269
  go_wp2
  go_ret
  exact ⟨rfl, hb _⟩

theorem neq_actN (u : World) : Sem.run Tryz.prog (binOp .neq 353 .nilIface .nilIface) u = .ok (.bool false) u := by kernel_rfl
theorem guard_actN (x : Operand) (u : World) : Sem.run Tryz.prog (eqGuard .neq 353 x (.const .nilIface) .nilIface .nilIface) u = .ok () u := by cases x <;> kernel_rfl
theorem neq_act (a : ActD) (u : World) : Sem.run Tryz.prog (binOp .neq 353 (actV a) .nilIface) u = .ok (.bool (isActK a.kind)) u := by
 obtain ⟨k, s, tk, ta⟩ := a
 rcases act_five k with rfl | rfl | rfl | rfl | h
 ·kernel_rfl
 ·kernel_rfl
 ·kernel_rfl
 ·kernel_rfl
 ·have HV : actV ⟨k, s, tk, ta⟩ = .nilIface := by unfold actV; simp only; rw [if_neg (by omega), if_neg (by omega), if_neg (by omega), if_neg (by omega)]
  rw [HV, show isActK k = false by unfold isActK; simp; omega]
  exact neq_actN u
theorem guard_act (a : ActD) (x : Operand) (u : World) : Sem.run Tryz.prog (eqGuard .neq 353 x (.const .nilIface) (actV a) .nilIface) u = .ok () u := by
 obtain ⟨k, s, tk, ta⟩ := a
 rcases act_five k with rfl | rfl | rfl | rfl | h
 ·kernel_rfl
 ·kernel_rfl
 ·kernel_rfl
 ·kernel_rfl
 ·have HV : actV ⟨k, s, tk, ta⟩ = .nilIface := by unfold actV; simp only; rw [if_neg (by omega), if_neg (by omega), if_neg (by omega), if_neg (by omega)]
  rw [HV]
  exact guard_actN x u

set_option maxHeartbeats 8000000 in
theorem iActOk_any (w : World) (a : ActD) (n : Int) :
  Calls Tryz.prog 217 #[.agg (actC a).toArray, .int .i64 n] w fun e w' => e = .returned (.bool (actOkB n a)) ∧ Below w.heap.size w w' := by
 obtain ⟨R, hR⟩ : ∃ R, actOkB n a = R := ⟨_, rfl⟩
 rw [hR]
 have HR : Hid ((isActK a.kind && ((decide (0 ≤ a.step) && decide (a.step < n)) && (addrOk ⟨a.tk, a.ta⟩ && a.tk == 2))) = R) := by
  show _ = R
  rw [← hR]; unfold actOkB isActK
  simp only [Bool.and_assoc]
 clear hR
 go_enter Tryz.func217, Tryz.ntmps217
 go_wp2_with (refine wpList_boxG (vs := actC a) rfl _ rfl rfl ?_)
 intro u1 g1 p1 s1
 go_wp2_with (refine wpList_loadG Tryz.isAgg223 Tryz.sizeOf223 _ rfl rfl rfl rfl p1.c ?_)
 refine (actingOf_any u1 a).mono ?_
 have hE := fun p u => guard_act a p u
 have hQ := fun u => neq_act a u
 obtain ⟨r1, hr1⟩ : ∃ r, isActK a.kind = r := ⟨_, rfl⟩
 rw [hr1] at HR hQ
 obtain ⟨va, hva⟩ : ∃ v, actV a = v := ⟨_, rfl⟩
 rw [hva] at hE hQ ⊢
 clear hva hr1
 rintro e2 u2 ⟨rfl, g2⟩
 have z2 := g2.size
 have G2 := g1.trans (g2.mono (by omega))
 have p2 := p1.below g2 (by omega)
 clear g1 g2 p1
 cases r1
 ·have HF : Hid (R = false) := HR.out.symm
  clear HR p2
  go_wp2_with (refine wpList_binG _ _ rfl rfl rfl rfl (hE _ _) (hQ _) ?_)
  go_ret
  exact ⟨ret_bool HF.out.symm, G2⟩
 have c1 : u2.cell? ⟨w.heap.size, 1, none⟩ = some (.int .i64 a.step) := p2.c 1 _ rfl
 go_wp2_with (refine wpList_binG _ _ rfl rfl rfl rfl (hE _ _) (hQ _) ?_)
 clear c1 hE hQ
 refine (iIsStep_any u2 a.step n).mono ?_
 obtain ⟨r2, hr2⟩ : ∃ r, (decide (0 ≤ a.step) && decide (a.step < n)) = r := ⟨_, rfl⟩
 rw [hr2] at HR ⊢
 clear hr2
 rintro e3 u3 ⟨rfl, rfl⟩
 cases r2
 ·have HF : Hid (R = false) := HR.out.symm
  clear HR p2
  go_wp2
  go_ret
  exact ⟨ret_bool HF.out.symm, G2⟩
 have c2 : u3.cell? ⟨w.heap.size, 2, none⟩ = some (.int .i64 a.tk) := p2.c 2 _ rfl
 have c3 : u3.cell? ⟨w.heap.size, 3, none⟩ = some (.int .i64 a.ta) := p2.c 3 _ rfl
 go_wp2_with fail
 clear c2 c3
 refine (iAddrOk_any u3 a.tk a.ta).mono ?_
 obtain ⟨r3, hr3⟩ : ∃ r, addrOk ⟨a.tk, a.ta⟩ = r := ⟨_, rfl⟩
 rw [hr3] at HR ⊢
 clear hr3
 rintro e4 u4 ⟨rfl, g4⟩
 have G4 := G2.trans (g4.mono (by omega))
 have p4 := p2.below g4 (by omega)
 clear g4 G2 p2
 cases r3
 ·have HF : Hid (R = false) := HR.out.symm
  clear HR p4
  go_wp2
  go_ret
  exact ⟨ret_bool HF.out.symm, G4⟩
 have c2 : u4.cell? ⟨w.heap.size, 2, none⟩ = some (.int .i64 a.tk) := p4.c 2 _ rfl
 obtain ⟨r4, hr4⟩ : ∃ r, (a.tk == 2) = r := ⟨_, rfl⟩
 rw [hr4] at HR
 have HF : Hid (r4 = R) := HR.out
 clear HR p4
 go_wp2
 go_ret
 exact ⟨ret_bool (by rw [← HF.out]), G4⟩

theorem headI_no {c : ChartD} (h : c.steps < 1 ∨ 6 < c.steps ∨ 6 < c.ts.length ∨ 6 < c.acts.length) : chartHead c = false := by
 unfold chartHead
 rw [Bool.eq_false_iff]
 simp only [ne_eq, Bool.and_eq_true, decide_eq_true_eq]
 omega
theorem headI_yes {c : ChartD} (h1 : ¬ c.steps < 1) (h2 : ¬ 6 < c.steps) (h3 : ¬ 6 < c.ts.length) (h4 : ¬ 6 < c.acts.length) : chartHead c = true := by
 unfold chartHead
 simp only [Bool.and_eq_true, decide_eq_true_eq]
 omega
theorem zeroI_act : (Tryz.prog.info? 223).map (fun i => (i.zero, i.size)) = some (some (.agg (actC ⟨0, 0, 0, 0⟩).toArray), 4) := by kernel_rfl
theorem zeroI_trans : (Tryz.prog.info? 209).map (fun i => (i.zero, i.size)) = some (some (.agg (transC zSl zSl noExpr zSl).toArray), 7) := by kernel_rfl

set_option maxHeartbeats 16000000 in
theorem iChartOk_any (w : World) (lo hi : Nat) (v : Value) (c : ChartD) (h : HIc w lo hi v c) (hhi : hi ≤ w.heap.size) (hm : c.many ≤ 1048576) :
  Calls Tryz.prog 147 #[v] w fun e w' => e = .returned (.bool (chartOk c)) ∧ Below w.heap.size w w' := by
 obtain ⟨R, hR⟩ : ∃ R, chartOk c = R := ⟨_, rfl⟩
 rw [hR]
 have HR : Hid (chartOk c = R) := hR
 clear hR
 have HM : Hid (c.many ≤ 1048576) := hm
 clear hm
 obtain ⟨va, vb, rfl, hA, hB⟩ := h
 obtain ⟨ad, cap, rfl, k1, k1'⟩ := hA.shape
 obtain ⟨add, capd, rfl, k2, k2'⟩ := hB.shape
 unfold maxLen at k1' k2'
 have HA : Hid (TR w lo hi (.slice ad c.ts.length cap) c.ts) := hA
 have HD : Hid (GR actE w lo hi (.slice add c.acts.length capd) c.acts) := hB
 clear hA hB
 have hZt := (zero_of_info (P := Tryz.prog) zeroI_trans).1
 have hZa := (zero_of_info (P := Tryz.prog) zeroI_act).1
 by_cases hbad : c.steps < 1 ∨ 6 < c.steps ∨ 6 < c.ts.length ∨ 6 < c.acts.length
 ·have HF : Hid (R = false) := by show R = false; rw [← HR.out]; exact chartOk_head (headI_no hbad)
  clear HR HA HD hZt hZa HM
  by_cases s1 : c.steps < 1
  ·clear hbad
   go_enter Tryz.func147, Tryz.ntmps147
   go_wp2_with (refine wpList_boxG (vs := [.int .i64 c.steps, .slice ad c.ts.length cap, .slice add c.acts.length capd]) rfl _ rfl rfl ?_)
   intro w0 g0 pv s0
   have c0 : w0.cell? ⟨w.heap.size, 0, none⟩ = some (.int .i64 c.steps) := pv.c 0 _ rfl
   clear pv
   go_wp2
   go_ret
   exact ⟨ret_bool HF.out.symm, g0⟩
  by_cases s2 : 6 < c.steps
  ·clear hbad
   go_enter Tryz.func147, Tryz.ntmps147
   go_wp2_with (refine wpList_boxG (vs := [.int .i64 c.steps, .slice ad c.ts.length cap, .slice add c.acts.length capd]) rfl _ rfl rfl ?_)
   intro w0 g0 pv s0
   have c0 : w0.cell? ⟨w.heap.size, 0, none⟩ = some (.int .i64 c.steps) := pv.c 0 _ rfl
   clear pv
   go_wp2
   go_ret
   exact ⟨ret_bool HF.out.symm, g0⟩
  by_cases s3 : 6 < c.ts.length
  ·clear hbad
   have s3' : (6 : Int) < (c.ts.length : Int) := by omega
   go_enter Tryz.func147, Tryz.ntmps147
   go_wp2_with (refine wpList_boxG (vs := [.int .i64 c.steps, .slice ad c.ts.length cap, .slice add c.acts.length capd]) rfl _ rfl rfl ?_)
   intro w0 g0 pv s0
   have c0 : w0.cell? ⟨w.heap.size, 0, none⟩ = some (.int .i64 c.steps) := pv.c 0 _ rfl
   have c1 : w0.cell? ⟨w.heap.size, 1, none⟩ = some (.slice ad c.ts.length cap) := pv.c 1 _ rfl
   clear pv
   go_wp2
   go_ret
   exact ⟨ret_bool HF.out.symm, g0⟩
  have s4 : 6 < c.acts.length := by omega
  have s4' : (6 : Int) < (c.acts.length : Int) := by omega
  have s3' : ¬ (6 : Int) < (c.ts.length : Int) := by omega
  clear hbad
  go_enter Tryz.func147, Tryz.ntmps147
  go_wp2_with (refine wpList_boxG (vs := [.int .i64 c.steps, .slice ad c.ts.length cap, .slice add c.acts.length capd]) rfl _ rfl rfl ?_)
  intro w0 g0 pv s0
  have c0 : w0.cell? ⟨w.heap.size, 0, none⟩ = some (.int .i64 c.steps) := pv.c 0 _ rfl
  have c1 : w0.cell? ⟨w.heap.size, 1, none⟩ = some (.slice ad c.ts.length cap) := pv.c 1 _ rfl
  have c2 : w0.cell? ⟨w.heap.size, 2, none⟩ = some (.slice add c.acts.length capd) := pv.c 2 _ rfl
  clear pv
  go_wp2
  go_ret
  exact ⟨ret_bool HF.out.symm, g0⟩
 have s1 : ¬ c.steps < 1 := fun h => hbad (.inl h)
 have s2 : ¬ 6 < c.steps := fun h => hbad (.inr (.inl h))
 have s3 : ¬ (6 : Int) < (c.ts.length : Int) := fun h => hbad (.inr (.inr (.inl (by omega))))
 have s4 : ¬ (6 : Int) < (c.acts.length : Int) := fun h => hbad (.inr (.inr (.inr (by omega))))
 have HH : Hid (chartHead c = true) := headI_yes s1 s2 (fun h => s3 (by omega)) (fun h => s4 (by omega))
 clear hbad
 go_enter Tryz.func147, Tryz.ntmps147
 go_wp2_with (refine wpList_boxG (vs := [.int .i64 c.steps, .slice ad c.ts.length cap, .slice add c.acts.length capd]) rfl _ rfl rfl ?_)
 intro w0 g0 pv s0
 have c0 : w0.cell? ⟨w.heap.size, 0, none⟩ = some (.int .i64 c.steps) := pv.c 0 _ rfl
 have c1 : w0.cell? ⟨w.heap.size, 1, none⟩ = some (.slice ad c.ts.length cap) := pv.c 1 _ rfl
 have c2 : w0.cell? ⟨w.heap.size, 2, none⟩ = some (.slice add c.acts.length capd) := pv.c 2 _ rfl
 go_wp2_with fail
 clear c0 c1 c2
 replace HA : Hid (TR w0 lo hi (.slice ad c.ts.length cap) c.ts) := HA.out.under g0 hhi
 replace HD : Hid (GR actE w0 lo hi (.slice add c.acts.length capd) c.acts) := HD.out.under g0 hhi
 have hhi0 : hi ≤ w.heap.size := hhi
 go_loopw [30] (fun i wr => ∃ j : Nat, j ≤ c.ts.length ∧ i = .int .i64 j ∧ Below w0.heap.size w0 wr ∧ WaysTo c j) (fun i _ => c.ts.length - (intOf i).toNat)
 case atStart => exact ⟨0, Nat.zero_le _, rfl, Below.refl _ _, fun i y hi _ => by omega⟩
 case round =>
  obtain ⟨j, hj, rfl, hb, hto⟩ := hrel
  have HT : Hid (WaysTo c j) := hto
  clear hto
  have hsz := hb.size
  by_cases hlt : j < c.ts.length
  ·obtain ⟨t, hx⟩ : ∃ x, c.ts[j]? = some x := ⟨c.ts[j], List.getElem?_eq_getElem hlt⟩
   obtain ⟨b, off, capx, x, y, s, hv, hb1, hb2, h5, hk⟩ := HA.out.at_ hx
   simp only [Value.slice.injEq, true_and] at hv
   obtain ⟨rfl, rfl⟩ := hv
   have h5 : CV wr b (off + j * 7) (transC x y t.e s) := h5.below hb (by omega)
   have HX : Hid (c.ts[j]? = some t) := hx
   have HW : Hid (WayR w0 lo hi x y s t) := hk
   have HTM : Hid (manyL t.e.kids ≤ 1048576) := by
    have h1 := many_le_manyT hx
    have h2 := HM.out
    unfold ChartD.many at h2
    unfold TransD.many at h1
    show _ ≤ _
    omega
   obtain ⟨ax, cx, ay, cy, az, cz, rfl, rfl, rfl⟩ := hk.shape
   clear hx hk
   go_wp2_with (first
    | refine wpList_loadG Tryz.isAgg209 Tryz.sizeOf209 _ rfl rfl rfl rfl h5 ?_
    | refine wpList_allocG hZt rfl rfl ?_)
   intro u1 g1 q1 s1'
   clear h5
   have hr7 := q1.run 0 7 (show 0 + 7 ≤ 7 by decide)
   go_wp2_with (refine wpList_storeG Tryz.sizeOf209 _ _ rfl rfl rfl rfl rfl (transC_one t.e rfl rfl rfl) hr7.1 hr7.2 ?_)
   intro u2 L
   have q2 := L.var q1
   have z2 := L.size
   have G2 : Below w0.heap.size w0 u2 := L.below _ _ (by omega) (hb.trans (g1.mono (by omega)))
   have p2 := pv.below G2 (by omega)
   clear L q1 g1 hr7 hb
   have c0 : u2.cell? ⟨w.heap.size, 0, none⟩ = some (.int .i64 c.steps) := p2.c 0 _ rfl
   have hc := q2.c
   go_wp2_with (refine wpList_loadG Tryz.isAgg209 Tryz.sizeOf209 _ rfl rfl rfl rfl hc ?_)
   clear c0 hc
   refine (iWayOk_any u2 lo hi _ _ _ t c.steps (HW.out.under G2 (by omega)) (by omega) HTM.out).mono ?_
   obtain ⟨r1, hr1⟩ : ∃ r, wayOkB c.steps t = r := ⟨_, rfl⟩
   rw [hr1]
   rintro e3 u3 ⟨rfl, g3⟩
   have z3 := g3.size
   have G3 := G2.trans (g3.mono (by omega))
   clear g3 q2 p2 G2
   cases r1
   ·have HFF : Hid (R = false) := by show R = false; rw [← HR.out]; exact chartOk_way HX.out hr1
    clear hr1
    go_wp2
    go_ret
    exact ⟨ret_bool HFF.out.symm, g0.trans (G3.mono (by omega))⟩
   ·have HN : Hid (WaysTo c (j + 1)) := HT.out.next HX.out hr1
    clear hr1
    go_wp2
    go_roundw
    case rel => exact ⟨j + 1, by omega, by go_num, G3, HN.out⟩
    case measure => simp [intOf]; omega
  ·obtain rfl : j = c.ts.length := by omega
   have c2 : wr.cell? ⟨w.heap.size, 2, none⟩ = some (.slice add c.acts.length capd) := (pv.below hb (by omega)).c 2 _ rfl
   go_wp2_with fail
   clear c2
   obtain ⟨wq, hwq⟩ : ∃ q, wr = q := ⟨_, rfl⟩
   rw [hwq] at hb ⊢
   clear hwq hsz
   go_loopw [43] (fun i wr => ∃ j : Nat, j ≤ c.acts.length ∧ i = .int .i64 j ∧ Below w0.heap.size w0 wr ∧ ActsTo c j) (fun i _ => c.acts.length - (intOf i).toNat)
   case atStart => exact ⟨0, Nat.zero_le _, rfl, hb, fun i y hi _ => by omega⟩
   case round =>
    clear hb
    obtain ⟨j, hj, rfl, hb, hto⟩ := hrel
    have HTA : Hid (ActsTo c j) := hto
    clear hto
    have hsz := hb.size
    by_cases hlt : j < c.acts.length
    ·obtain ⟨t, hx⟩ : ∃ x, c.acts[j]? = some x := ⟨c.acts[j], List.getElem?_eq_getElem hlt⟩
     obtain ⟨b, off, capx, hv, hb1, hb2, h5⟩ := HD.out.at_ hx
     simp only [Value.slice.injEq, true_and] at hv
     obtain ⟨rfl, rfl⟩ := hv
     have h5 : CV wr b (off + j * 4) (actC t) := h5.below hb (by omega)
     have HX : Hid (c.acts[j]? = some t) := hx
     clear hx
     go_wp2_with (first
      | refine wpList_loadG Tryz.isAgg223 Tryz.sizeOf223 _ rfl rfl rfl rfl h5 ?_
      | refine wpList_allocG hZa rfl rfl ?_)
     intro u1 g1 q1 s1'
     clear h5
     have hr7 := q1.run 0 4 (show 0 + 4 ≤ 4 by decide)
     go_wp2_with (refine wpList_storeG Tryz.sizeOf223 _ _ rfl rfl rfl rfl rfl (actC_one t) hr7.1 hr7.2 ?_)
     intro u2 L
     have q2 := L.var q1
     have z2 := L.size
     have G2 : Below w0.heap.size w0 u2 := L.below _ _ (by omega) (hb.trans (g1.mono (by omega)))
     have p2 := pv.below G2 (by omega)
     clear L q1 g1 hr7 hb
     have c0 : u2.cell? ⟨w.heap.size, 0, none⟩ = some (.int .i64 c.steps) := p2.c 0 _ rfl
     have hc := q2.c
     go_wp2_with (refine wpList_loadG Tryz.isAgg223 Tryz.sizeOf223 _ rfl rfl rfl rfl hc ?_)
     clear c0 hc
     refine (iActOk_any u2 t c.steps).mono ?_
     obtain ⟨r1, hr1⟩ : ∃ r, actOkB c.steps t = r := ⟨_, rfl⟩
     rw [hr1]
     rintro e3 u3 ⟨rfl, g3⟩
     have G3 := G2.trans (g3.mono (by omega))
     clear g3 q2 p2 G2
     cases r1
     ·have HFF : Hid (R = false) := by show R = false; rw [← HR.out]; exact chartOk_act HX.out hr1
      clear hr1
      go_wp2
      go_ret
      exact ⟨ret_bool HFF.out.symm, g0.trans (G3.mono (by omega))⟩
     ·have HN : Hid (ActsTo c (j + 1)) := HTA.out.next HX.out hr1
      clear hr1
      go_wp2
      go_roundw
      case rel => exact ⟨j + 1, by omega, by go_num, G3, HN.out⟩
      case measure => simp [intOf]; omega
    ·obtain rfl : j = c.acts.length := by omega
     have HFF : Hid (R = true) := by show R = true; rw [← HR.out]; exact chartOk_yes HH.out HT.out HTA.out
     go_wp2
     go_ret
     exact ⟨ret_bool HFF.out.symm, g0.trans (hb.mono (by omega))⟩
end Go.Proofs.YtaoiookfmgpmkaaGreatDoor
