/-
  toTrans, toTransS, toAct, toActS, toChart: the laws' helpers that copy charts into new memory.
-/
import Derived.Test.YtaoiookfmgpmkaaGreatDoorChartData
import Derived.Test.YtaoiookfmgpmkaaGreatDoorExprTo
namespace Go.Proofs.YtaoiookfmgpmkaaGreatDoor
open Go.ChangeShapes Go.WideShapes Go.ChangeAt Go.RowKit
set_option linter.unusedVariables false
set_option linter.unusedSimpArgs false
set_option maxRecDepth 100000

theorem OI.shape {w : World} {lo hi : Nat} {v : Value} {xs : List Int} (h : OI w lo hi v xs) : ∃ a cap, v = .slice a xs.length cap := by
  obtain ⟨a, cap, hv, _⟩ := h.si; exact ⟨a, cap, hv⟩

def noExpr : ExprD := .mk 0 0 0 0 []
def zSl : Value := .slice none 0 0

theorem zero_trans : (Tryz.prog.info? 209).map (fun i => (i.zero, i.size)) = some (some (.agg (transC zSl zSl noExpr zSl).toArray), 7) := by kernel_rfl
theorem info_trans : (Tryz.prog.info? 209).map (fun i => (i.zero, i.size, i.bytes)) = some (some (.agg (transC zSl zSl noExpr zSl).toArray), 7, 104) := by kernel_rfl

set_option maxHeartbeats 8000000 in
theorem toTrans_any (w : World) (lo hi : Nat) (x y s : Value) (t : TransD) (h : WayR w lo hi x y s t) (hhi : hi ≤ w.heap.size) (hm : t.many ≤ 1048576) :
    Calls Tryz.prog 144 #[.agg (transC x y t.e s).toArray] w fun e w' => ∃ x' y' s' m n, e = .returned (.agg (transC x' y' t.e s').toArray) ∧ WayO w' w.heap.size m n w'.heap.size x' y' s' t ∧ Below w.heap.size w w' := by
  have hZ := (zero_of_info (P := Tryz.prog) zero_trans).1
  unfold TransD.many at hm
  have hm1 : t.fr.length ≤ 1048576 := by omega
  have hm2 : t.to.length ≤ 1048576 := by omega
  have hm3 : manyL t.e.kids ≤ 1048576 := by omega
  clear hm
  obtain ⟨ax, cx, ay, cy, az, cz, rfl, rfl, rfl⟩ := h.shape
  have HW : Hid (WayR w lo hi (.slice ax t.fr.length cx) (.slice ay t.to.length cy) (.slice az t.e.kids.length cz) t) := h
  clear h
  go_enter Tryz.func144, Tryz.ntmps144
  go_wp2_with (refine wpList_boxG (vs := transC (.slice ax t.fr.length cx) (.slice ay t.to.length cy) t.e (.slice az t.e.kids.length cz)) rfl _ rfl rfl ?_)
  intro u1 g1 p1 s1
  go_wp2_with (refine wpList_allocG hZ rfl rfl ?_)
  intro u2 g2 q2 s2
  replace p1 := p1.below g2 (by omega)
  have G2 := g1.trans (g2.mono (by omega))
  clear g1 g2
  go_wp2_with (refine wpList_allocG hZ rfl rfl ?_)
  intro u3 g3 r3 s3
  have p3 := p1.below g3 (by omega)
  have q3 := q2.below g3 (by omega)
  have G3 := G2.trans (g3.mono (by omega))
  clear g3 G2 p1 q2
  have c0 : u3.cell? ⟨w.heap.size, 0, none⟩ = some (.slice ax t.fr.length cx) := p3.c 0 _ rfl
  go_wp2_with fail
  clear c0
  refine (toIntS_any _ lo hi _ t.fr (HW.out.fr.below G3 hhi) (by omega) hm1).mono ?_
  rintro e4 u4 ⟨v4, rfl, O4, g4⟩
  have s4 := g4.size
  obtain ⟨a4, c4, rfl⟩ := O4.shape
  have p4 := p3.below g4 (by omega)
  have q4 := q3.below g4 (by omega)
  have r4 := r3.below g4 (by omega)
  have G4 := G3.trans (g4.mono (by omega))
  clear g4 p3 q3 r3 G3
  go_wp2_with (refine wpList_store1G Tryz.sizeOf49 _ _ rfl rfl rfl rfl rfl rfl (r4.one (show 0 < 7 by decide)) (r4.f _) ?_)
  intro u5 L
  have s5 := L.size
  have r5 := r4.laid L (ws := transC (.slice a4 t.fr.length c4) zSl noExpr zSl) rfl (show 0 + 1 ≤ 7 by decide)
  have p5 := L.other p4 (by omega)
  have q5 := L.other q4 (by omega)
  have O5 := O4.kept fun k h1 h2 => L.block k (by omega)
  have G5 := L.below _ _ (by omega) G4
  clear L r4 p4 q4 G4 O4
  have c1 : u5.cell? ⟨w.heap.size, 1, none⟩ = some (.slice ay t.to.length cy) := p5.c 1 _ rfl
  go_wp2_with fail
  clear c1
  refine (toIntS_any _ lo hi _ t.to (HW.out.to.below G5 hhi) (by omega) hm2).mono ?_
  rintro e6 u6 ⟨v6, rfl, O6, g6⟩
  have s6 := g6.size
  obtain ⟨a6, c6, rfl⟩ := O6.shape
  have p6 := p5.below g6 (by omega)
  have q6 := q5.below g6 (by omega)
  have r6 := r5.below g6 (by omega)
  replace O5 := O5.below g6 (by omega)
  have G6 := G5.trans (g6.mono (by omega))
  clear g6 p5 q5 r5 G5
  go_wp2_with (refine wpList_store1G Tryz.sizeOf49 _ _ rfl rfl rfl rfl rfl rfl (r6.one (show 1 < 7 by decide)) (r6.f _) ?_)
  intro u7 L
  have s7 := L.size
  have r7 := r6.laid L (ws := transC (.slice a4 t.fr.length c4) (.slice a6 t.to.length c6) noExpr zSl) rfl (show 1 + 1 ≤ 7 by decide)
  have p7 := L.other p6 (by omega)
  have q7 := L.other q6 (by omega)
  have O7 := O5.kept fun k h1 h2 => L.block k (by omega)
  have O7' := O6.kept fun k h1 h2 => L.block k (by omega)
  have G7 := L.below _ _ (by omega) G6
  clear L r6 p6 q6 G6 O5 O6
  have hc : CV u7 w.heap.size 2 (exprC t.e (.slice az t.e.kids.length cz)) := p7.c.part 2 5
  go_wp2_with (refine wpList_loadG Tryz.isAgg104 Tryz.sizeOf104 _ rfl rfl rfl rfl hc ?_)
  clear hc
  refine (toExpr_any _ lo hi _ t.e ⟨_, rfl, HW.out.e.under G7 hhi⟩ (by omega) hm3).mono ?_
  rintro e8 u8 ⟨v8, rfl, ⟨z8, rfl, O8⟩, g8⟩
  have s8 := g8.size
  obtain ⟨a8, c8, rfl, _, _⟩ := O8.kr.shape
  have q8 := q7.below g8 (by omega)
  have r8 := r7.below g8 (by omega)
  replace O7 := O7.below g8 (by omega)
  replace O7' := O7'.below g8 (by omega)
  have G8 := G7.trans (g8.mono (by omega))
  clear g8 p7 q7 r7 G7
  have hr := r8.run 2 5 (show 2 + 5 ≤ 7 by decide)
  go_wp2_with (refine wpList_storeG Tryz.sizeOf121 _ _ rfl rfl rfl (vs := exprC t.e (.slice a8 t.e.kids.length c8)) rfl rfl (exprC_one t.e rfl) hr.1 hr.2 ?_)
  intro u9 L
  have s9 := L.size
  have r9 := r8.laid L (ws := transC (.slice a4 t.fr.length c4) (.slice a6 t.to.length c6) t.e (.slice a8 t.e.kids.length c8)) rfl (show 2 + 5 ≤ 7 by decide)
  have q9 := L.other q8 (by omega)
  have A9 := O7.kept fun k h1 h2 => L.block k (by omega)
  have B9 := O7'.kept fun k h1 h2 => L.block k (by omega)
  have D9 := O8.kept fun k h1 h2 => L.block k (by omega)
  have G9 := L.below _ _ (by omega) G8
  clear L r8 q8 G8 O7 O7' O8 hr
  have hr := q9.run 0 7 (show 0 + 7 ≤ 7 by decide)
  go_wp2_with (first
    | refine wpList_loadG Tryz.isAgg209 Tryz.sizeOf209 _ rfl rfl rfl rfl r9.c ?_
    | refine wpList_storeG Tryz.sizeOf209 _ _ rfl rfl rfl rfl rfl (transC_one t.e rfl rfl rfl) hr.1 hr.2 ?_)
  intro u10 L
  have s10 := L.size
  have q10 := L.var q9
  have A10 := A9.kept fun k h1 h2 => L.block k (by omega)
  have B10 := B9.kept fun k h1 h2 => L.block k (by omega)
  have D10 := D9.kept fun k h1 h2 => L.block k (by omega)
  have G10 := L.below _ _ (by omega) G9
  clear L r9 q9 G9 A9 B9 D9 hr
  go_wp2
  refine bodyPost_ret (v := .agg (transC (.slice a4 t.fr.length c4) (.slice a6 t.to.length c6) t.e (.slice a8 t.e.kids.length c8)).toArray) ?_ rfl ⟨_, _, _, u5.heap.size, u7.heap.size, rfl, ⟨A10.wide (by omega) (by omega), B10.wide (by omega) (by omega), D10.wide (by omega) (by omega), by omega⟩, G10⟩
  simp [results, Tryz.results144]
  exact run_loadVarG (P := Tryz.prog) Tryz.isAgg209 Tryz.sizeOf209 rfl q10.c

/-- What holds as a copy has put j of the ways into the block g. -/
structure ToTc (w : World) (g : Nat) (ts : List TransD) (j : Nat) (wr : World) : Prop where
  below : Below g w wr
  size : g < wr.heap.size
  some_ : ∀ x, x < ts.length * 7 → (wr.cell? ⟨g, x, none⟩).isSome = true
  frozen : ∀ x, wr.frozen? ⟨g, x, none⟩ = false
  done : ∃ (xs ys ss : Nat → Value) (l m n h : Nat → Nat), (∀ (i : Nat) (t : TransD), i < j → ts[i]? = some t → CV wr g (i * 7) (transC (xs i) (ys i) t.e (ss i)) ∧ WayO wr (l i) (m i) (n i) (h i) (xs i) (ys i) (ss i) t) ∧
    (∀ i, i < j → g < l i ∧ h i ≤ wr.heap.size) ∧ ∀ (i i' : Nat), i < i' → i' < j → h i ≤ l i'

theorem toT_start {w w1 : World} {T : TypeId} {ts : List TransD} {z : List Value} (hown : w1.ownsRow w.heap.size T 7 (.slice (some ⟨w.heap.size, 0, none⟩) ts.length ts.length) ts.length z) (hgrow : w.grownBy w1 none) : ToTc w w.heap.size ts 0 w1 := by
  refine ⟨(Below.refl _ _).grown hgrow (Nat.le_refl _) (fun k h => by cases h), hown.2.elim (fun h => by simp at h) fun ⟨g, cap, cur, hv, hg, hh, _⟩ => ?_, fun x hx => ?_, fun x => hown.frozenAt x, fun _ => zSl, fun _ => zSl, fun _ => zSl, fun _ => 0, fun _ => 0, fun _ => 0, fun _ => 0, fun i p hi => by omega, fun i hi => by omega, fun i i' h1 h2 => by omega⟩
  · simp only [Value.slice.injEq, Option.some.injEq, Addr.mk.injEq, and_true, true_and] at hv
    obtain ⟨rfl, _⟩ := hv
    exact (Array.getElem?_eq_some_iff.mp hh).1
  · rw [hown.cellAt x hx]
    have hl := hown.1
    rw [List.getElem?_eq_getElem (by omega)]
    rfl

theorem ToTc.stores {w wr w2 : World} {g : Nat} {ts : List TransD} {j : Nat} (h : ToTc w g ts j wr) (hb : Below wr.heap.size wr w2) (hj : j < ts.length) : (∀ y, j * 7 ≤ y → y < j * 7 + 7 → (w2.cell? ⟨g, y, none⟩).isSome = true) ∧ ∀ y, j * 7 ≤ y → y < j * 7 + 7 → w2.frozen? ⟨g, y, none⟩ = false :=
  ⟨fun y h1 h2 => by rw [hb.cell (p := ⟨g, y, none⟩) h.size]; exact h.some_ y (by omega), fun y h1 h2 => by rw [hb.frozen (p := ⟨g, y, none⟩) h.size]; exact h.frozen y⟩

theorem ToTc.next {w wr w2 u : World} {g : Nat} {ts : List TransD} {j : Nat} {t : TransD} {x y s : Value} {m0 n0 : Nat} (h : ToTc w g ts j wr) (he : ts[j]? = some t) (hb : Below wr.heap.size wr w2) (ho : WayO w2 wr.heap.size m0 n0 w2.heap.size x y s t) (hL : LaidG w2 u g (j * 7) (transC x y t.e s)) : ToTc w g ts (j + 1) u := by
  obtain ⟨hb0, hs, hsm, hfr, xs, ys, ss, l, m, n, hh, h1, h2, h3⟩ := h
  have hs1 := hb.size
  have hz := hL.size
  have hlen : (transC x y t.e s).length = 7 := rfl
  have hcell : ∀ q, w2.cell? ⟨g, q, none⟩ = wr.cell? ⟨g, q, none⟩ := fun q => hb.cell (p := ⟨g, q, none⟩) hs
  refine ⟨hL.below _ _ (Nat.le_refl _) (hb0.trans (hb.mono (by omega))), by omega, fun q hq => ?_, fun q => ?_,
    fun i => if i = j then x else xs i, fun i => if i = j then y else ys i, fun i => if i = j then s else ss i, fun i => if i = j then wr.heap.size else l i, fun i => if i = j then m0 else m i, fun i => if i = j then n0 else n i, fun i => if i = j then w2.heap.size else hh i, fun i e' hi hie => ?_, fun i hi => ?_, fun i i' hi hi' => ?_⟩
  · by_cases hin : j * 7 ≤ q ∧ q < j * 7 + 7
    · exact hL.cv.some_ hin.1 (by omega)
    · rw [hL.cell _ _ (by omega), hcell]; exact hsm q hq
  · rw [hL.frozen, hb.frozen (p := ⟨g, q, none⟩) hs]; exact hfr q
  · by_cases ej : i = j
    · subst ej
      rw [he] at hie
      cases hie
      simp only [if_pos]
      exact ⟨hL.cv, ho.kept fun k q1 q2 => hL.block k (by omega)⟩
    · obtain ⟨hc, hw⟩ := h1 i e' (by omega) hie
      have hi2 := h2 i (by omega)
      simp only [if_neg ej]
      refine ⟨?_, hw.kept fun k q1 q2 => by rw [hL.block k (by omega)]; exact hb.block k (by omega)⟩
      intro q v hq
      have hql : q < 7 := (List.getElem?_eq_some_iff.mp hq).1
      rw [hL.cell _ _ (by omega), hcell]
      exact hc q v hq
  · by_cases ej : i = j
    · simp only [if_pos ej]; exact ⟨by omega, by omega⟩
    · have := h2 i (by omega)
      simp only [if_neg ej]; omega
  · by_cases ej : i' = j
    · have := h2 i (by omega)
      show (if i = j then w2.heap.size else hh i) ≤ (if i' = j then wr.heap.size else l i')
      rw [if_neg (by omega), if_pos ej]; omega
    · show (if i = j then w2.heap.size else hh i) ≤ (if i' = j then wr.heap.size else l i')
      rw [if_neg (by omega), if_neg ej]; exact h3 i i' hi (by omega)

theorem ToTc.to {w wr : World} {g : Nat} {ts : List TransD} (h : ToTc w g ts ts.length wr) (hm : ts.length ≤ maxLen) : TO wr g wr.heap.size (.slice (some ⟨g, 0, none⟩) ts.length ts.length) ts := by
  obtain ⟨hb0, hs, hsm, hfr, xs, ys, ss, l, m, n, hh, h1, h2, h3⟩ := h
  refine .inr ⟨_, 0, _, xs, ys, ss, l, m, n, hh, rfl, Nat.le_refl _, hm, Nat.le_refl _, hs, fun i t ht => ?_, fun i hi => h2 i hi, fun i i' hi hi' => h3 i i' hi hi', fun o => by rw [Nat.zero_add]; exact hfr o⟩
  rw [Nat.zero_add]
  exact h1 i t (List.getElem?_eq_some_iff.mp ht).1 ht

set_option maxHeartbeats 4000000 in
theorem toTransS_any (w : World) (lo hi : Nat) (v : Value) (ps : List TransD) (h : TR w lo hi v ps) (hhi : hi ≤ w.heap.size) (hm : manyT ps ≤ 1048576) :
    Calls Tryz.prog 64 #[v] w fun e w' => ∃ v', e = .returned v' ∧ TO w' w.heap.size w'.heap.size v' ps ∧ Below w.heap.size w w' := by
  obtain ⟨ad, cap, rfl, hc1, hc2⟩ := h.shape
  obtain ⟨i0, hi0, hz0, hz1, hz2⟩ := info_parts info_trans
  have hlm := length_le_manyT ps
  have hm' : ps.length ≤ 1048576 := by omega
  have HM : Hid (manyT ps ≤ 1048576) := hm
  have HK : Hid (TR w lo hi (.slice ad ps.length cap) ps) := h
  clear h hc1 hc2 hlm hm
  go_enter Tryz.func64, Tryz.ntmps64
  go_wp2_with (at_make; refine wpList_make_full _ rfl _ _ 39 rfl w.heap.size 209 i0 (.agg (transC zSl zSl noExpr zSl).toArray) 7 Tryz.underlying39 hi0 hz0 hz1 .i64 .i64 _ _ ps.length rfl rfl rfl rfl (by rw [hz2]; omega) (by unfold maxLen; omega) (Nat.le_refl _) ?_; intro w1 hown hgrow)
  have hI : ToTc w w.heap.size ps 0 w1 := toT_start hown hgrow
  clear hown hgrow hz0 hz1 hz2 hi0
  go_loopw [4] (fun i wr => ∃ j : Nat, j ≤ ps.length ∧ i = .int .i64 j ∧ ToTc w w.heap.size ps j wr) (fun i _ => ps.length - (intOf i).toNat)
  case atStart => exact ⟨0, Nat.zero_le _, rfl, hI⟩
  case round =>
    clear hI
    obtain ⟨j, hj, rfl, hI⟩ := hrel
    by_cases hlt : j < ps.length
    · obtain ⟨t, he⟩ : ∃ p, ps[j]? = some p := ⟨ps[j], List.getElem?_eq_getElem hlt⟩
      obtain ⟨b, off, cap', x, y, s, hv, hb1, hb2, h5, hk⟩ := HK.out.at_ he
      simp only [Value.slice.injEq, true_and] at hv
      obtain ⟨rfl, rfl⟩ := hv
      have hb := hI.below
      have hc : CV wr b (off + j * 7) (transC x y t.e s) := h5.kept (hb.block b (by omega))
      have hz := toTrans_any wr lo hi x y s t (hk.under hb hhi) (by have := hb.size; omega) (by have := many_le_manyT he; have := HM.out; omega)
      have HIc : Hid (ToTc w w.heap.size ps j wr) := hI
      have HE : Hid (ps[j]? = some t) := he
      clear hI hb he h5 hk
      go_wp2_with (refine wpList_loadG Tryz.isAgg203 Tryz.sizeOf203 _ rfl rfl rfl rfl hc ?_)
      refine hz.mono ?_
      rintro e1 w2 ⟨x', y', s', m0, n0, rfl, ho, g2⟩
      obtain ⟨hs, hf⟩ := HIc.out.stores g2 hlt
      obtain ⟨ax, cx, ay, cy, az, cz, rfl, rfl, rfl⟩ := ho.r.shape
      have HOc : Hid (WayO w2 wr.heap.size m0 n0 w2.heap.size (.slice ax t.fr.length cx) (.slice ay t.to.length cy) (.slice az t.e.kids.length cz) t) := ho
      clear hc hz ho
      go_wp2_with (refine wpList_storeG Tryz.sizeOf209 _ _ rfl rfl rfl rfl rfl (transC_one t.e rfl rfl rfl) hs hf ?_)
      intro u L
      have HN : Hid (ToTc w w.heap.size ps (j + 1) u) := HIc.out.next HE.out g2 HOc.out L
      clear hs hf L g2
      go_wp2
      go_roundw
      case rel => exact ⟨j + 1, by omega, by go_num, HN.out⟩
      case measure => simp [intOf]; omega
    · obtain rfl : j = ps.length := by omega
      have HIc : Hid (ToTc w w.heap.size ps ps.length wr) := hI
      clear hI
      go_wp2
      go_ret
      exact ⟨_, rfl, HIc.out.to (by unfold maxLen; omega), HIc.out.below⟩

theorem info_act : (Tryz.prog.info? 223).map (fun i => (i.zero, i.size, i.bytes)) = some (some (.agg (actC ⟨0, 0, 0, 0⟩).toArray), 4, 32) := by kernel_rfl
set_option maxHeartbeats 4000000 in
theorem toAct_any (w : World) (s : ActD) :
    Calls Tryz.prog 145 #[.agg (actC s).toArray] w fun e w' => e = .returned (.agg (actC s).toArray) ∧ Below w.heap.size w w' := by
  obtain ⟨k, st, ak, aat⟩ := s
  unfold actC
  go_enter Tryz.func145, Tryz.ntmps145
  go_wp2
  refine bodyPost_ret (v := .agg #[.int .i64 ak, .int .i64 aat]) (by simp [results, Tryz.results140, go_sem]) rfl ?_
  go_wp2
  refine bodyPost_ret (v := .agg #[.int .i64 k, .int .i64 st, .int .i64 ak, .int .i64 aat]) (by simp [results, Tryz.results145, go_sem]) rfl ⟨rfl, ?_⟩
  repeat' first
    | exact Below.refl _ _
    | refine Below.alloc ?_ ?_ _
    | refine Below.setCell ?_ ?_ _
  all_goals simp
  all_goals omega

set_option maxHeartbeats 2000000 in
theorem toActS_any (w : World) (lo hi : Nat) (v : Value) (ps : List ActD) (h : GR actE w lo hi v ps) (hhi : hi ≤ w.heap.size) (hm : ps.length ≤ 1048576) :
    Calls Tryz.prog 65 #[v] w fun e w' => ∃ v', e = .returned v' ∧ GO actE w' w.heap.size w'.heap.size v' ps ∧ Below w.heap.size w w' := by
  obtain ⟨ad, cap, rfl, hc1, hc2⟩ := h.shape
  obtain ⟨i0, hi0, hz0, hz1, hz2⟩ := info_parts info_act
  have HK : Hid (GR actE w lo hi (.slice ad ps.length cap) ps) := h
  clear h hc1 hc2
  go_enter Tryz.func65, Tryz.ntmps65
  go_wp2_with (at_make; refine wpList_make_full _ rfl _ _ 40 rfl w.heap.size 223 i0 (.agg (actC ⟨0, 0, 0, 0⟩).toArray) 4 Tryz.underlying40 hi0 hz0 hz1 .i64 .i64 _ _ ps.length rfl rfl rfl rfl (by rw [hz2]; omega) (by unfold maxLen; omega) (Nat.le_refl _) ?_; intro w1 hown hgrow)
  have hI : ToG actE w w.heap.size ps 0 w1 := toG_start (E := actE) hown hgrow
  clear hown hgrow hz0 hz1 hz2 hi0
  go_loopw [4] (fun i wr => ∃ j : Nat, j ≤ ps.length ∧ i = .int .i64 j ∧ ToG actE w w.heap.size ps j wr) (fun i _ => ps.length - (intOf i).toNat)
  case atStart => exact ⟨0, Nat.zero_le _, rfl, hI⟩
  case round =>
    clear hI
    obtain ⟨j, hj, rfl, hI⟩ := hrel
    by_cases hlt : j < ps.length
    · obtain ⟨p, he⟩ : ∃ p, ps[j]? = some p := ⟨ps[j], List.getElem?_eq_getElem hlt⟩
      obtain ⟨b, off, cap', hv, hb1, hb2, h5⟩ := HK.out.at_ he
      simp only [Value.slice.injEq, true_and] at hv
      obtain ⟨rfl, rfl⟩ := hv
      have hb := hI.below
      have hc : CV wr b (off + j * 4) (actC p) := h5.kept (hb.block b (by omega))
      have hz := toAct_any wr p
      have HIc : Hid (ToG actE w w.heap.size ps j wr) := hI
      have HE : Hid (ps[j]? = some p) := he
      clear hI hb he h5
      go_wp2_with (refine wpList_loadG Tryz.isAgg226 Tryz.sizeOf226 _ rfl rfl rfl rfl hc ?_)
      refine hz.mono ?_
      rintro e1 w2 ⟨rfl, g2⟩
      obtain ⟨hs, hf⟩ := HIc.out.stores g2 hlt p
      have hs : ∀ y, j * 4 ≤ y → y < j * 4 + (actC p).length → (w2.cell? ⟨w.heap.size, y, none⟩).isSome = true := hs
      have hf : ∀ y, j * 4 ≤ y → y < j * 4 + (actC p).length → w2.frozen? ⟨w.heap.size, y, none⟩ = false := hf
      clear hc hz
      go_wp2_with (refine wpList_storeG Tryz.sizeOf223 _ _ rfl rfl rfl rfl rfl (actC_one p) hs hf ?_)
      intro u L
      have HN : Hid (ToG actE w w.heap.size ps (j + 1) u) := HIc.out.next HE.out g2 L
      clear hs hf L g2
      go_wp2
      go_roundw
      case rel => exact ⟨j + 1, by omega, by go_num, HN.out⟩
      case measure => simp [intOf]; omega
    · obtain rfl : j = ps.length := by omega
      have HIc : Hid (ToG actE w w.heap.size ps ps.length wr) := hI
      clear hI
      go_wp2
      go_ret
      exact ⟨_, rfl, HIc.out.go (by unfold maxLen; omega), HIc.out.below⟩

def chartC (k : Int) (x y : Value) : List Value := [.int .i64 k, x, y]
theorem chartC_one (k : Int) {x y : Value} (hx : x.oneCell' = true) (hy : y.oneCell' = true) : ∀ v ∈ chartC k x y, v.oneCell' = true := by
  intro v hv; simp only [chartC, List.mem_cons, List.not_mem_nil, or_false] at hv
  rcases hv with rfl | rfl | rfl <;> first | rfl | exact hx | exact hy
theorem zero_chart : (Tryz.prog.info? 42).map (fun i => (i.zero, i.size)) = some (some (.agg (chartC 0 zSl zSl).toArray), 3) := by kernel_rfl

set_option maxHeartbeats 8000000 in
theorem toChart_any (w : World) (lo hi : Nat) (v : Value) (c : ChartD) (h : HIc w lo hi v c) (hhi : hi ≤ w.heap.size) (hm : c.many ≤ 1048576) :
    Calls Tryz.prog 14 #[v] w fun e w' => ∃ v', e = .returned v' ∧ HOc w' w.heap.size w'.heap.size v' c ∧ Below w.heap.size w w' := by
  have hZ := (zero_of_info (P := Tryz.prog) zero_chart).1
  obtain ⟨va, vb, rfl, hA, hB⟩ := h
  obtain ⟨ad, cap, rfl, _, _⟩ := hA.shape
  obtain ⟨ad', cap', rfl, _, _⟩ := hB.shape
  have HA : Hid (TR w lo hi (.slice ad c.ts.length cap) c.ts ∧ GR actE w lo hi (.slice ad' c.acts.length cap') c.acts) := ⟨hA, hB⟩
  clear hA hB
  unfold ChartD.many at hm
  have hm1 : manyT c.ts ≤ 1048576 := by omega
  have hm2 : c.acts.length ≤ 1048576 := by omega
  clear hm
  go_enter Tryz.func14, Tryz.ntmps14
  go_wp2_with (refine wpList_boxG (vs := chartC c.steps (.slice ad c.ts.length cap) (.slice ad' c.acts.length cap')) rfl _ rfl rfl ?_)
  intro u1 g1 p1 s1
  go_wp2_with (refine wpList_allocG hZ rfl rfl ?_)
  intro u2 g2 q2 s2
  replace p1 := p1.below g2 (by omega)
  have G2 := g1.trans (g2.mono (by omega))
  clear g1 g2
  go_wp2_with (refine wpList_allocG hZ rfl rfl ?_)
  intro u3 g3 r3 s3
  have p3 := p1.below g3 (by omega)
  have q3 := q2.below g3 (by omega)
  have G3 := G2.trans (g3.mono (by omega))
  clear g3 G2 p1 q2
  have c0 : u3.cell? ⟨w.heap.size, 0, none⟩ = some (.int .i64 c.steps) := p3.c 0 _ rfl
  go_wp2_with (refine wpList_store1G Tryz.sizeOf3 _ _ rfl rfl rfl rfl rfl rfl (r3.one (show 0 < 3 by decide)) (r3.f _) ?_)
  intro u3b L
  have s3b := L.size
  have r3b := r3.laid L (ws := chartC c.steps zSl zSl) rfl (show 0 + 1 ≤ 3 by decide)
  have p3b := L.other p3 (by omega)
  have q3b := L.other q3 (by omega)
  have G3b := L.below _ _ (by omega) G3
  clear L r3 p3 q3 G3 c0
  have c1 : u3b.cell? ⟨w.heap.size, 1, none⟩ = some (.slice ad c.ts.length cap) := p3b.c 1 _ rfl
  go_wp2_with fail
  clear c1
  refine (toTransS_any _ lo hi _ c.ts (HA.out.1.under G3b hhi) (by omega) hm1).mono ?_
  rintro e4 u4 ⟨v4, rfl, O4, g4⟩
  have s4 := g4.size
  obtain ⟨ad4, cap4, rfl, _, _⟩ := O4.tr.shape
  have p4 := p3b.below g4 (by omega)
  have q4 := q3b.below g4 (by omega)
  have r4 := r3b.below g4 (by omega)
  have G4 := G3b.trans (g4.mono (by omega))
  clear g4 p3b q3b r3b G3b
  go_wp2_with (refine wpList_store1G Tryz.sizeOf39 _ _ rfl rfl rfl rfl rfl rfl (r4.one (show 1 < 3 by decide)) (r4.f _) ?_)
  intro u5 L
  have s5 := L.size
  have r5 := r4.laid L (ws := chartC c.steps (.slice ad4 c.ts.length cap4) zSl) rfl (show 1 + 1 ≤ 3 by decide)
  have p5 := L.other p4 (by omega)
  have q5 := L.other q4 (by omega)
  have O5 := O4.kept fun k h1 h2 => L.block k (by omega)
  have G5 := L.below _ _ (by omega) G4
  clear L r4 p4 q4 G4 O4
  have c2 : u5.cell? ⟨w.heap.size, 2, none⟩ = some (.slice ad' c.acts.length cap') := p5.c 2 _ rfl
  go_wp2_with fail
  clear c2
  refine (toActS_any _ lo hi _ c.acts (HA.out.2.under G5 hhi) (by omega) hm2).mono ?_
  rintro e6 u6 ⟨v6, rfl, O6, g6⟩
  have s6 := g6.size
  obtain ⟨ad6, cap6, rfl, _, _⟩ := O6.gr.shape
  have q6 := q5.below g6 (by omega)
  have r6 := r5.below g6 (by omega)
  replace O5 := O5.under g6 (by omega)
  have G6 := G5.trans (g6.mono (by omega))
  clear g6 p5 q5 r5 G5
  go_wp2_with (refine wpList_store1G Tryz.sizeOf40 _ _ rfl rfl rfl rfl rfl rfl (r6.one (show 2 < 3 by decide)) (r6.f _) ?_)
  intro u7 L
  have s7 := L.size
  have r7 := r6.laid L (ws := chartC c.steps (.slice ad4 c.ts.length cap4) (.slice ad6 c.acts.length cap6)) rfl (show 2 + 1 ≤ 3 by decide)
  have q7 := L.other q6 (by omega)
  have O7 := O5.kept fun k h1 h2 => L.block k (by omega)
  have O7' := O6.kept fun k h1 h2 => L.block k (by omega)
  have G7 := L.below _ _ (by omega) G6
  clear L r6 q6 G6 O5 O6
  have hr := q7.run 0 3 (show 0 + 3 ≤ 3 by decide)
  go_wp2_with (first
    | refine wpList_loadG Tryz.isAgg42 Tryz.sizeOf42 _ rfl rfl rfl rfl r7.c ?_
    | refine wpList_storeG Tryz.sizeOf42 _ _ rfl rfl rfl rfl rfl (chartC_one _ rfl rfl) hr.1 hr.2 ?_)
  intro u8 L
  have s8 := L.size
  have q8 := L.var q7
  have O8 := O7.kept fun k h1 h2 => L.block k (by omega)
  have O8' := O7'.kept fun k h1 h2 => L.block k (by omega)
  have G8 := L.below _ _ (by omega) G7
  clear L r7 q7 G7 O7 O7' hr
  go_wp2
  refine bodyPost_ret (v := .agg (chartC c.steps (.slice ad4 c.ts.length cap4) (.slice ad6 c.acts.length cap6)).toArray) ?_ rfl ⟨_, rfl, ⟨_, _, u4.heap.size, rfl, O8.wide (by omega) (by omega), O8'.wide (by omega) (by omega), by omega, by omega⟩, G8⟩
  simp [results, Tryz.results14]
  exact run_loadVarG (P := Tryz.prog) Tryz.isAgg42 Tryz.sizeOf42 rfl q8.c
end Go.Proofs.YtaoiookfmgpmkaaGreatDoor
