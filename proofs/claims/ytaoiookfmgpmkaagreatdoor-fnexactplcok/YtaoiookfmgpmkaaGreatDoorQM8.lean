import Derived.Test.YtaoiookfmgpmkaaGreatDoorQM1
import Derived.Test.YtaoiookfmgpmkaaGreatDoorQM4
import Derived.Test.YtaoiookfmgpmkaaGreatDoorQM5
import Derived.Test.YtaoiookfmgpmkaaGreatDoorQM6
import Derived.Test.YtaoiookfmgpmkaaGreatDoorQM2

/-
 szTrans, szTransS, szActS, szChart: the laws' helpers that count.
-/
namespace Go.Proofs.YtaoiookfmgpmkaaGreatDoor
open Go.ChangeShapes Go.WideShapes Go.ChangeAt Go.RowKit
set_option linter.unusedVariables false
set_option linter.unusedSimpArgs false
set_option maxRecDepth 100000

set_option maxHeartbeats 4000000 in
theorem szTrans_any (w : World) (lo hi : Nat) (x y s : Value) (t : TransD) (left : Int) (h : WayR w lo hi x y s t) (hhi : hi ≤ w.heap.size) (hl : 0 ≤ left) (hl' : left ≤ 1048576) :
  Calls Tryz.prog 134 #[.agg (transC x y t.e s).toArray, .int .i64 left] w fun e w' => e = .returned (.int .i64 (if left < t.many then -1 else left - t.many)) ∧ Below w.heap.size w w' := by
 obtain ⟨r, hr⟩ : ∃ r : Int, (if left < (t.many : Int) then -1 else left - (t.many : Int)) = r := ⟨_, rfl⟩
 rw [hr]
 have HM : t.many = t.fr.length + t.to.length + manyL t.e.kids := rfl
 rw [HM] at hr
 have HR : Hid ((if left < ((t.fr.length + t.to.length + manyL t.e.kids : Nat) : Int) then -1 else left - ((t.fr.length + t.to.length + manyL t.e.kids : Nat) : Int)) = r) := hr
 clear hr HM
 obtain ⟨ax, cx, ay, cy, az, cz, rfl, rfl, rfl⟩ := h.shape
 have HW : Hid (WayR w lo hi (.slice ax t.fr.length cx) (.slice ay t.to.length cy) (.slice az t.e.kids.length cz) t) := h
 clear h
 go_enter Tryz.func134, Tryz.ntmps134
 go_wp2_with (refine wpList_boxG (vs := transC (.slice ax t.fr.length cx) (.slice ay t.to.length cy) t.e (.slice az t.e.kids.length cz)) rfl _ rfl rfl ?_)
 intro u1 g1 p1 s1
 have c0 : u1.cell? ⟨w.heap.size, 0, none⟩ = some (.slice ax t.fr.length cx) := p1.c 0 _ rfl
 go_wp2_with fail
 clear c0
 refine (szIntS_any _ lo hi _ t.fr left (HW.out.fr.below g1 hhi) hl hl').mono ?_
 by_cases q1 : left < (t.fr.length : Int)
 ·rw [if_pos q1]
  rintro e2 u2 ⟨rfl, rfl⟩
  have HF : Hid (r = -1) := by show r = -1; rw [← HR.out, if_pos (by omega)]
  clear HR p1
  go_wp2
  go_ret
  exact ⟨ret_int HF.out.symm, g1⟩
 rw [if_neg q1]
 rintro e2 u2 ⟨rfl, rfl⟩
 obtain ⟨l1, hl1⟩ : ∃ l1 : Int, left - (t.fr.length : Int) = l1 := ⟨_, rfl⟩
 rw [hl1]
 have n1 : ¬ (l1 < 0) := by omega
 have c1 : u2.cell? ⟨w.heap.size, 1, none⟩ = some (.slice ay t.to.length cy) := p1.c 1 _ rfl
 go_wp2_with fail
 clear c1
 refine (szIntS_any _ lo hi _ t.to l1 (HW.out.to.below g1 hhi) (by omega) (by omega)).mono ?_
 by_cases q2 : l1 < (t.to.length : Int)
 ·rw [if_pos q2]
  rintro e3 u3 ⟨rfl, rfl⟩
  have HF : Hid (r = -1) := by show r = -1; rw [← HR.out, if_pos (by omega)]
  clear HR p1
  go_wp2
  go_ret
  exact ⟨ret_int HF.out.symm, g1⟩
 rw [if_neg q2]
 rintro e3 u3 ⟨rfl, rfl⟩
 obtain ⟨l2, hl2⟩ : ∃ l2 : Int, l1 - (t.to.length : Int) = l2 := ⟨_, rfl⟩
 rw [hl2]
 have n2 : ¬ (l2 < 0) := by omega
 have hc : CV u3 w.heap.size 2 (exprC t.e (.slice az t.e.kids.length cz)) := p1.c.part 2 5
 go_wp2_with (refine wpList_loadG Tryz.isAgg104 Tryz.sizeOf104 _ rfl rfl rfl rfl hc ?_)
 clear hc
 refine (szExpr_any _ lo hi _ t.e l2 ⟨_, rfl, HW.out.e.under g1 hhi⟩ (by omega) (by omega) (by omega)).mono ?_
 by_cases q3 : l2 < (manyL t.e.kids : Int)
 ·rw [if_pos q3]
  rintro e4 u4 ⟨rfl, g4⟩
  have G4 := g1.trans (g4.mono (by omega))
  have HF : Hid (r = -1) := by show r = -1; rw [← HR.out, if_pos (by omega)]
  clear HR p1 g4 g1
  go_wp2
  go_ret
  exact ⟨ret_int HF.out.symm, G4⟩
 rw [if_neg q3]
 rintro e4 u4 ⟨rfl, g4⟩
 have G4 := g1.trans (g4.mono (by omega))
 have HF : Hid (l2 - (manyL t.e.kids : Int) = r) := by show _ = r; rw [← HR.out, if_neg (by omega)]; omega
 have n3 : ¬ (l2 - (manyL t.e.kids : Int) < 0) := by omega
 obtain ⟨l3, hl3⟩ : ∃ l3 : Int, l2 - (manyL t.e.kids : Int) = l3 := ⟨_, rfl⟩
 rw [hl3] at HF n3 ⊢
 clear HR p1 g4 g1 hl3
 go_wp2
 go_ret
 exact ⟨ret_int HF.out, G4⟩

set_option maxHeartbeats 4000000 in
theorem szTransS_any (w : World) (lo hi : Nat) (v : Value) (ts : List TransD) (left : Int) (h : TR w lo hi v ts) (hhi : hi ≤ w.heap.size) (h1 : 0 ≤ left) (h2 : left ≤ 1048576) :
  Calls Tryz.prog 52 #[v, .int .i64 left] w fun e w' => e = .returned (.int .i64 (if left < manyT ts then -1 else left - manyT ts)) ∧ Below w.heap.size w w' := by
 obtain ⟨ad, cap, rfl, hc1, hc2⟩ := h.shape
 have hmx : ts.length ≤ 9223372036854775807 := by unfold maxLen at hc2; omega
 have hlm := length_le_manyT ts
 obtain ⟨r, hr0⟩ : ∃ r : Int, (if left < (manyT ts : Int) then -1 else left - (manyT ts : Int)) = r := ⟨_, rfl⟩
 rw [hr0]
 have HA : Hid ((if left < (manyT ts : Int) then -1 else left - (manyT ts : Int)) = r) := hr0
 clear hr0
 have HK : Hid (TR w lo hi (.slice ad ts.length cap) ts) := h
 clear h
 by_cases hl : left - ts.length < 0
 ·obtain rfl : r = -1 := by have := HA.out; rw [if_pos (by omega)] at this; exact this.symm
  clear HA
  go_enter Tryz.func52, Tryz.ntmps52
  go_wp2
  go_ret
  exact ⟨rfl, Below.refl _ _⟩
 ·have HM : Hid (ts.length ≤ manyT ts) := hlm
  clear hlm
  go_enter Tryz.func52, Tryz.ntmps52
  go_wp2_with fail
  go_loopw [1, 5] (fun l i wr => ∃ j : Nat, j ≤ ts.length ∧ l = .int .i64 (left - ts.length - (manyT (ts.take j) - j)) ∧ 0 ≤ left - ts.length - ((manyT (ts.take j) : Int) - j) ∧ i = .int .i64 j ∧ Below w.heap.size w wr) (fun _ i _ => ts.length - (intOf i).toNat)
  case atStart => exact ⟨0, Nat.zero_le _, by simp [manyT], by simp [manyT]; omega, rfl, Below.refl _ _⟩
  case round =>
   obtain ⟨j, hj, rfl, hnn, rfl, hb⟩ := hrel
   by_cases hlt : j < ts.length
   ·obtain ⟨t, he⟩ : ∃ t, ts[j]? = some t := ⟨ts[j], List.getElem?_eq_getElem hlt⟩
    obtain ⟨b, off, cap', x, y, s, hv, hb1, hb2, h5, hk⟩ := HK.out.at_ he
    simp only [Value.slice.injEq, true_and] at hv
    obtain ⟨rfl, rfl⟩ := hv
    have hsuc := manyT_take_succ he
    have hrest := manyT_rest ts (j + 1) hlt
    have htk := take_le_manyT ts j hj
    obtain ⟨q, hq⟩ : ∃ q : Int, left - ts.length - ((manyT (ts.take j) : Int) - j) = q := ⟨_, rfl⟩
    rw [hq] at hnn ⊢
    have hz := szTrans_any wr lo hi x y s t q (hk.under hb hhi) (Nat.le_trans hhi hb.size) hnn (by omega)
    have hc : CV wr b (off + j * 7) (transC x y t.e s) := h5.kept (hb.block b (by omega))
    clear hk h5
    by_cases hr : q < (t.many : Int)
    ·rw [if_pos hr] at hz
     have HR : Hid (left < (manyT ts : Int)) := by show left < (manyT ts : Int); omega
     clear hsuc hrest htk hq
     go_wp2_with (refine wpList_loadG Tryz.isAgg203 Tryz.sizeOf203 _ rfl rfl rfl rfl hc ?_)
     refine hz.mono ?_
     rintro e1 w1 ⟨rfl, g1⟩
     have G1 := hb.trans (g1.mono hb.size)
     clear g1 hc
     go_wp2
     go_ret
     exact ⟨ret_int (by have := HA.out; rw [if_pos HR.out] at this; exact this), G1⟩
    ·rw [if_neg hr] at hz
     have HQ : Hid (q - t.many = left - ts.length - ((manyT (ts.take (j + 1)) : Int) - ((j + 1 : Nat) : Int))) := by show q - (t.many : Int) = _; omega
     have hr' : ¬ (q - (t.many : Int) < 0) := by omega
     clear hsuc hrest htk hq
     go_wp2_with (refine wpList_loadG Tryz.isAgg203 Tryz.sizeOf203 _ rfl rfl rfl rfl hc ?_)
     refine hz.mono ?_
     rintro e1 w1 ⟨rfl, g1⟩
     have G1 := hb.trans (g1.mono hb.size)
     clear g1 hc
     go_wp2
     go_roundw
     case rel => exact ⟨j + 1, by omega, by rw [HQ.out], by rw [← HQ.out]; omega, by go_num, G1⟩
     case measure => simp [intOf]; omega
   ·obtain rfl : j = ts.length := by omega
    rw [List.take_length] at hnn ⊢
    have HR : Hid (left - ts.length - ((manyT ts : Int) - ts.length) = r) := by show _ = _; rw [← HA.out, if_neg (by omega)]; omega
    obtain ⟨q, hq⟩ : ∃ q : Int, left - ts.length - ((manyT ts : Int) - ts.length) = q := ⟨_, rfl⟩
    rw [hq] at HR hnn ⊢
    clear hq
    go_wp2
    go_ret
    exact ⟨ret_int HR.out, hb⟩

theorem szActS_any (w : World) (lo hi : Nat) (v : Value) (ps : List ActD) (left : Int) (h : GR actE w lo hi v ps) (hl : 0 ≤ left) (hl' : left ≤ 1048576) :
  Calls Tryz.prog 53 #[v, .int .i64 left] w fun e w' => e = .returned (.int .i64 (if left < ps.length then -1 else left - ps.length)) ∧ w' = w := by
 obtain ⟨a, cap, rfl, h1, h2⟩ := h.shape
 clear h
 unfold maxLen at h2
 by_cases h : left < ps.length
 ·rw [if_pos h]
  go_enter Tryz.func53, Tryz.ntmps53
  go_wp2
  go_ret
  exact ⟨rfl, rfl⟩
 ·rw [if_neg h]
  go_enter Tryz.func53, Tryz.ntmps53
  go_wp2
  go_ret
  exact ⟨rfl, rfl⟩

set_option maxHeartbeats 4000000 in
theorem szChart_any (w : World) (lo hi : Nat) (v : Value) (c : ChartD) (left : Int) (h : HIc w lo hi v c) (hhi : hi ≤ w.heap.size) (hl : 0 ≤ left) (hl' : left ≤ 1048576) :
  Calls Tryz.prog 10 #[v, .int .i64 left] w fun e w' => e = .returned (.int .i64 (if left < c.many then -1 else left - c.many)) ∧ Below w.heap.size w w' := by
 obtain ⟨r, hr⟩ : ∃ r : Int, (if left < (c.many : Int) then -1 else left - (c.many : Int)) = r := ⟨_, rfl⟩
 rw [hr]
 have HM : c.many = manyT c.ts + c.acts.length := rfl
 rw [HM] at hr
 have HR : Hid ((if left < ((manyT c.ts + c.acts.length : Nat) : Int) then -1 else left - ((manyT c.ts + c.acts.length : Nat) : Int)) = r) := hr
 clear hr HM
 obtain ⟨va, vb, rfl, hA, hB⟩ := h
 obtain ⟨ad, cap, rfl, _, _⟩ := hA.shape
 obtain ⟨ad', cap', rfl, _, _⟩ := hB.shape
 have HW : Hid (TR w lo hi (.slice ad c.ts.length cap) c.ts ∧ GR actE w lo hi (.slice ad' c.acts.length cap') c.acts) := ⟨hA, hB⟩
 clear hA hB
 go_enter Tryz.func10, Tryz.ntmps10
 go_wp2_with (refine wpList_boxG (vs := [.int .i64 c.steps, .slice ad c.ts.length cap, .slice ad' c.acts.length cap']) rfl _ rfl rfl ?_)
 intro u1 g1 p1 s1
 have c0 : u1.cell? ⟨w.heap.size, 1, none⟩ = some (.slice ad c.ts.length cap) := p1.c 1 _ rfl
 go_wp2_with fail
 clear c0
 refine (szTransS_any _ lo hi _ c.ts left (HW.out.1.under g1 hhi) (by omega) hl hl').mono ?_
 by_cases q1 : left < (manyT c.ts : Int)
 ·rw [if_pos q1]
  rintro e2 u2 ⟨rfl, g2⟩
  have G2 := g1.trans (g2.mono (by omega))
  have HF : Hid (r = -1) := by show r = -1; rw [← HR.out, if_pos (by omega)]
  clear HR p1 g1 g2
  go_wp2
  go_ret
  exact ⟨ret_int HF.out.symm, G2⟩
 rw [if_neg q1]
 rintro e2 u2 ⟨rfl, g2⟩
 have G2 := g1.trans (g2.mono (by omega))
 have p2 := p1.below g2 (by omega)
 clear p1 g1 g2
 obtain ⟨l1, hl1⟩ : ∃ l1 : Int, left - (manyT c.ts : Int) = l1 := ⟨_, rfl⟩
 rw [hl1]
 have n1 : ¬ (l1 < 0) := by omega
 have c1 : u2.cell? ⟨w.heap.size, 2, none⟩ = some (.slice ad' c.acts.length cap') := p2.c 2 _ rfl
 go_wp2_with fail
 clear c1
 refine (szActS_any _ lo hi _ c.acts l1 (HW.out.2.under G2 hhi) (by omega) (by omega)).mono ?_
 by_cases q2 : l1 < (c.acts.length : Int)
 ·rw [if_pos q2]
  rintro e3 u3 ⟨rfl, rfl⟩
  have HF : Hid (r = -1) := by show r = -1; rw [← HR.out, if_pos (by omega)]
  clear HR p2
  go_wp2
  go_ret
  exact ⟨ret_int HF.out.symm, G2⟩
 rw [if_neg q2]
 rintro e3 u3 ⟨rfl, rfl⟩
 have HF : Hid (l1 - (c.acts.length : Int) = r) := by show _ = r; rw [← HR.out, if_neg (by omega)]; omega
 have n2 : ¬ (l1 - (c.acts.length : Int) < 0) := by omega
 obtain ⟨l2, hl2⟩ : ∃ l2 : Int, l1 - (c.acts.length : Int) = l2 := ⟨_, rfl⟩
 rw [hl2] at HF n2 ⊢
 clear HR p2 hl2
 go_wp2
 go_ret
 exact ⟨ret_int HF.out, G2⟩
end Go.Proofs.YtaoiookfmgpmkaaGreatDoor

/-
 toTrans, toTransS, toAct, toActS, toChart: the laws' helpers that copy charts into new memory.
-/
namespace Go.Proofs.YtaoiookfmgpmkaaGreatDoor
open Go.ChangeShapes Go.WideShapes Go.ChangeAt Go.RowKit
set_option linter.unusedVariables false
set_option linter.unusedSimpArgs false
set_option maxRecDepth 100000

theorem OI.shape {w : World} {lo hi : Nat} {v : Value} {xs : List Int} (h : OI w lo hi v xs) : ∃ a cap, v = .slice a xs.length cap := by
 obtain ⟨a, cap, hv, _⟩ := h.si; exact ⟨a, cap, hv⟩

def noExpr : ExprD := .mk 0 0 0 0 []
def zSl : Value := .slice none 0 0

theorem zero_trans : (Tryz.prog.info? 209).map (fun i => (i.zero, i.size)) = some (some (.agg (transC zSl zSl noExpr zSl).toArray), 7) := by kernel_rfl
theorem info_trans : (Tryz.prog.info? 209).map (fun i => (i.zero, i.size, i.bytes)) = some (some (.agg (transC zSl zSl noExpr zSl).toArray), 7, 104) := by kernel_rfl

set_option maxHeartbeats 8000000 in
theorem toTrans_any (w : World) (lo hi : Nat) (x y s : Value) (t : TransD) (h : WayR w lo hi x y s t) (hhi : hi ≤ w.heap.size) (hm : t.many ≤ 1048576) :
  Calls Tryz.prog 144 #[.agg (transC x y t.e s).toArray] w fun e w' => ∃ x' y' s' m n, e = .returned (.agg (transC x' y' t.e s').toArray) ∧ WayO w' w.heap.size m n w'.heap.size x' y' s' t ∧ Below w.heap.size w w' := by
 have hZ := (zero_of_info (P := Tryz.prog) zero_trans).1
 unfold TransD.many at hm
 have hm1 : t.fr.length ≤ 1048576 := by omega
 have hm2 : t.to.length ≤ 1048576 := by omega
 have hm3 : manyL t.e.kids ≤ 1048576 := by omega
 clear hm
 obtain ⟨ax, cx, ay, cy, az, cz, rfl, rfl, rfl⟩ := h.shape
 have HW : Hid (WayR w lo hi (.slice ax t.fr.length cx) (.slice ay t.to.length cy) (.slice az t.e.kids.length cz) t) := h
 clear h
 go_enter Tryz.func144, Tryz.ntmps144
 go_wp2_with (refine wpList_boxG (vs := transC (.slice ax t.fr.length cx) (.slice ay t.to.length cy) t.e (.slice az t.e.kids.length cz)) rfl _ rfl rfl ?_)
 intro u1 g1 p1 s1
 go_wp2_with (refine wpList_allocG hZ rfl rfl ?_)
 intro u2 g2 q2 s2
 replace p1 := p1.below g2 (by omega)
 have G2 := g1.trans (g2.mono (by omega))
 clear g1 g2
 go_wp2_with (refine wpList_allocG hZ rfl rfl ?_)
 intro u3 g3 r3 s3
 have p3 := p1.below g3 (by omega)
 have q3 := q2.below g3 (by omega)
 have G3 := G2.trans (g3.mono (by omega))
 clear g3 G2 p1 q2
 have c0 : u3.cell? ⟨w.heap.size, 0, none⟩ = some (.slice ax t.fr.length cx) := p3.c 0 _ rfl
 go_wp2_with fail
 clear c0
 refine (toIntS_any _ lo hi _ t.fr (HW.out.fr.below G3 hhi) (by omega) hm1).mono ?_
 rintro e4 u4 ⟨v4, rfl, O4, g4⟩
 have s4 := g4.size
 obtain ⟨a4, c4, rfl⟩ := O4.shape
 have p4 := p3.below g4 (by omega)
 have q4 := q3.below g4 (by omega)
 have r4 := r3.below g4 (by omega)
 have G4 := G3.trans (g4.mono (by omega))
 clear g4 p3 q3 r3 G3
 go_wp2_with (refine wpList_store1G Tryz.sizeOf49 _ _ rfl rfl rfl rfl rfl rfl (r4.one (show 0 < 7 by decide)) (r4.f _) ?_)
 intro u5 L
 have s5 := L.size
 have r5 := r4.laid L (ws := transC (.slice a4 t.fr.length c4) zSl noExpr zSl) rfl (show 0 + 1 ≤ 7 by decide)
 have p5 := L.other p4 (by omega)
 have q5 := L.other q4 (by omega)
 have O5 := O4.kept fun k h1 h2 => L.block k (by omega)
 have G5 := L.below _ _ (by omega) G4
 clear L r4 p4 q4 G4 O4
 have c1 : u5.cell? ⟨w.heap.size, 1, none⟩ = some (.slice ay t.to.length cy) := p5.c 1 _ rfl
 go_wp2_with fail
 clear c1
 refine (toIntS_any _ lo hi _ t.to (HW.out.to.below G5 hhi) (by omega) hm2).mono ?_
 rintro e6 u6 ⟨v6, rfl, O6, g6⟩
 have s6 := g6.size
 obtain ⟨a6, c6, rfl⟩ := O6.shape
 have p6 := p5.below g6 (by omega)
 have q6 := q5.below g6 (by omega)
 have r6 := r5.below g6 (by omega)
 replace O5 := O5.below g6 (by omega)
 have G6 := G5.trans (g6.mono (by omega))
 clear g6 p5 q5 r5 G5
 go_wp2_with (refine wpList_store1G Tryz.sizeOf49 _ _ rfl rfl rfl rfl rfl rfl (r6.one (show 1 < 7 by decide)) (r6.f _) ?_)
 intro u7 L
 have s7 := L.size
 have r7 := r6.laid L (ws := transC (.slice a4 t.fr.length c4) (.slice a6 t.to.length c6) noExpr zSl) rfl (show 1 + 1 ≤ 7 by decide)
 have p7 := L.other p6 (by omega)
 have q7 := L.other q6 (by omega)
 have O7 := O5.kept fun k h1 h2 => L.block k (by omega)
 have O7' := O6.kept fun k h1 h2 => L.block k (by omega)
 have G7 := L.below _ _ (by omega) G6
 clear L r6 p6 q6 G6 O5 O6
 have hc : CV u7 w.heap.size 2 (exprC t.e (.slice az t.e.kids.length cz)) := p7.c.part 2 5
 go_wp2_with (refine wpList_loadG Tryz.isAgg104 Tryz.sizeOf104 _ rfl rfl rfl rfl hc ?_)
 clear hc
 refine (toExpr_any _ lo hi _ t.e ⟨_, rfl, HW.out.e.under G7 hhi⟩ (by omega) hm3).mono ?_
 rintro e8 u8 ⟨v8, rfl, ⟨z8, rfl, O8⟩, g8⟩
 have s8 := g8.size
 obtain ⟨a8, c8, rfl, _, _⟩ := O8.kr.shape
 have q8 := q7.below g8 (by omega)
 have r8 := r7.below g8 (by omega)
 replace O7 := O7.below g8 (by omega)
 replace O7' := O7'.below g8 (by omega)
 have G8 := G7.trans (g8.mono (by omega))
 clear g8 p7 q7 r7 G7
 have hr := r8.run 2 5 (show 2 + 5 ≤ 7 by decide)
 go_wp2_with (refine wpList_storeG Tryz.sizeOf121 _ _ rfl rfl rfl (vs := exprC t.e (.slice a8 t.e.kids.length c8)) rfl rfl (exprC_one t.e rfl) hr.1 hr.2 ?_)
 intro u9 L
 have s9 := L.size
 have r9 := r8.laid L (ws := transC (.slice a4 t.fr.length c4) (.slice a6 t.to.length c6) t.e (.slice a8 t.e.kids.length c8)) rfl (show 2 + 5 ≤ 7 by decide)
 have q9 := L.other q8 (by omega)
 have A9 := O7.kept fun k h1 h2 => L.block k (by omega)
 have B9 := O7'.kept fun k h1 h2 => L.block k (by omega)
 have D9 := O8.kept fun k h1 h2 => L.block k (by omega)
 have G9 := L.below _ _ (by omega) G8
 clear L r8 q8 G8 O7 O7' O8 hr
 have hr := q9.run 0 7 (show 0 + 7 ≤ 7 by decide)
 go_wp2_with (first
  | refine wpList_loadG Tryz.isAgg209 Tryz.sizeOf209 _ rfl rfl rfl rfl r9.c ?_
  | refine wpList_storeG Tryz.sizeOf209 _ _ rfl rfl rfl rfl rfl (transC_one t.e rfl rfl rfl) hr.1 hr.2 ?_)
 intro u10 L
 have s10 := L.size
 have q10 := L.var q9
 have A10 := A9.kept fun k h1 h2 => L.block k (by omega)
 have B10 := B9.kept fun k h1 h2 => L.block k (by omega)
 have D10 := D9.kept fun k h1 h2 => L.block k (by omega)
 have G10 := L.below _ _ (by omega) G9
 clear L r9 q9 G9 A9 B9 D9 hr
 go_wp2
 refine bodyPost_ret (v := .agg (transC (.slice a4 t.fr.length c4) (.slice a6 t.to.length c6) t.e (.slice a8 t.e.kids.length c8)).toArray) ?_ rfl ⟨_, _, _, u5.heap.size, u7.heap.size, rfl, ⟨A10.wide (by omega) (by omega), B10.wide (by omega) (by omega), D10.wide (by omega) (by omega), by omega⟩, G10⟩
 simp [results, Tryz.results144]
 exact run_loadVarG (P := Tryz.prog) Tryz.isAgg209 Tryz.sizeOf209 rfl q10.c

structure ToTc (w : World) (g : Nat) (ts : List TransD) (j : Nat) (wr : World) : Prop where
 below : Below g w wr
 size : g < wr.heap.size
 some_ : ∀ x, x < ts.length * 7 → (wr.cell? ⟨g, x, none⟩).isSome = true
 frozen : ∀ x, wr.frozen? ⟨g, x, none⟩ = false
 done : ∃ (xs ys ss : Nat → Value) (l m n h : Nat → Nat), (∀ (i : Nat) (t : TransD), i < j → ts[i]? = some t → CV wr g (i * 7) (transC (xs i) (ys i) t.e (ss i)) ∧ WayO wr (l i) (m i) (n i) (h i) (xs i) (ys i) (ss i) t) ∧
  (∀ i, i < j → g < l i ∧ h i ≤ wr.heap.size) ∧ ∀ (i i' : Nat), i < i' → i' < j → h i ≤ l i'

theorem toT_start {w w1 : World} {T : TypeId} {ts : List TransD} {z : List Value} (hown : w1.ownsRow w.heap.size T 7 (.slice (some ⟨w.heap.size, 0, none⟩) ts.length ts.length) ts.length z) (hgrow : w.grownBy w1 none) : ToTc w w.heap.size ts 0 w1 := by
 refine ⟨(Below.refl _ _).grown hgrow (Nat.le_refl _) (fun k h => by cases h), hown.2.elim (fun h => by simp at h) fun ⟨g, cap, cur, hv, hg, hh, _⟩ => ?_, fun x hx => ?_, fun x => hown.frozenAt x, fun _ => zSl, fun _ => zSl, fun _ => zSl, fun _ => 0, fun _ => 0, fun _ => 0, fun _ => 0, fun i p hi => by omega, fun i hi => by omega, fun i i' h1 h2 => by omega⟩
 ·simp only [Value.slice.injEq, Option.some.injEq, Addr.mk.injEq, and_true, true_and] at hv
  obtain ⟨rfl, _⟩ := hv
  exact (Array.getElem?_eq_some_iff.mp hh).1
 ·rw [hown.cellAt x hx]
  have hl := hown.1
  rw [List.getElem?_eq_getElem (by omega)]
  rfl

theorem ToTc.stores {w wr w2 : World} {g : Nat} {ts : List TransD} {j : Nat} (h : ToTc w g ts j wr) (hb : Below wr.heap.size wr w2) (hj : j < ts.length) : (∀ y, j * 7 ≤ y → y < j * 7 + 7 → (w2.cell? ⟨g, y, none⟩).isSome = true) ∧ ∀ y, j * 7 ≤ y → y < j * 7 + 7 → w2.frozen? ⟨g, y, none⟩ = false :=
 ⟨fun y h1 h2 => by rw [hb.cell (p := ⟨g, y, none⟩) h.size]; exact h.some_ y (by omega), fun y h1 h2 => by rw [hb.frozen (p := ⟨g, y, none⟩) h.size]; exact h.frozen y⟩

theorem ToTc.next {w wr w2 u : World} {g : Nat} {ts : List TransD} {j : Nat} {t : TransD} {x y s : Value} {m0 n0 : Nat} (h : ToTc w g ts j wr) (he : ts[j]? = some t) (hb : Below wr.heap.size wr w2) (ho : WayO w2 wr.heap.size m0 n0 w2.heap.size x y s t) (hL : LaidG w2 u g (j * 7) (transC x y t.e s)) : ToTc w g ts (j + 1) u := by
 obtain ⟨hb0, hs, hsm, hfr, xs, ys, ss, l, m, n, hh, h1, h2, h3⟩ := h
 have hs1 := hb.size
 have hz := hL.size
 have hlen : (transC x y t.e s).length = 7 := rfl
 have hcell : ∀ q, w2.cell? ⟨g, q, none⟩ = wr.cell? ⟨g, q, none⟩ := fun q => hb.cell (p := ⟨g, q, none⟩) hs
 refine ⟨hL.below _ _ (Nat.le_refl _) (hb0.trans (hb.mono (by omega))), by omega, fun q hq => ?_, fun q => ?_,
  fun i => if i = j then x else xs i, fun i => if i = j then y else ys i, fun i => if i = j then s else ss i, fun i => if i = j then wr.heap.size else l i, fun i => if i = j then m0 else m i, fun i => if i = j then n0 else n i, fun i => if i = j then w2.heap.size else hh i, fun i e' hi hie => ?_, fun i hi => ?_, fun i i' hi hi' => ?_⟩
 ·by_cases hin : j * 7 ≤ q ∧ q < j * 7 + 7
  ·exact hL.cv.some_ hin.1 (by omega)
  ·rw [hL.cell _ _ (by omega), hcell]; exact hsm q hq
 ·rw [hL.frozen, hb.frozen (p := ⟨g, q, none⟩) hs]; exact hfr q
 ·by_cases ej : i = j
  ·subst ej
   rw [he] at hie
   cases hie
   simp only [if_pos]
   exact ⟨hL.cv, ho.kept fun k q1 q2 => hL.block k (by omega)⟩
  ·obtain ⟨hc, hw⟩ := h1 i e' (by omega) hie
   have hi2 := h2 i (by omega)
   simp only [if_neg ej]
   refine ⟨?_, hw.kept fun k q1 q2 => by rw [hL.block k (by omega)]; exact hb.block k (by omega)⟩
   intro q v hq
   have hql : q < 7 := (List.getElem?_eq_some_iff.mp hq).1
   rw [hL.cell _ _ (by omega), hcell]
   exact hc q v hq
 ·by_cases ej : i = j
  ·simp only [if_pos ej]; exact ⟨by omega, by omega⟩
  ·have := h2 i (by omega)
   simp only [if_neg ej]; omega
 ·by_cases ej : i' = j
  ·have := h2 i (by omega)
   show (if i = j then w2.heap.size else hh i) ≤ (if i' = j then wr.heap.size else l i')
   rw [if_neg (by omega), if_pos ej]; omega
  ·show (if i = j then w2.heap.size else hh i) ≤ (if i' = j then wr.heap.size else l i')
   rw [if_neg (by omega), if_neg ej]; exact h3 i i' hi (by omega)

theorem ToTc.to {w wr : World} {g : Nat} {ts : List TransD} (h : ToTc w g ts ts.length wr) (hm : ts.length ≤ maxLen) : TO wr g wr.heap.size (.slice (some ⟨g, 0, none⟩) ts.length ts.length) ts := by
 obtain ⟨hb0, hs, hsm, hfr, xs, ys, ss, l, m, n, hh, h1, h2, h3⟩ := h
 refine .inr ⟨_, 0, _, xs, ys, ss, l, m, n, hh, rfl, Nat.le_refl _, hm, Nat.le_refl _, hs, fun i t ht => ?_, fun i hi => h2 i hi, fun i i' hi hi' => h3 i i' hi hi', fun o => by rw [Nat.zero_add]; exact hfr o⟩
 rw [Nat.zero_add]
 exact h1 i t (List.getElem?_eq_some_iff.mp ht).1 ht

set_option maxHeartbeats 4000000 in
theorem toTransS_any (w : World) (lo hi : Nat) (v : Value) (ps : List TransD) (h : TR w lo hi v ps) (hhi : hi ≤ w.heap.size) (hm : manyT ps ≤ 1048576) :
  Calls Tryz.prog 64 #[v] w fun e w' => ∃ v', e = .returned v' ∧ TO w' w.heap.size w'.heap.size v' ps ∧ Below w.heap.size w w' := by
 obtain ⟨ad, cap, rfl, hc1, hc2⟩ := h.shape
 obtain ⟨i0, hi0, hz0, hz1, hz2⟩ := info_parts info_trans
 have hlm := length_le_manyT ps
 have hm' : ps.length ≤ 1048576 := by omega
 have HM : Hid (manyT ps ≤ 1048576) := hm
 have HK : Hid (TR w lo hi (.slice ad ps.length cap) ps) := h
 clear h hc1 hc2 hlm hm
 go_enter Tryz.func64, Tryz.ntmps64
 go_wp2_with (at_make; refine wpList_make_full _ rfl _ _ 39 rfl w.heap.size 209 i0 (.agg (transC zSl zSl noExpr zSl).toArray) 7 Tryz.underlying39 hi0 hz0 hz1 .i64 .i64 _ _ ps.length rfl rfl rfl rfl (by rw [hz2]; omega) (by unfold maxLen; omega) (Nat.le_refl _) ?_; intro w1 hown hgrow)
 have hI : ToTc w w.heap.size ps 0 w1 := toT_start hown hgrow
 clear hown hgrow hz0 hz1 hz2 hi0
 go_loopw [4] (fun i wr => ∃ j : Nat, j ≤ ps.length ∧ i = .int .i64 j ∧ ToTc w w.heap.size ps j wr) (fun i _ => ps.length - (intOf i).toNat)
 case atStart => exact ⟨0, Nat.zero_le _, rfl, hI⟩
 case round =>
  clear hI
  obtain ⟨j, hj, rfl, hI⟩ := hrel
  by_cases hlt : j < ps.length
  ·obtain ⟨t, he⟩ : ∃ p, ps[j]? = some p := ⟨ps[j], List.getElem?_eq_getElem hlt⟩
   obtain ⟨b, off, cap', x, y, s, hv, hb1, hb2, h5, hk⟩ := HK.out.at_ he
   simp only [Value.slice.injEq, true_and] at hv
   obtain ⟨rfl, rfl⟩ := hv
   have hb := hI.below
   have hc : CV wr b (off + j * 7) (transC x y t.e s) := h5.kept (hb.block b (by omega))
   have hz := toTrans_any wr lo hi x y s t (hk.under hb hhi) (by have := hb.size; omega) (by have := many_le_manyT he; have := HM.out; omega)
   have HIc : Hid (ToTc w w.heap.size ps j wr) := hI
   have HE : Hid (ps[j]? = some t) := he
   clear hI hb he h5 hk
   go_wp2_with (refine wpList_loadG Tryz.isAgg203 Tryz.sizeOf203 _ rfl rfl rfl rfl hc ?_)
   refine hz.mono ?_
   rintro e1 w2 ⟨x', y', s', m0, n0, rfl, ho, g2⟩
   obtain ⟨hs, hf⟩ := HIc.out.stores g2 hlt
   obtain ⟨ax, cx, ay, cy, az, cz, rfl, rfl, rfl⟩ := ho.r.shape
   have HOc : Hid (WayO w2 wr.heap.size m0 n0 w2.heap.size (.slice ax t.fr.length cx) (.slice ay t.to.length cy) (.slice az t.e.kids.length cz) t) := ho
   clear hc hz ho
   go_wp2_with (refine wpList_storeG Tryz.sizeOf209 _ _ rfl rfl rfl rfl rfl (transC_one t.e rfl rfl rfl) hs hf ?_)
   intro u L
   have HN : Hid (ToTc w w.heap.size ps (j + 1) u) := HIc.out.next HE.out g2 HOc.out L
   clear hs hf L g2
   go_wp2
   go_roundw
   case rel => exact ⟨j + 1, by omega, by go_num, HN.out⟩
   case measure => simp [intOf]; omega
  ·obtain rfl : j = ps.length := by omega
   have HIc : Hid (ToTc w w.heap.size ps ps.length wr) := hI
   clear hI
   go_wp2
   go_ret
   exact ⟨_, rfl, HIc.out.to (by unfold maxLen; omega), HIc.out.below⟩

theorem info_act : (Tryz.prog.info? 223).map (fun i => (i.zero, i.size, i.bytes)) = some (some (.agg (actC ⟨0, 0, 0, 0⟩).toArray), 4, 32) := by kernel_rfl
set_option maxHeartbeats 4000000 in
theorem toAct_any (w : World) (s : ActD) :
  Calls Tryz.prog 145 #[.agg (actC s).toArray] w fun e w' => e = .returned (.agg (actC s).toArray) ∧ Below w.heap.size w w' := by
 obtain ⟨k, st, ak, aat⟩ := s
 unfold actC
 go_enter Tryz.func145, Tryz.ntmps145
 go_wp2
 refine bodyPost_ret (v := .agg #[.int .i64 ak, .int .i64 aat]) (by simp [results, Tryz.results140, go_sem]) rfl ?_
 go_wp2
 refine bodyPost_ret (v := .agg #[.int .i64 k, .int .i64 st, .int .i64 ak, .int .i64 aat]) (by simp [results, Tryz.results145, go_sem]) rfl ⟨rfl, ?_⟩
 repeat' first
  | exact Below.refl _ _
  | refine Below.alloc ?_ ?_ _
  | refine Below.setCell ?_ ?_ _
 all_goals simp
 all_goals omega

set_option maxHeartbeats 2000000 in
theorem toActS_any (w : World) (lo hi : Nat) (v : Value) (ps : List ActD) (h : GR actE w lo hi v ps) (hhi : hi ≤ w.heap.size) (hm : ps.length ≤ 1048576) :
  Calls Tryz.prog 65 #[v] w fun e w' => ∃ v', e = .returned v' ∧ GO actE w' w.heap.size w'.heap.size v' ps ∧ Below w.heap.size w w' := by
 obtain ⟨ad, cap, rfl, hc1, hc2⟩ := h.shape
 obtain ⟨i0, hi0, hz0, hz1, hz2⟩ := info_parts info_act
 have HK : Hid (GR actE w lo hi (.slice ad ps.length cap) ps) := h
 clear h hc1 hc2
 go_enter Tryz.func65, Tryz.ntmps65
 go_wp2_with (at_make; refine wpList_make_full _ rfl _ _ 40 rfl w.heap.size 223 i0 (.agg (actC ⟨0, 0, 0, 0⟩).toArray) 4 Tryz.underlying40 hi0 hz0 hz1 .i64 .i64 _ _ ps.length rfl rfl rfl rfl (by rw [hz2]; omega) (by unfold maxLen; omega) (Nat.le_refl _) ?_; intro w1 hown hgrow)
 have hI : ToG actE w w.heap.size ps 0 w1 := toG_start (E := actE) hown hgrow
 clear hown hgrow hz0 hz1 hz2 hi0
 go_loopw [4] (fun i wr => ∃ j : Nat, j ≤ ps.length ∧ i = .int .i64 j ∧ ToG actE w w.heap.size ps j wr) (fun i _ => ps.length - (intOf i).toNat)
 case atStart => exact ⟨0, Nat.zero_le _, rfl, hI⟩
 case round =>
  clear hI
  obtain ⟨j, hj, rfl, hI⟩ := hrel
  by_cases hlt : j < ps.length
  ·obtain ⟨p, he⟩ : ∃ p, ps[j]? = some p := ⟨ps[j], List.getElem?_eq_getElem hlt⟩
   obtain ⟨b, off, cap', hv, hb1, hb2, h5⟩ := HK.out.at_ he
   simp only [Value.slice.injEq, true_and] at hv
   obtain ⟨rfl, rfl⟩ := hv
   have hb := hI.below
   have hc : CV wr b (off + j * 4) (actC p) := h5.kept (hb.block b (by omega))
   have hz := toAct_any wr p
   have HIc : Hid (ToG actE w w.heap.size ps j wr) := hI
   have HE : Hid (ps[j]? = some p) := he
   clear hI hb he h5
   go_wp2_with (refine wpList_loadG Tryz.isAgg226 Tryz.sizeOf226 _ rfl rfl rfl rfl hc ?_)
   refine hz.mono ?_
   rintro e1 w2 ⟨rfl, g2⟩
   obtain ⟨hs, hf⟩ := HIc.out.stores g2 hlt p
   have hs : ∀ y, j * 4 ≤ y → y < j * 4 + (actC p).length → (w2.cell? ⟨w.heap.size, y, none⟩).isSome = true := hs
   have hf : ∀ y, j * 4 ≤ y → y < j * 4 + (actC p).length → w2.frozen? ⟨w.heap.size, y, none⟩ = false := hf
   clear hc hz
   go_wp2_with (refine wpList_storeG Tryz.sizeOf223 _ _ rfl rfl rfl rfl rfl (actC_one p) hs hf ?_)
   intro u L
   have HN : Hid (ToG actE w w.heap.size ps (j + 1) u) := HIc.out.next HE.out g2 L
   clear hs hf L g2
   go_wp2
   go_roundw
   case rel => exact ⟨j + 1, by omega, by go_num, HN.out⟩
   case measure => simp [intOf]; omega
  ·obtain rfl : j = ps.length := by omega
   have HIc : Hid (ToG actE w w.heap.size ps ps.length wr) := hI
   clear hI
   go_wp2
   go_ret
   exact ⟨_, rfl, HIc.out.go (by unfold maxLen; omega), HIc.out.below⟩

def chartC (k : Int) (x y : Value) : List Value := [.int .i64 k, x, y]
theorem chartC_one (k : Int) {x y : Value} (hx : x.oneCell' = true) (hy : y.oneCell' = true) : ∀ v ∈ chartC k x y, v.oneCell' = true := by
 intro v hv; simp only [chartC, List.mem_cons, List.not_mem_nil, or_false] at hv
 rcases hv with rfl | rfl | rfl <;> first | rfl | exact hx | exact hy
theorem zero_chart : (Tryz.prog.info? 42).map (fun i => (i.zero, i.size)) = some (some (.agg (chartC 0 zSl zSl).toArray), 3) := by kernel_rfl

set_option maxHeartbeats 8000000 in
theorem toChart_any (w : World) (lo hi : Nat) (v : Value) (c : ChartD) (h : HIc w lo hi v c) (hhi : hi ≤ w.heap.size) (hm : c.many ≤ 1048576) :
  Calls Tryz.prog 14 #[v] w fun e w' => ∃ v', e = .returned v' ∧ HOc w' w.heap.size w'.heap.size v' c ∧ Below w.heap.size w w' := by
 have hZ := (zero_of_info (P := Tryz.prog) zero_chart).1
 obtain ⟨va, vb, rfl, hA, hB⟩ := h
 obtain ⟨ad, cap, rfl, _, _⟩ := hA.shape
 obtain ⟨ad', cap', rfl, _, _⟩ := hB.shape
 have HA : Hid (TR w lo hi (.slice ad c.ts.length cap) c.ts ∧ GR actE w lo hi (.slice ad' c.acts.length cap') c.acts) := ⟨hA, hB⟩
 clear hA hB
 unfold ChartD.many at hm
 have hm1 : manyT c.ts ≤ 1048576 := by omega
 have hm2 : c.acts.length ≤ 1048576 := by omega
 clear hm
 go_enter Tryz.func14, Tryz.ntmps14
 go_wp2_with (refine wpList_boxG (vs := chartC c.steps (.slice ad c.ts.length cap) (.slice ad' c.acts.length cap')) rfl _ rfl rfl ?_)
 intro u1 g1 p1 s1
 go_wp2_with (refine wpList_allocG hZ rfl rfl ?_)
 intro u2 g2 q2 s2
 replace p1 := p1.below g2 (by omega)
 have G2 := g1.trans (g2.mono (by omega))
 clear g1 g2
 go_wp2_with (refine wpList_allocG hZ rfl rfl ?_)
 intro u3 g3 r3 s3
 have p3 := p1.below g3 (by omega)
 have q3 := q2.below g3 (by omega)
 have G3 := G2.trans (g3.mono (by omega))
 clear g3 G2 p1 q2
 have c0 : u3.cell? ⟨w.heap.size, 0, none⟩ = some (.int .i64 c.steps) := p3.c 0 _ rfl
 go_wp2_with (refine wpList_store1G Tryz.sizeOf3 _ _ rfl rfl rfl rfl rfl rfl (r3.one (show 0 < 3 by decide)) (r3.f _) ?_)
 intro u3b L
 have s3b := L.size
 have r3b := r3.laid L (ws := chartC c.steps zSl zSl) rfl (show 0 + 1 ≤ 3 by decide)
 have p3b := L.other p3 (by omega)
 have q3b := L.other q3 (by omega)
 have G3b := L.below _ _ (by omega) G3
 clear L r3 p3 q3 G3 c0
 have c1 : u3b.cell? ⟨w.heap.size, 1, none⟩ = some (.slice ad c.ts.length cap) := p3b.c 1 _ rfl
 go_wp2_with fail
 clear c1
 refine (toTransS_any _ lo hi _ c.ts (HA.out.1.under G3b hhi) (by omega) hm1).mono ?_
 rintro e4 u4 ⟨v4, rfl, O4, g4⟩
 have s4 := g4.size
 obtain ⟨ad4, cap4, rfl, _, _⟩ := O4.tr.shape
 have p4 := p3b.below g4 (by omega)
 have q4 := q3b.below g4 (by omega)
 have r4 := r3b.below g4 (by omega)
 have G4 := G3b.trans (g4.mono (by omega))
 clear g4 p3b q3b r3b G3b
 go_wp2_with (refine wpList_store1G Tryz.sizeOf39 _ _ rfl rfl rfl rfl rfl rfl (r4.one (show 1 < 3 by decide)) (r4.f _) ?_)
 intro u5 L
 have s5 := L.size
 have r5 := r4.laid L (ws := chartC c.steps (.slice ad4 c.ts.length cap4) zSl) rfl (show 1 + 1 ≤ 3 by decide)
 have p5 := L.other p4 (by omega)
 have q5 := L.other q4 (by omega)
 have O5 := O4.kept fun k h1 h2 => L.block k (by omega)
 have G5 := L.below _ _ (by omega) G4
 clear L r4 p4 q4 G4 O4
 have c2 : u5.cell? ⟨w.heap.size, 2, none⟩ = some (.slice ad' c.acts.length cap') := p5.c 2 _ rfl
 go_wp2_with fail
 clear c2
 refine (toActS_any _ lo hi _ c.acts (HA.out.2.under G5 hhi) (by omega) hm2).mono ?_
 rintro e6 u6 ⟨v6, rfl, O6, g6⟩
 have s6 := g6.size
 obtain ⟨ad6, cap6, rfl, _, _⟩ := O6.gr.shape
 have q6 := q5.below g6 (by omega)
 have r6 := r5.below g6 (by omega)
 replace O5 := O5.under g6 (by omega)
 have G6 := G5.trans (g6.mono (by omega))
 clear g6 p5 q5 r5 G5
 go_wp2_with (refine wpList_store1G Tryz.sizeOf40 _ _ rfl rfl rfl rfl rfl rfl (r6.one (show 2 < 3 by decide)) (r6.f _) ?_)
 intro u7 L
 have s7 := L.size
 have r7 := r6.laid L (ws := chartC c.steps (.slice ad4 c.ts.length cap4) (.slice ad6 c.acts.length cap6)) rfl (show 2 + 1 ≤ 3 by decide)
 have q7 := L.other q6 (by omega)
 have O7 := O5.kept fun k h1 h2 => L.block k (by omega)
 have O7' := O6.kept fun k h1 h2 => L.block k (by omega)
 have G7 := L.below _ _ (by omega) G6
 clear L r6 q6 G6 O5 O6
 have hr := q7.run 0 3 (show 0 + 3 ≤ 3 by decide)
 go_wp2_with (first
  | refine wpList_loadG Tryz.isAgg42 Tryz.sizeOf42 _ rfl rfl rfl rfl r7.c ?_
  | refine wpList_storeG Tryz.sizeOf42 _ _ rfl rfl rfl rfl rfl (chartC_one _ rfl rfl) hr.1 hr.2 ?_)
 intro u8 L
 have s8 := L.size
 have q8 := L.var q7
 have O8 := O7.kept fun k h1 h2 => L.block k (by omega)
 have O8' := O7'.kept fun k h1 h2 => L.block k (by omega)
 have G8 := L.below _ _ (by omega) G7
 clear L r7 q7 G7 O7 O7' hr
 go_wp2
 refine bodyPost_ret (v := .agg (chartC c.steps (.slice ad4 c.ts.length cap4) (.slice ad6 c.acts.length cap6)).toArray) ?_ rfl ⟨_, rfl, ⟨_, _, u4.heap.size, rfl, O8.wide (by omega) (by omega), O8'.wide (by omega) (by omega), by omega, by omega⟩, G8⟩
 simp [results, Tryz.results14]
 exact run_loadVarG (P := Tryz.prog) Tryz.isAgg42 Tryz.sizeOf42 rfl q8.c
end Go.Proofs.YtaoiookfmgpmkaaGreatDoor

/-
 eqTrans, eqTransS, eqAct, eqActS, eqChart: the laws' helpers that compare charts, of two that read the same. (Written by our generator gen_charteq.py.)
-/
namespace Go.Proofs.YtaoiookfmgpmkaaGreatDoor
open Go.ChangeShapes Go.WideShapes Go.ChangeAt Go.RowKit
set_option linter.unusedVariables false
set_option linter.unusedSimpArgs false
set_option maxRecDepth 100000

set_option maxHeartbeats 4000000 in
theorem eqTrans_same (w : World) (lo hi lo' hi' : Nat) (x y s x' y' s' : Value) (t : TransD) (ha : WayR w lo hi x y s t) (hb : WayR w lo' hi' x' y' s' t) (hhi : hi ≤ w.heap.size) (hhi' : hi' ≤ w.heap.size) :
  Calls Tryz.prog 162 #[.agg (transC x y t.e s).toArray, .agg (transC x' y' t.e s').toArray] w fun e w' => e = .returned (.bool true) ∧ Below w.heap.size w w' := by
 obtain ⟨ax, cx, ay, cy, az, cz, rfl, rfl, rfl⟩ := ha.shape
 obtain ⟨bx, dx, by_, dy, bz, dz, rfl, rfl, rfl⟩ := hb.shape
 have HK : Hid (WayR w lo hi (.slice ax t.fr.length cx) (.slice ay t.to.length cy) (.slice az t.e.kids.length cz) t ∧ WayR w lo' hi' (.slice bx t.fr.length dx) (.slice by_ t.to.length dy) (.slice bz t.e.kids.length dz) t) := ⟨ha, hb⟩
 clear ha hb
 go_enter Tryz.func162, Tryz.ntmps162
 go_wp2_with (refine wpList_boxG (vs := transC (.slice ax t.fr.length cx) (.slice ay t.to.length cy) t.e (.slice az t.e.kids.length cz)) rfl _ rfl rfl ?_)
 intro u1 g1 p1 s1
 go_wp2_with (refine wpList_boxG (vs := transC (.slice bx t.fr.length dx) (.slice by_ t.to.length dy) t.e (.slice bz t.e.kids.length dz)) rfl _ rfl rfl ?_)
 intro u2 g2 q2 s2
 have p2 := p1.below g2 (by omega)
 have G2 := g1.trans (g2.mono (by omega))
 clear g1 g2 p1
 have c0 : u2.cell? ⟨w.heap.size, 0, none⟩ = some (.slice ax t.fr.length cx) := p2.c 0 _ rfl
 have d0 : u2.cell? ⟨w.heap.size + 1, 0, none⟩ = some (.slice bx t.fr.length dx) := q2.c 0 _ rfl
 go_wp2_with fail
 clear c0 d0
 refine (eqIntS_any _ _ _ _ _ _ _ t.fr t.fr (HK.out.1.fr.below G2 hhi) (HK.out.2.fr.below G2 hhi')).mono ?_
 rw [decide_eq_true rfl]
 rintro e3 u3 ⟨m3, rfl, hm3⟩
 have g3 : Below u2.heap.size u2 u3 := by rw [hm3]; exact below_drewN (Below.refl _ _) m3
 clear hm3
 have z3 := g3.size
 have p3 := p2.below g3 (by omega)
 have q3 := q2.below g3 (by omega)
 have G3 := G2.trans (g3.mono (by omega))
 clear g3 G2 p2 q2
 have c1 : u3.cell? ⟨w.heap.size, 1, none⟩ = some (.slice ay t.to.length cy) := p3.c 1 _ rfl
 have d1 : u3.cell? ⟨w.heap.size + 1, 1, none⟩ = some (.slice by_ t.to.length dy) := q3.c 1 _ rfl
 go_wp2_with fail
 clear c1 d1
 refine (eqIntS_any _ _ _ _ _ _ _ t.to t.to (HK.out.1.to.below G3 hhi) (HK.out.2.to.below G3 hhi')).mono ?_
 rw [decide_eq_true rfl]
 rintro e4 u4 ⟨m4, rfl, hm4⟩
 have g4 : Below u3.heap.size u3 u4 := by rw [hm4]; exact below_drewN (Below.refl _ _) m4
 clear hm4
 have z4 := g4.size
 have p4 := p3.below g4 (by omega)
 have q4 := q3.below g4 (by omega)
 have G4 := G3.trans (g4.mono (by omega))
 clear g4 G3 p3 q3
 have hc : CV u4 w.heap.size 2 (exprC t.e (.slice az t.e.kids.length cz)) := p4.c.part 2 5
 have hd : CV u4 (w.heap.size + 1) 2 (exprC t.e (.slice bz t.e.kids.length dz)) := q4.c.part 2 5
 clear p4 q4
 go_wp2_with (first
  | refine wpList_loadG Tryz.isAgg121 Tryz.sizeOf121 _ rfl rfl rfl rfl hc ?_
  | refine wpList_loadG Tryz.isAgg121 Tryz.sizeOf121 _ rfl rfl rfl rfl hd ?_)
 clear hc hd
 refine (eqExpr_any _ lo hi lo' hi' _ _ t.e t.e ⟨_, rfl, HK.out.1.e.under G4 hhi⟩ ⟨_, rfl, HK.out.2.e.under G4 hhi'⟩ (by omega) (by omega)).mono ?_
 rintro e5 u5 ⟨r, rfl, hr, g5⟩
 obtain rfl : r = true := hr.mpr rfl
 have G5 := G4.trans (g5.mono (by omega))
 clear g5 G4 hr
 go_wp2
 go_ret
 exact ⟨rfl, G5⟩

set_option maxHeartbeats 2000000 in
theorem eqAct_same (w : World) (s : ActD) :
  Calls Tryz.prog 163 #[.agg (actC s).toArray, .agg (actC s).toArray] w fun e w' => e = .returned (.bool true) ∧ Below w.heap.size w w' := by
 have e1 : (s.kind != s.kind) = false := by simp
 have e2 : (s.step != s.step) = false := by simp
 go_enter Tryz.func163, Tryz.ntmps163
 go_wp2_with (refine wpList_boxG (vs := actC s) rfl _ rfl rfl ?_)
 intro u1 g1 p1 s1
 go_wp2_with (refine wpList_boxG (vs := actC s) rfl _ rfl rfl ?_)
 intro u2 g2 q2 s2
 have p2 := p1.below g2 (by omega)
 have G2 := g1.trans (g2.mono (by omega))
 clear g1 g2 p1
 have c0 : u2.cell? ⟨w.heap.size, 0, none⟩ = some (.int .i64 s.kind) := p2.c 0 _ rfl
 have c1 : u2.cell? ⟨w.heap.size, 1, none⟩ = some (.int .i64 s.step) := p2.c 1 _ rfl
 have d0 : u2.cell? ⟨w.heap.size + 1, 0, none⟩ = some (.int .i64 s.kind) := q2.c 0 _ rfl
 have d1 : u2.cell? ⟨w.heap.size + 1, 1, none⟩ = some (.int .i64 s.step) := q2.c 1 _ rfl
 have hc : CV u2 w.heap.size 2 [.int .i64 s.tk, .int .i64 s.ta] := p2.c.part 2 2
 have hd : CV u2 (w.heap.size + 1) 2 [.int .i64 s.tk, .int .i64 s.ta] := q2.c.part 2 2
 go_wp2_with (first
  | refine wpList_loadG Tryz.isAgg118 Tryz.sizeOf118 _ rfl rfl rfl rfl hc ?_
  | refine wpList_loadG Tryz.isAgg118 Tryz.sizeOf118 _ rfl rfl rfl rfl hd ?_)
 clear c0 c1 d0 d1 hc hd
 refine (eqAddr_any _ ⟨s.tk, s.ta⟩ ⟨s.tk, s.ta⟩).mono ?_
 rw [decide_eq_true rfl]
 rintro e3 u3 ⟨rfl, g3⟩
 have G3 := G2.trans (g3.mono (by omega))
 clear g3 G2 p2 q2
 go_wp2
 go_ret
 exact ⟨rfl, G3⟩

set_option maxHeartbeats 4000000 in
theorem eqTransS_same (w : World) (lo hi lo' hi' : Nat) (va vb : Value) (ps : List TransD) (ha : TR w lo hi va ps) (hb' : TR w lo' hi' vb ps) (hhi : hi ≤ w.heap.size) (hhi' : hi' ≤ w.heap.size) :
  Calls Tryz.prog 77 #[va, vb] w fun e w' => e = .returned (.bool true) ∧ Below w.heap.size w w' := by
 obtain ⟨ad, cap, rfl, h1, h2⟩ := ha.shape
 obtain ⟨ad', cap', rfl, h1', h2'⟩ := hb'.shape
 have HK : Hid (TR w lo hi (.slice ad ps.length cap) ps ∧ TR w lo' hi' (.slice ad' ps.length cap') ps) := ⟨ha, hb'⟩
 clear ha hb'
 unfold maxLen at h2 h2'
 have hl2 : ((ps.length : Int) != (ps.length : Int)) = false := by simp
 go_enter Tryz.func77, Tryz.ntmps77
 go_wp2_with fail
 go_loopw [5] (fun i wr => ∃ j : Nat, j ≤ ps.length ∧ i = .int .i64 j ∧ Below w.heap.size w wr) (fun i _ => ps.length - (intOf i).toNat)
 case atStart => exact ⟨0, Nat.zero_le _, rfl, Below.refl _ _⟩
 case round =>
  obtain ⟨j, hj, rfl, hb⟩ := hrel
  have hsz := hb.size
  by_cases hlt : j < ps.length
  ·obtain ⟨x, hx⟩ : ∃ x, ps[j]? = some x := ⟨ps[j], List.getElem?_eq_getElem hlt⟩
   obtain ⟨b, off, capx, x1, y1, s1, hv, hb1, hb2, h5, k5⟩ := HK.out.1.at_ hx
   obtain ⟨b', off', capy, x2, y2, s2, hv', hb1', hb2', h5', k5'⟩ := HK.out.2.at_ hx
   simp only [Value.slice.injEq, true_and] at hv hv'
   obtain ⟨rfl, rfl⟩ := hv
   obtain ⟨rfl, rfl⟩ := hv'
   have h5 : CV w b (off + j * 7) (transC x1 y1 x.e s1) := h5
   have h5' : CV w b' (off' + j * 7) (transC x2 y2 x.e s2) := h5'
   have KK : Hid (WayR w lo hi x1 y1 s1 x ∧ WayR w lo' hi' x2 y2 s2 x) := ⟨k5, k5'⟩
   clear k5 k5'
   clear hx
   go_wp2_with fail
   refine wp_region_dag (R := Grow) (Φ := fun i v u => match i with
     | 0 => v = .slice (some ⟨b, off, none⟩) ps.length cap
     | 1 => v = .int .i64 j
     | 2 => v = .pointer (some ⟨b, off + j * 7, none⟩)
     | 3 => v = .agg (transC x1 y1 x.e s1).toArray
     | 4 => v = .slice (some ⟨b', off', none⟩) ps.length cap'
     | 5 => v = .int .i64 j
     | 6 => v = .pointer (some ⟨b', off' + j * 7, none⟩)
     | 7 => v = .agg (transC x2 y2 x.e s2).toArray
     | 8 => v = .bool true
     | 9 => v = .bool false
     | _ => True) (by kernel_rfl) (by kernel_rfl) (by kernel_rfl) (Below.refl _ _) grow_trans ?_ ?_ ?_
   ·intro i v u u' hr
    match i with
    | 0 | 1 | 2 | 3 | 4 | 5 | 6 | 7 | 8 | 9 | _ + 10 => exact fun h => h
   ·intro i o ho a u hf hR0 he K' hK
    have hR : Grow wr u := (Below.drew (Below.refl _ _)).trans hR0
    have hsz' : a.tmps.size = 27 := hf.size
    have hus : wr.heap.size ≤ u.heap.size := hR.size
    rcases i with _ | _ | _ | _ | _ | _ | _ | _ | _ | _ | i
    ·obtain rfl := si ho
     have q0 : a.tmps.getD 0 undef = .slice (some ⟨b, off, none⟩) ps.length cap := hf.at_ 0 (by kernel_rfl)
     clear he
     go_simp
     exact hK _ _ (Below.refl _ _) (getD_put_self a 17 _ (by show _ < a.tmps.size; omega))
    ·obtain rfl := si ho
     have q5 : a.tmps.getD 5 undef = .int .i64 j := hf.at_ 5 (by kernel_rfl)
     clear he
     go_simp
     exact hK _ _ (Below.refl _ _) (getD_put_self a 18 _ (by show _ < a.tmps.size; omega))
    ·obtain rfl := si ho
     have q17 : a.tmps.getD 17 undef = .slice (some ⟨b, off, none⟩) ps.length cap := he _ (am (i := 0) rfl) (by kernel_rfl) _ rfl
     have q18 : a.tmps.getD 18 undef = .int .i64 j := he _ (am (i := 1) rfl) (by kernel_rfl) _ rfl
     clear he
     go_simp
     exact hK _ _ (Below.refl _ _) (getD_put_self a 19 _ (by show _ < a.tmps.size; omega))
    ·obtain rfl := si ho
     have q19 : a.tmps.getD 19 undef = .pointer (some ⟨b, off + j * 7, none⟩) := he _ (am (i := 0) rfl) (by kernel_rfl) _ rfl
     clear he
     refine wantedG rfl (wp_loadG Tryz.isAgg209 Tryz.sizeOf209 (vs := transC x1 y1 x.e s1) _ rfl q19 rfl (h5.kept ((hb.trans (hR.mono hsz)).block b (by omega))) ?_)
     exact hK _ _ (Below.refl _ _) (getD_put_self a 20 _ (by show _ < a.tmps.size; omega))
    ·obtain rfl := si ho
     have q1 : a.tmps.getD 1 undef = .slice (some ⟨b', off', none⟩) ps.length cap' := hf.at_ 1 (by kernel_rfl)
     clear he
     go_simp
     exact hK _ _ (Below.refl _ _) (getD_put_self a 21 _ (by show _ < a.tmps.size; omega))
    ·obtain rfl := si ho
     have q5 : a.tmps.getD 5 undef = .int .i64 j := hf.at_ 5 (by kernel_rfl)
     clear he
     go_simp
     exact hK _ _ (Below.refl _ _) (getD_put_self a 22 _ (by show _ < a.tmps.size; omega))
    ·obtain rfl := si ho
     have q21 : a.tmps.getD 21 undef = .slice (some ⟨b', off', none⟩) ps.length cap' := he _ (am (i := 0) rfl) (by kernel_rfl) _ rfl
     have q22 : a.tmps.getD 22 undef = .int .i64 j := he _ (am (i := 1) rfl) (by kernel_rfl) _ rfl
     clear he
     go_simp
     exact hK _ _ (Below.refl _ _) (getD_put_self a 23 _ (by show _ < a.tmps.size; omega))
    ·obtain rfl := si ho
     have q23 : a.tmps.getD 23 undef = .pointer (some ⟨b', off' + j * 7, none⟩) := he _ (am (i := 0) rfl) (by kernel_rfl) _ rfl
     clear he
     refine wantedG rfl (wp_loadG Tryz.isAgg209 Tryz.sizeOf209 (vs := transC x2 y2 x.e s2) _ rfl q23 rfl (h5'.kept ((hb.trans (hR.mono hsz)).block b' (by omega))) ?_)
     exact hK _ _ (Below.refl _ _) (getD_put_self a 24 _ (by show _ < a.tmps.size; omega))
    ·obtain rfl := si ho
     have q20 : a.tmps.getD 20 undef = .agg (transC x1 y1 x.e s1).toArray := he _ (am (i := 0) rfl) (by kernel_rfl) _ rfl
     have q24 : a.tmps.getD 24 undef = .agg (transC x2 y2 x.e s2).toArray := he _ (am (i := 1) rfl) (by kernel_rfl) _ rfl
     clear he
     go_simp
     refine (eqTrans_same u lo hi lo' hi' _ _ _ _ _ _ x (KK.out.1.under (hb.trans (hR.mono hsz)) hhi) (KK.out.2.under (hb.trans (hR.mono hsz)) hhi') (by omega) (by omega)).mono ?_
     rintro e1 u' ⟨rfl, hbu⟩
     exact hK _ _ hbu (getD_put_self a 25 _ (by show _ < a.tmps.size; omega))
    ·obtain rfl := si ho
     have q25 : a.tmps.getD 25 undef = .bool true := he _ (am (i := 0) rfl) (by kernel_rfl) _ rfl
     clear he
     go_simp
     exact hK _ _ (Below.refl _ _) (getD_put_self a 26 _ (by show _ < a.tmps.size; omega))
    ·exact absurd ho (by simp)
   ·intro a u hf hR0 hp
    have hR : Grow wr u := (Below.drew (Below.refl _ _)).trans hR0
    have md : a.defers = [] := hf.defers
    have m0 : a.tmps.getD 0 undef = .slice (some ⟨b, off, none⟩) ps.length cap := hf.at_ 0 (by kernel_rfl)
    have m1 : a.tmps.getD 1 undef = .slice (some ⟨b', off', none⟩) ps.length cap' := hf.at_ 1 (by kernel_rfl)
    have m2 : a.tmps.getD 2 undef = undef := hf.at_ 2 (by kernel_rfl)
    have m3 : a.tmps.getD 3 undef = undef := hf.at_ 3 (by kernel_rfl)
    have m5 : a.tmps.getD 5 undef = .int .i64 j := hf.at_ 5 (by kernel_rfl)
    have m6 : a.tmps.getD 6 undef = .slice (some ⟨b, off, none⟩) ps.length cap := hf.at_ 6 (by kernel_rfl)
    have m7 : a.tmps.getD 7 undef = .int .i64 ps.length := hf.at_ 7 (by kernel_rfl)
    have m8 : a.tmps.getD 8 undef = .slice (some ⟨b', off', none⟩) ps.length cap' := hf.at_ 8 (by kernel_rfl)
    have m9 : a.tmps.getD 9 undef = .int .i64 ps.length := hf.at_ 9 (by kernel_rfl)
    have m10 : a.tmps.getD 10 undef = .bool false := hf.at_ 10 (by kernel_rfl)
    have m26 : a.tmps.getD 26 undef = .bool false := hp 9 _ rfl
    obtain ⟨f, ea, hfv⟩ := act_lit a 27 hf.size
    rw [← hfv] at m0 m1 m2 m3 m5 m6 m7 m8 m9 m10 m26
    rw [md] at ea
    simp only [List.range, List.range.loop, List.map_cons, List.map_nil, m0, m1, m2, m3, m5, m6, m7, m8, m9, m10, m26] at ea
    subst ea
    clear hfv hf md hp hR0
    clear h5 h5'
    go_wp2
    go_roundw
    case rel => exact ⟨j + 1, by omega, by go_num, hb.trans (hR.mono hsz)⟩
    case measure => simp [intOf]; omega
  ·obtain rfl : j = ps.length := by omega
   go_wp2
   go_ret
   exact ⟨rfl, hb⟩

set_option maxHeartbeats 4000000 in
theorem eqActS_same (w : World) (lo hi lo' hi' : Nat) (va vb : Value) (ps : List ActD) (ha : GR actE w lo hi va ps) (hb' : GR actE w lo' hi' vb ps) (hhi : hi ≤ w.heap.size) (hhi' : hi' ≤ w.heap.size) :
  Calls Tryz.prog 78 #[va, vb] w fun e w' => e = .returned (.bool true) ∧ Below w.heap.size w w' := by
 obtain ⟨ad, cap, rfl, h1, h2⟩ := ha.shape
 obtain ⟨ad', cap', rfl, h1', h2'⟩ := hb'.shape
 have HK : Hid (GR actE w lo hi (.slice ad ps.length cap) ps ∧ GR actE w lo' hi' (.slice ad' ps.length cap') ps) := ⟨ha, hb'⟩
 clear ha hb'
 unfold maxLen at h2 h2'
 have hl2 : ((ps.length : Int) != (ps.length : Int)) = false := by simp
 go_enter Tryz.func78, Tryz.ntmps78
 go_wp2_with fail
 go_loopw [5] (fun i wr => ∃ j : Nat, j ≤ ps.length ∧ i = .int .i64 j ∧ Below w.heap.size w wr) (fun i _ => ps.length - (intOf i).toNat)
 case atStart => exact ⟨0, Nat.zero_le _, rfl, Below.refl _ _⟩
 case round =>
  obtain ⟨j, hj, rfl, hb⟩ := hrel
  have hsz := hb.size
  by_cases hlt : j < ps.length
  ·obtain ⟨x, hx⟩ : ∃ x, ps[j]? = some x := ⟨ps[j], List.getElem?_eq_getElem hlt⟩
   obtain ⟨b, off, capx, hv, hb1, hb2, h5⟩ := HK.out.1.at_ hx
   obtain ⟨b', off', capy, hv', hb1', hb2', h5'⟩ := HK.out.2.at_ hx
   simp only [Value.slice.injEq, true_and] at hv hv'
   obtain ⟨rfl, rfl⟩ := hv
   obtain ⟨rfl, rfl⟩ := hv'
   have h5 : CV w b (off + j * 4) (actC x) := h5
   have h5' : CV w b' (off' + j * 4) (actC x) := h5'
   clear hx
   go_wp2_with fail
   refine wp_region_dag (R := Grow) (Φ := fun i v u => match i with
     | 0 => v = .slice (some ⟨b, off, none⟩) ps.length cap
     | 1 => v = .int .i64 j
     | 2 => v = .pointer (some ⟨b, off + j * 4, none⟩)
     | 3 => v = .agg (actC x).toArray
     | 4 => v = .slice (some ⟨b', off', none⟩) ps.length cap'
     | 5 => v = .int .i64 j
     | 6 => v = .pointer (some ⟨b', off' + j * 4, none⟩)
     | 7 => v = .agg (actC x).toArray
     | 8 => v = .bool true
     | 9 => v = .bool false
     | _ => True) (by kernel_rfl) (by kernel_rfl) (by kernel_rfl) (Below.refl _ _) grow_trans ?_ ?_ ?_
   ·intro i v u u' hr
    match i with
    | 0 | 1 | 2 | 3 | 4 | 5 | 6 | 7 | 8 | 9 | _ + 10 => exact fun h => h
   ·intro i o ho a u hf hR0 he K' hK
    have hR : Grow wr u := (Below.drew (Below.refl _ _)).trans hR0
    have hsz' : a.tmps.size = 27 := hf.size
    have hus : wr.heap.size ≤ u.heap.size := hR.size
    rcases i with _ | _ | _ | _ | _ | _ | _ | _ | _ | _ | i
    ·obtain rfl := si ho
     have q0 : a.tmps.getD 0 undef = .slice (some ⟨b, off, none⟩) ps.length cap := hf.at_ 0 (by kernel_rfl)
     clear he
     go_simp
     exact hK _ _ (Below.refl _ _) (getD_put_self a 17 _ (by show _ < a.tmps.size; omega))
    ·obtain rfl := si ho
     have q5 : a.tmps.getD 5 undef = .int .i64 j := hf.at_ 5 (by kernel_rfl)
     clear he
     go_simp
     exact hK _ _ (Below.refl _ _) (getD_put_self a 18 _ (by show _ < a.tmps.size; omega))
    ·obtain rfl := si ho
     have q17 : a.tmps.getD 17 undef = .slice (some ⟨b, off, none⟩) ps.length cap := he _ (am (i := 0) rfl) (by kernel_rfl) _ rfl
     have q18 : a.tmps.getD 18 undef = .int .i64 j := he _ (am (i := 1) rfl) (by kernel_rfl) _ rfl
     clear he
     go_simp
     exact hK _ _ (Below.refl _ _) (getD_put_self a 19 _ (by show _ < a.tmps.size; omega))
    ·obtain rfl := si ho
     have q19 : a.tmps.getD 19 undef = .pointer (some ⟨b, off + j * 4, none⟩) := he _ (am (i := 0) rfl) (by kernel_rfl) _ rfl
     clear he
     refine wantedG rfl (wp_loadG Tryz.isAgg223 Tryz.sizeOf223 (vs := actC x) _ rfl q19 rfl (h5.kept ((hb.trans (hR.mono hsz)).block b (by omega))) ?_)
     exact hK _ _ (Below.refl _ _) (getD_put_self a 20 _ (by show _ < a.tmps.size; omega))
    ·obtain rfl := si ho
     have q1 : a.tmps.getD 1 undef = .slice (some ⟨b', off', none⟩) ps.length cap' := hf.at_ 1 (by kernel_rfl)
     clear he
     go_simp
     exact hK _ _ (Below.refl _ _) (getD_put_self a 21 _ (by show _ < a.tmps.size; omega))
    ·obtain rfl := si ho
     have q5 : a.tmps.getD 5 undef = .int .i64 j := hf.at_ 5 (by kernel_rfl)
     clear he
     go_simp
     exact hK _ _ (Below.refl _ _) (getD_put_self a 22 _ (by show _ < a.tmps.size; omega))
    ·obtain rfl := si ho
     have q21 : a.tmps.getD 21 undef = .slice (some ⟨b', off', none⟩) ps.length cap' := he _ (am (i := 0) rfl) (by kernel_rfl) _ rfl
     have q22 : a.tmps.getD 22 undef = .int .i64 j := he _ (am (i := 1) rfl) (by kernel_rfl) _ rfl
     clear he
     go_simp
     exact hK _ _ (Below.refl _ _) (getD_put_self a 23 _ (by show _ < a.tmps.size; omega))
    ·obtain rfl := si ho
     have q23 : a.tmps.getD 23 undef = .pointer (some ⟨b', off' + j * 4, none⟩) := he _ (am (i := 0) rfl) (by kernel_rfl) _ rfl
     clear he
     refine wantedG rfl (wp_loadG Tryz.isAgg223 Tryz.sizeOf223 (vs := actC x) _ rfl q23 rfl (h5'.kept ((hb.trans (hR.mono hsz)).block b' (by omega))) ?_)
     exact hK _ _ (Below.refl _ _) (getD_put_self a 24 _ (by show _ < a.tmps.size; omega))
    ·obtain rfl := si ho
     have q20 : a.tmps.getD 20 undef = .agg (actC x).toArray := he _ (am (i := 0) rfl) (by kernel_rfl) _ rfl
     have q24 : a.tmps.getD 24 undef = .agg (actC x).toArray := he _ (am (i := 1) rfl) (by kernel_rfl) _ rfl
     clear he
     go_simp
     refine (eqAct_same u x).mono ?_
     rintro e1 u' ⟨rfl, hbu⟩
     exact hK _ _ hbu (getD_put_self a 25 _ (by show _ < a.tmps.size; omega))
    ·obtain rfl := si ho
     have q25 : a.tmps.getD 25 undef = .bool true := he _ (am (i := 0) rfl) (by kernel_rfl) _ rfl
     clear he
     go_simp
     exact hK _ _ (Below.refl _ _) (getD_put_self a 26 _ (by show _ < a.tmps.size; omega))
    ·exact absurd ho (by simp)
   ·intro a u hf hR0 hp
    have hR : Grow wr u := (Below.drew (Below.refl _ _)).trans hR0
    have md : a.defers = [] := hf.defers
    have m0 : a.tmps.getD 0 undef = .slice (some ⟨b, off, none⟩) ps.length cap := hf.at_ 0 (by kernel_rfl)
    have m1 : a.tmps.getD 1 undef = .slice (some ⟨b', off', none⟩) ps.length cap' := hf.at_ 1 (by kernel_rfl)
    have m2 : a.tmps.getD 2 undef = undef := hf.at_ 2 (by kernel_rfl)
    have m3 : a.tmps.getD 3 undef = undef := hf.at_ 3 (by kernel_rfl)
    have m5 : a.tmps.getD 5 undef = .int .i64 j := hf.at_ 5 (by kernel_rfl)
    have m6 : a.tmps.getD 6 undef = .slice (some ⟨b, off, none⟩) ps.length cap := hf.at_ 6 (by kernel_rfl)
    have m7 : a.tmps.getD 7 undef = .int .i64 ps.length := hf.at_ 7 (by kernel_rfl)
    have m8 : a.tmps.getD 8 undef = .slice (some ⟨b', off', none⟩) ps.length cap' := hf.at_ 8 (by kernel_rfl)
    have m9 : a.tmps.getD 9 undef = .int .i64 ps.length := hf.at_ 9 (by kernel_rfl)
    have m10 : a.tmps.getD 10 undef = .bool false := hf.at_ 10 (by kernel_rfl)
    have m26 : a.tmps.getD 26 undef = .bool false := hp 9 _ rfl
    obtain ⟨f, ea, hfv⟩ := act_lit a 27 hf.size
    rw [← hfv] at m0 m1 m2 m3 m5 m6 m7 m8 m9 m10 m26
    rw [md] at ea
    simp only [List.range, List.range.loop, List.map_cons, List.map_nil, m0, m1, m2, m3, m5, m6, m7, m8, m9, m10, m26] at ea
    subst ea
    clear hfv hf md hp hR0
    clear h5 h5'
    go_wp2
    go_roundw
    case rel => exact ⟨j + 1, by omega, by go_num, hb.trans (hR.mono hsz)⟩
    case measure => simp [intOf]; omega
  ·obtain rfl : j = ps.length := by omega
   go_wp2
   go_ret
   exact ⟨rfl, hb⟩

set_option maxHeartbeats 2000000 in
theorem eqChart_same (w : World) (lo hi lo' hi' : Nat) (va vb : Value) (c : ChartD) (ha : HIc w lo hi va c) (hb : HIc w lo' hi' vb c) (hhi : hi ≤ w.heap.size) (hhi' : hi' ≤ w.heap.size) :
  Calls Tryz.prog 19 #[va, vb] w fun e w' => e = .returned (.bool true) ∧ Below w.heap.size w w' := by
 obtain ⟨xa, xb, rfl, hxa, hxb⟩ := ha
 obtain ⟨ya, yb, rfl, hya, hyb⟩ := hb
 obtain ⟨ad1, cap1, rfl, _, _⟩ := hxa.shape
 obtain ⟨ad2, cap2, rfl, _, _⟩ := hxb.shape
 obtain ⟨ad3, cap3, rfl, _, _⟩ := hya.shape
 obtain ⟨ad4, cap4, rfl, _, _⟩ := hyb.shape
 have HK : Hid ((TR w lo hi (.slice ad1 c.ts.length cap1) c.ts ∧ GR actE w lo hi (.slice ad2 c.acts.length cap2) c.acts) ∧ (TR w lo' hi' (.slice ad3 c.ts.length cap3) c.ts ∧ GR actE w lo' hi' (.slice ad4 c.acts.length cap4) c.acts)) := ⟨⟨hxa, hxb⟩, hya, hyb⟩
 clear hxa hxb hya hyb
 have e1 : (c.steps != c.steps) = false := by simp
 go_enter Tryz.func19, Tryz.ntmps19
 go_wp2_with (refine wpList_boxG (vs := [.int .i64 c.steps, .slice ad1 c.ts.length cap1, .slice ad2 c.acts.length cap2]) rfl _ rfl rfl ?_)
 intro u1 g1 p1 s1
 go_wp2_with (refine wpList_boxG (vs := [.int .i64 c.steps, .slice ad3 c.ts.length cap3, .slice ad4 c.acts.length cap4]) rfl _ rfl rfl ?_)
 intro u2 g2 q2 s2
 have p2 := p1.below g2 (by omega)
 have G2 := g1.trans (g2.mono (by omega))
 clear g1 g2 p1
 have b0 : u2.cell? ⟨w.heap.size, 0, none⟩ = some (.int .i64 c.steps) := p2.c 0 _ rfl
 have b1 : u2.cell? ⟨w.heap.size + 1, 0, none⟩ = some (.int .i64 c.steps) := q2.c 0 _ rfl
 have c0 : u2.cell? ⟨w.heap.size, 1, none⟩ = some (.slice ad1 c.ts.length cap1) := p2.c 1 _ rfl
 have d0 : u2.cell? ⟨w.heap.size + 1, 1, none⟩ = some (.slice ad3 c.ts.length cap3) := q2.c 1 _ rfl
 go_wp2_with fail
 clear c0 d0 b0 b1
 refine (eqTransS_same _ _ _ _ _ _ _ c.ts (HK.out.1.1.under G2 hhi) (HK.out.2.1.under G2 hhi') (by omega) (by omega)).mono ?_
 rintro e3 u3 ⟨rfl, g3⟩
 have z3 := g3.size
 have c1 : u3.cell? ⟨w.heap.size, 2, none⟩ = some (.slice ad2 c.acts.length cap2) := (p2.below g3 (by omega)).c 2 _ rfl
 have d1 : u3.cell? ⟨w.heap.size + 1, 2, none⟩ = some (.slice ad4 c.acts.length cap4) := (q2.below g3 (by omega)).c 2 _ rfl
 have G3 := G2.trans (g3.mono (by omega))
 clear g3 G2 p2 q2
 go_wp2_with fail
 clear c1 d1
 refine (eqActS_same _ _ _ _ _ _ _ c.acts (HK.out.1.2.under G3 hhi) (HK.out.2.2.under G3 hhi') (by omega) (by omega)).mono ?_
 rintro e4 u4 ⟨rfl, g4⟩
 have G4 := G3.trans (g4.mono (by omega))
 clear g4 G3
 go_wp2
 go_ret
 exact ⟨rfl, G4⟩

end Go.Proofs.YtaoiookfmgpmkaaGreatDoor
