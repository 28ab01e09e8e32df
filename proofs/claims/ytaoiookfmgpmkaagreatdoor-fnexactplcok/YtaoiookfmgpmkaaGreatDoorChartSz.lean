/-
  szTrans, szTransS, szActS, szChart: the laws' helpers that count.
-/
import Derived.Test.YtaoiookfmgpmkaaGreatDoorChartData
import Derived.Test.YtaoiookfmgpmkaaGreatDoorExprSz
namespace Go.Proofs.YtaoiookfmgpmkaaGreatDoor
open Go.ChangeShapes Go.WideShapes Go.ChangeAt Go.RowKit
set_option linter.unusedVariables false
set_option linter.unusedSimpArgs false
set_option maxRecDepth 100000

set_option maxHeartbeats 4000000 in
theorem szTrans_any (w : World) (lo hi : Nat) (x y s : Value) (t : TransD) (left : Int) (h : WayR w lo hi x y s t) (hhi : hi ≤ w.heap.size) (hl : 0 ≤ left) (hl' : left ≤ 1048576) :
    Calls Tryz.prog 134 #[.agg (transC x y t.e s).toArray, .int .i64 left] w fun e w' => e = .returned (.int .i64 (if left < t.many then -1 else left - t.many)) ∧ Below w.heap.size w w' := by
  obtain ⟨r, hr⟩ : ∃ r : Int, (if left < (t.many : Int) then -1 else left - (t.many : Int)) = r := ⟨_, rfl⟩
  rw [hr]
  have HM : t.many = t.fr.length + t.to.length + manyL t.e.kids := rfl
  rw [HM] at hr
  have HR : Hid ((if left < ((t.fr.length + t.to.length + manyL t.e.kids : Nat) : Int) then -1 else left - ((t.fr.length + t.to.length + manyL t.e.kids : Nat) : Int)) = r) := hr
  clear hr HM
  obtain ⟨ax, cx, ay, cy, az, cz, rfl, rfl, rfl⟩ := h.shape
  have HW : Hid (WayR w lo hi (.slice ax t.fr.length cx) (.slice ay t.to.length cy) (.slice az t.e.kids.length cz) t) := h
  clear h
  go_enter Tryz.func134, Tryz.ntmps134
  go_wp2_with (refine wpList_boxG (vs := transC (.slice ax t.fr.length cx) (.slice ay t.to.length cy) t.e (.slice az t.e.kids.length cz)) rfl _ rfl rfl ?_)
  intro u1 g1 p1 s1
  have c0 : u1.cell? ⟨w.heap.size, 0, none⟩ = some (.slice ax t.fr.length cx) := p1.c 0 _ rfl
  go_wp2_with fail
  clear c0
  refine (szIntS_any _ lo hi _ t.fr left (HW.out.fr.below g1 hhi) hl hl').mono ?_
  by_cases q1 : left < (t.fr.length : Int)
  · rw [if_pos q1]
    rintro e2 u2 ⟨rfl, rfl⟩
    have HF : Hid (r = -1) := by show r = -1; rw [← HR.out, if_pos (by omega)]
    clear HR p1
    go_wp2
    go_ret
    exact ⟨ret_int HF.out.symm, g1⟩
  rw [if_neg q1]
  rintro e2 u2 ⟨rfl, rfl⟩
  obtain ⟨l1, hl1⟩ : ∃ l1 : Int, left - (t.fr.length : Int) = l1 := ⟨_, rfl⟩
  rw [hl1]
  have n1 : ¬ (l1 < 0) := by omega
  have c1 : u2.cell? ⟨w.heap.size, 1, none⟩ = some (.slice ay t.to.length cy) := p1.c 1 _ rfl
  go_wp2_with fail
  clear c1
  refine (szIntS_any _ lo hi _ t.to l1 (HW.out.to.below g1 hhi) (by omega) (by omega)).mono ?_
  by_cases q2 : l1 < (t.to.length : Int)
  · rw [if_pos q2]
    rintro e3 u3 ⟨rfl, rfl⟩
    have HF : Hid (r = -1) := by show r = -1; rw [← HR.out, if_pos (by omega)]
    clear HR p1
    go_wp2
    go_ret
    exact ⟨ret_int HF.out.symm, g1⟩
  rw [if_neg q2]
  rintro e3 u3 ⟨rfl, rfl⟩
  obtain ⟨l2, hl2⟩ : ∃ l2 : Int, l1 - (t.to.length : Int) = l2 := ⟨_, rfl⟩
  rw [hl2]
  have n2 : ¬ (l2 < 0) := by omega
  have hc : CV u3 w.heap.size 2 (exprC t.e (.slice az t.e.kids.length cz)) := p1.c.part 2 5
  go_wp2_with (refine wpList_loadG Tryz.isAgg104 Tryz.sizeOf104 _ rfl rfl rfl rfl hc ?_)
  clear hc
  refine (szExpr_any _ lo hi _ t.e l2 ⟨_, rfl, HW.out.e.under g1 hhi⟩ (by omega) (by omega) (by omega)).mono ?_
  by_cases q3 : l2 < (manyL t.e.kids : Int)
  · rw [if_pos q3]
    rintro e4 u4 ⟨rfl, g4⟩
    have G4 := g1.trans (g4.mono (by omega))
    have HF : Hid (r = -1) := by show r = -1; rw [← HR.out, if_pos (by omega)]
    clear HR p1 g4 g1
    go_wp2
    go_ret
    exact ⟨ret_int HF.out.symm, G4⟩
  rw [if_neg q3]
  rintro e4 u4 ⟨rfl, g4⟩
  have G4 := g1.trans (g4.mono (by omega))
  have HF : Hid (l2 - (manyL t.e.kids : Int) = r) := by show _ = r; rw [← HR.out, if_neg (by omega)]; omega
  have n3 : ¬ (l2 - (manyL t.e.kids : Int) < 0) := by omega
  obtain ⟨l3, hl3⟩ : ∃ l3 : Int, l2 - (manyL t.e.kids : Int) = l3 := ⟨_, rfl⟩
  rw [hl3] at HF n3 ⊢
  clear HR p1 g4 g1 hl3
  go_wp2
  go_ret
  exact ⟨ret_int HF.out, G4⟩

set_option maxHeartbeats 4000000 in
theorem szTransS_any (w : World) (lo hi : Nat) (v : Value) (ts : List TransD) (left : Int) (h : TR w lo hi v ts) (hhi : hi ≤ w.heap.size) (h1 : 0 ≤ left) (h2 : left ≤ 1048576) :
    Calls Tryz.prog 52 #[v, .int .i64 left] w fun e w' => e = .returned (.int .i64 (if left < manyT ts then -1 else left - manyT ts)) ∧ Below w.heap.size w w' := by
  obtain ⟨ad, cap, rfl, hc1, hc2⟩ := h.shape
  have hmx : ts.length ≤ 9223372036854775807 := by unfold maxLen at hc2; omega
  have hlm := length_le_manyT ts
  obtain ⟨r, hr0⟩ : ∃ r : Int, (if left < (manyT ts : Int) then -1 else left - (manyT ts : Int)) = r := ⟨_, rfl⟩
  rw [hr0]
  have HA : Hid ((if left < (manyT ts : Int) then -1 else left - (manyT ts : Int)) = r) := hr0
  clear hr0
  have HK : Hid (TR w lo hi (.slice ad ts.length cap) ts) := h
  clear h
  by_cases hl : left - ts.length < 0
  · obtain rfl : r = -1 := by have := HA.out; rw [if_pos (by omega)] at this; exact this.symm
    clear HA
    go_enter Tryz.func52, Tryz.ntmps52
    go_wp2
    go_ret
    exact ⟨rfl, Below.refl _ _⟩
  · have HM : Hid (ts.length ≤ manyT ts) := hlm
    clear hlm
    go_enter Tryz.func52, Tryz.ntmps52
    go_wp2_with fail
    go_loopw [1, 5] (fun l i wr => ∃ j : Nat, j ≤ ts.length ∧ l = .int .i64 (left - ts.length - (manyT (ts.take j) - j)) ∧ 0 ≤ left - ts.length - ((manyT (ts.take j) : Int) - j) ∧ i = .int .i64 j ∧ Below w.heap.size w wr) (fun _ i _ => ts.length - (intOf i).toNat)
    case atStart => exact ⟨0, Nat.zero_le _, by simp [manyT], by simp [manyT]; omega, rfl, Below.refl _ _⟩
    case round =>
      obtain ⟨j, hj, rfl, hnn, rfl, hb⟩ := hrel
      by_cases hlt : j < ts.length
      · obtain ⟨t, he⟩ : ∃ t, ts[j]? = some t := ⟨ts[j], List.getElem?_eq_getElem hlt⟩
        obtain ⟨b, off, cap', x, y, s, hv, hb1, hb2, h5, hk⟩ := HK.out.at_ he
        simp only [Value.slice.injEq, true_and] at hv
        obtain ⟨rfl, rfl⟩ := hv
        have hsuc := manyT_take_succ he
        have hrest := manyT_rest ts (j + 1) hlt
        have htk := take_le_manyT ts j hj
        obtain ⟨q, hq⟩ : ∃ q : Int, left - ts.length - ((manyT (ts.take j) : Int) - j) = q := ⟨_, rfl⟩
        rw [hq] at hnn ⊢
        have hz := szTrans_any wr lo hi x y s t q (hk.under hb hhi) (Nat.le_trans hhi hb.size) hnn (by omega)
        have hc : CV wr b (off + j * 7) (transC x y t.e s) := h5.kept (hb.block b (by omega))
        clear hk h5
        by_cases hr : q < (t.many : Int)
        · rw [if_pos hr] at hz
          have HR : Hid (left < (manyT ts : Int)) := by show left < (manyT ts : Int); omega
          clear hsuc hrest htk hq
          go_wp2_with (refine wpList_loadG Tryz.isAgg203 Tryz.sizeOf203 _ rfl rfl rfl rfl hc ?_)
          refine hz.mono ?_
          rintro e1 w1 ⟨rfl, g1⟩
          have G1 := hb.trans (g1.mono hb.size)
          clear g1 hc
          go_wp2
          go_ret
          exact ⟨ret_int (by have := HA.out; rw [if_pos HR.out] at this; exact this), G1⟩
        · rw [if_neg hr] at hz
          have HQ : Hid (q - t.many = left - ts.length - ((manyT (ts.take (j + 1)) : Int) - ((j + 1 : Nat) : Int))) := by show q - (t.many : Int) = _; omega
          have hr' : ¬ (q - (t.many : Int) < 0) := by omega
          clear hsuc hrest htk hq
          go_wp2_with (refine wpList_loadG Tryz.isAgg203 Tryz.sizeOf203 _ rfl rfl rfl rfl hc ?_)
          refine hz.mono ?_
          rintro e1 w1 ⟨rfl, g1⟩
          have G1 := hb.trans (g1.mono hb.size)
          clear g1 hc
          go_wp2
          go_roundw
          case rel => exact ⟨j + 1, by omega, by rw [HQ.out], by rw [← HQ.out]; omega, by go_num, G1⟩
          case measure => simp [intOf]; omega
      · obtain rfl : j = ts.length := by omega
        rw [List.take_length] at hnn ⊢
        have HR : Hid (left - ts.length - ((manyT ts : Int) - ts.length) = r) := by show _ = _; rw [← HA.out, if_neg (by omega)]; omega
        obtain ⟨q, hq⟩ : ∃ q : Int, left - ts.length - ((manyT ts : Int) - ts.length) = q := ⟨_, rfl⟩
        rw [hq] at HR hnn ⊢
        clear hq
        go_wp2
        go_ret
        exact ⟨ret_int HR.out, hb⟩

theorem szActS_any (w : World) (lo hi : Nat) (v : Value) (ps : List ActD) (left : Int) (h : GR actE w lo hi v ps) (hl : 0 ≤ left) (hl' : left ≤ 1048576) :
    Calls Tryz.prog 53 #[v, .int .i64 left] w fun e w' => e = .returned (.int .i64 (if left < ps.length then -1 else left - ps.length)) ∧ w' = w := by
  obtain ⟨a, cap, rfl, h1, h2⟩ := h.shape
  clear h
  unfold maxLen at h2
  by_cases h : left < ps.length
  · rw [if_pos h]
    go_enter Tryz.func53, Tryz.ntmps53
    go_wp2
    go_ret
    exact ⟨rfl, rfl⟩
  · rw [if_neg h]
    go_enter Tryz.func53, Tryz.ntmps53
    go_wp2
    go_ret
    exact ⟨rfl, rfl⟩

set_option maxHeartbeats 4000000 in
theorem szChart_any (w : World) (lo hi : Nat) (v : Value) (c : ChartD) (left : Int) (h : HIc w lo hi v c) (hhi : hi ≤ w.heap.size) (hl : 0 ≤ left) (hl' : left ≤ 1048576) :
    Calls Tryz.prog 10 #[v, .int .i64 left] w fun e w' => e = .returned (.int .i64 (if left < c.many then -1 else left - c.many)) ∧ Below w.heap.size w w' := by
  obtain ⟨r, hr⟩ : ∃ r : Int, (if left < (c.many : Int) then -1 else left - (c.many : Int)) = r := ⟨_, rfl⟩
  rw [hr]
  have HM : c.many = manyT c.ts + c.acts.length := rfl
  rw [HM] at hr
  have HR : Hid ((if left < ((manyT c.ts + c.acts.length : Nat) : Int) then -1 else left - ((manyT c.ts + c.acts.length : Nat) : Int)) = r) := hr
  clear hr HM
  obtain ⟨va, vb, rfl, hA, hB⟩ := h
  obtain ⟨ad, cap, rfl, _, _⟩ := hA.shape
  obtain ⟨ad', cap', rfl, _, _⟩ := hB.shape
  have HW : Hid (TR w lo hi (.slice ad c.ts.length cap) c.ts ∧ GR actE w lo hi (.slice ad' c.acts.length cap') c.acts) := ⟨hA, hB⟩
  clear hA hB
  go_enter Tryz.func10, Tryz.ntmps10
  go_wp2_with (refine wpList_boxG (vs := [.int .i64 c.steps, .slice ad c.ts.length cap, .slice ad' c.acts.length cap']) rfl _ rfl rfl ?_)
  intro u1 g1 p1 s1
  have c0 : u1.cell? ⟨w.heap.size, 1, none⟩ = some (.slice ad c.ts.length cap) := p1.c 1 _ rfl
  go_wp2_with fail
  clear c0
  refine (szTransS_any _ lo hi _ c.ts left (HW.out.1.under g1 hhi) (by omega) hl hl').mono ?_
  by_cases q1 : left < (manyT c.ts : Int)
  · rw [if_pos q1]
    rintro e2 u2 ⟨rfl, g2⟩
    have G2 := g1.trans (g2.mono (by omega))
    have HF : Hid (r = -1) := by show r = -1; rw [← HR.out, if_pos (by omega)]
    clear HR p1 g1 g2
    go_wp2
    go_ret
    exact ⟨ret_int HF.out.symm, G2⟩
  rw [if_neg q1]
  rintro e2 u2 ⟨rfl, g2⟩
  have G2 := g1.trans (g2.mono (by omega))
  have p2 := p1.below g2 (by omega)
  clear p1 g1 g2
  obtain ⟨l1, hl1⟩ : ∃ l1 : Int, left - (manyT c.ts : Int) = l1 := ⟨_, rfl⟩
  rw [hl1]
  have n1 : ¬ (l1 < 0) := by omega
  have c1 : u2.cell? ⟨w.heap.size, 2, none⟩ = some (.slice ad' c.acts.length cap') := p2.c 2 _ rfl
  go_wp2_with fail
  clear c1
  refine (szActS_any _ lo hi _ c.acts l1 (HW.out.2.under G2 hhi) (by omega) (by omega)).mono ?_
  by_cases q2 : l1 < (c.acts.length : Int)
  · rw [if_pos q2]
    rintro e3 u3 ⟨rfl, rfl⟩
    have HF : Hid (r = -1) := by show r = -1; rw [← HR.out, if_pos (by omega)]
    clear HR p2
    go_wp2
    go_ret
    exact ⟨ret_int HF.out.symm, G2⟩
  rw [if_neg q2]
  rintro e3 u3 ⟨rfl, rfl⟩
  have HF : Hid (l1 - (c.acts.length : Int) = r) := by show _ = r; rw [← HR.out, if_neg (by omega)]; omega
  have n2 : ¬ (l1 - (c.acts.length : Int) < 0) := by omega
  obtain ⟨l2, hl2⟩ : ∃ l2 : Int, l1 - (c.acts.length : Int) = l2 := ⟨_, rfl⟩
  rw [hl2] at HF n2 ⊢
  clear HR p2 hl2
  go_wp2
  go_ret
  exact ⟨ret_int HF.out, G2⟩
end Go.Proofs.YtaoiookfmgpmkaaGreatDoor
